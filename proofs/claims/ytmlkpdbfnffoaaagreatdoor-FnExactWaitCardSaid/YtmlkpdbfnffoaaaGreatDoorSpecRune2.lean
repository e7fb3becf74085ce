import Derived.Test.YtmlkpdbfnffoaaaGreatDoorU8s
import Derived.Deep.SlicePairs
import Derived.Deep.Strs
import Derived.Lib.ItoaNum
import Derived.Lib.Join
import Derived.Laws.Rows
import Derived.Laws.Tables
import Derived.OwnWalk
import Derived.Test.YtmlkpdbfnffoaaaGreatDoorAppRune
set_option maxHeartbeats 2000000
namespace Go.Proofs.YtmlkpdbfnffoaaaGreatDoor
open Go.RowKit
theorem zjg (ao : Option Addr) (n cap : Nat) (l : Int) (w : World) (h0 : 0 ≤ l) (h1 : l ≤ 4398046511104) (hn : (n : Int) ≤ 9223372036854775807) :
  Calls Tryz.prog 48 #[.slice ao n cap, .int .i64 l] w fun e w' => e = .returned (.int .i64 (if l < (n : Int) then -1 else l - (n : Int))) ∧ w' = w := by
 by_cases h : l < (n : Int)
 ·rw [if_pos h]
  go_enter Tryz.func48, Tryz.ntmps48
  go_wp2
  go_ret
  exact ⟨rfl, rfl⟩
 ·rw [if_neg h]
  go_enter Tryz.func48, Tryz.ntmps48
  go_wp2
  go_ret
  exact ⟨rfl, rfl⟩
def SzR (l : Int) (n : Nat) (r : Int) : Prop := (r = -1 ∧ l < (n : Int)) ∨ (r = l - (n : Int) ∧ 0 ≤ r)
end Go.Proofs.YtmlkpdbfnffoaaaGreatDoor

namespace Go.Proofs.YtmlkpdbfnffoaaaGreatDoor
open Go.ChangeShapes Go.WideShapes Go.ChangeAt Go.RowKit Go.Deep
theorem zg1 {W : World} {a : Addr} {v : Value} (h : W.cell? (a.add 0) = some v) : a = ⟨a.block, a.off, none⟩ := by
 obtain ⟨b, off, spot⟩ := a
 have hspot : spot = none := by simpa [Addr.add] using World.cell?_spot h
 subst hspot
 rfl
theorem zkW {H : Type} {enc : TypeId × Value → H} {P : Program} {W : World} {t e : TypeId} {k : IntKind} {fuel : Nat} {v : Value} {x : DataW H × List MemPlace} (ht : P.underlying t = some (.slice e)) (he : P.underlying e = some (.int k)) (hc : P.cellsOf e = 1)
  (h : DataW.trod enc P W 0 (fun _ => true) true fuel t [v] = some x) : ∃ zs, zag W k v zs ∧ (∀ n ∈ zs, (Lit.int k n).wf = true) ∧ zs.length ≤ maxLen := by
 rcases open_ints ht he hc h with ⟨hcs, _⟩ | ⟨a, len', cap', zs, hcs, _, hl, hm, hz, hx, hcell, hwz⟩
 ·simp at hcs
  subst hcs
  exact ⟨[], ⟨none, 0, rfl, Nat.le_refl _, fun h => by simp at h⟩, fun n hn => by simp at hn, by simp⟩
 ·simp at hcs
  subst hcs
  simp at hz
  have hlen : (zs.take len').length = len' := by simp; omega
  refine ⟨zs.take len', ⟨some a, cap', by rw [hlen], by omega, fun hp => ?_⟩, fun n hn => hwz n (List.mem_of_mem_take hn), by omega⟩
  obtain ⟨b, off, rfl, hc2⟩ := ints_at hcell (by omega)
  refine ⟨b, off, rfl, fun j hj => ?_⟩
  rw [hlen] at hj
  rw [hc2 j (by omega)]
  simp [at0, hj, List.getD]
theorem zdj {H : Type} {enc : TypeId × Value → H} {P : Program} {W : World} {t e : TypeId} {fuel : Nat} {v : Value} {x : DataW H × List MemPlace} (ht : P.underlying t = some (.slice e)) (he : P.underlying e = some .string) (hc : P.cellsOf e = 1)
  (h : DataW.trod enc P W 0 (fun _ => true) true fuel t [v] = some x) : ∃ (n : Nat) (tx : Nat → ByteArray), zah W v n (fun j => .string (tx j)) ∧ n ≤ maxLen ∧ ∀ j, j < n → (tx j).size ≤ maxLen := by
 rcases open_strs ht he hc h with ⟨hcs, _⟩ | ⟨a, len, cap, m, Sx, hcs, _, hl, hm, hmm, _, hx⟩
 ·simp at hcs
  subst hcs
  exact ⟨0, fun _ => { data := #[] }, ⟨none, 0, rfl, Nat.le_refl _, fun h => by omega⟩, by simp, fun j hj => by omega⟩
 ·simp at hcs
  subst hcs
  simp at hmm
  refine ⟨len, Sx, ⟨some a, cap, rfl, hl, fun hp => ?_⟩, by omega, fun j hj => (hx j (by omega)).2⟩
  have ha := zg1 (by simpa using (hx 0 (by omega)).1)
  refine ⟨a.block, a.off, by rw [← ha], fun j hj => ?_⟩
  have c0 := (hx j (by omega)).1
  rw [ha, Addr.add_lit] at c0
  exact c0
end Go.Proofs.YtmlkpdbfnffoaaaGreatDoor

namespace Go.Proofs.YtmlkpdbfnffoaaaGreatDoor
open Go.RowKit
def baL (s : ByteArray) : List Int := s.data.toList.map fun b => ((b.toNat : Nat) : Int)
theorem zay (s : ByteArray) : zv (baL s) = s := by
 apply WideShapes.bytes_inj
 rw [zbq, baL, List.map_map]
 conv => rhs; rw [← List.map_id s.data.toList]
 apply List.map_congr_left
 intro b _
 simp
theorem zar (s : ByteArray) : (baL s).length = s.size := by simp [baL]
theorem zau (s : ByteArray) : zaj (baL s) := by
 intro n hn
 obtain ⟨b, _, rfl⟩ := List.mem_map.1 hn
 have := b.toNat_lt
 omega
theorem zaj.app {xs ys : List Int} (hx : zaj xs) (hy : zaj ys) : zaj (xs ++ ys) := by
 intro n hn
 rcases List.mem_append.1 hn with h | h
 ·exact hx n h
 ·exact hy n h
theorem ziY {xs : List Int} (h : zaj xs) : baL (zv xs) = xs := zgG (zau _) h (zay _)
def zbC (tx : Nat → ByteArray) : Nat → List Int
 | 0 => []
 | i + 1 => zbC tx i ++ ((if i = 0 then [] else [13, 10]) ++ baL (tx i))
def za4 (tx : Nat → ByteArray) : Nat → Nat
 | 0 => 0
 | i + 1 => za4 tx i + (tx i).size
theorem zfX (tx : Nat → ByteArray) : ∀ n, zaj (zbC tx n)
 | 0 => by intro x hx; simp [zbC] at hx
 | n + 1 => by
  refine (zfX tx n).app (zaj.app ?_ (zau _))
  intro x hx
  split at hx
  ·simp at hx
  ·simp at hx; omega
theorem zcG (tx : Nat → ByteArray) : ∀ n, (zbC tx n).length ≤ za4 tx n + 2 * n
 | 0 => by simp [zbC]
 | n + 1 => by
  have := zcG tx n
  have h2 : (if n = 0 then ([] : List Int) else [13, 10]).length ≤ 2 := by split <;> simp
  simp only [zbC, za4, List.length_append, zar]
  omega
theorem zk6 (tx : Nat → ByteArray) (n : Nat) : ∀ k, k ≤ n → za4 tx k ≤ za4 tx n := by
 have aux : ∀ m k, za4 tx k ≤ za4 tx (k + m) := by
  intro m
  induction m with
  | zero => intro k; exact Nat.le_refl _
  | succ m ih => intro k; have := ih k; rw [← Nat.add_assoc, za4]; omega
 intro k hk
 have := aux (n - k) k
 rwa [show k + (n - k) = n by omega] at this
theorem zgT {α : Type} (sep : List α) : ∀ (xs : List (List α)) (y : List α), sep.intercalate (xs ++ [y]) = if xs = [] then y else sep.intercalate xs ++ sep ++ y
 | [], y => by simp [List.intercalate]
 | [x], y => by simp [List.intercalate]
 | x :: x' :: xs, y => by
  have ih := zgT sep (x' :: xs) y
  simp only [List.intercalate] at ih ⊢
  simp only [List.cons_append, List.intersperse, List.flatten_cons] at ih ⊢
  simp at ih ⊢
  rw [ih]
theorem zhL (tx : Nat → ByteArray) : ∀ n : Nat, (Lib.join (((List.range n).map tx).map (fun x => x.data.toList)) [13, 10]).map (fun b => ((b.toNat : Nat) : Int)) = zbC tx n
 | 0 => by simp [Lib.join, zbC, List.intercalate]
 | n + 1 => by
  have ih := zhL tx n
  unfold Lib.join at ih ⊢
  rw [List.range_succ, List.map_append, List.map_append, List.map_cons, List.map_nil, List.map_cons, List.map_nil, zgT]
  by_cases h : n = 0
  ·subst h
   simp [zbC, baL]
  ·rw [if_neg (by simp [h]), List.map_append, List.map_append, ih, zbC, if_neg h, List.append_assoc]
   rfl
theorem dec_dg : ∀ u : Nat, 0 < u → (Lib.decDigits u).map (fun b => ((b.toNat : Nat) : Int)) = dg u := by
 intro u
 induction u using Nat.strongRecOn with
 | _ u ih =>
  intro h
  rw [zfd u h, Lib.decDigits]
  by_cases h1 : u < 10
  ·rw [dif_pos h1, show u / 10 = 0 by omega]
   simp [dg, dgs, Nat.mod_eq_of_lt h1]
   omega
  ·rw [dif_neg h1, List.map_append, ih (u / 10) (by omega) (by omega)]
   simp
   omega
theorem zk0 (n : Int) (h : 0 < n) : (Lib.itoa n).map (fun b => ((b.toNat : Nat) : Int)) = dg n.toNat := by
 rw [Lib.itoa, if_neg (by omega)]
 exact dec_dg _ (by omega)
theorem zmA : ∀ u : Nat, zaj (dg u) := by
 intro u
 induction u using Nat.strongRecOn with
 | _ u ih =>
  by_cases h : u = 0
  ·subst h; intro x hx; simp [dg, dgs] at hx
  ·rw [zfd u (by omega)]
   refine (ih (u / 10) (by omega)).app ?_
   intro x hx
   simp at hx
   omega
theorem zfg : ∀ (k u : Nat), u < 10 ^ k → (dg u).length ≤ k := by
 intro k
 induction k with
 | zero => intro u h; simp at h; subst h; simp [dg, dgs]
 | succ k ih =>
  intro u h
  by_cases h0 : u = 0
  ·subst h0; simp [dg, dgs]
  ·rw [zfd u (by omega)]
   have := ih (u / 10) (by rw [Nat.pow_succ] at h; omega)
   simp; omega
def goL (n c : Int) : List Int := if n ≤ 0 then [] else 27 :: 91 :: (dg n.toNat ++ [c])
theorem zcI (n c : Int) (h0 : 0 ≤ c) (h1 : c ≤ 255) : zaj (goL n c) := by
 unfold goL
 split
 ·intro x hx; simp at hx
 ·intro x hx
  simp at hx
  rcases hx with rfl | rfl | hx | rfl
  ·omega
  ·omega
  ·exact zmA _ x hx
  ·omega
theorem zbo (n c : Int) (h : n ≤ 99999999) : (goL n c).length ≤ 11 := by
 unfold goL
 split
 ·simp
 ·have := zfg 8 n.toNat (by omega)
  simp; omega
def bOk (n : Nat) (row col : Int) : Prop := 0 ≤ row ∧ row < (n : Int) ∧ 0 ≤ col ∧ col < 200
abbrev bOkD (n : Nat) (row col : Int) : Decidable (bOk n row col) := inferInstanceAs (Decidable (0 ≤ row ∧ row < (n : Int) ∧ 0 ≤ col ∧ col < 200))
theorem bOk_t {n : Nat} {row col : Int} (h : bOk n row col) : @decide (bOk n row col) (bOkD n row col) = true := @decide_eq_true _ (bOkD n row col) h
theorem bOk_f {n : Nat} {row col : Int} (h : ¬ bOk n row col) : @decide (bOk n row col) (bOkD n row col) = false := @decide_eq_false _ (bOkD n row col) h
def zbj (n : Nat) (tx : Nat → ByteArray) (row col : Int) : List Int := @ite _ (bOk n row col) (bOkD n row col) (zbC tx n ++ (goL ((n : Int) - 1 - row) 65 ++ goL (col + 1) 71)) []
def zbB (n : Nat) (row col : Int) : List Int := @ite _ (bOk n row col) (bOkD n row col) (13 :: (goL row 65 ++ [27, 91, 74])) []
theorem zgv (n : Nat) (tx : Nat → ByteArray) (row col : Int) (hn : n ≤ 1048576) : (zbj n tx row col).length ≤ za4 tx n + 2 * n + 22 := by
 unfold zbj
 split
 ·rename_i h
  unfold bOk at h
  have h1 := zcG tx n
  have h2 := zbo ((n : Int) - 1 - row) 65 (by omega)
  have h3 := zbo (col + 1) 71 (by omega)
  simp only [List.length_append]; omega
 ·simp
theorem zeE (n : Nat) (row col : Int) (hn : n ≤ 1048576) : (zbB n row col).length ≤ 15 := by
 unfold zbB
 split
 ·rename_i h
  unfold bOk at h
  have h2 := zbo row 65 (by omega)
  simp only [List.length_append, List.length_cons, List.length_nil]; omega
 ·simp
theorem ziP (n : Nat) (row col : Int) : zaj (zbB n row col) := by
 unfold zbB
 split
 ·refine zaj.app (xs := [13]) (fun x hx => ?_) ((zcI _ _ (by omega) (by omega)).app (fun x hx => ?_))
  ·simp at hx; omega
  ·simp at hx; omega
 ·intro x hx; simp at hx
theorem Fr.tr {S : Nat → Prop} {a b c : World} (h : Fr S a b) (k : Fr S b c) : Fr S a c :=
 ⟨k.os.trans h.os, k.tape.trans h.tape, k.output.trans h.output, Nat.le_trans h.size k.size, fun i hi hn => (k.block i (Nat.lt_of_lt_of_le hi h.size) hn).trans (h.block i hi hn)⟩
theorem zcM (v : Value) (n : Nat) (tx : Nat → ByteArray) (l : Int) (w : World) (hv : zah w v n (fun j => .string (tx j))) (h0 : 0 ≤ l) (h1 : l ≤ 4398046511104) (hn : (n : Int) ≤ 9223372036854775807) (hx : ∀ j, j < n → ((tx j).size : Int) ≤ 9223372036854775807) :
  Calls Tryz.prog 25 #[v, .int .i64 l] w fun e w' => ∃ r : Int, e = .returned (.int .i64 r) ∧ SzR l (n + za4 tx n) r ∧ Ext w w' := by
 obtain ⟨ao, ca, rfl, hca, hxa⟩ := hv
 have HX := zi hx
 have HXA := zi hxa
 clear hx hxa
 by_cases hz : l < (n : Int)
 ·go_enter Tryz.func25, Tryz.ntmps25
  go_wp2
  go_ret
  exact ⟨_, rfl, .inl ⟨rfl, by omega⟩, Ext.refl _⟩
 by_cases hz0 : n = 0
 ·subst hz0
  go_enter Tryz.func25, Tryz.ntmps25
  go_wp2
  go_loop [1, 5] (fun a i => a = .int .i64 l ∧ i = .int .i64 0) (fun _ _ => 0)
  case atStart => exact ⟨by go_num, rfl⟩
  case round =>
   obtain ⟨rfl, rfl⟩ := hrel
   go_wp2
   go_ret
   exact ⟨_, rfl, .inr ⟨by simp [za4], h0⟩, Ext.refl _⟩
 ·obtain ⟨b, off, rfl, hc⟩ := (zg HXA) (by omega)
  have HC := zi hc
  clear HXA hc
  go_enter Tryz.func25, Tryz.ntmps25
  go_wp2
  go_loopw [1, 5] (fun a i wr => ∃ (k : Nat), k ≤ n ∧ (0 : Int) ≤ l - (n : Int) - (za4 tx k : Int) ∧ a = .int .i64 (l - (n : Int) - (za4 tx k : Int)) ∧ i = .int .i64 k ∧ Ext w wr) (fun _ i _ => n - (intOf i).toNat)
  case atStart => exact ⟨0, Nat.zero_le _, by simp [za4]; omega, by simp [za4], rfl, Ext.refl _⟩
  case round =>
   obtain ⟨k, hk, hp, rfl, rfl, hext⟩ := hrel
   by_cases hlt : k < n
   ·have g1 := hext.cell ((zg HC) k hlt)
    have bk : (k : Int) < (n : Int) := by omega
    have hm := (zg HX) k hlt
    have hs : Hid (za4 tx (k + 1) = za4 tx k + (tx k).size) := rfl
    have hmn := zk6 tx n (k + 1) (by omega)
    rw [hs.out] at hmn
    obtain ⟨s, hss⟩ : ∃ s, s = za4 tx k := ⟨_, rfl⟩
    rw [← hss] at hs hp hmn ⊢
    clear hss
    by_cases hq : l - (n : Int) - (s : Int) < ((tx k).size : Int)
    ·have hneg : l - (n : Int) - (s : Int) - ((tx k).size : Int) < 0 := by omega
     go_wp2
     go_ret
     exact ⟨_, rfl, .inl ⟨rfl, by omega⟩, hext⟩
    ·have hneg : ¬ l - (n : Int) - (s : Int) - ((tx k).size : Int) < 0 := by omega
     go_wp2
     go_roundw
     case rel => exact ⟨k + 1, by omega, by rw [hs.out]; omega, by rw [hs.out]; go_num, by go_num, hext⟩
     case measure => simp [intOf]; omega
   ·obtain rfl : k = n := by omega
    go_wp2
    go_ret
    exact ⟨_, rfl, .inr ⟨by omega, hp⟩, hext⟩
theorem zgB (v : Value) (n : Nat) (tx : Nat → ByteArray) (w : World) (hv : zah w v n (fun j => .string (tx j))) (hn : n ≤ 1048576) :
  Calls Tryz.prog 33 #[v] w fun e w' => e = .returned (.slice (some ⟨w.heap.size, 0, none⟩) n n) ∧ zaD w' w.heap.size 9 (.slice (some ⟨w.heap.size, 0, none⟩) n n) n (fun j => .string (tx j)) ∧ Ext w w' := by
 obtain ⟨ic, hic, hc0, hc1, hc2⟩ := info_parts zdn
 obtain ⟨ao, ca, rfl, hca, hxa⟩ := hv
 have HXA := zi hxa
 clear hxa
 go_enter Tryz.func33, Tryz.ntmps33
 go_wp2_with (at_make; refine wpList_make_full _ rfl _ _ 28 rfl w.heap.size 9 ic (.string noS) 1 Tryz.underlying28 hic hc0 hc1 _ _ _ _ n rfl rfl rfl rfl (by rw [hc2]; omega) (by unfold maxLen; omega) (Nat.le_refl _) ?_; intro w1 hown hgr)
 have H0 : Hid (zaD w1 w.heap.size 9 (.slice (some ⟨w.heap.size, 0, none⟩) n n) n (fun i => if i < 0 then .string (tx i) else .string noS)) :=
  ⟨_, hown, fun j hj => by simp [madeCells, Value.cells, hj, Nat.mod_one]⟩
 have HG := zi hgr
 clear hown hgr
 go_loopw [4] (fun i wr => ∃ (j : Nat), j ≤ n ∧ i = .int .i64 j ∧ Hid (zaD wr w.heap.size 9 (.slice (some ⟨w.heap.size, 0, none⟩) n n) n (fun i => if i < j then .string (tx i) else .string noS)) ∧ Ext w wr) (fun i _ => n - (intOf i).toNat)
 case atStart => exact ⟨0, Nat.zero_le _, rfl, H0, zg HG⟩
 case round =>
  clear H0 HG
  obtain ⟨j, hj, rfl, HO, hext⟩ := hrel
  by_cases hlt : j < n
  ·obtain ⟨b, off, rfl, hc⟩ := (zg HXA) (by omega)
   have bj : (j : Int) < (n : Int) := by omega
   have g1 := hext.cell (hc j hlt)
   clear hc
   obtain ⟨c0', f0⟩ := (zg HO).cell hlt
   obtain ⟨u0, c0⟩ : ∃ u, wr.cell? ⟨w.heap.size, j, none⟩ = some u := ⟨_, c0'⟩
   have HS := zi (((zg HO).set hlt (.string (tx j))).congr (A' := fun i => if i < j + 1 then .string (tx i) else .string noS) (fun i _ => by
    by_cases e : i = j
    ·subst e; simp
    ·by_cases e2 : i < j
     ·rw [if_neg e, if_pos e2, if_pos (by omega)]
     ·rw [if_neg e, if_neg e2, if_neg (by omega)]))
   clear c0'
   go_wp2
   go_roundw
   case rel => exact ⟨j + 1, by omega, by go_num, HS, hext.setCell (Nat.le_refl _) _⟩
   case measure => simp [intOf]; omega
  ·obtain rfl : j = n := by omega
   have HFIN := zi ((zg HO).congr (A' := fun i => .string (tx i)) (fun i hi => by simp [hi]))
   go_wp2
   go_ret
   exact ⟨rfl, zg HFIN, hext⟩
structure Kd where
 R : World → Value → Prop
 O : World → Nat → (Nat → Prop) → Value → Prop
 rext : ∀ {w w' : World} {v : Value}, R w v → Ext w w' → R w' v
 oext : ∀ {w w' : World} {b : Nat} {S : Nat → Prop} {v : Value}, O w b S v → Ext w w' → O w' b S v
 ofr : ∀ {w w' : World} {b : Nat} {S S' : Nat → Prop} {v : Value}, O w b S v → Fr S' w w' → (∀ g, S g → ¬ S' g) → O w' b S v
 reads : ∀ {w : World} {b : Nat} {S : Nat → Prop} {v : Value}, O w b S v → R w v
 lt : ∀ {w : World} {b : Nat} {S : Nat → Prop} {v : Value}, O w b S v → ∀ g, S g → b ≤ g ∧ g < w.heap.size
def zjz (F : Nat) (K : Kd) : Prop := ∀ (w : World) (a b : Value), K.R w a → K.R w b → Calls Tryz.prog F #[a, b] w fun e w' => e = .returned (.bool true) ∧ Ext w w'
def zd4 (F : Nat) (K : Kd) (M : Int → Kd) (m : Nat) : Prop :=
 ∀ (w : World) (b : Nat) (S : Nat → Prop) (v : Value) (k : Int), K.O w b S v → 0 ≤ k → k ≤ 68719476736 → Calls Tryz.prog F #[v, .int .i64 k] w fun e w' => e = .returned (.int .i64 (k + (m : Int))) ∧ (M k).O w' b S v ∧ Fr S w w'
def zfO (F : Nat) (M : Int → Kd) (m : Nat) : Prop :=
 ∀ (w : World) (v : Value) (k : Int), (M k).R w v → 0 ≤ k → k ≤ 68719476736 → Calls Tryz.prog F #[v, .int .i64 k] w fun e w' => e = .returned (.int .i64 (k + (m : Int))) ∧ Ext w w'
def Tk (n : Nat) : Prop := n = n
theorem Fr.kept {S : Nat → Prop} {w w' : World} {p : Nat} {o : Obj} (h : Fr S w w') (hp : w.heap[p]? = some o) (hS : ¬ S p) : w'.heap[p]? = some o := (h.block p (Array.getElem?_eq_some_iff.1 hp).1 hS).trans hp
theorem zt {w : World} {p : Nat} {o : Obj} (h : w.heap[p]? = some o) : p < w.heap.size := (Array.getElem?_eq_some_iff.1 h).1
def zcz (zs : List Int) : Kd where
 R w v := zag w .u8 v zs
 O w b S v := w.ownsRow b 5 1 v zs.length (zs.map (Value.int .u8)) ∧ ∀ g, S g ↔ v.ownBlock = some g
 rext h e := h.ext e
 oext h e := ⟨e.owns h.1, h.2⟩
 ofr h f d := ⟨f.owns h.1 (fun g hg => d g ((h.2 g).2 hg)), h.2⟩
 reads h := zaf h.1
 lt h g hg := h.1.lt g ((h.2 g).1 hg)
theorem zil {zs : List Int} {w : World} {v : Value} (h : (zcz zs).R w v) : ∃ a c, v = .slice a zs.length c := by
 obtain ⟨a, c, e, _⟩ := h
 exact ⟨a, c, e⟩
theorem zev {zs : List Int} {w : World} {b : Nat} {v : Value} (h : w.ownsRow b 5 1 v zs.length (zs.map (Value.int .u8))) : (zcz zs).O w b (fun g => v.ownBlock = some g) v := ⟨h, fun _ => Iff.rfl⟩
theorem zlG (zs : List Int) (hn : zs.length ≤ 4398046511104) : zjz 13 (zcz zs) := fun w a b ha hb => zeW a b zs w ha hb hn
theorem zjp (zs : List Int) (hn : zs.length ≤ 1099511627776) : zd4 16 (zcz zs) (fun k => zcz (zcy k zs.length)) zs.length := fun w b S v k h h0 h1 => by
 refine (zes b v zs.length _ k w h.1 (by omega) h0 (by omega)).mono ?_
 rintro e w' ⟨rfl, o, f⟩
 have o2 : w'.ownsRow b 5 1 v (zcy k zs.length).length ((zcy k zs.length).map (Value.int .u8)) := by rw [zd5]; exact o
 exact ⟨rfl, ⟨o2, h.2⟩, ((Fr.refl _ w).grown f (fun g hg => (h.2 g).2 hg))⟩
theorem zi6 (n : Nat) (hn : n ≤ 1099511627776) : zfO 19 (fun k => zcz (zcy k n)) n := fun w v k h h0 h1 => zeq v n k w h (by omega) h0 (by omega)
section
variable {P : Program} {w : World}
theorem zdU (t : TypeId) (b : Nat) (T : TypeId) (cs : Array Value) (z : Nat × Nat) (d : TypeDesc) (hg : w.heap[b]? = some (.cells cs T z)) (hu : P.underlying t = some d) (hd : (match d with | .struct _ | .array _ _ => true | _ => false) = true) (hi : (P.info? t).map (·.size) = some cs.size) :
  (Instr.loadAt t (.pointer (some ⟨b, 0, none⟩))).run P w = .ok (.agg cs) w := by
 simp only [Instr.loadAt, Instr.sureAddr, Sem.run_bind, Sem.run_pure, Result.andThen]
 exact run_loadVar_row w b T t cs z d hg hu hd hi
theorem zdM (t : TypeId) (b : Nat) (T : TypeId) (old cs : Array Value) (hg : w.heap[b]? = some (.cells old T (0, 0))) (hi : (P.info? t).map (·.size) = some cs.size) (ho : old.size = cs.size) (h1 : cs.all (·.oneCell') = true) :
  (Instr.storeAt t (.pointer (some ⟨b, 0, none⟩)) (.agg cs)).run P w = .ok () (w.setRow b cs) := by
 simp only [Instr.storeAt, Instr.sureAddr, Sem.run_bind, Sem.run_pure, Result.andThen]
 exact run_storeVar_row w b T t old cs hg hi ho h1
theorem zfS {o : Oper} {a : Act} {K : Act → World → Prop} {Q : Exit → Act → World → Prop} (t : TypeId) (s : Operand) (ho : o.op = .load t s) (b : Nat) (hs : a.eval s = .pointer (some ⟨b, 0, none⟩)) (T : TypeId) (cs : Array Value) (z : Nat × Nat) (d : TypeDesc)
  (hg : w.heap[b]? = some (.cells cs T z)) (hu : P.underlying t = some d) (hd : (match d with | .struct _ | .array _ _ => true | _ => false) = true) (hi : (P.info? t).map (·.size) = some cs.size) (h : K (a.put o.dst (.agg cs)) w) : o.wp P a w K Q := by
 have hr := zdU (P := P) (w := w) t b T cs z d hg hu hd hi
 unfold Oper.wp
 simp [execOp, ho, hs, hr, Result.andThen]
 exact h
theorem zm {ops : Array Oper} {rest : List Oper} {o : Oper} {a : Act} {Q : Exit → Act → World → Prop} (hgd : o.guard = none) (t : TypeId) (s : Operand) (ho : o.op = .load t s) (b : Nat) (hs : a.eval s = .pointer (some ⟨b, 0, none⟩)) (T : TypeId) (cs : Array Value) (z : Nat × Nat) (d : TypeDesc)
  (hg : w.heap[b]? = some (.cells cs T z)) (hu : P.underlying t = some d) (hd : (match d with | .struct _ | .array _ _ => true | _ => false) = true) (hi : (P.info? t).map (·.size) = some cs.size) (h : wpList P ops Q rest (a.put o.dst (.agg cs)) w) : wpList P ops Q (o :: rest) a w :=
 wpList_plain hgd fun _ hK => zfS t s ho b hs T cs z d hg hu hd hi (hK _ _ h)
theorem zaU {ops : Array Oper} {rest : List Oper} {o : Oper} {a : Act} {Q : Exit → Act → World → Prop} (hgd : Region.wanted o (yielded ops a.tmps) = true) (t : TypeId) (s : Operand) (ho : o.op = .load t s) (b : Nat) (hs : a.eval s = .pointer (some ⟨b, 0, none⟩)) (T : TypeId) (cs : Array Value) (z : Nat × Nat) (d : TypeDesc)
  (hg : w.heap[b]? = some (.cells cs T z)) (hu : P.underlying t = some d) (hd : (match d with | .struct _ | .array _ _ => true | _ => false) = true) (hi : (P.info? t).map (·.size) = some cs.size) (h : wpList P ops Q rest (a.put o.dst (.agg cs)) w) : wpList P ops Q (o :: rest) a w :=
 wpList_step fun K hK => by
  rw [if_pos hgd]
  exact zfS t s ho b hs T cs z d hg hu hd hi (hK _ _ h)
theorem zae {a : Act} {o : Oper} (t : TypeId) (s : Operand) (ho : o.op = .load t s) (b : Nat) (hs : a.eval s = .pointer (some ⟨b, 0, none⟩)) (T : TypeId) (cs : Array Value) (z : Nat × Nat) (d : TypeDesc)
  (hg : w.heap[b]? = some (.cells cs T z)) (hu : P.underlying t = some d) (hd : (match d with | .struct _ | .array _ _ => true | _ => false) = true) (hi : (P.info? t).map (·.size) = some cs.size) : (execOp a.eval o).run P w = .ok (Next.value (.agg cs)) w := by
 have hr := zdU (P := P) (w := w) t b T cs z d hg hu hd hi
 simp [execOp, ho, hs, hr, Result.andThen]
theorem zfz (b : Nat) (cs : Array Value) : Fr (fun q => q = b) w (w.setRow b cs) := by
 refine ⟨rfl, rfl, rfl, by simp [World.setRow], fun i hi hn => ?_⟩
 simp only [World.setRow, Array.getElem?_modify]
 rw [if_neg (fun e => hn e.symm)]
theorem zeJ {b : Nat} {old cs : Array Value} {T : TypeId} {z : Nat × Nat} (hg : w.heap[b]? = some (.cells old T z)) : (w.setRow b cs).heap[b]? = some (.cells cs T z) := by
 simp [World.setRow, Array.getElem?_modify, hg]
theorem zy {ops : Array Oper} {rest : List Oper} {o : Oper} {a : Act} {Q : Exit → Act → World → Prop} (hgd : o.guard = none) (t : TypeId) (s x : Operand) (ho : o.op = .store t s x) (hdst : o.dst = none) (b : Nat) (hs : a.eval s = .pointer (some ⟨b, 0, none⟩)) (T : TypeId) (old cs : Array Value) (hx : a.eval x = .agg cs)
  (hg : w.heap[b]? = some (.cells old T (0, 0))) (hi : (P.info? t).map (·.size) = some cs.size) (hso : old.size = cs.size) (h1 : cs.all (·.oneCell') = true)
  (h : ∀ w', w'.heap[b]? = some (.cells cs T (0, 0)) → Fr (fun q => q = b) w w' → wpList P ops Q rest a w') : wpList P ops Q (o :: rest) a w := by
 refine wpList_plain hgd fun _ hK => ?_
 have hr := zdM (P := P) (w := w) t b T old cs hg hi hso h1
 have hk := hK _ _ (h _ (zeJ hg) (zfz b cs))
 unfold Oper.wp
 simp [execOp, ho, hs, hx, hr, Result.andThen]
 simp [Oper.upon]
 rw [hdst]
 exact hk
theorem zad {o : Oper} {a : Act} {K : Act → World → Prop} {Q : Exit → Act → World → Prop} (t : TypeId) (s x : Operand) (ho : o.op = .store t s x) (hdst : o.dst = none) (b : Nat) (hs : a.eval s = .pointer (some ⟨b, 0, none⟩)) (T : TypeId) (old cs : Array Value) (hx : a.eval x = .agg cs)
  (hg : w.heap[b]? = some (.cells old T (0, 0))) (hi : (P.info? t).map (·.size) = some cs.size) (hso : old.size = cs.size) (h1 : cs.all (·.oneCell') = true)
  (h : ∀ w', w'.heap[b]? = some (.cells cs T (0, 0)) → Fr (fun q => q = b) w w' → K a w') : o.wp P a w K Q := by
 have hr := zdM (P := P) (w := w) t b T old cs hg hi hso h1
 have hk := h _ (zeJ hg) (zfz b cs)
 unfold Oper.wp
 simp [execOp, ho, hs, hx, hr, Result.andThen]
 simp [Oper.upon]
 rw [hdst]
 exact hk
end
abbrev noT : ByteArray := { data := #[] }
theorem zdi : (Tryz.prog.info? 132).map (fun i => (i.zero, i.size, i.bytes)) = some (some (.agg #[.string noT, .string noT]), 2, 32) := by kernel_rfl
theorem zjT (s : ByteArray) (h : ByteArray) (w : World) : Calls Tryz.prog 103 #[.agg #[.string s, .string h], .agg #[.string s, .string h]] w fun e w' => e = .returned (.bool true) ∧ Ext w w' := by
 go_enter Tryz.func103, Tryz.ntmps103
 go_wp2
 go_ret
 exact ⟨rfl, ((Ext.refl _).alloc _).alloc _⟩
theorem ziu (va vb : Value) (n : Nat) (tx : Nat → ByteArray) (hf : Nat → ByteArray) (w : World) (ha : zaH w va n (fun j => .string (tx j)) (fun j => .string (hf j))) (hb : zaH w vb n (fun j => .string (tx j)) (fun j => .string (hf j))) (hl : n ≤ 4398046511104) :
  Calls Tryz.prog 63 #[va, vb] w fun e w' => e = .returned (.bool true) ∧ Ext w w' := by
 obtain ⟨ao, ca, rfl, hca, hxa⟩ := ha
 obtain ⟨bo, cb, rfl, hcb, hxb⟩ := hb
 by_cases h0 : n = 0
 ·subst h0
  clear hxa hxb
  go_enter Tryz.func63, Tryz.ntmps63
  go_wp2
  go_loop [5] (fun i => i = .int .i64 0) (fun _ => 0)
  case atStart => rfl
  case round =>
   subst hrel
   go_wp2
   go_ret
   exact ⟨rfl, Ext.refl _⟩
 ·obtain ⟨b1, o1, rfl, h1⟩ := hxa (by omega)
  obtain ⟨b2, o2, rfl, h2⟩ := hxb (by omega)
  clear hxa hxb
  have H1 := zi h1
  have H2 := zi h2
  clear h1 h2
  go_enter Tryz.func63, Tryz.ntmps63
  go_wp2
  go_loopw [5] (fun i w' => ∃ k : Nat, k ≤ n ∧ i = .int .i64 k ∧ Ext w w') (fun i _ => n - (intOf i).toNat)
  case atStart => exact ⟨0, Nat.zero_le _, rfl, Ext.refl _⟩
  case round =>
   obtain ⟨k, hk, rfl, hext⟩ := hrel
   by_cases hlt : k < n
   ·have g1 := hext.cell ((zg H1) k hlt).1
    have g2 := hext.cell ((zg H1) k hlt).2
    have g3 := hext.cell ((zg H2) k hlt).1
    have g4 := hext.cell ((zg H2) k hlt).2
    have bk : (k : Int) < (n : Int) := by omega
    go_wp2
    go_region_held3 (fun W => Ext wr W ∧ W.cell? ⟨b1, o1 + k * 2, none⟩ = some (.string (tx k)) ∧ W.cell? ⟨b1, o1 + k * 2 + 1, none⟩ = some (.string (hf k)) ∧ W.cell? ⟨b2, o2 + k * 2, none⟩ = some (.string (tx k)) ∧ W.cell? ⟨b2, o2 + k * 2 + 1, none⟩ = some (.string (hf k))) (first | exact ⟨(Ext.refl wr).drew, g1, g2, g3, g4⟩ | exact ⟨(Ext.refl wr).drew.trans he', he'.cell g1, he'.cell g2, he'.cell g3, he'.cell g4⟩) (first | (go_at_call 103; refine (zjT _ _ _).mono ?_; rintro e w' ⟨rfl, he'⟩))
    rename_i hS
    have hE := hext.trans hS.1
    clear hS g1 g2 g3 g4
    go_wp2
    go_roundw
    case rel => exact ⟨k + 1, by omega, by go_num, hE⟩
    case measure => simp [intOf]; omega
   ·go_wp2
    go_ret
    exact ⟨rfl, hext⟩
theorem zlQ (a b : Value) (n j : Nat) (hj : j < n) : (madeCells (Value.agg #[a, b]).cells (n * 2)).toList[j * 2]? = some a ∧ (madeCells (Value.agg #[a, b]).cells (n * 2)).toList[j * 2 + 1]? = some b := by
 have e0 : j * 2 % 2 = 0 := by omega
 have e1 : (j * 2 + 1) % 2 = 1 := by omega
 constructor
 ·simp [madeCells, Value.cells, show j * 2 < n * 2 by omega, e0]
 ·simp [madeCells, Value.cells, show j * 2 + 1 < n * 2 by omega, e1]
theorem zlB {w : World} {base : Nat} {T : TypeId} {v : Value} {n : Nat} {a b : Value} (h : w.ownsRow base T 2 v n (madeCells (Value.agg #[a, b]).cells (n * 2)).toList) : zaR w base T v n (fun _ => a) (fun _ => b) :=
 ⟨_, h, fun j hj => zlQ a b n j hj⟩
theorem zj3 (s : ByteArray) (b : ByteArray) (w : World) :
  Calls Tryz.prog 88 #[.agg #[.string s, .string b]] w fun e w' => e = .returned (.agg #[.string s, .string b]) ∧ Ext w w' := by
 go_enter Tryz.func88, Tryz.ntmps88
 go_wp2
 refine bodyPost_ret (v := .agg #[.string s, .string b]) (by simp [results, Tryz.results88, go_sem]) rfl ⟨rfl, ?_⟩
 exact (((Ext.refl _).alloc _).alloc _).alloc _
theorem zjD (v : Value) (n : Nat) (tx : Nat → ByteArray) (hf : Nat → ByteArray) (w : World) (hv : zaH w v n (fun j => .string (tx j)) (fun j => .string (hf j))) (hn : n ≤ 1048576) :
  Calls Tryz.prog 54 #[v] w fun e w' => e = .returned (.slice (some ⟨w.heap.size, 0, none⟩) n n) ∧ zaR w' w.heap.size 132 (.slice (some ⟨w.heap.size, 0, none⟩) n n) n (fun j => .string (tx j)) (fun j => .string (hf j)) ∧ Ext w w' := by
 obtain ⟨ic, hic, hc0, hc1, hc2⟩ := info_parts zdi
 obtain ⟨ao, ca, rfl, hca, hxa⟩ := hv
 have HXA := zi hxa
 clear hxa
 go_enter Tryz.func54, Tryz.ntmps54
 go_wp2_with (at_make; refine wpList_make_full _ rfl _ _ 35 rfl w.heap.size 132 ic (.agg #[.string noT, .string noT]) 2 Tryz.underlying35 hic hc0 hc1 _ _ _ _ n rfl rfl rfl rfl (by rw [hc2]; omega) (by unfold maxLen; omega) (Nat.le_refl _) ?_; intro w1 hown hgr)
 have H0 := zi ((zlB hown).congr (A' := fun i => if i < 0 then .string (tx i) else .string noT) (B' := fun i => if i < 0 then .string (hf i) else .string noT) (fun i _ => ⟨by simp, by simp⟩))
 have HG := zi hgr
 clear hown hgr
 go_loopw [4] (fun i wr => ∃ (j : Nat), j ≤ n ∧ i = .int .i64 j ∧ Hid (zaR wr w.heap.size 132 (.slice (some ⟨w.heap.size, 0, none⟩) n n) n (fun i => if i < j then .string (tx i) else .string noT) (fun i => if i < j then .string (hf i) else .string noT)) ∧ Ext w wr) (fun i _ => n - (intOf i).toNat)
 case atStart => exact ⟨0, Nat.zero_le _, rfl, H0, zg HG⟩
 case round =>
  clear H0 HG
  obtain ⟨j, hj, rfl, HO, hext⟩ := hrel
  by_cases hlt : j < n
  ·obtain ⟨b, off, rfl, hc⟩ := (zg HXA) (by omega)
   have bj : (j : Int) < (n : Int) := by omega
   have g1 := hext.cell (hc j hlt).1
   have g2 := hext.cell (hc j hlt).2
   clear hc
   go_wp2_with fail
   refine (zj3 (tx j) (hf j) wr).mono ?_
   rintro e w2 ⟨rfl, he⟩
   obtain ⟨⟨c0', f0⟩, c1', f1⟩ := ((zg HO).ext he).cell hlt
   obtain ⟨u0, c0⟩ : ∃ u, w2.cell? ⟨w.heap.size, j * 2, none⟩ = some u := ⟨_, c0'⟩
   obtain ⟨u1, c1⟩ : ∃ u, w2.cell? ⟨w.heap.size, j * 2 + 1, none⟩ = some u := ⟨_, c1'⟩
   have HS := zi ((((zg HO).ext he).set hlt (.string (tx j)) (.string (hf j))).congr (A' := fun i => if i < j + 1 then .string (tx i) else .string noT) (B' := fun i => if i < j + 1 then .string (hf i) else .string noT) (fun i _ => by
    by_cases e : i = j
    ·subst e; simp
    ·by_cases e2 : i < j
     ·rw [if_neg e, if_neg e, if_pos e2, if_pos e2, if_pos (by omega), if_pos (by omega)]; exact ⟨rfl, rfl⟩
     ·rw [if_neg e, if_neg e, if_neg e2, if_neg e2, if_neg (by omega), if_neg (by omega)]; exact ⟨rfl, rfl⟩))
   have hE := hext.trans he
   clear c0' c1'
   go_wp2
   go_roundw
   case rel => exact ⟨j + 1, by omega, by go_num, HS, (hE.setCell (Nat.le_refl _) _).setCell (Nat.le_refl _) _⟩
   case measure => simp [intOf]; omega
  ·obtain rfl : j = n := by omega
   have HFIN := zi ((zg HO).congr (A' := fun i => .string (tx i)) (B' := fun i => .string (hf i)) (fun i hi => ⟨by simp [hi], by simp [hi]⟩))
   go_wp2
   go_ret
   exact ⟨rfl, zg HFIN, hext⟩
def tl2 (t h : Nat → ByteArray) : Nat → Nat
 | 0 => 0
 | j + 1 => tl2 t h j + ((t j).size + (h j).size)
theorem zkH (s b : ByteArray) (l : Int) (w : World) (h0 : 0 ≤ l) (h1 : l ≤ 4398046511104) (hn : (s.size : Int) ≤ 9223372036854775807) (hm : (b.size : Int) ≤ 9223372036854775807) :
  Calls Tryz.prog 72 #[.agg #[.string s, .string b], .int .i64 l] w fun e w' => e = .returned (.int .i64 (if l < ((s.size + b.size : Nat) : Int) then -1 else l - ((s.size + b.size : Nat) : Int))) ∧ Ext w w' := by
 by_cases h : l < (s.size : Int)
 ·rw [if_pos (by omega)]
  go_enter Tryz.func72, Tryz.ntmps72
  go_wp2
  go_ret
  exact ⟨rfl, (Ext.refl _).alloc _⟩
 ·have h2 : ¬ l - (s.size : Int) < 0 := by omega
  by_cases h3 : l - (s.size : Int) < (b.size : Int)
  ·rw [if_pos (by omega)]
   go_enter Tryz.func72, Tryz.ntmps72
   go_wp2
   go_ret
   exact ⟨rfl, (Ext.refl _).alloc _⟩
  ·have h4 : ¬ l - (s.size : Int) - (b.size : Int) < 0 := by omega
   rw [if_neg (by omega)]
   have he : Hid (l - ((s.size : Int) + (b.size : Int)) = l - (s.size : Int) - (b.size : Int)) := by show _ = _; omega
   go_enter Tryz.func72, Tryz.ntmps72
   go_wp2
   go_ret
   exact ⟨by rw [he.out]; rfl, (Ext.refl _).alloc _⟩
theorem zi3 (v : Value) (n : Nat) (tx : Nat → ByteArray) (hf : Nat → ByteArray) (l : Int) (w : World) (hv : zaH w v n (fun j => .string (tx j)) (fun j => .string (hf j))) (h0 : 0 ≤ l) (h1 : l ≤ 4398046511104) (hn : (n : Int) ≤ 9223372036854775807) (hx : ∀ j, j < n → ((tx j).size : Int) ≤ 9223372036854775807 ∧ ((hf j).size : Int) ≤ 9223372036854775807) :
  Calls Tryz.prog 47 #[v, .int .i64 l] w fun e w' => ∃ r : Int, e = .returned (.int .i64 r) ∧ SzR l (n + tl2 tx hf n) r ∧ Ext w w' := by
 obtain ⟨ao, ca, rfl, hca, hxa⟩ := hv
 have HX := zi hx
 have HXA := zi hxa
 have hmono : Hid (∀ k, k ≤ n → tl2 tx hf k ≤ tl2 tx hf n) := by
  have aux : ∀ m k, tl2 tx hf k ≤ tl2 tx hf (k + m) := by
   intro m
   induction m with
   | zero => intro k; exact Nat.le_refl _
   | succ m ih => intro k; have := ih k; rw [← Nat.add_assoc, tl2]; omega
  intro k hk
  have := aux (n - k) k
  rwa [show k + (n - k) = n by omega] at this
 clear hx hxa
 by_cases hz : l < (n : Int)
 ·go_enter Tryz.func47, Tryz.ntmps47
  go_wp2
  go_ret
  exact ⟨_, rfl, .inl ⟨rfl, by omega⟩, Ext.refl _⟩
 by_cases hz0 : n = 0
 ·subst hz0
  go_enter Tryz.func47, Tryz.ntmps47
  go_wp2
  go_loop [1, 5] (fun a i => a = .int .i64 l ∧ i = .int .i64 0) (fun _ _ => 0)
  case atStart => exact ⟨by go_num, rfl⟩
  case round =>
   obtain ⟨rfl, rfl⟩ := hrel
   go_wp2
   go_ret
   exact ⟨_, rfl, .inr ⟨by simp [tl2], h0⟩, Ext.refl _⟩
 ·obtain ⟨b, off, rfl, hc⟩ := (zg HXA) (by omega)
  have HC := zi hc
  clear HXA hc
  go_enter Tryz.func47, Tryz.ntmps47
  go_wp2
  go_loopw [1, 5] (fun a i wr => ∃ (k : Nat), k ≤ n ∧ (0 : Int) ≤ l - (n : Int) - (tl2 tx hf k : Int) ∧ a = .int .i64 (l - (n : Int) - (tl2 tx hf k : Int)) ∧ i = .int .i64 k ∧ Ext w wr) (fun _ i _ => n - (intOf i).toNat)
  case atStart => exact ⟨0, Nat.zero_le _, by simp [tl2]; omega, by simp [tl2], rfl, Ext.refl _⟩
  case round =>
   obtain ⟨k, hk, hp, rfl, rfl, hext⟩ := hrel
   by_cases hlt : k < n
   ·have g1 := hext.cell ((zg HC) k hlt).1
    have g2 := hext.cell ((zg HC) k hlt).2
    have bk : (k : Int) < (n : Int) := by omega
    have hm := (zg HX) k hlt
    have hs : Hid (tl2 tx hf (k + 1) = tl2 tx hf k + ((tx k).size + (hf k).size)) := rfl
    have hmn := (zg hmono) (k + 1) (by omega)
    rw [hs.out] at hmn
    obtain ⟨s, hss⟩ : ∃ s, s = tl2 tx hf k := ⟨_, rfl⟩
    rw [← hss] at hs hp hmn ⊢
    clear hss
    have hcon := zi (fun W => zkH (tx k) (hf k) (l - (n : Int) - (s : Int)) W hp (by omega) hm.1 hm.2)
    by_cases hq : l - (n : Int) - (s : Int) < (((tx k).size + (hf k).size : Nat) : Int)
    ·rw [if_pos hq] at hcon
     go_wp2_with fail
     refine ((zg hcon) _).mono ?_
     rintro e w2 ⟨rfl, he⟩
     go_wp2
     go_ret
     exact ⟨_, rfl, .inl ⟨rfl, by omega⟩, hext.trans he⟩
    ·rw [if_neg hq] at hcon
     go_wp2_with fail
     refine ((zg hcon) _).mono ?_
     rintro e w2 ⟨rfl, he⟩
     go_wp2
     go_roundw
     case rel => exact ⟨k + 1, by omega, by rw [hs.out]; omega, by rw [hs.out]; go_num, by go_num, hext.trans he⟩
     case measure => simp [intOf]; omega
   ·obtain rfl : k = n := by omega
    go_wp2
    go_ret
    exact ⟨_, rfl, .inr ⟨by omega, hp⟩, hext⟩
theorem zkC (a b c : ByteArray) (v : Value) (n : Nat) (tx hf : Nat → ByteArray) (w : World) (hv : zaH w v n (fun j => .string (tx j)) (fun j => .string (hf j))) (hn : n ≤ 1048576) :
  Calls Tryz.prog 31 #[.agg #[.string a, .string b, .string c, v]] w fun e w' => e = .returned (.agg #[.string a, .string b, .string c, .slice (some ⟨w.heap.size + 3, 0, none⟩) n n]) ∧ zaR w' (w.heap.size + 3) 132 (.slice (some ⟨w.heap.size + 3, 0, none⟩) n n) n (fun j => .string (tx j)) (fun j => .string (hf j)) ∧ Ext w w' := by
 have HV := zi hv
 obtain ⟨ao, cap, rfl, _, _⟩ := hv
 have hcon := zi (fun W (hW : Ext w W) => zjD (.slice ao n cap) n tx hf W ((zg HV).ext hW) hn)
 go_enter Tryz.func31, Tryz.ntmps31
 go_wp2_with fail
 refine ((zg hcon) _ (by repeat' first | exact Ext.refl _ | refine Ext.alloc ?_ _ | refine Ext.setCell ?_ (by dsimp only; omega) _)).mono ?_
 rintro e w1 ⟨rfl, o1, F1⟩
 obtain ⟨hc, hf'⟩ := F1.rules
 have hz3 : ∀ o1 o2 o3, (((w.alloc o1).alloc o2).alloc o3).heap.size = w.heap.size + 3 := fun o1 o2 o3 => by simp
 rw [hz3] at o1 ⊢
 have hz : w.heap.size + 3 < w1.heap.size := by
  obtain ⟨ys, h1, _⟩ := o1
  exact (h1.lt _ rfl).2
 have a0 : w1.cell? ⟨w.heap.size + 1, 0, none⟩ = some (.string noT) := by rw [hc _ _ (by simp)]; simp [go_sem]
 have a1 : w1.cell? ⟨w.heap.size + 1, 1, none⟩ = some (.string noT) := by rw [hc _ _ (by simp)]; simp [go_sem]
 have a2 : w1.cell? ⟨w.heap.size + 1, 2, none⟩ = some (.string noT) := by rw [hc _ _ (by simp)]; simp [go_sem]
 have a3 : w1.cell? ⟨w.heap.size + 1, 3, none⟩ = some (.slice none 0 0) := by rw [hc _ _ (by simp)]; simp [go_sem]
 have O1 := zi o1
 have E1 : Ext w w1 := Ext.trans ((((Ext.refl w).alloc _).alloc _).alloc _) F1
 clear o1
 go_wp2
 refine bodyPost_ret (v := .agg #[.string a, .string b, .string c, .slice (some ⟨w.heap.size + 3, 0, none⟩) n n]) (by simp [results, Tryz.results31, go_sem, a0, a1, a2, a3]) rfl ⟨rfl, ?_, ?_⟩
 ·obtain ⟨ys, h1, h2⟩ := zg O1
  refine ⟨ys, ?_, h2⟩
  repeat (refine zf ?_ (by simp [Value.ownBlock]) _)
  exact h1
 ·repeat (refine Ext.setCell ?_ (by dsimp only; omega) _)
  exact E1
theorem zjO (a b c : ByteArray) (va vb : Value) (n : Nat) (tx hf : Nat → ByteArray) (w : World) (ha : zaH w va n (fun j => .string (tx j)) (fun j => .string (hf j))) (hb : zaH w vb n (fun j => .string (tx j)) (fun j => .string (hf j))) (hn : n ≤ 4398046511104) :
  Calls Tryz.prog 36 #[.agg #[.string a, .string b, .string c, va], .agg #[.string a, .string b, .string c, vb]] w fun e w' => e = .returned (.bool true) ∧ Ext w w' := by
 have hcon := zi (fun W (hW : Ext w W) => ziu va vb n tx hf W (ha.ext hW) (hb.ext hW) hn)
 obtain ⟨ao, cap, rfl, _, _⟩ := ha
 obtain ⟨bo, cbp, rfl, _, _⟩ := hb
 go_enter Tryz.func36, Tryz.ntmps36
 go_wp2_with fail
 refine ((zg hcon) _ (((Ext.refl _).alloc _).alloc _)).mono ?_
 rintro e w1 ⟨rfl, F1⟩
 go_wp2
 go_ret
 exact ⟨rfl, (((Ext.refl _).alloc _).alloc _).trans F1⟩
def zaL (cs : List (List Int × Int)) : Nat → Nat
 | 0 => 0
 | j + 1 => zaL cs j + (cR cs j).length
set_option maxRecDepth 10000
def txR (xs : List Int) : Nat → List Int
 | 0 => []
 | k + 1 => txR xs k ++ za9 (at0 xs k)
def txT (cs : List (List Int × Int)) : Nat → List Int
 | 0 => []
 | i + 1 => txT cs i ++ txR (cR cs i) (cR cs i).length
theorem zgt (xs : List Int) : ∀ k, (txR xs k).length ≤ 4 * k
 | 0 => by simp [txR]
 | k + 1 => by have := zgt xs k; have := ze0 (at0 xs k); simp [txR]; omega
theorem ziQ (cs : List (List Int × Int)) : ∀ i, (txT cs i).length ≤ 4 * zaL cs i
 | 0 => by simp [txT]
 | i + 1 => by have := ziQ cs i; have := zgt (cR cs i) (cR cs i).length; simp [txT, zaL]; omega
theorem zhQ (cs : List (List Int × Int)) (i : Nat) : ∀ n, i ≤ n → zaL cs i ≤ zaL cs n := by
  intro n
  induction n with
  | zero => intro h; have : i = 0 := by omega
            subst this; exact Nat.le_refl _
  | succ n ih =>
    intro h
    by_cases e : i = n + 1
    · subst e; exact Nat.le_refl _
    · have := ih (by omega); rw [zaL]; omega
theorem znd (r : Int) : za9 r = zbm (if Utf8.valid r = true then r else 65533) := by
 unfold za9
 split
 ·rfl
 ·decide
def zac (cs : List (List Int × Int)) : List Int := txT cs cs.length
theorem ziJ {P : Program} (w : World) (src dst e : TypeId) (hs : P.underlying src = some .string) (hd : P.underlying dst = some (.slice e)) (he : P.underlying e = some (.int .u8)) (zs : List Int) (hz : zaj zs) :
  ∃ cap W', (convert src dst (.string (zv zs))).run P w = .ok (.slice (some ⟨w.heap.size, 0, none⟩) zs.length cap) W' ∧ Ext w W' ∧ W'.heap.size = w.heap.size + 1 ∧
   ∀ j u, (zs.map (Value.int .u8))[j]? = some u → W'.cell? ((⟨w.heap.size, 0, none⟩ : Addr).add j) = some u := by
 have hr := run_bytes_of_string (P := P) w src dst e (zv zs) hs hd he
 rw [zai] at hr
 refine ⟨_, _, hr, ((Ext.refl w).drew.alloc _), by rw [World.size_alloc]; rfl, fun j u hj => ?_⟩
 have hjl : j < zs.length := by
  have := (List.getElem?_eq_some_iff.1 hj).1
  simpa using this
 rw [Addr.add_lit, Nat.zero_add]
 have hc := World.cell?_alloc_mark w.drew (bytesRow (zv zs) (grownCap w zs.length 0 e)) e ((bytesRow (zv zs) (grownCap w zs.length 0 e)).size, (bytesRow (zv zs) (grownCap w zs.length 0 e)).size + 1) j
 have hsz : j < (zv zs).data.size := by
  have : (zv zs).data.size = zs.length := zai zs
  omega
 rw [bytesRow_at _ _ _ hsz] at hc
 refine Eq.trans hc ?_
 have hb := hz.at0 j
 have hg := zcX zs hz j
 have e1 : (zv zs).get! j = (zv zs).data[j] := by
  show (zv zs).data[j]! = _
  rw [getElem!_pos]
 rw [e1] at hg
 rw [hg]
 have e2 : zs[j]? = some (at0 zs j) := zb1 hjl
 simp [e2] at hj
 rw [← hj]
 congr 2
 omega
theorem zch (v : Value) (cs : List (List Int × Int)) (w : World) (hv : zaI w v cs) (hl : cs.length + zaL cs cs.length ≤ 16777216) (hI : ∀ j, j < cs.length → zbv (cR cs j)) :
  Calls Tryz.prog 114 #[v] w fun e w' => e = .returned (.string (zv (zac cs))) ∧ Ext w w' := by
 obtain ⟨i0, hi, hz0, hz1, hz2⟩ := info_parts zbI
 obtain ⟨ra, ao, ca, rfl, hca, hra, hxa⟩ := hv
 have HF : Hid (zac cs = txT cs cs.length) := rfl
 obtain ⟨n, hnn⟩ : ∃ n, n = cs.length := ⟨_, rfl⟩
 rw [← hnn] at hca hra hxa hl hI HF ⊢
 have HA := zi hra
 have HI := zi hI
 have HXA := zi hxa
 clear hra hI hxa hnn
 go_enter Tryz.func114, Tryz.ntmps114
 go_wp2
 go_loopw [3, 4] (fun o i wr => ∃ (k : Nat), k ≤ n ∧ i = .int .i64 k ∧ wr.ownsRow w.heap.size 5 1 o (txT cs k).length ((txT cs k).map (Value.int .u8)) ∧ Ext w wr) (fun _ i _ => n - (intOf i).toNat)
 case atStart => exact ⟨0, Nat.zero_le _, rfl, by simpa [txT] using World.ownsRow_made w #[] 0 (Nat.le_refl _) (by unfold maxLen; omega) (by simp), (Ext.refl _).alloc _⟩
 case round =>
  obtain ⟨k, hk, rfl, hown, hext⟩ := hrel
  by_cases hlt : k < n
  ·obtain ⟨b, off, hao, hc⟩ := (zg HXA) (by omega)
   subst hao
   have HC := zi hc
   have hk2 := zhQ cs (k + 1) n (by omega)
   have hk3 := ziQ cs k
   have hk4 : Hid (zaL cs (k + 1) = zaL cs k + (cR cs k).length) := rfl
   rw [hk4.out] at hk2
   obtain ⟨a2, c2, hrv, hc2, hrx⟩ := (zg HA) k hlt
   have h1 := (hc k hlt).1
   rw [hrv] at h1
   have hII := zi ((zg HI) k hlt)
   obtain ⟨m, hm⟩ : ∃ m, m = (cR cs k).length := ⟨_, rfl⟩
   rw [← hm] at h1 hk2 hc2 hrx
   have HM := zi hm
   have HRX := zi hrx
   clear hc hrx hrv hm
   have bk : (k : Int) < (n : Int) := by omega
   go_wp2
   go_loopw [3, 5] (fun o i wr2 => ∃ (q : Nat), q ≤ m ∧ i = .int .i64 q ∧ wr2.ownsRow w.heap.size 5 1 o (txT cs k ++ txR (cR cs k) q).length ((txT cs k ++ txR (cR cs k) q).map (Value.int .u8)) ∧ Ext w wr2) (fun _ i _ => m - (intOf i).toNat)
   case atStart => exact ⟨0, Nat.zero_le _, rfl, by simpa [txR] using hown, hext⟩
   case round =>
    clear hown hext
    obtain ⟨q, hq, rfl, hown2, hext2⟩ := hrel
    have g1 := hext2.cell h1
    by_cases hlq : q < m
    ·obtain ⟨b3, o3, ha3, hc3⟩ := (zg HRX) (by omega)
     subst ha3
     have g3 := hext2.cell (hc3 q hlq)
     clear hc3
     have bq : (q : Int) < (m : Int) := by omega
     obtain ⟨x, hx⟩ : ∃ x, x = at0 (cR cs k) q := ⟨_, rfl⟩
     have hxb := (zg hII).at0 q
     rw [← hx] at hxb g3
     have hst : Hid (txT cs k ++ txR (cR cs k) (q + 1) = (txT cs k ++ txR (cR cs k) q) ++ za9 x) := by
      show _ = _
      rw [hx, List.append_assoc]; rfl
     have hql := zgt (cR cs k) q
     have hql2 : (txT cs k ++ txR (cR cs k) q).length ≤ 67108864 := by simp; omega
     have henc := znd x
     clear hx
     cases hval : Utf8.valid x
     ·rw [hval] at henc
      have HE : Hid (za9 x = zbm 65533) := henc
      clear henc
      go_wp2_with fail
      refine (zb5 _ _).mono ?_
      rintro e w3 ⟨rfl, rfl⟩
      go_wp2_with fail
      refine (zeB _ _ (by omega) (by omega)).mono ?_
      rintro e w4 ⟨rfl, he4⟩
      rw [← zg HE]
      obtain ⟨capb, w5, hrun, he5, hsz5, hcells⟩ := ziJ (P := Tryz.prog) w4 _ _ _ Tryz.underlying9 Tryz.underlying25 Tryz.underlying5 (za9 x) (zdw x)
      have E5 := (hext2.trans he4).trans he5
      have hown5 := he5.owns (he4.owns hown2)
      have z5 := E5.size
      have el := ze0 x
      have HCE := zi hcells
      clear hcells
      go_wp2_with (at_builtin; go_must (refine wpList_append_own _ rfl _ _ 25 rfl w.heap.size 5 i0 (.int .u8 0) 1 1 Tryz.underlying25 hi hz0 hz1 hz2 rfl (by decide) _ _ _ rfl hown5 ⟨w4.heap.size, 0, none⟩ (za9 x).length capb ((za9 x).map (Value.int .u8)) rfl (by simp) (zg HCE) (ints_oneCell _ _) ?_ ?_ ?_ ?_))
      ·unfold maxLen; omega
      ·omega
      ·omega
      ·intro v' w6 hown' hgrow _
       have hE : Ext w w6 := E5.grown hgrow (fun k hk => (hown5.lt k hk).1)
       have hO : w6.ownsRow w.heap.size 5 1 v' (txT cs k ++ txR (cR cs k) (q + 1)).length ((txT cs k ++ txR (cR cs k) (q + 1)).map (Value.int .u8)) := by
        rw [hst.out]; simpa [Nat.add_assoc] using hown'
       clear hown' hgrow hown5 hown2 hrun
       go_wp2
       go_roundw
       case rel => exact ⟨q + 1, by omega, by go_num, hO, hE⟩
       case measure => simp [intOf]; omega
     ·rw [hval] at henc
      have HE : Hid (za9 x = zbm x) := henc
      have hvb := zcL hval
      clear henc
      go_wp2_with fail
      refine (zb5 _ _).mono ?_
      rintro e w3 ⟨rfl, rfl⟩
      go_wp2_with fail
      refine (zeB _ _ (by omega) (by omega)).mono ?_
      rintro e w4 ⟨rfl, he4⟩
      rw [← zg HE]
      obtain ⟨capb, w5, hrun, he5, hsz5, hcells⟩ := ziJ (P := Tryz.prog) w4 _ _ _ Tryz.underlying9 Tryz.underlying25 Tryz.underlying5 (za9 x) (zdw x)
      have E5 := (hext2.trans he4).trans he5
      have hown5 := he5.owns (he4.owns hown2)
      have z5 := E5.size
      have el := ze0 x
      have HCE := zi hcells
      clear hcells
      go_wp2_with (at_builtin; go_must (refine wpList_append_own _ rfl _ _ 25 rfl w.heap.size 5 i0 (.int .u8 0) 1 1 Tryz.underlying25 hi hz0 hz1 hz2 rfl (by decide) _ _ _ rfl hown5 ⟨w4.heap.size, 0, none⟩ (za9 x).length capb ((za9 x).map (Value.int .u8)) rfl (by simp) (zg HCE) (ints_oneCell _ _) ?_ ?_ ?_ ?_))
      ·unfold maxLen; omega
      ·omega
      ·omega
      ·intro v' w6 hown' hgrow _
       have hE : Ext w w6 := E5.grown hgrow (fun k hk => (hown5.lt k hk).1)
       have hO : w6.ownsRow w.heap.size 5 1 v' (txT cs k ++ txR (cR cs k) (q + 1)).length ((txT cs k ++ txR (cR cs k) (q + 1)).map (Value.int .u8)) := by
        rw [hst.out]; simpa [Nat.add_assoc] using hown'
       clear hown' hgrow hown5 hown2 hrun
       go_wp2
       go_roundw
       case rel => exact ⟨q + 1, by omega, by go_num, hO, hE⟩
       case measure => simp [intOf]; omega
    ·obtain rfl : q = m := by omega
     have hst : Hid (txT cs (k + 1) = txT cs k ++ txR (cR cs k) q) := by rw [zg HM]; rfl
     rw [← hst.out] at hown2
     go_wp2
     go_roundw
     case rel => exact ⟨k + 1, by omega, by go_num, hown2, hext2⟩
     case measure => simp [intOf]; omega
  ·obtain rfl : k = n := by omega
   have hcv := zdF (P := Tryz.prog) wr _ _ _ Tryz.underlying25 Tryz.underlying5 Tryz.underlying9 _ _ (zaf hown)
   rw [← HF.out] at hcv
   go_wp2
   go_ret
   exact ⟨rfl, hext⟩
theorem zcT (v : Value) (cs : List (List Int × Int)) (w : World) (hv : zaI w v cs) (hl : cs.length + zaL cs cs.length ≤ 16777216) (hI : ∀ j, j < cs.length → zbv (cR cs j)) :
  Calls Tryz.prog 255 #[v] w fun e w' => e = .returned (.string (zv (zac cs))) ∧ Ext w w' := by
 obtain ⟨ra, ao, ca, rfl, hca, hra, hxa⟩ := hv
 have HF : Hid (zac cs = txT cs cs.length) := rfl
 obtain ⟨n, hnn⟩ : ∃ n, n = cs.length := ⟨_, rfl⟩
 rw [← hnn] at hca hra hxa hl hI HF ⊢
 have HA := zi hra
 have HI := zi hI
 have HXA := zi hxa
 clear hra hI hxa hnn
 go_enter Tryz.func255, Tryz.ntmps255
 go_wp2
 go_loopw [3, 10] (fun o i wr => ∃ (k : Nat), k ≤ n ∧ i = .int .i64 k ∧ wr.ownsRow w.heap.size 5 1 o (txT cs k).length ((txT cs k).map (Value.int .u8)) ∧ Ext w wr) (fun _ i _ => n - (intOf i).toNat)
 case atStart => exact ⟨0, Nat.zero_le _, rfl, by simpa [txT] using World.ownsRow_nil w w.heap.size 5 1, Ext.refl _⟩
 case round =>
  obtain ⟨k, hk, rfl, hown, hext⟩ := hrel
  by_cases hlt : k < n
  ·obtain ⟨b, off, hao, hc⟩ := (zg HXA) (by omega)
   subst hao
   have hk2 := zhQ cs (k + 1) n (by omega)
   have hk3 := ziQ cs k
   have hk4 : Hid (zaL cs (k + 1) = zaL cs k + (cR cs k).length) := rfl
   rw [hk4.out] at hk2
   obtain ⟨a2, c2, hrv, hc2, hrx⟩ := (zg HA) k hlt
   have h1 := hext.cell (hc k hlt).1
   have h2 := hext.cell (hc k hlt).2
   rw [hrv] at h1
   have hII := zi ((zg HI) k hlt)
   obtain ⟨m, hm⟩ : ∃ m, m = (cR cs k).length := ⟨_, rfl⟩
   rw [← hm] at h1 hk2 hc2 hrx
   have HM := zi hm
   have HRX := zi hrx
   clear hc hrx hrv hm
   have bk : (k : Int) < (n : Int) := by omega
   have hsz := hext.size
   go_wp2
   go_loopw [3, 17] (fun o i wr2 => ∃ (q : Nat), q ≤ m ∧ i = .int .i64 q ∧ wr2.ownsRow w.heap.size 5 1 o (txT cs k ++ txR (cR cs k) q).length ((txT cs k ++ txR (cR cs k) q).map (Value.int .u8)) ∧ Ext w wr2) (fun _ i _ => m - (intOf i).toNat)
   case atStart =>
    refine ⟨0, Nat.zero_le _, rfl, ?_, ?_⟩
    ·rw [show txR (cR cs k) 0 = [] from rfl, List.append_nil]
     exact ((Ext.refl _).alloc _).owns hown
    ·exact hext.alloc _
   case round =>
    clear hown hext h1 h2
    obtain ⟨q, hq, rfl, hown2, hext2⟩ := hrel
    by_cases hlq : q < m
    ·obtain ⟨b3, o3, ha3, hc3⟩ := (zg HRX) (by omega)
     subst ha3
     have g3 := hext2.cell (hc3 q hlq)
     clear hc3
     have bq : (q : Int) < (m : Int) := by omega
     obtain ⟨x, hx⟩ : ∃ x, x = at0 (cR cs k) q := ⟨_, rfl⟩
     have hxb := (zg hII).at0 q
     rw [← hx] at hxb g3
     have hst : Hid (txT cs k ++ txR (cR cs k) (q + 1) = (txT cs k ++ txR (cR cs k) q) ++ za9 x) := by
      show _ = _
      rw [hx, List.append_assoc]; rfl
     have hql := zgt (cR cs k) q
     have hql2 : (txT cs k ++ txR (cR cs k) q).length ≤ 67108864 := by simp; omega
     have z2 := hext2.size
     clear hx
     go_wp2_with fail
     refine (zg2 w.heap.size _ _ _ x _ z2 (by omega) hown2 hxb.1 hxb.2).mono ?_
     rintro e w4 ⟨v', rfl, hown', o, hgrow⟩
     have hE : Ext w w4 := (hext2.alloc o).grown hgrow (fun k hk => (hown2.lt k hk).1)
     have hO : w4.ownsRow w.heap.size 5 1 v' (txT cs k ++ txR (cR cs k) (q + 1)).length ((txT cs k ++ txR (cR cs k) (q + 1)).map (Value.int .u8)) := by
      rw [hst.out]; simpa [Nat.add_assoc] using hown'
     clear hown' hgrow hown2
     go_wp2
     go_roundw
     case rel => exact ⟨q + 1, by omega, by go_num, hO, hE⟩
     case measure => simp [intOf]; omega
    ·obtain rfl : q = m := by omega
     have hst : Hid (txT cs (k + 1) = txT cs k ++ txR (cR cs k) q) := by rw [zg HM]; rfl
     rw [← hst.out] at hown2
     go_wp2
     go_roundw
     case rel => exact ⟨k + 1, by omega, by go_num, hown2, hext2⟩
     case measure => simp [intOf]; omega
  ·obtain rfl : k = n := by omega
   have hcv := zdF (P := Tryz.prog) wr _ _ _ Tryz.underlying25 Tryz.underlying5 Tryz.underlying9 _ _ (zaf hown)
   rw [← HF.out] at hcv
   go_wp2
   go_ret
   exact ⟨rfl, hext⟩
theorem zmt : (Tryz.prog.info? 5).map (fun i => (i.zero, i.size, i.bytes)) = some (some (.int .u8 0), 1, 1) := by kernel_rfl
theorem str_eq {a b : ByteArray} (h : a.toList = b.toList) : a = b := by
 rw [ByteArray.toList_eq, ByteArray.toList_eq] at h
 exact WideShapes.bytes_inj h
theorem zmP {w : World} {bs : List Int} {b off cap : Nat} (i n : Nat) (hc : ∀ j, j < bs.length → w.cell? ⟨b, off + j, none⟩ = some (.int .u8 (at0 bs j))) (h : i + n ≤ bs.length) (hn : n ≤ cap) :
  zag w .u8 (.slice (some ⟨b, off + i, none⟩) n cap) ((bs.drop i).take n) := by
 have hl : ((bs.drop i).take n).length = n := by simp; omega
 refine ⟨some ⟨b, off + i, none⟩, cap, by rw [hl], by omega, fun _ => ⟨b, off + i, rfl, fun j hj => ?_⟩⟩
 rw [hl] at hj
 have := hc (i + j) (by omega)
 rw [← Nat.add_assoc] at this
 rw [this]
 simp [at0, hj]
theorem run_cut {P : Program} (t e : TypeId) (I : TypeInfo) (b off len cap i n : Nat) (ht : P.underlying t = some (.slice (P.elem t))) (he : P.elem t = e) (hi : P.info? e = some I) (hz : I.size = 1) (h : i + n ≤ cap) (h0 : 0 < n) (w : World) :
  (Instr.slice t (.slice (some ⟨b, off, none⟩) len cap) (some (.int .i64 (i : Int))) (some (.int .i64 ((i : Int) + (n : Int)))) none).run P w = .ok (.slice (some ⟨b, off + i, none⟩) n (cap - i)) w := by
 rw [run_slice_lh (P := P) w t _ _ _ ht .i64 .i64 _ _ (by omega) (by omega) (by omega)]
 have e1 : ((i : Int) + (n : Int)).toNat - i = n := by omega
 have e2 : ¬ cap = i := by omega
 simp [sizeOf, typeInfo, he, hi, hz, sliced, e1, e2, Addr.add_lit]
theorem zkv (bs : List Int) (hb : zaj bs) (v : Value) (i : Nat) (w : World) (hv : zag w .u8 v bs) (hi : i < bs.length) (hl : bs.length ≤ 4398046511104) :
  Calls Tryz.prog 105 #[v, .int .i64 i] w fun e w' => e = .returned (.tuple #[.int .i64 (za1 (bs.drop i)).1, .int .i64 (za1 (bs.drop i)).2]) ∧ Ext w w' := by
 have hv0 := hv
 obtain ⟨ao, cap, rfl, hcap, hr⟩ := hv
 obtain ⟨b, off, rfl, hc⟩ := hr (by omega)
 clear hr
 have g0 := hc i (by omega)
 have hbi : (i : Int) < (bs.length : Int) := by omega
 have q0 : at0 (bs.drop i) 0 = at0 bs i := by rw [zbU]; rfl
 have hlen : (bs.drop i).length = bs.length - i := by simp
 obtain ⟨n, hn⟩ : ∃ n, n = zgF (at0 bs i) := ⟨_, rfl⟩
 have h4 : n ≤ 4 := by rw [hn]; unfold zgF; (repeat' split) <;> omega
 by_cases hA : n = 0 ∨ bs.length < i + n
 ·have HF : Hid (za1 (bs.drop i) = (65533, 1)) := zj5 _ (hb.drop i) (by rw [q0, ← hn, hlen]; omega) (by omega)
  have HN : Hid (n = zgF (at0 bs i)) := hn
  clear hn hc q0 hlen
  go_enter Tryz.func105, Tryz.ntmps105
  go_wp2_with fail
  refine (zew _ _).mono ?_
  rw [← HN.out]
  rintro e w1 ⟨rfl, rfl⟩
  rcases hA with hA | hA
  ·subst hA
   go_wp2
   go_ret2
   rw [HF.out]
   exact ⟨rfl, Ext.refl _⟩
  ·by_cases h0 : n = 0
   ·subst h0; omega
   have hz : ((n : Int) == 0) = false := by simp; omega
   have hy : (bs.length : Int) < (i : Int) + (n : Int) := by omega
   go_wp2
   go_ret2
   rw [HF.out]
   exact ⟨rfl, Ext.refl _⟩
 ·obtain ⟨R1, R2, R3⟩ := zlx (bs.drop i) (hb.drop i) n (by rw [q0]; exact hn) (by omega) (by rw [hlen]; omega)
  have HN : Hid (n = zgF (at0 bs i)) := hn
  have hz : ((n : Int) == 0) = false := by simp; omega
  have hy : (i : Int) + (n : Int) ≤ (bs.length : Int) := by omega
  clear hn q0 hlen
  obtain ⟨V, hV⟩ : ∃ V, V = zcc (bs.drop i) n := ⟨_, rfl⟩
  have HV : Hid (V = zcc (bs.drop i) n) := hV
  rw [← hV] at R1 R2 R3
  clear hV
  cases hval : Utf8.valid V
  ·have HF : Hid (za1 (bs.drop i) = (65533, 1)) := R1 hval
   clear R1 R2 R3 hc
   go_enter Tryz.func105, Tryz.ntmps105
   go_wp2_with fail
   refine (zew _ _).mono ?_
   rw [← HN.out]
   rintro e w1 ⟨rfl, rfl⟩
   go_wp2_with fail
   refine (zfR bs hb _ i n _ hv0 (by omega) (by omega) h4 hl).mono ?_
   rw [← HV.out]
   rintro e w2 ⟨rfl, he⟩
   go_wp2_with fail
   go_quiet ((go_at_call 168; exact Calls.quiet_of_same (zb5 _ _)))
   go_wp2
   go_ret2
   rw [HF.out]
   exact ⟨rfl, he.drewN _⟩
  ·have hbd := zcL hval
   have hcut := fun {W : World} (he : Ext w W) => zdF (P := Tryz.prog) W _ _ _ Tryz.underlying25 Tryz.underlying5 Tryz.underlying9 _ _ (zmP (cap := cap - i) i n (fun j hj => he.cell (hc j hj)) (by omega) (by omega))
   have HCUT : Hid (∀ {W : World}, Ext w W → (convert 25 9 (.slice (some ⟨b, off + i, none⟩) n (cap - i))).run Tryz.prog W = .ok (.string (zv ((bs.drop i).take n))) W) := hcut
   clear hcut R1 hc
   obtain ⟨S, hS⟩ : ∃ S, S = zv ((bs.drop i).take n) := ⟨_, rfl⟩
   have HS : Hid (S = zv ((bs.drop i).take n)) := hS
   rw [← hS] at HCUT
   clear hS
   go_enter Tryz.func105, Tryz.ntmps105
   go_wp2_with fail
   refine (zew _ _).mono ?_
   rw [← HN.out]
   rintro e w1 ⟨rfl, rfl⟩
   go_wp2_with fail
   refine (zfR bs hb _ i n _ hv0 (by omega) (by omega) h4 hl).mono ?_
   rw [← HV.out]
   rintro e w2 ⟨rfl, he⟩
   obtain ⟨I0, hI, hI0, hI1, hI2⟩ := info_parts zmt
   have hcv := run_cut (P := Tryz.prog) 25 5 I0 b off bs.length cap i n (by kernel_rfl) (by kernel_rfl) hI hI1 (by omega) (by omega)
   clear hI hI0 hI1 hI2
   have hwr : IntKind.i64.wrap ((i : Int) + (n : Int)) = (i : Int) + (n : Int) := by rw [IntKind.wrap_i64]; omega
   go_wp2_with fail
   go_region_held3 (fun W => Ext w1 W ∧ (convert 25 9 (.slice (some ⟨b, off + i, none⟩) n (cap - i))).run Tryz.prog W = .ok (.string S) W) (first | exact ⟨he.drew, HCUT.out he.drew⟩ | exact ⟨he.trans' he' rfl rfl rfl rfl, HCUT.out (he.trans' he' rfl rfl rfl rfl)⟩) (first | (go_at_call 168; refine (zb5 _ _).mono ?_; rintro e w' ⟨rfl, rfl⟩) | (go_at_call 169; refine (zeB _ _ hbd.1 hbd.2).mono ?_; rintro e w' ⟨rfl, he'⟩))
   have hsame : zv (zbm V) = S ↔ zbm V = (bs.drop i).take n := by
    rw [HS.out]
    exact ⟨zgG (zg0 V hbd.1 (by omega)) (fun x hx => hb x (List.mem_of_mem_drop (List.mem_of_mem_take hx))), fun h => by rw [h]⟩
   have HSAME : Hid (zv (zbm V) = S ↔ zbm V = (bs.drop i).take n) := hsame
   clear hsame
   have HR2 : Hid (¬ zbm V = (bs.drop i).take n → za1 (bs.drop i) = (65533, 1)) := R2 hval
   have HR3 : Hid (zbm V = (bs.drop i).take n → za1 (bs.drop i) = (V, n)) := R3 hval
   clear R2 R3
   go_wp2
   ·have hne : ¬ zv (zbm V) = S := by
     have h0 : (!(zv (zbm V)).toList == S.toList) = true := by assumption
     intro e; rw [e] at h0; simp at h0
    go_ret2
    rw [HR2.out (fun h => hne (HSAME.out.2 h))]
    rename_i hx _
    exact ⟨rfl, hx.1⟩
   ·have heq : zv (zbm V) = S := by
     have h0 : (!(zv (zbm V)).toList == S.toList) = false := by assumption
     exact str_eq (by simpa using h0)
    go_ret2
    rw [HR3.out (HSAME.out.1 heq)]
    rename_i hx _
    exact ⟨rfl, hx.1⟩
end Go.Proofs.YtmlkpdbfnffoaaaGreatDoor
