import Derived.Test.YtjfnieodpdklfaaGreatDoorBaL
import Derived.Lib.ItoaNum
import Derived.Lib.Join
import Derived.Test.YtjfnieodpdklfaaGreatDoorCells
import Derived.Laws.Rows
import Derived.Laws.Tables
import Derived.OwnWalk
import Derived.Deep.RegionLaw
import Derived.Deep.RegionHeld3
import Derived.Lib.TrimByte
namespace Go.Proofs.YtjfnieodpdklfaaGreatDoor
open Go.RowKit

/-- The rows of a block with CR LF between them. -/
def rowsL (tx : Nat → ByteArray) : Nat → List Int
  | 0 => []
  | i + 1 => rowsL tx i ++ ((if i = 0 then [] else [13, 10]) ++ baL (tx i))
/-- The bytes of the first rows together. -/
def slen (tx : Nat → ByteArray) : Nat → Nat
  | 0 => 0
  | i + 1 => slen tx i + (tx i).size
theorem rowsL_bytes (tx : Nat → ByteArray) : ∀ n, Bytes (rowsL tx n)
  | 0 => by intro x hx; simp [rowsL] at hx
  | n + 1 => by
    refine (rowsL_bytes tx n).app (Bytes.app ?_ (baL_bytes _))
    intro x hx
    split at hx
    · simp at hx
    · simp at hx; omega
theorem rowsL_len (tx : Nat → ByteArray) : ∀ n, (rowsL tx n).length ≤ slen tx n + 2 * n
  | 0 => by simp [rowsL]
  | n + 1 => by
    have := rowsL_len tx n
    have h2 : (if n = 0 then ([] : List Int) else [13, 10]).length ≤ 2 := by split <;> simp
    simp only [rowsL, slen, List.length_append, baL_len]
    omega
theorem slen_le (tx : Nat → ByteArray) (n : Nat) : ∀ k, k ≤ n → slen tx k ≤ slen tx n := by
  have aux : ∀ m k, slen tx k ≤ slen tx (k + m) := by
    intro m
    induction m with
    | zero => intro k; exact Nat.le_refl _
    | succ m ih => intro k; have := ih k; rw [← Nat.add_assoc, slen]; omega
  intro k hk
  have := aux (n - k) k
  rwa [show k + (n - k) = n by omega] at this
theorem inter_snoc {α : Type} (sep : List α) : ∀ (xs : List (List α)) (y : List α), sep.intercalate (xs ++ [y]) = if xs = [] then y else sep.intercalate xs ++ sep ++ y
  | [], y => by simp [List.intercalate]
  | [x], y => by simp [List.intercalate]
  | x :: x' :: xs, y => by
    have ih := inter_snoc sep (x' :: xs) y
    simp only [List.intercalate] at ih ⊢
    simp only [List.cons_append, List.intersperse, List.flatten_cons] at ih ⊢
    simp at ih ⊢
    rw [ih]
theorem join_rows (tx : Nat → ByteArray) : ∀ n : Nat, (Lib.join (((List.range n).map tx).map (fun x => x.data.toList)) [13, 10]).map (fun b => ((b.toNat : Nat) : Int)) = rowsL tx n
  | 0 => by simp [Lib.join, rowsL, List.intercalate]
  | n + 1 => by
    have ih := join_rows tx n
    unfold Lib.join at ih ⊢
    rw [List.range_succ, List.map_append, List.map_append, List.map_cons, List.map_nil, List.map_cons, List.map_nil, inter_snoc]
    by_cases h : n = 0
    · subst h
      simp [rowsL, baL]
    · rw [if_neg (by simp [h]), List.map_append, List.map_append, ih, rowsL, if_neg h, List.append_assoc]
      rfl
theorem dec_dg : ∀ u : Nat, 0 < u → (Lib.decDigits u).map (fun b => ((b.toNat : Nat) : Int)) = dg u := by
  intro u
  induction u using Nat.strongRecOn with
  | _ u ih =>
    intro h
    rw [dg_step u h, Lib.decDigits]
    by_cases h1 : u < 10
    · rw [dif_pos h1, show u / 10 = 0 by omega]
      simp [dg, dgs, Nat.mod_eq_of_lt h1]
      omega
    · rw [dif_neg h1, List.map_append, ih (u / 10) (by omega) (by omega)]
      simp
      omega
theorem itoa_dg (n : Int) (h : 0 < n) : (Lib.itoa n).map (fun b => ((b.toNat : Nat) : Int)) = dg n.toNat := by
  rw [Lib.itoa, if_neg (by omega)]
  exact dec_dg _ (by omega)
theorem dg_bytes : ∀ u : Nat, Bytes (dg u) := by
  intro u
  induction u using Nat.strongRecOn with
  | _ u ih =>
    by_cases h : u = 0
    · subst h; intro x hx; simp [dg, dgs] at hx
    · rw [dg_step u (by omega)]
      refine (ih (u / 10) (by omega)).app ?_
      intro x hx
      simp at hx
      omega
theorem dg_short : ∀ (k u : Nat), u < 10 ^ k → (dg u).length ≤ k := by
  intro k
  induction k with
  | zero => intro u h; simp at h; subst h; simp [dg, dgs]
  | succ k ih =>
    intro u h
    by_cases h0 : u = 0
    · subst h0; simp [dg, dgs]
    · rw [dg_step u (by omega)]
      have := ih (u / 10) (by rw [Nat.pow_succ] at h; omega)
      simp; omega
/-- A sequence with a number; nothing where it is not above 0. -/
def goL (n c : Int) : List Int := if n ≤ 0 then [] else 27 :: 91 :: (dg n.toNat ++ [c])
theorem goL_bytes (n c : Int) (h0 : 0 ≤ c) (h1 : c ≤ 255) : Bytes (goL n c) := by
  unfold goL
  split
  · intro x hx; simp at hx
  · intro x hx
    simp at hx
    rcases hx with rfl | rfl | hx | rfl
    · omega
    · omega
    · exact dg_bytes _ x hx
    · omega
theorem goL_len (n c : Int) (h : n ≤ 99999999) : (goL n c).length ≤ 11 := by
  unfold goL
  split
  · simp
  · have := dg_short 8 n.toNat (by omega)
    simp; omega
/-- Whether a block may be drawn. -/
def bOk (n : Nat) (row col : Int) : Prop := 0 ≤ row ∧ row < (n : Int) ∧ 0 ≤ col ∧ col < 200
abbrev bOkD (n : Nat) (row col : Int) : Decidable (bOk n row col) := inferInstanceAs (Decidable (0 ≤ row ∧ row < (n : Int) ∧ 0 ≤ col ∧ col < 200))
theorem bOk_t {n : Nat} {row col : Int} (h : bOk n row col) : @decide (bOk n row col) (bOkD n row col) = true := @decide_eq_true _ (bOkD n row col) h
theorem bOk_f {n : Nat} {row col : Int} (h : ¬ bOk n row col) : @decide (bOk n row col) (bOkD n row col) = false := @decide_eq_false _ (bOkD n row col) h
def paintL (n : Nat) (tx : Nat → ByteArray) (row col : Int) : List Int := @ite _ (bOk n row col) (bOkD n row col) (rowsL tx n ++ (goL ((n : Int) - 1 - row) 65 ++ goL (col + 1) 71)) []
def eraseL (n : Nat) (row col : Int) : List Int := @ite _ (bOk n row col) (bOkD n row col) (13 :: (goL row 65 ++ [27, 91, 74])) []
theorem paintL_len (n : Nat) (tx : Nat → ByteArray) (row col : Int) (hn : n ≤ 1048576) : (paintL n tx row col).length ≤ slen tx n + 2 * n + 22 := by
  unfold paintL
  split
  · rename_i h
    unfold bOk at h
    have h1 := rowsL_len tx n
    have h2 := goL_len ((n : Int) - 1 - row) 65 (by omega)
    have h3 := goL_len (col + 1) 71 (by omega)
    simp only [List.length_append]; omega
  · simp
theorem eraseL_len (n : Nat) (row col : Int) (hn : n ≤ 1048576) : (eraseL n row col).length ≤ 15 := by
  unfold eraseL
  split
  · rename_i h
    unfold bOk at h
    have h2 := goL_len row 65 (by omega)
    simp only [List.length_append, List.length_cons, List.length_nil]; omega
  · simp
theorem paintL_bytes (n : Nat) (tx : Nat → ByteArray) (row col : Int) : Bytes (paintL n tx row col) := by
  unfold paintL
  split
  · exact (rowsL_bytes tx n).app ((goL_bytes _ _ (by omega) (by omega)).app (goL_bytes _ _ (by omega) (by omega)))
  · intro x hx; simp at hx
theorem eraseL_bytes (n : Nat) (row col : Int) : Bytes (eraseL n row col) := by
  unfold eraseL
  split
  · refine Bytes.app (xs := [13]) (fun x hx => ?_) ((goL_bytes _ _ (by omega) (by omega)).app (fun x hx => ?_))
    · simp at hx; omega
    · simp at hx; omega
  · intro x hx; simp at hx
end Go.Proofs.YtjfnieodpdklfaaGreatDoor

namespace Go.Proofs.YtjfnieodpdklfaaGreatDoor
open Go.RowKit

theorem Fr.tr {S : Nat → Prop} {a b c : World} (h : Fr S a b) (k : Fr S b c) : Fr S a c :=
  ⟨k.os.trans h.os, k.tape.trans h.tape, k.output.trans h.output, Nat.le_trans h.size k.size, fun i hi hn => (k.block i (Nat.lt_of_lt_of_le hi h.size) hn).trans (h.block i hi hn)⟩
set_option maxHeartbeats 1000000 in
theorem szStrs_any (v : Value) (n : Nat) (tx : Nat → ByteArray) (l : Int) (w : World) (hv : Row1At w v n (fun j => .string (tx j))) (h0 : 0 ≤ l) (h1 : l ≤ 4398046511104) (hn : (n : Int) ≤ 9223372036854775807) (hx : ∀ j, j < n → ((tx j).size : Int) ≤ 9223372036854775807) :
    Calls Tryz.prog 35 #[v, .int .i64 l] w fun e w' => ∃ r : Int, e = .returned (.int .i64 r) ∧ SzR l (n + slen tx n) r ∧ Ext w w' := by
  obtain ⟨ao, ca, rfl, hca, hxa⟩ := hv
  have HX := hide hx
  have HXA := hide hxa
  clear hx hxa
  by_cases hz : l < (n : Int)
  · go_enter Tryz.func35, Tryz.ntmps35
    go_wp2
    go_ret
    exact ⟨_, rfl, .inl ⟨rfl, by omega⟩, Ext.refl _⟩
  by_cases hz0 : n = 0
  · subst hz0
    go_enter Tryz.func35, Tryz.ntmps35
    go_wp2
    go_loop [1, 5] (fun a i => a = .int .i64 l ∧ i = .int .i64 0) (fun _ _ => 0)
    case atStart => exact ⟨by go_num, rfl⟩
    case round =>
      obtain ⟨rfl, rfl⟩ := hrel
      go_wp2
      go_ret
      exact ⟨_, rfl, .inr ⟨by simp [slen], h0⟩, Ext.refl _⟩
  · obtain ⟨b, off, rfl, hc⟩ := (unhide HXA) (by omega)
    have HC := hide hc
    clear HXA hc
    go_enter Tryz.func35, Tryz.ntmps35
    go_wp2
    go_loopw [1, 5] (fun a i wr => ∃ (k : Nat), k ≤ n ∧ (0 : Int) ≤ l - (n : Int) - (slen tx k : Int) ∧ a = .int .i64 (l - (n : Int) - (slen tx k : Int)) ∧ i = .int .i64 k ∧ Ext w wr) (fun _ i _ => n - (intOf i).toNat)
    case atStart => exact ⟨0, Nat.zero_le _, by simp [slen]; omega, by simp [slen], rfl, Ext.refl _⟩
    case round =>
      obtain ⟨k, hk, hp, rfl, rfl, hext⟩ := hrel
      by_cases hlt : k < n
      · have g1 := hext.cell ((unhide HC) k hlt)
        have bk : (k : Int) < (n : Int) := by omega
        have hm := (unhide HX) k hlt
        have hs : Hid (slen tx (k + 1) = slen tx k + (tx k).size) := rfl
        have hmn := slen_le tx n (k + 1) (by omega)
        rw [hs.out] at hmn
        obtain ⟨s, hss⟩ : ∃ s, s = slen tx k := ⟨_, rfl⟩
        rw [← hss] at hs hp hmn ⊢
        clear hss
        by_cases hq : l - (n : Int) - (s : Int) < ((tx k).size : Int)
        · have hneg : l - (n : Int) - (s : Int) - ((tx k).size : Int) < 0 := by omega
          go_wp2
          go_ret
          exact ⟨_, rfl, .inl ⟨rfl, by omega⟩, hext⟩
        · have hneg : ¬ l - (n : Int) - (s : Int) - ((tx k).size : Int) < 0 := by omega
          go_wp2
          go_roundw
          case rel => exact ⟨k + 1, by omega, by rw [hs.out]; omega, by rw [hs.out]; go_num, by go_num, hext⟩
          case measure => simp [intOf]; omega
      · obtain rfl : k = n := by omega
        go_wp2
        go_ret
        exact ⟨_, rfl, .inr ⟨by omega, hp⟩, hext⟩
set_option maxHeartbeats 1000000 in
theorem toStrs_any (v : Value) (n : Nat) (tx : Nat → ByteArray) (w : World) (hv : Row1At w v n (fun j => .string (tx j))) (hn : n ≤ 1048576) :
    Calls Tryz.prog 39 #[v] w fun e w' => e = .returned (.slice (some ⟨w.heap.size, 0, none⟩) n n) ∧ Own1 w' w.heap.size 9 (.slice (some ⟨w.heap.size, 0, none⟩) n n) n (fun j => .string (tx j)) ∧ Ext w w' := by
  obtain ⟨ic, hic, hc0, hc1, hc2⟩ := info_parts infoStrs
  obtain ⟨ao, ca, rfl, hca, hxa⟩ := hv
  have HXA := hide hxa
  clear hxa
  go_enter Tryz.func39, Tryz.ntmps39
  go_wp2_with (at_make; refine wpList_make_full _ rfl _ _ 28 rfl w.heap.size 9 ic (.string noS) 1 Tryz.underlying28 hic hc0 hc1 _ _ _ _ n rfl rfl rfl rfl (by rw [hc2]; omega) (by unfold maxLen; omega) (Nat.le_refl _) ?_; intro w1 hown hgr)
  have H0 : Hid (Own1 w1 w.heap.size 9 (.slice (some ⟨w.heap.size, 0, none⟩) n n) n (fun i => if i < 0 then .string (tx i) else .string noS)) :=
    ⟨_, hown, fun j hj => by simp [madeCells, Value.cells, hj, Nat.mod_one]⟩
  have HG := hide hgr
  clear hown hgr
  go_loopw [4] (fun i wr => ∃ (j : Nat), j ≤ n ∧ i = .int .i64 j ∧ Hid (Own1 wr w.heap.size 9 (.slice (some ⟨w.heap.size, 0, none⟩) n n) n (fun i => if i < j then .string (tx i) else .string noS)) ∧ Ext w wr) (fun i _ => n - (intOf i).toNat)
  case atStart => exact ⟨0, Nat.zero_le _, rfl, H0, unhide HG⟩
  case round =>
    clear H0 HG
    obtain ⟨j, hj, rfl, HO, hext⟩ := hrel
    by_cases hlt : j < n
    · obtain ⟨b, off, rfl, hc⟩ := (unhide HXA) (by omega)
      have bj : (j : Int) < (n : Int) := by omega
      have g1 := hext.cell (hc j hlt)
      clear hc
      obtain ⟨c0', f0⟩ := (unhide HO).cell hlt
      obtain ⟨u0, c0⟩ : ∃ u, wr.cell? ⟨w.heap.size, j, none⟩ = some u := ⟨_, c0'⟩
      have HS := hide (((unhide HO).set hlt (.string (tx j))).congr (A' := fun i => if i < j + 1 then .string (tx i) else .string noS) (fun i _ => by
        by_cases e : i = j
        · subst e; simp
        · by_cases e2 : i < j
          · rw [if_neg e, if_pos e2, if_pos (by omega)]
          · rw [if_neg e, if_neg e2, if_neg (by omega)]))
      clear c0'
      go_wp2
      go_roundw
      case rel => exact ⟨j + 1, by omega, by go_num, HS, hext.setCell (Nat.le_refl _) _⟩
      case measure => simp [intOf]; omega
    · obtain rfl : j = n := by omega
      have HFIN := hide ((unhide HO).congr (A' := fun i => .string (tx i)) (fun i hi => by simp [hi]))
      go_wp2
      go_ret
      exact ⟨rfl, unhide HFIN, hext⟩
end Go.Proofs.YtjfnieodpdklfaaGreatDoor

namespace Go.Proofs.YtjfnieodpdklfaaGreatDoor
open Go.RowKit

theorem cells_of {W : World} {p : Nat} {cs : Array Value} {T : TypeId} {fz : Nat × Nat} (h : W.heap[p]? = some (.cells cs T fz)) (i : Nat) (x : Value) (hx : cs[i]? = some x) : W.cell? ⟨p, i, none⟩ = some x := by simp [World.cell?, h, hx]
theorem Ext.kept {W W' : World} {p : Nat} {o : Obj} (h : Ext W W') (hp : W.heap[p]? = some o) : W'.heap[p]? = some o := (h.heap (Array.getElem?_eq_some_iff.1 hp).1).trans hp
theorem new_block (w : World) (o : Obj) : (w.alloc o).heap[w.heap.size]? = some o := by unfold World.alloc; simp
end Go.Proofs.YtjfnieodpdklfaaGreatDoor

namespace Go.Proofs.YtjfnieodpdklfaaGreatDoor
open Go.RowKit

/-- A datum as values bear it: how a value reads as it, how one owns it (from a block on, its blocks). -/
structure Kd where
  R : World → Value → Prop
  O : World → Nat → (Nat → Prop) → Value → Prop
  rext : ∀ {w w' : World} {v : Value}, R w v → Ext w w' → R w' v
  oext : ∀ {w w' : World} {b : Nat} {S : Nat → Prop} {v : Value}, O w b S v → Ext w w' → O w' b S v
  ofr : ∀ {w w' : World} {b : Nat} {S S' : Nat → Prop} {v : Value}, O w b S v → Fr S' w w' → (∀ g, S g → ¬ S' g) → O w' b S v
  reads : ∀ {w : World} {b : Nat} {S : Nat → Prop} {v : Value}, O w b S v → R w v
  lt : ∀ {w : World} {b : Nat} {S : Nat → Prop} {v : Value}, O w b S v → ∀ g, S g → b ≤ g ∧ g < w.heap.size
def EqOk (F : Nat) (K : Kd) : Prop := ∀ (w : World) (a b : Value), K.R w a → K.R w b → Calls Tryz.prog F #[a, b] w fun e w' => e = .returned (.bool true) ∧ Ext w w'
def MarkOk (F : Nat) (K : Kd) (M : Int → Kd) (m : Nat) : Prop :=
  ∀ (w : World) (b : Nat) (S : Nat → Prop) (v : Value) (k : Int), K.O w b S v → 0 ≤ k → k ≤ 68719476736 → Calls Tryz.prog F #[v, .int .i64 k] w fun e w' => e = .returned (.int .i64 (k + (m : Int))) ∧ (M k).O w' b S v ∧ Fr S w w'
def HeldOk (F : Nat) (M : Int → Kd) (m : Nat) : Prop :=
  ∀ (w : World) (v : Value) (k : Int), (M k).R w v → 0 ≤ k → k ≤ 68719476736 → Calls Tryz.prog F #[v, .int .i64 k] w fun e w' => e = .returned (.int .i64 (k + (m : Int))) ∧ Ext w w'
theorem Fr.kept {S : Nat → Prop} {w w' : World} {p : Nat} {o : Obj} (h : Fr S w w') (hp : w.heap[p]? = some o) (hS : ¬ S p) : w'.heap[p]? = some o := (h.block p (Array.getElem?_eq_some_iff.1 hp).1 hS).trans hp
theorem lt_of_block {w : World} {p : Nat} {o : Obj} (h : w.heap[p]? = some o) : p < w.heap.size := (Array.getElem?_eq_some_iff.1 h).1
/-- Texts. -/
def strsK (n : Nat) (tx : Nat → ByteArray) : Kd where
  R w v := Row1At w v n (fun j => .string (tx j))
  O w b S v := Own1 w b 9 v n (fun j => .string (tx j)) ∧ ∀ g, S g ↔ v.ownBlock = some g
  rext h e := h.ext e
  oext h e := ⟨h.1.ext e, h.2⟩
  ofr h f d := ⟨h.1.fr f (fun g hg => d g ((h.2 g).2 hg)), h.2⟩
  reads h := h.1.reads
  lt h g hg := h.1.lt g ((h.2 g).1 hg)
theorem strsK_shape {n : Nat} {tx : Nat → ByteArray} {w : World} {v : Value} (h : (strsK n tx).R w v) : ∃ a c, v = .slice a n c := by
  obtain ⟨a, c, e, _⟩ := h
  exact ⟨a, c, e⟩
theorem strsK_own {n : Nat} {tx : Nat → ByteArray} {w : World} {b : Nat} {v : Value} (h : Own1 w b 9 v n (fun j => .string (tx j))) : (strsK n tx).O w b (fun g => v.ownBlock = some g) v := ⟨h, fun _ => Iff.rfl⟩
theorem strsK_eq (n : Nat) (tx : Nat → ByteArray) (hn : n ≤ 4398046511104) : EqOk 26 (strsK n tx) := fun w a b ha hb => eqStringS_same a b n tx w ha hb hn
theorem strsK_mark (n : Nat) (tx : Nat → ByteArray) (hn : n ≤ 1099511627776) : MarkOk 29 (strsK n tx) (fun k => strsK n (fun j => mtx (k + (j : Int)))) n := fun w b S v k h h0 h1 => by
  refine (markStringS_any b v n _ k w h.1 hn h0 (by omega)).mono ?_
  rintro e w' ⟨rfl, o, f⟩
  exact ⟨rfl, ⟨o, h.2⟩, f.mono (fun g hg => (h.2 g).2 hg)⟩
theorem strsK_held (n : Nat) (hn : n ≤ 1099511627776) : HeldOk 32 (fun k => strsK n (fun j => mtx (k + (j : Int)))) n := fun w v k h h0 h1 => heldStringS_any v n k w h hn h0 (by omega)
/-- Bytes. -/
def bytesK (zs : List Int) : Kd where
  R w v := IntsAt w .u8 v zs
  O w b S v := w.ownsRow b 5 1 v zs.length (zs.map (Value.int .u8)) ∧ ∀ g, S g ↔ v.ownBlock = some g
  rext h e := h.ext e
  oext h e := ⟨e.owns h.1, h.2⟩
  ofr h f d := ⟨f.owns h.1 (fun g hg => d g ((h.2 g).2 hg)), h.2⟩
  reads h := ints_of_owns h.1
  lt h g hg := h.1.lt g ((h.2 g).1 hg)
theorem bytesK_shape {zs : List Int} {w : World} {v : Value} (h : (bytesK zs).R w v) : ∃ a c, v = .slice a zs.length c := by
  obtain ⟨a, c, e, _⟩ := h
  exact ⟨a, c, e⟩
theorem bytesK_own {zs : List Int} {w : World} {b : Nat} {v : Value} (h : w.ownsRow b 5 1 v zs.length (zs.map (Value.int .u8))) : (bytesK zs).O w b (fun g => v.ownBlock = some g) v := ⟨h, fun _ => Iff.rfl⟩
theorem bytesK_eq (zs : List Int) (hn : zs.length ≤ 4398046511104) : EqOk 8 (bytesK zs) := fun w a b ha hb => eqByteS_same a b zs w ha hb hn
theorem bytesK_mark (zs : List Int) (hn : zs.length ≤ 1099511627776) : MarkOk 10 (bytesK zs) (fun k => bytesK (mkU8 k zs.length)) zs.length := fun w b S v k h h0 h1 => by
  refine (markByteS_any b v zs.length _ k w h.1 (by omega) h0 (by omega)).mono ?_
  rintro e w' ⟨rfl, o, f⟩
  have o2 : w'.ownsRow b 5 1 v (mkU8 k zs.length).length ((mkU8 k zs.length).map (Value.int .u8)) := by rw [mkU8_len]; exact o
  exact ⟨rfl, ⟨o2, h.2⟩, ((Fr.refl _ w).grown f (fun g hg => (h.2 g).2 hg))⟩
theorem bytesK_held (n : Nat) (hn : n ≤ 1099511627776) : HeldOk 12 (fun k => bytesK (mkU8 k n)) n := fun w v k h h0 h1 => heldByteS_any v n k w h (by omega) h0 (by omega)
end Go.Proofs.YtjfnieodpdklfaaGreatDoor

namespace Go.Proofs.YtjfnieodpdklfaaGreatDoor
open Go.RowKit

section
variable {P : Program} {w : World}
theorem run_loadAt_blk (t : TypeId) (b : Nat) (T : TypeId) (cs : Array Value) (z : Nat × Nat) (d : TypeDesc) (hg : w.heap[b]? = some (.cells cs T z)) (hu : P.underlying t = some d) (hd : (match d with | .struct _ | .array _ _ => true | _ => false) = true) (hi : (P.info? t).map (·.size) = some cs.size) :
    (Instr.loadAt t (.pointer (some ⟨b, 0, none⟩))).run P w = .ok (.agg cs) w := by
  simp only [Instr.loadAt, Instr.sureAddr, Sem.run_bind, Sem.run_pure, Result.andThen]
  exact run_loadVar_row w b T t cs z d hg hu hd hi
theorem run_storeAt_blk (t : TypeId) (b : Nat) (T : TypeId) (old cs : Array Value) (hg : w.heap[b]? = some (.cells old T (0, 0))) (hi : (P.info? t).map (·.size) = some cs.size) (ho : old.size = cs.size) (h1 : cs.all (·.oneCell') = true) :
    (Instr.storeAt t (.pointer (some ⟨b, 0, none⟩)) (.agg cs)).run P w = .ok () (w.setRow b cs) := by
  simp only [Instr.storeAt, Instr.sureAddr, Sem.run_bind, Sem.run_pure, Result.andThen]
  exact run_storeVar_row w b T t old cs hg hi ho h1
/-- A struct is read whole. -/
theorem wp_load_blk {o : Oper} {a : Act} {K : Act → World → Prop} {Q : Exit → Act → World → Prop} (t : TypeId) (s : Operand) (ho : o.op = .load t s) (b : Nat) (hs : a.eval s = .pointer (some ⟨b, 0, none⟩)) (T : TypeId) (cs : Array Value) (z : Nat × Nat) (d : TypeDesc)
    (hg : w.heap[b]? = some (.cells cs T z)) (hu : P.underlying t = some d) (hd : (match d with | .struct _ | .array _ _ => true | _ => false) = true) (hi : (P.info? t).map (·.size) = some cs.size) (h : K (a.put o.dst (.agg cs)) w) : o.wp P a w K Q := by
  have hr := run_loadAt_blk (P := P) (w := w) t b T cs z d hg hu hd hi
  unfold Oper.wp
  simp [execOp, ho, hs, hr, Result.andThen]
  exact h
theorem wpList_load_blk {ops : Array Oper} {rest : List Oper} {o : Oper} {a : Act} {Q : Exit → Act → World → Prop} (hgd : o.guard = none) (t : TypeId) (s : Operand) (ho : o.op = .load t s) (b : Nat) (hs : a.eval s = .pointer (some ⟨b, 0, none⟩)) (T : TypeId) (cs : Array Value) (z : Nat × Nat) (d : TypeDesc)
    (hg : w.heap[b]? = some (.cells cs T z)) (hu : P.underlying t = some d) (hd : (match d with | .struct _ | .array _ _ => true | _ => false) = true) (hi : (P.info? t).map (·.size) = some cs.size) (h : wpList P ops Q rest (a.put o.dst (.agg cs)) w) : wpList P ops Q (o :: rest) a w :=
  wpList_plain hgd fun _ hK => wp_load_blk t s ho b hs T cs z d hg hu hd hi (hK _ _ h)
theorem wpList_load_blk_g {ops : Array Oper} {rest : List Oper} {o : Oper} {a : Act} {Q : Exit → Act → World → Prop} (hgd : Region.wanted o (yielded ops a.tmps) = true) (t : TypeId) (s : Operand) (ho : o.op = .load t s) (b : Nat) (hs : a.eval s = .pointer (some ⟨b, 0, none⟩)) (T : TypeId) (cs : Array Value) (z : Nat × Nat) (d : TypeDesc)
    (hg : w.heap[b]? = some (.cells cs T z)) (hu : P.underlying t = some d) (hd : (match d with | .struct _ | .array _ _ => true | _ => false) = true) (hi : (P.info? t).map (·.size) = some cs.size) (h : wpList P ops Q rest (a.put o.dst (.agg cs)) w) : wpList P ops Q (o :: rest) a w :=
  wpList_step fun K hK => by
    rw [if_pos hgd]
    exact wp_load_blk t s ho b hs T cs z d hg hu hd hi (hK _ _ h)
theorem step_load_blk {ops : Array Oper} {o : Oper} {a : Act} {K : Act → World → Prop} {Q : Exit → Act → World → Prop} {E : Prop} (hgd : o.guard = none) (t : TypeId) (s : Operand) (ho : o.op = .load t s) (b : Nat) (hs : a.eval s = .pointer (some ⟨b, 0, none⟩)) (T : TypeId) (cs : Array Value) (z : Nat × Nat) (d : TypeDesc)
    (hg : w.heap[b]? = some (.cells cs T z)) (hu : P.underlying t = some d) (hd : (match d with | .struct _ | .array _ _ => true | _ => false) = true) (hi : (P.info? t).map (·.size) = some cs.size) (h : K (a.put o.dst (.agg cs)) w) :
    if Region.wanted o (yielded ops a.tmps) = true then Oper.wp P o a w K Q else E := by
  rw [if_pos (by simp [Region.wanted, hgd])]
  exact wp_load_blk t s ho b hs T cs z d hg hu hd hi h
theorem yields_load_blk {a : Act} {o : Oper} (t : TypeId) (s : Operand) (ho : o.op = .load t s) (b : Nat) (hs : a.eval s = .pointer (some ⟨b, 0, none⟩)) (T : TypeId) (cs : Array Value) (z : Nat × Nat) (d : TypeDesc)
    (hg : w.heap[b]? = some (.cells cs T z)) (hu : P.underlying t = some d) (hd : (match d with | .struct _ | .array _ _ => true | _ => false) = true) (hi : (P.info? t).map (·.size) = some cs.size) : (execOp a.eval o).run P w = .ok (Next.value (.agg cs)) w := by
  have hr := run_loadAt_blk (P := P) (w := w) t b T cs z d hg hu hd hi
  simp [execOp, ho, hs, hr, Result.andThen]
theorem setRow_fr (b : Nat) (cs : Array Value) : Fr (fun q => q = b) w (w.setRow b cs) := by
  refine ⟨rfl, rfl, rfl, by simp [World.setRow], fun i hi hn => ?_⟩
  simp only [World.setRow, Array.getElem?_modify]
  rw [if_neg (fun e => hn e.symm)]
theorem setRow_blk {b : Nat} {old cs : Array Value} {T : TypeId} {z : Nat × Nat} (hg : w.heap[b]? = some (.cells old T z)) : (w.setRow b cs).heap[b]? = some (.cells cs T z) := by
  simp [World.setRow, Array.getElem?_modify, hg]
/-- A struct is written whole. -/
theorem wpList_store_blk {ops : Array Oper} {rest : List Oper} {o : Oper} {a : Act} {Q : Exit → Act → World → Prop} (hgd : o.guard = none) (t : TypeId) (s x : Operand) (ho : o.op = .store t s x) (hdst : o.dst = none) (b : Nat) (hs : a.eval s = .pointer (some ⟨b, 0, none⟩)) (T : TypeId) (old cs : Array Value) (hx : a.eval x = .agg cs)
    (hg : w.heap[b]? = some (.cells old T (0, 0))) (hi : (P.info? t).map (·.size) = some cs.size) (hso : old.size = cs.size) (h1 : cs.all (·.oneCell') = true)
    (h : ∀ w', w'.heap[b]? = some (.cells cs T (0, 0)) → Fr (fun q => q = b) w w' → wpList P ops Q rest a w') : wpList P ops Q (o :: rest) a w := by
  refine wpList_plain hgd fun _ hK => ?_
  have hr := run_storeAt_blk (P := P) (w := w) t b T old cs hg hi hso h1
  have hk := hK _ _ (h _ (setRow_blk hg) (setRow_fr b cs))
  unfold Oper.wp
  simp [execOp, ho, hs, hx, hr, Result.andThen]
  simp [Oper.upon]
  rw [hdst]
  exact hk
theorem wp_store_blk {o : Oper} {a : Act} {K : Act → World → Prop} {Q : Exit → Act → World → Prop} (t : TypeId) (s x : Operand) (ho : o.op = .store t s x) (hdst : o.dst = none) (b : Nat) (hs : a.eval s = .pointer (some ⟨b, 0, none⟩)) (T : TypeId) (old cs : Array Value) (hx : a.eval x = .agg cs)
    (hg : w.heap[b]? = some (.cells old T (0, 0))) (hi : (P.info? t).map (·.size) = some cs.size) (hso : old.size = cs.size) (h1 : cs.all (·.oneCell') = true)
    (h : ∀ w', w'.heap[b]? = some (.cells cs T (0, 0)) → Fr (fun q => q = b) w w' → K a w') : o.wp P a w K Q := by
  have hr := run_storeAt_blk (P := P) (w := w) t b T old cs hg hi hso h1
  have hk := h _ (setRow_blk hg) (setRow_fr b cs)
  unfold Oper.wp
  simp [execOp, ho, hs, hx, hr, Result.andThen]
  simp [Oper.upon]
  rw [hdst]
  exact hk
end
theorem run_cells_blk {P : Program} {w : World} {b : Nat} {T : TypeId} {cs : Array Value} {z : Nat × Nat} (n : Nat) (hn : cs.size = n) (hg : w.heap[b]? = some (.cells cs T z)) : (loadCellsFrom ⟨b, 0, none⟩ 0 n #[]).run P w = .ok cs w := by
  subst hn
  have := run_loadCells_list (P := P) w ⟨b, 0, none⟩ cs.toList (fun j v hv => by
    have hadd : (⟨b, 0, none⟩ : Addr).add j = ⟨b, j, none⟩ := by unfold Addr.add; split <;> simp_all
    rw [hadd, cell_of_row _ _ j cs T z hg]
    simpa using hv)
  simpa [loadCells] using this
end Go.Proofs.YtjfnieodpdklfaaGreatDoor

namespace Go.Proofs.YtjfnieodpdklfaaGreatDoor
open Go.RowKit

theorem infoSessionimpl : (Tryz.prog.info? 30).map (·.size) = some 17 := by kernel_rfl
set_option maxRecDepth 10000 in
set_option maxHeartbeats 8000000 in
theorem law_NewSession (s0 : ByteArray) (s1 : Int) (s2 : Int) (q2 : Bool) (w : World)
    (hlen0 : s0.size ≤ 1048576)
    (K0 : Kd) (MK0 : Int → Kd) (mK0 : Nat)
    (K1 : Kd) (MK1 : Int → Kd) (mK1 : Nat)
    (Fit : Prop)
    (hfit : Fit)
    (HS' : Hid (Fit → ∀ (W : World) , Ext w W → Calls Tryz.prog 5 #[.string s0, .int .i64 s1, .int .i64 s2] W fun e w' => ∃ v0 v1, e = .returned (.tuple #[v0, v1, .bool q2]) ∧ K0.R w' v0 ∧ K1.R w' v1 ∧ Ext W w'))
    (HI' : Hid (Fit → ∀ (W : World) , Ext w W → Calls Tryz.prog 6 #[.string s0, .int .i64 s1, .int .i64 s2] W fun e w' => ∃ v0 S0 v1 S1, e = .returned (.tuple #[v0, v1, .bool q2]) ∧ K0.O w' W.heap.size S0 v0 ∧ K1.O w' W.heap.size S1 v1 ∧ (∀ g, S0 g → ¬ S1 g) ∧ Ext W w'))
    (ShK0 : Hid (∀ W u, K0.R W u → ∃ (x : Array Value), u = .agg x ∧ x.size = 17 ∧ x.all (·.oneCell') = true))
    (HEqK0' : Hid (Fit → EqOk 7 K0)) (HMkK0' : Hid (Fit → MarkOk 9 K0 MK0 mK0 ∧ mK0 ≤ 17179869184)) (HHdK0' : Hid (Fit → HeldOk 11 MK0 mK0))
    (ShK1 : Hid (∀ W u, K1.R W u → ∃ (xa : Option Addr) (xn : Nat) (xc : Nat), u = .slice xa xn xc))
    (HEqK1' : Hid (Fit → EqOk 8 K1)) (HMkK1' : Hid (Fit → MarkOk 10 K1 MK1 mK1 ∧ mK1 ≤ 17179869184)) (HHdK1' : Hid (Fit → HeldOk 12 MK1 mK1))
    : Calls Tryz.prog 3 #[.string s0, .int .i64 s1, .int .i64 s2] w fun e w' => e = .returned (.bool true) ∧ Below w.heap.size w w' := by
  have hlI0 : ¬ (1048576 : Int) < (s0.size : Int) := by omega
  go_enter Tryz.func3, Tryz.ntmps3
  have E : Ext w w := Ext.refl w
  have HEqK0 := hide ((unhide HEqK0') hfit)
  have HMkK0 := hide ((unhide HMkK0') hfit).1
  have hmK0 := ((unhide HMkK0') hfit).2
  have HHdK0 := hide ((unhide HHdK0') hfit)
  clear HEqK0' HMkK0' HHdK0'
  have HEqK1 := hide ((unhide HEqK1') hfit)
  have HMkK1 := hide ((unhide HMkK1') hfit).1
  have hmK1 := ((unhide HMkK1') hfit).2
  have HHdK1 := hide ((unhide HHdK1') hfit)
  clear HEqK1' HMkK1' HHdK1'
  have HS := hide ((unhide HS') hfit)
  have HI := hide ((unhide HI') hfit)
  clear HS' HI' hfit
  go_wp2_with fail
  refine ((unhide HS) _  E ).mono ?_
  rintro e w1 ⟨uw0, uw1, rfl, rw0, rw1, F2⟩
  have hs3 := hide (F2).size
  replace E := E.trans F2
  obtain ⟨w0_cs, rfl, hz9, ho9⟩ := (unhide ShK0) _ _ rw0
  have Hz_w0_cs := hide hz9
  have Ho_w0_cs := hide ho9
  clear hz9 ho9
  have HR_w0 := hide rw0
  clear rw0
  obtain ⟨w1_a, w1_n, w1_c, rfl⟩ := (unhide ShK1) _ _ rw1
  have HR_w1 := hide rw1
  clear rw1
  have HEw := hide (Ext.refl w1)
  go_wp2_with (refine wpList_store_blk rfl 30 _ _ rfl rfl (w1.heap.size) rfl _ _ _ rfl (new_block w1 _) (by rw [unhide Hz_w0_cs]; exact infoSessionimpl) (by rw [unhide Hz_w0_cs]; rfl) (unhide Ho_w0_cs) ?_; intro V4 hb9 hf9; have FV4 := hide (hf9.ext ((Ext.refl w1).alloc _) (fun q9 h9 => by omega)); have HB_w0 := hide hb9; clear hb9 hf9)
  have hzV4 := hide (lt_of_block (unhide HB_w0))
  have hs5 := hide ((unhide FV4)).size
  replace E := E.trans (unhide FV4)
  replace HEw := hide ((unhide HEw).trans (unhide FV4))
  refine ((unhide HI) _  E ).mono ?_
  rintro e w6 ⟨ug0, Sg0, ug1, Sg1, rfl, og0, og1, ag01, F7⟩
  have HL_g0 : Hid (∀ g, Sg0 g → V4.heap.size ≤ g ∧ g < w6.heap.size) := hide (K0.lt og0)
  have HL_g1 : Hid (∀ g, Sg1 g → V4.heap.size ≤ g ∧ g < w6.heap.size) := hide (K1.lt og1)
  have HD_g0_g1 := hide ag01
  clear ag01
  have hs8 := hide (F7).size
  replace E := E.trans F7
  replace HB_w0 := hide ((F7).kept (unhide HB_w0))
  replace HEw := hide ((unhide HEw).trans F7)
  obtain ⟨g0_cs, rfl, hz9, ho9⟩ := (unhide ShK0) _ _ (K0.reads og0)
  have Hz_g0_cs := hide hz9
  have Ho_g0_cs := hide ho9
  clear hz9 ho9
  have HO_g0 := hide og0
  clear og0
  obtain ⟨g1_a, g1_n, g1_c, rfl⟩ := (unhide ShK1) _ _ (K1.reads og1)
  have HO_g1 := hide og1
  clear og1
  go_wp2_with (first | (refine wpList_store_blk rfl 30 _ _ rfl rfl (w6.heap.size) rfl _ _ _ rfl (new_block w6 _) (by rw [unhide Hz_g0_cs]; exact infoSessionimpl) (by rw [unhide Hz_g0_cs]; rfl) (unhide Ho_g0_cs) ?_; intro V9 hb9 hf9; have FV9 := hide (hf9.ext ((Ext.refl w6).alloc _) (fun q9 h9 => by omega)); have HB_g0 := hide hb9; clear hb9 hf9) | (refine wpList_load_blk rfl 30 _ rfl (w6.heap.size) rfl _ _ _ _ (unhide HB_g0) Tryz.underlying30 rfl (by rw [unhide Hz_g0_cs]; exact infoSessionimpl) ?_) | (refine wpList_load_blk rfl 30 _ rfl (w1.heap.size) rfl _ _ _ _ ((unhide FV9).kept (unhide HB_w0)) Tryz.underlying30 rfl (by rw [unhide Hz_w0_cs]; exact infoSessionimpl) ?_))
  have hzV9 := hide (lt_of_block (unhide HB_g0))
  have hs10 := hide ((unhide FV9)).size
  replace E := E.trans (unhide FV9)
  replace HB_w0 := hide (((unhide FV9)).kept (unhide HB_w0))
  replace HO_g0 := hide (K0.oext (unhide HO_g0) (unhide FV9))
  replace HO_g1 := hide (K1.oext (unhide HO_g1) (unhide FV9))
  replace HEw := hide ((unhide HEw).trans (unhide FV9))
  refine ((unhide HEqK0) _ _ _ (K0.reads (unhide HO_g0)) (K0.rext (unhide HR_w0) (unhide HEw))).mono ?_
  rintro e w11 ⟨rfl, F12⟩
  have hs13 := hide (F12).size
  replace E := E.trans F12
  replace HB_w0 := hide ((F12).kept (unhide HB_w0))
  replace HB_g0 := hide ((F12).kept (unhide HB_g0))
  replace HO_g0 := hide (K0.oext (unhide HO_g0) F12)
  replace HO_g1 := hide (K1.oext (unhide HO_g1) F12)
  replace HEw := hide ((unhide HEw).trans F12)
  go_wp2_with (first | (refine wpList_load_blk rfl 30 _ rfl (w6.heap.size) rfl _ _ _ _ (unhide HB_g0) Tryz.underlying30 rfl (by rw [unhide Hz_g0_cs]; exact infoSessionimpl) ?_) | (refine wpList_load_blk rfl 30 _ rfl (w1.heap.size) rfl _ _ _ _ (unhide HB_w0) Tryz.underlying30 rfl (by rw [unhide Hz_w0_cs]; exact infoSessionimpl) ?_))
  refine ((unhide HEqK1) _ _ _ (K1.reads (unhide HO_g1)) (K1.rext (unhide HR_w1) (unhide HEw))).mono ?_
  rintro e w14 ⟨rfl, F15⟩
  have hs16 := hide (F15).size
  replace E := E.trans F15
  replace HB_w0 := hide ((F15).kept (unhide HB_w0))
  replace HB_g0 := hide ((F15).kept (unhide HB_g0))
  replace HO_g0 := hide (K0.oext (unhide HO_g0) F15)
  replace HO_g1 := hide (K1.oext (unhide HO_g1) F15)
  replace HEw := hide ((unhide HEw).trans F15)
  go_wp2_with (refine wpList_load_blk rfl 30 _ rfl (w6.heap.size) rfl _ _ _ _ (unhide HB_g0) Tryz.underlying30 rfl (by rw [unhide Hz_g0_cs]; exact infoSessionimpl) ?_)
  refine ((unhide HMkK0) _ _ _ _ _ (unhide HO_g0) (by omega) (by omega)).mono ?_
  rintro e w17 ⟨rfl, om, F18⟩
  replace E := F18.ext E (fun _ h9 => by have b9 := (unhide HL_g0) _ h9; have z0 := unhide hs3; have z1 := unhide hzV4; have z2 := unhide hs5; have z3 := unhide hs8; have z4 := unhide hzV9; have z5 := unhide hs10; have z6 := unhide hs13; have z7 := unhide hs16; omega)
  replace HEw := hide (F18.ext (unhide HEw) (fun _ h9 => by have b9 := (unhide HL_g0) _ h9; have z0 := unhide hs3; have z1 := unhide hzV4; have z2 := unhide hs5; have z3 := unhide hs8; have z4 := unhide hzV9; have z5 := unhide hs10; have z6 := unhide hs13; have z7 := unhide hs16; omega))
  replace HB_w0 := hide (F18.kept (unhide HB_w0) (fun h9 => by have b9 := (unhide HL_g0) _ h9; have z0 := unhide hs3; have z1 := unhide hzV4; have z2 := unhide hs5; have z3 := unhide hs8; have z4 := unhide hzV9; have z5 := unhide hs10; have z6 := unhide hs13; have z7 := unhide hs16; omega))
  replace HB_g0 := hide (F18.kept (unhide HB_g0) (fun h9 => by have b9 := (unhide HL_g0) _ h9; have z0 := unhide hs3; have z1 := unhide hzV4; have z2 := unhide hs5; have z3 := unhide hs8; have z4 := unhide hzV9; have z5 := unhide hs10; have z6 := unhide hs13; have z7 := unhide hs16; omega))
  replace HO_g1 := hide (K1.ofr (unhide HO_g1) F18 (fun q9 h8 h9 => (unhide HD_g0_g1) q9 h9 h8))
  have hs19 := hide F18.size
  replace HO_g0 := hide om
  clear om
  go_wp2_with fail
  refine ((unhide HMkK1) _ _ _ _ _ (unhide HO_g1) (by omega) (by omega)).mono ?_
  rintro e w20 ⟨rfl, om, F21⟩
  replace E := F21.ext E (fun _ h9 => by have b9 := (unhide HL_g1) _ h9; have z0 := unhide hs3; have z1 := unhide hzV4; have z2 := unhide hs5; have z3 := unhide hs8; have z4 := unhide hzV9; have z5 := unhide hs10; have z6 := unhide hs13; have z7 := unhide hs16; have z8 := unhide hs19; omega)
  replace HEw := hide (F21.ext (unhide HEw) (fun _ h9 => by have b9 := (unhide HL_g1) _ h9; have z0 := unhide hs3; have z1 := unhide hzV4; have z2 := unhide hs5; have z3 := unhide hs8; have z4 := unhide hzV9; have z5 := unhide hs10; have z6 := unhide hs13; have z7 := unhide hs16; have z8 := unhide hs19; omega))
  replace HB_w0 := hide (F21.kept (unhide HB_w0) (fun h9 => by have b9 := (unhide HL_g1) _ h9; have z0 := unhide hs3; have z1 := unhide hzV4; have z2 := unhide hs5; have z3 := unhide hs8; have z4 := unhide hzV9; have z5 := unhide hs10; have z6 := unhide hs13; have z7 := unhide hs16; have z8 := unhide hs19; omega))
  replace HB_g0 := hide (F21.kept (unhide HB_g0) (fun h9 => by have b9 := (unhide HL_g1) _ h9; have z0 := unhide hs3; have z1 := unhide hzV4; have z2 := unhide hs5; have z3 := unhide hs8; have z4 := unhide hzV9; have z5 := unhide hs10; have z6 := unhide hs13; have z7 := unhide hs16; have z8 := unhide hs19; omega))
  replace HO_g0 := hide ((MK0 (1)).ofr (unhide HO_g0) F21 (fun q9 h8 h9 => (unhide HD_g0_g1) q9 h8 h9))
  have hs22 := hide F21.size
  replace HO_g1 := hide om
  clear om
  have hq0 : ¬ (1 + (mK0 : Int) : Int) < 0 := by omega
  go_wp2_with (refine wpList_load_blk rfl 30 _ rfl (w6.heap.size) rfl _ _ _ _ (unhide HB_g0) Tryz.underlying30 rfl (by rw [unhide Hz_g0_cs]; exact infoSessionimpl) ?_)
  refine ((unhide HHdK0) _ _ _ ((MK0 (1)).reads (unhide HO_g0)) (by omega) (by omega)).mono ?_
  rintro e w23 ⟨rfl, F24⟩
  have hs25 := hide (F24).size
  replace E := E.trans F24
  replace HB_w0 := hide ((F24).kept (unhide HB_w0))
  replace HB_g0 := hide ((F24).kept (unhide HB_g0))
  replace HO_g0 := hide ((MK0 (1)).oext (unhide HO_g0) F24)
  replace HO_g1 := hide ((MK1 (1 + (mK0 : Int))).oext (unhide HO_g1) F24)
  replace HEw := hide ((unhide HEw).trans F24)
  have hq1 : ¬ (1 + (mK0 : Int) + (mK1 : Int) : Int) < 0 := by omega
  go_wp2_with fail
  refine ((unhide HHdK1) _ _ _ ((MK1 (1 + (mK0 : Int))).reads (unhide HO_g1)) (by omega) (by omega)).mono ?_
  rintro e w26 ⟨rfl, F27⟩
  have hs28 := hide (F27).size
  replace E := E.trans F27
  replace HB_w0 := hide ((F27).kept (unhide HB_w0))
  replace HB_g0 := hide ((F27).kept (unhide HB_g0))
  replace HO_g0 := hide ((MK0 (1)).oext (unhide HO_g0) F27)
  replace HO_g1 := hide ((MK1 (1 + (mK0 : Int))).oext (unhide HO_g1) F27)
  replace HEw := hide ((unhide HEw).trans F27)
  go_wp2_with fail
  refine ((unhide HI) _  E ).mono ?_
  rintro e w29 ⟨uh0, Sh0, uh1, Sh1, rfl, oh0, oh1, ah01, F30⟩
  have HL_h0 : Hid (∀ g, Sh0 g → w26.heap.size ≤ g ∧ g < w29.heap.size) := hide (K0.lt oh0)
  have HL_h1 : Hid (∀ g, Sh1 g → w26.heap.size ≤ g ∧ g < w29.heap.size) := hide (K1.lt oh1)
  have HD_h0_h1 := hide ah01
  clear ah01
  have hs31 := hide (F30).size
  replace E := E.trans F30
  replace HB_w0 := hide ((F30).kept (unhide HB_w0))
  replace HB_g0 := hide ((F30).kept (unhide HB_g0))
  replace HO_g0 := hide ((MK0 (1)).oext (unhide HO_g0) F30)
  replace HO_g1 := hide ((MK1 (1 + (mK0 : Int))).oext (unhide HO_g1) F30)
  replace HEw := hide ((unhide HEw).trans F30)
  obtain ⟨h0_cs, rfl, hz9, ho9⟩ := (unhide ShK0) _ _ (K0.reads oh0)
  have Hz_h0_cs := hide hz9
  have Ho_h0_cs := hide ho9
  clear hz9 ho9
  have HO_h0 := hide oh0
  clear oh0
  obtain ⟨h1_a, h1_n, h1_c, rfl⟩ := (unhide ShK1) _ _ (K1.reads oh1)
  have HO_h1 := hide oh1
  clear oh1
  go_wp2_with (first | (refine wpList_store_blk rfl 30 _ _ rfl rfl (w29.heap.size) rfl _ _ _ rfl (new_block w29 _) (by rw [unhide Hz_h0_cs]; exact infoSessionimpl) (by rw [unhide Hz_h0_cs]; rfl) (unhide Ho_h0_cs) ?_; intro V32 hb9 hf9; have FV32 := hide (hf9.ext ((Ext.refl w29).alloc _) (fun q9 h9 => by omega)); have HB_h0 := hide hb9; clear hb9 hf9) | (refine wpList_load_blk rfl 30 _ rfl (w29.heap.size) rfl _ _ _ _ (unhide HB_h0) Tryz.underlying30 rfl (by rw [unhide Hz_h0_cs]; exact infoSessionimpl) ?_) | (refine wpList_load_blk rfl 30 _ rfl (w1.heap.size) rfl _ _ _ _ ((unhide FV32).kept (unhide HB_w0)) Tryz.underlying30 rfl (by rw [unhide Hz_w0_cs]; exact infoSessionimpl) ?_))
  have hzV32 := hide (lt_of_block (unhide HB_h0))
  have hs33 := hide ((unhide FV32)).size
  replace E := E.trans (unhide FV32)
  replace HB_w0 := hide (((unhide FV32)).kept (unhide HB_w0))
  replace HB_g0 := hide (((unhide FV32)).kept (unhide HB_g0))
  replace HO_g0 := hide ((MK0 (1)).oext (unhide HO_g0) (unhide FV32))
  replace HO_g1 := hide ((MK1 (1 + (mK0 : Int))).oext (unhide HO_g1) (unhide FV32))
  replace HO_h0 := hide (K0.oext (unhide HO_h0) (unhide FV32))
  replace HO_h1 := hide (K1.oext (unhide HO_h1) (unhide FV32))
  replace HEw := hide ((unhide HEw).trans (unhide FV32))
  refine ((unhide HEqK0) _ _ _ (K0.reads (unhide HO_h0)) (K0.rext (unhide HR_w0) (unhide HEw))).mono ?_
  rintro e w34 ⟨rfl, F35⟩
  have hs36 := hide (F35).size
  replace E := E.trans F35
  replace HB_w0 := hide ((F35).kept (unhide HB_w0))
  replace HB_g0 := hide ((F35).kept (unhide HB_g0))
  replace HB_h0 := hide ((F35).kept (unhide HB_h0))
  replace HO_g0 := hide ((MK0 (1)).oext (unhide HO_g0) F35)
  replace HO_g1 := hide ((MK1 (1 + (mK0 : Int))).oext (unhide HO_g1) F35)
  replace HO_h0 := hide (K0.oext (unhide HO_h0) F35)
  replace HO_h1 := hide (K1.oext (unhide HO_h1) F35)
  replace HEw := hide ((unhide HEw).trans F35)
  go_wp2_with (first | (refine wpList_load_blk rfl 30 _ rfl (w29.heap.size) rfl _ _ _ _ (unhide HB_h0) Tryz.underlying30 rfl (by rw [unhide Hz_h0_cs]; exact infoSessionimpl) ?_) | (refine wpList_load_blk rfl 30 _ rfl (w1.heap.size) rfl _ _ _ _ (unhide HB_w0) Tryz.underlying30 rfl (by rw [unhide Hz_w0_cs]; exact infoSessionimpl) ?_))
  refine ((unhide HEqK1) _ _ _ (K1.reads (unhide HO_h1)) (K1.rext (unhide HR_w1) (unhide HEw))).mono ?_
  rintro e w37 ⟨rfl, F38⟩
  have hs39 := hide (F38).size
  replace E := E.trans F38
  replace HB_w0 := hide ((F38).kept (unhide HB_w0))
  replace HB_g0 := hide ((F38).kept (unhide HB_g0))
  replace HB_h0 := hide ((F38).kept (unhide HB_h0))
  replace HO_g0 := hide ((MK0 (1)).oext (unhide HO_g0) F38)
  replace HO_g1 := hide ((MK1 (1 + (mK0 : Int))).oext (unhide HO_g1) F38)
  replace HO_h0 := hide (K0.oext (unhide HO_h0) F38)
  replace HO_h1 := hide (K1.oext (unhide HO_h1) F38)
  replace HEw := hide ((unhide HEw).trans F38)
  have hq0 : ¬ (1 + (mK0 : Int) : Int) < 0 := by omega
  go_wp2_with (refine wpList_load_blk rfl 30 _ rfl (w6.heap.size) rfl _ _ _ _ (unhide HB_g0) Tryz.underlying30 rfl (by rw [unhide Hz_g0_cs]; exact infoSessionimpl) ?_)
  refine ((unhide HHdK0) _ _ _ ((MK0 (1)).reads (unhide HO_g0)) (by omega) (by omega)).mono ?_
  rintro e w40 ⟨rfl, F41⟩
  have hs42 := hide (F41).size
  replace E := E.trans F41
  replace HB_w0 := hide ((F41).kept (unhide HB_w0))
  replace HB_g0 := hide ((F41).kept (unhide HB_g0))
  replace HB_h0 := hide ((F41).kept (unhide HB_h0))
  replace HO_g0 := hide ((MK0 (1)).oext (unhide HO_g0) F41)
  replace HO_g1 := hide ((MK1 (1 + (mK0 : Int))).oext (unhide HO_g1) F41)
  replace HO_h0 := hide (K0.oext (unhide HO_h0) F41)
  replace HO_h1 := hide (K1.oext (unhide HO_h1) F41)
  replace HEw := hide ((unhide HEw).trans F41)
  have hq1 : ¬ (1 + (mK0 : Int) + (mK1 : Int) : Int) < 0 := by omega
  go_wp2_with fail
  refine ((unhide HHdK1) _ _ _ ((MK1 (1 + (mK0 : Int))).reads (unhide HO_g1)) (by omega) (by omega)).mono ?_
  rintro e w43 ⟨rfl, F44⟩
  have hs45 := hide (F44).size
  replace E := E.trans F44
  replace HB_w0 := hide ((F44).kept (unhide HB_w0))
  replace HB_g0 := hide ((F44).kept (unhide HB_g0))
  replace HB_h0 := hide ((F44).kept (unhide HB_h0))
  replace HO_g0 := hide ((MK0 (1)).oext (unhide HO_g0) F44)
  replace HO_g1 := hide ((MK1 (1 + (mK0 : Int))).oext (unhide HO_g1) F44)
  replace HO_h0 := hide (K0.oext (unhide HO_h0) F44)
  replace HO_h1 := hide (K1.oext (unhide HO_h1) F44)
  replace HEw := hide ((unhide HEw).trans F44)
  go_wp2
  go_ret
  exact ⟨rfl, E.below⟩
end Go.Proofs.YtjfnieodpdklfaaGreatDoor

namespace Go.Proofs.YtjfnieodpdklfaaGreatDoor
open Go.RowKit

theorem s2i (w : World) (s : ByteArray) : ∃ cap W', (convert 9 25 (.string s)).run Tryz.prog w = .ok (.slice (some ⟨w.heap.size, 0, none⟩) s.size cap) W' ∧ (∀ j u, ((baL s).map (Value.int .u8))[j]? = some u → W'.cell? ((⟨w.heap.size, 0, none⟩ : Addr).add j) = some u) ∧ Ext w W' := by
  have hr := run_bytes_of_string (P := Tryz.prog) w 9 25 5 s Tryz.underlying9 Tryz.underlying25 Tryz.underlying5
  refine ⟨_, _, hr, fun j u hj => ?_, (Ext.refl w).drew.alloc _⟩
  have hjl : j < s.data.size := by
    have := (List.getElem?_eq_some_iff.1 hj).1
    simp [baL] at this
    exact this
  rw [Addr.add_lit, Nat.zero_add]
  have hc := World.cell?_alloc_mark w.drew (bytesRow s (grownCap w s.size 0 5)) 5 ((bytesRow s (grownCap w s.size 0 5)).size, (bytesRow s (grownCap w s.size 0 5)).size + 1) j
  rw [bytesRow_at _ _ _ hjl] at hc
  refine Eq.trans hc ?_
  rw [← hj]
  simp only [baL, List.map_map, List.getElem?_map, Array.getElem?_toList]
  rw [Array.getElem?_eq_getElem hjl]
  rfl
/-- How many bytes stand before the spaces at the end, of the first k. -/
def trimK (s : ByteArray) : Nat → Nat
  | 0 => 0
  | k + 1 => if s.data.toList[k]? = some 32 then trimK s k else k + 1
set_option maxRecDepth 10000 in
set_option maxHeartbeats 1000000 in
theorem l2Trim_any (s : ByteArray) (w : World) (hs : s.size ≤ 1048576) :
    Calls Tryz.prog 47 #[.string s] w fun e w' => e = .returned (.string (s.extract 0 (trimK s s.size))) ∧ w' = w := by
  go_enter Tryz.func47, Tryz.ntmps47
  go_wp2
  go_loop [3] (fun i => ∃ k : Nat, k ≤ s.size ∧ i = .int .i64 k ∧ Hid (trimK s s.size = trimK s k)) (fun i => (intOf i).toNat)
  case atStart => exact ⟨s.size, Nat.le_refl _, rfl, hide rfl⟩
  case round =>
    obtain ⟨k, hk, rfl, HJ⟩ := hrel
    by_cases h0 : k = 0
    · subst h0
      have hfin : Hid (trimK s s.size = 0) := hide ((unhide HJ).trans rfl)
      go_wp2
      go_ret
      exact ⟨by rw [unhide hfin]; simp, rfl⟩
    · obtain ⟨j, rfl⟩ : ∃ j, k = j + 1 := ⟨k - 1, by omega⟩
      have hw1 : IntKind.i64.wrap (((j + 1 : Nat) : Int) - 1) = (j : Int) := by rw [IntKind.wrap_i64]; omega
      have bj : (j : Int) < (s.size : Int) := by omega
      have hj : j < s.size := by omega
      have hat : s.data.toList[j]? = some (s[j]'hj) := by
        rw [List.getElem?_eq_getElem (by simpa using hj)]
        simp [ByteArray.getElem_eq_getElem_data]
      by_cases he : (s[j]'hj).toNat = 32
      · have HJ2 : Hid (trimK s s.size = trimK s j) := hide ((unhide HJ).trans (by
          rw [trimK, if_pos]
          rw [hat]
          exact congrArg some (UInt8.toNat_inj.1 he)))
        clear hat
        go_wp2
        go_round
        case rel => exact ⟨j, by omega, rfl, HJ2⟩
        case measure => simp [intOf]
      · have hfin : Hid (trimK s s.size = j + 1) := hide ((unhide HJ).trans (by
          rw [trimK, if_neg]
          rw [hat]
          exact fun e => he (by rw [Option.some.inj e]; rfl)))
        clear hat
        go_wp2
        go_ret
        exact ⟨by rw [unhide hfin]; rfl, rfl⟩
theorem trimK_le (s : ByteArray) : ∀ k, trimK s k ≤ k
  | 0 => Nat.le_refl _
  | k + 1 => by
    rw [trimK]
    split
    · have := trimK_le s k
      omega
    · exact Nat.le_refl _
/-- A text without the spaces at its end. -/
def trimS (s : ByteArray) : ByteArray := s.extract 0 (trimK s s.size)
def tkL (l : List UInt8) : Nat → Nat
  | 0 => 0
  | k + 1 => if l[k]? = some 32 then tkL l k else k + 1
theorem trimK_tkL (s : ByteArray) : ∀ k, trimK s k = tkL s.data.toList k
  | 0 => rfl
  | k + 1 => by rw [trimK, tkL, trimK_tkL s k]
theorem tkL_app (l r : List UInt8) : ∀ k, k ≤ l.length → tkL (l ++ r) k = tkL l k
  | 0, _ => rfl
  | k + 1, h => by rw [tkL, tkL, tkL_app l r k (by omega), List.getElem?_append_left (by omega)]
theorem tkL_le (l : List UInt8) : ∀ k, tkL l k ≤ k
  | 0 => Nat.le_refl _
  | k + 1 => by
    rw [tkL]
    split
    · have := tkL_le l k
      omega
    · exact Nat.le_refl _
theorem take_tkL (l : List UInt8) : l.take (tkL l l.length) = Lib.trimRightB l 32 := by
  obtain ⟨m, rfl⟩ : ∃ m : List UInt8, l = m.reverse := ⟨l.reverse, by simp⟩
  induction m with
  | nil => rfl
  | cons a m ih =>
    unfold Lib.trimRightB at ih ⊢
    rw [List.reverse_reverse] at ih ⊢
    rw [List.reverse_cons, List.length_append]
    show List.take (tkL (m.reverse ++ [a]) (m.reverse.length + 1)) _ = _
    rw [tkL, List.getElem?_append_right (Nat.le_refl _), Nat.sub_self, List.dropWhile_cons]
    by_cases h : a = 32
    · subst h
      rw [if_pos (by rfl), if_pos (by rfl), tkL_app _ _ _ (Nat.le_refl _), ← ih, List.take_append_of_le_length (tkL_le _ _)]
    · rw [if_neg (by simpa using h), if_neg (by simpa using h), List.take_of_length_le (by simp)]
      simp
theorem trimS_right (s : ByteArray) : (⟨(Lib.trimRightB s.data.toList 32).toArray⟩ : ByteArray) = trimS s := by
  apply WideShapes.bytes_inj
  have hl : s.data.toList.length = s.size := by simp
  rw [trimS, trimK_tkL, ← take_tkL, hl, ByteArray.data_extract]
  simp
theorem trimS_size (s : ByteArray) : (trimS s).size ≤ s.size := by
  rw [trimS, ByteArray.size_extract]
  omega
end Go.Proofs.YtjfnieodpdklfaaGreatDoor
