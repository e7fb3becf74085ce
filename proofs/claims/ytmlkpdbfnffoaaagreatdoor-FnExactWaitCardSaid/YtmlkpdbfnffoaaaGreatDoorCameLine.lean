import Derived.Test.YtmlkpdbfnffoaaaGreatDoorSpecRune2
set_option maxHeartbeats 1000000
set_option maxRecDepth 10000
namespace Go.Proofs.YtmlkpdbfnffoaaaGreatDoor
open Go.ChangeShapes Go.WideShapes Go.ChangeAt Go.RowKit Go.Deep
def blV (v : Value) (row col : Int) : Value := .agg #[v, .int .i64 row, .int .i64 col]
end Go.Proofs.YtmlkpdbfnffoaaaGreatDoor

namespace Go.Proofs.YtmlkpdbfnffoaaaGreatDoor
open Go.RowKit
theorem zmr (s : ByteArray) : s.toList = s.data.toList := by
 have aux : ∀ (n i : Nat) (r : List UInt8), s.size - i = n → ByteArray.toList.loop s i r = r.reverse ++ s.data.toList.drop i := by
  intro n
  induction n with
  | zero =>
   intro i r h
   rw [ByteArray.toList.loop, if_neg (by omega), List.drop_eq_nil_of_le (by simp; exact Nat.sub_eq_zero_iff_le.1 h)]
   simp
  | succ n ih =>
   intro i r h
   rw [ByteArray.toList.loop, if_pos (by omega), ih (i + 1) _ (by omega)]
   have hi : i < s.data.toList.length := by simp; show i < s.size; omega
   rw [List.drop_eq_getElem_cons hi]
   have e : s.get! i = s.data.toList[i] := by
    have hs : i < s.data.size := by simpa using hi
    cases s with
    | mk d => show d[i]! = d.toList[i]; simp only [getElem!_pos d i hs, Array.getElem_toList]
   rw [e]
   simp
 have := aux s.size 0 [] (by omega)
 simpa [ByteArray.toList] using this
theorem zkS {s t : ByteArray} (h : s ≠ t) : (s.toList == t.toList) = false := by
 rw [beq_eq_false_iff_ne, zmr, zmr]
 exact fun e => h (WideShapes.bytes_inj e)
def zf1 (n m : Nat) (tx ty : Nat → ByteArray) : Prop := n = m ∧ ∀ j, j < n → tx j = ty j
abbrev sameD (n m : Nat) (tx ty : Nat → ByteArray) : Decidable (zf1 n m tx ty) := inferInstanceAs (Decidable (n = m ∧ ∀ j, j < n → tx j = ty j))
theorem zku (va vb : Value) (n m : Nat) (tx ty : Nat → ByteArray) (w : World) (ha : zah w va n (fun j => .string (tx j))) (hb : zah w vb m (fun j => .string (ty j))) (hn : n ≤ 1048576) (hm : m ≤ 1048576) (ok : Bool) (hok : ok = true ↔ zf1 n m tx ty) :
  Calls Tryz.prog 134 #[va, vb] w fun e w' => e = .returned (.bool ok) ∧ Ext w w' := by
 obtain ⟨ao, ca, rfl, hca, hxa⟩ := ha
 obtain ⟨bo, cb, rfl, hcb, hxb⟩ := hb
 have HK := zi hok
 clear hok
 by_cases hnm : n = m
 ·subst hnm
  by_cases h0 : n = 0
  ·subst h0
   clear hxa hxb
   have hT : Hid (ok = true) := zi ((zg HK).2 ⟨rfl, fun j hj => by omega⟩)
   go_enter Tryz.func134, Tryz.ntmps134
   go_wp2
   go_loop [5] (fun i => i = .int .i64 0) (fun _ => 0)
   case atStart => rfl
   case round =>
    subst hrel
    go_wp2
    go_ret
    exact ⟨zw (zg hT).symm, Ext.refl _⟩
  ·obtain ⟨b1, o1, rfl, h1⟩ := hxa (by omega)
   obtain ⟨b2, o2, rfl, h2⟩ := hxb (by omega)
   have H1 := zi h1
   have H2 := zi h2
   clear hxa hxb h1 h2
   go_enter Tryz.func134, Tryz.ntmps134
   go_wp2
   go_loopw [5] (fun i w' => ∃ k : Nat, k ≤ n ∧ i = .int .i64 k ∧ Hid (∀ j, j < k → tx j = ty j) ∧ Ext w w') (fun i _ => n - (intOf i).toNat)
   case atStart => exact ⟨0, Nat.zero_le _, rfl, zi (fun j hj => by omega), Ext.refl _⟩
   case round =>
    obtain ⟨k, hk, rfl, HJ, hext⟩ := hrel
    by_cases hlt : k < n
    ·have g1 := hext.cell ((zg H1) k hlt)
     have g3 := hext.cell ((zg H2) k hlt)
     have bk : (k : Int) < (n : Int) := by omega
     by_cases hs : tx k = ty k
     ·have HJ2 : Hid (∀ j, j < k + 1 → tx j = ty j) := zi (fun j hj => by
       by_cases e : j = k
       ·subst e; exact hs
       ·exact (zg HJ) j (by omega))
      rw [← hs] at g3
      clear hs
      go_wp2
      go_quiet (fail)
      go_wp2
      go_roundw
      case rel => exact ⟨k + 1, by omega, by go_num, HJ2, hext.drewN _⟩
      case measure => simp [intOf]; omega
     ·have hne := zkS hs
      have hF : Hid (ok = false) := by
       refine zi ?_
       cases hc : ok with
       | false => rfl
       | true => exact absurd (((zg HK).1 hc).2 k hlt) hs
      clear hs
      go_wp2
      go_quiet (fail)
      go_wp2
      go_ret
      exact ⟨zw (zg hF).symm, hext.drewN _⟩
    ·obtain rfl : k = n := by omega
     have hT : Hid (ok = true) := zi ((zg HK).2 ⟨rfl, zg HJ⟩)
     go_wp2
     go_ret
     exact ⟨zw (zg hT).symm, hext⟩
 ·have hF : Hid (ok = false) := by
   refine zi ?_
   cases hc : ok with
   | false => rfl
   | true => exact absurd ((zg HK).1 hc).1 hnm
  have hnm' : ¬ (n : Int) = (m : Int) := by omega
  go_enter Tryz.func134, Tryz.ntmps134
  go_wp2
  go_ret
  exact ⟨zw (zg hF).symm, Ext.refl _⟩
end Go.Proofs.YtmlkpdbfnffoaaaGreatDoor

namespace Go.Proofs.YtmlkpdbfnffoaaaGreatDoor
open Go.ChangeShapes Go.WideShapes Go.ChangeAt Go.RowKit Go.Deep
theorem zhy (cap : Int) (v : Value) (n : Nat) (tx : Nat → ByteArray) (l : Int) (w : World) (hv : zah w v n (fun j => .string (tx j))) (h0 : 0 ≤ l) (h1 : l ≤ 4398046511104) (hn : (n : Int) ≤ 9223372036854775807) (hx : ∀ j, j < n → ((tx j).size : Int) ≤ 9223372036854775807) :
  Calls Tryz.prog 6 #[.agg #[.int .i64 cap, v], .int .i64 l] w fun e w' => ∃ r : Int, e = .returned (.int .i64 r) ∧ SzR l (n + za4 tx n) r ∧ Ext w w' := by
 have hcon := zi (fun W (hW : Ext w W) => zcM v n tx l W (hv.ext hW) h0 h1 hn hx)
 obtain ⟨ao, ca, rfl, _, _⟩ := hv
 go_enter Tryz.func6, Tryz.ntmps6
 go_wp2_with fail
 refine ((zg hcon) _ ((Ext.refl _).alloc _)).mono ?_
 rintro e w1 ⟨r, rfl, hr, F1⟩
 have HR := zi hr
 rcases hr with ⟨rfl, _⟩ | ⟨hre, hr0⟩
 ·go_wp2
  go_ret
  exact ⟨-1, rfl, zg HR, ((Ext.refl _).alloc _).trans F1⟩
 ·have hrn : ¬ r < 0 := by omega
  clear hre
  go_wp2
  go_ret
  exact ⟨r, rfl, zg HR, ((Ext.refl _).alloc _).trans F1⟩
theorem zhq (cap : Int) (v : Value) (n : Nat) (tx : Nat → ByteArray) (w : World) (hv : zah w v n (fun j => .string (tx j))) (hn : n ≤ 1048576) :
  Calls Tryz.prog 9 #[.agg #[.int .i64 cap, v]] w fun e w' => ∃ g, e = .returned (.agg #[.int .i64 cap, .slice (some ⟨g, 0, none⟩) n n]) ∧ zaD w' w.heap.size 9 (.slice (some ⟨g, 0, none⟩) n n) n (fun j => .string (tx j)) ∧ Ext w w' := by
 have HV := zi hv
 obtain ⟨ao, ca, rfl, _, _⟩ := hv
 have hcon := zi (fun W (hW : Ext w W) => zgB (.slice ao n ca) n tx W ((zg HV).ext hW) hn)
 go_enter Tryz.func9, Tryz.ntmps9
 go_wp2_with fail
 refine ((zg hcon) _ (by repeat' first | exact Ext.refl _ | refine Ext.alloc ?_ _ | refine Ext.setCell ?_ (by dsimp only; omega) _)).mono ?_
 rintro e w1 ⟨rfl, o1, F1⟩
 obtain ⟨hc, hf'⟩ := F1.rules
 have hz3 : ∀ o1 o2 o3, (((w.alloc o1).alloc o2).alloc o3).heap.size = w.heap.size + 3 := fun o1 o2 o3 => by simp
 rw [hz3] at o1 ⊢
 have hz : w.heap.size + 3 < w1.heap.size := by
  obtain ⟨ys, h1, _⟩ := o1
  exact (h1.lt _ rfl).2
 have a0 : ∃ u, w1.cell? ⟨w.heap.size + 1, 0, none⟩ = some u := by rw [hc _ _ (by simp)]; simp [go_sem]
 obtain ⟨u0, a0⟩ := a0
 have a1 : w1.cell? ⟨w.heap.size + 1, 1, none⟩ = some (.slice none 0 0) := by rw [hc _ _ (by simp)]; simp [go_sem]
 have O1 := zi o1
 have E1 : Ext w w1 := Ext.trans ((((Ext.refl w).alloc _).alloc _).alloc _) F1
 clear o1
 go_wp2
 refine bodyPost_ret (v := .agg #[.int .i64 cap, .slice (some ⟨w.heap.size + 3, 0, none⟩) n n]) (by simp [results, Tryz.results9, go_sem, a0, a1]) rfl ⟨w.heap.size + 3, rfl, ?_, ?_⟩
 ·obtain ⟨ys, h1, h2⟩ := zg O1
  refine ⟨ys, zas (base := w.heap.size + 3) ?_ (by omega), h2⟩
  repeat (refine zf ?_ (by simp [Value.ownBlock]) _)
  exact h1
 ·repeat (refine Ext.setCell ?_ (by dsimp only; omega) _)
  exact E1
theorem zgu (cap : Int) (va vb : Value) (n : Nat) (tx : Nat → ByteArray) (w : World) (ha : zah w va n (fun j => .string (tx j))) (hb : zah w vb n (fun j => .string (tx j))) (hn : n ≤ 4398046511104) :
  Calls Tryz.prog 12 #[.agg #[.int .i64 cap, va], .agg #[.int .i64 cap, vb]] w fun e w' => e = .returned (.bool true) ∧ Ext w w' := by
 have hcon := zi (fun W (hW : Ext w W) => zbF va vb n tx W (ha.ext hW) (hb.ext hW) hn)
 obtain ⟨ao, ca, rfl, _, _⟩ := ha
 obtain ⟨bo, cbp, rfl, _, _⟩ := hb
 go_enter Tryz.func12, Tryz.ntmps12
 go_wp2_with fail
 refine ((zg hcon) _ (((Ext.refl _).alloc _).alloc _)).mono ?_
 rintro e w1 ⟨rfl, F1⟩
 go_wp2
 go_ret
 exact ⟨rfl, (((Ext.refl _).alloc _).alloc _).trans F1⟩
theorem zij {H : Type} {enc : TypeId × Value → H} {W : World} {v : Value} {d : DataW H} {p : List MemPlace} {base : Nat} {r : Reach}
  (hv : Value.okWide Tryz.prog W r base 32 v) (h : DataW.Trod enc Tryz.prog W 0 (fun _ => true) true 32 v d p) :
  ∃ (cap : Int) (u : Value) (n : Nat) (tx : Nat → ByteArray), v = .agg #[.int .i64 cap, u] ∧ zah W u n (fun j => .string (tx j)) ∧ n ≤ maxLen ∧ ∀ j, j < n → (tx j).size ≤ maxLen := by
 obtain ⟨cs, rfl, hsz⟩ := okWide_struct Tryz.underlying32 hv
 obtain ⟨fuel, hf⟩ := h
 obtain ⟨xs, n, _, _, _, hlen, hx⟩ := DataW.trod_struct Tryz.underlying32 hf
 have h2 : Tryz.prog.cellsOf 32 = 2 := by kernel_rfl
 rw [h2] at hsz
 obtain ⟨l⟩ := cs
 have ki : Tryz.prog.cellsOf 3 = 1 := by kernel_rfl
 have ku : Tryz.prog.cellsOf 28 = 1 := by kernel_rfl
 match l, hsz, xs, hlen with
 | [c0, c1], _, [x0, x1], _ =>
  have t0 : DataW.trod enc Tryz.prog W 0 (fun _ => true) true n 3 [c0] = some x0 := by
   have := hx 0 _ rfl
   simpa [Value.cells, ki] using this
  have t1 : DataW.trod enc Tryz.prog W 0 (fun _ => true) true n 28 [c1] = some x1 := by
   have := hx 1 _ rfl
   simpa [Value.cells, ku] using this
  obtain ⟨n1, e1, _, _⟩ := DataW.trod_int Tryz.underlying3 t0
  obtain ⟨m, tx, g1, g2, g3⟩ := zdj Tryz.underlying28 Tryz.underlying9 (by kernel_rfl) t1
  simp at e1
  subst e1
  exact ⟨n1, c1, m, tx, rfl, g1, g2, g3⟩
end Go.Proofs.YtmlkpdbfnffoaaaGreatDoor

namespace Go.Proofs.YtmlkpdbfnffoaaaGreatDoor
open Go.RowKit
def HBox (W : World) (B : Nat) (cap : Int) (v : Value) : Prop := W.cell? ⟨B, 0, none⟩ = some (.int .i64 cap) ∧ W.cell? ⟨B, 1, none⟩ = some v
theorem HBox.fr {S : Nat → Prop} {W W' : World} {B : Nat} {cap : Int} {v : Value} (h : HBox W B cap v) (hf : Fr S W W') (hS : ¬ S B) : HBox W' B cap v := by
 have hb := hf.block B (zb2 h.1) hS
 exact ⟨(World.cell?_of_block (a := ⟨B, 0, none⟩) hb).trans h.1, (World.cell?_of_block (a := ⟨B, 1, none⟩) hb).trans h.2⟩
theorem HBox.ext {W W' : World} {B : Nat} {cap : Int} {v : Value} (h : HBox W B cap v) (he : Ext W W') : HBox W' B cap v := ⟨he.cell h.1, he.cell h.2⟩
theorem zgg (base : Nat) (cap : Int) (v : Value) (n : Nat) (A : Nat → Value) (k : Int) (w : World) (hv : zaD w base 9 v n A) (hn : n ≤ 1099511627776) (hk : 0 ≤ k) (hk2 : k ≤ 1099511627776) :
  Calls Tryz.prog 15 #[.agg #[.int .i64 cap, v], .int .i64 k] w fun e w' => e = .returned (.int .i64 (k + (n : Int))) ∧ zaD w' base 9 v n (mkS k) ∧ Fr (fun g => v.ownBlock = some g) w w' := by
 have hcon := zi (fun W (hW : Ext w W) => zbz base v n A k W (hv.ext hW) hn hk hk2)
 rcases hv.form with ⟨rfl, h0⟩ | ⟨g, cap', rfl⟩
 all_goals
  go_enter Tryz.func15, Tryz.ntmps15
  go_wp2_with fail
  refine ((zg hcon) _ ((Ext.refl _).alloc _)).mono ?_
  rintro e w1 ⟨rfl, O1, F1⟩
  have HO := zi O1
  clear O1
  go_wp2
  go_ret
  exact ⟨za6 (by omega), zg HO, Fr.tr (Fr.of_ext ((Ext.refl _).alloc _)) F1⟩
theorem zga (cap : Int) (v : Value) (n : Nat) (k : Int) (w : World) (hv : zah w v n (mkS k)) (hn : n ≤ 1099511627776) (hk : 0 ≤ k) (hk2 : k ≤ 1099511627776) :
  Calls Tryz.prog 18 #[.agg #[.int .i64 cap, v], .int .i64 k] w fun e w' => e = .returned (.int .i64 (k + (n : Int))) ∧ Ext w w' := by
 have hcon := zi (fun W (hW : Ext w W) => zbx v n k W (hv.ext hW) hn hk hk2)
 obtain ⟨ao, ca, rfl, _, _⟩ := hv
 have hp : ¬ k + (n : Int) < 0 := by omega
 go_enter Tryz.func18, Tryz.ntmps18
 go_wp2_with fail
 refine ((zg hcon) _ ((Ext.refl _).alloc _)).mono ?_
 rintro e w1 ⟨rfl, F1⟩
 go_wp2
 go_ret
 exact ⟨rfl, ((Ext.refl _).alloc _).trans F1⟩
def ze3 (cap : Int) (n : Nat) (A : Nat → Value) : Kd where
 R w v := ∃ x, v = .agg #[.int .i64 cap, x] ∧ zah w x n A
 O w b S v := ∃ x, v = .agg #[.int .i64 cap, x] ∧ zaD w b 9 x n A ∧ ∀ g, S g ↔ x.ownBlock = some g
 rext := fun ⟨x, e, h⟩ E => ⟨x, e, h.ext E⟩
 oext := fun ⟨x, e, h, k⟩ E => ⟨x, e, h.ext E, k⟩
 ofr := fun ⟨x, e, h, k⟩ F hS => ⟨x, e, h.fr F (fun g hg => hS g ((k g).2 hg)), k⟩
 reads := fun ⟨x, e, h, _⟩ => ⟨x, e, h.reads⟩
 lt := fun ⟨_, _, h, k⟩ g hg => h.lt g ((k g).1 hg)
theorem ze9 {cap : Int} {n : Nat} {A : Nat → Value} {w : World} {b : Nat} {x : Value} (h : zaD w b 9 x n A) : (ze3 cap n A).O w b (fun g => x.ownBlock = some g) (.agg #[.int .i64 cap, x]) := ⟨x, rfl, h, fun _ => Iff.rfl⟩
theorem zgY {cap : Int} {n : Nat} {A : Nat → Value} {w : World} {v : Value} (h : (ze3 cap n A).R w v) : ∃ a c, v = .agg #[.int .i64 cap, .slice a n c] := by
 obtain ⟨x, rfl, a, c, rfl, _⟩ := h
 exact ⟨a, c, rfl⟩
theorem zlj (cap : Int) (n : Nat) (tx : Nat → ByteArray) (hn : n ≤ 4398046511104) : zjz 12 (ze3 cap n (fun j => .string (tx j))) := by
 rintro w a b ⟨x, rfl, hx⟩ ⟨y, rfl, hy⟩
 exact zgu cap x y n tx w hx hy hn
theorem zh4 (cap : Int) (n : Nat) (A : Nat → Value) (hn : n ≤ 1048576) : zd4 15 (ze3 cap n A) (fun k => ze3 cap n (mkS k)) n := by
 rintro w b S v k ⟨x, rfl, hx, hS⟩ h0 h1
 refine (zgg b cap x n A k w hx (by omega) h0 (by omega)).mono ?_
 rintro e w' ⟨rfl, o, F⟩
 exact ⟨rfl, ⟨x, rfl, o, hS⟩, F.mono (fun g hg => (hS g).2 hg)⟩
theorem zlV (cap : Int) (n : Nat) (hn : n ≤ 1048576) : zfO 18 (fun k => ze3 cap n (mkS k)) n := by
 rintro w v k ⟨x, rfl, hx⟩ h0 h1
 exact zga cap x n k w hx (by omega) h0 (by omega)
def mkU (k : Int) (j : Nat) : Value := .string (mtx (k + 2 * (j : Int) + 1))
theorem zaR.setA {w : World} {base : Nat} {T : TypeId} {n : Nat} {A B : Nat → Value} {g cap j : Nat} (h : zaR w base T (.slice (some ⟨g, 0, none⟩) n cap) n A B) (hj : j < n) (u : Value) :
  zaR (w.setCell ⟨g, j * 2, none⟩ u) base T (.slice (some ⟨g, 0, none⟩) n cap) n (fun i => if i = j then u else A i) B := by
 obtain ⟨ys, h1, h2⟩ := h
 have hl := h1.1
 refine ⟨_, (h1.stored (j * 2) u).1, fun i hi => ?_⟩
 dsimp only
 by_cases e : i = j
 ·subst e
  rw [if_pos rfl, List.getElem?_set_self (by omega), List.getElem?_set_ne (by omega)]
  exact ⟨rfl, (h2 i hi).2⟩
 ·rw [if_neg e, List.getElem?_set_ne (by omega), List.getElem?_set_ne (by omega)]
  exact h2 i hi
theorem zaR.setB {w : World} {base : Nat} {T : TypeId} {n : Nat} {A B : Nat → Value} {g cap j : Nat} (h : zaR w base T (.slice (some ⟨g, 0, none⟩) n cap) n A B) (hj : j < n) (u : Value) :
  zaR (w.setCell ⟨g, j * 2 + 1, none⟩ u) base T (.slice (some ⟨g, 0, none⟩) n cap) n A (fun i => if i = j then u else B i) := by
 obtain ⟨ys, h1, h2⟩ := h
 have hl := h1.1
 refine ⟨_, (h1.stored (j * 2 + 1) u).1, fun i hi => ?_⟩
 dsimp only
 by_cases e : i = j
 ·subst e
  rw [if_pos rfl, List.getElem?_set_ne (by omega), List.getElem?_set_self (by omega)]
  exact ⟨(h2 i hi).1, rfl⟩
 ·rw [if_neg e, List.getElem?_set_ne (by omega), List.getElem?_set_ne (by omega)]
  exact h2 i hi
theorem zhG (base : Nat) (v : Value) (n : Nat) (A B : Nat → Value) (k : Int) (w : World) (hv : zaR w base 132 v n A B) (hn : n ≤ 1048576) (hk : 0 ≤ k) (hk2 : k ≤ 1099511627776) :
  Calls Tryz.prog 64 #[v, .int .i64 k] w fun e w' => e = .returned (.int .i64 (k + 2 * (n : Int))) ∧ zaR w' base 132 v n (mkT k) (mkU k) ∧ Fr (fun g => v.ownBlock = some g) w w' := by
 have HV := zi hv
 rcases hv.form with ⟨rfl, h0⟩ | ⟨g, cap, rfl⟩
 ·subst h0
  clear hv
  go_enter Tryz.func64, Tryz.ntmps64
  go_wp2
  go_loop [1, 5] (fun a i => a = .int .i64 k ∧ i = .int .i64 0) (fun _ _ => 0)
  case atStart => exact ⟨rfl, rfl⟩
  case round =>
   obtain ⟨rfl, rfl⟩ := hrel
   go_wp2
   go_ret
   exact ⟨za6 (by simp), (zg HV).congr (fun j hj => by omega), Fr.refl _ _⟩
 ·clear hv
  go_enter Tryz.func64, Tryz.ntmps64
  go_wp2
  go_loopw [1, 5] (fun a i wr => ∃ j : Nat, j ≤ n ∧ a = .int .i64 (k + 2 * (j : Int)) ∧ i = .int .i64 j ∧ Hid (zaR wr base 132 (.slice (some ⟨g, 0, none⟩) n cap) n (fun i => if i < j then mkT k i else A i) (fun i => if i < j then mkU k i else B i)) ∧ Hid (Fr (fun q => (Value.slice (some ⟨g, 0, none⟩) n cap).ownBlock = some q) w wr)) (fun _ i _ => n - (intOf i).toNat)
  case atStart => exact ⟨0, Nat.zero_le _, by go_num, rfl, (zg HV).congr (fun j hj => ⟨by simp, by simp⟩), Fr.refl _ _⟩
  case round =>
   obtain ⟨j, hj, rfl, rfl, HO, HF⟩ := hrel
   by_cases hlt : j < n
   ·have bj : (j : Int) < (n : Int) := by omega
    obtain ⟨K, hK⟩ : ∃ K, K = k + 2 * (j : Int) := ⟨_, rfl⟩
    have HK := zi hK
    have hKb : 0 ≤ K ∧ K ≤ 1099513724928 := by omega
    rw [← hK]
    clear hK
    go_wp2_with fail
    refine (zbP K _ (by omega)).mono ?_
    rintro e w1 ⟨rfl, F1⟩
    have hO1 := (zg HO).ext F1
    obtain ⟨⟨c0, f0⟩, c1, f1⟩ := hO1.cell hlt
    have HS1 := zi (hO1.setA hlt (.string (mtx K)))
    have HF1 := zi (((zg HF).grown F1 (fun q hq => by simp at hq)).setCell (a := ⟨g, j * 2, none⟩) rfl (.string (mtx K)))
    clear hO1
    go_wp2_with fail
    refine (zbP (K + 1) _ (by omega)).mono ?_
    rintro e w2 ⟨rfl, F2⟩
    have hO2 := (zg HS1).ext F2
    obtain ⟨⟨d0, e0⟩, d1, e1⟩ := hO2.cell hlt
    have HS := zi ((hO2.setB hlt (.string (mtx (K + 1)))).congr (A' := fun i => if i < j + 1 then mkT k i else A i) (B' := fun i => if i < j + 1 then mkU k i else B i) (fun i hi => by
     by_cases e : i = j
     ·subst e
      rw [if_pos rfl, if_pos rfl, if_pos (by omega), if_pos (by omega), mkT, mkU, ← zg HK]
      exact ⟨rfl, rfl⟩
     ·rw [if_neg e, if_neg e]
      by_cases e2 : i < j
      ·rw [if_pos e2, if_pos e2, if_pos (by omega), if_pos (by omega)]; exact ⟨rfl, rfl⟩
      ·rw [if_neg e2, if_neg e2, if_neg (by omega), if_neg (by omega)]; exact ⟨rfl, rfl⟩))
    have HF2 := zi (((zg HF1).grown F2 (fun q hq => by simp at hq)).setCell (a := ⟨g, j * 2 + 1, none⟩) rfl (.string (mtx (K + 1))))
    clear hO2
    go_wp2
    go_roundw
    case rel => exact ⟨j + 1, by omega, by rw [zg HK]; go_num, by go_num, HS, HF2⟩
    case measure => simp [intOf]; omega
   ·obtain rfl : j = n := by omega
    have HFIN := zi ((zg HO).congr (A' := mkT k) (B' := mkU k) (fun i hi => ⟨by simp [hi], by simp [hi]⟩))
    go_wp2
    go_ret
    exact ⟨rfl, zg HFIN, zg HF⟩
theorem zhD (v : Value) (n : Nat) (k : Int) (w : World) (hv : zaH w v n (mkT k) (mkU k)) (hn : n ≤ 1048576) (hk : 0 ≤ k) (hk2 : k ≤ 1099511627776) :
  Calls Tryz.prog 66 #[v, .int .i64 k] w fun e w' => e = .returned (.int .i64 (k + 2 * (n : Int))) ∧ Ext w w' := by
 obtain ⟨ao, ca, rfl, hca, hxa⟩ := hv
 by_cases h0 : n = 0
 ·subst h0
  clear hxa
  go_enter Tryz.func66, Tryz.ntmps66
  go_wp2
  go_loop [1, 5] (fun a i => a = .int .i64 k ∧ i = .int .i64 0) (fun _ _ => 0)
  case atStart => exact ⟨rfl, rfl⟩
  case round =>
   obtain ⟨rfl, rfl⟩ := hrel
   go_wp2
   go_ret
   exact ⟨za6 (by simp), Ext.refl _⟩
 ·obtain ⟨b, off, rfl, hc⟩ := hxa (by omega)
  have HC := zi hc
  clear hxa hc
  go_enter Tryz.func66, Tryz.ntmps66
  go_wp2
  go_loopw [1, 5] (fun a i wr => ∃ j : Nat, j ≤ n ∧ a = .int .i64 (k + 2 * (j : Int)) ∧ i = .int .i64 j ∧ Ext w wr) (fun _ i _ => n - (intOf i).toNat)
  case atStart => exact ⟨0, Nat.zero_le _, by go_num, rfl, Ext.refl _⟩
  case round =>
   obtain ⟨j, hj, rfl, rfl, hext⟩ := hrel
   by_cases hlt : j < n
   ·have bj : (j : Int) < (n : Int) := by omega
    have hcc := (zg HC) j hlt
    have g1 := hext.cell hcc.1
    have g2 := hext.cell hcc.2
    simp only [mkT, mkU] at g1 g2
    obtain ⟨K, hK⟩ : ∃ K, K = k + 2 * (j : Int) := ⟨_, rfl⟩
    have HK := zi hK
    have hKb : 0 ≤ K ∧ K ≤ 1099513724928 := by omega
    rw [← hK] at g1 g2 ⊢
    clear hK hcc
    have G2 := zi g2
    clear g2
    go_wp2
    go_region_held3 (fun W => Ext wr W ∧ W.cell? ⟨b, off + j * 2, none⟩ = some (.string (mtx K))) (first | exact ⟨(Ext.refl wr).drew, g1⟩ | exact ⟨(Ext.refl wr).drew.trans he', he'.cell g1⟩) (first | (go_at_call 65; refine (zbP K _ (by omega)).mono ?_; rintro e w' ⟨rfl, he'⟩))
    rename_i hS
    have hE := hext.trans hS.1
    have g3 := hS.1.cell (zg G2)
    have hF := hS.1
    clear hS g1
    go_wp2
    go_region_held3 (fun W => Ext wr W ∧ W.cell? ⟨b, off + j * 2 + 1, none⟩ = some (.string (mtx (K + 1)))) (first | exact ⟨hF.drew, g3⟩ | exact ⟨hF.drew.trans he2, he2.cell g3⟩) (first | (go_at_call 65; refine (zbP (K + 1) _ (by omega)).mono ?_; rintro e w'' ⟨rfl, he2⟩))
    rename_i hS
    have hE := hext.trans hS.1
    clear hS
    go_wp2
    go_roundw
    case rel => exact ⟨j + 1, by omega, by rw [zg HK]; go_num, by go_num, hE⟩
    case measure => simp [intOf]; omega
   ·obtain rfl : j = n := by omega
    go_wp2
    go_ret
    exact ⟨rfl, hext⟩
theorem ziB (base : Nat) (a b c : ByteArray) (v : Value) (n : Nat) (A B : Nat → Value) (k : Int) (w : World) (hv : zaR w base 132 v n A B) (hn : n ≤ 1048576) (hk : 0 ≤ k) (hk2 : k ≤ 1099511627776) :
  Calls Tryz.prog 39 #[.agg #[.string a, .string b, .string c, v], .int .i64 k] w fun e w' => e = .returned (.int .i64 (k + 2 * (n : Int))) ∧ zaR w' base 132 v n (mkT k) (mkU k) ∧ Fr (fun g => v.ownBlock = some g) w w' := by
 have HC := zi (fun U (hU : Ext w U) => zhG base v n A B k U (hv.ext hU) hn hk hk2)
 clear hv
 go_enter Tryz.func39, Tryz.ntmps39
 go_wp2_with fail
 refine ((zg HC) _ ((Ext.refl w).alloc _)).mono ?_
 rintro e w1 ⟨rfl, o1, F1⟩
 have O1 := zi o1
 clear o1
 go_wp2
 go_ret
 exact ⟨rfl, zg O1, ⟨F1.os, F1.tape, F1.output, Nat.le_trans ((Ext.refl w).alloc _).size F1.size, fun i hi hn => (F1.block i (Nat.lt_of_lt_of_le hi ((Ext.refl w).alloc _).size) hn).trans (((Ext.refl w).alloc _).heap hi)⟩⟩
theorem ziH (a b c : ByteArray) (v : Value) (n : Nat) (k : Int) (w : World) (hv : zaH w v n (mkT k) (mkU k)) (hn : n ≤ 1048576) (hk : 0 ≤ k) (hk2 : k ≤ 1099511627776) :
  Calls Tryz.prog 42 #[.agg #[.string a, .string b, .string c, v], .int .i64 k] w fun e w' => e = .returned (.int .i64 (k + 2 * (n : Int))) ∧ Ext w w' := by
 have HC := zi (fun U (hU : Ext w U) => zhD v n k U (hv.ext hU) hn hk hk2)
 clear hv
 have hneg : ¬ k + 2 * (n : Int) < 0 := by omega
 go_enter Tryz.func42, Tryz.ntmps42
 go_wp2_with fail
 refine ((zg HC) _ ((Ext.refl w).alloc _)).mono ?_
 rintro e w1 ⟨rfl, F1⟩
 go_wp2
 go_ret
 exact ⟨rfl, ((Ext.refl w).alloc _).trans F1⟩
end Go.Proofs.YtmlkpdbfnffoaaaGreatDoor

namespace Go.Proofs.YtmlkpdbfnffoaaaGreatDoor
open Go.ChangeShapes Go.WideShapes Go.ChangeAt Go.RowKit Go.Deep
theorem zkB {H : Type} {enc : TypeId × Value → H} {W : World} {fuel : Nat} {v : Value} {x : DataW H × List MemPlace}
  (h : DataW.trod enc Tryz.prog W 0 (fun _ => true) true fuel 22 [v] = some x) : ∃ (n : Nat) (tx hf : Nat → ByteArray), zaH W v n (fun j => .string (tx j)) (fun j => .string (hf j)) ∧ n ≤ maxLen ∧ ∀ j, j < n → (tx j).size ≤ maxLen ∧ (hf j).size ≤ maxLen := by
 rcases open_slice_pairs Tryz.underlying22 Tryz.underlying118 (by kernel_rfl) rfl rfl (by kernel_rfl) (by kernel_rfl) h with ⟨hcs, _⟩ | ⟨a, len, cap, m, n, V0, V1, D0, D1, P0, P1, hcs, _, hl, hm, hmm, _, hx⟩
 ·simp at hcs
  subst hcs
  exact ⟨0, fun _ => { data := #[] }, fun _ => { data := #[] }, ⟨none, 0, rfl, Nat.le_refl _, fun h => by omega⟩, by simp, fun j hj => by omega⟩
 ·simp at hcs
  subst hcs
  simp at hmm
  have each : ∀ i, i < len → ∃ q : ByteArray × ByteArray, V0 i = .string q.1 ∧ V1 i = .string q.2 ∧ q.1.size ≤ maxLen ∧ q.2.size ≤ maxLen := by
   intro i hi
   obtain ⟨_, _, t0, t1⟩ := hx i (by omega)
   obtain ⟨s, e0, _, hs⟩ := DataW.trod_string Tryz.underlying9 t0
   obtain ⟨b, e1, _, hb⟩ := DataW.trod_string Tryz.underlying9 t1
   simp at e0 e1
   exact ⟨(s, b), e0, e1, hs, hb⟩
  obtain ⟨q, hq⟩ := choose_lt each
  refine ⟨len, fun i => (q i).1, fun i => (q i).2, ⟨some a, cap, rfl, hl, fun hp => ?_⟩, by omega, fun j hj => (hq j hj).2.2⟩
  have ha := zg1 (by simpa using (hx 0 (by omega)).1)
  refine ⟨a.block, a.off, by rw [← ha], fun j hj => ?_⟩
  obtain ⟨c0, c1, _, _⟩ := hx j (by omega)
  rw [ha, Addr.add_lit] at c0 c1
  rw [(hq j hj).1] at c0
  rw [(hq j hj).2.1] at c1
  exact ⟨c0, by simpa [Nat.add_assoc] using c1⟩
end Go.Proofs.YtmlkpdbfnffoaaaGreatDoor
