import Derived.Test.YtmlkpdbfnffoaaaGreatDoorPaintM
import Derived.Test.YtmlkpdbfnffoaaaGreatDoorSesMark
import Derived.Deep.RegionLawGrows
set_option maxHeartbeats 4000000
set_option maxRecDepth 10000
namespace Go.Proofs.YtmlkpdbfnffoaaaGreatDoor
open Go.RowKit
theorem cvA (z : Int) (W : World) (b : Nat) (h : W.cell? ⟨b, 0, none⟩ = some (.int .u8 z)) : (convert 25 9 (.slice (some ⟨b, 0, none⟩) 1 1)).run Tryz.prog W = .ok (.string (zv [z])) W :=
 zdF _ _ _ _ Tryz.underlying25 Tryz.underlying5 Tryz.underlying9 _ [z] ⟨some ⟨b, 0, none⟩, 1, rfl, by simp, fun _ => ⟨b, 0, rfl, fun j hj => by
  have : j = 0 := by simp at hj; omega
  subst this
  simpa [at0] using h⟩⟩
theorem zhO : ∀ (f : Nat) (n : Int), n.toNat ≤ f → 0 < n → n ≤ 99999999 → ∀ w : World, Calls Tryz.prog 188 #[.int .i64 n] w fun e w' => e = .returned (.string (zv (dg n.toNat))) ∧ Ext w w'
 | 0, n, h, h0, _, _ => by omega
 | f + 1, n, h, h0, h1, w => by
  have hst := zfd n.toNat (by omega)
  by_cases hm : n < 10
  ·have e0 : dg (n.toNat / 10) = [] := by rw [show n.toNat / 10 = 0 by omega]; rfl
   have hfin : Hid (zv (dg n.toNat) = zv [48 + n]) := by
    refine zi ?_
    rw [hst, e0, show ((n.toNat % 10 : Nat) : Int) = n by omega]; rfl
   have hc := cvA (48 + n)
   clear hst e0 h
   go_enter Tryz.func188, Tryz.ntmps188
   go_wp2
   go_ret
   exact ⟨zdB (zg hfin).symm, (Ext.refl _).alloc _⟩
  ·have hb : ¬ n < 10 := by omega
   have hw1 : IntKind.i64.wrap (n.tdiv 10) = n / 10 := by rw [IntKind.wrap_i64, Int.tdiv_eq_ediv_of_nonneg (by omega)]; omega
   have hw2 : n.tmod 10 = n % 10 := Int.tmod_eq_emod_of_nonneg (by omega)
   have hw4 : IntKind.u8.wrap (IntKind.i64.wrap (48 + n.tmod 10)) = 48 + n % 10 := by rw [hw2, IntKind.wrap_i64, IntKind.wrap_u8]; omega
   obtain ⟨z, hz⟩ : ∃ z, z = IntKind.u8.wrap (IntKind.i64.wrap (48 + n.tmod 10)) := ⟨_, rfl⟩
   have hz4 := hz.trans hw4
   have hc := cvA z
   rw [hz] at hc
   have ih := zi (fun w => zhO f (n / 10) (by omega) (by omega) (by omega) w)
   rw [← hw1] at ih
   have hl := zfg 8 (n / 10).toNat (by omega)
   have hs1 : (zv (dg (n / 10).toNat)).size + (zv [z]).size ≤ 9223372036854775807 := by rw [zai, zai]; simp; omega
   have hadd := fun W => run_string_add_sum (P := Tryz.prog) W _ _ hs1
   rw [zbX, ← hw1, hz] at hadd
   have hfin : Hid (zv (dg n.toNat) = zv (dg (IntKind.i64.wrap (n.tdiv 10)).toNat ++ [IntKind.u8.wrap (IntKind.i64.wrap (48 + n.tmod 10))])) := by
    refine zi ?_
    rw [hst, hw1, hw4, show n.toNat / 10 = (n / 10).toNat by omega, show ((n.toNat % 10 : Nat) : Int) = n % 10 by omega]
   clear hst hs1 hl h hw1 hw2 hw4 hz4 hz
   go_enter Tryz.func188, Tryz.ntmps188
   go_wp2
   go_region_held_law (fun W => Ext w W) (repeat' first | exact Ext.refl _ | exact hE5 | refine Ext.drew ?_ | refine Ext.alloc ?_ _) (first | (go_at_call 188; refine ((zg ih) _).mono ?_; rintro e w1 ⟨rfl, hE⟩; obtain ⟨hr1, _⟩ := hE.rules; have hE5 : Ext w w1 := Ext.trans (by repeat' first | exact Ext.refl _ | refine Ext.drew ?_ | refine Ext.alloc ?_ _) hE; clear hE))
   all_goals
    go_wp2
    go_ret
    refine ⟨zdB (zg hfin).symm, ?_⟩
    repeat' first | exact Ext.refl _ | exact hE5 | refine Ext.drew ?_ | refine Ext.alloc ?_ _
theorem zdo (n c : Int) (h1 : n ≤ 99999999) (w : World) :
  Calls Tryz.prog 136 #[.int .i64 n, .string (zv [c])] w fun e w' => e = .returned (.string (zv (goL n c))) ∧ Ext w w' := by
 by_cases h0 : n ≤ 0
 ·have hfin : Hid (zv (goL n c) = { data := #[] }) := by refine zi ?_; rw [goL, if_pos h0]; rfl
  go_enter Tryz.func136, Tryz.ntmps136
  go_wp2
  go_ret
  exact ⟨zdB (zg hfin).symm, Ext.refl _⟩
 ·have hcon := zi (zhO n.toNat n (Nat.le_refl _) (by omega) h1 w)
  have hl := zfg 8 n.toNat (by omega)
  have e1 : ({ data := #[27, 91] } : ByteArray) = zv [27, 91] := rfl
  have hs1 : (zv [27, 91]).size + (zv (dg n.toNat)).size ≤ 9223372036854775807 := by rw [zai, zai]; simp; omega
  have hadd := fun W => run_string_add_sum (P := Tryz.prog) W _ _ hs1
  obtain ⟨L1, hL1⟩ : ∃ L1, L1 = [27, 91] ++ dg n.toNat := ⟨_, rfl⟩
  have hs2 : (zv L1).size + (zv [c]).size ≤ 9223372036854775807 := by rw [zai, zai, hL1]; simp; omega
  have hadd2 := fun W => run_string_add_sum (P := Tryz.prog) W _ _ hs2
  rw [zbX, ← e1, ← hL1] at hadd
  rw [zbX] at hadd2
  have hfin : Hid (zv (goL n c) = zv (L1 ++ [c])) := by refine zi ?_; rw [goL, if_neg h0, hL1]; rfl
  clear hs1 hs2 hl e1 hL1
  go_enter Tryz.func136, Tryz.ntmps136
  go_wp2_with fail
  refine (zg hcon).mono ?_
  rintro e w1 ⟨rfl, E1⟩
  go_wp2
  go_ret
  exact ⟨zdB (zg hfin).symm, E1⟩
theorem zgj (va vb : Value) (n m : Nat) (tx ty : Nat → ByteArray) (w : World) (ha : zah w va n (fun j => .string (tx j))) (hb : zah w vb m (fun j => .string (ty j))) (hn : n ≤ 1048576) (hm : m ≤ 1048576) (hn0 : 0 < n) (hm0 : 0 < m) (ok : Bool) (hok : ok = true ↔ zf1 n m tx ty) :
  Calls Tryz.prog 220 #[va, vb] w fun e w' => e = .returned (.bool ok) ∧ Ext w w' := by
 obtain ⟨ao, ca, rfl, hca, hxa⟩ := ha
 obtain ⟨bo, cb, rfl, hcb, hxb⟩ := hb
 obtain ⟨b1, o1, rfl, h1⟩ := hxa hn0
 obtain ⟨b2, o2, rfl, h2⟩ := hxb hm0
 have hc := Any.slices_Equal_string Tryz.lays193 b1 o1 n ca b2 o2 m cb ((List.range n).map tx) ((List.range m).map ty) w (by simp) (by simp) (by omega) (by omega)
  (fun j hj => by
   have hj' : j < n := by simpa using hj
   rw [h1 j hj']
   simp [List.getD, hj'])
  (fun j hj => by
   have hj' : j < m := by simpa using hj
   rw [h2 j hj']
   simp [List.getD, hj'])
 refine Calls.mono hc ?_
 rintro e w' ⟨rfl, q, rfl⟩
 refine ⟨zw ?_, (Ext.refl w).drewN q⟩
 rw [List.take_of_length_le (by simp), List.take_of_length_le (by simp)]
 have hiff : ((List.range n).map tx = (List.range m).map ty) ↔ zf1 n m tx ty := by
  constructor
  ·intro h
   have hl := congrArg List.length h
   simp at hl
   subst hl
   refine ⟨rfl, fun j hj => ?_⟩
   have := congrArg (·[j]?) h
   simpa [hj] using this
  ·rintro ⟨rfl, h⟩
   exact List.map_congr_left (fun j hj => h j (by simpa using hj))
 cases hc : ok with
 | true => exact decide_eq_true (hiff.2 (hok.1 hc))
 | false => exact decide_eq_false (fun e => by rw [hok.2 (hiff.1 e)] at hc; cases hc)
theorem heap_cell' {W : World} {p : Nat} {cs : Array Value} {T : TypeId} {fz : Nat × Nat} (h : W.heap[p]? = some (.cells cs T fz)) (i : Nat) (x : Value) (hx : cs[i]? = some x) : W.cell? ⟨p, i, none⟩ = some x := by simp [World.cell?, h, hx]
theorem WF.keep' {B ob : Nat} {W W' : World} {p : Nat} {cs : Array Value} {T : TypeId} {fz : Nat × Nat} (h : WF B ob W W') (hp : W.heap[p]? = some (.cells cs T fz)) (hne : ob ≠ p) (hT : T ≠ 5) : W'.heap[p]? = some (.cells cs T fz) :=
 h.2 _ _ hp (fun e => hne (Option.some.inj e).symm) (fun c f e => by
  injection e with _ e2 _
  exact hT e2)
theorem Ext.keep' {W W' : World} {p : Nat} {o : Obj} (h : Ext W W') (hp : W.heap[p]? = some o) : W'.heap[p]? = some o := (h.heap (Array.getElem?_eq_some_iff.1 hp).1).trans hp
theorem zkc (v : Value) (row col : Int) (n : Nat) (tx : Nat → ByteArray) (hok : bOk n row col) (B ob qb nb : Nat) (bs : List Int) (w : World) (h : WrS w B ob qb nb bs) (hv : zah w v n (fun j => .string (tx j))) (hn : n ≤ 1048576) (hl : bs.length ≤ 1073741824) :
  Calls Tryz.prog 221 #[wrV ob qb nb, blV v row col] w fun e w' => e = .returned (.tuple #[]) ∧ WrS w' B ob qb nb (bs ++ zbB n row col) ∧ WF B ob w w' := by
 have hgl := zbo row 65 (by unfold bOk at hok; omega)
 have e13 : zv [13] = { data := #[13] } := rfl
 have eJ : zv [27, 91, 74] = { data := #[27, 91, 74] } := rfl
 have hc1 := zi (fun W (hW : WrS W B ob qb nb bs) => ze5 [13] (by intro x hx; simp at hx; omega) B ob qb nb bs W hW (by simp; omega))
 have hc2 := zi (fun W (hW : WrS W B ob qb nb (bs ++ [13])) => zkg row (by unfold bOk at hok; omega) B ob qb nb (bs ++ [13]) W hW (by simp; omega))
 have hc3 := zi (fun W (hW : WrS W B ob qb nb (bs ++ [13] ++ goL row 65)) => ze5 [27, 91, 74] (by intro x hx; simp at hx; omega) B ob qb nb (bs ++ [13] ++ goL row 65) W hW (by simp; omega))
 rw [e13] at hc1
 rw [eJ] at hc3
 obtain ⟨ao, cap, rfl, _, _⟩ := hv
 have HS := zi h
 have hob : ob < w.heap.size := Nat.lt_of_lt_of_le h.ltb h.le
 have hbx := zjJ w ob qb nb (.slice ao n cap) row col
 have HE := zi (((Ext.refl w).alloc (.cells (wrV ob qb nb).cells 84)).alloc (.cells (blV (.slice ao n cap) row col).cells 86))
 have hp : Hid (bs ++ zbB n row col = bs ++ [13] ++ goL row 65 ++ [27, 91, 74]) := by refine zi ?_; rw [zbB, if_pos hok]; simp
 clear h hok e13 eJ
 unfold wrV blV at *
 go_enter Tryz.func221, Tryz.ntmps221
 simp only [Value.cells] at hbx HE
 go_wp2_with fail
 obtain ⟨W2, hW2⟩ : ∃ W, W = ((w.alloc (Obj.cells #[Value.func (Fn.func 149) #[] #[.pointer (some ⟨ob, 0, none⟩)], .func (.func 150) #[] #[.pointer (some ⟨nb, 0, none⟩)], .func (.func 151) #[] #[.pointer (some ⟨nb, 0, none⟩)], .func (.func 152) #[] #[.pointer (some ⟨qb, 0, none⟩)], .func (.func 153) #[] #[.pointer (some ⟨ob, 0, none⟩)]] 84)).alloc (Obj.cells #[.slice ao n cap, .int .i64 row, .int .i64 col] 86)) := ⟨_, rfl⟩
 rw [← hW2] at hbx HE ⊢
 clear hW2
 refine ((zg hc1) _ ((zg HS).on (zg HE))).mono ?_
 rintro e w4 ⟨rfl, hS4, hF4⟩
 have HS4 := zi hS4
 have HF4 := zi ((WF.of_ext (zg HE)).tr hF4)
 have hb4 := hbx.wf hF4 hob
 have HB4 := zi hb4
 obtain ⟨⟨a04, a14, a24, a34⟩, b04, b14, b24⟩ := hb4.cells
 clear hS4 hF4 hb4 hbx
 go_wp2_with fail
 refine ((zg hc2) _ (zg HS4)).mono ?_
 rintro e w5 ⟨rfl, hS5, hF5⟩
 have HS5 := zi hS5
 have HF5 := zi ((zg HF4).tr hF5)
 have hb5 := (zg HB4).wf hF5 hob
 obtain ⟨⟨a05, a15, a25, a35⟩, b05, b15, b25⟩ := hb5.cells
 clear hS5 hF5 hb5
 go_wp2_with fail
 refine ((zg hc3) _ (zg HS5)).mono ?_
 rintro e w6 ⟨rfl, hS6, hF6⟩
 have HS6 := zi hS6
 have HF6 := zi ((zg HF5).tr hF6)
 clear hS6 hF6
 go_wp2
 exact bodyPost_end (v := .tuple #[]) (by simp [results, Tryz.results221, go_sem]) rfl ⟨rfl, by rw [zg hp]; exact zg HS6, zg HF6⟩
def za8 (n1 : Nat) (r1 c1 : Int) (n2 : Nat) (ty : Nat → ByteArray) (r2 c2 : Int) (same : Bool) : List Int :=
 @ite _ (bOk n1 r1 c1 ∧ bOk n2 r2 c2) (@instDecidableAnd _ _ (bOkD n1 r1 c1) (bOkD n2 r2 c2)) ((if same = true then goL (r1 - r2) 65 ++ (goL (r2 - r1) 66 ++ (if c1 = c2 then [] else goL (c2 + 1) 71)) else zbB n1 r1 c1 ++ zbj n2 ty r2 c2)) []
theorem zi4 (n1 : Nat) (r1 c1 : Int) (n2 : Nat) (ty : Nat → ByteArray) (r2 c2 : Int) (same : Bool) (h1 : n1 ≤ 1048576) (h2 : n2 ≤ 1048576) : (za8 n1 r1 c1 n2 ty r2 c2 same).length ≤ za4 ty n2 + 2 * n2 + 100 := by
 unfold za8
 split
 ·rename_i h
  obtain ⟨a, b⟩ := h
  unfold bOk at a b
  split
  ·have g1 := zbo (r1 - r2) 65 (by omega)
   have g2 := zbo (r2 - r1) 66 (by omega)
   have g3 := zbo (c2 + 1) 71 (by omega)
   split
   ·simp only [List.length_append, List.length_nil]; omega
   ·simp only [List.length_append]; omega
  ·have e1 := zeE n1 r1 c1 h1
   have e2 := zgv n2 ty r2 c2 h2
   simp only [List.length_append]; omega
 ·simp
theorem zje (v1 v2 : Value) (r1 c1 r2 c2 : Int) (n1 n2 : Nat) (tx ty : Nat → ByteArray) (ok1 : bOk n1 r1 c1) (ok2 : bOk n2 r2 c2) (same : Bool) (hsame : same = true ↔ zf1 n1 n2 tx ty) (B ob qb nb : Nat) (bs : List Int) (w : World) (h : WrS w B ob qb nb bs) (hbl : bs.length ≤ 1073700000)
  (hv1 : ∀ W, WF B ob w W → zah W v1 n1 (fun j => .string (tx j))) (hv2 : ∀ W, WF B ob w W → zah W v2 n2 (fun j => .string (ty j))) (hn1 : n1 ≤ 1048576) (hn2 : n2 ≤ 1048576) (hs2 : za4 ty n2 ≤ 1048576) :
  Calls Tryz.prog 164 #[wrV ob qb nb, blV v1 r1 c1, blV v2 r2 c2] w fun e w' => e = .returned (.tuple #[]) ∧ WrS w' B ob qb nb (bs ++ za8 n1 r1 c1 n2 ty r2 c2 same) ∧ WF B ob w w' := by
 have hcE := zi (fun W (hW : WF B ob w W) => zgj v1 v2 n1 n2 tx ty W (hv1 W hW) (hv2 W hW) hn1 hn2 (by unfold bOk at ok1; omega) (by unfold bOk at ok2; omega) same hsame)
 have hcR := zi (fun W (hS : WrS W B ob qb nb bs) (hW : WF B ob w W) => zkc v1 r1 c1 n1 tx ok1 B ob qb nb bs W hS (hv1 W hW) hn1 (by omega))
 have hel := zeE n1 r1 c1 hn1
 have hcP := zi (fun W (hS : WrS W B ob qb nb (bs ++ zbB n1 r1 c1)) (hW : WF B ob w W) => zkF v2 r2 c2 n2 ty ok2 B ob qb nb (bs ++ zbB n1 r1 c1) W hS (hv2 W hW) hn2 (by omega) (by rw [List.length_append]; omega))
 obtain ⟨ao, cap, rfl, _, _⟩ := id (hv1 w (WF.refl _ _ _))
 obtain ⟨bo, cbp, rfl, _, _⟩ := id (hv2 w (WF.refl _ _ _))
 clear hv1 hv2
 have HS := zi h
 have hob : ob < w.heap.size := Nat.lt_of_lt_of_le h.ltb h.le
 have hltb := h.ltb
 have ok1' := id ok1
 have ok2' := id ok2
 unfold bOk at ok1' ok2'
 have hx1 := zbO w (.cells (wrV ob qb nb).cells 84)
 obtain ⟨U1, hU1⟩ : ∃ U, U = w.alloc (.cells (wrV ob qb nb).cells 84) := ⟨_, rfl⟩
 have hx2 := zbO U1 (.cells (blV (.slice ao n1 cap) r1 c1).cells 86)
 obtain ⟨U2, hU2⟩ : ∃ U, U = U1.alloc (.cells (blV (.slice ao n1 cap) r1 c1).cells 86) := ⟨_, rfl⟩
 have hx3 := zbO U2 (.cells (blV (.slice bo n2 cbp) r2 c2).cells 86)
 obtain ⟨U3, hU3⟩ : ∃ U, U = U2.alloc (.cells (blV (.slice bo n2 cbp) r2 c2).cells 86) := ⟨_, rfl⟩
 have z1 : U1.heap.size = w.heap.size + 1 := by rw [hU1]; simp
 have z2 : U2.heap.size = w.heap.size + 1 + 1 := by rw [hU2]; simp [z1]
 have e01 : Ext w U1 := by rw [hU1]; exact (Ext.refl w).alloc _
 have e12 : Ext U1 U2 := by rw [hU2]; exact (Ext.refl _).alloc _
 have e23 : Ext U2 U3 := by rw [hU3]; exact (Ext.refl _).alloc _
 rw [← hU1] at hx1
 rw [← hU2, z1] at hx2
 rw [← hU3, z2] at hx3
 have y1 := (e12.trans e23).keep' hx1
 have y2 := e23.keep' hx2
 have HE := zi (e01.trans (e12.trans e23))
 have hU : U3 = ((w.alloc (Obj.cells #[Value.func (Fn.func 149) #[] #[.pointer (some ⟨ob, 0, none⟩)], .func (.func 150) #[] #[.pointer (some ⟨nb, 0, none⟩)], .func (.func 151) #[] #[.pointer (some ⟨nb, 0, none⟩)], .func (.func 152) #[] #[.pointer (some ⟨qb, 0, none⟩)], .func (.func 153) #[] #[.pointer (some ⟨ob, 0, none⟩)]] 84)).alloc (Obj.cells #[.slice ao n1 cap, .int .i64 r1, .int .i64 c1] 86)).alloc (Obj.cells #[.slice bo n2 cbp, .int .i64 r2, .int .i64 c2] 86) := by rw [hU3, hU2, hU1]; rfl
 have HU := zi hU
 clear hU1 hU2 hU3 hx1 hx2 e01 e12 e23 z1 z2 hU h ok1 ok2
 unfold wrV blV at *
 simp only [Value.cells] at y1 y2 hx3
 go_enter Tryz.func164, Tryz.ntmps164
 go_wp2_with fail
 rw [← zg HU]
 have hE3 := WF.of_ext (B := B) (ob := ob) (zg HE)
 refine ((zg hcE) _ hE3).mono ?_
 rintro e w4 ⟨rfl, E4⟩
 have k1 := E4.keep' y1
 have k2 := E4.keep' y2
 have k3 := E4.keep' hx3
 have HS4 := zi ((zg HS).on ((zg HE).trans E4))
 have HF4 := zi (WF.of_ext (B := B) (ob := ob) ((zg HE).trans E4))
 have E04 := hE3.tr (WF.of_ext E4)
 clear y1 y2 hx3 E4 HU
 have a0 := heap_cell' k1 0 _ rfl
 have a1 := heap_cell' k1 1 _ rfl
 have a2 := heap_cell' k1 2 _ rfl
 have a3 := heap_cell' k1 3 _ rfl
 have a4 := heap_cell' k1 4 _ rfl
 have b0 := heap_cell' k2 0 _ rfl
 have b1 := heap_cell' k2 1 _ rfl
 have b2 := heap_cell' k2 2 _ rfl
 have d0 := heap_cell' k3 0 _ rfl
 have d1 := heap_cell' k3 1 _ rfl
 have d2 := heap_cell' k3 2 _ rfl
 have K1 := zi k1
 have K2 := zi k2
 have K3 := zi k3
 clear k1 k2 k3 hE3
 have hne1 : ob ≠ w.heap.size := by omega
 have hne2 : ob ≠ w.heap.size + 1 := by omega
 have hne3 : ob ≠ w.heap.size + 1 + 1 := by omega
 cases hsm : same with
 | false =>
  have hp : Hid (za8 n1 r1 c1 n2 ty r2 c2 false = zbB n1 r1 c1 ++ zbj n2 ty r2 c2) := by refine zi ?_; rw [za8, if_pos ⟨ok1', ok2'⟩]; rfl
  go_wp2_with fail
  refine ((zg hcR) _ (zg HS4) E04).mono ?_
  rintro e w5 ⟨rfl, hS5, hF5⟩
  have k1 := hF5.keep' (zg K1) hne1 (by decide)
  have k3 := hF5.keep' (zg K3) hne3 (by decide)
  have E05 := E04.tr hF5
  have HS5 := zi hS5
  have HF5 := zi ((zg HF4).tr hF5)
  clear a0 a1 a2 a3 a4 b0 b1 b2 d0 d1 d2 hS5 hF5
  have a0 := heap_cell' k1 0 _ rfl
  have a1 := heap_cell' k1 1 _ rfl
  have a2 := heap_cell' k1 2 _ rfl
  have a3 := heap_cell' k1 3 _ rfl
  have a4 := heap_cell' k1 4 _ rfl
  have d0 := heap_cell' k3 0 _ rfl
  have d1 := heap_cell' k3 1 _ rfl
  have d2 := heap_cell' k3 2 _ rfl
  clear k1 k3
  go_wp2_with fail
  refine ((zg hcP) _ (zg HS5) E05).mono ?_
  rintro e w6 ⟨rfl, hS6, hF6⟩
  have HS6 := zi hS6
  have HF6 := zi ((zg HF5).tr hF6)
  clear hS6 hF6
  go_wp2
  exact bodyPost_ret (v := .tuple #[]) (by simp [results, Tryz.results164, go_sem]) rfl ⟨rfl, by rw [hsm, zg hp]; simpa [List.append_assoc] using zg HS6, zg HF6⟩
 | true =>
  have hp : Hid (za8 n1 r1 c1 n2 ty r2 c2 true = goL (r1 - r2) 65 ++ (goL (r2 - r1) 66 ++ (if c1 = c2 then [] else goL (c2 + 1) 71))) := by refine zi ?_; rw [za8, if_pos ⟨ok1', ok2'⟩]; rfl
  have g1 := zbo (r1 - r2) 65 (by omega)
  have g2 := zbo (r2 - r1) 66 (by omega)
  have hc1 := zi (zkg (r1 - r2) (by omega) B ob qb nb bs w4 (zg HS4) (by omega))
  go_wp2_with fail
  refine (zg hc1).mono ?_
  rintro e w5 ⟨rfl, hS5, hF5⟩
  have k1 := hF5.keep' (zg K1) hne1 (by decide)
  have k2 := hF5.keep' (zg K2) hne2 (by decide)
  have k3 := hF5.keep' (zg K3) hne3 (by decide)
  have HS5 := zi hS5
  have HF5 := zi ((zg HF4).tr hF5)
  clear a0 a1 a2 a3 a4 b0 b1 b2 d0 d1 d2 hS5 hF5 K1 K2 K3
  have a2 := heap_cell' k1 2 _ rfl
  have b1 := heap_cell' k2 1 _ rfl
  have d1 := heap_cell' k3 1 _ rfl
  have K1 := zi k1
  have K2 := zi k2
  have K3 := zi k3
  clear k1 k2 k3
  have hc2 := zi (zmW (r2 - r1) (by omega) B ob qb nb _ w5 (zg HS5) (by rw [List.length_append]; omega))
  go_wp2_with fail
  refine (zg hc2).mono ?_
  rintro e w6 ⟨rfl, hS6, hF6⟩
  have k1 := hF6.keep' (zg K1) hne1 (by decide)
  have k2 := hF6.keep' (zg K2) hne2 (by decide)
  have k3 := hF6.keep' (zg K3) hne3 (by decide)
  have HS6 := zi hS6
  have HF6 := zi ((zg HF5).tr hF6)
  clear a2 b1 d1 hS6 hF6
  have a3 := heap_cell' k1 3 _ rfl
  have b2 := heap_cell' k2 2 _ rfl
  have d2 := heap_cell' k3 2 _ rfl
  clear k1 k2 k3
  by_cases hcc : c1 = c2
  ·rw [if_pos hcc, List.append_nil] at hp
   subst hcc
   go_wp2
   exact bodyPost_end (v := .tuple #[]) (by simp [results, Tryz.results164, go_sem]) rfl ⟨rfl, by rw [hsm, zg hp]; simpa [List.append_assoc] using zg HS6, zg HF6⟩
  ·rw [if_neg hcc, ← List.append_assoc] at hp
   have hc3 := zi (zgQ c2 (by omega) (by omega) B ob qb nb _ w6 (zg HS6) (by simp only [List.length_append]; omega))
   go_wp2_with fail
   refine (zg hc3).mono ?_
   rintro e w7 ⟨rfl, hS7, hF7⟩
   have HS7 := zi hS7
   have HF7 := zi ((zg HF6).tr hF7)
   clear hS7 hF7
   go_wp2
   exact bodyPost_end (v := .tuple #[]) (by simp [results, Tryz.results164, go_sem]) rfl ⟨rfl, by rw [hsm, zg hp]; simpa [List.append_assoc] using zg HS7, zg HF7⟩
theorem zhF (v : Value) (row col : Int) (n : Nat) (tx : Nat → ByteArray) (w : World) (hv : zah w v n (fun j => .string (tx j))) (hn : n ≤ 1048576) (hs : za4 tx n ≤ 274877906944) :
  Calls Tryz.prog 129 #[blV v row col] w fun e w' => ∃ u, e = .returned u ∧ w'.ownsRow w.heap.size 5 1 u (zbj n tx row col).length ((zbj n tx row col).map (Value.int .u8)) ∧ Ext w w' := by
 obtain ⟨i0, hi, hz0, hz1, hz2⟩ := zfh
 have hcon := zi (fun W (hW : Ext w W) => zfm v row col n tx W (hv.ext hW))
 obtain ⟨ao, cap, hvv, _, hxa⟩ := id hv
 subst hvv
 have HX := zi hxa
 clear hv hxa
 unfold blV at *
 go_enter Tryz.func129, Tryz.ntmps129
 go_wp2_with fail
 refine ((zg hcon) _ (((Ext.refl _).alloc _).alloc _)).mono ?_
 rintro e w1 ⟨rfl, F1⟩
 have ho0 := F1.owns (World.ownsRow_made (w.alloc (.cells #[.slice ao n cap, .int .i64 row, .int .i64 col] 86)) #[] 0 (Nat.le_refl _) (by unfold maxLen; omega) (by simp) (e := 5) (size := 1))
 have HO0 : Hid (w1.ownsRow (w.heap.size + 1) 5 1 (.slice (some ⟨w.heap.size + 1, 0, none⟩) 0 0) 0 []) := zi (by simpa using ho0)
 obtain ⟨W1, hW1⟩ : ∃ W1, W1 = w.alloc (.cells #[.slice ao n cap, .int .i64 row, .int .i64 col] 86) := ⟨_, rfl⟩
 have q0 : W1.cell? ⟨w.heap.size, 0, none⟩ = some (.slice ao n cap) := by rw [hW1]; simp [go_sem]
 have q1 : W1.cell? ⟨w.heap.size, 1, none⟩ = some (.int .i64 row) := by rw [hW1]; simp [go_sem]
 have q2 : W1.cell? ⟨w.heap.size, 2, none⟩ = some (.int .i64 col) := by rw [hW1]; simp [go_sem]
 have hz9 : W1.heap.size = w.heap.size + 1 := by rw [hW1]; simp
 have EW : Ext w W1 := by rw [hW1]; exact (Ext.refl w).alloc _
 have E1 : Ext W1 w1 := by rw [hW1]; exact ((Ext.refl _).alloc _).trans F1
 clear F1 ho0 hW1
 by_cases hok : bOk n row col
 ·have hp : Hid (zbj n tx row col = zbC tx n ++ (goL ((n : Int) - 1 - row) 65 ++ goL (col + 1) 71)) := by refine zi ?_; rw [zbj, if_pos hok]
  rw [bOk_t hok]
  go_wp2
  go_loopw [3, 4] (fun o i wr => ∃ k : Nat, k ≤ n ∧ i = .int .i64 k ∧ Hid (wr.ownsRow (w.heap.size + 1) 5 1 o (zbC tx k).length ((zbC tx k).map (Value.int .u8))) ∧ Ext W1 wr) (fun _ i _ => n - (intOf i).toNat)
  case atStart => exact ⟨0, Nat.zero_le _, rfl, HO0, E1⟩
  case round =>
   obtain ⟨k, hk, rfl, HO, hext⟩ := hrel
   have c0 := hext.cell q0
   have hE := EW.trans hext
   have hsz := hext.size
   by_cases hlt : k < n
   ·obtain ⟨b, off, hao, hc⟩ := (zg HX) (by omega)
    subst hao
    have g1 := hE.cell (hc k hlt)
    have bk : (k : Int) < (n : Int) := by omega
    have hl1 := zcG tx k
    have hl2 := zk6 tx n (k + 1) (by omega)
    rw [za4] at hl2
    have hstep : Hid (zbC tx (k + 1) = zbC tx k ++ ((if k = 0 then [] else [13, 10]) ++ baL (tx k))) := rfl
    obtain ⟨L, hL⟩ : ∃ L, L = zbC tx k := ⟨_, rfl⟩
    rw [← hL] at HO hl1 hstep
    clear hL
    by_cases k0 : k = 0
    ·subst k0
     rw [if_pos rfl, List.nil_append] at hstep
     rw [Nat.add_zero] at g1
     obtain ⟨cap0, w2, hrun, hcells, E2⟩ := s2i wr (tx 0)
     have HC := zi hcells
     have hsz2 := E2.size
     have hO2 := zi (E2.owns (zg HO))
     clear hcells
     go_wp2_with (at_builtin; go_must (refine wpList_append_own _ rfl _ _ 25 rfl (w.heap.size + 1) 5 i0 (.int .u8 0) 1 1 Tryz.underlying25 hi hz0 hz1 hz2 rfl (by decide) _ _ _ rfl (zg hO2) ⟨wr.heap.size, 0, none⟩ (tx 0).size cap0 ((baL (tx 0)).map (Value.int .u8)) rfl (by simp [zar]) (zg HC) (ints_oneCell _ _) (by unfold maxLen; omega) (by omega) (by omega) ?_); intro v3 w3 ho3 hg3 hq3; rw [← List.map_append, ← zar, ← List.length_append, ← zg hstep] at ho3; have HO3 := zi ho3; have HG3 := zi ((hext.trans E2).grown hg3 (fun k hk => by rw [hz9]; exact ((zg hO2).lt k hk).1)); clear ho3 hg3 hq3)
     go_roundw
     case rel => exact ⟨0 + 1, by omega, by go_num, HO3, zg HG3⟩
     case measure => simp [intOf]; omega
    ·rw [if_neg k0] at hstep
     have hkp : (0 : Int) < (k : Int) := by omega
     have tok1 : True := trivial
     go_wp2_with (first | (at_builtin; have _t := tok1; go_must (refine wpList_append_own _ rfl _ _ 25 rfl (w.heap.size + 1) 5 i0 (.int .u8 0) 1 1 Tryz.underlying25 hi hz0 hz1 hz2 rfl (by decide) _ _ _ rfl ((zg HO).alloc _) ⟨wr.heap.size, 0, none⟩ 2 2 (([13, 10] : List Int).map (Value.int .u8)) rfl rfl (zal _ _) (ints_oneCell _ _) (by unfold maxLen; omega) (by omega) (by simp; omega) ?_); intro v2 w2 ho2 hg2 hq2; rw [← List.map_append, show L.length + 2 = (L ++ [13, 10]).length by simp] at ho2; have hE2 := (hext.alloc _).grown hg2 (fun k hk => by rw [hz9]; exact ((zg HO).lt k hk).1); have hsz2 := hE2.size; have c02 := hE2.cell q0; have g12 := (EW.trans hE2).cell (hc k hlt); obtain ⟨cap0, w3, hrun, hcells, E3⟩ := s2i w2 (tx k); have HC := zi hcells; have hsz3 := E3.size; have hO3 := zi (E3.owns ho2); have HE3 := zi (hE2.trans E3); have hm2b : (L ++ [13, 10]).length = L.length + 2 := (by simp); clear tok1 ho2 hg2 hq2 hcells) | (at_builtin; go_must (refine wpList_append_own _ rfl _ _ 25 rfl (w.heap.size + 1) 5 i0 (.int .u8 0) 1 1 Tryz.underlying25 hi hz0 hz1 hz2 rfl (by decide) _ _ _ rfl (zg hO3) ⟨w2.heap.size, 0, none⟩ (tx k).size cap0 ((baL (tx k)).map (Value.int .u8)) rfl (by simp [zar]) (zg HC) (ints_oneCell _ _) (by unfold maxLen; omega) (by omega) (by omega) ?_); intro v4 w4 ho4 hg4 hq4; rw [← List.map_append, ← zar, ← List.length_append, List.append_assoc, ← zg hstep] at ho4; have HO4 := zi ho4; have HG4 := zi ((zg HE3).grown hg4 (fun k hk => by rw [hz9]; exact ((zg hO3).lt k hk).1)); clear ho4 hg4 hq4))
     go_roundw
     case rel => exact ⟨k + 1, by omega, by go_num, HO4, zg HG4⟩
     case measure => simp [intOf]; omega
   ·obtain rfl : k = n := by omega
    have hb9 : ¬ (k : Int) < (k : Int) := by omega
    have hok' := id hok
    unfold bOk at hok'
    have c1 := hext.cell q1
    have c2 := hext.cell q2
    have hl1 := zcG tx k
    have hg1 := zbo ((k : Int) - 1 - row) 65 (by omega)
    have hg2 := zbo (col + 1) 71 (by omega)
    obtain ⟨X, hX⟩ : ∃ X, X = goL ((k : Int) - 1 - row) 65 ++ goL (col + 1) 71 := ⟨_, rfl⟩
    have hXb : zaj X := by rw [hX]; exact (zcI _ _ (by omega) (by omega)).app (zcI _ _ (by omega) (by omega))
    have hXl : X.length ≤ 22 := by rw [hX, List.length_append]; omega
    have hs1 : (zv (goL ((k : Int) - 1 - row) 65)).size + (zv (goL (col + 1) 71)).size ≤ 9223372036854775807 := by rw [zai, zai]; omega
    have hadd := fun W => run_string_add_sum (P := Tryz.prog) W _ _ hs1
    rw [zbX, ← hX] at hadd
    rw [← hX] at hp
    have hcA := zi (fun W => zdo ((k : Int) - 1 - row) 65 (by omega) W)
    have hcG := zi (fun W => zdo (col + 1) 71 (by omega) W)
    have e65 : zv [65] = { data := #[65] } := rfl
    have e71 : zv [71] = { data := #[71] } := rfl
    rw [e65] at hcA
    rw [e71] at hcG
    have hXX := hX
    clear hs1 hX e65 e71
    have hXp : 0 < X.length := by rw [hXX, List.length_append, goL, goL, if_neg (show ¬ col + 1 ≤ 0 by omega)]; simp; omega
    clear hXX
    have hw1 : IntKind.i64.wrap ((k : Int) - 1) = (k : Int) - 1 := by rw [IntKind.wrap_i64]; omega
    have hw2 : IntKind.i64.wrap ((k : Int) - 1 - row) = (k : Int) - 1 - row := by rw [IntKind.wrap_i64]; omega
    have hw3 : IntKind.i64.wrap (col + 1) = col + 1 := by rw [IntKind.wrap_i64]; omega
    have tokA : True := trivial
    go_wp2
    go_region_held_law (fun W => W.cell? ⟨w.heap.size, 0, none⟩ = some (.slice ao k cap) ∧ W.cell? ⟨w.heap.size, 1, none⟩ = some (.int .i64 row) ∧ W.cell? ⟨w.heap.size, 2, none⟩ = some (.int .i64 col)) (first | exact ⟨c0, c1, c2⟩ | exact ⟨d0, d1, d2⟩ | exact ⟨f0, f1, f2⟩ | exact ⟨k0, k1, k2⟩ | exact ⟨m0, m1, m2⟩)
     (first
      | (go_at_call 136; have _t := tokA; refine ((zg hcA) _).mono ?_; rintro e w2 ⟨rfl, hE2⟩; have E12 := (Ext.refl wr).drew.trans hE2; have d0 := E12.cell c0; have d1 := E12.cell c1; have d2 := E12.cell c2; have HE12 := zi E12; clear hE2 E12 tokA)
      | (go_at_call 136; refine ((zg hcG) _).mono ?_; rintro e w3 ⟨rfl, hE3⟩; have E13 := (zg HE12).trans hE3; have f0 := E13.cell c0; have f1 := E13.cell c1; have f2 := E13.cell c2; obtain ⟨cap4, w4, hrun, hcells, E4⟩ := s2i w3 (zv X); rw [ziY hXb] at hcells; rw [zai] at hrun; have E14 := E13.trans E4; have k0 := E14.cell c0; have k1 := E14.cell c1; have k2 := E14.cell c2; have HC4 := zi hcells; have HE14 := zi E14; have hsz4 := E14.size; clear hE3 E13 E14 hcells)
      | (refine step_append_lies _ (by rfl) _ _ _ (by rfl) (w.heap.size + 1) 5 i0 (.int .u8 0) 1 1 Tryz.underlying25 hi hz0 hz1 hz2 rfl (by decide) _ _ _ (by rfl) ((zg HE14).owns (zg HO)) ⟨w3.heap.size, 0, none⟩ X.length cap4 (X.map (Value.int .u8)) (by rfl) (by simp) (zg HC4) (ints_oneCell _ _) hXp (by unfold maxLen; omega) (by omega) (by omega) _ rfl ?_; intro g5 cap5 w5 ho5 hg5 hq5 hz5; rw [← List.map_append, ← List.length_append, ← zg hp] at ho5; have hE5 := (hext.trans (zg HE14)).grown hg5 (fun j hj => (by rw [hz9]; exact ((zg HO).lt j hj).1)); have m0 := hE5.cell q0; have m1 := hE5.cell q1; have m2 := hE5.cell q2; have HO5 := zi ho5; have HE5 := zi hE5; clear ho5 hg5 hq5 hz5 hE5))
    all_goals
     go_wp2
     refine bodyPost_ret (v := .slice (some ⟨g5, 0, none⟩) ((zbC tx k).length + X.length) cap5) (by simp [results, Tryz.results129]) rfl ⟨_, rfl, ?_, EW.trans (zg HE5)⟩
     have h9 := zg HO5
     have hlen : (zbj k tx row col).length = (zbC tx k).length + X.length := by rw [zg hp, List.length_append]
     rw [hlen] at h9 ⊢
     exact zas h9 (Nat.le_succ _)
 ·have hp : Hid (zbj n tx row col = []) := by refine zi ?_; rw [zbj, if_neg hok]
  rw [bOk_f hok]
  go_wp2
  go_ret
  refine ⟨_, rfl, ?_, EW.trans E1⟩
  rw [zg hp]
  exact zas (zg HO0) (by omega)
def zcr (w : World) (g cap : Nat) (L : List Int) : Prop :=
 ∃ cur : Array Value, w.heap[g]? = some (.cells cur 5 (cur.size, cur.size + 1)) ∧ cur.size = cap ∧ L.length ≤ cap ∧ ∀ j, j < L.length → cur[j]? = some (.int .u8 (at0 L j))
theorem zcr.ext {w w' : World} {g cap : Nat} {L : List Int} (h : zcr w g cap L) (he : Ext w w') : zcr w' g cap L := by
 obtain ⟨cur, h1, h2⟩ := h
 exact ⟨cur, he.keep' h1, h2⟩
theorem zcr.cell {w : World} {g cap : Nat} {L : List Int} (h : zcr w g cap L) (j : Nat) (hj : j < L.length) : w.cell? ⟨g, j, none⟩ = some (.int .u8 (at0 L j)) := by
 obtain ⟨cur, h1, _, _, h4⟩ := h
 exact heap_cell' h1 j _ (h4 j hj)
theorem zcr.spare {w : World} {g cap : Nat} {L : List Int} (h : zcr w g cap L) (j : Nat) (hj : j < cap) : (w.cell? ⟨g, j, none⟩).isSome = true ∧ w.frozen? ⟨g, j, none⟩ = false := by
 obtain ⟨cur, h1, h2, _, _⟩ := h
 constructor
 ·rw [heap_cell' h1 j _ (Array.getElem?_eq_getElem (by omega))]; rfl
 ·simp [World.frozen?, h1]; omega
theorem s2r (w : World) (L : List Int) (hb : zaj L) : ∃ cap W', (convert 9 25 (.string (zv L))).run Tryz.prog w = .ok (.slice (some ⟨w.heap.size, 0, none⟩) L.length cap) W' ∧ zcr W' w.heap.size cap L ∧ Ext w W' ∧ w.heap.size < W'.heap.size := by
 have hr := run_bytes_of_string (P := Tryz.prog) w 9 25 5 (zv L) Tryz.underlying9 Tryz.underlying25 Tryz.underlying5
 rw [zai] at hr
 have hge := grownCap_ge w L.length 0 5
 have hsz : (bytesRow (zv L) (grownCap w L.length 0 5)).size = grownCap w L.length 0 5 := by
  have h1 : (zv L).data.size = L.length := zai L
  unfold bytesRow
  rw [Array.size_append, Array.size_map, Array.size_replicate, h1, zai]
  omega
 refine ⟨_, _, hr, ⟨_, zbO w.drew _, hsz, hge, fun j hj => ?_⟩, (Ext.refl w).drew.alloc _, by rw [World.size_alloc]; exact Nat.lt_succ_self _⟩
 have hjl : j < (zv L).data.size := by have : (zv L).data.size = L.length := zai L; omega
 rw [bytesRow_at _ _ _ hjl]
 have hbb := hb.at0 j
 have e : (zv L).data[j] = UInt8.ofNat (at0 L j).toNat := by
  have h1 : (zv L).data.toList[j]? = some ((zv L).data[j]) := by simp
  rw [zbq] at h1
  rw [List.getElem?_map, zb1 hj] at h1
  simpa using h1.symm
 rw [e]
 congr 2
 simp
 omega
theorem Ext.setCells {w0 : World} (b : Nat) (hb : w0.heap.size ≤ b) : ∀ (vs : List Value) (o : Nat) (w : World), Ext w0 w → Ext w0 (w.setCells b o vs)
 | [], _, _, h => h
 | v :: r, o, _, h => Ext.setCells b hb r (o + 1) _ (h.setCell (a := ⟨b, o, none⟩) hb v)
theorem zep (b : Nat) : ∀ (vs : List Value) (o : Nat) (w : World), (w.setCells b o vs).heap.size = w.heap.size
 | [], _, _ => rfl
 | v :: r, o, w => by rw [World.setCells, zep b r (o + 1) _, World.size_setCell]
theorem zmn (L X : List Int) (j : Nat) : at0 (L ++ X) j = if j < L.length then at0 L j else at0 X (j - L.length) := by
 unfold at0
 by_cases h : j < L.length
 ·rw [if_pos h, List.getElem?_append_left h]
 ·rw [if_neg h, List.getElem?_append_right (by omega)]
theorem zfE {ops : Array Oper} {o : Oper} {a : Act} {w : World} {K : Act → World → Prop} {Q : Exit → Act → World → Prop} {E : Prop}
  (hgd : o.guard = none) (s x : Operand) (hop : o.op = Op.call { callee := Callee.builtin Builtin.append, args := #[s, x], argTypes := #[25, 25] })
  (g cap : Nat) (L : List Int) (hs : a.eval s = .slice (some ⟨g, 0, none⟩) L.length cap) (hcv : zcr w g cap L)
  (ad : Addr) (c : Nat) (X : List Int) (hx : a.eval x = .slice (some ad) X.length c) (hc : ∀ j u, (X.map (Value.int .u8))[j]? = some u → w.cell? (ad.add j) = some u) (hlen : L.length + X.length ≤ 1099511627776)
  (w0 : World) (hE : Ext w0 w) (h0 : w0.heap.size ≤ g) (hg : g < w.heap.size)
  (hK : ∀ ao cap' w', RB w' w0.heap.size (.slice ao (L ++ X).length cap') (L ++ X) → Ext w0 w' → K (a.put o.dst (.slice ao (L ++ X).length cap')) w') :
  if Region.wanted o (yielded ops a.tmps) = true then Oper.wp Tryz.prog o a w K Q else E := by
 obtain ⟨i0, hi, hz0, hz1, hz2⟩ := zfh
 have hw0 := hE.size
 by_cases hroom : L.length + X.length ≤ cap
 ·refine step_append_room hgd s x 25 hop 5 i0 1 Tryz.underlying25 hi hz1 g 0 L.length cap hs ad X.length c (X.map (Value.int .u8)) hx (by simp) hc (ints_oneCell _ _) hroom (fun j hj => ?_) ?_
  ·have hj' : j < X.length := by simpa using hj
   rw [Nat.mul_one, Nat.zero_add]
   exact hcv.spare _ (by omega)
  ·rw [Nat.mul_one, Nat.zero_add, show L.length + X.length = (L ++ X).length by simp]
   refine hK _ _ _ ⟨⟨_, _, rfl, by simpa using hroom, fun _ => ⟨_, _, rfl, fun j hj => ?_⟩⟩, fun g' hg' => ?_⟩ (hE.setCells g h0 _ _ _)
   ·rw [Nat.zero_add, zmn]
    by_cases hjl : j < L.length
    ·rw [if_pos hjl, World.cell?_setCells_out g _ _ _ _ (fun _ _ => .inl hjl)]
     exact hcv.cell j hjl
    ·rw [if_neg hjl]
     have hj2 : j - L.length < X.length := by simp at hj; omega
     have hin := World.cell?_setCells_in g (X.map (Value.int .u8)) L.length w (fun i hi => (hcv.spare _ (by simp at hi; omega)).1) (j - L.length) (by simpa using hj2)
     rw [show L.length + (j - L.length) = j by omega] at hin
     rw [hin]
     simp [at0, hj2]
   ·simp [Value.ownBlock] at hg'
    subst hg'
    rw [zep]
    omega
 ·refine step_append_grows hgd s x 25 hop 5 i0 (.int .u8 0) 1 1 Tryz.underlying25 hi hz0 hz1 hz2 rfl (by decide) (some ⟨g, 0, none⟩) L.length cap (L.map (Value.int .u8)) hs (fun e => by cases e) (by simp) (fun b hb j u hu => ?_) ad X.length c (X.map (Value.int .u8)) hx (by simp) hc (ints_oneCell _ _) (by omega) (by unfold maxLen; omega) (by omega) (fun v' w' ho hgr => ?_)
  ·obtain rfl := Option.some.inj hb
   have hj : j < L.length := by have := (List.getElem?_eq_some_iff.1 hu).1; simpa using this
   rw [Addr.add_lit, Nat.zero_add, hcv.cell j hj, ← hu]
   simp [zb1 hj]
  ·rw [← List.map_append, show L.length + X.length = (L ++ X).length by simp] at ho
   obtain ⟨ao, cap', hv, _⟩ := id (zaf ho)
   subst hv
   exact hK _ _ _ ⟨zaf ho, fun g' hg' => ⟨Nat.le_trans hw0 (ho.lt g' hg').1, (ho.lt g' hg').2⟩⟩ (hE.trans hgr)
theorem zgi (v : Value) (row col : Int) (n : Nat) (tx : Nat → ByteArray) (hok : bOk n row col) (w : World) (hv : zah w v n (fun j => .string (tx j))) (hn : n ≤ 1048576) :
  Calls Tryz.prog 135 #[blV v row col] w fun e w' => ∃ g cap, e = .returned (.slice (some ⟨g, 0, none⟩) (zbB n row col).length cap) ∧ zcr w' g cap (zbB n row col) ∧ w.heap.size ≤ g ∧ g < w'.heap.size ∧ Ext w w' := by
 have hcon := zi (fun W (hW : Ext w W) => zfm v row col n tx W (hv.ext hW))
 obtain ⟨ao, cap, rfl, _, _⟩ := hv
 unfold blV at *
 go_enter Tryz.func135, Tryz.ntmps135
 go_wp2_with fail
 refine ((zg hcon) _ ((Ext.refl _).alloc _)).mono ?_
 rintro e w1 ⟨rfl, F1⟩
 have hb1 := F1.keep' (zbO w (.cells #[.slice ao n cap, .int .i64 row, .int .i64 col] 86))
 have E1 : Ext w w1 := ((Ext.refl w).alloc _).trans F1
 have hz1 := E1.size
 have q1 := heap_cell' hb1 1 _ rfl
 clear F1 hb1
 rw [bOk_t hok]
 have hgl := zbo row 65 (by unfold bOk at hok; omega)
 have hcA := zi (fun W => zdo row 65 (by unfold bOk at hok; omega) W)
 have e65 : zv [65] = { data := #[65] } := rfl
 rw [e65] at hcA
 have e13 : ({ data := #[13] } : ByteArray) = zv [13] := rfl
 have eJ : ({ data := #[27, 91, 74] } : ByteArray) = zv [27, 91, 74] := rfl
 have hs1 : (zv [13]).size + (zv (goL row 65)).size ≤ 9223372036854775807 := by rw [zai, zai]; simp; omega
 have hadd := fun W => run_string_add_sum (P := Tryz.prog) W _ _ hs1
 obtain ⟨L1, hL1⟩ : ∃ L1, L1 = [13] ++ goL row 65 := ⟨_, rfl⟩
 have hs2 : (zv L1).size + (zv [27, 91, 74]).size ≤ 9223372036854775807 := by rw [zai, zai, hL1]; simp; omega
 have hadd2 := fun W => run_string_add_sum (P := Tryz.prog) W _ _ hs2
 rw [zbX, ← e13, ← hL1] at hadd
 rw [zbX, ← eJ] at hadd2
 obtain ⟨L, hL⟩ : ∃ L, L = L1 ++ [27, 91, 74] := ⟨_, rfl⟩
 rw [← hL] at hadd2
 have hfin : Hid (zbB n row col = L) := by refine zi ?_; rw [zbB, if_pos hok, hL, hL1]; simp
 have hLb : zaj L := by rw [← zg hfin]; exact ziP n row col
 clear hs1 hs2 e65 e13 eJ hL hL1 hok hgl
 go_wp2_with fail
 refine ((zg hcA) _).mono ?_
 rintro e w2 ⟨rfl, F2⟩
 obtain ⟨cap4, w4, hrun, hcv, E4, hz4⟩ := s2r w2 L hLb
 have HC := zi hcv
 have HE := zi (E1.trans (F2.trans E4))
 have hz2 := F2.size
 have HZ := zi hz4
 clear hcv E4 F2 hz4
 go_wp2
 go_ret
 rw [zg hfin]
 exact ⟨_, _, rfl, zg HC, by omega, zg HZ, zg HE⟩
theorem zdR (v1 v2 : Value) (r1 c1 r2 c2 : Int) (n1 n2 : Nat) (tx ty : Nat → ByteArray) (same : Bool) (hsame : same = true ↔ zf1 n1 n2 tx ty) (w : World)
  (hv1 : zah w v1 n1 (fun j => .string (tx j))) (hv2 : zah w v2 n2 (fun j => .string (ty j))) (hn1 : n1 ≤ 1048576) (hn2 : n2 ≤ 1048576) (hs2 : za4 ty n2 ≤ 1048576) :
  Calls Tryz.prog 87 #[blV v1 r1 c1, blV v2 r2 c2] w fun e w' => ∃ u, e = .returned u ∧ RB w' w.heap.size u (za8 n1 r1 c1 n2 ty r2 c2 same) ∧ Ext w w' := by
 have hcS := zi (fun W (hW : Ext w W) => zku v1 v2 n1 n2 tx ty W (hv1.ext hW) (hv2.ext hW) hn1 hn2 same hsame)
 have hcO1 := zi (fun W (hW : Ext w W) => zfm v1 r1 c1 n1 tx W (hv1.ext hW))
 have hcO2 := zi (fun W (hW : Ext w W) => zfm v2 r2 c2 n2 ty W (hv2.ext hW))
 have hcR := zi (fun W (hW : Ext w W) (ok : bOk n1 r1 c1) => zgi v1 r1 c1 n1 tx ok W (hv1.ext hW) hn1)
 have hcP := zi (fun W (hW : Ext w W) => zhF v2 r2 c2 n2 ty W (hv2.ext hW) hn2 (by omega))
 obtain ⟨ao, cap, hvv, _, _⟩ := id hv1
 subst hvv
 obtain ⟨bo, cbp, hvv, _, _⟩ := id hv2
 subst hvv
 clear hv1 hv2 hsame
 unfold blV at *
 have e1 := (Ext.refl w).alloc (.cells #[.slice ao n1 cap, .int .i64 r1, .int .i64 c1] 86)
 have x1 := zbO w (.cells #[.slice ao n1 cap, .int .i64 r1, .int .i64 c1] 86)
 obtain ⟨U1, hU1⟩ : ∃ U, U = w.alloc (.cells #[.slice ao n1 cap, .int .i64 r1, .int .i64 c1] 86) := ⟨_, rfl⟩
 rw [← hU1] at e1 x1
 have z1 : U1.heap.size = w.heap.size + 1 := by rw [hU1]; simp
 have e2 := (Ext.refl U1).alloc (.cells #[.slice bo n2 cbp, .int .i64 r2, .int .i64 c2] 86)
 have x2 := zbO U1 (.cells #[.slice bo n2 cbp, .int .i64 r2, .int .i64 c2] 86)
 obtain ⟨U2, hU2⟩ : ∃ U, U = U1.alloc (.cells #[.slice bo n2 cbp, .int .i64 r2, .int .i64 c2] 86) := ⟨_, rfl⟩
 rw [← hU2] at e2 x2
 rw [z1] at x2
 have y1 := e2.keep' x1
 have EU := e1.trans e2
 have HU : Hid (U2 = (w.alloc (.cells #[.slice ao n1 cap, .int .i64 r1, .int .i64 c1] 86)).alloc (.cells #[.slice bo n2 cbp, .int .i64 r2, .int .i64 c2] 86)) := by refine zi ?_; rw [hU2, hU1]
 clear hU1 hU2 x1 e1 e2 z1
 have a0 := heap_cell' y1 0 _ rfl
 have a1 := heap_cell' y1 1 _ rfl
 have a2 := heap_cell' y1 2 _ rfl
 have b0 := heap_cell' x2 0 _ rfl
 have b1 := heap_cell' x2 1 _ rfl
 have b2 := heap_cell' x2 2 _ rfl
 have hzU := EU.size
 clear y1 x2
 go_enter Tryz.func87, Tryz.ntmps87
 go_wp2_with fail
 rw [← zg HU]
 clear HU
 refine ((zg hcO1) _ EU).mono ?_
 rintro e w2 ⟨rfl, E2⟩
 have d0 := E2.cell b0
 have d1 := E2.cell b1
 have d2 := E2.cell b2
 by_cases ok1 : bOk n1 r1 c1
 ·rw [bOk_t ok1]
  go_wp2_with fail
  refine ((zg hcO2) _ (EU.trans E2)).mono ?_
  rintro e w3 ⟨rfl, E3⟩
  have E23 := E2.trans E3
  have hz3 := E23.size
  clear d0 d1 d2
  by_cases ok2 : bOk n2 r2 c2
  ·rw [bOk_t ok2]
   have p0 := E23.cell a0
   have d0 := E23.cell b0
   have ok1' := id ok1
   have ok2' := id ok2
   unfold bOk at ok1' ok2'
   go_wp2_with fail
   refine ((zg hcS) _ (EU.trans E23)).mono ?_
   rintro e w4 ⟨rfl, E4⟩
   have E24 := E23.trans E4
   have hz4 := E24.size
   clear p0 d0
   have p0 := E24.cell a0
   have p1 := E24.cell a1
   have p2 := E24.cell a2
   have d0 := E24.cell b0
   have d1 := E24.cell b1
   have d2 := E24.cell b2
   cases hsm : same with
   | false =>
    have hp : Hid (za8 n1 r1 c1 n2 ty r2 c2 false = zbB n1 r1 c1 ++ zbj n2 ty r2 c2) := by refine zi ?_; rw [za8, if_pos ⟨ok1, ok2⟩]; rfl
    have hpl := zgv n2 ty r2 c2 hn2
    have hel := zeE n1 r1 c1 hn1
    have hpp : 0 < (zbj n2 ty r2 c2).length := by
     rw [zbj, if_pos ok2, List.length_append, List.length_append]
     unfold goL
     rw [if_neg (show ¬ c2 + 1 ≤ 0 by omega)]
     simp only [List.length_cons]
     omega
    have HW := zi (EU.trans E24)
    go_wp2
    go_region_held_law (fun W => W.cell? ⟨w.heap.size, 0, none⟩ = some (.slice ao n1 cap) ∧ W.cell? ⟨w.heap.size, 1, none⟩ = some (.int .i64 r1) ∧ W.cell? ⟨w.heap.size, 2, none⟩ = some (.int .i64 c1) ∧ W.cell? ⟨w.heap.size + 1, 0, none⟩ = some (.slice bo n2 cbp) ∧ W.cell? ⟨w.heap.size + 1, 1, none⟩ = some (.int .i64 r2) ∧ W.cell? ⟨w.heap.size + 1, 2, none⟩ = some (.int .i64 c2))
     (first | exact ⟨p0, p1, p2, d0, d1, d2⟩ | exact ⟨he'.cell p0, he'.cell p1, he'.cell p2, he'.cell d0, he'.cell d1, he'.cell d2⟩)
     (first
      | (go_at_call 135; refine ((zg hcR) _ ((zg HW).trans (Ext.refl w4).drew) ok1).mono ?_; rintro e w5 ⟨g5, cap5, rfl, hcv, hg5, hg5b, F5⟩; have he' := (Ext.refl w4).drew.trans F5; have HC5 := zi hcv; have hg5' : w4.heap.size ≤ g5 := hg5; clear hcv F5 hg5)
      | (go_at_call 129; refine ((zg hcP) _ ((zg HW).trans he')).mono ?_; rintro e w6 ⟨u6, rfl, ho6, F6⟩; have HC6 := zi ((zg HC5).ext F6); have hz56 := F6.size; have he' := he'.trans F6; obtain ⟨ao6, cap6, hu6, _, hx6⟩ := id (zaf ho6); subst hu6; obtain ⟨b6, o6, hao6, hc6⟩ := hx6 hpp; subst hao6; have hc6' : ∀ j u, ((zbj n2 ty r2 c2).map (Value.int .u8))[j]? = some u → w6.cell? ((⟨b6, o6, none⟩ : Addr).add j) = some u := (fun j u hu => by
        have hj : j < (zbj n2 ty r2 c2).length := by have := (List.getElem?_eq_some_iff.1 hu).1; simpa using this
        rw [Addr.add_lit, hc6 j hj, ← hu]
        simp [zb1 hj]); have HX6 := zi hc6'; clear ho6 hx6 hc6 hc6' F6)
      | (refine zfE (by rfl) _ _ (by rfl) g5 cap5 (zbB n1 r1 c1) (by rfl) (zg HC6) ⟨b6, o6, none⟩ cap6 (zbj n2 ty r2 c2) (by rfl) (zg HX6) (by omega) w4 he' hg5' (by omega) ?_; intro ao7 cap7 w7 hR7 hE7; have he' := hE7; have HR7 := zi hR7; clear hR7 hE7))
    all_goals
     go_wp2
     refine bodyPost_ret (v := .slice ao7 (zbB n1 r1 c1 ++ zbj n2 ty r2 c2).length cap7) (by simp [results, Tryz.results87]) rfl ⟨_, rfl, ?_, (zg HW).trans he'⟩
     rw [zg hp]
     exact ⟨(zg HR7).1, fun g hg => ⟨Nat.le_trans (by omega) ((zg HR7).2 g hg).1, ((zg HR7).2 g hg).2⟩⟩
   | true =>
    have hp : Hid (za8 n1 r1 c1 n2 ty r2 c2 true = goL (r1 - r2) 65 ++ (goL (r2 - r1) 66 ++ (if c1 = c2 then [] else goL (c2 + 1) 71))) := by refine zi ?_; rw [za8, if_pos ⟨ok1, ok2⟩]; rfl
    have g1 := zbo (r1 - r2) 65 (by omega)
    have g2 := zbo (r2 - r1) 66 (by omega)
    have g3 := zbo (c2 + 1) 71 (by omega)
    have hcA := zi (fun W => zdo (r1 - r2) 65 (by omega) W)
    have hcB := zi (fun W => zdo (r2 - r1) 66 (by omega) W)
    have hcG := zi (fun W => zdo (c2 + 1) 71 (by omega) W)
    have e65 : zv [65] = { data := #[65] } := rfl
    have e66 : zv [66] = { data := #[66] } := rfl
    have e71 : zv [71] = { data := #[71] } := rfl
    rw [e65] at hcA
    rw [e66] at hcB
    rw [e71] at hcG
    have hs1 : (zv (goL (r1 - r2) 65)).size + (zv (goL (r2 - r1) 66)).size ≤ 9223372036854775807 := by rw [zai, zai]; omega
    have hadd := fun W => run_string_add_sum (P := Tryz.prog) W _ _ hs1
    obtain ⟨L1, hL1⟩ : ∃ L1, L1 = goL (r1 - r2) 65 ++ goL (r2 - r1) 66 := ⟨_, rfl⟩
    rw [zbX, ← hL1] at hadd
    have hL1b : zaj L1 := by rw [hL1]; exact (zcI _ _ (by omega) (by omega)).app (zcI _ _ (by omega) (by omega))
    have hL1l : L1.length ≤ 22 := by rw [hL1, List.length_append]; omega
    rw [← List.append_assoc, ← hL1] at hp
    have hw1 : IntKind.i64.wrap (r1 - r2) = r1 - r2 := by rw [IntKind.wrap_i64]; omega
    have hw2 : IntKind.i64.wrap (r2 - r1) = r2 - r1 := by rw [IntKind.wrap_i64]; omega
    have tokA : True := trivial
    have HW := zi (EU.trans E24)
    clear hs1 e65 e66 e71 hL1
    go_wp2
    go_region_held_law (fun W => W.cell? ⟨w.heap.size, 1, none⟩ = some (.int .i64 r1) ∧ W.cell? ⟨w.heap.size + 1, 1, none⟩ = some (.int .i64 r2))
     (first | exact ⟨p1, d1⟩ | exact ⟨he'.cell p1, he'.cell d1⟩)
     (first
      | (go_at_call 136; have _t := tokA; refine ((zg hcA) _).mono ?_; rintro e w5 ⟨rfl, F5⟩; have he' := (Ext.refl w4).drew.trans F5; clear F5 tokA)
      | (go_at_call 136; refine ((zg hcB) _).mono ?_; rintro e w6 ⟨rfl, F6⟩; have he' := he'.trans F6; clear F6))
    all_goals
     have p2' := he'.cell p2
     have d2' := he'.cell d2
     by_cases hcc : c1 = c2
     ·rw [if_pos hcc, List.append_nil] at hp
      subst hcc
      obtain ⟨cap8, w8, hrun, hcv, E8, hz8⟩ := s2r w6 L1 hL1b
      have HC := zi hcv
      have HE8 := zi ((zg HW).trans (he'.trans E8))
      have hz6 := he'.size
      have HZ := zi hz8
      clear hcv E8 hz8
      go_wp2
      go_ret
      rw [hsm, zg hp]
      refine ⟨_, rfl, ⟨⟨_, _, rfl, ?_, fun _ => ⟨_, _, rfl, fun j hj => ?_⟩⟩, fun g hg => ?_⟩, zg HE8⟩
      ·obtain ⟨_, _, _, h3, _⟩ := zg HC
       exact h3
      ·rw [Nat.zero_add]; exact (zg HC).cell j hj
      ·simp [Value.ownBlock] at hg
       have := zg HZ
       omega
     ·rw [if_neg hcc] at hp
      have hs2 : (zv L1).size + (zv (goL (c2 + 1) 71)).size ≤ 9223372036854775807 := by rw [zai, zai]; omega
      have hadd2 := fun W => run_string_add_sum (P := Tryz.prog) W _ _ hs2
      obtain ⟨L2, hL2⟩ : ∃ L2, L2 = L1 ++ goL (c2 + 1) 71 := ⟨_, rfl⟩
      rw [zbX, ← hL2] at hadd2
      rw [← hL2] at hp
      have hL2b : zaj L2 := by rw [hL2]; exact hL1b.app (zcI _ _ (by omega) (by omega))
      clear hL2 hs2
      go_wp2_with fail
      refine ((zg hcG) _).mono ?_
      rintro e w7 ⟨rfl, F7⟩
      obtain ⟨cap8, w8, hrun, hcv, E8, hz8⟩ := s2r w7 L2 hL2b
      have HC := zi hcv
      have HE8 := zi ((zg HW).trans (he'.trans (F7.trans E8)))
      have hz6 := he'.size
      have hz7 := F7.size
      have HZ := zi hz8
      clear hcv E8 hz8 F7
      go_wp2
      go_ret
      rw [hsm, zg hp]
      refine ⟨_, rfl, ⟨⟨_, _, rfl, ?_, fun _ => ⟨_, _, rfl, fun j hj => ?_⟩⟩, fun g hg => ?_⟩, zg HE8⟩
      ·obtain ⟨_, _, _, h3, _⟩ := zg HC
       exact h3
      ·rw [Nat.zero_add]; exact (zg HC).cell j hj
      ·simp [Value.ownBlock] at hg
       have := zg HZ
       omega
  ·have hp : Hid (za8 n1 r1 c1 n2 ty r2 c2 same = []) := by refine zi ?_; rw [za8, if_neg (fun e => ok2 e.2)]
   rw [bOk_f ok2]
   have HE := zi ((EU.trans E23))
   go_wp2
   go_ret
   rw [zg hp]
   refine ⟨_, rfl, ⟨⟨_, _, rfl, Nat.le_refl _, fun h => by simp at h⟩, fun g hg => ?_⟩, (zg HE).alloc _⟩
   simp [Value.ownBlock] at hg
   rw [World.size_alloc]
   omega
 ·have hp : Hid (za8 n1 r1 c1 n2 ty r2 c2 same = []) := by refine zi ?_; rw [za8, if_neg (fun e => ok1 e.1)]
  rw [bOk_f ok1]
  have HE := zi ((EU.trans E2))
  have hz2 := E2.size
  go_wp2
  go_ret
  rw [zg hp]
  refine ⟨_, rfl, ⟨⟨_, _, rfl, Nat.le_refl _, fun h => by simp at h⟩, fun g hg => ?_⟩, (zg HE).alloc _⟩
  simp [Value.ownBlock] at hg
  rw [World.size_alloc]
  omega
end Go.Proofs.YtmlkpdbfnffoaaaGreatDoor
