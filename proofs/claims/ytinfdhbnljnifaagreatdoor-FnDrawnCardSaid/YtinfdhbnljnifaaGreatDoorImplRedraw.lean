import Derived.Test.YtinfdhbnljnifaaGreatDoorImplPaint
import Derived.Test.YtinfdhbnljnifaaGreatDoorRd
import Derived.Deep.RegionHeldLaw
import Derived.Test.YtinfdhbnljnifaaGreatDoorWhole
namespace Go.Proofs.YtinfdhbnljnifaaGreatDoor
open Go.RowKit
theorem zf8 (va vb : Value) (n m : Nat) (tx ty : Nat → ByteArray) (w : World) (ha : zam w va n (fun j => .string (tx j))) (hb : zam w vb m (fun j => .string (ty j))) (hn : n ≤ 1048576) (hm : m ≤ 1048576) (hn0 : 0 < n) (hm0 : 0 < m) (ok : Bool) (hok : ok = true ↔ zeV n m tx ty) :
  Calls Tryz.prog 160 #[va, vb] w fun e w' => e = .returned (.bool ok) ∧ Ext w w' := by
 obtain ⟨ao, ca, rfl, hca, hxa⟩ := ha
 obtain ⟨bo, cb, rfl, hcb, hxb⟩ := hb
 obtain ⟨b1, o1, rfl, h1⟩ := hxa hn0
 obtain ⟨b2, o2, rfl, h2⟩ := hxb hm0
 have hc := Any.slices_Equal_string Tryz.lays193 b1 o1 n ca b2 o2 m cb ((List.range n).map tx) ((List.range m).map ty) w (by simp) (by simp) (by omega) (by omega)
  (fun j hj => by
   have hj' : j < n := by simpa using hj
   rw [h1 j hj']
   simp [List.getD, hj'])
  (fun j hj => by
   have hj' : j < m := by simpa using hj
   rw [h2 j hj']
   simp [List.getD, hj'])
 refine Calls.mono hc ?_
 rintro e w' ⟨rfl, q, rfl⟩
 refine ⟨zaH ?_, (Ext.refl w).drewN q⟩
 rw [List.take_of_length_le (by simp), List.take_of_length_le (by simp)]
 have hiff : ((List.range n).map tx = (List.range m).map ty) ↔ zeV n m tx ty := by
  constructor
  ·intro h
   have hl := congrArg List.length h
   simp at hl
   subst hl
   refine ⟨rfl, fun j hj => ?_⟩
   have := congrArg (·[j]?) h
   simpa [hj] using this
  ·rintro ⟨rfl, h⟩
   exact List.map_congr_left (fun j hj => h j (by simpa using hj))
 cases hc : ok with
 | true => exact decide_eq_true (hiff.2 (hok.1 hc))
 | false => exact decide_eq_false (fun e => by rw [hok.2 (hiff.1 e)] at hc; cases hc)
theorem heap_cell' {W : World} {p : Nat} {cs : Array Value} {T : TypeId} {fz : Nat × Nat} (h : W.heap[p]? = some (.cells cs T fz)) (i : Nat) (x : Value) (hx : cs[i]? = some x) : W.cell? ⟨p, i, none⟩ = some x := by simp [World.cell?, h, hx]
theorem WF.keep' {B ob : Nat} {W W' : World} {p : Nat} {cs : Array Value} {T : TypeId} {fz : Nat × Nat} (h : WF B ob W W') (hp : W.heap[p]? = some (.cells cs T fz)) (hne : ob ≠ p) (hT : T ≠ 5) : W'.heap[p]? = some (.cells cs T fz) :=
 h.2 _ _ hp (fun e => hne (Option.some.inj e).symm) (fun c f e => by
  injection e with _ e2 _
  exact hT e2)
theorem Ext.keep' {W W' : World} {p : Nat} {o : Obj} (h : Ext W W') (hp : W.heap[p]? = some o) : W'.heap[p]? = some o := (h.heap (Array.getElem?_eq_some_iff.1 hp).1).trans hp
set_option maxRecDepth 10000 in
set_option maxHeartbeats 2000000 in
theorem zgG (v : Value) (row col : Int) (n : Nat) (tx : Nat → ByteArray) (hok : bOk n row col) (B ob qb nb : Nat) (bs : List Int) (w : World) (h : WrS w B ob qb nb bs) (hv : zam w v n (fun j => .string (tx j))) (hn : n ≤ 1048576) (hl : bs.length ≤ 1048576) :
  Calls Tryz.prog 84 #[wrV ob qb nb, blV v row col] w fun e w' => e = .returned (.tuple #[]) ∧ WrS w' B ob qb nb (bs ++ zaN n row col) ∧ WF B ob w w' := by
 have hgl := zci row 65 (by unfold bOk at hok; omega)
 have e13 : zo [13] = { data := #[13] } := rfl
 have eJ : zo [27, 91, 74] = { data := #[27, 91, 74] } := rfl
 have hc1 := zh (fun W (hW : WrS W B ob qb nb bs) => zgv [13] (by intro x hx; simp at hx; omega) B ob qb nb bs W hW (by simp; omega))
 have hc2 := zh (fun W (hW : WrS W B ob qb nb (bs ++ [13])) => zlE row (by unfold bOk at hok; omega) B ob qb nb (bs ++ [13]) W hW (by simp; omega))
 have hc3 := zh (fun W (hW : WrS W B ob qb nb (bs ++ [13] ++ goL row 65)) => zgv [27, 91, 74] (by intro x hx; simp at hx; omega) B ob qb nb (bs ++ [13] ++ goL row 65) W hW (by simp; omega))
 rw [e13] at hc1
 rw [eJ] at hc3
 obtain ⟨ao, cap, rfl, _, _⟩ := hv
 have HS := zh h
 have hob : ob < w.heap.size := Nat.lt_of_lt_of_le h.ltb h.le
 have hbx := zj3 w ob qb nb (.slice ao n cap) row col
 have HE := zh (((Ext.refl w).alloc (.cells (wrV ob qb nb).cells 111)).alloc (.cells (blV (.slice ao n cap) row col).cells 46))
 have hp : Hid (bs ++ zaN n row col = bs ++ [13] ++ goL row 65 ++ [27, 91, 74]) := by refine zh ?_; rw [zaN, if_pos hok]; simp
 clear h hok e13 eJ
 unfold wrV blV at *
 go_enter Tryz.func84, Tryz.ntmps84
 simp only [Value.cells] at hbx HE
 go_wp2_with fail
 obtain ⟨W2, hW2⟩ : ∃ W, W = ((w.alloc (Obj.cells #[Value.func (Fn.func 154) #[] #[.pointer (some ⟨ob, 0, none⟩)], .func (.func 155) #[] #[.pointer (some ⟨nb, 0, none⟩)], .func (.func 156) #[] #[.pointer (some ⟨nb, 0, none⟩)], .func (.func 157) #[] #[.pointer (some ⟨qb, 0, none⟩)], .func (.func 158) #[] #[.pointer (some ⟨ob, 0, none⟩)]] 111)).alloc (Obj.cells #[.slice ao n cap, .int .i64 row, .int .i64 col] 46)) := ⟨_, rfl⟩
 rw [← hW2] at hbx HE ⊢
 clear hW2
 refine ((zu hc1) _ ((zu HS).on (zu HE))).mono ?_
 rintro e w4 ⟨rfl, hS4, hF4⟩
 have HS4 := zh hS4
 have HF4 := zh ((WF.of_ext (zu HE)).tr hF4)
 have hb4 := hbx.wf hF4 hob
 have HB4 := zh hb4
 obtain ⟨⟨a04, a14, a24, a34⟩, b04, b14, b24⟩ := hb4.cells
 clear hS4 hF4 hb4 hbx
 go_wp2_with fail
 refine ((zu hc2) _ (zu HS4)).mono ?_
 rintro e w5 ⟨rfl, hS5, hF5⟩
 have HS5 := zh hS5
 have HF5 := zh ((zu HF4).tr hF5)
 have hb5 := (zu HB4).wf hF5 hob
 obtain ⟨⟨a05, a15, a25, a35⟩, b05, b15, b25⟩ := hb5.cells
 clear hS5 hF5 hb5
 go_wp2_with fail
 refine ((zu hc3) _ (zu HS5)).mono ?_
 rintro e w6 ⟨rfl, hS6, hF6⟩
 have HS6 := zh hS6
 have HF6 := zh ((zu HF5).tr hF6)
 clear hS6 hF6
 go_wp2
 exact bodyPost_end (v := .tuple #[]) (by simp [results, Tryz.results84, go_sem]) rfl ⟨rfl, by rw [zu hp]; exact zu HS6, zu HF6⟩
set_option maxRecDepth 10000 in
set_option maxHeartbeats 2000000 in
theorem zhB (v : Value) (row col : Int) (n : Nat) (tx : Nat → ByteArray) (w : World) (hv : zam w v n (fun j => .string (tx j))) (hn : n ≤ 1048576) (hlo : 3 < w.heap.size) (hT : zdK w) :
  Calls Tryz.prog 30 #[blV v row col] w fun e w' => ∃ u, e = .returned u ∧ w'.ownsRow w.heap.size 5 1 u (zaN n row col).length ((zaN n row col).map (Value.int .u8)) ∧ Ext w w' := by
 have HV := zh hv
 obtain ⟨ao, cap, hvv, _, _⟩ := id hv
 subst hvv
 have hcW := zh (fun W (hW : Ext w W) => zcQ W (Nat.lt_of_lt_of_le hlo hW.size) (hT.keep (hW.heap hlo)))
 have hcO := zh (fun W (hW : Ext w W) => zcZ (.slice ao n cap) row col n tx W (hv.ext hW))
 have H0 : ∀ o, (w.alloc o).heap[w.heap.size]? = some o := fun o => zba w o
 clear hv hT
 unfold blV at *
 go_enter Tryz.func30, Tryz.ntmps30
 go_wp2_with fail
 refine ((zu hcW) _ ((Ext.refl _).alloc _)).mono ?_
 rintro e w2 ⟨ob, qb, nb, rfl, hS, hob, E2⟩
 have hob2 := hob
 rw [World.size_alloc] at hob2
 have hb2 := E2.keep' (H0 (.cells #[.slice ao n cap, .int .i64 row, .int .i64 col] 46))
 have E2w : Ext w w2 := ((Ext.refl w).alloc _).trans E2
 have hlt2 := E2w.size
 have hzz : w.heap.size < w2.heap.size := (Array.getElem?_eq_some_iff.1 hb2).1
 have HS := zh hS
 have hltb := hS.ltb
 clear hS E2 hob
 unfold wrV
 have q0 := heap_cell' hb2 0 _ rfl
 have q1 := heap_cell' hb2 1 _ rfl
 have q2 := heap_cell' hb2 2 _ rfl
 go_wp2_with fail
 have hw3 := zba w2 (.cells #[.func (.func 154) #[] #[.pointer (some ⟨ob, 0, none⟩)], .func (.func 155) #[] #[.pointer (some ⟨nb, 0, none⟩)], .func (.func 156) #[] #[.pointer (some ⟨nb, 0, none⟩)], .func (.func 157) #[] #[.pointer (some ⟨qb, 0, none⟩)], .func (.func 158) #[] #[.pointer (some ⟨ob, 0, none⟩)]] 111)
 have E23 := (Ext.refl w2).alloc (.cells #[.func (.func 154) #[] #[.pointer (some ⟨ob, 0, none⟩)], .func (.func 155) #[] #[.pointer (some ⟨nb, 0, none⟩)], .func (.func 156) #[] #[.pointer (some ⟨nb, 0, none⟩)], .func (.func 157) #[] #[.pointer (some ⟨qb, 0, none⟩)], .func (.func 158) #[] #[.pointer (some ⟨ob, 0, none⟩)]] 111)
 refine ((zu hcO) _ (E2w.trans E23)).mono ?_
 rintro e w4 ⟨rfl, E4⟩
 have hw4 := E4.keep' hw3
 have hb4 := (E23.trans E4).keep' hb2
 have E4w := E2w.trans (E23.trans E4)
 have HS4 := zh ((zu HS).on (E23.trans E4))
 have HE4 := zh E4w
 clear hw3 E23 E4 HS q0 q1 q2
 have q0 := heap_cell' hb4 0 _ rfl
 have q1 := heap_cell' hb4 1 _ rfl
 have q2 := heap_cell' hb4 2 _ rfl
 have p0 := heap_cell' hw4 0 _ rfl
 have p1 := heap_cell' hw4 1 _ rfl
 have p2 := heap_cell' hw4 2 _ rfl
 have p3 := heap_cell' hw4 3 _ rfl
 have p4 := heap_cell' hw4 4 _ rfl
 by_cases hok : bOk n row col
 ·have hcP := zh (zgG (.slice ao n cap) row col n tx hok w2.heap.size ob qb nb [] w4 (zu HS4) ((zu HV).ext E4w) hn (by simp))
  rw [bOk_t hok]
  unfold wrV blV at hcP
  have HW4 := zh hw4
  clear hw4 hb4 hb2 E4w
  go_wp2_with fail
  refine (zu hcP).mono ?_
  rintro e w5 ⟨rfl, hS5, hF5⟩
  rw [List.nil_append] at hS5
  have hw5 := hF5.keep' (zu HW4) (by omega) (by decide)
  have r4 := heap_cell' hw5 4 _ rfl
  have HS5 := zh hS5
  have HE5 := zh (hF5.1.ext (zu HE4) (fun k hk => by rcases hk with rfl | hk <;> omega))
  have hcw := zh (zbq w2.heap.size ob qb nb _ w5 hS5)
  clear hS5 hF5 hw5
  go_wp2_with fail
  refine (zu hcw).mono ?_
  rintro e w6 ⟨u, rfl, ho, rfl⟩
  have HO := zh ho
  clear ho
  go_wp2
  go_ret
  exact ⟨u, rfl, zah (zu HO) (by omega), zu HE5⟩
 ·have hp : Hid (zaN n row col = []) := by refine zh ?_; rw [zaN, if_neg hok]
  rw [bOk_f hok]
  have hcw := zh (zbq w2.heap.size ob qb nb _ w4 (zu HS4))
  clear hw4 hb4 hb2 E4w
  go_wp2_with fail
  refine (zu hcw).mono ?_
  rintro e w6 ⟨u, rfl, ho, rfl⟩
  have HO := zh ho
  clear ho
  go_wp2
  go_ret
  rw [zu hp]
  exact ⟨u, rfl, zah (zu HO) (by omega), zu HE4⟩
def zaV (n1 : Nat) (r1 c1 : Int) (n2 : Nat) (ty : Nat → ByteArray) (r2 c2 : Int) (same : Bool) : List Int :=
 @ite _ (bOk n1 r1 c1 ∧ bOk n2 r2 c2) (@instDecidableAnd _ _ (bOkD n1 r1 c1) (bOkD n2 r2 c2)) ((if same = true then goL (r1 - r2) 65 ++ (goL (r2 - r1) 66 ++ (if c1 = c2 then [] else goL (c2 + 1) 71)) else zaN n1 r1 c1 ++ zaM n2 ty r2 c2)) []
theorem zf4 (n1 : Nat) (r1 c1 : Int) (n2 : Nat) (ty : Nat → ByteArray) (r2 c2 : Int) (same : Bool) (h1 : n1 ≤ 1048576) (h2 : n2 ≤ 1048576) : (zaV n1 r1 c1 n2 ty r2 c2 same).length ≤ zgE ty n2 + 2 * n2 + 100 := by
 unfold zaV
 split
 ·rename_i h
  obtain ⟨a, b⟩ := h
  unfold bOk at a b
  split
  ·have g1 := zci (r1 - r2) 65 (by omega)
   have g2 := zci (r2 - r1) 66 (by omega)
   have g3 := zci (c2 + 1) 71 (by omega)
   split
   ·simp only [List.length_append, List.length_nil]; omega
   ·simp only [List.length_append]; omega
  ·have e1 := zdr n1 r1 c1 h1
   have e2 := zcG n2 ty r2 c2 h2
   simp only [List.length_append]; omega
 ·simp
set_option maxRecDepth 10000 in
set_option maxHeartbeats 4000000 in
theorem zjy (v1 v2 : Value) (r1 c1 r2 c2 : Int) (n1 n2 : Nat) (tx ty : Nat → ByteArray) (ok1 : bOk n1 r1 c1) (ok2 : bOk n2 r2 c2) (same : Bool) (hsame : same = true ↔ zeV n1 n2 tx ty) (B ob qb nb : Nat) (w0 w : World) (h : WrS w B ob qb nb []) (hE0 : Ext w0 w) (h0 : w0.heap.size ≤ ob)
  (hv1 : zam w0 v1 n1 (fun j => .string (tx j))) (hv2 : zam w0 v2 n2 (fun j => .string (ty j))) (hn1 : n1 ≤ 1048576) (hn2 : n2 ≤ 1048576) (hs2 : zgE ty n2 ≤ 1048576) :
  Calls Tryz.prog 85 #[wrV ob qb nb, blV v1 r1 c1, blV v2 r2 c2] w fun e w' => e = .returned (.tuple #[]) ∧ WrS w' B ob qb nb (zaV n1 r1 c1 n2 ty r2 c2 same) ∧ WF B ob w w' := by
 have hcE := zh (fun W (hW : Ext w0 W) => zf8 v1 v2 n1 n2 tx ty W (hv1.ext hW) (hv2.ext hW) hn1 hn2 (by unfold bOk at ok1; omega) (by unfold bOk at ok2; omega) same hsame)
 have hcR := zh (fun W (hS : WrS W B ob qb nb []) (hW : Ext w0 W) => zgG v1 r1 c1 n1 tx ok1 B ob qb nb [] W hS (hv1.ext hW) hn1 (by simp))
 have hel := zdr n1 r1 c1 hn1
 have hcP := zh (fun W (hS : WrS W B ob qb nb (zaN n1 r1 c1)) (hW : Ext w0 W) => zgJ v2 r2 c2 n2 ty ok2 B ob qb nb (zaN n1 r1 c1) W hS (hv2.ext hW) hn2 (by omega) (by omega))
 obtain ⟨ao, cap, rfl, _, _⟩ := hv1
 obtain ⟨bo, cbp, rfl, _, _⟩ := hv2
 have HS := zh h
 have hob : ob < w.heap.size := Nat.lt_of_lt_of_le h.ltb h.le
 have hltb := h.ltb
 have hw0 := hE0.size
 have ok1' := id ok1
 have ok2' := id ok2
 unfold bOk at ok1' ok2'
 have hx1 := zba w (.cells (wrV ob qb nb).cells 111)
 obtain ⟨U1, hU1⟩ : ∃ U, U = w.alloc (.cells (wrV ob qb nb).cells 111) := ⟨_, rfl⟩
 have hx2 := zba U1 (.cells (blV (.slice ao n1 cap) r1 c1).cells 46)
 obtain ⟨U2, hU2⟩ : ∃ U, U = U1.alloc (.cells (blV (.slice ao n1 cap) r1 c1).cells 46) := ⟨_, rfl⟩
 have hx3 := zba U2 (.cells (blV (.slice bo n2 cbp) r2 c2).cells 46)
 obtain ⟨U3, hU3⟩ : ∃ U, U = U2.alloc (.cells (blV (.slice bo n2 cbp) r2 c2).cells 46) := ⟨_, rfl⟩
 have z1 : U1.heap.size = w.heap.size + 1 := by rw [hU1]; simp
 have z2 : U2.heap.size = w.heap.size + 1 + 1 := by rw [hU2]; simp [z1]
 have e01 : Ext w U1 := by rw [hU1]; exact (Ext.refl w).alloc _
 have e12 : Ext U1 U2 := by rw [hU2]; exact (Ext.refl _).alloc _
 have e23 : Ext U2 U3 := by rw [hU3]; exact (Ext.refl _).alloc _
 rw [← hU1] at hx1
 rw [← hU2, z1] at hx2
 rw [← hU3, z2] at hx3
 have y1 := (e12.trans e23).keep' hx1
 have y2 := e23.keep' hx2
 have HE := zh (e01.trans (e12.trans e23))
 have hU : U3 = ((w.alloc (Obj.cells #[Value.func (Fn.func 154) #[] #[.pointer (some ⟨ob, 0, none⟩)], .func (.func 155) #[] #[.pointer (some ⟨nb, 0, none⟩)], .func (.func 156) #[] #[.pointer (some ⟨nb, 0, none⟩)], .func (.func 157) #[] #[.pointer (some ⟨qb, 0, none⟩)], .func (.func 158) #[] #[.pointer (some ⟨ob, 0, none⟩)]] 111)).alloc (Obj.cells #[.slice ao n1 cap, .int .i64 r1, .int .i64 c1] 46)).alloc (Obj.cells #[.slice bo n2 cbp, .int .i64 r2, .int .i64 c2] 46) := by rw [hU3, hU2, hU1]; rfl
 have HU := zh hU
 clear hU1 hU2 hU3 hx1 hx2 e01 e12 e23 z1 z2 hU h ok1 ok2
 unfold wrV blV at *
 simp only [Value.cells] at y1 y2 hx3
 go_enter Tryz.func85, Tryz.ntmps85
 go_wp2_with fail
 rw [← zu HU]
 have hE3 := (hE0.trans (zu HE))
 refine ((zu hcE) _ hE3).mono ?_
 rintro e w4 ⟨rfl, E4⟩
 have k1 := E4.keep' y1
 have k2 := E4.keep' y2
 have k3 := E4.keep' hx3
 have HS4 := zh ((zu HS).on ((zu HE).trans E4))
 have HF4 := zh (WF.of_ext (B := B) (ob := ob) ((zu HE).trans E4))
 have E04 := hE3.trans E4
 clear y1 y2 hx3 E4 HU
 have a0 := heap_cell' k1 0 _ rfl
 have a1 := heap_cell' k1 1 _ rfl
 have a2 := heap_cell' k1 2 _ rfl
 have a3 := heap_cell' k1 3 _ rfl
 have a4 := heap_cell' k1 4 _ rfl
 have b0 := heap_cell' k2 0 _ rfl
 have b1 := heap_cell' k2 1 _ rfl
 have b2 := heap_cell' k2 2 _ rfl
 have d0 := heap_cell' k3 0 _ rfl
 have d1 := heap_cell' k3 1 _ rfl
 have d2 := heap_cell' k3 2 _ rfl
 have K1 := zh k1
 have K2 := zh k2
 have K3 := zh k3
 clear k1 k2 k3 hE3
 have hne1 : ob ≠ w.heap.size := by omega
 have hne2 : ob ≠ w.heap.size + 1 := by omega
 have hne3 : ob ≠ w.heap.size + 1 + 1 := by omega
 cases hsm : same with
 | false =>
  have hp : Hid (zaV n1 r1 c1 n2 ty r2 c2 false = zaN n1 r1 c1 ++ zaM n2 ty r2 c2) := by refine zh ?_; rw [zaV, if_pos ⟨ok1', ok2'⟩]; rfl
  go_wp2_with fail
  refine ((zu hcR) _ (zu HS4) E04).mono ?_
  rintro e w5 ⟨rfl, hS5, hF5⟩
  rw [List.nil_append] at hS5
  have k1 := hF5.keep' (zu K1) hne1 (by decide)
  have k3 := hF5.keep' (zu K3) hne3 (by decide)
  have E05 := hF5.1.ext E04 (fun k hk => by rcases hk with rfl | hk <;> omega)
  have HS5 := zh hS5
  have HF5 := zh ((zu HF4).tr hF5)
  clear a0 a1 a2 a3 a4 b0 b1 b2 d0 d1 d2 hS5 hF5
  have a0 := heap_cell' k1 0 _ rfl
  have a1 := heap_cell' k1 1 _ rfl
  have a2 := heap_cell' k1 2 _ rfl
  have a3 := heap_cell' k1 3 _ rfl
  have a4 := heap_cell' k1 4 _ rfl
  have d0 := heap_cell' k3 0 _ rfl
  have d1 := heap_cell' k3 1 _ rfl
  have d2 := heap_cell' k3 2 _ rfl
  clear k1 k3
  go_wp2_with fail
  refine ((zu hcP) _ (zu HS5) E05).mono ?_
  rintro e w6 ⟨rfl, hS6, hF6⟩
  have HS6 := zh hS6
  have HF6 := zh ((zu HF5).tr hF6)
  clear hS6 hF6
  go_wp2
  exact bodyPost_ret (v := .tuple #[]) (by simp [results, Tryz.results85, go_sem]) rfl ⟨rfl, by rw [hsm, zu hp]; exact zu HS6, zu HF6⟩
 | true =>
  have hp : Hid (zaV n1 r1 c1 n2 ty r2 c2 true = goL (r1 - r2) 65 ++ (goL (r2 - r1) 66 ++ (if c1 = c2 then [] else goL (c2 + 1) 71))) := by refine zh ?_; rw [zaV, if_pos ⟨ok1', ok2'⟩]; rfl
  have g1 := zci (r1 - r2) 65 (by omega)
  have g2 := zci (r2 - r1) 66 (by omega)
  have hc1 := zh (zlE (r1 - r2) (by omega) B ob qb nb [] w4 (zu HS4) (by simp))
  go_wp2_with fail
  refine (zu hc1).mono ?_
  rintro e w5 ⟨rfl, hS5, hF5⟩
  rw [List.nil_append] at hS5
  have k1 := hF5.keep' (zu K1) hne1 (by decide)
  have k2 := hF5.keep' (zu K2) hne2 (by decide)
  have k3 := hF5.keep' (zu K3) hne3 (by decide)
  have HS5 := zh hS5
  have HF5 := zh ((zu HF4).tr hF5)
  clear a0 a1 a2 a3 a4 b0 b1 b2 d0 d1 d2 hS5 hF5 K1 K2 K3
  have a2 := heap_cell' k1 2 _ rfl
  have b1 := heap_cell' k2 1 _ rfl
  have d1 := heap_cell' k3 1 _ rfl
  have K1 := zh k1
  have K2 := zh k2
  have K3 := zh k3
  clear k1 k2 k3
  have hc2 := zh (znM (r2 - r1) (by omega) B ob qb nb _ w5 (zu HS5) (by omega))
  go_wp2_with fail
  refine (zu hc2).mono ?_
  rintro e w6 ⟨rfl, hS6, hF6⟩
  have k1 := hF6.keep' (zu K1) hne1 (by decide)
  have k2 := hF6.keep' (zu K2) hne2 (by decide)
  have k3 := hF6.keep' (zu K3) hne3 (by decide)
  have HS6 := zh hS6
  have HF6 := zh ((zu HF5).tr hF6)
  clear a2 b1 d1 hS6 hF6
  have a3 := heap_cell' k1 3 _ rfl
  have b2 := heap_cell' k2 2 _ rfl
  have d2 := heap_cell' k3 2 _ rfl
  clear k1 k2 k3
  by_cases hcc : c1 = c2
  ·rw [if_pos hcc, List.append_nil] at hp
   subst hcc
   go_wp2
   exact bodyPost_end (v := .tuple #[]) (by simp [results, Tryz.results85, go_sem]) rfl ⟨rfl, by rw [hsm, zu hp]; exact zu HS6, zu HF6⟩
  ·rw [if_neg hcc, ← List.append_assoc] at hp
   have hc3 := zh (zhm c2 (by omega) (by omega) B ob qb nb _ w6 (zu HS6) (by simp only [List.length_append]; omega))
   go_wp2_with fail
   refine (zu hc3).mono ?_
   rintro e w7 ⟨rfl, hS7, hF7⟩
   have HS7 := zh hS7
   have HF7 := zh ((zu HF6).tr hF7)
   clear hS7 hF7
   go_wp2
   exact bodyPost_end (v := .tuple #[]) (by simp [results, Tryz.results85, go_sem]) rfl ⟨rfl, by rw [hsm, zu hp]; exact zu HS7, zu HF7⟩
set_option maxRecDepth 10000 in
set_option maxHeartbeats 4000000 in
theorem zgU (v1 v2 : Value) (r1 c1 r2 c2 : Int) (n1 n2 : Nat) (tx ty : Nat → ByteArray) (same : Bool) (hsame : same = true ↔ zeV n1 n2 tx ty) (w : World)
  (hv1 : zam w v1 n1 (fun j => .string (tx j))) (hv2 : zam w v2 n2 (fun j => .string (ty j))) (hn1 : n1 ≤ 1048576) (hn2 : n2 ≤ 1048576) (hs2 : zgE ty n2 ≤ 1048576) (hlo : 3 < w.heap.size) (hT : zdK w) :
  Calls Tryz.prog 31 #[blV v1 r1 c1, blV v2 r2 c2] w fun e w' => ∃ u, e = .returned u ∧ w'.ownsRow w.heap.size 5 1 u (zaV n1 r1 c1 n2 ty r2 c2 same).length ((zaV n1 r1 c1 n2 ty r2 c2 same).map (Value.int .u8)) ∧ Ext w w' := by
 have HV1 := zh hv1
 have HV2 := zh hv2
 obtain ⟨ao, cap, hvv, _, _⟩ := id hv1
 subst hvv
 obtain ⟨bo, cbp, hvv, _, _⟩ := id hv2
 subst hvv
 have hcW := zh (fun W (hW : Ext w W) => zcQ W (Nat.lt_of_lt_of_le hlo hW.size) (hT.keep (hW.heap hlo)))
 have hcO1 := zh (fun W (hW : Ext w W) => zcZ (.slice ao n1 cap) r1 c1 n1 tx W (hv1.ext hW))
 have hcO2 := zh (fun W (hW : Ext w W) => zcZ (.slice bo n2 cbp) r2 c2 n2 ty W (hv2.ext hW))
 have HSM := zh hsame
 clear hv1 hv2 hT hsame
 unfold blV at *
 have e1 := (Ext.refl w).alloc (.cells #[.slice ao n1 cap, .int .i64 r1, .int .i64 c1] 46)
 have x1 := zba w (.cells #[.slice ao n1 cap, .int .i64 r1, .int .i64 c1] 46)
 obtain ⟨U1, hU1⟩ : ∃ U, U = w.alloc (.cells #[.slice ao n1 cap, .int .i64 r1, .int .i64 c1] 46) := ⟨_, rfl⟩
 rw [← hU1] at e1 x1
 have z1 : U1.heap.size = w.heap.size + 1 := by rw [hU1]; simp
 have e2 := (Ext.refl U1).alloc (.cells #[.slice bo n2 cbp, .int .i64 r2, .int .i64 c2] 46)
 have x2 := zba U1 (.cells #[.slice bo n2 cbp, .int .i64 r2, .int .i64 c2] 46)
 obtain ⟨U2, hU2⟩ : ∃ U, U = U1.alloc (.cells #[.slice bo n2 cbp, .int .i64 r2, .int .i64 c2] 46) := ⟨_, rfl⟩
 rw [← hU2] at e2 x2
 rw [z1] at x2
 have y1 := e2.keep' x1
 have EU := e1.trans e2
 have HU : Hid (U2 = (w.alloc (.cells #[.slice ao n1 cap, .int .i64 r1, .int .i64 c1] 46)).alloc (.cells #[.slice bo n2 cbp, .int .i64 r2, .int .i64 c2] 46)) := by refine zh ?_; rw [hU2, hU1]
 have zU : U2.heap.size = w.heap.size + 1 + 1 := by rw [hU2, World.size_alloc, z1]
 clear hU1 hU2 x1 e1 e2 z1
 go_enter Tryz.func31, Tryz.ntmps31
 go_wp2_with fail
 rw [← zu HU]
 refine ((zu hcW) _ EU).mono ?_
 rintro e w2 ⟨ob, qb, nb, rfl, hS, hob, E2⟩
 have hy1 := E2.keep' y1
 have hy2 := E2.keep' x2
 have E2w := EU.trans E2
 have hzz := E2.size
 have HS := zh hS
 have hltb := hS.ltb
 clear hS E2 y1 x2 HU EU
 unfold wrV
 have q0 := heap_cell' hy1 0 _ rfl
 have q1 := heap_cell' hy1 1 _ rfl
 have q2 := heap_cell' hy1 2 _ rfl
 have hz9 : w.heap.size < w2.heap.size := by omega
 go_wp2_with fail
 have hw3 := zba w2 (.cells #[.func (.func 154) #[] #[.pointer (some ⟨ob, 0, none⟩)], .func (.func 155) #[] #[.pointer (some ⟨nb, 0, none⟩)], .func (.func 156) #[] #[.pointer (some ⟨nb, 0, none⟩)], .func (.func 157) #[] #[.pointer (some ⟨qb, 0, none⟩)], .func (.func 158) #[] #[.pointer (some ⟨ob, 0, none⟩)]] 111)
 have E23 := (Ext.refl w2).alloc (.cells #[.func (.func 154) #[] #[.pointer (some ⟨ob, 0, none⟩)], .func (.func 155) #[] #[.pointer (some ⟨nb, 0, none⟩)], .func (.func 156) #[] #[.pointer (some ⟨nb, 0, none⟩)], .func (.func 157) #[] #[.pointer (some ⟨qb, 0, none⟩)], .func (.func 158) #[] #[.pointer (some ⟨ob, 0, none⟩)]] 111)
 refine ((zu hcO1) _ (E2w.trans E23)).mono ?_
 rintro e w4 ⟨rfl, E4⟩
 have hw4 := E4.keep' hw3
 have hb4 := (E23.trans E4).keep' hy1
 have hd4 := (E23.trans E4).keep' hy2
 have E4w := E2w.trans (E23.trans E4)
 have HS4 := zh ((zu HS).on (E23.trans E4))
 clear hw3 E23 E4 HS q0 q1 q2 hy1 hy2
 have d0 := heap_cell' hd4 0 _ rfl
 have d1 := heap_cell' hd4 1 _ rfl
 have d2 := heap_cell' hd4 2 _ rfl
 by_cases ok1 : bOk n1 r1 c1
 ·rw [bOk_t ok1]
  go_wp2_with fail
  refine ((zu hcO2) _ E4w).mono ?_
  rintro e w5 ⟨rfl, E5⟩
  have hw5 := E5.keep' hw4
  have hb5 := E5.keep' hb4
  have hd5 := E5.keep' hd4
  have E5w := E4w.trans E5
  have HS5 := zh ((zu HS4).on E5)
  clear hw4 hb4 hd4 E5 d0 d1 d2
  have d0 := heap_cell' hd5 0 _ rfl
  have d1 := heap_cell' hd5 1 _ rfl
  have d2 := heap_cell' hd5 2 _ rfl
  have q0 := heap_cell' hb5 0 _ rfl
  have q1 := heap_cell' hb5 1 _ rfl
  have q2 := heap_cell' hb5 2 _ rfl
  have p0 := heap_cell' hw5 0 _ rfl
  have p1 := heap_cell' hw5 1 _ rfl
  have p2 := heap_cell' hw5 2 _ rfl
  have p3 := heap_cell' hw5 3 _ rfl
  have p4 := heap_cell' hw5 4 _ rfl
  by_cases ok2 : bOk n2 r2 c2
  ·rw [bOk_t ok2]
   have hcP := zh (zjy (.slice ao n1 cap) (.slice bo n2 cbp) r1 c1 r2 c2 n1 n2 tx ty ok1 ok2 same (zu HSM) w2.heap.size ob qb nb w w5 (zu HS5) E5w (by omega) (zu HV1) (zu HV2) hn1 hn2 hs2)
   unfold wrV blV at hcP
   have HW5 := zh hw5
   clear hw5 hb5 hd5
   go_wp2_with fail
   refine (zu hcP).mono ?_
   rintro e w6 ⟨rfl, hS6, hF6⟩
   have hw6 := hF6.keep' (zu HW5) (by omega) (by decide)
   have r4 := heap_cell' hw6 4 _ rfl
   have HE6 := zh (hF6.1.ext E5w (fun k hk => by rcases hk with rfl | hk <;> omega))
   have hcw := zh (zbq w2.heap.size ob qb nb _ w6 hS6)
   clear hS6 hF6 hw6
   go_wp2_with fail
   refine (zu hcw).mono ?_
   rintro e w7 ⟨u, rfl, ho, rfl⟩
   have HO := zh ho
   clear ho
   go_wp2
   go_ret
   exact ⟨u, rfl, zah (zu HO) (by omega), zu HE6⟩
  ·have hp : Hid (zaV n1 r1 c1 n2 ty r2 c2 same = []) := by refine zh ?_; rw [zaV, if_neg (fun e => ok2 e.2)]
   rw [bOk_f ok2]
   have hcw := zh (zbq w2.heap.size ob qb nb _ w5 (zu HS5))
   have HE5 := zh E5w
   clear hw5 hb5 hd5
   go_wp2_with fail
   refine (zu hcw).mono ?_
   rintro e w7 ⟨u, rfl, ho, rfl⟩
   have HO := zh ho
   clear ho
   go_wp2
   go_ret
   rw [zu hp]
   exact ⟨u, rfl, zah (zu HO) (by omega), zu HE5⟩
 ·have hp : Hid (zaV n1 r1 c1 n2 ty r2 c2 same = []) := by refine zh ?_; rw [zaV, if_neg (fun e => ok1 e.1)]
  rw [bOk_f ok1]
  have p4 := heap_cell' hw4 4 _ rfl
  have hcw := zh (zbq w2.heap.size ob qb nb _ w4 (zu HS4))
  have HE4 := zh E4w
  clear hw4 hb4 hd4
  go_wp2_with fail
  refine (zu hcw).mono ?_
  rintro e w7 ⟨u, rfl, ho, rfl⟩
  have HO := zh ho
  clear ho
  go_wp2
  go_ret
  rw [zu hp]
  exact ⟨u, rfl, zah (zu HO) (by omega), zu HE4⟩
end Go.Proofs.YtinfdhbnljnifaaGreatDoor
