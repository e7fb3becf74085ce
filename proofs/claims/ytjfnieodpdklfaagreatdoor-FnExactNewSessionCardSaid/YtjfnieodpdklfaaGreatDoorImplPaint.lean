import Derived.Test.YtjfnieodpdklfaaGreatDoorBOk
namespace Go.Proofs.YtjfnieodpdklfaaGreatDoor
open Go.RowKit

theorem heap_cell {W : World} {p : Nat} {cs : Array Value} {T : TypeId} {fz : Nat × Nat} (h : W.heap[p]? = some (.cells cs T fz)) (i : Nat) (x : Value) (hx : cs[i]? = some x) : W.cell? ⟨p, i, none⟩ = some x := by simp [World.cell?, h, hx]
theorem WF.keep {B ob : Nat} {W W' : World} {p : Nat} {cs : Array Value} {T : TypeId} {fz : Nat × Nat} (h : WF B ob W W') (hp : W.heap[p]? = some (.cells cs T fz)) (hne : ob ≠ p) (hT : T ≠ 5) : W'.heap[p]? = some (.cells cs T fz) :=
  h.2 _ _ hp (fun e => hne (Option.some.inj e).symm) (fun c f e => by
    injection e with _ e2 _
    exact hT e2)
theorem Ext.keep {W W' : World} {p : Nat} {o : Obj} (h : Ext W W') (hp : W.heap[p]? = some o) : W'.heap[p]? = some o := (h.heap (Array.getElem?_eq_some_iff.1 hp).1).trans hp
set_option maxRecDepth 10000 in
set_option maxHeartbeats 2000000 in
theorem implPaint_any (v : Value) (row col : Int) (n : Nat) (tx : Nat → ByteArray) (w : World) (hv : Row1At w v n (fun j => .string (tx j))) (hn : n ≤ 1048576) (hs : slen tx n ≤ 274877906944) (hlo : 3 < w.heap.size) (hT : PowT w) :
    Calls Tryz.prog 22 #[blV v row col] w fun e w' => ∃ u, e = .returned u ∧ w'.ownsRow w.heap.size 5 1 u (paintL n tx row col).length ((paintL n tx row col).map (Value.int .u8)) ∧ Ext w w' := by
  have HV := hide hv
  obtain ⟨ao, cap, hvv, _, _⟩ := id hv
  subst hvv
  have hcW := hide (fun W (hW : Ext w W) => newWriters_any W (Nat.lt_of_lt_of_le hlo hW.size) (hT.keep (hW.heap hlo)))
  have hcO := hide (fun W (hW : Ext w W) => blockOk_any (.slice ao n cap) row col n tx W (hv.ext hW))
  have H0 : ∀ o, (w.alloc o).heap[w.heap.size]? = some o := fun o => alloc_new w o
  clear hv hT
  unfold blV at *
  go_enter Tryz.func22, Tryz.ntmps22
  go_wp2_with fail
  refine ((unhide hcW) _ ((Ext.refl _).alloc _)).mono ?_
  rintro e w2 ⟨ob, qb, nb, rfl, hS, hob, E2⟩
  have hob2 := hob
  rw [World.size_alloc] at hob2
  have hb2 := E2.keep (H0 (.cells #[.slice ao n cap, .int .i64 row, .int .i64 col] 53))
  have E2w : Ext w w2 := ((Ext.refl w).alloc _).trans E2
  have hlt2 := E2w.size
  have hzz : w.heap.size < w2.heap.size := (Array.getElem?_eq_some_iff.1 hb2).1
  have HS := hide hS
  have hltb := hS.ltb
  clear hS E2 hob
  unfold wrV
  have q0 := heap_cell hb2 0 _ rfl
  have q1 := heap_cell hb2 1 _ rfl
  have q2 := heap_cell hb2 2 _ rfl
  go_wp2_with fail
  have hw3 := alloc_new w2 (.cells #[.func (.func 97) #[] #[.pointer (some ⟨ob, 0, none⟩)], .func (.func 98) #[] #[.pointer (some ⟨nb, 0, none⟩)], .func (.func 99) #[] #[.pointer (some ⟨nb, 0, none⟩)], .func (.func 100) #[] #[.pointer (some ⟨qb, 0, none⟩)], .func (.func 101) #[] #[.pointer (some ⟨ob, 0, none⟩)]] 83)
  have E23 := (Ext.refl w2).alloc (.cells #[.func (.func 97) #[] #[.pointer (some ⟨ob, 0, none⟩)], .func (.func 98) #[] #[.pointer (some ⟨nb, 0, none⟩)], .func (.func 99) #[] #[.pointer (some ⟨nb, 0, none⟩)], .func (.func 100) #[] #[.pointer (some ⟨qb, 0, none⟩)], .func (.func 101) #[] #[.pointer (some ⟨ob, 0, none⟩)]] 83)
  refine ((unhide hcO) _ (E2w.trans E23)).mono ?_
  rintro e w4 ⟨rfl, E4⟩
  have hw4 := E4.keep hw3
  have hb4 := (E23.trans E4).keep hb2
  have E4w := E2w.trans (E23.trans E4)
  have HS4 := hide ((unhide HS).on (E23.trans E4))
  have HE4 := hide E4w
  clear hw3 E23 E4 HS q0 q1 q2
  have q0 := heap_cell hb4 0 _ rfl
  have q1 := heap_cell hb4 1 _ rfl
  have q2 := heap_cell hb4 2 _ rfl
  have p0 := heap_cell hw4 0 _ rfl
  have p1 := heap_cell hw4 1 _ rfl
  have p2 := heap_cell hw4 2 _ rfl
  have p3 := heap_cell hw4 3 _ rfl
  have p4 := heap_cell hw4 4 _ rfl
  by_cases hok : bOk n row col
  · have hcP := hide (paintM_any (.slice ao n cap) row col n tx hok w2.heap.size ob qb nb [] w4 (unhide HS4) ((unhide HV).ext E4w) hn hs (by simp))
    rw [bOk_t hok]
    unfold wrV blV at hcP
    have HW4 := hide hw4
    clear hw4 hb4 hb2 E4w
    go_wp2_with fail
    refine (unhide hcP).mono ?_
    rintro e w5 ⟨rfl, hS5, hF5⟩
    rw [List.nil_append] at hS5
    have hw5 := hF5.keep (unhide HW4) (by omega) (by decide)
    have r4 := heap_cell hw5 4 _ rfl
    have HS5 := hide hS5
    have HE5 := hide (hF5.1.ext (unhide HE4) (fun k hk => by rcases hk with rfl | hk <;> omega))
    have hcw := hide (written_any w2.heap.size ob qb nb _ w5 hS5)
    clear hS5 hF5 hw5
    go_wp2_with fail
    refine (unhide hcw).mono ?_
    rintro e w6 ⟨u, rfl, ho, rfl⟩
    have HO := hide ho
    clear ho
    go_wp2
    go_ret
    exact ⟨u, rfl, owns_mono (unhide HO) (by omega), unhide HE5⟩
  · have hp : Hid (paintL n tx row col = []) := by refine hide ?_; rw [paintL, if_neg hok]
    rw [bOk_f hok]
    have hcw := hide (written_any w2.heap.size ob qb nb _ w4 (unhide HS4))
    clear hw4 hb4 hb2 E4w
    go_wp2_with fail
    refine (unhide hcw).mono ?_
    rintro e w6 ⟨u, rfl, ho, rfl⟩
    have HO := hide ho
    clear ho
    go_wp2
    go_ret
    rw [unhide hp]
    exact ⟨u, rfl, owns_mono (unhide HO) (by omega), unhide HE4⟩
end Go.Proofs.YtjfnieodpdklfaaGreatDoor
