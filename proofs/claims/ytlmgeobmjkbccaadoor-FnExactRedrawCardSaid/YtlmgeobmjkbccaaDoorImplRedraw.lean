import Derived.Test.YtlmgeobmjkbccaaDoorRedrawM
namespace Go.Proofs.YtlmgeobmjkbccaaDoor
open Go.RowKit
set_option maxRecDepth 10000 in
set_option maxHeartbeats 4000000 in
theorem implRedraw_any (v1 v2 : Value) (r1 c1 r2 c2 : Int) (n1 n2 : Nat) (tx ty : Nat → ByteArray) (same : Bool) (hsame : same = true ↔ SameR n1 n2 tx ty) (w : World)
    (hv1 : Row1At w v1 n1 (fun j => .string (tx j))) (hv2 : Row1At w v2 n2 (fun j => .string (ty j))) (hn1 : n1 ≤ 1048576) (hn2 : n2 ≤ 1048576) (hs2 : slen ty n2 ≤ 1048576) (hlo : 0 < w.heap.size) (hT : PowT w) :
    Calls Tryd.prog 15 #[blV v1 r1 c1, blV v2 r2 c2] w fun e w' => ∃ u, e = .returned u ∧ w'.ownsRow w.heap.size 5 1 u (redrawL n1 r1 c1 n2 ty r2 c2 same).length ((redrawL n1 r1 c1 n2 ty r2 c2 same).map (Value.int .u8)) ∧ Ext w w' := by
  have HV1 := hide hv1
  have HV2 := hide hv2
  obtain ⟨ao, cap, hvv, _, _⟩ := id hv1
  subst hvv
  obtain ⟨bo, cbp, hvv, _, _⟩ := id hv2
  subst hvv
  have hcW := hide (fun W (hW : Ext w W) => newWriters_any W (Nat.lt_of_lt_of_le hlo hW.size) (hT.keep (hW.heap hlo)))
  have hcO1 := hide (fun W (hW : Ext w W) => blockOk_any (.slice ao n1 cap) r1 c1 n1 tx W (hv1.ext hW))
  have hcO2 := hide (fun W (hW : Ext w W) => blockOk_any (.slice bo n2 cbp) r2 c2 n2 ty W (hv2.ext hW))
  have HSM := hide hsame
  clear hv1 hv2 hT hsame
  unfold blV at *
  have e1 := (Ext.refl w).alloc (.cells #[.slice ao n1 cap, .int .i64 r1, .int .i64 c1] 28)
  have x1 := alloc_new w (.cells #[.slice ao n1 cap, .int .i64 r1, .int .i64 c1] 28)
  obtain ⟨U1, hU1⟩ : ∃ U, U = w.alloc (.cells #[.slice ao n1 cap, .int .i64 r1, .int .i64 c1] 28) := ⟨_, rfl⟩
  rw [← hU1] at e1 x1
  have z1 : U1.heap.size = w.heap.size + 1 := by rw [hU1]; simp
  have e2 := (Ext.refl U1).alloc (.cells #[.slice bo n2 cbp, .int .i64 r2, .int .i64 c2] 28)
  have x2 := alloc_new U1 (.cells #[.slice bo n2 cbp, .int .i64 r2, .int .i64 c2] 28)
  obtain ⟨U2, hU2⟩ : ∃ U, U = U1.alloc (.cells #[.slice bo n2 cbp, .int .i64 r2, .int .i64 c2] 28) := ⟨_, rfl⟩
  rw [← hU2] at e2 x2
  rw [z1] at x2
  have y1 := e2.keep' x1
  have EU := e1.trans e2
  have HU : Hid (U2 = (w.alloc (.cells #[.slice ao n1 cap, .int .i64 r1, .int .i64 c1] 28)).alloc (.cells #[.slice bo n2 cbp, .int .i64 r2, .int .i64 c2] 28)) := by refine hide ?_; rw [hU2, hU1]
  have zU : U2.heap.size = w.heap.size + 1 + 1 := by rw [hU2, World.size_alloc, z1]
  clear hU1 hU2 x1 e1 e2 z1
  go_enter Tryd.func15, Tryd.ntmps15
  go_wp2_with fail
  rw [← unhide HU]
  refine ((unhide hcW) _ EU).mono ?_
  rintro e w2 ⟨ob, qb, nb, rfl, hS, hob, E2⟩
  have hy1 := E2.keep' y1
  have hy2 := E2.keep' x2
  have E2w := EU.trans E2
  have hzz := E2.size
  have HS := hide hS
  have hltb := hS.ltb
  clear hS E2 y1 x2 HU EU
  unfold wrV
  have q0 := heap_cell' hy1 0 _ rfl
  have q1 := heap_cell' hy1 1 _ rfl
  have q2 := heap_cell' hy1 2 _ rfl
  have hz9 : w.heap.size < w2.heap.size := by omega
  go_wp2_with fail
  have hw3 := alloc_new w2 (.cells #[.func (.func 32) #[] #[.pointer (some ⟨ob, 0, none⟩)], .func (.func 33) #[] #[.pointer (some ⟨nb, 0, none⟩)], .func (.func 34) #[] #[.pointer (some ⟨nb, 0, none⟩)], .func (.func 35) #[] #[.pointer (some ⟨qb, 0, none⟩)], .func (.func 36) #[] #[.pointer (some ⟨ob, 0, none⟩)]] 45)
  have E23 := (Ext.refl w2).alloc (.cells #[.func (.func 32) #[] #[.pointer (some ⟨ob, 0, none⟩)], .func (.func 33) #[] #[.pointer (some ⟨nb, 0, none⟩)], .func (.func 34) #[] #[.pointer (some ⟨nb, 0, none⟩)], .func (.func 35) #[] #[.pointer (some ⟨qb, 0, none⟩)], .func (.func 36) #[] #[.pointer (some ⟨ob, 0, none⟩)]] 45)
  refine ((unhide hcO1) _ (E2w.trans E23)).mono ?_
  rintro e w4 ⟨rfl, E4⟩
  have hw4 := E4.keep' hw3
  have hb4 := (E23.trans E4).keep' hy1
  have hd4 := (E23.trans E4).keep' hy2
  have E4w := E2w.trans (E23.trans E4)
  have HS4 := hide ((unhide HS).on (E23.trans E4))
  clear hw3 E23 E4 HS q0 q1 q2 hy1 hy2
  have d0 := heap_cell' hd4 0 _ rfl
  have d1 := heap_cell' hd4 1 _ rfl
  have d2 := heap_cell' hd4 2 _ rfl
  by_cases ok1 : bOk n1 r1 c1
  · rw [bOk_t ok1]
    go_wp2_with fail
    refine ((unhide hcO2) _ E4w).mono ?_
    rintro e w5 ⟨rfl, E5⟩
    have hw5 := E5.keep' hw4
    have hb5 := E5.keep' hb4
    have hd5 := E5.keep' hd4
    have E5w := E4w.trans E5
    have HS5 := hide ((unhide HS4).on E5)
    clear hw4 hb4 hd4 E5 d0 d1 d2
    have d0 := heap_cell' hd5 0 _ rfl
    have d1 := heap_cell' hd5 1 _ rfl
    have d2 := heap_cell' hd5 2 _ rfl
    have q0 := heap_cell' hb5 0 _ rfl
    have q1 := heap_cell' hb5 1 _ rfl
    have q2 := heap_cell' hb5 2 _ rfl
    have p0 := heap_cell' hw5 0 _ rfl
    have p1 := heap_cell' hw5 1 _ rfl
    have p2 := heap_cell' hw5 2 _ rfl
    have p3 := heap_cell' hw5 3 _ rfl
    have p4 := heap_cell' hw5 4 _ rfl
    by_cases ok2 : bOk n2 r2 c2
    · rw [bOk_t ok2]
      have hcP := hide (redrawM_any (.slice ao n1 cap) (.slice bo n2 cbp) r1 c1 r2 c2 n1 n2 tx ty ok1 ok2 same (unhide HSM) w2.heap.size ob qb nb w w5 (unhide HS5) E5w (by omega) (unhide HV1) (unhide HV2) hn1 hn2 hs2)
      unfold wrV blV at hcP
      have HW5 := hide hw5
      clear hw5 hb5 hd5
      go_wp2_with fail
      refine (unhide hcP).mono ?_
      rintro e w6 ⟨rfl, hS6, hF6⟩
      have hw6 := hF6.keep' (unhide HW5) (by omega) (by decide)
      have r4 := heap_cell' hw6 4 _ rfl
      have HE6 := hide (hF6.1.ext E5w (fun k hk => by rcases hk with rfl | hk <;> omega))
      have hcw := hide (written_any w2.heap.size ob qb nb _ w6 hS6)
      clear hS6 hF6 hw6
      go_wp2_with fail
      refine (unhide hcw).mono ?_
      rintro e w7 ⟨u, rfl, ho, rfl⟩
      have HO := hide ho
      clear ho
      go_wp2
      go_ret
      exact ⟨u, rfl, owns_mono (unhide HO) (by omega), unhide HE6⟩
    · have hp : Hid (redrawL n1 r1 c1 n2 ty r2 c2 same = []) := by refine hide ?_; rw [redrawL, if_neg (fun e => ok2 e.2)]
      rw [bOk_f ok2]
      have hcw := hide (written_any w2.heap.size ob qb nb _ w5 (unhide HS5))
      have HE5 := hide E5w
      clear hw5 hb5 hd5
      go_wp2_with fail
      refine (unhide hcw).mono ?_
      rintro e w7 ⟨u, rfl, ho, rfl⟩
      have HO := hide ho
      clear ho
      go_wp2
      go_ret
      rw [unhide hp]
      exact ⟨u, rfl, owns_mono (unhide HO) (by omega), unhide HE5⟩
  · have hp : Hid (redrawL n1 r1 c1 n2 ty r2 c2 same = []) := by refine hide ?_; rw [redrawL, if_neg (fun e => ok1 e.1)]
    rw [bOk_f ok1]
    have p4 := heap_cell' hw4 4 _ rfl
    have hcw := hide (written_any w2.heap.size ob qb nb _ w4 (unhide HS4))
    have HE4 := hide E4w
    clear hw4 hb4 hd4
    go_wp2_with fail
    refine (unhide hcw).mono ?_
    rintro e w7 ⟨u, rfl, ho, rfl⟩
    have HO := hide ho
    clear ho
    go_wp2
    go_ret
    rw [unhide hp]
    exact ⟨u, rfl, owns_mono (unhide HO) (by omega), unhide HE4⟩
end Go.Proofs.YtlmgeobmjkbccaaDoor
