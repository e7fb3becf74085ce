import Derived.Test.YtokjpnlmkecleaaGreatDoorCameLine
import Derived.Test.YtokjpnlmkecleaaGreatDoorItemOk
namespace Go.Proofs.YtokjpnlmkecleaaGreatDoor
open Go.RowKit
section
variable {P base : Nat} {W : World} {k : ByteArray} {u : Value} {qs : List Nat} {un : List (ByteArray × ByteArray)} {cl rl rr : List Value}
set_option maxRecDepth 10000 in
set_option maxHeartbeats 4000000 in
theorem edYank_no {A B : List (List Int × Int)} (kd : Int) (rv : Value) (h : Ed0 P base W { data := #[] } u qs un A B cl rl rr) :
    Calls Tryz.prog 99 #[.pointer (some ⟨P, 0, none⟩), .agg #[.int .i64 kd, rv]] W fun e w' => EdR P base W w' { data := #[] } un A B 2 e := by
  replace h := h.ext ((Ext.refl W).alloc (.cells #[.int .i64 kd, rv] 28))
  have H0 := hide ((h.same (Ext.refl _) 2).pre ((Ext.refl W).alloc (.cells #[.int .i64 kd, rv] 28)))
  have c602 := (edG_cells h.blk h.len).2.2.1
  clear h
  go_enter Tryz.func99, Tryz.ntmps99
  go_wp2
  exact bodyPost_ret (v := .int .i64 2) (by simp [results, Tryz.results99, go_sem]) rfl (unhide H0)
set_option maxRecDepth 10000 in
set_option maxHeartbeats 4000000 in
theorem edYank_yes (xs ys : List Int) (hx : xs.length ≤ 1048576) (kd : Int) (rv : Value) (K : List Int) (hK : Bytes K) (h0 : 0 < K.length) (zK : K.length ≤ 1048576) (hT : ∀ W', Fr (fun x => x = P ∨ base ≤ x) W W' → Laid W') (h : Ed0 P base W (toBA K) u qs un (clusC xs) (clusC ys) cl rl rr) :
    Calls Tryz.prog 99 #[.pointer (some ⟨P, 0, none⟩), .agg #[.int .i64 kd, rv]] W fun e w' => (300 < (flat (clusC (xs ++ cleanL K))).length + (flat (clusC ys)).length ∧ EdR P base W w' (toBA K) un (clusC xs) (clusC ys) 2 e) ∨ ((flat (clusC (xs ++ cleanL K))).length + (flat (clusC ys)).length ≤ 300 ∧ EdR P base W w' (toBA K) (undoN un (toBA (textC (clusC xs)), toBA (textC (clusC ys)))) (clusC (xs ++ cleanL K)) (clusC ys) 1 e) := by
  have hcl := cleanL_len K
  obtain ⟨V, hV⟩ : ∃ V, V = W.alloc (.cells #[.int .i64 kd, rv] 28) := ⟨_, rfl⟩
  have E0 : Ext W V := by rw [hV]; exact (Ext.refl W).alloc _
  have HP := hide (fun w (E : Ext V w) v (hv : IntsAt w .i32 v (cleanL K)) => put_any xs ys hx v (cleanL K) hv (cleanL_i32 K) (by omega) (fun W' f => hT W' ((Fr.of_ext (E0.trans E)).tr f)) (h.ext (E0.trans E)))
  have c602 := (edG_cells (h.ext E0).blk h.len).2.2.1
  obtain ⟨v0, w0, hrun, i0, E1⟩ := run_s2i (P := Tryz.prog) V _ _ _ Tryz.underlying9 Tryz.underlying22 Tryz.underlying5 K hK
  have HC := hide (implClean_any K hK v0 w0 i0 (by omega))
  have hne2 : (toBA K).toList.isEmpty = false := toBA_some (List.length_pos_iff.1 h0)
  have hne : ¬ (toBA K).toList = [] := fun e => by rw [e] at hne2; simp at hne2
  have HE0 := hide E0
  have HE1 := hide E1
  rw [hV] at hrun c602
  have HV := hide hV
  clear h hT hx E0 E1 i0 hV
  obtain ⟨c1, hc1⟩ : ∃ c : Prop, c = (300 < (flat (clusC (xs ++ cleanL K))).length + (flat (clusC ys)).length) := ⟨_, rfl⟩
  obtain ⟨c2, hc2⟩ : ∃ c : Prop, c = ((flat (clusC (xs ++ cleanL K))).length + (flat (clusC ys)).length ≤ 300) := ⟨_, rfl⟩
  rw [← hc1, ← hc2] at HP ⊢
  clear hc1 hc2
  go_enter Tryz.func99, Tryz.ntmps99
  go_wp2_with fail
  refine (unhide HC).mono ?_
  rintro e w1 ⟨v1, rfl, o1, E2⟩
  have HP' := hide ((unhide HP) w1 ((unhide HE1).trans E2) v1 (ints_of_owns o1))
  have HEW := hide ((unhide HE0).trans ((unhide HE1).trans E2))
  clear HC HP E2 o1
  go_wp2_with fail
  refine (unhide HP').mono ?_
  rintro e w2 (⟨h1, rfl, h2⟩ | ⟨h1, rfl, h2⟩)
  · have H2 := hide h2
    clear h2 HP'
    go_wp2
    exact bodyPost_ret (v := .int .i64 2) (by simp [results, Tryz.results99, go_sem]) rfl (Or.inl ⟨h1, EdR.pre ⟨rfl, unhide H2⟩ (unhide HEW)⟩)
  · have H2 := hide h2
    clear h2 HP'
    go_wp2
    exact bodyPost_ret (v := .int .i64 1) (by simp [results, Tryz.results99, go_sem]) rfl (Or.inr ⟨h1, EdR.pre ⟨rfl, unhide H2⟩ (unhide HEW)⟩)
end
end Go.Proofs.YtokjpnlmkecleaaGreatDoor
