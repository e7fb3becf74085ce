import Derived.Test.YtokjpnlmkecleaaGreatDoorEdD7
namespace Go.Proofs.YtokjpnlmkecleaaGreatDoor
open Go.RowKit

section
variable {P base : Nat} {W : World} {k : ByteArray} {u : Value} {qs : List Nat} {un : List (ByteArray × ByteArray)} {cl rl rr : List Value}
set_option maxRecDepth 10000 in
set_option maxHeartbeats 4000000 in
theorem edKillStart_no {B : List (List Int × Int)} (kd : Int) (rv : Value) (h : Ed0 P base W k u qs un [] B cl rl rr) :
    Calls Tryz.prog 97 #[.pointer (some ⟨P, 0, none⟩), .agg #[.int .i64 kd, rv]] W fun e w' => EdR P base W w' k un [] B 2 e := by
  replace h := h.ext ((Ext.refl W).alloc (.cells #[.int .i64 kd, rv] 28))
  have H1 := hide (fun w (E : Ext _ w) => edLeftOf (h.ext E).two)
  have H2 := hide (fun w (E : Ext _ w) => killBy_no (.func (.func 120) #[.pointer (some ⟨P, 0, none⟩)] #[]) h E)
  have hmf : ∀ (fn : Fn) (first cap : Array Value) (w : World), (Instr.makeFunc fn first cap).run Tryz.prog w = .ok (.func fn first cap) w := fun _ _ _ _ => rfl
  clear h
  rw [List.length_nil] at H1
  go_enter Tryz.func97, Tryz.ntmps97
  go_wp2_with fail
  go_region_law (first
    | (go_simp; go_at_call 104
       refine ((unhide H1) _ (by first | exact Ext.refl _ | exact (Ext.refl _).drew)).mono ?_
       rintro e w1 ⟨rfl, -, E1⟩
       have E2 : Ext (W.alloc (.cells #[.int .i64 kd, rv] 28)) w1 := (by first | exact E1 | exact (Ext.refl _).drew.trans E1)
       clear E1)
    | (go_simp; go_at_call 127
       refine ((unhide H2) _ (by first | exact E2 | exact E2.drew)).mono ?_
       rintro e w2 ⟨rfl, h3⟩
       have H3 := hide h3
       clear h3))
  all_goals
    go_wp2
    exact bodyPost_ret (v := .int .i64 2) (by simp [results, Tryz.results97, go_sem]) rfl (EdR.pre ⟨rfl, unhide H3⟩ ((Ext.refl W).alloc _))
set_option maxRecDepth 10000 in
set_option maxHeartbeats 4000000 in
theorem edKillStart_yes {A2 B : List (List Int × Int)} (kd : Int) (rv : Value) (hp : 0 < A2.length) (hc : CkC A2) (h : Ed0 P base W k u qs un A2 B cl rl rr) :
    Calls Tryz.prog 97 #[.pointer (some ⟨P, 0, none⟩), .agg #[.int .i64 kd, rv]] W fun e w' => EdR P base W w' (toBA (textC A2)) (undoN un (toBA (textC A2), toBA (textC B))) [] B 1 e := by
  replace h := h.ext ((Ext.refl W).alloc (.cells #[.int .i64 kd, rv] 28))
  have H1 := hide (fun w (E : Ext _ w) => edLeftOf (h.ext E).two)
  have H2 := hide (fun w (E : Ext _ w) => killByL_any (A1 := []) (A2 := A2) hp hc (by rw [List.nil_append]; exact h) E)
  have hmf : ∀ (fn : Fn) (first cap : Array Value) (w : World), (Instr.makeFunc fn first cap).run Tryz.prog w = .ok (.func fn first cap) w := fun _ _ _ _ => rfl
  clear h hc hp
  obtain ⟨n, hn⟩ : ∃ n, A2.length = n := ⟨_, rfl⟩
  rw [hn] at H1 H2
  clear hn
  go_enter Tryz.func97, Tryz.ntmps97
  go_wp2_with fail
  go_region_law (first
    | (go_simp; go_at_call 104
       refine ((unhide H1) _ (by first | exact Ext.refl _ | exact (Ext.refl _).drew)).mono ?_
       rintro e w1 ⟨rfl, -, E1⟩
       have E2 : Ext (W.alloc (.cells #[.int .i64 kd, rv] 28)) w1 := (by first | exact E1 | exact (Ext.refl _).drew.trans E1)
       clear E1)
    | (go_simp; go_at_call 127
       refine ((unhide H2) _ (by first | exact E2 | exact E2.drew)).mono ?_
       rintro e w2 ⟨rfl, h3⟩
       have H3 := hide h3
       clear h3))
  all_goals
    go_wp2
    exact bodyPost_ret (v := .int .i64 1) (by simp [results, Tryz.results97, go_sem]) rfl (EdR.pre ⟨rfl, unhide H3⟩ ((Ext.refl W).alloc _))
set_option maxRecDepth 10000 in
set_option maxHeartbeats 4000000 in
theorem edKillEnd_no {A1 : List (List Int × Int)} (kd : Int) (rv : Value) (h : Ed0 P base W k u qs un A1 [] cl rl rr) :
    Calls Tryz.prog 96 #[.pointer (some ⟨P, 0, none⟩), .agg #[.int .i64 kd, rv]] W fun e w' => EdR P base W w' k un A1 [] 2 e := by
  replace h := h.ext ((Ext.refl W).alloc (.cells #[.int .i64 kd, rv] 28))
  have H1 := hide (fun w (E : Ext _ w) => edRightOf (h.ext E).two)
  have H2 := hide (fun w (E : Ext _ w) => killBy_no (.func (.func 121) #[.pointer (some ⟨P, 0, none⟩)] #[]) h E)
  have hmf : ∀ (fn : Fn) (first cap : Array Value) (w : World), (Instr.makeFunc fn first cap).run Tryz.prog w = .ok (.func fn first cap) w := fun _ _ _ _ => rfl
  clear h
  rw [List.length_nil] at H1
  go_enter Tryz.func96, Tryz.ntmps96
  go_wp2_with fail
  go_region_law (first
    | (go_simp; go_at_call 105
       refine ((unhide H1) _ (by first | exact Ext.refl _ | exact (Ext.refl _).drew)).mono ?_
       rintro e w1 ⟨ao, cap, rfl, -, E1⟩
       have E2 : Ext (W.alloc (.cells #[.int .i64 kd, rv] 28)) w1 := (by first | exact E1 | exact (Ext.refl _).drew.trans E1)
       clear E1)
    | (go_simp; go_at_call 127
       refine ((unhide H2) _ (by first | exact E2 | exact E2.drew)).mono ?_
       rintro e w2 ⟨rfl, h3⟩
       have H3 := hide h3
       clear h3))
  all_goals
    go_wp2
    exact bodyPost_ret (v := .int .i64 2) (by simp [results, Tryz.results96, go_sem]) rfl (EdR.pre ⟨rfl, unhide H3⟩ ((Ext.refl W).alloc _))
set_option maxRecDepth 10000 in
set_option maxHeartbeats 4000000 in
theorem edKillEnd_yes {A1 A2 : List (List Int × Int)} (kd : Int) (rv : Value) (hp : 0 < A2.length) (hc : CkC A2) (h : Ed0 P base W k u qs un A1 A2 cl rl rr) :
    Calls Tryz.prog 96 #[.pointer (some ⟨P, 0, none⟩), .agg #[.int .i64 kd, rv]] W fun e w' => EdR P base W w' (toBA (textC A2)) (undoN un (toBA (textC A1), toBA (textC A2))) A1 [] 1 e := by
  replace h := h.ext ((Ext.refl W).alloc (.cells #[.int .i64 kd, rv] 28))
  have H1 := hide (fun w (E : Ext _ w) => edRightOf (h.ext E).two)
  have H2 := hide (fun w (E : Ext _ w) => killByR_any (B1 := A2) (B2 := []) hp hc (by rw [List.append_nil]; exact h) E)
  rw [List.append_nil] at H2
  have hmf : ∀ (fn : Fn) (first cap : Array Value) (w : World), (Instr.makeFunc fn first cap).run Tryz.prog w = .ok (.func fn first cap) w := fun _ _ _ _ => rfl
  clear h hc hp
  obtain ⟨n, hn⟩ : ∃ n, A2.length = n := ⟨_, rfl⟩
  rw [hn] at H1 H2
  clear hn
  go_enter Tryz.func96, Tryz.ntmps96
  go_wp2_with fail
  go_region_law (first
    | (go_simp; go_at_call 105
       refine ((unhide H1) _ (by first | exact Ext.refl _ | exact (Ext.refl _).drew)).mono ?_
       rintro e w1 ⟨ao, cap, rfl, -, E1⟩
       have E2 : Ext (W.alloc (.cells #[.int .i64 kd, rv] 28)) w1 := (by first | exact E1 | exact (Ext.refl _).drew.trans E1)
       clear E1)
    | (go_simp; go_at_call 127
       refine ((unhide H2) _ (by first | exact E2 | exact E2.drew)).mono ?_
       rintro e w2 ⟨rfl, h3⟩
       have H3 := hide h3
       clear h3))
  all_goals
    go_wp2
    exact bodyPost_ret (v := .int .i64 1) (by simp [results, Tryz.results96, go_sem]) rfl (EdR.pre ⟨rfl, unhide H3⟩ ((Ext.refl W).alloc _))
set_option maxRecDepth 10000 in
set_option maxHeartbeats 4000000 in
theorem edKillWord_no {A1 B : List (List Int × Int)} (kd : Int) (rv : Value) (hW : Wd (fun j => spB (cR A1 (A1.length - 1 - j))) A1.length 0) (h : Ed0 P base W k u qs un A1 B cl rl rr) :
    Calls Tryz.prog 98 #[.pointer (some ⟨P, 0, none⟩), .agg #[.int .i64 kd, rv]] W fun e w' => EdR P base W w' k un A1 B 2 e := by
  replace h := h.ext ((Ext.refl W).alloc (.cells #[.int .i64 kd, rv] 28))
  have H1 := hide (fun w (E : Ext _ w) => edFront_any (h.ext E).two)
  have H2 := hide (fun w (E : Ext _ w) => killBy_no (.func (.func 120) #[.pointer (some ⟨P, 0, none⟩)] #[]) h E)
  have HW := hide (Wd.same hW)
  clear hW
  have hmf : ∀ (fn : Fn) (first cap : Array Value) (w : World), (Instr.makeFunc fn first cap).run Tryz.prog w = .ok (.func fn first cap) w := fun _ _ _ _ => rfl
  clear h
  go_enter Tryz.func98, Tryz.ntmps98
  go_wp2_with fail
  go_region_law (first
    | (go_simp; go_at_call 124
       refine ((unhide H1) _ (by first | exact Ext.refl _ | exact (Ext.refl _).drew)).mono ?_
       rintro e w1 ⟨r, rfl, hr, E1⟩
       have E2 : Ext (W.alloc (.cells #[.int .i64 kd, rv] 28)) w1 := (by first | exact E1 | exact (Ext.refl _).drew.trans E1)
       have hr0 := (unhide HW) r hr
       subst hr0
       clear hr
       clear E1)
    | (go_simp; go_at_call 127
       refine ((unhide H2) _ (by first | exact E2 | exact E2.drew)).mono ?_
       rintro e w2 ⟨rfl, h3⟩
       have H3 := hide h3
       clear h3))
  all_goals
    go_wp2
    exact bodyPost_ret (v := .int .i64 2) (by simp [results, Tryz.results98, go_sem]) rfl (EdR.pre ⟨rfl, unhide H3⟩ ((Ext.refl W).alloc _))
set_option maxRecDepth 10000 in
set_option maxHeartbeats 4000000 in
theorem edKillWord_yes {A1 A2 B : List (List Int × Int)} (kd : Int) (rv : Value) (hW : Wd (fun j => spB (cR (A1 ++ A2) ((A1 ++ A2).length - 1 - j))) (A1 ++ A2).length A2.length) (hp : 0 < A2.length) (hc : CkC A2) (h : Ed0 P base W k u qs un (A1 ++ A2) B cl rl rr) :
    Calls Tryz.prog 98 #[.pointer (some ⟨P, 0, none⟩), .agg #[.int .i64 kd, rv]] W fun e w' => EdR P base W w' (toBA (textC A2)) (undoN un (toBA (textC (A1 ++ A2)), toBA (textC B))) A1 B 1 e := by
  replace h := h.ext ((Ext.refl W).alloc (.cells #[.int .i64 kd, rv] 28))
  have H1 := hide (fun w (E : Ext _ w) => edFront_any (h.ext E).two)
  have H2 := hide (fun w (E : Ext _ w) => killByL_any (A1 := A1) (A2 := A2) hp hc h E)
  have HW := hide (Wd.same hW)
  have hmf : ∀ (fn : Fn) (first cap : Array Value) (w : World), (Instr.makeFunc fn first cap).run Tryz.prog w = .ok (.func fn first cap) w := fun _ _ _ _ => rfl
  clear h hc hp hW
  go_enter Tryz.func98, Tryz.ntmps98
  go_wp2_with fail
  go_region_law (first
    | (go_simp; go_at_call 124
       refine ((unhide H1) _ (by first | exact Ext.refl _ | exact (Ext.refl _).drew)).mono ?_
       rintro e w1 ⟨r, rfl, hr, E1⟩
       have E2 : Ext (W.alloc (.cells #[.int .i64 kd, rv] 28)) w1 := (by first | exact E1 | exact (Ext.refl _).drew.trans E1)
       have hr0 := (unhide HW) r hr
       subst hr0
       clear hr
       clear E1)
    | (go_simp; go_at_call 127
       refine ((unhide H2) _ (by first | exact E2 | exact E2.drew)).mono ?_
       rintro e w2 ⟨rfl, h3⟩
       have H3 := hide h3
       clear h3))
  all_goals
    go_wp2
    exact bodyPost_ret (v := .int .i64 1) (by simp [results, Tryz.results98, go_sem]) rfl (EdR.pre ⟨rfl, unhide H3⟩ ((Ext.refl W).alloc _))
end
end Go.Proofs.YtokjpnlmkecleaaGreatDoor
