import Derived.Test.YtokjpnlmkecleaaGreatDoorEdV
import Derived.Test.YtokjpnlmkecleaaGreatDoorEdX
namespace Go.Proofs.YtokjpnlmkecleaaGreatDoor
open Go.RowKit

section
variable {P base : Nat} {W0 W : World} {k : ByteArray} {u : Value} {un : List (ByteArray × ByteArray)} {cl rl rr : List Value}
set_option maxRecDepth 10000 in
set_option maxHeartbeats 4000000 in
theorem edGoLeft_any {A1 A2 B : List (List Int × Int)} (nw : Int) (h : Ed2 P base W0 W k u un (A1 ++ A2) B cl rl rr) :
    Calls Tryz.prog 122 #[.pointer (some ⟨P, 0, none⟩), .int .i64 (A2.length : Int), .int .i64 nw] W fun e w' => EdR P base W0 w' k un A1 (A2 ++ B) (if A2.length = 0 then nw else 1) e := by
  have H := hide (edGoL h)
  have H0 := hide h
  by_cases h0 : A2.length = 0
  · obtain rfl : A2 = [] := List.eq_nil_of_length_eq_zero h0
    rw [List.append_nil] at H0
    clear H h h0
    go_enter Tryz.func122, Tryz.ntmps122
    go_wp2
    exact bodyPost_ret (v := .int .i64 nw) (by simp [results, Tryz.results122, go_sem]) rfl ((unhide H0).end nw)
  · rw [if_neg h0]
    obtain ⟨n, hn⟩ : ∃ n, A2.length = n := ⟨_, rfl⟩
    rw [hn] at H h0 ⊢
    have hI : ¬ (n : Int) = 0 := by omega
    clear h hn H0
    go_enter Tryz.func122, Tryz.ntmps122
    go_wp2_with fail
    refine (unhide H).mono ?_
    rintro e w' ⟨cl', rl', rr', rfl, h2⟩
    have H2 := hide h2
    clear h2 H
    go_wp2
    exact bodyPost_ret (v := .int .i64 1) (by simp [results, Tryz.results122, go_sem]) rfl ((unhide H2).end 1)
set_option maxRecDepth 10000 in
set_option maxHeartbeats 4000000 in
theorem edGoRight_any {A B1 B2 : List (List Int × Int)} (nw : Int) (h : Ed2 P base W0 W k u un A (B1 ++ B2) cl rl rr) :
    Calls Tryz.prog 123 #[.pointer (some ⟨P, 0, none⟩), .int .i64 (B1.length : Int), .int .i64 nw] W fun e w' => EdR P base W0 w' k un (A ++ B1) B2 (if B1.length = 0 then nw else 1) e := by
  have H := hide (fun hp => edGoR hp h)
  have H0 := hide h
  by_cases h0 : B1.length = 0
  · obtain rfl : B1 = [] := List.eq_nil_of_length_eq_zero h0
    rw [List.nil_append] at H0
    rw [List.append_nil]
    clear H h h0
    go_enter Tryz.func123, Tryz.ntmps123
    go_wp2
    exact bodyPost_ret (v := .int .i64 nw) (by simp [results, Tryz.results123, go_sem]) rfl ((unhide H0).end nw)
  · rw [if_neg h0]
    replace H := hide ((unhide H) (by omega))
    obtain ⟨n, hn⟩ : ∃ n, B1.length = n := ⟨_, rfl⟩
    rw [hn] at H h0 ⊢
    have hI : ¬ (n : Int) = 0 := by omega
    clear h hn H0
    go_enter Tryz.func123, Tryz.ntmps123
    go_wp2_with fail
    refine (unhide H).mono ?_
    rintro e w' ⟨cl', rl', rr', rfl, h2⟩
    have H2 := hide h2
    clear h2 H
    go_wp2
    exact bodyPost_ret (v := .int .i64 1) (by simp [results, Tryz.results123, go_sem]) rfl ((unhide H2).end 1)
set_option maxRecDepth 10000 in
set_option maxHeartbeats 4000000 in
theorem edHome_any {A B : List (List Int × Int)} (kd : Int) (rv : Value) (h : Ed2 P base W0 W k u un A B cl rl rr) :
    Calls Tryz.prog 92 #[.pointer (some ⟨P, 0, none⟩), .agg #[.int .i64 kd, rv]] W fun e w' => EdR P base W0 w' k un [] (A ++ B) (if A.length = 0 then 0 else 1) e := by
  replace h := h.ext ((Ext.refl W).alloc (.cells #[.int .i64 kd, rv] 28))
  have H1 := hide (edLeftOf h)
  have H2 := hide (fun w (E : Ext _ w) => edGoLeft_any (A1 := []) (A2 := A) 0 (by rw [List.nil_append]; exact h.ext E))
  obtain ⟨n, hn⟩ : ∃ n, A.length = n := ⟨_, rfl⟩
  rw [hn] at H1 H2 ⊢
  obtain ⟨d, hd⟩ : ∃ d : Int, d = if n = 0 then 0 else 1 := ⟨_, rfl⟩
  rw [← hd] at H2 ⊢
  clear h hn hd
  go_enter Tryz.func92, Tryz.ntmps92
  go_wp2_with fail
  refine (unhide H1).mono ?_
  rintro e w1 ⟨rfl, -, E1⟩
  have H2' := hide ((unhide H2) w1 E1)
  clear H1 H2 E1
  go_wp2_with fail
  refine (unhide H2').mono ?_
  rintro e w2 ⟨rfl, h3⟩
  have H3 := hide h3
  clear h3 H2'
  go_wp2
  exact bodyPost_ret (v := .int .i64 d) (by simp [results, Tryz.results92, go_sem]) rfl ⟨rfl, unhide H3⟩
end
end Go.Proofs.YtokjpnlmkecleaaGreatDoor
