import Derived.Test.YtokjpnlmkecleaaGreatDoorEdG
namespace Go.Proofs.YtokjpnlmkecleaaGreatDoor
open Go.RowKit

section
variable {P base : Nat} {W0 W : World} {k : ByteArray} {u : Value} {un : List (ByteArray × ByteArray)} {cl rl rr : List Value}
set_option maxRecDepth 10000 in
set_option maxHeartbeats 4000000 in
theorem edEnd_any {A B : List (List Int × Int)} (kd : Int) (rv : Value) (h : Ed2 P base W0 W k u un A B cl rl rr) :
    Calls Tryz.prog 93 #[.pointer (some ⟨P, 0, none⟩), .agg #[.int .i64 kd, rv]] W fun e w' => EdR P base W0 w' k un (A ++ B) [] (if B.length = 0 then 0 else 1) e := by
  replace h := h.ext ((Ext.refl W).alloc (.cells #[.int .i64 kd, rv] 28))
  have H1 := hide (edRightOf h)
  have H2 := hide (fun w (E : Ext _ w) => edGoRight_any (B1 := B) (B2 := []) 0 (by rw [List.append_nil]; exact h.ext E))
  obtain ⟨n, hn⟩ : ∃ n, B.length = n := ⟨_, rfl⟩
  rw [hn] at H1 H2 ⊢
  obtain ⟨d, hd⟩ : ∃ d : Int, d = if n = 0 then 0 else 1 := ⟨_, rfl⟩
  rw [← hd] at H2 ⊢
  clear h hn hd
  go_enter Tryz.func93, Tryz.ntmps93
  go_wp2_with fail
  refine (unhide H1).mono ?_
  rintro e w1 ⟨ao, cap, rfl, -, E1⟩
  have H2' := hide ((unhide H2) w1 E1)
  clear H1 H2 E1
  go_wp2_with fail
  refine (unhide H2').mono ?_
  rintro e w2 ⟨rfl, h3⟩
  have H3 := hide h3
  clear h3 H2'
  go_wp2
  exact bodyPost_ret (v := .int .i64 d) (by simp [results, Tryz.results93, go_sem]) rfl ⟨rfl, unhide H3⟩
set_option maxRecDepth 10000 in
set_option maxHeartbeats 4000000 in
theorem edLeft_any {A1 A2 B : List (List Int × Int)} (kd : Int) (rv : Value) (hA : (A1.length = 0 ∧ A2.length = 0) ∨ A2.length = 1) (h : Ed2 P base W0 W k u un (A1 ++ A2) B cl rl rr) :
    Calls Tryz.prog 90 #[.pointer (some ⟨P, 0, none⟩), .agg #[.int .i64 kd, rv]] W fun e w' => EdR P base W0 w' k un A1 (A2 ++ B) (if A2.length = 0 then 2 else 1) e := by
  replace h := h.ext ((Ext.refl W).alloc (.cells #[.int .i64 kd, rv] 28))
  have H1 := hide (edLeftOf h)
  have H2 := hide (fun w (E : Ext _ w) => edGoLeft_any (A1 := A1) (A2 := A2) 2 (h.ext E))
  rw [List.length_append] at H1
  obtain ⟨n, hn⟩ : ∃ n, A1.length = n := ⟨_, rfl⟩
  obtain ⟨m, hm⟩ : ∃ m, A2.length = m := ⟨_, rfl⟩
  rw [hn, hm] at hA
  rw [hm] at H2 ⊢
  rw [hn, hm] at H1
  obtain ⟨d, hd⟩ : ∃ d : Int, d = if m = 0 then 2 else 1 := ⟨_, rfl⟩
  rw [← hd] at H2 ⊢
  clear h hn hm hd
  rcases hA with ⟨rfl, rfl⟩ | rfl
  · go_enter Tryz.func90, Tryz.ntmps90
    go_wp2_with fail
    refine (unhide H1).mono ?_
    rintro e w1 ⟨rfl, -, E1⟩
    have H2' := hide ((unhide H2) w1 E1)
    clear H1 H2 E1
    go_wp2_with fail
    refine (unhide H2').mono ?_
    rintro e w2 ⟨rfl, h3⟩
    have H3 := hide h3
    clear h3 H2'
    go_wp2
    exact bodyPost_ret (v := .int .i64 d) (by simp [results, Tryz.results90, go_sem]) rfl ⟨rfl, unhide H3⟩
  · by_cases h0 : n = 0
    · subst h0
      rw [show 0 + 1 = 1 from rfl] at H1
      go_enter Tryz.func90, Tryz.ntmps90
      go_wp2_with fail
      refine (unhide H1).mono ?_
      rintro e w1 ⟨rfl, -, E1⟩
      have H2' := hide ((unhide H2) w1 E1)
      clear H1 H2 E1
      go_wp2_with fail
      refine (unhide H2').mono ?_
      rintro e w2 ⟨rfl, h3⟩
      have H3 := hide h3
      clear h3 H2'
      go_wp2
      exact bodyPost_ret (v := .int .i64 d) (by simp [results, Tryz.results90, go_sem]) rfl ⟨rfl, unhide H3⟩
    · have h1 : ¬ ((n + 1 : Nat) : Int) < 1 := by omega
      have h2 : (1 : Int) < ((n + 1 : Nat) : Int) := by omega
      have h3 : ¬ ((n + 1 : Nat) : Int) ≤ 1 := by omega
      obtain ⟨p, hp⟩ : ∃ p, n + 1 = p := ⟨_, rfl⟩
      rw [hp] at H1 h1 h2 h3
      clear hp
      go_enter Tryz.func90, Tryz.ntmps90
      go_wp2_with fail
      refine (unhide H1).mono ?_
      rintro e w1 ⟨rfl, -, E1⟩
      have H2' := hide ((unhide H2) w1 E1)
      clear H1 H2 E1
      go_wp2_with fail
      refine (unhide H2').mono ?_
      rintro e w2 ⟨rfl, h3⟩
      have H3 := hide h3
      clear h3 H2'
      go_wp2
      exact bodyPost_ret (v := .int .i64 d) (by simp [results, Tryz.results90, go_sem]) rfl ⟨rfl, unhide H3⟩
set_option maxRecDepth 10000 in
set_option maxHeartbeats 4000000 in
theorem edRight_any {A1 A2 B : List (List Int × Int)} (kd : Int) (rv : Value) (hA : (B.length = 0 ∧ A2.length = 0) ∨ A2.length = 1) (h : Ed2 P base W0 W k u un A1 (A2 ++ B) cl rl rr) :
    Calls Tryz.prog 91 #[.pointer (some ⟨P, 0, none⟩), .agg #[.int .i64 kd, rv]] W fun e w' => EdR P base W0 w' k un (A1 ++ A2) B (if A2.length = 0 then 2 else 1) e := by
  replace h := h.ext ((Ext.refl W).alloc (.cells #[.int .i64 kd, rv] 28))
  have H1 := hide (edRightOf h)
  have H2 := hide (fun w (E : Ext _ w) => edGoRight_any (B1 := A2) (B2 := B) 2 (h.ext E))
  rw [List.length_append] at H1
  obtain ⟨n, hn⟩ : ∃ n, B.length = n := ⟨_, rfl⟩
  obtain ⟨m, hm⟩ : ∃ m, A2.length = m := ⟨_, rfl⟩
  rw [hn, hm] at hA
  rw [hm] at H2 ⊢
  rw [hn, hm] at H1
  obtain ⟨d, hd⟩ : ∃ d : Int, d = if m = 0 then 2 else 1 := ⟨_, rfl⟩
  rw [← hd] at H2 ⊢
  clear h hn hm hd
  rcases hA with ⟨rfl, rfl⟩ | rfl
  · go_enter Tryz.func91, Tryz.ntmps91
    go_wp2_with fail
    refine (unhide H1).mono ?_
    rintro e w1 ⟨ao, cap, rfl, -, E1⟩
    have H2' := hide ((unhide H2) w1 E1)
    clear H1 H2 E1
    go_wp2_with fail
    refine (unhide H2').mono ?_
    rintro e w2 ⟨rfl, h3⟩
    have H3 := hide h3
    clear h3 H2'
    go_wp2
    exact bodyPost_ret (v := .int .i64 d) (by simp [results, Tryz.results91, go_sem]) rfl ⟨rfl, unhide H3⟩
  · by_cases h0 : n = 0
    · subst h0
      rw [show 1 + 0 = 1 from rfl] at H1
      go_enter Tryz.func91, Tryz.ntmps91
      go_wp2_with fail
      refine (unhide H1).mono ?_
      rintro e w1 ⟨ao, cap, rfl, -, E1⟩
      have H2' := hide ((unhide H2) w1 E1)
      clear H1 H2 E1
      go_wp2_with fail
      refine (unhide H2').mono ?_
      rintro e w2 ⟨rfl, h3⟩
      have H3 := hide h3
      clear h3 H2'
      go_wp2
      exact bodyPost_ret (v := .int .i64 d) (by simp [results, Tryz.results91, go_sem]) rfl ⟨rfl, unhide H3⟩
    · have h1 : ¬ ((1 + n : Nat) : Int) < 1 := by omega
      have h2 : (1 : Int) < ((1 + n : Nat) : Int) := by omega
      have h3 : ¬ ((1 + n : Nat) : Int) ≤ 1 := by omega
      obtain ⟨p, hp⟩ : ∃ p, 1 + n = p := ⟨_, rfl⟩
      rw [hp] at H1 h1 h2 h3
      clear hp
      go_enter Tryz.func91, Tryz.ntmps91
      go_wp2_with fail
      refine (unhide H1).mono ?_
      rintro e w1 ⟨ao, cap, rfl, -, E1⟩
      have H2' := hide ((unhide H2) w1 E1)
      clear H1 H2 E1
      go_wp2_with fail
      refine (unhide H2').mono ?_
      rintro e w2 ⟨rfl, h3⟩
      have H3 := hide h3
      clear h3 H2'
      go_wp2
      exact bodyPost_ret (v := .int .i64 d) (by simp [results, Tryz.results91, go_sem]) rfl ⟨rfl, unhide H3⟩
end
end Go.Proofs.YtokjpnlmkecleaaGreatDoor
