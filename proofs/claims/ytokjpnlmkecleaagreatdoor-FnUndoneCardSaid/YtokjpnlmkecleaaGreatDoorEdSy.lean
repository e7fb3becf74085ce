import Derived.Test.YtokjpnlmkecleaaGreatDoorEdH
import Derived.Test.YtokjpnlmkecleaaGreatDoorEdG
namespace Go.Proofs.YtokjpnlmkecleaaGreatDoor
open Go.RowKit
section
variable {P base : Nat} {W : World} {k : ByteArray} {u : Value} {qs : List Nat} {un : List (ByteArray × ByteArray)} {cl rl rr : List Value}
set_option maxRecDepth 10000 in
set_option maxHeartbeats 4000000 in
theorem edKillStart_no {B : List (List Int × Int)} (kd : Int) (rv : Value) (h : Ed0 P base W k u qs un [] B cl rl rr) :
    Calls Tryz.prog 97 #[.pointer (some ⟨P, 0, none⟩), .agg #[.int .i64 kd, rv]] W fun e w' => EdR P base W w' k un [] B 2 e := by
  replace h := h.ext ((Ext.refl W).alloc (.cells #[.int .i64 kd, rv] 28))
  have H1 := hide (fun w (E : Ext _ w) => edLeftOf (h.ext E).two)
  have H2 := hide (fun w (E : Ext _ w) => killBy_no (.func (.func 120) #[.pointer (some ⟨P, 0, none⟩)] #[]) h E)
  have hmf : ∀ (fn : Fn) (first cap : Array Value) (w : World), (Instr.makeFunc fn first cap).run Tryz.prog w = .ok (.func fn first cap) w := fun _ _ _ _ => rfl
  clear h
  rw [List.length_nil] at H1
  go_enter Tryz.func97, Tryz.ntmps97
  go_wp2_with fail
  go_region_law (first
    | (go_simp; go_at_call 104
       refine ((unhide H1) _ (by first | exact Ext.refl _ | exact (Ext.refl _).drew)).mono ?_
       rintro e w1 ⟨rfl, -, E1⟩
       have E2 : Ext (W.alloc (.cells #[.int .i64 kd, rv] 28)) w1 := (by first | exact E1 | exact (Ext.refl _).drew.trans E1)
       clear E1)
    | (go_simp; go_at_call 127
       refine ((unhide H2) _ (by first | exact E2 | exact E2.drew)).mono ?_
       rintro e w2 ⟨rfl, h3⟩
       have H3 := hide h3
       clear h3))
  all_goals
    go_wp2
    exact bodyPost_ret (v := .int .i64 2) (by simp [results, Tryz.results97, go_sem]) rfl (EdR.pre ⟨rfl, unhide H3⟩ ((Ext.refl W).alloc _))
set_option maxRecDepth 10000 in
set_option maxHeartbeats 4000000 in
theorem edKillStart_yes {A2 B : List (List Int × Int)} (kd : Int) (rv : Value) (hp : 0 < A2.length) (hc : CkC A2) (h : Ed0 P base W k u qs un A2 B cl rl rr) :
    Calls Tryz.prog 97 #[.pointer (some ⟨P, 0, none⟩), .agg #[.int .i64 kd, rv]] W fun e w' => EdR P base W w' (toBA (textC A2)) (undoN un (toBA (textC A2), toBA (textC B))) [] B 1 e := by
  replace h := h.ext ((Ext.refl W).alloc (.cells #[.int .i64 kd, rv] 28))
  have H1 := hide (fun w (E : Ext _ w) => edLeftOf (h.ext E).two)
  have H2 := hide (fun w (E : Ext _ w) => killByL_any (A1 := []) (A2 := A2) hp hc (by rw [List.nil_append]; exact h) E)
  have hmf : ∀ (fn : Fn) (first cap : Array Value) (w : World), (Instr.makeFunc fn first cap).run Tryz.prog w = .ok (.func fn first cap) w := fun _ _ _ _ => rfl
  clear h hc hp
  obtain ⟨n, hn⟩ : ∃ n, A2.length = n := ⟨_, rfl⟩
  rw [hn] at H1 H2
  clear hn
  go_enter Tryz.func97, Tryz.ntmps97
  go_wp2_with fail
  go_region_law (first
    | (go_simp; go_at_call 104
       refine ((unhide H1) _ (by first | exact Ext.refl _ | exact (Ext.refl _).drew)).mono ?_
       rintro e w1 ⟨rfl, -, E1⟩
       have E2 : Ext (W.alloc (.cells #[.int .i64 kd, rv] 28)) w1 := (by first | exact E1 | exact (Ext.refl _).drew.trans E1)
       clear E1)
    | (go_simp; go_at_call 127
       refine ((unhide H2) _ (by first | exact E2 | exact E2.drew)).mono ?_
       rintro e w2 ⟨rfl, h3⟩
       have H3 := hide h3
       clear h3))
  all_goals
    go_wp2
    exact bodyPost_ret (v := .int .i64 1) (by simp [results, Tryz.results97, go_sem]) rfl (EdR.pre ⟨rfl, unhide H3⟩ ((Ext.refl W).alloc _))
set_option maxRecDepth 10000 in
set_option maxHeartbeats 4000000 in
theorem edKillEnd_no {A1 : List (List Int × Int)} (kd : Int) (rv : Value) (h : Ed0 P base W k u qs un A1 [] cl rl rr) :
    Calls Tryz.prog 96 #[.pointer (some ⟨P, 0, none⟩), .agg #[.int .i64 kd, rv]] W fun e w' => EdR P base W w' k un A1 [] 2 e := by
  replace h := h.ext ((Ext.refl W).alloc (.cells #[.int .i64 kd, rv] 28))
  have H1 := hide (fun w (E : Ext _ w) => edRightOf (h.ext E).two)
  have H2 := hide (fun w (E : Ext _ w) => killBy_no (.func (.func 121) #[.pointer (some ⟨P, 0, none⟩)] #[]) h E)
  have hmf : ∀ (fn : Fn) (first cap : Array Value) (w : World), (Instr.makeFunc fn first cap).run Tryz.prog w = .ok (.func fn first cap) w := fun _ _ _ _ => rfl
  clear h
  rw [List.length_nil] at H1
  go_enter Tryz.func96, Tryz.ntmps96
  go_wp2_with fail
  go_region_law (first
    | (go_simp; go_at_call 105
       refine ((unhide H1) _ (by first | exact Ext.refl _ | exact (Ext.refl _).drew)).mono ?_
       rintro e w1 ⟨ao, cap, rfl, -, E1⟩
       have E2 : Ext (W.alloc (.cells #[.int .i64 kd, rv] 28)) w1 := (by first | exact E1 | exact (Ext.refl _).drew.trans E1)
       clear E1)
    | (go_simp; go_at_call 127
       refine ((unhide H2) _ (by first | exact E2 | exact E2.drew)).mono ?_
       rintro e w2 ⟨rfl, h3⟩
       have H3 := hide h3
       clear h3))
  all_goals
    go_wp2
    exact bodyPost_ret (v := .int .i64 2) (by simp [results, Tryz.results96, go_sem]) rfl (EdR.pre ⟨rfl, unhide H3⟩ ((Ext.refl W).alloc _))
set_option maxRecDepth 10000 in
set_option maxHeartbeats 4000000 in
theorem edKillEnd_yes {A1 A2 : List (List Int × Int)} (kd : Int) (rv : Value) (hp : 0 < A2.length) (hc : CkC A2) (h : Ed0 P base W k u qs un A1 A2 cl rl rr) :
    Calls Tryz.prog 96 #[.pointer (some ⟨P, 0, none⟩), .agg #[.int .i64 kd, rv]] W fun e w' => EdR P base W w' (toBA (textC A2)) (undoN un (toBA (textC A1), toBA (textC A2))) A1 [] 1 e := by
  replace h := h.ext ((Ext.refl W).alloc (.cells #[.int .i64 kd, rv] 28))
  have H1 := hide (fun w (E : Ext _ w) => edRightOf (h.ext E).two)
  have H2 := hide (fun w (E : Ext _ w) => killByR_any (B1 := A2) (B2 := []) hp hc (by rw [List.append_nil]; exact h) E)
  rw [List.append_nil] at H2
  have hmf : ∀ (fn : Fn) (first cap : Array Value) (w : World), (Instr.makeFunc fn first cap).run Tryz.prog w = .ok (.func fn first cap) w := fun _ _ _ _ => rfl
  clear h hc hp
  obtain ⟨n, hn⟩ : ∃ n, A2.length = n := ⟨_, rfl⟩
  rw [hn] at H1 H2
  clear hn
  go_enter Tryz.func96, Tryz.ntmps96
  go_wp2_with fail
  go_region_law (first
    | (go_simp; go_at_call 105
       refine ((unhide H1) _ (by first | exact Ext.refl _ | exact (Ext.refl _).drew)).mono ?_
       rintro e w1 ⟨ao, cap, rfl, -, E1⟩
       have E2 : Ext (W.alloc (.cells #[.int .i64 kd, rv] 28)) w1 := (by first | exact E1 | exact (Ext.refl _).drew.trans E1)
       clear E1)
    | (go_simp; go_at_call 127
       refine ((unhide H2) _ (by first | exact E2 | exact E2.drew)).mono ?_
       rintro e w2 ⟨rfl, h3⟩
       have H3 := hide h3
       clear h3))
  all_goals
    go_wp2
    exact bodyPost_ret (v := .int .i64 1) (by simp [results, Tryz.results96, go_sem]) rfl (EdR.pre ⟨rfl, unhide H3⟩ ((Ext.refl W).alloc _))
set_option maxRecDepth 10000 in
set_option maxHeartbeats 4000000 in
theorem edKillWord_no {A1 B : List (List Int × Int)} (kd : Int) (rv : Value) (hW : Wd (fun j => spB (cR A1 (A1.length - 1 - j))) A1.length 0) (h : Ed0 P base W k u qs un A1 B cl rl rr) :
    Calls Tryz.prog 98 #[.pointer (some ⟨P, 0, none⟩), .agg #[.int .i64 kd, rv]] W fun e w' => EdR P base W w' k un A1 B 2 e := by
  replace h := h.ext ((Ext.refl W).alloc (.cells #[.int .i64 kd, rv] 28))
  have H1 := hide (fun w (E : Ext _ w) => edFront_any (h.ext E).two)
  have H2 := hide (fun w (E : Ext _ w) => killBy_no (.func (.func 120) #[.pointer (some ⟨P, 0, none⟩)] #[]) h E)
  have HW := hide (Wd.same hW)
  clear hW
  have hmf : ∀ (fn : Fn) (first cap : Array Value) (w : World), (Instr.makeFunc fn first cap).run Tryz.prog w = .ok (.func fn first cap) w := fun _ _ _ _ => rfl
  clear h
  go_enter Tryz.func98, Tryz.ntmps98
  go_wp2_with fail
  go_region_law (first
    | (go_simp; go_at_call 124
       refine ((unhide H1) _ (by first | exact Ext.refl _ | exact (Ext.refl _).drew)).mono ?_
       rintro e w1 ⟨r, rfl, hr, E1⟩
       have E2 : Ext (W.alloc (.cells #[.int .i64 kd, rv] 28)) w1 := (by first | exact E1 | exact (Ext.refl _).drew.trans E1)
       have hr0 := (unhide HW) r hr
       subst hr0
       clear hr
       clear E1)
    | (go_simp; go_at_call 127
       refine ((unhide H2) _ (by first | exact E2 | exact E2.drew)).mono ?_
       rintro e w2 ⟨rfl, h3⟩
       have H3 := hide h3
       clear h3))
  all_goals
    go_wp2
    exact bodyPost_ret (v := .int .i64 2) (by simp [results, Tryz.results98, go_sem]) rfl (EdR.pre ⟨rfl, unhide H3⟩ ((Ext.refl W).alloc _))
set_option maxRecDepth 10000 in
set_option maxHeartbeats 4000000 in
theorem edKillWord_yes {A1 A2 B : List (List Int × Int)} (kd : Int) (rv : Value) (hW : Wd (fun j => spB (cR (A1 ++ A2) ((A1 ++ A2).length - 1 - j))) (A1 ++ A2).length A2.length) (hp : 0 < A2.length) (hc : CkC A2) (h : Ed0 P base W k u qs un (A1 ++ A2) B cl rl rr) :
    Calls Tryz.prog 98 #[.pointer (some ⟨P, 0, none⟩), .agg #[.int .i64 kd, rv]] W fun e w' => EdR P base W w' (toBA (textC A2)) (undoN un (toBA (textC (A1 ++ A2)), toBA (textC B))) A1 B 1 e := by
  replace h := h.ext ((Ext.refl W).alloc (.cells #[.int .i64 kd, rv] 28))
  have H1 := hide (fun w (E : Ext _ w) => edFront_any (h.ext E).two)
  have H2 := hide (fun w (E : Ext _ w) => killByL_any (A1 := A1) (A2 := A2) hp hc h E)
  have HW := hide (Wd.same hW)
  have hmf : ∀ (fn : Fn) (first cap : Array Value) (w : World), (Instr.makeFunc fn first cap).run Tryz.prog w = .ok (.func fn first cap) w := fun _ _ _ _ => rfl
  clear h hc hp hW
  go_enter Tryz.func98, Tryz.ntmps98
  go_wp2_with fail
  go_region_law (first
    | (go_simp; go_at_call 124
       refine ((unhide H1) _ (by first | exact Ext.refl _ | exact (Ext.refl _).drew)).mono ?_
       rintro e w1 ⟨r, rfl, hr, E1⟩
       have E2 : Ext (W.alloc (.cells #[.int .i64 kd, rv] 28)) w1 := (by first | exact E1 | exact (Ext.refl _).drew.trans E1)
       have hr0 := (unhide HW) r hr
       subst hr0
       clear hr
       clear E1)
    | (go_simp; go_at_call 127
       refine ((unhide H2) _ (by first | exact E2 | exact E2.drew)).mono ?_
       rintro e w2 ⟨rfl, h3⟩
       have H3 := hide h3
       clear h3))
  all_goals
    go_wp2
    exact bodyPost_ret (v := .int .i64 1) (by simp [results, Tryz.results98, go_sem]) rfl (EdR.pre ⟨rfl, unhide H3⟩ ((Ext.refl W).alloc _))
end
end Go.Proofs.YtokjpnlmkecleaaGreatDoor

namespace Go.Proofs.YtokjpnlmkecleaaGreatDoor
open Go.RowKit
section
variable {P base : Nat} {W : World} {k : ByteArray} {u : Value} {qs : List Nat} {un : List (ByteArray × ByteArray)} {cl rl rr : List Value}
set_option maxRecDepth 10000 in
set_option maxHeartbeats 4000000 in
theorem edBack_no {B : List (List Int × Int)} (kd : Int) (rv : Value) (h : Ed0 P base W k u qs un [] B cl rl rr) :
    Calls Tryz.prog 88 #[.pointer (some ⟨P, 0, none⟩), .agg #[.int .i64 kd, rv]] W fun e w' => EdR P base W w' k un [] B 2 e := by
  replace h := h.ext ((Ext.refl W).alloc (.cells #[.int .i64 kd, rv] 28))
  have H1 := hide (edLeftOf h.two)
  have H0 := hide h
  clear h
  rw [List.length_nil] at H1
  go_enter Tryz.func88, Tryz.ntmps88
  go_wp2_with fail
  refine (unhide H1).mono ?_
  rintro e w1 ⟨rfl, -, E1⟩
  have H3 := hide ((unhide H0).same E1 2)
  clear H1 E1
  go_wp2
  exact bodyPost_ret (v := .int .i64 2) (by simp [results, Tryz.results88, go_sem]) rfl ((unhide H3).pre ((Ext.refl W).alloc _))
set_option maxRecDepth 10000 in
set_option maxHeartbeats 4000000 in
theorem edBack_yes {A B : List (List Int × Int)} (x : List Int × Int) (kd : Int) (rv : Value) (h : Ed0 P base W k u qs un (A ++ [x]) B cl rl rr) :
    Calls Tryz.prog 88 #[.pointer (some ⟨P, 0, none⟩), .agg #[.int .i64 kd, rv]] W fun e w' => EdR P base W w' k (undoN un (toBA (textC (A ++ [x])), toBA (textC B))) A B 1 e := by
  replace h := h.ext ((Ext.refl W).alloc (.cells #[.int .i64 kd, rv] 28))
  have H1 := hide (edLeftOf h.two)
  have H2 := hide (fun w (E : Ext _ w) => edChangeE h E)
  have H4 := hide (fun W9 w u' un' (g : Ed2 P base W9 w k u' un' (A ++ [x]) B cl rl rr) => edTakeL g)
  rw [List.length_append] at H1
  obtain ⟨n, hn⟩ : ∃ n, A.length + [x].length = n := ⟨_, rfl⟩
  have hn0 : ¬ (n : Int) = 0 := by rw [← hn]; simp; omega
  have hn1 : ¬ n = 0 := by rw [← hn]; simp
  rw [hn] at H1
  clear h hn
  go_enter Tryz.func88, Tryz.ntmps88
  go_wp2_with fail
  refine (unhide H1).mono ?_
  rintro e w1 ⟨rfl, -, E1⟩
  have H2' := hide ((unhide H2) w1 E1)
  clear H1 H2 E1
  go_wp2_with fail
  refine (unhide H2').mono ?_
  rintro e w2 ⟨u2, rfl, g2, -⟩
  have H4' := hide ((unhide H4) _ w2 u2 _ g2)
  clear H2' g2 H4
  go_wp2_with fail
  refine (unhide H4').mono ?_
  rintro e w3 ⟨v3, rl3, rfl, g3, -⟩
  have H3 := hide (g3.end 1)
  clear H4' g3
  go_wp2
  exact bodyPost_ret (v := .int .i64 1) (by simp [results, Tryz.results88, go_sem]) rfl ((unhide H3).pre ((Ext.refl W).alloc _))
set_option maxRecDepth 10000 in
set_option maxHeartbeats 4000000 in
theorem edDel_end (kd : Int) (rv : Value) (h : Ed0 P base W k u qs un [] [] cl rl rr) :
    Calls Tryz.prog 89 #[.pointer (some ⟨P, 0, none⟩), .agg #[.int .i64 kd, rv]] W fun e w' => EdR P base W w' k un [] [] 8 e := by
  replace h := h.ext ((Ext.refl W).alloc (.cells #[.int .i64 kd, rv] 28))
  have H1 := hide (edRightOf h.two)
  have H2 := hide (fun w (E : Ext _ w) => edLeftOf (h.ext E).two)
  have H0 := hide h
  clear h
  rw [List.length_nil] at H1 H2
  go_enter Tryz.func89, Tryz.ntmps89
  go_wp2_with fail
  refine (unhide H1).mono ?_
  rintro e w1 ⟨ao, cap, rfl, -, E1⟩
  have H2' := hide ((unhide H2) w1 E1)
  have HE := hide E1
  clear H1 H2 E1
  go_wp2_with fail
  refine (unhide H2').mono ?_
  rintro e w2 ⟨rfl, -, E2⟩
  have H3 := hide ((unhide H0).same ((unhide HE).trans E2) 8)
  clear H2' E2
  go_wp2
  exact bodyPost_ret (v := .int .i64 8) (by simp [results, Tryz.results89, go_sem]) rfl ((unhide H3).pre ((Ext.refl W).alloc _))
set_option maxRecDepth 10000 in
set_option maxHeartbeats 4000000 in
theorem edDel_no {A : List (List Int × Int)} (hA : 0 < A.length) (kd : Int) (rv : Value) (h : Ed0 P base W k u qs un A [] cl rl rr) :
    Calls Tryz.prog 89 #[.pointer (some ⟨P, 0, none⟩), .agg #[.int .i64 kd, rv]] W fun e w' => EdR P base W w' k un A [] 2 e := by
  replace h := h.ext ((Ext.refl W).alloc (.cells #[.int .i64 kd, rv] 28))
  have H1 := hide (edRightOf h.two)
  have H2 := hide (fun w (E : Ext _ w) => edLeftOf (h.ext E).two)
  have H0 := hide h
  clear h
  rw [List.length_nil] at H1
  obtain ⟨n, hn⟩ : ∃ n, A.length = n := ⟨_, rfl⟩
  rw [hn] at hA H2
  have hn0 : ¬ (n : Int) = 0 := by omega
  have hn1 : ¬ n = 0 := by omega
  clear hn
  go_enter Tryz.func89, Tryz.ntmps89
  go_wp2_with fail
  refine (unhide H1).mono ?_
  rintro e w1 ⟨ao, cap, rfl, -, E1⟩
  have H2' := hide ((unhide H2) w1 E1)
  have HE := hide E1
  clear H1 H2 E1
  go_wp2_with fail
  refine (unhide H2').mono ?_
  rintro e w2 ⟨rfl, -, E2⟩
  have H3 := hide ((unhide H0).same ((unhide HE).trans E2) 2)
  clear H2' E2
  go_wp2
  exact bodyPost_ret (v := .int .i64 2) (by simp [results, Tryz.results89, go_sem]) rfl ((unhide H3).pre ((Ext.refl W).alloc _))
set_option maxRecDepth 10000 in
set_option maxHeartbeats 4000000 in
theorem edDel_yes {A B : List (List Int × Int)} (x : List Int × Int) (kd : Int) (rv : Value) (h : Ed0 P base W k u qs un A ([x] ++ B) cl rl rr) :
    Calls Tryz.prog 89 #[.pointer (some ⟨P, 0, none⟩), .agg #[.int .i64 kd, rv]] W fun e w' => EdR P base W w' k (undoN un (toBA (textC A), toBA (textC ([x] ++ B)))) A B 1 e := by
  replace h := h.ext ((Ext.refl W).alloc (.cells #[.int .i64 kd, rv] 28))
  have H1 := hide (edRightOf h.two)
  have H2 := hide (fun w (E : Ext _ w) => edChangeE h E)
  have H4 := hide (fun W9 w u' un' (g : Ed2 P base W9 w k u' un' A ([x] ++ B) cl rl rr) => edTakeR g)
  rw [List.length_append] at H1
  obtain ⟨n, hn⟩ : ∃ n, [x].length + B.length = n := ⟨_, rfl⟩
  have hn0 : ¬ (n : Int) = 0 := by rw [← hn]; simp; omega
  have hn1 : ¬ n = 0 := by rw [← hn]; simp
  rw [hn] at H1
  clear h hn
  go_enter Tryz.func89, Tryz.ntmps89
  go_wp2_with fail
  refine (unhide H1).mono ?_
  rintro e w1 ⟨ao, cap, rfl, -, E1⟩
  have H2' := hide ((unhide H2) w1 E1)
  clear H1 H2 E1
  go_wp2_with fail
  refine (unhide H2').mono ?_
  rintro e w2 ⟨u2, rfl, g2, -⟩
  have H4' := hide ((unhide H4) _ w2 u2 _ g2)
  clear H2' g2 H4
  go_wp2_with fail
  refine (unhide H4').mono ?_
  rintro e w3 ⟨v3, rl3, rfl, g3, -⟩
  have H3 := hide (g3.end 1)
  clear H4' g3
  go_wp2
  exact bodyPost_ret (v := .int .i64 1) (by simp [results, Tryz.results89, go_sem]) rfl ((unhide H3).pre ((Ext.refl W).alloc _))
end
end Go.Proofs.YtokjpnlmkecleaaGreatDoor

namespace Go.Proofs.YtokjpnlmkecleaaGreatDoor
open Go.RowKit
theorem edC_four {cl : List Value} {fr bh : Int} {k : ByteArray} {u : Value} (h : cl.length = 600) (o : Nat) (ho : o + 4 ≤ 600) (a b c d : Value) :
    ((((edC cl fr bh k u).setIfInBounds o a).setIfInBounds (o + 1) b).setIfInBounds (o + 2) c).setIfInBounds (o + 3) d = edC (seg cl o [a, b, c, d]) fr bh k u := by
  have hs : o + [a, b, c, d].length ≤ cl.length := by simp; omega
  have hl : (seg cl o [a, b, c, d]).length = 600 := by rw [seg_len _ _ _ hs, h]
  have hz := edC_size (fr := fr) (bh := bh) (k := k) (u := u) h
  apply Array.ext_getElem?
  intro j
  simp only [Array.getElem?_setIfInBounds, Array.size_setIfInBounds, hz]
  by_cases hj : j < 600
  · rw [edC_cl hl j hj, edC_cl h j hj]
    have hR := seg_at cl o [a, b, c, d] hs j
    by_cases c0 : j < o
    · rw [if_pos c0] at hR
      rw [hR, if_neg (by omega), if_neg (by omega), if_neg (by omega), if_neg (by omega)]
    · rw [if_neg c0] at hR
      by_cases c1 : j < o + 4
      · rw [if_pos (by simpa using c1)] at hR
        obtain ⟨i, hi⟩ : ∃ i, j - o = i := ⟨_, rfl⟩
        rw [hi] at hR
        rw [hR]
        have : i = 0 ∨ i = 1 ∨ i = 2 ∨ i = 3 := by omega
        rcases this with rfl | rfl | rfl | rfl
        · rw [if_neg (by omega), if_neg (by omega), if_neg (by omega), if_pos (by omega), if_pos (by omega)]
          rfl
        · rw [if_neg (by omega), if_neg (by omega), if_pos (by omega), if_pos (by omega)]
          rfl
        · rw [if_neg (by omega), if_pos (by omega), if_pos (by omega)]
          rfl
        · rw [if_pos (by omega), if_pos (by omega)]
          rfl
      · rw [if_neg (by simpa using c1)] at hR
        rw [hR, if_neg (by omega), if_neg (by omega), if_neg (by omega), if_neg (by omega)]
  · rw [if_neg (by omega), if_neg (by omega), if_neg (by omega), if_neg (by omega)]
    unfold edC
    rw [List.getElem?_toArray, List.getElem?_toArray, List.getElem?_append_right (by omega), List.getElem?_append_right (by omega), h, hl]
theorem GapIn.swap {P : Nat} {W : World} {cl r1 rr : List Value} {vx vy : Value} {A1 B : List (List Int × Int)} {x y : List Int × Int} (h : GapIn P W cl (r1 ++ [vx, vy]) rr (A1 ++ [x, y]) B) (h1 : r1.length = A1.length) :
    cl[A1.length * 2]? = some vx ∧ cl[A1.length * 2 + 1]? = some (.int .i64 x.2) ∧ cl[A1.length * 2 + 2]? = some vy ∧ cl[A1.length * 2 + 3]? = some (.int .i64 y.2) ∧
    GapIn P W (seg cl (A1.length * 2) [vy, .int .i64 y.2, vx, .int .i64 x.2]) (r1 ++ [vy, vx]) rr (A1 ++ [y, x]) B := by
  have hf := h.fit
  simp only [List.length_append, List.length_cons, List.length_nil] at hf
  have a0 := h.la A1.length (by simp)
  have a1 := h.la (A1.length + 1) (by simp)
  have q0 := h.ra A1.length (by simp)
  have q1 := h.ra (A1.length + 1) (by simp)
  have e0 := cR_appR A1 [x, y] 0
  have e1 := cR_appR A1 [x, y] 1
  have v0 := rV_appR r1 [vx, vy] 0
  have v1 := rV_appR r1 [vx, vy] 1
  rw [h1] at v0 v1
  rw [Nat.add_zero] at e0 v0
  rw [v0, e0.2] at a0
  rw [v1, e1.2] at a1
  rw [v0, e0.1] at q0
  rw [v1, e1.1] at q1
  refine ⟨a0.1, a0.2, ?_, ?_, ?_⟩
  · have := a1.1
    rw [show (A1.length + 1) * 2 = A1.length * 2 + 2 by omega] at this
    exact this
  · have := a1.2
    rw [show (A1.length + 1) * 2 + 1 = A1.length * 2 + 3 by omega] at this
    exact this
  · refine (h.takeL h1).insert (rs := [vy, vx]) (cs := [y, x]) rfl (by simp; omega) (fun j hj => ?_) (fun v hv => ?_)
    · have : j = 0 ∨ j = 1 := by simp at hj; omega
      rcases this with rfl | rfl
      · exact q1
      · exact q0
    · simp [clCells] at hv
      rcases hv with rfl | rfl | rfl | rfl
      · exact h.one _ (List.mem_of_getElem? a1.1)
      · rfl
      · exact h.one _ (List.mem_of_getElem? a0.1)
      · rfl
section
variable {P base : Nat} {W0 W : World} {k : ByteArray} {u : Value} {un : List (ByteArray × ByteArray)} {cl rl rr : List Value}
theorem Ed2.swap {A1 B : List (List Int × Int)} {x y : List Int × Int} (h : Ed2 P base W0 W k u un (A1 ++ [x, y]) B cl rl rr) :
    ∃ vx vy, (∃ a n c, vx = .slice a n c) ∧ (∃ a n c, vy = .slice a n c) ∧ W.cell? ⟨P, A1.length * 2, none⟩ = some vx ∧ W.cell? ⟨P, A1.length * 2 + 1, none⟩ = some (.int .i64 x.2) ∧ W.cell? ⟨P, A1.length * 2 + 2, none⟩ = some vy ∧ W.cell? ⟨P, A1.length * 2 + 3, none⟩ = some (.int .i64 y.2) ∧ vx.oneCell' = true ∧ vy.oneCell' = true ∧
      ∃ cl' rl', Ed2 P base W0 ((((W.setCell ⟨P, A1.length * 2, none⟩ vy).setCell ⟨P, A1.length * 2 + 1, none⟩ (.int .i64 y.2)).setCell ⟨P, A1.length * 2 + 2, none⟩ vx).setCell ⟨P, A1.length * 2 + 3, none⟩ (.int .i64 x.2)) k u un (A1 ++ [y, x]) B cl' rl' rr := by
  have hna := h.gap.na
  have hfit := h.gap.fit
  simp only [List.length_append, List.length_cons, List.length_nil] at hna hfit
  obtain ⟨r1, r2, e, h1, h2⟩ := split_at (n := A1.length) (m := 2) (xs := rl) (by omega)
  match r2, h2 with
  | [vx, vy], _ =>
    subst e
    obtain ⟨c0, c1, c2, c3, g⟩ := h.gap.swap h1
    have hl := h.gap.len
    have cc : ∀ j v, j < 600 → cl[j]? = some v → W.cell? ⟨P, j, none⟩ = some v := fun j v hj hv => by rw [cell_of_row W P _ _ _ _ h.blk, edC_cl hl j hj]; exact hv
    have sx : ∃ a n c, vx = .slice a n c := by
      have := (h.gap.ra A1.length (by simp)).now
      have v0 := rV_appR r1 [vx, vy] 0
      rw [h1, Nat.add_zero] at v0
      rw [v0] at this
      obtain ⟨ao, cap, e, _⟩ := this
      exact ⟨_, _, _, e⟩
    have sy : ∃ a n c, vy = .slice a n c := by
      have := (h.gap.ra (A1.length + 1) (by simp)).now
      have v0 := rV_appR r1 [vx, vy] 1
      rw [h1] at v0
      rw [v0] at this
      obtain ⟨ao, cap, e, _⟩ := this
      exact ⟨_, _, _, e⟩
    refine ⟨vx, vy, sx, sy, cc _ _ (by omega) c0, cc _ _ (by omega) c1, cc _ _ (by omega) c2, cc _ _ (by omega) c3, h.gap.one _ (List.mem_of_getElem? c0), h.gap.one _ (List.mem_of_getElem? c2), seg cl (A1.length * 2) [vy, .int .i64 y.2, vx, .int .i64 x.2], r1 ++ [vy, vx], ?_⟩
    have f : Fr (fun q => q = P) W ((((W.setCell ⟨P, A1.length * 2, none⟩ vy).setCell ⟨P, A1.length * 2 + 1, none⟩ (.int .i64 y.2)).setCell ⟨P, A1.length * 2 + 2, none⟩ vx).setCell ⟨P, A1.length * 2 + 3, none⟩ (.int .i64 x.2)) := (((Fr.setCell (S := fun q => q = P) (Fr.refl _ W) (a := ⟨P, A1.length * 2, none⟩) rfl _).setCell (a := ⟨P, A1.length * 2 + 1, none⟩) rfl _).setCell (a := ⟨P, A1.length * 2 + 2, none⟩) rfl _).setCell (a := ⟨P, A1.length * 2 + 3, none⟩) rfl _
    have hb := heap_setCell_same _ P (A1.length * 2 + 3) _ _ (.int .i64 x.2) (heap_setCell_same _ P (A1.length * 2 + 2) _ _ vx (heap_setCell_same _ P (A1.length * 2 + 1) _ _ (.int .i64 y.2) (heap_setCell_same W P (A1.length * 2) _ _ vy h.blk)))
    rw [edC_four hl _ (by omega)] at hb
    have e2 : (A1 ++ [x, y]).length = (A1 ++ [y, x]).length := by simp
    rw [e2] at hb
    exact h.step hb (g.fr f) f
end
end Go.Proofs.YtokjpnlmkecleaaGreatDoor

namespace Go.Proofs.YtokjpnlmkecleaaGreatDoor
open Go.RowKit
section
variable {P base : Nat} {W : World} {k : ByteArray} {u : Value} {qs : List Nat} {un : List (ByteArray × ByteArray)} {cl rl rr : List Value}
set_option maxRecDepth 10000 in
set_option maxHeartbeats 4000000 in
theorem edSwap_no {A B : List (List Int × Int)} (kd : Int) (rv : Value) (hn : A.length = 0 ∨ A.length + B.length < 2) (h : Ed0 P base W k u qs un A B cl rl rr) :
    Calls Tryz.prog 100 #[.pointer (some ⟨P, 0, none⟩), .agg #[.int .i64 kd, rv]] W fun e w' => EdR P base W w' k un A B 2 e := by
  replace h := h.ext ((Ext.refl W).alloc (.cells #[.int .i64 kd, rv] 28))
  have H1 := hide (fun w (E : Ext _ w) => edLeftOf (h.ext E).two)
  have H2 := hide (fun w (E : Ext _ w) => edRightOf (h.ext E).two)
  have H0 := hide (fun w (E : Ext _ w) => (h.same E 2).pre ((Ext.refl W).alloc (.cells #[.int .i64 kd, rv] 28)))
  have hfit := h.fit
  clear h
  obtain ⟨n, hn1⟩ : ∃ n, A.length = n := ⟨_, rfl⟩
  obtain ⟨m, hm1⟩ : ∃ m, B.length = m := ⟨_, rfl⟩
  rw [hn1, hm1] at hn hfit
  rw [hn1] at H1
  rw [hm1] at H2
  clear hn1 hm1
  have hw : IntKind.i64.wrap ((n : Int) + (m : Int)) = (n : Int) + (m : Int) := by rw [IntKind.wrap_i64]; omega
  have hcase : n = 0 ∨ (¬ n = 0 ∧ n + m < 2) := by omega
  go_enter Tryz.func100, Tryz.ntmps100
  go_wp2_with fail
  go_region_law (first
    | (go_simp; go_at_call 104
       refine ((unhide H1) _ (by first | exact Ext.refl _ | exact (Ext.refl _).drew)).mono ?_
       rintro e w1 ⟨rfl, -, E1⟩
       have E2 : Ext (W.alloc (.cells #[.int .i64 kd, rv] 28)) w1 := (by first | exact E1 | exact (Ext.refl _).drew.trans E1)
       clear E1)
    | (go_simp; go_at_call 105
       refine ((unhide H2) _ (by first | exact E2 | exact E2.drew)).mono ?_
       rintro e w2 ⟨ao, cap, rfl, -, E3⟩
       have E4 : Ext (W.alloc (.cells #[.int .i64 kd, rv] 28)) w2 := (by first | exact E2.trans E3 | exact E2.drew.trans E3)
       clear E3))
  all_goals
    have H3 := hide ((unhide H0) _ E4)
    rcases hcase with rfl | ⟨hn0, hs⟩
    · go_wp2
      exact bodyPost_ret (v := .int .i64 2) (by simp [results, Tryz.results100, go_sem]) rfl (unhide H3)
    · have hnI : ¬ (n : Int) = 0 := by omega
      have hlt : (n : Int) + (m : Int) < 2 := by omega
      go_wp2
      exact bodyPost_ret (v := .int .i64 2) (by simp [results, Tryz.results100, go_sem]) rfl (unhide H3)
end
end Go.Proofs.YtokjpnlmkecleaaGreatDoor

namespace Go.Proofs.YtokjpnlmkecleaaGreatDoor
open Go.RowKit
section
variable {P base : Nat} {W : World} {k : ByteArray} {u : Value} {qs : List Nat} {un : List (ByteArray × ByteArray)} {cl rl rr : List Value}
set_option maxRecDepth 10000 in
set_option maxHeartbeats 4000000 in
theorem edSwap_mid {A1 B : List (List Int × Int)} {x y : List Int × Int} (kd : Int) (rv : Value) (h : Ed0 P base W k u qs un (A1 ++ [x]) ([y] ++ B) cl rl rr) :
    Calls Tryz.prog 100 #[.pointer (some ⟨P, 0, none⟩), .agg #[.int .i64 kd, rv]] W fun e w' => EdR P base W w' k (undoN un (toBA (textC (A1 ++ [x])), toBA (textC ([y] ++ B)))) (A1 ++ [y, x]) B 1 e := by
  replace h := h.ext ((Ext.refl W).alloc (.cells #[.int .i64 kd, rv] 28))
  have H1 := hide (fun w (E : Ext _ w) => edLeftOf (h.ext E).two)
  have H2 := hide (fun w (E : Ext _ w) => edRightOf (h.ext E).two)
  have H3 := hide (fun w (E : Ext _ w) => edChangeE h E)
  have H4 : Hid (∀ W9 w u' un', Ed2 P base W9 w k u' un' (A1 ++ [x]) ([y] ++ B) cl rl rr → Calls Tryz.prog 128 #[.pointer (some ⟨P, 0, none⟩), .int .i64 1] w fun e w' => ∃ cl' rl' rr', e = .returned (.tuple #[]) ∧ Ed2 P base W9 w' k u' un' (A1 ++ [x, y]) B cl' rl' rr') := hide (fun W9 w u' un' g => by
    have := edGoR (B1 := [y]) (by simp) g
    rw [List.append_assoc] at this
    exact this)
  have hfit := h.fit
  clear h
  obtain ⟨q, hq1⟩ : ∃ q, A1.length = q := ⟨_, rfl⟩
  obtain ⟨m, hm1⟩ : ∃ m, ([y] ++ B).length = m := ⟨_, rfl⟩
  have hm0 : 0 < m := by rw [← hm1]; simp
  obtain ⟨n, hn1⟩ : ∃ n, (A1 ++ [x]).length = n := ⟨_, rfl⟩
  have hnq : n = q + 1 := by rw [← hn1, ← hq1]; simp
  rw [hn1, hm1] at hfit
  rw [hn1] at H1
  rw [hm1] at H2
  have HQ := hide hq1
  clear hn1 hm1 hq1
  have hw : IntKind.i64.wrap ((n : Int) + (m : Int)) = (n : Int) + (m : Int) := by rw [IntKind.wrap_i64]; omega
  have hnI : ¬ (n : Int) = 0 := by omega
  have hnN : ¬ n = 0 := by omega
  have hmI : ¬ (m : Int) = 0 := by omega
  have hmN : ¬ m = 0 := by omega
  have hlt : ¬ (n : Int) + (m : Int) < 2 := by omega
  have hnB : ((n : Int) == 0) = false := by simp; omega
  have hmB : ((m : Int) == 0) = false := by simp; omega
  have HNQ := hide hnq
  clear hnq
  go_enter Tryz.func100, Tryz.ntmps100
  go_wp2_with fail
  go_region_law (first
    | (go_simp; go_at_call 104
       refine ((unhide H1) _ (by first | exact Ext.refl _ | exact (Ext.refl _).drew)).mono ?_
       rintro e w1 ⟨rfl, -, E1⟩
       have E2 : Ext (W.alloc (.cells #[.int .i64 kd, rv] 28)) w1 := (by first | exact E1 | exact (Ext.refl _).drew.trans E1)
       clear E1)
    | (go_simp; go_at_call 105
       refine ((unhide H2) _ (by first | exact E2 | exact E2.drew)).mono ?_
       rintro e w2 ⟨ao, cap, rfl, -, E3⟩
       have E4 : Ext (W.alloc (.cells #[.int .i64 kd, rv] 28)) w2 := (by first | exact E2.trans E3 | exact E2.drew.trans E3)
       clear E3))
  all_goals
    have H3' := hide ((unhide H3) _ E4)
    clear H1 H2 H3 E2 E4
    go_wp2_with fail
    refine (unhide H3').mono ?_
    rintro e w3 ⟨u3, rfl, g3, -⟩
    have H4' := hide ((unhide H4) _ w3 u3 _ g3)
    clear H3' H4 g3
    go_wp2_with fail
    refine (unhide H4').mono ?_
    rintro e w4 ⟨cl4, rl4, rr4, rfl, g4⟩
    have HL := hide (fun w (E : Ext w4 w) => edLeftOf (g4.ext E))
    have HS := hide (fun w (E : Ext w4 w) => (g4.ext E).swap)
    have HG4 := hide (fun w (E : Ext w4 w) => (g4.ext E).blk)
    rw [show (A1 ++ [x, y]).length = q + 2 by rw [List.length_append, unhide HQ]; rfl] at HL
    rw [unhide HQ] at HS
    have hnq := unhide HNQ
    obtain ⟨N, hN⟩ : ∃ N, q + 2 = N := ⟨_, rfl⟩
    rw [hN] at HL
    have hw2 : IntKind.i64.wrap ((N : Int) - 2) = (q : Int) := by rw [IntKind.wrap_i64]; omega
    have b1 : (q : Int) ≤ (N : Int) := by omega
    have b2 : (N : Int) ≤ 300 := by omega
    have b3 : ¬ 300 = q := by omega
    have hd : N - q = 2 := by omega
    clear H4' g4 hN hnq
    go_wp2_with fail
    go_region_law (first
      | (go_simp; go_at_call 104
         first
         | (refine ((unhide HL) _ (by first | exact E6 | exact E6.drew)).mono ?_
            rintro e w7 ⟨rfl, -, E7⟩
            have E8 : Ext w4 w7 := (by first | exact E6.trans E7 | exact E6.drew.trans E7)
            clear E7)
         | (refine ((unhide HL) _ (by first | exact Ext.refl _ | exact (Ext.refl _).drew)).mono ?_
            rintro e w6 ⟨rfl, -, E5⟩
            have E6 : Ext w4 w6 := (by first | exact E5 | exact (Ext.refl _).drew.trans E5)
            clear E5)))
    all_goals
      have hsw := (unhide HS) w7 E8
      have HF7 : Hid (∀ i, w7.frozen? ⟨P, i, none⟩ = false) := hide (fun i => Lib.frozen_of_heap (unhide HG4 w7 E8) i)
      obtain ⟨vx, vy, ⟨ax, nx, cx, rfl⟩, ⟨ay, ny, cy, rfl⟩, c0, c1, c2, c3, o1, o2, cl8, rl8, g8⟩ := hsw
      have f7 := unhide HF7
      have HG8 := hide g8
      clear g8 HS HL E8 E6 HG4 HF7
      go_wp2_with fail
      go_region_law (first | fail)
      all_goals
        go_wp2
        exact bodyPost_ret (v := .int .i64 1) (by simp [results, Tryz.results100, go_sem]) rfl ((((unhide HG8).ext (Ext.refl _).drew).end 1).pre ((Ext.refl W).alloc (.cells #[.int .i64 kd, rv] 28)))
end
end Go.Proofs.YtokjpnlmkecleaaGreatDoor
