import Derived.Test.YtokjpnlmkecleaaGreatDoorEdSw
namespace Go.Proofs.YtokjpnlmkecleaaGreatDoor
open Go.RowKit

section
variable {P base : Nat} {W : World} {k : ByteArray} {u : Value} {qs : List Nat} {un : List (ByteArray × ByteArray)} {cl rl rr : List Value}
set_option maxRecDepth 10000 in
set_option maxHeartbeats 4000000 in
theorem edSwap_no {A B : List (List Int × Int)} (kd : Int) (rv : Value) (hn : A.length = 0 ∨ A.length + B.length < 2) (h : Ed0 P base W k u qs un A B cl rl rr) :
    Calls Tryz.prog 100 #[.pointer (some ⟨P, 0, none⟩), .agg #[.int .i64 kd, rv]] W fun e w' => EdR P base W w' k un A B 2 e := by
  replace h := h.ext ((Ext.refl W).alloc (.cells #[.int .i64 kd, rv] 28))
  have H1 := hide (fun w (E : Ext _ w) => edLeftOf (h.ext E).two)
  have H2 := hide (fun w (E : Ext _ w) => edRightOf (h.ext E).two)
  have H0 := hide (fun w (E : Ext _ w) => (h.same E 2).pre ((Ext.refl W).alloc (.cells #[.int .i64 kd, rv] 28)))
  have hfit := h.fit
  clear h
  obtain ⟨n, hn1⟩ : ∃ n, A.length = n := ⟨_, rfl⟩
  obtain ⟨m, hm1⟩ : ∃ m, B.length = m := ⟨_, rfl⟩
  rw [hn1, hm1] at hn hfit
  rw [hn1] at H1
  rw [hm1] at H2
  clear hn1 hm1
  have hw : IntKind.i64.wrap ((n : Int) + (m : Int)) = (n : Int) + (m : Int) := by rw [IntKind.wrap_i64]; omega
  have hcase : n = 0 ∨ (¬ n = 0 ∧ n + m < 2) := by omega
  go_enter Tryz.func100, Tryz.ntmps100
  go_wp2_with fail
  go_region_law (first
    | (go_simp; go_at_call 104
       refine ((unhide H1) _ (by first | exact Ext.refl _ | exact (Ext.refl _).drew)).mono ?_
       rintro e w1 ⟨rfl, -, E1⟩
       have E2 : Ext (W.alloc (.cells #[.int .i64 kd, rv] 28)) w1 := (by first | exact E1 | exact (Ext.refl _).drew.trans E1)
       clear E1)
    | (go_simp; go_at_call 105
       refine ((unhide H2) _ (by first | exact E2 | exact E2.drew)).mono ?_
       rintro e w2 ⟨ao, cap, rfl, -, E3⟩
       have E4 : Ext (W.alloc (.cells #[.int .i64 kd, rv] 28)) w2 := (by first | exact E2.trans E3 | exact E2.drew.trans E3)
       clear E3))
  all_goals
    have H3 := hide ((unhide H0) _ E4)
    rcases hcase with rfl | ⟨hn0, hs⟩
    · go_wp2
      exact bodyPost_ret (v := .int .i64 2) (by simp [results, Tryz.results100, go_sem]) rfl (unhide H3)
    · have hnI : ¬ (n : Int) = 0 := by omega
      have hlt : (n : Int) + (m : Int) < 2 := by omega
      go_wp2
      exact bodyPost_ret (v := .int .i64 2) (by simp [results, Tryz.results100, go_sem]) rfl (unhide H3)
end
end Go.Proofs.YtokjpnlmkecleaaGreatDoor

namespace Go.Proofs.YtokjpnlmkecleaaGreatDoor
open Go.RowKit

section
variable {P base : Nat} {W : World} {k : ByteArray} {u : Value} {qs : List Nat} {un : List (ByteArray × ByteArray)} {cl rl rr : List Value}
set_option maxRecDepth 10000 in
set_option maxHeartbeats 4000000 in
theorem edSwap_mid {A1 B : List (List Int × Int)} {x y : List Int × Int} (kd : Int) (rv : Value) (h : Ed0 P base W k u qs un (A1 ++ [x]) ([y] ++ B) cl rl rr) :
    Calls Tryz.prog 100 #[.pointer (some ⟨P, 0, none⟩), .agg #[.int .i64 kd, rv]] W fun e w' => EdR P base W w' k (undoN un (toBA (textC (A1 ++ [x])), toBA (textC ([y] ++ B)))) (A1 ++ [y, x]) B 1 e := by
  replace h := h.ext ((Ext.refl W).alloc (.cells #[.int .i64 kd, rv] 28))
  have H1 := hide (fun w (E : Ext _ w) => edLeftOf (h.ext E).two)
  have H2 := hide (fun w (E : Ext _ w) => edRightOf (h.ext E).two)
  have H3 := hide (fun w (E : Ext _ w) => edChangeE h E)
  have H4 : Hid (∀ W9 w u' un', Ed2 P base W9 w k u' un' (A1 ++ [x]) ([y] ++ B) cl rl rr → Calls Tryz.prog 128 #[.pointer (some ⟨P, 0, none⟩), .int .i64 1] w fun e w' => ∃ cl' rl' rr', e = .returned (.tuple #[]) ∧ Ed2 P base W9 w' k u' un' (A1 ++ [x, y]) B cl' rl' rr') := hide (fun W9 w u' un' g => by
    have := edGoR (B1 := [y]) (by simp) g
    rw [List.append_assoc] at this
    exact this)
  have hfit := h.fit
  clear h
  obtain ⟨q, hq1⟩ : ∃ q, A1.length = q := ⟨_, rfl⟩
  obtain ⟨m, hm1⟩ : ∃ m, ([y] ++ B).length = m := ⟨_, rfl⟩
  have hm0 : 0 < m := by rw [← hm1]; simp
  obtain ⟨n, hn1⟩ : ∃ n, (A1 ++ [x]).length = n := ⟨_, rfl⟩
  have hnq : n = q + 1 := by rw [← hn1, ← hq1]; simp
  rw [hn1, hm1] at hfit
  rw [hn1] at H1
  rw [hm1] at H2
  have HQ := hide hq1
  clear hn1 hm1 hq1
  have hw : IntKind.i64.wrap ((n : Int) + (m : Int)) = (n : Int) + (m : Int) := by rw [IntKind.wrap_i64]; omega
  have hnI : ¬ (n : Int) = 0 := by omega
  have hnN : ¬ n = 0 := by omega
  have hmI : ¬ (m : Int) = 0 := by omega
  have hmN : ¬ m = 0 := by omega
  have hlt : ¬ (n : Int) + (m : Int) < 2 := by omega
  have hnB : ((n : Int) == 0) = false := by simp; omega
  have hmB : ((m : Int) == 0) = false := by simp; omega
  have HNQ := hide hnq
  clear hnq
  go_enter Tryz.func100, Tryz.ntmps100
  go_wp2_with fail
  go_region_law (first
    | (go_simp; go_at_call 104
       refine ((unhide H1) _ (by first | exact Ext.refl _ | exact (Ext.refl _).drew)).mono ?_
       rintro e w1 ⟨rfl, -, E1⟩
       have E2 : Ext (W.alloc (.cells #[.int .i64 kd, rv] 28)) w1 := (by first | exact E1 | exact (Ext.refl _).drew.trans E1)
       clear E1)
    | (go_simp; go_at_call 105
       refine ((unhide H2) _ (by first | exact E2 | exact E2.drew)).mono ?_
       rintro e w2 ⟨ao, cap, rfl, -, E3⟩
       have E4 : Ext (W.alloc (.cells #[.int .i64 kd, rv] 28)) w2 := (by first | exact E2.trans E3 | exact E2.drew.trans E3)
       clear E3))
  all_goals
    have H3' := hide ((unhide H3) _ E4)
    clear H1 H2 H3 E2 E4
    go_wp2_with fail
    refine (unhide H3').mono ?_
    rintro e w3 ⟨u3, rfl, g3, -⟩
    have H4' := hide ((unhide H4) _ w3 u3 _ g3)
    clear H3' H4 g3
    go_wp2_with fail
    refine (unhide H4').mono ?_
    rintro e w4 ⟨cl4, rl4, rr4, rfl, g4⟩
    have HL := hide (fun w (E : Ext w4 w) => edLeftOf (g4.ext E))
    have HS := hide (fun w (E : Ext w4 w) => (g4.ext E).swap)
    have HG4 := hide (fun w (E : Ext w4 w) => (g4.ext E).blk)
    rw [show (A1 ++ [x, y]).length = q + 2 by rw [List.length_append, unhide HQ]; rfl] at HL
    rw [unhide HQ] at HS
    have hnq := unhide HNQ
    obtain ⟨N, hN⟩ : ∃ N, q + 2 = N := ⟨_, rfl⟩
    rw [hN] at HL
    have hw2 : IntKind.i64.wrap ((N : Int) - 2) = (q : Int) := by rw [IntKind.wrap_i64]; omega
    have b1 : (q : Int) ≤ (N : Int) := by omega
    have b2 : (N : Int) ≤ 300 := by omega
    have b3 : ¬ 300 = q := by omega
    have hd : N - q = 2 := by omega
    clear H4' g4 hN hnq
    go_wp2_with fail
    go_region_law (first
      | (go_simp; go_at_call 104
         first
         | (refine ((unhide HL) _ (by first | exact E6 | exact E6.drew)).mono ?_
            rintro e w7 ⟨rfl, -, E7⟩
            have E8 : Ext w4 w7 := (by first | exact E6.trans E7 | exact E6.drew.trans E7)
            clear E7)
         | (refine ((unhide HL) _ (by first | exact Ext.refl _ | exact (Ext.refl _).drew)).mono ?_
            rintro e w6 ⟨rfl, -, E5⟩
            have E6 : Ext w4 w6 := (by first | exact E5 | exact (Ext.refl _).drew.trans E5)
            clear E5)))
    all_goals
      have hsw := (unhide HS) w7 E8
      have HF7 : Hid (∀ i, w7.frozen? ⟨P, i, none⟩ = false) := hide (fun i => Lib.frozen_of_heap (unhide HG4 w7 E8) i)
      obtain ⟨vx, vy, ⟨ax, nx, cx, rfl⟩, ⟨ay, ny, cy, rfl⟩, c0, c1, c2, c3, o1, o2, cl8, rl8, g8⟩ := hsw
      have f7 := unhide HF7
      have HG8 := hide g8
      clear g8 HS HL E8 E6 HG4 HF7
      go_wp2_with fail
      go_region_law (first | fail)
      all_goals
        go_wp2
        exact bodyPost_ret (v := .int .i64 1) (by simp [results, Tryz.results100, go_sem]) rfl ((((unhide HG8).ext (Ext.refl _).drew).end 1).pre ((Ext.refl W).alloc (.cells #[.int .i64 kd, rv] 28)))
end
end Go.Proofs.YtokjpnlmkecleaaGreatDoor
