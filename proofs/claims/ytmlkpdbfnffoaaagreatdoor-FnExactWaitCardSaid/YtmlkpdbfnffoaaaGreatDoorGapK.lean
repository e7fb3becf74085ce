import Derived.Test.YtmlkpdbfnffoaaaGreatDoorGapI
namespace Go.Proofs.YtmlkpdbfnffoaaaGreatDoor
open Go.RowKit
theorem zlu {xs ys : List (List Int × Int)} {j : Nat} (h : j < xs.length) : cR (xs ++ ys) j = cR xs j ∧ cW (xs ++ ys) j = cW xs j := by
 simp [cR, cW, List.getElem?_append_left h]
theorem zgr (xs ys : List (List Int × Int)) (j : Nat) : cR (xs ++ ys) (xs.length + j) = cR ys j ∧ cW (xs ++ ys) (xs.length + j) = cW ys j := by
 simp [cR, cW, List.getElem?_append_right]
theorem zlg {xs ys : List Value} {j : Nat} (h : j < xs.length) : rV (xs ++ ys) j = rV xs j := by
 simp [rV, List.getElem?_append_left h]
theorem zkZ (xs ys : List Value) (j : Nat) : rV (xs ++ ys) (xs.length + j) = rV ys j := by
 simp [rV, List.getElem?_append_right]
theorem zaY.takeL {P : Nat} {W : World} {cl r1 r2 rr : List Value} {A1 A2 B : List (List Int × Int)} (h : zaY P W cl (r1 ++ r2) rr (A1 ++ A2) B) (h1 : r1.length = A1.length) : zaY P W cl r1 rr A1 B := by
 have hf := h.fit
 rw [List.length_append] at hf
 refine ⟨h.len, by omega, h1, h.nb, fun j hj => ?_, h.lb, fun j hj => ?_, h.rb, h.one⟩
 ·have := h.la j (by rw [List.length_append]; omega)
  rwa [zlg (by omega), (zlu hj).2] at this
 ·have := h.ra j (by rw [List.length_append]; omega)
  rwa [zlg (by omega), (zlu hj).1] at this
theorem zaY.tookL {P : Nat} {W : World} {cl r1 r2 rr : List Value} {A1 A2 B : List (List Int × Int)} {fr bh : Int} {k : ByteArray} {u : Value} {T : TypeId} (h : zaY P W cl (r1 ++ r2) rr (A1 ++ A2) B) (h1 : r1.length = A1.length) (hP : W.heap[P]? = some (.cells (edC cl fr bh k u) T (0, 0))) (c : Nat) (hc : A2.length ≤ c) : zaI W (.slice (some ⟨P, A1.length * 2, none⟩) A2.length c) A2 := by
 have hl := h.len
 have hf := h.fit
 rw [List.length_append] at hf
 refine ⟨r2, _, c, rfl, hc, fun j hj => ?_, fun _ => ⟨P, A1.length * 2, rfl, fun j hj => ?_⟩⟩
 ·have := (h.ra (A1.length + j) (by rw [List.length_append]; omega)).now
  rwa [← h1, zkZ, h1, (zgr A1 A2 j).1] at this
 ·have h2 := h.la (A1.length + j) (by rw [List.length_append]; omega)
  rw [← h1, zkZ, h1, (zgr A1 A2 j).2] at h2
  rw [cell_of_row W P _ _ _ _ hP, cell_of_row W P _ _ _ _ hP, ← Nat.add_mul, zdV hl _ (by omega), zdV hl _ (by omega)]
  exact h2
set_option maxRecDepth 10000 in
set_option maxHeartbeats 4000000 in
theorem zik (P : Nat) (cl r1 r2 rr : List Value) (A1 A2 B : List (List Int × Int)) (bh : Int) (k : ByteArray) (u : Value) (W : World) (hP : W.heap[P]? = some (.cells (edC cl ((A1.length + A2.length : Nat) : Int) bh k u) 226 (0, 0))) (hG : zaY P W cl (r1 ++ r2) rr (A1 ++ A2) B) (h1 : r1.length = A1.length) :
  Calls Tryz.prog 299 #[.pointer (some ⟨P, 0, none⟩), .int .i64 (A2.length : Int)] W fun e w' => ∃ v, e = .returned v ∧ w'.heap[P]? = some (.cells (edC cl (A1.length : Int) bh k u) 226 (0, 0)) ∧ zaY P w' cl r1 rr A1 B ∧ zaI w' v A2 ∧ Fr (fun q => q = P) W w' := by
 have hl := hG.len
 have hf := hG.fit
 rw [List.length_append] at hf
 obtain ⟨k600, -, -, -, z600, -, -⟩ := zaJ hP hl
 have p1 := heap_setCell_same W P 600 _ _ (.int .i64 (A1.length : Int)) hP
 have e1 : (edC cl ((A1.length + A2.length : Nat) : Int) bh k u).setIfInBounds 600 (.int .i64 (A1.length : Int)) = edC cl (A1.length : Int) bh k u := by unfold edC; simp [hl]
 rw [e1] at p1
 have F1 : Fr (fun q => q = P) W (W.setCell ⟨P, 600, none⟩ (.int .i64 (A1.length : Int))) := Fr.setCell (S := fun q => q = P) (Fr.refl _ W) (a := ⟨P, 600, none⟩) rfl _
 have HC : Hid (∀ c, A2.length ≤ c → zaI (W.setCell ⟨P, 600, none⟩ (.int .i64 (A1.length : Int))) (.slice (some ⟨P, A1.length * 2, none⟩) A2.length c) A2) := zi (fun c hc => (hG.fr F1).tookL h1 p1 c hc)
 have HP := zi p1
 have HG := zi ((hG.fr F1).takeL h1)
 have HF := zi F1
 have HZ : Hid (A2.length = 0 → ∀ ao c, zaI (W.setCell ⟨P, 600, none⟩ (.int .i64 (A1.length : Int))) (.slice ao 0 c) A2) := zi (fun h0 ao c => by
  obtain rfl : A2 = [] := List.eq_nil_of_length_eq_zero h0
  exact ⟨[], ao, c, rfl, Nat.zero_le _, fun j hj => absurd hj (Nat.not_lt_zero _), fun h => absurd h (Nat.not_lt_zero _)⟩)
 obtain ⟨a, ha⟩ : ∃ a, A1.length = a := ⟨_, rfl⟩
 obtain ⟨n, hn⟩ : ∃ n, A2.length = n := ⟨_, rfl⟩
 rw [ha] at k600 hf HC HZ HP HF HG ⊢
 rw [hn] at k600 hf HC HZ ⊢
 have hw1 : IntKind.i64.wrap (((a + n : Nat) : Int) - (n : Int)) = (a : Int) := by rw [IntKind.wrap_i64]; omega
 have hw2 : IntKind.i64.wrap ((a : Int) + (n : Int)) = (a : Int) + (n : Int) := by rw [IntKind.wrap_i64]; omega
 clear hP hG p1 e1 F1 ha hn h1
 go_enter Tryz.func299, Tryz.ntmps299
 go_wp2
 have c600 : (W.setCell ⟨P, 600, none⟩ (.int .i64 (a : Int))).cell? ⟨P, 600, none⟩ = some (.int .i64 (a : Int)) := (zaJ (zg HP) hl).1
 have b1 : (a : Int) ≤ (a : Int) + (n : Int) := by omega
 have b2 : (a : Int) + (n : Int) ≤ 300 := by omega
 have b3 : ((a : Int) + (n : Int)).toNat = a + n := by omega
 have b4 : (0 : Int) ≤ (a : Int) + (n : Int) := by omega
 have hw3 : IntKind.i64.wrap 300 = 300 := by decide
 by_cases h0 : 300 = a
 ·obtain rfl : n = 0 := by omega
  subst h0
  go_region_law (first | fail)
  all_goals
   go_wp2
   exact bodyPost_ret (v := .slice (some ⟨P, 0, none⟩) 0 0) (by simp [results, Tryz.results299, go_sem]) rfl ⟨_, rfl, zg HP, (zg HG).fr (Fr.of_ext (Ext.refl _).drew), ((zg HZ) trivial _ _).ext (Ext.refl _).drew, (zg HF).tr (Fr.of_ext (Ext.refl _).drew)⟩
 ·go_region_law (first | fail)
  all_goals
   go_wp2
   exact bodyPost_ret (by simp [results, Tryz.results299, go_sem]) rfl ⟨_, rfl, zg HP, (zg HG).fr (Fr.of_ext (Ext.refl _).drew), ((zg HC) (300 - a) (by omega)).ext (Ext.refl _).drew, (zg HF).tr (Fr.of_ext (Ext.refl _).drew)⟩
end Go.Proofs.YtmlkpdbfnffoaaaGreatDoor
