import Derived.Test.YtokjpnlmkecleaaGreatDoorGapG
import Derived.Test.YtokjpnlmkecleaaGreatDoorGapI
import Derived.Test.YtokjpnlmkecleaaGreatDoorLnCp
import Derived.Test.YtokjpnlmkecleaaGreatDoorSzLn
import Derived.Test.YtokjpnlmkecleaaGreatDoorGapL
namespace Go.Proofs.YtokjpnlmkecleaaGreatDoor
open Go.RowKit

/-- What is taken out behind the cursor, as a slice of the places. -/
theorem GapIn.tookR {P : Nat} {W : World} {cl rl r1 r2 : List Value} {A B1 B2 : List (List Int × Int)} {fr bh : Int} {k : ByteArray} {u : Value} {T : TypeId} (h : GapIn P W cl rl (r1 ++ r2) A (B1 ++ B2)) (h1 : r1.length = B1.length) (hP : W.heap[P]? = some (.cells (edC cl fr bh k u) T (0, 0))) (c : Nat) (hc : B1.length ≤ c) : ClsAt W (.slice (some ⟨P, (300 - (B1.length + B2.length)) * 2, none⟩) B1.length c) B1 := by
  have hl := h.len
  have hf := h.fit
  rw [List.length_append] at hf
  refine ⟨r1, _, c, rfl, hc, fun j hj => ?_, fun _ => ⟨P, (300 - (B1.length + B2.length)) * 2, rfl, fun j hj => ?_⟩⟩
  · have := (h.rb j (by rw [List.length_append]; omega)).now
    rwa [rV_appL (by omega), (cR_appL hj).1] at this
  · have h2 := h.lb j (by rw [List.length_append]; omega)
    rw [rV_appL (by omega), (cR_appL hj).2, List.length_append] at h2
    rw [cell_of_row W P _ _ _ _ hP, cell_of_row W P _ _ _ _ hP, ← Nat.add_mul, edC_cl hl _ (by omega), edC_cl hl _ (by omega)]
    exact h2
set_option maxRecDepth 10000 in
set_option maxHeartbeats 4000000 in
theorem takeLeft_any (P : Nat) (cl r1 r2 rr : List Value) (A1 A2 B : List (List Int × Int)) (bh : Int) (k : ByteArray) (u : Value) (W : World) (hP : W.heap[P]? = some (.cells (edC cl ((A1.length + A2.length : Nat) : Int) bh k u) 99 (0, 0))) (hG : GapIn P W cl (r1 ++ r2) rr (A1 ++ A2) B) (h1 : r1.length = A1.length) :
    Calls Tryz.prog 120 #[.pointer (some ⟨P, 0, none⟩), .int .i64 (A2.length : Int)] W fun e w' => ∃ v, e = .returned v ∧ w'.heap[P]? = some (.cells (edC cl (A1.length : Int) bh k u) 99 (0, 0)) ∧ GapIn P w' cl r1 rr A1 B ∧ ClsAt w' v A2 ∧ Fr (fun q => q = P) W w' := by
  have hl := hG.len
  have hf := hG.fit
  rw [List.length_append] at hf
  obtain ⟨k600, -, -, -, z600, -, -⟩ := edG_cells hP hl
  have p1 := heap_setCell_same W P 600 _ _ (.int .i64 (A1.length : Int)) hP
  have e1 : (edC cl ((A1.length + A2.length : Nat) : Int) bh k u).setIfInBounds 600 (.int .i64 (A1.length : Int)) = edC cl (A1.length : Int) bh k u := by unfold edC; simp [hl]
  rw [e1] at p1
  have F1 : Fr (fun q => q = P) W (W.setCell ⟨P, 600, none⟩ (.int .i64 (A1.length : Int))) := Fr.setCell (S := fun q => q = P) (Fr.refl _ W) (a := ⟨P, 600, none⟩) rfl _
  have HC : Hid (∀ c, A2.length ≤ c → ClsAt (W.setCell ⟨P, 600, none⟩ (.int .i64 (A1.length : Int))) (.slice (some ⟨P, A1.length * 2, none⟩) A2.length c) A2) := hide (fun c hc => (hG.fr F1).tookL h1 p1 c hc)
  have HP := hide p1
  have HG := hide ((hG.fr F1).takeL h1)
  have HF := hide F1
  have HZ : Hid (A2.length = 0 → ∀ ao c, ClsAt (W.setCell ⟨P, 600, none⟩ (.int .i64 (A1.length : Int))) (.slice ao 0 c) A2) := hide (fun h0 ao c => by
    obtain rfl : A2 = [] := List.eq_nil_of_length_eq_zero h0
    exact ⟨[], ao, c, rfl, Nat.zero_le _, fun j hj => absurd hj (Nat.not_lt_zero _), fun h => absurd h (Nat.not_lt_zero _)⟩)
  obtain ⟨a, ha⟩ : ∃ a, A1.length = a := ⟨_, rfl⟩
  obtain ⟨n, hn⟩ : ∃ n, A2.length = n := ⟨_, rfl⟩
  rw [ha] at k600 hf HC HZ HP HF HG ⊢
  rw [hn] at k600 hf HC HZ ⊢
  have hw1 : IntKind.i64.wrap (((a + n : Nat) : Int) - (n : Int)) = (a : Int) := by rw [IntKind.wrap_i64]; omega
  have hw2 : IntKind.i64.wrap ((a : Int) + (n : Int)) = (a : Int) + (n : Int) := by rw [IntKind.wrap_i64]; omega
  clear hP hG p1 e1 F1 ha hn h1
  go_enter Tryz.func120, Tryz.ntmps120
  go_wp2
  have c600 : (W.setCell ⟨P, 600, none⟩ (.int .i64 (a : Int))).cell? ⟨P, 600, none⟩ = some (.int .i64 (a : Int)) := (edG_cells (unhide HP) hl).1
  have b1 : (a : Int) ≤ (a : Int) + (n : Int) := by omega
  have b2 : (a : Int) + (n : Int) ≤ 300 := by omega
  have b3 : ((a : Int) + (n : Int)).toNat = a + n := by omega
  have b4 : (0 : Int) ≤ (a : Int) + (n : Int) := by omega
  have hw3 : IntKind.i64.wrap 300 = 300 := by decide
  by_cases h0 : 300 = a
  · obtain rfl : n = 0 := by omega
    subst h0
    go_region_law (first | fail)
    all_goals
      go_wp2
      exact bodyPost_ret (v := .slice (some ⟨P, 0, none⟩) 0 0) (by simp [results, Tryz.results120, go_sem]) rfl ⟨_, rfl, unhide HP, (unhide HG).fr (Fr.of_ext (Ext.refl _).drew), ((unhide HZ) trivial _ _).ext (Ext.refl _).drew, (unhide HF).tr (Fr.of_ext (Ext.refl _).drew)⟩
  · go_region_law (first | fail)
    all_goals
      go_wp2
      exact bodyPost_ret (by simp [results, Tryz.results120, go_sem]) rfl ⟨_, rfl, unhide HP, (unhide HG).fr (Fr.of_ext (Ext.refl _).drew), ((unhide HC) (300 - a) (by omega)).ext (Ext.refl _).drew, (unhide HF).tr (Fr.of_ext (Ext.refl _).drew)⟩
set_option maxRecDepth 10000 in
set_option maxHeartbeats 4000000 in
theorem takeRight_any (P : Nat) (cl rl r1 r2 : List Value) (A B1 B2 : List (List Int × Int)) (fr : Int) (k : ByteArray) (u : Value) (W : World) (hP : W.heap[P]? = some (.cells (edC cl fr ((300 - (B1.length + B2.length) : Nat) : Int) k u) 99 (0, 0))) (hG : GapIn P W cl rl (r1 ++ r2) A (B1 ++ B2)) (h1 : r1.length = B1.length) :
    Calls Tryz.prog 121 #[.pointer (some ⟨P, 0, none⟩), .int .i64 (B1.length : Int)] W fun e w' => ∃ v, e = .returned v ∧ w'.heap[P]? = some (.cells (edC cl fr ((300 - B2.length : Nat) : Int) k u) 99 (0, 0)) ∧ GapIn P w' cl rl r2 A B2 ∧ ClsAt w' v B1 ∧ Fr (fun q => q = P) W w' := by
  have hl := hG.len
  have hf := hG.fit
  rw [List.length_append] at hf
  obtain ⟨a, ha⟩ : ∃ a, 300 - (B1.length + B2.length) = a := ⟨_, rfl⟩
  obtain ⟨n, hn⟩ : ∃ n, B1.length = n := ⟨_, rfl⟩
  have hb : 300 - B2.length = a + n := by omega
  have han : a + n ≤ 300 := by omega
  obtain ⟨-, k601, -, -, -, z601, -⟩ := edG_cells hP hl
  have p1 := heap_setCell_same W P 601 _ _ (.int .i64 ((a : Int) + (n : Int))) hP
  have F1 : Fr (fun q => q = P) W (W.setCell ⟨P, 601, none⟩ (.int .i64 ((a : Int) + (n : Int)))) := Fr.setCell (S := fun q => q = P) (Fr.refl _ W) (a := ⟨P, 601, none⟩) rfl _
  rw [edC_behind hl] at p1
  have HC : Hid (∀ c, B1.length ≤ c → ClsAt (W.setCell ⟨P, 601, none⟩ (.int .i64 ((a : Int) + (n : Int)))) (.slice (some ⟨P, (300 - (B1.length + B2.length)) * 2, none⟩) B1.length c) B1) := hide (fun c hc => (hG.fr F1).tookR h1 p1 c hc)
  have c601 : (W.setCell ⟨P, 601, none⟩ (.int .i64 ((a : Int) + (n : Int)))).cell? ⟨P, 601, none⟩ = some (.int .i64 ((a : Int) + (n : Int))) := (edG_cells p1 hl).2.1
  have hcast : ((300 - B2.length : Nat) : Int) = (a : Int) + (n : Int) := by omega
  have HP := hide p1
  have HG := hide ((hG.fr F1).takeR h1)
  have HF := hide F1
  have HZ : Hid (B1.length = 0 → ∀ ao c, ClsAt (W.setCell ⟨P, 601, none⟩ (.int .i64 ((a : Int) + (n : Int)))) (.slice ao 0 c) B1) := hide (fun h0 ao c => by
    obtain rfl : B1 = [] := List.eq_nil_of_length_eq_zero h0
    exact ⟨[], ao, c, rfl, Nat.zero_le _, fun j hj => absurd hj (Nat.not_lt_zero _), fun h => absurd h (Nat.not_lt_zero _)⟩)
  rw [hcast]
  rw [ha] at k601 HC
  rw [hn] at HC HZ ⊢
  have hw1 : IntKind.i64.wrap ((a : Int) + (n : Int)) = (a : Int) + (n : Int) := by rw [IntKind.wrap_i64]; omega
  have hw2 : IntKind.i64.wrap ((a : Int) + (n : Int) - (n : Int)) = (a : Int) := by rw [IntKind.wrap_i64]; omega
  have hw4 : IntKind.i64.wrap (a : Int) = (a : Int) := by rw [IntKind.wrap_i64]; omega
  have b1 : (a : Int) ≤ (a : Int) + (n : Int) := by omega
  have b2 : (a : Int) + (n : Int) ≤ 300 := by omega
  have b3 : ((a : Int) + (n : Int)).toNat = a + n := by omega
  have b4 : (0 : Int) ≤ (a : Int) + (n : Int) := by omega
  have hw3 : IntKind.i64.wrap 300 = 300 := by decide
  clear hP hG p1 F1 ha hn h1 hb hcast hf
  go_enter Tryz.func121, Tryz.ntmps121
  go_wp2
  by_cases h0 : 300 = a
  · obtain rfl : n = 0 := by omega
    subst h0
    go_region_law (first | fail)
    all_goals
      go_wp2
      exact bodyPost_ret (v := .slice (some ⟨P, 0, none⟩) 0 0) (by simp [results, Tryz.results121, go_sem]) rfl ⟨_, rfl, unhide HP, (unhide HG).fr (Fr.of_ext (Ext.refl _).drew), ((unhide HZ) trivial _ _).ext (Ext.refl _).drew, (unhide HF).tr (Fr.of_ext (Ext.refl _).drew)⟩
  · go_region_law (first | fail)
    all_goals
      go_wp2
      exact bodyPost_ret (by simp [results, Tryz.results121, go_sem]) rfl ⟨_, rfl, unhide HP, (unhide HG).fr (Fr.of_ext (Ext.refl _).drew), ((unhide HC) (300 - a) (by omega)).ext (Ext.refl _).drew, (unhide HF).tr (Fr.of_ext (Ext.refl _).drew)⟩
end Go.Proofs.YtokjpnlmkecleaaGreatDoor

namespace Go.Proofs.YtokjpnlmkecleaaGreatDoor
open Go.RowKit

theorem clCells_in {rs : List Value} {cs : List (List Int × Int)} {v : Value} : ∀ k, v ∈ clCells rs cs k → ∃ j, j < k ∧ (v = rV rs j ∨ v = .int .i64 (cW cs j))
  | 0, h => by simp [clCells] at h
  | k + 1, h => by
    rw [clCells] at h
    rcases List.mem_append.1 h with h | h
    · obtain ⟨j, hj, e⟩ := clCells_in k h
      exact ⟨j, by omega, e⟩
    · simp at h
      exact ⟨k, by omega, h⟩
/-- Clusters that the call owns, ready to be put in. -/
theorem OwnCls.gap {w : World} {base : Nat} {v : Value} {rs : List Value} {cs : List (List Int × Int)} (h : OwnCls w base v rs cs) {P : Nat} (hP : P < base) :
    ∃ ao cap, v = .slice ao cs.length cap ∧ rs.length = cs.length ∧ (∀ j, j < cs.length → RS P w (rV rs j) (cR cs j)) ∧ (∀ v ∈ clCells rs cs cs.length, v.oneCell' = true) ∧ (0 < cs.length → ∃ b off, ao = some ⟨b, off, none⟩ ∧ ∀ j, j < cs.length → w.cell? ⟨b, off + j * 2, none⟩ = some (rV rs j) ∧ w.cell? ⟨b, off + j * 2 + 1, none⟩ = some (.int .i64 (cW cs j))) := by
  obtain ⟨h0, ⟨ys, h1, h2⟩, h3, _⟩ := h
  have hrs : ∀ j, j < cs.length → RS P w (rV rs j) (cR cs j) := fun j hj W' f => ints_of_owns (f.owns (h3 j hj) (fun g hg e => by have := ((h3 j hj).lt g hg).1; omega))
  have hone : ∀ v ∈ clCells rs cs cs.length, v.oneCell' = true := by
    intro u hu
    obtain ⟨j, hj, e | e⟩ := clCells_in _ hu
    · rcases (h3 j hj).2 with ⟨e2, _⟩ | ⟨g, cap, cur, e2, _⟩ <;> rw [e, e2] <;> rfl
    · rw [e]; rfl
  rcases h1.2 with ⟨rfl, e0⟩ | ⟨g, cap, cur, rfl, hb, hg, hn, hm, hs, ht⟩
  · exact ⟨none, 0, by rw [e0], h0, hrs, hone, fun hp => by omega⟩
  · refine ⟨_, cap, rfl, h0, hrs, hone, fun _ => ⟨g, 0, rfl, fun j hj => ?_⟩⟩
    have := h2 j hj
    rw [Nat.zero_add, h1.cellAt _ (by omega), h1.cellAt _ (by omega)]
    exact this
set_option maxRecDepth 10000 in
set_option maxHeartbeats 2000000 in
theorem gapLeft_any (P : Nat) (cl rl rr : List Value) (A B : List (List Int × Int)) (bh : Int) (k : ByteArray) (u : Value) (W : World) (hP : W.heap[P]? = some (.cells (edC cl (A.length : Int) bh k u) 99 (0, 0))) (hG : GapIn P W cl rl rr A B) :
    Calls Tryz.prog 104 #[.pointer (some ⟨P, 0, none⟩)] W fun e w' => e = .returned (.slice (some ⟨P, 0, none⟩) A.length 300) ∧ Ext W w' := by
  have hl := hG.len
  have hf := hG.fit
  obtain ⟨k600, -, -, -, -, -, -⟩ := edG_cells hP hl
  obtain ⟨n, hn⟩ : ∃ n, A.length = n := ⟨_, rfl⟩
  rw [hn] at k600 hf ⊢
  have b1 : (n : Int) ≤ 300 := by omega
  clear hP hG hn
  go_enter Tryz.func104, Tryz.ntmps104
  go_wp2
  go_region_law (first | fail)
  all_goals
    go_wp2
    exact bodyPost_ret (v := .slice (some ⟨P, 0, none⟩) n 300) (by simp [results, Tryz.results104, go_sem]) rfl ⟨rfl, (Ext.refl W).drew⟩
set_option maxRecDepth 10000 in
set_option maxHeartbeats 2000000 in
theorem gapRight_any (P : Nat) (cl rl rr : List Value) (A B : List (List Int × Int)) (fr : Int) (bh : Nat) (hbh : bh = 300 - B.length) (k : ByteArray) (u : Value) (W : World) (hP : W.heap[P]? = some (.cells (edC cl fr (bh : Int) k u) 99 (0, 0))) (hG : GapIn P W cl rl rr A B) :
    Calls Tryz.prog 105 #[.pointer (some ⟨P, 0, none⟩)] W fun e w' => ∃ v, e = .returned v ∧ ClsAt W v B ∧ Ext W w' := by
  have hl := hG.len
  have hf := hG.fit
  obtain ⟨-, k601, -, -, -, -, -⟩ := edG_cells hP hl
  have b1 : (bh : Int) ≤ 300 := by omega
  by_cases h0 : 300 = bh
  · have hB : B = [] := List.eq_nil_of_length_eq_zero (by omega)
    have HV : Hid (∀ ao c, ClsAt W (.slice ao 0 c) B) := fun ao c => by
      subst hB
      exact ⟨[], ao, c, rfl, Nat.zero_le _, fun j hj => absurd hj (Nat.not_lt_zero _), fun h => absurd h (Nat.not_lt_zero _)⟩
    clear hP hG hbh hf hB
    subst h0
    go_enter Tryz.func105, Tryz.ntmps105
    go_wp2
    go_region_law (first | fail)
    all_goals
      go_wp2
      exact bodyPost_ret (v := .slice (some ⟨P, 0, none⟩) 0 0) (by simp [results, Tryz.results105, go_sem]) rfl ⟨_, rfl, (unhide HV) _ _, (Ext.refl W).drew⟩
  · have hv := hG.right hP B.length (Nat.le_refl _)
    rw [← hbh] at hv
    rw [show B.length = 300 - bh by omega] at hv
    have HV := hide hv
    clear hP hG hbh hf hv
    go_enter Tryz.func105, Tryz.ntmps105
    go_wp2
    go_region_law (first | fail)
    all_goals
      go_wp2
      exact bodyPost_ret (by simp [results, Tryz.results105, go_sem]) rfl ⟨_, rfl, unhide HV, (Ext.refl W).drew⟩
end Go.Proofs.YtokjpnlmkecleaaGreatDoor

namespace Go.Proofs.YtokjpnlmkecleaaGreatDoor
open Go.RowKit

set_option maxRecDepth 10000 in
set_option maxHeartbeats 8000000 in
/-- The texts in front of the cursor and behind it. -/
theorem gapSnap_any (P : Nat) (cl rl rr : List Value) (A B : List (List Int × Int)) (bh : Nat) (hbh : bh = 300 - B.length) (k : ByteArray) (u : Value) (W : World) (hP : W.heap[P]? = some (.cells (edC cl (A.length : Int) (bh : Int) k u) 99 (0, 0))) (hG : GapIn P W cl rl rr A B) (zA : A.length + sumR A A.length ≤ 16777216) (zB : B.length + sumR B B.length ≤ 16777216) (iA : ∀ j, j < A.length → I32s (cR A j)) (iB : ∀ j, j < B.length → I32s (cR B j)) :
    Calls Tryz.prog 63 #[.pointer (some ⟨P, 0, none⟩)] W fun e w' => e = .returned (.agg #[.string (toBA (textC A)), .string (toBA (textC B))]) ∧ Ext W w' := by
  have infoS : (Tryz.prog.info? 49).map (·.size) = some 2 := by kernel_rfl
  have hf := hG.fit
  have HL := hide (fun U (hU : Ext W U) => gapLeft_any P cl rl rr A B bh k u U (hU.kept hP) (hG.fr (Fr.of_ext hU)))
  have HV := hide (fun U (hU : Ext W U) => (hG.fr (Fr.of_ext hU)).left (hU.kept hP) 300 (by omega))
  have HR := hide (fun U (hU : Ext W U) => gapRight_any P cl rl rr A B A.length bh hbh k u U (hU.kept hP) (hG.fr (Fr.of_ext hU)))
  have IA := hide iA
  have IB := hide iB
  obtain ⟨W0, hW0⟩ : ∃ W0, W0 = W.alloc (.cells #[.string { data := #[] }, .string { data := #[] }] 49) := ⟨_, rfl⟩
  have E0 : Ext W W0 := by rw [hW0]; exact (Ext.refl W).alloc _
  have q0 : W0.heap[W.heap.size]? = some (.cells #[.string { data := #[] }, .string { data := #[] }] 49 (0, 0)) := by rw [hW0]; exact heap_alloc_new W _
  have HE0 := hide E0
  have HQ0 := hide q0
  clear hP hG hbh iA iB E0 q0 hf
  subst hW0
  go_enter Tryz.func63, Tryz.ntmps63
  go_wp2_with fail
  refine ((unhide HL) _ (unhide HE0)).mono ?_
  rintro e w1 ⟨rfl, E1⟩
  have HE1 := hide ((unhide HE0).trans E1)
  have HQ1 := hide (E1.kept (unhide HQ0))
  clear E1 HE0 HQ0
  go_wp2_with fail
  refine (implTextOf_any _ A w1 ((unhide HV) _ (unhide HE1)) zA (unhide IA)).mono ?_
  rintro e w2 ⟨rfl, E2⟩
  have HE2 := hide ((unhide HE1).trans E2)
  have HQ2 := hide (E2.kept (unhide HQ1))
  clear E2 HE1 HQ1
  go_wp2_with fail
  refine ((unhide HR) _ (unhide HE2)).mono ?_
  rintro e w3 ⟨v3, rfl, hv3, E3⟩
  have HV3 := hide (hv3.ext E3)
  have HE3 := hide ((unhide HE2).trans E3)
  have HQ3 := hide (E3.kept (unhide HQ2))
  clear E3 HE2 HQ2 hv3
  go_wp2_with fail
  refine (implTextOf_any v3 B w3 (unhide HV3) zB (unhide IB)).mono ?_
  rintro e w4 ⟨rfl, E4⟩
  have HE4 := hide ((unhide HE3).trans E4)
  have HQ4 := hide (E4.kept (unhide HQ3))
  clear E4 HE3 HQ3
  go_wp2_with (first
    | (refine wpList_store_blk rfl 49 _ _ rfl rfl (W.heap.size) rfl _ _ _ rfl (unhide HQ4) infoS rfl (by simp [Value.oneCell']) ?_; intro U HB hU; have HB9 := hide HB; have HU9 := hide hU; clear HB hU))
  have v0 := cells_of (unhide HB9) 0 _ rfl
  have v1 := cells_of (unhide HB9) 1 _ rfl
  exact bodyPost_ret (v := .agg #[.string (toBA (textC A)), .string (toBA (textC B))]) (by simp [results, Tryz.results63, go_sem, v0, v1]) rfl ⟨rfl, (unhide HU9).ext (unhide HE4) (fun q hq => by omega)⟩
end Go.Proofs.YtokjpnlmkecleaaGreatDoor

namespace Go.Proofs.YtokjpnlmkecleaaGreatDoor
open Go.RowKit

/-- What takes a change back: the texts lie in a box. -/
def bkF (q : Nat) : Value := .func (.func 86) #[] #[.pointer (some ⟨q, 0, none⟩)]
def SnapBox (W : World) (q : Nat) (s : ByteArray × ByteArray) : Prop := W.heap[q]? = some (.cells #[.string s.1, .string s.2] 49 (0, 0))
theorem infoBack : (Tryz.prog.info? 105).map (fun i => (i.zero, i.size, i.bytes)) = some (some .nilFunc, 1, 8) := by kernel_rfl
theorem Fr.off {P : Nat} {S : Nat → Prop} {W0 W w' : World} (h : Fr (fun q => q = P) W0 W) (k : Fr S W w') (hS : ∀ x, S x → x = P ∨ W0.heap.size ≤ x) : Fr (fun q => q = P) W0 w' := by
  refine ⟨k.os.trans h.os, k.tape.trans h.tape, k.output.trans h.output, Nat.le_trans h.size k.size, fun i hi hn => (k.block i (Nat.lt_of_lt_of_le hi h.size) (fun e => ?_)).trans (h.block i hi hn)⟩
  rcases hS i e with e | e
  · exact hn e
  · omega
theorem ed_off {W : World} {P base n : Nat} {cs : Array Value} {u : Value} {xs : List Value} (hP : W.heap[P]? = some (.cells cs 99 (0, 0))) (hO : W.ownsRow base 105 1 u n xs) : ¬ u.ownBlock = some P := by
  intro e
  rcases hO.2 with ⟨rfl, _⟩ | ⟨g, cap, cur, rfl, hb, hg, _⟩
  · simp [Value.ownBlock] at e
  · simp [Value.ownBlock] at e
    subst e
    rw [hP] at hg
    simp at hg
theorem SnapBox.fr {W w' : World} {q : Nat} {s : ByteArray × ByteArray} {S : Nat → Prop} (h : SnapBox W q s) (f : Fr S W w') (hq : ¬ S q) : SnapBox w' q s := f.kept h hq
theorem SnapBox.off {W : World} {q : Nat} {s : ByteArray × ByteArray} (h : SnapBox W q s) {P base n : Nat} {cs : Array Value} {u : Value} {xs : List Value} (hP : W.heap[P]? = some (.cells cs 99 (0, 0))) (hO : W.ownsRow base 105 1 u n xs) : ¬ (q = P ∨ u.ownBlock = some q) := by
  rintro (e | e)
  · subst e
    unfold SnapBox at h
    rw [h] at hP
    simp at hP
  · rcases hO.2 with ⟨rfl, _⟩ | ⟨g, cap, cur, rfl, hb, hg, _⟩
    · simp [Value.ownBlock] at e
    · simp [Value.ownBlock] at e
      subst e
      unfold SnapBox at h
      rw [h] at hg
      simp at hg
theorem owns_sl {w : World} {b : Nat} {T : TypeId} {sz : Nat} {v : Value} {n : Nat} {xs : List Value} (h : w.ownsRow b T sz v n xs) : ∃ a c, v = .slice a n c := by
  rcases h.2 with ⟨rfl, h0⟩ | ⟨g, c, _, rfl, _⟩
  · exact ⟨none, 0, by rw [h0]⟩
  · exact ⟨_, c, rfl⟩
set_option maxRecDepth 10000 in
set_option maxHeartbeats 4000000 in
theorem back_any (q : Nat) (s : ByteArray × ByteArray) (W : World) (h : SnapBox W q s) : Calls Tryz.prog 86 #[.pointer (some ⟨q, 0, none⟩)] W fun e w' => e = .returned (.agg #[.string s.1, .string s.2]) ∧ Ext W w' := by
  have c0 := cells_of h 0 _ rfl
  have c1 := cells_of h 1 _ rfl
  have hlt : q < W.heap.size := (Array.getElem?_eq_some_iff.1 h).1
  have E0 : Ext W (W.alloc (.cells #[.string { data := #[] }, .string { data := #[] }] 49)) := (Ext.refl W).alloc _
  have infoS : (Tryz.prog.info? 49).map (·.size) = some 2 := by kernel_rfl
  have HA := hide (E0.kept h)
  have HN := hide (heap_alloc_new W (.cells #[.string { data := #[] }, .string { data := #[] }] 49))
  clear h
  go_enter Tryz.func86, Tryz.ntmps86
  go_wp2_with (first
    | (refine wpList_load_blk rfl 49 _ rfl q rfl _ _ _ _ (unhide HA) Tryz.underlying49 rfl infoS ?_)
    | (refine wpList_store_blk rfl 49 _ _ rfl rfl (W.heap.size) rfl _ _ _ rfl (unhide HN) infoS rfl (by simp [Value.oneCell']) ?_; intro U HB hU; have HB9 := hide HB; have HU9 := hide hU; clear HB hU))
  have v0 := cells_of (unhide HB9) 0 _ rfl
  have v1 := cells_of (unhide HB9) 1 _ rfl
  exact bodyPost_ret (v := .agg #[.string s.1, .string s.2]) (by simp [results, Tryz.results86, go_sem, v0, v1]) rfl ⟨rfl, (unhide HU9).ext E0 (fun q hq => by omega)⟩
set_option maxRecDepth 10000 in
set_option maxHeartbeats 8000000 in
theorem push_any (P : Nat) (cl : List Value) (f0 b0 : Int) (k : ByteArray) (u : Value) (qs : List Nat) (base : Nat) (a b : ByteArray) (W : World) (hP : W.heap[P]? = some (.cells (edC cl f0 b0 k u) 99 (0, 0))) (hl : cl.length = 600) (hO : W.ownsRow base 105 1 u qs.length (qs.map bkF)) (hb : base ≤ W.heap.size) (hn : qs.length ≤ 50) :
    Calls Tryz.prog 61 #[.pointer (some ⟨P, 0, none⟩), .agg #[.string a, .string b]] W fun e w' => ∃ u' q, e = .returned (.tuple #[]) ∧ w'.heap[P]? = some (.cells (edC cl f0 b0 k u') 99 (0, 0)) ∧ w'.ownsRow base 105 1 u' (qs ++ [q]).length ((qs ++ [q]).map bkF) ∧ SnapBox w' q (a, b) ∧ Fr (fun x => x = P ∨ u.ownBlock = some x) W w' := by
  obtain ⟨ic, hic, hc0, hc1, hc2⟩ := info_parts infoBack
  have hPl : P < W.heap.size := (Array.getElem?_eq_some_iff.1 hP).1
  have c603 := (edG_cells hP hl).2.2.2.1
  have hmf : ∀ (fn : Fn) (first cap : Array Value) (w : World), (Instr.makeFunc fn first cap).run Tryz.prog w = .ok (.func fn first cap) w := fun _ _ _ _ => rfl
  have hoff := ed_off hP hO
  have HP := hide hP
  have HO := hide hO
  have hne : ¬ W.heap.size = P := by omega
  have hsr := Src.made (w := W.alloc (.cells #[.string a, .string b] 49)) (size := 1) [bkF W.heap.size] 1 105 rfl (by simp [Value.oneCell', bkF])
  rw [show (W.alloc (.cells #[.string a, .string b] 49)).heap.size = W.heap.size + 1 by simp] at hsr
  have HSR := hide hsr
  clear hP hO hsr
  go_enter Tryz.func61, Tryz.ntmps61
  go_wp2_with (at_builtin; go_loud (
     refine wpList_app rfl _ _ 97 rfl base 105 ic .nilFunc 1 8 Tryz.underlying97 hic hc0 hc1 hc2 rfl (by decide) u qs.length (qs.map bkF) rfl (((unhide HO).alloc _).alloc _) _ 1 [bkF W.heap.size] rfl (unhide HSR) (by unfold maxLen; omega) (by omega) (by simp; omega) ?_
     intro v5 w5 o5 G5 _
     obtain ⟨a5, z5, rfl⟩ := owns_sl o5
     have X5 : Ext W ((W.alloc (.cells #[.string a, .string b] 49)).alloc (.cells #[bkF W.heap.size] 105)) := ((Ext.refl W).alloc _).alloc _
     have F5 : Fr (fun x => u.ownBlock = some x) W w5 := Fr.grown (Fr.of_ext X5) G5 (fun x hx => hx)
     have p5 := F5.kept (unhide HP) hoff
     have s5 : SnapBox w5 W.heap.size (a, b) := Fr.kept (S := fun x => u.ownBlock = some x) (Fr.grown (Fr.refl _ _) G5 (fun x hx => hx)) (((Ext.refl _).alloc _).kept (heap_alloc_new W _)) (fun e => by have := ((unhide HO).lt _ e).2; omega)
     have k5 := (edG_cells p5 hl).2.2.2.1
     have g5 := (edG_cells p5 hl).2.2.2.2.2.2
     have HO5 := hide o5
     have HP5 := hide p5
     have HS5 := hide s5
     have HF5 := hide F5
     clear o5 G5 X5 p5 s5 F5))
  have p6 := heap_setCell_same w5 P 603 _ _ (.slice a5 (qs.length + 1) z5) (unhide HP5)
  have e6 : (edC cl f0 b0 k u).setIfInBounds 603 (.slice a5 (qs.length + 1) z5) = edC cl f0 b0 k (.slice a5 (qs.length + 1) z5) := by unfold edC; simp [hl]
  rw [e6] at p6
  have F6 : Fr (fun x => x = P) w5 (w5.setCell ⟨P, 603, none⟩ (.slice a5 (qs.length + 1) z5)) := Fr.setCell (S := fun q => q = P) (Fr.refl _ w5) (a := ⟨P, 603, none⟩) rfl _
  have eL : qs.map bkF ++ [bkF W.heap.size] = (qs ++ [W.heap.size]).map bkF := by simp
  have eN : qs.length + 1 = (qs ++ [W.heap.size]).length := by simp
  have o6 := F6.owns (unhide HO5) (fun g hg e => ed_off (unhide HP5) (unhide HO5) (by rw [hg, e]))
  rw [eL] at o6
  exact bodyPost_end (v := .tuple #[]) (by simp [results, Tryz.results61, go_sem]) rfl ⟨_, W.heap.size, rfl, p6, by rw [← eN]; exact o6, (unhide HS5).fr F6 (fun e => hne e), ((unhide HF5).mono (fun x hx => .inr hx)).tr (F6.mono (fun x hx => .inl hx))⟩
end Go.Proofs.YtokjpnlmkecleaaGreatDoor

namespace Go.Proofs.YtokjpnlmkecleaaGreatDoor
open Go.RowKit

set_option maxRecDepth 10000 in
set_option maxHeartbeats 8000000 in
/-- A text put in the place of all that is there. -/
theorem gapLoad_any (P : Nat) (cl : List Value) (f0 b0 : Int) (k : ByteArray) (u : Value) (W : World) (hP : W.heap[P]? = some (.cells (edC cl f0 b0 k u) 99 (0, 0))) (hl : cl.length = 600) (h1 : ∀ v ∈ cl, v.oneCell' = true) (L R : List Int) (hL : Bytes L) (hR : Bytes R) (zL : L.length ≤ 8000000) (zR : R.length ≤ 8000000) (hfit : (cutC L).length + (cutC R).length ≤ 300)
    (hT : ∀ W', Fr (fun q => q = P) W W' → Laid W') :
    Calls Tryz.prog 60 #[.pointer (some ⟨P, 0, none⟩), .agg #[.string (toBA L), .string (toBA R)]] W fun e w' => ∃ cl' rl rr, e = .returned (.tuple #[]) ∧ w'.heap[P]? = some (.cells (edC cl' ((cutC L).length : Int) ((300 - (cutC R).length : Nat) : Int) k u) 99 (0, 0)) ∧ GapIn P w' cl' rl rr (cutC L) (cutC R) ∧ Fr (fun q => q = P) W w' := by
  have hPl : P < W.heap.size := (Array.getElem?_eq_some_iff.1 hP).1
  obtain ⟨c0, c1, -, -, g0, g1, -⟩ := edG_cells hP hl
  have p1 := heap_setCell_same W P 600 _ _ (.int .i64 0) hP
  rw [edC_front hl] at p1
  have c1' := (edG_cells p1 hl).2.1
  have p2 := heap_setCell_same _ P 601 _ _ (.int .i64 300) p1
  rw [edC_behind hl] at p2
  have F2 : Fr (fun q => q = P) W ((W.setCell ⟨P, 600, none⟩ (.int .i64 0)).setCell ⟨P, 601, none⟩ (.int .i64 300)) := Fr.setCell (S := fun q => q = P) (Fr.setCell (S := fun q => q = P) (Fr.refl _ W) (a := ⟨P, 600, none⟩) rfl _) (a := ⟨P, 601, none⟩) rfl _
  have zz : ((W.setCell ⟨P, 600, none⟩ (.int .i64 0)).setCell ⟨P, 601, none⟩ (.int .i64 300)).heap.size = W.heap.size := by simp [World.setCell]
  obtain ⟨U, hU⟩ : ∃ U, U = (((W.setCell ⟨P, 600, none⟩ (.int .i64 0)).setCell ⟨P, 601, none⟩ (.int .i64 300)).alloc (.cells #[.string (toBA L), .string (toBA R)] 49)) := ⟨_, rfl⟩
  have E0 : Ext ((W.setCell ⟨P, 600, none⟩ (.int .i64 0)).setCell ⟨P, 601, none⟩ (.int .i64 300)) U := by rw [hU]; exact (Ext.refl _).alloc _
  have FW2 : Fr (fun q => q = P) W U := F2.tr (Fr.of_ext E0)
  have q2 : U.heap[W.heap.size]? = some (.cells #[.string (toBA L), .string (toBA R)] 49 (0, 0)) := by
    have := heap_alloc_new ((W.setCell ⟨P, 600, none⟩ (.int .i64 0)).setCell ⟨P, 601, none⟩ (.int .i64 300)) (.cells #[.string (toBA L), .string (toBA R)] 49)
    rw [zz, ← hU] at this
    exact this
  have p3 := E0.kept p2
  have s2 := cells_of q2 1 _ rfl
  have hG2 : GapIn P U cl [] [] [] [] := ⟨hl, by simp, rfl, rfl, fun j hj => absurd hj (Nat.not_lt_zero _), fun j hj => absurd hj (Nat.not_lt_zero _), fun j hj => absurd hj (Nat.not_lt_zero _), fun j hj => absurd hj (Nat.not_lt_zero _), h1⟩
  have sz2 : P < U.heap.size := (Array.getElem?_eq_some_iff.1 p3).1
  have HP2 := hide p3
  have HF2 := hide FW2
  have HQ2 := hide q2
  have HG2 := hide hG2
  have HT := hide hT
  clear hP p1 p2 p3 q2 F2 FW2 hG2 hT E0 zz
  subst hU
  go_enter Tryz.func60, Tryz.ntmps60
  go_wp2_with fail
  refine (clustersOf_any R hR _ zR ((unhide HT) _ (unhide HF2))).mono ?_
  rintro e w3 ⟨v3, rs3, rfl, o3, E3⟩
  obtain ⟨ao, cap, rfl, hrs, hrr, hone, hx⟩ := o3.gap sz2
  have HF3 := hide ((unhide HF2).tr (Fr.of_ext E3))
  have HQ3 := hide (E3.kept (unhide HQ2))
  have HI := hide (insert_any P cl [] [] [] [] (cutC R) 300 rfl k u _ rs3 w3 (E3.kept (unhide HP2)) ((unhide HG2).fr (Fr.of_ext E3)) hrs (by simp; omega) hrr hone ao cap rfl hx)
  have HRS := hide hrs
  clear o3 hrr hone hx hrs HP2 HF2 HQ2 HG2
  go_wp2_with fail
  refine (unhide HI).mono ?_
  rintro e w4 ⟨cl4, rfl, p4, G4, F4⟩
  rw [List.nil_append, List.nil_append] at G4
  rw [List.nil_append] at p4
  have c4 := (edG_cells p4 G4.len).1
  have HF4 := hide ((unhide HF3).tr F4)
  have HQ4 := hide (F4.kept (unhide HQ3) (by show ¬ W.heap.size = P; omega))
  have HL := hide (goLeft_any P cl4 [] rs3 [] [] (cutC R) [] 300 (cutC R).length (cutC R).length rfl (by simp) rfl k u w4 p4 G4 rfl (unhide HRS))
  clear p4 G4 F4 HF3 HQ3 HI HRS
  go_wp2_with fail
  refine (unhide HL).mono ?_
  rintro e w5 ⟨cl5, rfl, p5, G5, F5⟩
  rw [List.append_nil, List.append_nil] at G5
  rw [List.append_nil] at p5
  have HF5 := hide ((unhide HF4).tr F5)
  have q5 := F5.kept (unhide HQ4) (by show ¬ W.heap.size = P; omega)
  have s5 := cells_of q5 0 _ rfl
  have sz5 : P < w5.heap.size := (Array.getElem?_eq_some_iff.1 p5).1
  have HP5 := hide p5
  have HG5 := hide G5
  clear p5 G5 F5 q5 HF4 HQ4 HL
  go_wp2_with fail
  refine (clustersOf_any L hL _ zL ((unhide HT) _ (unhide HF5))).mono ?_
  rintro e w6 ⟨v6, rs6, rfl, o6, E6⟩
  obtain ⟨ao6, cap6, rfl, hrs, hrr, hone, hx⟩ := o6.gap sz5
  have HF6 := hide ((unhide HF5).tr (Fr.of_ext E6))
  have HI := hide (insert_any P cl5 [] rs3 [] (cutC R) (cutC L) (300 - (cutC R).length) rfl k u _ rs6 w6 (E6.kept (unhide HP5)) ((unhide HG5).fr (Fr.of_ext E6)) hrs (by simp; omega) hrr hone ao6 cap6 rfl hx)
  clear o6 hrr hone hx hrs HP5 HF5 HG5
  go_wp2_with fail
  refine (unhide HI).mono ?_
  rintro e w7 ⟨cl7, rfl, p7, G7, F7⟩
  rw [List.nil_append, List.nil_append] at G7
  rw [List.nil_append] at p7
  have HP7 := hide p7
  have HG7 := hide G7
  have HF7 := hide ((unhide HF6).tr F7)
  clear p7 G7 F7 HI HF6
  go_wp2
  exact bodyPost_end (v := .tuple #[]) (by simp [results, Tryz.results60, go_sem]) rfl ⟨_, _, _, rfl, unhide HP7, unhide HG7, unhide HF7⟩
end Go.Proofs.YtokjpnlmkecleaaGreatDoor

namespace Go.Proofs.YtokjpnlmkecleaaGreatDoor
open Go.RowKit

/-- The closures' row, to be read. -/
def BackAt (W : World) (u : Value) (un : List (ByteArray × ByteArray)) : Prop := ∃ qs : List Nat, qs.length = un.length ∧ Row1At W u un.length (fun j => bkF (qs[j]?.getD 0)) ∧ ∀ (j q : Nat) (s : ByteArray × ByteArray), qs[j]? = some q → un[j]? = some s → SnapBox W q s
/-- It reads so whatever is written into the editor's block. -/
def BackS (P : Nat) (W : World) (u : Value) (un : List (ByteArray × ByteArray)) : Prop := ∀ W', Fr (fun q => q = P) W W' → BackAt W' u un
/-- The closures' row, the call's own. -/
def BackOwn (W : World) (base : Nat) (u : Value) (qs : List Nat) (un : List (ByteArray × ByteArray)) : Prop := qs.length = un.length ∧ W.ownsRow base 105 1 u qs.length (qs.map bkF) ∧ ∀ (j q : Nat) (s : ByteArray × ByteArray), qs[j]? = some q → un[j]? = some s → SnapBox W q s
theorem edC_undo {cl : List Value} {fr bh : Int} {k : ByteArray} {u u' : Value} (h : cl.length = 600) : (edC cl fr bh k u).setIfInBounds 603 u' = edC cl fr bh k u' := by
  unfold edC
  simp [h]
theorem BackOwn.push {W w' : World} {base P q : Nat} {u u' : Value} {qs : List Nat} {un : List (ByteArray × ByteArray)} {s : ByteArray × ByteArray} {cs : Array Value} (h : BackOwn W base u qs un) (hP : W.heap[P]? = some (.cells cs 99 (0, 0))) (f : Fr (fun x => x = P ∨ u.ownBlock = some x) W w') (o : w'.ownsRow base 105 1 u' (qs ++ [q]).length ((qs ++ [q]).map bkF)) (b : SnapBox w' q s) : BackOwn w' base u' (qs ++ [q]) (un ++ [s]) := by
  obtain ⟨h1, h2, h3⟩ := h
  refine ⟨by simp [h1], o, fun j q' s' hq hs => ?_⟩
  by_cases e : j < qs.length
  · rw [List.getElem?_append_left e] at hq
    rw [List.getElem?_append_left (by omega)] at hs
    have hb := h3 j q' s' hq hs
    exact hb.fr f (hb.off hP h2)
  · have hj : j = qs.length := by have := (List.getElem?_eq_some_iff.1 hq).1; simp at this; omega
    subst hj
    rw [List.getElem?_append_right (Nat.le_refl _)] at hq
    rw [h1, List.getElem?_append_right (Nat.le_refl _)] at hs
    simp at hq hs
    subst hq
    subst hs
    exact b
theorem BackOwn.read {W : World} {base : Nat} {u : Value} {qs : List Nat} {un : List (ByteArray × ByteArray)} (h : BackOwn W base u qs un) : BackAt W u un := by
  obtain ⟨h1, h2, h3⟩ := h
  refine ⟨qs, h1, ?_, h3⟩
  rcases h2.2 with ⟨e, e0⟩ | ⟨g, cap, cur, e, hb, hg, hn, _⟩
  · exact ⟨none, 0, by rw [e, ← h1, e0], by omega, fun hp => by omega⟩
  · refine ⟨_, cap, by rw [e, ← h1], by omega, fun _ => ⟨g, 0, rfl, fun j hj => ?_⟩⟩
    rw [e] at h2
    have := h2.cellAt j (by omega)
    rw [Nat.zero_add, this]
    simp [List.getElem?_eq_getElem (show j < qs.length by omega)]
theorem BackOwn.drop {W : World} {base g cap : Nat} {qs : List Nat} {un : List (ByteArray × ByteArray)} (h : BackOwn W base (.slice (some ⟨g, 0, none⟩) qs.length cap) qs un) (h0 : 0 < qs.length) (hc : qs.length ≤ cap) : BackAt W (.slice (some ⟨g, 1, none⟩) (qs.length - 1) (cap - 1)) (un.drop 1) := by
  obtain ⟨h1, h2, h3⟩ := h
  refine ⟨qs.drop 1, by simp [h1], ⟨_, cap - 1, by rw [List.length_drop, h1], by rw [List.length_drop]; omega, fun _ => ⟨g, 1, rfl, fun j hj => ?_⟩⟩, fun j q s hq hs => ?_⟩
  · rw [List.length_drop] at hj
    have := h2.cellAt (1 + j) (by omega)
    rw [this, Nat.add_comm 1 j]
    simp [List.getElem?_eq_getElem (show j + 1 < qs.length by omega)]
  · rw [List.getElem?_drop] at hq hs
    exact h3 _ q s hq hs
theorem BackOwn.ed {W w' : World} {base P : Nat} {u : Value} {qs : List Nat} {un : List (ByteArray × ByteArray)} {cs : Array Value} (h : BackOwn W base u qs un) (hP : W.heap[P]? = some (.cells cs 99 (0, 0))) (f : Fr (fun x => x = P) W w') : BackOwn w' base u qs un :=
  ⟨h.1, f.owns h.2.1 (fun g hg e => ed_off hP h.2.1 (by rw [hg, e])), fun j q s a b => (h.2.2 j q s a b).fr f (fun e => (h.2.2 j q s a b).off hP h.2.1 (.inl e))⟩
set_option maxRecDepth 10000 in
set_option maxHeartbeats 8000000 in
theorem change_any (P : Nat) (cl rl rr : List Value) (A B : List (List Int × Int)) (bh : Nat) (hbh : bh = 300 - B.length) (k : ByteArray) (u : Value) (qs : List Nat) (un : List (ByteArray × ByteArray)) (base : Nat) (W : World) (hP : W.heap[P]? = some (.cells (edC cl (A.length : Int) (bh : Int) k u) 99 (0, 0))) (hG : GapIn P W cl rl rr A B) (zA : A.length + sumR A A.length ≤ 16777216) (zB : B.length + sumR B B.length ≤ 16777216) (iA : ∀ j, j < A.length → I32s (cR A j)) (iB : ∀ j, j < B.length → I32s (cR B j)) (hU : BackOwn W base u qs un) (hb : base ≤ W.heap.size) (hn : un.length ≤ 50) :
    Calls Tryz.prog 119 #[.pointer (some ⟨P, 0, none⟩)] W fun e w' => ∃ u', e = .returned (.tuple #[]) ∧ w'.heap[P]? = some (.cells (edC cl (A.length : Int) (bh : Int) k u') 99 (0, 0)) ∧ BackS P w' u' (undoN un (toBA (textC A), toBA (textC B))) ∧ Fr (fun x => x = P ∨ u.ownBlock = some x) W w' := by
  have hl := hG.len
  have HS := hide (gapSnap_any P cl rl rr A B bh hbh k u W hP hG zA zB iA iB)
  have HH := hide (fun w (E : Ext W w) => push_any P cl (A.length : Int) (bh : Int) k u qs base (toBA (textC A)) (toBA (textC B)) w (E.kept hP) hl (E.owns hU.2.1) (Nat.le_trans hb E.size) (by rw [hU.1]; exact hn))
  have HU := hide (fun w (E : Ext W w) => (show BackOwn w base u qs un from ⟨hU.1, E.owns hU.2.1, fun j q s h1 h2 => E.kept (hU.2.2 j q s h1 h2)⟩))
  have HP := hide hP
  have hq := hU.1
  clear hP hG hbh zA zB iA iB hU
  go_enter Tryz.func119, Tryz.ntmps119
  go_wp2_with fail
  refine (unhide HS).mono ?_
  rintro e w1 ⟨rfl, E1⟩
  have HE1 := hide E1
  clear E1 HS
  go_wp2_with fail
  refine ((unhide HH) _ (unhide HE1)).mono ?_
  rintro e w2 ⟨u2, q2, rfl, p2, o2, b2, F2⟩
  have HB := hide (((unhide HU) _ (unhide HE1)).push ((unhide HE1).kept (unhide HP)) F2 o2 b2)
  have HF := hide ((Fr.of_ext (unhide HE1)).tr F2)
  have HP2 := hide p2
  have hql : (qs ++ [q2]).length = un.length + 1 := by simp [hq]
  have k2 := (edG_cells p2 hl).2.2.2.1
  have f2 := (edG_cells p2 hl).2.2.2.2.2.2
  rcases o2.2 with ⟨-, e0⟩ | ⟨g, cap, cur, rfl, -, -, hcap, -⟩
  · simp at e0
  by_cases h50 : un.length = 50
  · have hu : undoN un (toBA (textC A), toBA (textC B)) = (un ++ [(toBA (textC A), toBA (textC B))]).drop 1 := by unfold undoN; rw [if_pos (by omega)]
    have F3 : Fr (fun x => x = P) w2 (w2.setCell ⟨P, 603, none⟩ (.slice (some ⟨g, 1, none⟩) 50 (cap - 1))) := Fr.setCell (S := fun q => q = P) (Fr.refl _ w2) (a := ⟨P, 603, none⟩) rfl _
    have HR := hide (fun w' (f : Fr (fun q => q = P) (w2.setCell ⟨P, 603, none⟩ (.slice (some ⟨g, 1, none⟩) 50 (cap - 1))) w') => ((unhide HB).ed (unhide HP2) (F3.tr f)).drop (by omega) hcap)
    rw [hql, h50, ← hu] at HR
    have p3 := heap_setCell_same w2 P 603 _ _ (.slice (some ⟨g, 1, none⟩) 50 (cap - 1)) (unhide HP2)
    rw [edC_undo hl] at p3
    rw [hql, h50] at k2 hcap
    have HP3 := hide p3
    have HF3 := hide ((unhide HF).tr (F3.mono (fun x hx => .inl hx)))
    have c1 : ¬ cap = 1 := by omega
    have c2 : ¬ cap = 0 := by omega
    have c3 : (1 : Int) ≤ (cap : Int) := by omega
    clear p2 o2 b2 F2 p3 HH HU HE1 HB hu hq hql F3 HP2 HF
    go_wp2
    exact bodyPost_end (v := .tuple #[]) (by simp [results, Tryz.results119, go_sem]) rfl ⟨_, rfl, unhide HP3, unhide HR, unhide HF3⟩
  · have HR := hide (fun w' (f : Fr (fun q => q = P) w2 w') => ((unhide HB).ed (unhide HP2) f).read)
    have hu : undoN un (toBA (textC A), toBA (textC B)) = un ++ [(toBA (textC A), toBA (textC B))] := by unfold undoN; rw [if_neg (by omega)]
    rw [← hu] at HR
    have hlt : ¬ (50 : Int) < ((un.length + 1 : Nat) : Int) := by omega
    clear p2 o2 b2 F2 HH HU HE1 HB hu hq
    rw [hql] at k2 HP2 HR hcap
    have hlt2 : ¬ 50 < un.length + 1 := by omega
    clear hql
    obtain ⟨m, hm⟩ : ∃ m, un.length + 1 = m := ⟨_, rfl⟩
    rw [hm] at k2 HP2 HR hcap hlt hlt2
    go_wp2
    exact bodyPost_end (v := .tuple #[]) (by simp [results, Tryz.results119, go_sem]) rfl ⟨_, rfl, unhide HP2, unhide HR, unhide HF⟩
end Go.Proofs.YtokjpnlmkecleaaGreatDoor
