import Derived.Test.YtopjihagpkempaaDoorGapI
namespace Go.Proofs.YtopjihagpkempaaDoor
open Go.RowKit

theorem clCells_in {rs : List Value} {cs : List (List Int × Int)} {v : Value} : ∀ k, v ∈ clCells rs cs k → ∃ j, j < k ∧ (v = rV rs j ∨ v = .int .i64 (cW cs j))
  | 0, h => by simp [clCells] at h
  | k + 1, h => by
    rw [clCells] at h
    rcases List.mem_append.1 h with h | h
    · obtain ⟨j, hj, e⟩ := clCells_in k h
      exact ⟨j, by omega, e⟩
    · simp at h
      exact ⟨k, by omega, h⟩
/-- Clusters that the call owns, ready to be put in. -/
theorem OwnCls.gap {w : World} {base : Nat} {v : Value} {rs : List Value} {cs : List (List Int × Int)} (h : OwnCls w base v rs cs) {P : Nat} (hP : P < base) :
    ∃ ao cap, v = .slice ao cs.length cap ∧ rs.length = cs.length ∧ (∀ j, j < cs.length → RS P w (rV rs j) (cR cs j)) ∧ (∀ v ∈ clCells rs cs cs.length, v.oneCell' = true) ∧ (0 < cs.length → ∃ b off, ao = some ⟨b, off, none⟩ ∧ ∀ j, j < cs.length → w.cell? ⟨b, off + j * 2, none⟩ = some (rV rs j) ∧ w.cell? ⟨b, off + j * 2 + 1, none⟩ = some (.int .i64 (cW cs j))) := by
  obtain ⟨h0, ⟨ys, h1, h2⟩, h3, _⟩ := h
  have hrs : ∀ j, j < cs.length → RS P w (rV rs j) (cR cs j) := fun j hj W' f => ints_of_owns (f.owns (h3 j hj) (fun g hg e => by have := ((h3 j hj).lt g hg).1; omega))
  have hone : ∀ v ∈ clCells rs cs cs.length, v.oneCell' = true := by
    intro u hu
    obtain ⟨j, hj, e | e⟩ := clCells_in _ hu
    · rcases (h3 j hj).2 with ⟨e2, _⟩ | ⟨g, cap, cur, e2, _⟩ <;> rw [e, e2] <;> rfl
    · rw [e]; rfl
  rcases h1.2 with ⟨rfl, e0⟩ | ⟨g, cap, cur, rfl, hb, hg, hn, hm, hs, ht⟩
  · exact ⟨none, 0, by rw [e0], h0, hrs, hone, fun hp => by omega⟩
  · refine ⟨_, cap, rfl, h0, hrs, hone, fun _ => ⟨g, 0, rfl, fun j hj => ?_⟩⟩
    have := h2 j hj
    rw [Nat.zero_add, h1.cellAt _ (by omega), h1.cellAt _ (by omega)]
    exact this
set_option maxRecDepth 10000 in
set_option maxHeartbeats 2000000 in
theorem gapLeft_any (P : Nat) (cl rl rr : List Value) (A B : List (List Int × Int)) (bh : Int) (k : ByteArray) (u : Value) (W : World) (hP : W.heap[P]? = some (.cells (edC cl (A.length : Int) bh k u) 64 (0, 0))) (hG : GapIn P W cl rl rr A B) :
    Calls Tryd.prog 47 #[.pointer (some ⟨P, 0, none⟩)] W fun e w' => e = .returned (.slice (some ⟨P, 0, none⟩) A.length 300) ∧ Ext W w' := by
  have hl := hG.len
  have hf := hG.fit
  obtain ⟨k600, -, -, -, -, -, -⟩ := edG_cells hP hl
  obtain ⟨n, hn⟩ : ∃ n, A.length = n := ⟨_, rfl⟩
  rw [hn] at k600 hf ⊢
  have b1 : (n : Int) ≤ 300 := by omega
  clear hP hG hn
  go_enter Tryd.func47, Tryd.ntmps47
  go_wp2
  go_region_law (first | fail)
  all_goals
    go_wp2
    exact bodyPost_ret (v := .slice (some ⟨P, 0, none⟩) n 300) (by simp [results, Tryd.results47, go_sem]) rfl ⟨rfl, (Ext.refl W).drew⟩
set_option maxRecDepth 10000 in
set_option maxHeartbeats 2000000 in
theorem gapRight_any (P : Nat) (cl rl rr : List Value) (A B : List (List Int × Int)) (fr : Int) (bh : Nat) (hbh : bh = 300 - B.length) (k : ByteArray) (u : Value) (W : World) (hP : W.heap[P]? = some (.cells (edC cl fr (bh : Int) k u) 64 (0, 0))) (hG : GapIn P W cl rl rr A B) :
    Calls Tryd.prog 48 #[.pointer (some ⟨P, 0, none⟩)] W fun e w' => ∃ v, e = .returned v ∧ ClsAt W v B ∧ Ext W w' := by
  have hl := hG.len
  have hf := hG.fit
  obtain ⟨-, k601, -, -, -, -, -⟩ := edG_cells hP hl
  have b1 : (bh : Int) ≤ 300 := by omega
  by_cases h0 : 300 = bh
  · have hB : B = [] := List.eq_nil_of_length_eq_zero (by omega)
    have HV : Hid (∀ ao c, ClsAt W (.slice ao 0 c) B) := fun ao c => by
      subst hB
      exact ⟨[], ao, c, rfl, Nat.zero_le _, fun j hj => absurd hj (Nat.not_lt_zero _), fun h => absurd h (Nat.not_lt_zero _)⟩
    clear hP hG hbh hf hB
    subst h0
    go_enter Tryd.func48, Tryd.ntmps48
    go_wp2
    go_region_law (first | fail)
    all_goals
      go_wp2
      exact bodyPost_ret (v := .slice (some ⟨P, 0, none⟩) 0 0) (by simp [results, Tryd.results48, go_sem]) rfl ⟨_, rfl, (unhide HV) _ _, (Ext.refl W).drew⟩
  · have hv := hG.right hP B.length (Nat.le_refl _)
    rw [← hbh] at hv
    rw [show B.length = 300 - bh by omega] at hv
    have HV := hide hv
    clear hP hG hbh hf hv
    go_enter Tryd.func48, Tryd.ntmps48
    go_wp2
    go_region_law (first | fail)
    all_goals
      go_wp2
      exact bodyPost_ret (by simp [results, Tryd.results48, go_sem]) rfl ⟨_, rfl, unhide HV, (Ext.refl W).drew⟩
end Go.Proofs.YtopjihagpkempaaDoor

namespace Go.Proofs.YtopjihagpkempaaDoor
open Go.RowKit

set_option maxRecDepth 10000 in
set_option maxHeartbeats 8000000 in
/-- The texts in front of the cursor and behind it. -/
theorem gapSnap_any (P : Nat) (cl rl rr : List Value) (A B : List (List Int × Int)) (bh : Nat) (hbh : bh = 300 - B.length) (k : ByteArray) (u : Value) (W : World) (hP : W.heap[P]? = some (.cells (edC cl (A.length : Int) (bh : Int) k u) 64 (0, 0))) (hG : GapIn P W cl rl rr A B) (zA : A.length + sumR A A.length ≤ 16777216) (zB : B.length + sumR B B.length ≤ 16777216) (iA : ∀ j, j < A.length → I32s (cR A j)) (iB : ∀ j, j < B.length → I32s (cR B j)) :
    Calls Tryd.prog 34 #[.pointer (some ⟨P, 0, none⟩)] W fun e w' => e = .returned (.agg #[.string (toBA (textC A)), .string (toBA (textC B))]) ∧ Ext W w' := by
  have infoS : (Tryd.prog.info? 51).map (·.size) = some 2 := by kernel_rfl
  have hf := hG.fit
  have HL := hide (fun U (hU : Ext W U) => gapLeft_any P cl rl rr A B bh k u U (hU.kept hP) (hG.fr (Fr.of_ext hU)))
  have HV := hide (fun U (hU : Ext W U) => (hG.fr (Fr.of_ext hU)).left (hU.kept hP) 300 (by omega))
  have HR := hide (fun U (hU : Ext W U) => gapRight_any P cl rl rr A B A.length bh hbh k u U (hU.kept hP) (hG.fr (Fr.of_ext hU)))
  have IA := hide iA
  have IB := hide iB
  obtain ⟨W0, hW0⟩ : ∃ W0, W0 = W.alloc (.cells #[.string { data := #[] }, .string { data := #[] }] 51) := ⟨_, rfl⟩
  have E0 : Ext W W0 := by rw [hW0]; exact (Ext.refl W).alloc _
  have q0 : W0.heap[W.heap.size]? = some (.cells #[.string { data := #[] }, .string { data := #[] }] 51 (0, 0)) := by rw [hW0]; exact heap_alloc_new W _
  have HE0 := hide E0
  have HQ0 := hide q0
  clear hP hG hbh iA iB E0 q0 hf
  subst hW0
  go_enter Tryd.func34, Tryd.ntmps34
  go_wp2_with fail
  refine ((unhide HL) _ (unhide HE0)).mono ?_
  rintro e w1 ⟨rfl, E1⟩
  have HE1 := hide ((unhide HE0).trans E1)
  have HQ1 := hide (E1.kept (unhide HQ0))
  clear E1 HE0 HQ0
  go_wp2_with fail
  refine (implTextOf_any _ A w1 ((unhide HV) _ (unhide HE1)) zA (unhide IA)).mono ?_
  rintro e w2 ⟨rfl, E2⟩
  have HE2 := hide ((unhide HE1).trans E2)
  have HQ2 := hide (E2.kept (unhide HQ1))
  clear E2 HE1 HQ1
  go_wp2_with fail
  refine ((unhide HR) _ (unhide HE2)).mono ?_
  rintro e w3 ⟨v3, rfl, hv3, E3⟩
  have HV3 := hide (hv3.ext E3)
  have HE3 := hide ((unhide HE2).trans E3)
  have HQ3 := hide (E3.kept (unhide HQ2))
  clear E3 HE2 HQ2 hv3
  go_wp2_with fail
  refine (implTextOf_any v3 B w3 (unhide HV3) zB (unhide IB)).mono ?_
  rintro e w4 ⟨rfl, E4⟩
  have HE4 := hide ((unhide HE3).trans E4)
  have HQ4 := hide (E4.kept (unhide HQ3))
  clear E4 HE3 HQ3
  go_wp2_with (first
    | (refine wpList_store_blk rfl 51 _ _ rfl rfl (W.heap.size) rfl _ _ _ rfl (unhide HQ4) infoS rfl (by simp [Value.oneCell']) ?_; intro U HB hU; have HB9 := hide HB; have HU9 := hide hU; clear HB hU))
  have v0 := cells_of (unhide HB9) 0 _ rfl
  have v1 := cells_of (unhide HB9) 1 _ rfl
  exact bodyPost_ret (v := .agg #[.string (toBA (textC A)), .string (toBA (textC B))]) (by simp [results, Tryd.results34, go_sem, v0, v1]) rfl ⟨rfl, (unhide HU9).ext (unhide HE4) (fun q hq => by omega)⟩
end Go.Proofs.YtopjihagpkempaaDoor
