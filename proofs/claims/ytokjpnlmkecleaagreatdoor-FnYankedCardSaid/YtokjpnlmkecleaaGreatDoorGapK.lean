import Derived.Test.YtokjpnlmkecleaaGreatDoorGap
import Derived.Test.YtokjpnlmkecleaaGreatDoorGapL
import Derived.Test.YtokjpnlmkecleaaGreatDoorGapI
namespace Go.Proofs.YtokjpnlmkecleaaGreatDoor
open Go.RowKit
theorem cR_appL {xs ys : List (List Int × Int)} {j : Nat} (h : j < xs.length) : cR (xs ++ ys) j = cR xs j ∧ cW (xs ++ ys) j = cW xs j := by
  simp [cR, cW, List.getElem?_append_left h]
theorem cR_appR (xs ys : List (List Int × Int)) (j : Nat) : cR (xs ++ ys) (xs.length + j) = cR ys j ∧ cW (xs ++ ys) (xs.length + j) = cW ys j := by
  simp [cR, cW, List.getElem?_append_right]
theorem rV_appL {xs ys : List Value} {j : Nat} (h : j < xs.length) : rV (xs ++ ys) j = rV xs j := by
  simp [rV, List.getElem?_append_left h]
theorem rV_appR (xs ys : List Value) (j : Nat) : rV (xs ++ ys) (xs.length + j) = rV ys j := by
  simp [rV, List.getElem?_append_right]
theorem GapIn.takeL {P : Nat} {W : World} {cl r1 r2 rr : List Value} {A1 A2 B : List (List Int × Int)} (h : GapIn P W cl (r1 ++ r2) rr (A1 ++ A2) B) (h1 : r1.length = A1.length) : GapIn P W cl r1 rr A1 B := by
  have hf := h.fit
  rw [List.length_append] at hf
  refine ⟨h.len, by omega, h1, h.nb, fun j hj => ?_, h.lb, fun j hj => ?_, h.rb, h.one⟩
  · have := h.la j (by rw [List.length_append]; omega)
    rwa [rV_appL (by omega), (cR_appL hj).2] at this
  · have := h.ra j (by rw [List.length_append]; omega)
    rwa [rV_appL (by omega), (cR_appL hj).1] at this
theorem GapIn.takeR {P : Nat} {W : World} {cl rl r1 r2 : List Value} {A B1 B2 : List (List Int × Int)} (h : GapIn P W cl rl (r1 ++ r2) A (B1 ++ B2)) (h1 : r1.length = B1.length) : GapIn P W cl rl r2 A B2 := by
  have hf := h.fit
  have hb := h.nb
  rw [List.length_append] at hf
  rw [List.length_append, List.length_append] at hb
  refine ⟨h.len, by omega, h.na, by omega, h.la, fun j hj => ?_, h.ra, fun j hj => ?_, h.one⟩
  · have := h.lb (B1.length + j) (by rw [List.length_append]; omega)
    rw [← h1, rV_appR, h1, (cR_appR B1 B2 j).2, List.length_append] at this
    rwa [show 300 - (B1.length + B2.length) + (B1.length + j) = 300 - B2.length + j by omega] at this
  · have := h.rb (B1.length + j) (by rw [List.length_append]; omega)
    rwa [← h1, rV_appR, h1, (cR_appR B1 B2 j).1] at this
theorem GapIn.tookL {P : Nat} {W : World} {cl r1 r2 rr : List Value} {A1 A2 B : List (List Int × Int)} {fr bh : Int} {k : ByteArray} {u : Value} {T : TypeId} (h : GapIn P W cl (r1 ++ r2) rr (A1 ++ A2) B) (h1 : r1.length = A1.length) (hP : W.heap[P]? = some (.cells (edC cl fr bh k u) T (0, 0))) (c : Nat) (hc : A2.length ≤ c) : ClsAt W (.slice (some ⟨P, A1.length * 2, none⟩) A2.length c) A2 := by
  have hl := h.len
  have hf := h.fit
  rw [List.length_append] at hf
  refine ⟨r2, _, c, rfl, hc, fun j hj => ?_, fun _ => ⟨P, A1.length * 2, rfl, fun j hj => ?_⟩⟩
  · have := (h.ra (A1.length + j) (by rw [List.length_append]; omega)).now
    rwa [← h1, rV_appR, h1, (cR_appR A1 A2 j).1] at this
  · have h2 := h.la (A1.length + j) (by rw [List.length_append]; omega)
    rw [← h1, rV_appR, h1, (cR_appR A1 A2 j).2] at h2
    rw [cell_of_row W P _ _ _ _ hP, cell_of_row W P _ _ _ _ hP, ← Nat.add_mul, edC_cl hl _ (by omega), edC_cl hl _ (by omega)]
    exact h2
end Go.Proofs.YtokjpnlmkecleaaGreatDoor

namespace Go.Proofs.YtokjpnlmkecleaaGreatDoor
open Go.RowKit
theorem GapIn.goRight {P : Nat} {W : World} {cl rl r1 r2 : List Value} {A B1 B2 : List (List Int × Int)} (h : GapIn P W cl rl (r1 ++ r2) A (B1 ++ B2)) (h1 : r1.length = B1.length) :
    (∀ v ∈ clCells r1 B1 B1.length, v.oneCell' = true) ∧ (∀ j, j < B1.length → cl[(300 - (B1.length + B2.length)) * 2 + j * 2]? = some (rV r1 j) ∧ cl[(300 - (B1.length + B2.length)) * 2 + j * 2 + 1]? = some (.int .i64 (cW B1 j))) ∧
    GapIn P W (seg cl (A.length * 2) (clCells r1 B1 B1.length)) (rl ++ r1) r2 (A ++ B1) B2 := by
  have hf := h.fit
  rw [List.length_append] at hf
  have hsrc : ∀ j, j < B1.length → cl[(300 - (B1.length + B2.length)) * 2 + j * 2]? = some (rV r1 j) ∧ cl[(300 - (B1.length + B2.length)) * 2 + j * 2 + 1]? = some (.int .i64 (cW B1 j)) := by
    intro j hj
    have := h.lb j (by rw [List.length_append]; omega)
    rw [rV_appL (by omega), (cR_appL hj).2, List.length_append, Nat.add_mul] at this
    exact this
  have hone : ∀ v ∈ clCells r1 B1 B1.length, v.oneCell' = true := by
    intro v hv
    obtain ⟨j, hj, e | e⟩ := clCells_mem _ hv
    · exact h.one v (List.mem_of_getElem? (by rw [e]; exact (hsrc j hj).1))
    · exact h.one v (List.mem_of_getElem? (by rw [e]; exact (hsrc j hj).2))
  refine ⟨hone, hsrc, (h.takeR h1).insert h1 (by omega) (fun j hj => ?_) hone⟩
  have := h.rb j (by rw [List.length_append]; omega)
  rwa [rV_appL (by omega), (cR_appL hj).1] at this
set_option maxRecDepth 10000 in
set_option maxHeartbeats 4000000 in
theorem goRight_any (P : Nat) (cl rl r1 r2 : List Value) (A B1 B2 : List (List Int × Int)) (bh n : Nat) (hbh : bh = 300 - (B1.length + B2.length)) (hn0 : n = B1.length) (hnp : 0 < n) (k : ByteArray) (u : Value) (W : World) (hP : W.heap[P]? = some (.cells (edC cl (A.length : Int) (bh : Int) k u) 99 (0, 0))) (hG : GapIn P W cl rl (r1 ++ r2) A (B1 ++ B2)) (h1 : r1.length = B1.length) :
    Calls Tryz.prog 128 #[.pointer (some ⟨P, 0, none⟩), .int .i64 (n : Int)] W fun e w' => ∃ cl', e = .returned (.tuple #[]) ∧ w'.heap[P]? = some (.cells (edC cl' ((A ++ B1).length : Int) ((300 - B2.length : Nat) : Int) k u) 99 (0, 0)) ∧ GapIn P w' cl' (rl ++ r1) r2 (A ++ B1) B2 ∧ Fr (fun q => q = P) W w' := by
  have hl := hG.len
  have hfb := hG.fit
  rw [List.length_append] at hfb
  obtain ⟨k600, k601, -, -, f600, f601, -⟩ := edG_cells hP hl
  obtain ⟨hone, hsrc, -⟩ := hG.goRight h1
  have HIN := hide (fun (w' : World) (f : Fr (fun q => q = P) W w') => ((hG.fr f).goRight h1).2.2)
  have hcl := clCells_len r1 B1 B1.length
  have HC := hide (clCells_src (w := W) (rs := r1) (cs := B1) (b := P) (off := (300 - (B1.length + B2.length)) * 2) (fun j hj => by
    rw [cell_of_row W P _ _ _ _ hP, cell_of_row W P _ _ _ _ hP, edC_cl hl _ (by omega), edC_cl hl _ (by omega)]
    exact hsrc j hj))
  have H1 := hide hone
  have HP := hide hP
  obtain ⟨f, hf0⟩ : ∃ f, A.length = f := ⟨_, rfl⟩
  obtain ⟨p, hp⟩ : ∃ p, f + n = p := ⟨_, rfl⟩
  obtain ⟨q, hq⟩ : ∃ q, bh + n = q := ⟨_, rfl⟩
  rw [show (A ++ B1).length = p by rw [List.length_append]; omega, show 300 - B2.length = q by omega]
  rw [← hbh] at HC
  rw [← hn0] at HIN HC H1 hcl
  rw [hf0] at HIN HP k600
  have w1 : IntKind.i64.wrap ((bh : Int) + (n : Int)) = (q : Int) := by rw [IntKind.wrap_i64]; omega
  have w2 : IntKind.i64.wrap ((f : Int) + (n : Int)) = (p : Int) := by rw [IntKind.wrap_i64]; omega
  have b1 : (bh : Int) ≤ (q : Int) := by omega
  have b2 : (q : Int) ≤ 300 := by omega
  have b3 : (f : Int) ≤ 300 := by omega
  have b4 : (bh : Int) ≤ 300 := by omega
  have hmin : Nat.min (q - bh) (300 - f) = n := by rw [show q - bh = n by omega]; exact Nat.min_eq_left (by omega)
  have hfs : f * 2 + (clCells r1 B1 n).length ≤ 600 := by omega
  clear hP hG hsrc hone h1
  have HQ : Hid (∀ Wn cl', Wn.heap[P]? = some (.cells (edC cl' (f : Int) (bh : Int) k u) 99 (0, 0)) → cl'.length = 600 → Fr (fun q => q = P) W Wn → ((Wn.setCell ⟨P, 600, none⟩ (.int .i64 (p : Int))).setCell ⟨P, 601, none⟩ (.int .i64 (q : Int))).heap[P]? = some (.cells (edC cl' (p : Int) (q : Int) k u) 99 (0, 0)) ∧ Fr (fun q => q = P) W ((Wn.setCell ⟨P, 600, none⟩ (.int .i64 (p : Int))).setCell ⟨P, 601, none⟩ (.int .i64 (q : Int))) ∧ (Wn.setCell ⟨P, 600, none⟩ (.int .i64 (p : Int))).cell? ⟨P, 601, none⟩ = some (.int .i64 (bh : Int)) ∧ (Wn.setCell ⟨P, 600, none⟩ (.int .i64 (p : Int))).frozen? ⟨P, 601, none⟩ = false) := by
    intro Wn cl' hb hl' hf
    have hh := heap_setCell_same Wn P 600 _ _ (.int .i64 (p : Int)) hb
    rw [edC_front hl'] at hh
    obtain ⟨-, j601, -, -, -, g601, -⟩ := edG_cells hh hl'
    have hh2 := heap_setCell_same _ P 601 _ _ (.int .i64 (q : Int)) hh
    rw [edC_behind hl'] at hh2
    exact ⟨hh2, Fr.setCell (S := fun q => q = P) (Fr.setCell (S := fun q => q = P) hf (a := ⟨P, 600, none⟩) rfl _) (a := ⟨P, 601, none⟩) rfl _, j601, g601⟩
  have b5 : ¬ 300 = f := by omega
  have b6 : ¬ 300 = bh := by omega
  have b7 : ¬ q = bh := by omega
  have HSL := hide (show (seg cl (f * 2) (clCells r1 B1 n)).length = 600 by rw [seg_len _ _ _ (by omega)]; exact hl)
  clear hn0 hbh hp hq hf0 hfb
  go_enter Tryz.func128, Tryz.ntmps128
  go_wp2
  go_region_law (first
    | (refine step_copy_seg (by rfl) _ _ _ _ (by rfl) 93 2 P (f * 2) (300 - f) (300 - f) ⟨P, bh * 2, none⟩ (q - bh) (300 - bh) (edC cl (f : Int) (bh : Int) k u) 99 (clCells r1 B1 n) (edC (seg cl (f * 2) (clCells r1 B1 n)) (f : Int) (bh : Int) k u) n Tryz.underlying64 infoClG (by rfl) (by rfl) (unhide HP) hmin (clCells_len _ _ _) (unhide HC) (by rw [edC_size hl]; omega) (unhide H1) (edC_seg hl _ hfs) ?_
       intro w' hb hf
       obtain ⟨j600, j601, -, -, g600, g601, -⟩ := edG_cells hb (unhide HSL)
       have HQQ := hide ((unhide HQ) w' _ hb (unhide HSL) ((Fr.of_ext (Ext.refl W).drew).tr hf))
       obtain ⟨-, -, i601, d601⟩ := unhide HQQ
       clear hb hf))
  all_goals
    go_wp2
    exact bodyPost_end (v := .tuple #[]) (by simp [results, Tryz.results128, go_sem]) rfl ⟨_, rfl, (unhide HQQ).1, (unhide HIN) _ (unhide HQQ).2.1, (unhide HQQ).2.1⟩
end Go.Proofs.YtokjpnlmkecleaaGreatDoor

namespace Go.Proofs.YtokjpnlmkecleaaGreatDoor
open Go.RowKit
theorem GapIn.tookR {P : Nat} {W : World} {cl rl r1 r2 : List Value} {A B1 B2 : List (List Int × Int)} {fr bh : Int} {k : ByteArray} {u : Value} {T : TypeId} (h : GapIn P W cl rl (r1 ++ r2) A (B1 ++ B2)) (h1 : r1.length = B1.length) (hP : W.heap[P]? = some (.cells (edC cl fr bh k u) T (0, 0))) (c : Nat) (hc : B1.length ≤ c) : ClsAt W (.slice (some ⟨P, (300 - (B1.length + B2.length)) * 2, none⟩) B1.length c) B1 := by
  have hl := h.len
  have hf := h.fit
  rw [List.length_append] at hf
  refine ⟨r1, _, c, rfl, hc, fun j hj => ?_, fun _ => ⟨P, (300 - (B1.length + B2.length)) * 2, rfl, fun j hj => ?_⟩⟩
  · have := (h.rb j (by rw [List.length_append]; omega)).now
    rwa [rV_appL (by omega), (cR_appL hj).1] at this
  · have h2 := h.lb j (by rw [List.length_append]; omega)
    rw [rV_appL (by omega), (cR_appL hj).2, List.length_append] at h2
    rw [cell_of_row W P _ _ _ _ hP, cell_of_row W P _ _ _ _ hP, ← Nat.add_mul, edC_cl hl _ (by omega), edC_cl hl _ (by omega)]
    exact h2
set_option maxRecDepth 10000 in
set_option maxHeartbeats 4000000 in
theorem takeLeft_any (P : Nat) (cl r1 r2 rr : List Value) (A1 A2 B : List (List Int × Int)) (bh : Int) (k : ByteArray) (u : Value) (W : World) (hP : W.heap[P]? = some (.cells (edC cl ((A1.length + A2.length : Nat) : Int) bh k u) 99 (0, 0))) (hG : GapIn P W cl (r1 ++ r2) rr (A1 ++ A2) B) (h1 : r1.length = A1.length) :
    Calls Tryz.prog 120 #[.pointer (some ⟨P, 0, none⟩), .int .i64 (A2.length : Int)] W fun e w' => ∃ v, e = .returned v ∧ w'.heap[P]? = some (.cells (edC cl (A1.length : Int) bh k u) 99 (0, 0)) ∧ GapIn P w' cl r1 rr A1 B ∧ ClsAt w' v A2 ∧ Fr (fun q => q = P) W w' := by
  have hl := hG.len
  have hf := hG.fit
  rw [List.length_append] at hf
  obtain ⟨k600, -, -, -, z600, -, -⟩ := edG_cells hP hl
  have p1 := heap_setCell_same W P 600 _ _ (.int .i64 (A1.length : Int)) hP
  have e1 : (edC cl ((A1.length + A2.length : Nat) : Int) bh k u).setIfInBounds 600 (.int .i64 (A1.length : Int)) = edC cl (A1.length : Int) bh k u := by unfold edC; simp [hl]
  rw [e1] at p1
  have F1 : Fr (fun q => q = P) W (W.setCell ⟨P, 600, none⟩ (.int .i64 (A1.length : Int))) := Fr.setCell (S := fun q => q = P) (Fr.refl _ W) (a := ⟨P, 600, none⟩) rfl _
  have HC : Hid (∀ c, A2.length ≤ c → ClsAt (W.setCell ⟨P, 600, none⟩ (.int .i64 (A1.length : Int))) (.slice (some ⟨P, A1.length * 2, none⟩) A2.length c) A2) := hide (fun c hc => (hG.fr F1).tookL h1 p1 c hc)
  have HP := hide p1
  have HG := hide ((hG.fr F1).takeL h1)
  have HF := hide F1
  have HZ : Hid (A2.length = 0 → ∀ ao c, ClsAt (W.setCell ⟨P, 600, none⟩ (.int .i64 (A1.length : Int))) (.slice ao 0 c) A2) := hide (fun h0 ao c => by
    obtain rfl : A2 = [] := List.eq_nil_of_length_eq_zero h0
    exact ⟨[], ao, c, rfl, Nat.zero_le _, fun j hj => absurd hj (Nat.not_lt_zero _), fun h => absurd h (Nat.not_lt_zero _)⟩)
  obtain ⟨a, ha⟩ : ∃ a, A1.length = a := ⟨_, rfl⟩
  obtain ⟨n, hn⟩ : ∃ n, A2.length = n := ⟨_, rfl⟩
  rw [ha] at k600 hf HC HZ HP HF HG ⊢
  rw [hn] at k600 hf HC HZ ⊢
  have hw1 : IntKind.i64.wrap (((a + n : Nat) : Int) - (n : Int)) = (a : Int) := by rw [IntKind.wrap_i64]; omega
  have hw2 : IntKind.i64.wrap ((a : Int) + (n : Int)) = (a : Int) + (n : Int) := by rw [IntKind.wrap_i64]; omega
  clear hP hG p1 e1 F1 ha hn h1
  go_enter Tryz.func120, Tryz.ntmps120
  go_wp2
  have c600 : (W.setCell ⟨P, 600, none⟩ (.int .i64 (a : Int))).cell? ⟨P, 600, none⟩ = some (.int .i64 (a : Int)) := (edG_cells (unhide HP) hl).1
  have b1 : (a : Int) ≤ (a : Int) + (n : Int) := by omega
  have b2 : (a : Int) + (n : Int) ≤ 300 := by omega
  have b3 : ((a : Int) + (n : Int)).toNat = a + n := by omega
  have b4 : (0 : Int) ≤ (a : Int) + (n : Int) := by omega
  have hw3 : IntKind.i64.wrap 300 = 300 := by decide
  by_cases h0 : 300 = a
  · obtain rfl : n = 0 := by omega
    subst h0
    go_region_law (first | fail)
    all_goals
      go_wp2
      exact bodyPost_ret (v := .slice (some ⟨P, 0, none⟩) 0 0) (by simp [results, Tryz.results120, go_sem]) rfl ⟨_, rfl, unhide HP, (unhide HG).fr (Fr.of_ext (Ext.refl _).drew), ((unhide HZ) trivial _ _).ext (Ext.refl _).drew, (unhide HF).tr (Fr.of_ext (Ext.refl _).drew)⟩
  · go_region_law (first | fail)
    all_goals
      go_wp2
      exact bodyPost_ret (by simp [results, Tryz.results120, go_sem]) rfl ⟨_, rfl, unhide HP, (unhide HG).fr (Fr.of_ext (Ext.refl _).drew), ((unhide HC) (300 - a) (by omega)).ext (Ext.refl _).drew, (unhide HF).tr (Fr.of_ext (Ext.refl _).drew)⟩
set_option maxRecDepth 10000 in
set_option maxHeartbeats 4000000 in
theorem takeRight_any (P : Nat) (cl rl r1 r2 : List Value) (A B1 B2 : List (List Int × Int)) (fr : Int) (k : ByteArray) (u : Value) (W : World) (hP : W.heap[P]? = some (.cells (edC cl fr ((300 - (B1.length + B2.length) : Nat) : Int) k u) 99 (0, 0))) (hG : GapIn P W cl rl (r1 ++ r2) A (B1 ++ B2)) (h1 : r1.length = B1.length) :
    Calls Tryz.prog 121 #[.pointer (some ⟨P, 0, none⟩), .int .i64 (B1.length : Int)] W fun e w' => ∃ v, e = .returned v ∧ w'.heap[P]? = some (.cells (edC cl fr ((300 - B2.length : Nat) : Int) k u) 99 (0, 0)) ∧ GapIn P w' cl rl r2 A B2 ∧ ClsAt w' v B1 ∧ Fr (fun q => q = P) W w' := by
  have hl := hG.len
  have hf := hG.fit
  rw [List.length_append] at hf
  obtain ⟨a, ha⟩ : ∃ a, 300 - (B1.length + B2.length) = a := ⟨_, rfl⟩
  obtain ⟨n, hn⟩ : ∃ n, B1.length = n := ⟨_, rfl⟩
  have hb : 300 - B2.length = a + n := by omega
  have han : a + n ≤ 300 := by omega
  obtain ⟨-, k601, -, -, -, z601, -⟩ := edG_cells hP hl
  have p1 := heap_setCell_same W P 601 _ _ (.int .i64 ((a : Int) + (n : Int))) hP
  have F1 : Fr (fun q => q = P) W (W.setCell ⟨P, 601, none⟩ (.int .i64 ((a : Int) + (n : Int)))) := Fr.setCell (S := fun q => q = P) (Fr.refl _ W) (a := ⟨P, 601, none⟩) rfl _
  rw [edC_behind hl] at p1
  have HC : Hid (∀ c, B1.length ≤ c → ClsAt (W.setCell ⟨P, 601, none⟩ (.int .i64 ((a : Int) + (n : Int)))) (.slice (some ⟨P, (300 - (B1.length + B2.length)) * 2, none⟩) B1.length c) B1) := hide (fun c hc => (hG.fr F1).tookR h1 p1 c hc)
  have c601 : (W.setCell ⟨P, 601, none⟩ (.int .i64 ((a : Int) + (n : Int)))).cell? ⟨P, 601, none⟩ = some (.int .i64 ((a : Int) + (n : Int))) := (edG_cells p1 hl).2.1
  have hcast : ((300 - B2.length : Nat) : Int) = (a : Int) + (n : Int) := by omega
  have HP := hide p1
  have HG := hide ((hG.fr F1).takeR h1)
  have HF := hide F1
  have HZ : Hid (B1.length = 0 → ∀ ao c, ClsAt (W.setCell ⟨P, 601, none⟩ (.int .i64 ((a : Int) + (n : Int)))) (.slice ao 0 c) B1) := hide (fun h0 ao c => by
    obtain rfl : B1 = [] := List.eq_nil_of_length_eq_zero h0
    exact ⟨[], ao, c, rfl, Nat.zero_le _, fun j hj => absurd hj (Nat.not_lt_zero _), fun h => absurd h (Nat.not_lt_zero _)⟩)
  rw [hcast]
  rw [ha] at k601 HC
  rw [hn] at HC HZ ⊢
  have hw1 : IntKind.i64.wrap ((a : Int) + (n : Int)) = (a : Int) + (n : Int) := by rw [IntKind.wrap_i64]; omega
  have hw2 : IntKind.i64.wrap ((a : Int) + (n : Int) - (n : Int)) = (a : Int) := by rw [IntKind.wrap_i64]; omega
  have hw4 : IntKind.i64.wrap (a : Int) = (a : Int) := by rw [IntKind.wrap_i64]; omega
  have b1 : (a : Int) ≤ (a : Int) + (n : Int) := by omega
  have b2 : (a : Int) + (n : Int) ≤ 300 := by omega
  have b3 : ((a : Int) + (n : Int)).toNat = a + n := by omega
  have b4 : (0 : Int) ≤ (a : Int) + (n : Int) := by omega
  have hw3 : IntKind.i64.wrap 300 = 300 := by decide
  clear hP hG p1 F1 ha hn h1 hb hcast hf
  go_enter Tryz.func121, Tryz.ntmps121
  go_wp2
  by_cases h0 : 300 = a
  · obtain rfl : n = 0 := by omega
    subst h0
    go_region_law (first | fail)
    all_goals
      go_wp2
      exact bodyPost_ret (v := .slice (some ⟨P, 0, none⟩) 0 0) (by simp [results, Tryz.results121, go_sem]) rfl ⟨_, rfl, unhide HP, (unhide HG).fr (Fr.of_ext (Ext.refl _).drew), ((unhide HZ) trivial _ _).ext (Ext.refl _).drew, (unhide HF).tr (Fr.of_ext (Ext.refl _).drew)⟩
  · go_region_law (first | fail)
    all_goals
      go_wp2
      exact bodyPost_ret (by simp [results, Tryz.results121, go_sem]) rfl ⟨_, rfl, unhide HP, (unhide HG).fr (Fr.of_ext (Ext.refl _).drew), ((unhide HC) (300 - a) (by omega)).ext (Ext.refl _).drew, (unhide HF).tr (Fr.of_ext (Ext.refl _).drew)⟩
end Go.Proofs.YtokjpnlmkecleaaGreatDoor
