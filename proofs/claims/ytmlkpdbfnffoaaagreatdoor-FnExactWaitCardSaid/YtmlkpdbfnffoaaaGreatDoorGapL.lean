import Derived.Test.YtmlkpdbfnffoaaaGreatDoorGapI
namespace Go.Proofs.YtmlkpdbfnffoaaaGreatDoor
open Go.RowKit
theorem zf6 {rs : List Value} {cs : List (List Int × Int)} {v : Value} : ∀ k, v ∈ zam rs cs k → ∃ j, j < k ∧ (v = rV rs j ∨ v = .int .i64 (cW cs j))
 | 0, h => by simp [zam] at h
 | k + 1, h => by
  rw [zam] at h
  rcases List.mem_append.1 h with h | h
  ·obtain ⟨j, hj, e⟩ := zf6 k h
   exact ⟨j, by omega, e⟩
  ·simp at h
   exact ⟨k, by omega, h⟩
theorem zaY.goLeft {P : Nat} {W : World} {cl r1 r2 rr : List Value} {A1 A2 B : List (List Int × Int)} (h : zaY P W cl (r1 ++ r2) rr (A1 ++ A2) B) (h1 : r1.length = A1.length) (h2 : r2.length = A2.length) :
  (∀ v ∈ zam r2 A2 A2.length, v.oneCell' = true) ∧ (∀ j, j < A2.length → cl[A1.length * 2 + j * 2]? = some (rV r2 j) ∧ cl[A1.length * 2 + j * 2 + 1]? = some (.int .i64 (cW A2 j))) ∧
  zaY P W (seg cl ((300 - B.length - A2.length) * 2) (zam r2 A2 A2.length)) r1 (r2 ++ rr) A1 (A2 ++ B) := by
 have hl := h.len
 have hf := h.fit
 rw [List.length_append] at hf
 have hc := zbh r2 A2 A2.length
 have hs : (300 - B.length - A2.length) * 2 + (zam r2 A2 A2.length).length ≤ cl.length := by omega
 have hsrc : ∀ j, j < A2.length → cl[A1.length * 2 + j * 2]? = some (rV r2 j) ∧ cl[A1.length * 2 + j * 2 + 1]? = some (.int .i64 (cW A2 j)) := by
  intro j hj
  have := h.la (A1.length + j) (by rw [List.length_append]; omega)
  rw [zde, zdS, h1, if_neg (by omega), if_neg (by omega), show A1.length + j - A1.length = j by omega, show (A1.length + j) * 2 = A1.length * 2 + j * 2 by omega] at this
  exact this
 have hone : ∀ v ∈ zam r2 A2 A2.length, v.oneCell' = true := by
  intro v hv
  obtain ⟨j, hj, e | e⟩ := zf6 _ hv
  ·exact h.one v (List.mem_of_getElem? (by rw [e]; exact (hsrc j hj).1))
  ·exact h.one v (List.mem_of_getElem? (by rw [e]; exact (hsrc j hj).2))
 refine ⟨hone, hsrc, by rw [zeP _ _ _ hs, hl], by rw [List.length_append]; omega, h1, by rw [List.length_append, List.length_append, h.nb, h2], fun j hj => ?_, fun j hj => ?_, fun j hj => ?_, fun j hj => ?_, fun v hv => ?_⟩
 ·have e1 := zdW cl ((300 - B.length - A2.length) * 2) (zam r2 A2 A2.length) hs (j * 2)
  have e2 := zdW cl ((300 - B.length - A2.length) * 2) (zam r2 A2 A2.length) hs (j * 2 + 1)
  rw [if_pos (by omega)] at e1 e2
  have := h.la j (by rw [List.length_append]; omega)
  rw [zde, zdS, h1, if_pos hj, if_pos hj] at this
  exact ⟨e1.trans this.1, e2.trans this.2⟩
 ·rw [List.length_append] at hj
  have hb : 300 - (A2 ++ B).length + j = 300 - B.length - A2.length + j := by rw [List.length_append]; omega
  rw [hb]
  have e1 := zdW cl ((300 - B.length - A2.length) * 2) (zam r2 A2 A2.length) hs ((300 - B.length - A2.length + j) * 2)
  have e2 := zdW cl ((300 - B.length - A2.length) * 2) (zam r2 A2 A2.length) hs ((300 - B.length - A2.length + j) * 2 + 1)
  rw [if_neg (by omega)] at e1 e2
  by_cases e : j < A2.length
  ·have h3 := zds r2 A2 A2.length j e
   rw [if_pos (by omega), show (300 - B.length - A2.length + j) * 2 - (300 - B.length - A2.length) * 2 = j * 2 by omega] at e1
   rw [if_pos (by omega), show (300 - B.length - A2.length + j) * 2 + 1 - (300 - B.length - A2.length) * 2 = j * 2 + 1 by omega] at e2
   rw [zde, zdS, h2, if_pos e, if_pos e]
   exact ⟨e1.trans h3.1, e2.trans h3.2⟩
  ·have h3 := h.lb (j - A2.length) (by omega)
   rw [show 300 - B.length + (j - A2.length) = 300 - B.length - A2.length + j by omega] at h3
   rw [if_neg (by omega)] at e1 e2
   rw [zde, zdS, h2, if_neg e, if_neg e]
   exact ⟨e1.trans h3.1, e2.trans h3.2⟩
 ·have := h.ra j (by rw [List.length_append]; omega)
  rw [zde, zdI, h1, if_pos hj, if_pos hj] at this
  exact this
 ·rw [List.length_append] at hj
  rw [zde, zdI, h2]
  by_cases e : j < A2.length
  ·rw [if_pos e, if_pos e]
   have := h.ra (A1.length + j) (by rw [List.length_append]; omega)
   rw [zde, zdI, h1, if_neg (by omega), if_neg (by omega), show A1.length + j - A1.length = j by omega] at this
   exact this
  ·rw [if_neg e, if_neg e]
   exact h.rb _ (by omega)
 ·unfold seg at hv
  rcases List.mem_append.1 hv with hv | hv
  ·rcases List.mem_append.1 hv with hv | hv
   ·exact h.one v (List.mem_of_mem_take hv)
   ·exact hone v hv
  ·exact h.one v (List.mem_of_mem_drop hv)
set_option maxRecDepth 10000 in
set_option maxHeartbeats 4000000 in
theorem zkV (P : Nat) (cl r1 r2 rr : List Value) (A1 A2 B : List (List Int × Int)) (bh f n : Nat) (hbh : bh = 300 - B.length) (hf0 : f = A1.length + A2.length) (hn0 : n = A2.length) (k : ByteArray) (u : Value) (W : World) (hP : W.heap[P]? = some (.cells (edC cl (f : Int) (bh : Int) k u) 226 (0, 0))) (hG : zaY P W cl (r1 ++ r2) rr (A1 ++ A2) B) (h1 : r1.length = A1.length) (h2 : r2.length = A2.length) :
    Calls Tryz.prog 257 #[.pointer (some ⟨P, 0, none⟩), .int .i64 (n : Int)] W fun e w' => ∃ cl', e = .returned (.tuple #[]) ∧ w'.heap[P]? = some (.cells (edC cl' (A1.length : Int) ((300 - (A2 ++ B).length : Nat) : Int) k u) 226 (0, 0)) ∧ zaY P w' cl' r1 (r2 ++ rr) A1 (A2 ++ B) ∧ Fr (fun q => q = P) W w' := by
  have hl := hG.len
  have hfb := hG.fit
  rw [List.length_append] at hfb
  obtain ⟨k600, k601, -, -, f600, f601, -⟩ := zaJ hP hl
  obtain ⟨hone, hsrc, -⟩ := hG.goLeft h1 h2
  have HIN := zi (fun (w' : World) (f : Fr (fun q => q = P) W w') => ((hG.fr f).goLeft h1 h2).2.2)
  have hcl := zbh r2 A2 A2.length
  have HC := zi (zf3 (w := W) (rs := r2) (cs := A2) (b := P) (off := A1.length * 2) (fun j hj => by
    rw [cell_of_row W P _ _ _ _ hP, cell_of_row W P _ _ _ _ hP, zdV hl _ (by omega), zdV hl _ (by omega)]
    exact hsrc j hj))
  have H1 := zi hone
  have HP := zi hP
  have hqe : 300 - (A2 ++ B).length = bh - n := by rw [List.length_append]; omega
  rw [hqe]
  have hqs : 300 - B.length - A2.length = bh - n := by omega
  rw [hqs] at HIN
  rw [← hn0] at HIN HC H1 hcl
  obtain ⟨p, hp⟩ : ∃ p, A1.length = p := ⟨_, rfl⟩
  obtain ⟨q, hq⟩ : ∃ q, bh - n = q := ⟨_, rfl⟩
  rw [hp] at HC ⊢
  rw [hq] at HIN ⊢
  have w1 : IntKind.i64.wrap ((bh : Int) - (n : Int)) = (q : Int) := by rw [IntKind.wrap_i64]; omega
  have w2 : IntKind.i64.wrap ((f : Int) - (n : Int)) = (p : Int) := by rw [IntKind.wrap_i64]; omega
  have b1 : (p : Int) ≤ (f : Int) := by omega
  have b2 : (f : Int) ≤ 300 := by omega
  have b4 : (q : Int) ≤ 300 := by omega
  have hmin : Nat.min (f - p) (300 - q) = n := by rw [show f - p = n by omega]; exact Nat.min_eq_left (by omega)
  have hfs : q * 2 + (zam r2 A2 n).length ≤ 600 := by omega
  clear hP hG hqe hqs hsrc hone h1 h2
  have HQ : Hid (∀ Wn cl', Wn.heap[P]? = some (.cells (edC cl' (f : Int) (bh : Int) k u) 226 (0, 0)) → cl'.length = 600 → Fr (fun q => q = P) W Wn → ((Wn.setCell ⟨P, 600, none⟩ (.int .i64 (p : Int))).setCell ⟨P, 601, none⟩ (.int .i64 (q : Int))).heap[P]? = some (.cells (edC cl' (p : Int) (q : Int) k u) 226 (0, 0)) ∧ Fr (fun q => q = P) W ((Wn.setCell ⟨P, 600, none⟩ (.int .i64 (p : Int))).setCell ⟨P, 601, none⟩ (.int .i64 (q : Int))) ∧ (Wn.setCell ⟨P, 600, none⟩ (.int .i64 (p : Int))).cell? ⟨P, 601, none⟩ = some (.int .i64 (bh : Int)) ∧ (Wn.setCell ⟨P, 600, none⟩ (.int .i64 (p : Int))).frozen? ⟨P, 601, none⟩ = false) := by
    intro Wn cl' hb hl' hf
    have hh := heap_setCell_same Wn P 600 _ _ (.int .i64 (p : Int)) hb
    rw [zed hl'] at hh
    obtain ⟨-, j601, -, -, -, g601, -⟩ := zaJ hh hl'
    have hh2 := heap_setCell_same _ P 601 _ _ (.int .i64 (q : Int)) hh
    rw [zgE hl'] at hh2
    exact ⟨hh2, Fr.setCell (S := fun q => q = P) (Fr.setCell (S := fun q => q = P) hf (a := ⟨P, 600, none⟩) rfl _) (a := ⟨P, 601, none⟩) rfl _, j601, g601⟩
  by_cases h0 : n = 0
  · subst h0
    obtain rfl : p = f := by omega
    obtain rfl : q = bh := by omega
    have hs0 : seg cl (q * 2) (zam r2 A2 0) = cl := by simp [seg, zam]
    rw [hs0] at HIN
    have w3 : IntKind.i64.wrap (p : Int) = (p : Int) := by rw [IntKind.wrap_i64]; omega
    have w4 : IntKind.i64.wrap (q : Int) = (q : Int) := by rw [IntKind.wrap_i64]; omega
    have b9 : p ≤ q := by omega
    have HQQ := zi ((zg HQ) W.drew cl (zg HP) hl (Fr.of_ext (Ext.refl W).drew))
    obtain ⟨-, -, i601, d601⟩ := zg HQQ
    have w5 : IntKind.i64.wrap 300 = 300 := by rw [IntKind.wrap_i64]; rfl
    clear hn0 hbh hp hq hf0 hfb hs0 hmin w1 w2
    by_cases c1 : 300 = p
    · subst c1
      obtain rfl : q = 300 := by omega
      go_enter Tryz.func257, Tryz.ntmps257
      go_wp2
      go_region_law (first
        | (refine zbH (by rfl) _ _ _ _ (by rfl) 203 2 _ _ _ _ _ Tryz.underlying160 zdC (by rfl) (by rfl) ?_))
      all_goals
        go_wp2
        exact bodyPost_end (v := .tuple #[]) (by simp [results, Tryz.results257, go_sem]) rfl ⟨_, rfl, (zg HQQ).1, (zg HIN) _ (zg HQQ).2.1, (zg HQQ).2.1⟩
    · by_cases c2 : 300 = q
      · subst c2
        go_enter Tryz.func257, Tryz.ntmps257
        go_wp2
        go_region_law (first
          | (refine zbH (by rfl) _ _ _ _ (by rfl) 203 2 _ _ _ _ _ Tryz.underlying160 zdC (by rfl) (by rfl) ?_))
        all_goals
          go_wp2
          exact bodyPost_end (v := .tuple #[]) (by simp [results, Tryz.results257, go_sem]) rfl ⟨_, rfl, (zg HQQ).1, (zg HIN) _ (zg HQQ).2.1, (zg HQQ).2.1⟩
      · go_enter Tryz.func257, Tryz.ntmps257
        go_wp2
        go_region_law (first
          | (refine zbH (by rfl) _ _ _ _ (by rfl) 203 2 _ _ _ _ _ Tryz.underlying160 zdC (by rfl) (by rfl) ?_))
        all_goals
          go_wp2
          exact bodyPost_end (v := .tuple #[]) (by simp [results, Tryz.results257, go_sem]) rfl ⟨_, rfl, (zg HQQ).1, (zg HIN) _ (zg HQQ).2.1, (zg HQQ).2.1⟩
  · have b5 : ¬ 300 = p := by omega
    have b6 : ¬ 300 = q := by omega
    have b7 : ¬ f = p := by omega
    have HSL := zi (show (seg cl (q * 2) (zam r2 A2 n)).length = 600 by rw [zeP _ _ _ (by omega)]; exact hl)
    clear hn0 hbh hp hq hf0 hfb
    go_enter Tryz.func257, Tryz.ntmps257
    go_wp2
    go_region_law (first
      | (refine zeu (by rfl) _ _ _ _ (by rfl) 203 2 P (q * 2) (300 - q) (300 - q) ⟨P, p * 2, none⟩ (f - p) (300 - p) (edC cl (f : Int) (bh : Int) k u) 226 (zam r2 A2 n) (edC (seg cl (q * 2) (zam r2 A2 n)) (f : Int) (bh : Int) k u) n Tryz.underlying160 zdC (by rfl) (by rfl) (zg HP) hmin (zbh _ _ _) (zg HC) (by rw [zjt hl]; omega) (zg H1) (zk2 hl _ hfs) ?_
         intro w' hb hf
         obtain ⟨j600, j601, -, -, g600, g601, -⟩ := zaJ hb (zg HSL)
         have HQQ := zi ((zg HQ) w' _ hb (zg HSL) ((Fr.of_ext (Ext.refl W).drew).tr hf))
         obtain ⟨-, -, i601, d601⟩ := zg HQQ
         clear hb hf))
    all_goals
      go_wp2
      exact bodyPost_end (v := .tuple #[]) (by simp [results, Tryz.results257, go_sem]) rfl ⟨_, rfl, (zg HQQ).1, (zg HIN) _ (zg HQQ).2.1, (zg HQQ).2.1⟩
end Go.Proofs.YtmlkpdbfnffoaaaGreatDoor
