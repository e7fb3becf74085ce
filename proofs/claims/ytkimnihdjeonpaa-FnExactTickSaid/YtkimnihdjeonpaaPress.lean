import Derived.Test.YtkimnihdjeonpaaTickS
import Derived.Test.YtkimnihdjeonpaaShowable
namespace Go.Proofs.Ytkimnihdjeonpaa
open Go.RowKit Go.Deep
def DecK (w : World) (D base : Nat) (kv : Value) (rs : List Value) (ks : List (List Int × Int)) : Prop :=
  w.cell? ⟨D, 2, none⟩ = some kv ∧ w.frozen? ⟨D, 2, none⟩ = false ∧ OwnKys w base kv rs ks ∧ D < base
set_option maxHeartbeats 1000000 in
theorem press_any (D base : Nat) (kv : Value) (rs : List Value) (ks : List (List Int × Int)) (kd : Int) (w : World) (h : DecK w D base kv rs ks) (hb : base ≤ w.heap.size) (hl : ks.length ≤ 4194304) :
    Calls Try.prog 40 #[.pointer (some ⟨D, 0, none⟩), .int .i64 kd] w fun e w' => e = .returned (.tuple #[]) ∧ ∃ kv', DecK w' D base kv' (rs ++ [.slice none 0 0]) (ks ++ [([], kd)]) ∧ Fr (fun k => k = D ∨ kv.ownBlock = some k) w w' := by
  obtain ⟨ic, hic, hc0, hc1, hc2⟩ := info_parts infoKey
  obtain ⟨h0, h1, h2, h3⟩ := h
  have hD : D < w.heap.size := lt_of_cell h0
  have H2 := hide h2
  obtain ⟨h0', ⟨ys, hy, hyy⟩, hr, h4⟩ := h2
  have HY := hide hy
  have HYA := hide (((Ext.refl w).alloc (.cells #[.int .i64 kd, .slice none 0 0] 65)).owns hy)
  have HYY := hide hyy
  clear hy hyy hr h4
  go_enter Try.func40, Try.ntmps40
  go_wp2_with (at_builtin; go_must (refine wpList_append_own _ rfl _ _ 42 rfl base 65 ic (.agg #[.int .i64 0, .slice none 0 0]) 2 32 Try.underlying42 hic hc0 hc1 hc2 rfl (by decide) _ _ _ rfl (unhide HYA) ⟨w.heap.size, 0, none⟩ 1 1 [.int .i64 kd, .slice none 0 0] rfl rfl ?_ (pair_one rfl rfl) ?_ ?_ ?_ ?_))
  · exact news_cells (w := w) [.int .i64 kd, .slice none 0 0] 65
  · unfold maxLen; omega
  · omega
  · simp; omega
  · intro v' w3 hown' hgrow _
    have fr3 : Fr (fun k => kv.ownBlock = some k) w w3 := Fr.grown (Fr.of_ext ((Ext.refl w).alloc _)) hgrow (fun k hk => hk)
    have hkD : kv.ownBlock ≠ some D := fun e => by have := ((unhide HY).lt D e).1; omega
    have k0 : w3.cell? ⟨D, 2, none⟩ = some kv := by rw [hgrow.cell_far _ (by simp; omega) (by simp; exact fun e => hkD e.symm)]; exact ((Ext.refl w).alloc _).cell h0
    have k1 : w3.frozen? ⟨D, 2, none⟩ = false := by rw [hgrow.frozen_far _ (by simp; omega) (by simp; exact fun e => hkD e.symm), ((Ext.refl w).alloc _).rules.2 _ _ hD]; exact h1
    have hO3 : OwnKys w3 base v' (rs ++ [.slice none 0 0]) (ks ++ [([], kd)]) :=
      OwnKys.push (((unhide H2).ext ((Ext.refl w).alloc _))) (unhide HYA) (unhide HYY) ⟨by simp, .inl ⟨rfl, rfl⟩⟩ (fun j g _ _ => by simp [Value.ownBlock]) hown' hgrow
    obtain ⟨g', cap', rfl⟩ : ∃ g cap, v' = .slice (some ⟨g, 0, none⟩) (ks.length + 1) cap := by
      rcases hown'.2 with ⟨_, e0⟩ | ⟨g, cap, cur, e0, _⟩
      · simp at e0
      · exact ⟨g, cap, e0⟩
    have HO3 := hide hO3
    have FR3 := hide fr3
    have KK0 := hide k0
    have KK1 := hide k1
    clear hown' hgrow hO3 HYA HY H2 fr3
    go_wp2
    go_end0
    refine ⟨rfl, .slice (some ⟨g', 0, none⟩) (ks.length + 1) cap', ⟨World.cell?_setCell_same _ _ _ (unhide KK0), ?_, ?_, h3⟩, ?_⟩
    · simpa [go_sem] using (unhide KK1)
    · exact OwnKys.fr (S := fun k => k = D) (unhide HO3) (Fr.setCell (S := fun q => q = D) (Fr.refl _ _) (a := ⟨D, 2, none⟩) rfl _) (fun g hg e => by have := ((unhide HO3).foot hg).1; omega)
    · refine Fr.setCell (a := ⟨D, 2, none⟩) ?_ (.inl rfl) _
      exact ⟨(unhide FR3).os, (unhide FR3).tape, (unhide FR3).output, (unhide FR3).size, fun k hk hn => (unhide FR3).block k hk (fun e => hn (.inr e))⟩
theorem news_two (w : World) (o : Obj) (u v : Value) (t : TypeId) : ∀ j x, [u, v][j]? = some x → ((w.alloc o).alloc (.cells #[u, v] t)).drew.cell? ((⟨w.heap.size + 1, 0, none⟩ : Addr).add j) = some x := by
  have := news_cells (w := w.alloc o) [u, v] t
  have h2 : (w.alloc o).heap.size = w.heap.size + 1 := by simp
  rw [h2] at this
  exact this
set_option maxRecDepth 10000 in
set_option maxHeartbeats 2000000 in
theorem pressRune_any (D base : Nat) (kv : Value) (rs : List Value) (ks : List (List Int × Int)) (x : Int) (w : World) (h : DecK w D base kv rs ks) (hb : base ≤ w.heap.size) (hl : ks.length ≤ 4194304) :
    Calls Try.prog 39 #[.pointer (some ⟨D, 0, none⟩), .int .i32 x] w fun e w' => e = .returned (.tuple #[]) ∧ ∃ kv' r, DecK w' D base kv' (rs ++ [r]) (ks ++ [([shownI x], 1)]) ∧ Fr (fun k => k = D ∨ kv.ownBlock = some k) w w' := by
  obtain ⟨ic, hic, hc0, hc1, hc2⟩ := info_parts infoKey
  obtain ⟨h0, h1, h2, h3⟩ := h
  have hD : D < w.heap.size := lt_of_cell h0
  have H2 := hide h2
  obtain ⟨h0', ⟨ys, hy, hyy⟩, hr, h4⟩ := h2
  have HY := hide hy
  have HYY := hide hyy
  have HR := hide hr
  have hkD : kv.ownBlock ≠ some D := fun e => by have := (hy.lt D e).1; omega
  have HKD := hide hkD
  clear hy hyy hr h4 hkD
  go_enter Try.func39, Try.ntmps39
  go_region_law (first
    | (refine step_append_lies _ (by rfl) _ _ _ (by rfl) base 65 ic _ 2 32 Try.underlying42 hic hc0 hc1 hc2 rfl (by omega) kv ks.length ys (by rfl) (by first | exact (((Ext.refl w).drew.alloc _).alloc _).owns (unhide HY) | exact (((Ext.refl w).alloc _).alloc _).drew.owns (unhide HY)) ⟨w.heap.size + 1, 0, none⟩ 1 1 [.int .i64 1, .slice (some ⟨w.heap.size, 0, none⟩) 1 1] (by rfl) (by rfl) (news_two w _ _ _ _) (pair_one rfl rfl) (by omega) (by unfold maxLen; omega) (by omega) (by simp; omega) (w.heap.size + 2) (by simp) ?_
       intro g' cap' w3 hown3 hgrow hat hlt3
       have fr3 : Fr (fun k => kv.ownBlock = some k) w w3 := Fr.grown (Fr.of_ext (((Ext.refl w).alloc _).alloc _).drew) hgrow (fun k hk => hk)
       have k0 : w3.cell? ⟨D, 2, none⟩ = some kv := by rw [hgrow.cell_far _ (by simp; omega) (by simp; exact fun e => (unhide HKD) e.symm)]; exact (((Ext.refl w).alloc _).alloc _).drew.cell h0
       have k1 : w3.frozen? ⟨D, 2, none⟩ = false := by rw [hgrow.frozen_far _ (by simp; omega) (by simp; exact fun e => (unhide HKD) e.symm), (((Ext.refl w).alloc _).alloc _).drew.rules.2 _ _ hD]; exact h1
       have HO3 := hide (OwnKys.push (r := .slice (some ⟨w.heap.size, 0, none⟩) 1 1) (xs := [shownI x]) (d := 1) ((unhide H2).ext (((Ext.refl w).alloc _).alloc _).drew) ((((Ext.refl w).alloc _).alloc _).drew.owns (unhide HY)) (unhide HYY) (((Ext.refl _).alloc _).drew.owns (own_lit .i32 [shownI x] 21 base 1 rfl (by omega) (by unfold maxLen; simp))) (fun j g hj hg => by have := ((unhide HR) j hj).lt g hg; simp [Value.ownBlock]; omega) hown3 hgrow)
       have FR3 := hide fr3
       have KK0 := hide k0
       have KK1 := hide k1
       clear hown3 hgrow fr3)
    | (go_simp; go_at_call 37; refine (showable_any _ _).mono ?_; rintro e w' ⟨rfl, rfl⟩))
  all_goals
    go_wp2
    go_end0
    refine ⟨rfl, .slice (some ⟨g', 0, none⟩) (ks.length + 1) cap', .slice (some ⟨w.heap.size, 0, none⟩) 1 1, ⟨World.cell?_setCell_same _ _ _ (unhide KK0), ?_, ?_, h3⟩, ?_⟩
    · simpa [go_sem] using (unhide KK1)
    · exact OwnKys.fr (S := fun k => k = D) (unhide HO3) (Fr.setCell (S := fun q => q = D) (Fr.refl _ _) (a := ⟨D, 2, none⟩) rfl _) (fun g hg e => by have := ((unhide HO3).foot hg).1; omega)
    · refine Fr.setCell (a := ⟨D, 2, none⟩) ?_ (.inl rfl) _
      exact ⟨(unhide FR3).os, (unhide FR3).tape, (unhide FR3).output, (unhide FR3).size, fun k hk hn => (unhide FR3).block k hk (fun e => hn (.inr e))⟩
end Go.Proofs.Ytkimnihdjeonpaa
