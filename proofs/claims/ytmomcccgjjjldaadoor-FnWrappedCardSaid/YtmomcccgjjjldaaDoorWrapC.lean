import Derived.Test.YtmomcccgjjjldaaDoorCss
import Derived.Deep.RegionLaw
import Derived.Deep.AppendLies
namespace Go.Proofs.YtmomcccgjjjldaaDoor
open Go.RowKit
def cWd (d : Int) : Int := if d < 0 then 0 else if 1000 < d then 1000 else d
theorem cWd_bd (d : Int) : 0 ≤ cWd d ∧ cWd d ≤ 1000 := by
  unfold cWd
  split
  · omega
  · split <;> omega
theorem countedWidth_any (r : Value) (d : Int) (w : World) : Calls Tryd.prog 20 #[.agg #[r, .int .i64 d]] w fun e w' => e = .returned (.int .i64 (cWd d)) ∧ Ext w w' := by
  by_cases h : d < 0
  · have hw : Hid (cWd d = 0) := by show _ = _; rw [cWd, if_pos h]
    have hm : max d 0 = 0 := by omega
    go_enter Tryd.func20, Tryd.ntmps20
    go_wp2
    go_ret
    exact ⟨by rw [hw.out]; rfl, (Ext.refl _).alloc _⟩
  · by_cases h2 : 1000 < d
    · have hw : Hid (cWd d = 1000) := by show _ = _; rw [cWd, if_neg h, if_pos h2]
      go_enter Tryd.func20, Tryd.ntmps20
      go_wp2
      go_ret
      exact ⟨by rw [hw.out]; rfl, (Ext.refl _).alloc _⟩
    · have hw : Hid (cWd d = d) := by show _ = _; rw [cWd, if_neg h, if_neg h2]
      go_enter Tryd.func20, Tryd.ntmps20
      go_wp2
      go_ret
      exact ⟨by rw [hw.out]; rfl, (Ext.refl _).alloc _⟩
theorem infoI32w : (Tryd.prog.info? 21).map (fun i => (i.zero, i.size, i.bytes)) = some (some (.int .i32 0), 1, 4) := by kernel_rfl
theorem ints_news' {w : World} {ao : Option Addr} {cap : Nat} {bs : List Int} {k : IntKind} (h : IntsAt w k (.slice ao bs.length cap) bs) (h0 : 0 < bs.length) : ∃ b off, ao = some ⟨b, off, none⟩ ∧ ∀ j u, (bs.map (Value.int k))[j]? = some u → w.cell? ((⟨b, off, none⟩ : Addr).add j) = some u := by
  obtain ⟨ao', c, e, _, hx⟩ := h
  obtain ⟨b, off, e2, hc⟩ := hx h0
  injection e with e3
  refine ⟨b, off, e3.trans e2, fun j u hj => ?_⟩
  have hjl : j < bs.length := by
    have := (List.getElem?_eq_some_iff.1 hj).1
    simpa using this
  rw [Addr.add_lit, hc j hjl]
  simp [at0_lt hjl] at hj
  rw [hj]
set_option maxHeartbeats 1000000 in
theorem copyCluster_any (r : Value) (xs : List Int) (d : Int) (w : World) (hr : IntsAt w .i32 r xs) (hx : xs.length ≤ 16777216) :
    Calls Tryd.prog 21 #[.agg #[r, .int .i64 d]] w fun e w' => ∃ r', e = .returned (.agg #[r', .int .i64 d]) ∧ w'.ownsRow w.heap.size 21 1 r' xs.length (xs.map (Value.int .i32)) ∧ Ext w w' := by
  obtain ⟨i0, hi, hz0, hz1, hz2⟩ := info_parts infoI32w
  have HR := hide hr
  obtain ⟨ao, cap, rfl, _, _⟩ := hr
  obtain ⟨V, hV⟩ : ∃ V, V = (w.alloc (.cells #[.slice ao xs.length cap, .int .i64 d] 32)).alloc (.cells #[.slice none 0 0, .int .i64 0] 32) := ⟨_, rfl⟩
  have hzV : V.heap.size = w.heap.size + 2 := by rw [hV]; simp
  have EV : Ext w V := by rw [hV]; exact ((Ext.refl _).alloc _).alloc _
  have c0 : V.cell? ⟨w.heap.size, 0, none⟩ = some (.slice ao xs.length cap) := by rw [hV]; simp [go_sem]
  have c1 : V.cell? ⟨w.heap.size, 1, none⟩ = some (.int .i64 d) := by rw [hV]; simp [go_sem]
  have c2 : V.cell? ⟨w.heap.size + 1, 0, none⟩ = some (.slice none 0 0) := by rw [hV]; simp [go_sem]
  have c3 : V.cell? ⟨w.heap.size + 1, 1, none⟩ = some (.int .i64 0) := by rw [hV]; simp [go_sem]
  have f2 : V.frozen? ⟨w.heap.size + 1, 0, none⟩ = false := by rw [hV]; simp [go_sem]
  have f3 : V.frozen? ⟨w.heap.size + 1, 1, none⟩ = false := by rw [hV]; simp [go_sem]
  have HO : Hid (V.drew.ownsRow (w.heap.size + 2) 21 1 (.slice none 0 0) 0 []) := ⟨by simp, .inl ⟨rfl, rfl⟩⟩
  have HVV := hide hV
  clear hV
  by_cases h0 : 0 < xs.length
  · obtain ⟨b, off, rfl, hn⟩ := ints_news' ((unhide HR).ext EV.drew) h0
    have HC := hide hn
    clear hn
    go_enter Tryd.func21, Tryd.ntmps21
    go_wp2
    rw [← unhide HVV]
    go_region_law (first
      | (refine step_append_lies _ (by rfl) _ _ _ (by rfl) (w.heap.size + 2) 21 i0 _ 1 4 Tryd.underlying25 hi hz0 hz1 hz2 rfl (by omega) _ 0 [] (by rfl) (unhide HO) ⟨b, off, none⟩ xs.length cap (xs.map (Value.int .i32)) (by rfl) (by simp) (unhide HC) (ints_oneCell _ _) (by omega) (by unfold maxLen; omega) (by omega) (by simp [hzV]) (w.heap.size + 2) (by simp [hzV]) ?_; intro g1 cap1 w1 o1 G1 at1 lt1; have E1 : Ext V w1 := (Ext.refl V).drew.grown G1 (fun k hk => by simp [Value.ownBlock] at hk); have k0 := E1.cell c0; have k1 := E1.cell c1; have k2 := E1.cell c2; have k3 := E1.cell c3; have k4 := E1.rules.2 _ 0 (show w.heap.size + 1 < _ by omega); have k5 := E1.rules.2 _ 1 (show w.heap.size + 1 < _ by omega); rw [f2] at k4; rw [f3] at k5; have O1 := hide o1; clear o1 G1))
    all_goals
      go_wp2
      refine bodyPost_ret (v := .agg #[.slice (some ⟨g1, 0, none⟩) (0 + xs.length) cap1, .int .i64 d]) (by simp [results, Tryd.results21, go_sem, k2, k3]) rfl ⟨_, rfl, ?_, ?_⟩
      · rw [Nat.zero_add]
        have := unhide O1
        rw [Nat.zero_add, List.nil_append] at this
        refine owns_setCell (owns_setCell (owns_mono this (by omega)) ?_ _) ?_ _
        · intro e; have := (this.lt _ e).1; dsimp only at this; omega
        · intro e; have := (this.lt _ e).1; dsimp only at this; omega
      · exact ((EV.trans E1).setCell (by dsimp only; omega) _).setCell (by dsimp only; omega) _
  · have e0 : xs = [] := List.eq_nil_of_length_eq_zero (by omega)
    subst e0
    simp only [List.length_nil] at HVV c0
    rcases ao with _ | ⟨b, off, sp⟩
    · go_enter Tryd.func21, Tryd.ntmps21
      go_wp2
      rw [← unhide HVV]
      go_region_law (first | fail)
      all_goals
        go_wp2
        refine bodyPost_ret (v := .agg #[.slice none 0 0, .int .i64 d]) (by simp [results, Tryd.results21, go_sem, c2, c3]) rfl ⟨_, rfl, ⟨by simp, .inl ⟨rfl, rfl⟩⟩, ?_⟩
        repeat' first | exact EV | refine Ext.drew ?_ | refine Ext.setCell ?_ (by dsimp only; omega) _
    · go_enter Tryd.func21, Tryd.ntmps21
      go_wp2
      rw [← unhide HVV]
      go_region_law (first | fail)
      all_goals
        go_wp2
        refine bodyPost_ret (v := .agg #[.slice none 0 0, .int .i64 d]) (by simp [results, Tryd.results21, go_sem, c2, c3]) rfl ⟨_, rfl, ⟨by simp, .inl ⟨rfl, rfl⟩⟩, ?_⟩
        repeat' first | exact EV | refine Ext.drew ?_ | refine Ext.setCell ?_ (by dsimp only; omega) _
end Go.Proofs.YtmomcccgjjjldaaDoor
