import Derived.Test.YtaddlkhaokdpdaaDoorSettle
namespace Go.Proofs.YtaddlkhaokdpdaaDoor
open Go.RowKit
theorem toBA_ne {xs ys : List Int} (hx : Bytes xs) (hy : Bytes ys) (h : xs ≠ ys) : ((toBA xs).toList == (toBA ys).toList) = false := by
  rw [beq_eq_false_iff_ne, toList_data, toList_data]
  intro e
  exact h (toBA_inj hx hy (WideShapes.bytes_inj e))
set_option maxRecDepth 10000 in
set_option maxHeartbeats 400000 in
theorem l4Count_any (bs : List Int) (hb : Bytes bs) (w : World) (hl : bs.length ≤ 8000000) :
    Calls Tryd.prog 30 #[.string (toBA bs)] w fun e w' => e = .returned (.int .i64 ((cleanL bs).length : Int)) ∧ Ext w w' := by
  obtain ⟨v0, w0, hrun, h0, E0⟩ := run_s2i (P := Tryd.prog) w _ _ _ Tryd.underlying9 Tryd.underlying75 Tryd.underlying5 bs hb
  have H0 := hide h0
  clear h0
  go_enter Tryd.func30, Tryd.ntmps30
  go_wp2_with fail
  refine (specClean_any bs hb v0 w0 (unhide H0) (by omega)).mono ?_
  rintro e w1 ⟨v1, rfl, o1, F1⟩
  obtain ⟨ao, cap, hv1, _, _⟩ := ints_of_owns o1
  subst hv1
  clear o1
  go_wp2
  go_ret
  exact ⟨rfl, E0.trans F1⟩
set_option maxRecDepth 10000 in
set_option maxHeartbeats 1000000 in
theorem l4TextOk_any (bs : List Int) (hb : Bytes bs) (w : World) (hl : bs.length ≤ 4194304) (ok : Bool) (hok : ok = true ↔ (bs.length ≤ 1200 ∧ (cleanL bs).length ≤ 300 ∧ settleL bs = bs)) :
    Calls Tryd.prog 29 #[.string (toBA bs), .int .i64 300] w fun e w' => e = .returned (.bool ok) ∧ Ext w w' := by
  have hsz := toBA_size bs
  have HOK := hide hok
  clear hok
  by_cases h1 : bs.length ≤ 1200
  · have h1I : (bs.length : Int) ≤ 1200 := by omega
    go_enter Tryd.func29, Tryd.ntmps29
    go_wp2_with fail
    refine (l4Count_any bs hb w (by omega)).mono ?_
    rintro e w1 ⟨rfl, F1⟩
    by_cases h2 : (cleanL bs).length ≤ 300
    · have h2I : ((cleanL bs).length : Int) ≤ 300 := by omega
      go_wp2_with fail
      refine (specSettle_any bs hb w1 (by omega)).mono ?_
      rintro e w2 ⟨rfl, F2⟩
      by_cases h3 : settleL bs = bs
      · have ht : ok = true := (unhide HOK).2 ⟨h1, h2, h3⟩
        subst ht
        rw [h3]
        go_wp2
        go_ret
        exact ⟨rfl, F1.trans F2⟩
      · have hf : ok = false := by
          cases ok
          · rfl
          · exact absurd ((unhide HOK).1 rfl).2.2 h3
        subst hf
        have hneb := toBA_ne (settleL_bytes bs) hb h3
        go_wp2
        go_ret
        exact ⟨rfl, F1.trans F2⟩
    · have h2I : ¬ ((cleanL bs).length : Int) ≤ 300 := by omega
      have hf : ok = false := by
        cases ok
        · rfl
        · exact absurd ((unhide HOK).1 rfl).2.1 h2
      subst hf
      go_wp2
      go_ret
      exact ⟨rfl, F1⟩
  · have h1I : ¬ (bs.length : Int) ≤ 1200 := by omega
    have hf : ok = false := by
      cases ok
      · rfl
      · exact absurd ((unhide HOK).1 rfl).1 h1
    subst hf
    go_enter Tryd.func29, Tryd.ntmps29
    go_wp2
    go_ret
    exact ⟨rfl, Ext.refl _⟩
end Go.Proofs.YtaddlkhaokdpdaaDoor
