import Derived.Test.YtaddlkhaokdpdaaDoorValid
import Derived.Test.YtaddlkhaokdpdaaDoorSettledI
import Derived.Test.YtaddlkhaokdpdaaDoorL4Text
import Derived.Test.YtaddlkhaokdpdaaDoorRuneCount
import Derived.Test.YtaddlkhaokdpdaaDoorTabs
import Derived.Test.YtaddlkhaokdpdaaDoorShelfV
import Derived.Deep.RegionHeldLaw
namespace Go.Proofs.YtaddlkhaokdpdaaDoor
open Go.RowKit
theorem validString_any (bs : List Int) (hb : Bytes bs) (w : World) (hl : bs.length ≤ 16777216) (hT : Tabs3 w) (vb : Bool) (hvb : vb = true ↔ ValidL bs) :
    Calls Tryd.prog 62 #[.string (toBA bs)] w fun e w' => e = .returned (.bool vb) ∧ Ext w w' := by
  have hc := Any.utf8_ValidString Tryd.lays196 (toBA bs) w (by rw [toBA_size]; omega) hT.2
  refine Calls.mono hc ?_
  rintro e w' ⟨rfl, hb'⟩
  refine ⟨ret_bool ?_, Ext.of_below hb'⟩
  have := validD_iff _ bs (Nat.le_refl _) hb
  rw [Bool.eq_iff_iff, this, hvb]
theorem settledT_any (bs : List Int) (hb : Bytes bs) (w : World) (hl : bs.length ≤ 16777216) (hT : Tabs3 w) (ok : Bool) (hok : ok = true ↔ settleL bs = bs) :
    Calls Tryd.prog 50 #[.string (toBA bs)] w fun e w' => e = .returned (.bool ok) ∧ Ext w w' := by
  obtain ⟨vb, hvb⟩ : ∃ vb : Bool, vb = true ↔ ValidL bs := by
    by_cases h : ValidL bs
    · exact ⟨true, by simp [h]⟩
    · exact ⟨false, by simp [h]⟩
  exact settled_any bs hb w hl hT.1 vb hvb (fun W hW => validString_any bs hb W hl (hT.ext hW) vb hvb) ok hok
def SnapP (a b : List Int) : Prop := settleL a = a ∧ settleL b = b ∧ (cleanL a).length + (cleanL b).length ≤ 300
set_option maxRecDepth 10000 in
set_option maxHeartbeats 2000000 in
theorem snapOk_any (a b : List Int) (ha : Bytes a) (hb : Bytes b) (w : World) (hla : a.length ≤ 16777216) (hlb : b.length ≤ 16777216) (hT : Tabs3 w) (ok : Bool) (hok : ok = true ↔ SnapP a b) :
    Calls Tryd.prog 32 #[.agg #[.string (toBA a), .string (toBA b)]] w fun e w' => e = .returned (.bool ok) ∧ Ext w w' := by
  have hkA := cleanL_len a
  have hkB := cleanL_len b
  have q0 : ∀ o, (w.alloc (.cells #[.string (toBA a), .string (toBA b)] o)).cell? ⟨w.heap.size, 0, none⟩ = some (.string (toBA a)) := fun o => by simp [go_sem]
  have q1 : ∀ o, (w.alloc (.cells #[.string (toBA a), .string (toBA b)] o)).cell? ⟨w.heap.size, 1, none⟩ = some (.string (toBA b)) := fun o => by simp [go_sem]
  have EA := (Ext.refl w).alloc (.cells #[.string (toBA a), .string (toBA b)] 54)
  obtain ⟨U, hU⟩ : ∃ U, U = w.alloc (.cells #[.string (toBA a), .string (toBA b)] 54) := ⟨_, rfl⟩
  have p0 := q0 54
  have p1 := q1 54
  rw [← hU] at p0 p1 EA
  have HU := hide hU
  clear hU q0 q1
  by_cases hsa : settleL a = a
  · have hcA := hide (fun W (hW : Ext w W) => settledT_any a ha W hla (hT.ext hW) true (by simp [hsa]))
    by_cases hsb : settleL b = b
    · have hcB := hide (fun W (hW : Ext w W) => settledT_any b hb W hlb (hT.ext hW) true (by simp [hsb]))
      have hrA := hide (fun W => runeCount_any a ha W hla)
      have hrB := hide (fun W => runeCount_any b hb W hlb)
      have hw : IntKind.i64.wrap (((cleanL a).length : Int) + ((cleanL b).length : Int)) = ((cleanL a).length : Int) + ((cleanL b).length : Int) := by rw [IntKind.wrap_i64]; omega
      have tokA : True := trivial
      have tokB : True := trivial
      by_cases hle : ((cleanL a).length : Int) + ((cleanL b).length : Int) ≤ 300
      · have hfin : Hid (ok = true) := hide (hok.2 ⟨hsa, hsb, by omega⟩)
        clear hok hT hsa hsb
        go_enter Tryd.func32, Tryd.ntmps32
        go_wp2
        rw [← unhide HU]
        clear HU
        go_region_held_law (fun W => W.cell? ⟨w.heap.size, 0, none⟩ = some (.string (toBA a)) ∧ W.cell? ⟨w.heap.size, 1, none⟩ = some (.string (toBA b)))
          (first | exact ⟨p0, p1⟩ | exact ⟨he'.cell p0, he'.cell p1⟩)
          (first
            | (go_at_call 50; have _t := tokA; refine ((unhide hcA) _ EA.drew).mono ?_; rintro e w1 ⟨rfl, F1⟩; have he' := (Ext.refl U).drew.trans F1; clear tokA F1)
            | (go_at_call 50; refine ((unhide hcB) _ (EA.trans he')).mono ?_; rintro e w2 ⟨rfl, F2⟩; have he' := he'.trans F2; clear F2)
            | (go_at_call 51; have _t := tokB; refine ((unhide hrA) _).mono ?_; rintro e w3 ⟨rfl, F3⟩; have he' := he'.trans F3; clear tokB F3)
            | (go_at_call 51; refine ((unhide hrB) _).mono ?_; rintro e w4 ⟨rfl, F4⟩; have he' := he'.trans F4; clear F4))
        all_goals
          go_wp2
          go_ret
          exact ⟨ret_bool (by first | exact (unhide hfin).symm | exact (decide_eq_false (by omega)).trans (unhide hfin).symm), EA.trans he'⟩
      · have hfin : Hid (ok = false) := by
          refine hide ?_
          cases hc : ok with
          | false => rfl
          | true => exact absurd (hok.1 hc).2.2 (by omega)
        clear hok hT hsa hsb
        go_enter Tryd.func32, Tryd.ntmps32
        go_wp2
        rw [← unhide HU]
        clear HU
        go_region_held_law (fun W => W.cell? ⟨w.heap.size, 0, none⟩ = some (.string (toBA a)) ∧ W.cell? ⟨w.heap.size, 1, none⟩ = some (.string (toBA b)))
          (first | exact ⟨p0, p1⟩ | exact ⟨he'.cell p0, he'.cell p1⟩)
          (first
            | (go_at_call 50; have _t := tokA; refine ((unhide hcA) _ EA.drew).mono ?_; rintro e w1 ⟨rfl, F1⟩; have he' := (Ext.refl U).drew.trans F1; clear tokA F1)
            | (go_at_call 50; refine ((unhide hcB) _ (EA.trans he')).mono ?_; rintro e w2 ⟨rfl, F2⟩; have he' := he'.trans F2; clear F2)
            | (go_at_call 51; have _t := tokB; refine ((unhide hrA) _).mono ?_; rintro e w3 ⟨rfl, F3⟩; have he' := he'.trans F3; clear tokB F3)
            | (go_at_call 51; refine ((unhide hrB) _).mono ?_; rintro e w4 ⟨rfl, F4⟩; have he' := he'.trans F4; clear F4))
        all_goals
          go_wp2
          go_ret
          exact ⟨ret_bool (by first | exact (unhide hfin).symm | exact (decide_eq_false (by omega)).trans (unhide hfin).symm), EA.trans he'⟩
    · have hcB := hide (fun W (hW : Ext w W) => settledT_any b hb W hlb (hT.ext hW) false (by simp [hsb]))
      have hfin : Hid (ok = false) := by
        refine hide ?_
        cases hc : ok with
        | false => rfl
        | true => exact absurd (hok.1 hc).2.1 hsb
      have tokA : True := trivial
      clear hok hT hsa hsb
      go_enter Tryd.func32, Tryd.ntmps32
      go_wp2
      rw [← unhide HU]
      clear HU
      first
        | (go_region_law (first
          | (go_simp; go_at_call 50; have _t := tokA; refine ((unhide hcA) _ EA.drew).mono ?_; rintro e w1 ⟨rfl, F1⟩; have he' := (Ext.refl U).drew.trans F1; have p0' := he'.cell p0; have p1' := he'.cell p1; clear tokA F1)
          | (go_simp; go_at_call 50; refine ((unhide hcB) _ (EA.trans he')).mono ?_; rintro e w2 ⟨rfl, F2⟩; have he' := he'.trans F2; clear F2)))
        | fail
      all_goals
        go_wp2
        go_ret
        exact ⟨ret_bool (by first | exact (unhide hfin).symm | exact (decide_eq_false (by omega)).trans (unhide hfin).symm), EA.trans he'⟩
  · have hcA := hide (fun W (hW : Ext w W) => settledT_any a ha W hla (hT.ext hW) false (by simp [hsa]))
    have hfin : Hid (ok = false) := by
      refine hide ?_
      cases hc : ok with
      | false => rfl
      | true => exact absurd (hok.1 hc).1 hsa
    clear hok hT hsa
    go_enter Tryd.func32, Tryd.ntmps32
    go_wp2
    rw [← unhide HU]
    clear HU
    first
      | (go_region_law (first
        | (go_simp; go_at_call 50; refine ((unhide hcA) _ EA.drew).mono ?_; rintro e w1 ⟨rfl, F1⟩; have he' := (Ext.refl U).drew.trans F1; clear F1)))
      | fail
    all_goals
      go_wp2
      go_ret
      exact ⟨ret_bool (by first | exact (unhide hfin).symm | exact (decide_eq_false (by omega)).trans (unhide hfin).symm), EA.trans he'⟩
end Go.Proofs.YtaddlkhaokdpdaaDoor
