import Derived.Test.YtaddlkhaokdpdaaDoorTextOkI
import Derived.Test.YtaddlkhaokdpdaaDoorStrs
namespace Go.Proofs.YtaddlkhaokdpdaaDoor
open Go.RowKit
def ItemP (bs : List Int) : Prop := bs ≠ [] ∧ settleL bs = bs ∧ (cleanL bs).length ≤ 300
theorem encA_len : ∀ xs : List Int, (encA xs).length ≤ 4 * xs.length
  | [] => by simp [encA]
  | x :: xs => by
    have := encA_len xs
    have h2 : (encR x).length ≤ 4 := by
      unfold encR encL
      repeat' split
      all_goals simp
    simp only [encA, List.length_append, List.length_cons]
    omega
theorem settled_short (bs : List Int) (h : settleL bs = bs) : bs.length ≤ 4 * (cleanL bs).length := by
  have hv := ((settled_iff bs).1 h).2.2
  have h1 := encA_len (runesL bs)
  rw [hv] at h1
  rw [clean_runes, List.length_map]
  exact h1
theorem toBA_some {bs : List Int} (h : bs ≠ []) : (toBA bs).toList.isEmpty = false := by
  rw [toList_data, toBA_list]
  cases bs with
  | nil => exact absurd rfl h
  | cons a r => rfl
set_option maxRecDepth 10000 in
set_option maxHeartbeats 1000000 in
theorem itemOk_any (bs : List Int) (hb : Bytes bs) (w : World) (hl : bs.length ≤ 16777216) (hT : Tabs3 w) (ok : Bool) (hok : ok = true ↔ ItemP bs) :
    Calls Tryd.prog 26 #[.string (toBA bs)] w fun e w' => e = .returned (.bool ok) ∧ Ext w w' := by
  by_cases h0 : bs = []
  · have hfin : Hid (ok = false) := by
      refine hide ?_
      cases hc : ok with
      | false => rfl
      | true => exact absurd h0 (hok.1 hc).1
    subst h0
    rw [toBA_nil]
    go_enter Tryd.func26, Tryd.ntmps26
    go_wp2
    go_ret
    exact ⟨ret_bool (unhide hfin).symm, Ext.refl _⟩
  · have hs := textOk_any bs hb w hl hT ok (by
      rw [hok]
      unfold ItemP TextP
      simp [h0])
    have HS := hide hs
    have hne := toBA_some h0
    clear hs hok
    go_enter Tryd.func26, Tryd.ntmps26
    go_wp2_with fail
    refine (unhide HS).mono ?_
    rintro e w1 ⟨rfl, F1⟩
    go_wp2
    go_ret
    exact ⟨rfl, F1⟩
set_option maxRecDepth 10000 in
set_option maxHeartbeats 1000000 in
theorem l5TextOk_any (bs : List Int) (hb : Bytes bs) (w : World) (hl : bs.length ≤ 4194304) (ok : Bool) (hok : ok = true ↔ ItemP bs) :
    Calls Tryd.prog 24 #[.string (toBA bs)] w fun e w' => e = .returned (.bool ok) ∧ Ext w w' := by
  by_cases h0 : bs = []
  · have hfin : Hid (ok = false) := by
      refine hide ?_
      cases hc : ok with
      | false => rfl
      | true => exact absurd h0 (hok.1 hc).1
    subst h0
    rw [toBA_nil]
    go_enter Tryd.func24, Tryd.ntmps24
    go_wp2
    go_ret
    exact ⟨ret_bool (unhide hfin).symm, Ext.refl _⟩
  · have hs := l4TextOk_any bs hb w hl ok (by
      rw [hok]
      unfold ItemP
      constructor
      · rintro ⟨_, h1, h2⟩
        have := settled_short bs h1
        exact ⟨by omega, h2, h1⟩
      · rintro ⟨_, h1, h2⟩
        exact ⟨h0, h2, h1⟩)
    have HS := hide hs
    have hne := toBA_some h0
    clear hs hok
    go_enter Tryd.func24, Tryd.ntmps24
    go_wp2_with fail
    refine (unhide HS).mono ?_
    rintro e w1 ⟨rfl, F1⟩
    go_wp2
    go_ret
    exact ⟨rfl, F1⟩
end Go.Proofs.YtaddlkhaokdpdaaDoor
