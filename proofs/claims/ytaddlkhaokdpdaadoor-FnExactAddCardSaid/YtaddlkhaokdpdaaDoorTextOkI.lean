import Derived.Test.YtaddlkhaokdpdaaDoorSnapOk
namespace Go.Proofs.YtaddlkhaokdpdaaDoor
open Go.RowKit
theorem toBA_nil : toBA [] = { data := #[] } := rfl
def TextP (bs : List Int) : Prop := settleL bs = bs ∧ (cleanL bs).length ≤ 300
theorem TextP_snap (bs : List Int) : TextP bs ↔ SnapP bs [] := by
  unfold TextP SnapP
  have e1 : settleL [] = [] := rfl
  have e2 : cleanL [] = [] := rfl
  simp [e1, e2]
set_option maxRecDepth 10000 in
set_option maxHeartbeats 1000000 in
theorem textOk_any (bs : List Int) (hb : Bytes bs) (w : World) (hl : bs.length ≤ 16777216) (hT : Tabs3 w) (ok : Bool) (hok : ok = true ↔ TextP bs) :
    Calls Tryd.prog 33 #[.string (toBA bs)] w fun e w' => e = .returned (.bool ok) ∧ Ext w w' := by
  have hs := fun W (hW : Ext w W) => snapOk_any bs [] hb (fun x hx => by simp at hx) W hl (by simp) (hT.ext hW) ok (by rw [hok, TextP_snap])
  rw [toBA_nil] at hs
  have HS := hide hs
  clear hs hok
  go_enter Tryd.func33, Tryd.ntmps33
  go_wp2_with fail
  refine ((unhide HS) _ (Ext.refl _)).mono ?_
  rintro e w1 ⟨rfl, F1⟩
  go_wp2
  go_ret
  exact ⟨rfl, F1⟩
end Go.Proofs.YtaddlkhaokdpdaaDoor
