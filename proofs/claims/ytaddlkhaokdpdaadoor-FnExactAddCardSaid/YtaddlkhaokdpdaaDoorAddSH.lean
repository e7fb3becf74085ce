import Derived.Test.YtaddlkhaokdpdaaDoorAddI
import Derived.Test.YtaddlkhaokdpdaaDoorHistS
namespace Go.Proofs.YtaddlkhaokdpdaaDoor
open Go.RowKit
theorem l5TextOk_ba (a : ByteArray) (w : World) (hla : a.size ≤ 1048576) (ok : Bool) (hok : ok = true ↔ ItemP (baL a)) :
    Calls Tryd.prog 24 #[.string a] w fun e w' => e = .returned (.bool ok) ∧ Ext w w' := by
  have h := l5TextOk_any (baL a) (baL_bytes a) w (by rw [baL_len]; omega) ok hok
  rwa [toBA_baL] at h
theorem block_new {w : World} {cs : Array Value} {T : TypeId} (i : Nat) (x : Value) (hx : cs[i]? = some x) : (w.alloc (.cells cs T)).cell? ⟨w.heap.size, i, none⟩ = some x ∧ (w.alloc (.cells cs T)).frozen? ⟨w.heap.size, i, none⟩ = false :=
  ⟨cells_of (new_block w _) i x hx, ring_frozen (new_block w _) i⟩
theorem hist_frozen {w2 : World} {B D i : Nat} {c : Int} {v' : Value} (h : w2.frozen? ⟨D, i, none⟩ = false) : ((w2.setCell ⟨B, 0, none⟩ (.int .i64 c)).setCell ⟨B, 1, none⟩ v').frozen? ⟨D, i, none⟩ = false := by
  rw [World.frozen?_setCell, World.frozen?_setCell]; exact h
theorem hist_else {w2 : World} {B D i : Nat} {c : Int} {v v' : Value} (h : w2.cell? ⟨D, i, none⟩ = some v) (hne : B ≠ D) : ((w2.setCell ⟨B, 0, none⟩ (.int .i64 c)).setCell ⟨B, 1, none⟩ v').cell? ⟨D, i, none⟩ = some v := by
  rw [World.cell?_setCell_other _ _ _ _ (fun e => hne (congrArg Addr.block e)), World.cell?_setCell_other _ _ _ _ (fun e => hne (congrArg Addr.block e))]; exact h
end Go.Proofs.YtaddlkhaokdpdaaDoor
