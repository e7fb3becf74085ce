import Derived.Test.YtaddlkhaokdpdaaDoorHst
import Derived.Test.YtaddlkhaokdpdaaDoorCells
import Derived.Test.YtaddlkhaokdpdaaDoorBlocks
namespace Go.Proofs.YtaddlkhaokdpdaaDoor
open Go.RowKit
def HBox (W : World) (B : Nat) (cap : Int) (v : Value) : Prop := W.cell? ⟨B, 0, none⟩ = some (.int .i64 cap) ∧ W.cell? ⟨B, 1, none⟩ = some v
theorem HBox.new (w : World) (cap : Int) (v : Value) (T : TypeId) : HBox (w.alloc (.cells #[.int .i64 cap, v] T)) w.heap.size cap v :=
  ⟨cells_of (new_block w _) 0 _ rfl, cells_of (new_block w _) 1 _ rfl⟩
theorem HBox.fr {S : Nat → Prop} {W W' : World} {B : Nat} {cap : Int} {v : Value} (h : HBox W B cap v) (hf : Fr S W W') (hS : ¬ S B) : HBox W' B cap v := by
  have hb := hf.block B (lt_of_cell h.1) hS
  exact ⟨(World.cell?_of_block (a := ⟨B, 0, none⟩) hb).trans h.1, (World.cell?_of_block (a := ⟨B, 1, none⟩) hb).trans h.2⟩
theorem HBox.ext {W W' : World} {B : Nat} {cap : Int} {v : Value} (h : HBox W B cap v) (he : Ext W W') : HBox W' B cap v := ⟨he.cell h.1, he.cell h.2⟩
set_option maxRecDepth 10000 in
set_option maxHeartbeats 1000000 in
theorem markHistory_any (base : Nat) (cap : Int) (v : Value) (n : Nat) (A : Nat → Value) (k : Int) (w : World) (hv : Own1 w base 9 v n A) (hn : n ≤ 1099511627776) (hk : 0 ≤ k) (hk2 : k ≤ 1099511627776) :
    Calls Tryd.prog 21 #[.agg #[.int .i64 cap, v], .int .i64 k] w fun e w' => e = .returned (.int .i64 (k + (n : Int))) ∧ Own1 w' base 9 v n (mkS k) ∧ Fr (fun g => v.ownBlock = some g) w w' := by
  have hcon := hide (fun W (hW : Ext w W) => markStringS_any base v n A k W (hv.ext hW) hn hk hk2)
  rcases hv.form with ⟨rfl, h0⟩ | ⟨g, cap', rfl⟩
  all_goals
    go_enter Tryd.func21, Tryd.ntmps21
    go_wp2_with fail
    refine ((unhide hcon) _ ((Ext.refl _).alloc _)).mono ?_
    rintro e w1 ⟨rfl, O1, F1⟩
    have HO := hide O1
    clear O1
    go_wp2
    go_ret
    exact ⟨ret_int (by omega), unhide HO, Fr.tr (Fr.of_ext ((Ext.refl _).alloc _)) F1⟩
set_option maxRecDepth 10000 in
set_option maxHeartbeats 1000000 in
theorem heldHistory_any (cap : Int) (v : Value) (n : Nat) (k : Int) (w : World) (hv : Row1At w v n (mkS k)) (hn : n ≤ 1099511627776) (hk : 0 ≤ k) (hk2 : k ≤ 1099511627776) :
    Calls Tryd.prog 22 #[.agg #[.int .i64 cap, v], .int .i64 k] w fun e w' => e = .returned (.int .i64 (k + (n : Int))) ∧ Ext w w' := by
  have hcon := hide (fun W (hW : Ext w W) => heldStringS_any v n k W (hv.ext hW) hn hk hk2)
  obtain ⟨ao, ca, rfl, _, _⟩ := hv
  have hp : ¬ k + (n : Int) < 0 := by omega
  go_enter Tryd.func22, Tryd.ntmps22
  go_wp2_with fail
  refine ((unhide hcon) _ ((Ext.refl _).alloc _)).mono ?_
  rintro e w1 ⟨rfl, F1⟩
  go_wp2
  go_ret
  exact ⟨rfl, ((Ext.refl _).alloc _).trans F1⟩
end Go.Proofs.YtaddlkhaokdpdaaDoor
