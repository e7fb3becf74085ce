import Derived.Test.YtlnmpbdnmlpkiaaDoorStrs
import Derived.Deep.SlicePairs
namespace Go.Proofs.YtlnmpbdnmlpkiaaDoor
open Go.ChangeShapes Go.WideShapes Go.ChangeAt Go.RowKit Go.Deep

/-- A block's value. -/
def blV (v : Value) (row col : Int) : Value := .agg #[v, .int .i64 row, .int .i64 col]
set_option maxHeartbeats 1000000 in
theorem eqBlock_same (va vb : Value) (row col : Int) (n : Nat) (tx : Nat → ByteArray) (w : World) (ha : Row1At w va n (fun j => .string (tx j))) (hb : Row1At w vb n (fun j => .string (tx j))) (hn : n ≤ 4398046511104) :
    Calls Tryd.prog 34 #[blV va row col, blV vb row col] w fun e w' => e = .returned (.bool true) ∧ Ext w w' := by
  have hcon := hide (fun W (hW : Ext w W) => eqStringS_same va vb n tx W (ha.ext hW) (hb.ext hW) hn)
  obtain ⟨ao, cap, rfl, _, _⟩ := ha
  obtain ⟨bo, cbp, rfl, _, _⟩ := hb
  unfold blV
  go_enter Tryd.func34, Tryd.ntmps34
  go_wp2_with fail
  refine ((unhide hcon) _ (((Ext.refl _).alloc _).alloc _)).mono ?_
  rintro e w1 ⟨rfl, F1⟩
  obtain ⟨hc, _⟩ := F1.rules
  go_wp2
  go_ret
  exact ⟨rfl, (((Ext.refl _).alloc _).alloc _).trans F1⟩
set_option maxHeartbeats 1000000 in
theorem markBlock_any (base : Nat) (v : Value) (row col : Int) (n : Nat) (A : Nat → Value) (k : Int) (w : World) (hv : Own1 w base 9 v n A) (hn : n ≤ 1099511627776) (hk : 0 ≤ k) (hk2 : k ≤ 1099511627776) :
    Calls Tryd.prog 35 #[blV v row col, .int .i64 k] w fun e w' => e = .returned (.int .i64 (k + (n : Int))) ∧ Fr (fun g => v.ownBlock = some g) w w' := by
  have hcon := hide (fun W (hW : Ext w W) => markStringS_any base v n A k W (hv.ext hW) hn hk hk2)
  have HF := hide hv.form
  unfold blV
  rcases hv.form with ⟨rfl, h0⟩ | ⟨g, cap, rfl⟩
  all_goals
    go_enter Tryd.func35, Tryd.ntmps35
    go_wp2_with fail
    refine ((unhide hcon) _ ((Ext.refl _).alloc _)).mono ?_
    rintro e w1 ⟨rfl, _, F1⟩
    go_wp2
    go_ret
    exact ⟨ret_int (by omega), Fr.tr (Fr.of_ext ((Ext.refl _).alloc _)) F1⟩
end Go.Proofs.YtlnmpbdnmlpkiaaDoor
