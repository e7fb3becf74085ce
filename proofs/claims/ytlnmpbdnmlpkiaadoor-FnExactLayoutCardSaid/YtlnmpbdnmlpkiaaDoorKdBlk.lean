import Derived.Test.YtlnmpbdnmlpkiaaDoorKd
import Derived.Test.YtlnmpbdnmlpkiaaDoorSnaps
import Derived.Test.YtlnmpbdnmlpkiaaDoorSnapMark
import Derived.Test.YtlnmpbdnmlpkiaaDoorBlk
namespace Go.Proofs.YtlnmpbdnmlpkiaaDoor
open Go.RowKit

/-- Lines. -/
def lineK (a b c : ByteArray) (n : Nat) (tx hf : Nat → ByteArray) : Kd where
  R w v := ∃ u, v = .agg #[.string a, .string b, .string c, u] ∧ Row2At w u n (fun j => .string (tx j)) (fun j => .string (hf j))
  O w base S v := ∃ u, v = .agg #[.string a, .string b, .string c, u] ∧ Own2 w base 167 u n (fun j => .string (tx j)) (fun j => .string (hf j)) ∧ ∀ g, S g ↔ u.ownBlock = some g
  rext := by rintro w w' v ⟨u, e, h⟩ he; exact ⟨u, e, h.ext he⟩
  oext := by rintro w w' b S v ⟨u, e, h, hS⟩ he; exact ⟨u, e, h.ext he, hS⟩
  ofr := by rintro w w' b S S' v ⟨u, e, h, hS⟩ hf hd; exact ⟨u, e, h.fr hf (fun g hg => hd g ((hS g).2 hg)), hS⟩
  reads := by rintro w b S v ⟨u, e, h, hS⟩; exact ⟨u, e, h.reads⟩
  lt := by rintro w b S v ⟨u, e, h, hS⟩ g hg; exact h.lt g ((hS g).1 hg)
theorem lineK_shape {a b c : ByteArray} {n : Nat} {tx hf : Nat → ByteArray} {w : World} {v : Value} (h : (lineK a b c n tx hf).R w v) : ∃ ua uc, v = .agg #[.string a, .string b, .string c, .slice ua n uc] := by
  obtain ⟨u, rfl, ua, uc, rfl, _⟩ := h
  exact ⟨ua, uc, rfl⟩
theorem lineK_own {a b c : ByteArray} {n : Nat} {tx hf : Nat → ByteArray} {w : World} {base : Nat} {u : Value} (h : Own2 w base 167 u n (fun j => .string (tx j)) (fun j => .string (hf j))) : (lineK a b c n tx hf).O w base (fun g => u.ownBlock = some g) (.agg #[.string a, .string b, .string c, u]) := ⟨u, rfl, h, fun _ => Iff.rfl⟩
theorem lineK_eq (a b c : ByteArray) (n : Nat) (tx hf : Nat → ByteArray) (hn : n ≤ 4398046511104) : EqOk 29 (lineK a b c n tx hf) := by
  rintro w x y ⟨ux, rfl, h1⟩ ⟨uy, rfl, h2⟩
  exact eqLine_same a b c ux uy n tx hf w h1 h2 hn
theorem lineK_mark (a b c : ByteArray) (n : Nat) (tx hf : Nat → ByteArray) (hn : n ≤ 1048576) : MarkOk 30 (lineK a b c n tx hf) (fun k => lineK a b c n (fun j => mtx (k + 2 * (j : Int))) (fun j => mtx (k + 2 * (j : Int) + 1))) (2 * n) := by
  rintro w base S v k ⟨u, rfl, h, hS⟩ h0 h1
  refine (markLine_any base a b c u n _ _ k w h hn h0 (by omega)).mono ?_
  rintro e w' ⟨rfl, o, f⟩
  rw [show ((2 * n : Nat) : Int) = 2 * (n : Int) by omega]
  exact ⟨rfl, ⟨u, rfl, o, hS⟩, f.mono (fun g hg => (hS g).2 hg)⟩
theorem lineK_held (a b c : ByteArray) (n : Nat) (hn : n ≤ 1048576) : HeldOk 31 (fun k => lineK a b c n (fun j => mtx (k + 2 * (j : Int))) (fun j => mtx (k + 2 * (j : Int) + 1))) (2 * n) := by
  rintro w v k ⟨u, rfl, h⟩ h0 h1
  have hc := heldLine_any a b c u n k w h hn h0 (by omega)
  rw [show ((2 * n : Nat) : Int) = 2 * (n : Int) by omega]
  exact hc
end Go.Proofs.YtlnmpbdnmlpkiaaDoor

namespace Go.Proofs.YtlnmpbdnmlpkiaaDoor
open Go.RowKit

set_option maxRecDepth 10000 in
set_option maxHeartbeats 1000000 in
theorem markBlock_own (base : Nat) (v : Value) (row col : Int) (n : Nat) (A : Nat → Value) (k : Int) (w : World) (hv : Own1 w base 9 v n A) (hn : n ≤ 1099511627776) (hk : 0 ≤ k) (hk2 : k ≤ 1099511627776) :
    Calls Tryd.prog 35 #[.agg #[v, .int .i64 row, .int .i64 col], .int .i64 k] w fun e w' => e = .returned (.int .i64 (k + (n : Int))) ∧ Own1 w' base 9 v n (mkS k) ∧ Fr (fun g => v.ownBlock = some g) w w' := by
  have HC := hide (fun U (hU : Ext w U) => markStringS_any base v n A k U (hv.ext hU) hn hk hk2)
  clear hv
  go_enter Tryd.func35, Tryd.ntmps35
  go_wp2_with fail
  refine ((unhide HC) _ ((Ext.refl w).alloc _)).mono ?_
  rintro e w1 ⟨rfl, o1, F1⟩
  have O1 := hide o1
  clear o1
  go_wp2
  go_ret
  exact ⟨rfl, unhide O1, ⟨F1.os, F1.tape, F1.output, Nat.le_trans ((Ext.refl w).alloc _).size F1.size, fun i hi hn => (F1.block i (Nat.lt_of_lt_of_le hi ((Ext.refl w).alloc _).size) hn).trans (((Ext.refl w).alloc _).heap hi)⟩⟩
set_option maxRecDepth 10000 in
set_option maxHeartbeats 1000000 in
theorem heldBlock_any (v : Value) (row col : Int) (n : Nat) (k : Int) (w : World) (hv : Row1At w v n (mkS k)) (hn : n ≤ 1099511627776) (hk : 0 ≤ k) (hk2 : k ≤ 1099511627776) :
    Calls Tryd.prog 36 #[.agg #[v, .int .i64 row, .int .i64 col], .int .i64 k] w fun e w' => e = .returned (.int .i64 (k + (n : Int))) ∧ Ext w w' := by
  have HC := hide (fun U (hU : Ext w U) => heldStringS_any v n k U (hv.ext hU) hn hk hk2)
  clear hv
  have hneg : ¬ k + (n : Int) < 0 := by omega
  go_enter Tryd.func36, Tryd.ntmps36
  go_wp2_with fail
  refine ((unhide HC) _ ((Ext.refl w).alloc _)).mono ?_
  rintro e w1 ⟨rfl, F1⟩
  go_wp2
  go_ret
  exact ⟨rfl, ((Ext.refl w).alloc _).trans F1⟩
/-- Blocks. -/
def blkK (n : Nat) (tx : Nat → ByteArray) (row col : Int) : Kd where
  R w v := ∃ u, v = .agg #[u, .int .i64 row, .int .i64 col] ∧ Row1At w u n (fun j => .string (tx j))
  O w base S v := ∃ u, v = .agg #[u, .int .i64 row, .int .i64 col] ∧ Own1 w base 9 u n (fun j => .string (tx j)) ∧ ∀ g, S g ↔ u.ownBlock = some g
  rext := by rintro w w' v ⟨u, e, h⟩ he; exact ⟨u, e, h.ext he⟩
  oext := by rintro w w' b S v ⟨u, e, h, hS⟩ he; exact ⟨u, e, h.ext he, hS⟩
  ofr := by rintro w w' b S S' v ⟨u, e, h, hS⟩ hf hd; exact ⟨u, e, h.fr hf (fun g hg => hd g ((hS g).2 hg)), hS⟩
  reads := by rintro w b S v ⟨u, e, h, hS⟩; exact ⟨u, e, h.reads⟩
  lt := by rintro w b S v ⟨u, e, h, hS⟩ g hg; exact h.lt g ((hS g).1 hg)
theorem blkK_shape {n : Nat} {tx : Nat → ByteArray} {row col : Int} {w : World} {v : Value} (h : (blkK n tx row col).R w v) : ∃ ua uc, v = .agg #[.slice ua n uc, .int .i64 row, .int .i64 col] := by
  obtain ⟨u, rfl, ua, uc, rfl, _⟩ := h
  exact ⟨ua, uc, rfl⟩
theorem blkK_own {n : Nat} {tx : Nat → ByteArray} {row col : Int} {w : World} {base : Nat} {u : Value} (h : Own1 w base 9 u n (fun j => .string (tx j))) : (blkK n tx row col).O w base (fun g => u.ownBlock = some g) (.agg #[u, .int .i64 row, .int .i64 col]) := ⟨u, rfl, h, fun _ => Iff.rfl⟩
theorem blkK_eq (n : Nat) (tx : Nat → ByteArray) (row col : Int) (hn : n ≤ 4398046511104) : EqOk 34 (blkK n tx row col) := by
  rintro w x y ⟨ux, rfl, h1⟩ ⟨uy, rfl, h2⟩
  exact eqBlock_same ux uy row col n tx w h1 h2 hn
theorem blkK_mark (n : Nat) (tx : Nat → ByteArray) (row col : Int) (hn : n ≤ 1099511627776) : MarkOk 35 (blkK n tx row col) (fun k => blkK n (fun j => mtx (k + (j : Int))) row col) n := by
  rintro w base S v k ⟨u, rfl, h, hS⟩ h0 h1
  refine (markBlock_own base u row col n _ k w h hn h0 (by omega)).mono ?_
  rintro e w' ⟨rfl, o, f⟩
  exact ⟨rfl, ⟨u, rfl, o, hS⟩, f.mono (fun g hg => (hS g).2 hg)⟩
theorem blkK_held (n : Nat) (row col : Int) (hn : n ≤ 1099511627776) : HeldOk 36 (fun k => blkK n (fun j => mtx (k + (j : Int))) row col) n := by
  rintro w v k ⟨u, rfl, h⟩ h0 h1
  exact heldBlock_any u row col n k w h hn h0 (by omega)
end Go.Proofs.YtlnmpbdnmlpkiaaDoor
