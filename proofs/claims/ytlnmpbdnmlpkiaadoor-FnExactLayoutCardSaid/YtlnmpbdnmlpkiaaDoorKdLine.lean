import Derived.Test.YtlnmpbdnmlpkiaaDoorKd
import Derived.Test.YtlnmpbdnmlpkiaaDoorSnaps
import Derived.Test.YtlnmpbdnmlpkiaaDoorSnapMark
namespace Go.Proofs.YtlnmpbdnmlpkiaaDoor
open Go.RowKit

/-- Lines. -/
def lineK (a b c : ByteArray) (n : Nat) (tx hf : Nat → ByteArray) : Kd where
  R w v := ∃ u, v = .agg #[.string a, .string b, .string c, u] ∧ Row2At w u n (fun j => .string (tx j)) (fun j => .string (hf j))
  O w base S v := ∃ u, v = .agg #[.string a, .string b, .string c, u] ∧ Own2 w base 167 u n (fun j => .string (tx j)) (fun j => .string (hf j)) ∧ ∀ g, S g ↔ u.ownBlock = some g
  rext := by rintro w w' v ⟨u, e, h⟩ he; exact ⟨u, e, h.ext he⟩
  oext := by rintro w w' b S v ⟨u, e, h, hS⟩ he; exact ⟨u, e, h.ext he, hS⟩
  ofr := by rintro w w' b S S' v ⟨u, e, h, hS⟩ hf hd; exact ⟨u, e, h.fr hf (fun g hg => hd g ((hS g).2 hg)), hS⟩
  reads := by rintro w b S v ⟨u, e, h, hS⟩; exact ⟨u, e, h.reads⟩
  lt := by rintro w b S v ⟨u, e, h, hS⟩ g hg; exact h.lt g ((hS g).1 hg)
theorem lineK_shape {a b c : ByteArray} {n : Nat} {tx hf : Nat → ByteArray} {w : World} {v : Value} (h : (lineK a b c n tx hf).R w v) : ∃ ua uc, v = .agg #[.string a, .string b, .string c, .slice ua n uc] := by
  obtain ⟨u, rfl, ua, uc, rfl, _⟩ := h
  exact ⟨ua, uc, rfl⟩
theorem lineK_own {a b c : ByteArray} {n : Nat} {tx hf : Nat → ByteArray} {w : World} {base : Nat} {u : Value} (h : Own2 w base 167 u n (fun j => .string (tx j)) (fun j => .string (hf j))) : (lineK a b c n tx hf).O w base (fun g => u.ownBlock = some g) (.agg #[.string a, .string b, .string c, u]) := ⟨u, rfl, h, fun _ => Iff.rfl⟩
theorem lineK_eq (a b c : ByteArray) (n : Nat) (tx hf : Nat → ByteArray) (hn : n ≤ 4398046511104) : EqOk 29 (lineK a b c n tx hf) := by
  rintro w x y ⟨ux, rfl, h1⟩ ⟨uy, rfl, h2⟩
  exact eqLine_same a b c ux uy n tx hf w h1 h2 hn
theorem lineK_mark (a b c : ByteArray) (n : Nat) (tx hf : Nat → ByteArray) (hn : n ≤ 1048576) : MarkOk 30 (lineK a b c n tx hf) (fun k => lineK a b c n (fun j => mtx (k + 2 * (j : Int))) (fun j => mtx (k + 2 * (j : Int) + 1))) (2 * n) := by
  rintro w base S v k ⟨u, rfl, h, hS⟩ h0 h1
  refine (markLine_any base a b c u n _ _ k w h hn h0 (by omega)).mono ?_
  rintro e w' ⟨rfl, o, f⟩
  rw [show ((2 * n : Nat) : Int) = 2 * (n : Int) by omega]
  exact ⟨rfl, ⟨u, rfl, o, hS⟩, f.mono (fun g hg => (hS g).2 hg)⟩
theorem lineK_held (a b c : ByteArray) (n : Nat) (hn : n ≤ 1048576) : HeldOk 31 (fun k => lineK a b c n (fun j => mtx (k + 2 * (j : Int))) (fun j => mtx (k + 2 * (j : Int) + 1))) (2 * n) := by
  rintro w v k ⟨u, rfl, h⟩ h0 h1
  have hc := heldLine_any a b c u n k w h hn h0 (by omega)
  rw [show ((2 * n : Nat) : Int) = 2 * (n : Int) by omega]
  exact hc
end Go.Proofs.YtlnmpbdnmlpkiaaDoor
