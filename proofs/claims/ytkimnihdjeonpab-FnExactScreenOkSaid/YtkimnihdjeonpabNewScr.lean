import Derived.Test.YtkimnihdjeonpabScr
import Derived.Test.YtkimnihdjeonpabSizeB
namespace Go.Proofs.Ytkimnihdjeonpab
open Go.RowKit
def noB : ByteArray := { data := #[] }
theorem infoCell : (Try.prog.info? 74).map (fun i => (i.zero, i.size, i.bytes)) = some (some (.agg #[.string noB, .bool false]), 2, 24) := by kernel_rfl
theorem infoRow : (Try.prog.info? 63).map (fun i => (i.zero, i.size, i.bytes)) = some (some (.slice none 0 0), 1, 24) := by kernel_rfl
theorem made_two (a b : Value) (n j : Nat) (hj : j < n) : (madeCells (Value.agg #[a, b]).cells (n * 2)).toList[j * 2]? = some a ∧ (madeCells (Value.agg #[a, b]).cells (n * 2)).toList[j * 2 + 1]? = some b := by
  have e0 : j * 2 % 2 = 0 := by omega
  have e1 : (j * 2 + 1) % 2 = 1 := by omega
  constructor
  · simp [madeCells, Value.cells, show j * 2 < n * 2 by omega, e0]
  · simp [madeCells, Value.cells, show j * 2 + 1 < n * 2 by omega, e1]
theorem made_row {w : World} {base : Nat} {T : TypeId} {v : Value} {n : Nat} {a b : Value} (h : w.ownsRow base T 2 v n (madeCells (Value.agg #[a, b]).cells (n * 2)).toList) : Own2 w base T v n (fun _ => a) (fun _ => b) :=
  ⟨_, h, fun j hj => made_two a b n j hj⟩
def PG (w : World) (base : Nat) (v : Value) (r c : Nat) (rv : Nat → Value) (j : Nat) : Prop :=
  Own1 w base 63 v r (fun i => if i < j then rv i else .slice none 0 0) ∧ (∀ i, i < j → Own2 w base 74 (rv i) c (fun _ => .string noB) (fun _ => .bool false)) ∧ (∀ i i' g, i < i' → i' < j → (rv i).ownBlock = some g → (rv i').ownBlock ≠ some g)
theorem PG.done {w : World} {base : Nat} {v : Value} {r c : Nat} {rv : Nat → Value} (h : PG w base v r c rv r) : OwnGrid w base v rv r (fun _ => c) (fun _ _ => .string noB) (fun _ _ => .bool false) :=
  ⟨h.1.congr (fun j hj => by simp [hj]), h.2.1, h.2.2⟩
theorem OwnGrid.base_le {w : World} {base base' : Nat} {v : Value} {rv : Nat → Value} {R : Nat} {C : Nat → Nat} {A B : Nat → Nat → Value} (h : OwnGrid w base v rv R C A B) (hb : base' ≤ base) : OwnGrid w base' v rv R C A B := by
  obtain ⟨⟨xs, h1, h2⟩, h3, h4⟩ := h
  refine ⟨⟨xs, owns_mono h1 hb, h2⟩, fun i hi => ?_, h4⟩
  obtain ⟨ys, k1, k2⟩ := h3 i hi
  exact ⟨ys, owns_mono k1 hb, k2⟩
end Go.Proofs.Ytkimnihdjeonpab
