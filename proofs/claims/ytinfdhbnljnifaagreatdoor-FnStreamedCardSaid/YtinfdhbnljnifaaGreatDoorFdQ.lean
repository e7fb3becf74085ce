import Derived.Test.YtinfdhbnljnifaaGreatDoorRowTxB
import Derived.Test.YtinfdhbnljnifaaGreatDoorOkImpl
import Derived.Test.YtinfdhbnljnifaaGreatDoorKd
import Derived.Test.YtinfdhbnljnifaaGreatDoorFdF
import Derived.Test.YtinfdhbnljnifaaGreatDoorSnapMark
namespace Go.Proofs.YtinfdhbnljnifaaGreatDoor
open Go.RowKit
def lineT (d : SD) (i : Nat) : ByteArray := rowT (d.tx i) (d.hf i) (d.C i)
theorem lineT_U {d : SD} (h : OkP d) {i : Nat} (hi : i < d.R) : rowU (d.tx i) (d.hf i) (d.C i) = lineT d i := by
  unfold lineT rowT rowU
  rw [row_same (d.tx i) (d.hf i) (d.C i) (fun k hk hh => (h.half i k hi hk hh).1) _ (Nat.le_refl _)]
end Go.Proofs.YtinfdhbnljnifaaGreatDoor

namespace Go.Proofs.YtinfdhbnljnifaaGreatDoor
open Go.RowKit
section
variable {F base : Nat} {X : Nat → Prop} {d : SD} {gv : Value} {rv : Nat → Value} {hv bv : Value}
theorem ScrW.setT1 {w : World} (h : ScrW w F base X d gv rv hv bv) (i q g cap : Nat) (hi : i < d.R) (hq : q < d.C i) (hg : rv i = .slice (some ⟨g, 0, none⟩) (d.C i) cap) (t : ByteArray) :
    ScrW (w.setCell ⟨g, q * 2, none⟩ (.string t)) F base X (d.setT i q t) gv rv hv bv ∧ Fr (fun k => (rv i).ownBlock = some k) w (w.setCell ⟨g, q * 2, none⟩ (.string t)) := by
  have hb : (rv i).ownBlock = some g := by rw [hg]; rfl
  have fs : Fr (fun k => (rv i).ownBlock = some k) w (w.setCell ⟨g, q * 2, none⟩ (.string t)) := Fr.setCell (S := fun k => (rv i).ownBlock = some k) (Fr.refl _ w) (a := ⟨g, q * 2, none⟩) hb _
  have hr := h.row i hi
  rw [hg] at hr
  have hs := hr.setA hq (.string t)
  rw [← hg] at hs
  have := h.rowAt i hi fs (fun r => if r = q then t else d.tx i r) (d.hf i) (hs.congr (fun r _ => ⟨by by_cases e : r = q <;> simp [e], rfl⟩))
  refine ⟨?_, fs⟩
  have ed : d.setT i q t = { d with tx := fun p r => if p = i then (if r = q then t else d.tx i r) else d.tx p r, hf := fun p r => if p = i then d.hf i r else d.hf p r } := by
    unfold SD.setT
    have a1 : (fun p r => if p = i ∧ r = q then t else d.tx p r) = fun p r => if p = i then (if r = q then t else d.tx i r) else d.tx p r := by
      funext p r
      by_cases hp : p = i
      · subst hp
        by_cases e : r = q <;> simp [e]
      · simp [hp]
    have a2 : d.hf = fun p r => if p = i then d.hf i r else d.hf p r := by
      funext p r
      by_cases hp : p = i
      · subst hp; simp
      · simp [hp]
    rw [a1, ← a2]
  rw [ed]
  exact this
theorem ScrW.setH1 {w : World} (h : ScrW w F base X d gv rv hv bv) (i q g cap : Nat) (hi : i < d.R) (hq : q < d.C i) (hg : rv i = .slice (some ⟨g, 0, none⟩) (d.C i) cap) :
    ScrW (w.setCell ⟨g, q * 2 + 1, none⟩ (.bool true)) F base X (d.setH i q) gv rv hv bv ∧ Fr (fun k => (rv i).ownBlock = some k) w (w.setCell ⟨g, q * 2 + 1, none⟩ (.bool true)) := by
  have hb : (rv i).ownBlock = some g := by rw [hg]; rfl
  have fs : Fr (fun k => (rv i).ownBlock = some k) w (w.setCell ⟨g, q * 2 + 1, none⟩ (.bool true)) := Fr.setCell (S := fun k => (rv i).ownBlock = some k) (Fr.refl _ w) (a := ⟨g, q * 2 + 1, none⟩) hb _
  have hr := h.row i hi
  rw [hg] at hr
  have hs := hr.setB hq (.bool true)
  rw [← hg] at hs
  have := h.rowAt i hi fs (d.tx i) (fun r => if r = q then true else d.hf i r) (hs.congr (fun r _ => ⟨rfl, by by_cases e : r = q <;> simp [e]⟩))
  refine ⟨?_, fs⟩
  have ed : d.setH i q = { d with tx := fun p r => if p = i then d.tx i r else d.tx p r, hf := fun p r => if p = i then (if r = q then true else d.hf i r) else d.hf p r } := by
    unfold SD.setH
    have a1 : (fun p r => if p = i ∧ r = q then true else d.hf p r) = fun p r => if p = i then (if r = q then true else d.hf i r) else d.hf p r := by
      funext p r
      by_cases hp : p = i
      · subst hp
        by_cases e : r = q <;> simp [e]
      · simp [hp]
    have a2 : d.tx = fun p r => if p = i then d.tx i r else d.tx p r := by
      funext p r
      by_cases hp : p = i
      · subst hp; simp
      · simp [hp]
    rw [a1, ← a2]
  rw [ed]
  exact this
end
end Go.Proofs.YtinfdhbnljnifaaGreatDoor

namespace Go.Proofs.YtinfdhbnljnifaaGreatDoor
open Go.RowKit
section
variable {F base : Nat} {X : Nat → Prop} {d : SD} {gv : Value} {rv : Nat → Value} {hv bv : Value}
theorem ScrW.rowGrid {w : World} (h : ScrW w F base X d gv rv hv bv) {i : Nat} (hi : i < d.R) {g : Nat} (hg : (rv i).ownBlock = some g) : gv.ownBlock ≠ some g := by
  intro e
  obtain ⟨g', k', cap', cur, e1, _, hg', _⟩ := h.grid
  obtain ⟨ys, hy, _⟩ := h.row i hi
  rw [e1] at e
  have e2 : g' = g := by simpa [Value.ownBlock] using e
  subst e2
  rcases hy.2 with ⟨e3, _⟩ | ⟨g2, _, cur2, e3, _, hg2, _⟩
  · rw [e3] at hg; simp [Value.ownBlock] at hg
  · rw [e3] at hg
    have e4 : g2 = g' := by simpa [Value.ownBlock] using hg
    subst e4
    rw [hg'] at hg2
    simp at hg2
theorem ScrW.rowBack {w : World} (h : ScrW w F base X d gv rv hv bv) {i : Nat} (hi : i < d.R) {g : Nat} (hg : (rv i).ownBlock = some g) : bv.ownBlock ≠ some g := by
  intro e
  obtain ⟨ys, hy, _⟩ := h.row i hi
  obtain ⟨zs, hz, _⟩ := h.back
  exact owns_apart hz hy (by decide) e hg
theorem ScrW.gridBack {w : World} (h : ScrW w F base X d gv rv hv bv) {g : Nat} (hg : bv.ownBlock = some g) : gv.ownBlock ≠ some g := by
  intro e
  obtain ⟨g', k', cap', cur, e1, _, hg', _⟩ := h.grid
  obtain ⟨ys, hy, _⟩ := h.back
  rw [e1] at e
  have e2 : g' = g := by simpa [Value.ownBlock] using e
  subst e2
  rcases hy.2 with ⟨e3, _⟩ | ⟨g2, _, cur2, e3, _, hg2, _⟩
  · rw [e3] at hg; simp [Value.ownBlock] at hg
  · rw [e3] at hg
    have e4 : g2 = g' := by simpa [Value.ownBlock] using hg
    subst e4
    rw [hg'] at hg2
    simp at hg2
theorem ScrW.rolled {w w9 : World} (h : ScrW w F base X d gv rv hv bv) (hk : OkP d) (hr : ¬ d.row < d.rows - 1) (gv' u bv' : Value)
    (hbox : w9.heap[F]? = some (.cells #[.int .i64 d.cols, .int .i64 d.rows, gv', .int .i64 d.row, .int .i64 d.col, .bool false, hv, bv'] 26 (0, 0)))
    (hgv : OwnO w9 base 81 gv' d.R (fun j => if j + 1 < d.R then rv (j + 1) else u))
    (hu : Own2 w9 base 83 u d.cols.toNat (fun _ => .string bz) (fun _ => .bool false))
    (hbv : Own1 w9 base 9 bv' (d.nb + 1) (fun j => .string (if j = d.nb then rowT (d.tx 0) (d.hf 0) (d.C 0) else d.bk j)))
    (hfr : Fr (fun k => k = F ∨ gv.ownBlock = some k ∨ bv.ownBlock = some k) w w9)
    (ng : gv'.ownBlock = gv.ownBlock ∨ ∀ g, gv'.ownBlock = some g → w.heap.size ≤ g) (nb : bv'.ownBlock = bv.ownBlock ∨ ∀ g, bv'.ownBlock = some g → w.heap.size ≤ g) (nu : ∀ g, u.ownBlock = some g → w.heap.size ≤ g) :
    ScrW w9 F base X (d.down rowT) gv' (fun j => if j + 1 < d.R then rv (j + 1) else u) hv bv' := by
  have hC0 := size_bd hk
  have key : ∀ k, k < w.heap.size → ¬ WFoot d gv rv bv k → ¬ WFoot d gv' (fun j => if j + 1 < d.R then rv (j + 1) else u) bv' k := by
    intro k hk2 hk3
    rintro (x | ⟨i, hi, x⟩ | x)
    · rcases ng with e | e
      · rw [e] at x; exact hk3 (.inl x)
      · have := e k x; omega
    · dsimp only at x
      by_cases e : i + 1 < d.R
      · rw [if_pos e] at x; exact hk3 (.inr (.inl ⟨i + 1, e, x⟩))
      · rw [if_neg e] at x; have := nu k x; omega
    · rcases nb with e | e
      · rw [e] at x; exact hk3 (.inr (.inr x))
      · have := e k x; omega
  unfold SD.down
  rw [if_neg hr]
  refine ⟨hbox, hgv, fun i hi => ?_, fun i j g hij hj hg hg2 => ?_, hbv, ⟨Nat.lt_of_lt_of_le h.below.1 hfr.size, ?_⟩, Nat.le_trans h.top hfr.size, fun k hX => ⟨Nat.lt_of_lt_of_le (h.kept k hX).1 hfr.size, ?_⟩⟩
  · by_cases e : i + 1 < d.R
    · simp only [if_pos e]
      refine (h.row (i + 1) e).fr hfr (fun g hg x => ?_)
      rcases x with x | x | x
      · exact h.below.2 (.inr (.inl ⟨i + 1, e, x ▸ hg⟩))
      · exact h.rowGrid e hg x
      · exact h.rowBack e hg x
    · simp only [if_neg e]
      exact hu
  · have hg0 := hg
    have hj2 : j < d.R := hj
    rw [if_pos (by omega)] at hg
    by_cases e : j + 1 < d.R
    · rw [if_pos e] at hg2
      exact h.apart (i + 1) (j + 1) g (by omega) e hg hg2
    · rw [if_neg e] at hg2
      have := ((h.row (i + 1) (by omega)).lt g hg).2
      have := nu g hg2
      omega
  · exact key F h.below.1 h.below.2
  · exact key k (h.kept k hX).1 (h.kept k hX).2
end
end Go.Proofs.YtinfdhbnljnifaaGreatDoor
