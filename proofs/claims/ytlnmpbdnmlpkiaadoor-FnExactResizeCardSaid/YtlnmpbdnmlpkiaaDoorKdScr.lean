import Derived.Test.YtlnmpbdnmlpkiaaDoorKd
import Derived.Test.YtlnmpbdnmlpkiaaDoorSzScr
import Derived.Test.YtlnmpbdnmlpkiaaDoorToScr
import Derived.Test.YtlnmpbdnmlpkiaaDoorSBox
namespace Go.Proofs.YtlnmpbdnmlpkiaaDoor
open Go.RowKit

def scrK (d : SD) : Kd where
  R w v := ∃ gv hv bv, v = scrV d gv hv bv ∧ ScrAt w d gv hv bv
  O w b S v := ∃ gv rv hv bv, v = scrV d gv hv bv ∧ OwnScr w b d gv rv hv bv ∧ ∀ g, S g ↔ SFoot d gv rv hv bv g
  rext := by rintro w w' v ⟨gv, hv, bv, e, h⟩ he; exact ⟨gv, hv, bv, e, h.ext he⟩
  oext := by rintro w w' b S v ⟨gv, rv, hv, bv, e, h, hS⟩ he; exact ⟨gv, rv, hv, bv, e, h.ext he, hS⟩
  ofr := by rintro w w' b S S' v ⟨gv, rv, hv, bv, e, h, hS⟩ hf hd; exact ⟨gv, rv, hv, bv, e, h.fr hf (fun g hg => hd g ((hS g).2 hg)), hS⟩
  reads := by rintro w b S v ⟨gv, rv, hv, bv, e, h, hS⟩; exact ⟨gv, hv, bv, e, h.reads⟩
  lt := by rintro w b S v ⟨gv, rv, hv, bv, e, h, hS⟩ g hg; exact h.foot ((hS g).1 hg)
theorem scrK_shape {d : SD} {w : World} {v : Value} (h : (scrK d).R w v) : ∃ ga gc ha hc ba bc, v = .agg #[.int .i64 d.cols, .int .i64 d.rows, .slice ga d.R gc, .int .i64 d.row, .int .i64 d.col, .bool d.late, .slice ha d.hold.length hc, .slice ba d.nb bc] := by
  obtain ⟨gv, hv, bv, e, h⟩ := h
  obtain ⟨ga, gc, ha, hc, ba, bc, e1, e2, e3⟩ := h.forms
  exact ⟨ga, gc, ha, hc, ba, bc, by rw [e, e1, e2, e3]; rfl⟩
theorem scrK_own {d : SD} {w : World} {b : Nat} {gv : Value} {rv : Nat → Value} {hv bv : Value} (h : OwnScr w b d gv rv hv bv) : (scrK d).O w b (SFoot d gv rv hv bv) (scrV d gv hv bv) := ⟨gv, rv, hv, bv, rfl, h, fun _ => Iff.rfl⟩
def sumC (C : Nat → Nat) : Nat → Nat
  | 0 => 0
  | i + 1 => sumC C i + C i
theorem gk_sum (k : Int) (C : Nat → Nat) : ∀ i, gk k C i = k + 2 * (sumC C i : Int)
  | 0 => by simp [gk, sumC]
  | i + 1 => by rw [gk, gk_sum k C i, sumC]; omega
theorem sumC_le (C : Nat → Nat) (n : Nat) : ∀ i, i ≤ n → sumC C i ≤ sumC C n := by
  induction n with
  | zero => intro i hi; rw [show i = 0 by omega]; exact Nat.le_refl _
  | succ n ih =>
    intro i hi
    by_cases e : i = n + 1
    · subst e; exact Nat.le_refl _
    · have := ih i (by omega)
      rw [sumC]
      omega
theorem sumC_gl (C : Nat → Nat) (t : Nat → Nat → ByteArray) : ∀ i, sumC C i ≤ gl C t i
  | 0 => Nat.le_refl _
  | i + 1 => by
    have := sumC_gl C t i
    rw [sumC, gl]
    omega
/-- How many places 'mark' counts in a screen. -/
def scrM (d : SD) : Nat := 2 * sumC d.C d.R + d.hold.length + d.nb
theorem scr_small {d : SD} (hs : sumC d.C d.R ≤ 1073741824) {k : Int} (h0 : 0 ≤ k) (h1 : k ≤ 68719476736) : d.Small k := by
  intro i hi
  have := sumC_le d.C d.R i hi
  rw [gk_sum]
  omega
theorem sk3_m (k : Int) (d : SD) : sk3 k d = k + (scrM d : Int) := by
  unfold sk3 sk2 sk1 scrM
  rw [gk_sum]
  omega
theorem scrK_eq (d : SD) (hF : d.Fits) : EqOk 14 (scrK d) := by
  rintro w a b ⟨ga, ha, ba, rfl, h1⟩ ⟨gb, hb, bb, rfl, h2⟩
  exact eqScreen_same d ga ha ba gb hb bb w h1 h2 hF
theorem scrK_mark (d : SD) (hF : d.Fits) (hs : sumC d.C d.R ≤ 1073741824) : MarkOk 15 (scrK d) (fun k => scrK (mkSD k d)) (scrM d) := by
  rintro w b S v k ⟨gv, rv, hv, bv, rfl, h, hS⟩ h0 h1
  refine (markScreen_any b d gv rv hv bv k w h hF (scr_small hs h0 h1)).mono ?_
  rintro e w' ⟨rfl, o, f⟩
  rw [sk3_m]
  exact ⟨rfl, ⟨gv, rv, hv, bv, rfl, o, hS⟩, f.mono (fun g hg => (hS g).2 hg)⟩
theorem scrK_held (d : SD) (hF : d.Fits) (hs : sumC d.C d.R ≤ 1073741824) : HeldOk 39 (fun k => scrK (mkSD k d)) (scrM d) := by
  rintro w v k ⟨gv, hv, bv, rfl, h⟩ h0 h1
  have hc := heldScreen_any d gv hv bv k w h hF (scr_small hs h0 h1)
  rw [sk3_m] at hc
  exact hc
end Go.Proofs.YtlnmpbdnmlpkiaaDoor
