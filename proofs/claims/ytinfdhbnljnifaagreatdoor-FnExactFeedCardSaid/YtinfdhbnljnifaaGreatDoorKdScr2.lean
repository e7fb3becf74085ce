import Derived.Test.YtinfdhbnljnifaaGreatDoorRowTxB
import Derived.Test.YtinfdhbnljnifaaGreatDoorOkImpl
import Derived.Test.YtinfdhbnljnifaaGreatDoorGenFeed
import Derived.Test.YtinfdhbnljnifaaGreatDoorSzScr
import Derived.Test.YtinfdhbnljnifaaGreatDoorToScr
import Derived.Test.YtinfdhbnljnifaaGreatDoorSnapMark
namespace Go.Proofs.YtinfdhbnljnifaaGreatDoor
open Go.RowKit
def lineT (d : SD) (i : Nat) : ByteArray := rowT (d.tx i) (d.hf i) (d.C i)
theorem lineT_U {d : SD} (h : OkP d) {i : Nat} (hi : i < d.R) : rowU (d.tx i) (d.hf i) (d.C i) = lineT d i := by
  unfold lineT rowT rowU
  rw [row_same (d.tx i) (d.hf i) (d.C i) (fun k hk hh => (h.half i k hi hk hh).1) _ (Nat.le_refl _)]
def SD.Texts (d : SD) : Prop := ∀ i, i < d.R → rsz (d.tx i) (d.C i) ≤ 1048576
end Go.Proofs.YtinfdhbnljnifaaGreatDoor

namespace Go.Proofs.YtinfdhbnljnifaaGreatDoor
open Go.RowKit
def scrK (d : SD) : Kd where
  R w v := ∃ gv hv bv, v = scrV d gv hv bv ∧ ScrAt w d gv hv bv
  O w b S v := ∃ gv rv hv bv, v = scrV d gv hv bv ∧ OwnScr w b d gv rv hv bv ∧ ∀ g, S g ↔ SFoot d gv rv hv bv g
  rext := by rintro w w' v ⟨gv, hv, bv, e, h⟩ he; exact ⟨gv, hv, bv, e, h.ext he⟩
  oext := by rintro w w' b S v ⟨gv, rv, hv, bv, e, h, hS⟩ he; exact ⟨gv, rv, hv, bv, e, h.ext he, hS⟩
  ofr := by rintro w w' b S S' v ⟨gv, rv, hv, bv, e, h, hS⟩ hf hd; exact ⟨gv, rv, hv, bv, e, h.fr hf (fun g hg => hd g ((hS g).2 hg)), hS⟩
  reads := by rintro w b S v ⟨gv, rv, hv, bv, e, h, hS⟩; exact ⟨gv, hv, bv, e, h.reads⟩
  lt := by rintro w b S v ⟨gv, rv, hv, bv, e, h, hS⟩ g hg; exact h.foot ((hS g).1 hg)
theorem scrK_shape {d : SD} {w : World} {v : Value} (h : (scrK d).R w v) : ∃ ga gc ha hc ba bc, v = .agg #[.int .i64 d.cols, .int .i64 d.rows, .slice ga d.R gc, .int .i64 d.row, .int .i64 d.col, .bool d.late, .slice ha d.hold.length hc, .slice ba d.nb bc] := by
  obtain ⟨gv, hv, bv, e, h⟩ := h
  obtain ⟨ga, gc, ha, hc, ba, bc, e1, e2, e3⟩ := h.forms
  exact ⟨ga, gc, ha, hc, ba, bc, by rw [e, e1, e2, e3]; rfl⟩
theorem scrK_own {d : SD} {w : World} {b : Nat} {gv : Value} {rv : Nat → Value} {hv bv : Value} (h : OwnScr w b d gv rv hv bv) : (scrK d).O w b (SFoot d gv rv hv bv) (scrV d gv hv bv) := ⟨gv, rv, hv, bv, rfl, h, fun _ => Iff.rfl⟩
def sumC (C : Nat → Nat) : Nat → Nat
  | 0 => 0
  | i + 1 => sumC C i + C i
theorem gk_sum (k : Int) (C : Nat → Nat) : ∀ i, gk k C i = k + 2 * (sumC C i : Int)
  | 0 => by simp [gk, sumC]
  | i + 1 => by rw [gk, gk_sum k C i, sumC]; omega
theorem sumC_le (C : Nat → Nat) (n : Nat) : ∀ i, i ≤ n → sumC C i ≤ sumC C n := by
  induction n with
  | zero => intro i hi; rw [show i = 0 by omega]; exact Nat.le_refl _
  | succ n ih =>
    intro i hi
    by_cases e : i = n + 1
    · subst e; exact Nat.le_refl _
    · have := ih i (by omega)
      rw [sumC]
      omega
theorem sumC_gl (C : Nat → Nat) (t : Nat → Nat → ByteArray) : ∀ i, sumC C i ≤ gl C t i
  | 0 => Nat.le_refl _
  | i + 1 => by
    have := sumC_gl C t i
    rw [sumC, gl]
    omega
def scrM (d : SD) : Nat := 2 * sumC d.C d.R + d.hold.length + d.nb
theorem scr_small {d : SD} (hs : sumC d.C d.R ≤ 1073741824) {k : Int} (h0 : 0 ≤ k) (h1 : k ≤ 68719476736) : d.Small k := by
  intro i hi
  have := sumC_le d.C d.R i hi
  rw [gk_sum]
  omega
theorem sk3_m (k : Int) (d : SD) : sk3 k d = k + (scrM d : Int) := by
  unfold sk3 sk2 sk1 scrM
  rw [gk_sum]
  omega
theorem scrK_eq (d : SD) (hF : d.Fits) : EqOk 17 (scrK d) := by
  rintro w a b ⟨ga, ha, ba, rfl, h1⟩ ⟨gb, hb, bb, rfl, h2⟩
  exact eqScreen_same d ga ha ba gb hb bb w h1 h2 hF
theorem scrK_mark (d : SD) (hF : d.Fits) (hs : sumC d.C d.R ≤ 1073741824) : MarkOk 19 (scrK d) (fun k => scrK (mkSD k d)) (scrM d) := by
  rintro w b S v k ⟨gv, rv, hv, bv, rfl, h, hS⟩ h0 h1
  refine (markScreen_any b d gv rv hv bv k w h hF (scr_small hs h0 h1)).mono ?_
  rintro e w' ⟨rfl, o, f⟩
  rw [sk3_m]
  exact ⟨rfl, ⟨gv, rv, hv, bv, rfl, o, hS⟩, f.mono (fun g hg => (hS g).2 hg)⟩
theorem scrK_held (d : SD) (hF : d.Fits) (hs : sumC d.C d.R ≤ 1073741824) : HeldOk 21 (fun k => scrK (mkSD k d)) (scrM d) := by
  rintro w v k ⟨gv, hv, bv, rfl, h⟩ h0 h1
  have hc := heldScreen_any d gv hv bv k w h hF (scr_small hs h0 h1)
  rw [sk3_m] at hc
  exact hc
end Go.Proofs.YtinfdhbnljnifaaGreatDoor

namespace Go.Proofs.YtinfdhbnljnifaaGreatDoor
open Go.RowKit
theorem gl_row (C : Nat → Nat) (t : Nat → Nat → ByteArray) (R i : Nat) (h : i < R) : C i + tl (t i) (C i) ≤ gl C t R := by
  have := gl_le C t R (i + 1) (by omega)
  rw [gl] at this
  omega
theorem rsz_tl (t : Nat → ByteArray) : ∀ n, rsz t n = n + tl t n
  | 0 => rfl
  | n + 1 => by rw [rsz, tl, rsz_tl t n]; omega
theorem SD.Fits.of_bulk {s : SD} (h : s.bulk ≤ 1048576) : s.Fits := by
  unfold SD.bulk at h
  exact ⟨by omega, fun i hi => by have := gl_row s.C s.tx s.R i hi; omega, by omega, by omega⟩
theorem SD.texts_of_bulk {s : SD} (h : s.bulk ≤ 1048576) : s.Texts := by
  unfold SD.bulk at h
  intro i hi
  have := gl_row s.C s.tx s.R i hi
  rw [rsz_tl]
  omega
theorem SD.sum_of_bulk {s : SD} (h : s.bulk ≤ 1048576) : sumC s.C s.R ≤ 1048576 := by
  unfold SD.bulk at h
  have := sumC_gl s.C s.tx s.R
  omega
end Go.Proofs.YtinfdhbnljnifaaGreatDoor
