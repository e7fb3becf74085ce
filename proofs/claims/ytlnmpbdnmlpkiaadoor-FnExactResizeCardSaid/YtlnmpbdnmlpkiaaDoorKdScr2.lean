import Derived.Test.YtlnmpbdnmlpkiaaDoorKdScr
import Derived.Test.YtlnmpbdnmlpkiaaDoorLinesT
namespace Go.Proofs.YtlnmpbdnmlpkiaaDoor
open Go.RowKit

theorem gl_row (C : Nat → Nat) (t : Nat → Nat → ByteArray) (R i : Nat) (h : i < R) : C i + tl (t i) (C i) ≤ gl C t R := by
  have := gl_le C t R (i + 1) (by omega)
  rw [gl] at this
  omega
theorem rsz_tl (t : Nat → ByteArray) : ∀ n, rsz t n = n + tl t n
  | 0 => rfl
  | n + 1 => by rw [rsz, tl, rsz_tl t n]; omega
theorem SD.Fits.of_bulk {s : SD} (h : s.bulk ≤ 1048576) : s.Fits := by
  unfold SD.bulk at h
  exact ⟨by omega, fun i hi => by have := gl_row s.C s.tx s.R i hi; omega, by omega, by omega⟩
theorem SD.texts_of_bulk {s : SD} (h : s.bulk ≤ 1048576) : s.Texts := by
  unfold SD.bulk at h
  intro i hi
  have := gl_row s.C s.tx s.R i hi
  rw [rsz_tl]
  omega
theorem SD.sum_of_bulk {s : SD} (h : s.bulk ≤ 1048576) : sumC s.C s.R ≤ 1048576 := by
  unfold SD.bulk at h
  have := sumC_gl s.C s.tx s.R
  omega
theorem linN_bulk {s : SD} (h : s.bulk ≤ 1048576) : linN s ≤ 1048576 := by
  have h1 := shN_le s s.R
  unfold SD.bulk at h
  unfold linN
  omega
end Go.Proofs.YtlnmpbdnmlpkiaaDoor
