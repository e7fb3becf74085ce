import Derived.Test.YtbieoijeilhadaaDoorGap
import Derived.Test.YtbieoijeilhadaaDoorKys
import Derived.Test.YtbieoijeilhadaaDoorEdW
import Derived.Deep.RegionHeld3
namespace Go.Proofs.YtbieoijeilhadaaDoor
open Go.RowKit
def SnapBox (W : World) (q : Nat) (s : ByteArray × ByteArray) : Prop := W.heap[q]? = some (.cells #[.string s.1, .string s.2] 140 (0, 0))
theorem SnapBox.fr {W w' : World} {q : Nat} {s : ByteArray × ByteArray} {S : Nat → Prop} (h : SnapBox W q s) (f : Fr S W w') (hq : ¬ S q) : SnapBox w' q s := f.kept h hq
end Go.Proofs.YtbieoijeilhadaaDoor

namespace Go.Proofs.YtbieoijeilhadaaDoor
open Go.RowKit
theorem sk_ex (p : Nat → Bool) (n : Nat) : ∀ m i, n - i = m → i ≤ n → ∃ r, Sk p n i r
  | 0, i, hm, hi => ⟨i, Nat.le_refl _, by omega, fun j h1 h2 => by omega, fun h => by omega⟩
  | m + 1, i, hm, hi => by
    cases hp : p i with
    | false => exact ⟨i, Nat.le_refl _, hi, fun j h1 h2 => by omega, fun _ => hp⟩
    | true =>
      obtain ⟨r, h1, h2, h3, h4⟩ := sk_ex p n m (i + 1) (by omega) (by omega)
      refine ⟨r, by omega, h2, fun j h5 h6 => ?_, h4⟩
      by_cases e : j = i
      · rw [e, hp]
      · exact h3 j (by omega) h6
theorem wd_ex (p : Nat → Bool) (n : Nat) : Wd p n (wdN p n) := by
  obtain ⟨m, hm⟩ := sk_ex p n _ 0 rfl (Nat.zero_le _)
  obtain ⟨r, hr⟩ := sk_ex (fun j => !p j) n _ m rfl hm.2.1
  have h : Wd p n r := ⟨m, hm, hr⟩
  rw [wdN_eq h]
  exact h
def SmC (A : List (List Int × Int)) : Prop := ∀ c ∈ A, c.1.length ≤ 20000 ∧ I32s c.1
theorem SmC.app {A B : List (List Int × Int)} (h1 : SmC A) (h2 : SmC B) : SmC (A ++ B) := fun c hc => (List.mem_append.1 hc).elim (h1 c) (h2 c)
section
variable {a b c : ByteArray} {un : List (ByteArray × ByteArray)}
end
end Go.Proofs.YtbieoijeilhadaaDoor
