import Derived.Test.YtkimnihdjeonpaaDoorBase
namespace Go.Proofs.YtkimnihdjeonpaaDoor
open Go.RowKit
def Bytes (ns : List Int) : Prop := ∀ n ∈ ns, 0 ≤ n ∧ n ≤ 255
theorem Bytes.at0 {ns : List Int} (h : Bytes ns) (i : Nat) : 0 ≤ at0 ns i ∧ at0 ns i ≤ 255 := by
  unfold Go.Proofs.YtkimnihdjeonpaaDoor.at0
  cases hi : ns[i]? with
  | none => simp
  | some x => exact h x (List.mem_of_getElem? hi)
theorem Bytes.drop {ns : List Int} (h : Bytes ns) (i : Nat) : Bytes (ns.drop i) := fun n hn => h n (List.mem_of_mem_drop hn)
def v2 (l : List Int) : Int := at0 l 0 % 32 * 64 + at0 l 1 - 128
theorem valid_bd {r : Int} (h : Utf8.valid r = true) : 0 ≤ r ∧ r ≤ 1114111 := by
  simp [Utf8.valid] at h; omega
def shownI (r : Int) : Int := if Utf8.valid r = false ∨ r < 32 ∨ (127 ≤ r ∧ r ≤ 159) then 65533 else r
theorem shownI_bd (r : Int) : 0 ≤ shownI r ∧ shownI r ≤ 1114111 := by
  unfold shownI
  split
  · omega
  · rename_i h
    have hv : Utf8.valid r = true := by
      cases hv : Utf8.valid r
      · exact absurd (.inl hv) h
      · rfl
    exact valid_bd hv
end Go.Proofs.YtkimnihdjeonpaaDoor
