import Derived.Test.YtkimnihdjeonpaaBase
namespace Go.Proofs.Ytkimnihdjeonpaa
open Go.RowKit
def Bytes (ns : List Int) : Prop := ∀ n ∈ ns, 0 ≤ n ∧ n ≤ 255
theorem Bytes.at0 {ns : List Int} (h : Bytes ns) (i : Nat) : 0 ≤ at0 ns i ∧ at0 ns i ≤ 255 := by
  unfold Go.Proofs.Ytkimnihdjeonpaa.at0
  cases hi : ns[i]? with
  | none => simp
  | some x => exact h x (List.mem_of_getElem? hi)
theorem Bytes.drop {ns : List Int} (h : Bytes ns) (i : Nat) : Bytes (ns.drop i) := fun n hn => h n (List.mem_of_mem_drop hn)
def v2 (l : List Int) : Int := at0 l 0 % 32 * 64 + at0 l 1 - 128
def shownI (r : Int) : Int := if Utf8.valid r = false ∨ r < 32 ∨ (127 ≤ r ∧ r ≤ 159) then 65533 else r
end Go.Proofs.Ytkimnihdjeonpaa
