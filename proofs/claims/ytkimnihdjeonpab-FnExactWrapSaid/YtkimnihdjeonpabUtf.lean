import Derived.Test.YtkimnihdjeonpabBase
namespace Go.Proofs.Ytkimnihdjeonpab
open Go.RowKit
def Bytes (ns : List Int) : Prop := ∀ n ∈ ns, 0 ≤ n ∧ n ≤ 255
theorem Bytes.drop {ns : List Int} (h : Bytes ns) (i : Nat) : Bytes (ns.drop i) := fun n hn => h n (List.mem_of_mem_drop hn)
def v2 (l : List Int) : Int := at0 l 0 % 32 * 64 + at0 l 1 - 128
end Go.Proofs.Ytkimnihdjeonpab
