import Derived.Test.YtkimnihdjeonpaaU8s
namespace Go.Proofs.Ytkimnihdjeonpaa
open Go.RowKit
theorem szByteS_any (ao : Option Addr) (n cap : Nat) (l : Int) (w : World) (h0 : 0 ≤ l) (h1 : l ≤ 4398046511104) (hn : (n : Int) ≤ 9223372036854775807) :
    Calls Try.prog 38 #[.slice ao n cap, .int .i64 l] w fun e w' => e = .returned (.int .i64 (if l < (n : Int) then -1 else l - (n : Int))) ∧ w' = w := by
  by_cases h : l < (n : Int)
  · rw [if_pos h]
    go_enter Try.func38, Try.ntmps38
    go_wp2
    go_ret
    exact ⟨rfl, rfl⟩
  · rw [if_neg h]
    go_enter Try.func38, Try.ntmps38
    go_wp2
    go_ret
    exact ⟨rfl, rfl⟩
def SzR (l : Int) (n : Nat) (r : Int) : Prop := (r = -1 ∧ l < (n : Int)) ∨ (r = l - (n : Int) ∧ 0 ≤ r)
end Go.Proofs.Ytkimnihdjeonpaa
