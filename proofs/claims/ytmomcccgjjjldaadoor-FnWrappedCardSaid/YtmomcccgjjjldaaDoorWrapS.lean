import Derived.Test.YtmomcccgjjjldaaDoorWrapC
namespace Go.Proofs.YtmomcccgjjjldaaDoor
open Go.RowKit
def stF (cs : List (List Int × Int)) (cols : Int) : Nat → List Int × Int
  | 0 => ([0], 0)
  | k + 1 => if at0 (stF cs cols k).1 ((stF cs cols k).1.length - 1) < (k : Int) ∧ cols < (stF cs cols k).2 + cWd (cW cs k) then ((stF cs cols k).1 ++ [(k : Int)], cWd (cW cs k)) else ((stF cs cols k).1, (stF cs cols k).2 + cWd (cW cs k))
theorem at0_app {xs : List Int} {x : Int} {i : Nat} : at0 (xs ++ [x]) i = if i = xs.length then x else at0 xs i := by
  unfold at0
  by_cases h : i = xs.length
  · subst h; simp
  · rw [if_neg h]
    by_cases h2 : i < xs.length
    · rw [List.getElem?_append_left h2]
    · rw [List.getElem?_eq_none (by simp; omega), List.getElem?_eq_none (by omega)]
structure StOk (S : List Int) (u : Int) (k : Nat) : Prop where
  one : 1 ≤ S.length
  len : S.length ≤ k + 1
  u0 : 0 ≤ u
  u1 : u ≤ 1000 * (k : Int)
  at00 : at0 S 0 = 0
  le : ∀ i, i < S.length → 0 ≤ at0 S i ∧ at0 S i ≤ (k : Int)
  mono : ∀ i, i + 1 < S.length → at0 S i ≤ at0 S (i + 1)
theorem stF_ok (cs : List (List Int × Int)) (cols : Int) : ∀ k, StOk (stF cs cols k).1 (stF cs cols k).2 k
  | 0 => ⟨by simp [stF], by simp [stF], by simp [stF], by simp [stF], by simp [stF, at0], fun i hi => by
      simp [stF] at hi; subst hi; simp [stF, at0], fun i hi => by simp [stF] at hi⟩
  | k + 1 => by
    have h := stF_ok cs cols k
    have hw := cWd_bd (cW cs k)
    have h1 := h.one
    have h2 := h.len
    have h3 := h.u0
    have h4 := h.u1
    rw [stF]
    split
    · refine ⟨by simp, by simp; omega, by dsimp only; omega, by dsimp only; omega, ?_, fun i hi => ?_, fun i hi => ?_⟩
      · dsimp only; rw [at0_app, if_neg (by omega)]; exact h.at00
      · dsimp only at hi ⊢
        simp at hi
        rw [at0_app]
        split
        · omega
        · have := h.le i (by omega); omega
      · dsimp only at hi ⊢
        simp at hi
        rw [at0_app, at0_app, if_neg (by omega)]
        split
        · have := h.le i (by omega); omega
        · exact h.mono i (by omega)
    · refine ⟨h1, by dsimp only; omega, by dsimp only; omega, by dsimp only; omega, h.at00, fun i hi => ?_, h.mono⟩
      have := h.le i hi
      dsimp only
      omega
end Go.Proofs.YtmomcccgjjjldaaDoor
