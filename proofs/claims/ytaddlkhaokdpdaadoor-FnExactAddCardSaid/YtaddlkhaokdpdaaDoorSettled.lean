import Derived.Test.YtaddlkhaokdpdaaDoorRound
namespace Go.Proofs.YtaddlkhaokdpdaaDoor
open Go.RowKit
def runesF : Nat → List Int → List Int
  | 0, _ => []
  | f + 1, l => if l.length = 0 then [] else (decL l).1 :: runesF f (l.drop (decL l).2)
def runesL (l : List Int) : List Int := runesF l.length l
theorem runesF_fuel : ∀ (f g : Nat) (l : List Int), l.length ≤ f → l.length ≤ g → runesF f l = runesF g l
  | 0, 0, _, _, _ => rfl
  | 0, g + 1, l, h, _ => by simp [runesF]; exact List.eq_nil_of_length_eq_zero (by omega)
  | f + 1, 0, l, _, h => by simp [runesF]; exact List.eq_nil_of_length_eq_zero (by omega)
  | f + 1, g + 1, l, h1, h2 => by
    simp only [runesF]
    split
    · rfl
    · have hp := decL_pos l
      rw [runesF_fuel f g _ (by simp; omega) (by simp; omega)]
theorem runesL_step (l : List Int) (h : 0 < l.length) : runesL l = (decL l).1 :: runesL (l.drop (decL l).2) := by
  unfold runesL
  obtain ⟨m, hm⟩ : ∃ m, l.length = m + 1 := ⟨l.length - 1, by omega⟩
  have hp := decL_pos l
  rw [hm]
  simp only [runesF]
  rw [if_neg (by omega), runesF_fuel m _ _ (by simp; omega) (Nat.le_refl _)]
theorem clean_runes (l : List Int) : cleanL l = (runesL l).map cleanR := by
  have : ∀ f (l : List Int), cleanF f l = (runesF f l).map cleanR := by
    intro f
    induction f with
    | zero => intro l; rfl
    | succ f ih =>
      intro l
      simp only [cleanF, runesF]
      split
      · rfl
      · rw [ih]; rfl
  exact this _ _
theorem runes_enc : ∀ (xs : List Int), (∀ x ∈ xs, Utf8.valid x = true) → runesL (encA xs) = xs
  | [], _ => rfl
  | x :: xs, h => by
    have hp := encR_pos x
    rw [encA, runesL_step _ (by simp; omega), dec_enc x (h x (by simp))]
    simp only
    rw [List.drop_left, runes_enc xs (fun y hy => h y (by simp [hy]))]
def ValidL (l : List Int) : Prop := encA (runesL l) = l
theorem settled_iff (l : List Int) : settleL l = l ↔ (∀ r ∈ runesL l, shownI r = r) ∧ (runesL l ≠ [] → 0 < wid (at0 (runesL l) 0)) ∧ ValidL l := by
  constructor
  · intro h
    have hc := fl_clean _ (cleanL_mem l)
    have he : runesL l = fl (cleanL l) := by
      have := runes_enc (fl (cleanL l)) (fun x hx => (hc x hx).1)
      rw [← settleL_enc, h] at this
      exact this
    refine ⟨fun r hr => ?_, fun hne => ?_, ?_⟩
    · rw [he] at hr
      exact (hc r hr).shown
    · rw [he] at hne ⊢
      unfold fl at hne ⊢
      split
      · rename_i e; rw [if_pos e] at hne; exact absurd rfl hne
      · split
        · assumption
        · show 0 < wid 9676
          decide
    · unfold ValidL
      rw [he, ← settleL_enc, h]
  · rintro ⟨h1, h2, h3⟩
    have hm : cleanL l = runesL l := by
      rw [clean_runes]
      conv => rhs; rw [← List.map_id (runesL l)]
      refine List.map_congr_left fun r hr => ?_
      have := h1 r hr
      unfold cleanR
      split
      · rename_i e
        subst e
        exact absurd this (by decide)
      · exact this
    rw [settleL_enc, hm]
    have hf : fl (runesL l) = runesL l := by
      unfold fl
      split
      · rename_i e; exact e.symm
      · rename_i e
        rw [if_pos (h2 e)]
    rw [hf]
    exact h3
end Go.Proofs.YtaddlkhaokdpdaaDoor
