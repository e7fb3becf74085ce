import Derived.Test.YtinfdhbnljnifaaGreatDoorRkM
import Derived.Test.YtinfdhbnljnifaaGreatDoorRowO
import Derived.Test.YtinfdhbnljnifaaGreatDoorTextOf
import Derived.Test.YtinfdhbnljnifaaGreatDoorSpecClean
import Derived.Test.YtinfdhbnljnifaaGreatDoorRwImpl
import Derived.Lib.OthersKept
import Derived.Test.YtinfdhbnljnifaaGreatDoorSnapMark
namespace Go.Proofs.YtinfdhbnljnifaaGreatDoor
open Go.RowKit
theorem numR_eq : ∀ (m : Nat) (s : List Int), (∀ k, k < m → k < s.length ∧ 48 ≤ at0 s k ∧ at0 s k ≤ 63) → (s.length ≤ m ∨ at0 s m < 48 ∨ 63 < at0 s m) → numR s = m
  | 0, [], _, _ => rfl
  | 0, x :: xs, _, h => by
    rw [numR, if_neg]
    intro h2
    simp [at0] at h
    omega
  | m + 1, [], h, _ => by have := (h 0 (by omega)).1; simp at this
  | m + 1, x :: xs, h, h2 => by
    rw [numR, if_pos (by have := (h 0 (by omega)).2; simpa [at0] using this), numR_eq m xs (fun k hk => by have := h (k + 1) (by omega); simpa [at0] using this) (by simpa [at0] using h2)]
end Go.Proofs.YtinfdhbnljnifaaGreatDoor

namespace Go.Proofs.YtinfdhbnljnifaaGreatDoor
open Go.RowKit
theorem numR_le : ∀ s : List Int, numR s ≤ s.length
  | [] => Nat.le_refl _
  | x :: xs => by
    rw [numR]
    have := numR_le xs
    split <;> simp <;> omega
end Go.Proofs.YtinfdhbnljnifaaGreatDoor

namespace Go.Proofs.YtinfdhbnljnifaaGreatDoor
open Go.RowKit
theorem at0_appL {s t : List Int} {i : Nat} (h : i < s.length) : at0 (s ++ t) i = at0 s i := by unfold at0; rw [List.getElem?_append_left h]
theorem numR_more : ∀ (s t : List Int), numR s < s.length → numR (s ++ t) = numR s
  | [], t, h => by simp at h
  | x :: xs, t, h => by
    rw [List.cons_append, numR, numR]
    rw [numR] at h
    split
    · rename_i h1
      rw [if_pos h1] at h
      rw [numR_more xs t (by simpa using h)]
    · rfl
theorem decL_form (l : List Int) : decL l = if at0 l 0 < 128 then (at0 l 0, 1)
    else if nB (at0 l 0) = 2 ∧ cont l 1 = true then (v2 l, 2)
    else if nB (at0 l 0) = 3 ∧ cont l 1 = true ∧ cont l 2 = true ∧ loB (at0 l 0) ≤ at0 l 1 ∧ at0 l 1 ≤ hiB (at0 l 0) then (v3 l, 3)
    else if nB (at0 l 0) = 4 ∧ cont l 1 = true ∧ cont l 2 = true ∧ cont l 3 = true ∧ loB (at0 l 0) ≤ at0 l 1 ∧ at0 l 1 ≤ hiB (at0 l 0) then (v4 l, 4)
    else (65533, 1) := by
  have k : ∀ j, cont l j = true → 128 ≤ at0 l j ∧ at0 l j ≤ 191 := fun j hj => by
    unfold cont at hj
    simp at hj
    exact ⟨hj.1.2, hj.2⟩
  have k1 := k 1
  have k2 := k 2
  have k3 := k 3
  clear k
  unfold decL v2 v3 v4
  simp only [valid_iff]
  generalize at0 l 0 = a at *
  generalize at0 l 1 = b at *
  generalize at0 l 2 = c at *
  generalize at0 l 3 = d at *
  generalize cont l 1 = C1 at *
  generalize cont l 2 = C2 at *
  generalize cont l 3 = C3 at *
  by_cases h0 : a < 128
  · rw [if_pos h0, if_pos h0]
  rw [if_neg h0, if_neg h0]
  have hn := nB_class a
  cases C1 with
  | false => simp
  | true =>
    have b1 := k1 rfl
    by_cases h2 : 192 ≤ a ∧ a < 224
    · rw [if_pos ⟨h2, rfl⟩]
      by_cases h3 : a < 194
      · rw [if_neg (by omega), if_neg (by omega), if_neg (by omega), if_neg (by omega)]
      · rw [if_pos (by omega), if_pos ⟨by omega, rfl⟩]
    · rw [if_neg (by omega), if_neg (show ¬ (nB a = 2 ∧ true = true) by omega)]
      cases C2 with
      | false => simp
      | true =>
        have c1 := k2 rfl
        by_cases h3 : 224 ≤ a ∧ a < 240
        · rw [if_pos ⟨h3, rfl, rfl⟩]
          by_cases h4 : loB a ≤ b ∧ b ≤ hiB a
          · rw [if_pos (by unfold loB hiB at h4; (repeat' split at h4) <;> omega), if_pos ⟨by omega, rfl, rfl, h4⟩]
          · rw [if_neg (by unfold loB hiB at h4; (repeat' split at h4) <;> omega), if_neg (fun x => h4 ⟨x.2.2.2.1, x.2.2.2.2⟩), if_neg (by omega)]
        · rw [if_neg (by omega), if_neg (show ¬ (nB a = 3 ∧ true = true ∧ true = true ∧ loB a ≤ b ∧ b ≤ hiB a) by omega)]
          cases C3 with
          | false => simp
          | true =>
            have d1 := k3 rfl
            by_cases h5 : 240 ≤ a ∧ a < 248
            · rw [if_pos ⟨h5, rfl, rfl, rfl⟩]
              by_cases h4 : a < 245 ∧ loB a ≤ b ∧ b ≤ hiB a
              · rw [if_pos (by unfold loB hiB at h4; (repeat' split at h4) <;> omega), if_pos ⟨by omega, rfl, rfl, rfl, h4.2⟩]
              · rw [if_neg (by unfold loB hiB at h4; (repeat' split at h4) <;> omega), if_neg (fun x => h4 ⟨by omega, x.2.2.2.2.1, x.2.2.2.2.2⟩)]
            · rw [if_neg (by omega), if_neg (by omega)]
theorem cont_iff (l : List Int) (j : Nat) : cont l j = true ↔ j < l.length ∧ 128 ≤ at0 l j ∧ at0 l j ≤ 191 := by
  unfold cont
  simp
  omega
theorem full_tt (s : List Int) : fullB s = true ↔ nB (at0 s 0) ≤ s.length ∨ (1 < s.length ∧ (at0 s 1 < loB (at0 s 0) ∨ hiB (at0 s 0) < at0 s 1)) ∨ (2 < s.length ∧ (at0 s 2 < 128 ∨ 191 < at0 s 2)) := by
  unfold fullB
  simp only [Bool.or_eq_true, Bool.and_eq_true, decide_eq_true_eq]
  omega
theorem full_more (s t : List Int) (h0 : 0 < s.length) (h : fullB s = true) : fullB (s ++ t) = true := by
  rw [full_tt] at h ⊢
  rw [at0_appL h0, List.length_append]
  rcases h with h | ⟨h1, h⟩ | ⟨h1, h⟩
  · left; omega
  · right; left; rw [at0_appL h1]; exact ⟨by omega, h⟩
  · right; right; rw [at0_appL h1]; exact ⟨by omega, h⟩
theorem decL_more (s t : List Int) (h0 : 0 < s.length) (h : fullB s = true) : decL (s ++ t) = decL s := by
  rw [full_tt] at h
  have hn := nB_class (at0 s 0)
  have e0 := at0_appL (t := t) h0
  rw [decL_form, decL_form]
  simp only [cont_iff, e0]
  by_cases hA : at0 s 0 < 128
  · rw [if_pos hA, if_pos hA]
  rw [if_neg hA, if_neg hA]
  by_cases l1 : 1 < s.length
  · have e1 := at0_appL (t := t) l1
    by_cases l2 : 2 < s.length
    · have e2 := at0_appL (t := t) l2
      by_cases l3 : 3 < s.length
      · have e3 := at0_appL (t := t) l3
        have m1 : (1 < (s ++ t).length) = (1 < s.length) := by rw [List.length_append]; simp; omega
        have m2 : (2 < (s ++ t).length) = (2 < s.length) := by rw [List.length_append]; simp; omega
        have m3 : (3 < (s ++ t).length) = (3 < s.length) := by rw [List.length_append]; simp; omega
        unfold v2 v3 v4
        simp only [e0, e1, e2, e3, m1, m2, m3]
      · unfold v2 v3
        simp only [e0, e1, e2]
        have m1 : (1 < (s ++ t).length) = (1 < s.length) := by rw [List.length_append]; simp; omega
        have m2 : (2 < (s ++ t).length) = (2 < s.length) := by rw [List.length_append]; simp; omega
        simp only [m1, m2]
        rw [if_neg (c := nB (at0 s 0) = 4 ∧ _) (by rintro ⟨q1, q2, q3, q4, q5, q6⟩; omega), if_neg (c := nB (at0 s 0) = 4 ∧ _) (by rintro ⟨q1, q2, q3, q4, q5, q6⟩; omega)]
    · unfold v2
      simp only [e0, e1]
      have m1 : (1 < (s ++ t).length) = (1 < s.length) := by rw [List.length_append]; simp; omega
      simp only [m1]
      rw [if_neg (c := nB (at0 s 0) = 4 ∧ _) (by rintro ⟨q1, q2, q3, q4, q5, q6⟩; omega), if_neg (c := nB (at0 s 0) = 4 ∧ _) (by rintro ⟨q1, q2, q3, q4, q5, q6⟩; omega), if_neg (c := nB (at0 s 0) = 3 ∧ _) (by rintro ⟨q1, q2, q3, q4, q5⟩; omega), if_neg (c := nB (at0 s 0) = 3 ∧ _) (by rintro ⟨q1, q2, q3, q4, q5⟩; omega)]
  · rw [if_neg (c := nB (at0 s 0) = 4 ∧ _) (by rintro ⟨q1, q2, q3, q4, q5, q6⟩; omega), if_neg (c := nB (at0 s 0) = 4 ∧ _) (by rintro ⟨q1, q2, q3, q4, q5, q6⟩; omega), if_neg (c := nB (at0 s 0) = 3 ∧ _) (by rintro ⟨q1, q2, q3, q4, q5⟩; omega), if_neg (c := nB (at0 s 0) = 3 ∧ _) (by rintro ⟨q1, q2, q3, q4, q5⟩; omega), if_neg (c := nB (at0 s 0) = 2 ∧ _) (by rintro ⟨q1, q2⟩; omega), if_neg (c := nB (at0 s 0) = 2 ∧ _) (by rintro ⟨q1, q2⟩; omega)]
end Go.Proofs.YtinfdhbnljnifaaGreatDoor

namespace Go.Proofs.YtinfdhbnljnifaaGreatDoor
open Go.RowKit
section
variable {α : Type} (st : List Int → Option (List α × Nat))
def gF : Nat → List Int → List α × Nat
  | 0, _ => ([], 0)
  | f + 1, s => match st s with
    | none => ([], 0)
    | some (ks, m) => (ks ++ (gF f (s.drop m)).1, m + (gF f (s.drop m)).2)
def gR (s : List Int) : List α × Nat := gF st s.length s
def gH (s : List Int) : List Int := s.drop (gR st s).2
variable {st}
theorem gF_fuel (hn : ∀ s ks m, st s = some (ks, m) → 0 < m ∧ m ≤ s.length) : ∀ (f g : Nat) (s : List Int), s.length ≤ f → s.length ≤ g → gF st f s = gF st g s := by
  intro f
  induction f with
  | zero =>
    intro g s hf _
    have hs : st s = none := by
      cases h : st s with
      | none => rfl
      | some x => have := hn s x.1 x.2 h; omega
    cases g with
    | zero => rfl
    | succ g => rw [gF, gF, hs]
  | succ f ih =>
    intro g s hf hg
    cases hst : st s with
    | none =>
      cases g with
      | zero => rw [gF, gF, hst]
      | succ g => rw [gF, gF, hst]
    | some x =>
      obtain ⟨ks, m⟩ := x
      have hm := hn s ks m hst
      cases g with
      | zero => omega
      | succ g =>
        rw [gF, gF, hst]
        have hl : (s.drop m).length = s.length - m := by simp
        show (ks ++ (gF st f (s.drop m)).1, m + (gF st f (s.drop m)).2) = (ks ++ (gF st g (s.drop m)).1, m + (gF st g (s.drop m)).2)
        rw [ih g (s.drop m) (by omega) (by omega)]
theorem gR_none {s : List Int} (h : st s = none) : gR st s = ([], 0) := by
  unfold gR
  cases hl : s.length with
  | zero => rfl
  | succ n => rw [gF, h]
theorem gR_some (hn : ∀ s ks m, st s = some (ks, m) → 0 < m ∧ m ≤ s.length) {s : List Int} {ks : List α} {m : Nat} (h : st s = some (ks, m)) : gR st s = (ks ++ (gR st (s.drop m)).1, m + (gR st (s.drop m)).2) := by
  have hm := hn s ks m h
  unfold gR
  cases hl : s.length with
  | zero => omega
  | succ n =>
    rw [gF, h]
    have hd : (s.drop m).length = s.length - m := by simp
    show (ks ++ (gF st n (s.drop m)).1, m + (gF st n (s.drop m)).2) = _
    rw [gF_fuel hn n (s.drop m).length (s.drop m) (by omega) (Nat.le_refl _)]
theorem gR_len (hn : ∀ s ks m, st s = some (ks, m) → 0 < m ∧ m ≤ s.length) : ∀ (f : Nat) (s : List Int), s.length ≤ f → (gR st s).2 ≤ s.length := by
  intro f
  induction f with
  | zero =>
    intro s hf
    cases hst : st s with
    | none => rw [gR_none hst]; simp
    | some x => have := hn s x.1 x.2 hst; omega
  | succ f ih =>
    intro s hf
    cases hst : st s with
    | none => rw [gR_none hst]; simp
    | some x =>
      obtain ⟨ks, m⟩ := x
      have hm := hn s ks m hst
      rw [gR_some hn hst]
      have hd : (s.drop m).length = s.length - m := by simp
      have := ih (s.drop m) (by omega)
      simp only []
      omega
theorem gR_append (hn : ∀ s ks m, st s = some (ks, m) → 0 < m ∧ m ≤ s.length) (hmore : ∀ s t x, st s = some x → st (s ++ t) = some x) (t : List Int) : ∀ (f : Nat) (s : List Int), s.length ≤ f → gR st (s ++ t) = ((gR st s).1 ++ (gR st (gH st s ++ t)).1, (gR st s).2 + (gR st (gH st s ++ t)).2) := by
  intro f
  induction f with
  | zero =>
    intro s hs
    have : s = [] := List.eq_nil_of_length_eq_zero (by omega)
    subst this
    have h0 : gR st [] = ([], 0) := rfl
    unfold gH
    rw [h0]
    simp
  | succ f ih =>
    intro s hs
    cases hst : st s with
    | none => unfold gH; rw [gR_none hst]; simp
    | some x =>
      obtain ⟨ks, m⟩ := x
      have hm := hn s ks m hst
      have e := ih (s.drop m) (by rw [List.length_drop]; omega)
      unfold gH at e ⊢
      rw [gR_some hn hst, gR_some hn (hmore s t _ hst), List.drop_append_of_le_length hm.2, e]
      simp only [List.drop_drop]
      refine Prod.ext ?_ ?_
      · simp [List.append_assoc]
      · simp; omega
theorem gR_rest (hn : ∀ s ks m, st s = some (ks, m) → 0 < m ∧ m ≤ s.length) : ∀ (f : Nat) (s : List Int), s.length ≤ f → st (gH st s) = none := by
  intro f
  induction f with
  | zero =>
    intro s hs
    have : s = [] := List.eq_nil_of_length_eq_zero (by omega)
    subst this
    cases h : st (gH st []) with
    | none => rfl
    | some x =>
      have := hn _ x.1 x.2 h
      have h2 : (gH st []).length = 0 := rfl
      omega
  | succ f ih =>
    intro s hs
    unfold gH
    cases hst : st s with
    | none => rw [gR_none hst]; simpa using hst
    | some x =>
      obtain ⟨ks, m⟩ := x
      have hm := hn s ks m hst
      rw [gR_some hn hst]
      have := ih (s.drop m) (by rw [List.length_drop]; omega)
      unfold gH at this
      simpa [List.drop_drop] using this
theorem gR_snoc (hn : ∀ s ks m, st s = some (ks, m) → 0 < m ∧ m ≤ s.length) (hmore : ∀ s t x, st s = some x → st (s ++ t) = some x) (t : List Int) (x : Int) : (gR st (t ++ [x])).1 = (gR st t).1 ++ (gR st (gH st t ++ [x])).1 ∧ gH st (t ++ [x]) = gH st (gH st t ++ [x]) := by
  have e := gR_append hn hmore [x] t.length t (Nat.le_refl _)
  have hl := gR_len hn t.length t (Nat.le_refl _)
  refine ⟨by rw [e], ?_⟩
  conv => lhs; unfold gH
  rw [e]
  show (t ++ [x]).drop ((gR st t).2 + _) = _
  rw [← List.drop_drop, List.drop_append_of_le_length hl]
  rfl
theorem gH_len (hn : ∀ s ks m, st s = some (ks, m) → 0 < m ∧ m ≤ s.length) (s : List Int) : (gH st s).length + (gR st s).2 = s.length := by
  have := gR_len hn s.length s (Nat.le_refl _)
  unfold gH
  rw [List.length_drop]
  omega
end
abbrev FAct : Type := Sum Int (List Int × Int)
abbrev FAct.shw (r : Int) : FAct := .inl r
abbrev FAct.oby (bs : List Int) (last : Int) : FAct := .inr (bs, last)
def fdStep (s : List Int) : Option (List FAct × Nat) :=
  if s.length = 0 then none
  else if at0 s 0 = 27 then
    (if s.length ≤ 1 then none
     else if at0 s 1 ≠ 91 then some ([], 2)
     else if 30 < numR (s.drop 2) then some ([], 33)
     else if s.length ≤ 2 + numR (s.drop 2) then none
     else if 64 ≤ at0 s (2 + numR (s.drop 2)) ∧ at0 s (2 + numR (s.drop 2)) ≤ 126 then some ([.oby ((s.drop 2).take (numR (s.drop 2))) (at0 s (2 + numR (s.drop 2)))], numR (s.drop 2) + 3)
     else some ([], numR (s.drop 2) + 3))
  else if begB s = true then none
  else some ([.shw (decL s).1], (decL s).2)
theorem numR_ge : ∀ (s t : List Int), numR s ≤ numR (s ++ t)
  | [], t => by simp [numR]
  | x :: xs, t => by
    rw [List.cons_append, numR, numR]
    have := numR_ge xs t
    split <;> omega
theorem fdStep_n (s : List Int) (ks : List FAct) (m : Nat) (h : fdStep s = some (ks, m)) : 0 < m ∧ m ≤ s.length := by
  unfold fdStep at h
  have hr := numR_le (s.drop 2)
  rw [List.length_drop] at hr
  by_cases h0 : s.length = 0
  · rw [if_pos h0] at h; simp at h
  · rw [if_neg h0] at h
    by_cases h1 : at0 s 0 = 27
    · rw [if_pos h1] at h
      by_cases h2 : s.length ≤ 1
      · rw [if_pos h2] at h; simp at h
      · rw [if_neg h2] at h
        by_cases h3 : at0 s 1 ≠ 91
        · rw [if_pos h3] at h; simp at h; omega
        · rw [if_neg h3] at h
          by_cases h4 : 30 < numR (s.drop 2)
          · rw [if_pos h4] at h; simp at h; omega
          · rw [if_neg h4] at h
            by_cases h5 : s.length ≤ 2 + numR (s.drop 2)
            · rw [if_pos h5] at h; simp at h
            · rw [if_neg h5] at h
              split at h <;> simp at h <;> omega
    · rw [if_neg h1] at h
      by_cases h2 : begB s = true
      · rw [if_pos h2] at h; simp at h
      · rw [if_neg h2] at h
        simp at h
        have := decL_len s (by omega)
        have := decL_pos s
        omega
theorem fdStep_more (s t : List Int) (x : List FAct × Nat) (h : fdStep s = some x) : fdStep (s ++ t) = some x := by
  unfold fdStep at h ⊢
  by_cases h0 : s.length = 0
  · rw [if_pos h0] at h; simp at h
  · rw [if_neg h0] at h
    rw [if_neg (by rw [List.length_append]; omega), at0_appL (by omega)]
    by_cases h1 : at0 s 0 = 27
    · rw [if_pos h1] at h
      rw [if_pos h1]
      by_cases h2 : s.length ≤ 1
      · rw [if_pos h2] at h; simp at h
      · rw [if_neg h2] at h
        rw [if_neg (by rw [List.length_append]; omega), at0_appL (by omega)]
        by_cases h3 : at0 s 1 ≠ 91
        · rw [if_pos h3] at h; rw [if_pos h3]; exact h
        · rw [if_neg h3] at h
          rw [if_neg h3]
          have hd : (s ++ t).drop 2 = s.drop 2 ++ t := by rw [List.drop_append_of_le_length (by omega)]
          rw [hd]
          have hge := numR_ge (s.drop 2) t
          by_cases h4 : 30 < numR (s.drop 2)
          · rw [if_pos h4] at h; rw [if_pos (by omega)]; exact h
          · rw [if_neg h4] at h
            by_cases h5 : s.length ≤ 2 + numR (s.drop 2)
            · rw [if_pos h5] at h; simp at h
            · rw [if_neg h5] at h
              have hn : numR (s.drop 2 ++ t) = numR (s.drop 2) := numR_more _ _ (by rw [List.length_drop]; omega)
              rw [hn, if_neg h4, if_neg (by rw [List.length_append]; omega), at0_appL (by omega), List.take_append_of_le_length (by rw [List.length_drop]; omega)]
              exact h
    · rw [if_neg h1] at h
      rw [if_neg h1]
      by_cases h2 : begB s = true
      · rw [if_pos h2] at h; simp at h
      · rw [if_neg h2] at h
        have hb : begB s = false := by simpa using h2
        have hf : fullB s = true := by rw [beg_full s (by omega)] at hb; simpa using hb
        have hb2 : begB (s ++ t) = false := by rw [beg_full _ (by rw [List.length_append]; omega), full_more s t (by omega) hf]; rfl
        rw [hb2, decL_more s t (by omega) hf]
        simpa using h
abbrev fd (s : List Int) : List FAct × Nat := gR fdStep s
abbrev fdH (s : List Int) : List Int := gH fdStep s
end Go.Proofs.YtinfdhbnljnifaaGreatDoor

namespace Go.Proofs.YtinfdhbnljnifaaGreatDoor
open Go.RowKit
theorem numR_all2 : ∀ (ds t : List Int), (∀ d ∈ ds, 48 ≤ d ∧ d ≤ 63) → numR (ds ++ t) = ds.length + numR t
  | [], t, _ => by simp
  | d :: ds, t, h => by
    rw [List.cons_append, numR, if_pos (h d (by simp)), numR_all2 ds t (fun x hx => h x (by simp [hx]))]
    simp
    omega
theorem brk_at2 (ds : List Int) (b : Int) : at0 (27 :: 91 :: (ds ++ [b])) (2 + ds.length) = b := by
  have : at0 (27 :: 91 :: (ds ++ [b])) (2 + ds.length) = at0 (ds ++ [b]) ds.length := by
    unfold at0
    rw [show 2 + ds.length = ds.length + 1 + 1 by omega]
    rfl
  rw [this]
  unfold at0
  rw [List.getElem?_append_right (Nat.le_refl _)]
  simp
section
variable {ds : List Int} {b : Int}
theorem brk_num2 (h : ∀ d ∈ ds, 48 ≤ d ∧ d ≤ 63) (h1 : ¬ (48 ≤ b ∧ b ≤ 63)) : numR ((27 :: 91 :: (ds ++ [b])).drop 2) = ds.length := by
  show numR (ds ++ [b]) = _
  rw [numR_all2 ds [b] h, numR, if_neg h1]
  rfl
end
theorem fd_none {s : List Int} (h : fdStep s = none) : fd s = ([], 0) ∧ fdH s = s := by
  have e := gR_none h
  refine ⟨e, ?_⟩
  show s.drop (gR fdStep s).2 = s
  rw [e]
  rfl
theorem fd_whole {s : List Int} {ks : List FAct} (h : fdStep s = some (ks, s.length)) : (fd s).1 = ks ∧ fdH s = [] := by
  have e := gR_some fdStep_n h
  have e0 : gR fdStep (s.drop s.length) = ([], 0) := by
    rw [List.drop_eq_nil_of_le (Nat.le_refl _)]
    rfl
  rw [e0] at e
  refine ⟨?_, ?_⟩
  · show (gR fdStep s).1 = ks
    rw [e]
    simp
  · show s.drop (gR fdStep s).2 = []
    rw [e]
    simp
theorem fd_27 : fd [27] = ([], 0) ∧ fdH [27] = [27] := fd_none rfl
theorem fd_91 : fd [27, 91] = ([], 0) ∧ fdH [27, 91] = [27, 91] := fd_none rfl
theorem fd_esc {b : Int} (h : b ≠ 91) : (fd [27, b]).1 = [] ∧ fdH [27, b] = [] := by
  refine fd_whole (s := [27, b]) ?_
  unfold fdStep
  have e1 : at0 [27, b] 1 = b := rfl
  have e0 : at0 [27, b] 0 = 27 := rfl
  rw [e0, e1, if_neg (by simp), if_pos rfl, if_neg (by simp), if_pos h]
  rfl
section
variable {ds : List Int} {b : Int}
theorem fd_btw_more (h : ∀ d ∈ ds, 48 ≤ d ∧ d ≤ 63) (h1 : 48 ≤ b ∧ b ≤ 63) (hl : ds.length < 30) : fd (27 :: 91 :: (ds ++ [b])) = ([], 0) ∧ fdH (27 :: 91 :: (ds ++ [b])) = 27 :: 91 :: (ds ++ [b]) := by
  refine fd_none ?_
  have hn : numR ((27 :: 91 :: (ds ++ [b])).drop 2) = ds.length + 1 := by
    show numR (ds ++ [b]) = _
    rw [numR_all2 ds [b] h, numR, if_pos h1]
    rfl
  unfold fdStep
  have e1 : at0 (27 :: 91 :: (ds ++ [b])) 1 = 91 := rfl
  have e0 : at0 (27 :: 91 :: (ds ++ [b])) 0 = 27 := rfl
  rw [e0, e1, hn, if_neg (by simp), if_pos rfl, if_neg (by simp), if_neg (by simp), if_neg (by omega), if_pos (by simp; omega)]
theorem fd_btw_over (h : ∀ d ∈ ds, 48 ≤ d ∧ d ≤ 63) (h1 : 48 ≤ b ∧ b ≤ 63) (hl : ds.length = 30) : (fd (27 :: 91 :: (ds ++ [b]))).1 = [] ∧ fdH (27 :: 91 :: (ds ++ [b])) = [] := by
  refine fd_whole ?_
  have hn : numR ((27 :: 91 :: (ds ++ [b])).drop 2) = ds.length + 1 := by
    show numR (ds ++ [b]) = _
    rw [numR_all2 ds [b] h, numR, if_pos h1]
    rfl
  unfold fdStep
  have e1 : at0 (27 :: 91 :: (ds ++ [b])) 1 = 91 := rfl
  have e0 : at0 (27 :: 91 :: (ds ++ [b])) 0 = 27 := rfl
  have el : (27 :: 91 :: (ds ++ [b])).length = 33 := by simp [hl]
  rw [e0, e1, hn, el, if_neg (by omega), if_pos rfl, if_neg (by omega), if_neg (by simp), if_pos (by omega)]
theorem fd_btw_end (h : ∀ d ∈ ds, 48 ≤ d ∧ d ≤ 63) (h1 : ¬ (48 ≤ b ∧ b ≤ 63)) (hl : ds.length ≤ 30) : (fd (27 :: 91 :: (ds ++ [b]))).1 = (if 64 ≤ b ∧ b ≤ 126 then [.oby ds b] else []) ∧ fdH (27 :: 91 :: (ds ++ [b])) = [] := by
  refine fd_whole ?_
  have hn := brk_num2 h h1
  unfold fdStep
  have e1 : at0 (27 :: 91 :: (ds ++ [b])) 1 = 91 := rfl
  have e0 : at0 (27 :: 91 :: (ds ++ [b])) 0 = 27 := rfl
  have el : (27 :: 91 :: (ds ++ [b])).length = ds.length + 3 := by simp
  have et : ((27 :: 91 :: (ds ++ [b])).drop 2).take ds.length = ds := by show (ds ++ [b]).take ds.length = ds; simp
  rw [e0, e1, hn, el, brk_at2, et, if_neg (by omega), if_pos rfl, if_neg (by omega), if_neg (by simp), if_neg (by omega), if_neg (by omega)]
  by_cases hb : 64 ≤ b ∧ b ≤ 126
  · rw [if_pos hb, if_pos hb]
  · rw [if_neg hb, if_neg hb]
end
theorem fd_begun {s : List Int} (h0 : 0 < s.length) (h27 : at0 s 0 ≠ 27) (hf : fullB s = false) : fd s = ([], 0) ∧ fdH s = s := by
  refine fd_none ?_
  unfold fdStep
  rw [if_neg (by omega), if_neg h27, if_pos (by rw [beg_full s h0, hf]; rfl)]
theorem fd_rune {s : List Int} (h0 : 0 < s.length) (h27 : at0 s 0 ≠ 27) (hf : fullB s = true) : (fd s).1 = .shw (decL s).1 :: (fd (s.drop (decL s).2)).1 ∧ fdH s = fdH (s.drop (decL s).2) := by
  have hs : fdStep s = some ([.shw (decL s).1], (decL s).2) := by
    unfold fdStep
    rw [if_neg (by omega), if_neg h27, if_neg (by rw [beg_full s h0, hf]; simp)]
  have e := gR_some fdStep_n hs
  refine ⟨?_, ?_⟩
  · show (gR fdStep s).1 = _
    rw [e]
    rfl
  · show s.drop (gR fdStep s).2 = (s.drop (decL s).2).drop (gR fdStep (s.drop (decL s).2)).2
    rw [e, List.drop_drop]
theorem numR_full2 : ∀ (r : List Int), r.length ≤ numR r → ∀ d ∈ r, 48 ≤ d ∧ d ≤ 63
  | [], _, d, hd => by simp at hd
  | x :: xs, h, d, hd => by
    rw [numR] at h
    by_cases hx : 48 ≤ x ∧ x ≤ 63
    · rw [if_pos hx] at h
      simp at h
      rcases List.mem_cons.1 hd with rfl | hd
      · exact hx
      · exact numR_full2 xs h d hd
    · rw [if_neg hx] at h
      simp at h
theorem fd_shape {h : List Int} (hs : fdStep h = none) : h = [] ∨ h = [27] ∨ (∃ ds, h = 27 :: 91 :: ds ∧ (∀ d ∈ ds, 48 ≤ d ∧ d ≤ 63) ∧ ds.length ≤ 30) ∨ (0 < h.length ∧ at0 h 0 ≠ 27 ∧ fullB h = false) := by
  unfold fdStep at hs
  by_cases h0 : h.length = 0
  · exact .inl (List.eq_nil_of_length_eq_zero h0)
  · rw [if_neg h0] at hs
    by_cases h1 : at0 h 0 = 27
    · rw [if_pos h1] at hs
      match h, h1, hs with
      | [], _, _ => exact .inl rfl
      | [x], h1, _ => exact .inr (.inl (by rw [show x = 27 from h1]))
      | x :: y :: r, h1, hs =>
        have hx : x = 27 := h1
        subst hx
        have e1 : at0 (27 :: y :: r) 1 = y := rfl
        have ed : (27 :: y :: r).drop 2 = r := rfl
        rw [e1, ed, if_neg (by simp)] at hs
        by_cases h3 : y ≠ 91
        · rw [if_pos h3] at hs; simp at hs
        · rw [if_neg h3] at hs
          have hy : y = 91 := by omega
          subst hy
          by_cases h4 : 30 < numR r
          · rw [if_pos h4] at hs; simp at hs
          · rw [if_neg h4] at hs
            by_cases h5 : (27 :: 91 :: r).length ≤ 2 + numR r
            · have hl : r.length ≤ numR r := by simp at h5; omega
              exact .inr (.inr (.inl ⟨r, rfl, numR_full2 r hl, by omega⟩))
            · rw [if_neg h5] at hs
              split at hs <;> simp at hs
    · rw [if_neg h1] at hs
      by_cases h2 : begB h = true
      · refine .inr (.inr (.inr ⟨by omega, h1, ?_⟩))
        have := beg_full h (by omega)
        rw [h2] at this
        cases hq : fullB h
        · rfl
        · rw [hq] at this; simp at this
      · rw [if_neg h2] at hs
        simp at hs
end Go.Proofs.YtinfdhbnljnifaaGreatDoor

namespace Go.Proofs.YtinfdhbnljnifaaGreatDoor
open Go.RowKit
theorem numR_ge_of : ∀ (m : Nat) (s : List Int), (∀ k, k < m → k < s.length ∧ 48 ≤ at0 s k ∧ at0 s k ≤ 63) → m ≤ numR s
  | 0, _, _ => Nat.zero_le _
  | m + 1, [], h => by have := (h 0 (by omega)).1; simp at this
  | m + 1, x :: xs, h => by
    have h0 := (h 0 (by omega)).2
    have hx : 48 ≤ x ∧ x ≤ 63 := h0
    rw [numR, if_pos hx]
    have := numR_ge_of m xs (fun k hk => by
      have h9 := h (k + 1) (by omega)
      exact ⟨by simpa using h9.1, h9.2⟩)
    omega
def par31 (s : List Int) : Nat := if 30 < numR s then 31 else numR s
set_option maxRecDepth 10000 in
set_option maxHeartbeats 2000000 in
theorem l2Params_any (bs : List Int) (v : Value) (i : Nat) (w : World) (hv : IntsAt w .u8 v bs) (hl : bs.length ≤ 4398046511104) (hil : i ≤ 4398046511104) :
    Calls Tryz.prog 89 #[v, .int .i64 i] w fun e w' => e = .returned (.int .i64 (par31 (bs.drop i))) ∧ w' = w := by
  obtain ⟨ao, cap, rfl, _, hr⟩ := hv
  have HR := hide hr
  clear hr
  go_enter Tryz.func89, Tryz.ntmps89
  go_wp2_with fail
  go_loopw [5] (fun n wr => ∃ k : Nat, k ≤ 31 ∧ n = .int .i64 k ∧ wr = w ∧ Hid (∀ j, j < k → j < (bs.drop i).length ∧ 48 ≤ at0 (bs.drop i) j ∧ at0 (bs.drop i) j ≤ 63)) (fun n _ => 31 - (intOf n).toNat)
  case atStart => exact ⟨0, Nat.zero_le _, rfl, rfl, hide (fun j hj => by omega)⟩
  case round =>
    obtain ⟨k, hk, rfl, rfl, HJ⟩ := hrel
    have wik : IntKind.i64.wrap ((i : Int) + (k : Int)) = (i : Int) + (k : Int) := by rw [IntKind.wrap_i64] <;> omega
    by_cases h1 : i + k < bs.length
    · have b1 : (i : Int) + (k : Int) < (bs.length : Int) := by omega
      by_cases h2 : k < 31
      · have b2 : (k : Int) < 31 := by omega
        obtain ⟨b, off, rfl, hc⟩ := (unhide HR) (by omega)
        have g1 := hc (i + k) h1
        have e9 : at0 (bs.drop i) k = at0 bs (i + k) := at0_drop bs i k
        have b0 : (0 : Int) ≤ (i : Int) + (k : Int) := by omega
        have bt : ((i : Int) + (k : Int)).toNat = i + k := by omega
        clear hc
        by_cases h3 : 48 ≤ at0 bs (i + k)
        · by_cases h4 : at0 bs (i + k) ≤ 63
          · have HJ2 : Hid (∀ j, j < k + 1 → j < (bs.drop i).length ∧ 48 ≤ at0 (bs.drop i) j ∧ at0 (bs.drop i) j ≤ 63) := hide (fun j hj => by
              by_cases e : j = k
              · subst e; rw [e9]; exact ⟨by simp; omega, h3, h4⟩
              · exact (unhide HJ) j (by omega))
            clear e9
            go_wp2
            go_roundw
            case rel => exact ⟨k + 1, by omega, by go_num, by first | rfl | trivial, HJ2⟩
            case measure => simp [intOf]; omega
          · have HN : Hid (par31 (bs.drop i) = k) := hide (by have := numR_eq k (bs.drop i) (unhide HJ) (.inr (.inr (by rw [e9]; omega))); unfold par31; rw [this, if_neg (by omega)])
            clear e9
            go_wp2
            exact bodyPost_ret (v := .int .i64 (par31 (bs.drop i))) (by rw [unhide HN]; simp [results, Tryz.results89, go_sem]) rfl ⟨rfl, rfl⟩
        · have HN : Hid (par31 (bs.drop i) = k) := hide (by have := numR_eq k (bs.drop i) (unhide HJ) (.inr (.inl (by rw [e9]; omega))); unfold par31; rw [this, if_neg (by omega)])
          clear e9
          go_wp2
          exact bodyPost_ret (v := .int .i64 (par31 (bs.drop i))) (by rw [unhide HN]; simp [results, Tryz.results89, go_sem]) rfl ⟨rfl, rfl⟩
      · obtain rfl : k = 31 := by omega
        have HN : Hid (par31 (bs.drop i) = 31) := hide (by have := numR_ge_of 31 (bs.drop i) (unhide HJ); unfold par31; rw [if_pos (by omega)])
        go_wp2
        exact bodyPost_ret (v := .int .i64 (par31 (bs.drop i))) (by rw [unhide HN]; simp [results, Tryz.results89, go_sem]) rfl ⟨rfl, rfl⟩
    · have b1 : ¬ (i : Int) + (k : Int) < (bs.length : Int) := by omega
      have HN : Hid (par31 (bs.drop i) = k) := hide (by
        unfold par31
        by_cases h31 : k = 31
        · have := numR_ge_of k (bs.drop i) (unhide HJ)
          rw [if_pos (by omega), h31]
        · have := numR_eq k (bs.drop i) (unhide HJ) (.inl (by simp; omega))
          rw [this, if_neg (by omega)])
      go_wp2
      exact bodyPost_ret (v := .int .i64 (par31 (bs.drop i))) (by rw [unhide HN]; simp [results, Tryz.results89, go_sem]) rfl ⟨rfl, rfl⟩
def escR (s : List Int) : Int × Bool :=
  if s.length ≤ 1 then (0, false) else if at0 s 1 ≠ 91 then (2, false) else if 30 < numR (s.drop 2) then (33, false) else if s.length ≤ 2 + numR (s.drop 2) then (0, false)
  else (numR (s.drop 2) + 3, decide (64 ≤ at0 s (2 + numR (s.drop 2))) && decide (at0 s (2 + numR (s.drop 2)) ≤ 126))
set_option maxRecDepth 10000 in
set_option maxHeartbeats 2000000 in
theorem l2Escape_any (bs : List Int) (v : Value) (i : Nat) (w : World) (hv : IntsAt w .u8 v bs) (hi : i < bs.length) (hl : bs.length ≤ 4398046511000) :
    Calls Tryz.prog 37 #[v, .int .i64 i] w fun e w' => e = .returned (.tuple #[.int .i64 (escR (bs.drop i)).1, .bool (escR (bs.drop i)).2]) ∧ w' = w := by
  have HV := hide hv
  obtain ⟨ao, cap, rfl, _, hr⟩ := hv
  obtain ⟨b, off, rfl, hc⟩ := hr (by omega)
  have HC := hide hc
  clear hr hc
  have w1 : IntKind.i64.wrap ((i : Int) + 1) = (i : Int) + 1 := by rw [IntKind.wrap_i64] <;> omega
  have w2 : IntKind.i64.wrap ((i : Int) + 2) = (i : Int) + 2 := by rw [IntKind.wrap_i64] <;> omega
  have hlen : (bs.drop i).length = bs.length - i := by simp
  by_cases h1 : i + 1 < bs.length
  · have b1 : (i : Int) + 1 < (bs.length : Int) := by omega
    have g1 := (unhide HC) (i + 1) h1
    have e1 : at0 (bs.drop i) 1 = at0 bs (i + 1) := at0_drop bs i 1
    have t1 : ((i : Int) + 1).toNat = i + 1 := by omega
    have p1 : (0 : Int) ≤ (i : Int) + 1 := by omega
    by_cases h2 : at0 bs (i + 1) = 91
    · have b2 : (at0 bs (i + 1) == 91) = true := by simp [h2]
      have HPp := hide (l2Params_any bs _ (i + 2) w (unhide HV) (by omega) (by omega))
      rw [show ((i + 2 : Nat) : Int) = (i : Int) + 2 by omega] at HPp
      have edr : bs.drop (i + 2) = (bs.drop i).drop 2 := by rw [List.drop_drop]
      obtain ⟨n, hn⟩ : ∃ n, n = numR ((bs.drop i).drop 2) := ⟨_, rfl⟩
      by_cases h3 : 30 < n
      · have ep : par31 (bs.drop (i + 2)) = 31 := by unfold par31; rw [edr, ← hn, if_pos h3]
        rw [ep] at HPp
        have HE : Hid (escR (bs.drop i) = (33, false)) := hide (by unfold escR; rw [if_neg (by omega), if_neg (by rw [e1]; simp [h2]), if_pos (by rw [← hn]; exact h3)])
        clear e1 edr hn ep hlen
        go_enter Tryz.func37, Tryz.ntmps37
        go_wp2_with fail
        refine (unhide HPp).mono ?_
        rintro e w9 ⟨rfl, rfl⟩
        go_wp2
        exact bodyPost_ret (v := .tuple #[.int .i64 33, .bool false]) (by simp [results, Tryz.results37, go_sem]) rfl ⟨by rw [unhide HE], rfl⟩
      · have ep : par31 (bs.drop (i + 2)) = n := by unfold par31; rw [edr, ← hn, if_neg h3]
        rw [ep] at HPp
        have w3 : IntKind.i64.wrap ((i : Int) + 2 + (n : Int)) = (i : Int) + 2 + (n : Int) := by rw [IntKind.wrap_i64] <;> omega
        have w4 : IntKind.i64.wrap ((n : Int) + 3) = (n : Int) + 3 := by rw [IntKind.wrap_i64] <;> omega
        have b3 : ¬ (30 : Int) < (n : Int) := by omega
        by_cases h4 : i + 2 + n < bs.length
        · have b4 : (i : Int) + 2 + (n : Int) < (bs.length : Int) := by omega
          have g4 := (unhide HC) (i + 2 + n) h4
          have t4 : ((i : Int) + 2 + (n : Int)).toNat = i + 2 + n := by omega
          have p4 : (0 : Int) ≤ (i : Int) + 2 + (n : Int) := by omega
          have HE : Hid (escR (bs.drop i) = ((n : Int) + 3, decide (64 ≤ at0 bs (i + 2 + n)) && decide (at0 bs (i + 2 + n) ≤ 126))) := hide (by
            unfold escR
            rw [if_neg (by omega), if_neg (by rw [e1]; simp [h2]), if_neg (by rw [← hn]; exact h3), if_neg (by rw [← hn]; omega), ← hn, at0_drop, Nat.add_assoc])
          clear e1 edr hn ep hlen
          by_cases c1 : 64 ≤ at0 bs (i + 2 + n)
          · by_cases c2 : at0 bs (i + 2 + n) ≤ 126
            · go_enter Tryz.func37, Tryz.ntmps37
              go_wp2_with fail
              refine (unhide HPp).mono ?_
              rintro e w9 ⟨rfl, rfl⟩
              go_wp2
              exact bodyPost_ret (v := .tuple #[.int .i64 ((n : Int) + 3), .bool true]) (by simp [results, Tryz.results37, go_sem]) rfl ⟨by rw [unhide HE]; simp [c1, c2], rfl⟩
            · go_enter Tryz.func37, Tryz.ntmps37
              go_wp2_with fail
              refine (unhide HPp).mono ?_
              rintro e w9 ⟨rfl, rfl⟩
              go_wp2
              exact bodyPost_ret (v := .tuple #[.int .i64 ((n : Int) + 3), .bool false]) (by simp [results, Tryz.results37, go_sem]; omega) rfl ⟨by rw [unhide HE]; simp; omega, rfl⟩
          · go_enter Tryz.func37, Tryz.ntmps37
            go_wp2_with fail
            refine (unhide HPp).mono ?_
            rintro e w9 ⟨rfl, rfl⟩
            go_wp2
            exact bodyPost_ret (v := .tuple #[.int .i64 ((n : Int) + 3), .bool false]) (by simp [results, Tryz.results37, go_sem]) rfl ⟨by rw [unhide HE]; simp; omega, rfl⟩
        · have b4 : ¬ (i : Int) + 2 + (n : Int) < (bs.length : Int) := by omega
          have HE : Hid (escR (bs.drop i) = (0, false)) := hide (by unfold escR; rw [if_neg (by omega), if_neg (by rw [e1]; simp [h2]), if_neg (by rw [← hn]; exact h3), if_pos (by rw [← hn]; omega)])
          clear e1 edr hn ep hlen
          go_enter Tryz.func37, Tryz.ntmps37
          go_wp2_with fail
          refine (unhide HPp).mono ?_
          rintro e w9 ⟨rfl, rfl⟩
          go_wp2
          exact bodyPost_ret (v := .tuple #[.int .i64 0, .bool false]) (by simp [results, Tryz.results37, go_sem]) rfl ⟨by rw [unhide HE], rfl⟩
    · have b2 : (at0 bs (i + 1) == 91) = false := by simp [h2]
      have HE : Hid (escR (bs.drop i) = (2, false)) := hide (by unfold escR; rw [if_neg (by omega), if_pos (by rw [e1]; exact h2)])
      clear e1 hlen
      go_enter Tryz.func37, Tryz.ntmps37
      go_wp2
      exact bodyPost_ret (v := .tuple #[.int .i64 2, .bool false]) (by simp [results, Tryz.results37, go_sem]) rfl ⟨by rw [unhide HE], rfl⟩
  · have b1 : ¬ (i : Int) + 1 < (bs.length : Int) := by omega
    have HE : Hid (escR (bs.drop i) = (0, false)) := hide (by unfold escR; rw [if_pos (by omega)])
    clear hlen
    go_enter Tryz.func37, Tryz.ntmps37
    go_wp2
    exact bodyPost_ret (v := .tuple #[.int .i64 0, .bool false]) (by simp [results, Tryz.results37, go_sem]) rfl ⟨by rw [unhide HE], rfl⟩
end Go.Proofs.YtinfdhbnljnifaaGreatDoor
