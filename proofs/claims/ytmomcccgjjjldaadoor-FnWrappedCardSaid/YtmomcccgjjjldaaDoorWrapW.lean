import Derived.Test.YtmomcccgjjjldaaDoorImplWrap
import Derived.Test.YtmomcccgjjjldaaDoorRound
namespace Go.Proofs.YtmomcccgjjjldaaDoor
open Go.RowKit
def pw (cs : List (List Int × Int)) : Nat → Int
  | 0 => 0
  | k + 1 => pw cs k + cW cs k
theorem clF_wid (xs : List Int) : ∀ k j, 0 ≤ cW (clF xs k) j ∧ cW (clF xs k) j ≤ 2
  | 0, j => by simp [clF, cW]
  | k + 1, j => by
    have ih := clF_wid xs k
    have hw := wid_bd (shownI (at0 xs k))
    rw [clF, clStep]
    split
    · rw [cW_push]; split
      · exact hw
      · exact ih j
    · split
      · by_cases hj : j = 0
        · subst hj; simp [cW]
        · simp [cW, List.getElem?_eq_none (show [(([9676, shownI (at0 xs k)] : List Int), (1 : Int))].length ≤ j by simp; omega)]
      · rename_i h1 h2
        rw [cW_set _ _ _ _ (by omega)]
        split
        · exact ih _
        · exact ih j
theorem pw_bd (cs : List (List Int × Int)) (h : ∀ j, 0 ≤ cW cs j ∧ cW cs j ≤ 2) : ∀ k, 0 ≤ pw cs k ∧ pw cs k ≤ 2 * (k : Int)
  | 0 => by simp [pw]
  | k + 1 => by have := pw_bd cs h k; have := h k; rw [pw]; omega
theorem pw_mono (cs : List (List Int × Int)) (h : ∀ j, 0 ≤ cW cs j ∧ cW cs j ≤ 2) (s : Nat) : ∀ e, s ≤ e → pw cs s ≤ pw cs e := by
  intro e
  induction e with
  | zero => intro h1; have : s = 0 := by omega
            subst this; exact Int.le_refl _
  | succ e ih =>
    intro h1
    by_cases e1 : s = e + 1
    · subst e1; exact Int.le_refl _
    · have := ih (by omega); have := h e; rw [pw]; omega
structure RowOk (cs : List (List Int × Int)) (cols : Int) (S : List Int) (u : Int) (k : Nat) : Prop where
  eq : u = pw cs k - pw cs (at0 S (S.length - 1)).toNat
  le : u ≤ cols
  rows : ∀ i, i + 1 < S.length → pw cs (at0 S (i + 1)).toNat - pw cs (at0 S i).toNat ≤ cols ∧ cols < pw cs (at0 S (i + 1)).toNat - pw cs (at0 S i).toNat + cW cs (at0 S (i + 1)).toNat ∧ at0 S i < at0 S (i + 1)
  last : 0 < k → at0 S (S.length - 1) < (k : Int)
theorem rowOk (cs : List (List Int × Int)) (cols : Int) (hc : 2 ≤ cols) (h : ∀ j, 0 ≤ cW cs j ∧ cW cs j ≤ 2) : ∀ k, RowOk cs cols (stF cs cols k).1 (stF cs cols k).2 k
  | 0 => ⟨by simp [stF, at0, pw], by simp [stF]; omega, fun i hi => by simp [stF] at hi, fun h => by omega⟩
  | k + 1 => by
    have ih := rowOk cs cols hc h k
    have ok := stF_ok cs cols k
    have hk := h k
    have hd : cWd (cW cs k) = cW cs k := by unfold cWd; rw [if_neg (by omega), if_neg (by omega)]
    have h1 := ok.one
    have hL := ok.le ((stF cs cols k).1.length - 1) (by omega)
    have e1 := ih.eq
    have e2 := ih.le
    rw [stF, hd]
    split
    · rename_i hn
      refine ⟨?_, by dsimp only; omega, fun i hi => ?_, fun _ => ?_⟩
      · dsimp only
        rw [at0_app, if_pos (by simp), pw]
        simp
        omega
      · dsimp only at hi ⊢
        simp at hi
        rw [at0_app (i := i), if_neg (by omega), at0_app (i := i + 1)]
        by_cases e : i + 1 = (stF cs cols k).1.length
        · rw [if_pos e]
          have e3 : (stF cs cols k).1.length - 1 = i := by omega
          rw [e3] at e1 hn
          simp only [Int.toNat_natCast]
          refine ⟨by omega, by omega, hn.1⟩
        · rw [if_neg e]
          exact ih.rows i (by omega)
      · dsimp only
        rw [at0_app, if_pos (by simp)]
        omega
    · rename_i hn
      refine ⟨by dsimp only; rw [pw]; omega, ?_, ih.rows, fun _ => by dsimp only; omega⟩
      dsimp only
      by_cases hlk : at0 (stF cs cols k).1 ((stF cs cols k).1.length - 1) < (k : Int)
      · have := fun h2 => hn ⟨hlk, h2⟩
        omega
      · have hk0 : k = 0 := by
          rcases Nat.eq_zero_or_pos k with e | e
          · exact e
          · exact absurd (ih.last e) hlk
        subst hk0
        have : (stF cs cols 0).2 = 0 := rfl
        omega
theorem wr_rows (cs : List (List Int × Int)) (cols : Int) (hc : 2 ≤ cols) (h : ∀ j, 0 ≤ cW cs j ∧ cW cs j ≤ 2) (i : Nat) (hi : i < (stF cs cols cs.length).1.length) :
    pw cs (at0 (wrS cs cols) (i + 1)).toNat - pw cs (at0 (wrS cs cols) i).toNat ≤ cols ∧
    (0 < i → (at0 (wrS cs cols) i).toNat < (at0 (wrS cs cols) (i + 1)).toNat ∧ cols < pw cs (at0 (wrS cs cols) i).toNat - pw cs (at0 (wrS cs cols) (i - 1)).toNat + cW cs (at0 (wrS cs cols) i).toNat) := by
  have r := rowOk cs cols hc h cs.length
  have ok := stF_ok cs cols cs.length
  have h1 := ok.one
  have a1 : at0 (wrS cs cols) i = at0 (stF cs cols cs.length).1 i := by unfold wrS; rw [at0_app, if_neg (by omega)]
  have a2 : at0 (wrS cs cols) (i - 1) = at0 (stF cs cols cs.length).1 (i - 1) := by unfold wrS; rw [at0_app, if_neg (by omega)]
  have a3 : at0 (wrS cs cols) (i + 1) = if i + 1 = (stF cs cols cs.length).1.length then (cs.length : Int) else at0 (stF cs cols cs.length).1 (i + 1) := by unfold wrS; rw [at0_app]
  rw [a1, a2, a3]
  have hb := ok.le i hi
  constructor
  · by_cases e : i + 1 = (stF cs cols cs.length).1.length
    · rw [if_pos e]
      have e1 := r.eq
      have e2 := r.le
      rw [show (stF cs cols cs.length).1.length - 1 = i by omega] at e1
      simp only [Int.toNat_natCast]
      omega
    · rw [if_neg e]
      exact (r.rows i (by omega)).1
  · intro h0
    have hr := r.rows (i - 1) (by omega)
    rw [show i - 1 + 1 = i by omega] at hr
    refine ⟨?_, hr.2.1⟩
    by_cases e : i + 1 = (stF cs cols cs.length).1.length
    · rw [if_pos e]
      have hb2 := ok.le (i - 1) (by omega)
      have h2 := r.last (by omega)
      rw [show (stF cs cols cs.length).1.length - 1 = i by omega] at h2
      simp only [Int.toNat_natCast]
      omega
    · rw [if_neg e]
      have := (r.rows i (by omega)).2.2
      omega
theorem textC_app (xs ys : List (List Int × Int)) : textC (xs ++ ys) = textC xs ++ textC ys := by
  rw [textC_flat, textC_flat, textC_flat, flat_app, encA_app]
theorem wr_text (cs : List (List Int × Int)) (cols : Int) (i : Nat) (hi : i < (stF cs cols cs.length).1.length) :
    textC (cs.take (at0 (wrS cs cols) (i + 1)).toNat) = textC (cs.take (at0 (wrS cs cols) i).toNat) ++ textC (wrC cs cols i) := by
  have h := wrS_step cs cols i hi
  rw [wrC, ← textC_app]
  congr 1
  have e : cs.take (at0 (wrS cs cols) i).toNat = (cs.take (at0 (wrS cs cols) (i + 1)).toNat).take (at0 (wrS cs cols) i).toNat := by
    rw [List.take_take, Nat.min_eq_left (by omega)]
  rw [e, List.take_append_drop]
theorem wr_first (cs : List (List Int × Int)) (cols : Int) : (at0 (wrS cs cols) 0).toNat = 0 := by
  have h := stF_ok cs cols cs.length
  have h1 := h.one
  unfold wrS
  rw [at0_app, if_neg (by omega), h.at00]
  rfl
theorem wr_end (cs : List (List Int × Int)) (cols : Int) : (at0 (wrS cs cols) (stF cs cols cs.length).1.length).toNat = cs.length := by
  unfold wrS
  rw [at0_app, if_pos rfl]
  simp
theorem sub_R (cs : List (List Int × Int)) (s e j : Nat) (hj : s + j < e) : cR ((cs.take e).drop s) j = cR cs (s + j) ∧ cW ((cs.take e).drop s) j = cW cs (s + j) := by
  unfold cR cW
  rw [List.getElem?_drop, List.getElem?_take, if_pos hj]
  exact ⟨rfl, rfl⟩
theorem sumR_sub (cs : List (List Int × Int)) (s e : Nat) : ∀ j, s + j ≤ e → sumR ((cs.take e).drop s) j + sumR cs s = sumR cs (s + j)
  | 0, _ => by simp [sumR]
  | j + 1, h => by
    have := sumR_sub cs s e j (by omega)
    rw [sumR, (sub_R cs s e j (by omega)).1, ← Nat.add_assoc, sumR]
    omega
theorem toBA_app2 (xs ys : List Int) : toBA xs ++ toBA ys = toBA (xs ++ ys) := by
  have h : (toBA xs ++ toBA ys).data.toList = (toBA (xs ++ ys)).data.toList := by
    rw [toBA_list, List.map_append, ← toBA_list, ← toBA_list]
    simp
  have h2 := Array.toList_inj.1 h
  cases h3 : toBA xs ++ toBA ys
  cases h4 : toBA (xs ++ ys)
  rw [h3, h4] at h2
  simp at h2
  rw [h2]
end Go.Proofs.YtmomcccgjjjldaaDoor
