import Derived.Test.YtjfnieodpdklfaaGreatDoorSettle
import Derived.Test.YtjfnieodpdklfaaGreatDoorImplWrap
import Derived.Test.YtjfnieodpdklfaaGreatDoorCells
import Derived.Test.YtjfnieodpdklfaaGreatDoorBaL
import Derived.Deep.RegionHeld3
import Derived.Test.YtjfnieodpdklfaaGreatDoorCls
namespace Go.Proofs.YtjfnieodpdklfaaGreatDoor
open Go.RowKit

theorem valid_or {r : Int} (h : Utf8.valid r = true) : (0 ≤ r ∧ r ≤ 127) ∨ (128 ≤ r ∧ r ≤ 2047) ∨ ((2048 ≤ r ∧ r < 55296) ∨ (57343 < r ∧ r ≤ 65535)) ∨ (65536 ≤ r ∧ r ≤ 1114111) := by
  have hb := valid_bd h
  by_cases hs : 55296 ≤ r ∧ r ≤ 57343
  · exfalso
    unfold Utf8.valid at h
    simp at h
    omega
  · omega
theorem dec_enc (r : Int) (h : Utf8.valid r = true) (rest : List Int) : decL (encR r ++ rest) = (r, (encR r).length) := by
  rcases valid_or h with h1 | h1 | h1 | h1
  · rw [encR_one h1.1 h1.2]
    have a0 : at0 ([r] ++ rest) 0 = r := by simp [at0]
    unfold decL
    simp only [a0]
    rw [if_pos (by omega)]
    rfl
  · rw [encR_two h1.1 h1.2]
    obtain ⟨l, hl⟩ : ∃ l, l = [192 + r / 64, 128 + r % 64] ++ rest := ⟨_, rfl⟩
    have a0 : at0 l 0 = 192 + r / 64 := by rw [hl]; simp [at0]
    have a1 : at0 l 1 = 128 + r % 64 := by rw [hl]; simp [at0]
    have c1 : cont l 1 = true := by unfold cont; rw [a1, hl]; simp; omega
    have hv : v2 l = r := by unfold v2; rw [a0, a1]; omega
    rw [← hl]
    unfold decL
    rw [if_neg (by omega), if_pos ⟨by omega, c1⟩, hv, if_pos (by omega)]
    rfl
  · rw [encR_three h1]
    obtain ⟨l, hl⟩ : ∃ l, l = [224 + r / 4096, 128 + r / 64 % 64, 128 + r % 64] ++ rest := ⟨_, rfl⟩
    have a0 : at0 l 0 = 224 + r / 4096 := by rw [hl]; simp [at0]
    have a1 : at0 l 1 = 128 + r / 64 % 64 := by rw [hl]; simp [at0]
    have a2 : at0 l 2 = 128 + r % 64 := by rw [hl]; simp [at0]
    have c1 : cont l 1 = true := by unfold cont; rw [a1, hl]; simp; omega
    have c2 : cont l 2 = true := by unfold cont; rw [a2, hl]; simp; omega
    have hv : v3 l = r := by unfold v3; rw [a0, a1, a2]; omega
    rw [← hl]
    unfold decL
    rw [if_neg (by omega), if_neg (by omega), if_pos ⟨by omega, c1, c2⟩, hv, if_pos ⟨by omega, h⟩]
    rfl
  · rw [encR_four h1.1 h1.2]
    obtain ⟨l, hl⟩ : ∃ l, l = [240 + r / 262144, 128 + r / 4096 % 64, 128 + r / 64 % 64, 128 + r % 64] ++ rest := ⟨_, rfl⟩
    have a0 : at0 l 0 = 240 + r / 262144 := by rw [hl]; simp [at0]
    have a1 : at0 l 1 = 128 + r / 4096 % 64 := by rw [hl]; simp [at0]
    have a2 : at0 l 2 = 128 + r / 64 % 64 := by rw [hl]; simp [at0]
    have a3 : at0 l 3 = 128 + r % 64 := by rw [hl]; simp [at0]
    have c1 : cont l 1 = true := by unfold cont; rw [a1, hl]; simp; omega
    have c2 : cont l 2 = true := by unfold cont; rw [a2, hl]; simp; omega
    have c3 : cont l 3 = true := by unfold cont; rw [a3, hl]; simp; omega
    have hv : v4 l = r := by unfold v4; rw [a0, a1, a2, a3]; omega
    rw [← hl]
    unfold decL
    rw [if_neg (by omega), if_neg (by omega), if_neg (by omega), if_pos ⟨by omega, c1, c2, c3⟩, hv, if_pos ⟨by omega, h⟩]
    rfl
/-- A rune that Clean may give. -/
def CleanR (r : Int) : Prop := Utf8.valid r = true ∧ 32 ≤ r ∧ ¬ (127 ≤ r ∧ r ≤ 159)
theorem CleanR.shown {r : Int} (h : CleanR r) : shownI r = r := by
  unfold shownI
  rw [if_neg]
  rintro (h1 | h1 | h1)
  · rw [h.1] at h1; cases h1
  · have := h.2.1; omega
  · exact h.2.2 h1
theorem CleanR.clean {r : Int} (h : CleanR r) : cleanR r = r := by
  unfold cleanR
  rw [if_neg (by have := h.2.1; omega), h.shown]
theorem cleanR_shown (r : Int) : CleanR (shownI r) := by
  unfold shownI
  split
  · exact ⟨by decide, by omega, by omega⟩
  · rename_i h
    refine ⟨?_, by omega, by omega⟩
    cases hv : Utf8.valid r
    · exact absurd (.inl hv) h
    · rfl
theorem cleanR_clean (r : Int) : CleanR (cleanR r) := by
  unfold cleanR
  split
  · exact ⟨by decide, by omega, by omega⟩
  · exact cleanR_shown r
theorem cleanF_mem : ∀ (f : Nat) (l : List Int), ∀ x ∈ cleanF f l, CleanR x
  | 0, l => by simp [cleanF]
  | f + 1, l => by
    intro x hx
    rw [cleanF] at hx
    split at hx
    · simp at hx
    · rcases List.mem_cons.1 hx with rfl | h
      · exact cleanR_clean _
      · exact cleanF_mem f _ x h
theorem cleanL_mem (l : List Int) : ∀ x ∈ cleanL l, CleanR x := cleanF_mem _ _
/-- The bytes of runes. -/
def encA : List Int → List Int
  | [] => []
  | x :: xs => encR x ++ encA xs
theorem encA_app (xs ys : List Int) : encA (xs ++ ys) = encA xs ++ encA ys := by
  induction xs with
  | nil => rfl
  | cons x xs ih => simp [encA, ih]
theorem encR_pos (r : Int) : 0 < (encR r).length := by
  unfold encR encL
  split
  · repeat' split
    all_goals simp
  · simp
theorem clean_enc : ∀ (xs : List Int), (∀ x ∈ xs, CleanR x) → cleanL (encA xs) = xs
  | [], _ => cleanL_nil _ rfl
  | x :: xs, h => by
    have hx := h x (by simp)
    have hp := encR_pos x
    rw [encA, cleanL_step _ (by simp; omega), dec_enc x hx.1]
    simp only
    rw [hx.clean, List.drop_left, clean_enc xs (fun y hy => h y (by simp [hy]))]
/-- All runes of clusters. -/
def flat : List (List Int × Int) → List Int
  | [] => []
  | c :: cs => c.1 ++ flat cs
theorem flat_app (xs ys : List (List Int × Int)) : flat (xs ++ ys) = flat xs ++ flat ys := by
  induction xs with
  | nil => rfl
  | cons x xs ih => simp [flat, ih]
theorem txR_all (xs : List Int) : ∀ k, k ≤ xs.length → txR xs k = encA (xs.take k)
  | 0, _ => by simp [txR, encA]
  | k + 1, h => by
    rw [txR, txR_all xs k (by omega), List.take_succ_eq_append_getElem (by omega), encA_app]
    simp [encA, at0, show k < xs.length by omega]
theorem txT_all (cs : List (List Int × Int)) : ∀ k, k ≤ cs.length → txT cs k = encA (flat (cs.take k))
  | 0, _ => by simp [txT, flat, encA]
  | k + 1, h => by
    rw [txT, txT_all cs k (by omega), List.take_succ_eq_append_getElem (by omega), flat_app, encA_app, txR_all _ _ (Nat.le_refl _), List.take_length]
    simp [flat, cR, show k < cs.length by omega]
theorem textC_flat (cs : List (List Int × Int)) : textC cs = encA (flat cs) := by
  rw [textC, txT_all cs cs.length (Nat.le_refl _), List.take_length]
theorem flat_set (cs : List (List Int × Int)) (x d : Int) (h : 0 < cs.length) : flat (cs.set (cs.length - 1) (cR cs (cs.length - 1) ++ [x], d)) = flat cs ++ [x] := by
  obtain ⟨ys, y, rfl⟩ : ∃ ys y, cs = ys ++ [y] := ⟨cs.dropLast, cs.getLast (by intro e; simp [e] at h), (List.dropLast_concat_getLast _).symm⟩
  have : (ys ++ [y]).length - 1 = ys.length := by simp
  rw [this, List.set_append_right _ _ (Nat.le_refl _), Nat.sub_self]
  simp [flat_app, flat, cR]
/-- With U+25CC in front where the first has no width. -/
def fl (xs : List Int) : List Int := if xs = [] then [] else if 0 < wid (at0 xs 0) then xs else 9676 :: xs
theorem clF_flat (xs : List Int) : ∀ k, k ≤ xs.length → (clF xs k).length = 0 ∧ k = 0 ∨ 0 < (clF xs k).length ∧ 0 < k ∧ flat (clF xs k) = fl ((xs.take k).map shownI)
  | 0, _ => .inl ⟨rfl, rfl⟩
  | k + 1, h => by
    right
    have hk : k < xs.length := by omega
    have ht : (xs.take (k + 1)).map shownI = (xs.take k).map shownI ++ [shownI (at0 xs k)] := by
      rw [List.take_succ_eq_append_getElem hk, List.map_append]
      simp [at0, hk]
    rcases clF_flat xs k (by omega) with ⟨h1, h2⟩ | ⟨h1, h2, h3⟩
    · subst h2
      rw [clF, clStep]
      have e0 : clF xs 0 = [] := rfl
      rw [ht, e0]
      by_cases hw : 0 < wid (shownI (at0 xs 0))
      · rw [if_pos hw]
        simp [flat, fl, at0] at hw ⊢
        exact hw
      · rw [if_neg hw]
        simp [flat, fl, at0] at hw ⊢
        exact hw
    · have hf : ∀ y, fl ((xs.take k).map shownI ++ [y]) = fl ((xs.take k).map shownI) ++ [y] := by
        intro y
        have hne : (xs.take k).map shownI ≠ [] := by
          intro e
          have h9 := congrArg List.length e
          rw [List.length_map, List.length_take, List.length_nil] at h9
          omega
        have ha : at0 ((xs.take k).map shownI ++ [y]) 0 = at0 ((xs.take k).map shownI) 0 := by
          unfold at0
          rw [List.getElem?_append_left (by simp; omega)]
        unfold fl
        rw [if_neg (by simp), if_neg hne, ha]
        split <;> simp
      rw [clF, clStep, ht, hf]
      by_cases hw : 0 < wid (shownI (at0 xs k))
      · rw [if_pos hw]
        refine ⟨by simp, by omega, ?_⟩
        rw [flat_app, h3]
        simp [flat]
      · rw [if_neg hw, if_neg (by omega)]
        refine ⟨by simpa using h1, by omega, ?_⟩
        rw [flat_set _ _ _ h1, h3]
theorem clus_flat (xs : List Int) (h : ∀ x ∈ xs, CleanR x) : flat (clusC xs) = fl xs := by
  have hm : xs.map shownI = xs := by
    conv => rhs; rw [← List.map_id xs]
    exact List.map_congr_left fun x hx => (h x hx).shown
  unfold clusC
  rcases clF_flat xs xs.length (Nat.le_refl _) with ⟨h1, h2⟩ | ⟨_, _, h3⟩
  · have e : xs = [] := List.eq_nil_of_length_eq_zero h2
    subst e
    rfl
  · rw [h3, List.take_length, hm]
theorem fl_clean (xs : List Int) (h : ∀ x ∈ xs, CleanR x) : ∀ x ∈ fl xs, CleanR x := by
  unfold fl
  split
  · simp
  · split
    · exact h
    · intro x hx
      rcases List.mem_cons.1 hx with rfl | hx
      · exact ⟨by decide, by omega, by omega⟩
      · exact h x hx
theorem fl_fl (xs : List Int) : fl (fl xs) = fl xs := by
  by_cases h : xs = []
  · subst h; rfl
  · by_cases hw : 0 < wid (at0 xs 0)
    · have : fl xs = xs := by unfold fl; rw [if_neg h, if_pos hw]
      rw [this, this]
    · have : fl xs = 9676 :: xs := by unfold fl; rw [if_neg h, if_neg hw]
      rw [this]
      conv => lhs; unfold fl
      rw [if_neg (by simp), if_pos (by show 0 < wid 9676; decide)]
theorem settleL_enc (bs : List Int) : settleL bs = encA (fl (cleanL bs)) := by
  rw [settleL, textC_flat, clus_flat _ (cleanL_mem bs)]
theorem settle_twice (bs : List Int) : settleL (settleL bs) = settleL bs := by
  rw [settleL_enc (settleL bs), settleL_enc bs, clean_enc _ (fl_clean _ (cleanL_mem bs)), fl_fl]
end Go.Proofs.YtjfnieodpdklfaaGreatDoor

namespace Go.Proofs.YtjfnieodpdklfaaGreatDoor
open Go.RowKit

/-- The width of the first k clusters. -/
def pw (cs : List (List Int × Int)) : Nat → Int
  | 0 => 0
  | k + 1 => pw cs k + cW cs k
theorem clF_wid (xs : List Int) : ∀ k j, 0 ≤ cW (clF xs k) j ∧ cW (clF xs k) j ≤ 2
  | 0, j => by simp [clF, cW]
  | k + 1, j => by
    have ih := clF_wid xs k
    have hw := wid_bd (shownI (at0 xs k))
    rw [clF, clStep]
    split
    · rw [cW_push]; split
      · exact hw
      · exact ih j
    · split
      · by_cases hj : j = 0
        · subst hj; simp [cW]
        · simp [cW, List.getElem?_eq_none (show [(([9676, shownI (at0 xs k)] : List Int), (1 : Int))].length ≤ j by simp; omega)]
      · rename_i h1 h2
        rw [cW_set _ _ _ _ (by omega)]
        split
        · exact ih _
        · exact ih j
theorem pw_bd (cs : List (List Int × Int)) (h : ∀ j, 0 ≤ cW cs j ∧ cW cs j ≤ 2) : ∀ k, 0 ≤ pw cs k ∧ pw cs k ≤ 2 * (k : Int)
  | 0 => by simp [pw]
  | k + 1 => by have := pw_bd cs h k; have := h k; rw [pw]; omega
theorem pw_mono (cs : List (List Int × Int)) (h : ∀ j, 0 ≤ cW cs j ∧ cW cs j ≤ 2) (s : Nat) : ∀ e, s ≤ e → pw cs s ≤ pw cs e := by
  intro e
  induction e with
  | zero => intro h1; have : s = 0 := by omega
            subst this; exact Int.le_refl _
  | succ e ih =>
    intro h1
    by_cases e1 : s = e + 1
    · subst e1; exact Int.le_refl _
    · have := ih (by omega); have := h e; rw [pw]; omega
structure RowOk (cs : List (List Int × Int)) (cols : Int) (S : List Int) (u : Int) (k : Nat) : Prop where
  eq : u = pw cs k - pw cs (at0 S (S.length - 1)).toNat
  le : u ≤ cols
  rows : ∀ i, i + 1 < S.length → pw cs (at0 S (i + 1)).toNat - pw cs (at0 S i).toNat ≤ cols ∧ cols < pw cs (at0 S (i + 1)).toNat - pw cs (at0 S i).toNat + cW cs (at0 S (i + 1)).toNat ∧ at0 S i < at0 S (i + 1)
  last : 0 < k → at0 S (S.length - 1) < (k : Int)
theorem rowOk (cs : List (List Int × Int)) (cols : Int) (hc : 2 ≤ cols) (h : ∀ j, 0 ≤ cW cs j ∧ cW cs j ≤ 2) : ∀ k, RowOk cs cols (stF cs cols k).1 (stF cs cols k).2 k
  | 0 => ⟨by simp [stF, at0, pw], by simp [stF]; omega, fun i hi => by simp [stF] at hi, fun h => by omega⟩
  | k + 1 => by
    have ih := rowOk cs cols hc h k
    have ok := stF_ok cs cols k
    have hk := h k
    have hd : cWd (cW cs k) = cW cs k := by unfold cWd; rw [if_neg (by omega), if_neg (by omega)]
    have h1 := ok.one
    have hL := ok.le ((stF cs cols k).1.length - 1) (by omega)
    have e1 := ih.eq
    have e2 := ih.le
    rw [stF, hd]
    split
    · rename_i hn
      refine ⟨?_, by dsimp only; omega, fun i hi => ?_, fun _ => ?_⟩
      · dsimp only
        rw [at0_app, if_pos (by simp), pw]
        simp
        omega
      · dsimp only at hi ⊢
        simp at hi
        rw [at0_app (i := i), if_neg (by omega), at0_app (i := i + 1)]
        by_cases e : i + 1 = (stF cs cols k).1.length
        · rw [if_pos e]
          have e3 : (stF cs cols k).1.length - 1 = i := by omega
          rw [e3] at e1 hn
          simp only [Int.toNat_natCast]
          refine ⟨by omega, by omega, hn.1⟩
        · rw [if_neg e]
          exact ih.rows i (by omega)
      · dsimp only
        rw [at0_app, if_pos (by simp)]
        omega
    · rename_i hn
      refine ⟨by dsimp only; rw [pw]; omega, ?_, ih.rows, fun _ => by dsimp only; omega⟩
      dsimp only
      by_cases hlk : at0 (stF cs cols k).1 ((stF cs cols k).1.length - 1) < (k : Int)
      · have := fun h2 => hn ⟨hlk, h2⟩
        omega
      · have hk0 : k = 0 := by
          rcases Nat.eq_zero_or_pos k with e | e
          · exact e
          · exact absurd (ih.last e) hlk
        subst hk0
        have : (stF cs cols 0).2 = 0 := rfl
        omega
/-- What the law asks of the rows. -/
theorem wr_rows (cs : List (List Int × Int)) (cols : Int) (hc : 2 ≤ cols) (h : ∀ j, 0 ≤ cW cs j ∧ cW cs j ≤ 2) (i : Nat) (hi : i < (stF cs cols cs.length).1.length) :
    pw cs (at0 (wrS cs cols) (i + 1)).toNat - pw cs (at0 (wrS cs cols) i).toNat ≤ cols ∧
    (0 < i → (at0 (wrS cs cols) i).toNat < (at0 (wrS cs cols) (i + 1)).toNat ∧ cols < pw cs (at0 (wrS cs cols) i).toNat - pw cs (at0 (wrS cs cols) (i - 1)).toNat + cW cs (at0 (wrS cs cols) i).toNat) := by
  have r := rowOk cs cols hc h cs.length
  have ok := stF_ok cs cols cs.length
  have h1 := ok.one
  have a1 : at0 (wrS cs cols) i = at0 (stF cs cols cs.length).1 i := by unfold wrS; rw [at0_app, if_neg (by omega)]
  have a2 : at0 (wrS cs cols) (i - 1) = at0 (stF cs cols cs.length).1 (i - 1) := by unfold wrS; rw [at0_app, if_neg (by omega)]
  have a3 : at0 (wrS cs cols) (i + 1) = if i + 1 = (stF cs cols cs.length).1.length then (cs.length : Int) else at0 (stF cs cols cs.length).1 (i + 1) := by unfold wrS; rw [at0_app]
  rw [a1, a2, a3]
  have hb := ok.le i hi
  constructor
  · by_cases e : i + 1 = (stF cs cols cs.length).1.length
    · rw [if_pos e]
      have e1 := r.eq
      have e2 := r.le
      rw [show (stF cs cols cs.length).1.length - 1 = i by omega] at e1
      simp only [Int.toNat_natCast]
      omega
    · rw [if_neg e]
      exact (r.rows i (by omega)).1
  · intro h0
    have hr := r.rows (i - 1) (by omega)
    rw [show i - 1 + 1 = i by omega] at hr
    refine ⟨?_, hr.2.1⟩
    by_cases e : i + 1 = (stF cs cols cs.length).1.length
    · rw [if_pos e]
      have hb2 := ok.le (i - 1) (by omega)
      have h2 := r.last (by omega)
      rw [show (stF cs cols cs.length).1.length - 1 = i by omega] at h2
      simp only [Int.toNat_natCast]
      omega
    · rw [if_neg e]
      have := (r.rows i (by omega)).2.2
      omega
theorem textC_app (xs ys : List (List Int × Int)) : textC (xs ++ ys) = textC xs ++ textC ys := by
  rw [textC_flat, textC_flat, textC_flat, flat_app, encA_app]
theorem wr_text (cs : List (List Int × Int)) (cols : Int) (i : Nat) (hi : i < (stF cs cols cs.length).1.length) :
    textC (cs.take (at0 (wrS cs cols) (i + 1)).toNat) = textC (cs.take (at0 (wrS cs cols) i).toNat) ++ textC (wrC cs cols i) := by
  have h := wrS_step cs cols i hi
  rw [wrC, ← textC_app]
  congr 1
  have e : cs.take (at0 (wrS cs cols) i).toNat = (cs.take (at0 (wrS cs cols) (i + 1)).toNat).take (at0 (wrS cs cols) i).toNat := by
    rw [List.take_take, Nat.min_eq_left (by omega)]
  rw [e, List.take_append_drop]
theorem wr_first (cs : List (List Int × Int)) (cols : Int) : (at0 (wrS cs cols) 0).toNat = 0 := by
  have h := stF_ok cs cols cs.length
  have h1 := h.one
  unfold wrS
  rw [at0_app, if_neg (by omega), h.at00]
  rfl
theorem wr_end (cs : List (List Int × Int)) (cols : Int) : (at0 (wrS cs cols) (stF cs cols cs.length).1.length).toNat = cs.length := by
  unfold wrS
  rw [at0_app, if_pos rfl]
  simp
theorem sub_R (cs : List (List Int × Int)) (s e j : Nat) (hj : s + j < e) : cR ((cs.take e).drop s) j = cR cs (s + j) ∧ cW ((cs.take e).drop s) j = cW cs (s + j) := by
  unfold cR cW
  rw [List.getElem?_drop, List.getElem?_take, if_pos hj]
  exact ⟨rfl, rfl⟩
theorem sumR_sub (cs : List (List Int × Int)) (s e : Nat) : ∀ j, s + j ≤ e → sumR ((cs.take e).drop s) j + sumR cs s = sumR cs (s + j)
  | 0, _ => by simp [sumR]
  | j + 1, h => by
    have := sumR_sub cs s e j (by omega)
    rw [sumR, (sub_R cs s e j (by omega)).1, ← Nat.add_assoc, sumR]
    omega
theorem toBA_app2 (xs ys : List Int) : toBA xs ++ toBA ys = toBA (xs ++ ys) := by
  have h : (toBA xs ++ toBA ys).data.toList = (toBA (xs ++ ys)).data.toList := by
    rw [toBA_list, List.map_append, ← toBA_list, ← toBA_list]
    simp
  have h2 := Array.toList_inj.1 h
  cases h3 : toBA xs ++ toBA ys
  cases h4 : toBA (xs ++ ys)
  rw [h3, h4] at h2
  simp at h2
  rw [h2]
end Go.Proofs.YtjfnieodpdklfaaGreatDoor

namespace Go.Proofs.YtjfnieodpdklfaaGreatDoor
open Go.RowKit

/-- The clusters of a text. -/
def cutC (bs : List Int) : List (List Int × Int) := clusC (cleanL bs)
/-- Every cluster has a width of 1 or 2. -/
def Wides (cs : List (List Int × Int)) : Prop := ∀ j, j < cs.length → 1 ≤ cW cs j ∧ cW cs j ≤ 2
theorem cW_none (cs : List (List Int × Int)) (j : Nat) (h : cs.length ≤ j) : cW cs j = 0 := by simp [cW, List.getElem?_eq_none h]
theorem Wides.all {cs : List (List Int × Int)} (h : Wides cs) (j : Nat) : 0 ≤ cW cs j ∧ cW cs j ≤ 2 := by
  by_cases hj : j < cs.length
  · have := h j hj; omega
  · rw [cW_none cs j (by omega)]; omega
theorem cW_app (xs ys : List (List Int × Int)) (j : Nat) : cW (xs ++ ys) j = if j < xs.length then cW xs j else cW ys (j - xs.length) := by
  unfold cW
  split
  · rename_i h; rw [List.getElem?_append_left h]
  · rename_i h; rw [List.getElem?_append_right (by omega)]
theorem cR_app (xs ys : List (List Int × Int)) (j : Nat) : cR (xs ++ ys) j = if j < xs.length then cR xs j else cR ys (j - xs.length) := by
  unfold cR
  split
  · rename_i h; rw [List.getElem?_append_left h]
  · rename_i h; rw [List.getElem?_append_right (by omega)]
theorem Wides.app {xs ys : List (List Int × Int)} (hx : Wides xs) (hy : Wides ys) : Wides (xs ++ ys) := by
  intro j hj
  rw [cW_app]
  split
  · rename_i h; exact hx j h
  · rename_i h; simp at hj; exact hy _ (by omega)
theorem clF_pos (xs : List Int) : ∀ k j, j < (clF xs k).length → 1 ≤ cW (clF xs k) j
  | 0, j, h => by simp [clF] at h
  | k + 1, j, h => by
    have ih := clF_pos xs k
    rw [clF, clStep] at h ⊢
    split
    · rename_i h1
      rw [if_pos h1] at h
      rw [cW_push]
      split
      · omega
      · rename_i h2; simp at h; exact ih j (by omega)
    · rename_i h1
      rw [if_neg h1] at h
      split
      · rename_i h2
        rw [if_pos h2] at h
        simp at h
        subst h
        simp [cW]
      · rename_i h2
        rw [if_neg h2] at h
        simp at h
        rw [cW_set _ _ _ _ (by omega)]
        split
        · exact ih _ (by omega)
        · exact ih j h
theorem cutC_wides (bs : List Int) : Wides (cutC bs) := fun j hj => ⟨clF_pos _ _ j hj, (clF_wid _ _ j).2⟩
theorem pw_strict {cs : List (List Int × Int)} (h : Wides cs) {s e : Nat} (hse : s < e) (he : e ≤ cs.length) : pw cs s < pw cs e := by
  have h1 := pw_mono cs h.all s (e - 1) (by omega)
  have h2 := h (e - 1) (by omega)
  obtain ⟨k, rfl⟩ : ∃ k, e = k + 1 := ⟨e - 1, by omega⟩
  rw [pw]
  simp at h1 h2
  omega
/-- The row of a place, of the first i starts. -/
def rwF (S : List Int) (p : Int) : Nat → Nat
  | 0 => 0
  | i + 1 => if at0 S i ≤ p then i else rwF S p i
theorem rwF_lt (S : List Int) (p : Int) : ∀ i, 0 < i → rwF S p i < i
  | 0, h => by omega
  | i + 1, _ => by
    rw [rwF]
    split
    · omega
    · by_cases h0 : i = 0
      · subst h0; simp [rwF]
      · have := rwF_lt S p i (by omega); omega
theorem rwF_le (S : List Int) (p : Int) (h0 : at0 S 0 ≤ p) : ∀ i, at0 S (rwF S p i) ≤ p
  | 0 => h0
  | i + 1 => by
    rw [rwF]
    split
    · assumption
    · exact rwF_le S p h0 i
theorem rwF_above (S : List Int) (p : Int) : ∀ i j, rwF S p i < j → j < i → p < at0 S j
  | 0, j, _, h => by omega
  | i + 1, j, h1, h2 => by
    rw [rwF] at h1
    split at h1
    · omega
    · rename_i h
      by_cases e : j = i
      · subst e; omega
      · exact rwF_above S p i j h1 (by omega)
/-- The one row that holds a place. -/
theorem rwF_only {S : List Int} {p : Int} {m i : Nat} (hm : i < m) (h1 : at0 S i ≤ p) (h2 : ∀ j, i < j → j < m → p < at0 S j) (h0 : at0 S 0 ≤ p) : rwF S p m = i := by
  have a := rwF_lt S p m (by omega)
  have b := rwF_le S p h0 m
  by_cases e : rwF S p m < i
  · have := rwF_above S p m i e hm; omega
  · by_cases e2 : i < rwF S p m
    · have := h2 _ e2 a; omega
    · omega
section
variable (cs : List (List Int × Int)) (cols : Nat) (p rows : Nat)
def stS : List Int := (stF cs cols cs.length).1
def layRow0 : Nat := rwF (stS cs cols) p (stS cs cols).length
def layCol0 : Int := pw cs p - pw cs (at0 (stS cs cols) (layRow0 cs cols p)).toNat
/-- The cursor stands behind a full last row. -/
def LayFull : Prop := p = cs.length ∧ layCol0 cs cols p = cols
abbrev layD : Decidable (LayFull cs cols p) := inferInstanceAs (Decidable (p = cs.length ∧ layCol0 cs cols p = cols))
def layS : List Int := @ite _ (LayFull cs cols p) (layD cs cols p) (stS cs cols ++ [(p : Int)]) (stS cs cols)
def layRow : Nat := @ite _ (LayFull cs cols p) (layD cs cols p) (layRow0 cs cols p + 1) (layRow0 cs cols p)
def layCol : Int := @ite _ (LayFull cs cols p) (layD cs cols p) (0) (layCol0 cs cols p)
def layFr : Nat := layRow cs cols p + 1 - rows
def layCnt : Nat := min (layFr cs cols p rows + rows) (layS cs cols p).length - layFr cs cols p rows
/-- The clusters of row i. -/
def layC (i : Nat) : List (List Int × Int) := (cs.take (at0 (layS cs cols p ++ [(cs.length : Int)]) (i + 1)).toNat).drop (at0 (layS cs cols p ++ [(cs.length : Int)]) i).toNat
def layT (i : Nat) : ByteArray := toBA (textC (layC cs cols p (layFr cs cols p rows + i)))
end
variable {cs : List (List Int × Int)} {cols p : Nat}
theorem stS_row (hw : Wides cs) (hc : 2 ≤ cols) : RowOk cs cols (stS cs cols) (stF cs cols cs.length).2 cs.length := rowOk cs cols (by omega) hw.all cs.length
theorem layRow0_lt : layRow0 cs cols p < (stS cs cols).length := rwF_lt _ _ _ (by have := (stF_ok cs cols cs.length).one; exact this)
theorem stS_zero : at0 (stS cs cols) 0 = 0 := (stF_ok cs cols cs.length).at00
theorem layRow0_le : at0 (stS cs cols) (layRow0 cs cols p) ≤ (p : Int) := rwF_le _ _ (by rw [stS_zero]; omega) _
theorem layRow0_above {j : Nat} (h1 : layRow0 cs cols p < j) (h2 : j < (stS cs cols).length) : (p : Int) < at0 (stS cs cols) j := rwF_above _ _ _ _ h1 h2
theorem stS_nonneg {i : Nat} (hi : i < (stS cs cols).length) : 0 ≤ at0 (stS cs cols) i ∧ at0 (stS cs cols) i ≤ (cs.length : Int) := (stF_ok cs cols cs.length).le i hi
/-- The program's test for a full row is the specification's. -/
theorem full_iff (hw : Wides cs) (hc : 2 ≤ cols) (hp : p ≤ cs.length) : LayFull cs cols p ↔ layCol0 cs cols p = cols := by
  refine ⟨fun h => h.2, fun h => ⟨?_, h⟩⟩
  by_cases e : p = cs.length
  · exact e
  exfalso
  have hlt := layRow0_lt (cs := cs) (cols := cols) (p := p)
  have hle := layRow0_le (cs := cs) (cols := cols) (p := p)
  have ok := stS_row hw hc
  have hn := stS_nonneg hlt
  unfold layCol0 at h
  by_cases hl : layRow0 cs cols p + 1 < (stS cs cols).length
  · have h1 := (ok.rows _ hl).1
    have h2 := layRow0_above (cs := cs) (cols := cols) (p := p) (show layRow0 cs cols p < layRow0 cs cols p + 1 by omega) hl
    have h3 := stS_nonneg hl
    have h4 := pw_strict hw (s := p) (e := (at0 (stS cs cols) (layRow0 cs cols p + 1)).toNat) (by omega) (by omega)
    omega
  · have h1 := ok.le
    have h2 := ok.eq
    have h3 : (stS cs cols).length - 1 = layRow0 cs cols p := by omega
    rw [h3] at h2
    have h4 := pw_strict hw (s := p) (e := cs.length) (by omega) (Nat.le_refl _)
    omega
theorem layCol0_bd (hw : Wides cs) (hc : 2 ≤ cols) (hp : p ≤ cs.length) : 0 ≤ layCol0 cs cols p ∧ layCol0 cs cols p ≤ cols := by
  have hlt := layRow0_lt (cs := cs) (cols := cols) (p := p)
  have hle := layRow0_le (cs := cs) (cols := cols) (p := p)
  have ok := stS_row hw hc
  have hn := stS_nonneg hlt
  unfold layCol0
  have h0 := pw_mono cs hw.all (at0 (stS cs cols) (layRow0 cs cols p)).toNat p (by omega)
  refine ⟨by omega, ?_⟩
  by_cases hl : layRow0 cs cols p + 1 < (stS cs cols).length
  · have h1 := (ok.rows _ hl).1
    have h2 := layRow0_above (cs := cs) (cols := cols) (p := p) (show layRow0 cs cols p < layRow0 cs cols p + 1 by omega) hl
    have h3 := stS_nonneg hl
    have h4 := pw_mono cs hw.all p (at0 (stS cs cols) (layRow0 cs cols p + 1)).toNat (by omega)
    omega
  · have h1 := ok.le
    have h2 := ok.eq
    have h3 : (stS cs cols).length - 1 = layRow0 cs cols p := by omega
    rw [h3] at h2
    have h4 := pw_mono cs hw.all p cs.length hp
    omega
theorem layS_len : (layS cs cols p).length ≤ cs.length + 2 := by
  have := (stF_ok cs cols cs.length).len
  unfold layS
  split
  · simp [stS]; omega
  · simp [stS]; omega
theorem layRow_lt : layRow cs cols p < (layS cs cols p).length := by
  have := layRow0_lt (cs := cs) (cols := cols) (p := p)
  unfold layRow layS
  split
  · simp; omega
  · exact this
/-- The width of clusters together. -/
def wsum (cs : List (List Int × Int)) : Int := pw cs cs.length
theorem pw_app (xs ys : List (List Int × Int)) : ∀ k, k ≤ xs.length → pw (xs ++ ys) k = pw xs k
  | 0, _ => rfl
  | k + 1, h => by rw [pw, pw, pw_app xs ys k (by omega), cW_app, if_pos (by omega)]
theorem pw_sub (cs : List (List Int × Int)) (s e : Nat) : ∀ j, s + j ≤ e → pw ((cs.take e).drop s) j = pw cs (s + j) - pw cs s
  | 0, _ => by simp [pw]
  | j + 1, h => by rw [pw, pw_sub cs s e j (by omega), (sub_R cs s e j (by omega)).2, ← Nat.add_assoc, pw]; omega
theorem wsum_sub (cs : List (List Int × Int)) (s e : Nat) (hse : s ≤ e) (he : e ≤ cs.length) : wsum ((cs.take e).drop s) = pw cs e - pw cs s := by
  unfold wsum
  rw [List.length_drop, List.length_take, show min e cs.length - s = e - s by omega, pw_sub cs s e _ (by omega), show s + (e - s) = e by omega]
end Go.Proofs.YtjfnieodpdklfaaGreatDoor

namespace Go.Proofs.YtjfnieodpdklfaaGreatDoor
open Go.RowKit

abbrev noT : ByteArray := { data := #[] }
set_option maxHeartbeats 1000000 in
theorem eqSnap_same (s : ByteArray) (h : ByteArray) (w : World) : Calls Tryz.prog 107 #[.agg #[.string s, .string h], .agg #[.string s, .string h]] w fun e w' => e = .returned (.bool true) ∧ Ext w w' := by
  go_enter Tryz.func107, Tryz.ntmps107
  go_wp2
  go_ret
  exact ⟨rfl, ((Ext.refl _).alloc _).alloc _⟩
set_option maxHeartbeats 1000000 in
theorem eqSnapS_same (va vb : Value) (n : Nat) (tx : Nat → ByteArray) (hf : Nat → ByteArray) (w : World) (ha : Row2At w va n (fun j => .string (tx j)) (fun j => .string (hf j))) (hb : Row2At w vb n (fun j => .string (tx j)) (fun j => .string (hf j))) (hl : n ≤ 4398046511104) :
    Calls Tryz.prog 64 #[va, vb] w fun e w' => e = .returned (.bool true) ∧ Ext w w' := by
  obtain ⟨ao, ca, rfl, hca, hxa⟩ := ha
  obtain ⟨bo, cb, rfl, hcb, hxb⟩ := hb
  by_cases h0 : n = 0
  · subst h0
    clear hxa hxb
    go_enter Tryz.func64, Tryz.ntmps64
    go_wp2
    go_loop [5] (fun i => i = .int .i64 0) (fun _ => 0)
    case atStart => rfl
    case round =>
      subst hrel
      go_wp2
      go_ret
      exact ⟨rfl, Ext.refl _⟩
  · obtain ⟨b1, o1, rfl, h1⟩ := hxa (by omega)
    obtain ⟨b2, o2, rfl, h2⟩ := hxb (by omega)
    clear hxa hxb
    have H1 := hide h1
    have H2 := hide h2
    clear h1 h2
    go_enter Tryz.func64, Tryz.ntmps64
    go_wp2
    go_loopw [5] (fun i w' => ∃ k : Nat, k ≤ n ∧ i = .int .i64 k ∧ Ext w w') (fun i _ => n - (intOf i).toNat)
    case atStart => exact ⟨0, Nat.zero_le _, rfl, Ext.refl _⟩
    case round =>
      obtain ⟨k, hk, rfl, hext⟩ := hrel
      by_cases hlt : k < n
      · have g1 := hext.cell ((unhide H1) k hlt).1
        have g2 := hext.cell ((unhide H1) k hlt).2
        have g3 := hext.cell ((unhide H2) k hlt).1
        have g4 := hext.cell ((unhide H2) k hlt).2
        have bk : (k : Int) < (n : Int) := by omega
        go_wp2
        go_region_held3 (fun W => Ext wr W ∧ W.cell? ⟨b1, o1 + k * 2, none⟩ = some (.string (tx k)) ∧ W.cell? ⟨b1, o1 + k * 2 + 1, none⟩ = some (.string (hf k)) ∧ W.cell? ⟨b2, o2 + k * 2, none⟩ = some (.string (tx k)) ∧ W.cell? ⟨b2, o2 + k * 2 + 1, none⟩ = some (.string (hf k))) (first | exact ⟨(Ext.refl wr).drew, g1, g2, g3, g4⟩ | exact ⟨(Ext.refl wr).drew.trans he', he'.cell g1, he'.cell g2, he'.cell g3, he'.cell g4⟩) (first | (go_at_call 107; refine (eqSnap_same _ _ _).mono ?_; rintro e w' ⟨rfl, he'⟩))
        rename_i hS
        have hE := hext.trans hS.1
        clear hS g1 g2 g3 g4
        go_wp2
        go_roundw
        case rel => exact ⟨k + 1, by omega, by go_num, hE⟩
        case measure => simp [intOf]; omega
      · go_wp2
        go_ret
        exact ⟨rfl, hext⟩
theorem madeS_two (a b : Value) (n j : Nat) (hj : j < n) : (madeCells (Value.agg #[a, b]).cells (n * 2)).toList[j * 2]? = some a ∧ (madeCells (Value.agg #[a, b]).cells (n * 2)).toList[j * 2 + 1]? = some b := by
  have e0 : j * 2 % 2 = 0 := by omega
  have e1 : (j * 2 + 1) % 2 = 1 := by omega
  constructor
  · simp [madeCells, Value.cells, show j * 2 < n * 2 by omega, e0]
  · simp [madeCells, Value.cells, show j * 2 + 1 < n * 2 by omega, e1]
theorem madeS_row {w : World} {base : Nat} {T : TypeId} {v : Value} {n : Nat} {a b : Value} (h : w.ownsRow base T 2 v n (madeCells (Value.agg #[a, b]).cells (n * 2)).toList) : Own2 w base T v n (fun _ => a) (fun _ => b) :=
  ⟨_, h, fun j hj => madeS_two a b n j hj⟩
theorem infoSnap : (Tryz.prog.info? 109).map (fun i => (i.zero, i.size, i.bytes)) = some (some (.agg #[.string noT, .string noT]), 2, 32) := by kernel_rfl
set_option maxHeartbeats 1000000 in
theorem toSnap_any (s : ByteArray) (b : ByteArray) (w : World) :
    Calls Tryz.prog 109 #[.agg #[.string s, .string b]] w fun e w' => e = .returned (.agg #[.string s, .string b]) ∧ Ext w w' := by
  go_enter Tryz.func109, Tryz.ntmps109
  go_wp2
  refine bodyPost_ret (v := .agg #[.string s, .string b]) (by simp [results, Tryz.results109, go_sem]) rfl ⟨rfl, ?_⟩
  exact (((Ext.refl _).alloc _).alloc _).alloc _
set_option maxHeartbeats 1000000 in
theorem toSnapS_any (v : Value) (n : Nat) (tx : Nat → ByteArray) (hf : Nat → ByteArray) (w : World) (hv : Row2At w v n (fun j => .string (tx j)) (fun j => .string (hf j))) (hn : n ≤ 1048576) :
    Calls Tryz.prog 70 #[v] w fun e w' => e = .returned (.slice (some ⟨w.heap.size, 0, none⟩) n n) ∧ Own2 w' w.heap.size 109 (.slice (some ⟨w.heap.size, 0, none⟩) n n) n (fun j => .string (tx j)) (fun j => .string (hf j)) ∧ Ext w w' := by
  obtain ⟨ic, hic, hc0, hc1, hc2⟩ := info_parts infoSnap
  obtain ⟨ao, ca, rfl, hca, hxa⟩ := hv
  have HXA := hide hxa
  clear hxa
  go_enter Tryz.func70, Tryz.ntmps70
  go_wp2_with (at_make; refine wpList_make_full _ rfl _ _ 22 rfl w.heap.size 109 ic (.agg #[.string noT, .string noT]) 2 Tryz.underlying22 hic hc0 hc1 _ _ _ _ n rfl rfl rfl rfl (by rw [hc2]; omega) (by unfold maxLen; omega) (Nat.le_refl _) ?_; intro w1 hown hgr)
  have H0 := hide ((madeS_row hown).congr (A' := fun i => if i < 0 then .string (tx i) else .string noT) (B' := fun i => if i < 0 then .string (hf i) else .string noT) (fun i _ => ⟨by simp, by simp⟩))
  have HG := hide hgr
  clear hown hgr
  go_loopw [4] (fun i wr => ∃ (j : Nat), j ≤ n ∧ i = .int .i64 j ∧ Hid (Own2 wr w.heap.size 109 (.slice (some ⟨w.heap.size, 0, none⟩) n n) n (fun i => if i < j then .string (tx i) else .string noT) (fun i => if i < j then .string (hf i) else .string noT)) ∧ Ext w wr) (fun i _ => n - (intOf i).toNat)
  case atStart => exact ⟨0, Nat.zero_le _, rfl, H0, unhide HG⟩
  case round =>
    clear H0 HG
    obtain ⟨j, hj, rfl, HO, hext⟩ := hrel
    by_cases hlt : j < n
    · obtain ⟨b, off, rfl, hc⟩ := (unhide HXA) (by omega)
      have bj : (j : Int) < (n : Int) := by omega
      have g1 := hext.cell (hc j hlt).1
      have g2 := hext.cell (hc j hlt).2
      clear hc
      go_wp2_with fail
      refine (toSnap_any (tx j) (hf j) wr).mono ?_
      rintro e w2 ⟨rfl, he⟩
      obtain ⟨⟨c0', f0⟩, c1', f1⟩ := ((unhide HO).ext he).cell hlt
      obtain ⟨u0, c0⟩ : ∃ u, w2.cell? ⟨w.heap.size, j * 2, none⟩ = some u := ⟨_, c0'⟩
      obtain ⟨u1, c1⟩ : ∃ u, w2.cell? ⟨w.heap.size, j * 2 + 1, none⟩ = some u := ⟨_, c1'⟩
      have HS := hide ((((unhide HO).ext he).set hlt (.string (tx j)) (.string (hf j))).congr (A' := fun i => if i < j + 1 then .string (tx i) else .string noT) (B' := fun i => if i < j + 1 then .string (hf i) else .string noT) (fun i _ => by
        by_cases e : i = j
        · subst e; simp
        · by_cases e2 : i < j
          · rw [if_neg e, if_neg e, if_pos e2, if_pos e2, if_pos (by omega), if_pos (by omega)]; exact ⟨rfl, rfl⟩
          · rw [if_neg e, if_neg e, if_neg e2, if_neg e2, if_neg (by omega), if_neg (by omega)]; exact ⟨rfl, rfl⟩))
      have hE := hext.trans he
      clear c0' c1'
      go_wp2
      go_roundw
      case rel => exact ⟨j + 1, by omega, by go_num, HS, (hE.setCell (Nat.le_refl _) _).setCell (Nat.le_refl _) _⟩
      case measure => simp [intOf]; omega
    · obtain rfl : j = n := by omega
      have HFIN := hide ((unhide HO).congr (A' := fun i => .string (tx i)) (B' := fun i => .string (hf i)) (fun i hi => ⟨by simp [hi], by simp [hi]⟩))
      go_wp2
      go_ret
      exact ⟨rfl, unhide HFIN, hext⟩
/-- The letters of the first j of two rows of strings. -/
def tl2 (t h : Nat → ByteArray) : Nat → Nat
  | 0 => 0
  | j + 1 => tl2 t h j + ((t j).size + (h j).size)
set_option maxHeartbeats 400000 in
theorem szSnap_any (s b : ByteArray) (l : Int) (w : World) (h0 : 0 ≤ l) (h1 : l ≤ 4398046511104) (hn : (s.size : Int) ≤ 9223372036854775807) (hm : (b.size : Int) ≤ 9223372036854775807) :
    Calls Tryz.prog 108 #[.agg #[.string s, .string b], .int .i64 l] w fun e w' => e = .returned (.int .i64 (if l < ((s.size + b.size : Nat) : Int) then -1 else l - ((s.size + b.size : Nat) : Int))) ∧ Ext w w' := by
  by_cases h : l < (s.size : Int)
  · rw [if_pos (by omega)]
    go_enter Tryz.func108, Tryz.ntmps108
    go_wp2
    go_ret
    exact ⟨rfl, (Ext.refl _).alloc _⟩
  · have h2 : ¬ l - (s.size : Int) < 0 := by omega
    by_cases h3 : l - (s.size : Int) < (b.size : Int)
    · rw [if_pos (by omega)]
      go_enter Tryz.func108, Tryz.ntmps108
      go_wp2
      go_ret
      exact ⟨rfl, (Ext.refl _).alloc _⟩
    · have h4 : ¬ l - (s.size : Int) - (b.size : Int) < 0 := by omega
      rw [if_neg (by omega)]
      have he : Hid (l - ((s.size : Int) + (b.size : Int)) = l - (s.size : Int) - (b.size : Int)) := by show _ = _; omega
      go_enter Tryz.func108, Tryz.ntmps108
      go_wp2
      go_ret
      exact ⟨by rw [he.out]; rfl, (Ext.refl _).alloc _⟩
set_option maxHeartbeats 1000000 in
theorem szSnapS_any (v : Value) (n : Nat) (tx : Nat → ByteArray) (hf : Nat → ByteArray) (l : Int) (w : World) (hv : Row2At w v n (fun j => .string (tx j)) (fun j => .string (hf j))) (h0 : 0 ≤ l) (h1 : l ≤ 4398046511104) (hn : (n : Int) ≤ 9223372036854775807) (hx : ∀ j, j < n → ((tx j).size : Int) ≤ 9223372036854775807 ∧ ((hf j).size : Int) ≤ 9223372036854775807) :
    Calls Tryz.prog 68 #[v, .int .i64 l] w fun e w' => ∃ r : Int, e = .returned (.int .i64 r) ∧ SzR l (n + tl2 tx hf n) r ∧ Ext w w' := by
  obtain ⟨ao, ca, rfl, hca, hxa⟩ := hv
  have HX := hide hx
  have HXA := hide hxa
  have hmono : Hid (∀ k, k ≤ n → tl2 tx hf k ≤ tl2 tx hf n) := by
    have aux : ∀ m k, tl2 tx hf k ≤ tl2 tx hf (k + m) := by
      intro m
      induction m with
      | zero => intro k; exact Nat.le_refl _
      | succ m ih => intro k; have := ih k; rw [← Nat.add_assoc, tl2]; omega
    intro k hk
    have := aux (n - k) k
    rwa [show k + (n - k) = n by omega] at this
  clear hx hxa
  by_cases hz : l < (n : Int)
  · go_enter Tryz.func68, Tryz.ntmps68
    go_wp2
    go_ret
    exact ⟨_, rfl, .inl ⟨rfl, by omega⟩, Ext.refl _⟩
  by_cases hz0 : n = 0
  · subst hz0
    go_enter Tryz.func68, Tryz.ntmps68
    go_wp2
    go_loop [1, 5] (fun a i => a = .int .i64 l ∧ i = .int .i64 0) (fun _ _ => 0)
    case atStart => exact ⟨by go_num, rfl⟩
    case round =>
      obtain ⟨rfl, rfl⟩ := hrel
      go_wp2
      go_ret
      exact ⟨_, rfl, .inr ⟨by simp [tl2], h0⟩, Ext.refl _⟩
  · obtain ⟨b, off, rfl, hc⟩ := (unhide HXA) (by omega)
    have HC := hide hc
    clear HXA hc
    go_enter Tryz.func68, Tryz.ntmps68
    go_wp2
    go_loopw [1, 5] (fun a i wr => ∃ (k : Nat), k ≤ n ∧ (0 : Int) ≤ l - (n : Int) - (tl2 tx hf k : Int) ∧ a = .int .i64 (l - (n : Int) - (tl2 tx hf k : Int)) ∧ i = .int .i64 k ∧ Ext w wr) (fun _ i _ => n - (intOf i).toNat)
    case atStart => exact ⟨0, Nat.zero_le _, by simp [tl2]; omega, by simp [tl2], rfl, Ext.refl _⟩
    case round =>
      obtain ⟨k, hk, hp, rfl, rfl, hext⟩ := hrel
      by_cases hlt : k < n
      · have g1 := hext.cell ((unhide HC) k hlt).1
        have g2 := hext.cell ((unhide HC) k hlt).2
        have bk : (k : Int) < (n : Int) := by omega
        have hm := (unhide HX) k hlt
        have hs : Hid (tl2 tx hf (k + 1) = tl2 tx hf k + ((tx k).size + (hf k).size)) := rfl
        have hmn := (unhide hmono) (k + 1) (by omega)
        rw [hs.out] at hmn
        obtain ⟨s, hss⟩ : ∃ s, s = tl2 tx hf k := ⟨_, rfl⟩
        rw [← hss] at hs hp hmn ⊢
        clear hss
        have hcon := hide (fun W => szSnap_any (tx k) (hf k) (l - (n : Int) - (s : Int)) W hp (by omega) hm.1 hm.2)
        by_cases hq : l - (n : Int) - (s : Int) < (((tx k).size + (hf k).size : Nat) : Int)
        · rw [if_pos hq] at hcon
          go_wp2_with fail
          refine ((unhide hcon) _).mono ?_
          rintro e w2 ⟨rfl, he⟩
          go_wp2
          go_ret
          exact ⟨_, rfl, .inl ⟨rfl, by omega⟩, hext.trans he⟩
        · rw [if_neg hq] at hcon
          go_wp2_with fail
          refine ((unhide hcon) _).mono ?_
          rintro e w2 ⟨rfl, he⟩
          go_wp2
          go_roundw
          case rel => exact ⟨k + 1, by omega, by rw [hs.out]; omega, by rw [hs.out]; go_num, by go_num, hext.trans he⟩
          case measure => simp [intOf]; omega
      · obtain rfl : k = n := by omega
        go_wp2
        go_ret
        exact ⟨_, rfl, .inr ⟨by omega, hp⟩, hext⟩
set_option maxHeartbeats 1000000 in
theorem szLine_any (a b c : ByteArray) (v : Value) (n : Nat) (tx hf : Nat → ByteArray) (l : Int) (w : World) (hv : Row2At w v n (fun j => .string (tx j)) (fun j => .string (hf j))) (h0 : 0 ≤ l) (h1 : l ≤ 4398046511104) (ha : (a.size : Int) ≤ 9223372036854775807) (hb : (b.size : Int) ≤ 9223372036854775807) (hc : (c.size : Int) ≤ 9223372036854775807) (hn : (n : Int) ≤ 9223372036854775807) (hx : ∀ j, j < n → ((tx j).size : Int) ≤ 9223372036854775807 ∧ ((hf j).size : Int) ≤ 9223372036854775807) :
    Calls Tryz.prog 33 #[.agg #[.string a, .string b, .string c, v], .int .i64 l] w fun e w' => ∃ r : Int, e = .returned (.int .i64 r) ∧ (r < 0 ∨ (0 ≤ r ∧ ((a.size + b.size + c.size + (n + tl2 tx hf n) : Nat) : Int) ≤ l)) ∧ Ext w w' := by
  obtain ⟨ao, cap, hvv, _, _⟩ := id hv
  have HV := hide hv
  subst hvv
  clear hv
  have H1 := hide hx
  clear hx
  by_cases q1 : l < (a.size : Int)
  · go_enter Tryz.func33, Tryz.ntmps33
    go_wp2
    go_ret
    exact ⟨-1, rfl, .inl (by omega), (Ext.refl _).alloc _⟩
  have q1b : ¬ l - (a.size : Int) < 0 := by omega
  by_cases q2 : l - (a.size : Int) < (b.size : Int)
  · go_enter Tryz.func33, Tryz.ntmps33
    go_wp2
    go_ret
    exact ⟨-1, rfl, .inl (by omega), (Ext.refl _).alloc _⟩
  have q2b : ¬ l - (a.size : Int) - (b.size : Int) < 0 := by omega
  by_cases q3 : l - (a.size : Int) - (b.size : Int) < (c.size : Int)
  · go_enter Tryz.func33, Tryz.ntmps33
    go_wp2
    go_ret
    exact ⟨-1, rfl, .inl (by omega), (Ext.refl _).alloc _⟩
  have q3b : ¬ l - (a.size : Int) - (b.size : Int) - (c.size : Int) < 0 := by omega
  have hcon := hide (fun W (hW : Ext w W) => szSnapS_any (.slice ao n cap) n tx hf (l - (a.size : Int) - (b.size : Int) - (c.size : Int)) W ((unhide HV).ext hW) (by omega) (by omega) hn (unhide H1))
  go_enter Tryz.func33, Tryz.ntmps33
  go_wp2_with fail
  refine ((unhide hcon) _ ((Ext.refl _).alloc _)).mono ?_
  rintro e w1 ⟨r, rfl, hr, F1⟩
  rcases hr with ⟨rfl, _⟩ | ⟨hr, hr0⟩
  · go_wp2
    go_ret
    exact ⟨-1, rfl, .inl (by omega), ((Ext.refl _).alloc _).trans F1⟩
  · have hrn : ¬ r < 0 := by omega
    have hfin : Hid (((a.size + b.size + c.size + (n + tl2 tx hf n) : Nat) : Int) ≤ l) := by refine hide ?_; omega
    clear hr
    go_wp2
    go_ret
    exact ⟨r, rfl, .inr ⟨hr0, unhide hfin⟩, ((Ext.refl _).alloc _).trans F1⟩
set_option maxHeartbeats 1000000 in
theorem toLine_any (a b c : ByteArray) (v : Value) (n : Nat) (tx hf : Nat → ByteArray) (w : World) (hv : Row2At w v n (fun j => .string (tx j)) (fun j => .string (hf j))) (hn : n ≤ 1048576) :
    Calls Tryz.prog 37 #[.agg #[.string a, .string b, .string c, v]] w fun e w' => e = .returned (.agg #[.string a, .string b, .string c, .slice (some ⟨w.heap.size + 3, 0, none⟩) n n]) ∧ Own2 w' (w.heap.size + 3) 109 (.slice (some ⟨w.heap.size + 3, 0, none⟩) n n) n (fun j => .string (tx j)) (fun j => .string (hf j)) ∧ Ext w w' := by
  have HV := hide hv
  obtain ⟨ao, cap, rfl, _, _⟩ := hv
  have hcon := hide (fun W (hW : Ext w W) => toSnapS_any (.slice ao n cap) n tx hf W ((unhide HV).ext hW) hn)
  go_enter Tryz.func37, Tryz.ntmps37
  go_wp2_with fail
  refine ((unhide hcon) _ (by repeat' first | exact Ext.refl _ | refine Ext.alloc ?_ _ | refine Ext.setCell ?_ (by dsimp only; omega) _)).mono ?_
  rintro e w1 ⟨rfl, o1, F1⟩
  obtain ⟨hc, hf'⟩ := F1.rules
  have hz3 : ∀ o1 o2 o3, (((w.alloc o1).alloc o2).alloc o3).heap.size = w.heap.size + 3 := fun o1 o2 o3 => by simp
  rw [hz3] at o1 ⊢
  have hz : w.heap.size + 3 < w1.heap.size := by
    obtain ⟨ys, h1, _⟩ := o1
    exact (h1.lt _ rfl).2
  have a0 : w1.cell? ⟨w.heap.size + 1, 0, none⟩ = some (.string noT) := by rw [hc _ _ (by simp)]; simp [go_sem]
  have a1 : w1.cell? ⟨w.heap.size + 1, 1, none⟩ = some (.string noT) := by rw [hc _ _ (by simp)]; simp [go_sem]
  have a2 : w1.cell? ⟨w.heap.size + 1, 2, none⟩ = some (.string noT) := by rw [hc _ _ (by simp)]; simp [go_sem]
  have a3 : w1.cell? ⟨w.heap.size + 1, 3, none⟩ = some (.slice none 0 0) := by rw [hc _ _ (by simp)]; simp [go_sem]
  have O1 := hide o1
  have E1 : Ext w w1 := Ext.trans ((((Ext.refl w).alloc _).alloc _).alloc _) F1
  clear o1
  go_wp2
  refine bodyPost_ret (v := .agg #[.string a, .string b, .string c, .slice (some ⟨w.heap.size + 3, 0, none⟩) n n]) (by simp [results, Tryz.results37, go_sem, a0, a1, a2, a3]) rfl ⟨rfl, ?_, ?_⟩
  · obtain ⟨ys, h1, h2⟩ := unhide O1
    refine ⟨ys, ?_, h2⟩
    repeat (refine owns_setCell ?_ (by simp [Value.ownBlock]) _)
    exact h1
  · repeat (refine Ext.setCell ?_ (by dsimp only; omega) _)
    exact E1
set_option maxHeartbeats 1000000 in
theorem eqLine_same (a b c : ByteArray) (va vb : Value) (n : Nat) (tx hf : Nat → ByteArray) (w : World) (ha : Row2At w va n (fun j => .string (tx j)) (fun j => .string (hf j))) (hb : Row2At w vb n (fun j => .string (tx j)) (fun j => .string (hf j))) (hn : n ≤ 4398046511104) :
    Calls Tryz.prog 24 #[.agg #[.string a, .string b, .string c, va], .agg #[.string a, .string b, .string c, vb]] w fun e w' => e = .returned (.bool true) ∧ Ext w w' := by
  have hcon := hide (fun W (hW : Ext w W) => eqSnapS_same va vb n tx hf W (ha.ext hW) (hb.ext hW) hn)
  obtain ⟨ao, cap, rfl, _, _⟩ := ha
  obtain ⟨bo, cbp, rfl, _, _⟩ := hb
  go_enter Tryz.func24, Tryz.ntmps24
  go_wp2_with fail
  refine ((unhide hcon) _ (((Ext.refl _).alloc _).alloc _)).mono ?_
  rintro e w1 ⟨rfl, F1⟩
  go_wp2
  go_ret
  exact ⟨rfl, (((Ext.refl _).alloc _).alloc _).trans F1⟩
end Go.Proofs.YtjfnieodpdklfaaGreatDoor

namespace Go.Proofs.YtjfnieodpdklfaaGreatDoor
open Go.ChangeShapes Go.WideShapes Go.ChangeAt Go.RowKit Go.Deep

set_option maxHeartbeats 1000000 in
theorem szKeyReader_any (ao : Option Addr) (n cap : Nat) (p : Bool) (l : Int) (w : World) (h0 : 0 ≤ l) (h1 : l ≤ 4398046511104) (hn : (n : Int) ≤ 9223372036854775807) :
    Calls Tryz.prog 34 #[.agg #[.slice ao n cap, .bool p], .int .i64 l] w fun e w' => ∃ r : Int, e = .returned (.int .i64 r) ∧ SzR l n r ∧ Ext w w' := by
  have hcon := hide (fun W => szByteS_any ao n cap l W h0 h1 hn)
  go_enter Tryz.func34, Tryz.ntmps34
  go_wp2_with fail
  refine ((unhide hcon) _).mono ?_
  rintro e w1 ⟨rfl, rfl⟩
  by_cases h : l < (n : Int)
  · rw [if_pos h]
    go_wp2
    go_ret
    exact ⟨-1, rfl, .inl ⟨rfl, h⟩, (Ext.refl _).alloc _⟩
  · rw [if_neg h]
    have h2 : ¬ l - (n : Int) < 0 := by omega
    go_wp2
    go_ret
    exact ⟨l - (n : Int), rfl, .inr ⟨rfl, by omega⟩, (Ext.refl _).alloc _⟩
set_option maxHeartbeats 1000000 in
theorem toKeyReader_any (h : Value) (bs : List Int) (p : Bool) (w : World) (hr : IntsAt w .u8 h bs) (hx : bs.length ≤ 4398046511104) :
    Calls Tryz.prog 38 #[.agg #[h, .bool p]] w fun e w' => e = .returned (.agg #[.slice (some ⟨w.heap.size + 3, 0, none⟩) bs.length bs.length, .bool p]) ∧ 
      w'.ownsRow (w.heap.size + 3) 5 1 (.slice (some ⟨w.heap.size + 3, 0, none⟩) bs.length bs.length) bs.length (bs.map (Value.int .u8)) ∧ Ext w w' := by
  go_enter Tryz.func38, Tryz.ntmps38
  go_wp2_with fail
  refine (toByteS_any _ bs _ (hr.ext ((((Ext.refl _).alloc _).alloc _).alloc _)) hx).mono ?_
  rintro e w1 ⟨rfl, o1, F1⟩
  obtain ⟨hc, hf⟩ := F1.rules
  have hz : w.heap.size + 3 < w1.heap.size := by have := (o1.lt _ rfl).2; simpa using this
  have a0 : w1.cell? ⟨w.heap.size + 1, 0, none⟩ = some (.slice none 0 0) := by rw [hc _ _ (by simp)]; simp [go_sem]
  have a1 : w1.cell? ⟨w.heap.size + 1, 1, none⟩ = some (.bool false) := by rw [hc _ _ (by simp)]; simp [go_sem]
  go_wp2
  refine bodyPost_ret (v := .agg #[.slice (some ⟨w.heap.size + 3, 0, none⟩) bs.length bs.length, .bool p]) (by simp [results, Tryz.results38, go_sem, a0, a1]) rfl ⟨rfl, ?_, ?_⟩
  · repeat (refine owns_setCell ?_ (by simp [Value.ownBlock]) _)
    simpa using o1
  · repeat (refine Ext.setCell ?_ (by dsimp only; omega) _)
    exact ((((Ext.refl _).alloc _).alloc _).alloc _).trans F1
set_option maxHeartbeats 1000000 in
theorem eqKeyReader_same (ra rb : Value) (bs : List Int) (p : Bool) (w : World) (ha : IntsAt w .u8 ra bs) (hb : IntsAt w .u8 rb bs) (hx : bs.length ≤ 4398046511104) :
    Calls Tryz.prog 25 #[.agg #[ra, .bool p], .agg #[rb, .bool p]] w fun e w' => e = .returned (.bool true) ∧ Ext w w' := by
  go_enter Tryz.func25, Tryz.ntmps25
  go_wp2_with fail
  refine (eqByteS_same _ _ bs _ (ha.ext (((Ext.refl _).alloc _).alloc _)) (hb.ext (((Ext.refl _).alloc _).alloc _)) hx).mono ?_
  rintro e w1 ⟨rfl, F1⟩
  obtain ⟨hc, hf⟩ := F1.rules
  go_wp2
  go_ret
  exact ⟨rfl, (((Ext.refl _).alloc _).alloc _).trans F1⟩
set_option maxHeartbeats 1000000 in
theorem markKeyReader_any (base : Nat) (v : Value) (n : Nat) (xs : List Value) (p : Bool) (k : Int) (w : World) (hv : w.ownsRow base 5 1 v n xs) (hn : n ≤ 4398046511104) (hk : 0 ≤ k) (hk2 : k ≤ 4398046511104) :
    Calls Tryz.prog 28 #[.agg #[v, .bool p], .int .i64 k] w fun e w' => e = .returned (.int .i64 (k + (n : Int))) ∧ w'.ownsRow base 5 1 v n ((mkU8 k n).map (Value.int .u8)) ∧ w.grownBy w' v.ownBlock := by
  have hcon := hide (fun W (hW : Ext w W) => markByteS_any base v n xs k W (hW.owns hv) hn hk hk2)
  go_enter Tryz.func28, Tryz.ntmps28
  go_wp2_with fail
  refine ((unhide hcon) _ ((Ext.refl _).alloc _)).mono ?_
  rintro e w1 ⟨rfl, o1, F1⟩
  go_wp2
  go_ret
  exact ⟨rfl, o1, (World.grownBy_alloc w _ _).trans F1⟩
set_option maxHeartbeats 1000000 in
theorem heldKeyReader_any (v : Value) (n : Nat) (p : Bool) (k : Int) (w : World) (hv : IntsAt w .u8 v (mkU8 k n)) (hn : n ≤ 4398046511104) (hk : 0 ≤ k) (hk2 : k ≤ 4398046511104) :
    Calls Tryz.prog 31 #[.agg #[v, .bool p], .int .i64 k] w fun e w' => e = .returned (.int .i64 (k + (n : Int))) ∧ Ext w w' := by
  have hcon := hide (fun W (hW : Ext w W) => heldByteS_any v n k W (hv.ext hW) hn hk hk2)
  have hneg : ¬ k + (n : Int) < 0 := by omega
  go_enter Tryz.func31, Tryz.ntmps31
  go_wp2_with fail
  refine ((unhide hcon) _ ((Ext.refl _).alloc _)).mono ?_
  rintro e w1 ⟨rfl, F1⟩
  go_wp2
  go_ret
  exact ⟨rfl, ((Ext.refl _).alloc _).trans F1⟩
set_option maxRecDepth 10000 in
/-- A key reader that came in, opened. -/
theorem kr_came {H : Type} {enc : TypeId × Value → H} {W : World} {v : Value} {d : DataW H} {p : List MemPlace} {base : Nat} {r : Reach}
    (hv : Value.okWide Tryz.prog W r base 41 v) (h : DataW.Trod enc Tryz.prog W 0 (fun _ => true) true 41 v d p) :
    ∃ (bs : List Int) (ha : Option Addr) (hc : Nat) (b : Bool), v = .agg #[.slice ha bs.length hc, .bool b] ∧ IntsAt W .u8 (.slice ha bs.length hc) bs ∧ Bytes bs ∧ (bs.length : Int) ≤ 9223372036854775807 := by
  obtain ⟨cs, rfl, hsz⟩ := okWide_struct Tryz.underlying41 hv
  obtain ⟨fuel, hf⟩ := h
  obtain ⟨xs, n, _, _, _, hlen, hx⟩ := DataW.trod_struct Tryz.underlying41 hf
  have h8 : Tryz.prog.cellsOf 41 = 2 := by kernel_rfl
  rw [h8] at hsz
  obtain ⟨l⟩ := cs
  have kb : Tryz.prog.cellsOf 4 = 1 := by kernel_rfl
  have ku : Tryz.prog.cellsOf 25 = 1 := by kernel_rfl
  match l, hsz, xs, hlen with
  | [c0, c1], _, [x0, x1], _ =>
    have t0 : DataW.trod enc Tryz.prog W 0 (fun _ => true) true n 25 [c0] = some x0 := by
      have := hx 0 _ rfl
      simpa [Value.cells, ku] using this
    have t1 : DataW.trod enc Tryz.prog W 0 (fun _ => true) true n 4 [c1] = some x1 := by
      have := hx 1 _ rfl
      simpa [Value.cells, kb] using this
    obtain ⟨zs, z1, z2, z3⟩ := bytes_trod Tryz.underlying25 Tryz.underlying5 (by kernel_rfl) t0
    obtain ⟨lt, e5, _⟩ := DataW.trod_bool Tryz.underlying4 t1
    simp at e5
    subst e5
    have z4 := z1
    obtain ⟨ao, cap, rfl, _⟩ := z1
    unfold maxLen at z3
    exact ⟨zs, ao, cap, lt, rfl, z4, fun n hn => bounds_u8 (z2 n hn), by omega⟩
end Go.Proofs.YtjfnieodpdklfaaGreatDoor
