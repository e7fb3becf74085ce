import Derived.Test.YtlnmpbdnmlpkiaaDoorWrapW
namespace Go.Proofs.YtlnmpbdnmlpkiaaDoor
open Go.RowKit

/-- The clusters of a text. -/
def cutC (bs : List Int) : List (List Int × Int) := clusC (cleanL bs)
/-- Every cluster has a width of 1 or 2. -/
def Wides (cs : List (List Int × Int)) : Prop := ∀ j, j < cs.length → 1 ≤ cW cs j ∧ cW cs j ≤ 2
theorem cW_none (cs : List (List Int × Int)) (j : Nat) (h : cs.length ≤ j) : cW cs j = 0 := by simp [cW, List.getElem?_eq_none h]
theorem Wides.all {cs : List (List Int × Int)} (h : Wides cs) (j : Nat) : 0 ≤ cW cs j ∧ cW cs j ≤ 2 := by
  by_cases hj : j < cs.length
  · have := h j hj; omega
  · rw [cW_none cs j (by omega)]; omega
theorem cW_app (xs ys : List (List Int × Int)) (j : Nat) : cW (xs ++ ys) j = if j < xs.length then cW xs j else cW ys (j - xs.length) := by
  unfold cW
  split
  · rename_i h; rw [List.getElem?_append_left h]
  · rename_i h; rw [List.getElem?_append_right (by omega)]
theorem cR_app (xs ys : List (List Int × Int)) (j : Nat) : cR (xs ++ ys) j = if j < xs.length then cR xs j else cR ys (j - xs.length) := by
  unfold cR
  split
  · rename_i h; rw [List.getElem?_append_left h]
  · rename_i h; rw [List.getElem?_append_right (by omega)]
theorem Wides.app {xs ys : List (List Int × Int)} (hx : Wides xs) (hy : Wides ys) : Wides (xs ++ ys) := by
  intro j hj
  rw [cW_app]
  split
  · rename_i h; exact hx j h
  · rename_i h; simp at hj; exact hy _ (by omega)
theorem clF_pos (xs : List Int) : ∀ k j, j < (clF xs k).length → 1 ≤ cW (clF xs k) j
  | 0, j, h => by simp [clF] at h
  | k + 1, j, h => by
    have ih := clF_pos xs k
    rw [clF, clStep] at h ⊢
    split
    · rename_i h1
      rw [if_pos h1] at h
      rw [cW_push]
      split
      · omega
      · rename_i h2; simp at h; exact ih j (by omega)
    · rename_i h1
      rw [if_neg h1] at h
      split
      · rename_i h2
        rw [if_pos h2] at h
        simp at h
        subst h
        simp [cW]
      · rename_i h2
        rw [if_neg h2] at h
        simp at h
        rw [cW_set _ _ _ _ (by omega)]
        split
        · exact ih _ (by omega)
        · exact ih j h
theorem cutC_wides (bs : List Int) : Wides (cutC bs) := fun j hj => ⟨clF_pos _ _ j hj, (clF_wid _ _ j).2⟩
theorem pw_strict {cs : List (List Int × Int)} (h : Wides cs) {s e : Nat} (hse : s < e) (he : e ≤ cs.length) : pw cs s < pw cs e := by
  have h1 := pw_mono cs h.all s (e - 1) (by omega)
  have h2 := h (e - 1) (by omega)
  obtain ⟨k, rfl⟩ : ∃ k, e = k + 1 := ⟨e - 1, by omega⟩
  rw [pw]
  simp at h1 h2
  omega
/-- The row of a place, of the first i starts. -/
def rwF (S : List Int) (p : Int) : Nat → Nat
  | 0 => 0
  | i + 1 => if at0 S i ≤ p then i else rwF S p i
theorem rwF_lt (S : List Int) (p : Int) : ∀ i, 0 < i → rwF S p i < i
  | 0, h => by omega
  | i + 1, _ => by
    rw [rwF]
    split
    · omega
    · by_cases h0 : i = 0
      · subst h0; simp [rwF]
      · have := rwF_lt S p i (by omega); omega
theorem rwF_le (S : List Int) (p : Int) (h0 : at0 S 0 ≤ p) : ∀ i, at0 S (rwF S p i) ≤ p
  | 0 => h0
  | i + 1 => by
    rw [rwF]
    split
    · assumption
    · exact rwF_le S p h0 i
theorem rwF_above (S : List Int) (p : Int) : ∀ i j, rwF S p i < j → j < i → p < at0 S j
  | 0, j, _, h => by omega
  | i + 1, j, h1, h2 => by
    rw [rwF] at h1
    split at h1
    · omega
    · rename_i h
      by_cases e : j = i
      · subst e; omega
      · exact rwF_above S p i j h1 (by omega)
/-- The one row that holds a place. -/
theorem rwF_only {S : List Int} {p : Int} {m i : Nat} (hm : i < m) (h1 : at0 S i ≤ p) (h2 : ∀ j, i < j → j < m → p < at0 S j) (h0 : at0 S 0 ≤ p) : rwF S p m = i := by
  have a := rwF_lt S p m (by omega)
  have b := rwF_le S p h0 m
  by_cases e : rwF S p m < i
  · have := rwF_above S p m i e hm; omega
  · by_cases e2 : i < rwF S p m
    · have := h2 _ e2 a; omega
    · omega
section
variable (cs : List (List Int × Int)) (cols : Nat) (p rows : Nat)
def stS : List Int := (stF cs cols cs.length).1
def layRow0 : Nat := rwF (stS cs cols) p (stS cs cols).length
def layCol0 : Int := pw cs p - pw cs (at0 (stS cs cols) (layRow0 cs cols p)).toNat
/-- The cursor stands behind a full last row. -/
def LayFull : Prop := p = cs.length ∧ layCol0 cs cols p = cols
abbrev layD : Decidable (LayFull cs cols p) := inferInstanceAs (Decidable (p = cs.length ∧ layCol0 cs cols p = cols))
def layS : List Int := @ite _ (LayFull cs cols p) (layD cs cols p) (stS cs cols ++ [(p : Int)]) (stS cs cols)
def layRow : Nat := @ite _ (LayFull cs cols p) (layD cs cols p) (layRow0 cs cols p + 1) (layRow0 cs cols p)
def layCol : Int := @ite _ (LayFull cs cols p) (layD cs cols p) (0) (layCol0 cs cols p)
def layFr : Nat := layRow cs cols p + 1 - rows
def layCnt : Nat := min (layFr cs cols p rows + rows) (layS cs cols p).length - layFr cs cols p rows
/-- The clusters of row i. -/
def layC (i : Nat) : List (List Int × Int) := (cs.take (at0 (layS cs cols p ++ [(cs.length : Int)]) (i + 1)).toNat).drop (at0 (layS cs cols p ++ [(cs.length : Int)]) i).toNat
def layT (i : Nat) : ByteArray := toBA (textC (layC cs cols p (layFr cs cols p rows + i)))
end
variable {cs : List (List Int × Int)} {cols p : Nat}
theorem stS_row (hw : Wides cs) (hc : 2 ≤ cols) : RowOk cs cols (stS cs cols) (stF cs cols cs.length).2 cs.length := rowOk cs cols (by omega) hw.all cs.length
theorem layRow0_lt : layRow0 cs cols p < (stS cs cols).length := rwF_lt _ _ _ (by have := (stF_ok cs cols cs.length).one; exact this)
theorem stS_zero : at0 (stS cs cols) 0 = 0 := (stF_ok cs cols cs.length).at00
theorem layRow0_le : at0 (stS cs cols) (layRow0 cs cols p) ≤ (p : Int) := rwF_le _ _ (by rw [stS_zero]; omega) _
theorem layRow0_above {j : Nat} (h1 : layRow0 cs cols p < j) (h2 : j < (stS cs cols).length) : (p : Int) < at0 (stS cs cols) j := rwF_above _ _ _ _ h1 h2
theorem stS_nonneg {i : Nat} (hi : i < (stS cs cols).length) : 0 ≤ at0 (stS cs cols) i ∧ at0 (stS cs cols) i ≤ (cs.length : Int) := (stF_ok cs cols cs.length).le i hi
/-- The program's test for a full row is the specification's. -/
theorem full_iff (hw : Wides cs) (hc : 2 ≤ cols) (hp : p ≤ cs.length) : LayFull cs cols p ↔ layCol0 cs cols p = cols := by
  refine ⟨fun h => h.2, fun h => ⟨?_, h⟩⟩
  by_cases e : p = cs.length
  · exact e
  exfalso
  have hlt := layRow0_lt (cs := cs) (cols := cols) (p := p)
  have hle := layRow0_le (cs := cs) (cols := cols) (p := p)
  have ok := stS_row hw hc
  have hn := stS_nonneg hlt
  unfold layCol0 at h
  by_cases hl : layRow0 cs cols p + 1 < (stS cs cols).length
  · have h1 := (ok.rows _ hl).1
    have h2 := layRow0_above (cs := cs) (cols := cols) (p := p) (show layRow0 cs cols p < layRow0 cs cols p + 1 by omega) hl
    have h3 := stS_nonneg hl
    have h4 := pw_strict hw (s := p) (e := (at0 (stS cs cols) (layRow0 cs cols p + 1)).toNat) (by omega) (by omega)
    omega
  · have h1 := ok.le
    have h2 := ok.eq
    have h3 : (stS cs cols).length - 1 = layRow0 cs cols p := by omega
    rw [h3] at h2
    have h4 := pw_strict hw (s := p) (e := cs.length) (by omega) (Nat.le_refl _)
    omega
theorem layCol0_bd (hw : Wides cs) (hc : 2 ≤ cols) (hp : p ≤ cs.length) : 0 ≤ layCol0 cs cols p ∧ layCol0 cs cols p ≤ cols := by
  have hlt := layRow0_lt (cs := cs) (cols := cols) (p := p)
  have hle := layRow0_le (cs := cs) (cols := cols) (p := p)
  have ok := stS_row hw hc
  have hn := stS_nonneg hlt
  unfold layCol0
  have h0 := pw_mono cs hw.all (at0 (stS cs cols) (layRow0 cs cols p)).toNat p (by omega)
  refine ⟨by omega, ?_⟩
  by_cases hl : layRow0 cs cols p + 1 < (stS cs cols).length
  · have h1 := (ok.rows _ hl).1
    have h2 := layRow0_above (cs := cs) (cols := cols) (p := p) (show layRow0 cs cols p < layRow0 cs cols p + 1 by omega) hl
    have h3 := stS_nonneg hl
    have h4 := pw_mono cs hw.all p (at0 (stS cs cols) (layRow0 cs cols p + 1)).toNat (by omega)
    omega
  · have h1 := ok.le
    have h2 := ok.eq
    have h3 : (stS cs cols).length - 1 = layRow0 cs cols p := by omega
    rw [h3] at h2
    have h4 := pw_mono cs hw.all p cs.length hp
    omega
theorem layS_len : (layS cs cols p).length ≤ cs.length + 2 := by
  have := (stF_ok cs cols cs.length).len
  unfold layS
  split
  · simp [stS]; omega
  · simp [stS]; omega
theorem layRow_lt : layRow cs cols p < (layS cs cols p).length := by
  have := layRow0_lt (cs := cs) (cols := cols) (p := p)
  unfold layRow layS
  split
  · simp; omega
  · exact this
/-- The width of clusters together. -/
def wsum (cs : List (List Int × Int)) : Int := pw cs cs.length
theorem pw_app (xs ys : List (List Int × Int)) : ∀ k, k ≤ xs.length → pw (xs ++ ys) k = pw xs k
  | 0, _ => rfl
  | k + 1, h => by rw [pw, pw, pw_app xs ys k (by omega), cW_app, if_pos (by omega)]
theorem pw_sub (cs : List (List Int × Int)) (s e : Nat) : ∀ j, s + j ≤ e → pw ((cs.take e).drop s) j = pw cs (s + j) - pw cs s
  | 0, _ => by simp [pw]
  | j + 1, h => by rw [pw, pw_sub cs s e j (by omega), (sub_R cs s e j (by omega)).2, ← Nat.add_assoc, pw]; omega
theorem wsum_sub (cs : List (List Int × Int)) (s e : Nat) (hse : s ≤ e) (he : e ≤ cs.length) : wsum ((cs.take e).drop s) = pw cs e - pw cs s := by
  unfold wsum
  rw [List.length_drop, List.length_take, show min e cs.length - s = e - s by omega, pw_sub cs s e _ (by omega), show s + (e - s) = e by omega]
end Go.Proofs.YtlnmpbdnmlpkiaaDoor
