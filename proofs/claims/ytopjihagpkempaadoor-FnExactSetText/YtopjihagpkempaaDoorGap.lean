import Derived.Test.YtopjihagpkempaaDoorSpecRune2
import Derived.Test.YtopjihagpkempaaDoorImplClean
import Derived.Test.YtopjihagpkempaaDoorClus
import Derived.Test.YtopjihagpkempaaDoorImplWrap
import Derived.Test.YtopjihagpkempaaDoorBaL
import Derived.Test.YtopjihagpkempaaDoorGenSetText
import Derived.Deep.AppendLies
import Derived.Deep.RegionHeldLaw
import Derived.Test.YtopjihagpkempaaDoorWrapL
import Derived.Laws.Rows
import Derived.Laws.Tables
import Derived.OwnWalk
import Derived.Laws.CopyRow
namespace Go.Proofs.YtopjihagpkempaaDoor
open Go.RowKit

theorem cleanR_bd (r : Int) : 0 ≤ cleanR r ∧ cleanR r ≤ 1114111 := by
  unfold cleanR
  split
  · omega
  · exact shownI_bd r
theorem cleanF_all : ∀ (f : Nat) (l : List Int), ∀ x ∈ cleanF f l, 0 ≤ x ∧ x ≤ 1114111
  | 0, l => by simp [cleanF]
  | f + 1, l => by
    intro x hx
    rw [cleanF] at hx
    split at hx
    · simp at hx
    · rcases List.mem_cons.1 hx with rfl | h
      · exact cleanR_bd _
      · exact cleanF_all f _ x h
theorem cleanL_i32 (l : List Int) : I32s (cleanL l) := fun x hx => by
  have := cleanF_all l.length l x hx
  omega
theorem sumR_app (cs : List (List Int × Int)) (c : List Int × Int) : ∀ k, k ≤ cs.length → sumR (cs ++ [c]) k = sumR cs k
  | 0, _ => rfl
  | k + 1, h => by
    rw [sumR, sumR, sumR_app cs c k (by omega), cR_push]
    rw [if_neg (by omega)]
theorem sumR_set (cs : List (List Int × Int)) (c : List Int × Int) (i : Nat) : ∀ k, k ≤ i → sumR (cs.set i c) k = sumR cs k
  | 0, _ => rfl
  | k + 1, h => by
    rw [sumR, sumR, sumR_set cs c i k (by omega)]
    have : cR (cs.set i c) k = cR cs k := by
      unfold cR
      rw [List.getElem?_set_ne (by omega)]
    rw [this]
theorem clF_sum (xs : List Int) : ∀ k, sumR (clF xs k) (clF xs k).length ≤ k + 1
  | 0 => by simp [clF, sumR]
  | k + 1 => by
    have ih := clF_sum xs k
    rw [clF, clStep]
    split
    · rw [List.length_append, show [([shownI (at0 xs k)], wid (shownI (at0 xs k)))].length = 1 from rfl, sumR, sumR_app _ _ _ (Nat.le_refl _), cR_push, if_pos rfl]
      simp; omega
    · split
      · simp [sumR, cR]
      · rename_i h1 h2
        obtain ⟨m, hm⟩ : ∃ m, (clF xs k).length = m + 1 := ⟨(clF xs k).length - 1, by omega⟩
        rw [List.length_set, hm, sumR, show m + 1 - 1 = m by omega, sumR_set _ _ _ _ (Nat.le_refl _), cR_set _ _ _ _ (by omega), if_pos rfl]
        rw [hm, sumR] at ih
        simp; omega
theorem clF_i32 (xs : List Int) : ∀ k j, I32s (cR (clF xs k) j)
  | 0, j => by intro x hx; simp [clF, cR] at hx
  | k + 1, j => by
    have ih := clF_i32 xs k
    have hs := shownI_bd (at0 xs k)
    rw [clF, clStep]
    split
    · rw [cR_push]; split
      · intro x hx; simp at hx; omega
      · exact ih j
    · split
      · rename_i h1 h2
        by_cases hj : j = 0
        · subst hj; intro x hx; simp [cR] at hx; omega
        · intro x hx; simp [cR, List.getElem?_eq_none (show [(([9676, shownI (at0 xs k)] : List Int), (1 : Int))].length ≤ j by simp; omega)] at hx
      · rename_i h1 h2
        rw [cR_set _ _ _ _ (by omega)]
        split
        · intro x hx
          rcases List.mem_append.1 hx with h | h
          · exact ih _ x h
          · simp at h; omega
        · exact ih j
theorem clusC_fit (xs : List Int) (h : xs.length ≤ 8000000) : (clusC xs).length + sumR (clusC xs) (clusC xs).length ≤ 16777216 := by
  have := clF_len xs xs.length
  have := clF_sum xs xs.length
  unfold clusC; omega
/-- The settled text of bytes. -/
def settleL (bs : List Int) : List Int := textC (clusC (cleanL bs))
theorem settleL_len (bs : List Int) : (settleL bs).length ≤ 4 * bs.length + 4 := by
  have h1 := txT_len (clusC (cleanL bs)) (clusC (cleanL bs)).length
  have h2 := clF_sum (cleanL bs) (cleanL bs).length
  have h3 := cleanL_len bs
  unfold settleL textC
  unfold clusC at h1 ⊢
  omega
theorem txR_bytes (xs : List Int) : ∀ k, Bytes (txR xs k)
  | 0 => by intro x hx; simp [txR] at hx
  | k + 1 => by
    intro x hx
    rw [txR] at hx
    rcases List.mem_append.1 hx with h | h
    · exact txR_bytes xs k x h
    · exact encR_bytes _ x h
theorem txT_bytes (cs : List (List Int × Int)) : ∀ k, Bytes (txT cs k)
  | 0 => by intro x hx; simp [txT] at hx
  | k + 1 => by
    intro x hx
    rw [txT] at hx
    rcases List.mem_append.1 hx with h | h
    · exact txT_bytes cs k x h
    · exact txR_bytes _ _ x h
theorem settleL_bytes (bs : List Int) : Bytes (settleL bs) := txT_bytes _ _

theorem run_s2i {P : Program} (w : World) (src dst e : TypeId) (hs : P.underlying src = some .string) (hd : P.underlying dst = some (.slice e)) (he : P.underlying e = some (.int .u8)) (zs : List Int) (hz : Bytes zs) :
    ∃ v W', (convert src dst (.string (toBA zs))).run P w = .ok v W' ∧ IntsAt W' .u8 v zs ∧ Ext w W' := by
  have hr := run_bytes_of_string (P := P) w src dst e (toBA zs) hs hd he
  rw [toBA_size] at hr
  obtain ⟨cap, W', h1, h2, h3, h4⟩ := run_s2b (P := P) w src dst e hs hd he zs hz
  have h5 := h1
  rw [hr] at h5
  injection h5 with h6 h7
  injection h6 with h8 h9 h10
  refine ⟨_, _, h1, ⟨_, _, rfl, ?_, fun hp => ⟨_, _, rfl, fun j hj => ?_⟩⟩, h2⟩
  · rw [← h10]; exact grownCap_ge w zs.length 0 e
  · have h11 := h4 j (.int .u8 (at0 zs j)) (by simp [at0_lt hj])
    rw [Addr.add_lit] at h11
    exact h11

set_option maxRecDepth 10000 in
set_option maxHeartbeats 1000000 in
theorem specSettle_any (bs : List Int) (hb : Bytes bs) (w : World) (hl : bs.length ≤ 8000000) :
    Calls Tryd.prog 28 #[.string (toBA bs)] w fun e w' => e = .returned (.string (toBA (settleL bs))) ∧ Ext w w' := by
  obtain ⟨v0, w0, hrun, h0, E0⟩ := run_s2i (P := Tryd.prog) w _ _ _ Tryd.underlying9 Tryd.underlying71 Tryd.underlying5 bs hb
  have hcl := cleanL_len bs
  have H0 := hide h0
  go_enter Tryd.func28, Tryd.ntmps28
  go_wp2_with fail
  refine (specClean_any bs hb v0 w0 (unhide H0) (by omega)).mono ?_
  rintro e w1 ⟨v1, rfl, o1, E1⟩
  go_wp2_with fail
  refine (specClusters_any v1 (cleanL bs) w1 (ints_of_owns o1) (cleanL_i32 bs) (by omega)).mono ?_
  rintro e w2 ⟨v2, rs2, rfl, o2, E2⟩
  have O2 := hide o2
  clear o1 o2
  go_wp2_with fail
  refine (specTextOf_any v2 (clusC (cleanL bs)) w2 (unhide O2).cls (clusC_fit _ (by omega)) (fun j _ => clF_i32 _ _ j)).mono ?_
  rintro e w3 ⟨rfl, E3⟩
  go_wp2
  go_ret
  exact ⟨rfl, ((E0.trans E1).trans E2).trans E3⟩
end Go.Proofs.YtopjihagpkempaaDoor

namespace Go.Proofs.YtopjihagpkempaaDoor
open Go.RowKit

theorem valid_or {r : Int} (h : Utf8.valid r = true) : (0 ≤ r ∧ r ≤ 127) ∨ (128 ≤ r ∧ r ≤ 2047) ∨ ((2048 ≤ r ∧ r < 55296) ∨ (57343 < r ∧ r ≤ 65535)) ∨ (65536 ≤ r ∧ r ≤ 1114111) := by
  have hb := valid_bd h
  by_cases hs : 55296 ≤ r ∧ r ≤ 57343
  · exfalso
    unfold Utf8.valid at h
    simp at h
    omega
  · omega
theorem dec_enc (r : Int) (h : Utf8.valid r = true) (rest : List Int) : decL (encR r ++ rest) = (r, (encR r).length) := by
  rcases valid_or h with h1 | h1 | h1 | h1
  · rw [encR_one h1.1 h1.2]
    have a0 : at0 ([r] ++ rest) 0 = r := by simp [at0]
    unfold decL
    simp only [a0]
    rw [if_pos (by omega)]
    rfl
  · rw [encR_two h1.1 h1.2]
    obtain ⟨l, hl⟩ : ∃ l, l = [192 + r / 64, 128 + r % 64] ++ rest := ⟨_, rfl⟩
    have a0 : at0 l 0 = 192 + r / 64 := by rw [hl]; simp [at0]
    have a1 : at0 l 1 = 128 + r % 64 := by rw [hl]; simp [at0]
    have c1 : cont l 1 = true := by unfold cont; rw [a1, hl]; simp; omega
    have hv : v2 l = r := by unfold v2; rw [a0, a1]; omega
    rw [← hl]
    unfold decL
    rw [if_neg (by omega), if_pos ⟨by omega, c1⟩, hv, if_pos (by omega)]
    rfl
  · rw [encR_three h1]
    obtain ⟨l, hl⟩ : ∃ l, l = [224 + r / 4096, 128 + r / 64 % 64, 128 + r % 64] ++ rest := ⟨_, rfl⟩
    have a0 : at0 l 0 = 224 + r / 4096 := by rw [hl]; simp [at0]
    have a1 : at0 l 1 = 128 + r / 64 % 64 := by rw [hl]; simp [at0]
    have a2 : at0 l 2 = 128 + r % 64 := by rw [hl]; simp [at0]
    have c1 : cont l 1 = true := by unfold cont; rw [a1, hl]; simp; omega
    have c2 : cont l 2 = true := by unfold cont; rw [a2, hl]; simp; omega
    have hv : v3 l = r := by unfold v3; rw [a0, a1, a2]; omega
    rw [← hl]
    unfold decL
    rw [if_neg (by omega), if_neg (by omega), if_pos ⟨by omega, c1, c2⟩, hv, if_pos ⟨by omega, h⟩]
    rfl
  · rw [encR_four h1.1 h1.2]
    obtain ⟨l, hl⟩ : ∃ l, l = [240 + r / 262144, 128 + r / 4096 % 64, 128 + r / 64 % 64, 128 + r % 64] ++ rest := ⟨_, rfl⟩
    have a0 : at0 l 0 = 240 + r / 262144 := by rw [hl]; simp [at0]
    have a1 : at0 l 1 = 128 + r / 4096 % 64 := by rw [hl]; simp [at0]
    have a2 : at0 l 2 = 128 + r / 64 % 64 := by rw [hl]; simp [at0]
    have a3 : at0 l 3 = 128 + r % 64 := by rw [hl]; simp [at0]
    have c1 : cont l 1 = true := by unfold cont; rw [a1, hl]; simp; omega
    have c2 : cont l 2 = true := by unfold cont; rw [a2, hl]; simp; omega
    have c3 : cont l 3 = true := by unfold cont; rw [a3, hl]; simp; omega
    have hv : v4 l = r := by unfold v4; rw [a0, a1, a2, a3]; omega
    rw [← hl]
    unfold decL
    rw [if_neg (by omega), if_neg (by omega), if_neg (by omega), if_pos ⟨by omega, c1, c2, c3⟩, hv, if_pos ⟨by omega, h⟩]
    rfl
/-- A rune that Clean may give. -/
def CleanR (r : Int) : Prop := Utf8.valid r = true ∧ 32 ≤ r ∧ ¬ (127 ≤ r ∧ r ≤ 159)
theorem CleanR.shown {r : Int} (h : CleanR r) : shownI r = r := by
  unfold shownI
  rw [if_neg]
  rintro (h1 | h1 | h1)
  · rw [h.1] at h1; cases h1
  · have := h.2.1; omega
  · exact h.2.2 h1
theorem CleanR.clean {r : Int} (h : CleanR r) : cleanR r = r := by
  unfold cleanR
  rw [if_neg (by have := h.2.1; omega), h.shown]
theorem cleanR_shown (r : Int) : CleanR (shownI r) := by
  unfold shownI
  split
  · exact ⟨by decide, by omega, by omega⟩
  · rename_i h
    refine ⟨?_, by omega, by omega⟩
    cases hv : Utf8.valid r
    · exact absurd (.inl hv) h
    · rfl
theorem cleanR_clean (r : Int) : CleanR (cleanR r) := by
  unfold cleanR
  split
  · exact ⟨by decide, by omega, by omega⟩
  · exact cleanR_shown r
theorem cleanF_mem : ∀ (f : Nat) (l : List Int), ∀ x ∈ cleanF f l, CleanR x
  | 0, l => by simp [cleanF]
  | f + 1, l => by
    intro x hx
    rw [cleanF] at hx
    split at hx
    · simp at hx
    · rcases List.mem_cons.1 hx with rfl | h
      · exact cleanR_clean _
      · exact cleanF_mem f _ x h
theorem cleanL_mem (l : List Int) : ∀ x ∈ cleanL l, CleanR x := cleanF_mem _ _
/-- The bytes of runes. -/
def encA : List Int → List Int
  | [] => []
  | x :: xs => encR x ++ encA xs
theorem encA_app (xs ys : List Int) : encA (xs ++ ys) = encA xs ++ encA ys := by
  induction xs with
  | nil => rfl
  | cons x xs ih => simp [encA, ih]
theorem encR_pos (r : Int) : 0 < (encR r).length := by
  unfold encR encL
  split
  · repeat' split
    all_goals simp
  · simp
theorem clean_enc : ∀ (xs : List Int), (∀ x ∈ xs, CleanR x) → cleanL (encA xs) = xs
  | [], _ => cleanL_nil _ rfl
  | x :: xs, h => by
    have hx := h x (by simp)
    have hp := encR_pos x
    rw [encA, cleanL_step _ (by simp; omega), dec_enc x hx.1]
    simp only
    rw [hx.clean, List.drop_left, clean_enc xs (fun y hy => h y (by simp [hy]))]
/-- All runes of clusters. -/
def flat : List (List Int × Int) → List Int
  | [] => []
  | c :: cs => c.1 ++ flat cs
theorem flat_app (xs ys : List (List Int × Int)) : flat (xs ++ ys) = flat xs ++ flat ys := by
  induction xs with
  | nil => rfl
  | cons x xs ih => simp [flat, ih]
theorem txR_all (xs : List Int) : ∀ k, k ≤ xs.length → txR xs k = encA (xs.take k)
  | 0, _ => by simp [txR, encA]
  | k + 1, h => by
    rw [txR, txR_all xs k (by omega), List.take_succ_eq_append_getElem (by omega), encA_app]
    simp [encA, at0, show k < xs.length by omega]
theorem txT_all (cs : List (List Int × Int)) : ∀ k, k ≤ cs.length → txT cs k = encA (flat (cs.take k))
  | 0, _ => by simp [txT, flat, encA]
  | k + 1, h => by
    rw [txT, txT_all cs k (by omega), List.take_succ_eq_append_getElem (by omega), flat_app, encA_app, txR_all _ _ (Nat.le_refl _), List.take_length]
    simp [flat, cR, show k < cs.length by omega]
theorem textC_flat (cs : List (List Int × Int)) : textC cs = encA (flat cs) := by
  rw [textC, txT_all cs cs.length (Nat.le_refl _), List.take_length]
theorem flat_set (cs : List (List Int × Int)) (x d : Int) (h : 0 < cs.length) : flat (cs.set (cs.length - 1) (cR cs (cs.length - 1) ++ [x], d)) = flat cs ++ [x] := by
  obtain ⟨ys, y, rfl⟩ : ∃ ys y, cs = ys ++ [y] := ⟨cs.dropLast, cs.getLast (by intro e; simp [e] at h), (List.dropLast_concat_getLast _).symm⟩
  have : (ys ++ [y]).length - 1 = ys.length := by simp
  rw [this, List.set_append_right _ _ (Nat.le_refl _), Nat.sub_self]
  simp [flat_app, flat, cR]
/-- With U+25CC in front where the first has no width. -/
def fl (xs : List Int) : List Int := if xs = [] then [] else if 0 < wid (at0 xs 0) then xs else 9676 :: xs
theorem clF_flat (xs : List Int) : ∀ k, k ≤ xs.length → (clF xs k).length = 0 ∧ k = 0 ∨ 0 < (clF xs k).length ∧ 0 < k ∧ flat (clF xs k) = fl ((xs.take k).map shownI)
  | 0, _ => .inl ⟨rfl, rfl⟩
  | k + 1, h => by
    right
    have hk : k < xs.length := by omega
    have ht : (xs.take (k + 1)).map shownI = (xs.take k).map shownI ++ [shownI (at0 xs k)] := by
      rw [List.take_succ_eq_append_getElem hk, List.map_append]
      simp [at0, hk]
    rcases clF_flat xs k (by omega) with ⟨h1, h2⟩ | ⟨h1, h2, h3⟩
    · subst h2
      rw [clF, clStep]
      have e0 : clF xs 0 = [] := rfl
      rw [ht, e0]
      by_cases hw : 0 < wid (shownI (at0 xs 0))
      · rw [if_pos hw]
        simp [flat, fl, at0] at hw ⊢
        exact hw
      · rw [if_neg hw]
        simp [flat, fl, at0] at hw ⊢
        exact hw
    · have hf : ∀ y, fl ((xs.take k).map shownI ++ [y]) = fl ((xs.take k).map shownI) ++ [y] := by
        intro y
        have hne : (xs.take k).map shownI ≠ [] := by
          intro e
          have h9 := congrArg List.length e
          rw [List.length_map, List.length_take, List.length_nil] at h9
          omega
        have ha : at0 ((xs.take k).map shownI ++ [y]) 0 = at0 ((xs.take k).map shownI) 0 := by
          unfold at0
          rw [List.getElem?_append_left (by simp; omega)]
        unfold fl
        rw [if_neg (by simp), if_neg hne, ha]
        split <;> simp
      rw [clF, clStep, ht, hf]
      by_cases hw : 0 < wid (shownI (at0 xs k))
      · rw [if_pos hw]
        refine ⟨by simp, by omega, ?_⟩
        rw [flat_app, h3]
        simp [flat]
      · rw [if_neg hw, if_neg (by omega)]
        refine ⟨by simpa using h1, by omega, ?_⟩
        rw [flat_set _ _ _ h1, h3]
theorem clus_flat (xs : List Int) (h : ∀ x ∈ xs, CleanR x) : flat (clusC xs) = fl xs := by
  have hm : xs.map shownI = xs := by
    conv => rhs; rw [← List.map_id xs]
    exact List.map_congr_left fun x hx => (h x hx).shown
  unfold clusC
  rcases clF_flat xs xs.length (Nat.le_refl _) with ⟨h1, h2⟩ | ⟨_, _, h3⟩
  · have e : xs = [] := List.eq_nil_of_length_eq_zero h2
    subst e
    rfl
  · rw [h3, List.take_length, hm]
theorem fl_clean (xs : List Int) (h : ∀ x ∈ xs, CleanR x) : ∀ x ∈ fl xs, CleanR x := by
  unfold fl
  split
  · simp
  · split
    · exact h
    · intro x hx
      rcases List.mem_cons.1 hx with rfl | hx
      · exact ⟨by decide, by omega, by omega⟩
      · exact h x hx
theorem fl_fl (xs : List Int) : fl (fl xs) = fl xs := by
  by_cases h : xs = []
  · subst h; rfl
  · by_cases hw : 0 < wid (at0 xs 0)
    · have : fl xs = xs := by unfold fl; rw [if_neg h, if_pos hw]
      rw [this, this]
    · have : fl xs = 9676 :: xs := by unfold fl; rw [if_neg h, if_neg hw]
      rw [this]
      conv => lhs; unfold fl
      rw [if_neg (by simp), if_pos (by show 0 < wid 9676; decide)]
theorem settleL_enc (bs : List Int) : settleL bs = encA (fl (cleanL bs)) := by
  rw [settleL, textC_flat, clus_flat _ (cleanL_mem bs)]
theorem settle_twice (bs : List Int) : settleL (settleL bs) = settleL bs := by
  rw [settleL_enc (settleL bs), settleL_enc bs, clean_enc _ (fl_clean _ (cleanL_mem bs)), fl_fl]
end Go.Proofs.YtopjihagpkempaaDoor

namespace Go.Proofs.YtopjihagpkempaaDoor
open Go.RowKit

/-- The width of the first k clusters. -/
def pw (cs : List (List Int × Int)) : Nat → Int
  | 0 => 0
  | k + 1 => pw cs k + cW cs k
theorem clF_wid (xs : List Int) : ∀ k j, 0 ≤ cW (clF xs k) j ∧ cW (clF xs k) j ≤ 2
  | 0, j => by simp [clF, cW]
  | k + 1, j => by
    have ih := clF_wid xs k
    have hw := wid_bd (shownI (at0 xs k))
    rw [clF, clStep]
    split
    · rw [cW_push]; split
      · exact hw
      · exact ih j
    · split
      · by_cases hj : j = 0
        · subst hj; simp [cW]
        · simp [cW, List.getElem?_eq_none (show [(([9676, shownI (at0 xs k)] : List Int), (1 : Int))].length ≤ j by simp; omega)]
      · rename_i h1 h2
        rw [cW_set _ _ _ _ (by omega)]
        split
        · exact ih _
        · exact ih j
theorem pw_bd (cs : List (List Int × Int)) (h : ∀ j, 0 ≤ cW cs j ∧ cW cs j ≤ 2) : ∀ k, 0 ≤ pw cs k ∧ pw cs k ≤ 2 * (k : Int)
  | 0 => by simp [pw]
  | k + 1 => by have := pw_bd cs h k; have := h k; rw [pw]; omega
theorem pw_mono (cs : List (List Int × Int)) (h : ∀ j, 0 ≤ cW cs j ∧ cW cs j ≤ 2) (s : Nat) : ∀ e, s ≤ e → pw cs s ≤ pw cs e := by
  intro e
  induction e with
  | zero => intro h1; have : s = 0 := by omega
            subst this; exact Int.le_refl _
  | succ e ih =>
    intro h1
    by_cases e1 : s = e + 1
    · subst e1; exact Int.le_refl _
    · have := ih (by omega); have := h e; rw [pw]; omega
structure RowOk (cs : List (List Int × Int)) (cols : Int) (S : List Int) (u : Int) (k : Nat) : Prop where
  eq : u = pw cs k - pw cs (at0 S (S.length - 1)).toNat
  le : u ≤ cols
  rows : ∀ i, i + 1 < S.length → pw cs (at0 S (i + 1)).toNat - pw cs (at0 S i).toNat ≤ cols ∧ cols < pw cs (at0 S (i + 1)).toNat - pw cs (at0 S i).toNat + cW cs (at0 S (i + 1)).toNat ∧ at0 S i < at0 S (i + 1)
  last : 0 < k → at0 S (S.length - 1) < (k : Int)
theorem rowOk (cs : List (List Int × Int)) (cols : Int) (hc : 2 ≤ cols) (h : ∀ j, 0 ≤ cW cs j ∧ cW cs j ≤ 2) : ∀ k, RowOk cs cols (stF cs cols k).1 (stF cs cols k).2 k
  | 0 => ⟨by simp [stF, at0, pw], by simp [stF]; omega, fun i hi => by simp [stF] at hi, fun h => by omega⟩
  | k + 1 => by
    have ih := rowOk cs cols hc h k
    have ok := stF_ok cs cols k
    have hk := h k
    have hd : cWd (cW cs k) = cW cs k := by unfold cWd; rw [if_neg (by omega), if_neg (by omega)]
    have h1 := ok.one
    have hL := ok.le ((stF cs cols k).1.length - 1) (by omega)
    have e1 := ih.eq
    have e2 := ih.le
    rw [stF, hd]
    split
    · rename_i hn
      refine ⟨?_, by dsimp only; omega, fun i hi => ?_, fun _ => ?_⟩
      · dsimp only
        rw [at0_app, if_pos (by simp), pw]
        simp
        omega
      · dsimp only at hi ⊢
        simp at hi
        rw [at0_app (i := i), if_neg (by omega), at0_app (i := i + 1)]
        by_cases e : i + 1 = (stF cs cols k).1.length
        · rw [if_pos e]
          have e3 : (stF cs cols k).1.length - 1 = i := by omega
          rw [e3] at e1 hn
          simp only [Int.toNat_natCast]
          refine ⟨by omega, by omega, hn.1⟩
        · rw [if_neg e]
          exact ih.rows i (by omega)
      · dsimp only
        rw [at0_app, if_pos (by simp)]
        omega
    · rename_i hn
      refine ⟨by dsimp only; rw [pw]; omega, ?_, ih.rows, fun _ => by dsimp only; omega⟩
      dsimp only
      by_cases hlk : at0 (stF cs cols k).1 ((stF cs cols k).1.length - 1) < (k : Int)
      · have := fun h2 => hn ⟨hlk, h2⟩
        omega
      · have hk0 : k = 0 := by
          rcases Nat.eq_zero_or_pos k with e | e
          · exact e
          · exact absurd (ih.last e) hlk
        subst hk0
        have : (stF cs cols 0).2 = 0 := rfl
        omega
/-- What the law asks of the rows. -/
theorem wr_rows (cs : List (List Int × Int)) (cols : Int) (hc : 2 ≤ cols) (h : ∀ j, 0 ≤ cW cs j ∧ cW cs j ≤ 2) (i : Nat) (hi : i < (stF cs cols cs.length).1.length) :
    pw cs (at0 (wrS cs cols) (i + 1)).toNat - pw cs (at0 (wrS cs cols) i).toNat ≤ cols ∧
    (0 < i → (at0 (wrS cs cols) i).toNat < (at0 (wrS cs cols) (i + 1)).toNat ∧ cols < pw cs (at0 (wrS cs cols) i).toNat - pw cs (at0 (wrS cs cols) (i - 1)).toNat + cW cs (at0 (wrS cs cols) i).toNat) := by
  have r := rowOk cs cols hc h cs.length
  have ok := stF_ok cs cols cs.length
  have h1 := ok.one
  have a1 : at0 (wrS cs cols) i = at0 (stF cs cols cs.length).1 i := by unfold wrS; rw [at0_app, if_neg (by omega)]
  have a2 : at0 (wrS cs cols) (i - 1) = at0 (stF cs cols cs.length).1 (i - 1) := by unfold wrS; rw [at0_app, if_neg (by omega)]
  have a3 : at0 (wrS cs cols) (i + 1) = if i + 1 = (stF cs cols cs.length).1.length then (cs.length : Int) else at0 (stF cs cols cs.length).1 (i + 1) := by unfold wrS; rw [at0_app]
  rw [a1, a2, a3]
  have hb := ok.le i hi
  constructor
  · by_cases e : i + 1 = (stF cs cols cs.length).1.length
    · rw [if_pos e]
      have e1 := r.eq
      have e2 := r.le
      rw [show (stF cs cols cs.length).1.length - 1 = i by omega] at e1
      simp only [Int.toNat_natCast]
      omega
    · rw [if_neg e]
      exact (r.rows i (by omega)).1
  · intro h0
    have hr := r.rows (i - 1) (by omega)
    rw [show i - 1 + 1 = i by omega] at hr
    refine ⟨?_, hr.2.1⟩
    by_cases e : i + 1 = (stF cs cols cs.length).1.length
    · rw [if_pos e]
      have hb2 := ok.le (i - 1) (by omega)
      have h2 := r.last (by omega)
      rw [show (stF cs cols cs.length).1.length - 1 = i by omega] at h2
      simp only [Int.toNat_natCast]
      omega
    · rw [if_neg e]
      have := (r.rows i (by omega)).2.2
      omega
theorem textC_app (xs ys : List (List Int × Int)) : textC (xs ++ ys) = textC xs ++ textC ys := by
  rw [textC_flat, textC_flat, textC_flat, flat_app, encA_app]
theorem wr_text (cs : List (List Int × Int)) (cols : Int) (i : Nat) (hi : i < (stF cs cols cs.length).1.length) :
    textC (cs.take (at0 (wrS cs cols) (i + 1)).toNat) = textC (cs.take (at0 (wrS cs cols) i).toNat) ++ textC (wrC cs cols i) := by
  have h := wrS_step cs cols i hi
  rw [wrC, ← textC_app]
  congr 1
  have e : cs.take (at0 (wrS cs cols) i).toNat = (cs.take (at0 (wrS cs cols) (i + 1)).toNat).take (at0 (wrS cs cols) i).toNat := by
    rw [List.take_take, Nat.min_eq_left (by omega)]
  rw [e, List.take_append_drop]
theorem wr_first (cs : List (List Int × Int)) (cols : Int) : (at0 (wrS cs cols) 0).toNat = 0 := by
  have h := stF_ok cs cols cs.length
  have h1 := h.one
  unfold wrS
  rw [at0_app, if_neg (by omega), h.at00]
  rfl
theorem wr_end (cs : List (List Int × Int)) (cols : Int) : (at0 (wrS cs cols) (stF cs cols cs.length).1.length).toNat = cs.length := by
  unfold wrS
  rw [at0_app, if_pos rfl]
  simp
theorem sub_R (cs : List (List Int × Int)) (s e j : Nat) (hj : s + j < e) : cR ((cs.take e).drop s) j = cR cs (s + j) ∧ cW ((cs.take e).drop s) j = cW cs (s + j) := by
  unfold cR cW
  rw [List.getElem?_drop, List.getElem?_take, if_pos hj]
  exact ⟨rfl, rfl⟩
theorem sumR_sub (cs : List (List Int × Int)) (s e : Nat) : ∀ j, s + j ≤ e → sumR ((cs.take e).drop s) j + sumR cs s = sumR cs (s + j)
  | 0, _ => by simp [sumR]
  | j + 1, h => by
    have := sumR_sub cs s e j (by omega)
    rw [sumR, (sub_R cs s e j (by omega)).1, ← Nat.add_assoc, sumR]
    omega
theorem toBA_app2 (xs ys : List Int) : toBA xs ++ toBA ys = toBA (xs ++ ys) := by
  have h : (toBA xs ++ toBA ys).data.toList = (toBA (xs ++ ys)).data.toList := by
    rw [toBA_list, List.map_append, ← toBA_list, ← toBA_list]
    simp
  have h2 := Array.toList_inj.1 h
  cases h3 : toBA xs ++ toBA ys
  cases h4 : toBA (xs ++ ys)
  rw [h3, h4] at h2
  simp at h2
  rw [h2]
end Go.Proofs.YtopjihagpkempaaDoor

namespace Go.Proofs.YtopjihagpkempaaDoor
open Go.RowKit

/-- The clusters of a text. -/
def cutC (bs : List Int) : List (List Int × Int) := clusC (cleanL bs)
/-- Every cluster has a width of 1 or 2. -/
def Wides (cs : List (List Int × Int)) : Prop := ∀ j, j < cs.length → 1 ≤ cW cs j ∧ cW cs j ≤ 2
theorem cW_none (cs : List (List Int × Int)) (j : Nat) (h : cs.length ≤ j) : cW cs j = 0 := by simp [cW, List.getElem?_eq_none h]
theorem Wides.all {cs : List (List Int × Int)} (h : Wides cs) (j : Nat) : 0 ≤ cW cs j ∧ cW cs j ≤ 2 := by
  by_cases hj : j < cs.length
  · have := h j hj; omega
  · rw [cW_none cs j (by omega)]; omega
theorem cW_app (xs ys : List (List Int × Int)) (j : Nat) : cW (xs ++ ys) j = if j < xs.length then cW xs j else cW ys (j - xs.length) := by
  unfold cW
  split
  · rename_i h; rw [List.getElem?_append_left h]
  · rename_i h; rw [List.getElem?_append_right (by omega)]
theorem cR_app (xs ys : List (List Int × Int)) (j : Nat) : cR (xs ++ ys) j = if j < xs.length then cR xs j else cR ys (j - xs.length) := by
  unfold cR
  split
  · rename_i h; rw [List.getElem?_append_left h]
  · rename_i h; rw [List.getElem?_append_right (by omega)]
theorem Wides.app {xs ys : List (List Int × Int)} (hx : Wides xs) (hy : Wides ys) : Wides (xs ++ ys) := by
  intro j hj
  rw [cW_app]
  split
  · rename_i h; exact hx j h
  · rename_i h; simp at hj; exact hy _ (by omega)
theorem clF_pos (xs : List Int) : ∀ k j, j < (clF xs k).length → 1 ≤ cW (clF xs k) j
  | 0, j, h => by simp [clF] at h
  | k + 1, j, h => by
    have ih := clF_pos xs k
    rw [clF, clStep] at h ⊢
    split
    · rename_i h1
      rw [if_pos h1] at h
      rw [cW_push]
      split
      · omega
      · rename_i h2; simp at h; exact ih j (by omega)
    · rename_i h1
      rw [if_neg h1] at h
      split
      · rename_i h2
        rw [if_pos h2] at h
        simp at h
        subst h
        simp [cW]
      · rename_i h2
        rw [if_neg h2] at h
        simp at h
        rw [cW_set _ _ _ _ (by omega)]
        split
        · exact ih _ (by omega)
        · exact ih j h
theorem cutC_wides (bs : List Int) : Wides (cutC bs) := fun j hj => ⟨clF_pos _ _ j hj, (clF_wid _ _ j).2⟩
theorem pw_strict {cs : List (List Int × Int)} (h : Wides cs) {s e : Nat} (hse : s < e) (he : e ≤ cs.length) : pw cs s < pw cs e := by
  have h1 := pw_mono cs h.all s (e - 1) (by omega)
  have h2 := h (e - 1) (by omega)
  obtain ⟨k, rfl⟩ : ∃ k, e = k + 1 := ⟨e - 1, by omega⟩
  rw [pw]
  simp at h1 h2
  omega
/-- The row of a place, of the first i starts. -/
def rwF (S : List Int) (p : Int) : Nat → Nat
  | 0 => 0
  | i + 1 => if at0 S i ≤ p then i else rwF S p i
theorem rwF_lt (S : List Int) (p : Int) : ∀ i, 0 < i → rwF S p i < i
  | 0, h => by omega
  | i + 1, _ => by
    rw [rwF]
    split
    · omega
    · by_cases h0 : i = 0
      · subst h0; simp [rwF]
      · have := rwF_lt S p i (by omega); omega
theorem rwF_le (S : List Int) (p : Int) (h0 : at0 S 0 ≤ p) : ∀ i, at0 S (rwF S p i) ≤ p
  | 0 => h0
  | i + 1 => by
    rw [rwF]
    split
    · assumption
    · exact rwF_le S p h0 i
theorem rwF_above (S : List Int) (p : Int) : ∀ i j, rwF S p i < j → j < i → p < at0 S j
  | 0, j, _, h => by omega
  | i + 1, j, h1, h2 => by
    rw [rwF] at h1
    split at h1
    · omega
    · rename_i h
      by_cases e : j = i
      · subst e; omega
      · exact rwF_above S p i j h1 (by omega)
/-- The one row that holds a place. -/
theorem rwF_only {S : List Int} {p : Int} {m i : Nat} (hm : i < m) (h1 : at0 S i ≤ p) (h2 : ∀ j, i < j → j < m → p < at0 S j) (h0 : at0 S 0 ≤ p) : rwF S p m = i := by
  have a := rwF_lt S p m (by omega)
  have b := rwF_le S p h0 m
  by_cases e : rwF S p m < i
  · have := rwF_above S p m i e hm; omega
  · by_cases e2 : i < rwF S p m
    · have := h2 _ e2 a; omega
    · omega
section
variable (cs : List (List Int × Int)) (cols : Nat) (p rows : Nat)
def stS : List Int := (stF cs cols cs.length).1
def layRow0 : Nat := rwF (stS cs cols) p (stS cs cols).length
def layCol0 : Int := pw cs p - pw cs (at0 (stS cs cols) (layRow0 cs cols p)).toNat
/-- The cursor stands behind a full last row. -/
def LayFull : Prop := p = cs.length ∧ layCol0 cs cols p = cols
abbrev layD : Decidable (LayFull cs cols p) := inferInstanceAs (Decidable (p = cs.length ∧ layCol0 cs cols p = cols))
def layS : List Int := @ite _ (LayFull cs cols p) (layD cs cols p) (stS cs cols ++ [(p : Int)]) (stS cs cols)
def layRow : Nat := @ite _ (LayFull cs cols p) (layD cs cols p) (layRow0 cs cols p + 1) (layRow0 cs cols p)
def layCol : Int := @ite _ (LayFull cs cols p) (layD cs cols p) (0) (layCol0 cs cols p)
def layFr : Nat := layRow cs cols p + 1 - rows
def layCnt : Nat := min (layFr cs cols p rows + rows) (layS cs cols p).length - layFr cs cols p rows
/-- The clusters of row i. -/
def layC (i : Nat) : List (List Int × Int) := (cs.take (at0 (layS cs cols p ++ [(cs.length : Int)]) (i + 1)).toNat).drop (at0 (layS cs cols p ++ [(cs.length : Int)]) i).toNat
def layT (i : Nat) : ByteArray := toBA (textC (layC cs cols p (layFr cs cols p rows + i)))
end
variable {cs : List (List Int × Int)} {cols p : Nat}
theorem stS_row (hw : Wides cs) (hc : 2 ≤ cols) : RowOk cs cols (stS cs cols) (stF cs cols cs.length).2 cs.length := rowOk cs cols (by omega) hw.all cs.length
theorem layRow0_lt : layRow0 cs cols p < (stS cs cols).length := rwF_lt _ _ _ (by have := (stF_ok cs cols cs.length).one; exact this)
theorem stS_zero : at0 (stS cs cols) 0 = 0 := (stF_ok cs cols cs.length).at00
theorem layRow0_le : at0 (stS cs cols) (layRow0 cs cols p) ≤ (p : Int) := rwF_le _ _ (by rw [stS_zero]; omega) _
theorem layRow0_above {j : Nat} (h1 : layRow0 cs cols p < j) (h2 : j < (stS cs cols).length) : (p : Int) < at0 (stS cs cols) j := rwF_above _ _ _ _ h1 h2
theorem stS_nonneg {i : Nat} (hi : i < (stS cs cols).length) : 0 ≤ at0 (stS cs cols) i ∧ at0 (stS cs cols) i ≤ (cs.length : Int) := (stF_ok cs cols cs.length).le i hi
/-- The program's test for a full row is the specification's. -/
theorem full_iff (hw : Wides cs) (hc : 2 ≤ cols) (hp : p ≤ cs.length) : LayFull cs cols p ↔ layCol0 cs cols p = cols := by
  refine ⟨fun h => h.2, fun h => ⟨?_, h⟩⟩
  by_cases e : p = cs.length
  · exact e
  exfalso
  have hlt := layRow0_lt (cs := cs) (cols := cols) (p := p)
  have hle := layRow0_le (cs := cs) (cols := cols) (p := p)
  have ok := stS_row hw hc
  have hn := stS_nonneg hlt
  unfold layCol0 at h
  by_cases hl : layRow0 cs cols p + 1 < (stS cs cols).length
  · have h1 := (ok.rows _ hl).1
    have h2 := layRow0_above (cs := cs) (cols := cols) (p := p) (show layRow0 cs cols p < layRow0 cs cols p + 1 by omega) hl
    have h3 := stS_nonneg hl
    have h4 := pw_strict hw (s := p) (e := (at0 (stS cs cols) (layRow0 cs cols p + 1)).toNat) (by omega) (by omega)
    omega
  · have h1 := ok.le
    have h2 := ok.eq
    have h3 : (stS cs cols).length - 1 = layRow0 cs cols p := by omega
    rw [h3] at h2
    have h4 := pw_strict hw (s := p) (e := cs.length) (by omega) (Nat.le_refl _)
    omega
theorem layCol0_bd (hw : Wides cs) (hc : 2 ≤ cols) (hp : p ≤ cs.length) : 0 ≤ layCol0 cs cols p ∧ layCol0 cs cols p ≤ cols := by
  have hlt := layRow0_lt (cs := cs) (cols := cols) (p := p)
  have hle := layRow0_le (cs := cs) (cols := cols) (p := p)
  have ok := stS_row hw hc
  have hn := stS_nonneg hlt
  unfold layCol0
  have h0 := pw_mono cs hw.all (at0 (stS cs cols) (layRow0 cs cols p)).toNat p (by omega)
  refine ⟨by omega, ?_⟩
  by_cases hl : layRow0 cs cols p + 1 < (stS cs cols).length
  · have h1 := (ok.rows _ hl).1
    have h2 := layRow0_above (cs := cs) (cols := cols) (p := p) (show layRow0 cs cols p < layRow0 cs cols p + 1 by omega) hl
    have h3 := stS_nonneg hl
    have h4 := pw_mono cs hw.all p (at0 (stS cs cols) (layRow0 cs cols p + 1)).toNat (by omega)
    omega
  · have h1 := ok.le
    have h2 := ok.eq
    have h3 : (stS cs cols).length - 1 = layRow0 cs cols p := by omega
    rw [h3] at h2
    have h4 := pw_mono cs hw.all p cs.length hp
    omega
theorem layS_len : (layS cs cols p).length ≤ cs.length + 2 := by
  have := (stF_ok cs cols cs.length).len
  unfold layS
  split
  · simp [stS]; omega
  · simp [stS]; omega
theorem layRow_lt : layRow cs cols p < (layS cs cols p).length := by
  have := layRow0_lt (cs := cs) (cols := cols) (p := p)
  unfold layRow layS
  split
  · simp; omega
  · exact this
/-- The width of clusters together. -/
def wsum (cs : List (List Int × Int)) : Int := pw cs cs.length
theorem pw_app (xs ys : List (List Int × Int)) : ∀ k, k ≤ xs.length → pw (xs ++ ys) k = pw xs k
  | 0, _ => rfl
  | k + 1, h => by rw [pw, pw, pw_app xs ys k (by omega), cW_app, if_pos (by omega)]
theorem pw_sub (cs : List (List Int × Int)) (s e : Nat) : ∀ j, s + j ≤ e → pw ((cs.take e).drop s) j = pw cs (s + j) - pw cs s
  | 0, _ => by simp [pw]
  | j + 1, h => by rw [pw, pw_sub cs s e j (by omega), (sub_R cs s e j (by omega)).2, ← Nat.add_assoc, pw]; omega
theorem wsum_sub (cs : List (List Int × Int)) (s e : Nat) (hse : s ≤ e) (he : e ≤ cs.length) : wsum ((cs.take e).drop s) = pw cs e - pw cs s := by
  unfold wsum
  rw [List.length_drop, List.length_take, show min e cs.length - s = e - s by omega, pw_sub cs s e _ (by omega), show s + (e - s) = e by omega]
end Go.Proofs.YtopjihagpkempaaDoor

namespace Go.Proofs.YtopjihagpkempaaDoor
open Go.RowKit

/-- Texts as cells. -/
def strL (tx : Nat → ByteArray) (n : Nat) : List Value := (List.range n).map (fun j => .string (tx j))
theorem strL_len (tx : Nat → ByteArray) (n : Nat) : (strL tx n).length = n * 1 := by simp [strL]
theorem strL_at (tx : Nat → ByteArray) (n j : Nat) (hj : j < n) : (strL tx n)[j]? = some (.string (tx j)) := by simp [strL, hj]
theorem strL_succ (tx : Nat → ByteArray) (n : Nat) : strL tx (n + 1) = strL tx n ++ [.string (tx n)] := by simp [strL, List.range_succ]
theorem strL_congr {tx ty : Nat → ByteArray} {n : Nat} (h : ∀ j, j < n → tx j = ty j) : strL tx n = strL ty n := by
  unfold strL
  apply List.map_congr_left
  intro j hj
  rw [h j (List.mem_range.1 hj)]
theorem strL_one {tx : Nat → ByteArray} {n : Nat} : ∀ u ∈ strL tx n, u.oneCell' = true := by
  intro u hu
  simp only [strL, List.mem_map] at hu
  obtain ⟨q, _, rfl⟩ := hu
  rfl
theorem strL_news {w : World} {ad : Addr} {n ca : Nat} {tx : Nat → ByteArray} (h : Row1At w (.slice (some ad) n ca) n (fun j => .string (tx j))) : ∀ j u, (strL tx n)[j]? = some u → w.cell? (ad.add j) = some u := by
  intro j u hu
  have hj : j < n := by
    have := (List.getElem?_eq_some_iff.1 hu).1
    simpa [strL] using this
  obtain ⟨ao, ca', e, _, hx⟩ := h
  simp only [Value.slice.injEq] at e
  obtain ⟨rfl, -, rfl⟩ := e
  obtain ⟨b, off, e, hc⟩ := hx (by omega)
  obtain rfl := Option.some.inj e
  rw [strL_at tx n j hj] at hu
  rw [Addr.add_lit, hc j hj]
  exact hu
theorem own_strL {w : World} {base : Nat} {T : TypeId} {v : Value} {n : Nat} {tx : Nat → ByteArray} (h : w.ownsRow base T 1 v n (strL tx n)) : Own1 w base T v n (fun j => .string (tx j)) :=
  ⟨_, h, fun j hj => strL_at tx n j hj⟩
theorem Own1.slice {w : World} {base : Nat} {T : TypeId} {v : Value} {n : Nat} {A : Nat → Value} (h : Own1 w base T v n A) : ∃ a c, v = .slice a n c := by
  rcases h.form with ⟨rfl, rfl⟩ | ⟨g, c, rfl⟩
  · exact ⟨none, 0, rfl⟩
  · exact ⟨some ⟨g, 0, none⟩, c, rfl⟩
theorem Own1.away {w : World} {base : Nat} {T : TypeId} {v : Value} {n : Nat} {A : Nat → Value} (h : Own1 w base T v n A) (a : Addr) (hne : v.ownBlock ≠ some a.block) (u : Value) : Own1 (w.setCell a u) base T v n A := by
  obtain ⟨ys, h1, h2⟩ := h
  exact ⟨ys, owns_setCell h1 hne u, h2⟩
section
variable {P : Program} {w : World}
theorem step_append_own {ops : Array Oper} {o : Oper} {a : Act} {K : Act → World → Prop} {Q : Exit → Act → World → Prop} {E : Prop} (hgd : o.guard = none) (s x : Operand) (t : TypeId)
    (ho : o.op = .call { callee := .builtin .append, args := #[s, x], argTypes := #[t, t] })
    (base : Nat) (e : TypeId) (i : TypeInfo) (z : Value) (size bytes : Nat) (ht : P.underlying t = some (.slice e)) (hi : P.info? e = some i) (hz : i.zero = some z)
    (hsize : i.size = size) (hby : i.bytes = bytes) (hzs : z.cells.size = size) (hsz : 0 < size)
    (v : Value) (n : Nat) (xs : List Value) (hs : a.eval s = v) (hown : w.ownsRow base e size v n xs)
    (ad : Addr) (m c : Nat) (news : List Value) (hx : a.eval x = .slice (some ad) m c) (hl : news.length = m * size) (hnews : ∀ j u, news[j]? = some u → w.cell? (ad.add j) = some u) (h1 : ∀ u ∈ news, u.oneCell' = true)
    (h63 : n + m ≤ maxLen) (hbytes : (n + m) * bytes ≤ 140737488355328) (hbase : base ≤ w.heap.size)
    (h : ∀ v' w', w'.ownsRow base e size v' (n + m) (xs ++ news) → w.grownBy w' v.ownBlock → (v' = .slice none 0 0 ↔ v = .slice none 0 0 ∧ m = 0) → K (a.put o.dst v') w') :
    if Region.wanted o (yielded ops a.tmps) = true then Oper.wp P o a w K Q else E := by
  rw [if_pos (by simp [Region.wanted, hgd])]
  exact wp_append_own w s x t ho base e i z size bytes ht hi hz hsize hby hzs hsz v n xs hs hown ad m c news hx hl hnews h1 h63 hbytes hbase h
end
/-- What an append may take: a slice (nil too) of m elements that reads as these cells. -/
def Src (w : World) (size : Nat) (x : Value) (m : Nat) (news : List Value) : Prop :=
  news.length = m * size ∧ (∀ u ∈ news, u.oneCell' = true) ∧ ((∃ c, x = .slice none 0 c ∧ m = 0) ∨ ∃ ad c, x = .slice (some ad) m c ∧ ∀ j u, news[j]? = some u → w.cell? (ad.add j) = some u)
theorem Src.ext {w w' : World} {size : Nat} {x : Value} {m : Nat} {news : List Value} (h : Src w size x m news) (he : Ext w w') : Src w' size x m news := by
  obtain ⟨h1, h2, h3⟩ := h
  refine ⟨h1, h2, ?_⟩
  rcases h3 with h3 | ⟨ad, c, e, h3⟩
  · exact .inl h3
  · exact .inr ⟨ad, c, e, fun j u hj => he.cell (h3 j u hj)⟩
theorem Src.strs {w : World} {v : Value} {n : Nat} {tx : Nat → ByteArray} (h : Row1At w v n (fun j => .string (tx j))) : Src w 1 v n (strL tx n) := by
  refine ⟨strL_len _ _, strL_one, ?_⟩
  obtain ⟨ao, c, rfl, hc, hx⟩ := id h
  cases ao with
  | some ad => exact .inr ⟨ad, c, rfl, strL_news h⟩
  | none =>
    refine .inl ⟨c, ?_⟩
    by_cases h0 : 0 < n
    · obtain ⟨b, o, e, _⟩ := hx h0
      cases e
    · have : n = 0 := by omega
      subst this
      exact ⟨rfl, rfl⟩
theorem Src.ints {w : World} {k : IntKind} {v : Value} {zs : List Int} (h : IntsAt w k v zs) : Src w 1 v zs.length (zs.map (Value.int k)) := by
  refine ⟨by simp, fun u hu => by obtain ⟨x, _, rfl⟩ := List.mem_map.1 hu; rfl, ?_⟩
  obtain ⟨ao, c, rfl, hc, hx⟩ := h
  by_cases h0 : 0 < zs.length
  · obtain ⟨b, o, rfl, h2⟩ := hx h0
    refine .inr ⟨_, c, rfl, fun j u hj => ?_⟩
    simp only [List.getElem?_map, Option.map_eq_some_iff] at hj
    obtain ⟨x, hx, rfl⟩ := hj
    have hjl : j < zs.length := (List.getElem?_eq_some_iff.1 hx).1
    have := h2 j hjl
    rw [at0, hx] at this
    rw [Addr.add_lit]; simpa using this
  · have e0 : zs = [] := List.eq_nil_of_length_eq_zero (by omega)
    subst e0
    cases ao with
    | none => exact .inl ⟨c, rfl, rfl⟩
    | some ad => exact .inr ⟨ad, c, rfl, fun j u hj => by simp at hj⟩
/-- The elements of a literal slice that the walk has just made. -/
theorem Src.made {w : World} {size : Nat} (zs : List Value) (n : Nat) (t : TypeId) (hl : zs.length = n * size) (h1 : ∀ u ∈ zs, u.oneCell' = true) : Src (w.alloc (.cells zs.toArray t)) size (.slice (some ⟨w.heap.size, 0, none⟩) n n) n zs :=
  ⟨hl, h1, .inr ⟨_, _, rfl, fun j u hj => by rw [Addr.add_lit, Nat.zero_add]; exact cells_of (new_block w _) j u (by simpa using hj)⟩⟩
section
variable {P : Program} {w : World}
theorem run_app_none (base : Nat) (t ty e : TypeId) (i : TypeInfo) (size : Nat) (ht : P.underlying t = some (.slice e)) (hi : P.info? e = some i)
    (v : Value) (n c : Nat) (xs : List Value) (hown : w.ownsRow base e size v n xs) :
    (Builtin.append_ #[t, t] ty #[v, .slice none 0 c]).run P w = .ok v w := by
  rcases hown.2 with ⟨rfl, rfl⟩ | ⟨g, cap, cur, rfl, _, _, hnc, _⟩
  · simp [Builtin.append_, run_underlying ht, sizeOf, typeInfo, hi, Builtin.lenOf, Builtin.firstCells]
  · simp [Builtin.append_, run_underlying ht, sizeOf, typeInfo, hi, Builtin.lenOf, Builtin.firstCells, hnc, storeCells]
/-- append onto an owned row, whatever the source. -/
theorem wp_app {o : Oper} {a : Act} {K : Act → World → Prop} {Q : Exit → Act → World → Prop} (s x : Operand) (t : TypeId)
    (ho : o.op = .call { callee := .builtin .append, args := #[s, x], argTypes := #[t, t] })
    (base : Nat) (e : TypeId) (i : TypeInfo) (z : Value) (size bytes : Nat) (ht : P.underlying t = some (.slice e)) (hi : P.info? e = some i) (hz : i.zero = some z)
    (hsize : i.size = size) (hby : i.bytes = bytes) (hzs : z.cells.size = size) (hsz : 0 < size)
    (v : Value) (n : Nat) (xs : List Value) (hs : a.eval s = v) (hown : w.ownsRow base e size v n xs)
    (y : Value) (m : Nat) (news : List Value) (hx : a.eval x = y) (hsrc : Src w size y m news)
    (h63 : n + m ≤ maxLen) (hbytes : (n + m) * bytes ≤ 140737488355328) (hbase : base ≤ w.heap.size)
    (h : ∀ v' w', w'.ownsRow base e size v' (n + m) (xs ++ news) → w.grownBy w' v.ownBlock → (v' = .slice none 0 0 ↔ v = .slice none 0 0 ∧ m = 0) → K (a.put o.dst v') w') : o.wp P a w K Q := by
  obtain ⟨h1, h2, h3⟩ := hsrc
  rcases h3 with ⟨c, rfl, rfl⟩ | ⟨ad, c, rfl, h3⟩
  · have hn : news = [] := List.eq_nil_of_length_eq_zero (by omega)
    subst hn
    have hr := run_app_none (P := P) (w := w) base t o.type e i size ht hi v n c xs hown
    unfold Oper.wp execOp
    simp only [ho, resolve, invoke, builtin, Sem.run_bind, Sem.run_pure, Result.andThen_ok, List.map_toArray, List.map_cons, List.map_nil, hs, hx, hr]
    exact h v w (by simpa using hown) (World.grownBy.refl w _) (by simp)
  · exact wp_append_own w s x t ho base e i z size bytes ht hi hz hsize hby hzs hsz v n xs hs hown ad m c news hx h1 h3 h2 h63 hbytes hbase h
theorem wpList_app {ops : Array Oper} {rest : List Oper} {o : Oper} {a : Act} {Q : Exit → Act → World → Prop} (hgd : o.guard = none) (s x : Operand) (t : TypeId)
    (ho : o.op = .call { callee := .builtin .append, args := #[s, x], argTypes := #[t, t] })
    (base : Nat) (e : TypeId) (i : TypeInfo) (z : Value) (size bytes : Nat) (ht : P.underlying t = some (.slice e)) (hi : P.info? e = some i) (hz : i.zero = some z)
    (hsize : i.size = size) (hby : i.bytes = bytes) (hzs : z.cells.size = size) (hsz : 0 < size)
    (v : Value) (n : Nat) (xs : List Value) (hs : a.eval s = v) (hown : w.ownsRow base e size v n xs)
    (y : Value) (m : Nat) (news : List Value) (hx : a.eval x = y) (hsrc : Src w size y m news)
    (h63 : n + m ≤ maxLen) (hbytes : (n + m) * bytes ≤ 140737488355328) (hbase : base ≤ w.heap.size)
    (h : ∀ v' w', w'.ownsRow base e size v' (n + m) (xs ++ news) → w.grownBy w' v.ownBlock → (v' = .slice none 0 0 ↔ v = .slice none 0 0 ∧ m = 0) → wpList P ops Q rest (a.put o.dst v') w') : wpList P ops Q (o :: rest) a w :=
  wpList_plain hgd fun _ hK => wp_app s x t ho base e i z size bytes ht hi hz hsize hby hzs hsz v n xs hs hown y m news hx hsrc h63 hbytes hbase fun v' w' h2 h3 h4 => hK _ _ (h v' w' h2 h3 h4)
theorem step_app {ops : Array Oper} {o : Oper} {a : Act} {K : Act → World → Prop} {Q : Exit → Act → World → Prop} {E : Prop} (hgd : o.guard = none) (s x : Operand) (t : TypeId)
    (ho : o.op = .call { callee := .builtin .append, args := #[s, x], argTypes := #[t, t] })
    (base : Nat) (e : TypeId) (i : TypeInfo) (z : Value) (size bytes : Nat) (ht : P.underlying t = some (.slice e)) (hi : P.info? e = some i) (hz : i.zero = some z)
    (hsize : i.size = size) (hby : i.bytes = bytes) (hzs : z.cells.size = size) (hsz : 0 < size)
    (v : Value) (n : Nat) (xs : List Value) (hs : a.eval s = v) (hown : w.ownsRow base e size v n xs)
    (y : Value) (m : Nat) (news : List Value) (hx : a.eval x = y) (hsrc : Src w size y m news)
    (h63 : n + m ≤ maxLen) (hbytes : (n + m) * bytes ≤ 140737488355328) (hbase : base ≤ w.heap.size)
    (h : ∀ v' w', w'.ownsRow base e size v' (n + m) (xs ++ news) → w.grownBy w' v.ownBlock → (v' = .slice none 0 0 ↔ v = .slice none 0 0 ∧ m = 0) → K (a.put o.dst v') w') :
    if Region.wanted o (yielded ops a.tmps) = true then Oper.wp P o a w K Q else E := by
  rw [if_pos (by simp [Region.wanted, hgd])]
  exact wp_app s x t ho base e i z size bytes ht hi hz hsize hby hzs hsz v n xs hs hown y m news hx hsrc h63 hbytes hbase h
end
theorem owns_nil (w : World) (base : Nat) (e : TypeId) (size : Nat) : w.ownsRow base e size (.slice none 0 0) 0 [] := ⟨by simp, .inl ⟨rfl, rfl⟩⟩
theorem owns_empty (w : World) (e : TypeId) (size : Nat) : (w.alloc (.cells #[] e)).ownsRow w.heap.size e size (.slice (some ⟨w.heap.size, 0, none⟩) 0 0) 0 [] := ⟨by simp, .inr ⟨w.heap.size, 0, #[], rfl, Nat.le_refl _, new_block w _, Nat.le_refl _, by unfold maxLen; omega, by simp, by simp⟩⟩
end Go.Proofs.YtopjihagpkempaaDoor

namespace Go.Proofs.YtopjihagpkempaaDoor
open Go.RowKit

theorem cutC_len (bs : List Int) : (cutC bs).length ≤ bs.length := Nat.le_trans (clF_len _ _) (cleanL_len bs)
theorem cutC_fit (bs : List Int) : (cutC bs).length + sumR (cutC bs) (cutC bs).length ≤ 2 * bs.length + 1 := by
  have h1 := clF_sum (cleanL bs) (cleanL bs).length
  have h2 := cleanL_len bs
  have h3 := cutC_len bs
  have h4 : sumR (cutC bs) (cutC bs).length ≤ (cleanL bs).length + 1 := h1
  omega
theorem cutC_runes (bs : List Int) (j : Nat) : (cR (cutC bs) j).length ≤ bs.length + 1 := by
  have h1 := clF_runes (cleanL bs) (cleanL bs).length j
  have h2 := cleanL_len bs
  have h3 : (cR (cutC bs) j).length ≤ (cleanL bs).length + 1 := h1
  omega
theorem cutC_i32 (bs : List Int) (j : Nat) : I32s (cR (cutC bs) j) := clF_i32 _ _ j
theorem sumR_left (xs ys : List (List Int × Int)) : ∀ k, k ≤ xs.length → sumR (xs ++ ys) k = sumR xs k
  | 0, _ => rfl
  | k + 1, h => by rw [sumR, sumR, sumR_left xs ys k (by omega), cR_app, if_pos (by omega)]
theorem sumR_right (xs ys : List (List Int × Int)) : ∀ k, k ≤ ys.length → sumR (xs ++ ys) (xs.length + k) = sumR xs xs.length + sumR ys k
  | 0, _ => by rw [Nat.add_zero, sumR_left xs ys _ (Nat.le_refl _)]; rfl
  | k + 1, h => by
    rw [← Nat.add_assoc, sumR, sumR_right xs ys k (by omega), cR_app, if_neg (by omega), show xs.length + k - xs.length = k by omega, sumR]
    omega
/-- What holds of the clusters of texts. -/
structure Cuts (cs : List (List Int × Int)) (N : Nat) : Prop where
  wide : Wides cs
  len : cs.length ≤ N
  sum : cs.length + sumR cs cs.length ≤ 2 * N + N
  runes : ∀ j, (cR cs j).length ≤ N + 1
  i32 : ∀ j, I32s (cR cs j)
theorem cuts_one (bs : List Int) : Cuts (cutC bs) (bs.length + 1) :=
  ⟨cutC_wides bs, by have := cutC_len bs; omega, by have := cutC_fit bs; omega, fun j => by have := cutC_runes bs j; omega, cutC_i32 bs⟩
theorem Cuts.app {xs ys : List (List Int × Int)} {N M : Nat} (hx : Cuts xs N) (hy : Cuts ys M) : Cuts (xs ++ ys) (N + M) := by
  have h1 := hx.len
  have h2 := hy.len
  have h3 := hx.sum
  have h4 := hy.sum
  refine ⟨hx.wide.app hy.wide, by rw [List.length_append]; omega, ?_, fun j => ?_, fun j => ?_⟩
  · rw [List.length_append, sumR_right xs ys _ (Nat.le_refl _)]
    omega
  · rw [cR_app]
    split
    · have := hx.runes j; omega
    · have := hy.runes (j - xs.length); omega
  · rw [cR_app]
    split
    · exact hx.i32 j
    · exact hy.i32 _
theorem sumR_up (cs : List (List Int × Int)) (k : Nat) : ∀ n, k ≤ n → sumR cs k ≤ sumR cs n := by
  intro n
  induction n with
  | zero => intro h; rw [show k = 0 by omega]; exact Nat.le_refl _
  | succ n ih =>
    intro h
    by_cases e : k = n + 1
    · subst e; exact Nat.le_refl _
    · have := ih (by omega); rw [sumR]; omega
theorem Cuts.part {cs : List (List Int × Int)} {N : Nat} (h : Cuts cs N) (s e : Nat) : ((cs.take e).drop s).length + sumR ((cs.take e).drop s) ((cs.take e).drop s).length ≤ 3 * N ∧ ∀ j, I32s (cR ((cs.take e).drop s) j) := by
  have h1 := h.sum
  have hl : ((cs.take e).drop s).length = min e cs.length - s := by simp
  refine ⟨?_, fun j => ?_⟩
  · by_cases hse : s ≤ min e cs.length
    · have e1 := sumR_sub cs s e (min e cs.length - s) (by omega)
      have e2 := sumR_up cs (s + (min e cs.length - s)) cs.length (by omega)
      rw [hl]
      omega
    · have h0 : (cs.take e).drop s = [] := List.eq_nil_of_length_eq_zero (by omega)
      rw [h0]
      simp [sumR]
  · unfold cR
    cases hj : ((cs.take e).drop s)[j]? with
    | none => intro x hx; cases hx
    | some u =>
      obtain ⟨q, hq⟩ := List.mem_iff_getElem?.1 (List.mem_of_mem_take (List.mem_of_mem_drop (List.mem_of_getElem? hj)))
      have := h.i32 q
      unfold cR at this
      rw [hq] at this
      exact this
set_option maxRecDepth 10000 in
set_option maxHeartbeats 1000000 in
theorem clustersOf_any (bs : List Int) (hb : Bytes bs) (w : World) (hl : bs.length ≤ 8000000) (hT : Laid w) :
    Calls Tryd.prog 43 #[.string (toBA bs)] w fun e w' => ∃ v rs, e = .returned v ∧ OwnCls w' w.heap.size v rs (cutC bs) ∧ Ext w w' := by
  obtain ⟨v0, w0, hrun, h0, E0⟩ := run_s2i (P := Tryd.prog) w _ _ _ Tryd.underlying9 Tryd.underlying71 Tryd.underlying5 bs hb
  have hcl := cleanL_len bs
  have H0 := hide h0
  have HT := hide hT
  go_enter Tryd.func43, Tryd.ntmps43
  go_wp2_with fail
  refine (implClean_any bs hb v0 w0 (unhide H0) (by omega)).mono ?_
  rintro e w1 ⟨v1, rfl, o1, E1⟩
  have T1 := hide ((unhide HT).below (E0.trans E1).below)
  go_wp2_with fail
  refine (implClusters_any v1 (cleanL bs) w1 (ints_of_owns o1) (cleanL_i32 bs) (by omega) (unhide T1)).mono ?_
  rintro e w2 ⟨v2, rs2, rfl, o2, E2⟩
  have O2 := hide o2
  clear o1 o2
  go_wp2
  go_ret
  exact ⟨_, _, rfl, OwnCls.mono (unhide O2) (E0.trans E1).size, (E0.trans E1).trans E2⟩
/-- The cells of clusters. -/
theorem OwnCls.ys {w : World} {b : Nat} {v : Value} {rs : List Value} {cs : List (List Int × Int)} (h : OwnCls w b v rs cs) : ∃ ys, w.ownsRow b 58 2 v cs.length ys ∧ (∀ j, j < cs.length → ys[j * 2]? = some (rV rs j) ∧ ys[j * 2 + 1]? = some (.int .i64 (cW cs j))) ∧ Src w 2 v cs.length ys := by
  obtain ⟨h0, ⟨ys, h1, h2⟩, h3, h4⟩ := h
  refine ⟨ys, h1, h2, h1.1, fun u hu => ?_, ?_⟩
  · obtain ⟨i, hi⟩ := List.mem_iff_getElem?.1 hu
    have hil : i < cs.length * 2 := by rw [← h1.1]; exact (List.getElem?_eq_some_iff.1 hi).1
    have hj := h2 (i / 2) (by omega)
    rcases Nat.mod_two_eq_zero_or_one i with e | e
    · rw [show i / 2 * 2 = i by omega, hi] at hj
      obtain rfl := Option.some.inj hj.1
      rcases (h3 (i / 2) (by omega)).2 with ⟨e2, _⟩ | ⟨g, cap, cur, e2, _⟩ <;> rw [e2] <;> rfl
    · rw [show i / 2 * 2 + 1 = i by omega, hi] at hj
      obtain rfl := Option.some.inj hj.2
      rfl
  · rcases h1.2 with ⟨rfl, e0⟩ | ⟨g, cap, cur, rfl, _⟩
    · exact .inl ⟨0, rfl, e0⟩
    · exact .inr ⟨_, cap, rfl, h1.cells rfl⟩
/-- Clusters appended to clusters. -/
theorem OwnCls.append {w w' : World} {b b2 : Nat} {v1 v2 v' : Value} {rs1 rs2 : List Value} {cs1 cs2 : List (List Int × Int)} {ys1 ys2 : List Value} (h1 : OwnCls w b v1 rs1 cs1) (h2 : OwnCls w b2 v2 rs2 cs2) (hb : b ≤ b2) (hlt : ∀ g, Foot v1 rs1 cs1.length g → g < b2)
    (o1 : w.ownsRow b 58 2 v1 cs1.length ys1) (k1 : ∀ j, j < cs1.length → ys1[j * 2]? = some (rV rs1 j) ∧ ys1[j * 2 + 1]? = some (.int .i64 (cW cs1 j))) (k2 : ∀ j, j < cs2.length → ys2[j * 2]? = some (rV rs2 j) ∧ ys2[j * 2 + 1]? = some (.int .i64 (cW cs2 j)))
    (o' : w'.ownsRow b 58 2 v' (cs1.length + cs2.length) (ys1 ++ ys2)) (hg : w.grownBy w' v1.ownBlock) : OwnCls w' b v' (rs1 ++ rs2) (cs1 ++ cs2) := by
  have l1 : rs1.length = cs1.length := h1.1
  have l2 : rs2.length = cs2.length := h2.1
  have ly : ys1.length = cs1.length * 2 := o1.1
  have fr : Fr (fun g => v1.ownBlock = some g) w w' := (Fr.refl _ w).grown hg (fun k hk => hk)
  have rv : ∀ j, rV (rs1 ++ rs2) j = if j < cs1.length then rV rs1 j else rV rs2 (j - cs1.length) := by
    intro j
    unfold rV
    split
    · rename_i h; rw [List.getElem?_append_left (by omega)]
    · rename_i h; rw [List.getElem?_append_right (by omega), l1]
  have lt1 : ∀ j g, j < cs1.length → (rV rs1 j).ownBlock = some g → g < b2 := fun j g hj hgg => hlt g (.inr ⟨j, hj, hgg⟩)
  have ge2 : ∀ j g, j < cs2.length → (rV rs2 j).ownBlock = some g → b2 ≤ g := fun j g hj hgg => ((h2.2.2.1 j hj).lt g hgg).1
  refine ⟨by simp [l1, l2], ⟨_, by rw [List.length_append]; exact o', fun j hj => ?_⟩, fun j hj => ?_, fun i j g hij hj => ?_⟩
  · rw [rv, cW_app]
    split
    · rename_i h
      have := k1 j h
      rw [List.getElem?_append_left (by omega), List.getElem?_append_left (by omega)]
      exact this
    · rename_i h
      simp at hj
      have := k2 (j - cs1.length) (by omega)
      rw [List.getElem?_append_right (by omega), List.getElem?_append_right (by omega), ly, show j * 2 - cs1.length * 2 = (j - cs1.length) * 2 by omega, show j * 2 + 1 - cs1.length * 2 = (j - cs1.length) * 2 + 1 by omega]
      exact this
  · rw [rv, cR_app]
    split
    · rename_i h
      exact fr.owns (h1.2.2.1 j h) (fun g hgg e => owns_apart o1 (h1.2.2.1 j h) (by decide) e hgg)
    · rename_i h
      simp at hj
      refine owns_mono (fr.owns (h2.2.2.1 _ (by omega)) (fun g hgg e => ?_)) hb
      have a := ge2 _ g (by omega) hgg
      have c := hlt g (.inl e)
      omega
  · rw [rv, rv]
    simp at hj
    intro hi
    by_cases hi1 : i < cs1.length
    · rw [if_pos hi1] at hi
      by_cases hj1 : j < cs1.length
      · rw [if_pos hj1]
        exact h1.2.2.2 i j g hij hj1 hi
      · rw [if_neg hj1]
        intro e
        have a := lt1 i g hi1 hi
        have c := ge2 _ g (by omega) e
        omega
    · rw [if_neg hi1] at hi
      rw [if_neg (by omega)]
      exact h2.2.2.2 _ _ g (by omega) (by omega) hi
/-- Where clusters lie. -/
theorem OwnCls.lt {w : World} {b : Nat} {v : Value} {rs : List Value} {cs : List (List Int × Int)} (h : OwnCls w b v rs cs) {g : Nat} (hg : Foot v rs cs.length g) : b ≤ g ∧ g < w.heap.size := by
  rcases hg with hg | ⟨j, hj, hg⟩
  · obtain ⟨ys, o, _⟩ := h.2.1
    exact o.lt g hg
  · exact (h.2.2.1 j hj).lt g hg
end Go.Proofs.YtopjihagpkempaaDoor

namespace Go.Proofs.YtopjihagpkempaaDoor
open Go.RowKit

section
variable {P : Program} {w : World}
theorem run_loadAt_blk (t : TypeId) (b : Nat) (T : TypeId) (cs : Array Value) (z : Nat × Nat) (d : TypeDesc) (hg : w.heap[b]? = some (.cells cs T z)) (hu : P.underlying t = some d) (hd : (match d with | .struct _ | .array _ _ => true | _ => false) = true) (hi : (P.info? t).map (·.size) = some cs.size) :
    (Instr.loadAt t (.pointer (some ⟨b, 0, none⟩))).run P w = .ok (.agg cs) w := by
  simp only [Instr.loadAt, Instr.sureAddr, Sem.run_bind, Sem.run_pure, Result.andThen]
  exact run_loadVar_row w b T t cs z d hg hu hd hi
theorem run_storeAt_blk (t : TypeId) (b : Nat) (T : TypeId) (old cs : Array Value) (hg : w.heap[b]? = some (.cells old T (0, 0))) (hi : (P.info? t).map (·.size) = some cs.size) (ho : old.size = cs.size) (h1 : cs.all (·.oneCell') = true) :
    (Instr.storeAt t (.pointer (some ⟨b, 0, none⟩)) (.agg cs)).run P w = .ok () (w.setRow b cs) := by
  simp only [Instr.storeAt, Instr.sureAddr, Sem.run_bind, Sem.run_pure, Result.andThen]
  exact run_storeVar_row w b T t old cs hg hi ho h1
/-- A struct is read whole. -/
theorem wp_load_blk {o : Oper} {a : Act} {K : Act → World → Prop} {Q : Exit → Act → World → Prop} (t : TypeId) (s : Operand) (ho : o.op = .load t s) (b : Nat) (hs : a.eval s = .pointer (some ⟨b, 0, none⟩)) (T : TypeId) (cs : Array Value) (z : Nat × Nat) (d : TypeDesc)
    (hg : w.heap[b]? = some (.cells cs T z)) (hu : P.underlying t = some d) (hd : (match d with | .struct _ | .array _ _ => true | _ => false) = true) (hi : (P.info? t).map (·.size) = some cs.size) (h : K (a.put o.dst (.agg cs)) w) : o.wp P a w K Q := by
  have hr := run_loadAt_blk (P := P) (w := w) t b T cs z d hg hu hd hi
  unfold Oper.wp
  simp [execOp, ho, hs, hr, Result.andThen]
  exact h
theorem wpList_load_blk {ops : Array Oper} {rest : List Oper} {o : Oper} {a : Act} {Q : Exit → Act → World → Prop} (hgd : o.guard = none) (t : TypeId) (s : Operand) (ho : o.op = .load t s) (b : Nat) (hs : a.eval s = .pointer (some ⟨b, 0, none⟩)) (T : TypeId) (cs : Array Value) (z : Nat × Nat) (d : TypeDesc)
    (hg : w.heap[b]? = some (.cells cs T z)) (hu : P.underlying t = some d) (hd : (match d with | .struct _ | .array _ _ => true | _ => false) = true) (hi : (P.info? t).map (·.size) = some cs.size) (h : wpList P ops Q rest (a.put o.dst (.agg cs)) w) : wpList P ops Q (o :: rest) a w :=
  wpList_plain hgd fun _ hK => wp_load_blk t s ho b hs T cs z d hg hu hd hi (hK _ _ h)
theorem wpList_load_blk_g {ops : Array Oper} {rest : List Oper} {o : Oper} {a : Act} {Q : Exit → Act → World → Prop} (hgd : Region.wanted o (yielded ops a.tmps) = true) (t : TypeId) (s : Operand) (ho : o.op = .load t s) (b : Nat) (hs : a.eval s = .pointer (some ⟨b, 0, none⟩)) (T : TypeId) (cs : Array Value) (z : Nat × Nat) (d : TypeDesc)
    (hg : w.heap[b]? = some (.cells cs T z)) (hu : P.underlying t = some d) (hd : (match d with | .struct _ | .array _ _ => true | _ => false) = true) (hi : (P.info? t).map (·.size) = some cs.size) (h : wpList P ops Q rest (a.put o.dst (.agg cs)) w) : wpList P ops Q (o :: rest) a w :=
  wpList_step fun K hK => by
    rw [if_pos hgd]
    exact wp_load_blk t s ho b hs T cs z d hg hu hd hi (hK _ _ h)
theorem step_load_blk {ops : Array Oper} {o : Oper} {a : Act} {K : Act → World → Prop} {Q : Exit → Act → World → Prop} {E : Prop} (hgd : o.guard = none) (t : TypeId) (s : Operand) (ho : o.op = .load t s) (b : Nat) (hs : a.eval s = .pointer (some ⟨b, 0, none⟩)) (T : TypeId) (cs : Array Value) (z : Nat × Nat) (d : TypeDesc)
    (hg : w.heap[b]? = some (.cells cs T z)) (hu : P.underlying t = some d) (hd : (match d with | .struct _ | .array _ _ => true | _ => false) = true) (hi : (P.info? t).map (·.size) = some cs.size) (h : K (a.put o.dst (.agg cs)) w) :
    if Region.wanted o (yielded ops a.tmps) = true then Oper.wp P o a w K Q else E := by
  rw [if_pos (by simp [Region.wanted, hgd])]
  exact wp_load_blk t s ho b hs T cs z d hg hu hd hi h
theorem yields_load_blk {a : Act} {o : Oper} (t : TypeId) (s : Operand) (ho : o.op = .load t s) (b : Nat) (hs : a.eval s = .pointer (some ⟨b, 0, none⟩)) (T : TypeId) (cs : Array Value) (z : Nat × Nat) (d : TypeDesc)
    (hg : w.heap[b]? = some (.cells cs T z)) (hu : P.underlying t = some d) (hd : (match d with | .struct _ | .array _ _ => true | _ => false) = true) (hi : (P.info? t).map (·.size) = some cs.size) : (execOp a.eval o).run P w = .ok (Next.value (.agg cs)) w := by
  have hr := run_loadAt_blk (P := P) (w := w) t b T cs z d hg hu hd hi
  simp [execOp, ho, hs, hr, Result.andThen]
theorem setRow_fr (b : Nat) (cs : Array Value) : Fr (fun q => q = b) w (w.setRow b cs) := by
  refine ⟨rfl, rfl, rfl, by simp [World.setRow], fun i hi hn => ?_⟩
  simp only [World.setRow, Array.getElem?_modify]
  rw [if_neg (fun e => hn e.symm)]
theorem setRow_blk {b : Nat} {old cs : Array Value} {T : TypeId} {z : Nat × Nat} (hg : w.heap[b]? = some (.cells old T z)) : (w.setRow b cs).heap[b]? = some (.cells cs T z) := by
  simp [World.setRow, Array.getElem?_modify, hg]
/-- A struct is written whole. -/
theorem wpList_store_blk {ops : Array Oper} {rest : List Oper} {o : Oper} {a : Act} {Q : Exit → Act → World → Prop} (hgd : o.guard = none) (t : TypeId) (s x : Operand) (ho : o.op = .store t s x) (hdst : o.dst = none) (b : Nat) (hs : a.eval s = .pointer (some ⟨b, 0, none⟩)) (T : TypeId) (old cs : Array Value) (hx : a.eval x = .agg cs)
    (hg : w.heap[b]? = some (.cells old T (0, 0))) (hi : (P.info? t).map (·.size) = some cs.size) (hso : old.size = cs.size) (h1 : cs.all (·.oneCell') = true)
    (h : ∀ w', w'.heap[b]? = some (.cells cs T (0, 0)) → Fr (fun q => q = b) w w' → wpList P ops Q rest a w') : wpList P ops Q (o :: rest) a w := by
  refine wpList_plain hgd fun _ hK => ?_
  have hr := run_storeAt_blk (P := P) (w := w) t b T old cs hg hi hso h1
  have hk := hK _ _ (h _ (setRow_blk hg) (setRow_fr b cs))
  unfold Oper.wp
  simp [execOp, ho, hs, hx, hr, Result.andThen]
  simp [Oper.upon]
  rw [hdst]
  exact hk
theorem wp_store_blk {o : Oper} {a : Act} {K : Act → World → Prop} {Q : Exit → Act → World → Prop} (t : TypeId) (s x : Operand) (ho : o.op = .store t s x) (hdst : o.dst = none) (b : Nat) (hs : a.eval s = .pointer (some ⟨b, 0, none⟩)) (T : TypeId) (old cs : Array Value) (hx : a.eval x = .agg cs)
    (hg : w.heap[b]? = some (.cells old T (0, 0))) (hi : (P.info? t).map (·.size) = some cs.size) (hso : old.size = cs.size) (h1 : cs.all (·.oneCell') = true)
    (h : ∀ w', w'.heap[b]? = some (.cells cs T (0, 0)) → Fr (fun q => q = b) w w' → K a w') : o.wp P a w K Q := by
  have hr := run_storeAt_blk (P := P) (w := w) t b T old cs hg hi hso h1
  have hk := h _ (setRow_blk hg) (setRow_fr b cs)
  unfold Oper.wp
  simp [execOp, ho, hs, hx, hr, Result.andThen]
  simp [Oper.upon]
  rw [hdst]
  exact hk
end
theorem run_cells_blk {P : Program} {w : World} {b : Nat} {T : TypeId} {cs : Array Value} {z : Nat × Nat} (n : Nat) (hn : cs.size = n) (hg : w.heap[b]? = some (.cells cs T z)) : (loadCellsFrom ⟨b, 0, none⟩ 0 n #[]).run P w = .ok cs w := by
  subst hn
  have := run_loadCells_list (P := P) w ⟨b, 0, none⟩ cs.toList (fun j v hv => by
    have hadd : (⟨b, 0, none⟩ : Addr).add j = ⟨b, j, none⟩ := by unfold Addr.add; split <;> simp_all
    rw [hadd, cell_of_row _ _ j cs T z hg]
    simpa using hv)
  simpa [loadCells] using this
end Go.Proofs.YtopjihagpkempaaDoor

namespace Go.Proofs.YtopjihagpkempaaDoor
open Go.RowKit

section
variable {P : Program}
/-- copy of elements of whatever size into a block of one's own. -/
theorem run_copy_rows (w : World) (dT sT ty elem : TypeId) (sz g o dLen dCap : Nat) (a : Addr) (sLen sCap : Nat) (cur : Array Value) (t : TypeId) (cs : List Value)
    (hu : P.underlying dT = some (.slice elem)) (hs : (P.info? elem).map (·.size) = some sz)
    (hg : w.heap[g]? = some (.cells cur t (0, 0))) (hn : cs.length = Nat.min sLen dLen * sz)
    (hsrc : ∀ j v, cs[j]? = some v → w.cell? (a.add j) = some v) (hfit : o + cs.length ≤ cur.size) (h1 : ∀ v ∈ cs, v.oneCell' = true) :
    (Builtin.copy_ #[dT, sT] ty #[.slice (some ⟨g, o, none⟩) dLen dCap, .slice (some a) sLen sCap]).run P w =
      .ok (goInt (Nat.min sLen dLen)) (w.setRow g (cur.toList.take o ++ cs ++ cur.toList.drop (o + cs.length)).toArray) := by
  have hl := run_loadCells_list (P := P) w a cs hsrc
  have hst := run_storeCells_at P g o t cs 0 cur w hg (by simpa using hfit) h1
  cases hq : P.info? elem with
  | none => simp [hq] at hs
  | some i =>
    have hi : i.size = sz := by simpa [hq] using hs
    simp [Builtin.copy_, run_underlying hu, Builtin.lenOf, Builtin.firstCells, sizeOf, typeInfo, hq, hi, ← hn, hl, hst]
end
/-- A list with a piece put over a part of it. -/
def seg {α : Type} (l : List α) (o : Nat) (p : List α) : List α := l.take o ++ p ++ l.drop (o + p.length)
theorem seg_len {α : Type} (l : List α) (o : Nat) (p : List α) (h : o + p.length ≤ l.length) : (seg l o p).length = l.length := by
  unfold seg
  simp
  omega
theorem seg_at {α : Type} (l : List α) (o : Nat) (p : List α) (h : o + p.length ≤ l.length) (j : Nat) : (seg l o p)[j]? = if j < o then l[j]? else if j < o + p.length then p[j - o]? else l[j]? := by
  unfold seg
  have ho : (l.take o).length = o := by rw [List.length_take]; omega
  by_cases h1 : j < o
  · rw [if_pos h1, List.append_assoc, List.getElem?_append_left (by omega), List.getElem?_take, if_pos h1]
  · rw [if_neg h1, List.append_assoc, List.getElem?_append_right (by omega), ho]
    by_cases h2 : j < o + p.length
    · rw [if_pos h2, List.getElem?_append_left (by omega)]
    · rw [if_neg h2, List.getElem?_append_right (by omega), List.getElem?_drop]
      congr 1
      omega
/-- The cells of clusters whose runes lie in rs. -/
def clCells (rs : List Value) (cs : List (List Int × Int)) : Nat → List Value
  | 0 => []
  | k + 1 => clCells rs cs k ++ [rV rs k, .int .i64 (cW cs k)]
theorem clCells_len (rs : List Value) (cs : List (List Int × Int)) : ∀ k, (clCells rs cs k).length = k * 2
  | 0 => rfl
  | k + 1 => by rw [clCells, List.length_append, clCells_len rs cs k]; simp; omega
theorem clCells_at (rs : List Value) (cs : List (List Int × Int)) : ∀ k j, j < k → (clCells rs cs k)[j * 2]? = some (rV rs j) ∧ (clCells rs cs k)[j * 2 + 1]? = some (.int .i64 (cW cs j))
  | 0, j, h => by omega
  | k + 1, j, h => by
    have hl := clCells_len rs cs k
    rw [clCells]
    by_cases e : j = k
    · subst e
      rw [List.getElem?_append_right (by omega), List.getElem?_append_right (by omega), hl]
      simp
    · rw [List.getElem?_append_left (by omega), List.getElem?_append_left (by omega)]
      exact clCells_at rs cs k j (by omega)
/-- A row of runes that reads so whatever is written into block P. -/
def RS (P : Nat) (W : World) (v : Value) (xs : List Int) : Prop := ∀ W', Fr (fun q => q = P) W W' → IntsAt W' .i32 v xs
theorem RS.fr {P : Nat} {W W' : World} {v : Value} {xs : List Int} (h : RS P W v xs) (f : Fr (fun q => q = P) W W') : RS P W' v xs := fun _ f2 => h _ (f.tr f2)
theorem RS.ext {P : Nat} {W W' : World} {v : Value} {xs : List Int} (h : RS P W v xs) (f : Ext W W') : RS P W' v xs := h.fr (Fr.of_ext f)
theorem RS.now {P : Nat} {W : World} {v : Value} {xs : List Int} (h : RS P W v xs) : IntsAt W .i32 v xs := h W (Fr.refl _ _)
/-- A gap buffer of 300 places: what stands in front of the cursor, and behind it. -/
structure GapIn (P : Nat) (W : World) (cl : List Value) (rl rr : List Value) (A B : List (List Int × Int)) : Prop where
  len : cl.length = 600
  fit : A.length + B.length ≤ 300
  na : rl.length = A.length
  nb : rr.length = B.length
  la : ∀ j, j < A.length → cl[j * 2]? = some (rV rl j) ∧ cl[j * 2 + 1]? = some (.int .i64 (cW A j))
  lb : ∀ j, j < B.length → cl[(300 - B.length + j) * 2]? = some (rV rr j) ∧ cl[(300 - B.length + j) * 2 + 1]? = some (.int .i64 (cW B j))
  ra : ∀ j, j < A.length → RS P W (rV rl j) (cR A j)
  rb : ∀ j, j < B.length → RS P W (rV rr j) (cR B j)
  one : ∀ v ∈ cl, v.oneCell' = true
theorem GapIn.fr {P : Nat} {W W' : World} {cl rl rr : List Value} {A B : List (List Int × Int)} (h : GapIn P W cl rl rr A B) (f : Fr (fun q => q = P) W W') : GapIn P W' cl rl rr A B :=
  ⟨h.len, h.fit, h.na, h.nb, h.la, h.lb, fun j hj => (h.ra j hj).fr f, fun j hj => (h.rb j hj).fr f, h.one⟩
/-- The cells of an editor: the places, front and behind, kill, undo. -/
def edC (cl : List Value) (fr bh : Int) (k : ByteArray) (u : Value) : Array Value := (cl ++ [.int .i64 fr, .int .i64 bh, .string k, u]).toArray
theorem edC_at {cl : List Value} {fr bh : Int} {k : ByteArray} {u : Value} (h : cl.length = 600) : (edC cl fr bh k u)[600]? = some (.int .i64 fr) ∧ (edC cl fr bh k u)[601]? = some (.int .i64 bh) ∧ (edC cl fr bh k u)[602]? = some (.string k) ∧ (edC cl fr bh k u)[603]? = some u := by
  unfold edC
  simp [h]
theorem edC_size {cl : List Value} {fr bh : Int} {k : ByteArray} {u : Value} (h : cl.length = 600) : (edC cl fr bh k u).size = 604 := by
  unfold edC
  simp [h]
theorem edC_cl {cl : List Value} {fr bh : Int} {k : ByteArray} {u : Value} (h : cl.length = 600) (j : Nat) (hj : j < 600) : (edC cl fr bh k u)[j]? = cl[j]? := by
  unfold edC
  simp [List.getElem?_append, h, hj]
theorem edC_seg {cl p : List Value} {fr bh : Int} {k : ByteArray} {u : Value} (h : cl.length = 600) (o : Nat) (hp : o + p.length ≤ 600) : ((edC cl fr bh k u).toList.take o ++ p ++ (edC cl fr bh k u).toList.drop (o + p.length)).toArray = edC (seg cl o p) fr bh k u := by
  unfold edC seg
  rw [List.take_append_of_le_length (by omega), List.drop_append_of_le_length (by omega)]
  simp
theorem edC_front {cl : List Value} {fr bh fr' : Int} {k : ByteArray} {u : Value} (h : cl.length = 600) : (edC cl fr bh k u).setIfInBounds 600 (.int .i64 fr') = edC cl fr' bh k u := by
  unfold edC
  simp [h]
theorem edC_behind {cl : List Value} {fr bh bh' : Int} {k : ByteArray} {u : Value} (h : cl.length = 600) : (edC cl fr bh k u).setIfInBounds 601 (.int .i64 bh') = edC cl fr bh' k u := by
  unfold edC
  simp [h]
theorem rV_app (xs ys : List Value) (j : Nat) : rV (xs ++ ys) j = if j < xs.length then rV xs j else rV ys (j - xs.length) := by
  unfold rV
  by_cases h : j < xs.length
  · rw [if_pos h, List.getElem?_append_left h]
  · rw [if_neg h, List.getElem?_append_right (by omega)]
/-- Clusters put in at the cursor. -/
theorem GapIn.insert {P : Nat} {W : World} {cl rl rr rs : List Value} {A B cs : List (List Int × Int)} (h : GapIn P W cl rl rr A B) (hrs : rs.length = cs.length) (hfit : A.length + cs.length + B.length ≤ 300) (hr : ∀ j, j < cs.length → RS P W (rV rs j) (cR cs j)) (h1 : ∀ v ∈ clCells rs cs cs.length, v.oneCell' = true) :
    GapIn P W (seg cl (A.length * 2) (clCells rs cs cs.length)) (rl ++ rs) rr (A ++ cs) B := by
  have hl := h.len
  have hc := clCells_len rs cs cs.length
  have hs : A.length * 2 + (clCells rs cs cs.length).length ≤ cl.length := by omega
  refine ⟨by rw [seg_len _ _ _ hs, hl], by rw [List.length_append]; omega, by rw [List.length_append, List.length_append, h.na, hrs], h.nb, fun j hj => ?_, fun j hj => ?_, fun j hj => ?_, h.rb, fun v hv => ?_⟩
  · rw [List.length_append] at hj
    have e1 := seg_at cl (A.length * 2) (clCells rs cs cs.length) hs (j * 2)
    have e2 := seg_at cl (A.length * 2) (clCells rs cs cs.length) hs (j * 2 + 1)
    by_cases e : j < A.length
    · rw [if_pos (show j * 2 < A.length * 2 by omega)] at e1
      rw [if_pos (show j * 2 + 1 < A.length * 2 by omega)] at e2
      exact ⟨by rw [e1, rV_app, h.na, if_pos e]; exact (h.la j e).1, by rw [e2, cW_app, if_pos e]; exact (h.la j e).2⟩
    · have h2 := clCells_at rs cs cs.length (j - A.length) (by omega)
      rw [if_neg (show ¬ j * 2 < A.length * 2 by omega), if_pos (show j * 2 < A.length * 2 + (clCells rs cs cs.length).length by omega), show j * 2 - A.length * 2 = (j - A.length) * 2 by omega] at e1
      rw [if_neg (show ¬ j * 2 + 1 < A.length * 2 by omega), if_pos (show j * 2 + 1 < A.length * 2 + (clCells rs cs cs.length).length by omega), show j * 2 + 1 - A.length * 2 = (j - A.length) * 2 + 1 by omega] at e2
      exact ⟨by rw [e1, rV_app, h.na, if_neg e]; exact h2.1, by rw [e2, cW_app, if_neg e]; exact h2.2⟩
  · have e1 := seg_at cl (A.length * 2) (clCells rs cs cs.length) hs ((300 - B.length + j) * 2)
    have e2 := seg_at cl (A.length * 2) (clCells rs cs cs.length) hs ((300 - B.length + j) * 2 + 1)
    rw [if_neg (show ¬ (300 - B.length + j) * 2 < A.length * 2 by omega), if_neg (show ¬ (300 - B.length + j) * 2 < A.length * 2 + (clCells rs cs cs.length).length by omega)] at e1
    rw [if_neg (show ¬ (300 - B.length + j) * 2 + 1 < A.length * 2 by omega), if_neg (show ¬ (300 - B.length + j) * 2 + 1 < A.length * 2 + (clCells rs cs cs.length).length by omega)] at e2
    exact ⟨by rw [e1]; exact (h.lb j hj).1, by rw [e2]; exact (h.lb j hj).2⟩
  · rw [List.length_append] at hj
    rw [rV_app, cR_app, h.na]
    by_cases e : j < A.length
    · rw [if_pos e, if_pos e]
      exact h.ra j e
    · rw [if_neg e, if_neg e]
      exact hr _ (by omega)
  · unfold seg at hv
    rcases List.mem_append.1 hv with hv | hv
    · rcases List.mem_append.1 hv with hv | hv
      · exact h.one v (List.mem_of_mem_take hv)
      · exact h1 v hv
    · exact h.one v (List.mem_of_mem_drop hv)
/-- The clusters in front of the cursor, as a slice of the places. -/
theorem GapIn.left {P : Nat} {W : World} {cl rl rr : List Value} {A B : List (List Int × Int)} {fr bh : Int} {k : ByteArray} {u : Value} {T : TypeId} (h : GapIn P W cl rl rr A B) (hP : W.heap[P]? = some (.cells (edC cl fr bh k u) T (0, 0))) (c : Nat) (hc : A.length ≤ c) : ClsAt W (.slice (some ⟨P, 0, none⟩) A.length c) A := by
  refine ⟨rl, _, c, rfl, hc, fun j hj => (h.ra j hj).now, fun _ => ⟨P, 0, rfl, fun j hj => ?_⟩⟩
  have hl := h.len
  have hf := h.fit
  have h1 := h.la j hj
  rw [cell_of_row W P _ _ _ _ hP, cell_of_row W P _ _ _ _ hP, Nat.zero_add, edC_cl hl _ (by omega), edC_cl hl _ (by omega)]
  exact h1
/-- The clusters behind the cursor. -/
theorem GapIn.right {P : Nat} {W : World} {cl rl rr : List Value} {A B : List (List Int × Int)} {fr bh : Int} {k : ByteArray} {u : Value} {T : TypeId} (h : GapIn P W cl rl rr A B) (hP : W.heap[P]? = some (.cells (edC cl fr bh k u) T (0, 0))) (c : Nat) (hc : B.length ≤ c) : ClsAt W (.slice (some ⟨P, (300 - B.length) * 2, none⟩) B.length c) B := by
  refine ⟨rr, _, c, rfl, hc, fun j hj => (h.rb j hj).now, fun _ => ⟨P, (300 - B.length) * 2, rfl, fun j hj => ?_⟩⟩
  have hl := h.len
  have hf := h.fit
  have h1 := h.lb j hj
  rw [cell_of_row W P _ _ _ _ hP, cell_of_row W P _ _ _ _ hP, ← Nat.add_mul, edC_cl hl _ (by omega), edC_cl hl _ (by omega)]
  exact h1
end Go.Proofs.YtopjihagpkempaaDoor
