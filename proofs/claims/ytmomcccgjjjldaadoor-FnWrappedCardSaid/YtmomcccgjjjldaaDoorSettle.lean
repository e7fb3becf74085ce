import Derived.Test.YtmomcccgjjjldaaDoorTextOf
import Derived.Test.YtmomcccgjjjldaaDoorSpecClean
import Derived.Test.YtmomcccgjjjldaaDoorImplClean
import Derived.Test.YtmomcccgjjjldaaDoorClus
namespace Go.Proofs.YtmomcccgjjjldaaDoor
open Go.RowKit
theorem cleanR_bd (r : Int) : 0 ≤ cleanR r ∧ cleanR r ≤ 1114111 := by
  unfold cleanR
  split
  · omega
  · exact shownI_bd r
theorem cleanF_all : ∀ (f : Nat) (l : List Int), ∀ x ∈ cleanF f l, 0 ≤ x ∧ x ≤ 1114111
  | 0, l => by simp [cleanF]
  | f + 1, l => by
    intro x hx
    rw [cleanF] at hx
    split at hx
    · simp at hx
    · rcases List.mem_cons.1 hx with rfl | h
      · exact cleanR_bd _
      · exact cleanF_all f _ x h
theorem cleanL_i32 (l : List Int) : I32s (cleanL l) := fun x hx => by
  have := cleanF_all l.length l x hx
  omega
theorem sumR_app (cs : List (List Int × Int)) (c : List Int × Int) : ∀ k, k ≤ cs.length → sumR (cs ++ [c]) k = sumR cs k
  | 0, _ => rfl
  | k + 1, h => by
    rw [sumR, sumR, sumR_app cs c k (by omega), cR_push]
    rw [if_neg (by omega)]
theorem sumR_set (cs : List (List Int × Int)) (c : List Int × Int) (i : Nat) : ∀ k, k ≤ i → sumR (cs.set i c) k = sumR cs k
  | 0, _ => rfl
  | k + 1, h => by
    rw [sumR, sumR, sumR_set cs c i k (by omega)]
    have : cR (cs.set i c) k = cR cs k := by
      unfold cR
      rw [List.getElem?_set_ne (by omega)]
    rw [this]
theorem clF_sum (xs : List Int) : ∀ k, sumR (clF xs k) (clF xs k).length ≤ k + 1
  | 0 => by simp [clF, sumR]
  | k + 1 => by
    have ih := clF_sum xs k
    rw [clF, clStep]
    split
    · rw [List.length_append, show [([shownI (at0 xs k)], wid (shownI (at0 xs k)))].length = 1 from rfl, sumR, sumR_app _ _ _ (Nat.le_refl _), cR_push, if_pos rfl]
      simp; omega
    · split
      · simp [sumR, cR]
      · rename_i h1 h2
        obtain ⟨m, hm⟩ : ∃ m, (clF xs k).length = m + 1 := ⟨(clF xs k).length - 1, by omega⟩
        rw [List.length_set, hm, sumR, show m + 1 - 1 = m by omega, sumR_set _ _ _ _ (Nat.le_refl _), cR_set _ _ _ _ (by omega), if_pos rfl]
        rw [hm, sumR] at ih
        simp; omega
theorem clF_i32 (xs : List Int) : ∀ k j, I32s (cR (clF xs k) j)
  | 0, j => by intro x hx; simp [clF, cR] at hx
  | k + 1, j => by
    have ih := clF_i32 xs k
    have hs := shownI_bd (at0 xs k)
    rw [clF, clStep]
    split
    · rw [cR_push]; split
      · intro x hx; simp at hx; omega
      · exact ih j
    · split
      · rename_i h1 h2
        by_cases hj : j = 0
        · subst hj; intro x hx; simp [cR] at hx; omega
        · intro x hx; simp [cR, List.getElem?_eq_none (show [(([9676, shownI (at0 xs k)] : List Int), (1 : Int))].length ≤ j by simp; omega)] at hx
      · rename_i h1 h2
        rw [cR_set _ _ _ _ (by omega)]
        split
        · intro x hx
          rcases List.mem_append.1 hx with h | h
          · exact ih _ x h
          · simp at h; omega
        · exact ih j
theorem clusC_fit (xs : List Int) (h : xs.length ≤ 8000000) : (clusC xs).length + sumR (clusC xs) (clusC xs).length ≤ 16777216 := by
  have := clF_len xs xs.length
  have := clF_sum xs xs.length
  unfold clusC; omega
def settleL (bs : List Int) : List Int := textC (clusC (cleanL bs))
theorem settleL_len (bs : List Int) : (settleL bs).length ≤ 4 * bs.length + 4 := by
  have h1 := txT_len (clusC (cleanL bs)) (clusC (cleanL bs)).length
  have h2 := clF_sum (cleanL bs) (cleanL bs).length
  have h3 := cleanL_len bs
  unfold settleL textC
  unfold clusC at h1 ⊢
  omega
theorem txR_bytes (xs : List Int) : ∀ k, Bytes (txR xs k)
  | 0 => by intro x hx; simp [txR] at hx
  | k + 1 => by
    intro x hx
    rw [txR] at hx
    rcases List.mem_append.1 hx with h | h
    · exact txR_bytes xs k x h
    · exact encR_bytes _ x h
theorem txT_bytes (cs : List (List Int × Int)) : ∀ k, Bytes (txT cs k)
  | 0 => by intro x hx; simp [txT] at hx
  | k + 1 => by
    intro x hx
    rw [txT] at hx
    rcases List.mem_append.1 hx with h | h
    · exact txT_bytes cs k x h
    · exact txR_bytes _ _ x h
theorem settleL_bytes (bs : List Int) : Bytes (settleL bs) := txT_bytes _ _
theorem run_s2i {P : Program} (w : World) (src dst e : TypeId) (hs : P.underlying src = some .string) (hd : P.underlying dst = some (.slice e)) (he : P.underlying e = some (.int .u8)) (zs : List Int) (hz : Bytes zs) :
    ∃ v W', (convert src dst (.string (toBA zs))).run P w = .ok v W' ∧ IntsAt W' .u8 v zs ∧ Ext w W' := by
  have hr := run_bytes_of_string (P := P) w src dst e (toBA zs) hs hd he
  rw [toBA_size] at hr
  obtain ⟨cap, W', h1, h2, h3, h4⟩ := run_s2b (P := P) w src dst e hs hd he zs hz
  have h5 := h1
  rw [hr] at h5
  injection h5 with h6 h7
  injection h6 with h8 h9 h10
  refine ⟨_, _, h1, ⟨_, _, rfl, ?_, fun hp => ⟨_, _, rfl, fun j hj => ?_⟩⟩, h2⟩
  · rw [← h10]; exact grownCap_ge w zs.length 0 e
  · have h11 := h4 j (.int .u8 (at0 zs j)) (by simp [at0_lt hj])
    rw [Addr.add_lit] at h11
    exact h11
set_option maxRecDepth 10000 in
set_option maxHeartbeats 1000000 in
theorem specSettle_any (bs : List Int) (hb : Bytes bs) (w : World) (hl : bs.length ≤ 8000000) :
    Calls Tryd.prog 5 #[.string (toBA bs)] w fun e w' => e = .returned (.string (toBA (settleL bs))) ∧ Ext w w' := by
  obtain ⟨v0, w0, hrun, h0, E0⟩ := run_s2i (P := Tryd.prog) w _ _ _ Tryd.underlying9 Tryd.underlying22 Tryd.underlying5 bs hb
  have hcl := cleanL_len bs
  have H0 := hide h0
  go_enter Tryd.func5, Tryd.ntmps5
  go_wp2_with fail
  refine (specClean_any bs hb v0 w0 (unhide H0) (by omega)).mono ?_
  rintro e w1 ⟨v1, rfl, o1, E1⟩
  go_wp2_with fail
  refine (specClusters_any v1 (cleanL bs) w1 (ints_of_owns o1) (cleanL_i32 bs) (by omega)).mono ?_
  rintro e w2 ⟨v2, rs2, rfl, o2, E2⟩
  have O2 := hide o2
  clear o1 o2
  go_wp2_with fail
  refine (specTextOf_any v2 (clusC (cleanL bs)) w2 (unhide O2).cls (clusC_fit _ (by omega)) (fun j _ => clF_i32 _ _ j)).mono ?_
  rintro e w3 ⟨rfl, E3⟩
  go_wp2
  go_ret
  exact ⟨rfl, ((E0.trans E1).trans E2).trans E3⟩
set_option maxRecDepth 10000 in
set_option maxHeartbeats 1000000 in
theorem implSettle_any (bs : List Int) (hb : Bytes bs) (w : World) (hl : bs.length ≤ 8000000) (hT : Laid w) :
    Calls Tryd.prog 6 #[.string (toBA bs)] w fun e w' => e = .returned (.string (toBA (settleL bs))) ∧ Ext w w' := by
  obtain ⟨v0, w0, hrun, h0, E0⟩ := run_s2i (P := Tryd.prog) w _ _ _ Tryd.underlying9 Tryd.underlying22 Tryd.underlying5 bs hb
  have hcl := cleanL_len bs
  have H0 := hide h0
  have HT := hide hT
  go_enter Tryd.func6, Tryd.ntmps6
  go_wp2_with fail
  refine (implClean_any bs hb v0 w0 (unhide H0) (by omega)).mono ?_
  rintro e w1 ⟨v1, rfl, o1, E1⟩
  have T1 := hide ((unhide HT).below (E0.trans E1).below)
  go_wp2_with fail
  refine (implClusters_any v1 (cleanL bs) w1 (ints_of_owns o1) (cleanL_i32 bs) (by omega) (unhide T1)).mono ?_
  rintro e w2 ⟨v2, rs2, rfl, o2, E2⟩
  have O2 := hide o2
  clear o1 o2
  go_wp2_with fail
  refine (implTextOf_any v2 (clusC (cleanL bs)) w2 (unhide O2).cls (clusC_fit _ (by omega)) (fun j _ => clF_i32 _ _ j)).mono ?_
  rintro e w3 ⟨rfl, E3⟩
  go_wp2
  go_ret
  exact ⟨rfl, ((E0.trans E1).trans E2).trans E3⟩
end Go.Proofs.YtmomcccgjjjldaaDoor
