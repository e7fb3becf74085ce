import Derived.Test.YteabhioifedgeaaGreatDoorTextOf
import Derived.Test.YteabhioifedgeaaGreatDoorImplClean
import Derived.Test.YteabhioifedgeaaGreatDoorClus
import Derived.Test.YteabhioifedgeaaGreatDoorDrawM
import Derived.Test.YteabhioifedgeaaGreatDoorRows12
import Derived.Test.YteabhioifedgeaaGreatDoorWhole
import Derived.Laws.EntriesVeiled
namespace Go.Proofs.YteabhioifedgeaaGreatDoor
open Go.RowKit

theorem cleanR_bd (r : Int) : 0 ≤ cleanR r ∧ cleanR r ≤ 1114111 := by
  unfold cleanR
  split
  · omega
  · exact shownI_bd r
theorem cleanF_all : ∀ (f : Nat) (l : List Int), ∀ x ∈ cleanF f l, 0 ≤ x ∧ x ≤ 1114111
  | 0, l => by simp [cleanF]
  | f + 1, l => by
    intro x hx
    rw [cleanF] at hx
    split at hx
    · simp at hx
    · rcases List.mem_cons.1 hx with rfl | h
      · exact cleanR_bd _
      · exact cleanF_all f _ x h
theorem cleanL_i32 (l : List Int) : I32s (cleanL l) := fun x hx => by
  have := cleanF_all l.length l x hx
  omega
theorem sumR_app (cs : List (List Int × Int)) (c : List Int × Int) : ∀ k, k ≤ cs.length → sumR (cs ++ [c]) k = sumR cs k
  | 0, _ => rfl
  | k + 1, h => by
    rw [sumR, sumR, sumR_app cs c k (by omega), cR_push]
    rw [if_neg (by omega)]
theorem sumR_set (cs : List (List Int × Int)) (c : List Int × Int) (i : Nat) : ∀ k, k ≤ i → sumR (cs.set i c) k = sumR cs k
  | 0, _ => rfl
  | k + 1, h => by
    rw [sumR, sumR, sumR_set cs c i k (by omega)]
    have : cR (cs.set i c) k = cR cs k := by
      unfold cR
      rw [List.getElem?_set_ne (by omega)]
    rw [this]
theorem clF_sum (xs : List Int) : ∀ k, sumR (clF xs k) (clF xs k).length ≤ k + 1
  | 0 => by simp [clF, sumR]
  | k + 1 => by
    have ih := clF_sum xs k
    rw [clF, clStep]
    split
    · rw [List.length_append, show [([shownI (at0 xs k)], wid (shownI (at0 xs k)))].length = 1 from rfl, sumR, sumR_app _ _ _ (Nat.le_refl _), cR_push, if_pos rfl]
      simp; omega
    · split
      · simp [sumR, cR]
      · rename_i h1 h2
        obtain ⟨m, hm⟩ : ∃ m, (clF xs k).length = m + 1 := ⟨(clF xs k).length - 1, by omega⟩
        rw [List.length_set, hm, sumR, show m + 1 - 1 = m by omega, sumR_set _ _ _ _ (Nat.le_refl _), cR_set _ _ _ _ (by omega), if_pos rfl]
        rw [hm, sumR] at ih
        simp; omega
theorem clF_i32 (xs : List Int) : ∀ k j, I32s (cR (clF xs k) j)
  | 0, j => by intro x hx; simp [clF, cR] at hx
  | k + 1, j => by
    have ih := clF_i32 xs k
    have hs := shownI_bd (at0 xs k)
    rw [clF, clStep]
    split
    · rw [cR_push]; split
      · intro x hx; simp at hx; omega
      · exact ih j
    · split
      · rename_i h1 h2
        by_cases hj : j = 0
        · subst hj; intro x hx; simp [cR] at hx; omega
        · intro x hx; simp [cR, List.getElem?_eq_none (show [(([9676, shownI (at0 xs k)] : List Int), (1 : Int))].length ≤ j by simp; omega)] at hx
      · rename_i h1 h2
        rw [cR_set _ _ _ _ (by omega)]
        split
        · intro x hx
          rcases List.mem_append.1 hx with h | h
          · exact ih _ x h
          · simp at h; omega
        · exact ih j
theorem clusC_fit (xs : List Int) (h : xs.length ≤ 8000000) : (clusC xs).length + sumR (clusC xs) (clusC xs).length ≤ 16777216 := by
  have := clF_len xs xs.length
  have := clF_sum xs xs.length
  unfold clusC; omega
/-- The settled text of bytes. -/
def settleL (bs : List Int) : List Int := textC (clusC (cleanL bs))
theorem settleL_len (bs : List Int) : (settleL bs).length ≤ 4 * bs.length + 4 := by
  have h1 := txT_len (clusC (cleanL bs)) (clusC (cleanL bs)).length
  have h2 := clF_sum (cleanL bs) (cleanL bs).length
  have h3 := cleanL_len bs
  unfold settleL textC
  unfold clusC at h1 ⊢
  omega
theorem txR_bytes (xs : List Int) : ∀ k, Bytes (txR xs k)
  | 0 => by intro x hx; simp [txR] at hx
  | k + 1 => by
    intro x hx
    rw [txR] at hx
    rcases List.mem_append.1 hx with h | h
    · exact txR_bytes xs k x h
    · exact encR_bytes _ x h
theorem txT_bytes (cs : List (List Int × Int)) : ∀ k, Bytes (txT cs k)
  | 0 => by intro x hx; simp [txT] at hx
  | k + 1 => by
    intro x hx
    rw [txT] at hx
    rcases List.mem_append.1 hx with h | h
    · exact txT_bytes cs k x h
    · exact txR_bytes _ _ x h
theorem settleL_bytes (bs : List Int) : Bytes (settleL bs) := txT_bytes _ _

theorem run_s2i {P : Program} (w : World) (src dst e : TypeId) (hs : P.underlying src = some .string) (hd : P.underlying dst = some (.slice e)) (he : P.underlying e = some (.int .u8)) (zs : List Int) (hz : Bytes zs) :
    ∃ v W', (convert src dst (.string (toBA zs))).run P w = .ok v W' ∧ IntsAt W' .u8 v zs ∧ Ext w W' := by
  have hr := run_bytes_of_string (P := P) w src dst e (toBA zs) hs hd he
  rw [toBA_size] at hr
  obtain ⟨cap, W', h1, h2, h3, h4⟩ := run_s2b (P := P) w src dst e hs hd he zs hz
  have h5 := h1
  rw [hr] at h5
  injection h5 with h6 h7
  injection h6 with h8 h9 h10
  refine ⟨_, _, h1, ⟨_, _, rfl, ?_, fun hp => ⟨_, _, rfl, fun j hj => ?_⟩⟩, h2⟩
  · rw [← h10]; exact grownCap_ge w zs.length 0 e
  · have h11 := h4 j (.int .u8 (at0 zs j)) (by simp [at0_lt hj])
    rw [Addr.add_lit] at h11
    exact h11

set_option maxRecDepth 10000 in
set_option maxHeartbeats 1000000 in
theorem specSettle_any (bs : List Int) (hb : Bytes bs) (w : World) (hl : bs.length ≤ 8000000) :
    Calls Tryz.prog 197 #[.string (toBA bs)] w fun e w' => e = .returned (.string (toBA (settleL bs))) ∧ Ext w w' := by
  obtain ⟨v0, w0, hrun, h0, E0⟩ := run_s2i (P := Tryz.prog) w _ _ _ Tryz.underlying9 Tryz.underlying22 Tryz.underlying5 bs hb
  have hcl := cleanL_len bs
  have H0 := hide h0
  go_enter Tryz.func197, Tryz.ntmps197
  go_wp2_with fail
  refine (specClean_any bs hb v0 w0 (unhide H0) (by omega)).mono ?_
  rintro e w1 ⟨v1, rfl, o1, E1⟩
  go_wp2_with fail
  refine (specClusters_any v1 (cleanL bs) w1 (ints_of_owns o1) (cleanL_i32 bs) (by omega)).mono ?_
  rintro e w2 ⟨v2, rs2, rfl, o2, E2⟩
  have O2 := hide o2
  clear o1 o2
  go_wp2_with fail
  refine (specTextOf_any v2 (clusC (cleanL bs)) w2 (unhide O2).cls (clusC_fit _ (by omega)) (fun j _ => clF_i32 _ _ j)).mono ?_
  rintro e w3 ⟨rfl, E3⟩
  go_wp2
  go_ret
  exact ⟨rfl, ((E0.trans E1).trans E2).trans E3⟩
end Go.Proofs.YteabhioifedgeaaGreatDoor

namespace Go.Proofs.YteabhioifedgeaaGreatDoor
open Go.RowKit

theorem toBA_ne {xs ys : List Int} (hx : Bytes xs) (hy : Bytes ys) (h : xs ≠ ys) : ((toBA xs).toList == (toBA ys).toList) = false := by
  rw [beq_eq_false_iff_ne, toList_data, toList_data]
  intro e
  exact h (toBA_inj hx hy (WideShapes.bytes_inj e))
set_option maxRecDepth 10000 in
set_option maxHeartbeats 400000 in
theorem l4Count_any (bs : List Int) (hb : Bytes bs) (w : World) (hl : bs.length ≤ 8000000) :
    Calls Tryz.prog 174 #[.string (toBA bs)] w fun e w' => e = .returned (.int .i64 ((cleanL bs).length : Int)) ∧ Ext w w' := by
  obtain ⟨v0, w0, hrun, h0, E0⟩ := run_s2i (P := Tryz.prog) w _ _ _ Tryz.underlying9 Tryz.underlying22 Tryz.underlying5 bs hb
  have H0 := hide h0
  clear h0
  go_enter Tryz.func174, Tryz.ntmps174
  go_wp2_with fail
  refine (specClean_any bs hb v0 w0 (unhide H0) (by omega)).mono ?_
  rintro e w1 ⟨v1, rfl, o1, F1⟩
  obtain ⟨ao, cap, hv1, _, _⟩ := ints_of_owns o1
  subst hv1
  clear o1
  go_wp2
  go_ret
  exact ⟨rfl, E0.trans F1⟩
set_option maxRecDepth 10000 in
set_option maxHeartbeats 1000000 in
theorem l4TextOk_any (bs : List Int) (hb : Bytes bs) (w : World) (hl : bs.length ≤ 4194304) (ok : Bool) (hok : ok = true ↔ (bs.length ≤ 1200 ∧ (cleanL bs).length ≤ 300 ∧ settleL bs = bs)) :
    Calls Tryz.prog 195 #[.string (toBA bs), .int .i64 300] w fun e w' => e = .returned (.bool ok) ∧ Ext w w' := by
  have hsz := toBA_size bs
  have HOK := hide hok
  clear hok
  by_cases h1 : bs.length ≤ 1200
  · have h1I : (bs.length : Int) ≤ 1200 := by omega
    go_enter Tryz.func195, Tryz.ntmps195
    go_wp2_with fail
    refine (l4Count_any bs hb w (by omega)).mono ?_
    rintro e w1 ⟨rfl, F1⟩
    by_cases h2 : (cleanL bs).length ≤ 300
    · have h2I : ((cleanL bs).length : Int) ≤ 300 := by omega
      go_wp2_with fail
      refine (specSettle_any bs hb w1 (by omega)).mono ?_
      rintro e w2 ⟨rfl, F2⟩
      by_cases h3 : settleL bs = bs
      · have ht : ok = true := (unhide HOK).2 ⟨h1, h2, h3⟩
        subst ht
        rw [h3]
        go_wp2
        go_ret
        exact ⟨rfl, F1.trans F2⟩
      · have hf : ok = false := by
          cases ok
          · rfl
          · exact absurd ((unhide HOK).1 rfl).2.2 h3
        subst hf
        have hneb := toBA_ne (settleL_bytes bs) hb h3
        go_wp2
        go_ret
        exact ⟨rfl, F1.trans F2⟩
    · have h2I : ¬ ((cleanL bs).length : Int) ≤ 300 := by omega
      have hf : ok = false := by
        cases ok
        · rfl
        · exact absurd ((unhide HOK).1 rfl).2.1 h2
      subst hf
      go_wp2
      go_ret
      exact ⟨rfl, F1⟩
  · have h1I : ¬ (bs.length : Int) ≤ 1200 := by omega
    have hf : ok = false := by
      cases ok
      · rfl
      · exact absurd ((unhide HOK).1 rfl).1 h1
    subst hf
    go_enter Tryz.func195, Tryz.ntmps195
    go_wp2
    go_ret
    exact ⟨rfl, Ext.refl _⟩
end Go.Proofs.YteabhioifedgeaaGreatDoor

namespace Go.Proofs.YteabhioifedgeaaGreatDoor
open Go.RowKit

set_option maxRecDepth 10000 in
set_option maxHeartbeats 1000000 in
theorem indexFunc_clo (v : Value) (n : Nat) (tx : Nat → ByteArray) (p : Nat → Bool) (q : Addr) (w : World) (hv : Row1At w v n (fun j => .string (tx j))) (hn : n ≤ 1099511627776)
    (hp : ∀ j, j < n → ∀ W, Ext w W → Calls Tryz.prog 276 #[.string (tx j), .pointer (some q)] W fun e W' => e = .returned (.bool (p j)) ∧ Ext W W') :
    Calls Tryz.prog 249 #[v, .func (.func 276) #[] #[.pointer (some q)]] w fun e w' => ∃ r : Int, e = .returned (.int .i64 r) ∧ (0 ≤ r ↔ ∃ j, j < n ∧ p j = true) ∧ Ext w w' := by
  obtain ⟨ao, ca, rfl, hca, hxa⟩ := hv
  have HX := hide hxa
  have HP := hide hp
  clear hxa hp
  go_enter Tryz.func249, Tryz.ntmps249
  go_wp2
  go_loopw [8] (fun i wr => ∃ k : Nat, k ≤ n ∧ i = .int .i64 k ∧ Hid (∀ j, j < k → p j = false) ∧ Ext w wr) (fun i _ => n - (intOf i).toNat)
  case atStart => exact ⟨0, Nat.zero_le _, rfl, hide (fun j hj => by omega), Ext.refl _⟩
  case round =>
    obtain ⟨k, hk, rfl, HJ, hext⟩ := hrel
    by_cases hlt : k < n
    · obtain ⟨b, off, hao, hc⟩ := (unhide HX) (by omega)
      subst hao
      have g1 := hext.cell (hc k hlt)
      have bk : (k : Int) < (n : Int) := by omega
      have hcon := hide ((unhide HP) k hlt wr hext)
      clear hc
      go_wp2_with fail
      refine (unhide hcon).mono ?_
      rintro e w2 ⟨rfl, F2⟩
      cases hb : p k with
      | true =>
        have hfin : Hid ((0 : Int) ≤ (k : Int) ↔ ∃ j, j < n ∧ p j = true) := hide ⟨fun _ => ⟨k, hlt, hb⟩, fun _ => by omega⟩
        go_wp2
        go_ret
        exact ⟨_, rfl, unhide hfin, hext.trans F2⟩
      | false =>
        have HJ2 : Hid (∀ j, j < k + 1 → p j = false) := hide (fun j hj => by
          by_cases e : j = k
          · subst e; exact hb
          · exact (unhide HJ) j (by omega))
        have hE := hext.trans F2
        go_wp2
        go_roundw
        case rel => exact ⟨k + 1, by omega, by go_num, HJ2, hE⟩
        case measure => simp [intOf]; omega
    · obtain rfl : k = n := by omega
      have hfin : Hid ((0 : Int) ≤ -1 ↔ ∃ j, j < k ∧ p j = true) := hide ⟨fun h => by omega, fun ⟨j, h1, h2⟩ => by rw [(unhide HJ) j h1] at h2; cases h2⟩
      go_wp2
      go_ret
      exact ⟨_, rfl, unhide hfin, hext⟩
set_option maxRecDepth 10000 in
set_option maxHeartbeats 1000000 in
theorem containsFunc_clo (v : Value) (n : Nat) (tx : Nat → ByteArray) (p : Nat → Bool) (q : Addr) (w : World) (hv : Row1At w v n (fun j => .string (tx j))) (hn : n ≤ 1099511627776)
    (hp : ∀ j, j < n → ∀ W, Ext w W → Calls Tryz.prog 276 #[.string (tx j), .pointer (some q)] W fun e W' => e = .returned (.bool (p j)) ∧ Ext W W') (ok : Bool) (hok : ok = true ↔ ∃ j, j < n ∧ p j = true) :
    Calls Tryz.prog 205 #[v, .func (.func 276) #[] #[.pointer (some q)]] w fun e w' => e = .returned (.bool ok) ∧ Ext w w' := by
  have hcon := hide (indexFunc_clo v n tx p q w hv hn hp)
  obtain ⟨ao, ca, rfl, hca, hxa⟩ := hv
  have HK := hide hok
  clear hxa hp hok
  go_enter Tryz.func205, Tryz.ntmps205
  go_wp2_with fail
  refine (unhide hcon).mono ?_
  rintro e w1 ⟨r, rfl, hr, F1⟩
  have hfin : Hid (decide ((0 : Int) ≤ r) = ok) := hide (by rw [Bool.eq_iff_iff, decide_eq_true_iff, hr, ← unhide HK])
  clear hr
  go_wp2
  go_ret
  exact ⟨ret_bool (unhide hfin), F1⟩
set_option maxRecDepth 10000 in
set_option maxHeartbeats 1000000 in
theorem indexFunc_spc (v : Value) (n : Nat) (tx : Nat → ByteArray) (p : Nat → Bool) (w : World) (hv : Row1At w v n (fun j => .string (tx j))) (hn : n ≤ 1099511627776)
    (hp : ∀ j, j < n → ∀ W, Ext w W → Calls Tryz.prog 206 #[.string (tx j)] W fun e W' => e = .returned (.bool (p j)) ∧ Ext W W') :
    Calls Tryz.prog 249 #[v, .func (.func 206) #[] #[]] w fun e w' => ∃ r : Int, e = .returned (.int .i64 r) ∧ (0 ≤ r ↔ ∃ j, j < n ∧ p j = true) ∧ Ext w w' := by
  obtain ⟨ao, ca, rfl, hca, hxa⟩ := hv
  have HX := hide hxa
  have HP := hide hp
  clear hxa hp
  go_enter Tryz.func249, Tryz.ntmps249
  go_wp2
  go_loopw [8] (fun i wr => ∃ k : Nat, k ≤ n ∧ i = .int .i64 k ∧ Hid (∀ j, j < k → p j = false) ∧ Ext w wr) (fun i _ => n - (intOf i).toNat)
  case atStart => exact ⟨0, Nat.zero_le _, rfl, hide (fun j hj => by omega), Ext.refl _⟩
  case round =>
    obtain ⟨k, hk, rfl, HJ, hext⟩ := hrel
    by_cases hlt : k < n
    · obtain ⟨b, off, hao, hc⟩ := (unhide HX) (by omega)
      subst hao
      have g1 := hext.cell (hc k hlt)
      have bk : (k : Int) < (n : Int) := by omega
      have hcon := hide ((unhide HP) k hlt wr hext)
      clear hc
      go_wp2_with fail
      refine (unhide hcon).mono ?_
      rintro e w2 ⟨rfl, F2⟩
      cases hb : p k with
      | true =>
        have hfin : Hid ((0 : Int) ≤ (k : Int) ↔ ∃ j, j < n ∧ p j = true) := hide ⟨fun _ => ⟨k, hlt, hb⟩, fun _ => by omega⟩
        go_wp2
        go_ret
        exact ⟨_, rfl, unhide hfin, hext.trans F2⟩
      | false =>
        have HJ2 : Hid (∀ j, j < k + 1 → p j = false) := hide (fun j hj => by
          by_cases e : j = k
          · subst e; exact hb
          · exact (unhide HJ) j (by omega))
        have hE := hext.trans F2
        go_wp2
        go_roundw
        case rel => exact ⟨k + 1, by omega, by go_num, HJ2, hE⟩
        case measure => simp [intOf]; omega
    · obtain rfl : k = n := by omega
      have hfin : Hid ((0 : Int) ≤ -1 ↔ ∃ j, j < k ∧ p j = true) := hide ⟨fun h => by omega, fun ⟨j, h1, h2⟩ => by rw [(unhide HJ) j h1] at h2; cases h2⟩
      go_wp2
      go_ret
      exact ⟨_, rfl, unhide hfin, hext⟩
set_option maxRecDepth 10000 in
set_option maxHeartbeats 1000000 in
theorem containsFunc_spc (v : Value) (n : Nat) (tx : Nat → ByteArray) (p : Nat → Bool) (w : World) (hv : Row1At w v n (fun j => .string (tx j))) (hn : n ≤ 1099511627776)
    (hp : ∀ j, j < n → ∀ W, Ext w W → Calls Tryz.prog 206 #[.string (tx j)] W fun e W' => e = .returned (.bool (p j)) ∧ Ext W W') (ok : Bool) (hok : ok = true ↔ ∃ j, j < n ∧ p j = true) :
    Calls Tryz.prog 205 #[v, .func (.func 206) #[] #[]] w fun e w' => e = .returned (.bool ok) ∧ Ext w w' := by
  have hcon := hide (indexFunc_spc v n tx p w hv hn hp)
  obtain ⟨ao, ca, rfl, hca, hxa⟩ := hv
  have HK := hide hok
  clear hxa hp hok
  go_enter Tryz.func205, Tryz.ntmps205
  go_wp2_with fail
  refine (unhide hcon).mono ?_
  rintro e w1 ⟨r, rfl, hr, F1⟩
  have hfin : Hid (decide ((0 : Int) ≤ r) = ok) := hide (by rw [Bool.eq_iff_iff, decide_eq_true_iff, hr, ← unhide HK])
  clear hr
  go_wp2
  go_ret
  exact ⟨ret_bool (unhide hfin), F1⟩
end Go.Proofs.YteabhioifedgeaaGreatDoor
