import Derived.Test.YtgdadidppelgdaaGreatDoorSpecRune2
import Derived.Test.YtgdadidppelgdaaGreatDoorImplClean
import Derived.Test.YtgdadidppelgdaaGreatDoorClus
import Derived.Test.YtgdadidppelgdaaGreatDoorDrawM
import Derived.Test.YtgdadidppelgdaaGreatDoorWhole
import Derived.Laws.EntriesVeiled
import Derived.Lib.ValidLaws
namespace Go.Proofs.YtgdadidppelgdaaGreatDoor
open Go.RowKit

theorem cleanR_bd (r : Int) : 0 ≤ cleanR r ∧ cleanR r ≤ 1114111 := by
  unfold cleanR
  split
  · omega
  · exact shownI_bd r
theorem cleanF_all : ∀ (f : Nat) (l : List Int), ∀ x ∈ cleanF f l, 0 ≤ x ∧ x ≤ 1114111
  | 0, l => by simp [cleanF]
  | f + 1, l => by
    intro x hx
    rw [cleanF] at hx
    split at hx
    · simp at hx
    · rcases List.mem_cons.1 hx with rfl | h
      · exact cleanR_bd _
      · exact cleanF_all f _ x h
theorem cleanL_i32 (l : List Int) : I32s (cleanL l) := fun x hx => by
  have := cleanF_all l.length l x hx
  omega
theorem sumR_app (cs : List (List Int × Int)) (c : List Int × Int) : ∀ k, k ≤ cs.length → sumR (cs ++ [c]) k = sumR cs k
  | 0, _ => rfl
  | k + 1, h => by
    rw [sumR, sumR, sumR_app cs c k (by omega), cR_push]
    rw [if_neg (by omega)]
theorem sumR_set (cs : List (List Int × Int)) (c : List Int × Int) (i : Nat) : ∀ k, k ≤ i → sumR (cs.set i c) k = sumR cs k
  | 0, _ => rfl
  | k + 1, h => by
    rw [sumR, sumR, sumR_set cs c i k (by omega)]
    have : cR (cs.set i c) k = cR cs k := by
      unfold cR
      rw [List.getElem?_set_ne (by omega)]
    rw [this]
theorem clF_sum (xs : List Int) : ∀ k, sumR (clF xs k) (clF xs k).length ≤ k + 1
  | 0 => by simp [clF, sumR]
  | k + 1 => by
    have ih := clF_sum xs k
    rw [clF, clStep]
    split
    · rw [List.length_append, show [([shownI (at0 xs k)], wid (shownI (at0 xs k)))].length = 1 from rfl, sumR, sumR_app _ _ _ (Nat.le_refl _), cR_push, if_pos rfl]
      simp; omega
    · split
      · simp [sumR, cR]
      · rename_i h1 h2
        obtain ⟨m, hm⟩ : ∃ m, (clF xs k).length = m + 1 := ⟨(clF xs k).length - 1, by omega⟩
        rw [List.length_set, hm, sumR, show m + 1 - 1 = m by omega, sumR_set _ _ _ _ (Nat.le_refl _), cR_set _ _ _ _ (by omega), if_pos rfl]
        rw [hm, sumR] at ih
        simp; omega
theorem clF_i32 (xs : List Int) : ∀ k j, I32s (cR (clF xs k) j)
  | 0, j => by intro x hx; simp [clF, cR] at hx
  | k + 1, j => by
    have ih := clF_i32 xs k
    have hs := shownI_bd (at0 xs k)
    rw [clF, clStep]
    split
    · rw [cR_push]; split
      · intro x hx; simp at hx; omega
      · exact ih j
    · split
      · rename_i h1 h2
        by_cases hj : j = 0
        · subst hj; intro x hx; simp [cR] at hx; omega
        · intro x hx; simp [cR, List.getElem?_eq_none (show [(([9676, shownI (at0 xs k)] : List Int), (1 : Int))].length ≤ j by simp; omega)] at hx
      · rename_i h1 h2
        rw [cR_set _ _ _ _ (by omega)]
        split
        · intro x hx
          rcases List.mem_append.1 hx with h | h
          · exact ih _ x h
          · simp at h; omega
        · exact ih j
theorem clusC_fit (xs : List Int) (h : xs.length ≤ 8000000) : (clusC xs).length + sumR (clusC xs) (clusC xs).length ≤ 16777216 := by
  have := clF_len xs xs.length
  have := clF_sum xs xs.length
  unfold clusC; omega
/-- The settled text of bytes. -/
def settleL (bs : List Int) : List Int := textC (clusC (cleanL bs))
theorem settleL_len (bs : List Int) : (settleL bs).length ≤ 4 * bs.length + 4 := by
  have h1 := txT_len (clusC (cleanL bs)) (clusC (cleanL bs)).length
  have h2 := clF_sum (cleanL bs) (cleanL bs).length
  have h3 := cleanL_len bs
  unfold settleL textC
  unfold clusC at h1 ⊢
  omega
theorem txR_bytes (xs : List Int) : ∀ k, Bytes (txR xs k)
  | 0 => by intro x hx; simp [txR] at hx
  | k + 1 => by
    intro x hx
    rw [txR] at hx
    rcases List.mem_append.1 hx with h | h
    · exact txR_bytes xs k x h
    · exact encR_bytes _ x h
theorem txT_bytes (cs : List (List Int × Int)) : ∀ k, Bytes (txT cs k)
  | 0 => by intro x hx; simp [txT] at hx
  | k + 1 => by
    intro x hx
    rw [txT] at hx
    rcases List.mem_append.1 hx with h | h
    · exact txT_bytes cs k x h
    · exact txR_bytes _ _ x h
theorem settleL_bytes (bs : List Int) : Bytes (settleL bs) := txT_bytes _ _

theorem run_s2i {P : Program} (w : World) (src dst e : TypeId) (hs : P.underlying src = some .string) (hd : P.underlying dst = some (.slice e)) (he : P.underlying e = some (.int .u8)) (zs : List Int) (hz : Bytes zs) :
    ∃ v W', (convert src dst (.string (toBA zs))).run P w = .ok v W' ∧ IntsAt W' .u8 v zs ∧ Ext w W' := by
  have hr := run_bytes_of_string (P := P) w src dst e (toBA zs) hs hd he
  rw [toBA_size] at hr
  obtain ⟨cap, W', h1, h2, h3, h4⟩ := run_s2b (P := P) w src dst e hs hd he zs hz
  have h5 := h1
  rw [hr] at h5
  injection h5 with h6 h7
  injection h6 with h8 h9 h10
  refine ⟨_, _, h1, ⟨_, _, rfl, ?_, fun hp => ⟨_, _, rfl, fun j hj => ?_⟩⟩, h2⟩
  · rw [← h10]; exact grownCap_ge w zs.length 0 e
  · have h11 := h4 j (.int .u8 (at0 zs j)) (by simp [at0_lt hj])
    rw [Addr.add_lit] at h11
    exact h11

set_option maxRecDepth 10000 in
set_option maxHeartbeats 1000000 in
theorem specSettle_any (bs : List Int) (hb : Bytes bs) (w : World) (hl : bs.length ≤ 8000000) :
    Calls Tryz.prog 58 #[.string (toBA bs)] w fun e w' => e = .returned (.string (toBA (settleL bs))) ∧ Ext w w' := by
  obtain ⟨v0, w0, hrun, h0, E0⟩ := run_s2i (P := Tryz.prog) w _ _ _ Tryz.underlying9 Tryz.underlying25 Tryz.underlying5 bs hb
  have hcl := cleanL_len bs
  have H0 := hide h0
  go_enter Tryz.func58, Tryz.ntmps58
  go_wp2_with fail
  refine (specClean_any bs hb v0 w0 (unhide H0) (by omega)).mono ?_
  rintro e w1 ⟨v1, rfl, o1, E1⟩
  go_wp2_with fail
  refine (specClusters_any v1 (cleanL bs) w1 (ints_of_owns o1) (cleanL_i32 bs) (by omega)).mono ?_
  rintro e w2 ⟨v2, rs2, rfl, o2, E2⟩
  have O2 := hide o2
  clear o1 o2
  go_wp2_with fail
  refine (specTextOf_any v2 (clusC (cleanL bs)) w2 (unhide O2).cls (clusC_fit _ (by omega)) (fun j _ => clF_i32 _ _ j)).mono ?_
  rintro e w3 ⟨rfl, E3⟩
  go_wp2
  go_ret
  exact ⟨rfl, ((E0.trans E1).trans E2).trans E3⟩
set_option maxRecDepth 10000 in
set_option maxHeartbeats 1000000 in
theorem implSettle_any (bs : List Int) (hb : Bytes bs) (w : World) (hl : bs.length ≤ 8000000) (hT : Laid w) :
    Calls Tryz.prog 112 #[.string (toBA bs)] w fun e w' => e = .returned (.string (toBA (settleL bs))) ∧ Ext w w' := by
  obtain ⟨v0, w0, hrun, h0, E0⟩ := run_s2i (P := Tryz.prog) w _ _ _ Tryz.underlying9 Tryz.underlying25 Tryz.underlying5 bs hb
  have hcl := cleanL_len bs
  have H0 := hide h0
  have HT := hide hT
  go_enter Tryz.func112, Tryz.ntmps112
  go_wp2_with fail
  refine (implClean_any bs hb v0 w0 (unhide H0) (by omega)).mono ?_
  rintro e w1 ⟨v1, rfl, o1, E1⟩
  have T1 := hide ((unhide HT).below (E0.trans E1).below)
  go_wp2_with fail
  refine (implClusters_any v1 (cleanL bs) w1 (ints_of_owns o1) (cleanL_i32 bs) (by omega) (unhide T1)).mono ?_
  rintro e w2 ⟨v2, rs2, rfl, o2, E2⟩
  have O2 := hide o2
  clear o1 o2
  go_wp2_with fail
  refine (implTextOf_any v2 (clusC (cleanL bs)) w2 (unhide O2).cls (clusC_fit _ (by omega)) (fun j _ => clF_i32 _ _ j)).mono ?_
  rintro e w3 ⟨rfl, E3⟩
  go_wp2
  go_ret
  exact ⟨rfl, ((E0.trans E1).trans E2).trans E3⟩
end Go.Proofs.YtgdadidppelgdaaGreatDoor

namespace Go.Proofs.YtgdadidppelgdaaGreatDoor
open Go.RowKit

theorem toBA_ne {xs ys : List Int} (hx : Bytes xs) (hy : Bytes ys) (h : xs ≠ ys) : ((toBA xs).toList == (toBA ys).toList) = false := by
  rw [beq_eq_false_iff_ne, toList_data, toList_data]
  intro e
  exact h (toBA_inj hx hy (WideShapes.bytes_inj e))
set_option maxRecDepth 10000 in
set_option maxHeartbeats 400000 in
theorem l4Count_any (bs : List Int) (hb : Bytes bs) (w : World) (hl : bs.length ≤ 8000000) :
    Calls Tryz.prog 86 #[.string (toBA bs)] w fun e w' => e = .returned (.int .i64 ((cleanL bs).length : Int)) ∧ Ext w w' := by
  obtain ⟨v0, w0, hrun, h0, E0⟩ := run_s2i (P := Tryz.prog) w _ _ _ Tryz.underlying9 Tryz.underlying25 Tryz.underlying5 bs hb
  have H0 := hide h0
  clear h0
  go_enter Tryz.func86, Tryz.ntmps86
  go_wp2_with fail
  refine (specClean_any bs hb v0 w0 (unhide H0) (by omega)).mono ?_
  rintro e w1 ⟨v1, rfl, o1, F1⟩
  obtain ⟨ao, cap, hv1, _, _⟩ := ints_of_owns o1
  subst hv1
  clear o1
  go_wp2
  go_ret
  exact ⟨rfl, E0.trans F1⟩
set_option maxRecDepth 10000 in
set_option maxHeartbeats 1000000 in
theorem l4TextOk_any (bs : List Int) (hb : Bytes bs) (w : World) (hl : bs.length ≤ 4194304) (ok : Bool) (hok : ok = true ↔ (bs.length ≤ 1200 ∧ (cleanL bs).length ≤ 300 ∧ settleL bs = bs)) :
    Calls Tryz.prog 55 #[.string (toBA bs), .int .i64 300] w fun e w' => e = .returned (.bool ok) ∧ Ext w w' := by
  have hsz := toBA_size bs
  have HOK := hide hok
  clear hok
  by_cases h1 : bs.length ≤ 1200
  · have h1I : (bs.length : Int) ≤ 1200 := by omega
    go_enter Tryz.func55, Tryz.ntmps55
    go_wp2_with fail
    refine (l4Count_any bs hb w (by omega)).mono ?_
    rintro e w1 ⟨rfl, F1⟩
    by_cases h2 : (cleanL bs).length ≤ 300
    · have h2I : ((cleanL bs).length : Int) ≤ 300 := by omega
      go_wp2_with fail
      refine (specSettle_any bs hb w1 (by omega)).mono ?_
      rintro e w2 ⟨rfl, F2⟩
      by_cases h3 : settleL bs = bs
      · have ht : ok = true := (unhide HOK).2 ⟨h1, h2, h3⟩
        subst ht
        rw [h3]
        go_wp2
        go_ret
        exact ⟨rfl, F1.trans F2⟩
      · have hf : ok = false := by
          cases ok
          · rfl
          · exact absurd ((unhide HOK).1 rfl).2.2 h3
        subst hf
        have hneb := toBA_ne (settleL_bytes bs) hb h3
        go_wp2
        go_ret
        exact ⟨rfl, F1.trans F2⟩
    · have h2I : ¬ ((cleanL bs).length : Int) ≤ 300 := by omega
      have hf : ok = false := by
        cases ok
        · rfl
        · exact absurd ((unhide HOK).1 rfl).2.1 h2
      subst hf
      go_wp2
      go_ret
      exact ⟨rfl, F1⟩
  · have h1I : ¬ (bs.length : Int) ≤ 1200 := by omega
    have hf : ok = false := by
      cases ok
      · rfl
      · exact absurd ((unhide HOK).1 rfl).1 h1
    subst hf
    go_enter Tryz.func55, Tryz.ntmps55
    go_wp2
    go_ret
    exact ⟨rfl, Ext.refl _⟩
end Go.Proofs.YtgdadidppelgdaaGreatDoor

namespace Go.Proofs.YtgdadidppelgdaaGreatDoor
open Go.RowKit

set_option maxRecDepth 10000 in
set_option maxHeartbeats 1000000 in
theorem indexFunc_clo (v : Value) (n : Nat) (tx : Nat → ByteArray) (p : Nat → Bool) (q : Addr) (w : World) (hv : Row1At w v n (fun j => .string (tx j))) (hn : n ≤ 1099511627776)
    (hp : ∀ j, j < n → ∀ W, Ext w W → Calls Tryz.prog 186 #[.string (tx j), .pointer (some q)] W fun e W' => e = .returned (.bool (p j)) ∧ Ext W W') :
    Calls Tryz.prog 163 #[v, .func (.func 186) #[] #[.pointer (some q)]] w fun e w' => ∃ r : Int, e = .returned (.int .i64 r) ∧ (0 ≤ r ↔ ∃ j, j < n ∧ p j = true) ∧ Ext w w' := by
  obtain ⟨ao, ca, rfl, hca, hxa⟩ := hv
  have HX := hide hxa
  have HP := hide hp
  clear hxa hp
  go_enter Tryz.func163, Tryz.ntmps163
  go_wp2
  go_loopw [8] (fun i wr => ∃ k : Nat, k ≤ n ∧ i = .int .i64 k ∧ Hid (∀ j, j < k → p j = false) ∧ Ext w wr) (fun i _ => n - (intOf i).toNat)
  case atStart => exact ⟨0, Nat.zero_le _, rfl, hide (fun j hj => by omega), Ext.refl _⟩
  case round =>
    obtain ⟨k, hk, rfl, HJ, hext⟩ := hrel
    by_cases hlt : k < n
    · obtain ⟨b, off, hao, hc⟩ := (unhide HX) (by omega)
      subst hao
      have g1 := hext.cell (hc k hlt)
      have bk : (k : Int) < (n : Int) := by omega
      have hcon := hide ((unhide HP) k hlt wr hext)
      clear hc
      go_wp2_with fail
      refine (unhide hcon).mono ?_
      rintro e w2 ⟨rfl, F2⟩
      cases hb : p k with
      | true =>
        have hfin : Hid ((0 : Int) ≤ (k : Int) ↔ ∃ j, j < n ∧ p j = true) := hide ⟨fun _ => ⟨k, hlt, hb⟩, fun _ => by omega⟩
        go_wp2
        go_ret
        exact ⟨_, rfl, unhide hfin, hext.trans F2⟩
      | false =>
        have HJ2 : Hid (∀ j, j < k + 1 → p j = false) := hide (fun j hj => by
          by_cases e : j = k
          · subst e; exact hb
          · exact (unhide HJ) j (by omega))
        have hE := hext.trans F2
        go_wp2
        go_roundw
        case rel => exact ⟨k + 1, by omega, by go_num, HJ2, hE⟩
        case measure => simp [intOf]; omega
    · obtain rfl : k = n := by omega
      have hfin : Hid ((0 : Int) ≤ -1 ↔ ∃ j, j < k ∧ p j = true) := hide ⟨fun h => by omega, fun ⟨j, h1, h2⟩ => by rw [(unhide HJ) j h1] at h2; cases h2⟩
      go_wp2
      go_ret
      exact ⟨_, rfl, unhide hfin, hext⟩
set_option maxRecDepth 10000 in
set_option maxHeartbeats 1000000 in
theorem containsFunc_clo (v : Value) (n : Nat) (tx : Nat → ByteArray) (p : Nat → Bool) (q : Addr) (w : World) (hv : Row1At w v n (fun j => .string (tx j))) (hn : n ≤ 1099511627776)
    (hp : ∀ j, j < n → ∀ W, Ext w W → Calls Tryz.prog 186 #[.string (tx j), .pointer (some q)] W fun e W' => e = .returned (.bool (p j)) ∧ Ext W W') (ok : Bool) (hok : ok = true ↔ ∃ j, j < n ∧ p j = true) :
    Calls Tryz.prog 124 #[v, .func (.func 186) #[] #[.pointer (some q)]] w fun e w' => e = .returned (.bool ok) ∧ Ext w w' := by
  have hcon := hide (indexFunc_clo v n tx p q w hv hn hp)
  obtain ⟨ao, ca, rfl, hca, hxa⟩ := hv
  have HK := hide hok
  clear hxa hp hok
  go_enter Tryz.func124, Tryz.ntmps124
  go_wp2_with fail
  refine (unhide hcon).mono ?_
  rintro e w1 ⟨r, rfl, hr, F1⟩
  have hfin : Hid (decide ((0 : Int) ≤ r) = ok) := hide (by rw [Bool.eq_iff_iff, decide_eq_true_iff, hr, ← unhide HK])
  clear hr
  go_wp2
  go_ret
  exact ⟨ret_bool (unhide hfin), F1⟩
set_option maxRecDepth 10000 in
set_option maxHeartbeats 1000000 in
theorem indexFunc_spc (v : Value) (n : Nat) (tx : Nat → ByteArray) (p : Nat → Bool) (w : World) (hv : Row1At w v n (fun j => .string (tx j))) (hn : n ≤ 1099511627776)
    (hp : ∀ j, j < n → ∀ W, Ext w W → Calls Tryz.prog 125 #[.string (tx j)] W fun e W' => e = .returned (.bool (p j)) ∧ Ext W W') :
    Calls Tryz.prog 163 #[v, .func (.func 125) #[] #[]] w fun e w' => ∃ r : Int, e = .returned (.int .i64 r) ∧ (0 ≤ r ↔ ∃ j, j < n ∧ p j = true) ∧ Ext w w' := by
  obtain ⟨ao, ca, rfl, hca, hxa⟩ := hv
  have HX := hide hxa
  have HP := hide hp
  clear hxa hp
  go_enter Tryz.func163, Tryz.ntmps163
  go_wp2
  go_loopw [8] (fun i wr => ∃ k : Nat, k ≤ n ∧ i = .int .i64 k ∧ Hid (∀ j, j < k → p j = false) ∧ Ext w wr) (fun i _ => n - (intOf i).toNat)
  case atStart => exact ⟨0, Nat.zero_le _, rfl, hide (fun j hj => by omega), Ext.refl _⟩
  case round =>
    obtain ⟨k, hk, rfl, HJ, hext⟩ := hrel
    by_cases hlt : k < n
    · obtain ⟨b, off, hao, hc⟩ := (unhide HX) (by omega)
      subst hao
      have g1 := hext.cell (hc k hlt)
      have bk : (k : Int) < (n : Int) := by omega
      have hcon := hide ((unhide HP) k hlt wr hext)
      clear hc
      go_wp2_with fail
      refine (unhide hcon).mono ?_
      rintro e w2 ⟨rfl, F2⟩
      cases hb : p k with
      | true =>
        have hfin : Hid ((0 : Int) ≤ (k : Int) ↔ ∃ j, j < n ∧ p j = true) := hide ⟨fun _ => ⟨k, hlt, hb⟩, fun _ => by omega⟩
        go_wp2
        go_ret
        exact ⟨_, rfl, unhide hfin, hext.trans F2⟩
      | false =>
        have HJ2 : Hid (∀ j, j < k + 1 → p j = false) := hide (fun j hj => by
          by_cases e : j = k
          · subst e; exact hb
          · exact (unhide HJ) j (by omega))
        have hE := hext.trans F2
        go_wp2
        go_roundw
        case rel => exact ⟨k + 1, by omega, by go_num, HJ2, hE⟩
        case measure => simp [intOf]; omega
    · obtain rfl : k = n := by omega
      have hfin : Hid ((0 : Int) ≤ -1 ↔ ∃ j, j < k ∧ p j = true) := hide ⟨fun h => by omega, fun ⟨j, h1, h2⟩ => by rw [(unhide HJ) j h1] at h2; cases h2⟩
      go_wp2
      go_ret
      exact ⟨_, rfl, unhide hfin, hext⟩
set_option maxRecDepth 10000 in
set_option maxHeartbeats 1000000 in
theorem containsFunc_spc (v : Value) (n : Nat) (tx : Nat → ByteArray) (p : Nat → Bool) (w : World) (hv : Row1At w v n (fun j => .string (tx j))) (hn : n ≤ 1099511627776)
    (hp : ∀ j, j < n → ∀ W, Ext w W → Calls Tryz.prog 125 #[.string (tx j)] W fun e W' => e = .returned (.bool (p j)) ∧ Ext W W') (ok : Bool) (hok : ok = true ↔ ∃ j, j < n ∧ p j = true) :
    Calls Tryz.prog 124 #[v, .func (.func 125) #[] #[]] w fun e w' => e = .returned (.bool ok) ∧ Ext w w' := by
  have hcon := hide (indexFunc_spc v n tx p w hv hn hp)
  obtain ⟨ao, ca, rfl, hca, hxa⟩ := hv
  have HK := hide hok
  clear hxa hp hok
  go_enter Tryz.func124, Tryz.ntmps124
  go_wp2_with fail
  refine (unhide hcon).mono ?_
  rintro e w1 ⟨r, rfl, hr, F1⟩
  have hfin : Hid (decide ((0 : Int) ≤ r) = ok) := hide (by rw [Bool.eq_iff_iff, decide_eq_true_iff, hr, ← unhide HK])
  clear hr
  go_wp2
  go_ret
  exact ⟨ret_bool (unhide hfin), F1⟩
end Go.Proofs.YtgdadidppelgdaaGreatDoor

namespace Go.Proofs.YtgdadidppelgdaaGreatDoor
open Go.RowKit

theorem valid_or {r : Int} (h : Utf8.valid r = true) : (0 ≤ r ∧ r ≤ 127) ∨ (128 ≤ r ∧ r ≤ 2047) ∨ ((2048 ≤ r ∧ r < 55296) ∨ (57343 < r ∧ r ≤ 65535)) ∨ (65536 ≤ r ∧ r ≤ 1114111) := by
  have hb := valid_bd h
  by_cases hs : 55296 ≤ r ∧ r ≤ 57343
  · exfalso
    unfold Utf8.valid at h
    simp at h
    omega
  · omega
theorem dec_enc (r : Int) (h : Utf8.valid r = true) (rest : List Int) : decL (encR r ++ rest) = (r, (encR r).length) := by
  rcases valid_or h with h1 | h1 | h1 | h1
  · rw [encR_one h1.1 h1.2]
    have a0 : at0 ([r] ++ rest) 0 = r := by simp [at0]
    unfold decL
    simp only [a0]
    rw [if_pos (by omega)]
    rfl
  · rw [encR_two h1.1 h1.2]
    obtain ⟨l, hl⟩ : ∃ l, l = [192 + r / 64, 128 + r % 64] ++ rest := ⟨_, rfl⟩
    have a0 : at0 l 0 = 192 + r / 64 := by rw [hl]; simp [at0]
    have a1 : at0 l 1 = 128 + r % 64 := by rw [hl]; simp [at0]
    have c1 : cont l 1 = true := by unfold cont; rw [a1, hl]; simp; omega
    have hv : v2 l = r := by unfold v2; rw [a0, a1]; omega
    rw [← hl]
    unfold decL
    rw [if_neg (by omega), if_pos ⟨by omega, c1⟩, hv, if_pos (by omega)]
    rfl
  · rw [encR_three h1]
    obtain ⟨l, hl⟩ : ∃ l, l = [224 + r / 4096, 128 + r / 64 % 64, 128 + r % 64] ++ rest := ⟨_, rfl⟩
    have a0 : at0 l 0 = 224 + r / 4096 := by rw [hl]; simp [at0]
    have a1 : at0 l 1 = 128 + r / 64 % 64 := by rw [hl]; simp [at0]
    have a2 : at0 l 2 = 128 + r % 64 := by rw [hl]; simp [at0]
    have c1 : cont l 1 = true := by unfold cont; rw [a1, hl]; simp; omega
    have c2 : cont l 2 = true := by unfold cont; rw [a2, hl]; simp; omega
    have hv : v3 l = r := by unfold v3; rw [a0, a1, a2]; omega
    rw [← hl]
    unfold decL
    rw [if_neg (by omega), if_neg (by omega), if_pos ⟨by omega, c1, c2⟩, hv, if_pos ⟨by omega, h⟩]
    rfl
  · rw [encR_four h1.1 h1.2]
    obtain ⟨l, hl⟩ : ∃ l, l = [240 + r / 262144, 128 + r / 4096 % 64, 128 + r / 64 % 64, 128 + r % 64] ++ rest := ⟨_, rfl⟩
    have a0 : at0 l 0 = 240 + r / 262144 := by rw [hl]; simp [at0]
    have a1 : at0 l 1 = 128 + r / 4096 % 64 := by rw [hl]; simp [at0]
    have a2 : at0 l 2 = 128 + r / 64 % 64 := by rw [hl]; simp [at0]
    have a3 : at0 l 3 = 128 + r % 64 := by rw [hl]; simp [at0]
    have c1 : cont l 1 = true := by unfold cont; rw [a1, hl]; simp; omega
    have c2 : cont l 2 = true := by unfold cont; rw [a2, hl]; simp; omega
    have c3 : cont l 3 = true := by unfold cont; rw [a3, hl]; simp; omega
    have hv : v4 l = r := by unfold v4; rw [a0, a1, a2, a3]; omega
    rw [← hl]
    unfold decL
    rw [if_neg (by omega), if_neg (by omega), if_neg (by omega), if_pos ⟨by omega, c1, c2, c3⟩, hv, if_pos ⟨by omega, h⟩]
    rfl
/-- A rune that Clean may give. -/
def CleanR (r : Int) : Prop := Utf8.valid r = true ∧ 32 ≤ r ∧ ¬ (127 ≤ r ∧ r ≤ 159)
theorem CleanR.shown {r : Int} (h : CleanR r) : shownI r = r := by
  unfold shownI
  rw [if_neg]
  rintro (h1 | h1 | h1)
  · rw [h.1] at h1; cases h1
  · have := h.2.1; omega
  · exact h.2.2 h1
theorem CleanR.clean {r : Int} (h : CleanR r) : cleanR r = r := by
  unfold cleanR
  rw [if_neg (by have := h.2.1; omega), h.shown]
theorem cleanR_shown (r : Int) : CleanR (shownI r) := by
  unfold shownI
  split
  · exact ⟨by decide, by omega, by omega⟩
  · rename_i h
    refine ⟨?_, by omega, by omega⟩
    cases hv : Utf8.valid r
    · exact absurd (.inl hv) h
    · rfl
theorem cleanR_clean (r : Int) : CleanR (cleanR r) := by
  unfold cleanR
  split
  · exact ⟨by decide, by omega, by omega⟩
  · exact cleanR_shown r
theorem cleanF_mem : ∀ (f : Nat) (l : List Int), ∀ x ∈ cleanF f l, CleanR x
  | 0, l => by simp [cleanF]
  | f + 1, l => by
    intro x hx
    rw [cleanF] at hx
    split at hx
    · simp at hx
    · rcases List.mem_cons.1 hx with rfl | h
      · exact cleanR_clean _
      · exact cleanF_mem f _ x h
theorem cleanL_mem (l : List Int) : ∀ x ∈ cleanL l, CleanR x := cleanF_mem _ _
/-- The bytes of runes. -/
def encA : List Int → List Int
  | [] => []
  | x :: xs => encR x ++ encA xs
theorem encA_app (xs ys : List Int) : encA (xs ++ ys) = encA xs ++ encA ys := by
  induction xs with
  | nil => rfl
  | cons x xs ih => simp [encA, ih]
theorem encR_pos (r : Int) : 0 < (encR r).length := by
  unfold encR encL
  split
  · repeat' split
    all_goals simp
  · simp
theorem clean_enc : ∀ (xs : List Int), (∀ x ∈ xs, CleanR x) → cleanL (encA xs) = xs
  | [], _ => cleanL_nil _ rfl
  | x :: xs, h => by
    have hx := h x (by simp)
    have hp := encR_pos x
    rw [encA, cleanL_step _ (by simp; omega), dec_enc x hx.1]
    simp only
    rw [hx.clean, List.drop_left, clean_enc xs (fun y hy => h y (by simp [hy]))]
/-- All runes of clusters. -/
def flat : List (List Int × Int) → List Int
  | [] => []
  | c :: cs => c.1 ++ flat cs
theorem flat_app (xs ys : List (List Int × Int)) : flat (xs ++ ys) = flat xs ++ flat ys := by
  induction xs with
  | nil => rfl
  | cons x xs ih => simp [flat, ih]
theorem txR_all (xs : List Int) : ∀ k, k ≤ xs.length → txR xs k = encA (xs.take k)
  | 0, _ => by simp [txR, encA]
  | k + 1, h => by
    rw [txR, txR_all xs k (by omega), List.take_succ_eq_append_getElem (by omega), encA_app]
    simp [encA, at0, show k < xs.length by omega]
theorem txT_all (cs : List (List Int × Int)) : ∀ k, k ≤ cs.length → txT cs k = encA (flat (cs.take k))
  | 0, _ => by simp [txT, flat, encA]
  | k + 1, h => by
    rw [txT, txT_all cs k (by omega), List.take_succ_eq_append_getElem (by omega), flat_app, encA_app, txR_all _ _ (Nat.le_refl _), List.take_length]
    simp [flat, cR, show k < cs.length by omega]
theorem textC_flat (cs : List (List Int × Int)) : textC cs = encA (flat cs) := by
  rw [textC, txT_all cs cs.length (Nat.le_refl _), List.take_length]
theorem flat_set (cs : List (List Int × Int)) (x d : Int) (h : 0 < cs.length) : flat (cs.set (cs.length - 1) (cR cs (cs.length - 1) ++ [x], d)) = flat cs ++ [x] := by
  obtain ⟨ys, y, rfl⟩ : ∃ ys y, cs = ys ++ [y] := ⟨cs.dropLast, cs.getLast (by intro e; simp [e] at h), (List.dropLast_concat_getLast _).symm⟩
  have : (ys ++ [y]).length - 1 = ys.length := by simp
  rw [this, List.set_append_right _ _ (Nat.le_refl _), Nat.sub_self]
  simp [flat_app, flat, cR]
/-- With U+25CC in front where the first has no width. -/
def fl (xs : List Int) : List Int := if xs = [] then [] else if 0 < wid (at0 xs 0) then xs else 9676 :: xs
theorem clF_flat (xs : List Int) : ∀ k, k ≤ xs.length → (clF xs k).length = 0 ∧ k = 0 ∨ 0 < (clF xs k).length ∧ 0 < k ∧ flat (clF xs k) = fl ((xs.take k).map shownI)
  | 0, _ => .inl ⟨rfl, rfl⟩
  | k + 1, h => by
    right
    have hk : k < xs.length := by omega
    have ht : (xs.take (k + 1)).map shownI = (xs.take k).map shownI ++ [shownI (at0 xs k)] := by
      rw [List.take_succ_eq_append_getElem hk, List.map_append]
      simp [at0, hk]
    rcases clF_flat xs k (by omega) with ⟨h1, h2⟩ | ⟨h1, h2, h3⟩
    · subst h2
      rw [clF, clStep]
      have e0 : clF xs 0 = [] := rfl
      rw [ht, e0]
      by_cases hw : 0 < wid (shownI (at0 xs 0))
      · rw [if_pos hw]
        simp [flat, fl, at0] at hw ⊢
        exact hw
      · rw [if_neg hw]
        simp [flat, fl, at0] at hw ⊢
        exact hw
    · have hf : ∀ y, fl ((xs.take k).map shownI ++ [y]) = fl ((xs.take k).map shownI) ++ [y] := by
        intro y
        have hne : (xs.take k).map shownI ≠ [] := by
          intro e
          have h9 := congrArg List.length e
          rw [List.length_map, List.length_take, List.length_nil] at h9
          omega
        have ha : at0 ((xs.take k).map shownI ++ [y]) 0 = at0 ((xs.take k).map shownI) 0 := by
          unfold at0
          rw [List.getElem?_append_left (by simp; omega)]
        unfold fl
        rw [if_neg (by simp), if_neg hne, ha]
        split <;> simp
      rw [clF, clStep, ht, hf]
      by_cases hw : 0 < wid (shownI (at0 xs k))
      · rw [if_pos hw]
        refine ⟨by simp, by omega, ?_⟩
        rw [flat_app, h3]
        simp [flat]
      · rw [if_neg hw, if_neg (by omega)]
        refine ⟨by simpa using h1, by omega, ?_⟩
        rw [flat_set _ _ _ h1, h3]
theorem clus_flat (xs : List Int) (h : ∀ x ∈ xs, CleanR x) : flat (clusC xs) = fl xs := by
  have hm : xs.map shownI = xs := by
    conv => rhs; rw [← List.map_id xs]
    exact List.map_congr_left fun x hx => (h x hx).shown
  unfold clusC
  rcases clF_flat xs xs.length (Nat.le_refl _) with ⟨h1, h2⟩ | ⟨_, _, h3⟩
  · have e : xs = [] := List.eq_nil_of_length_eq_zero h2
    subst e
    rfl
  · rw [h3, List.take_length, hm]
theorem fl_clean (xs : List Int) (h : ∀ x ∈ xs, CleanR x) : ∀ x ∈ fl xs, CleanR x := by
  unfold fl
  split
  · simp
  · split
    · exact h
    · intro x hx
      rcases List.mem_cons.1 hx with rfl | hx
      · exact ⟨by decide, by omega, by omega⟩
      · exact h x hx
theorem fl_fl (xs : List Int) : fl (fl xs) = fl xs := by
  by_cases h : xs = []
  · subst h; rfl
  · by_cases hw : 0 < wid (at0 xs 0)
    · have : fl xs = xs := by unfold fl; rw [if_neg h, if_pos hw]
      rw [this, this]
    · have : fl xs = 9676 :: xs := by unfold fl; rw [if_neg h, if_neg hw]
      rw [this]
      conv => lhs; unfold fl
      rw [if_neg (by simp), if_pos (by show 0 < wid 9676; decide)]
theorem settleL_enc (bs : List Int) : settleL bs = encA (fl (cleanL bs)) := by
  rw [settleL, textC_flat, clus_flat _ (cleanL_mem bs)]
theorem settle_twice (bs : List Int) : settleL (settleL bs) = settleL bs := by
  rw [settleL_enc (settleL bs), settleL_enc bs, clean_enc _ (fl_clean _ (cleanL_mem bs)), fl_fl]
end Go.Proofs.YtgdadidppelgdaaGreatDoor

namespace Go.Proofs.YtgdadidppelgdaaGreatDoor
open Go.RowKit

/-- The runes of bytes as 'range' gives them. -/
def runesF : Nat → List Int → List Int
  | 0, _ => []
  | f + 1, l => if l.length = 0 then [] else (decL l).1 :: runesF f (l.drop (decL l).2)
def runesL (l : List Int) : List Int := runesF l.length l
theorem runesF_fuel : ∀ (f g : Nat) (l : List Int), l.length ≤ f → l.length ≤ g → runesF f l = runesF g l
  | 0, 0, _, _, _ => rfl
  | 0, g + 1, l, h, _ => by simp [runesF]; exact List.eq_nil_of_length_eq_zero (by omega)
  | f + 1, 0, l, _, h => by simp [runesF]; exact List.eq_nil_of_length_eq_zero (by omega)
  | f + 1, g + 1, l, h1, h2 => by
    simp only [runesF]
    split
    · rfl
    · have hp := decL_pos l
      rw [runesF_fuel f g _ (by simp; omega) (by simp; omega)]
theorem runesL_step (l : List Int) (h : 0 < l.length) : runesL l = (decL l).1 :: runesL (l.drop (decL l).2) := by
  unfold runesL
  obtain ⟨m, hm⟩ : ∃ m, l.length = m + 1 := ⟨l.length - 1, by omega⟩
  have hp := decL_pos l
  rw [hm]
  simp only [runesF]
  rw [if_neg (by omega), runesF_fuel m _ _ (by simp; omega) (Nat.le_refl _)]
theorem clean_runes (l : List Int) : cleanL l = (runesL l).map cleanR := by
  have : ∀ f (l : List Int), cleanF f l = (runesF f l).map cleanR := by
    intro f
    induction f with
    | zero => intro l; rfl
    | succ f ih =>
      intro l
      simp only [cleanF, runesF]
      split
      · rfl
      · rw [ih]; rfl
  exact this _ _
theorem runes_enc : ∀ (xs : List Int), (∀ x ∈ xs, Utf8.valid x = true) → runesL (encA xs) = xs
  | [], _ => rfl
  | x :: xs, h => by
    have hp := encR_pos x
    rw [encA, runesL_step _ (by simp; omega), dec_enc x (h x (by simp))]
    simp only
    rw [List.drop_left, runes_enc xs (fun y hy => h y (by simp [hy]))]
/-- Bytes that are their runes' UTF-8. -/
def ValidL (l : List Int) : Prop := encA (runesL l) = l
/-- What 'settled' looks for. -/
theorem settled_iff (l : List Int) : settleL l = l ↔ (∀ r ∈ runesL l, shownI r = r) ∧ (runesL l ≠ [] → 0 < wid (at0 (runesL l) 0)) ∧ ValidL l := by
  constructor
  · intro h
    have hc := fl_clean _ (cleanL_mem l)
    have he : runesL l = fl (cleanL l) := by
      have := runes_enc (fl (cleanL l)) (fun x hx => (hc x hx).1)
      rw [← settleL_enc, h] at this
      exact this
    refine ⟨fun r hr => ?_, fun hne => ?_, ?_⟩
    · rw [he] at hr
      exact (hc r hr).shown
    · rw [he] at hne ⊢
      unfold fl at hne ⊢
      split
      · rename_i e; rw [if_pos e] at hne; exact absurd rfl hne
      · split
        · assumption
        · show 0 < wid 9676
          decide
    · unfold ValidL
      rw [he, ← settleL_enc, h]
  · rintro ⟨h1, h2, h3⟩
    have hm : cleanL l = runesL l := by
      rw [clean_runes]
      conv => rhs; rw [← List.map_id (runesL l)]
      refine List.map_congr_left fun r hr => ?_
      have := h1 r hr
      unfold cleanR
      split
      · rename_i e
        subst e
        exact absurd this (by decide)
      · exact this
    rw [settleL_enc, hm]
    have hf : fl (runesL l) = runesL l := by
      unfold fl
      split
      · rename_i e; exact e.symm
      · rename_i e
        rw [if_pos (h2 e)]
    rw [hf]
    exact h3
end Go.Proofs.YtgdadidppelgdaaGreatDoor

namespace Go.Proofs.YtgdadidppelgdaaGreatDoor
open Go.RowKit

theorem split2 {bs : List Int} (h : 1 < bs.length) : bs = at0 bs 0 :: at0 bs 1 :: bs.drop 2 := by
  match bs, h with
  | a :: b :: r, _ => rfl
theorem split3 {bs : List Int} (h : 2 < bs.length) : bs = at0 bs 0 :: at0 bs 1 :: at0 bs 2 :: bs.drop 3 := by
  match bs, h with
  | a :: b :: c :: r, _ => rfl
theorem split4 {bs : List Int} (h : 3 < bs.length) : bs = at0 bs 0 :: at0 bs 1 :: at0 bs 2 :: at0 bs 3 :: bs.drop 4 := by
  match bs, h with
  | a :: b :: c :: d :: r, _ => rfl
theorem cont_bd {l : List Int} {k : Nat} (h : cont l k = true) : k < l.length ∧ 128 ≤ at0 l k ∧ at0 l k ≤ 191 := by
  unfold cont at h
  simp at h
  exact ⟨h.1.1, h.1.2, h.2⟩
/-- What was decoded, and is no mark of an error, encodes to the bytes that it was decoded from. -/
theorem enc_dec (bs : List Int) (hb : Bytes bs) (h0 : 0 < bs.length) (hv : ¬ ((decL bs).1 = 65533 ∧ (decL bs).2 = 1)) : encR (decL bs).1 ++ bs.drop (decL bs).2 = bs := by
  have b0 := hb.at0 0
  unfold decL at hv ⊢
  by_cases h1 : at0 bs 0 < 128
  · rw [if_pos h1]
    have hval : Utf8.valid (at0 bs 0) = true := by unfold Utf8.valid; simp; omega
    show encR (at0 bs 0) ++ bs.drop 1 = bs
    rw [encR, if_pos hval, encL, if_pos (by omega)]
    match bs, h0 with
    | a :: r, _ => rfl
  rw [if_neg h1] at hv ⊢
  by_cases h2 : (192 ≤ at0 bs 0 ∧ at0 bs 0 < 224) ∧ cont bs 1 = true
  · rw [if_pos h2] at hv ⊢
    obtain ⟨hl, k1, k2⟩ := cont_bd h2.2
    by_cases h3 : 128 ≤ v2 bs
    · rw [if_pos h3]
      show encR (v2 bs) ++ bs.drop 2 = bs
      have hval : Utf8.valid (v2 bs) = true := by unfold v2 at h3 ⊢; unfold Utf8.valid; simp; omega
      rw [encR, if_pos hval]
      conv => rhs; rw [split2 hl]
      have e : encL (v2 bs) = [at0 bs 0, at0 bs 1] := by
        unfold encL v2 at *
        rw [if_neg (by omega), if_pos (by omega)]
        have : (at0 bs 0 % 32 * 64 + at0 bs 1 - 128) / 64 = at0 bs 0 - 192 := by omega
        have : (at0 bs 0 % 32 * 64 + at0 bs 1 - 128) % 64 = at0 bs 1 - 128 := by omega
        simp
        omega
      rw [e]; rfl
    · rw [if_neg h3] at hv
      exact absurd ⟨rfl, rfl⟩ hv
  rw [if_neg h2] at hv ⊢
  by_cases h4 : (224 ≤ at0 bs 0 ∧ at0 bs 0 < 240) ∧ cont bs 1 = true ∧ cont bs 2 = true
  · rw [if_pos h4] at hv ⊢
    obtain ⟨_, k1, k2⟩ := cont_bd h4.2.1
    obtain ⟨hl, k3, k4⟩ := cont_bd h4.2.2
    by_cases h3 : 2048 ≤ v3 bs ∧ Utf8.valid (v3 bs) = true
    · rw [if_pos h3]
      show encR (v3 bs) ++ bs.drop 3 = bs
      rw [encR, if_pos h3.2]
      conv => rhs; rw [split3 hl]
      have e : encL (v3 bs) = [at0 bs 0, at0 bs 1, at0 bs 2] := by
        have h3' := h3.1
        unfold encL v3 at *
        rw [if_neg (by omega), if_neg (by omega), if_pos (by omega)]
        simp
        omega
      rw [e]; rfl
    · rw [if_neg h3] at hv
      exact absurd ⟨rfl, rfl⟩ hv
  rw [if_neg h4] at hv ⊢
  by_cases h5 : (240 ≤ at0 bs 0 ∧ at0 bs 0 < 248) ∧ cont bs 1 = true ∧ cont bs 2 = true ∧ cont bs 3 = true
  · rw [if_pos h5] at hv ⊢
    obtain ⟨_, k1, k2⟩ := cont_bd h5.2.1
    obtain ⟨_, k3, k4⟩ := cont_bd h5.2.2.1
    obtain ⟨hl, k5, k6⟩ := cont_bd h5.2.2.2
    by_cases h3 : 65536 ≤ v4 bs ∧ Utf8.valid (v4 bs) = true
    · rw [if_pos h3]
      show encR (v4 bs) ++ bs.drop 4 = bs
      rw [encR, if_pos h3.2]
      conv => rhs; rw [split4 hl]
      have e : encL (v4 bs) = [at0 bs 0, at0 bs 1, at0 bs 2, at0 bs 3] := by
        have h3' := h3.1
        unfold encL v4 at *
        rw [if_neg (by omega), if_neg (by omega), if_neg (by omega)]
        simp
        omega
      rw [e]; rfl
    · rw [if_neg h3] at hv
      exact absurd ⟨rfl, rfl⟩ hv
  · rw [if_neg h5] at hv
    exact absurd ⟨rfl, rfl⟩ hv
theorem toBA_drop (bs : List Int) (m : Nat) : (toBA bs).data.toList.drop m = (toBA (bs.drop m)).data.toList := by
  rw [toBA_list, toBA_list, List.map_drop]
theorem decodeL_is (bs : List Int) (hb : Bytes bs) : (((Lib.decodeL (toBA bs).data.toList).1 : Int), (Lib.decodeL (toBA bs).data.toList).2) = decL bs := by
  have h := decode_is bs hb 0
  rw [List.drop_zero] at h
  exact h
theorem valid_iff : ∀ (f : Nat) (bs : List Int), bs.length ≤ f → Bytes bs → (Lib.validD (toBA bs).data.toList = true ↔ ValidL bs) := by
  intro f
  induction f with
  | zero =>
    intro bs h hb
    have : bs = [] := List.eq_nil_of_length_eq_zero (by omega)
    subst this
    exact ⟨fun _ => rfl, fun _ => rfl⟩
  | succ f ih =>
    intro bs h hb
    by_cases h0 : bs.length = 0
    · have : bs = [] := List.eq_nil_of_length_eq_zero h0
      subst this
      exact ⟨fun _ => rfl, fun _ => rfl⟩
    have hne : (toBA bs).data.toList ≠ [] := by
      intro e
      have := congrArg List.length e
      rw [toBA_list, List.length_map] at this
      exact h0 this
    have hd := decodeL_is bs hb
    have hp := decL_pos bs
    have e1 : ((Lib.decodeL (toBA bs).data.toList).1 : Int) = (decL bs).1 := congrArg Prod.fst hd
    have e2 : (Lib.decodeL (toBA bs).data.toList).2 = (decL bs).2 := congrArg Prod.snd hd
    rw [Lib.validD_step _ hne, e2, toBA_drop]
    have hiff : ((Lib.decodeL (toBA bs).data.toList).1 = 65533 ∧ (decL bs).2 = 1) ↔ ((decL bs).1 = 65533 ∧ (decL bs).2 = 1) := by rw [← e1]; omega
    unfold ValidL
    rw [runesL_step bs (by omega), encA]
    by_cases hv : (decL bs).1 = 65533 ∧ (decL bs).2 = 1
    · rw [if_pos (hiff.2 hv)]
      refine ⟨fun e => (by cases e), fun e => ?_⟩
      rw [hv.1] at e
      have h3 := dec_enc 65533 (by decide) (encA (runesL (bs.drop (decL bs).2)))
      rw [e] at h3
      have h5 : (decL bs).2 = (encR 65533).length := congrArg Prod.snd h3
      have h4 : (encR 65533).length = 3 := by decide
      omega
    · rw [if_neg (fun e => hv (hiff.1 e)), ih (bs.drop (decL bs).2) (by simp; omega) (hb.drop _)]
      have hed := enc_dec bs hb (by omega) hv
      unfold ValidL
      constructor
      · intro e; rw [e]; exact hed
      · intro e
        have := e.trans hed.symm
        exact List.append_cancel_left this
end Go.Proofs.YtgdadidppelgdaaGreatDoor

namespace Go.Proofs.YtgdadidppelgdaaGreatDoor
open Go.RowKit

set_option maxRecDepth 10000 in
set_option maxHeartbeats 1000000 in
theorem runeCount_any (bs : List Int) (hb : Bytes bs) (w : World) (hl : bs.length ≤ 16777216) :
    Calls Tryz.prog 159 #[.string (toBA bs)] w fun e w' => e = .returned (.int .i64 ((cleanL bs).length : Int)) ∧ Ext w w' := by
  obtain ⟨S, hS⟩ : ∃ S, S = toBA bs := ⟨_, rfl⟩
  have hss : S.size = bs.length := by rw [hS, toBA_size]
  have HS := hide hS
  have HSS := hide hss
  rw [← hS]
  clear hS hss
  go_enter Tryz.func159, Tryz.ntmps159
  go_wp2
  go_loopw [2] (fun o wr => ∃ (k : Nat) (acc : List Int), k ≤ bs.length ∧ Hid (Mid bs k acc) ∧ wr.heap[w.heap.size]? = some (.stringIter S k) ∧ o = .int .i64 (acc.length : Int) ∧ Ext w wr) (fun _ wr => bs.length - wr.iterPos w.heap.size)
  case atStart => exact ⟨0, [], Nat.zero_le _, ⟨by simp, by simp⟩, World.iter_heap w S 0, rfl, (Ext.refl _).alloc _⟩
  case round =>
    obtain ⟨k, acc, hk, HM, hit, rfl, hext⟩ := hrel
    have hszr : w.heap.size < wr.heap.size := (Array.getElem?_eq_some_iff.1 hit).1
    by_cases hlt : k < bs.length
    · obtain ⟨r, m, hd⟩ : ∃ r m, decL (bs.drop k) = (r, m) := ⟨_, _, rfl⟩
      have hp := decL_pos (bs.drop k)
      have hq := decL_len (bs.drop k) (by simp; omega)
      have HM2 : Hid (Mid bs (k + m) (acc ++ [cleanR r])) := by
        have := HM.out.step hlt
        rw [hd] at this
        exact this
      have hdec := decode_is bs hb k
      rw [hd] at hp hq hdec
      rw [← HS.out] at hdec
      simp only [Prod.mk.injEq] at hdec
      have hnx := fun ty => Lib.run_next_any_at (P := Tryz.prog) wr w.heap.size S k ty hit (by rw [HSS.out]; exact hlt)
      rw [hdec.1, hdec.2] at hnx
      simp only [List.length_drop] at hp hq
      have hal := HM.out.2
      have hm2 : k + m ≤ bs.length := by omega
      have hit1 := Lib.iterAt_heap wr w.heap.size S k (k + m) hit
      have hext1 : Ext w (wr.iterAt w.heap.size S (k + m)) := hext.grown (grown_iterAt _ _ _ _) (fun k hk => by simp at hk; omega)
      have hP : bs.length - (wr.iterAt w.heap.size S (k + m)).iterPos w.heap.size < bs.length - wr.iterPos w.heap.size := by
        simp only [World.iterPos, hit1, hit]; omega
      have HP := hide hP
      have HI := hide hit1
      have hw : IntKind.i64.wrap ((acc.length : Int) + 1) = (acc.length : Int) + 1 := by rw [IntKind.wrap_i64]; omega
      have hlen : Hid (((acc ++ [cleanR r]).length : Int) = (acc.length : Int) + 1) := by show _ = _; simp
      clear hdec hd hP hit1
      go_wp2
      go_roundw
      case rel => exact ⟨k + m, _, hm2, HM2, unhide HI, by rw [hlen.out], hext1⟩
      case measure => exact unhide HP
    · have HE : Hid (acc = cleanL bs) := HM.out.done (by omega)
      have hnx := fun ty => Lib.run_next_end_at (P := Tryz.prog) wr w.heap.size S k ty hit (by rw [HSS.out]; omega)
      go_wp2
      go_ret
      rw [← HE.out]
      exact ⟨rfl, hext⟩
end Go.Proofs.YtgdadidppelgdaaGreatDoor
