import Derived.Test.YtaddlkhaokdpdaaDoorItemOk
namespace Go.Proofs.YtaddlkhaokdpdaaDoor
open Go.RowKit
def HistP (cap : Int) (n : Nat) (tx : Nat → ByteArray) : Prop := 1 ≤ cap ∧ cap ≤ 100 ∧ (n : Int) ≤ cap ∧ ∀ j, j < n → ItemP (baL (tx j)) ∧ (0 < j → tx j ≠ tx (j - 1))
theorem str_ne {s t : ByteArray} (h : s ≠ t) : (s.toList == t.toList) = false := by
  rw [beq_eq_false_iff_ne, toList_data, toList_data]
  exact fun e => h (WideShapes.bytes_inj e)
set_option maxRecDepth 10000 in
set_option maxHeartbeats 2000000 in
theorem implHistoryOk_any (cap : Int) (v : Value) (n : Nat) (tx : Nat → ByteArray) (w : World) (hv : Row1At w v n (fun j => .string (tx j))) (hn : n ≤ 1048576) (hx : ∀ j, j < n → (tx j).size ≤ 1048576) (hT : Tabs3 w) (ok : Bool) (hok : ok = true ↔ HistP cap n tx) :
    Calls Tryd.prog 10 #[.agg #[.int .i64 cap, v]] w fun e w' => e = .returned (.bool ok) ∧ Ext w w' := by
  obtain ⟨ao, ca, rfl, hca, hxa⟩ := hv
  have HX := hide hxa
  have HZ := hide hx
  have HT := hide hT
  have HK := hide hok
  clear hxa hx hT hok
  by_cases h1 : cap < 1
  · have hfin : Hid (ok = false) := by
      refine hide ?_
      cases hc : ok with
      | false => rfl
      | true => have := ((unhide HK).1 hc).1; omega
    go_enter Tryd.func10, Tryd.ntmps10
    go_wp2
    go_ret
    exact ⟨ret_bool (unhide hfin).symm, (Ext.refl _).alloc _⟩
  by_cases h2 : 100 < cap
  · have hfin : Hid (ok = false) := by
      refine hide ?_
      cases hc : ok with
      | false => rfl
      | true => have := ((unhide HK).1 hc).2.1; omega
    go_enter Tryd.func10, Tryd.ntmps10
    go_wp2
    go_ret
    exact ⟨ret_bool (unhide hfin).symm, (Ext.refl _).alloc _⟩
  by_cases h3 : cap < (n : Int)
  · have hfin : Hid (ok = false) := by
      refine hide ?_
      cases hc : ok with
      | false => rfl
      | true => have := ((unhide HK).1 hc).2.2.1; omega
    go_enter Tryd.func10, Tryd.ntmps10
    go_wp2
    go_ret
    exact ⟨ret_bool (unhide hfin).symm, (Ext.refl _).alloc _⟩
  have EW := (Ext.refl w).alloc (.cells #[.int .i64 cap, .slice ao n ca] 27)
  have q1 : (w.alloc (.cells #[.int .i64 cap, .slice ao n ca] 27)).cell? ⟨w.heap.size, 1, none⟩ = some (.slice ao n ca) := by simp [go_sem]
  obtain ⟨W1, hW1⟩ : ∃ W1, W1 = w.alloc (.cells #[.int .i64 cap, .slice ao n ca] 27) := ⟨_, rfl⟩
  rw [← hW1] at EW q1
  have HW := hide hW1
  clear hW1
  go_enter Tryd.func10, Tryd.ntmps10
  go_wp2
  go_loopw [24] (fun i wr => ∃ k : Nat, k ≤ n ∧ i = .int .i64 k ∧ Hid (∀ j, j < k → ItemP (baL (tx j)) ∧ (0 < j → tx j ≠ tx (j - 1))) ∧ Ext W1 wr) (fun i _ => n - (intOf i).toNat)
  case atStart => exact ⟨0, Nat.zero_le _, rfl, hide (fun j hj => by omega), by rw [unhide HW]; exact Ext.refl _⟩
  case round =>
    obtain ⟨k, hk, rfl, HJ, hext⟩ := hrel
    by_cases hlt : k < n
    · obtain ⟨b, off, hao, hc⟩ := (unhide HX) (by omega)
      subst hao
      have hE := EW.trans hext
      have g1 := hE.cell (hc k hlt)
      have bk : (k : Int) < (n : Int) := by omega
      have hsz := (unhide HZ) k hlt
      by_cases hit : ItemP (baL (tx k))
      · have hcon := itemOk_any (baL (tx k)) (baL_bytes _) wr (by rw [baL_len]; omega) ((unhide HT).ext hE) true (by simp [hit])
        rw [toBA_baL] at hcon
        have HC := hide hcon
        clear hcon
        go_wp2_with fail
        refine (unhide HC).mono ?_
        rintro e w2 ⟨rfl, F2⟩
        have hE2 := hext.trans F2
        have c1 := hE2.cell q1
        by_cases k0 : k = 0
        · subst k0
          have HJ2 : Hid (∀ j, j < 0 + 1 → ItemP (baL (tx j)) ∧ (0 < j → tx j ≠ tx (j - 1))) := hide (fun j hj => by
            obtain rfl : j = 0 := by omega
            exact ⟨hit, fun h => by omega⟩)
          go_wp2
          go_roundw
          case rel => exact ⟨0 + 1, by omega, by go_num, HJ2, hE2⟩
          case measure => simp [intOf]; omega
        · have kp : (0 : Int) < (k : Int) := by omega
          have g2 := (EW.trans hE2).cell (hc (k - 1) (by omega))
          have hw9 : IntKind.i64.wrap ((k : Int) - 1) = ((k - 1 : Nat) : Int) := by rw [IntKind.wrap_i64]; omega
          have b9 : (0 : Int) ≤ ((k - 1 : Nat) : Int) := by omega
          have b10 : ((k - 1 : Nat) : Int) < (n : Int) := by omega
          by_cases hs : tx k = tx (k - 1)
          · have hfin : Hid (ok = false) := by
              refine hide ?_
              cases hc' : ok with
              | false => rfl
              | true => exact absurd hs ((((unhide HK).1 hc').2.2.2 k hlt).2 (by omega))
            rw [← hs] at g2
            go_wp2
            go_ret
            exact ⟨ret_bool (unhide hfin).symm, EW.trans hE2⟩
          · have HJ2 : Hid (∀ j, j < k + 1 → ItemP (baL (tx j)) ∧ (0 < j → tx j ≠ tx (j - 1))) := hide (fun j hj => by
              by_cases e : j = k
              · subst e; exact ⟨hit, fun _ => hs⟩
              · exact (unhide HJ) j (by omega))
            have hne := str_ne hs
            clear hs
            go_wp2
            go_roundw
            case rel => exact ⟨k + 1, by omega, by go_num, HJ2, hE2⟩
            case measure => simp [intOf]; omega
      · have hfin : Hid (ok = false) := by
          refine hide ?_
          cases hc' : ok with
          | false => rfl
          | true => exact absurd (((unhide HK).1 hc').2.2.2 k hlt).1 hit
        have hcon := itemOk_any (baL (tx k)) (baL_bytes _) wr (by rw [baL_len]; omega) ((unhide HT).ext hE) false (by simp [hit])
        rw [toBA_baL] at hcon
        have HC := hide hcon
        clear hcon
        go_wp2_with fail
        refine (unhide HC).mono ?_
        rintro e w2 ⟨rfl, F2⟩
        go_wp2
        go_ret
        exact ⟨ret_bool (unhide hfin).symm, hE.trans F2⟩
    · obtain rfl : k = n := by omega
      have hfin : Hid (ok = true) := hide ((unhide HK).2 ⟨by omega, by omega, by omega, unhide HJ⟩)
      have hE := EW.trans hext
      go_wp2
      go_ret
      exact ⟨ret_bool (unhide hfin).symm, hE⟩
end Go.Proofs.YtaddlkhaokdpdaaDoor
