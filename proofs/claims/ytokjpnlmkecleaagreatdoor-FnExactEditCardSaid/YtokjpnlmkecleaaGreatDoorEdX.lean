import Derived.Test.YtokjpnlmkecleaaGreatDoorEdV
namespace Go.Proofs.YtokjpnlmkecleaaGreatDoor
open Go.RowKit

set_option maxRecDepth 10000 in
set_option maxHeartbeats 2000000 in
theorem wordRight_len (B : Nat) (v : Value) (cs : List (List Int × Int)) (hl : cs.length ≤ 16777216) (w : World) (hB : w.cell? ⟨B, 0, none⟩ = some v) (hv : ClsAt w v cs) :
    Calls Tryz.prog 125 #[.int .i64 (cs.length : Int), .func (.func 126) #[] #[.pointer (some ⟨B, 0, none⟩)]] w fun e w' => ∃ r : Nat, e = .returned (.int .i64 (r : Int)) ∧ Wd (fun j => spB (cR cs j)) cs.length r ∧ Ext w w' := by
  have HAt := hide (fun W (E : Ext w W) j (hj : j < cs.length) => atRight_any B v cs j hj hl W (E.cell hB) (hv.ext E))
  clear hB hv
  go_enter Tryz.func125, Tryz.ntmps125
  go_wp2
  go_loopw [5] (fun i wr => ∃ (j : Nat), j ≤ cs.length ∧ i = .int .i64 j ∧ Hid (∀ q, q < j → spB (cR cs q) = true) ∧ Ext w wr) (fun i _ => cs.length - (intOf i).toNat)
  case atStart => exact ⟨0, Nat.zero_le _, rfl, hide (fun q hq => by omega), Ext.refl _⟩
  case round =>
    obtain ⟨j, hj, rfl, HJ, hE⟩ := hrel
    by_cases hlt : j < cs.length
    · have bj : (j : Int) < (cs.length : Int) := by omega
      go_wp2_with fail
      refine ((unhide HAt) _ hE j hlt).mono ?_
      rintro e w1 ⟨rv1, rfl, i1, E1⟩
      have HS := hide (isSpace_any rv1 (cW cs j) (cR cs j) w1 i1)
      have hE1 := hE.trans E1
      clear i1 E1
      go_wp2_with fail
      refine (unhide HS).mono ?_
      rintro e w2 ⟨rfl, E2⟩
      have hE2 := hE1.trans E2
      cases hb : spB (cR cs j) with
      | true =>
        have HJ3 : Hid (∀ q, q < j + 1 → spB (cR cs q) = true) := hide (fun q hq => by
          by_cases e : q = j
          · subst e; exact hb
          · exact (unhide HJ) q (by omega))
        clear HS hb E2
        go_wp2
        go_roundw
        case rel => exact ⟨j + 1, by omega, by go_num, HJ3, hE2⟩
        case measure => simp [intOf]; omega
      | false =>
        have HSK : Hid (Sk (fun j => spB (cR cs j)) cs.length 0 j) := hide ⟨Nat.zero_le _, hj, fun q _ hq => (unhide HJ) q hq, fun _ => hb⟩
        clear HS hb E2 hE hE1
        go_wp2
        go_loopw [5] (fun i wr => ∃ (r : Nat), j ≤ r ∧ r ≤ cs.length ∧ i = .int .i64 r ∧ Hid (∀ q, j ≤ q → q < r → (!spB (cR cs q)) = true) ∧ Ext w wr) (fun i _ => cs.length - (intOf i).toNat)
        case atStart => exact ⟨j, Nat.le_refl _, hj, rfl, hide (fun q h1 h2 => by omega), hE2⟩
        case round =>
          obtain ⟨r, hjr, hr9, rfl, HJ2, hE3⟩ := hrel
          by_cases hlt2 : r < cs.length
          · have bj2 : (r : Int) < (cs.length : Int) := by omega
            go_wp2_with fail
            refine ((unhide HAt) _ hE3 r hlt2).mono ?_
            rintro e w4 ⟨rv4, rfl, i4, E4⟩
            have HS4 := hide (isSpace_any rv4 (cW cs r) (cR cs r) w4 i4)
            have hE4 := hE3.trans E4
            clear i4 E4
            go_wp2_with fail
            refine (unhide HS4).mono ?_
            rintro e w5 ⟨rfl, E5⟩
            have hE5 := hE4.trans E5
            cases hb2 : spB (cR cs r) with
            | false =>
              have HJ3 : Hid (∀ q, j ≤ q → q < r + 1 → (!spB (cR cs q)) = true) := hide (fun q h1 h2 => by
                by_cases e : q = r
                · subst e; rw [hb2]; rfl
                · exact (unhide HJ2) q h1 (by omega))
              clear HS4 hb2 E5
              go_wp2
              go_roundw
              case rel => exact ⟨r + 1, by omega, by omega, by go_num, HJ3, hE5⟩
              case measure => simp [intOf]; omega
            | true =>
              have HW : Hid (Wd (fun j => spB (cR cs j)) cs.length r) := hide ⟨j, unhide HSK, hjr, hr9, unhide HJ2, fun _ => by simp [hb2]⟩
              clear HS4 hb2 E5
              go_wp2
              go_ret
              exact ⟨r, rfl, unhide HW, hE5⟩
          · obtain rfl : r = cs.length := by omega
            have hb7 : ¬ (cs.length : Int) < (cs.length : Int) := by omega
            have HW : Hid (Wd (fun j => spB (cR cs j)) cs.length cs.length) := hide ⟨j, unhide HSK, hjr, hr9, unhide HJ2, fun h => by omega⟩
            go_wp2
            go_ret
            exact ⟨_, rfl, unhide HW, hE3⟩
    · have hb9 : ¬ (j : Int) < (cs.length : Int) := by omega
      have HSK : Hid (Sk (fun j => spB (cR cs j)) cs.length 0 j) := hide ⟨Nat.zero_le _, hj, fun q _ hq => (unhide HJ) q hq, fun h => by omega⟩
      have hE2 := hE
      clear hE
      go_wp2
      go_loopw [5] (fun i wr => ∃ (r : Nat), j ≤ r ∧ r ≤ cs.length ∧ i = .int .i64 r ∧ Hid (∀ q, j ≤ q → q < r → (!spB (cR cs q)) = true) ∧ Ext w wr) (fun i _ => cs.length - (intOf i).toNat)
      case atStart => exact ⟨j, Nat.le_refl _, hj, rfl, hide (fun q h1 h2 => by omega), hE2⟩
      case round =>
        obtain ⟨r, hjr, hr9, rfl, HJ2, hE3⟩ := hrel
        by_cases hlt2 : r < cs.length
        · have bj2 : (r : Int) < (cs.length : Int) := by omega
          go_wp2_with fail
          refine ((unhide HAt) _ hE3 r hlt2).mono ?_
          rintro e w4 ⟨rv4, rfl, i4, E4⟩
          have HS4 := hide (isSpace_any rv4 (cW cs r) (cR cs r) w4 i4)
          have hE4 := hE3.trans E4
          clear i4 E4
          go_wp2_with fail
          refine (unhide HS4).mono ?_
          rintro e w5 ⟨rfl, E5⟩
          have hE5 := hE4.trans E5
          cases hb2 : spB (cR cs r) with
          | false =>
            have HJ3 : Hid (∀ q, j ≤ q → q < r + 1 → (!spB (cR cs q)) = true) := hide (fun q h1 h2 => by
              by_cases e : q = r
              · subst e; rw [hb2]; rfl
              · exact (unhide HJ2) q h1 (by omega))
            clear HS4 hb2 E5
            go_wp2
            go_roundw
            case rel => exact ⟨r + 1, by omega, by omega, by go_num, HJ3, hE5⟩
            case measure => simp [intOf]; omega
          | true =>
            have HW : Hid (Wd (fun j => spB (cR cs j)) cs.length r) := hide ⟨j, unhide HSK, hjr, hr9, unhide HJ2, fun _ => by simp [hb2]⟩
            clear HS4 hb2 E5
            go_wp2
            go_ret
            exact ⟨r, rfl, unhide HW, hE5⟩
        · obtain rfl : r = cs.length := by omega
          have hb7 : ¬ (cs.length : Int) < (cs.length : Int) := by omega
          have HW : Hid (Wd (fun j => spB (cR cs j)) cs.length cs.length) := hide ⟨j, unhide HSK, hjr, hr9, unhide HJ2, fun h => by omega⟩
          go_wp2
          go_ret
          exact ⟨_, rfl, unhide HW, hE3⟩
set_option maxRecDepth 10000 in
set_option maxHeartbeats 2000000 in
theorem wordFront_len (B : Nat) (v : Value) (cs : List (List Int × Int)) (hl : cs.length ≤ 16777216) (w : World) (hB : w.cell? ⟨B, 0, none⟩ = some v) (hv : ClsAt w v cs) :
    Calls Tryz.prog 125 #[.int .i64 (cs.length : Int), .func (.func 137) #[] #[.pointer (some ⟨B, 0, none⟩)]] w fun e w' => ∃ r : Nat, e = .returned (.int .i64 (r : Int)) ∧ Wd (fun j => spB (cR cs (cs.length - 1 - j))) cs.length r ∧ Ext w w' := by
  have HAt := hide (fun W (E : Ext w W) j (hj : j < cs.length) => atFront_any B v cs j hj hl W (E.cell hB) (hv.ext E))
  clear hB hv
  go_enter Tryz.func125, Tryz.ntmps125
  go_wp2
  go_loopw [5] (fun i wr => ∃ (j : Nat), j ≤ cs.length ∧ i = .int .i64 j ∧ Hid (∀ q, q < j → spB (cR cs (cs.length - 1 - q)) = true) ∧ Ext w wr) (fun i _ => cs.length - (intOf i).toNat)
  case atStart => exact ⟨0, Nat.zero_le _, rfl, hide (fun q hq => by omega), Ext.refl _⟩
  case round =>
    obtain ⟨j, hj, rfl, HJ, hE⟩ := hrel
    by_cases hlt : j < cs.length
    · have bj : (j : Int) < (cs.length : Int) := by omega
      go_wp2_with fail
      refine ((unhide HAt) _ hE j hlt).mono ?_
      rintro e w1 ⟨rv1, rfl, i1, E1⟩
      have HS := hide (isSpace_any rv1 (cW cs (cs.length - 1 - j)) (cR cs (cs.length - 1 - j)) w1 i1)
      have hE1 := hE.trans E1
      clear i1 E1
      go_wp2_with fail
      refine (unhide HS).mono ?_
      rintro e w2 ⟨rfl, E2⟩
      have hE2 := hE1.trans E2
      cases hb : spB (cR cs (cs.length - 1 - j)) with
      | true =>
        have HJ3 : Hid (∀ q, q < j + 1 → spB (cR cs (cs.length - 1 - q)) = true) := hide (fun q hq => by
          by_cases e : q = j
          · subst e; exact hb
          · exact (unhide HJ) q (by omega))
        clear HS hb E2
        go_wp2
        go_roundw
        case rel => exact ⟨j + 1, by omega, by go_num, HJ3, hE2⟩
        case measure => simp [intOf]; omega
      | false =>
        have HSK : Hid (Sk (fun j => spB (cR cs (cs.length - 1 - j))) cs.length 0 j) := hide ⟨Nat.zero_le _, hj, fun q _ hq => (unhide HJ) q hq, fun _ => hb⟩
        clear HS hb E2 hE hE1
        go_wp2
        go_loopw [5] (fun i wr => ∃ (r : Nat), j ≤ r ∧ r ≤ cs.length ∧ i = .int .i64 r ∧ Hid (∀ q, j ≤ q → q < r → (!spB (cR cs (cs.length - 1 - q))) = true) ∧ Ext w wr) (fun i _ => cs.length - (intOf i).toNat)
        case atStart => exact ⟨j, Nat.le_refl _, hj, rfl, hide (fun q h1 h2 => by omega), hE2⟩
        case round =>
          obtain ⟨r, hjr, hr9, rfl, HJ2, hE3⟩ := hrel
          by_cases hlt2 : r < cs.length
          · have bj2 : (r : Int) < (cs.length : Int) := by omega
            go_wp2_with fail
            refine ((unhide HAt) _ hE3 r hlt2).mono ?_
            rintro e w4 ⟨rv4, rfl, i4, E4⟩
            have HS4 := hide (isSpace_any rv4 (cW cs (cs.length - 1 - r)) (cR cs (cs.length - 1 - r)) w4 i4)
            have hE4 := hE3.trans E4
            clear i4 E4
            go_wp2_with fail
            refine (unhide HS4).mono ?_
            rintro e w5 ⟨rfl, E5⟩
            have hE5 := hE4.trans E5
            cases hb2 : spB (cR cs (cs.length - 1 - r)) with
            | false =>
              have HJ3 : Hid (∀ q, j ≤ q → q < r + 1 → (!spB (cR cs (cs.length - 1 - q))) = true) := hide (fun q h1 h2 => by
                by_cases e : q = r
                · subst e; rw [hb2]; rfl
                · exact (unhide HJ2) q h1 (by omega))
              clear HS4 hb2 E5
              go_wp2
              go_roundw
              case rel => exact ⟨r + 1, by omega, by omega, by go_num, HJ3, hE5⟩
              case measure => simp [intOf]; omega
            | true =>
              have HW : Hid (Wd (fun j => spB (cR cs (cs.length - 1 - j))) cs.length r) := hide ⟨j, unhide HSK, hjr, hr9, unhide HJ2, fun _ => by simp [hb2]⟩
              clear HS4 hb2 E5
              go_wp2
              go_ret
              exact ⟨r, rfl, unhide HW, hE5⟩
          · obtain rfl : r = cs.length := by omega
            have hb7 : ¬ (cs.length : Int) < (cs.length : Int) := by omega
            have HW : Hid (Wd (fun j => spB (cR cs (cs.length - 1 - j))) cs.length cs.length) := hide ⟨j, unhide HSK, hjr, hr9, unhide HJ2, fun h => by omega⟩
            go_wp2
            go_ret
            exact ⟨_, rfl, unhide HW, hE3⟩
    · have hb9 : ¬ (j : Int) < (cs.length : Int) := by omega
      have HSK : Hid (Sk (fun j => spB (cR cs (cs.length - 1 - j))) cs.length 0 j) := hide ⟨Nat.zero_le _, hj, fun q _ hq => (unhide HJ) q hq, fun h => by omega⟩
      have hE2 := hE
      clear hE
      go_wp2
      go_loopw [5] (fun i wr => ∃ (r : Nat), j ≤ r ∧ r ≤ cs.length ∧ i = .int .i64 r ∧ Hid (∀ q, j ≤ q → q < r → (!spB (cR cs (cs.length - 1 - q))) = true) ∧ Ext w wr) (fun i _ => cs.length - (intOf i).toNat)
      case atStart => exact ⟨j, Nat.le_refl _, hj, rfl, hide (fun q h1 h2 => by omega), hE2⟩
      case round =>
        obtain ⟨r, hjr, hr9, rfl, HJ2, hE3⟩ := hrel
        by_cases hlt2 : r < cs.length
        · have bj2 : (r : Int) < (cs.length : Int) := by omega
          go_wp2_with fail
          refine ((unhide HAt) _ hE3 r hlt2).mono ?_
          rintro e w4 ⟨rv4, rfl, i4, E4⟩
          have HS4 := hide (isSpace_any rv4 (cW cs (cs.length - 1 - r)) (cR cs (cs.length - 1 - r)) w4 i4)
          have hE4 := hE3.trans E4
          clear i4 E4
          go_wp2_with fail
          refine (unhide HS4).mono ?_
          rintro e w5 ⟨rfl, E5⟩
          have hE5 := hE4.trans E5
          cases hb2 : spB (cR cs (cs.length - 1 - r)) with
          | false =>
            have HJ3 : Hid (∀ q, j ≤ q → q < r + 1 → (!spB (cR cs (cs.length - 1 - q))) = true) := hide (fun q h1 h2 => by
              by_cases e : q = r
              · subst e; rw [hb2]; rfl
              · exact (unhide HJ2) q h1 (by omega))
            clear HS4 hb2 E5
            go_wp2
            go_roundw
            case rel => exact ⟨r + 1, by omega, by omega, by go_num, HJ3, hE5⟩
            case measure => simp [intOf]; omega
          | true =>
            have HW : Hid (Wd (fun j => spB (cR cs (cs.length - 1 - j))) cs.length r) := hide ⟨j, unhide HSK, hjr, hr9, unhide HJ2, fun _ => by simp [hb2]⟩
            clear HS4 hb2 E5
            go_wp2
            go_ret
            exact ⟨r, rfl, unhide HW, hE5⟩
        · obtain rfl : r = cs.length := by omega
          have hb7 : ¬ (cs.length : Int) < (cs.length : Int) := by omega
          have HW : Hid (Wd (fun j => spB (cR cs (cs.length - 1 - j))) cs.length cs.length) := hide ⟨j, unhide HSK, hjr, hr9, unhide HJ2, fun h => by omega⟩
          go_wp2
          go_ret
          exact ⟨_, rfl, unhide HW, hE3⟩
end Go.Proofs.YtokjpnlmkecleaaGreatDoor
