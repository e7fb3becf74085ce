import Derived.Test.YtokjpnlmkecleaaGreatDoorEdV
namespace Go.Proofs.YtokjpnlmkecleaaGreatDoor
open Go.RowKit

set_option maxRecDepth 10000 in
set_option maxHeartbeats 2000000 in
theorem wordRight_len (B : Nat) (v : Value) (cs : List (List Int × Int)) (hl : cs.length ≤ 16777216) (w : World) (hB : w.cell? ⟨B, 0, none⟩ = some v) (hv : ClsAt w v cs) :
    Calls Tryz.prog 125 #[.int .i64 (cs.length : Int), .func (.func 126) #[] #[.pointer (some ⟨B, 0, none⟩)]] w fun e w' => ∃ r : Nat, e = .returned (.int .i64 (r : Int)) ∧ Wd (fun j => spB (cR cs j)) cs.length r ∧ Ext w w' := by
  have HAt := hide (fun W (E : Ext w W) j (hj : j < cs.length) => atRight_any B v cs j hj hl W (E.cell hB) (hv.ext E))
  clear hB hv
  go_enter Tryz.func125, Tryz.ntmps125
  go_wp2
  go_loopw [5] (fun i wr => ∃ (j : Nat), j ≤ cs.length ∧ i = .int .i64 j ∧ Hid (∀ q, q < j → spB (cR cs q) = true) ∧ Ext w wr) (fun i _ => cs.length - (intOf i).toNat)
  case atStart => exact ⟨0, Nat.zero_le _, rfl, hide (fun q hq => by omega), Ext.refl _⟩
  case round =>
    obtain ⟨j, hj, rfl, HJ, hE⟩ := hrel
    by_cases hlt : j < cs.length
    · have bj : (j : Int) < (cs.length : Int) := by omega
      go_wp2_with fail
      refine ((unhide HAt) _ hE j hlt).mono ?_
      rintro e w1 ⟨rv1, rfl, i1, E1⟩
      have HS := hide (isSpace_any rv1 (cW cs j) (cR cs j) w1 i1)
      have hE1 := hE.trans E1
      clear i1 E1
      go_wp2_with fail
      refine (unhide HS).mono ?_
      rintro e w2 ⟨rfl, E2⟩
      have hE2 := hE1.trans E2
      cases hb : spB (cR cs j) with
      | true =>
        have HJ3 : Hid (∀ q, q < j + 1 → spB (cR cs q) = true) := hide (fun q hq => by
          by_cases e : q = j
          · subst e; exact hb
          · exact (unhide HJ) q (by omega))
        clear HS hb E2
        go_wp2
        go_roundw
        case rel => exact ⟨j + 1, by omega, by go_num, HJ3, hE2⟩
        case measure => simp [intOf]; omega
      | false =>
        have HSK : Hid (Sk (fun j => spB (cR cs j)) cs.length 0 j) := hide ⟨Nat.zero_le _, hj, fun q _ hq => (unhide HJ) q hq, fun _ => hb⟩
        clear HS hb E2 hE hE1
        go_wp2
        go_loopw [5] (fun i wr => ∃ (r : Nat), j ≤ r ∧ r ≤ cs.length ∧ i = .int .i64 r ∧ Hid (∀ q, j ≤ q → q < r → (!spB (cR cs q)) = true) ∧ Ext w wr) (fun i _ => cs.length - (intOf i).toNat)
        case atStart => exact ⟨j, Nat.le_refl _, hj, rfl, hide (fun q h1 h2 => by omega), hE2⟩
        case round =>
          obtain ⟨r, hjr, hr9, rfl, HJ2, hE3⟩ := hrel
          by_cases hlt2 : r < cs.length
          · have bj2 : (r : Int) < (cs.length : Int) := by omega
            go_wp2_with fail
            refine ((unhide HAt) _ hE3 r hlt2).mono ?_
            rintro e w4 ⟨rv4, rfl, i4, E4⟩
            have HS4 := hide (isSpace_any rv4 (cW cs r) (cR cs r) w4 i4)
            have hE4 := hE3.trans E4
            clear i4 E4
            go_wp2_with fail
            refine (unhide HS4).mono ?_
            rintro e w5 ⟨rfl, E5⟩
            have hE5 := hE4.trans E5
            cases hb2 : spB (cR cs r) with
            | false =>
              have HJ3 : Hid (∀ q, j ≤ q → q < r + 1 → (!spB (cR cs q)) = true) := hide (fun q h1 h2 => by
                by_cases e : q = r
                · subst e; rw [hb2]; rfl
                · exact (unhide HJ2) q h1 (by omega))
              clear HS4 hb2 E5
              go_wp2
              go_roundw
              case rel => exact ⟨r + 1, by omega, by omega, by go_num, HJ3, hE5⟩
              case measure => simp [intOf]; omega
            | true =>
              have HW : Hid (Wd (fun j => spB (cR cs j)) cs.length r) := hide ⟨j, unhide HSK, hjr, hr9, unhide HJ2, fun _ => by simp [hb2]⟩
              clear HS4 hb2 E5
              go_wp2
              go_ret
              exact ⟨r, rfl, unhide HW, hE5⟩
          · obtain rfl : r = cs.length := by omega
            have hb7 : ¬ (cs.length : Int) < (cs.length : Int) := by omega
            have HW : Hid (Wd (fun j => spB (cR cs j)) cs.length cs.length) := hide ⟨j, unhide HSK, hjr, hr9, unhide HJ2, fun h => by omega⟩
            go_wp2
            go_ret
            exact ⟨_, rfl, unhide HW, hE3⟩
    · have hb9 : ¬ (j : Int) < (cs.length : Int) := by omega
      have HSK : Hid (Sk (fun j => spB (cR cs j)) cs.length 0 j) := hide ⟨Nat.zero_le _, hj, fun q _ hq => (unhide HJ) q hq, fun h => by omega⟩
      have hE2 := hE
      clear hE
      go_wp2
      go_loopw [5] (fun i wr => ∃ (r : Nat), j ≤ r ∧ r ≤ cs.length ∧ i = .int .i64 r ∧ Hid (∀ q, j ≤ q → q < r → (!spB (cR cs q)) = true) ∧ Ext w wr) (fun i _ => cs.length - (intOf i).toNat)
      case atStart => exact ⟨j, Nat.le_refl _, hj, rfl, hide (fun q h1 h2 => by omega), hE2⟩
      case round =>
        obtain ⟨r, hjr, hr9, rfl, HJ2, hE3⟩ := hrel
        by_cases hlt2 : r < cs.length
        · have bj2 : (r : Int) < (cs.length : Int) := by omega
          go_wp2_with fail
          refine ((unhide HAt) _ hE3 r hlt2).mono ?_
          rintro e w4 ⟨rv4, rfl, i4, E4⟩
          have HS4 := hide (isSpace_any rv4 (cW cs r) (cR cs r) w4 i4)
          have hE4 := hE3.trans E4
          clear i4 E4
          go_wp2_with fail
          refine (unhide HS4).mono ?_
          rintro e w5 ⟨rfl, E5⟩
          have hE5 := hE4.trans E5
          cases hb2 : spB (cR cs r) with
          | false =>
            have HJ3 : Hid (∀ q, j ≤ q → q < r + 1 → (!spB (cR cs q)) = true) := hide (fun q h1 h2 => by
              by_cases e : q = r
              · subst e; rw [hb2]; rfl
              · exact (unhide HJ2) q h1 (by omega))
            clear HS4 hb2 E5
            go_wp2
            go_roundw
            case rel => exact ⟨r + 1, by omega, by omega, by go_num, HJ3, hE5⟩
            case measure => simp [intOf]; omega
          | true =>
            have HW : Hid (Wd (fun j => spB (cR cs j)) cs.length r) := hide ⟨j, unhide HSK, hjr, hr9, unhide HJ2, fun _ => by simp [hb2]⟩
            clear HS4 hb2 E5
            go_wp2
            go_ret
            exact ⟨r, rfl, unhide HW, hE5⟩
        · obtain rfl : r = cs.length := by omega
          have hb7 : ¬ (cs.length : Int) < (cs.length : Int) := by omega
          have HW : Hid (Wd (fun j => spB (cR cs j)) cs.length cs.length) := hide ⟨j, unhide HSK, hjr, hr9, unhide HJ2, fun h => by omega⟩
          go_wp2
          go_ret
          exact ⟨_, rfl, unhide HW, hE3⟩
set_option maxRecDepth 10000 in
set_option maxHeartbeats 2000000 in
theorem wordFront_len (B : Nat) (v : Value) (cs : List (List Int × Int)) (hl : cs.length ≤ 16777216) (w : World) (hB : w.cell? ⟨B, 0, none⟩ = some v) (hv : ClsAt w v cs) :
    Calls Tryz.prog 125 #[.int .i64 (cs.length : Int), .func (.func 137) #[] #[.pointer (some ⟨B, 0, none⟩)]] w fun e w' => ∃ r : Nat, e = .returned (.int .i64 (r : Int)) ∧ Wd (fun j => spB (cR cs (cs.length - 1 - j))) cs.length r ∧ Ext w w' := by
  have HAt := hide (fun W (E : Ext w W) j (hj : j < cs.length) => atFront_any B v cs j hj hl W (E.cell hB) (hv.ext E))
  clear hB hv
  go_enter Tryz.func125, Tryz.ntmps125
  go_wp2
  go_loopw [5] (fun i wr => ∃ (j : Nat), j ≤ cs.length ∧ i = .int .i64 j ∧ Hid (∀ q, q < j → spB (cR cs (cs.length - 1 - q)) = true) ∧ Ext w wr) (fun i _ => cs.length - (intOf i).toNat)
  case atStart => exact ⟨0, Nat.zero_le _, rfl, hide (fun q hq => by omega), Ext.refl _⟩
  case round =>
    obtain ⟨j, hj, rfl, HJ, hE⟩ := hrel
    by_cases hlt : j < cs.length
    · have bj : (j : Int) < (cs.length : Int) := by omega
      go_wp2_with fail
      refine ((unhide HAt) _ hE j hlt).mono ?_
      rintro e w1 ⟨rv1, rfl, i1, E1⟩
      have HS := hide (isSpace_any rv1 (cW cs (cs.length - 1 - j)) (cR cs (cs.length - 1 - j)) w1 i1)
      have hE1 := hE.trans E1
      clear i1 E1
      go_wp2_with fail
      refine (unhide HS).mono ?_
      rintro e w2 ⟨rfl, E2⟩
      have hE2 := hE1.trans E2
      cases hb : spB (cR cs (cs.length - 1 - j)) with
      | true =>
        have HJ3 : Hid (∀ q, q < j + 1 → spB (cR cs (cs.length - 1 - q)) = true) := hide (fun q hq => by
          by_cases e : q = j
          · subst e; exact hb
          · exact (unhide HJ) q (by omega))
        clear HS hb E2
        go_wp2
        go_roundw
        case rel => exact ⟨j + 1, by omega, by go_num, HJ3, hE2⟩
        case measure => simp [intOf]; omega
      | false =>
        have HSK : Hid (Sk (fun j => spB (cR cs (cs.length - 1 - j))) cs.length 0 j) := hide ⟨Nat.zero_le _, hj, fun q _ hq => (unhide HJ) q hq, fun _ => hb⟩
        clear HS hb E2 hE hE1
        go_wp2
        go_loopw [5] (fun i wr => ∃ (r : Nat), j ≤ r ∧ r ≤ cs.length ∧ i = .int .i64 r ∧ Hid (∀ q, j ≤ q → q < r → (!spB (cR cs (cs.length - 1 - q))) = true) ∧ Ext w wr) (fun i _ => cs.length - (intOf i).toNat)
        case atStart => exact ⟨j, Nat.le_refl _, hj, rfl, hide (fun q h1 h2 => by omega), hE2⟩
        case round =>
          obtain ⟨r, hjr, hr9, rfl, HJ2, hE3⟩ := hrel
          by_cases hlt2 : r < cs.length
          · have bj2 : (r : Int) < (cs.length : Int) := by omega
            go_wp2_with fail
            refine ((unhide HAt) _ hE3 r hlt2).mono ?_
            rintro e w4 ⟨rv4, rfl, i4, E4⟩
            have HS4 := hide (isSpace_any rv4 (cW cs (cs.length - 1 - r)) (cR cs (cs.length - 1 - r)) w4 i4)
            have hE4 := hE3.trans E4
            clear i4 E4
            go_wp2_with fail
            refine (unhide HS4).mono ?_
            rintro e w5 ⟨rfl, E5⟩
            have hE5 := hE4.trans E5
            cases hb2 : spB (cR cs (cs.length - 1 - r)) with
            | false =>
              have HJ3 : Hid (∀ q, j ≤ q → q < r + 1 → (!spB (cR cs (cs.length - 1 - q))) = true) := hide (fun q h1 h2 => by
                by_cases e : q = r
                · subst e; rw [hb2]; rfl
                · exact (unhide HJ2) q h1 (by omega))
              clear HS4 hb2 E5
              go_wp2
              go_roundw
              case rel => exact ⟨r + 1, by omega, by omega, by go_num, HJ3, hE5⟩
              case measure => simp [intOf]; omega
            | true =>
              have HW : Hid (Wd (fun j => spB (cR cs (cs.length - 1 - j))) cs.length r) := hide ⟨j, unhide HSK, hjr, hr9, unhide HJ2, fun _ => by simp [hb2]⟩
              clear HS4 hb2 E5
              go_wp2
              go_ret
              exact ⟨r, rfl, unhide HW, hE5⟩
          · obtain rfl : r = cs.length := by omega
            have hb7 : ¬ (cs.length : Int) < (cs.length : Int) := by omega
            have HW : Hid (Wd (fun j => spB (cR cs (cs.length - 1 - j))) cs.length cs.length) := hide ⟨j, unhide HSK, hjr, hr9, unhide HJ2, fun h => by omega⟩
            go_wp2
            go_ret
            exact ⟨_, rfl, unhide HW, hE3⟩
    · have hb9 : ¬ (j : Int) < (cs.length : Int) := by omega
      have HSK : Hid (Sk (fun j => spB (cR cs (cs.length - 1 - j))) cs.length 0 j) := hide ⟨Nat.zero_le _, hj, fun q _ hq => (unhide HJ) q hq, fun h => by omega⟩
      have hE2 := hE
      clear hE
      go_wp2
      go_loopw [5] (fun i wr => ∃ (r : Nat), j ≤ r ∧ r ≤ cs.length ∧ i = .int .i64 r ∧ Hid (∀ q, j ≤ q → q < r → (!spB (cR cs (cs.length - 1 - q))) = true) ∧ Ext w wr) (fun i _ => cs.length - (intOf i).toNat)
      case atStart => exact ⟨j, Nat.le_refl _, hj, rfl, hide (fun q h1 h2 => by omega), hE2⟩
      case round =>
        obtain ⟨r, hjr, hr9, rfl, HJ2, hE3⟩ := hrel
        by_cases hlt2 : r < cs.length
        · have bj2 : (r : Int) < (cs.length : Int) := by omega
          go_wp2_with fail
          refine ((unhide HAt) _ hE3 r hlt2).mono ?_
          rintro e w4 ⟨rv4, rfl, i4, E4⟩
          have HS4 := hide (isSpace_any rv4 (cW cs (cs.length - 1 - r)) (cR cs (cs.length - 1 - r)) w4 i4)
          have hE4 := hE3.trans E4
          clear i4 E4
          go_wp2_with fail
          refine (unhide HS4).mono ?_
          rintro e w5 ⟨rfl, E5⟩
          have hE5 := hE4.trans E5
          cases hb2 : spB (cR cs (cs.length - 1 - r)) with
          | false =>
            have HJ3 : Hid (∀ q, j ≤ q → q < r + 1 → (!spB (cR cs (cs.length - 1 - q))) = true) := hide (fun q h1 h2 => by
              by_cases e : q = r
              · subst e; rw [hb2]; rfl
              · exact (unhide HJ2) q h1 (by omega))
            clear HS4 hb2 E5
            go_wp2
            go_roundw
            case rel => exact ⟨r + 1, by omega, by omega, by go_num, HJ3, hE5⟩
            case measure => simp [intOf]; omega
          | true =>
            have HW : Hid (Wd (fun j => spB (cR cs (cs.length - 1 - j))) cs.length r) := hide ⟨j, unhide HSK, hjr, hr9, unhide HJ2, fun _ => by simp [hb2]⟩
            clear HS4 hb2 E5
            go_wp2
            go_ret
            exact ⟨r, rfl, unhide HW, hE5⟩
        · obtain rfl : r = cs.length := by omega
          have hb7 : ¬ (cs.length : Int) < (cs.length : Int) := by omega
          have HW : Hid (Wd (fun j => spB (cR cs (cs.length - 1 - j))) cs.length cs.length) := hide ⟨j, unhide HSK, hjr, hr9, unhide HJ2, fun h => by omega⟩
          go_wp2
          go_ret
          exact ⟨_, rfl, unhide HW, hE3⟩
end Go.Proofs.YtokjpnlmkecleaaGreatDoor

namespace Go.Proofs.YtokjpnlmkecleaaGreatDoor
open Go.RowKit

section
variable {P base : Nat} {W0 W : World} {k : ByteArray} {u : Value} {un : List (ByteArray × ByteArray)} {cl rl rr : List Value}
set_option maxRecDepth 10000 in
set_option maxHeartbeats 4000000 in
theorem edGoLeft_any {A1 A2 B : List (List Int × Int)} (nw : Int) (h : Ed2 P base W0 W k u un (A1 ++ A2) B cl rl rr) :
    Calls Tryz.prog 122 #[.pointer (some ⟨P, 0, none⟩), .int .i64 (A2.length : Int), .int .i64 nw] W fun e w' => EdR P base W0 w' k un A1 (A2 ++ B) (if A2.length = 0 then nw else 1) e := by
  have H := hide (edGoL h)
  have H0 := hide h
  by_cases h0 : A2.length = 0
  · obtain rfl : A2 = [] := List.eq_nil_of_length_eq_zero h0
    rw [List.append_nil] at H0
    clear H h h0
    go_enter Tryz.func122, Tryz.ntmps122
    go_wp2
    exact bodyPost_ret (v := .int .i64 nw) (by simp [results, Tryz.results122, go_sem]) rfl ((unhide H0).end nw)
  · rw [if_neg h0]
    obtain ⟨n, hn⟩ : ∃ n, A2.length = n := ⟨_, rfl⟩
    rw [hn] at H h0 ⊢
    have hI : ¬ (n : Int) = 0 := by omega
    clear h hn H0
    go_enter Tryz.func122, Tryz.ntmps122
    go_wp2_with fail
    refine (unhide H).mono ?_
    rintro e w' ⟨cl', rl', rr', rfl, h2⟩
    have H2 := hide h2
    clear h2 H
    go_wp2
    exact bodyPost_ret (v := .int .i64 1) (by simp [results, Tryz.results122, go_sem]) rfl ((unhide H2).end 1)
set_option maxRecDepth 10000 in
set_option maxHeartbeats 4000000 in
theorem edGoRight_any {A B1 B2 : List (List Int × Int)} (nw : Int) (h : Ed2 P base W0 W k u un A (B1 ++ B2) cl rl rr) :
    Calls Tryz.prog 123 #[.pointer (some ⟨P, 0, none⟩), .int .i64 (B1.length : Int), .int .i64 nw] W fun e w' => EdR P base W0 w' k un (A ++ B1) B2 (if B1.length = 0 then nw else 1) e := by
  have H := hide (fun hp => edGoR hp h)
  have H0 := hide h
  by_cases h0 : B1.length = 0
  · obtain rfl : B1 = [] := List.eq_nil_of_length_eq_zero h0
    rw [List.nil_append] at H0
    rw [List.append_nil]
    clear H h h0
    go_enter Tryz.func123, Tryz.ntmps123
    go_wp2
    exact bodyPost_ret (v := .int .i64 nw) (by simp [results, Tryz.results123, go_sem]) rfl ((unhide H0).end nw)
  · rw [if_neg h0]
    replace H := hide ((unhide H) (by omega))
    obtain ⟨n, hn⟩ : ∃ n, B1.length = n := ⟨_, rfl⟩
    rw [hn] at H h0 ⊢
    have hI : ¬ (n : Int) = 0 := by omega
    clear h hn H0
    go_enter Tryz.func123, Tryz.ntmps123
    go_wp2_with fail
    refine (unhide H).mono ?_
    rintro e w' ⟨cl', rl', rr', rfl, h2⟩
    have H2 := hide h2
    clear h2 H
    go_wp2
    exact bodyPost_ret (v := .int .i64 1) (by simp [results, Tryz.results123, go_sem]) rfl ((unhide H2).end 1)
set_option maxRecDepth 10000 in
set_option maxHeartbeats 4000000 in
theorem edHome_any {A B : List (List Int × Int)} (kd : Int) (rv : Value) (h : Ed2 P base W0 W k u un A B cl rl rr) :
    Calls Tryz.prog 92 #[.pointer (some ⟨P, 0, none⟩), .agg #[.int .i64 kd, rv]] W fun e w' => EdR P base W0 w' k un [] (A ++ B) (if A.length = 0 then 0 else 1) e := by
  replace h := h.ext ((Ext.refl W).alloc (.cells #[.int .i64 kd, rv] 28))
  have H1 := hide (edLeftOf h)
  have H2 := hide (fun w (E : Ext _ w) => edGoLeft_any (A1 := []) (A2 := A) 0 (by rw [List.nil_append]; exact h.ext E))
  obtain ⟨n, hn⟩ : ∃ n, A.length = n := ⟨_, rfl⟩
  rw [hn] at H1 H2 ⊢
  obtain ⟨d, hd⟩ : ∃ d : Int, d = if n = 0 then 0 else 1 := ⟨_, rfl⟩
  rw [← hd] at H2 ⊢
  clear h hn hd
  go_enter Tryz.func92, Tryz.ntmps92
  go_wp2_with fail
  refine (unhide H1).mono ?_
  rintro e w1 ⟨rfl, -, E1⟩
  have H2' := hide ((unhide H2) w1 E1)
  clear H1 H2 E1
  go_wp2_with fail
  refine (unhide H2').mono ?_
  rintro e w2 ⟨rfl, h3⟩
  have H3 := hide h3
  clear h3 H2'
  go_wp2
  exact bodyPost_ret (v := .int .i64 d) (by simp [results, Tryz.results92, go_sem]) rfl ⟨rfl, unhide H3⟩
end
end Go.Proofs.YtokjpnlmkecleaaGreatDoor

namespace Go.Proofs.YtokjpnlmkecleaaGreatDoor
open Go.RowKit

section
variable {P base : Nat} {W0 W : World} {k : ByteArray} {u : Value} {un : List (ByteArray × ByteArray)} {cl rl rr : List Value}
set_option maxRecDepth 10000 in
set_option maxHeartbeats 4000000 in
theorem edEnd_any {A B : List (List Int × Int)} (kd : Int) (rv : Value) (h : Ed2 P base W0 W k u un A B cl rl rr) :
    Calls Tryz.prog 93 #[.pointer (some ⟨P, 0, none⟩), .agg #[.int .i64 kd, rv]] W fun e w' => EdR P base W0 w' k un (A ++ B) [] (if B.length = 0 then 0 else 1) e := by
  replace h := h.ext ((Ext.refl W).alloc (.cells #[.int .i64 kd, rv] 28))
  have H1 := hide (edRightOf h)
  have H2 := hide (fun w (E : Ext _ w) => edGoRight_any (B1 := B) (B2 := []) 0 (by rw [List.append_nil]; exact h.ext E))
  obtain ⟨n, hn⟩ : ∃ n, B.length = n := ⟨_, rfl⟩
  rw [hn] at H1 H2 ⊢
  obtain ⟨d, hd⟩ : ∃ d : Int, d = if n = 0 then 0 else 1 := ⟨_, rfl⟩
  rw [← hd] at H2 ⊢
  clear h hn hd
  go_enter Tryz.func93, Tryz.ntmps93
  go_wp2_with fail
  refine (unhide H1).mono ?_
  rintro e w1 ⟨ao, cap, rfl, -, E1⟩
  have H2' := hide ((unhide H2) w1 E1)
  clear H1 H2 E1
  go_wp2_with fail
  refine (unhide H2').mono ?_
  rintro e w2 ⟨rfl, h3⟩
  have H3 := hide h3
  clear h3 H2'
  go_wp2
  exact bodyPost_ret (v := .int .i64 d) (by simp [results, Tryz.results93, go_sem]) rfl ⟨rfl, unhide H3⟩
set_option maxRecDepth 10000 in
set_option maxHeartbeats 4000000 in
theorem edLeft_any {A1 A2 B : List (List Int × Int)} (kd : Int) (rv : Value) (hA : (A1.length = 0 ∧ A2.length = 0) ∨ A2.length = 1) (h : Ed2 P base W0 W k u un (A1 ++ A2) B cl rl rr) :
    Calls Tryz.prog 90 #[.pointer (some ⟨P, 0, none⟩), .agg #[.int .i64 kd, rv]] W fun e w' => EdR P base W0 w' k un A1 (A2 ++ B) (if A2.length = 0 then 2 else 1) e := by
  replace h := h.ext ((Ext.refl W).alloc (.cells #[.int .i64 kd, rv] 28))
  have H1 := hide (edLeftOf h)
  have H2 := hide (fun w (E : Ext _ w) => edGoLeft_any (A1 := A1) (A2 := A2) 2 (h.ext E))
  rw [List.length_append] at H1
  obtain ⟨n, hn⟩ : ∃ n, A1.length = n := ⟨_, rfl⟩
  obtain ⟨m, hm⟩ : ∃ m, A2.length = m := ⟨_, rfl⟩
  rw [hn, hm] at hA
  rw [hm] at H2 ⊢
  rw [hn, hm] at H1
  obtain ⟨d, hd⟩ : ∃ d : Int, d = if m = 0 then 2 else 1 := ⟨_, rfl⟩
  rw [← hd] at H2 ⊢
  clear h hn hm hd
  rcases hA with ⟨rfl, rfl⟩ | rfl
  · go_enter Tryz.func90, Tryz.ntmps90
    go_wp2_with fail
    refine (unhide H1).mono ?_
    rintro e w1 ⟨rfl, -, E1⟩
    have H2' := hide ((unhide H2) w1 E1)
    clear H1 H2 E1
    go_wp2_with fail
    refine (unhide H2').mono ?_
    rintro e w2 ⟨rfl, h3⟩
    have H3 := hide h3
    clear h3 H2'
    go_wp2
    exact bodyPost_ret (v := .int .i64 d) (by simp [results, Tryz.results90, go_sem]) rfl ⟨rfl, unhide H3⟩
  · by_cases h0 : n = 0
    · subst h0
      rw [show 0 + 1 = 1 from rfl] at H1
      go_enter Tryz.func90, Tryz.ntmps90
      go_wp2_with fail
      refine (unhide H1).mono ?_
      rintro e w1 ⟨rfl, -, E1⟩
      have H2' := hide ((unhide H2) w1 E1)
      clear H1 H2 E1
      go_wp2_with fail
      refine (unhide H2').mono ?_
      rintro e w2 ⟨rfl, h3⟩
      have H3 := hide h3
      clear h3 H2'
      go_wp2
      exact bodyPost_ret (v := .int .i64 d) (by simp [results, Tryz.results90, go_sem]) rfl ⟨rfl, unhide H3⟩
    · have h1 : ¬ ((n + 1 : Nat) : Int) < 1 := by omega
      have h2 : (1 : Int) < ((n + 1 : Nat) : Int) := by omega
      have h3 : ¬ ((n + 1 : Nat) : Int) ≤ 1 := by omega
      obtain ⟨p, hp⟩ : ∃ p, n + 1 = p := ⟨_, rfl⟩
      rw [hp] at H1 h1 h2 h3
      clear hp
      go_enter Tryz.func90, Tryz.ntmps90
      go_wp2_with fail
      refine (unhide H1).mono ?_
      rintro e w1 ⟨rfl, -, E1⟩
      have H2' := hide ((unhide H2) w1 E1)
      clear H1 H2 E1
      go_wp2_with fail
      refine (unhide H2').mono ?_
      rintro e w2 ⟨rfl, h3⟩
      have H3 := hide h3
      clear h3 H2'
      go_wp2
      exact bodyPost_ret (v := .int .i64 d) (by simp [results, Tryz.results90, go_sem]) rfl ⟨rfl, unhide H3⟩
set_option maxRecDepth 10000 in
set_option maxHeartbeats 4000000 in
theorem edRight_any {A1 A2 B : List (List Int × Int)} (kd : Int) (rv : Value) (hA : (B.length = 0 ∧ A2.length = 0) ∨ A2.length = 1) (h : Ed2 P base W0 W k u un A1 (A2 ++ B) cl rl rr) :
    Calls Tryz.prog 91 #[.pointer (some ⟨P, 0, none⟩), .agg #[.int .i64 kd, rv]] W fun e w' => EdR P base W0 w' k un (A1 ++ A2) B (if A2.length = 0 then 2 else 1) e := by
  replace h := h.ext ((Ext.refl W).alloc (.cells #[.int .i64 kd, rv] 28))
  have H1 := hide (edRightOf h)
  have H2 := hide (fun w (E : Ext _ w) => edGoRight_any (B1 := A2) (B2 := B) 2 (h.ext E))
  rw [List.length_append] at H1
  obtain ⟨n, hn⟩ : ∃ n, B.length = n := ⟨_, rfl⟩
  obtain ⟨m, hm⟩ : ∃ m, A2.length = m := ⟨_, rfl⟩
  rw [hn, hm] at hA
  rw [hm] at H2 ⊢
  rw [hn, hm] at H1
  obtain ⟨d, hd⟩ : ∃ d : Int, d = if m = 0 then 2 else 1 := ⟨_, rfl⟩
  rw [← hd] at H2 ⊢
  clear h hn hm hd
  rcases hA with ⟨rfl, rfl⟩ | rfl
  · go_enter Tryz.func91, Tryz.ntmps91
    go_wp2_with fail
    refine (unhide H1).mono ?_
    rintro e w1 ⟨ao, cap, rfl, -, E1⟩
    have H2' := hide ((unhide H2) w1 E1)
    clear H1 H2 E1
    go_wp2_with fail
    refine (unhide H2').mono ?_
    rintro e w2 ⟨rfl, h3⟩
    have H3 := hide h3
    clear h3 H2'
    go_wp2
    exact bodyPost_ret (v := .int .i64 d) (by simp [results, Tryz.results91, go_sem]) rfl ⟨rfl, unhide H3⟩
  · by_cases h0 : n = 0
    · subst h0
      rw [show 1 + 0 = 1 from rfl] at H1
      go_enter Tryz.func91, Tryz.ntmps91
      go_wp2_with fail
      refine (unhide H1).mono ?_
      rintro e w1 ⟨ao, cap, rfl, -, E1⟩
      have H2' := hide ((unhide H2) w1 E1)
      clear H1 H2 E1
      go_wp2_with fail
      refine (unhide H2').mono ?_
      rintro e w2 ⟨rfl, h3⟩
      have H3 := hide h3
      clear h3 H2'
      go_wp2
      exact bodyPost_ret (v := .int .i64 d) (by simp [results, Tryz.results91, go_sem]) rfl ⟨rfl, unhide H3⟩
    · have h1 : ¬ ((1 + n : Nat) : Int) < 1 := by omega
      have h2 : (1 : Int) < ((1 + n : Nat) : Int) := by omega
      have h3 : ¬ ((1 + n : Nat) : Int) ≤ 1 := by omega
      obtain ⟨p, hp⟩ : ∃ p, 1 + n = p := ⟨_, rfl⟩
      rw [hp] at H1 h1 h2 h3
      clear hp
      go_enter Tryz.func91, Tryz.ntmps91
      go_wp2_with fail
      refine (unhide H1).mono ?_
      rintro e w1 ⟨ao, cap, rfl, -, E1⟩
      have H2' := hide ((unhide H2) w1 E1)
      clear H1 H2 E1
      go_wp2_with fail
      refine (unhide H2').mono ?_
      rintro e w2 ⟨rfl, h3⟩
      have H3 := hide h3
      clear h3 H2'
      go_wp2
      exact bodyPost_ret (v := .int .i64 d) (by simp [results, Tryz.results91, go_sem]) rfl ⟨rfl, unhide H3⟩
end
end Go.Proofs.YtokjpnlmkecleaaGreatDoor

namespace Go.Proofs.YtokjpnlmkecleaaGreatDoor
open Go.RowKit

theorem edC_kill {cl : List Value} {fr bh : Int} {k k' : ByteArray} {u : Value} (h : cl.length = 600) : (edC cl fr bh k u).setIfInBounds 602 (.string k') = edC cl fr bh k' u := by
  unfold edC
  simp [h]
theorem edG_kill {W : World} {P : Nat} {cl : List Value} {fr bh : Int} {k : ByteArray} {u : Value} (h : W.heap[P]? = some (.cells (edC cl fr bh k u) 99 (0, 0))) : W.frozen? ⟨P, 602, none⟩ = false := Lib.frozen_of_heap h 602
section
variable {P base : Nat} {W0 W : World} {k : ByteArray} {u : Value} {un : List (ByteArray × ByteArray)} {cl rl rr : List Value}
/-- What is killed is set. -/
theorem Ed2.kill {A B : List (List Int × Int)} (h : Ed2 P base W0 W k u un A B cl rl rr) (k' : ByteArray) : Ed2 P base W0 (W.setCell ⟨P, 602, none⟩ (.string k')) k' u un A B cl rl rr := by
  have f : Fr (fun q => q = P) W (W.setCell ⟨P, 602, none⟩ (.string k')) := Fr.setCell (S := fun q => q = P) (Fr.refl _ W) (a := ⟨P, 602, none⟩) rfl _
  have hb := heap_setCell_same W P 602 _ _ (.string k') h.blk
  rw [edC_kill h.gap.len] at hb
  exact h.step hb (h.gap.fr f) f
end
section
variable {P base : Nat} {W : World} {k : ByteArray} {u : Value} {qs : List Nat} {un : List (ByteArray × ByteArray)} {cl rl rr : List Value}
set_option maxRecDepth 10000 in
set_option maxHeartbeats 4000000 in
theorem killBy_no {w : World} {A B : List (List Int × Int)} (tk : Value) (h : Ed0 P base W k u qs un A B cl rl rr) (E : Ext W w) :
    Calls Tryz.prog 127 #[.pointer (some ⟨P, 0, none⟩), tk, .int .i64 0] w fun e w' => EdR P base W w' k un A B 2 e := by
  have H0 := hide (h.same E 2)
  clear h E
  go_enter Tryz.func127, Tryz.ntmps127
  go_wp2
  exact bodyPost_ret (v := .int .i64 2) (by simp [results, Tryz.results127, go_sem]) rfl (unhide H0)
set_option maxRecDepth 10000 in
set_option maxHeartbeats 4000000 in
theorem killByL_any {w : World} {A1 A2 B : List (List Int × Int)} (hp : 0 < A2.length) (hc : CkC A2) (h : Ed0 P base W k u qs un (A1 ++ A2) B cl rl rr) (E : Ext W w) :
    Calls Tryz.prog 127 #[.pointer (some ⟨P, 0, none⟩), .func (.func 120) #[.pointer (some ⟨P, 0, none⟩)] #[], .int .i64 (A2.length : Int)] w fun e w' => EdR P base W w' (toBA (textC A2)) (undoN un (toBA (textC (A1 ++ A2)), toBA (textC B))) A1 B 1 e := by
  have H1 := hide (edChangeE h E)
  have H2 := hide (fun w u' un' (g : Ed2 P base W w k u' un' (A1 ++ A2) B cl rl rr) => edTakeL g)
  have H3 := hide (fun w v (hv : ClsAt w v A2) => implTextOf_any v A2 w hv hc.1 hc.2)
  obtain ⟨n, hn⟩ : ∃ n, A2.length = n := ⟨_, rfl⟩
  rw [hn] at hp H2 ⊢
  have hI : ¬ (n : Int) = 0 := by omega
  have hI2 : ¬ n = 0 := by omega
  clear h hn E hc
  go_enter Tryz.func127, Tryz.ntmps127
  go_wp2_with fail
  refine (unhide H1).mono ?_
  rintro e w1 ⟨u1, rfl, g1, -⟩
  have H2' := hide ((unhide H2) w1 u1 _ g1)
  clear H1 g1 H2
  go_wp2_with fail
  refine (unhide H2').mono ?_
  rintro e w2 ⟨v2, rl2, rfl, g2, c2⟩
  have H3' := hide ((unhide H3) w2 v2 c2)
  have HG := hide g2
  clear H2' g2 c2 H3
  go_wp2_with fail
  refine (unhide H3').mono ?_
  rintro e w3 ⟨rfl, E3⟩
  have HG3 := hide ((unhide HG).ext E3)
  have c602 := (edG_cells (unhide HG3).blk (unhide HG3).gap.len).2.2.1
  have f602 := edG_kill (unhide HG3).blk
  have H4 := hide (((unhide HG3).kill (toBA (textC A2))).end 1)
  clear HG E3 H3'
  go_wp2
  exact bodyPost_ret (v := .int .i64 1) (by simp [results, Tryz.results127, go_sem]) rfl (unhide H4)
set_option maxRecDepth 10000 in
set_option maxHeartbeats 4000000 in
theorem killByR_any {w : World} {A B1 B2 : List (List Int × Int)} (hp : 0 < B1.length) (hc : CkC B1) (h : Ed0 P base W k u qs un A (B1 ++ B2) cl rl rr) (E : Ext W w) :
    Calls Tryz.prog 127 #[.pointer (some ⟨P, 0, none⟩), .func (.func 121) #[.pointer (some ⟨P, 0, none⟩)] #[], .int .i64 (B1.length : Int)] w fun e w' => EdR P base W w' (toBA (textC B1)) (undoN un (toBA (textC A), toBA (textC (B1 ++ B2)))) A B2 1 e := by
  have H1 := hide (edChangeE h E)
  have H2 := hide (fun w u' un' (g : Ed2 P base W w k u' un' A (B1 ++ B2) cl rl rr) => edTakeR g)
  have H3 := hide (fun w v (hv : ClsAt w v B1) => implTextOf_any v B1 w hv hc.1 hc.2)
  obtain ⟨n, hn⟩ : ∃ n, B1.length = n := ⟨_, rfl⟩
  rw [hn] at hp H2 ⊢
  have hI : ¬ (n : Int) = 0 := by omega
  have hI2 : ¬ n = 0 := by omega
  clear h hn E hc
  go_enter Tryz.func127, Tryz.ntmps127
  go_wp2_with fail
  refine (unhide H1).mono ?_
  rintro e w1 ⟨u1, rfl, g1, -⟩
  have H2' := hide ((unhide H2) w1 u1 _ g1)
  clear H1 g1 H2
  go_wp2_with fail
  refine (unhide H2').mono ?_
  rintro e w2 ⟨v2, rl2, rfl, g2, c2⟩
  have H3' := hide ((unhide H3) w2 v2 c2)
  have HG := hide g2
  clear H2' g2 c2 H3
  go_wp2_with fail
  refine (unhide H3').mono ?_
  rintro e w3 ⟨rfl, E3⟩
  have HG3 := hide ((unhide HG).ext E3)
  have c602 := (edG_cells (unhide HG3).blk (unhide HG3).gap.len).2.2.1
  have f602 := edG_kill (unhide HG3).blk
  have H4 := hide (((unhide HG3).kill (toBA (textC B1))).end 1)
  clear HG E3 H3'
  go_wp2
  exact bodyPost_ret (v := .int .i64 1) (by simp [results, Tryz.results127, go_sem]) rfl (unhide H4)
end
end Go.Proofs.YtokjpnlmkecleaaGreatDoor
