import Derived.Test.YtokjpnlmkecleaaGreatDoorEdW
import Derived.Test.YtokjpnlmkecleaaGreatDoorSpecRune2
import Derived.Test.YtokjpnlmkecleaaGreatDoorBlocks
import Derived.Test.YtokjpnlmkecleaaGreatDoorRwImpl
import Derived.Laws.CopyRow
namespace Go.Proofs.YtokjpnlmkecleaaGreatDoor
open Go.RowKit

theorem wd_left {cs : List (List Int × Int)} {m r : Nat} (hm : m ≤ cs.length) (hr : r ≤ m) (h1 : ∀ q, m ≤ q → q < cs.length → spB (cR cs q) = true) (h2 : 0 < m → spB (cR cs (m - 1)) = false) (h3 : ∀ q, r ≤ q → q < m → spB (cR cs q) = false) (h4 : 0 < r → spB (cR cs (r - 1)) = true) : Wd (fun j => spB (cR cs (cs.length - 1 - j))) cs.length (cs.length - r) := by
  refine ⟨cs.length - m, ⟨Nat.zero_le _, by omega, fun j _ hj => h1 _ (by omega) (by omega), fun h => ?_⟩, by omega, by omega, fun j hj1 hj2 => ?_, fun h => ?_⟩
  · show spB (cR cs (cs.length - 1 - (cs.length - m))) = false
    rw [show cs.length - 1 - (cs.length - m) = m - 1 by omega]
    exact h2 (by omega)
  · show (!spB (cR cs (cs.length - 1 - j))) = true
    rw [h3 _ (by omega) (by omega)]
    rfl
  · show (!spB (cR cs (cs.length - 1 - (cs.length - r)))) = false
    rw [show cs.length - 1 - (cs.length - r) = r - 1 by omega, h4 (by omega)]
    rfl
set_option maxRecDepth 10000 in
set_option maxHeartbeats 2000000 in
theorem l4WordLeft_any (v : Value) (cs : List (List Int × Int)) (w : World) (hv : ClsAt w v cs) (hl : cs.length ≤ 16777216) :
    Calls Tryz.prog 36 #[v] w fun e w' => ∃ r : Nat, e = .returned (.int .i64 (r : Int)) ∧ r ≤ cs.length ∧ Wd (fun j => spB (cR cs (cs.length - 1 - j))) cs.length (cs.length - r) ∧ Ext w w' := by
  obtain ⟨rs, ao, ca, rfl, hca, hr, hx⟩ := hv
  have HX := hide hx
  have HR := hide hr
  clear hx hr
  go_enter Tryz.func36, Tryz.ntmps36
  go_wp2
  go_loopw [3] (fun i wr => ∃ (m : Nat), m ≤ cs.length ∧ i = .int .i64 m ∧ Hid (∀ q, m ≤ q → q < cs.length → spB (cR cs q) = true) ∧ Ext w wr) (fun i _ => (intOf i).toNat)
  case atStart => exact ⟨cs.length, Nat.le_refl _, rfl, hide (fun q h1 h2 => by omega), Ext.refl _⟩
  case round =>
    obtain ⟨m, hmn, rfl, HJ, hE⟩ := hrel
    by_cases hlt : 0 < m
    · obtain ⟨b, off, hao, hc⟩ := (unhide HX) (by omega)
      subst hao
      have g1 := hE.cell (hc (m - 1) (by omega)).1
      have g2 := hE.cell (hc (m - 1) (by omega)).2
      have bj : (0 : Int) < (m : Int) := by omega
      have hw1 : IntKind.i64.wrap ((m : Int) - 1) = ((m - 1 : Nat) : Int) := by rw [IntKind.wrap_i64]; omega
      have bk : ((m - 1 : Nat) : Int) < (cs.length : Int) := by omega
      have HS := hide (fun W (E : Ext w W) => l4Space_any (rV rs (m - 1)) (cW cs (m - 1)) (cR cs (m - 1)) W (((unhide HR) (m - 1) (by omega)).ext E))
      clear hc
      go_wp2_with fail
      refine ((unhide HS) _ hE).mono ?_
      rintro e w1 ⟨rfl, E1⟩
      have hE2 := hE.trans E1
      cases hb : spB (cR cs (m - 1)) with
      | true =>
        have HJ3 : Hid (∀ q, m - 1 ≤ q → q < cs.length → spB (cR cs q) = true) := hide (fun q h1 h2 => by
          by_cases e : q = m - 1
          · subst e; exact hb
          · exact (unhide HJ) q (by omega) h2)
        clear HS g1 g2 hb E1
        go_wp2
        go_roundw
        case rel => exact ⟨m - 1, by omega, by go_num, HJ3, hE2⟩
        case measure => simp [intOf]; omega
      | false =>
        have HSK : Hid (0 < m → spB (cR cs (m - 1)) = false) := hide (fun _ => hb)
        clear HS g1 g2 hb E1 hE
        go_wp2
        go_loopw [3] (fun i wr => ∃ (r : Nat), r ≤ m ∧ i = .int .i64 r ∧ Hid (∀ q, r ≤ q → q < m → spB (cR cs q) = false) ∧ Ext w wr) (fun i _ => (intOf i).toNat)
        case atStart => exact ⟨m, Nat.le_refl _, rfl, hide (fun q h1 h2 => by omega), hE2⟩
        case round =>
          obtain ⟨r, hrm, rfl, HJ2, hE3⟩ := hrel
          by_cases hlt2 : 0 < r
          · obtain ⟨b2, off2, hao2, hc2⟩ := (unhide HX) (by omega)
            first | subst hao2 | (obtain ⟨rfl, rfl⟩ := Addr.mk.inj (Option.some.inj hao2) |>.imp id (fun h => h.1))
            have q1 := hE3.cell (hc2 (r - 1) (by omega)).1
            have q2 := hE3.cell (hc2 (r - 1) (by omega)).2
            have bj2 : (0 : Int) < (r : Int) := by omega
            have hw2 : IntKind.i64.wrap ((r : Int) - 1) = ((r - 1 : Nat) : Int) := by rw [IntKind.wrap_i64]; omega
            have bk2 : ((r - 1 : Nat) : Int) < (cs.length : Int) := by omega
            have HS2 := hide (l4Space_any (rV rs (r - 1)) (cW cs (r - 1)) (cR cs (r - 1)) _ (((unhide HR) (r - 1) (by omega)).ext hE3))
            clear hc2
            go_wp2_with fail
            refine (unhide HS2).mono ?_
            rintro e w5 ⟨rfl, E5⟩
            have hE5 := hE3.trans E5
            cases hb2 : spB (cR cs (r - 1)) with
            | false =>
              have HJ3 : Hid (∀ q, r - 1 ≤ q → q < m → spB (cR cs q) = false) := hide (fun q h1 h2 => by
                by_cases e : q = r - 1
                · subst e; exact hb2
                · exact (unhide HJ2) q (by omega) h2)
              clear HS2 q1 q2 hb2 E5
              go_wp2
              go_roundw
              case rel => exact ⟨r - 1, by omega, by go_num, HJ3, hE5⟩
              case measure => simp [intOf]; omega
            | true =>
              have HW : Hid (Wd (fun j => spB (cR cs (cs.length - 1 - j))) cs.length (cs.length - r)) := hide (wd_left hmn hrm (unhide HJ) (unhide HSK) (unhide HJ2) (fun _ => hb2))
              clear HS2 q1 q2 hb2 E5
              go_wp2
              go_ret
              exact ⟨r, rfl, by omega, unhide HW, hE5⟩
          · obtain rfl : r = 0 := by omega
            have HW : Hid (Wd (fun j => spB (cR cs (cs.length - 1 - j))) cs.length (cs.length - 0)) := hide (wd_left hmn hrm (unhide HJ) (unhide HSK) (unhide HJ2) (fun h => by omega))
            go_wp2
            go_ret
            exact ⟨0, rfl, by omega, unhide HW, hE3⟩
    · have hb9 : ¬ (0 : Int) < (m : Int) := by omega
      have HSK : Hid (0 < m → spB (cR cs (m - 1)) = false) := hide (fun h => by omega)
      have hE2 := hE
      clear hE
      go_wp2
      go_loopw [3] (fun i wr => ∃ (r : Nat), r ≤ m ∧ i = .int .i64 r ∧ Hid (∀ q, r ≤ q → q < m → spB (cR cs q) = false) ∧ Ext w wr) (fun i _ => (intOf i).toNat)
      case atStart => exact ⟨m, Nat.le_refl _, rfl, hide (fun q h1 h2 => by omega), hE2⟩
      case round =>
        obtain ⟨r, hrm, rfl, HJ2, hE3⟩ := hrel
        by_cases hlt2 : 0 < r
        · obtain ⟨b2, off2, hao2, hc2⟩ := (unhide HX) (by omega)
          first | subst hao2 | (obtain ⟨rfl, rfl⟩ := Addr.mk.inj (Option.some.inj hao2) |>.imp id (fun h => h.1))
          have q1 := hE3.cell (hc2 (r - 1) (by omega)).1
          have q2 := hE3.cell (hc2 (r - 1) (by omega)).2
          have bj2 : (0 : Int) < (r : Int) := by omega
          have hw2 : IntKind.i64.wrap ((r : Int) - 1) = ((r - 1 : Nat) : Int) := by rw [IntKind.wrap_i64]; omega
          have bk2 : ((r - 1 : Nat) : Int) < (cs.length : Int) := by omega
          have HS2 := hide (l4Space_any (rV rs (r - 1)) (cW cs (r - 1)) (cR cs (r - 1)) _ (((unhide HR) (r - 1) (by omega)).ext hE3))
          clear hc2
          go_wp2_with fail
          refine (unhide HS2).mono ?_
          rintro e w5 ⟨rfl, E5⟩
          have hE5 := hE3.trans E5
          cases hb2 : spB (cR cs (r - 1)) with
          | false =>
            have HJ3 : Hid (∀ q, r - 1 ≤ q → q < m → spB (cR cs q) = false) := hide (fun q h1 h2 => by
              by_cases e : q = r - 1
              · subst e; exact hb2
              · exact (unhide HJ2) q (by omega) h2)
            clear HS2 q1 q2 hb2 E5
            go_wp2
            go_roundw
            case rel => exact ⟨r - 1, by omega, by go_num, HJ3, hE5⟩
            case measure => simp [intOf]; omega
          | true =>
            have HW : Hid (Wd (fun j => spB (cR cs (cs.length - 1 - j))) cs.length (cs.length - r)) := hide (wd_left hmn hrm (unhide HJ) (unhide HSK) (unhide HJ2) (fun _ => hb2))
            clear HS2 q1 q2 hb2 E5
            go_wp2
            go_ret
            exact ⟨r, rfl, by omega, unhide HW, hE5⟩
        · obtain rfl : r = 0 := by omega
          have HW : Hid (Wd (fun j => spB (cR cs (cs.length - 1 - j))) cs.length (cs.length - 0)) := hide (wd_left hmn hrm (unhide HJ) (unhide HSK) (unhide HJ2) (fun h => by omega))
          go_wp2
          go_ret
          exact ⟨0, rfl, by omega, unhide HW, hE3⟩
end Go.Proofs.YtokjpnlmkecleaaGreatDoor

namespace Go.Proofs.YtokjpnlmkecleaaGreatDoor
open Go.RowKit

theorem flat_take (cs : List (List Int × Int)) (j : Nat) (hj : j < cs.length) : flat (cs.take (j + 1)) = flat (cs.take j) ++ cR cs j := by
  rw [List.take_succ_eq_append_getElem hj, flat_app]
  simp [flat, cR, hj]
theorem flat_len (cs : List (List Int × Int)) : (flat cs).length = sumR cs cs.length := by
  have h : ∀ k, k ≤ cs.length → (flat (cs.take k)).length = sumR cs k := by
    intro k
    induction k with
    | zero => intro _; simp [flat, sumR]
    | succ k ih => intro hk; rw [flat_take cs k (by omega), List.length_append, ih (by omega), sumR]
  have := h cs.length (Nat.le_refl _)
  rwa [List.take_length] at this
set_option maxRecDepth 10000 in
set_option maxHeartbeats 2000000 in
theorem runesOf_any (v : Value) (cs : List (List Int × Int)) (w : World) (hv : ClsAt w v cs) (hl : cs.length + sumR cs cs.length ≤ 16777216) :
    Calls Tryz.prog 136 #[v] w fun e w' => ∃ v', e = .returned v' ∧ w'.ownsRow w.heap.size 21 1 v' (flat cs).length ((flat cs).map (Value.int .i32)) ∧ Ext w w' := by
  obtain ⟨ii, hii, hi0, hi1, hi2⟩ := info_parts infoI32u
  obtain ⟨rs, ao, ca, rfl, hca, hr, hx⟩ := hv
  have HX := hide hx
  have HR := hide hr
  clear hx hr
  go_enter Tryz.func136, Tryz.ntmps136
  go_wp2
  go_loopw [3, 8] (fun o i wr => ∃ (j : Nat), j ≤ cs.length ∧ i = .int .i64 j ∧ Hid (wr.ownsRow w.heap.size 21 1 o (flat (cs.take j)).length ((flat (cs.take j)).map (Value.int .i32))) ∧ Ext w wr) (fun _ i _ => cs.length - (intOf i).toNat)
  case atStart => exact ⟨0, Nat.zero_le _, rfl, hide (by simpa [flat] using owns_nil _ _ _ _), Ext.refl _⟩
  case round =>
    obtain ⟨j, hj, rfl, HO, hE⟩ := hrel
    by_cases hlt : j < cs.length
    · obtain ⟨b, off, hao, hc⟩ := (unhide HX) (by omega)
      subst hao
      have g1 := hE.cell (hc j hlt).1
      have g2 := hE.cell (hc j hlt).2
      have hIn := (unhide HR) j hlt
      obtain ⟨ra, rc, hrv, _⟩ := id hIn
      rw [hrv] at g1 hIn
      have bj : (j : Int) < (cs.length : Int) := by omega
      have HSR := hide (fun W (E : Ext w W) => Src.ints (hIn.ext E))
      have hfl := flat_take cs j hlt
      have HFL := hide hfl
      have hb1 : (flat (cs.take j)).length ≤ 16777216 ∧ (cR cs j).length ≤ 16777216 := by
        have h1 := flat_len cs
        have h2 : (flat cs).length = (flat (cs.take (j + 1))).length + (flat (cs.drop (j + 1))).length := by rw [← List.length_append, ← flat_app, List.take_append_drop]
        rw [hfl, List.length_append] at h2
        omega
      clear hc hIn hrv hfl
      go_wp2_with (at_builtin; go_loud (
        refine wpList_app rfl _ _ 26 rfl w.heap.size 21 ii (.int .i32 0) 1 4 Tryz.underlying26 hii hi0 hi1 hi2 rfl (by decide) _ (flat (cs.take j)).length _ rfl ((unhide HO).alloc _) _ (cR cs j).length ((cR cs j).map (Value.int .i32)) rfl ((unhide HSR) _ (hE.alloc _)) (by unfold maxLen; omega) (by omega) (by have := hE.size; simp; omega) ?_
        intro v5 w5 o5 G5 _
        have E5 : Ext w w5 := (hE.alloc _).grown G5 (fun q hq => ((unhide HO).lt q hq).1)
        rw [← List.length_append, ← List.map_append, ← unhide HFL] at o5
        have HO5 := hide o5
        clear o5 G5))
      go_roundw
      case rel => exact ⟨j + 1, by omega, by go_num, HO5, E5⟩
      case measure => simp [intOf]; omega
    · obtain rfl : j = cs.length := by omega
      have hb9 : ¬ (cs.length : Int) < (cs.length : Int) := by omega
      rw [List.take_length] at HO
      go_wp2
      go_ret
      exact ⟨_, rfl, unhide HO, hE⟩
end Go.Proofs.YtokjpnlmkecleaaGreatDoor

namespace Go.Proofs.YtokjpnlmkecleaaGreatDoor
open Go.RowKit

/-- The cells of two rows, side by side. -/
def pairsL (A B : Nat → Value) (n : Nat) : List Value := (List.range (n * 2)).map (fun q => if q % 2 = 0 then A (q / 2) else B (q / 2))
theorem pairsL_len (A B : Nat → Value) (n : Nat) : (pairsL A B n).length = n * 2 := by simp [pairsL]
theorem pairsL_at (A B : Nat → Value) (n j : Nat) (hj : j < n) : (pairsL A B n)[j * 2]? = some (A j) ∧ (pairsL A B n)[j * 2 + 1]? = some (B j) := by
  unfold pairsL
  constructor
  · rw [List.getElem?_map, List.getElem?_range (by omega)]
    simp
  · rw [List.getElem?_map, List.getElem?_range (by omega)]
    have h1 : (j * 2 + 1) % 2 = 1 := by omega
    have h2 : (j * 2 + 1) / 2 = j := by omega
    simp [h1, h2]
theorem pairsL_news {w : World} {A B : Nat → Value} {n b off : Nat} (h : ∀ j, j < n → w.cell? ⟨b, off + j * 2, none⟩ = some (A j) ∧ w.cell? ⟨b, off + j * 2 + 1, none⟩ = some (B j)) :
    ∀ j u, (pairsL A B n)[j]? = some u → w.cell? ((⟨b, off, none⟩ : Addr).add j) = some u := by
  intro j u hu
  rw [Addr.add_lit]
  have hj : j < n * 2 := by
    have := (List.getElem?_eq_some_iff.1 hu).1
    rwa [pairsL_len] at this
  obtain ⟨h1, h2⟩ := pairsL_at A B n (j / 2) (by omega)
  obtain ⟨c1, c2⟩ := h (j / 2) (by omega)
  by_cases e : j % 2 = 0
  · have ej : j / 2 * 2 = j := by omega
    rw [ej] at h1 c1
    rw [h1] at hu
    rw [c1]
    exact hu
  · have ej : j / 2 * 2 + 1 = j := by omega
    rw [ej] at h2
    rw [h2] at hu
    rw [Nat.add_assoc, ej] at c2
    rw [c2]
    exact hu
theorem pairsL_one {A B : Nat → ByteArray} {n : Nat} : ∀ u ∈ pairsL (fun j => .string (A j)) (fun j => .string (B j)) n, u.oneCell' = true := by
  intro u hu
  simp only [pairsL, List.mem_map] at hu
  obtain ⟨q, _, rfl⟩ := hu
  split <;> rfl
end Go.Proofs.YtokjpnlmkecleaaGreatDoor

namespace Go.Proofs.YtokjpnlmkecleaaGreatDoor
open Go.RowKit

/-- Undo behind one more change. -/
def undoN (un : List (ByteArray × ByteArray)) (s : ByteArray × ByteArray) : List (ByteArray × ByteArray) := if 50 < un.length + 1 then (un ++ [s]).drop 1 else un ++ [s]
def unL (tx hf : Nat → ByteArray) (n : Nat) : List (ByteArray × ByteArray) := (List.range n).map (fun j => (tx j, hf j))
theorem unL_succ (tx hf : Nat → ByteArray) (n : Nat) : unL tx hf (n + 1) = unL tx hf n ++ [(tx n, hf n)] := by unfold unL; rw [List.range_succ]; simp
theorem unL_len (tx hf : Nat → ByteArray) (n : Nat) : (unL tx hf n).length = n := by unfold unL; simp
/-- Pairs of texts as two rows. -/
def lnT (un : List (ByteArray × ByteArray)) (j : Nat) : ByteArray := ((un[j]?).getD (noT, noT)).1
def lnH (un : List (ByteArray × ByteArray)) (j : Nat) : ByteArray := ((un[j]?).getD (noT, noT)).2
theorem lnT_at {un : List (ByteArray × ByteArray)} {j : Nat} {s : ByteArray × ByteArray} (h : un[j]? = some s) : lnT un j = s.1 := by simp [lnT, h]
theorem lnH_at {un : List (ByteArray × ByteArray)} {j : Nat} {s : ByteArray × ByteArray} (h : un[j]? = some s) : lnH un j = s.2 := by simp [lnH, h]
theorem unL_at (tx hf : Nat → ByteArray) {n j : Nat} (h : j < n) : (unL tx hf n)[j]? = some (tx j, hf j) := by simp [unL, h]
theorem lnT_un (tx hf : Nat → ByteArray) {n j : Nat} (h : j < n) : lnT (unL tx hf n) j = tx j := lnT_at (unL_at tx hf h)
theorem lnH_un (tx hf : Nat → ByteArray) {n j : Nat} (h : j < n) : lnH (unL tx hf n) j = hf j := lnH_at (unL_at tx hf h)
theorem pairsL_succ (A B : Nat → Value) (n : Nat) : pairsL A B (n + 1) = pairsL A B n ++ [A n, B n] := by
  unfold pairsL
  rw [show (n + 1) * 2 = n * 2 + 1 + 1 by omega, List.range_succ, List.range_succ]
  simp only [List.map_append, List.map_cons, List.map_nil, List.append_assoc]
  rw [show (n * 2) % 2 = 0 by omega, show (n * 2 + 1) % 2 = 1 by omega, show n * 2 / 2 = n by omega, show (n * 2 + 1) / 2 = n by omega]
  simp
theorem unL_eq (tx hf : Nat → ByteArray) (n : Nat) (un : List (ByteArray × ByteArray)) (h : un = unL tx hf n) : un.length = n := by rw [h, unL_len]
theorem undoN_len (un : List (ByteArray × ByteArray)) (s : ByteArray × ByteArray) (h : un.length ≤ 50) : (undoN un s).length ≤ 50 := by
  unfold undoN
  split
  · simp; omega
  · simp; omega
theorem pairsL_congr {A B A' B' : Nat → Value} {n : Nat} (h : ∀ j, j < n → A j = A' j ∧ B j = B' j) : pairsL A B n = pairsL A' B' n := by
  unfold pairsL
  refine List.map_congr_left (fun q hq => ?_)
  have hq' : q < n * 2 := List.mem_range.1 hq
  have := h (q / 2) (by omega)
  split
  · exact this.1
  · exact this.2
/-- Pairs of texts as cells. -/
def prL (un : List (ByteArray × ByteArray)) : List Value := pairsL (fun j => .string (lnT un j)) (fun j => .string (lnH un j)) un.length
theorem prL_snoc (un : List (ByteArray × ByteArray)) (s : ByteArray × ByteArray) : prL (un ++ [s]) = prL un ++ [.string s.1, .string s.2] := by
  unfold prL
  rw [List.length_append, List.length_singleton, pairsL_succ]
  have h0 : (un ++ [s])[un.length]? = some s := by simp
  rw [lnT_at h0, lnH_at h0]
  refine congrArg (· ++ _) (pairsL_congr (fun j hj => ?_))
  have h1 : (un ++ [s])[j]? = un[j]? := List.getElem?_append_left hj
  simp [lnT, lnH, h1]
theorem prL_un (tx hf : Nat → ByteArray) (n : Nat) : prL (unL tx hf n) = pairsL (fun j => .string (tx j)) (fun j => .string (hf j)) n := by
  unfold prL
  rw [unL_len]
  exact pairsL_congr (fun j hj => ⟨by rw [lnT_un tx hf hj], by rw [lnH_un tx hf hj]⟩)
theorem lnT_drop (un : List (ByteArray × ByteArray)) (j : Nat) : lnT (un.drop 1) j = lnT un (j + 1) := by simp [lnT]
theorem lnH_drop (un : List (ByteArray × ByteArray)) (j : Nat) : lnH (un.drop 1) j = lnH un (j + 1) := by simp [lnH]
theorem prL_at (un : List (ByteArray × ByteArray)) (j : Nat) (hj : j < un.length) : (prL un)[j * 2]? = some (.string (lnT un j)) ∧ (prL un)[j * 2 + 1]? = some (.string (lnH un j)) := pairsL_at _ _ _ j hj
theorem own2_list {w : World} {base : Nat} {T : TypeId} {v : Value} {n : Nat} {A B : Nat → Value} (h : Own2 w base T v n A B) : w.ownsRow base T 2 v n (pairsL A B n) := by
  obtain ⟨ys, h1, h2⟩ := h
  have hl : ys.length = n * 2 := h1.1
  have e : ys = pairsL A B n := by
    refine List.ext_getElem? (fun i => ?_)
    by_cases hi : i < n * 2
    · obtain ⟨a1, a2⟩ := h2 (i / 2) (by omega)
      obtain ⟨b1, b2⟩ := pairsL_at A B n (i / 2) (by omega)
      by_cases e : i % 2 = 0
      · rw [show i / 2 * 2 = i by omega] at a1 b1
        rw [a1, b1]
      · rw [show i / 2 * 2 + 1 = i by omega] at a2 b2
        rw [a2, b2]
    · rw [List.getElem?_eq_none (by omega), List.getElem?_eq_none (by rw [pairsL_len]; omega)]
  rw [← e]
  exact h1
end Go.Proofs.YtokjpnlmkecleaaGreatDoor

namespace Go.Proofs.YtokjpnlmkecleaaGreatDoor
open Go.RowKit

theorem goodC_ne {c : List Int × Int} (h : GoodC c) : c.1 ≠ [] := by
  intro e
  unfold GoodC at h
  rw [e] at h
  simp at h
theorem textC_pos {X : List (List Int × Int)} (h : ∀ c ∈ X, GoodC c) (hX : X ≠ []) : textC X ≠ [] := by
  cases X with
  | nil => exact absurd rfl hX
  | cons c cs =>
    have h1 := goodC_ne (h c (by simp))
    intro e
    rw [textC_flat, flat] at e
    cases hc : c.1 with
    | nil => exact h1 hc
    | cons x xs =>
      rw [hc] at e
      have hp := encR_pos x
      simp [encA] at e
      rw [e.1] at hp
      simp at hp
theorem cut_good (L : List Int) : ∀ c ∈ cutC L, GoodC c := clus_good _
theorem cut_nil {L : List Int} (h : settleL L = L) : (cutC L).length = 0 ↔ L = [] := by
  constructor
  · intro h0
    have e : cutC L = [] := List.eq_nil_of_length_eq_zero h0
    have h1 : textC (cutC L) = L := h
    rw [e] at h1
    exact h1.symm
  · rintro rfl
    rfl
/-- How far a word goes. -/
def skF (p : Nat → Bool) (n : Nat) : Nat → Nat → Nat
  | 0, i => i
  | f + 1, i => if i < n ∧ p i = true then skF p n f (i + 1) else i
theorem skF_sk (p : Nat → Bool) (n : Nat) : ∀ f i, i ≤ n → n ≤ i + f → Sk p n i (skF p n f i)
  | 0, i, h1, h2 => ⟨Nat.le_refl _, h1, fun j a b => absurd b (Nat.not_lt.2 a), fun h => absurd h (by simp only [skF]; omega)⟩
  | f + 1, i, h1, h2 => by
    rw [skF]
    split
    · rename_i h
      obtain ⟨a, b, c, d⟩ := skF_sk p n f (i + 1) (by omega) (by omega)
      exact ⟨by omega, b, fun j x y => if e : j = i then by rw [e]; exact h.2 else c j (by omega) y, d⟩
    · rename_i h
      refine ⟨Nat.le_refl _, h1, fun j a b => by omega, fun h3 => ?_⟩
      cases e : p i with
      | false => rfl
      | true => exact absurd ⟨h3, e⟩ h
def wdN (p : Nat → Bool) (n : Nat) : Nat := skF (fun j => !p j) n n (skF p n n 0)
theorem wdN_eq {p : Nat → Bool} {n r : Nat} (h : Wd p n r) : wdN p n = r := by
  have h1 := skF_sk p n n 0 (Nat.zero_le _) (by omega)
  exact Wd.only ⟨_, h1, skF_sk (fun j => !p j) n n _ h1.2.1 (by omega)⟩ h
theorem Wd.le {p : Nat → Bool} {n r : Nat} (h : Wd p n r) : r ≤ n := by
  obtain ⟨m, _, h2⟩ := h
  exact h2.2.1
def wdR (cs : List (List Int × Int)) : Nat := wdN (fun j => spB (cR cs j)) cs.length
def wdL (cs : List (List Int × Int)) : Nat := wdN (fun j => spB (cR cs (cs.length - 1 - j))) cs.length
/-- A line and what a key did. -/
structure LD where
  a : ByteArray
  b : ByteArray
  c : ByteArray
  un : List (ByteArray × ByteArray)
  d : Int
section
variable (a b c : ByteArray) (un : List (ByteArray × ByteArray))
def edMv (n : Nat) : LD := ⟨toBA (textC ((cutC (baL a) ++ cutC (baL b)).take n)), toBA (textC ((cutC (baL a) ++ cutC (baL b)).drop n)), c, un, 1⟩
def edSet (l r : ByteArray) : LD := ⟨l, r, c, undoN un (a, b), 1⟩
def edLeft : LD := if (cutC (baL a)).length = 0 then ⟨a, b, c, un, 2⟩ else edMv a b c un ((cutC (baL a)).length - 1)
def edRight : LD := if (cutC (baL b)).length = 0 then ⟨a, b, c, un, 2⟩ else edMv a b c un ((cutC (baL a)).length + 1)
def edHome : LD := if (cutC (baL a)).length = 0 then ⟨a, b, c, un, 0⟩ else edMv a b c un 0
def edEnd : LD := if (cutC (baL b)).length = 0 then ⟨a, b, c, un, 0⟩ else edMv a b c un ((cutC (baL a)).length + (cutC (baL b)).length)
def edWl : LD := if wdL (cutC (baL a)) = 0 then ⟨a, b, c, un, 2⟩ else edMv a b c un ((cutC (baL a)).length - wdL (cutC (baL a)))
def edWr : LD := if wdR (cutC (baL b)) = 0 then ⟨a, b, c, un, 2⟩ else edMv a b c un ((cutC (baL a)).length + wdR (cutC (baL b)))
def edPut (rs : List Int) : LD := if rs.length = 0 then ⟨a, b, c, un, 0⟩ else if 300 < (flat (clusC (cleanL (baL a) ++ rs))).length + (cleanL (baL b)).length then ⟨a, b, c, un, 2⟩ else edSet a b c un (toBA (textC (clusC (cleanL (baL a) ++ rs)))) b
def edBack : LD := if (cutC (baL a)).length = 0 then ⟨a, b, c, un, 2⟩ else edSet a b c un (toBA (textC ((cutC (baL a)).take ((cutC (baL a)).length - 1)))) b
def edDel : LD := if (cutC (baL b)).length = 0 then (if (cutC (baL a)).length = 0 then ⟨a, b, c, un, 8⟩ else ⟨a, b, c, un, 2⟩) else edSet a b c un a (toBA (textC ((cutC (baL b)).drop 1)))
def edKe : LD := if (cutC (baL b)).length = 0 then ⟨a, b, c, un, 2⟩ else ⟨a, noT, b, undoN un (a, b), 1⟩
def edKs : LD := if (cutC (baL a)).length = 0 then ⟨a, b, c, un, 2⟩ else ⟨noT, b, a, undoN un (a, b), 1⟩
def edKw : LD := if wdL (cutC (baL a)) = 0 then ⟨a, b, c, un, 2⟩ else ⟨toBA (textC ((cutC (baL a)).take ((cutC (baL a)).length - wdL (cutC (baL a))))), b, toBA (textC ((cutC (baL a)).drop ((cutC (baL a)).length - wdL (cutC (baL a))))), undoN un (a, b), 1⟩
def edYank : LD := if (baL c).length = 0 then ⟨a, b, c, un, 2⟩ else if 300 < (cleanL (baL a)).length + (cleanL (baL c)).length + (cleanL (baL b)).length then ⟨a, b, c, un, 2⟩ else edSet a b c un (toBA (baL a ++ baL c)) b
def edSwap : LD := if 1 ≤ (cutC (baL a)).length ∧ 1 ≤ (cutC (baL b)).length then edSet a b c un (toBA (textC ((cutC (baL a)).take ((cutC (baL a)).length - 1)) ++ textC ((cutC (baL b)).take 1) ++ textC ((cutC (baL a)).drop ((cutC (baL a)).length - 1)))) (toBA (textC ((cutC (baL b)).drop 1)))
  else if 2 ≤ (cutC (baL a)).length ∧ (cutC (baL b)).length = 0 then edSet a b c un (toBA (textC ((cutC (baL a)).take ((cutC (baL a)).length - 2)) ++ textC ((cutC (baL a)).drop ((cutC (baL a)).length - 1)) ++ textC (((cutC (baL a)).take ((cutC (baL a)).length - 1)).drop ((cutC (baL a)).length - 2)))) noT
  else ⟨a, b, c, un, 2⟩
def edUndo : LD := if un.length = 0 then ⟨a, b, c, un, 2⟩ else ⟨lnT un (un.length - 1), lnH un (un.length - 1), c, un.take (un.length - 1), 1⟩
/-- What a key does to a valid line. -/
def edF (kd : Int) (rs : List Int) : LD :=
  if kd = 1 ∨ kd = 2 then edPut a b c un rs else if kd = 4 then edBack a b c un else if kd = 5 then edDel a b c un else if kd = 6 then edLeft a b c un else if kd = 7 then edRight a b c un
  else if kd = 8 then edHome a b c un else if kd = 9 then edEnd a b c un else if kd = 18 then edWl a b c un else if kd = 19 then edWr a b c un
  else if kd = 12 then edKe a b c un else if kd = 13 then edKs a b c un else if kd = 14 then edKw a b c un else if kd = 15 then edYank a b c un else if kd = 16 then edSwap a b c un else if kd = 17 then edUndo a b c un
  else ⟨a, b, c, un, if kd = 3 then 3 else if kd = 21 then 4 else if kd = 10 then 5 else if kd = 11 then 6 else if kd = 20 then 7 else 0⟩
end
theorem unL_ln (un : List (ByteArray × ByteArray)) : unL (lnT un) (lnH un) un.length = un := by
  apply List.ext_getElem?
  intro j
  by_cases h : j < un.length
  · rw [unL_at _ _ h, lnT, lnH, List.getElem?_eq_getElem h]
    rfl
  · rw [List.getElem?_eq_none (by rw [unL_len]; omega), List.getElem?_eq_none (by omega)]
/-- The undo row of a line reads so. -/
def LnAt (w : World) (v : Value) (un : List (ByteArray × ByteArray)) : Prop := Row2At w v un.length (fun j => .string (lnT un j)) (fun j => .string (lnH un j))
theorem LnAt.ext {w w' : World} {v : Value} {un : List (ByteArray × ByteArray)} (h : LnAt w v un) (E : Ext w w') : LnAt w' v un := Row2At.ext h E
/-- The same, owned. -/
def LnO (w : World) (base : Nat) (o : LD) (e : Ending) : Prop := ∃ v, e = .returned (.tuple #[.agg #[.string o.a, .string o.b, .string o.c, v], .int .i64 o.d]) ∧ Own2 w base 49 v o.un.length (fun j => .string (lnT o.un j)) (fun j => .string (lnH o.un j))
end Go.Proofs.YtokjpnlmkecleaaGreatDoor

namespace Go.Proofs.YtokjpnlmkecleaaGreatDoor
open Go.RowKit

theorem set_blk {W : World} {b i : Nat} {cs : Array Value} {T : TypeId} {v : Value} (h : W.heap[b]? = some (.cells cs T (0, 0))) : (W.setCell ⟨b, i, none⟩ v).heap[b]? = some (.cells (cs.setIfInBounds i v) T (0, 0)) := heap_setCell_same W b i _ _ _ h
theorem set_blk2 {W : World} {b i : Nat} {cs cs' : Array Value} {T : TypeId} {v : Value} (h : W.heap[b]? = some (.cells cs T (0, 0))) (e : cs.setIfInBounds i v = cs') : (W.setCell ⟨b, i, none⟩ v).heap[b]? = some (.cells cs' T (0, 0)) := by
  rw [set_blk h, e]
theorem set_else {W : World} {b c i : Nat} {v : Value} {o : Obj} (h : W.heap[b]? = some o) (hne : b ≠ c) : (W.setCell ⟨c, i, none⟩ v).heap[b]? = some o := (Below.heap_setCell W ⟨c, i, none⟩ v b hne).trans h
/-- Where a walk shall stand. -/
def StopQ (p : Prop) : Prop := p
theorem StopQ.intro {p : Prop} (h : StopQ p) : p := h
theorem Src.snaps {w : World} {v : Value} {n : Nat} {tx hf : Nat → ByteArray} (h : Row2At w v n (fun j => .string (tx j)) (fun j => .string (hf j))) : Src w 2 v n (pairsL (fun j => .string (tx j)) (fun j => .string (hf j)) n) := by
  refine ⟨pairsL_len _ _ _, pairsL_one, ?_⟩
  obtain ⟨ao, c, rfl, hc, hx⟩ := h
  by_cases h0 : n = 0
  · subst h0
    cases ao with
    | none => exact .inl ⟨c, rfl, rfl⟩
    | some ad => exact .inr ⟨ad, c, rfl, fun j u hu => by simp [pairsL] at hu⟩
  · obtain ⟨bb, off, e, hcc⟩ := hx (by omega)
    subst e
    exact .inr ⟨_, c, rfl, pairsL_news hcc⟩
theorem own2_pairs {w : World} {base : Nat} {T : TypeId} {v : Value} {n : Nat} {A B : Nat → Value} (h : w.ownsRow base T 2 v n (pairsL A B n)) : Own2 w base T v n A B := ⟨_, h, fun j hj => pairsL_at A B n j hj⟩
theorem owns_ln {w : World} {b : Nat} {T : TypeId} {sz : Nat} {v : Value} {n : Nat} {xs : List Value} (h : w.ownsRow b T sz v n xs) : ∃ a c, v = .slice a n c := by
  rcases h.2 with ⟨rfl, h0⟩ | ⟨g, c, _, rfl, _⟩
  · exact ⟨none, 0, by rw [h0]⟩
  · exact ⟨_, c, rfl⟩
set_option maxRecDepth 10000 in
set_option maxHeartbeats 2000000 in
theorem l4Copy_any (a b c : ByteArray) (v : Value) (n : Nat) (tx hf : Nat → ByteArray) (w : World) (hv : Row2At w v n (fun j => .string (tx j)) (fun j => .string (hf j))) (hn : n ≤ 1048576) :
    Calls Tryz.prog 30 #[.agg #[.string a, .string b, .string c, v]] w fun e w' => ∃ ua uc, e = .returned (.agg #[.string a, .string b, .string c, .slice ua n uc]) ∧ Hid (Own2 w' w.heap.size 49 (.slice ua n uc) n (fun j => .string (tx j)) (fun j => .string (hf j))) ∧ Ext w w' := by
  obtain ⟨ic, hic, hc0, hc1, hc2⟩ := info_parts infoSnap
  have HV := hide hv
  obtain ⟨ao, ca, rfl, _, _⟩ := hv
  obtain ⟨V, hV⟩ : ∃ V, V = (w.alloc (.cells #[.string a, .string b, .string c, .slice ao n ca] 25)).alloc (.cells #[.string { data := #[] }, .string { data := #[] }, .string { data := #[] }, .slice none 0 0] 25) := ⟨_, rfl⟩
  have E0 : Ext w V := by rw [hV]; exact ((Ext.refl w).alloc _).alloc _
  have sz0 : V.heap.size = w.heap.size + 1 + 1 := by rw [hV]; simp
  have HB0 : Hid (V.heap[w.heap.size]? = some (.cells #[.string a, .string b, .string c, .slice ao n ca] 25 (0, 0))) := hide (by rw [hV]; exact ((Ext.refl _).alloc _).kept (new_block w _))
  have HB1 : Hid (V.heap[w.heap.size + 1]? = some (.cells #[.string { data := #[] }, .string { data := #[] }, .string { data := #[] }, .slice none 0 0] 25 (0, 0))) := hide (by rw [hV]; have h := new_block (w.alloc (.cells #[.string a, .string b, .string c, .slice ao n ca] 25)) (.cells #[.string { data := #[] }, .string { data := #[] }, .string { data := #[] }, .slice none 0 0] 25); rw [show (w.alloc (.cells #[.string a, .string b, .string c, .slice ao n ca] 25)).heap.size = w.heap.size + 1 by simp] at h; exact h)
  have HO := hide (owns_empty V 49 2)
  have HSR := hide (Src.snaps ((unhide HV).ext (E0.alloc (.cells #[] 49))))
  obtain ⟨V2, hV2⟩ : ∃ V2, V2 = V.alloc (.cells #[] 49) := ⟨_, rfl⟩
  have EV : Ext V V2 := by rw [hV2]; exact (Ext.refl V).alloc _
  have sz2 : V2.heap.size = w.heap.size + 1 + 1 + 1 := by rw [hV2]; simp [sz0]
  rw [← hV2] at HO HSR
  have HVV : Hid (V2 = ((w.alloc (.cells #[.string a, .string b, .string c, .slice ao n ca] 25)).alloc (.cells #[.string { data := #[] }, .string { data := #[] }, .string { data := #[] }, .slice none 0 0] 25)).alloc (.cells #[] 49)) := hide (by rw [hV2, hV])
  rw [sz0] at HO
  clear hV hV2
  go_enter Tryz.func30, Tryz.ntmps30
  go_wp2_with (at_builtin; refine StopQ.intro ?_)
  show wpList _ _ _ _ _ _
  rw [← unhide HVV]
  clear HVV
  refine wpList_app rfl _ _ 23 rfl (w.heap.size + 1 + 1) 49 ic (.agg #[.string noT, .string noT]) 2 32 Tryz.underlying23 hic hc0 hc1 hc2 rfl (by decide) _ 0 [] rfl (unhide HO) _ n (pairsL (fun j => .string (tx j)) (fun j => .string (hf j)) n) rfl (unhide HSR) (by unfold maxLen; omega) (by omega) (by omega) ?_
  intro v2 w2 o2 G2 _
  have X2 := Fr.grown (S := fun q => q = w.heap.size + 1 + 1) (Fr.of_ext EV) G2 (fun q hq => by cases hq; rfl)
  have E2 : Ext w w2 := X2.ext E0 (fun q hq => by omega)
  rw [Nat.zero_add, List.nil_append] at o2
  obtain ⟨a2, c2, rfl⟩ := owns_ln o2
  replace HB0 := hide (X2.kept (unhide HB0) (by omega))
  replace HB1 := hide (X2.kept (unhide HB1) (by omega))
  have HO2 := hide (own2_pairs o2)
  have x3 : w2.cell? ⟨w.heap.size, 3, none⟩ = some (.slice ao n ca) := cells_of (unhide HB0) 3 _ rfl
  have f0 : ∀ i, w2.frozen? ⟨w.heap.size, i, none⟩ = false := fun i => Lib.frozen_of_heap (unhide HB0) i
  have infoL : (Tryz.prog.info? 25).map (·.size) = some 4 := by kernel_rfl
  have HB0s : Hid ((w2.setCell ⟨w.heap.size, 3, none⟩ (.slice a2 n c2)).heap[w.heap.size]? = some (.cells #[.string a, .string b, .string c, .slice a2 n c2] 25 (0, 0))) := hide (set_blk2 (unhide HB0) rfl)
  have HB1s : Hid ((w2.setCell ⟨w.heap.size, 3, none⟩ (.slice a2 n c2)).heap[w.heap.size + 1]? = some (.cells #[.string { data := #[] }, .string { data := #[] }, .string { data := #[] }, .slice none 0 0] 25 (0, 0))) := hide (set_else (unhide HB1) (by omega))
  clear o2 G2 X2
  go_wp2_with (first
    | (refine wpList_load_blk rfl 25 _ rfl (w.heap.size) rfl _ _ _ _ (unhide HB0s) Tryz.underlying25 rfl infoL ?_)
    | (refine wpList_store_blk rfl 25 _ _ rfl rfl (w.heap.size + 1) rfl _ _ _ rfl (unhide HB1s) infoL rfl (by simp [Value.oneCell']) ?_; intro U HB9 hU9; have HU9 := hide hU9; have HB9' := hide HB9; clear hU9 HB9))
  have HB9 := unhide HB9'
  have hU : Fr (fun q => q = w.heap.size ∨ q = w.heap.size + 1) w2 U := (Fr.setCell (S := fun q => q = w.heap.size ∨ q = w.heap.size + 1) (Fr.refl _ _) (a := ⟨w.heap.size, 3, none⟩) (.inl rfl) _).tr ((unhide HU9).mono (fun q hq => .inr hq))
  clear HU9 HB9' x3 f0
  have v0 : U.cell? ⟨w.heap.size + 1, 0, none⟩ = some (.string a) := cells_of HB9 0 _ rfl
  have v1 : U.cell? ⟨w.heap.size + 1, 1, none⟩ = some (.string b) := cells_of HB9 1 _ rfl
  have v2 : U.cell? ⟨w.heap.size + 1, 2, none⟩ = some (.string c) := cells_of HB9 2 _ rfl
  have v3 : U.cell? ⟨w.heap.size + 1, 3, none⟩ = some (.slice a2 n c2) := cells_of HB9 3 _ rfl
  exact bodyPost_ret (v := .agg #[.string a, .string b, .string c, .slice a2 n c2]) (by simp [results, Tryz.results30, go_sem, v0, v1, v2, v3]) rfl ⟨a2, c2, rfl, hide (((unhide HO2).fr hU (fun g hg e9 => by have := ((unhide HO2).lt g hg).1; omega)).mono (by omega)), hU.ext E2 (fun q hq => by omega)⟩
set_option maxRecDepth 10000 in
set_option maxHeartbeats 2000000 in
theorem copyLine_any (a b c : ByteArray) (v : Value) (n : Nat) (tx hf : Nat → ByteArray) (w : World) (hv : Row2At w v n (fun j => .string (tx j)) (fun j => .string (hf j))) (hn : n ≤ 1048576) :
    Calls Tryz.prog 26 #[.agg #[.string a, .string b, .string c, v]] w fun e w' => ∃ ua uc, e = .returned (.agg #[.string a, .string b, .string c, .slice ua n uc]) ∧ Hid (Own2 w' w.heap.size 49 (.slice ua n uc) n (fun j => .string (tx j)) (fun j => .string (hf j))) ∧ Ext w w' := by
  obtain ⟨ic, hic, hc0, hc1, hc2⟩ := info_parts infoSnap
  have HSR := hide (fun W (hW : Ext w W) => Src.snaps (hv.ext hW))
  obtain ⟨ao, ca, rfl, _, _⟩ := hv
  have infoL : (Tryz.prog.info? 25).map (·.size) = some 4 := by kernel_rfl
  have HA0 : Hid (((w.alloc (.cells #[.string a, .string b, .string c, .slice ao n ca] 25)).alloc (.cells #[.string { data := #[] }, .string { data := #[] }, .string { data := #[] }, .slice none 0 0] 25)).heap[w.heap.size]? = some (.cells #[.string a, .string b, .string c, .slice ao n ca] 25 (0, 0))) := hide (((Ext.refl _).alloc _).kept (new_block w _))
  have HA2 : Hid ((((w.alloc (.cells #[.string a, .string b, .string c, .slice ao n ca] 25)).alloc (.cells #[.string { data := #[] }, .string { data := #[] }, .string { data := #[] }, .slice none 0 0] 25)).alloc (.cells #[.string { data := #[] }, .string { data := #[] }, .string { data := #[] }, .slice none 0 0] 25)).heap[w.heap.size + 1 + 1]? = some (.cells #[.string { data := #[] }, .string { data := #[] }, .string { data := #[] }, .slice none 0 0] 25 (0, 0))) := hide (by have h := new_block ((w.alloc (.cells #[.string a, .string b, .string c, .slice ao n ca] 25)).alloc (.cells #[.string { data := #[] }, .string { data := #[] }, .string { data := #[] }, .slice none 0 0] 25)) (.cells #[.string { data := #[] }, .string { data := #[] }, .string { data := #[] }, .slice none 0 0] 25); rw [show ((w.alloc (.cells #[.string a, .string b, .string c, .slice ao n ca] 25)).alloc (.cells #[.string { data := #[] }, .string { data := #[] }, .string { data := #[] }, .slice none 0 0] 25)).heap.size = w.heap.size + 1 + 1 by simp] at h; exact h)
  have HA1 : Hid ((((w.alloc (.cells #[.string a, .string b, .string c, .slice ao n ca] 25)).alloc (.cells #[.string { data := #[] }, .string { data := #[] }, .string { data := #[] }, .slice none 0 0] 25)).alloc (.cells #[.string { data := #[] }, .string { data := #[] }, .string { data := #[] }, .slice none 0 0] 25)).heap[w.heap.size + 1]? = some (.cells #[.string { data := #[] }, .string { data := #[] }, .string { data := #[] }, .slice none 0 0] 25 (0, 0))) := hide (by refine ((Ext.refl _).alloc _).kept ?_; have h := new_block (w.alloc (.cells #[.string a, .string b, .string c, .slice ao n ca] 25)) (.cells #[.string { data := #[] }, .string { data := #[] }, .string { data := #[] }, .slice none 0 0] 25); rw [show (w.alloc (.cells #[.string a, .string b, .string c, .slice ao n ca] 25)).heap.size = w.heap.size + 1 by simp] at h; exact h)
  have HAE : Hid (Ext w (((w.alloc (.cells #[.string a, .string b, .string c, .slice ao n ca] 25)).alloc (.cells #[.string { data := #[] }, .string { data := #[] }, .string { data := #[] }, .slice none 0 0] 25)).alloc (.cells #[.string { data := #[] }, .string { data := #[] }, .string { data := #[] }, .slice none 0 0] 25))) := hide ((((Ext.refl w).alloc _).alloc _).alloc _)
  have HAs : Hid ((((w.alloc (.cells #[.string a, .string b, .string c, .slice ao n ca] 25)).alloc (.cells #[.string { data := #[] }, .string { data := #[] }, .string { data := #[] }, .slice none 0 0] 25)).alloc (.cells #[.string { data := #[] }, .string { data := #[] }, .string { data := #[] }, .slice none 0 0] 25)).heap.size = w.heap.size + 1 + 1 + 1) := hide (by simp)
  go_enter Tryz.func26, Tryz.ntmps26
  go_wp2_with (first
    | (refine wpList_load_blk rfl 25 _ rfl (w.heap.size) rfl _ _ _ _ (unhide HA0) Tryz.underlying25 rfl infoL ?_)
    | (refine wpList_store_blk rfl 25 _ _ rfl rfl (w.heap.size + 1 + 1) rfl _ _ _ rfl (unhide HA2) infoL rfl (by simp [Value.oneCell']) ?_; intro U HB9 hU9; have k3 : U.cell? ⟨w.heap.size, 3, none⟩ = some (.slice ao n ca) := cells_of (hU9.kept (((Ext.refl _).alloc _).kept (unhide HA0)) (by omega)) 3 _ rfl; have HU9 := hide hU9; have HB2 := hide HB9; clear hU9 HB9)
    | (at_builtin; refine StopQ.intro ?_))
  show wpList _ _ _ _ _ _
  have E0 : Ext w U := (unhide HU9).ext (unhide HAE) (fun q hq => by omega)
  have zU : w.heap.size + 1 + 1 + 1 ≤ U.heap.size := by have h1 := (unhide HU9).size; have h2 := unhide HAs; omega
  have HB0 := hide ((unhide HU9).kept (((Ext.refl _).alloc _).kept (unhide HA0)) (by omega))
  have HB1 := hide ((unhide HU9).kept (unhide HA1) (by omega))
  clear HU9 HA0 HA1 HA2 HAE HAs k3 HB0
  refine wpList_app rfl _ _ 23 rfl U.heap.size 49 ic (.agg #[.string noT, .string noT]) 2 32 Tryz.underlying23 hic hc0 hc1 hc2 rfl (by decide) _ 0 [] rfl (owns_nil _ _ _ _) _ n (pairsL (fun j => .string (tx j)) (fun j => .string (hf j)) n) rfl ((unhide HSR) _ E0) (by unfold maxLen; omega) (by omega) (Nat.le_refl _) ?_
  intro v2 w2 o2 G2 _
  have X2 : Ext U w2 := (Ext.refl U).grown G2 (fun q hq => by cases hq)
  have E2 := E0.trans X2
  rw [Nat.zero_add, List.nil_append] at o2
  obtain ⟨a2, c2, rfl⟩ := owns_ln o2
  replace HB1 := hide (X2.kept (unhide HB1))
  replace HB2 := hide (X2.kept (unhide HB2))
  have HO2 := hide (own2_pairs o2)
  have y3 : w2.cell? ⟨w.heap.size + 1 + 1, 3, none⟩ = some (.slice ao n ca) := cells_of (unhide HB2) 3 _ rfl
  have f2 : ∀ i, w2.frozen? ⟨w.heap.size + 1 + 1, i, none⟩ = false := fun i => Lib.frozen_of_heap (unhide HB2) i
  have HB2s : Hid ((w2.setCell ⟨w.heap.size + 1 + 1, 3, none⟩ (.slice a2 n c2)).heap[w.heap.size + 1 + 1]? = some (.cells #[.string a, .string b, .string c, .slice a2 n c2] 25 (0, 0))) := hide (set_blk2 (unhide HB2) rfl)
  have HB1s : Hid ((w2.setCell ⟨w.heap.size + 1 + 1, 3, none⟩ (.slice a2 n c2)).heap[w.heap.size + 1]? = some (.cells #[.string { data := #[] }, .string { data := #[] }, .string { data := #[] }, .slice none 0 0] 25 (0, 0))) := hide (set_else (unhide HB1) (by omega))
  clear o2 G2 HSR
  go_wp2_with (first
    | (refine wpList_load_blk rfl 25 _ rfl (w.heap.size + 1 + 1) rfl _ _ _ _ (unhide HB2s) Tryz.underlying25 rfl infoL ?_)
    | (refine wpList_store_blk rfl 25 _ _ rfl rfl (w.heap.size + 1) rfl _ _ _ rfl (unhide HB1s) infoL rfl (by simp [Value.oneCell']) ?_; intro Y HB9 hU9; have HU9 := hide hU9; have HB9' := hide HB9; clear hU9 HB9))
  have HB9 := unhide HB9'
  have hU : Fr (fun q => q = w.heap.size + 1 + 1 ∨ q = w.heap.size + 1) w2 Y := (Fr.setCell (S := fun q => q = w.heap.size + 1 + 1 ∨ q = w.heap.size + 1) (Fr.refl _ _) (a := ⟨w.heap.size + 1 + 1, 3, none⟩) (.inl rfl) _).tr ((unhide HU9).mono (fun q hq => .inr hq))
  clear HU9 HB9' y3 f2
  have v0 : Y.cell? ⟨w.heap.size + 1, 0, none⟩ = some (.string a) := cells_of HB9 0 _ rfl
  have v1 : Y.cell? ⟨w.heap.size + 1, 1, none⟩ = some (.string b) := cells_of HB9 1 _ rfl
  have v2 : Y.cell? ⟨w.heap.size + 1, 2, none⟩ = some (.string c) := cells_of HB9 2 _ rfl
  have v3 : Y.cell? ⟨w.heap.size + 1, 3, none⟩ = some (.slice a2 n c2) := cells_of HB9 3 _ rfl
  exact bodyPost_ret (v := .agg #[.string a, .string b, .string c, .slice a2 n c2]) (by simp [results, Tryz.results26, go_sem, v0, v1, v2, v3]) rfl ⟨a2, c2, rfl, hide (((unhide HO2).fr hU (fun g hg e9 => by have := ((unhide HO2).lt g hg).1; omega)).mono (by omega)), hU.ext E2 (fun q hq => by omega)⟩
end Go.Proofs.YtokjpnlmkecleaaGreatDoor

namespace Go.Proofs.YtokjpnlmkecleaaGreatDoor
open Go.RowKit

/-- The runes of bytes as 'range' gives them. -/
def runesF : Nat → List Int → List Int
  | 0, _ => []
  | f + 1, l => if l.length = 0 then [] else (decL l).1 :: runesF f (l.drop (decL l).2)
def runesL (l : List Int) : List Int := runesF l.length l
theorem runesF_fuel : ∀ (f g : Nat) (l : List Int), l.length ≤ f → l.length ≤ g → runesF f l = runesF g l
  | 0, 0, _, _, _ => rfl
  | 0, g + 1, l, h, _ => by simp [runesF]; exact List.eq_nil_of_length_eq_zero (by omega)
  | f + 1, 0, l, _, h => by simp [runesF]; exact List.eq_nil_of_length_eq_zero (by omega)
  | f + 1, g + 1, l, h1, h2 => by
    simp only [runesF]
    split
    · rfl
    · have hp := decL_pos l
      rw [runesF_fuel f g _ (by simp; omega) (by simp; omega)]
theorem runesL_step (l : List Int) (h : 0 < l.length) : runesL l = (decL l).1 :: runesL (l.drop (decL l).2) := by
  unfold runesL
  obtain ⟨m, hm⟩ : ∃ m, l.length = m + 1 := ⟨l.length - 1, by omega⟩
  have hp := decL_pos l
  rw [hm]
  simp only [runesF]
  rw [if_neg (by omega), runesF_fuel m _ _ (by simp; omega) (Nat.le_refl _)]
theorem clean_runes (l : List Int) : cleanL l = (runesL l).map cleanR := by
  have : ∀ f (l : List Int), cleanF f l = (runesF f l).map cleanR := by
    intro f
    induction f with
    | zero => intro l; rfl
    | succ f ih =>
      intro l
      simp only [cleanF, runesF]
      split
      · rfl
      · rw [ih]; rfl
  exact this _ _
theorem runes_enc : ∀ (xs : List Int), (∀ x ∈ xs, Utf8.valid x = true) → runesL (encA xs) = xs
  | [], _ => rfl
  | x :: xs, h => by
    have hp := encR_pos x
    rw [encA, runesL_step _ (by simp; omega), dec_enc x (h x (by simp))]
    simp only
    rw [List.drop_left, runes_enc xs (fun y hy => h y (by simp [hy]))]
/-- Bytes that are their runes' UTF-8. -/
def ValidL (l : List Int) : Prop := encA (runesL l) = l
/-- What 'settled' looks for. -/
theorem settled_iff (l : List Int) : settleL l = l ↔ (∀ r ∈ runesL l, shownI r = r) ∧ (runesL l ≠ [] → 0 < wid (at0 (runesL l) 0)) ∧ ValidL l := by
  constructor
  · intro h
    have hc := fl_clean _ (cleanL_mem l)
    have he : runesL l = fl (cleanL l) := by
      have := runes_enc (fl (cleanL l)) (fun x hx => (hc x hx).1)
      rw [← settleL_enc, h] at this
      exact this
    refine ⟨fun r hr => ?_, fun hne => ?_, ?_⟩
    · rw [he] at hr
      exact (hc r hr).shown
    · rw [he] at hne ⊢
      unfold fl at hne ⊢
      split
      · rename_i e; rw [if_pos e] at hne; exact absurd rfl hne
      · split
        · assumption
        · show 0 < wid 9676
          decide
    · unfold ValidL
      rw [he, ← settleL_enc, h]
  · rintro ⟨h1, h2, h3⟩
    have hm : cleanL l = runesL l := by
      rw [clean_runes]
      conv => rhs; rw [← List.map_id (runesL l)]
      refine List.map_congr_left fun r hr => ?_
      have := h1 r hr
      unfold cleanR
      split
      · rename_i e
        subst e
        exact absurd this (by decide)
      · exact this
    rw [settleL_enc, hm]
    have hf : fl (runesL l) = runesL l := by
      unfold fl
      split
      · rename_i e; exact e.symm
      · rename_i e
        rw [if_pos (h2 e)]
    rw [hf]
    exact h3
end Go.Proofs.YtokjpnlmkecleaaGreatDoor

namespace Go.Proofs.YtokjpnlmkecleaaGreatDoor
open Go.RowKit

set_option maxRecDepth 10000 in
set_option maxHeartbeats 1000000 in
theorem runeCount_any (bs : List Int) (hb : Bytes bs) (w : World) (hl : bs.length ≤ 16777216) :
    Calls Tryz.prog 75 #[.string (toBA bs)] w fun e w' => e = .returned (.int .i64 ((cleanL bs).length : Int)) ∧ Ext w w' := by
  obtain ⟨S, hS⟩ : ∃ S, S = toBA bs := ⟨_, rfl⟩
  have hss : S.size = bs.length := by rw [hS, toBA_size]
  have HS := hide hS
  have HSS := hide hss
  rw [← hS]
  clear hS hss
  go_enter Tryz.func75, Tryz.ntmps75
  go_wp2
  go_loopw [2] (fun o wr => ∃ (k : Nat) (acc : List Int), k ≤ bs.length ∧ Hid (Mid bs k acc) ∧ wr.heap[w.heap.size]? = some (.stringIter S k) ∧ o = .int .i64 (acc.length : Int) ∧ Ext w wr) (fun _ wr => bs.length - wr.iterPos w.heap.size)
  case atStart => exact ⟨0, [], Nat.zero_le _, ⟨by simp, by simp⟩, World.iter_heap w S 0, rfl, (Ext.refl _).alloc _⟩
  case round =>
    obtain ⟨k, acc, hk, HM, hit, rfl, hext⟩ := hrel
    have hszr : w.heap.size < wr.heap.size := (Array.getElem?_eq_some_iff.1 hit).1
    by_cases hlt : k < bs.length
    · obtain ⟨r, m, hd⟩ : ∃ r m, decL (bs.drop k) = (r, m) := ⟨_, _, rfl⟩
      have hp := decL_pos (bs.drop k)
      have hq := decL_len (bs.drop k) (by simp; omega)
      have HM2 : Hid (Mid bs (k + m) (acc ++ [cleanR r])) := by
        have := HM.out.step hlt
        rw [hd] at this
        exact this
      have hdec := decode_is bs hb k
      rw [hd] at hp hq hdec
      rw [← HS.out] at hdec
      simp only [Prod.mk.injEq] at hdec
      have hnx := fun ty => Lib.run_next_any_at (P := Tryz.prog) wr w.heap.size S k ty hit (by rw [HSS.out]; exact hlt)
      rw [hdec.1, hdec.2] at hnx
      simp only [List.length_drop] at hp hq
      have hal := HM.out.2
      have hm2 : k + m ≤ bs.length := by omega
      have hit1 := Lib.iterAt_heap wr w.heap.size S k (k + m) hit
      have hext1 : Ext w (wr.iterAt w.heap.size S (k + m)) := hext.grown (grown_iterAt _ _ _ _) (fun k hk => by simp at hk; omega)
      have hP : bs.length - (wr.iterAt w.heap.size S (k + m)).iterPos w.heap.size < bs.length - wr.iterPos w.heap.size := by
        simp only [World.iterPos, hit1, hit]; omega
      have HP := hide hP
      have HI := hide hit1
      have hw : IntKind.i64.wrap ((acc.length : Int) + 1) = (acc.length : Int) + 1 := by rw [IntKind.wrap_i64]; omega
      have hlen : Hid (((acc ++ [cleanR r]).length : Int) = (acc.length : Int) + 1) := by show _ = _; simp
      clear hdec hd hP hit1
      go_wp2
      go_roundw
      case rel => exact ⟨k + m, _, hm2, HM2, unhide HI, by rw [hlen.out], hext1⟩
      case measure => exact unhide HP
    · have HE : Hid (acc = cleanL bs) := HM.out.done (by omega)
      have hnx := fun ty => Lib.run_next_end_at (P := Tryz.prog) wr w.heap.size S k ty hit (by rw [HSS.out]; omega)
      go_wp2
      go_ret
      rw [← HE.out]
      exact ⟨rfl, hext⟩
end Go.Proofs.YtokjpnlmkecleaaGreatDoor

namespace Go.Proofs.YtokjpnlmkecleaaGreatDoor
open Go.RowKit

theorem decL_bd (l : List Int) (hb : Bytes l) : 0 ≤ (decL l).1 ∧ (decL l).1 ≤ 1114111 := by
  have h0 := hb.at0 0
  unfold decL
  split
  · dsimp only; omega
  · split
    · rename_i h1 h2
      have c1 := cont_len h2.2
      split
      · dsimp only; unfold v2; omega
      · dsimp only; omega
    · split
      · split
        · rename_i h5; exact valid_bd h5.2
        · dsimp only; omega
      · split
        · split
          · rename_i h5; exact valid_bd h5.2
          · dsimp only; omega
        · dsimp only; omega
theorem wid_bd' (r : Int) : 0 ≤ wid r ∧ wid r ≤ 2 := by
  unfold wid
  repeat' split
  all_goals omega
set_option maxRecDepth 10000 in
set_option maxHeartbeats 1000000 in
theorem settled_any (bs : List Int) (hb : Bytes bs) (w : World) (hl : bs.length ≤ 16777216) (hT : Laid w) (vb : Bool) (hvb : vb = true ↔ ValidL bs)
    (hval : ∀ W, Ext w W → Calls Tryz.prog 109 #[.string (toBA bs)] W fun e w' => e = .returned (.bool vb) ∧ Ext W w')
    (ok : Bool) (hok : ok = true ↔ settleL bs = bs) :
    Calls Tryz.prog 74 #[.string (toBA bs)] w fun e w' => e = .returned (.bool ok) ∧ Ext w w' := by
  rw [settled_iff] at hok
  obtain ⟨S, hS⟩ : ∃ S, S = toBA bs := ⟨_, rfl⟩
  have hss : S.size = bs.length := by rw [hS, toBA_size]
  have HS := hide hS
  have HSS := hide hss
  rw [← hS] at hval ⊢
  have HVAL := hide hval
  have HT := hide hT
  have HOK := hide hok
  have HVB := hide hvb
  clear hS hss hval hT hok hvb
  go_enter Tryz.func74, Tryz.ntmps74
  go_wp2
  go_loopw [] (fun wr => ∃ (k : Nat) (acc : List Int), k ≤ bs.length ∧ Hid (runesL bs = acc ++ runesL (bs.drop k) ∧ (∀ r ∈ acc, shownI r = r) ∧ (0 < k → acc ≠ [] ∧ 0 < wid (at0 acc 0)) ∧ (k = 0 → acc = [])) ∧ wr.heap[w.heap.size]? = some (.stringIter S k) ∧ Ext w wr) (fun wr => bs.length - wr.iterPos w.heap.size)
  case atStart => exact ⟨0, [], Nat.zero_le _, hide ⟨by simp, by simp, by simp, by simp⟩, World.iter_heap w S 0, (Ext.refl _).alloc _⟩
  case round =>
    obtain ⟨k, acc, hk, HM, hit, hext⟩ := hrel
    have hszr : w.heap.size < wr.heap.size := (Array.getElem?_eq_some_iff.1 hit).1
    by_cases hlt : k < bs.length
    · obtain ⟨r, m, hd⟩ : ∃ r m, decL (bs.drop k) = (r, m) := ⟨_, _, rfl⟩
      have hp := decL_pos (bs.drop k)
      have hq := decL_len (bs.drop k) (by simp; omega)
      have hrb := decL_bd (bs.drop k) (hb.drop k)
      have hstep := runesL_step (bs.drop k) (by simp; omega)
      have hdec := decode_is bs hb k
      rw [hd] at hp hq hdec hrb hstep
      rw [← HS.out] at hdec
      simp only [Prod.mk.injEq] at hdec
      simp only [List.drop_drop] at hstep
      have hnx := fun ty => Lib.run_next_any_at (P := Tryz.prog) wr w.heap.size S k ty hit (by rw [HSS.out]; exact hlt)
      rw [hdec.1, hdec.2] at hnx
      simp only [List.length_drop] at hp hq
      have hm2 : k + m ≤ bs.length := by omega
      have hit1 := Lib.iterAt_heap wr w.heap.size S k (k + m) hit
      have hext1 : Ext w (wr.iterAt w.heap.size S (k + m)) := hext.grown (grown_iterAt _ _ _ _) (fun k hk => by simp at hk; omega)
      have hP : bs.length - (wr.iterAt w.heap.size S (k + m)).iterPos w.heap.size < bs.length - wr.iterPos w.heap.size := by
        simp only [World.iterPos, hit1, hit]; omega
      have HP := hide hP
      have HI := hide hit1
      have hrun : Hid (runesL bs = (acc ++ [r]) ++ runesL (bs.drop (k + m))) := by
        refine hide ?_
        rw [(unhide HM).1, hstep]
        simp
      have HX1 := hide hext1
      clear hdec hd hP hit1 hstep hext1
      by_cases hsr : shownI r = r
      · by_cases hk0 : k = 0
        · subst hk0
          have hacc : acc = [] := (unhide HM).2.2.2 rfl
          subst hacc
          simp only [Nat.zero_add] at HX1 HI hrun hm2 HP hnx
          have T1 := hide ((unhide HT).below (unhide HX1).below)
          have hwb := wid_bd' r
          go_wp2_with fail
          refine (showable_any _ _).mono ?_
          rintro e w2 ⟨rfl, rfl⟩
          rw [hsr]
          go_wp2_with fail
          refine (implRW_any r _ (by omega) (by omega) (unhide T1)).mono ?_
          rintro e w3 ⟨rfl, hb3⟩
          have F3 := Ext.of_below hb3
          have X3 := (unhide HX1).trans F3
          have hI3 : w3.heap[w.heap.size]? = some (.stringIter S m) := by
            rw [F3.heap (by rw [Lib.iterAt_size]; exact hszr)]
            exact unhide HI
          have HI3 := hide hI3
          have HP3 : Hid (bs.length - w3.iterPos w.heap.size < bs.length - wr.iterPos w.heap.size) := by
            refine hide ?_
            simp only [World.iterPos, hI3, hit]; omega
          clear hb3 hI3
          by_cases hw0 : wid r = 0
          · have hno : Hid (ok = false) := by
              refine hide ?_
              cases ok
              · rfl
              · exfalso
                have h1 := ((unhide HOK).1 rfl).2.1 (by rw [unhide hrun]; simp)
                rw [unhide hrun] at h1
                simp [at0] at h1
                omega
            go_wp2
            go_ret
            exact ⟨by rw [hno.out]; rfl, X3⟩
          · have hwp : 0 < wid r := by omega
            have HM' : Hid (runesL bs = ([] ++ [r]) ++ runesL (bs.drop m) ∧ (∀ x ∈ [] ++ [r], shownI x = x) ∧ (0 < m → [] ++ [r] ≠ [] ∧ 0 < wid (at0 ([] ++ [r]) 0)) ∧ (m = 0 → ([] : List Int) ++ [r] = [])) :=
              hide ⟨unhide hrun, by simpa using hsr, fun _ => ⟨by simp, by simpa [at0] using hwp⟩, fun h => by omega⟩
            go_wp2
            go_roundw
            case rel => exact ⟨m, [] ++ [r], hm2, HM', unhide HI3, X3⟩
            case measure => exact unhide HP3
        · have HM' : Hid (runesL bs = (acc ++ [r]) ++ runesL (bs.drop (k + m)) ∧ (∀ x ∈ acc ++ [r], shownI x = x) ∧ (0 < k + m → acc ++ [r] ≠ [] ∧ 0 < wid (at0 (acc ++ [r]) 0)) ∧ (k + m = 0 → acc ++ [r] = [])) := by
            have h1 := unhide HM
            have h2 := h1.2.2.1 (by omega)
            have hal : 0 < acc.length := List.length_pos_iff.2 h2.1
            refine hide ⟨unhide hrun, fun x hx => ?_, fun _ => ⟨by simp, ?_⟩, fun h => by omega⟩
            · rcases List.mem_append.1 hx with h | h
              · exact h1.2.1 x h
              · simp at h; rw [h]; exact hsr
            · have : at0 (acc ++ [r]) 0 = at0 acc 0 := by unfold at0; rw [List.getElem?_append_left hal]
              rw [this]; exact h2.2
          have hkI : ((k : Int) == 0) = false := by rw [beq_eq_false_iff_ne]; omega
          have hkI2 : ¬ ((k : Int) = 0) := by omega
          go_wp2_with fail
          refine (showable_any _ _).mono ?_
          rintro e w2 ⟨rfl, rfl⟩
          rw [hsr]
          go_wp2
          go_roundw
          case rel => exact ⟨k + m, acc ++ [r], hm2, HM', unhide HI, unhide HX1⟩
          case measure => exact unhide HP
      · have hno : Hid (ok = false) := by
          refine hide ?_
          cases ok
          · rfl
          · exact absurd (((unhide HOK).1 rfl).1 r (by rw [unhide hrun]; simp)) hsr
        go_wp2_with fail
        refine (showable_any _ _).mono ?_
        rintro e w2 ⟨rfl, rfl⟩
        go_wp2
        go_ret
        exact ⟨by rw [hno.out]; rfl, unhide HX1⟩
    · obtain rfl : k = bs.length := by omega
      have hre : runesL bs = acc := by
        have h1 := (unhide HM).1
        rw [List.drop_length] at h1
        rw [h1, show runesL ([] : List Int) = [] from rfl, List.append_nil]
      have hov : Hid (ok = vb) := by
        refine hide ?_
        have h1 := (unhide HM).2.1
        have h2 := (unhide HM).2.2.1
        have h3 := (unhide HM).2.2.2
        have e : ok = true ↔ vb = true := by
          rw [(unhide HOK), (unhide HVB), hre]
          refine ⟨fun h => h.2.2, fun h => ⟨h1, fun hne => ?_, h⟩⟩
          rcases Nat.eq_zero_or_pos bs.length with e0 | e0
          · exact absurd (h3 e0) hne
          · exact (h2 e0).2
        cases ok <;> cases vb <;> simp_all
      have hnx := fun ty => Lib.run_next_end_at (P := Tryz.prog) wr w.heap.size S bs.length ty hit (by rw [HSS.out]; omega)
      clear hre
      go_wp2_with fail
      refine ((unhide HVAL) _ hext).mono ?_
      rintro e w2 ⟨rfl, F2⟩
      go_wp2
      go_ret
      exact ⟨by rw [hov.out]; rfl, hext.trans F2⟩
end Go.Proofs.YtokjpnlmkecleaaGreatDoor

namespace Go.Proofs.YtokjpnlmkecleaaGreatDoor
open Go.RowKit

theorem toBA_ne {xs ys : List Int} (hx : Bytes xs) (hy : Bytes ys) (h : xs ≠ ys) : ((toBA xs).toList == (toBA ys).toList) = false := by
  rw [beq_eq_false_iff_ne, toList_data, toList_data]
  intro e
  exact h (toBA_inj hx hy (WideShapes.bytes_inj e))
set_option maxRecDepth 10000 in
set_option maxHeartbeats 400000 in
theorem l4Count_any (bs : List Int) (hb : Bytes bs) (w : World) (hl : bs.length ≤ 8000000) :
    Calls Tryz.prog 25 #[.string (toBA bs)] w fun e w' => e = .returned (.int .i64 ((cleanL bs).length : Int)) ∧ Ext w w' := by
  obtain ⟨v0, w0, hrun, h0, E0⟩ := run_s2i (P := Tryz.prog) w _ _ _ Tryz.underlying9 Tryz.underlying22 Tryz.underlying5 bs hb
  have H0 := hide h0
  clear h0
  go_enter Tryz.func25, Tryz.ntmps25
  go_wp2_with fail
  refine (specClean_any bs hb v0 w0 (unhide H0) (by omega)).mono ?_
  rintro e w1 ⟨v1, rfl, o1, F1⟩
  obtain ⟨ao, cap, hv1, _, _⟩ := ints_of_owns o1
  subst hv1
  clear o1
  go_wp2
  go_ret
  exact ⟨rfl, E0.trans F1⟩
set_option maxRecDepth 10000 in
set_option maxHeartbeats 1000000 in
theorem l4TextOk_any (bs : List Int) (hb : Bytes bs) (w : World) (hl : bs.length ≤ 4194304) (ok : Bool) (hok : ok = true ↔ (bs.length ≤ 1200 ∧ (cleanL bs).length ≤ 300 ∧ settleL bs = bs)) :
    Calls Tryz.prog 24 #[.string (toBA bs), .int .i64 300] w fun e w' => e = .returned (.bool ok) ∧ Ext w w' := by
  have hsz := toBA_size bs
  have HOK := hide hok
  clear hok
  by_cases h1 : bs.length ≤ 1200
  · have h1I : (bs.length : Int) ≤ 1200 := by omega
    go_enter Tryz.func24, Tryz.ntmps24
    go_wp2_with fail
    refine (l4Count_any bs hb w (by omega)).mono ?_
    rintro e w1 ⟨rfl, F1⟩
    by_cases h2 : (cleanL bs).length ≤ 300
    · have h2I : ((cleanL bs).length : Int) ≤ 300 := by omega
      go_wp2_with fail
      refine (specSettle_any bs hb w1 (by omega)).mono ?_
      rintro e w2 ⟨rfl, F2⟩
      by_cases h3 : settleL bs = bs
      · have ht : ok = true := (unhide HOK).2 ⟨h1, h2, h3⟩
        subst ht
        rw [h3]
        go_wp2
        go_ret
        exact ⟨rfl, F1.trans F2⟩
      · have hf : ok = false := by
          cases ok
          · rfl
          · exact absurd ((unhide HOK).1 rfl).2.2 h3
        subst hf
        have hneb := toBA_ne (settleL_bytes bs) hb h3
        go_wp2
        go_ret
        exact ⟨rfl, F1.trans F2⟩
    · have h2I : ¬ ((cleanL bs).length : Int) ≤ 300 := by omega
      have hf : ok = false := by
        cases ok
        · rfl
        · exact absurd ((unhide HOK).1 rfl).2.1 h2
      subst hf
      go_wp2
      go_ret
      exact ⟨rfl, F1⟩
  · have h1I : ¬ (bs.length : Int) ≤ 1200 := by omega
    have hf : ok = false := by
      cases ok
      · rfl
      · exact absurd ((unhide HOK).1 rfl).1 h1
    subst hf
    go_enter Tryz.func24, Tryz.ntmps24
    go_wp2
    go_ret
    exact ⟨rfl, Ext.refl _⟩
end Go.Proofs.YtokjpnlmkecleaaGreatDoor

namespace Go.Proofs.YtokjpnlmkecleaaGreatDoor
open Go.RowKit

theorem cutC_len (bs : List Int) : (cutC bs).length ≤ bs.length := Nat.le_trans (clF_len _ _) (cleanL_len bs)
theorem cutC_fit (bs : List Int) : (cutC bs).length + sumR (cutC bs) (cutC bs).length ≤ 2 * bs.length + 1 := by
  have h1 := clF_sum (cleanL bs) (cleanL bs).length
  have h2 := cleanL_len bs
  have h3 := cutC_len bs
  have h4 : sumR (cutC bs) (cutC bs).length ≤ (cleanL bs).length + 1 := h1
  omega
theorem cutC_runes (bs : List Int) (j : Nat) : (cR (cutC bs) j).length ≤ bs.length + 1 := by
  have h1 := clF_runes (cleanL bs) (cleanL bs).length j
  have h2 := cleanL_len bs
  have h3 : (cR (cutC bs) j).length ≤ (cleanL bs).length + 1 := h1
  omega
theorem cutC_i32 (bs : List Int) (j : Nat) : I32s (cR (cutC bs) j) := clF_i32 _ _ j
theorem sumR_left (xs ys : List (List Int × Int)) : ∀ k, k ≤ xs.length → sumR (xs ++ ys) k = sumR xs k
  | 0, _ => rfl
  | k + 1, h => by rw [sumR, sumR, sumR_left xs ys k (by omega), cR_app, if_pos (by omega)]
theorem sumR_right (xs ys : List (List Int × Int)) : ∀ k, k ≤ ys.length → sumR (xs ++ ys) (xs.length + k) = sumR xs xs.length + sumR ys k
  | 0, _ => by rw [Nat.add_zero, sumR_left xs ys _ (Nat.le_refl _)]; rfl
  | k + 1, h => by
    rw [← Nat.add_assoc, sumR, sumR_right xs ys k (by omega), cR_app, if_neg (by omega), show xs.length + k - xs.length = k by omega, sumR]
    omega
/-- What holds of the clusters of texts. -/
structure Cuts (cs : List (List Int × Int)) (N : Nat) : Prop where
  wide : Wides cs
  len : cs.length ≤ N
  sum : cs.length + sumR cs cs.length ≤ 2 * N + N
  runes : ∀ j, (cR cs j).length ≤ N + 1
  i32 : ∀ j, I32s (cR cs j)
theorem cuts_one (bs : List Int) : Cuts (cutC bs) (bs.length + 1) :=
  ⟨cutC_wides bs, by have := cutC_len bs; omega, by have := cutC_fit bs; omega, fun j => by have := cutC_runes bs j; omega, cutC_i32 bs⟩
theorem Cuts.app {xs ys : List (List Int × Int)} {N M : Nat} (hx : Cuts xs N) (hy : Cuts ys M) : Cuts (xs ++ ys) (N + M) := by
  have h1 := hx.len
  have h2 := hy.len
  have h3 := hx.sum
  have h4 := hy.sum
  refine ⟨hx.wide.app hy.wide, by rw [List.length_append]; omega, ?_, fun j => ?_, fun j => ?_⟩
  · rw [List.length_append, sumR_right xs ys _ (Nat.le_refl _)]
    omega
  · rw [cR_app]
    split
    · have := hx.runes j; omega
    · have := hy.runes (j - xs.length); omega
  · rw [cR_app]
    split
    · exact hx.i32 j
    · exact hy.i32 _
theorem sumR_up (cs : List (List Int × Int)) (k : Nat) : ∀ n, k ≤ n → sumR cs k ≤ sumR cs n := by
  intro n
  induction n with
  | zero => intro h; rw [show k = 0 by omega]; exact Nat.le_refl _
  | succ n ih =>
    intro h
    by_cases e : k = n + 1
    · subst e; exact Nat.le_refl _
    · have := ih (by omega); rw [sumR]; omega
theorem Cuts.part {cs : List (List Int × Int)} {N : Nat} (h : Cuts cs N) (s e : Nat) : ((cs.take e).drop s).length + sumR ((cs.take e).drop s) ((cs.take e).drop s).length ≤ 3 * N ∧ ∀ j, I32s (cR ((cs.take e).drop s) j) := by
  have h1 := h.sum
  have hl : ((cs.take e).drop s).length = min e cs.length - s := by simp
  refine ⟨?_, fun j => ?_⟩
  · by_cases hse : s ≤ min e cs.length
    · have e1 := sumR_sub cs s e (min e cs.length - s) (by omega)
      have e2 := sumR_up cs (s + (min e cs.length - s)) cs.length (by omega)
      rw [hl]
      omega
    · have h0 : (cs.take e).drop s = [] := List.eq_nil_of_length_eq_zero (by omega)
      rw [h0]
      simp [sumR]
  · unfold cR
    cases hj : ((cs.take e).drop s)[j]? with
    | none => intro x hx; cases hx
    | some u =>
      obtain ⟨q, hq⟩ := List.mem_iff_getElem?.1 (List.mem_of_mem_take (List.mem_of_mem_drop (List.mem_of_getElem? hj)))
      have := h.i32 q
      unfold cR at this
      rw [hq] at this
      exact this
set_option maxRecDepth 10000 in
set_option maxHeartbeats 1000000 in
theorem l4Cut_any (bs : List Int) (hb : Bytes bs) (w : World) (hl : bs.length ≤ 8000000) :
    Calls Tryz.prog 35 #[.string (toBA bs)] w fun e w' => ∃ v rs, e = .returned v ∧ OwnCls w' w.heap.size v rs (cutC bs) ∧ Ext w w' := by
  obtain ⟨v0, w0, hrun, h0, E0⟩ := run_s2i (P := Tryz.prog) w _ _ _ Tryz.underlying9 Tryz.underlying22 Tryz.underlying5 bs hb
  have hcl := cleanL_len bs
  have H0 := hide h0
  go_enter Tryz.func35, Tryz.ntmps35
  go_wp2_with fail
  refine (specClean_any bs hb v0 w0 (unhide H0) (by omega)).mono ?_
  rintro e w1 ⟨v1, rfl, o1, E1⟩
  go_wp2_with fail
  refine (specClusters_any v1 (cleanL bs) w1 (ints_of_owns o1) (cleanL_i32 bs) (by omega)).mono ?_
  rintro e w2 ⟨v2, rs2, rfl, o2, E2⟩
  have O2 := hide o2
  clear o1 o2
  go_wp2
  go_ret
  exact ⟨_, _, rfl, OwnCls.mono (unhide O2) (E0.trans E1).size, (E0.trans E1).trans E2⟩
set_option maxRecDepth 10000 in
set_option maxHeartbeats 1000000 in
theorem clustersOf_any (bs : List Int) (hb : Bytes bs) (w : World) (hl : bs.length ≤ 8000000) (hT : Laid w) :
    Calls Tryz.prog 84 #[.string (toBA bs)] w fun e w' => ∃ v rs, e = .returned v ∧ OwnCls w' w.heap.size v rs (cutC bs) ∧ Ext w w' := by
  obtain ⟨v0, w0, hrun, h0, E0⟩ := run_s2i (P := Tryz.prog) w _ _ _ Tryz.underlying9 Tryz.underlying22 Tryz.underlying5 bs hb
  have hcl := cleanL_len bs
  have H0 := hide h0
  have HT := hide hT
  go_enter Tryz.func84, Tryz.ntmps84
  go_wp2_with fail
  refine (implClean_any bs hb v0 w0 (unhide H0) (by omega)).mono ?_
  rintro e w1 ⟨v1, rfl, o1, E1⟩
  have T1 := hide ((unhide HT).below (E0.trans E1).below)
  go_wp2_with fail
  refine (implClusters_any v1 (cleanL bs) w1 (ints_of_owns o1) (cleanL_i32 bs) (by omega) (unhide T1)).mono ?_
  rintro e w2 ⟨v2, rs2, rfl, o2, E2⟩
  have O2 := hide o2
  clear o1 o2
  go_wp2
  go_ret
  exact ⟨_, _, rfl, OwnCls.mono (unhide O2) (E0.trans E1).size, (E0.trans E1).trans E2⟩
/-- The cells of clusters. -/
theorem OwnCls.ys {w : World} {b : Nat} {v : Value} {rs : List Value} {cs : List (List Int × Int)} (h : OwnCls w b v rs cs) : ∃ ys, w.ownsRow b 93 2 v cs.length ys ∧ (∀ j, j < cs.length → ys[j * 2]? = some (rV rs j) ∧ ys[j * 2 + 1]? = some (.int .i64 (cW cs j))) ∧ Src w 2 v cs.length ys := by
  obtain ⟨h0, ⟨ys, h1, h2⟩, h3, h4⟩ := h
  refine ⟨ys, h1, h2, h1.1, fun u hu => ?_, ?_⟩
  · obtain ⟨i, hi⟩ := List.mem_iff_getElem?.1 hu
    have hil : i < cs.length * 2 := by rw [← h1.1]; exact (List.getElem?_eq_some_iff.1 hi).1
    have hj := h2 (i / 2) (by omega)
    rcases Nat.mod_two_eq_zero_or_one i with e | e
    · rw [show i / 2 * 2 = i by omega, hi] at hj
      obtain rfl := Option.some.inj hj.1
      rcases (h3 (i / 2) (by omega)).2 with ⟨e2, _⟩ | ⟨g, cap, cur, e2, _⟩ <;> rw [e2] <;> rfl
    · rw [show i / 2 * 2 + 1 = i by omega, hi] at hj
      obtain rfl := Option.some.inj hj.2
      rfl
  · rcases h1.2 with ⟨rfl, e0⟩ | ⟨g, cap, cur, rfl, _⟩
    · exact .inl ⟨0, rfl, e0⟩
    · exact .inr ⟨_, cap, rfl, h1.cells rfl⟩
/-- Clusters appended to clusters. -/
theorem OwnCls.append {w w' : World} {b b2 : Nat} {v1 v2 v' : Value} {rs1 rs2 : List Value} {cs1 cs2 : List (List Int × Int)} {ys1 ys2 : List Value} (h1 : OwnCls w b v1 rs1 cs1) (h2 : OwnCls w b2 v2 rs2 cs2) (hb : b ≤ b2) (hlt : ∀ g, Foot v1 rs1 cs1.length g → g < b2)
    (o1 : w.ownsRow b 93 2 v1 cs1.length ys1) (k1 : ∀ j, j < cs1.length → ys1[j * 2]? = some (rV rs1 j) ∧ ys1[j * 2 + 1]? = some (.int .i64 (cW cs1 j))) (k2 : ∀ j, j < cs2.length → ys2[j * 2]? = some (rV rs2 j) ∧ ys2[j * 2 + 1]? = some (.int .i64 (cW cs2 j)))
    (o' : w'.ownsRow b 93 2 v' (cs1.length + cs2.length) (ys1 ++ ys2)) (hg : w.grownBy w' v1.ownBlock) : OwnCls w' b v' (rs1 ++ rs2) (cs1 ++ cs2) := by
  have l1 : rs1.length = cs1.length := h1.1
  have l2 : rs2.length = cs2.length := h2.1
  have ly : ys1.length = cs1.length * 2 := o1.1
  have fr : Fr (fun g => v1.ownBlock = some g) w w' := (Fr.refl _ w).grown hg (fun k hk => hk)
  have rv : ∀ j, rV (rs1 ++ rs2) j = if j < cs1.length then rV rs1 j else rV rs2 (j - cs1.length) := by
    intro j
    unfold rV
    split
    · rename_i h; rw [List.getElem?_append_left (by omega)]
    · rename_i h; rw [List.getElem?_append_right (by omega), l1]
  have lt1 : ∀ j g, j < cs1.length → (rV rs1 j).ownBlock = some g → g < b2 := fun j g hj hgg => hlt g (.inr ⟨j, hj, hgg⟩)
  have ge2 : ∀ j g, j < cs2.length → (rV rs2 j).ownBlock = some g → b2 ≤ g := fun j g hj hgg => ((h2.2.2.1 j hj).lt g hgg).1
  refine ⟨by simp [l1, l2], ⟨_, by rw [List.length_append]; exact o', fun j hj => ?_⟩, fun j hj => ?_, fun i j g hij hj => ?_⟩
  · rw [rv, cW_app]
    split
    · rename_i h
      have := k1 j h
      rw [List.getElem?_append_left (by omega), List.getElem?_append_left (by omega)]
      exact this
    · rename_i h
      simp at hj
      have := k2 (j - cs1.length) (by omega)
      rw [List.getElem?_append_right (by omega), List.getElem?_append_right (by omega), ly, show j * 2 - cs1.length * 2 = (j - cs1.length) * 2 by omega, show j * 2 + 1 - cs1.length * 2 = (j - cs1.length) * 2 + 1 by omega]
      exact this
  · rw [rv, cR_app]
    split
    · rename_i h
      exact fr.owns (h1.2.2.1 j h) (fun g hgg e => owns_apart o1 (h1.2.2.1 j h) (by decide) e hgg)
    · rename_i h
      simp at hj
      refine owns_mono (fr.owns (h2.2.2.1 _ (by omega)) (fun g hgg e => ?_)) hb
      have a := ge2 _ g (by omega) hgg
      have c := hlt g (.inl e)
      omega
  · rw [rv, rv]
    simp at hj
    intro hi
    by_cases hi1 : i < cs1.length
    · rw [if_pos hi1] at hi
      by_cases hj1 : j < cs1.length
      · rw [if_pos hj1]
        exact h1.2.2.2 i j g hij hj1 hi
      · rw [if_neg hj1]
        intro e
        have a := lt1 i g hi1 hi
        have c := ge2 _ g (by omega) e
        omega
    · rw [if_neg hi1] at hi
      rw [if_neg (by omega)]
      exact h2.2.2.2 _ _ g (by omega) (by omega) hi
/-- Where clusters lie. -/
theorem OwnCls.lt {w : World} {b : Nat} {v : Value} {rs : List Value} {cs : List (List Int × Int)} (h : OwnCls w b v rs cs) {g : Nat} (hg : Foot v rs cs.length g) : b ≤ g ∧ g < w.heap.size := by
  rcases hg with hg | ⟨j, hj, hg⟩
  · obtain ⟨ys, o, _⟩ := h.2.1
    exact o.lt g hg
  · exact (h.2.2.1 j hj).lt g hg
end Go.Proofs.YtokjpnlmkecleaaGreatDoor

namespace Go.Proofs.YtokjpnlmkecleaaGreatDoor
open Go.RowKit

/-- A piece of clusters, cut as slices are. -/
theorem ClsAt.cut {w : World} {a : Option Addr} {n c : Nat} {cs : List (List Int × Int)} (h : ClsAt w (.slice a n c) cs) (s e Z : Nat) (hse : s ≤ e) (he : e ≤ cs.length) (hZ : e - s ≤ Z) (a' : Option Addr) (ha : a' = a.map (fun x => x.add (s * 2)) ∨ e - s = 0) : ClsAt w (.slice a' (e - s) Z) ((cs.take e).drop s) := by
  have hlen : ((cs.take e).drop s).length = e - s := by simp; omega
  by_cases h0 : e - s = 0
  · exact ⟨[], a', Z, by rw [hlen], by omega, fun j hj => by omega, fun hp => by omega⟩
  obtain ⟨rs, ao, ca, e1, hca, hr, hx⟩ := h
  simp only [Value.slice.injEq] at e1
  obtain ⟨rfl, rfl, rfl⟩ := e1
  obtain ⟨b, off, rfl, hc⟩ := hx (by omega)
  have ha' : a' = some ⟨b, off + s * 2, none⟩ := by
    rcases ha with rfl | ha
    · simp [Addr.add]
    · omega
  subst ha'
  refine ⟨(List.range (e - s)).map (fun j => rV rs (s + j)), _, Z, by rw [hlen], by omega, fun j hj => ?_, fun _ => ⟨b, off + s * 2, rfl, fun j hj => ?_⟩⟩
  · rw [hlen] at hj
    rw [(sub_R cs s e j (by omega)).1]
    have e2 : rV ((List.range (e - s)).map (fun j => rV rs (s + j))) j = rV rs (s + j) := by
      conv => lhs; unfold rV
      rw [List.getElem?_map, List.getElem?_range hj]
      rfl
    rw [e2]
    exact hr (s + j) (by omega)
  · rw [hlen] at hj
    have e2 : rV ((List.range (e - s)).map (fun j => rV rs (s + j))) j = rV rs (s + j) := by
      conv => lhs; unfold rV
      rw [List.getElem?_map, List.getElem?_range hj]
      rfl
    rw [e2, (sub_R cs s e j (by omega)).2, show off + s * 2 + j * 2 = off + (s + j) * 2 by omega]
    exact hc (s + j) (by omega)
end Go.Proofs.YtokjpnlmkecleaaGreatDoor

namespace Go.Proofs.YtokjpnlmkecleaaGreatDoor
open Go.RowKit

section
variable {P : Program}
/-- copy of elements of whatever size into a block of one's own. -/
theorem run_copy_rows (w : World) (dT sT ty elem : TypeId) (sz g o dLen dCap : Nat) (a : Addr) (sLen sCap : Nat) (cur : Array Value) (t : TypeId) (cs : List Value)
    (hu : P.underlying dT = some (.slice elem)) (hs : (P.info? elem).map (·.size) = some sz)
    (hg : w.heap[g]? = some (.cells cur t (0, 0))) (hn : cs.length = Nat.min sLen dLen * sz)
    (hsrc : ∀ j v, cs[j]? = some v → w.cell? (a.add j) = some v) (hfit : o + cs.length ≤ cur.size) (h1 : ∀ v ∈ cs, v.oneCell' = true) :
    (Builtin.copy_ #[dT, sT] ty #[.slice (some ⟨g, o, none⟩) dLen dCap, .slice (some a) sLen sCap]).run P w =
      .ok (goInt (Nat.min sLen dLen)) (w.setRow g (cur.toList.take o ++ cs ++ cur.toList.drop (o + cs.length)).toArray) := by
  have hl := run_loadCells_list (P := P) w a cs hsrc
  have hst := run_storeCells_at P g o t cs 0 cur w hg (by simpa using hfit) h1
  cases hq : P.info? elem with
  | none => simp [hq] at hs
  | some i =>
    have hi : i.size = sz := by simpa [hq] using hs
    simp [Builtin.copy_, run_underlying hu, Builtin.lenOf, Builtin.firstCells, sizeOf, typeInfo, hq, hi, ← hn, hl, hst]
end
/-- A list with a piece put over a part of it. -/
def seg {α : Type} (l : List α) (o : Nat) (p : List α) : List α := l.take o ++ p ++ l.drop (o + p.length)
theorem seg_len {α : Type} (l : List α) (o : Nat) (p : List α) (h : o + p.length ≤ l.length) : (seg l o p).length = l.length := by
  unfold seg
  simp
  omega
theorem seg_at {α : Type} (l : List α) (o : Nat) (p : List α) (h : o + p.length ≤ l.length) (j : Nat) : (seg l o p)[j]? = if j < o then l[j]? else if j < o + p.length then p[j - o]? else l[j]? := by
  unfold seg
  have ho : (l.take o).length = o := by rw [List.length_take]; omega
  by_cases h1 : j < o
  · rw [if_pos h1, List.append_assoc, List.getElem?_append_left (by omega), List.getElem?_take, if_pos h1]
  · rw [if_neg h1, List.append_assoc, List.getElem?_append_right (by omega), ho]
    by_cases h2 : j < o + p.length
    · rw [if_pos h2, List.getElem?_append_left (by omega)]
    · rw [if_neg h2, List.getElem?_append_right (by omega), List.getElem?_drop]
      congr 1
      omega
/-- The cells of clusters whose runes lie in rs. -/
def clCells (rs : List Value) (cs : List (List Int × Int)) : Nat → List Value
  | 0 => []
  | k + 1 => clCells rs cs k ++ [rV rs k, .int .i64 (cW cs k)]
theorem clCells_len (rs : List Value) (cs : List (List Int × Int)) : ∀ k, (clCells rs cs k).length = k * 2
  | 0 => rfl
  | k + 1 => by rw [clCells, List.length_append, clCells_len rs cs k]; simp; omega
theorem clCells_at (rs : List Value) (cs : List (List Int × Int)) : ∀ k j, j < k → (clCells rs cs k)[j * 2]? = some (rV rs j) ∧ (clCells rs cs k)[j * 2 + 1]? = some (.int .i64 (cW cs j))
  | 0, j, h => by omega
  | k + 1, j, h => by
    have hl := clCells_len rs cs k
    rw [clCells]
    by_cases e : j = k
    · subst e
      rw [List.getElem?_append_right (by omega), List.getElem?_append_right (by omega), hl]
      simp
    · rw [List.getElem?_append_left (by omega), List.getElem?_append_left (by omega)]
      exact clCells_at rs cs k j (by omega)
/-- A row of runes that reads so whatever is written into block P. -/
def RS (P : Nat) (W : World) (v : Value) (xs : List Int) : Prop := ∀ W', Fr (fun q => q = P) W W' → IntsAt W' .i32 v xs
theorem RS.fr {P : Nat} {W W' : World} {v : Value} {xs : List Int} (h : RS P W v xs) (f : Fr (fun q => q = P) W W') : RS P W' v xs := fun _ f2 => h _ (f.tr f2)
theorem RS.now {P : Nat} {W : World} {v : Value} {xs : List Int} (h : RS P W v xs) : IntsAt W .i32 v xs := h W (Fr.refl _ _)
/-- A gap buffer of 300 places: what stands in front of the cursor, and behind it. -/
structure GapIn (P : Nat) (W : World) (cl : List Value) (rl rr : List Value) (A B : List (List Int × Int)) : Prop where
  len : cl.length = 600
  fit : A.length + B.length ≤ 300
  na : rl.length = A.length
  nb : rr.length = B.length
  la : ∀ j, j < A.length → cl[j * 2]? = some (rV rl j) ∧ cl[j * 2 + 1]? = some (.int .i64 (cW A j))
  lb : ∀ j, j < B.length → cl[(300 - B.length + j) * 2]? = some (rV rr j) ∧ cl[(300 - B.length + j) * 2 + 1]? = some (.int .i64 (cW B j))
  ra : ∀ j, j < A.length → RS P W (rV rl j) (cR A j)
  rb : ∀ j, j < B.length → RS P W (rV rr j) (cR B j)
  one : ∀ v ∈ cl, v.oneCell' = true
theorem GapIn.fr {P : Nat} {W W' : World} {cl rl rr : List Value} {A B : List (List Int × Int)} (h : GapIn P W cl rl rr A B) (f : Fr (fun q => q = P) W W') : GapIn P W' cl rl rr A B :=
  ⟨h.len, h.fit, h.na, h.nb, h.la, h.lb, fun j hj => (h.ra j hj).fr f, fun j hj => (h.rb j hj).fr f, h.one⟩
/-- The cells of an editor: the places, front and behind, kill, undo. -/
def edC (cl : List Value) (fr bh : Int) (k : ByteArray) (u : Value) : Array Value := (cl ++ [.int .i64 fr, .int .i64 bh, .string k, u]).toArray
theorem edC_at {cl : List Value} {fr bh : Int} {k : ByteArray} {u : Value} (h : cl.length = 600) : (edC cl fr bh k u)[600]? = some (.int .i64 fr) ∧ (edC cl fr bh k u)[601]? = some (.int .i64 bh) ∧ (edC cl fr bh k u)[602]? = some (.string k) ∧ (edC cl fr bh k u)[603]? = some u := by
  unfold edC
  simp [h]
theorem edC_size {cl : List Value} {fr bh : Int} {k : ByteArray} {u : Value} (h : cl.length = 600) : (edC cl fr bh k u).size = 604 := by
  unfold edC
  simp [h]
theorem edC_cl {cl : List Value} {fr bh : Int} {k : ByteArray} {u : Value} (h : cl.length = 600) (j : Nat) (hj : j < 600) : (edC cl fr bh k u)[j]? = cl[j]? := by
  unfold edC
  simp [List.getElem?_append, h, hj]
theorem edC_seg {cl p : List Value} {fr bh : Int} {k : ByteArray} {u : Value} (h : cl.length = 600) (o : Nat) (hp : o + p.length ≤ 600) : ((edC cl fr bh k u).toList.take o ++ p ++ (edC cl fr bh k u).toList.drop (o + p.length)).toArray = edC (seg cl o p) fr bh k u := by
  unfold edC seg
  rw [List.take_append_of_le_length (by omega), List.drop_append_of_le_length (by omega)]
  simp
theorem edC_front {cl : List Value} {fr bh fr' : Int} {k : ByteArray} {u : Value} (h : cl.length = 600) : (edC cl fr bh k u).setIfInBounds 600 (.int .i64 fr') = edC cl fr' bh k u := by
  unfold edC
  simp [h]
theorem edC_behind {cl : List Value} {fr bh bh' : Int} {k : ByteArray} {u : Value} (h : cl.length = 600) : (edC cl fr bh k u).setIfInBounds 601 (.int .i64 bh') = edC cl fr bh' k u := by
  unfold edC
  simp [h]
theorem rV_app (xs ys : List Value) (j : Nat) : rV (xs ++ ys) j = if j < xs.length then rV xs j else rV ys (j - xs.length) := by
  unfold rV
  by_cases h : j < xs.length
  · rw [if_pos h, List.getElem?_append_left h]
  · rw [if_neg h, List.getElem?_append_right (by omega)]
/-- Clusters put in at the cursor. -/
theorem GapIn.insert {P : Nat} {W : World} {cl rl rr rs : List Value} {A B cs : List (List Int × Int)} (h : GapIn P W cl rl rr A B) (hrs : rs.length = cs.length) (hfit : A.length + cs.length + B.length ≤ 300) (hr : ∀ j, j < cs.length → RS P W (rV rs j) (cR cs j)) (h1 : ∀ v ∈ clCells rs cs cs.length, v.oneCell' = true) :
    GapIn P W (seg cl (A.length * 2) (clCells rs cs cs.length)) (rl ++ rs) rr (A ++ cs) B := by
  have hl := h.len
  have hc := clCells_len rs cs cs.length
  have hs : A.length * 2 + (clCells rs cs cs.length).length ≤ cl.length := by omega
  refine ⟨by rw [seg_len _ _ _ hs, hl], by rw [List.length_append]; omega, by rw [List.length_append, List.length_append, h.na, hrs], h.nb, fun j hj => ?_, fun j hj => ?_, fun j hj => ?_, h.rb, fun v hv => ?_⟩
  · rw [List.length_append] at hj
    have e1 := seg_at cl (A.length * 2) (clCells rs cs cs.length) hs (j * 2)
    have e2 := seg_at cl (A.length * 2) (clCells rs cs cs.length) hs (j * 2 + 1)
    by_cases e : j < A.length
    · rw [if_pos (show j * 2 < A.length * 2 by omega)] at e1
      rw [if_pos (show j * 2 + 1 < A.length * 2 by omega)] at e2
      exact ⟨by rw [e1, rV_app, h.na, if_pos e]; exact (h.la j e).1, by rw [e2, cW_app, if_pos e]; exact (h.la j e).2⟩
    · have h2 := clCells_at rs cs cs.length (j - A.length) (by omega)
      rw [if_neg (show ¬ j * 2 < A.length * 2 by omega), if_pos (show j * 2 < A.length * 2 + (clCells rs cs cs.length).length by omega), show j * 2 - A.length * 2 = (j - A.length) * 2 by omega] at e1
      rw [if_neg (show ¬ j * 2 + 1 < A.length * 2 by omega), if_pos (show j * 2 + 1 < A.length * 2 + (clCells rs cs cs.length).length by omega), show j * 2 + 1 - A.length * 2 = (j - A.length) * 2 + 1 by omega] at e2
      exact ⟨by rw [e1, rV_app, h.na, if_neg e]; exact h2.1, by rw [e2, cW_app, if_neg e]; exact h2.2⟩
  · have e1 := seg_at cl (A.length * 2) (clCells rs cs cs.length) hs ((300 - B.length + j) * 2)
    have e2 := seg_at cl (A.length * 2) (clCells rs cs cs.length) hs ((300 - B.length + j) * 2 + 1)
    rw [if_neg (show ¬ (300 - B.length + j) * 2 < A.length * 2 by omega), if_neg (show ¬ (300 - B.length + j) * 2 < A.length * 2 + (clCells rs cs cs.length).length by omega)] at e1
    rw [if_neg (show ¬ (300 - B.length + j) * 2 + 1 < A.length * 2 by omega), if_neg (show ¬ (300 - B.length + j) * 2 + 1 < A.length * 2 + (clCells rs cs cs.length).length by omega)] at e2
    exact ⟨by rw [e1]; exact (h.lb j hj).1, by rw [e2]; exact (h.lb j hj).2⟩
  · rw [List.length_append] at hj
    rw [rV_app, cR_app, h.na]
    by_cases e : j < A.length
    · rw [if_pos e, if_pos e]
      exact h.ra j e
    · rw [if_neg e, if_neg e]
      exact hr _ (by omega)
  · unfold seg at hv
    rcases List.mem_append.1 hv with hv | hv
    · rcases List.mem_append.1 hv with hv | hv
      · exact h.one v (List.mem_of_mem_take hv)
      · exact h1 v hv
    · exact h.one v (List.mem_of_mem_drop hv)
/-- The clusters in front of the cursor, as a slice of the places. -/
theorem GapIn.left {P : Nat} {W : World} {cl rl rr : List Value} {A B : List (List Int × Int)} {fr bh : Int} {k : ByteArray} {u : Value} {T : TypeId} (h : GapIn P W cl rl rr A B) (hP : W.heap[P]? = some (.cells (edC cl fr bh k u) T (0, 0))) (c : Nat) (hc : A.length ≤ c) : ClsAt W (.slice (some ⟨P, 0, none⟩) A.length c) A := by
  refine ⟨rl, _, c, rfl, hc, fun j hj => (h.ra j hj).now, fun _ => ⟨P, 0, rfl, fun j hj => ?_⟩⟩
  have hl := h.len
  have hf := h.fit
  have h1 := h.la j hj
  rw [cell_of_row W P _ _ _ _ hP, cell_of_row W P _ _ _ _ hP, Nat.zero_add, edC_cl hl _ (by omega), edC_cl hl _ (by omega)]
  exact h1
/-- The clusters behind the cursor. -/
theorem GapIn.right {P : Nat} {W : World} {cl rl rr : List Value} {A B : List (List Int × Int)} {fr bh : Int} {k : ByteArray} {u : Value} {T : TypeId} (h : GapIn P W cl rl rr A B) (hP : W.heap[P]? = some (.cells (edC cl fr bh k u) T (0, 0))) (c : Nat) (hc : B.length ≤ c) : ClsAt W (.slice (some ⟨P, (300 - B.length) * 2, none⟩) B.length c) B := by
  refine ⟨rr, _, c, rfl, hc, fun j hj => (h.rb j hj).now, fun _ => ⟨P, (300 - B.length) * 2, rfl, fun j hj => ?_⟩⟩
  have hl := h.len
  have hf := h.fit
  have h1 := h.lb j hj
  rw [cell_of_row W P _ _ _ _ hP, cell_of_row W P _ _ _ _ hP, ← Nat.add_mul, edC_cl hl _ (by omega), edC_cl hl _ (by omega)]
  exact h1
end Go.Proofs.YtokjpnlmkecleaaGreatDoor
