import Derived.Test.YtbieoijeilhadaaDoorEdW
import Derived.Test.YtbieoijeilhadaaDoorKys
import Derived.Test.YtbieoijeilhadaaDoorBlocks
import Derived.Laws.CopyRow
namespace Go.Proofs.YtbieoijeilhadaaDoor
open Go.RowKit
theorem wd_left {cs : List (List Int × Int)} {m r : Nat} (hm : m ≤ cs.length) (hr : r ≤ m) (h1 : ∀ q, m ≤ q → q < cs.length → spB (cR cs q) = true) (h2 : 0 < m → spB (cR cs (m - 1)) = false) (h3 : ∀ q, r ≤ q → q < m → spB (cR cs q) = false) (h4 : 0 < r → spB (cR cs (r - 1)) = true) : Wd (fun j => spB (cR cs (cs.length - 1 - j))) cs.length (cs.length - r) := by
  refine ⟨cs.length - m, ⟨Nat.zero_le _, by omega, fun j _ hj => h1 _ (by omega) (by omega), fun h => ?_⟩, by omega, by omega, fun j hj1 hj2 => ?_, fun h => ?_⟩
  · show spB (cR cs (cs.length - 1 - (cs.length - m))) = false
    rw [show cs.length - 1 - (cs.length - m) = m - 1 by omega]
    exact h2 (by omega)
  · show (!spB (cR cs (cs.length - 1 - j))) = true
    rw [h3 _ (by omega) (by omega)]
    rfl
  · show (!spB (cR cs (cs.length - 1 - (cs.length - r)))) = false
    rw [show cs.length - 1 - (cs.length - r) = r - 1 by omega, h4 (by omega)]
    rfl
set_option maxRecDepth 10000 in
set_option maxHeartbeats 2000000 in
theorem l4WordLeft_any (v : Value) (cs : List (List Int × Int)) (w : World) (hv : ClsAt w v cs) (hl : cs.length ≤ 16777216) :
    Calls Tryd.prog 128 #[v] w fun e w' => ∃ r : Nat, e = .returned (.int .i64 (r : Int)) ∧ r ≤ cs.length ∧ Wd (fun j => spB (cR cs (cs.length - 1 - j))) cs.length (cs.length - r) ∧ Ext w w' := by
  obtain ⟨rs, ao, ca, rfl, hca, hr, hx⟩ := hv
  have HX := hide hx
  have HR := hide hr
  clear hx hr
  go_enter Tryd.func128, Tryd.ntmps128
  go_wp2
  go_loopw [3] (fun i wr => ∃ (m : Nat), m ≤ cs.length ∧ i = .int .i64 m ∧ Hid (∀ q, m ≤ q → q < cs.length → spB (cR cs q) = true) ∧ Ext w wr) (fun i _ => (intOf i).toNat)
  case atStart => exact ⟨cs.length, Nat.le_refl _, rfl, hide (fun q h1 h2 => by omega), Ext.refl _⟩
  case round =>
    obtain ⟨m, hmn, rfl, HJ, hE⟩ := hrel
    by_cases hlt : 0 < m
    · obtain ⟨b, off, hao, hc⟩ := (unhide HX) (by omega)
      subst hao
      have g1 := hE.cell (hc (m - 1) (by omega)).1
      have g2 := hE.cell (hc (m - 1) (by omega)).2
      have bj : (0 : Int) < (m : Int) := by omega
      have hw1 : IntKind.i64.wrap ((m : Int) - 1) = ((m - 1 : Nat) : Int) := by rw [IntKind.wrap_i64]; omega
      have bk : ((m - 1 : Nat) : Int) < (cs.length : Int) := by omega
      have HS := hide (fun W (E : Ext w W) => l4Space_any (rV rs (m - 1)) (cW cs (m - 1)) (cR cs (m - 1)) W (((unhide HR) (m - 1) (by omega)).ext E))
      clear hc
      go_wp2_with fail
      refine ((unhide HS) _ hE).mono ?_
      rintro e w1 ⟨rfl, E1⟩
      have hE2 := hE.trans E1
      cases hb : spB (cR cs (m - 1)) with
      | true =>
        have HJ3 : Hid (∀ q, m - 1 ≤ q → q < cs.length → spB (cR cs q) = true) := hide (fun q h1 h2 => by
          by_cases e : q = m - 1
          · subst e; exact hb
          · exact (unhide HJ) q (by omega) h2)
        clear HS g1 g2 hb E1
        go_wp2
        go_roundw
        case rel => exact ⟨m - 1, by omega, by go_num, HJ3, hE2⟩
        case measure => simp [intOf]; omega
      | false =>
        have HSK : Hid (0 < m → spB (cR cs (m - 1)) = false) := hide (fun _ => hb)
        clear HS g1 g2 hb E1 hE
        go_wp2
        go_loopw [3] (fun i wr => ∃ (r : Nat), r ≤ m ∧ i = .int .i64 r ∧ Hid (∀ q, r ≤ q → q < m → spB (cR cs q) = false) ∧ Ext w wr) (fun i _ => (intOf i).toNat)
        case atStart => exact ⟨m, Nat.le_refl _, rfl, hide (fun q h1 h2 => by omega), hE2⟩
        case round =>
          obtain ⟨r, hrm, rfl, HJ2, hE3⟩ := hrel
          by_cases hlt2 : 0 < r
          · obtain ⟨b2, off2, hao2, hc2⟩ := (unhide HX) (by omega)
            first | subst hao2 | (obtain ⟨rfl, rfl⟩ := Addr.mk.inj (Option.some.inj hao2) |>.imp id (fun h => h.1))
            have q1 := hE3.cell (hc2 (r - 1) (by omega)).1
            have q2 := hE3.cell (hc2 (r - 1) (by omega)).2
            have bj2 : (0 : Int) < (r : Int) := by omega
            have hw2 : IntKind.i64.wrap ((r : Int) - 1) = ((r - 1 : Nat) : Int) := by rw [IntKind.wrap_i64]; omega
            have bk2 : ((r - 1 : Nat) : Int) < (cs.length : Int) := by omega
            have HS2 := hide (l4Space_any (rV rs (r - 1)) (cW cs (r - 1)) (cR cs (r - 1)) _ (((unhide HR) (r - 1) (by omega)).ext hE3))
            clear hc2
            go_wp2_with fail
            refine (unhide HS2).mono ?_
            rintro e w5 ⟨rfl, E5⟩
            have hE5 := hE3.trans E5
            cases hb2 : spB (cR cs (r - 1)) with
            | false =>
              have HJ3 : Hid (∀ q, r - 1 ≤ q → q < m → spB (cR cs q) = false) := hide (fun q h1 h2 => by
                by_cases e : q = r - 1
                · subst e; exact hb2
                · exact (unhide HJ2) q (by omega) h2)
              clear HS2 q1 q2 hb2 E5
              go_wp2
              go_roundw
              case rel => exact ⟨r - 1, by omega, by go_num, HJ3, hE5⟩
              case measure => simp [intOf]; omega
            | true =>
              have HW : Hid (Wd (fun j => spB (cR cs (cs.length - 1 - j))) cs.length (cs.length - r)) := hide (wd_left hmn hrm (unhide HJ) (unhide HSK) (unhide HJ2) (fun _ => hb2))
              clear HS2 q1 q2 hb2 E5
              go_wp2
              go_ret
              exact ⟨r, rfl, by omega, unhide HW, hE5⟩
          · obtain rfl : r = 0 := by omega
            have HW : Hid (Wd (fun j => spB (cR cs (cs.length - 1 - j))) cs.length (cs.length - 0)) := hide (wd_left hmn hrm (unhide HJ) (unhide HSK) (unhide HJ2) (fun h => by omega))
            go_wp2
            go_ret
            exact ⟨0, rfl, by omega, unhide HW, hE3⟩
    · have hb9 : ¬ (0 : Int) < (m : Int) := by omega
      have HSK : Hid (0 < m → spB (cR cs (m - 1)) = false) := hide (fun h => by omega)
      have hE2 := hE
      clear hE
      go_wp2
      go_loopw [3] (fun i wr => ∃ (r : Nat), r ≤ m ∧ i = .int .i64 r ∧ Hid (∀ q, r ≤ q → q < m → spB (cR cs q) = false) ∧ Ext w wr) (fun i _ => (intOf i).toNat)
      case atStart => exact ⟨m, Nat.le_refl _, rfl, hide (fun q h1 h2 => by omega), hE2⟩
      case round =>
        obtain ⟨r, hrm, rfl, HJ2, hE3⟩ := hrel
        by_cases hlt2 : 0 < r
        · obtain ⟨b2, off2, hao2, hc2⟩ := (unhide HX) (by omega)
          first | subst hao2 | (obtain ⟨rfl, rfl⟩ := Addr.mk.inj (Option.some.inj hao2) |>.imp id (fun h => h.1))
          have q1 := hE3.cell (hc2 (r - 1) (by omega)).1
          have q2 := hE3.cell (hc2 (r - 1) (by omega)).2
          have bj2 : (0 : Int) < (r : Int) := by omega
          have hw2 : IntKind.i64.wrap ((r : Int) - 1) = ((r - 1 : Nat) : Int) := by rw [IntKind.wrap_i64]; omega
          have bk2 : ((r - 1 : Nat) : Int) < (cs.length : Int) := by omega
          have HS2 := hide (l4Space_any (rV rs (r - 1)) (cW cs (r - 1)) (cR cs (r - 1)) _ (((unhide HR) (r - 1) (by omega)).ext hE3))
          clear hc2
          go_wp2_with fail
          refine (unhide HS2).mono ?_
          rintro e w5 ⟨rfl, E5⟩
          have hE5 := hE3.trans E5
          cases hb2 : spB (cR cs (r - 1)) with
          | false =>
            have HJ3 : Hid (∀ q, r - 1 ≤ q → q < m → spB (cR cs q) = false) := hide (fun q h1 h2 => by
              by_cases e : q = r - 1
              · subst e; exact hb2
              · exact (unhide HJ2) q (by omega) h2)
            clear HS2 q1 q2 hb2 E5
            go_wp2
            go_roundw
            case rel => exact ⟨r - 1, by omega, by go_num, HJ3, hE5⟩
            case measure => simp [intOf]; omega
          | true =>
            have HW : Hid (Wd (fun j => spB (cR cs (cs.length - 1 - j))) cs.length (cs.length - r)) := hide (wd_left hmn hrm (unhide HJ) (unhide HSK) (unhide HJ2) (fun _ => hb2))
            clear HS2 q1 q2 hb2 E5
            go_wp2
            go_ret
            exact ⟨r, rfl, by omega, unhide HW, hE5⟩
        · obtain rfl : r = 0 := by omega
          have HW : Hid (Wd (fun j => spB (cR cs (cs.length - 1 - j))) cs.length (cs.length - 0)) := hide (wd_left hmn hrm (unhide HJ) (unhide HSK) (unhide HJ2) (fun h => by omega))
          go_wp2
          go_ret
          exact ⟨0, rfl, by omega, unhide HW, hE3⟩
end Go.Proofs.YtbieoijeilhadaaDoor

namespace Go.Proofs.YtbieoijeilhadaaDoor
open Go.RowKit
theorem flat_take (cs : List (List Int × Int)) (j : Nat) (hj : j < cs.length) : flat (cs.take (j + 1)) = flat (cs.take j) ++ cR cs j := by
  rw [List.take_succ_eq_append_getElem hj, flat_app]
  simp [flat, cR, hj]
theorem flat_len (cs : List (List Int × Int)) : (flat cs).length = sumR cs cs.length := by
  have h : ∀ k, k ≤ cs.length → (flat (cs.take k)).length = sumR cs k := by
    intro k
    induction k with
    | zero => intro _; simp [flat, sumR]
    | succ k ih => intro hk; rw [flat_take cs k (by omega), List.length_append, ih (by omega), sumR]
  have := h cs.length (Nat.le_refl _)
  rwa [List.take_length] at this
end Go.Proofs.YtbieoijeilhadaaDoor

namespace Go.Proofs.YtbieoijeilhadaaDoor
open Go.RowKit
def pairsL (A B : Nat → Value) (n : Nat) : List Value := (List.range (n * 2)).map (fun q => if q % 2 = 0 then A (q / 2) else B (q / 2))
theorem pairsL_len (A B : Nat → Value) (n : Nat) : (pairsL A B n).length = n * 2 := by simp [pairsL]
theorem pairsL_at (A B : Nat → Value) (n j : Nat) (hj : j < n) : (pairsL A B n)[j * 2]? = some (A j) ∧ (pairsL A B n)[j * 2 + 1]? = some (B j) := by
  unfold pairsL
  constructor
  · rw [List.getElem?_map, List.getElem?_range (by omega)]
    simp
  · rw [List.getElem?_map, List.getElem?_range (by omega)]
    have h1 : (j * 2 + 1) % 2 = 1 := by omega
    have h2 : (j * 2 + 1) / 2 = j := by omega
    simp [h1, h2]
theorem pairsL_news {w : World} {A B : Nat → Value} {n b off : Nat} (h : ∀ j, j < n → w.cell? ⟨b, off + j * 2, none⟩ = some (A j) ∧ w.cell? ⟨b, off + j * 2 + 1, none⟩ = some (B j)) :
    ∀ j u, (pairsL A B n)[j]? = some u → w.cell? ((⟨b, off, none⟩ : Addr).add j) = some u := by
  intro j u hu
  rw [Addr.add_lit]
  have hj : j < n * 2 := by
    have := (List.getElem?_eq_some_iff.1 hu).1
    rwa [pairsL_len] at this
  obtain ⟨h1, h2⟩ := pairsL_at A B n (j / 2) (by omega)
  obtain ⟨c1, c2⟩ := h (j / 2) (by omega)
  by_cases e : j % 2 = 0
  · have ej : j / 2 * 2 = j := by omega
    rw [ej] at h1 c1
    rw [h1] at hu
    rw [c1]
    exact hu
  · have ej : j / 2 * 2 + 1 = j := by omega
    rw [ej] at h2
    rw [h2] at hu
    rw [Nat.add_assoc, ej] at c2
    rw [c2]
    exact hu
theorem pairsL_one {A B : Nat → ByteArray} {n : Nat} : ∀ u ∈ pairsL (fun j => .string (A j)) (fun j => .string (B j)) n, u.oneCell' = true := by
  intro u hu
  simp only [pairsL, List.mem_map] at hu
  obtain ⟨q, _, rfl⟩ := hu
  split <;> rfl
end Go.Proofs.YtbieoijeilhadaaDoor

namespace Go.Proofs.YtbieoijeilhadaaDoor
open Go.RowKit
def undoN (un : List (ByteArray × ByteArray)) (s : ByteArray × ByteArray) : List (ByteArray × ByteArray) := if 50 < un.length + 1 then (un ++ [s]).drop 1 else un ++ [s]
def unL (tx hf : Nat → ByteArray) (n : Nat) : List (ByteArray × ByteArray) := (List.range n).map (fun j => (tx j, hf j))
theorem unL_len (tx hf : Nat → ByteArray) (n : Nat) : (unL tx hf n).length = n := by unfold unL; simp
def lnT (un : List (ByteArray × ByteArray)) (j : Nat) : ByteArray := ((un[j]?).getD (noT, noT)).1
def lnH (un : List (ByteArray × ByteArray)) (j : Nat) : ByteArray := ((un[j]?).getD (noT, noT)).2
theorem lnT_at {un : List (ByteArray × ByteArray)} {j : Nat} {s : ByteArray × ByteArray} (h : un[j]? = some s) : lnT un j = s.1 := by simp [lnT, h]
theorem lnH_at {un : List (ByteArray × ByteArray)} {j : Nat} {s : ByteArray × ByteArray} (h : un[j]? = some s) : lnH un j = s.2 := by simp [lnH, h]
theorem unL_at (tx hf : Nat → ByteArray) {n j : Nat} (h : j < n) : (unL tx hf n)[j]? = some (tx j, hf j) := by simp [unL, h]
theorem lnT_un (tx hf : Nat → ByteArray) {n j : Nat} (h : j < n) : lnT (unL tx hf n) j = tx j := lnT_at (unL_at tx hf h)
theorem lnH_un (tx hf : Nat → ByteArray) {n j : Nat} (h : j < n) : lnH (unL tx hf n) j = hf j := lnH_at (unL_at tx hf h)
theorem pairsL_succ (A B : Nat → Value) (n : Nat) : pairsL A B (n + 1) = pairsL A B n ++ [A n, B n] := by
  unfold pairsL
  rw [show (n + 1) * 2 = n * 2 + 1 + 1 by omega, List.range_succ, List.range_succ]
  simp only [List.map_append, List.map_cons, List.map_nil, List.append_assoc]
  rw [show (n * 2) % 2 = 0 by omega, show (n * 2 + 1) % 2 = 1 by omega, show n * 2 / 2 = n by omega, show (n * 2 + 1) / 2 = n by omega]
  simp
theorem unL_eq (tx hf : Nat → ByteArray) (n : Nat) (un : List (ByteArray × ByteArray)) (h : un = unL tx hf n) : un.length = n := by rw [h, unL_len]
theorem undoN_len (un : List (ByteArray × ByteArray)) (s : ByteArray × ByteArray) (h : un.length ≤ 50) : (undoN un s).length ≤ 50 := by
  unfold undoN
  split
  · simp; omega
  · simp; omega
theorem pairsL_congr {A B A' B' : Nat → Value} {n : Nat} (h : ∀ j, j < n → A j = A' j ∧ B j = B' j) : pairsL A B n = pairsL A' B' n := by
  unfold pairsL
  refine List.map_congr_left (fun q hq => ?_)
  have hq' : q < n * 2 := List.mem_range.1 hq
  have := h (q / 2) (by omega)
  split
  · exact this.1
  · exact this.2
def prL (un : List (ByteArray × ByteArray)) : List Value := pairsL (fun j => .string (lnT un j)) (fun j => .string (lnH un j)) un.length
theorem prL_snoc (un : List (ByteArray × ByteArray)) (s : ByteArray × ByteArray) : prL (un ++ [s]) = prL un ++ [.string s.1, .string s.2] := by
  unfold prL
  rw [List.length_append, List.length_singleton, pairsL_succ]
  have h0 : (un ++ [s])[un.length]? = some s := by simp
  rw [lnT_at h0, lnH_at h0]
  refine congrArg (· ++ _) (pairsL_congr (fun j hj => ?_))
  have h1 : (un ++ [s])[j]? = un[j]? := List.getElem?_append_left hj
  simp [lnT, lnH, h1]
theorem prL_un (tx hf : Nat → ByteArray) (n : Nat) : prL (unL tx hf n) = pairsL (fun j => .string (tx j)) (fun j => .string (hf j)) n := by
  unfold prL
  rw [unL_len]
  exact pairsL_congr (fun j hj => ⟨by rw [lnT_un tx hf hj], by rw [lnH_un tx hf hj]⟩)
theorem lnT_drop (un : List (ByteArray × ByteArray)) (j : Nat) : lnT (un.drop 1) j = lnT un (j + 1) := by simp [lnT]
theorem lnH_drop (un : List (ByteArray × ByteArray)) (j : Nat) : lnH (un.drop 1) j = lnH un (j + 1) := by simp [lnH]
theorem prL_at (un : List (ByteArray × ByteArray)) (j : Nat) (hj : j < un.length) : (prL un)[j * 2]? = some (.string (lnT un j)) ∧ (prL un)[j * 2 + 1]? = some (.string (lnH un j)) := pairsL_at _ _ _ j hj
theorem own2_list {w : World} {base : Nat} {T : TypeId} {v : Value} {n : Nat} {A B : Nat → Value} (h : Own2 w base T v n A B) : w.ownsRow base T 2 v n (pairsL A B n) := by
  obtain ⟨ys, h1, h2⟩ := h
  have hl : ys.length = n * 2 := h1.1
  have e : ys = pairsL A B n := by
    refine List.ext_getElem? (fun i => ?_)
    by_cases hi : i < n * 2
    · obtain ⟨a1, a2⟩ := h2 (i / 2) (by omega)
      obtain ⟨b1, b2⟩ := pairsL_at A B n (i / 2) (by omega)
      by_cases e : i % 2 = 0
      · rw [show i / 2 * 2 = i by omega] at a1 b1
        rw [a1, b1]
      · rw [show i / 2 * 2 + 1 = i by omega] at a2 b2
        rw [a2, b2]
    · rw [List.getElem?_eq_none (by omega), List.getElem?_eq_none (by rw [pairsL_len]; omega)]
  rw [← e]
  exact h1
end Go.Proofs.YtbieoijeilhadaaDoor

namespace Go.Proofs.YtbieoijeilhadaaDoor
open Go.RowKit
theorem goodC_ne {c : List Int × Int} (h : GoodC c) : c.1 ≠ [] := by
  intro e
  unfold GoodC at h
  rw [e] at h
  simp at h
theorem textC_pos {X : List (List Int × Int)} (h : ∀ c ∈ X, GoodC c) (hX : X ≠ []) : textC X ≠ [] := by
  cases X with
  | nil => exact absurd rfl hX
  | cons c cs =>
    have h1 := goodC_ne (h c (by simp))
    intro e
    rw [textC_flat, flat] at e
    cases hc : c.1 with
    | nil => exact h1 hc
    | cons x xs =>
      rw [hc] at e
      have hp := encR_pos x
      simp [encA] at e
      rw [e.1] at hp
      simp at hp
theorem cut_good (L : List Int) : ∀ c ∈ cutC L, GoodC c := clus_good _
theorem cut_nil {L : List Int} (h : settleL L = L) : (cutC L).length = 0 ↔ L = [] := by
  constructor
  · intro h0
    have e : cutC L = [] := List.eq_nil_of_length_eq_zero h0
    have h1 : textC (cutC L) = L := h
    rw [e] at h1
    exact h1.symm
  · rintro rfl
    rfl
def skF (p : Nat → Bool) (n : Nat) : Nat → Nat → Nat
  | 0, i => i
  | f + 1, i => if i < n ∧ p i = true then skF p n f (i + 1) else i
theorem skF_sk (p : Nat → Bool) (n : Nat) : ∀ f i, i ≤ n → n ≤ i + f → Sk p n i (skF p n f i)
  | 0, i, h1, h2 => ⟨Nat.le_refl _, h1, fun j a b => absurd b (Nat.not_lt.2 a), fun h => absurd h (by simp only [skF]; omega)⟩
  | f + 1, i, h1, h2 => by
    rw [skF]
    split
    · rename_i h
      obtain ⟨a, b, c, d⟩ := skF_sk p n f (i + 1) (by omega) (by omega)
      exact ⟨by omega, b, fun j x y => if e : j = i then by rw [e]; exact h.2 else c j (by omega) y, d⟩
    · rename_i h
      refine ⟨Nat.le_refl _, h1, fun j a b => by omega, fun h3 => ?_⟩
      cases e : p i with
      | false => rfl
      | true => exact absurd ⟨h3, e⟩ h
def wdN (p : Nat → Bool) (n : Nat) : Nat := skF (fun j => !p j) n n (skF p n n 0)
theorem wdN_eq {p : Nat → Bool} {n r : Nat} (h : Wd p n r) : wdN p n = r := by
  have h1 := skF_sk p n n 0 (Nat.zero_le _) (by omega)
  exact Wd.only ⟨_, h1, skF_sk (fun j => !p j) n n _ h1.2.1 (by omega)⟩ h
theorem Wd.le {p : Nat → Bool} {n r : Nat} (h : Wd p n r) : r ≤ n := by
  obtain ⟨m, _, h2⟩ := h
  exact h2.2.1
def wdR (cs : List (List Int × Int)) : Nat := wdN (fun j => spB (cR cs j)) cs.length
def wdL (cs : List (List Int × Int)) : Nat := wdN (fun j => spB (cR cs (cs.length - 1 - j))) cs.length
structure LD where
  a : ByteArray
  b : ByteArray
  c : ByteArray
  un : List (ByteArray × ByteArray)
  d : Int
section
variable (a b c : ByteArray) (un : List (ByteArray × ByteArray))
def edMv (n : Nat) : LD := ⟨toBA (textC ((cutC (baL a) ++ cutC (baL b)).take n)), toBA (textC ((cutC (baL a) ++ cutC (baL b)).drop n)), c, un, 1⟩
def edSet (l r : ByteArray) : LD := ⟨l, r, c, undoN un (a, b), 1⟩
def edLeft : LD := if (cutC (baL a)).length = 0 then ⟨a, b, c, un, 2⟩ else edMv a b c un ((cutC (baL a)).length - 1)
def edRight : LD := if (cutC (baL b)).length = 0 then ⟨a, b, c, un, 2⟩ else edMv a b c un ((cutC (baL a)).length + 1)
def edHome : LD := if (cutC (baL a)).length = 0 then ⟨a, b, c, un, 0⟩ else edMv a b c un 0
def edEnd : LD := if (cutC (baL b)).length = 0 then ⟨a, b, c, un, 0⟩ else edMv a b c un ((cutC (baL a)).length + (cutC (baL b)).length)
def edWl : LD := if wdL (cutC (baL a)) = 0 then ⟨a, b, c, un, 2⟩ else edMv a b c un ((cutC (baL a)).length - wdL (cutC (baL a)))
def edWr : LD := if wdR (cutC (baL b)) = 0 then ⟨a, b, c, un, 2⟩ else edMv a b c un ((cutC (baL a)).length + wdR (cutC (baL b)))
def edPut (rs : List Int) : LD := if rs.length = 0 then ⟨a, b, c, un, 0⟩ else if 300 < (flat (clusC (cleanL (baL a) ++ rs))).length + (cleanL (baL b)).length then ⟨a, b, c, un, 2⟩ else edSet a b c un (toBA (textC (clusC (cleanL (baL a) ++ rs)))) b
def edBack : LD := if (cutC (baL a)).length = 0 then ⟨a, b, c, un, 2⟩ else edSet a b c un (toBA (textC ((cutC (baL a)).take ((cutC (baL a)).length - 1)))) b
def edDel : LD := if (cutC (baL b)).length = 0 then (if (cutC (baL a)).length = 0 then ⟨a, b, c, un, 8⟩ else ⟨a, b, c, un, 2⟩) else edSet a b c un a (toBA (textC ((cutC (baL b)).drop 1)))
def edKe : LD := if (cutC (baL b)).length = 0 then ⟨a, b, c, un, 2⟩ else ⟨a, noT, b, undoN un (a, b), 1⟩
def edKs : LD := if (cutC (baL a)).length = 0 then ⟨a, b, c, un, 2⟩ else ⟨noT, b, a, undoN un (a, b), 1⟩
def edKw : LD := if wdL (cutC (baL a)) = 0 then ⟨a, b, c, un, 2⟩ else ⟨toBA (textC ((cutC (baL a)).take ((cutC (baL a)).length - wdL (cutC (baL a))))), b, toBA (textC ((cutC (baL a)).drop ((cutC (baL a)).length - wdL (cutC (baL a))))), undoN un (a, b), 1⟩
def edYank : LD := if (baL c).length = 0 then ⟨a, b, c, un, 2⟩ else if 300 < (cleanL (baL a)).length + (cleanL (baL c)).length + (cleanL (baL b)).length then ⟨a, b, c, un, 2⟩ else edSet a b c un (toBA (baL a ++ baL c)) b
def edSwap : LD := if 1 ≤ (cutC (baL a)).length ∧ 1 ≤ (cutC (baL b)).length then edSet a b c un (toBA (textC ((cutC (baL a)).take ((cutC (baL a)).length - 1)) ++ textC ((cutC (baL b)).take 1) ++ textC ((cutC (baL a)).drop ((cutC (baL a)).length - 1)))) (toBA (textC ((cutC (baL b)).drop 1)))
  else if 2 ≤ (cutC (baL a)).length ∧ (cutC (baL b)).length = 0 then edSet a b c un (toBA (textC ((cutC (baL a)).take ((cutC (baL a)).length - 2)) ++ textC ((cutC (baL a)).drop ((cutC (baL a)).length - 1)) ++ textC (((cutC (baL a)).take ((cutC (baL a)).length - 1)).drop ((cutC (baL a)).length - 2)))) noT
  else ⟨a, b, c, un, 2⟩
def edUndo : LD := if un.length = 0 then ⟨a, b, c, un, 2⟩ else ⟨lnT un (un.length - 1), lnH un (un.length - 1), c, un.take (un.length - 1), 1⟩
def edF (kd : Int) (rs : List Int) : LD :=
  if kd = 1 ∨ kd = 2 then edPut a b c un rs else if kd = 4 then edBack a b c un else if kd = 5 then edDel a b c un else if kd = 6 then edLeft a b c un else if kd = 7 then edRight a b c un
  else if kd = 8 then edHome a b c un else if kd = 9 then edEnd a b c un else if kd = 18 then edWl a b c un else if kd = 19 then edWr a b c un
  else if kd = 12 then edKe a b c un else if kd = 13 then edKs a b c un else if kd = 14 then edKw a b c un else if kd = 15 then edYank a b c un else if kd = 16 then edSwap a b c un else if kd = 17 then edUndo a b c un
  else ⟨a, b, c, un, if kd = 3 then 3 else if kd = 21 then 4 else if kd = 10 then 5 else if kd = 11 then 6 else if kd = 20 then 7 else 0⟩
end
theorem unL_ln (un : List (ByteArray × ByteArray)) : unL (lnT un) (lnH un) un.length = un := by
  apply List.ext_getElem?
  intro j
  by_cases h : j < un.length
  · rw [unL_at _ _ h, lnT, lnH, List.getElem?_eq_getElem h]
    rfl
  · rw [List.getElem?_eq_none (by rw [unL_len]; omega), List.getElem?_eq_none (by omega)]
def LnAt (w : World) (v : Value) (un : List (ByteArray × ByteArray)) : Prop := Row2At w v un.length (fun j => .string (lnT un j)) (fun j => .string (lnH un j))
theorem LnAt.ext {w w' : World} {v : Value} {un : List (ByteArray × ByteArray)} (h : LnAt w v un) (E : Ext w w') : LnAt w' v un := Row2At.ext h E
def LnO (w : World) (base : Nat) (o : LD) (e : Ending) : Prop := ∃ v, e = .returned (.tuple #[.agg #[.string o.a, .string o.b, .string o.c, v], .int .i64 o.d]) ∧ Own2 w base 140 v o.un.length (fun j => .string (lnT o.un j)) (fun j => .string (lnH o.un j))
end Go.Proofs.YtbieoijeilhadaaDoor

namespace Go.Proofs.YtbieoijeilhadaaDoor
open Go.RowKit
theorem set_blk {W : World} {b i : Nat} {cs : Array Value} {T : TypeId} {v : Value} (h : W.heap[b]? = some (.cells cs T (0, 0))) : (W.setCell ⟨b, i, none⟩ v).heap[b]? = some (.cells (cs.setIfInBounds i v) T (0, 0)) := heap_setCell_same W b i _ _ _ h
theorem set_blk2 {W : World} {b i : Nat} {cs cs' : Array Value} {T : TypeId} {v : Value} (h : W.heap[b]? = some (.cells cs T (0, 0))) (e : cs.setIfInBounds i v = cs') : (W.setCell ⟨b, i, none⟩ v).heap[b]? = some (.cells cs' T (0, 0)) := by
  rw [set_blk h, e]
theorem set_else {W : World} {b c i : Nat} {v : Value} {o : Obj} (h : W.heap[b]? = some o) (hne : b ≠ c) : (W.setCell ⟨c, i, none⟩ v).heap[b]? = some o := (Below.heap_setCell W ⟨c, i, none⟩ v b hne).trans h
def StopQ (p : Prop) : Prop := p
theorem StopQ.intro {p : Prop} (h : StopQ p) : p := h
theorem Src.snaps {w : World} {v : Value} {n : Nat} {tx hf : Nat → ByteArray} (h : Row2At w v n (fun j => .string (tx j)) (fun j => .string (hf j))) : Src w 2 v n (pairsL (fun j => .string (tx j)) (fun j => .string (hf j)) n) := by
  refine ⟨pairsL_len _ _ _, pairsL_one, ?_⟩
  obtain ⟨ao, c, rfl, hc, hx⟩ := h
  by_cases h0 : n = 0
  · subst h0
    cases ao with
    | none => exact .inl ⟨c, rfl, rfl⟩
    | some ad => exact .inr ⟨ad, c, rfl, fun j u hu => by simp [pairsL] at hu⟩
  · obtain ⟨bb, off, e, hcc⟩ := hx (by omega)
    subst e
    exact .inr ⟨_, c, rfl, pairsL_news hcc⟩
theorem own2_pairs {w : World} {base : Nat} {T : TypeId} {v : Value} {n : Nat} {A B : Nat → Value} (h : w.ownsRow base T 2 v n (pairsL A B n)) : Own2 w base T v n A B := ⟨_, h, fun j hj => pairsL_at A B n j hj⟩
theorem owns_ln {w : World} {b : Nat} {T : TypeId} {sz : Nat} {v : Value} {n : Nat} {xs : List Value} (h : w.ownsRow b T sz v n xs) : ∃ a c, v = .slice a n c := by
  rcases h.2 with ⟨rfl, h0⟩ | ⟨g, c, _, rfl, _⟩
  · exact ⟨none, 0, by rw [h0]⟩
  · exact ⟨_, c, rfl⟩
set_option maxRecDepth 10000 in
set_option maxHeartbeats 2000000 in
theorem l4Copy_any (a b c : ByteArray) (v : Value) (n : Nat) (tx hf : Nat → ByteArray) (w : World) (hv : Row2At w v n (fun j => .string (tx j)) (fun j => .string (hf j))) (hn : n ≤ 1048576) :
    Calls Tryd.prog 123 #[.agg #[.string a, .string b, .string c, v]] w fun e w' => ∃ ua uc, e = .returned (.agg #[.string a, .string b, .string c, .slice ua n uc]) ∧ Hid (Own2 w' w.heap.size 140 (.slice ua n uc) n (fun j => .string (tx j)) (fun j => .string (hf j))) ∧ Ext w w' := by
  obtain ⟨ic, hic, hc0, hc1, hc2⟩ := info_parts infoSnap
  have HV := hide hv
  obtain ⟨ao, ca, rfl, _, _⟩ := hv
  obtain ⟨V, hV⟩ : ∃ V, V = (w.alloc (.cells #[.string a, .string b, .string c, .slice ao n ca] 46)).alloc (.cells #[.string { data := #[] }, .string { data := #[] }, .string { data := #[] }, .slice none 0 0] 46) := ⟨_, rfl⟩
  have E0 : Ext w V := by rw [hV]; exact ((Ext.refl w).alloc _).alloc _
  have sz0 : V.heap.size = w.heap.size + 1 + 1 := by rw [hV]; simp
  have HB0 : Hid (V.heap[w.heap.size]? = some (.cells #[.string a, .string b, .string c, .slice ao n ca] 46 (0, 0))) := hide (by rw [hV]; exact ((Ext.refl _).alloc _).kept (new_block w _))
  have HB1 : Hid (V.heap[w.heap.size + 1]? = some (.cells #[.string { data := #[] }, .string { data := #[] }, .string { data := #[] }, .slice none 0 0] 46 (0, 0))) := hide (by rw [hV]; have h := new_block (w.alloc (.cells #[.string a, .string b, .string c, .slice ao n ca] 46)) (.cells #[.string { data := #[] }, .string { data := #[] }, .string { data := #[] }, .slice none 0 0] 46); rw [show (w.alloc (.cells #[.string a, .string b, .string c, .slice ao n ca] 46)).heap.size = w.heap.size + 1 by simp] at h; exact h)
  have HO := hide (owns_empty V 140 2)
  have HSR := hide (Src.snaps ((unhide HV).ext (E0.alloc (.cells #[] 140))))
  obtain ⟨V2, hV2⟩ : ∃ V2, V2 = V.alloc (.cells #[] 140) := ⟨_, rfl⟩
  have EV : Ext V V2 := by rw [hV2]; exact (Ext.refl V).alloc _
  have sz2 : V2.heap.size = w.heap.size + 1 + 1 + 1 := by rw [hV2]; simp [sz0]
  rw [← hV2] at HO HSR
  have HVV : Hid (V2 = ((w.alloc (.cells #[.string a, .string b, .string c, .slice ao n ca] 46)).alloc (.cells #[.string { data := #[] }, .string { data := #[] }, .string { data := #[] }, .slice none 0 0] 46)).alloc (.cells #[] 140)) := hide (by rw [hV2, hV])
  rw [sz0] at HO
  clear hV hV2
  go_enter Tryd.func123, Tryd.ntmps123
  go_wp2_with (at_builtin; refine StopQ.intro ?_)
  show wpList _ _ _ _ _ _
  rw [← unhide HVV]
  clear HVV
  refine wpList_app rfl _ _ 44 rfl (w.heap.size + 1 + 1) 140 ic (.agg #[.string noT, .string noT]) 2 32 Tryd.underlying44 hic hc0 hc1 hc2 rfl (by decide) _ 0 [] rfl (unhide HO) _ n (pairsL (fun j => .string (tx j)) (fun j => .string (hf j)) n) rfl (unhide HSR) (by unfold maxLen; omega) (by omega) (by omega) ?_
  intro v2 w2 o2 G2 _
  have X2 := Fr.grown (S := fun q => q = w.heap.size + 1 + 1) (Fr.of_ext EV) G2 (fun q hq => by cases hq; rfl)
  have E2 : Ext w w2 := X2.ext E0 (fun q hq => by omega)
  rw [Nat.zero_add, List.nil_append] at o2
  obtain ⟨a2, c2, rfl⟩ := owns_ln o2
  replace HB0 := hide (X2.kept (unhide HB0) (by omega))
  replace HB1 := hide (X2.kept (unhide HB1) (by omega))
  have HO2 := hide (own2_pairs o2)
  have x3 : w2.cell? ⟨w.heap.size, 3, none⟩ = some (.slice ao n ca) := cells_of (unhide HB0) 3 _ rfl
  have f0 : ∀ i, w2.frozen? ⟨w.heap.size, i, none⟩ = false := fun i => Lib.frozen_of_heap (unhide HB0) i
  have infoL : (Tryd.prog.info? 46).map (·.size) = some 4 := by kernel_rfl
  have HB0s : Hid ((w2.setCell ⟨w.heap.size, 3, none⟩ (.slice a2 n c2)).heap[w.heap.size]? = some (.cells #[.string a, .string b, .string c, .slice a2 n c2] 46 (0, 0))) := hide (set_blk2 (unhide HB0) rfl)
  have HB1s : Hid ((w2.setCell ⟨w.heap.size, 3, none⟩ (.slice a2 n c2)).heap[w.heap.size + 1]? = some (.cells #[.string { data := #[] }, .string { data := #[] }, .string { data := #[] }, .slice none 0 0] 46 (0, 0))) := hide (set_else (unhide HB1) (by omega))
  clear o2 G2 X2
  go_wp2_with (first
    | (refine wpList_load_blk rfl 46 _ rfl (w.heap.size) rfl _ _ _ _ (unhide HB0s) Tryd.underlying46 rfl infoL ?_)
    | (refine wpList_store_blk rfl 46 _ _ rfl rfl (w.heap.size + 1) rfl _ _ _ rfl (unhide HB1s) infoL rfl (by simp [Value.oneCell']) ?_; intro U HB9 hU9; have HU9 := hide hU9; have HB9' := hide HB9; clear hU9 HB9))
  have HB9 := unhide HB9'
  have hU : Fr (fun q => q = w.heap.size ∨ q = w.heap.size + 1) w2 U := (Fr.setCell (S := fun q => q = w.heap.size ∨ q = w.heap.size + 1) (Fr.refl _ _) (a := ⟨w.heap.size, 3, none⟩) (.inl rfl) _).tr ((unhide HU9).mono (fun q hq => .inr hq))
  clear HU9 HB9' x3 f0
  have v0 : U.cell? ⟨w.heap.size + 1, 0, none⟩ = some (.string a) := cells_of HB9 0 _ rfl
  have v1 : U.cell? ⟨w.heap.size + 1, 1, none⟩ = some (.string b) := cells_of HB9 1 _ rfl
  have v2 : U.cell? ⟨w.heap.size + 1, 2, none⟩ = some (.string c) := cells_of HB9 2 _ rfl
  have v3 : U.cell? ⟨w.heap.size + 1, 3, none⟩ = some (.slice a2 n c2) := cells_of HB9 3 _ rfl
  exact bodyPost_ret (v := .agg #[.string a, .string b, .string c, .slice a2 n c2]) (by simp [results, Tryd.results123, go_sem, v0, v1, v2, v3]) rfl ⟨a2, c2, rfl, hide (((unhide HO2).fr hU (fun g hg e9 => by have := ((unhide HO2).lt g hg).1; omega)).mono (by omega)), hU.ext E2 (fun q hq => by omega)⟩
end Go.Proofs.YtbieoijeilhadaaDoor

namespace Go.Proofs.YtbieoijeilhadaaDoor
open Go.RowKit
def runesF : Nat → List Int → List Int
  | 0, _ => []
  | f + 1, l => if l.length = 0 then [] else (decL l).1 :: runesF f (l.drop (decL l).2)
def runesL (l : List Int) : List Int := runesF l.length l
theorem runesF_fuel : ∀ (f g : Nat) (l : List Int), l.length ≤ f → l.length ≤ g → runesF f l = runesF g l
  | 0, 0, _, _, _ => rfl
  | 0, g + 1, l, h, _ => by simp [runesF]; exact List.eq_nil_of_length_eq_zero (by omega)
  | f + 1, 0, l, _, h => by simp [runesF]; exact List.eq_nil_of_length_eq_zero (by omega)
  | f + 1, g + 1, l, h1, h2 => by
    simp only [runesF]
    split
    · rfl
    · have hp := decL_pos l
      rw [runesF_fuel f g _ (by simp; omega) (by simp; omega)]
theorem runesL_step (l : List Int) (h : 0 < l.length) : runesL l = (decL l).1 :: runesL (l.drop (decL l).2) := by
  unfold runesL
  obtain ⟨m, hm⟩ : ∃ m, l.length = m + 1 := ⟨l.length - 1, by omega⟩
  have hp := decL_pos l
  rw [hm]
  simp only [runesF]
  rw [if_neg (by omega), runesF_fuel m _ _ (by simp; omega) (Nat.le_refl _)]
theorem clean_runes (l : List Int) : cleanL l = (runesL l).map cleanR := by
  have : ∀ f (l : List Int), cleanF f l = (runesF f l).map cleanR := by
    intro f
    induction f with
    | zero => intro l; rfl
    | succ f ih =>
      intro l
      simp only [cleanF, runesF]
      split
      · rfl
      · rw [ih]; rfl
  exact this _ _
theorem runes_enc : ∀ (xs : List Int), (∀ x ∈ xs, Utf8.valid x = true) → runesL (encA xs) = xs
  | [], _ => rfl
  | x :: xs, h => by
    have hp := encR_pos x
    rw [encA, runesL_step _ (by simp; omega), dec_enc x (h x (by simp))]
    simp only
    rw [List.drop_left, runes_enc xs (fun y hy => h y (by simp [hy]))]
def ValidL (l : List Int) : Prop := encA (runesL l) = l
theorem settled_iff (l : List Int) : settleL l = l ↔ (∀ r ∈ runesL l, shownI r = r) ∧ (runesL l ≠ [] → 0 < wid (at0 (runesL l) 0)) ∧ ValidL l := by
  constructor
  · intro h
    have hc := fl_clean _ (cleanL_mem l)
    have he : runesL l = fl (cleanL l) := by
      have := runes_enc (fl (cleanL l)) (fun x hx => (hc x hx).1)
      rw [← settleL_enc, h] at this
      exact this
    refine ⟨fun r hr => ?_, fun hne => ?_, ?_⟩
    · rw [he] at hr
      exact (hc r hr).shown
    · rw [he] at hne ⊢
      unfold fl at hne ⊢
      split
      · rename_i e; rw [if_pos e] at hne; exact absurd rfl hne
      · split
        · assumption
        · show 0 < wid 9676
          decide
    · unfold ValidL
      rw [he, ← settleL_enc, h]
  · rintro ⟨h1, h2, h3⟩
    have hm : cleanL l = runesL l := by
      rw [clean_runes]
      conv => rhs; rw [← List.map_id (runesL l)]
      refine List.map_congr_left fun r hr => ?_
      have := h1 r hr
      unfold cleanR
      split
      · rename_i e
        subst e
        exact absurd this (by decide)
      · exact this
    rw [settleL_enc, hm]
    have hf : fl (runesL l) = runesL l := by
      unfold fl
      split
      · rename_i e; exact e.symm
      · rename_i e
        rw [if_pos (h2 e)]
    rw [hf]
    exact h3
end Go.Proofs.YtbieoijeilhadaaDoor

namespace Go.Proofs.YtbieoijeilhadaaDoor
open Go.RowKit
theorem toBA_ne {xs ys : List Int} (hx : Bytes xs) (hy : Bytes ys) (h : xs ≠ ys) : ((toBA xs).toList == (toBA ys).toList) = false := by
  rw [beq_eq_false_iff_ne, toList_data, toList_data]
  intro e
  exact h (toBA_inj hx hy (WideShapes.bytes_inj e))
set_option maxRecDepth 10000 in
set_option maxHeartbeats 400000 in
theorem l4Count_any (bs : List Int) (hb : Bytes bs) (w : World) (hl : bs.length ≤ 8000000) :
    Calls Tryd.prog 129 #[.string (toBA bs)] w fun e w' => e = .returned (.int .i64 ((cleanL bs).length : Int)) ∧ Ext w w' := by
  obtain ⟨v0, w0, hrun, h0, E0⟩ := run_s2i (P := Tryd.prog) w _ _ _ Tryd.underlying9 Tryd.underlying22 Tryd.underlying5 bs hb
  have H0 := hide h0
  clear h0
  go_enter Tryd.func129, Tryd.ntmps129
  go_wp2_with fail
  refine (specClean_any bs hb v0 w0 (unhide H0) (by omega)).mono ?_
  rintro e w1 ⟨v1, rfl, o1, F1⟩
  obtain ⟨ao, cap, hv1, _, _⟩ := ints_of_owns o1
  subst hv1
  clear o1
  go_wp2
  go_ret
  exact ⟨rfl, E0.trans F1⟩
set_option maxRecDepth 10000 in
set_option maxHeartbeats 1000000 in
theorem l4TextOk_any (bs : List Int) (hb : Bytes bs) (w : World) (hl : bs.length ≤ 4194304) (ok : Bool) (hok : ok = true ↔ (bs.length ≤ 1200 ∧ (cleanL bs).length ≤ 300 ∧ settleL bs = bs)) :
    Calls Tryd.prog 122 #[.string (toBA bs), .int .i64 300] w fun e w' => e = .returned (.bool ok) ∧ Ext w w' := by
  have hsz := toBA_size bs
  have HOK := hide hok
  clear hok
  by_cases h1 : bs.length ≤ 1200
  · have h1I : (bs.length : Int) ≤ 1200 := by omega
    go_enter Tryd.func122, Tryd.ntmps122
    go_wp2_with fail
    refine (l4Count_any bs hb w (by omega)).mono ?_
    rintro e w1 ⟨rfl, F1⟩
    by_cases h2 : (cleanL bs).length ≤ 300
    · have h2I : ((cleanL bs).length : Int) ≤ 300 := by omega
      go_wp2_with fail
      refine (specSettle_any bs hb w1 (by omega)).mono ?_
      rintro e w2 ⟨rfl, F2⟩
      by_cases h3 : settleL bs = bs
      · have ht : ok = true := (unhide HOK).2 ⟨h1, h2, h3⟩
        subst ht
        rw [h3]
        go_wp2
        go_ret
        exact ⟨rfl, F1.trans F2⟩
      · have hf : ok = false := by
          cases ok
          · rfl
          · exact absurd ((unhide HOK).1 rfl).2.2 h3
        subst hf
        have hneb := toBA_ne (settleL_bytes bs) hb h3
        go_wp2
        go_ret
        exact ⟨rfl, F1.trans F2⟩
    · have h2I : ¬ ((cleanL bs).length : Int) ≤ 300 := by omega
      have hf : ok = false := by
        cases ok
        · rfl
        · exact absurd ((unhide HOK).1 rfl).2.1 h2
      subst hf
      go_wp2
      go_ret
      exact ⟨rfl, F1⟩
  · have h1I : ¬ (bs.length : Int) ≤ 1200 := by omega
    have hf : ok = false := by
      cases ok
      · rfl
      · exact absurd ((unhide HOK).1 rfl).1 h1
    subst hf
    go_enter Tryd.func122, Tryd.ntmps122
    go_wp2
    go_ret
    exact ⟨rfl, Ext.refl _⟩
end Go.Proofs.YtbieoijeilhadaaDoor

namespace Go.Proofs.YtbieoijeilhadaaDoor
open Go.RowKit
theorem cutC_len (bs : List Int) : (cutC bs).length ≤ bs.length := Nat.le_trans (clF_len _ _) (cleanL_len bs)
theorem cutC_fit (bs : List Int) : (cutC bs).length + sumR (cutC bs) (cutC bs).length ≤ 2 * bs.length + 1 := by
  have h1 := clF_sum (cleanL bs) (cleanL bs).length
  have h2 := cleanL_len bs
  have h3 := cutC_len bs
  have h4 : sumR (cutC bs) (cutC bs).length ≤ (cleanL bs).length + 1 := h1
  omega
theorem cutC_runes (bs : List Int) (j : Nat) : (cR (cutC bs) j).length ≤ bs.length + 1 := by
  have h1 := clF_runes (cleanL bs) (cleanL bs).length j
  have h2 := cleanL_len bs
  have h3 : (cR (cutC bs) j).length ≤ (cleanL bs).length + 1 := h1
  omega
theorem cutC_i32 (bs : List Int) (j : Nat) : I32s (cR (cutC bs) j) := clF_i32 _ _ j
theorem sumR_left (xs ys : List (List Int × Int)) : ∀ k, k ≤ xs.length → sumR (xs ++ ys) k = sumR xs k
  | 0, _ => rfl
  | k + 1, h => by rw [sumR, sumR, sumR_left xs ys k (by omega), cR_app, if_pos (by omega)]
theorem sumR_right (xs ys : List (List Int × Int)) : ∀ k, k ≤ ys.length → sumR (xs ++ ys) (xs.length + k) = sumR xs xs.length + sumR ys k
  | 0, _ => by rw [Nat.add_zero, sumR_left xs ys _ (Nat.le_refl _)]; rfl
  | k + 1, h => by
    rw [← Nat.add_assoc, sumR, sumR_right xs ys k (by omega), cR_app, if_neg (by omega), show xs.length + k - xs.length = k by omega, sumR]
    omega
structure Cuts (cs : List (List Int × Int)) (N : Nat) : Prop where
  wide : Wides cs
  len : cs.length ≤ N
  sum : cs.length + sumR cs cs.length ≤ 2 * N + N
  runes : ∀ j, (cR cs j).length ≤ N + 1
  i32 : ∀ j, I32s (cR cs j)
theorem cuts_one (bs : List Int) : Cuts (cutC bs) (bs.length + 1) :=
  ⟨cutC_wides bs, by have := cutC_len bs; omega, by have := cutC_fit bs; omega, fun j => by have := cutC_runes bs j; omega, cutC_i32 bs⟩
theorem Cuts.app {xs ys : List (List Int × Int)} {N M : Nat} (hx : Cuts xs N) (hy : Cuts ys M) : Cuts (xs ++ ys) (N + M) := by
  have h1 := hx.len
  have h2 := hy.len
  have h3 := hx.sum
  have h4 := hy.sum
  refine ⟨hx.wide.app hy.wide, by rw [List.length_append]; omega, ?_, fun j => ?_, fun j => ?_⟩
  · rw [List.length_append, sumR_right xs ys _ (Nat.le_refl _)]
    omega
  · rw [cR_app]
    split
    · have := hx.runes j; omega
    · have := hy.runes (j - xs.length); omega
  · rw [cR_app]
    split
    · exact hx.i32 j
    · exact hy.i32 _
theorem sumR_up (cs : List (List Int × Int)) (k : Nat) : ∀ n, k ≤ n → sumR cs k ≤ sumR cs n := by
  intro n
  induction n with
  | zero => intro h; rw [show k = 0 by omega]; exact Nat.le_refl _
  | succ n ih =>
    intro h
    by_cases e : k = n + 1
    · subst e; exact Nat.le_refl _
    · have := ih (by omega); rw [sumR]; omega
theorem Cuts.part {cs : List (List Int × Int)} {N : Nat} (h : Cuts cs N) (s e : Nat) : ((cs.take e).drop s).length + sumR ((cs.take e).drop s) ((cs.take e).drop s).length ≤ 3 * N ∧ ∀ j, I32s (cR ((cs.take e).drop s) j) := by
  have h1 := h.sum
  have hl : ((cs.take e).drop s).length = min e cs.length - s := by simp
  refine ⟨?_, fun j => ?_⟩
  · by_cases hse : s ≤ min e cs.length
    · have e1 := sumR_sub cs s e (min e cs.length - s) (by omega)
      have e2 := sumR_up cs (s + (min e cs.length - s)) cs.length (by omega)
      rw [hl]
      omega
    · have h0 : (cs.take e).drop s = [] := List.eq_nil_of_length_eq_zero (by omega)
      rw [h0]
      simp [sumR]
  · unfold cR
    cases hj : ((cs.take e).drop s)[j]? with
    | none => intro x hx; cases hx
    | some u =>
      obtain ⟨q, hq⟩ := List.mem_iff_getElem?.1 (List.mem_of_mem_take (List.mem_of_mem_drop (List.mem_of_getElem? hj)))
      have := h.i32 q
      unfold cR at this
      rw [hq] at this
      exact this
set_option maxRecDepth 10000 in
set_option maxHeartbeats 1000000 in
theorem l4Cut_any (bs : List Int) (hb : Bytes bs) (w : World) (hl : bs.length ≤ 8000000) :
    Calls Tryd.prog 52 #[.string (toBA bs)] w fun e w' => ∃ v rs, e = .returned v ∧ OwnCls w' w.heap.size v rs (cutC bs) ∧ Ext w w' := by
  obtain ⟨v0, w0, hrun, h0, E0⟩ := run_s2i (P := Tryd.prog) w _ _ _ Tryd.underlying9 Tryd.underlying22 Tryd.underlying5 bs hb
  have hcl := cleanL_len bs
  have H0 := hide h0
  go_enter Tryd.func52, Tryd.ntmps52
  go_wp2_with fail
  refine (specClean_any bs hb v0 w0 (unhide H0) (by omega)).mono ?_
  rintro e w1 ⟨v1, rfl, o1, E1⟩
  go_wp2_with fail
  refine (specClusters_any v1 (cleanL bs) w1 (ints_of_owns o1) (cleanL_i32 bs) (by omega)).mono ?_
  rintro e w2 ⟨v2, rs2, rfl, o2, E2⟩
  have O2 := hide o2
  clear o1 o2
  go_wp2
  go_ret
  exact ⟨_, _, rfl, OwnCls.mono (unhide O2) (E0.trans E1).size, (E0.trans E1).trans E2⟩
set_option maxRecDepth 10000 in
set_option maxHeartbeats 1000000 in
theorem clustersOf_any (bs : List Int) (hb : Bytes bs) (w : World) (hl : bs.length ≤ 8000000) (hT : Laid w) :
    Calls Tryd.prog 58 #[.string (toBA bs)] w fun e w' => ∃ v rs, e = .returned v ∧ OwnCls w' w.heap.size v rs (cutC bs) ∧ Ext w w' := by
  obtain ⟨v0, w0, hrun, h0, E0⟩ := run_s2i (P := Tryd.prog) w _ _ _ Tryd.underlying9 Tryd.underlying22 Tryd.underlying5 bs hb
  have hcl := cleanL_len bs
  have H0 := hide h0
  have HT := hide hT
  go_enter Tryd.func58, Tryd.ntmps58
  go_wp2_with fail
  refine (implClean_any bs hb v0 w0 (unhide H0) (by omega)).mono ?_
  rintro e w1 ⟨v1, rfl, o1, E1⟩
  have T1 := hide ((unhide HT).below (E0.trans E1).below)
  go_wp2_with fail
  refine (implClusters_any v1 (cleanL bs) w1 (ints_of_owns o1) (cleanL_i32 bs) (by omega) (unhide T1)).mono ?_
  rintro e w2 ⟨v2, rs2, rfl, o2, E2⟩
  have O2 := hide o2
  clear o1 o2
  go_wp2
  go_ret
  exact ⟨_, _, rfl, OwnCls.mono (unhide O2) (E0.trans E1).size, (E0.trans E1).trans E2⟩
theorem OwnCls.ys {w : World} {b : Nat} {v : Value} {rs : List Value} {cs : List (List Int × Int)} (h : OwnCls w b v rs cs) : ∃ ys, w.ownsRow b 58 2 v cs.length ys ∧ (∀ j, j < cs.length → ys[j * 2]? = some (rV rs j) ∧ ys[j * 2 + 1]? = some (.int .i64 (cW cs j))) ∧ Src w 2 v cs.length ys := by
  obtain ⟨h0, ⟨ys, h1, h2⟩, h3, h4⟩ := h
  refine ⟨ys, h1, h2, h1.1, fun u hu => ?_, ?_⟩
  · obtain ⟨i, hi⟩ := List.mem_iff_getElem?.1 hu
    have hil : i < cs.length * 2 := by rw [← h1.1]; exact (List.getElem?_eq_some_iff.1 hi).1
    have hj := h2 (i / 2) (by omega)
    rcases Nat.mod_two_eq_zero_or_one i with e | e
    · rw [show i / 2 * 2 = i by omega, hi] at hj
      obtain rfl := Option.some.inj hj.1
      rcases (h3 (i / 2) (by omega)).2 with ⟨e2, _⟩ | ⟨g, cap, cur, e2, _⟩ <;> rw [e2] <;> rfl
    · rw [show i / 2 * 2 + 1 = i by omega, hi] at hj
      obtain rfl := Option.some.inj hj.2
      rfl
  · rcases h1.2 with ⟨rfl, e0⟩ | ⟨g, cap, cur, rfl, _⟩
    · exact .inl ⟨0, rfl, e0⟩
    · exact .inr ⟨_, cap, rfl, h1.cells rfl⟩
theorem OwnCls.append {w w' : World} {b b2 : Nat} {v1 v2 v' : Value} {rs1 rs2 : List Value} {cs1 cs2 : List (List Int × Int)} {ys1 ys2 : List Value} (h1 : OwnCls w b v1 rs1 cs1) (h2 : OwnCls w b2 v2 rs2 cs2) (hb : b ≤ b2) (hlt : ∀ g, Foot v1 rs1 cs1.length g → g < b2)
    (o1 : w.ownsRow b 58 2 v1 cs1.length ys1) (k1 : ∀ j, j < cs1.length → ys1[j * 2]? = some (rV rs1 j) ∧ ys1[j * 2 + 1]? = some (.int .i64 (cW cs1 j))) (k2 : ∀ j, j < cs2.length → ys2[j * 2]? = some (rV rs2 j) ∧ ys2[j * 2 + 1]? = some (.int .i64 (cW cs2 j)))
    (o' : w'.ownsRow b 58 2 v' (cs1.length + cs2.length) (ys1 ++ ys2)) (hg : w.grownBy w' v1.ownBlock) : OwnCls w' b v' (rs1 ++ rs2) (cs1 ++ cs2) := by
  have l1 : rs1.length = cs1.length := h1.1
  have l2 : rs2.length = cs2.length := h2.1
  have ly : ys1.length = cs1.length * 2 := o1.1
  have fr : Fr (fun g => v1.ownBlock = some g) w w' := (Fr.refl _ w).grown hg (fun k hk => hk)
  have rv : ∀ j, rV (rs1 ++ rs2) j = if j < cs1.length then rV rs1 j else rV rs2 (j - cs1.length) := by
    intro j
    unfold rV
    split
    · rename_i h; rw [List.getElem?_append_left (by omega)]
    · rename_i h; rw [List.getElem?_append_right (by omega), l1]
  have lt1 : ∀ j g, j < cs1.length → (rV rs1 j).ownBlock = some g → g < b2 := fun j g hj hgg => hlt g (.inr ⟨j, hj, hgg⟩)
  have ge2 : ∀ j g, j < cs2.length → (rV rs2 j).ownBlock = some g → b2 ≤ g := fun j g hj hgg => ((h2.2.2.1 j hj).lt g hgg).1
  refine ⟨by simp [l1, l2], ⟨_, by rw [List.length_append]; exact o', fun j hj => ?_⟩, fun j hj => ?_, fun i j g hij hj => ?_⟩
  · rw [rv, cW_app]
    split
    · rename_i h
      have := k1 j h
      rw [List.getElem?_append_left (by omega), List.getElem?_append_left (by omega)]
      exact this
    · rename_i h
      simp at hj
      have := k2 (j - cs1.length) (by omega)
      rw [List.getElem?_append_right (by omega), List.getElem?_append_right (by omega), ly, show j * 2 - cs1.length * 2 = (j - cs1.length) * 2 by omega, show j * 2 + 1 - cs1.length * 2 = (j - cs1.length) * 2 + 1 by omega]
      exact this
  · rw [rv, cR_app]
    split
    · rename_i h
      exact fr.owns (h1.2.2.1 j h) (fun g hgg e => owns_apart o1 (h1.2.2.1 j h) (by decide) e hgg)
    · rename_i h
      simp at hj
      refine owns_mono (fr.owns (h2.2.2.1 _ (by omega)) (fun g hgg e => ?_)) hb
      have a := ge2 _ g (by omega) hgg
      have c := hlt g (.inl e)
      omega
  · rw [rv, rv]
    simp at hj
    intro hi
    by_cases hi1 : i < cs1.length
    · rw [if_pos hi1] at hi
      by_cases hj1 : j < cs1.length
      · rw [if_pos hj1]
        exact h1.2.2.2 i j g hij hj1 hi
      · rw [if_neg hj1]
        intro e
        have a := lt1 i g hi1 hi
        have c := ge2 _ g (by omega) e
        omega
    · rw [if_neg hi1] at hi
      rw [if_neg (by omega)]
      exact h2.2.2.2 _ _ g (by omega) (by omega) hi
theorem OwnCls.lt {w : World} {b : Nat} {v : Value} {rs : List Value} {cs : List (List Int × Int)} (h : OwnCls w b v rs cs) {g : Nat} (hg : Foot v rs cs.length g) : b ≤ g ∧ g < w.heap.size := by
  rcases hg with hg | ⟨j, hj, hg⟩
  · obtain ⟨ys, o, _⟩ := h.2.1
    exact o.lt g hg
  · exact (h.2.2.1 j hj).lt g hg
end Go.Proofs.YtbieoijeilhadaaDoor

namespace Go.Proofs.YtbieoijeilhadaaDoor
open Go.RowKit
theorem ClsAt.cut {w : World} {a : Option Addr} {n c : Nat} {cs : List (List Int × Int)} (h : ClsAt w (.slice a n c) cs) (s e Z : Nat) (hse : s ≤ e) (he : e ≤ cs.length) (hZ : e - s ≤ Z) (a' : Option Addr) (ha : a' = a.map (fun x => x.add (s * 2)) ∨ e - s = 0) : ClsAt w (.slice a' (e - s) Z) ((cs.take e).drop s) := by
  have hlen : ((cs.take e).drop s).length = e - s := by simp; omega
  by_cases h0 : e - s = 0
  · exact ⟨[], a', Z, by rw [hlen], by omega, fun j hj => by omega, fun hp => by omega⟩
  obtain ⟨rs, ao, ca, e1, hca, hr, hx⟩ := h
  simp only [Value.slice.injEq] at e1
  obtain ⟨rfl, rfl, rfl⟩ := e1
  obtain ⟨b, off, rfl, hc⟩ := hx (by omega)
  have ha' : a' = some ⟨b, off + s * 2, none⟩ := by
    rcases ha with rfl | ha
    · simp [Addr.add]
    · omega
  subst ha'
  refine ⟨(List.range (e - s)).map (fun j => rV rs (s + j)), _, Z, by rw [hlen], by omega, fun j hj => ?_, fun _ => ⟨b, off + s * 2, rfl, fun j hj => ?_⟩⟩
  · rw [hlen] at hj
    rw [(sub_R cs s e j (by omega)).1]
    have e2 : rV ((List.range (e - s)).map (fun j => rV rs (s + j))) j = rV rs (s + j) := by
      conv => lhs; unfold rV
      rw [List.getElem?_map, List.getElem?_range hj]
      rfl
    rw [e2]
    exact hr (s + j) (by omega)
  · rw [hlen] at hj
    have e2 : rV ((List.range (e - s)).map (fun j => rV rs (s + j))) j = rV rs (s + j) := by
      conv => lhs; unfold rV
      rw [List.getElem?_map, List.getElem?_range hj]
      rfl
    rw [e2, (sub_R cs s e j (by omega)).2, show off + s * 2 + j * 2 = off + (s + j) * 2 by omega]
    exact hc (s + j) (by omega)
end Go.Proofs.YtbieoijeilhadaaDoor

namespace Go.Proofs.YtbieoijeilhadaaDoor
open Go.RowKit
section
variable {P : Program}
end
def RS (P : Nat) (W : World) (v : Value) (xs : List Int) : Prop := ∀ W', Fr (fun q => q = P) W W' → IntsAt W' .i32 v xs
theorem RS.fr {P : Nat} {W W' : World} {v : Value} {xs : List Int} (h : RS P W v xs) (f : Fr (fun q => q = P) W W') : RS P W' v xs := fun _ f2 => h _ (f.tr f2)
theorem RS.ext {P : Nat} {W W' : World} {v : Value} {xs : List Int} (h : RS P W v xs) (f : Ext W W') : RS P W' v xs := h.fr (Fr.of_ext f)
structure GapIn (P : Nat) (W : World) (cl : List Value) (rl rr : List Value) (A B : List (List Int × Int)) : Prop where
  len : cl.length = 600
  fit : A.length + B.length ≤ 300
  na : rl.length = A.length
  nb : rr.length = B.length
  la : ∀ j, j < A.length → cl[j * 2]? = some (rV rl j) ∧ cl[j * 2 + 1]? = some (.int .i64 (cW A j))
  lb : ∀ j, j < B.length → cl[(300 - B.length + j) * 2]? = some (rV rr j) ∧ cl[(300 - B.length + j) * 2 + 1]? = some (.int .i64 (cW B j))
  ra : ∀ j, j < A.length → RS P W (rV rl j) (cR A j)
  rb : ∀ j, j < B.length → RS P W (rV rr j) (cR B j)
  one : ∀ v ∈ cl, v.oneCell' = true
theorem GapIn.fr {P : Nat} {W W' : World} {cl rl rr : List Value} {A B : List (List Int × Int)} (h : GapIn P W cl rl rr A B) (f : Fr (fun q => q = P) W W') : GapIn P W' cl rl rr A B :=
  ⟨h.len, h.fit, h.na, h.nb, h.la, h.lb, fun j hj => (h.ra j hj).fr f, fun j hj => (h.rb j hj).fr f, h.one⟩
end Go.Proofs.YtbieoijeilhadaaDoor
