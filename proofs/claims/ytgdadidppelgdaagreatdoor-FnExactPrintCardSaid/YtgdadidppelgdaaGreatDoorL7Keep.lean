import Derived.Test.YtgdadidppelgdaaGreatDoorTrim
import Derived.Test.YtgdadidppelgdaaGreatDoorItemOk
import Derived.Test.YtgdadidppelgdaaGreatDoorWhole
import Derived.Test.YtgdadidppelgdaaGreatDoorShelfB
import Derived.Shelf.Strings.Trim
import Derived.Deep.DeepCutAuto
import Derived.Test.YtgdadidppelgdaaGreatDoorL7Rows
import Derived.Test.YtgdadidppelgdaaGreatDoorViewM
namespace Go.Proofs.YtgdadidppelgdaaGreatDoor
open Go.RowKit

set_option maxRecDepth 10000 in
set_option maxHeartbeats 2000000 in
theorem asShown_any (v : Value) (n : Nat) (tx : Nat → ByteArray) (w : World) (hv : Row1At w v n (fun j => .string (tx j))) (hn : n ≤ 16777216) (hx : ∀ j, j < n → (tx j).size ≤ 9223372036854775807) :
    Calls Tryz.prog 101 #[v] w fun e w' => ∃ v', e = .returned v' ∧ Own1 w' w.heap.size 9 v' n (fun i => .string (trimS (tx i))) ∧ Ext w w' := by
  obtain ⟨ic, hic, hc0, hc1, hc2⟩ := info_parts infoStrs
  obtain ⟨ao, ca, rfl, hca, hxa⟩ := hv
  have HX := hide hxa
  have HZ := hide hx
  clear hxa hx
  go_enter Tryz.func101, Tryz.ntmps101
  go_wp2
  go_loopw [3, 8] (fun o i wr => ∃ k : Nat, k ≤ n ∧ i = .int .i64 k ∧ Hid (wr.ownsRow w.heap.size 9 1 o k (strL (fun i => trimS (tx i)) k)) ∧ Ext w wr) (fun _ i _ => n - (intOf i).toNat)
  case atStart => exact ⟨0, Nat.zero_le _, rfl, hide (owns_nil _ _ _ _), Ext.refl _⟩
  case round =>
    obtain ⟨k, hk, rfl, HO, hext⟩ := hrel
    have hsz := hext.size
    by_cases hlt : k < n
    · obtain ⟨b, off, hao, hc⟩ := (unhide HX) (by omega)
      subst hao
      have g1 := hext.cell (hc k hlt)
      clear hc
      have bk : (k : Int) < (n : Int) := by omega
      have hcon := hide (Any.strings_TrimRight_one Tryz.lays162 (tx k) 32 (by decide) wr ((unhide HZ) k hlt))
      have hst : Hid (strL (fun i => trimS (tx i)) (k + 1) = strL (fun i => trimS (tx i)) k ++ [.string (trimS (tx k))]) := hide (strL_succ _ _)
      go_wp2_with (first
        | (go_at_call 134; refine (unhide hcon).mono ?_; rintro e w4 ⟨rfl, rfl⟩; rw [trimS_right])
        | (at_builtin; go_must (refine wpList_app rfl _ _ 28 rfl w.heap.size 9 ic (.string { data := #[] }) 1 16 Tryz.underlying28 hic hc0 hc1 hc2 rfl (by decide) _ _ _ rfl ((unhide HO).alloc _) _ 1 [.string (trimS (tx k))] rfl (Src.made _ _ _ rfl (by simp [Value.oneCell'])) (by unfold maxLen; omega) (by omega) (by simp; omega) ?_); intro v5 w5 o5 G5 _; rw [← unhide hst] at o5; have HO5 := hide o5; have E5 := hide ((hext.alloc _).grown G5 (fun q hq => ((unhide HO).lt q hq).1)); clear o5 G5))
      go_roundw
      case rel => exact ⟨k + 1, by omega, by go_num, HO5, unhide E5⟩
      case measure => simp [intOf]; omega
    · obtain rfl : k = n := by omega
      have hb9 : ¬ (k : Int) < (k : Int) := by omega
      go_wp2
      go_ret
      exact ⟨_, rfl, own_strL (unhide HO), hext⟩
end Go.Proofs.YtgdadidppelgdaaGreatDoor

namespace Go.Proofs.YtgdadidppelgdaaGreatDoor
open Go.RowKit

theorem strL_two (a b : Nat → ByteArray) (n : Nat) : ∀ m, strL a n ++ strL b m = strL (fun i => if i < n then a i else b (i - n)) (n + m)
  | 0 => by
    rw [Nat.add_zero, show strL b 0 = [] from rfl, List.append_nil]
    exact strL_congr (fun j hj => by rw [if_pos hj])
  | m + 1 => by
    rw [strL_succ, ← List.append_assoc, strL_two a b n m, ← Nat.add_assoc, strL_succ, if_neg (by omega), Nat.add_sub_cancel_left]
end Go.Proofs.YtgdadidppelgdaaGreatDoor

namespace Go.Proofs.YtgdadidppelgdaaGreatDoor
open Go.RowKit

set_option maxRecDepth 10000 in
set_option maxHeartbeats 1000000 in
theorem l2Trim_big (s : ByteArray) (w : World) (hs : s.size ≤ 4398046511104) :
    Calls Tryz.prog 59 #[.string s] w fun e w' => e = .returned (.string (s.extract 0 (trimK s s.size))) ∧ w' = w := by
  go_enter Tryz.func59, Tryz.ntmps59
  go_wp2
  go_loop [3] (fun i => ∃ k : Nat, k ≤ s.size ∧ i = .int .i64 k ∧ Hid (trimK s s.size = trimK s k)) (fun i => (intOf i).toNat)
  case atStart => exact ⟨s.size, Nat.le_refl _, rfl, hide rfl⟩
  case round =>
    obtain ⟨k, hk, rfl, HJ⟩ := hrel
    by_cases h0 : k = 0
    · subst h0
      have hfin : Hid (trimK s s.size = 0) := hide ((unhide HJ).trans rfl)
      go_wp2
      go_ret
      exact ⟨by rw [unhide hfin]; simp, rfl⟩
    · obtain ⟨j, rfl⟩ : ∃ j, k = j + 1 := ⟨k - 1, by omega⟩
      have hw1 : IntKind.i64.wrap (((j + 1 : Nat) : Int) - 1) = (j : Int) := by rw [IntKind.wrap_i64]; omega
      have bj : (j : Int) < (s.size : Int) := by omega
      have hj : j < s.size := by omega
      have hat : s.data.toList[j]? = some (s[j]'hj) := by
        rw [List.getElem?_eq_getElem (by simpa using hj)]
        simp [ByteArray.getElem_eq_getElem_data]
      by_cases he : (s[j]'hj).toNat = 32
      · have HJ2 : Hid (trimK s s.size = trimK s j) := hide ((unhide HJ).trans (by
          rw [trimK, if_pos]
          rw [hat]
          exact congrArg some (UInt8.toNat_inj.1 he)))
        clear hat
        go_wp2
        go_round
        case rel => exact ⟨j, by omega, rfl, HJ2⟩
        case measure => simp [intOf]
      · have hfin : Hid (trimK s s.size = j + 1) := hide ((unhide HJ).trans (by
          rw [trimK, if_neg]
          rw [hat]
          exact fun e => he (by rw [Option.some.inj e]; rfl)))
        clear hat
        go_wp2
        go_ret
        exact ⟨by rw [unhide hfin]; rfl, rfl⟩
end Go.Proofs.YtgdadidppelgdaaGreatDoor

namespace Go.Proofs.YtgdadidppelgdaaGreatDoor
open Go.RowKit

/-- A session with rows behind its log. -/
def SS.keep (s : SS) (R : List ByteArray) : SS := { s with ln := s.ln + R.length, lt := fun i => if i < s.ln then s.lt i else trimS (atR R (i - s.ln)) }
/-- The log with the ends of rows behind it. -/
def logL (s : SS) (R : List ByteArray) : List Value := strL s.lt s.ln ++ R.map (fun x => .string (trimS x))
theorem logL_snoc (s : SS) (R : List ByteArray) (x : ByteArray) : logL s (R ++ [x]) = logL s R ++ [.string (trimS x)] := by simp [logL]
theorem logL_app (s : SS) (R Q : List ByteArray) : logL s (R ++ Q) = logL s R ++ Q.map (fun x => .string (trimS x)) := by simp [logL]
theorem strL_map (f : Nat → ByteArray) (g : ByteArray → ByteArray) (n : Nat) : strL (fun i => g (f i)) n = ((List.range n).map f).map (fun x => .string (g x)) := by simp [strL]
theorem logL_keep (s : SS) (R : List ByteArray) : logL s R = strL (s.keep R).lt (s.keep R).ln := by
  have h : R.map (fun x => Value.string (trimS x)) = strL (fun i => trimS (atR R i)) R.length := by
    apply List.ext_getElem?
    intro j
    by_cases h : j < R.length
    · rw [strL_at _ _ _ h, List.getElem?_map, atR_at R j h]
      rfl
    · rw [List.getElem?_eq_none (by simp; omega), List.getElem?_eq_none (by rw [strL_len]; omega)]
  rw [logL, h]
  exact strL_two s.lt (fun i => trimS (atR R i)) s.ln R.length
theorem take_snoc (R : List ByteArray) (k : Nat) (h : k < R.length) : R.take (k + 1) = R.take k ++ [atR R k] := by
  rw [List.take_add_one, atR_at R k h]
  rfl
set_option maxRecDepth 10000 in
set_option maxHeartbeats 4000000 in
theorem l7Keep_any (s : SS) (ua ha pa qa la da : Option Addr) (uc hc pc qc lc dc : Nat) (v : Value) (R : List ByteArray) (base : Nat) (w : World) (ho : w.ownsRow base 9 1 (.slice la s.ln lc) s.ln (strL s.lt s.ln)) (hb : base ≤ w.heap.size) (hln : s.ln ≤ 1073741824) (hR : R.length ≤ 1073741824) (hz : ∀ j, j < R.length → (atR R j).size ≤ 4398046511104)
    (hv : ∀ W', Fr (fun g => (Value.slice la s.ln lc).ownBlock = some g ∨ w.heap.size ≤ g) w W' → Row1At W' v R.length (fun j => .string (atR R j))) :
    Calls Tryz.prog 45 #[sesV s (.slice ua s.un uc) (.slice ha s.kh.length hc) (.slice pa s.pn pc) (.slice qa s.qn qc) (.slice la s.ln lc) (.slice da s.dn dc), v] w fun e w' => ∃ ka kc, e = .returned (sesV s (.slice ua s.un uc) (.slice ha s.kh.length hc) (.slice pa s.pn pc) (.slice qa s.qn qc) (.slice ka (s.ln + R.length) kc) (.slice da s.dn dc)) ∧ w'.ownsRow base 9 1 (.slice ka (s.ln + R.length) kc) (s.ln + R.length) (logL s R) ∧ (∀ g, (Value.slice ka (s.ln + R.length) kc).ownBlock = some g → (Value.slice la s.ln lc).ownBlock = some g ∨ w.heap.size ≤ g) ∧ Fr (fun g => (Value.slice la s.ln lc).ownBlock = some g ∨ w.heap.size ≤ g) w w' := by
  obtain ⟨ic, hic, hc0, hc1, hc2⟩ := info_parts infoStrs
  obtain ⟨ao, ca, rfl, _⟩ := id (hv w (Fr.refl _ _))
  have HX := hide hv
  have HZ := hide hz
  have HO0 := hide ho
  have EV : Hid (Ext w ((w.alloc (.cells #[.string s.pr, .int .i64 s.cols, .int .i64 s.rows, .string s.la, .string s.lb, .string s.lc, .slice ua s.un uc, .slice ha s.kh.length hc, .bool s.kp, .bool s.nav, .slice pa s.pn pc, .int .i64 s.at9, .string s.dr, .bool s.st, .slice qa s.qn qc, .slice la s.ln lc, .slice da s.dn dc] 37)).alloc (.cells #[.string { data := #[] }, .int .i64 0, .int .i64 0, .string { data := #[] }, .string { data := #[] }, .string { data := #[] }, .slice none 0 0, .slice none 0 0, .bool false, .bool false, .slice none 0 0, .int .i64 0, .string { data := #[] }, .bool false, .slice none 0 0, .slice none 0 0, .slice none 0 0] 37))) := hide (((Ext.refl w).alloc _).alloc _)
  have HB0 : Hid (((w.alloc (.cells #[.string s.pr, .int .i64 s.cols, .int .i64 s.rows, .string s.la, .string s.lb, .string s.lc, .slice ua s.un uc, .slice ha s.kh.length hc, .bool s.kp, .bool s.nav, .slice pa s.pn pc, .int .i64 s.at9, .string s.dr, .bool s.st, .slice qa s.qn qc, .slice la s.ln lc, .slice da s.dn dc] 37)).alloc (.cells #[.string { data := #[] }, .int .i64 0, .int .i64 0, .string { data := #[] }, .string { data := #[] }, .string { data := #[] }, .slice none 0 0, .slice none 0 0, .bool false, .bool false, .slice none 0 0, .int .i64 0, .string { data := #[] }, .bool false, .slice none 0 0, .slice none 0 0, .slice none 0 0] 37)).heap[w.heap.size]? = some (.cells #[.string s.pr, .int .i64 s.cols, .int .i64 s.rows, .string s.la, .string s.lb, .string s.lc, .slice ua s.un uc, .slice ha s.kh.length hc, .bool s.kp, .bool s.nav, .slice pa s.pn pc, .int .i64 s.at9, .string s.dr, .bool s.st, .slice qa s.qn qc, .slice la s.ln lc, .slice da s.dn dc] 37 (0, 0))) := hide (((Ext.refl _).alloc _).kept (new_block w _))
  have HB1 : Hid (((w.alloc (.cells #[.string s.pr, .int .i64 s.cols, .int .i64 s.rows, .string s.la, .string s.lb, .string s.lc, .slice ua s.un uc, .slice ha s.kh.length hc, .bool s.kp, .bool s.nav, .slice pa s.pn pc, .int .i64 s.at9, .string s.dr, .bool s.st, .slice qa s.qn qc, .slice la s.ln lc, .slice da s.dn dc] 37)).alloc (.cells #[.string { data := #[] }, .int .i64 0, .int .i64 0, .string { data := #[] }, .string { data := #[] }, .string { data := #[] }, .slice none 0 0, .slice none 0 0, .bool false, .bool false, .slice none 0 0, .int .i64 0, .string { data := #[] }, .bool false, .slice none 0 0, .slice none 0 0, .slice none 0 0] 37)).heap[w.heap.size + 1]? = some (.cells #[.string { data := #[] }, .int .i64 0, .int .i64 0, .string { data := #[] }, .string { data := #[] }, .string { data := #[] }, .slice none 0 0, .slice none 0 0, .bool false, .bool false, .slice none 0 0, .int .i64 0, .string { data := #[] }, .bool false, .slice none 0 0, .slice none 0 0, .slice none 0 0] 37 (0, 0))) := hide (by have h := new_block (w.alloc (.cells #[.string s.pr, .int .i64 s.cols, .int .i64 s.rows, .string s.la, .string s.lb, .string s.lc, .slice ua s.un uc, .slice ha s.kh.length hc, .bool s.kp, .bool s.nav, .slice pa s.pn pc, .int .i64 s.at9, .string s.dr, .bool s.st, .slice qa s.qn qc, .slice la s.ln lc, .slice da s.dn dc] 37)) (.cells #[.string { data := #[] }, .int .i64 0, .int .i64 0, .string { data := #[] }, .string { data := #[] }, .string { data := #[] }, .slice none 0 0, .slice none 0 0, .bool false, .bool false, .slice none 0 0, .int .i64 0, .string { data := #[] }, .bool false, .slice none 0 0, .slice none 0 0, .slice none 0 0] 37); rw [show (w.alloc (.cells #[.string s.pr, .int .i64 s.cols, .int .i64 s.rows, .string s.la, .string s.lb, .string s.lc, .slice ua s.un uc, .slice ha s.kh.length hc, .bool s.kp, .bool s.nav, .slice pa s.pn pc, .int .i64 s.at9, .string s.dr, .bool s.st, .slice qa s.qn qc, .slice la s.ln lc, .slice da s.dn dc] 37)).heap.size = w.heap.size + 1 by simp] at h; exact h)
  have HL0 : Hid (logL s [] = strL s.lt s.ln) := hide (by simp [logL])
  clear hv hz ho
  unfold sesV at *
  go_enter Tryz.func45, Tryz.ntmps45
  go_wp2
  go_loopw [5] (fun i wr => ∃ (k : Nat) (ka : Option Addr) (kc : Nat), k ≤ R.length ∧ i = .int .i64 k ∧ Hid (wr.heap[w.heap.size]? = some (.cells #[.string s.pr, .int .i64 s.cols, .int .i64 s.rows, .string s.la, .string s.lb, .string s.lc, .slice ua s.un uc, .slice ha s.kh.length hc, .bool s.kp, .bool s.nav, .slice pa s.pn pc, .int .i64 s.at9, .string s.dr, .bool s.st, .slice qa s.qn qc, .slice ka (s.ln + k) kc, .slice da s.dn dc] 37 (0, 0))) ∧ Hid (wr.heap[w.heap.size + 1]? = some (.cells #[.string { data := #[] }, .int .i64 0, .int .i64 0, .string { data := #[] }, .string { data := #[] }, .string { data := #[] }, .slice none 0 0, .slice none 0 0, .bool false, .bool false, .slice none 0 0, .int .i64 0, .string { data := #[] }, .bool false, .slice none 0 0, .slice none 0 0, .slice none 0 0] 37 (0, 0))) ∧ Hid (wr.ownsRow base 9 1 (.slice ka (s.ln + k) kc) (s.ln + k) (logL s (R.take k))) ∧ Hid (∀ g, (Value.slice ka (s.ln + k) kc).ownBlock = some g → (Value.slice la s.ln lc).ownBlock = some g ∨ w.heap.size ≤ g) ∧ Hid (Fr (fun g => (Value.slice la s.ln lc).ownBlock = some g ∨ w.heap.size ≤ g) w wr)) (fun i _ => R.length - (intOf i).toNat)
  case atStart => exact ⟨0, la, lc, Nat.zero_le _, rfl, HB0, HB1, hide (by rw [List.take_zero, unhide HL0]; exact (unhide EV).owns (unhide HO0)), hide (fun g hg => .inl hg), hide (Fr.of_ext (unhide EV))⟩
  case round =>
    obtain ⟨k, ka, kc, hk, rfl, HB, HC, HO, HN, HF⟩ := hrel
    clear HB0 HB1 HO0 HL0 EV
    have hsz := (unhide HF).size
    have hs1 := lt_of_block (unhide HC)
    have x15 : wr.cell? ⟨w.heap.size, 15, none⟩ = some (.slice ka (s.ln + k) kc) := cells_of (unhide HB) 15 _ rfl
    by_cases hlt : k < R.length
    · obtain ⟨ao', ca', e', _, hxa⟩ := (unhide HX) wr (unhide HF)
      obtain ⟨rfl, _, rfl⟩ := Value.slice.inj e'
      obtain ⟨b, off, hao, hc⟩ := hxa (by omega)
      subst hao
      have g1 := hc k hlt
      clear hc hxa e'
      have bk : (k : Int) < (R.length : Int) := by omega
      have hcT := hide (fun W => l2Trim_big (atR R k) W ((unhide HZ) k hlt))
      have hst : Hid (logL s (R.take (k + 1)) = logL s (R.take k) ++ [.string (trimS (atR R k))]) := hide (by rw [take_snoc R k hlt, logL_snoc])
      have x15n : ∀ o, (wr.alloc o).cell? ⟨w.heap.size, 15, none⟩ = some (.slice ka (s.ln + k) kc) := fun o => ((Ext.refl wr).alloc o).cell x15
      go_upto_region 4 with fail
      go_region_law (first
        | (go_simp; go_at_call 59; refine ((unhide hcT) _).mono ?_; rintro e w4 ⟨rfl, hw4⟩; have E4 : Ext wr w4 := (by rw [hw4]; exact (Ext.refl wr).drew); have z4 := E4.size; have x4 := E4.cell x15; have x4n : ∀ o, (w4.alloc o).cell? ⟨w.heap.size, 15, none⟩ = some (.slice ka (s.ln + k) kc) := fun o => ((Ext.refl w4).alloc o).cell x4; clear hw4)
        | (refine step_append_lies _ (by rfl) _ _ _ (by rfl) base 9 ic _ 1 16 Tryz.underlying28 hic hc0 hc1 hc2 rfl (by omega) (.slice ka (s.ln + k) kc) (s.ln + k) (logL s (R.take k)) (by rfl) (by first | exact (E4.owns (unhide HO)).alloc _ | exact ((E4.owns (unhide HO)).alloc _).drew | exact (E4.owns (unhide HO)).drew.alloc _ | exact ((E4.owns (unhide HO)).drew.alloc _).drew)
             ⟨w4.heap.size, 0, none⟩ 1 1 [.string (trimS (atR R k))] (by rfl) (by rfl) (World.news_of_block (cs := #[.string (trimS (atR R k))]) (t := 9) (fr := (0, 0)) (heap_alloc_new w4 _)) (by simp [Value.oneCell'])
             (by omega) (by unfold maxLen; omega) (by omega) (by simp; omega) (w4.heap.size + 1) (by simp) ?_
           intro g6 c6 w6 o6 G6 hat hlt6
           have X6 := Fr.grown (S := fun q => (Value.slice ka (s.ln + k) kc).ownBlock = some q) (w := wr) (Fr.of_ext (by first | exact E4.alloc _ | exact (E4.alloc _).drew | exact E4.drew.alloc _ | exact (E4.drew.alloc _).drew)) G6 (fun q hq => hq)
           rw [← unhide hst] at o6
           have HO6 := hide o6
           have HX6 := hide X6
           have HAT := hide hat
           have hb6 := X6.kept (unhide HB) (fun hq => by obtain ⟨c9, k9⟩ := owns_kind (unhide HO) hq; rw [unhide HB] at k9; injection k9 with k9; injection k9 with _ k9; exact absurd k9 (by decide))
           have HB6 := hide hb6
           have y15 : w6.cell? ⟨w.heap.size, 15, none⟩ = some (.slice ka (s.ln + k) kc) := cells_of hb6 15 _ rfl
           have f15 : w6.frozen? ⟨w.heap.size, 15, none⟩ = false := Lib.frozen_of_heap hb6 15
           have HC6 := hide (X6.kept (unhide HC) (fun hq => by obtain ⟨c9, k9⟩ := owns_kind (unhide HO) hq; rw [unhide HC] at k9; injection k9 with k9; injection k9 with _ k9; exact absurd k9 (by decide)))
           have z6 := X6.size
           clear X6 o6 G6 hb6 hat))
      all_goals
        go_wp2
        go_roundw
        case rel =>
          refine ⟨k + 1, some ⟨g6, 0, none⟩, c6, by omega, by go_num, hide (set_blk2 (unhide HB6) rfl), hide (set_else (unhide HC6) (by omega)), hide (owns_setCell (unhide HO6) (fun e9 => ?_) _), hide (fun g hg => ?_), hide (((unhide HF).tr ((unhide HX6).mono (fun g hg => (unhide HN) g hg))).setCell (.inr (Nat.le_refl _)) _)⟩
          · obtain ⟨c9, k9⟩ := owns_kind (unhide HO6) e9
            rw [unhide HB6] at k9
            injection k9 with k9
            injection k9 with _ k9
            exact absurd k9 (by decide)
          · have e9 : g = g6 := by simpa [Value.ownBlock] using hg.symm
            subst e9
            rcases unhide HAT with h9 | h9
            · exact (unhide HN) g h9
            · right; omega
        case measure => simp [intOf]; omega
    · obtain rfl : k = R.length := by omega
      have hb9 : ¬ (R.length : Int) < (R.length : Int) := by omega
      rw [List.take_length] at HO
      go_wp2_with (first
        | (refine wpList_load_blk rfl 37 _ rfl (w.heap.size) rfl _ _ _ _ (unhide HB) Tryz.underlying37 rfl infoSes ?_)
        | (refine wpList_store_blk rfl 37 _ _ rfl rfl (w.heap.size + 1) rfl _ _ #[.string s.pr, .int .i64 s.cols, .int .i64 s.rows, .string s.la, .string s.lb, .string s.lc, .slice ua s.un uc, .slice ha s.kh.length hc, .bool s.kp, .bool s.nav, .slice pa s.pn pc, .int .i64 s.at9, .string s.dr, .bool s.st, .slice qa s.qn qc, .slice ka (s.ln + R.length) kc, .slice da s.dn dc] rfl (unhide HC) infoSes rfl (by simp [Value.oneCell']) ?_; intro X hx9 hf9; have HY := hide hx9; have FX := hide hf9; clear hx9 hf9))
      have v0 : X.cell? ⟨w.heap.size + 1, 0, none⟩ = some (.string s.pr) := cells_of (unhide HY) 0 _ rfl
      have v1 : X.cell? ⟨w.heap.size + 1, 1, none⟩ = some (.int .i64 s.cols) := cells_of (unhide HY) 1 _ rfl
      have v2 : X.cell? ⟨w.heap.size + 1, 2, none⟩ = some (.int .i64 s.rows) := cells_of (unhide HY) 2 _ rfl
      have v3 : X.cell? ⟨w.heap.size + 1, 3, none⟩ = some (.string s.la) := cells_of (unhide HY) 3 _ rfl
      have v4 : X.cell? ⟨w.heap.size + 1, 4, none⟩ = some (.string s.lb) := cells_of (unhide HY) 4 _ rfl
      have v5 : X.cell? ⟨w.heap.size + 1, 5, none⟩ = some (.string s.lc) := cells_of (unhide HY) 5 _ rfl
      have v6 : X.cell? ⟨w.heap.size + 1, 6, none⟩ = some (.slice ua s.un uc) := cells_of (unhide HY) 6 _ rfl
      have v7 : X.cell? ⟨w.heap.size + 1, 7, none⟩ = some (.slice ha s.kh.length hc) := cells_of (unhide HY) 7 _ rfl
      have v8 : X.cell? ⟨w.heap.size + 1, 8, none⟩ = some (.bool s.kp) := cells_of (unhide HY) 8 _ rfl
      have v9 : X.cell? ⟨w.heap.size + 1, 9, none⟩ = some (.bool s.nav) := cells_of (unhide HY) 9 _ rfl
      have v10 : X.cell? ⟨w.heap.size + 1, 10, none⟩ = some (.slice pa s.pn pc) := cells_of (unhide HY) 10 _ rfl
      have v11 : X.cell? ⟨w.heap.size + 1, 11, none⟩ = some (.int .i64 s.at9) := cells_of (unhide HY) 11 _ rfl
      have v12 : X.cell? ⟨w.heap.size + 1, 12, none⟩ = some (.string s.dr) := cells_of (unhide HY) 12 _ rfl
      have v13 : X.cell? ⟨w.heap.size + 1, 13, none⟩ = some (.bool s.st) := cells_of (unhide HY) 13 _ rfl
      have v14 : X.cell? ⟨w.heap.size + 1, 14, none⟩ = some (.slice qa s.qn qc) := cells_of (unhide HY) 14 _ rfl
      have v15 : X.cell? ⟨w.heap.size + 1, 15, none⟩ = some (.slice ka (s.ln + R.length) kc) := cells_of (unhide HY) 15 _ rfl
      have v16 : X.cell? ⟨w.heap.size + 1, 16, none⟩ = some (.slice da s.dn dc) := cells_of (unhide HY) 16 _ rfl
      refine bodyPost_ret (v := sesV s (.slice ua s.un uc) (.slice ha s.kh.length hc) (.slice pa s.pn pc) (.slice qa s.qn qc) (.slice ka (s.ln + R.length) kc) (.slice da s.dn dc)) (by simp [results, Tryz.results45, go_sem, sesV, v0, v1, v2, v3, v4, v5, v6, v7, v8, v9, v10, v11, v12, v13, v14, v15, v16]) rfl ⟨ka, kc, rfl, (unhide FX).owns (unhide HO) (fun g hg e9 => ?_), unhide HN, (unhide HF).tr ((unhide FX).mono (fun g hg => .inr (by omega)))⟩
      subst e9
      obtain ⟨c9, k9⟩ := owns_kind (unhide HO) hg
      rw [unhide HC] at k9
      injection k9 with k9
      injection k9 with _ k9
      exact absurd k9 (by decide)
end Go.Proofs.YtgdadidppelgdaaGreatDoor
