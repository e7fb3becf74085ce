import Derived.Test.YtlnmpbdnmlpkiaaDoorRowTx
import Derived.Test.YtlnmpbdnmlpkiaaDoorOkImpl
import Derived.Test.YtlnmpbdnmlpkiaaDoorStrs
namespace Go.Proofs.YtlnmpbdnmlpkiaaDoor
open Go.RowKit

/-- The text of a screen's row. -/
def lineT (d : SD) (i : Nat) : ByteArray := rowT (d.tx i) (d.hf i) (d.C i)
theorem lineT_U {d : SD} (h : OkP d) {i : Nat} (hi : i < d.R) : rowU (d.tx i) (d.hf i) (d.C i) = lineT d i := by
  unfold lineT rowT rowU
  rw [row_same (d.tx i) (d.hf i) (d.C i) (fun k hk hh => (h.half i k hi hk hh).1) _ (Nat.le_refl _)]
/-- How many rows are shown, of the first k. -/
def shN (d : SD) : Nat → Nat
  | 0 => 0
  | k + 1 => if d.row + 1 < ((k + 1 : Nat) : Int) ∧ (lineT d k).toList = [] then shN d k else k + 1
theorem shN_le (d : SD) : ∀ k, shN d k ≤ k
  | 0 => Nat.le_refl _
  | k + 1 => by
    have := shN_le d k
    rw [shN]
    split <;> omega
theorem shN_stop {d : SD} {k : Nat} (h0 : 0 < k) (h : ¬ d.row + 1 < (k : Int)) : shN d k = k := by
  obtain ⟨j, rfl⟩ : ∃ j, k = j + 1 := ⟨k - 1, by omega⟩
  rw [shN, if_neg (fun e => h e.1)]
theorem shN_text {d : SD} {k : Nat} (h : (lineT d k).toList ≠ []) : shN d (k + 1) = k + 1 := by rw [shN, if_neg (fun e => h e.2)]
theorem shN_pass {d : SD} {k : Nat} (h1 : d.row + 1 < ((k + 1 : Nat) : Int)) (h : (lineT d k).toList = []) : shN d (k + 1) = shN d k := by rw [shN, if_pos ⟨h1, h⟩]
/-- The last row that the specification finds, of the first k. -/
def lastN (d : SD) (r : Nat) : Nat → Nat
  | 0 => r
  | k + 1 => if (lineT d k).toList ≠ [] ∧ lastN d r k < k then k else lastN d r k
theorem lastN_low (d : SD) (r : Nat) : ∀ k, k ≤ r + 1 → lastN d r k = r
  | 0, _ => rfl
  | k + 1, h => by
    have ih := lastN_low d r k (by omega)
    rw [lastN, ih, if_neg (fun e => by omega)]
theorem lastN_shN (d : SD) (r : Nat) (hr : d.row = (r : Int)) : ∀ k, r + 1 ≤ k → lastN d r k + 1 = shN d k := by
  intro k
  induction k with
  | zero => intro h; omega
  | succ k ih =>
    intro h
    by_cases e : k = r
    · subst e
      rw [lastN_low d k _ (Nat.le_refl _), shN_stop (by omega) (by omega)]
    · have ih' := ih (by omega)
      have hle := shN_le d k
      have hlt : lastN d r k < k := by omega
      by_cases ht : (lineT d k).toList = []
      · rw [lastN, if_neg (fun x => x.1 ht), shN_pass (by omega) ht]
        exact ih'
      · rw [lastN, if_pos ⟨ht, hlt⟩, shN_text ht]
theorem lastN_le (d : SD) (r : Nat) (R : Nat) (h : r < R) : ∀ k, k ≤ R → lastN d r k < R
  | 0, _ => h
  | k + 1, hk => by
    have := lastN_le d r R h k (by omega)
    rw [lastN]
    split <;> omega
/-- The lines of a valid screen: how many, and each. -/
def linN (d : SD) : Nat := d.nb + shN d d.R
def linT (d : SD) (j : Nat) : ByteArray := if j < d.nb then d.bk j else lineT d (j - d.nb)
theorem strL_succ (tx : Nat → ByteArray) (n : Nat) : strL tx (n + 1) = strL tx n ++ [.string (tx n)] := by simp [strL, List.range_succ]
theorem strL_congr {tx ty : Nat → ByteArray} {n : Nat} (h : ∀ j, j < n → tx j = ty j) : strL tx n = strL ty n := by
  unfold strL
  apply List.map_congr_left
  intro j hj
  rw [h j (List.mem_range.1 hj)]
theorem linT_back (d : SD) : strL d.bk d.nb = strL (linT d) d.nb := strL_congr (fun j hj => by rw [linT, if_pos hj])
theorem linT_row (d : SD) (k : Nat) : linT d (d.nb + k) = lineT d k := by rw [linT, if_neg (by omega), show d.nb + k - d.nb = k by omega]
/-- The texts of a screen's rows are not too long for one string. -/
def SD.Texts (d : SD) : Prop := ∀ i, i < d.R → rsz (d.tx i) (d.C i) ≤ 1048576
set_option maxRecDepth 10000 in
set_option maxHeartbeats 2000000 in
theorem shownRows_any (d : SD) (gv hv bv : Value) (w : World) (h : ScrAt w d gv hv bv) (hOK : OkP d) (hF : d.Fits) (hT : d.Texts) :
    Calls Tryd.prog 54 #[scrV d gv hv bv] w fun e w' => e = .returned (.int .i64 (shN d d.R)) ∧ Ext w w' := by
  obtain ⟨cn, rn, ec, er, c2, c200, r1, r100⟩ := sizeB_open hOK.size
  have hr := hOK.R
  obtain ⟨hrow0, hrow1⟩ := hOK.row
  have hR100 : d.R ≤ 100 := by omega
  obtain ⟨rv, ⟨ao, ca, rfl, hca, hxa⟩, hrw⟩ := h.1
  obtain ⟨b, off, rfl, hcell⟩ := hxa (by omega)
  have HX := hide hcell
  have HRW := hide hrw
  have HF2 := hide hF.2
  clear hcell hrw hxa h hF hOK
  unfold scrV
  rw [← hr] at *
  have EW := (Ext.refl w).alloc (.cells #[.int .i64 d.cols, .int .i64 d.R, .slice (some ⟨b, off, none⟩) d.R ca, .int .i64 d.row, .int .i64 d.col, .bool d.late, hv, bv] 31)
  have hbk := new_block w (.cells #[.int .i64 d.cols, .int .i64 d.R, .slice (some ⟨b, off, none⟩) d.R ca, .int .i64 d.row, .int .i64 d.col, .bool d.late, hv, bv] 31)
  obtain ⟨W1, hW1⟩ : ∃ W1, W1 = w.alloc (.cells #[.int .i64 d.cols, .int .i64 d.R, .slice (some ⟨b, off, none⟩) d.R ca, .int .i64 d.row, .int .i64 d.col, .bool d.late, hv, bv] 31) := ⟨_, rfl⟩
  rw [← hW1] at EW hbk
  have p2 := cells_of hbk 2 _ rfl
  have p3 := cells_of hbk 3 _ rfl
  have HW := hide hW1
  clear hW1 hbk hr er ec
  go_enter Tryd.func54, Tryd.ntmps54
  go_wp2
  rw [← unhide HW]
  clear HW
  go_loopw [3] (fun i wr => ∃ k : Nat, k ≤ d.R ∧ d.row + 1 ≤ (k : Int) ∧ i = .int .i64 k ∧ Hid (shN d d.R = shN d k) ∧ Ext W1 wr) (fun i _ => (intOf i).toNat)
  case atStart => exact ⟨d.R, Nat.le_refl _, by omega, rfl, hide rfl, Ext.refl _⟩
  case round =>
    obtain ⟨k, hk, hk2, rfl, HJ, hext⟩ := hrel
    have c2 := hext.cell p2
    have c3 := hext.cell p3
    by_cases hlt : d.row + 1 < (k : Int)
    · obtain ⟨j, rfl⟩ : ∃ j, k = j + 1 := ⟨k - 1, by omega⟩
      have hw1 : IntKind.i64.wrap (((j + 1 : Nat) : Int) - 1) = (j : Int) := by rw [IntKind.wrap_i64]; omega
      have bj : (j : Int) < (d.R : Int) := by omega
      have g1 := (EW.trans hext).cell ((unhide HX) j (by omega))
      have hcon := hide (rowText_any (rv j) (d.C j) (d.tx j) (d.hf j) wr (((unhide HRW) j (by omega)).ext (EW.trans hext)) ((unhide HF2) j (by omega)) (Nat.le_trans (hT j (by omega)) (by omega)))
      by_cases ht : (lineT d j).toList = []
      · have HJ2 : Hid (shN d d.R = shN d j) := hide ((unhide HJ).trans (shN_pass hlt ht))
        unfold lineT at ht
        go_wp2_with fail
        refine (unhide hcon).mono ?_
        rintro e w2 ⟨rfl, F2⟩
        go_wp2
        go_roundw
        case rel => exact ⟨j, by omega, by omega, rfl, HJ2, hext.trans F2⟩
        case measure => simp [intOf]
      · have hfin : Hid (shN d d.R = j + 1) := hide ((unhide HJ).trans (shN_text ht))
        unfold lineT at ht
        have ht' : (rowT (d.tx j) (d.hf j) (d.C j)).toList.isEmpty = false := by simpa using ht
        go_wp2_with fail
        refine (unhide hcon).mono ?_
        rintro e w2 ⟨rfl, F2⟩
        go_wp2
        go_ret
        exact ⟨ret_int (by rw [unhide hfin]; omega), EW.trans (hext.trans F2)⟩
    · have hfin : Hid (shN d d.R = k) := hide ((unhide HJ).trans (shN_stop (by omega) hlt))
      go_wp2
      go_ret
      exact ⟨ret_int (by rw [unhide hfin]), EW.trans hext⟩
theorem nil_owned (w : World) (B : Nat) (T : TypeId) (A : Nat → Value) : Own1 w B T (.slice none 0 0) 0 A := ⟨[], owns_nil w B T 1, fun j hj => absurd hj (Nat.not_lt_zero j)⟩
set_option maxRecDepth 10000 in
set_option maxHeartbeats 4000000 in
theorem implLines_any (d : SD) (gv hv bv : Value) (ok : Bool) (hok : ok = true ↔ OkP d) (w : World) (h : ScrAt w d gv hv bv) (hF : d.Fits) (hT : d.Texts) :
    Calls Tryd.prog 12 #[scrV d gv hv bv] w fun e w' => ∃ v, e = .returned v ∧ Own1 w' w.heap.size 9 v (if ok = true then linN d else 0) (fun j => .string (linT d j)) ∧ Ext w w' := by
  obtain ⟨ic, hic, hc0, hc1, hc2⟩ := info_parts infoStrs
  have hcO := hide (fun U (hU : Ext w U) => implScreenOk_any d gv hv bv ok hok U (h.ext hU) hF)
  cases ok with
  | false =>
    clear hok
    obtain ⟨ga, gc, ha, hc, ba, bc, rfl, rfl, rfl⟩ := h.forms
    unfold scrV at *
    clear h
    go_enter Tryd.func12, Tryd.ntmps12
    go_wp2_with fail
    refine ((unhide hcO) _ ((Ext.refl w).alloc _)).mono ?_
    rintro e w1 ⟨rfl, F1⟩
    go_wp2
    go_ret
    exact ⟨_, rfl, nil_owned _ _ _ _, ((Ext.refl w).alloc _).trans F1⟩
  | true =>
    have hOK := hok.1 rfl
    have hcS := hide (fun U (hU : Ext w U) => shownRows_any d gv hv bv U (h.ext hU) hOK hF hT)
    obtain ⟨cn, rn, ec, er, c2, c200, r1, r100⟩ := sizeB_open hOK.size
    have hr := hOK.R
    have hR100 : d.R ≤ 100 := by omega
    have hR1 : 1 ≤ d.R := by omega
    have hbk2 := hide h.2.2
    have hnb := hF.4
    obtain ⟨ha, hc, ba, bc, rfl, rfl⟩ : ∃ ha hc ba bc, hv = .slice ha d.hold.length hc ∧ bv = .slice ba d.nb bc := by
      obtain ⟨_, _, ha, hc, ba, bc, _, e2, e3⟩ := h.forms
      exact ⟨ha, hc, ba, bc, e2, e3⟩
    obtain ⟨rv, ⟨ao, ca, rfl, hca, hxa⟩, hrw⟩ := h.1
    obtain ⟨b, off, rfl, hcell⟩ := hxa (by omega)
    have HX := hide hcell
    have HRW := hide hrw
    have HF2 := hide hF.2
    clear hcell hrw hxa h hF hOK hok ec er c2 c200 r1 r100 hr
    obtain ⟨n, hn⟩ : ∃ n, n = shN d d.R := ⟨_, rfl⟩
    have hnR := shN_le d d.R
    have hlin : Hid (linN d = d.nb + n) := by rw [hn]; exact rfl
    rw [← hn] at hcS hnR
    clear hn
    rw [if_pos rfl]
    unfold scrV at *
    have EW := (Ext.refl w).alloc (.cells #[.int .i64 d.cols, .int .i64 d.rows, .slice (some ⟨b, off, none⟩) d.R ca, .int .i64 d.row, .int .i64 d.col, .bool d.late, .slice ha d.hold.length hc, .slice ba d.nb bc] 31)
    have hbk := new_block w (.cells #[.int .i64 d.cols, .int .i64 d.rows, .slice (some ⟨b, off, none⟩) d.R ca, .int .i64 d.row, .int .i64 d.col, .bool d.late, .slice ha d.hold.length hc, .slice ba d.nb bc] 31)
    obtain ⟨W1, hW1⟩ : ∃ W1, W1 = w.alloc (.cells #[.int .i64 d.cols, .int .i64 d.rows, .slice (some ⟨b, off, none⟩) d.R ca, .int .i64 d.row, .int .i64 d.col, .bool d.late, .slice ha d.hold.length hc, .slice ba d.nb bc] 31) := ⟨_, rfl⟩
    rw [← hW1] at EW hbk
    have HBK := hide hbk
    have HW := hide hW1
    clear hW1 hbk
    go_enter Tryd.func12, Tryd.ntmps12
    go_wp2_with fail
    rw [← unhide HW]
    clear HW
    refine ((unhide hcO) _ EW).mono ?_
    rintro e w1 ⟨rfl, F1⟩
    have hb1 := F1.kept (unhide HBK)
    have p7 := cells_of hb1 7 _ rfl
    have hs1 := F1.size
    have HS := hide (Src.strs ((unhide hbk2).ext (EW.trans F1)))
    clear hb1 hcO
    go_wp2_with (at_builtin; go_must (refine wpList_app rfl _ _ 24 rfl W1.heap.size 9 ic (.string { data := #[] }) 1 16 Tryd.underlying24 hic hc0 hc1 hc2 rfl (by decide) (.slice none 0 0) 0 [] rfl (owns_nil _ _ _ _) _ d.nb (strL d.bk d.nb) rfl (unhide HS) (by unfold maxLen; omega) (by omega) (by omega) ?_); intro v2 w2 o2 G2 _; rw [List.nil_append, linT_back, Nat.zero_add] at o2; have HO2 := hide o2; have E2 : Ext W1 w2 := F1.trans G2; have hs2 := E2.size; clear o2 G2)
    have hb2 := E2.kept (unhide HBK)
    have q0 := cells_of hb2 0 _ rfl
    have q1 := cells_of hb2 1 _ rfl
    have q2 := cells_of hb2 2 _ rfl
    have q3 := cells_of hb2 3 _ rfl
    have q4 := cells_of hb2 4 _ rfl
    have q5 := cells_of hb2 5 _ rfl
    have q6 := cells_of hb2 6 _ rfl
    have q7 := cells_of hb2 7 _ rfl
    clear hb2
    have hnn : (n : Int) ≤ (ca : Int) := by omega
    have hn0 : (0 : Int) ≤ (n : Int) := by omega
    go_region_held3 (fun W => W.cell? ⟨w.heap.size, 0, none⟩ = some (.int .i64 d.cols) ∧ W.cell? ⟨w.heap.size, 1, none⟩ = some (.int .i64 d.rows) ∧ W.cell? ⟨w.heap.size, 2, none⟩ = some (.slice (some ⟨b, off, none⟩) d.R ca) ∧ W.cell? ⟨w.heap.size, 3, none⟩ = some (.int .i64 d.row) ∧ W.cell? ⟨w.heap.size, 4, none⟩ = some (.int .i64 d.col) ∧ W.cell? ⟨w.heap.size, 5, none⟩ = some (.bool d.late) ∧ W.cell? ⟨w.heap.size, 6, none⟩ = some (.slice ha d.hold.length hc) ∧ W.cell? ⟨w.heap.size, 7, none⟩ = some (.slice ba d.nb bc)) (first | exact ⟨q0, q1, q2, q3, q4, q5, q6, q7⟩ | exact ⟨he'.cell q0, he'.cell q1, he'.cell q2, he'.cell q3, he'.cell q4, he'.cell q5, he'.cell q6, he'.cell q7⟩ | go_keep)
      (first | (go_at_call 54; refine ((unhide hcS) _ (EW.trans E2).drew).mono ?_; rintro e w3 ⟨rfl, F3⟩; have he' := (Ext.refl w2).drew.trans F3))
    have E3 := E2.trans he'
    have HO3 := hide (he'.owns (unhide HO2))
    clear he' HO2 q0 q1 q2 q3 q4 q5 q6 q7 p7 F3 hcS
    go_wp2
    go_loopw [3, 18] (fun o i wr => ∃ k : Nat, k ≤ n ∧ i = .int .i64 k ∧ Hid (wr.ownsRow W1.heap.size 9 1 o (d.nb + k) (strL (linT d) (d.nb + k))) ∧ Ext W1 wr) (fun _ i _ => n - (intOf i).toNat)
    case atStart => exact ⟨0, Nat.zero_le _, rfl, HO3, E3⟩
    case round =>
      clear HO3 E3
      obtain ⟨k, hk, rfl, HO, hext⟩ := hrel
      have hs3 := hext.size
      by_cases hlt : k < n
      · have g1 := (EW.trans hext).cell ((unhide HX) k (by omega))
        have bk : (k : Int) < (n : Int) := by omega
        have hcon := hide (rowText_any (rv k) (d.C k) (d.tx k) (d.hf k) wr (((unhide HRW) k (by omega)).ext (EW.trans hext)) ((unhide HF2) k (by omega)) (Nat.le_trans (hT k (by omega)) (by omega)))
        have hst : Hid (strL (linT d) (d.nb + (k + 1)) = strL (linT d) (d.nb + k) ++ [.string (rowT (d.tx k) (d.hf k) (d.C k))]) := by
          refine hide ?_
          rw [← Nat.add_assoc, strL_succ, linT_row]
          rfl
        go_wp2_with (first
          | (go_at_call 55; refine (unhide hcon).mono ?_; rintro e w4 ⟨rfl, F4⟩; have HO4 := hide (F4.owns (unhide HO)); have E4 := hext.trans F4; have hs4 := E4.size; clear F4)
          | (at_builtin; go_must (refine wpList_app rfl _ _ 24 rfl W1.heap.size 9 ic (.string { data := #[] }) 1 16 Tryd.underlying24 hic hc0 hc1 hc2 rfl (by decide) _ _ _ rfl ((unhide HO4).alloc _) _ 1 [.string (rowT (d.tx k) (d.hf k) (d.C k))] rfl (Src.made _ _ _ rfl (by simp [Value.oneCell'])) (by unfold maxLen; omega) (by omega) (by simp; omega) ?_); intro v5 w5 o5 G5 _; rw [← unhide hst] at o5; have HO5 := hide o5; have E5 := hide ((E4.alloc _).grown G5 (fun q hq => ((unhide HO4).lt q hq).1)); clear o5 G5))
        go_roundw
        case rel => exact ⟨k + 1, by omega, by go_num, HO5, unhide E5⟩
        case measure => simp [intOf]; omega
      · obtain rfl : k = n := by omega
        have hb9 : ¬ (k : Int) < (k : Int) := by omega
        go_wp2
        go_ret
        exact ⟨_, rfl, by rw [unhide hlin]; exact (own_strL (unhide HO)).mono EW.size, EW.trans hext⟩
end Go.Proofs.YtlnmpbdnmlpkiaaDoor
