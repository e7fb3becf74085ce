import Derived.Test.YtgdadidppelgdaaGreatDoorTrim
import Derived.Test.YtgdadidppelgdaaGreatDoorSpecRune
import Derived.Test.YtgdadidppelgdaaGreatDoorChecked
import Derived.Test.YtgdadidppelgdaaGreatDoorSes
namespace Go.Proofs.YtgdadidppelgdaaGreatDoor
open Go.RowKit

/-- What wayOk says. -/
def WayP (nav : Bool) (n : Nat) (at9 : Int) (tx : Nat → ByteArray) (dr : ByteArray) : Prop :=
  if nav then n ≤ 100 ∧ 0 ≤ at9 ∧ at9 ≤ (n : Int) ∧ (∀ j, j < n → TextP (baL (tx j))) ∧ TextP (baL dr) else n = 0 ∧ at9 = 0 ∧ dr = { data := #[] }
set_option maxRecDepth 10000 in
set_option maxHeartbeats 2000000 in
theorem wayOk_any (pr a b c dr : ByteArray) (cols rows at9 : Int) (u hv pv qv lv dv : Value) (kp nav st : Bool) (n : Nat) (tx : Nat → ByteArray) (w : World) (hpv : Row1At w pv n (fun j => .string (tx j))) (hn : n ≤ 1048576) (hx : ∀ j, j < n → (tx j).size ≤ 1048576) (hd : dr.size ≤ 1048576) (hT : Tabs3 w) (ok : Bool) (hok : ok = true ↔ WayP nav n at9 tx dr) :
    Calls Tryz.prog 122 #[.agg #[.string pr, .int .i64 cols, .int .i64 rows, .string a, .string b, .string c, u, hv, .bool kp, .bool nav, pv, .int .i64 at9, .string dr, .bool st, qv, lv, dv]] w fun e w' => e = .returned (.bool ok) ∧ Ext w w' := by
  obtain ⟨bt, hbt⟩ := ex_bool (∀ j, j < n → TextP (baL (tx j)))
  obtain ⟨bd, hbd⟩ := ex_bool (TextP (baL dr))
  have hcA := hide (fun W (hW : Ext w W) => allOk_text pv n tx W (hpv.ext hW) hn hx (hT.ext hW) bt hbt)
  have hcD := hide (fun W (hW : Ext w W) => textOk_ba dr W hd (hT.ext hW) bd hbd)
  obtain ⟨ao, ca, rfl, _, _⟩ := hpv
  have HBT := hide hbt
  have HBD := hide hbd
  clear hx hT hbt hbd
  cases nav with
  | false =>
    have hP : ok = true ↔ n = 0 ∧ at9 = 0 ∧ dr = { data := #[] } := by simpa [WayP] using hok
    have HP := hide hP
    clear hok hP hcA hcD HBT HBD
    by_cases h1 : n = 0
    · subst h1
      by_cases h2 : at9 = 0
      · subst h2
        by_cases h3 : dr = { data := #[] }
        · subst h3
          have hfin : Hid (ok = true) := hide ((unhide HP).2 ⟨rfl, rfl, rfl⟩)
          go_enter Tryz.func122, Tryz.ntmps122
          go_wp2
          go_ret
          exact ⟨ret_bool (unhide hfin).symm, (Ext.refl _).alloc _⟩
        · have hne : dr.toList.isEmpty = false := by
            rw [toList_data]
            cases e : dr.data.toList with
            | nil => exact absurd (WideShapes.bytes_inj e) h3
            | cons _ _ => rfl
          have hfin : Hid (ok = false) := hide (not_ok (unhide HP) (fun h => h3 h.2.2))
          clear h3
          go_enter Tryz.func122, Tryz.ntmps122
          go_wp2
          go_ret
          exact ⟨ret_bool (unhide hfin).symm, (Ext.refl _).alloc _⟩
      · have hfin : Hid (ok = false) := hide (not_ok (unhide HP) (fun h => h2 h.2.1))
        go_enter Tryz.func122, Tryz.ntmps122
        go_wp2
        go_ret
        exact ⟨ret_bool (unhide hfin).symm, (Ext.refl _).alloc _⟩
    · have hfin : Hid (ok = false) := hide (not_ok (unhide HP) (fun h => h1 h.1))
      have h1I : ¬ (n : Int) = 0 := by omega
      go_enter Tryz.func122, Tryz.ntmps122
      go_wp2
      go_ret
      exact ⟨ret_bool (unhide hfin).symm, (Ext.refl _).alloc _⟩
  | true =>
    have hP : ok = true ↔ n ≤ 100 ∧ 0 ≤ at9 ∧ at9 ≤ (n : Int) ∧ (∀ j, j < n → TextP (baL (tx j))) ∧ TextP (baL dr) := by simpa [WayP] using hok
    have HP := hide hP
    clear hok hP
    by_cases h1 : (n : Int) ≤ 100
    · by_cases h2 : 0 ≤ at9
      · by_cases h3 : at9 ≤ (n : Int)
        · have q12 : ∀ o, (w.alloc (.cells #[.string pr, .int .i64 cols, .int .i64 rows, .string a, .string b, .string c, u, hv, .bool kp, .bool true, Value.slice ao n ca, .int .i64 at9, .string dr, .bool st, qv, lv, dv] o)).cell? ⟨w.heap.size, 12, none⟩ = some (.string dr) := fun o => cells_of (new_block w _) 12 _ rfl
          have EV := (Ext.refl w).alloc (.cells #[.string pr, .int .i64 cols, .int .i64 rows, .string a, .string b, .string c, u, hv, .bool kp, .bool true, Value.slice ao n ca, .int .i64 at9, .string dr, .bool st, qv, lv, dv] 37)
          have q12 := q12 37
          obtain ⟨V, hV⟩ : ∃ V, V = w.alloc (.cells #[.string pr, .int .i64 cols, .int .i64 rows, .string a, .string b, .string c, u, hv, .bool kp, .bool true, Value.slice ao n ca, .int .i64 at9, .string dr, .bool st, qv, lv, dv] 37) := ⟨_, rfl⟩
          rw [← hV] at EV q12
          have HV := hide hV
          clear hV
          go_enter Tryz.func122, Tryz.ntmps122
          go_wp2_with fail
          rw [← unhide HV]
          refine ((unhide hcA) V EV).mono ?_
          rintro e w1 ⟨rfl, F1⟩
          have q12' := F1.cell q12
          cases bt with
          | false =>
            have hfin : Hid (ok = false) := hide (not_ok (unhide HP) (fun h => by have := (unhide HBT).2 h.2.2.2.1; cases this))
            go_wp2
            go_ret
            exact ⟨ret_bool (unhide hfin).symm, EV.trans F1⟩
          | true =>
            go_wp2_with fail
            refine ((unhide hcD) w1 (EV.trans F1)).mono ?_
            rintro e w2 ⟨rfl, F2⟩
            have hfin : Hid (ok = bd) := hide (by
              rw [Bool.eq_iff_iff, unhide HP, unhide HBD]
              exact ⟨fun h => h.2.2.2.2, fun h => ⟨by omega, h2, h3, (unhide HBT).1 (by simp), h⟩⟩)
            go_wp2
            go_ret
            exact ⟨ret_bool (unhide hfin).symm, EV.trans (F1.trans F2)⟩
        · have hfin : Hid (ok = false) := hide (not_ok (unhide HP) (fun h => h3 h.2.2.1))
          go_enter Tryz.func122, Tryz.ntmps122
          go_wp2
          go_ret
          exact ⟨ret_bool (unhide hfin).symm, (Ext.refl _).alloc _⟩
      · have hfin : Hid (ok = false) := hide (not_ok (unhide HP) (fun h => h2 h.2.1))
        go_enter Tryz.func122, Tryz.ntmps122
        go_wp2
        go_ret
        exact ⟨ret_bool (unhide hfin).symm, (Ext.refl _).alloc _⟩
    · have hfin : Hid (ok = false) := hide (not_ok (unhide HP) (fun h => h1 (by omega)))
      go_enter Tryz.func122, Tryz.ntmps122
      go_wp2
      go_ret
      exact ⟨ret_bool (unhide hfin).symm, (Ext.refl _).alloc _⟩
end Go.Proofs.YtgdadidppelgdaaGreatDoor

namespace Go.Proofs.YtgdadidppelgdaaGreatDoor
open Go.RowKit

def sizeB (c r : Int) : Bool := decide (2 ≤ c) && decide (c ≤ 200) && decide (1 ≤ r) && decide (r ≤ 100)
theorem sizeB_open {c r : Int} (h : sizeB c r = true) : ∃ cn rn : Nat, c = cn ∧ r = rn ∧ 2 ≤ cn ∧ cn ≤ 200 ∧ 1 ≤ rn ∧ rn ≤ 100 := by
  simp [sizeB] at h
  exact ⟨c.toNat, r.toNat, by omega, by omega, by omega, by omega, by omega, by omega⟩
theorem sizeOk_any (c r : Int) (w : World) : Calls Tryz.prog 69 #[.int .i64 c, .int .i64 r] w fun e w' => e = .returned (.bool (sizeB c r)) ∧ w' = w := by
  go_enter Tryz.func69, Tryz.ntmps69
  go_wp2
  all_goals
    go_ret
    refine ⟨ret_bool ?_, rfl⟩
    unfold sizeB
    rw [Bool.eq_iff_iff]
    simp
    omega
theorem l2SizeOk_any (c r : Int) (w : World) : Calls Tryz.prog 26 #[.int .i64 c, .int .i64 r] w fun e w' => e = .returned (.bool (sizeB c r)) ∧ w' = w := by
  go_enter Tryz.func26, Tryz.ntmps26
  go_wp2
  all_goals
    go_ret
    refine ⟨ret_bool ?_, rfl⟩
    unfold sizeB
    rw [Bool.eq_iff_iff]
    simp
    omega
end Go.Proofs.YtgdadidppelgdaaGreatDoor

namespace Go.Proofs.YtgdadidppelgdaaGreatDoor
open Go.RowKit

/-- What queueOk says. -/
def QueueP (st : Bool) (n : Nat) (tx : Nat → ByteArray) : Prop := if st then n ≤ 20 ∧ ∀ j, j < n → SetP (baL (tx j)) else n = 0
set_option maxRecDepth 10000 in
set_option maxHeartbeats 2000000 in
theorem queueOk_any (pr a b c dr : ByteArray) (cols rows at9 : Int) (u hv pv qv lv dv : Value) (kp nav st : Bool) (n : Nat) (tx : Nat → ByteArray) (w : World) (hqv : Row1At w qv n (fun j => .string (tx j))) (hn : n ≤ 1048576) (hx : ∀ j, j < n → (tx j).size ≤ 1048576) (hT : Tabs3 w) (ok : Bool) (hok : ok = true ↔ QueueP st n tx) :
    Calls Tryz.prog 123 #[.agg #[.string pr, .int .i64 cols, .int .i64 rows, .string a, .string b, .string c, u, hv, .bool kp, .bool nav, pv, .int .i64 at9, .string dr, .bool st, qv, lv, dv]] w fun e w' => e = .returned (.bool ok) ∧ Ext w w' := by
  obtain ⟨bt, hbt⟩ := ex_bool (∀ j, j < n → SetP (baL (tx j)))
  have hcA := hide (fun W (hW : Ext w W) => allOk_set qv n tx W (hqv.ext hW) hn hx (hT.ext hW) bt hbt)
  obtain ⟨ao, ca, rfl, _, _⟩ := hqv
  have HBT := hide hbt
  clear hx hT hbt
  cases st with
  | false =>
    have hP : ok = true ↔ n = 0 := by simpa [QueueP] using hok
    have HP := hide hP
    clear hok hP hcA HBT
    by_cases h1 : n = 0
    · subst h1
      have hfin : Hid (ok = true) := hide ((unhide HP).2 rfl)
      go_enter Tryz.func123, Tryz.ntmps123
      go_wp2
      go_ret
      exact ⟨ret_bool (unhide hfin).symm, (Ext.refl _).alloc _⟩
    · have hfin : Hid (ok = false) := hide (not_ok (unhide HP) h1)
      have h1I : ((n : Int) == 0) = false := by simp; omega
      go_enter Tryz.func123, Tryz.ntmps123
      go_wp2
      go_ret
      exact ⟨ret_bool (unhide hfin).symm, (Ext.refl _).alloc _⟩
  | true =>
    have hP : ok = true ↔ n ≤ 20 ∧ ∀ j, j < n → SetP (baL (tx j)) := by simpa [QueueP] using hok
    have HP := hide hP
    clear hok hP
    by_cases h1 : (n : Int) ≤ 20
    · have EV := (Ext.refl w).alloc (.cells #[.string pr, .int .i64 cols, .int .i64 rows, .string a, .string b, .string c, u, hv, .bool kp, .bool nav, pv, .int .i64 at9, .string dr, .bool true, Value.slice ao n ca, lv, dv] 37)
      go_enter Tryz.func123, Tryz.ntmps123
      go_wp2_with fail
      refine ((unhide hcA) _ EV).mono ?_
      rintro e w1 ⟨rfl, F1⟩
      have hfin : Hid (ok = bt) := hide (by
        rw [Bool.eq_iff_iff, unhide HP, unhide HBT]
        exact ⟨fun h => h.2, fun h => ⟨by omega, h⟩⟩)
      go_wp2
      go_ret
      exact ⟨ret_bool (unhide hfin).symm, EV.trans F1⟩
    · have hfin : Hid (ok = false) := hide (not_ok (unhide HP) (fun h => h1 (by omega)))
      go_enter Tryz.func123, Tryz.ntmps123
      go_wp2
      go_ret
      exact ⟨ret_bool (unhide hfin).symm, (Ext.refl _).alloc _⟩
/-- What SessionOk says. -/
def SesP (s : SS) : Prop := (SetP (baL s.pr) ∧ (cleanL (baL s.pr)).length ≤ 40) ∧ sizeB s.cols s.rows = true ∧ LineP s.la s.lb s.lc s.un s.ut s.uh ∧ s.kh.length ≤ 2000 ∧ WayP s.nav s.pn s.at9 s.pt s.dr ∧ QueueP s.st s.qn s.qt ∧ ∀ j, j < s.ln → Lib.hasSuffix (s.lt j).data.toList [32] = false
theorem slen_at (tx : Nat → ByteArray) : ∀ n j, j < n → (tx j).size ≤ slen tx n
  | 0, _, h => by omega
  | n + 1, j, h => by
    by_cases e : j = n
    · subst e; rw [slen]; omega
    · have := slen_at tx n j (by omega)
      rw [slen]
      omega
theorem tl2_at (tx hf : Nat → ByteArray) : ∀ n j, j < n → (tx j).size ≤ tl2 tx hf n ∧ (hf j).size ≤ tl2 tx hf n
  | 0, _, h => by omega
  | n + 1, j, h => by
    by_cases e : j = n
    · subst e; rw [tl2]; omega
    · have := tl2_at tx hf n j (by omega)
      rw [tl2]
      omega
/-- What the bulk of a session bounds. -/
structure SS.Sz (s : SS) : Prop where
  pr : s.pr.size ≤ 1048576
  la : s.la.size ≤ 1048576
  lb : s.lb.size ≤ 1048576
  lc : s.lc.size ≤ 1048576
  un : s.un ≤ 1048576
  ut : ∀ j, j < s.un → (s.ut j).size ≤ 1048576 ∧ (s.uh j).size ≤ 1048576
  kh : s.kh.length ≤ 1048576
  pn : s.pn ≤ 1048576
  pt : ∀ j, j < s.pn → (s.pt j).size ≤ 1048576
  dr : s.dr.size ≤ 1048576
  qn : s.qn ≤ 1048576
  qt : ∀ j, j < s.qn → (s.qt j).size ≤ 1048576
  ln : s.ln ≤ 1048576
  lt : ∀ j, j < s.ln → (s.lt j).size ≤ 1048576
  dn : s.dn ≤ 1048576
  dt : ∀ j, j < s.dn → (s.dt j).size ≤ 1048576
theorem SS.Sz.of_bulk {s : SS} (h : s.bulk ≤ 1048576) : s.Sz := by
  unfold SS.bulk at h
  constructor
  case ut => intro j hj; have := tl2_at s.ut s.uh s.un j hj; omega
  case pt => intro j hj; have := slen_at s.pt s.pn j hj; omega
  case qt => intro j hj; have := slen_at s.qt s.qn j hj; omega
  case lt => intro j hj; have := slen_at s.lt s.ln j hj; omega
  case dt => intro j hj; have := slen_at s.dt s.dn j hj; omega
  all_goals omega
set_option maxRecDepth 10000 in
set_option maxHeartbeats 4000000 in
theorem implSessionOk_any (s : SS) (u h p q l d : Value) (w : World) (hA : SesAt w s u h p q l d) (hz : s.Sz) (hT : Tabs3 w) (ok : Bool) (hok : ok = true ↔ SesP s) :
    Calls Tryz.prog 99 #[sesV s u h p q l d] w fun e w' => e = .returned (.bool ok) ∧ Ext w w' := by
  obtain ⟨b1, h1⟩ := ex_bool (SetP (baL s.pr) ∧ (cleanL (baL s.pr)).length ≤ 40)
  obtain ⟨b3, h3⟩ := ex_bool (LineP s.la s.lb s.lc s.un s.ut s.uh)
  obtain ⟨b5, h5⟩ := ex_bool (WayP s.nav s.pn s.at9 s.pt s.dr)
  obtain ⟨b6, h6⟩ := ex_bool (QueueP s.st s.qn s.qt)
  obtain ⟨b7, h7⟩ := ex_bool (∃ j, j < s.ln ∧ Lib.hasSuffix (s.lt j).data.toList [32] = true)
  obtain ⟨ua, uc, ha, hc, pa, pc, qa, qc, la, lc, da, dc, rfl, rfl, rfl, rfl, rfl, rfl⟩ := hA.forms
  have hc1 := hide (fun W (hW : Ext w W) => promptOk_any s.pr W hz.pr (hT.ext hW) b1 h1)
  have hc2 := hide (fun W => sizeOk_any s.cols s.rows W)
  have hc3 := hide (fun W (hW : Ext w W) => implLineOk_any s.la s.lb s.lc _ s.un s.ut s.uh W (hA.un.ext hW) hz.la hz.lb hz.lc hz.un hz.ut (hT.ext hW) b3 h3)
  have hc5 := hide (fun W (hW : Ext w W) => wayOk_any s.pr s.la s.lb s.lc s.dr s.cols s.rows s.at9 (.slice ua s.un uc) (.slice ha s.kh.length hc) _ (.slice qa s.qn qc) (.slice la s.ln lc) (.slice da s.dn dc) s.kp s.nav s.st s.pn s.pt W (hA.pa.ext hW) hz.pn hz.pt hz.dr (hT.ext hW) b5 h5)
  have hc6 := hide (fun W (hW : Ext w W) => queueOk_any s.pr s.la s.lb s.lc s.dr s.cols s.rows s.at9 (.slice ua s.un uc) (.slice ha s.kh.length hc) (.slice pa s.pn pc) _ (.slice la s.ln lc) (.slice da s.dn dc) s.kp s.nav s.st s.qn s.qt W (hA.qu.ext hW) hz.qn hz.qt (hT.ext hW) b6 h6)
  have hc7 := hide (fun W (hW : Ext w W) => containsFunc_spc _ s.ln s.lt (fun j => Lib.hasSuffix (s.lt j).data.toList [32]) W (hA.lo.ext hW) (by have := hz.ln; omega) (fun j hj W' _ => endsWithSpace_any (s.lt j) W' (hz.lt j hj)) b7 h7)
  have H1 := hide h1
  have H3 := hide h3
  have H5 := hide h5
  have H6 := hide h6
  have H7 : Hid (b7 = false ↔ ∀ j, j < s.ln → Lib.hasSuffix (s.lt j).data.toList [32] = false) := hide (by
    rw [← Bool.not_eq_true, h7]
    constructor
    · intro h j hj
      rw [← Bool.not_eq_true]
      exact fun e => h ⟨j, hj, e⟩
    · rintro h ⟨j, hj, e⟩
      rw [h j hj] at e
      cases e)
  have HK := hide hok
  have hkl := hz.kh
  clear h1 h3 h5 h6 h7 hok hA hz hT
  obtain ⟨V, hV⟩ : ∃ V, V = w.alloc (.cells #[.string s.pr, .int .i64 s.cols, .int .i64 s.rows, .string s.la, .string s.lb, .string s.lc, .slice ua s.un uc, .slice ha s.kh.length hc, .bool s.kp, .bool s.nav, .slice pa s.pn pc, .int .i64 s.at9, .string s.dr, .bool s.st, .slice qa s.qn qc, .slice la s.ln lc, .slice da s.dn dc] 37) := ⟨_, rfl⟩
  have E0 : Ext w V := by rw [hV]; exact (Ext.refl w).alloc _
  have HB : Hid (V.heap[w.heap.size]? = some (.cells #[.string s.pr, .int .i64 s.cols, .int .i64 s.rows, .string s.la, .string s.lb, .string s.lc, .slice ua s.un uc, .slice ha s.kh.length hc, .bool s.kp, .bool s.nav, .slice pa s.pn pc, .int .i64 s.at9, .string s.dr, .bool s.st, .slice qa s.qn qc, .slice la s.ln lc, .slice da s.dn dc] 37 (0, 0))) := hide (by rw [hV]; exact new_block w _)
  have HV := hide hV
  clear hV
  unfold sesV
  go_enter Tryz.func99, Tryz.ntmps99
  go_wp2_with fail
  rw [← unhide HV]
  clear HV
  refine ((unhide hc1) V E0).mono ?_
  rintro e w1 ⟨rfl, F1⟩
  have E1 := E0.trans F1
  replace HB := hide (F1.kept (unhide HB))
  cases b1 with
  | false =>
    have hfin : Hid (ok = false) := hide (not_ok (unhide HK) (fun h => by have := (unhide H1).2 h.1; cases this))
    go_wp2
    go_ret
    exact ⟨ret_bool (unhide hfin).symm, E1⟩
  | true =>
  have x1 : w1.cell? ⟨w.heap.size, 1, none⟩ = some (.int .i64 s.cols) := cells_of (unhide HB) 1 _ rfl
  have x2 : w1.cell? ⟨w.heap.size, 2, none⟩ = some (.int .i64 s.rows) := cells_of (unhide HB) 2 _ rfl
  go_wp2_with fail
  refine ((unhide hc2) _).mono ?_
  rintro e w2 ⟨rfl, rfl⟩
  clear x1 x2
  cases hsz : sizeB s.cols s.rows with
  | false =>
    have hfin : Hid (ok = false) := hide (not_ok (unhide HK) (fun h => by have := h.2.1; rw [hsz] at this; cases this))
    clear hsz
    go_wp2
    go_ret
    exact ⟨ret_bool (unhide hfin).symm, E1⟩
  | true =>
  have HSZ := hide hsz
  clear hsz
  have x3 : w2.cell? ⟨w.heap.size, 3, none⟩ = some (.string s.la) := cells_of (unhide HB) 3 _ rfl
  have x4 : w2.cell? ⟨w.heap.size, 4, none⟩ = some (.string s.lb) := cells_of (unhide HB) 4 _ rfl
  have x5 : w2.cell? ⟨w.heap.size, 5, none⟩ = some (.string s.lc) := cells_of (unhide HB) 5 _ rfl
  have x6 : w2.cell? ⟨w.heap.size, 6, none⟩ = some (.slice ua s.un uc) := cells_of (unhide HB) 6 _ rfl
  go_wp2_with fail
  refine ((unhide hc3) _ E1).mono ?_
  rintro e w3 ⟨rfl, F3⟩
  have E3 := E1.trans F3
  replace HB := hide (F3.kept (unhide HB))
  clear x3 x4 x5 x6
  cases b3 with
  | false =>
    have hfin : Hid (ok = false) := hide (not_ok (unhide HK) (fun h => by have := (unhide H3).2 h.2.2.1; cases this))
    go_wp2
    go_ret
    exact ⟨ret_bool (unhide hfin).symm, E3⟩
  | true =>
  have x7 : w3.cell? ⟨w.heap.size, 7, none⟩ = some (.slice ha s.kh.length hc) := cells_of (unhide HB) 7 _ rfl
  by_cases h4 : (s.kh.length : Int) ≤ 2000
  case neg =>
    have hfin : Hid (ok = false) := hide (not_ok (unhide HK) (fun h => h4 (by have := h.2.2.2.1; omega)))
    go_wp2
    go_ret
    exact ⟨ret_bool (unhide hfin).symm, E3⟩
  case pos =>
  have z0 : w3.cell? ⟨w.heap.size, 0, none⟩ = some (.string s.pr) := cells_of (unhide HB) 0 _ rfl
  have z1 : w3.cell? ⟨w.heap.size, 1, none⟩ = some (.int .i64 s.cols) := cells_of (unhide HB) 1 _ rfl
  have z2 : w3.cell? ⟨w.heap.size, 2, none⟩ = some (.int .i64 s.rows) := cells_of (unhide HB) 2 _ rfl
  have z3 : w3.cell? ⟨w.heap.size, 3, none⟩ = some (.string s.la) := cells_of (unhide HB) 3 _ rfl
  have z4 : w3.cell? ⟨w.heap.size, 4, none⟩ = some (.string s.lb) := cells_of (unhide HB) 4 _ rfl
  have z5 : w3.cell? ⟨w.heap.size, 5, none⟩ = some (.string s.lc) := cells_of (unhide HB) 5 _ rfl
  have z6 : w3.cell? ⟨w.heap.size, 6, none⟩ = some (.slice ua s.un uc) := cells_of (unhide HB) 6 _ rfl
  have z8 : w3.cell? ⟨w.heap.size, 8, none⟩ = some (.bool s.kp) := cells_of (unhide HB) 8 _ rfl
  have z9 : w3.cell? ⟨w.heap.size, 9, none⟩ = some (.bool s.nav) := cells_of (unhide HB) 9 _ rfl
  have z10 : w3.cell? ⟨w.heap.size, 10, none⟩ = some (.slice pa s.pn pc) := cells_of (unhide HB) 10 _ rfl
  have z11 : w3.cell? ⟨w.heap.size, 11, none⟩ = some (.int .i64 s.at9) := cells_of (unhide HB) 11 _ rfl
  have z12 : w3.cell? ⟨w.heap.size, 12, none⟩ = some (.string s.dr) := cells_of (unhide HB) 12 _ rfl
  have z13 : w3.cell? ⟨w.heap.size, 13, none⟩ = some (.bool s.st) := cells_of (unhide HB) 13 _ rfl
  have z14 : w3.cell? ⟨w.heap.size, 14, none⟩ = some (.slice qa s.qn qc) := cells_of (unhide HB) 14 _ rfl
  have z15 : w3.cell? ⟨w.heap.size, 15, none⟩ = some (.slice la s.ln lc) := cells_of (unhide HB) 15 _ rfl
  have z16 : w3.cell? ⟨w.heap.size, 16, none⟩ = some (.slice da s.dn dc) := cells_of (unhide HB) 16 _ rfl
  go_wp2_with fail
  refine ((unhide hc5) _ E3).mono ?_
  rintro e w5 ⟨rfl, F5⟩
  have E5 := E3.trans F5
  replace HB := hide (F5.kept (unhide HB))
  clear x7 z0 z1 z2 z3 z4 z5 z6 z8 z9 z10 z11 z12 z13 z14 z15 z16
  cases b5 with
  | false =>
    have hfin : Hid (ok = false) := hide (not_ok (unhide HK) (fun h => by have := (unhide H5).2 h.2.2.2.2.1; cases this))
    go_wp2
    go_ret
    exact ⟨ret_bool (unhide hfin).symm, E5⟩
  | true =>
  have y0 : w5.cell? ⟨w.heap.size, 0, none⟩ = some (.string s.pr) := cells_of (unhide HB) 0 _ rfl
  have y1 : w5.cell? ⟨w.heap.size, 1, none⟩ = some (.int .i64 s.cols) := cells_of (unhide HB) 1 _ rfl
  have y2 : w5.cell? ⟨w.heap.size, 2, none⟩ = some (.int .i64 s.rows) := cells_of (unhide HB) 2 _ rfl
  have y3 : w5.cell? ⟨w.heap.size, 3, none⟩ = some (.string s.la) := cells_of (unhide HB) 3 _ rfl
  have y4 : w5.cell? ⟨w.heap.size, 4, none⟩ = some (.string s.lb) := cells_of (unhide HB) 4 _ rfl
  have y5 : w5.cell? ⟨w.heap.size, 5, none⟩ = some (.string s.lc) := cells_of (unhide HB) 5 _ rfl
  have y6 : w5.cell? ⟨w.heap.size, 6, none⟩ = some (.slice ua s.un uc) := cells_of (unhide HB) 6 _ rfl
  have y7 : w5.cell? ⟨w.heap.size, 7, none⟩ = some (.slice ha s.kh.length hc) := cells_of (unhide HB) 7 _ rfl
  have y8 : w5.cell? ⟨w.heap.size, 8, none⟩ = some (.bool s.kp) := cells_of (unhide HB) 8 _ rfl
  have y9 : w5.cell? ⟨w.heap.size, 9, none⟩ = some (.bool s.nav) := cells_of (unhide HB) 9 _ rfl
  have y10 : w5.cell? ⟨w.heap.size, 10, none⟩ = some (.slice pa s.pn pc) := cells_of (unhide HB) 10 _ rfl
  have y11 : w5.cell? ⟨w.heap.size, 11, none⟩ = some (.int .i64 s.at9) := cells_of (unhide HB) 11 _ rfl
  have y12 : w5.cell? ⟨w.heap.size, 12, none⟩ = some (.string s.dr) := cells_of (unhide HB) 12 _ rfl
  have y13 : w5.cell? ⟨w.heap.size, 13, none⟩ = some (.bool s.st) := cells_of (unhide HB) 13 _ rfl
  have y14 : w5.cell? ⟨w.heap.size, 14, none⟩ = some (.slice qa s.qn qc) := cells_of (unhide HB) 14 _ rfl
  have y15 : w5.cell? ⟨w.heap.size, 15, none⟩ = some (.slice la s.ln lc) := cells_of (unhide HB) 15 _ rfl
  have y16 : w5.cell? ⟨w.heap.size, 16, none⟩ = some (.slice da s.dn dc) := cells_of (unhide HB) 16 _ rfl
  go_wp2_with fail
  refine ((unhide hc6) _ E5).mono ?_
  rintro e w6 ⟨rfl, F6⟩
  have E6 := E5.trans F6
  replace HB := hide (F6.kept (unhide HB))
  clear y0 y1 y2 y3 y4 y5 y6 y7 y8 y9 y10 y11 y12 y13 y14 y15 y16
  cases b6 with
  | false =>
    have hfin : Hid (ok = false) := hide (not_ok (unhide HK) (fun h => by have := (unhide H6).2 h.2.2.2.2.2.1; cases this))
    go_wp2
    go_ret
    exact ⟨ret_bool (unhide hfin).symm, E6⟩
  | true =>
  have x15 : w6.cell? ⟨w.heap.size, 15, none⟩ = some (.slice la s.ln lc) := cells_of (unhide HB) 15 _ rfl
  go_wp2_with fail
  refine ((unhide hc7) _ E6).mono ?_
  rintro e w7 ⟨rfl, F7⟩
  have hfin : Hid (ok = !b7) := hide (by
    rw [Bool.eq_iff_iff, unhide HK]
    have k7 := unhide H7
    constructor
    · intro h
      rw [k7.2 h.2.2.2.2.2.2]
      rfl
    · intro h
      exact ⟨(unhide H1).1 (by simp), unhide HSZ, (unhide H3).1 (by simp), by omega, (unhide H5).1 (by simp), (unhide H6).1 (by simp), k7.1 (by simpa using h)⟩)
  go_wp2
  go_ret
  exact ⟨ret_bool (unhide hfin).symm, E6.trans F7⟩
end Go.Proofs.YtgdadidppelgdaaGreatDoor
