import Derived.Test.YtjfnieodpdklfaaGreatDoorTrim
namespace Go.Proofs.YtjfnieodpdklfaaGreatDoor
open Go.RowKit

/-- What wayOk says. -/
def WayP (nav : Bool) (n : Nat) (at9 : Int) (tx : Nat → ByteArray) (dr : ByteArray) : Prop :=
  if nav then n ≤ 100 ∧ 0 ≤ at9 ∧ at9 ≤ (n : Int) ∧ (∀ j, j < n → TextP (baL (tx j))) ∧ TextP (baL dr) else n = 0 ∧ at9 = 0 ∧ dr = { data := #[] }
set_option maxRecDepth 10000 in
set_option maxHeartbeats 2000000 in
theorem wayOk_any (pr a b c dr : ByteArray) (cols rows at9 : Int) (u hv pv qv lv dv : Value) (kp nav st : Bool) (n : Nat) (tx : Nat → ByteArray) (w : World) (hpv : Row1At w pv n (fun j => .string (tx j))) (hn : n ≤ 1048576) (hx : ∀ j, j < n → (tx j).size ≤ 1048576) (hd : dr.size ≤ 1048576) (hT : Tabs3 w) (ok : Bool) (hok : ok = true ↔ WayP nav n at9 tx dr) :
    Calls Tryz.prog 56 #[.agg #[.string pr, .int .i64 cols, .int .i64 rows, .string a, .string b, .string c, u, hv, .bool kp, .bool nav, pv, .int .i64 at9, .string dr, .bool st, qv, lv, dv]] w fun e w' => e = .returned (.bool ok) ∧ Ext w w' := by
  obtain ⟨bt, hbt⟩ := ex_bool (∀ j, j < n → TextP (baL (tx j)))
  obtain ⟨bd, hbd⟩ := ex_bool (TextP (baL dr))
  have hcA := hide (fun W (hW : Ext w W) => allOk_text pv n tx W (hpv.ext hW) hn hx (hT.ext hW) bt hbt)
  have hcD := hide (fun W (hW : Ext w W) => textOk_ba dr W hd (hT.ext hW) bd hbd)
  obtain ⟨ao, ca, rfl, _, _⟩ := hpv
  have HBT := hide hbt
  have HBD := hide hbd
  clear hx hT hbt hbd
  cases nav with
  | false =>
    have hP : ok = true ↔ n = 0 ∧ at9 = 0 ∧ dr = { data := #[] } := by simpa [WayP] using hok
    have HP := hide hP
    clear hok hP hcA hcD HBT HBD
    by_cases h1 : n = 0
    · subst h1
      by_cases h2 : at9 = 0
      · subst h2
        by_cases h3 : dr = { data := #[] }
        · subst h3
          have hfin : Hid (ok = true) := hide ((unhide HP).2 ⟨rfl, rfl, rfl⟩)
          go_enter Tryz.func56, Tryz.ntmps56
          go_wp2
          go_ret
          exact ⟨ret_bool (unhide hfin).symm, (Ext.refl _).alloc _⟩
        · have hne : dr.toList.isEmpty = false := by
            rw [toList_data]
            cases e : dr.data.toList with
            | nil => exact absurd (WideShapes.bytes_inj e) h3
            | cons _ _ => rfl
          have hfin : Hid (ok = false) := hide (not_ok (unhide HP) (fun h => h3 h.2.2))
          clear h3
          go_enter Tryz.func56, Tryz.ntmps56
          go_wp2
          go_ret
          exact ⟨ret_bool (unhide hfin).symm, (Ext.refl _).alloc _⟩
      · have hfin : Hid (ok = false) := hide (not_ok (unhide HP) (fun h => h2 h.2.1))
        go_enter Tryz.func56, Tryz.ntmps56
        go_wp2
        go_ret
        exact ⟨ret_bool (unhide hfin).symm, (Ext.refl _).alloc _⟩
    · have hfin : Hid (ok = false) := hide (not_ok (unhide HP) (fun h => h1 h.1))
      have h1I : ¬ (n : Int) = 0 := by omega
      go_enter Tryz.func56, Tryz.ntmps56
      go_wp2
      go_ret
      exact ⟨ret_bool (unhide hfin).symm, (Ext.refl _).alloc _⟩
  | true =>
    have hP : ok = true ↔ n ≤ 100 ∧ 0 ≤ at9 ∧ at9 ≤ (n : Int) ∧ (∀ j, j < n → TextP (baL (tx j))) ∧ TextP (baL dr) := by simpa [WayP] using hok
    have HP := hide hP
    clear hok hP
    by_cases h1 : (n : Int) ≤ 100
    · by_cases h2 : 0 ≤ at9
      · by_cases h3 : at9 ≤ (n : Int)
        · have q12 : ∀ o, (w.alloc (.cells #[.string pr, .int .i64 cols, .int .i64 rows, .string a, .string b, .string c, u, hv, .bool kp, .bool true, Value.slice ao n ca, .int .i64 at9, .string dr, .bool st, qv, lv, dv] o)).cell? ⟨w.heap.size, 12, none⟩ = some (.string dr) := fun o => cells_of (new_block w _) 12 _ rfl
          have EV := (Ext.refl w).alloc (.cells #[.string pr, .int .i64 cols, .int .i64 rows, .string a, .string b, .string c, u, hv, .bool kp, .bool true, Value.slice ao n ca, .int .i64 at9, .string dr, .bool st, qv, lv, dv] 30)
          have q12 := q12 30
          obtain ⟨V, hV⟩ : ∃ V, V = w.alloc (.cells #[.string pr, .int .i64 cols, .int .i64 rows, .string a, .string b, .string c, u, hv, .bool kp, .bool true, Value.slice ao n ca, .int .i64 at9, .string dr, .bool st, qv, lv, dv] 30) := ⟨_, rfl⟩
          rw [← hV] at EV q12
          have HV := hide hV
          clear hV
          go_enter Tryz.func56, Tryz.ntmps56
          go_wp2_with fail
          rw [← unhide HV]
          refine ((unhide hcA) V EV).mono ?_
          rintro e w1 ⟨rfl, F1⟩
          have q12' := F1.cell q12
          cases bt with
          | false =>
            have hfin : Hid (ok = false) := hide (not_ok (unhide HP) (fun h => by have := (unhide HBT).2 h.2.2.2.1; cases this))
            go_wp2
            go_ret
            exact ⟨ret_bool (unhide hfin).symm, EV.trans F1⟩
          | true =>
            go_wp2_with fail
            refine ((unhide hcD) w1 (EV.trans F1)).mono ?_
            rintro e w2 ⟨rfl, F2⟩
            have hfin : Hid (ok = bd) := hide (by
              rw [Bool.eq_iff_iff, unhide HP, unhide HBD]
              exact ⟨fun h => h.2.2.2.2, fun h => ⟨by omega, h2, h3, (unhide HBT).1 (by simp), h⟩⟩)
            go_wp2
            go_ret
            exact ⟨ret_bool (unhide hfin).symm, EV.trans (F1.trans F2)⟩
        · have hfin : Hid (ok = false) := hide (not_ok (unhide HP) (fun h => h3 h.2.2.1))
          go_enter Tryz.func56, Tryz.ntmps56
          go_wp2
          go_ret
          exact ⟨ret_bool (unhide hfin).symm, (Ext.refl _).alloc _⟩
      · have hfin : Hid (ok = false) := hide (not_ok (unhide HP) (fun h => h2 h.2.1))
        go_enter Tryz.func56, Tryz.ntmps56
        go_wp2
        go_ret
        exact ⟨ret_bool (unhide hfin).symm, (Ext.refl _).alloc _⟩
    · have hfin : Hid (ok = false) := hide (not_ok (unhide HP) (fun h => h1 (by omega)))
      go_enter Tryz.func56, Tryz.ntmps56
      go_wp2
      go_ret
      exact ⟨ret_bool (unhide hfin).symm, (Ext.refl _).alloc _⟩
end Go.Proofs.YtjfnieodpdklfaaGreatDoor
