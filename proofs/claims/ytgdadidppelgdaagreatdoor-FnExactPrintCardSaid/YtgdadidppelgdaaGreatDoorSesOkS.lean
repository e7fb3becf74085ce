import Derived.Test.YtgdadidppelgdaaGreatDoorSesOkI
import Derived.Test.YtgdadidppelgdaaGreatDoorLineS2
import Derived.Test.YtgdadidppelgdaaGreatDoorTrim
namespace Go.Proofs.YtgdadidppelgdaaGreatDoor
open Go.RowKit

set_option maxRecDepth 10000 in
set_option maxHeartbeats 1000000 in
theorem l4TextOk_40 (bs : List Int) (hb : Bytes bs) (w : World) (hl : bs.length ≤ 4194304) (ok : Bool) (hok : ok = true ↔ (bs.length ≤ 160 ∧ (cleanL bs).length ≤ 40 ∧ settleL bs = bs)) :
    Calls Tryz.prog 55 #[.string (toBA bs), .int .i64 40] w fun e w' => e = .returned (.bool ok) ∧ Ext w w' := by
  have hsz := toBA_size bs
  have HOK := hide hok
  clear hok
  by_cases h1 : bs.length ≤ 160
  · have h1I : (bs.length : Int) ≤ 160 := by omega
    go_enter Tryz.func55, Tryz.ntmps55
    go_wp2_with fail
    refine (l4Count_any bs hb w (by omega)).mono ?_
    rintro e w1 ⟨rfl, F1⟩
    by_cases h2 : (cleanL bs).length ≤ 40
    · have h2I : ((cleanL bs).length : Int) ≤ 40 := by omega
      go_wp2_with fail
      refine (specSettle_any bs hb w1 (by omega)).mono ?_
      rintro e w2 ⟨rfl, F2⟩
      by_cases h3 : settleL bs = bs
      · have ht : ok = true := (unhide HOK).2 ⟨h1, h2, h3⟩
        subst ht
        rw [h3]
        go_wp2
        go_ret
        exact ⟨rfl, F1.trans F2⟩
      · have hf : ok = false := not_ok (unhide HOK) (fun h => h3 h.2.2)
        subst hf
        have hneb := toBA_ne (settleL_bytes bs) hb h3
        go_wp2
        go_ret
        exact ⟨rfl, F1.trans F2⟩
    · have h2I : ¬ ((cleanL bs).length : Int) ≤ 40 := by omega
      have hf : ok = false := not_ok (unhide HOK) (fun h => h2 h.2.1)
      subst hf
      go_wp2
      go_ret
      exact ⟨rfl, F1⟩
  · have h1I : ¬ (bs.length : Int) ≤ 160 := by omega
    have hf : ok = false := not_ok (unhide HOK) (fun h => h1 h.1)
    subst hf
    go_enter Tryz.func55, Tryz.ntmps55
    go_wp2
    go_ret
    exact ⟨rfl, Ext.refl _⟩
theorem l4TextOk_pr (a : ByteArray) (w : World) (hla : a.size ≤ 1048576) (ok : Bool) (hok : ok = true ↔ SetP (baL a) ∧ (cleanL (baL a)).length ≤ 40) :
    Calls Tryz.prog 55 #[.string a, .int .i64 40] w fun e w' => e = .returned (.bool ok) ∧ Ext w w' := by
  have h := l4TextOk_40 (baL a) (baL_bytes a) w (by rw [baL_len]; omega) ok (by
    rw [hok]
    unfold SetP
    constructor
    · rintro ⟨h1, h2⟩
      have := settled_short _ h1
      exact ⟨by omega, h2, h1⟩
    · rintro ⟨_, h1, h2⟩
      exact ⟨h2, h1⟩)
  rwa [toBA_baL] at h
theorem textP_nil : TextP (baL { data := #[] }) := by
  have h : baL { data := #[] } = [] := rfl
  rw [h]
  exact ⟨by decide +kernel, by decide +kernel⟩
/-- The way through the history, as the specification says it. -/
theorem wayP_iff (nav : Bool) (n : Nat) (at9 : Int) (tx : Nat → ByteArray) (dr : ByteArray) :
    WayP nav n at9 tx dr ↔ n ≤ 100 ∧ 0 ≤ at9 ∧ at9 ≤ (n : Int) ∧ TextP (baL dr) ∧ (∀ j, j < n → TextP (baL (tx j))) ∧ (nav = true ∨ (n = 0 ∧ at9 = 0 ∧ dr = { data := #[] })) := by
  unfold WayP
  cases nav with
  | true => simp only [if_true, true_or, and_true]; constructor <;> (rintro ⟨a, b, c, d, e⟩; exact ⟨a, b, c, e, d⟩)
  | false =>
    simp only [Bool.false_eq_true, if_false, false_or]
    constructor
    · rintro ⟨rfl, rfl, rfl⟩
      exact ⟨by omega, by omega, by omega, textP_nil, fun j hj => by omega, rfl, rfl, rfl⟩
    · rintro ⟨_, _, _, _, _, h⟩
      exact h
set_option maxRecDepth 10000 in
set_option maxHeartbeats 4000000 in
theorem l7NavOk_any (s : SS) (u h p q l d : Value) (w : World) (hA : SesAt w s u h p q l d) (hz : s.Sz) (ok : Bool) (hok : ok = true ↔ WayP s.nav s.pn s.at9 s.pt s.dr) :
    Calls Tryz.prog 57 #[sesV s u h p q l d] w fun e w' => e = .returned (.bool ok) ∧ Ext w w' := by
  rw [wayP_iff] at hok
  obtain ⟨ua, uc, ha, hc, pa, pc, qa, qc, la, lc, da, dc, rfl, rfl, rfl, rfl, rfl, rfl⟩ := hA.forms
  obtain ⟨bd, hbd⟩ := ex_bool (TextP (baL s.dr))
  have hcD := hide (fun W => l4TextOk_ba s.dr W hz.dr bd hbd)
  have HBD := hide hbd
  have HK := hide hok
  have HP : Hid (∀ j, j < s.pn → ∃ g off, pa = some ⟨g, off, none⟩ ∧ w.cell? ⟨g, off + j, none⟩ = some (.string (s.pt j))) := hide (by
    obtain ⟨ao, ca, e, _, hx⟩ := hA.pa
    simp only [Value.slice.injEq] at e
    obtain ⟨rfl, _, rfl⟩ := e
    intro j hj
    obtain ⟨g, off, e, hcc⟩ := hx (by omega)
    exact ⟨g, off, e, hcc j hj⟩)
  have HZ := hide hz
  have hpn := hz.pn
  clear hok hbd hA hz
  obtain ⟨V, hV⟩ : ∃ V, V = w.alloc (.cells #[.string s.pr, .int .i64 s.cols, .int .i64 s.rows, .string s.la, .string s.lb, .string s.lc, .slice ua s.un uc, .slice ha s.kh.length hc, .bool s.kp, .bool s.nav, .slice pa s.pn pc, .int .i64 s.at9, .string s.dr, .bool s.st, .slice qa s.qn qc, .slice la s.ln lc, .slice da s.dn dc] 37) := ⟨_, rfl⟩
  have E0 : Ext w V := by rw [hV]; exact (Ext.refl w).alloc _
  have HB : Hid (V.heap[w.heap.size]? = some (.cells #[.string s.pr, .int .i64 s.cols, .int .i64 s.rows, .string s.la, .string s.lb, .string s.lc, .slice ua s.un uc, .slice ha s.kh.length hc, .bool s.kp, .bool s.nav, .slice pa s.pn pc, .int .i64 s.at9, .string s.dr, .bool s.st, .slice qa s.qn qc, .slice la s.ln lc, .slice da s.dn dc] 37 (0, 0))) := hide (by rw [hV]; exact new_block w _)
  have HV := hide hV
  clear hV
  unfold sesV
  by_cases h1 : (s.pn : Int) ≤ 100
  case neg =>
    have hfin : Hid (ok = false) := hide (not_ok (unhide HK) (fun h => h1 (by have := h.1; omega)))
    go_enter Tryz.func57, Tryz.ntmps57
    go_wp2
    go_ret
    exact ⟨ret_bool (unhide hfin).symm, (Ext.refl _).alloc _⟩
  by_cases h2 : 0 ≤ s.at9
  case neg =>
    have hfin : Hid (ok = false) := hide (not_ok (unhide HK) (fun h => h2 h.2.1))
    go_enter Tryz.func57, Tryz.ntmps57
    go_wp2
    go_ret
    exact ⟨ret_bool (unhide hfin).symm, (Ext.refl _).alloc _⟩
  by_cases h3 : s.at9 ≤ (s.pn : Int)
  case neg =>
    have hfin : Hid (ok = false) := hide (not_ok (unhide HK) (fun h => h3 h.2.2.1))
    go_enter Tryz.func57, Tryz.ntmps57
    go_wp2
    go_ret
    exact ⟨ret_bool (unhide hfin).symm, (Ext.refl _).alloc _⟩
  go_enter Tryz.func57, Tryz.ntmps57
  go_wp2_with fail
  rw [← unhide HV]
  clear HV
  refine ((unhide hcD) V).mono ?_
  rintro e w1 ⟨rfl, F1⟩
  have E1 := E0.trans F1
  replace HB := hide (F1.kept (unhide HB))
  cases bd with
  | false =>
    have hfin : Hid (ok = false) := hide (not_ok (unhide HK) (fun h => by have := (unhide HBD).2 h.2.2.2.1; cases this))
    go_wp2
    go_ret
    exact ⟨ret_bool (unhide hfin).symm, E1⟩
  | true =>
  go_wp2
  go_loopw [3] (fun i wr => ∃ k : Nat, k ≤ s.pn ∧ i = .int .i64 k ∧ Hid (∀ j, j < k → TextP (baL (s.pt j))) ∧ Ext w1 wr) (fun i _ => s.pn - (intOf i).toNat)
  case atStart => exact ⟨0, Nat.zero_le _, rfl, hide (fun j hj => by omega), Ext.refl _⟩
  case round =>
    obtain ⟨k, hk, rfl, HJ, hext⟩ := hrel
    have hB := hext.kept (unhide HB)
    have c10 : wr.cell? ⟨w.heap.size, 10, none⟩ = some (.slice pa s.pn pc) := cells_of hB 10 _ rfl
    have c11 : wr.cell? ⟨w.heap.size, 11, none⟩ = some (.int .i64 s.at9) := cells_of hB 11 _ rfl
    have c12 : wr.cell? ⟨w.heap.size, 12, none⟩ = some (.string s.dr) := cells_of hB 12 _ rfl
    have c9 : wr.cell? ⟨w.heap.size, 9, none⟩ = some (.bool s.nav) := cells_of hB 9 _ rfl
    clear hB
    by_cases hlt : k < s.pn
    · obtain ⟨g, off, hpa, hg⟩ := (unhide HP) k hlt
      subst hpa
      have g1 := hext.cell ((E0.trans F1).cell hg)
      have bk : (k : Int) < (s.pn : Int) := by omega
      obtain ⟨bt, hbt⟩ := ex_bool (TextP (baL (s.pt k)))
      have hcT := hide (fun W => l4TextOk_ba (s.pt k) W ((unhide HZ).pt k hlt) bt hbt)
      have HBT := hide hbt
      clear hg hbt
      go_wp2_with fail
      refine ((unhide hcT) _).mono ?_
      rintro e w2 ⟨rfl, F2⟩
      cases bt with
      | false =>
        have hfin : Hid (ok = false) := hide (not_ok (unhide HK) (fun h => by have := (unhide HBT).2 (h.2.2.2.2.1 k hlt); cases this))
        go_wp2
        go_ret
        exact ⟨ret_bool (unhide hfin).symm, E1.trans (hext.trans F2)⟩
      | true =>
        have HJ2 : Hid (∀ j, j < k + 1 → TextP (baL (s.pt j))) := hide (fun j hj => by
          by_cases e : j = k
          · subst e; exact (unhide HBT).1 rfl
          · exact (unhide HJ) j (by omega))
        go_wp2
        go_roundw
        case rel => exact ⟨k + 1, by omega, by go_num, HJ2, hext.trans F2⟩
        case measure => simp [intOf]; omega
    · obtain rfl : k = s.pn := by omega
      have hall : Hid (ok = true ↔ (s.nav = true ∨ (s.pn = 0 ∧ s.at9 = 0 ∧ s.dr = { data := #[] }))) := hide (by
        rw [unhide HK]
        exact ⟨fun h => h.2.2.2.2.2, fun h => ⟨by omega, h2, h3, (unhide HBD).1 (by simp), unhide HJ, h⟩⟩)
      have hE := E1.trans hext
      clear HK HJ HP HZ
      cases hnv : s.nav with
      | true =>
        have hfin : Hid (ok = true) := hide ((unhide hall).2 (.inl hnv))
        rw [hnv] at c9
        clear hnv
        go_wp2
        go_ret
        exact ⟨ret_bool (unhide hfin).symm, hE⟩
      | false =>
        have hall2 : Hid (ok = true ↔ (s.pn = 0 ∧ s.at9 = 0 ∧ s.dr = { data := #[] })) := hide (by rw [unhide hall, hnv]; simp)
        rw [hnv] at c9
        clear hnv hall
        by_cases n1 : (s.pn : Int) = 0
        · by_cases n2 : s.at9 = 0
          · by_cases n3 : s.dr = { data := #[] }
            · have hfin : Hid (ok = true) := hide ((unhide hall2).2 ⟨by omega, n2, n3⟩)
              rw [n3] at c12
              go_wp2
              go_ret
              exact ⟨ret_bool (unhide hfin).symm, hE⟩
            · have hne : s.dr.toList.isEmpty = false := by
                rw [toList_data]
                cases e : s.dr.data.toList with
                | nil => exact absurd (WideShapes.bytes_inj e) n3
                | cons _ _ => rfl
              have hfin : Hid (ok = false) := hide (not_ok (unhide hall2) (fun h => n3 h.2.2))
              clear n3
              go_wp2
              go_ret
              exact ⟨ret_bool (unhide hfin).symm, hE⟩
          · exact absurd (by omega) n2
        · have hfin : Hid (ok = false) := hide (not_ok (unhide hall2) (fun h => n1 (by omega)))
          go_wp2
          go_ret
          exact ⟨ret_bool (unhide hfin).symm, hE⟩
end Go.Proofs.YtgdadidppelgdaaGreatDoor
