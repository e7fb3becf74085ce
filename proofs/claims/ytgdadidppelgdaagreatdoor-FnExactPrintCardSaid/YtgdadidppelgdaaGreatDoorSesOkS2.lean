import Derived.Test.YtgdadidppelgdaaGreatDoorSesOkS
import Derived.Test.YtgdadidppelgdaaGreatDoorWhole
import Derived.Deep.RegionHeldLaw
import Derived.Deep.DeepCutAuto
namespace Go.Proofs.YtgdadidppelgdaaGreatDoor
open Go.RowKit

theorem infoSes9 : (Tryz.prog.info? 37).map (·.size) = some 17 := by kernel_rfl
theorem queueP_iff (st : Bool) (n : Nat) (tx : Nat → ByteArray) : QueueP st n tx ↔ n ≤ 20 ∧ (st = true ∨ n = 0) ∧ ∀ j, j < n → SetP (baL (tx j)) := by
  unfold QueueP
  cases st with
  | true => simp
  | false =>
    simp only [Bool.false_eq_true, if_false, false_or]
    constructor
    · rintro rfl
      exact ⟨by omega, rfl, fun j hj => by omega⟩
    · rintro ⟨_, h, _⟩
      exact h
theorem ba_ne {a b : ByteArray} (h : a ≠ b) : (a.toList == b.toList) = false := by
  rw [← Bool.not_eq_true, beq_iff_eq, toList_data, toList_data]
  exact fun e => h (WideShapes.bytes_inj e)
theorem settle_ba (T : ByteArray) (w : World) (h : T.size ≤ 1048576) : Calls Tryz.prog 58 #[.string T] w fun e w' => e = .returned (.string (toBA (settleL (baL T)))) ∧ Ext w w' := by
  have hh := specSettle_any (baL T) (baL_bytes T) w (by rw [baL_len]; omega)
  rwa [toBA_baL] at hh
theorem setP_ba {T : ByteArray} (h : SetP (baL T)) : toBA (settleL (baL T)) = T := by
  have : settleL (baL T) = baL T := h
  rw [this, toBA_baL]
theorem setP_ne {T : ByteArray} (h : ¬ SetP (baL T)) : ((toBA (settleL (baL T))).toList == T.toList) = false := by
  have hh := toBA_ne (settleL_bytes (baL T)) (baL_bytes T) h
  rwa [toBA_baL] at hh
theorem trim_ne {T : ByteArray} (h : ¬ Lib.hasSuffix T.data.toList [32] = false) : ((T.extract 0 (trimK T T.size)).toList == T.toList) = false := ba_ne (fun e => h ((trim_same T).1 e))
set_option maxRecDepth 10000 in
set_option maxHeartbeats 16000000 in
theorem specSessionOk_any (s : SS) (u h p q l d : Value) (w : World) (hA : SesAt w s u h p q l d) (hz : s.Sz) (ok : Bool) (hok : ok = true ↔ SesP s) :
    Calls Tryz.prog 25 #[sesV s u h p q l d] w fun e w' => e = .returned (.bool ok) ∧ Ext w w' := by
  obtain ⟨b1, h1⟩ := ex_bool (SetP (baL s.pr) ∧ (cleanL (baL s.pr)).length ≤ 40)
  obtain ⟨b3, h3⟩ := ex_bool (LineP s.la s.lb s.lc s.un s.ut s.uh)
  obtain ⟨b5, h5⟩ := ex_bool (WayP s.nav s.pn s.at9 s.pt s.dr)
  obtain ⟨ua, uc, ha, hc, pa, pc, qa, qc, la, lc, da, dc, rfl, rfl, rfl, rfl, rfl, rfl⟩ := hA.forms
  have hc1 := hide (fun W => l4TextOk_pr s.pr W hz.pr b1 h1)
  have hc2 := hide (fun W => l2SizeOk_any s.cols s.rows W)
  have hc3 := hide (fun W (hW : Ext w W) => specLineOk_all s.la s.lb s.lc ua s.un uc s.ut s.uh W (hA.un.ext hW) hz.la hz.lb hz.lc hz.ut b3 h3)
  have hc5 := hide (fun W (hW : Ext w W) => l7NavOk_any s _ _ _ _ _ _ W (hA.ext hW) hz b5 h5)
  have HQ : Hid (∀ j, j < s.qn → ∃ g off, qa = some ⟨g, off, none⟩ ∧ w.cell? ⟨g, off + j, none⟩ = some (.string (s.qt j))) := hide (by
    obtain ⟨ao, ca, e, _, hx⟩ := hA.qu
    simp only [Value.slice.injEq] at e
    obtain ⟨rfl, _, rfl⟩ := e
    intro j hj
    obtain ⟨g, off, e, hcc⟩ := hx (by omega)
    exact ⟨g, off, e, hcc j hj⟩)
  have HL : Hid (∀ j, j < s.ln → ∃ g off, la = some ⟨g, off, none⟩ ∧ w.cell? ⟨g, off + j, none⟩ = some (.string (s.lt j))) := hide (by
    obtain ⟨ao, ca, e, _, hx⟩ := hA.lo
    simp only [Value.slice.injEq] at e
    obtain ⟨rfl, _, rfl⟩ := e
    intro j hj
    obtain ⟨g, off, e, hcc⟩ := hx (by omega)
    exact ⟨g, off, e, hcc j hj⟩)
  have H1 := hide h1
  have H3 := hide h3
  have H5 := hide h5
  have HK := hide hok
  have HZ := hide hz
  have hkl := hz.kh
  have hqn := hz.qn
  have hln := hz.ln
  clear h1 h3 h5 hok hA hz
  obtain ⟨V, hV⟩ : ∃ V, V = w.alloc (.cells #[.string s.pr, .int .i64 s.cols, .int .i64 s.rows, .string s.la, .string s.lb, .string s.lc, .slice ua s.un uc, .slice ha s.kh.length hc, .bool s.kp, .bool s.nav, .slice pa s.pn pc, .int .i64 s.at9, .string s.dr, .bool s.st, .slice qa s.qn qc, .slice la s.ln lc, .slice da s.dn dc] 37) := ⟨_, rfl⟩
  have E0 : Ext w V := by rw [hV]; exact (Ext.refl w).alloc _
  have HB : Hid (V.heap[w.heap.size]? = some (.cells #[.string s.pr, .int .i64 s.cols, .int .i64 s.rows, .string s.la, .string s.lb, .string s.lc, .slice ua s.un uc, .slice ha s.kh.length hc, .bool s.kp, .bool s.nav, .slice pa s.pn pc, .int .i64 s.at9, .string s.dr, .bool s.st, .slice qa s.qn qc, .slice la s.ln lc, .slice da s.dn dc] 37 (0, 0))) := hide (by rw [hV]; exact new_block w _)
  have HV := hide hV
  clear hV
  unfold sesV
  go_enter Tryz.func25, Tryz.ntmps25
  go_upto_region 0 with fail
  go_cut [0, 1, 2] (fun _ p b wq => p = .pointer (some ⟨w.heap.size, 0, none⟩) ∧ b = .bool false ∧ wq = V)
  case first =>
    go_wp2
    go_meet
    exact ⟨rfl, rfl, (unhide HV).symm⟩
  case rest =>
  obtain ⟨rfl, rfl, hwc⟩ := hcut
  obtain rfl : V = wc := hwc.symm
  clear HV
  obtain ⟨bp, hbp⟩ := ex_bool ((SetP (baL s.pr) ∧ (cleanL (baL s.pr)).length ≤ 40) ∧ sizeB s.cols s.rows = true ∧ LineP s.la s.lb s.lc s.un s.ut s.uh ∧ s.kh.length ≤ 2000)
  have HBP := hide hbp
  clear hbp
  go_upto_region 1 with fail
  go_cut [29] (fun b wq => b = .bool (!bp) ∧ Ext V wq)
  case first =>
    clear HQ HL HK H5 hc5
    have x0 : V.cell? ⟨w.heap.size, 0, none⟩ = some (.string s.pr) := cells_of (unhide HB) 0 _ rfl
    go_wp2_with fail
    clear x0
    refine ((unhide hc1) V).mono ?_
    rintro e w1 ⟨rfl, F1⟩
    have E1 := E0.trans F1
    replace HB := hide (F1.kept (unhide HB))
    cases b1 with
    | false =>
      have hfin : Hid (bp = false) := hide (not_ok (unhide HBP) (fun h => by have := (unhide H1).2 h.1; cases this))
      go_wp2
      go_meet
      exact ⟨by rw [unhide hfin]; first | rfl | (simp; omega) | simp, F1⟩
    | true =>
    have x1 : w1.cell? ⟨w.heap.size, 1, none⟩ = some (.int .i64 s.cols) := cells_of (unhide HB) 1 _ rfl
    have x2 : w1.cell? ⟨w.heap.size, 2, none⟩ = some (.int .i64 s.rows) := cells_of (unhide HB) 2 _ rfl
    go_wp2_with fail
    refine ((unhide hc2) _).mono ?_
    rintro e w2 ⟨rfl, rfl⟩
    clear x1 x2
    cases hsz : sizeB s.cols s.rows with
    | false =>
      have hfin : Hid (bp = false) := hide (not_ok (unhide HBP) (fun h => by have := h.2.1; rw [hsz] at this; cases this))
      clear hsz
      go_wp2
      go_meet
      exact ⟨by rw [unhide hfin]; first | rfl | (simp; omega) | simp, F1⟩
    | true =>
    have HSZ := hide hsz
    clear hsz
    have x3 : w2.cell? ⟨w.heap.size, 3, none⟩ = some (.string s.la) := cells_of (unhide HB) 3 _ rfl
    have x4 : w2.cell? ⟨w.heap.size, 4, none⟩ = some (.string s.lb) := cells_of (unhide HB) 4 _ rfl
    have x5 : w2.cell? ⟨w.heap.size, 5, none⟩ = some (.string s.lc) := cells_of (unhide HB) 5 _ rfl
    have x6 : w2.cell? ⟨w.heap.size, 6, none⟩ = some (.slice ua s.un uc) := cells_of (unhide HB) 6 _ rfl
    go_wp2_with fail
    refine ((unhide hc3) _ E1).mono ?_
    rintro e w3 ⟨rfl, F3⟩
    replace HB := hide (F3.kept (unhide HB))
    clear x3 x4 x5 x6
    cases b3 with
    | false =>
      have hfin : Hid (bp = false) := hide (not_ok (unhide HBP) (fun h => by have := (unhide H3).2 h.2.2.1; cases this))
      go_wp2
      go_meet
      exact ⟨by rw [unhide hfin]; first | rfl | (simp; omega) | simp, F1.trans F3⟩
    | true =>
    have x7 : w3.cell? ⟨w.heap.size, 7, none⟩ = some (.slice ha s.kh.length hc) := cells_of (unhide HB) 7 _ rfl
    by_cases h4 : (s.kh.length : Int) ≤ 2000
    case neg =>
      have hfin : Hid (bp = false) := hide (not_ok (unhide HBP) (fun h => h4 (by have := h.2.2.2; omega)))
      have h4b : decide (2000 < (s.kh.length : Int)) = true := by simp; omega
      go_wp2
      go_meet
      exact ⟨by rw [unhide hfin]; first | rfl | (rw [h4b]; rfl) | (simp; omega) | simp, F1.trans F3⟩
    case pos =>
      have hfin : Hid (bp = true) := hide ((unhide HBP).2 ⟨(unhide H1).1 (by simp), unhide HSZ, (unhide H3).1 (by simp), by omega⟩)
      have h4b : decide (2000 < (s.kh.length : Int)) = false := by simp; omega
      go_wp2
      go_meet
      exact ⟨by rw [unhide hfin]; first | rfl | (rw [h4b]; rfl) | (simp; omega) | simp, F1.trans F3⟩
  case rest =>
  obtain ⟨rfl, F3⟩ := hcut
  obtain ⟨w3, hw3⟩ : ∃ w3, w3 = wc := ⟨_, rfl⟩
  rw [← hw3] at F3 ⊢
  clear hw3 H1 H3 hc1 hc2 hc3
  have E3 := E0.trans F3
  replace HB := hide (F3.kept (unhide HB))
  cases bp with
  | false =>
    have hfin : Hid (ok = false) := hide (not_ok (unhide HK) (fun h => by have := (unhide HBP).2 ⟨h.1, h.2.1, h.2.2.1, h.2.2.2.1⟩; cases this))
    go_wp2
    go_ret
    exact ⟨ret_bool (unhide hfin).symm, E3⟩
  | true =>
  obtain ⟨bq, hbq⟩ := ex_bool (WayP s.nav s.pn s.at9 s.pt s.dr ∧ s.qn ≤ 20 ∧ (s.st = true ∨ s.qn = 0))
  have hrest : Hid (ok = true ↔ bq = true ∧ (∀ j, j < s.qn → SetP (baL (s.qt j))) ∧ ∀ j, j < s.ln → Lib.hasSuffix (s.lt j).data.toList [32] = false) := hide (by
    rw [unhide HK, hbq]
    unfold SesP
    rw [queueP_iff]
    constructor
    · rintro ⟨_, _, _, _, h5, ⟨h6, h7, h8⟩, h9⟩
      exact ⟨⟨h5, h6, h7⟩, h8, h9⟩
    · rintro ⟨⟨h5, h6, h7⟩, h8, h9⟩
      obtain ⟨k1, k2, k3, k4⟩ := (unhide HBP).1 (by simp)
      exact ⟨k1, k2, k3, k4, h5, ⟨h6, h7, h8⟩, h9⟩)
  have HBQ := hide hbq
  clear HK HBP hbq
  go_upto_region 3 with fail
  go_cut [49] (fun b wq => b = .bool (!bq) ∧ Ext w3 wq)
  case first =>
    clear HQ HL HZ hrest
    go_wp2_with (refine wpList_load_blk rfl 37 _ rfl (w.heap.size) rfl _ _ _ _ (unhide HB) Tryz.underlying37 rfl infoSes9 ?_)
    refine ((unhide hc5) _ E3).mono ?_
    rintro e w5 ⟨rfl, F5⟩
    replace HB := hide (F5.kept (unhide HB))
    cases b5 with
    | false =>
      have hfin : Hid (bq = false) := hide (not_ok (unhide HBQ) (fun h => by have := (unhide H5).2 h.1; cases this))
      go_wp2
      go_meet
      exact ⟨by rw [unhide hfin]; first | rfl | (simp; omega) | simp, F5⟩
    | true =>
    have x13 : w5.cell? ⟨w.heap.size, 13, none⟩ = some (.bool s.st) := cells_of (unhide HB) 13 _ rfl
    have x14 : w5.cell? ⟨w.heap.size, 14, none⟩ = some (.slice qa s.qn qc) := cells_of (unhide HB) 14 _ rfl
    by_cases h6 : (s.qn : Int) ≤ 20
    case neg =>
      have hfin : Hid (bq = false) := hide (not_ok (unhide HBQ) (fun h => h6 (by have := h.2.1; omega)))
      go_wp2
      go_meet
      exact ⟨by rw [unhide hfin]; first | rfl | (simp; omega) | simp, F5⟩
    by_cases h7 : 0 < (s.qn : Int)
    case neg =>
      have hfin : Hid (bq = true) := hide ((unhide HBQ).2 ⟨(unhide H5).1 (by simp), by omega, .inr (by omega)⟩)
      go_wp2
      go_meet
      exact ⟨by rw [unhide hfin]; first | rfl | (simp; omega) | simp, F5⟩
    cases h8 : s.st with
    | true =>
      have hfin : Hid (bq = true) := hide ((unhide HBQ).2 ⟨(unhide H5).1 (by simp), by omega, .inl h8⟩)
      rw [h8] at x13
      clear h8
      go_wp2
      go_meet
      exact ⟨by rw [unhide hfin]; first | rfl | (simp; omega) | simp, F5⟩
    | false =>
      have hfin : Hid (bq = false) := hide (not_ok (unhide HBQ) (fun h => h.2.2.elim (fun e => by rw [h8] at e; cases e) (fun e => by omega)))
      rw [h8] at x13
      clear h8
      go_wp2
      go_meet
      exact ⟨by rw [unhide hfin]; first | rfl | (simp; omega) | simp, F5⟩
  case rest =>
  obtain ⟨rfl, F5⟩ := hcut
  obtain ⟨w5, hw5⟩ : ∃ w5, w5 = wc := ⟨_, rfl⟩
  rw [← hw5] at F5 ⊢
  clear hw5
  have E5 := E3.trans F5
  replace HB := hide (F5.kept (unhide HB))
  clear H5 HBQ hc5
  cases bq with
  | false =>
    have hfin : Hid (ok = false) := hide (not_ok (unhide hrest) (fun h => by cases h.1))
    go_wp2
    go_ret
    exact ⟨ret_bool (unhide hfin).symm, E5⟩
  | true =>
  go_wp2
  go_loopw [3] (fun i wr => ∃ k : Nat, k ≤ s.qn ∧ i = .int .i64 k ∧ Hid (∀ j, j < k → SetP (baL (s.qt j))) ∧ Ext w5 wr) (fun i _ => s.qn - (intOf i).toNat)
  case atStart => exact ⟨0, Nat.zero_le _, rfl, hide (fun j hj => by omega), Ext.refl _⟩
  case round =>
    obtain ⟨k, hk, rfl, HJ3, hext3⟩ := hrel
    have c14 : wr.cell? ⟨w.heap.size, 14, none⟩ = some (.slice qa s.qn qc) := cells_of (hext3.kept (unhide HB)) 14 _ rfl
    by_cases hlt : k < s.qn
    · obtain ⟨g, off, hqa, hg⟩ := (unhide HQ) k hlt
      subst hqa
      have g1 := hext3.cell (E5.cell hg)
      have bk : (k : Int) < (s.qn : Int) := by omega
      obtain ⟨T, hT⟩ : ∃ T, T = s.qt k := ⟨_, rfl⟩
      rw [← hT] at g1
      have hTs : T.size ≤ 1048576 := by rw [hT]; exact (unhide HZ).qt k hlt
      have hcS := hide (fun W => settle_ba T W hTs)
      by_cases hP : SetP (baL T)
      · have hRT := setP_ba hP
        rw [hRT] at hcS
        have HJ2 : Hid (∀ j, j < k + 1 → SetP (baL (s.qt j))) := hide (fun j hj => by
          by_cases e : j = k
          · rw [e, ← hT]; exact hP
          · exact (unhide HJ3) j (by omega))
        clear hT hg hP hRT
        go_wp2
        first
          | (go_region_held_law (fun W => W.cell? ⟨w.heap.size, 14, none⟩ = some (.slice (some ⟨g, off, none⟩) s.qn qc) ∧ W.cell? ⟨g, off + k, none⟩ = some (.string T)) (first | exact ⟨c14, g1⟩ | exact ⟨he'.cell c14, he'.cell g1⟩)
              (first | (go_at_call 58; refine ((unhide hcS) _).mono ?_; rintro e w6 ⟨rfl, F6⟩; have he' := (Ext.refl wr).drew.trans F6; clear F6)))
          | fail
        all_goals
          have hE2 := hext3.trans he'
          go_wp2
          go_roundw
          case rel => exact ⟨k + 1, by omega, by go_num, HJ2, hE2⟩
          case measure => simp [intOf]; omega
      · have hneb := setP_ne hP
        have hfin : Hid (ok = false) := hide (not_ok (unhide hrest) (fun h => hP (by rw [hT]; exact h.2.1 k hlt)))
        clear hP hT hg
        go_wp2
        first
          | (go_region_held_law (fun W => W.cell? ⟨w.heap.size, 14, none⟩ = some (.slice (some ⟨g, off, none⟩) s.qn qc) ∧ W.cell? ⟨g, off + k, none⟩ = some (.string T)) (first | exact ⟨c14, g1⟩ | exact ⟨he'.cell c14, he'.cell g1⟩)
              (first | (go_at_call 58; refine ((unhide hcS) _).mono ?_; rintro e w6 ⟨rfl, F6⟩; have he' := (Ext.refl wr).drew.trans F6; clear F6)))
          | fail
        all_goals
          go_wp2
          go_ret
          exact ⟨ret_bool (unhide hfin).symm, E5.trans (hext3.trans he')⟩
    · have hkq : k = s.qn := by omega
      subst hkq
      go_wp2
      go_loopw [4] (fun i wr => ∃ k : Nat, k ≤ s.ln ∧ i = .int .i64 k ∧ Hid (∀ j, j < k → Lib.hasSuffix (s.lt j).data.toList [32] = false) ∧ Ext w5 wr) (fun i _ => s.ln - (intOf i).toNat)
      case atStart => exact ⟨0, Nat.zero_le _, rfl, hide (fun j hj => by omega), hext3⟩
      case round =>
        obtain ⟨k, hk, rfl, HJ4, hext4⟩ := hrel
        have c15 : wr.cell? ⟨w.heap.size, 15, none⟩ = some (.slice la s.ln lc) := cells_of (hext4.kept (unhide HB)) 15 _ rfl
        by_cases hlt : k < s.ln
        · obtain ⟨g, off, hqa, hg⟩ := (unhide HL) k hlt
          subst hqa
          have g1 := hext4.cell (E5.cell hg)
          have bk : (k : Int) < (s.ln : Int) := by omega
          obtain ⟨T, hT⟩ : ∃ T, T = s.lt k := ⟨_, rfl⟩
          rw [← hT] at g1
          have hTs : T.size ≤ 1048576 := by rw [hT]; exact (unhide HZ).lt k hlt
          have hcS := hide (fun W => l2Trim_any T W hTs)
          by_cases hP : Lib.hasSuffix T.data.toList [32] = false
          · have hRT := (trim_same T).2 hP
            rw [hRT] at hcS
            have HJ2 : Hid (∀ j, j < k + 1 → Lib.hasSuffix (s.lt j).data.toList [32] = false) := hide (fun j hj => by
              by_cases e : j = k
              · rw [e, ← hT]; exact hP
              · exact (unhide HJ4) j (by omega))
            clear hT hg hP hRT
            go_wp2
            first
              | (go_region_held_law (fun W => W.cell? ⟨w.heap.size, 15, none⟩ = some (.slice (some ⟨g, off, none⟩) s.ln lc) ∧ W.cell? ⟨g, off + k, none⟩ = some (.string T)) (first | exact ⟨c15, g1⟩ | exact ⟨he'.cell c15, he'.cell g1⟩)
                  (first | (go_at_call 59; refine ((unhide hcS) _).mono ?_; rintro e w6 ⟨rfl, rfl⟩; have he' := (Ext.refl wr).drew)))
              | fail
            all_goals
              have hE2 := hext4.trans he'
              go_wp2
              go_roundw
              case rel => exact ⟨k + 1, by omega, by go_num, HJ2, hE2⟩
              case measure => simp [intOf]; omega
          · have hneb := trim_ne hP
            have hfin : Hid (ok = false) := hide (not_ok (unhide hrest) (fun h => hP (by rw [hT]; exact h.2.2 k hlt)))
            clear hP hT hg
            go_wp2
            first
              | (go_region_held_law (fun W => W.cell? ⟨w.heap.size, 15, none⟩ = some (.slice (some ⟨g, off, none⟩) s.ln lc) ∧ W.cell? ⟨g, off + k, none⟩ = some (.string T)) (first | exact ⟨c15, g1⟩ | exact ⟨he'.cell c15, he'.cell g1⟩)
                  (first | (go_at_call 59; refine ((unhide hcS) _).mono ?_; rintro e w6 ⟨rfl, rfl⟩; have he' := (Ext.refl wr).drew)))
              | fail
            all_goals
              go_wp2
              go_ret
              exact ⟨ret_bool (unhide hfin).symm, E5.trans (hext4.trans he')⟩
        · have hkq : k = s.ln := by omega
          subst hkq
          have hfin : Hid (ok = true) := hide ((unhide hrest).2 ⟨by simp, unhide HJ3, unhide HJ4⟩)
          go_wp2
          go_ret
          exact ⟨ret_bool (unhide hfin).symm, E5.trans hext4⟩
end Go.Proofs.YtgdadidppelgdaaGreatDoor
