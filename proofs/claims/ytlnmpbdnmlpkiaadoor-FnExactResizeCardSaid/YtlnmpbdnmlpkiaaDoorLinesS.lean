import Derived.Test.YtlnmpbdnmlpkiaaDoorLinesT
namespace Go.Proofs.YtlnmpbdnmlpkiaaDoor
open Go.RowKit

set_option maxRecDepth 10000 in
set_option maxHeartbeats 4000000 in
theorem specLines_any (d : SD) (gv hv bv : Value) (ok : Bool) (hok : ok = true ↔ OkP d) (w : World) (h : ScrAt w d gv hv bv) (hF : d.Fits) (hT : d.Texts) :
    Calls Tryd.prog 10 #[scrV d gv hv bv] w fun e w' => ∃ v, e = .returned v ∧ Own1 w' w.heap.size 9 v (if ok = true then linN d else 0) (fun j => .string (linT d j)) ∧ Ext w w' := by
  obtain ⟨ic, hic, hc0, hc1, hc2⟩ := info_parts infoStrs
  have hcO := hide (fun U (hU : Ext w U) => specScreenOk_any d gv hv bv ok hok U (h.ext hU) hF)
  cases ok with
  | false =>
    clear hok
    obtain ⟨ga, gc, ha, hc, ba, bc, rfl, rfl, rfl⟩ := h.forms
    unfold scrV at *
    clear h
    have HO0 := hide (owns_empty (w.alloc (.cells #[.int .i64 d.cols, .int .i64 d.rows, .slice ga d.R gc, .int .i64 d.row, .int .i64 d.col, .bool d.late, .slice ha d.hold.length hc, .slice ba d.nb bc] 31)) 9 1)
    go_enter Tryd.func10, Tryd.ntmps10
    go_wp2_with fail
    refine ((unhide hcO) _ (((Ext.refl w).alloc _).alloc _)).mono ?_
    rintro e w1 ⟨rfl, F1⟩
    have HO1 := hide (F1.owns (unhide HO0))
    go_wp2
    go_ret
    refine ⟨_, rfl, ?_, (((Ext.refl w).alloc _).alloc _).trans F1⟩
    have h9 := unhide HO1
    exact ⟨[], owns_mono (by simpa using h9) (Nat.le_succ _), fun j hj => absurd hj (Nat.not_lt_zero j)⟩
  | true =>
    have hOK := hok.1 rfl
    obtain ⟨cn, rn, ec, er, c2, c200, r1, r100⟩ := sizeB_open hOK.size
    have hr := hOK.R
    have hR100 : d.R ≤ 100 := by omega
    have hR1 : 1 ≤ d.R := by omega
    obtain ⟨r, hrow⟩ : ∃ r : Nat, d.row = (r : Int) := ⟨d.row.toNat, by have := hOK.row; omega⟩
    have hrR : r < d.R := by have := hOK.row; omega
    have HLU := hide (fun i (hi : i < d.R) => lineT_U hOK hi)
    have hlin : Hid (linN d = d.nb + (lastN d r d.R + 1)) := hide (by rw [linN, lastN_shN d r hrow d.R (by omega)])
    have HLE := hide (lastN_le d r d.R hrR)
    have hbk2 := hide h.2.2
    have hnb := hF.4
    obtain ⟨ha, hc, ba, bc, rfl, rfl⟩ : ∃ ha hc ba bc, hv = .slice ha d.hold.length hc ∧ bv = .slice ba d.nb bc := by
      obtain ⟨_, _, ha, hc, ba, bc, _, e2, e3⟩ := h.forms
      exact ⟨ha, hc, ba, bc, e2, e3⟩
    obtain ⟨rv, ⟨ao, ca, rfl, hca, hxa⟩, hrw⟩ := h.1
    obtain ⟨b, off, rfl, hcell⟩ := hxa (by omega)
    have HX := hide hcell
    have HRW := hide hrw
    have HF2 := hide hF.2
    clear hcell hrw hxa h hF hOK hok ec er c2 c200 r1 r100
    rw [if_pos rfl]
    unfold scrV at *
    rw [← hr, hrow] at *
    clear hr hrow
    have EW := (Ext.refl w).alloc (.cells #[.int .i64 d.cols, .int .i64 d.R, .slice (some ⟨b, off, none⟩) d.R ca, .int .i64 r, .int .i64 d.col, .bool d.late, .slice ha d.hold.length hc, .slice ba d.nb bc] 31)
    have hbk := new_block w (.cells #[.int .i64 d.cols, .int .i64 d.R, .slice (some ⟨b, off, none⟩) d.R ca, .int .i64 r, .int .i64 d.col, .bool d.late, .slice ha d.hold.length hc, .slice ba d.nb bc] 31)
    obtain ⟨W1, hW1⟩ : ∃ W1, W1 = w.alloc (.cells #[.int .i64 d.cols, .int .i64 d.R, .slice (some ⟨b, off, none⟩) d.R ca, .int .i64 r, .int .i64 d.col, .bool d.late, .slice ha d.hold.length hc, .slice ba d.nb bc] 31) := ⟨_, rfl⟩
    rw [← hW1] at EW hbk
    have hz1 : W1.heap.size = w.heap.size + 1 := by rw [hW1]; simp
    have HBK := hide hbk
    have HW := hide hW1
    have HO0 := hide (owns_empty W1 9 1)
    rw [hz1] at HO0
    clear hW1 hbk
    go_enter Tryd.func10, Tryd.ntmps10
    go_wp2_with fail
    rw [← unhide HW]
    clear HW
    refine ((unhide hcO) _ (EW.alloc _)).mono ?_
    rintro e w1 ⟨rfl, F1⟩
    have E1 : Ext W1 w1 := ((Ext.refl W1).alloc _).trans F1
    have hb1 := E1.kept (unhide HBK)
    have p7 := cells_of hb1 7 _ rfl
    have hs1 := E1.size
    have HS := hide (Src.strs ((unhide hbk2).ext (EW.trans E1)))
    have HO1 := hide (F1.owns (unhide HO0))
    clear hb1 hcO HO0
    go_wp2_with (at_builtin; go_must (refine wpList_app rfl _ _ 24 rfl (w.heap.size + 1) 9 ic (.string { data := #[] }) 1 16 Tryd.underlying24 hic hc0 hc1 hc2 rfl (by decide) _ 0 [] rfl (unhide HO1) _ d.nb (strL d.bk d.nb) rfl (unhide HS) (by unfold maxLen; omega) (by omega) (by omega) ?_); intro v2 w2 o2 G2 _; rw [List.nil_append, linT_back, Nat.zero_add] at o2; have HO2 := hide o2; have E2 : Ext W1 w2 := E1.grown G2 (fun q hq => by rw [hz1]; exact ((unhide HO1).lt q hq).1); have hs2 := E2.size; have p3 := cells_of (E2.kept (unhide HBK)) 3 _ rfl; clear o2 G2)
    clear HO1
    go_loopw [4, 5] (fun l i wr => ∃ k : Nat, k ≤ d.R ∧ i = .int .i64 k ∧ l = .int .i64 (lastN d r k : Nat) ∧ Ext w2 wr) (fun _ i _ => d.R - (intOf i).toNat)
    case atStart => exact ⟨0, Nat.zero_le _, rfl, rfl, Ext.refl _⟩
    case round =>
      obtain ⟨k, hk, rfl, rfl, hext⟩ := hrel
      have E3 := E2.trans hext
      have hb3 := E3.kept (unhide HBK)
      have q1 := cells_of hb3 1 _ rfl
      have q2 := cells_of hb3 2 _ rfl
      have hL := (unhide HLE) k hk
      clear hb3
      by_cases hlt : k < d.R
      · have g1 := (EW.trans E3).cell ((unhide HX) k hlt)
        have bk : (k : Int) < (d.R : Int) := by omega
        have hcon := hide (l2Text_any (rv k) (d.C k) (d.tx k) (d.hf k) wr (((unhide HRW) k hlt).ext (EW.trans E3)) ((unhide HF2) k hlt) (hT k hlt))
        rw [(unhide HLU) k hlt] at hcon
        by_cases ht : (lineT d k).toList = []
        · have hst : Hid (lastN d r (k + 1) = lastN d r k) := hide (by rw [lastN, if_neg (fun x => x.1 ht)])
          go_wp2_with fail
          refine (unhide hcon).mono ?_
          rintro e w4 ⟨rfl, F4⟩
          go_wp2
          go_roundw
          case rel => exact ⟨k + 1, by omega, by go_num, by rw [unhide hst], hext.trans F4⟩
          case measure => simp [intOf]; omega
        · have ht' : (lineT d k).toList.isEmpty = false := by simpa using ht
          by_cases hgt : lastN d r k < k
          · have hst : Hid (lastN d r (k + 1) = k) := hide (by rw [lastN, if_pos ⟨ht, hgt⟩])
            have hgI : ((lastN d r k : Nat) : Int) < (k : Int) := by omega
            go_wp2_with fail
            refine (unhide hcon).mono ?_
            rintro e w4 ⟨rfl, F4⟩
            go_wp2
            go_roundw
            case rel => exact ⟨k + 1, by omega, by go_num, by rw [unhide hst], hext.trans F4⟩
            case measure => simp [intOf]; omega
          · have hst : Hid (lastN d r (k + 1) = lastN d r k) := hide (by rw [lastN, if_neg (fun x => hgt x.2)])
            have hgI : ¬ ((lastN d r k : Nat) : Int) < (k : Int) := by omega
            go_wp2_with fail
            refine (unhide hcon).mono ?_
            rintro e w4 ⟨rfl, F4⟩
            go_wp2
            go_roundw
            case rel => exact ⟨k + 1, by omega, by go_num, by rw [unhide hst], hext.trans F4⟩
            case measure => simp [intOf]; omega
      · obtain rfl : k = d.R := by omega
        have hb9 : ¬ (d.R : Int) < (d.R : Int) := by omega
        have HO3 := hide (hext.owns (unhide HO2))
        obtain ⟨n, hn⟩ : ∃ n, n = lastN d r d.R := ⟨_, rfl⟩
        rw [← hn] at hlin hL
        go_wp2
        rw [← hn]
        clear hn q1 q2 hext HO2 p7 p3
        go_loopw [3, 6] (fun o i wr => ∃ k : Nat, k ≤ n + 1 ∧ i = .int .i64 k ∧ Hid (wr.ownsRow (w.heap.size + 1) 9 1 o (d.nb + k) (strL (linT d) (d.nb + k))) ∧ Ext W1 wr) (fun _ i _ => n + 1 - (intOf i).toNat)
        case atStart => exact ⟨0, Nat.zero_le _, rfl, HO3, E3⟩
        case round =>
          clear HO3 E3
          obtain ⟨k, hk, rfl, HO, hext⟩ := hrel
          have hs3 := hext.size
          have hb3 := hext.kept (unhide HBK)
          have q2 := cells_of hb3 2 _ rfl
          clear hb3
          by_cases hlt : k ≤ n
          · have hkR : k < d.R := by omega
            have g1 := (EW.trans hext).cell ((unhide HX) k hkR)
            have bk : (k : Int) < (d.R : Int) := by omega
            have bk2 : (k : Int) ≤ (n : Int) := by omega
            have hcon := hide (l2Text_any (rv k) (d.C k) (d.tx k) (d.hf k) wr (((unhide HRW) k hkR).ext (EW.trans hext)) ((unhide HF2) k hkR) (hT k hkR))
            rw [(unhide HLU) k hkR] at hcon
            have hst : Hid (strL (linT d) (d.nb + (k + 1)) = strL (linT d) (d.nb + k) ++ [.string (lineT d k)]) := by
              refine hide ?_
              rw [← Nat.add_assoc, strL_succ, linT_row]
            go_wp2_with (first
              | (go_at_call 49; refine (unhide hcon).mono ?_; rintro e w4 ⟨rfl, F4⟩; have HO4 := hide (F4.owns (unhide HO)); have E4 := hext.trans F4; have hs4 := E4.size; clear F4)
              | (at_builtin; go_must (refine wpList_app rfl _ _ 24 rfl (w.heap.size + 1) 9 ic (.string { data := #[] }) 1 16 Tryd.underlying24 hic hc0 hc1 hc2 rfl (by decide) _ _ _ rfl ((unhide HO4).alloc _) _ 1 [.string (lineT d k)] rfl (Src.made _ _ _ rfl (by simp [Value.oneCell'])) (by unfold maxLen; omega) (by omega) (by simp; omega) ?_); intro v5 w5 o5 G5 _; rw [← unhide hst] at o5; have HO5 := hide o5; have E5 := hide ((E4.alloc _).grown G5 (fun q hq => by rw [hz1]; exact ((unhide HO4).lt q hq).1)); clear o5 G5))
            go_roundw
            case rel => exact ⟨k + 1, by omega, by go_num, HO5, unhide E5⟩
            case measure => simp [intOf]; omega
          · obtain rfl : k = n + 1 := by omega
            have hb9 : ¬ (((n + 1 : Nat)) : Int) ≤ (n : Int) := by omega
            go_wp2
            go_ret
            exact ⟨_, rfl, by rw [unhide hlin]; exact (own_strL (unhide HO)).mono (by omega), EW.trans hext⟩
end Go.Proofs.YtlnmpbdnmlpkiaaDoor
