import Derived.Test.YtokjpnlmkecleaaGreatDoorU8s
import Derived.Test.YtokjpnlmkecleaaGreatDoorRwImpl
import Derived.Test.YtokjpnlmkecleaaGreatDoorSpecRune2
import Derived.Deep.RegionLaw
import Derived.Deep.AppendLies
import Derived.Test.YtokjpnlmkecleaaGreatDoorBlocks
import Derived.Deep.RegionHeldLaw
namespace Go.Proofs.YtokjpnlmkecleaaGreatDoor
open Go.RowKit

/-- What a rune does to the clusters so far. -/
def clStep (cs : List (List Int × Int)) (x : Int) : List (List Int × Int) :=
  if 0 < wid x then cs ++ [([x], wid x)]
  else if cs.length = 0 then [([9676, x], 1)]
  else cs.set (cs.length - 1) (cR cs (cs.length - 1) ++ [x], cW cs (cs.length - 1))
def clF (xs : List Int) : Nat → List (List Int × Int)
  | 0 => []
  | k + 1 => clStep (clF xs k) (shownI (at0 xs k))
/-- The clusters of runes. -/
def clusC (xs : List Int) : List (List Int × Int) := clF xs xs.length
theorem clF_len (xs : List Int) : ∀ k, (clF xs k).length ≤ k
  | 0 => by simp [clF]
  | k + 1 => by
    have := clF_len xs k
    rw [clF, clStep]
    repeat' split
    all_goals simp
    all_goals omega
theorem clF_runes (xs : List Int) : ∀ k j, (cR (clF xs k) j).length ≤ k + 1
  | 0, j => by simp [clF, cR]
  | k + 1, j => by
    have ih := clF_runes xs k
    rw [clF, clStep]
    split
    · rw [cR_push]; split
      · simp
      · have := ih j; omega
    · split
      · rename_i h1 h2
        by_cases hj : j = 0
        · subst hj; simp [cR]
        · simp [cR, List.getElem?_eq_none (show [(([9676, shownI (at0 xs k)] : List Int), (1 : Int))].length ≤ j by simp; omega)]
      · rename_i h1 h2
        rw [cR_set _ _ _ _ (by omega)]
        split
        · have := ih ((clF xs k).length - 1); simp; omega
        · have := ih j; omega
theorem wid_bd (r : Int) : 0 ≤ wid r ∧ wid r ≤ 2 := by
  unfold wid
  repeat' split
  all_goals omega
theorem infoClu : (Tryz.prog.info? 93).map (fun i => (i.zero, i.size, i.bytes)) = some (some (.agg #[.slice none 0 0, .int .i64 0]), 2, 32) := by kernel_rfl
theorem infoI32u : (Tryz.prog.info? 21).map (fun i => (i.zero, i.size, i.bytes)) = some (some (.int .i32 0), 1, 4) := by kernel_rfl
set_option maxRecDepth 10000 in
set_option maxHeartbeats 2000000 in
theorem specClusters_any (v : Value) (xs : List Int) (w : World) (hv : IntsAt w .i32 v xs) (hI : I32s xs) (hl : xs.length ≤ 16777216) :
    Calls Tryz.prog 66 #[v] w fun e w' => ∃ v' rs, e = .returned v' ∧ OwnCls w' w.heap.size v' rs (clusC xs) ∧ Ext w w' := by
  obtain ⟨ic, hic, hc0, hc1, hc2⟩ := info_parts infoClu
  obtain ⟨ii, hii, hi0, hi1, hi2⟩ := info_parts infoI32u
  obtain ⟨ao, cap, rfl, hcap, hr⟩ := hv
  have HF : Hid (clusC xs = clF xs xs.length) := rfl
  obtain ⟨n, hn⟩ : ∃ n, n = xs.length := ⟨_, rfl⟩
  rw [← hn] at hcap hr hl HF ⊢
  have HR := hide hr
  clear hr hn
  go_enter Tryz.func66, Tryz.ntmps66
  go_wp2
  go_loopw [3, 4] (fun o i wr => ∃ (k : Nat) (rs : List Value), k ≤ n ∧ i = .int .i64 k ∧ Hid (OwnCls wr w.heap.size o rs (clF xs k)) ∧ Ext w wr) (fun _ i _ => n - (intOf i).toNat)
  case atStart => exact ⟨0, [], Nat.zero_le _, rfl, ⟨rfl, ⟨[], by simpa [clF] using World.ownsRow_made w #[] 0 (Nat.le_refl _) (by unfold maxLen; omega) (by simp), fun j hj => by simp [clF] at hj⟩, fun j hj => by simp [clF] at hj, fun i j g _ hj => by simp [clF] at hj⟩, (Ext.refl _).alloc _⟩
  case round =>
    obtain ⟨k, rs, hk, rfl, HO, hext⟩ := hrel
    by_cases hlt : k < n
    · obtain ⟨b, off, hao, hc⟩ := (unhide HR) (by omega)
      subst hao
      have g1 := hext.cell (hc k hlt)
      clear hc
      have bk : (k : Int) < (n : Int) := by omega
      have hst : Hid (clF xs (k + 1) = clStep (clF xs k) (shownI (at0 xs k))) := rfl
      have hlen := clF_len xs k
      have hrl := clF_runes xs k
      have HRL := hide hrl
      clear hrl
      obtain ⟨x, hx⟩ : ∃ x, x = shownI (at0 xs k) := ⟨_, rfl⟩
      have hxb := shownI_bd (at0 xs k)
      have hIk := hI.at0 k
      have HX := hide hx
      rw [← hx] at hst hxb
      clear hx
      obtain ⟨cs, hcs⟩ : ∃ cs, cs = clF xs k := ⟨_, rfl⟩
      rw [← hcs] at HO hst hlen HRL
      have HCS := hide hcs
      clear hcs
      have hwb := wid_bd x
      go_wp2_with fail
      refine (l1Shown_any _ _).mono ?_
      rw [← unhide HX]
      rintro e w1 ⟨rfl, rfl⟩
      go_wp2_with fail
      refine (specRW_any x _ (by omega) (by omega)).mono ?_
      rintro e w2 ⟨rfl, hb2⟩
      have F2 := Ext.of_below hb2
      have E2 := hext.trans F2
      have z2 := E2.size
      clear hb2
      obtain ⟨h0, ⟨ys, hy, hyy⟩, h3, h4⟩ := (unhide HO).ext F2
      by_cases hwp : 0 < wid x
      · have hsA : Hid (clF xs (k + 1) = cs ++ [([x], wid x)]) := by show _ = _; rw [hst.out, clStep, if_pos hwp]
        have hyE := hide ((((Ext.refl w2).alloc (.cells #[.int .i32 x] 21)).alloc (.cells #[.slice (some ⟨w2.heap.size, 0, none⟩) 1 1, .int .i64 (wid x)] 93)).owns hy)
        have HYY := hide hyy
        have H3 := hide h3
        have hOC := hide ((unhide HO).ext F2)
        clear hy hyy h3 h4
        go_wp2_with (at_builtin; go_must (refine wpList_append_own _ rfl _ _ 64 rfl w.heap.size 93 ic (.agg #[.slice none 0 0, .int .i64 0]) 2 32 Tryz.underlying64 hic hc0 hc1 hc2 rfl (by decide) _ _ _ rfl (unhide hyE) ⟨w2.heap.size + 1, 0, none⟩ 1 1 [.slice (some ⟨w2.heap.size, 0, none⟩) 1 1, .int .i64 (wid x)] rfl rfl ?_ (pair_one rfl rfl) ?_ ?_ ?_ ?_))
        · have := news_cells (w := w2.alloc (.cells #[.int .i32 x] 21)) [.slice (some ⟨w2.heap.size, 0, none⟩) 1 1, .int .i64 (wid x)] 93
          simpa using this
        · unfold maxLen; omega
        · omega
        · simp; omega
        · intro v' w3 hown' hgrow _
          have E3 : Ext w w3 := ((E2.alloc _).alloc _).grown hgrow (fun q hq => ((unhide hyE).lt q hq).1)
          have hO3 : OwnCls w3 w.heap.size v' (rs ++ [.slice (some ⟨w2.heap.size, 0, none⟩) 1 1]) (cs ++ [([x], wid x)]) := by
            refine OwnCls.push (((unhide hOC).ext (((Ext.refl w2).alloc _).alloc _))) (unhide hyE) (unhide HYY) ?_ ?_ hown' hgrow
            · exact ((Ext.refl _).alloc _).owns (own_lit .i32 [x] 21 w.heap.size 1 rfl (by omega) (by unfold maxLen; simp))
            · intro j q hj hq
              have := ((unhide H3) j hj).lt q hq
              simp [Value.ownBlock]; omega
          rw [← hsA.out] at hO3
          have HO3 := hide hO3
          clear hown' hgrow hO3 hyE hOC H3
          go_wp2
          go_roundw
          case rel => exact ⟨k + 1, _, by omega, by go_num, HO3, E3⟩
          case measure => simp [intOf]; omega
      · have hw0 : wid x = 0 := by omega
        have hw0' : ¬ (0 : Int) < wid x := by omega
        by_cases hne : cs.length = 0
        · have hce : cs = [] := List.eq_nil_of_length_eq_zero hne
          have hsB : Hid (clF xs (k + 1) = [([9676, x], 1)]) := by show _ = _; rw [hst.out, clStep, if_neg hwp, if_pos hne]
          have hrs : rs = [] := List.eq_nil_of_length_eq_zero (by omega)
          subst hce
          subst hrs
          have hyE := hide ((((Ext.refl w2).alloc (.cells #[.int .i32 9676] 21)).alloc (.cells #[.slice (some ⟨w2.heap.size, 0, none⟩) 1 1, .int .i64 1] 93)).owns hy)
          have HYY := hide hyy
          have hOC := hide ((unhide HO).ext F2)
          have hu3 : ∃ a c, u3 = .slice a 0 c := by
            rcases hy.2 with ⟨rfl, _⟩ | ⟨g, co, cur, rfl, _⟩
            · exact ⟨_, _, rfl⟩
            · exact ⟨_, _, rfl⟩
          obtain ⟨au, cu, hu3⟩ := hu3
          subst hu3
          clear hy hyy h3 h4 hw0 hne hlen
          go_wp2_with (at_builtin; go_must (refine wpList_append_own _ rfl _ _ 64 rfl w.heap.size 93 ic (.agg #[.slice none 0 0, .int .i64 0]) 2 32 Tryz.underlying64 hic hc0 hc1 hc2 rfl (by decide) _ _ _ rfl (unhide hyE) ⟨w2.heap.size + 1, 0, none⟩ 1 1 [.slice (some ⟨w2.heap.size, 0, none⟩) 1 1, .int .i64 1] rfl rfl ?_ (pair_one rfl rfl) ?_ ?_ ?_ ?_))
          · have := news_cells (w := w2.alloc (.cells #[.int .i32 9676] 21)) [.slice (some ⟨w2.heap.size, 0, none⟩) 1 1, .int .i64 1] 93
            simpa using this
          · unfold maxLen; simp
          · simp
          · simp; omega
          · intro v' w3 hown' hgrow _
            have E3 : Ext w w3 := ((E2.alloc _).alloc _).grown hgrow (fun q hq => ((unhide hyE).lt q hq).1)
            have hO3 : OwnCls w3 w.heap.size v' ([] ++ [.slice (some ⟨w2.heap.size, 0, none⟩) 1 1]) ([] ++ [([9676], 1)]) := by
              refine OwnCls.push (((unhide hOC).ext (((Ext.refl w2).alloc _).alloc _))) (unhide hyE) (unhide HYY) ?_ ?_ hown' hgrow
              · exact ((Ext.refl _).alloc _).owns (own_lit .i32 [9676] 21 w.heap.size 1 rfl (by omega) (by unfold maxLen; simp))
              · intro j q hj hq
                simp at hj
            have z3 : w2.heap.size + 2 ≤ w3.heap.size := by have := hgrow.size; simpa using this
            rcases hown'.2 with ⟨_, h5⟩ | ⟨g, co, cur, hval, _⟩
            · simp at h5
            subst hval
            simp only [List.nil_append] at hO3
            have hOC3 := hide hO3
            obtain ⟨_, ⟨ys3, hy3, hyy3⟩, h33, _⟩ := hO3
            have hcl : w3.cell? ⟨g, 0, none⟩ = some (.slice (some ⟨w2.heap.size, 0, none⟩) 1 1) := by
              have := hy3.cellAt 0 (by simp)
              rw [this]; simpa [rV] using (hyy3 0 (by simp)).1
            have hrmE := hide (((Ext.refl w3).alloc (.cells #[.int .i32 x] 21)).owns (h33 0 (by simp)))
            have HY := hide hy3
            clear hown' hgrow hyE hOC hy3 hyy3 h33
            go_wp2_with (at_builtin; go_must (refine wpList_append_own_at _ rfl _ _ 26 rfl w.heap.size 21 ii (.int .i32 0) 1 4 Tryz.underlying26 hii hi0 hi1 hi2 rfl (by decide) _ _ _ rfl (unhide hrmE) ⟨w3.heap.size, 0, none⟩ 1 1 [.int .i32 x] rfl rfl ?_ ?_ ?_ ?_ ?_ ?_))
            · exact news_cells [.int .i32 x] 21
            · intro u hu; simp at hu; subst hu; rfl
            · unfold maxLen; simp [cR]
            · simp [cR]
            · simp; omega
            · intro r' w4 hown' hgrow _ hat
              rcases hown'.2 with ⟨_, h5⟩ | ⟨gr, cr, curr, hvr, _⟩
              · simp at h5
              subst hvr
              have hWE : Ext w3 (w3.alloc (.cells #[.int .i32 x] 21)) := (Ext.refl w3).alloc _
              have hy4 := owns_same (w' := w4) (hWE.owns (unhide HY)) (fun q hq => hgrow.block q ((hWE.owns (unhide HY)).lt q hq).2 (fun e => owns_apart (hWE.owns (unhide HY)) (unhide hrmE) (by decide) hq e.symm))
              have f0 := hy4.frozenAt 0
              obtain ⟨u0, c0⟩ : ∃ u, w4.cell? ⟨g, 0, none⟩ = some u := by
                rw [hy4.cellAt _ (by simp)]; exact ⟨_, List.getElem?_eq_getElem (by have := hy4.1; simp at this; omega)⟩
              have E4 : Ext w w4 := (E3.alloc _).grown hgrow (fun q hq => ((unhide hrmE).lt q hq).1)
              have hO4 := OwnCls.grow (m := 0) (H := w3.heap.size + 1) (x := x) ((unhide hOC3).ext hWE) (by simp) (fun i hi q hq => by
                simp at hi; subst hi; simp [rV, Value.ownBlock] at hq; omega) (by simpa using hown') hgrow (by simpa [rV] using hat)
              have hsB2 : Hid (clF xs (k + 1) = [([9676], (1 : Int))].set 0 (cR [([9676], (1 : Int))] 0 ++ [x], cW [([9676], (1 : Int))] 0)) := by
                show _ = _; rw [hsB.out]; simp [cR, cW]
              rw [← hsB2.out] at hO4
              have hgb := ((unhide HY).lt g rfl).1
              have HO4 := hide hO4
              clear hown' hgrow hO4 hrmE hOC3 hy4 hat
              go_wp2
              go_roundw
              case rel => exact ⟨k + 1, _, by omega, by go_num, HO4, E4.setCell hgb _⟩
              case measure => simp [intOf]; omega
        · have hsC : Hid (clF xs (k + 1) = cs.set (cs.length - 1) (cR cs (cs.length - 1) ++ [x], cW cs (cs.length - 1))) := by show _ = _; rw [hst.out, clStep, if_neg hwp, if_neg hne]
          clear hw0
          rcases hy.2 with ⟨_, h5⟩ | ⟨g, co, cur, hval, _⟩
          · omega
          subst hval
          obtain ⟨m, hm⟩ : ∃ m, cs.length = m + 1 := ⟨cs.length - 1, by omega⟩
          have hcl : w2.cell? ⟨g, m * 2, none⟩ = some (rV rs m) := by rw [hy.cellAt _ (by omega)]; exact (hyy m (by omega)).1
          have hrm := h3 m (by omega)
          have hgl := (hy.lt g rfl).2
          have hrmE := hide (((Ext.refl w2).alloc (.cells #[.int .i32 x] 21)).owns hrm)
          have hrr := (unhide HRL) m
          have hOC := hide ((unhide HO).ext F2)
          have HL := hide hm
          have hml : m + 1 ≤ k := by omega
          have hml2 : (m : Int) ≤ 16777216 := by omega
          have HY := hide hy
          have H3 := hide h3
          have hlen1 : ((cs.length : Int) == 0) = false := beq_eq_false_iff_ne.2 (by omega)
          rw [hm] at hlen1 hsC ⊢
          simp only [Nat.add_sub_cancel] at hsC
          clear hy hyy h3 h4 hrm hm hne
          go_wp2_with (at_builtin; go_must (refine wpList_append_own_at _ rfl _ _ 26 rfl w.heap.size 21 ii (.int .i32 0) 1 4 Tryz.underlying26 hii hi0 hi1 hi2 rfl (by decide) _ _ _ rfl (unhide hrmE) ⟨w2.heap.size, 0, none⟩ 1 1 [.int .i32 x] rfl rfl ?_ ?_ ?_ ?_ ?_ ?_))
          · exact news_cells [.int .i32 x] 21
          · intro u hu; simp at hu; subst hu; rfl
          · unfold maxLen; omega
          · omega
          · simp; omega
          · intro r' w3 hown' hgrow _ hat
            rcases hown'.2 with ⟨_, h5⟩ | ⟨gr, cr, curr, hvr, _⟩
            · omega
            subst hvr
            have hWE : Ext w2 (w2.alloc (.cells #[.int .i32 x] 21)) := (Ext.refl w2).alloc _
            have hy3 := owns_same (w' := w3) (hWE.owns (unhide HY)) (fun q hq => hgrow.block q ((hWE.owns (unhide HY)).lt q hq).2 (fun e => owns_apart (hWE.owns (unhide HY)) (unhide hrmE) (by decide) hq e.symm))
            have f0 := hy3.frozenAt (m * 2)
            obtain ⟨u0, c0⟩ : ∃ u, w3.cell? ⟨g, m * 2, none⟩ = some u := by
              rw [hy3.cellAt _ (by rw [unhide HL]; omega)]; exact ⟨_, List.getElem?_eq_getElem (by have := hy3.1; rw [unhide HL] at this; omega)⟩
            have E3 : Ext w w3 := (E2.alloc _).grown hgrow (fun q hq => ((unhide hrmE).lt q hq).1)
            have hO3 := OwnCls.grow (m := m) (H := w2.heap.size + 1) (x := x) ((unhide hOC).ext hWE) (by rw [unhide HL]; omega) (fun i hi q hq => by have := ((unhide H3) i hi).lt q hq; omega) (by simpa using hown') hgrow (by simpa using hat)
            rw [← hsC.out] at hO3
            have hgb := ((unhide HY).lt g rfl).1
            rw [unhide HL] at hO3
            have HO3 := hide hO3
            clear hown' hgrow hO3 hrmE hOC H3 hy3 hat
            go_wp2
            go_roundw
            case rel => exact ⟨k + 1, _, by omega, by go_num, HO3, E3.setCell hgb _⟩
            case measure => simp [intOf]; omega
    · obtain rfl : k = n := by omega
      rw [← HF.out] at HO
      go_wp2
      go_ret
      exact ⟨_, rs, rfl, unhide HO, hext⟩
set_option maxRecDepth 10000 in
set_option maxHeartbeats 2000000 in
theorem implClusters_any (v : Value) (xs : List Int) (w : World) (hv : IntsAt w .i32 v xs) (hI : I32s xs) (hl : xs.length ≤ 16777216) (hT : Laid w) :
    Calls Tryz.prog 116 #[v] w fun e w' => ∃ v' rs, e = .returned v' ∧ OwnCls w' w.heap.size v' rs (clusC xs) ∧ Ext w w' := by
  obtain ⟨ic, hic, hc0, hc1, hc2⟩ := info_parts infoClu
  obtain ⟨ii, hii, hi0, hi1, hi2⟩ := info_parts infoI32u
  obtain ⟨ao, cap, rfl, hcap, hr⟩ := hv
  have HF : Hid (clusC xs = clF xs xs.length) := rfl
  obtain ⟨n, hn⟩ : ∃ n, n = xs.length := ⟨_, rfl⟩
  rw [← hn] at hcap hr hl HF ⊢
  have HR := hide hr
  clear hr hn
  go_enter Tryz.func116, Tryz.ntmps116
  go_wp2
  go_loopw [3, 11] (fun o i wr => ∃ (k : Nat) (rs : List Value), k ≤ n ∧ i = .int .i64 k ∧ Hid (OwnCls wr w.heap.size o rs (clF xs k)) ∧ Ext w wr) (fun _ i _ => n - (intOf i).toNat)
  case atStart => exact ⟨0, [], Nat.zero_le _, rfl, ⟨rfl, ⟨[], by simpa [clF] using World.ownsRow_nil w w.heap.size 93 2, fun j hj => by simp [clF] at hj⟩, fun j hj => by simp [clF] at hj, fun i j g _ hj => by simp [clF] at hj⟩, Ext.refl _⟩
  case round =>
    obtain ⟨k, rs, hk, rfl, HO, hext⟩ := hrel
    by_cases hlt : k < n
    · obtain ⟨b, off, hao, hc⟩ := (unhide HR) (by omega)
      subst hao
      have g1 := hext.cell (hc k hlt)
      clear hc
      have bk : (k : Int) < (n : Int) := by omega
      have hst : Hid (clF xs (k + 1) = clStep (clF xs k) (shownI (at0 xs k))) := rfl
      have hlen := clF_len xs k
      have hrl := clF_runes xs k
      have HRL := hide hrl
      clear hrl
      obtain ⟨x, hx⟩ : ∃ x, x = shownI (at0 xs k) := ⟨_, rfl⟩
      have hxb := shownI_bd (at0 xs k)
      have hIk := hI.at0 k
      have HX := hide hx
      rw [← hx] at hst hxb
      clear hx
      obtain ⟨cs, hcs⟩ : ∃ cs, cs = clF xs k := ⟨_, rfl⟩
      rw [← hcs] at HO hst hlen HRL
      have HCS := hide hcs
      clear hcs
      have hwb := wid_bd x
      have HT := hide (hT.below hext.below)
      go_wp2_with fail
      refine (showable_any _ _).mono ?_
      rw [← unhide HX]
      rintro e w1 ⟨rfl, rfl⟩
      go_wp2_with fail
      refine (implRW_any x _ (by omega) (by omega) (unhide HT)).mono ?_
      rintro e w2 ⟨rfl, hb2⟩
      have F2 := Ext.of_below hb2
      have E2 := hext.trans F2
      have z2 := E2.size
      clear hb2
      obtain ⟨h0, ⟨ys, hy, hyy⟩, h3, h4⟩ := (unhide HO).ext F2
      by_cases hwp : 0 < wid x
      · have hsA : Hid (clF xs (k + 1) = cs ++ [([x], wid x)]) := by show _ = _; rw [hst.out, clStep, if_pos hwp]
        have hyE := hide ((((Ext.refl w2).alloc (.cells #[.int .i32 x] 21)).alloc (.cells #[.slice (some ⟨w2.heap.size, 0, none⟩) 1 1, .int .i64 (wid x)] 93)).owns hy)
        have HYY := hide hyy
        have H3 := hide h3
        have hOC := hide ((unhide HO).ext F2)
        clear hy hyy h3 h4
        go_wp2_with (at_builtin; go_must (refine wpList_append_own _ rfl _ _ 64 rfl w.heap.size 93 ic (.agg #[.slice none 0 0, .int .i64 0]) 2 32 Tryz.underlying64 hic hc0 hc1 hc2 rfl (by decide) _ _ _ rfl (unhide hyE) ⟨w2.heap.size + 1, 0, none⟩ 1 1 [.slice (some ⟨w2.heap.size, 0, none⟩) 1 1, .int .i64 (wid x)] rfl rfl ?_ (pair_one rfl rfl) ?_ ?_ ?_ ?_))
        · have := news_cells (w := w2.alloc (.cells #[.int .i32 x] 21)) [.slice (some ⟨w2.heap.size, 0, none⟩) 1 1, .int .i64 (wid x)] 93
          simpa using this
        · unfold maxLen; omega
        · omega
        · simp; omega
        · intro v' w3 hown' hgrow _
          have E3 : Ext w w3 := ((E2.alloc _).alloc _).grown hgrow (fun q hq => ((unhide hyE).lt q hq).1)
          have hO3 : OwnCls w3 w.heap.size v' (rs ++ [.slice (some ⟨w2.heap.size, 0, none⟩) 1 1]) (cs ++ [([x], wid x)]) := by
            refine OwnCls.push (((unhide hOC).ext (((Ext.refl w2).alloc _).alloc _))) (unhide hyE) (unhide HYY) ?_ ?_ hown' hgrow
            · exact ((Ext.refl _).alloc _).owns (own_lit .i32 [x] 21 w.heap.size 1 rfl (by omega) (by unfold maxLen; simp))
            · intro j q hj hq
              have := ((unhide H3) j hj).lt q hq
              simp [Value.ownBlock]; omega
          rw [← hsA.out] at hO3
          have HO3 := hide hO3
          clear hown' hgrow hO3 hyE hOC H3
          go_wp2
          go_roundw
          case rel => exact ⟨k + 1, _, by omega, by go_num, HO3, E3⟩
          case measure => simp [intOf]; omega
      · have hw0 : wid x = 0 := by omega
        have hw0' : ¬ (0 : Int) < wid x := by omega
        by_cases hne : cs.length = 0
        · have hce : cs = [] := List.eq_nil_of_length_eq_zero hne
          have hsB : Hid (clF xs (k + 1) = [([9676, x], 1)]) := by show _ = _; rw [hst.out, clStep, if_neg hwp, if_pos hne]
          have hrs : rs = [] := List.eq_nil_of_length_eq_zero (by omega)
          subst hce
          subst hrs
          have hu3 : ∃ a c, u3 = .slice a 0 c := by
            rcases hy.2 with ⟨rfl, _⟩ | ⟨g, co, cur, rfl, _⟩
            · exact ⟨_, _, rfl⟩
            · exact ⟨_, _, rfl⟩
          obtain ⟨au, cu, hu3⟩ := hu3
          subst hu3
          have HYY := hide hyy
          have HY := hide hy
          have hOC := hide ((unhide HO).ext F2)
          have HT2 := hide ((hT.below E2.below).below ((Ext.refl w2).alloc (.cells #[.int .i32 9676, .int .i32 x] 21)).below)
          have hw9 : wid 9676 = 1 := by decide
          have hrw := hide (implRW_any 9676 _ (by omega) (by omega) (unhide HT2))
          rw [hw9] at hrw
          clear hy hyy h3 h4 hw0 hne hlen hw9
          go_wp2_with fail
          refine (unhide hrw).mono ?_
          rintro e w3 ⟨rfl, hb3⟩
          have F3 := ((Ext.refl w2).alloc (.cells #[.int .i32 9676, .int .i32 x] 21)).trans (Ext.of_below hb3)
          have E3 := E2.trans F3
          have hz3 : w2.heap.size + 1 ≤ w3.heap.size := by have := hb3.size; simpa using this
          have hr3 := hide ((Ext.of_below hb3).owns (own_lit .i32 [9676, x] 21 w.heap.size 2 rfl (by omega) (by unfold maxLen; simp)))
          have hyE := hide (((Ext.refl w3).alloc (.cells #[.slice (some ⟨w2.heap.size, 0, none⟩) 2 2, .int .i64 1] 93)).owns (F3.owns (unhide HY)))
          clear hb3
          go_wp2_with (at_builtin; go_must (refine wpList_append_own _ rfl _ _ 64 rfl w.heap.size 93 ic (.agg #[.slice none 0 0, .int .i64 0]) 2 32 Tryz.underlying64 hic hc0 hc1 hc2 rfl (by decide) _ _ _ rfl (unhide hyE) ⟨w3.heap.size, 0, none⟩ 1 1 [.slice (some ⟨w2.heap.size, 0, none⟩) 2 2, .int .i64 1] rfl rfl ?_ (pair_one rfl rfl) ?_ ?_ ?_ ?_))
          · exact news_cells (w := w3) [.slice (some ⟨w2.heap.size, 0, none⟩) 2 2, .int .i64 1] 93
          · unfold maxLen; simp
          · simp
          · simp; omega
          · intro v' w4 hown' hgrow _
            have E4 : Ext w w4 := (E3.alloc _).grown hgrow (fun q hq => ((unhide hyE).lt q hq).1)
            have hO4 : OwnCls w4 w.heap.size v' ([] ++ [.slice (some ⟨w2.heap.size, 0, none⟩) 2 2]) ([] ++ [([9676, x], 1)]) := by
              refine OwnCls.push ((((unhide hOC).ext F3).ext ((Ext.refl w3).alloc _))) (unhide hyE) (unhide HYY) ?_ ?_ hown' hgrow
              · exact ((Ext.refl _).alloc _).owns (unhide hr3)
              · intro j q hj hq
                simp at hj
            simp only [List.nil_append] at hO4
            rw [← hsB.out] at hO4
            have HO4 := hide hO4
            clear hown' hgrow hO4 hyE hOC hr3
            go_wp2
            go_roundw
            case rel => exact ⟨k + 1, _, by omega, by go_num, HO4, E4⟩
            case measure => simp [intOf]; omega
        · have hsC : Hid (clF xs (k + 1) = cs.set (cs.length - 1) (cR cs (cs.length - 1) ++ [x], cW cs (cs.length - 1))) := by show _ = _; rw [hst.out, clStep, if_neg hwp, if_neg hne]
          clear hw0
          rcases hy.2 with ⟨_, h5⟩ | ⟨g, co, cur, hval, _⟩
          · omega
          subst hval
          obtain ⟨m, hm⟩ : ∃ m, cs.length = m + 1 := ⟨cs.length - 1, by omega⟩
          have hcl : w2.cell? ⟨g, m * 2, none⟩ = some (rV rs m) := by rw [hy.cellAt _ (by omega)]; exact (hyy m (by omega)).1
          have hrm := h3 m (by omega)
          have hgl := (hy.lt g rfl).2
          have hrmE := hide (((Ext.refl w2).alloc (.cells #[.int .i32 x] 21)).owns hrm)
          have hrr := (unhide HRL) m
          have hOC := hide ((unhide HO).ext F2)
          have HL := hide hm
          have hml : m + 1 ≤ k := by omega
          have hml2 : (m : Int) ≤ 16777216 := by omega
          have HY := hide hy
          have H3 := hide h3
          have hlen1 : ((cs.length : Int) == 0) = false := beq_eq_false_iff_ne.2 (by omega)
          rw [hm] at hlen1 hsC ⊢
          simp only [Nat.add_sub_cancel] at hsC
          clear hy hyy h3 h4 hrm hm hne
          go_wp2_with (at_builtin; go_must (refine wpList_append_own_at _ rfl _ _ 26 rfl w.heap.size 21 ii (.int .i32 0) 1 4 Tryz.underlying26 hii hi0 hi1 hi2 rfl (by decide) _ _ _ rfl (unhide hrmE) ⟨w2.heap.size, 0, none⟩ 1 1 [.int .i32 x] rfl rfl ?_ ?_ ?_ ?_ ?_ ?_))
          · exact news_cells [.int .i32 x] 21
          · intro u hu; simp at hu; subst hu; rfl
          · unfold maxLen; omega
          · omega
          · simp; omega
          · intro r' w3 hown' hgrow _ hat
            rcases hown'.2 with ⟨_, h5⟩ | ⟨gr, cr, curr, hvr, _⟩
            · omega
            subst hvr
            have hWE : Ext w2 (w2.alloc (.cells #[.int .i32 x] 21)) := (Ext.refl w2).alloc _
            have hy3 := owns_same (w' := w3) (hWE.owns (unhide HY)) (fun q hq => hgrow.block q ((hWE.owns (unhide HY)).lt q hq).2 (fun e => owns_apart (hWE.owns (unhide HY)) (unhide hrmE) (by decide) hq e.symm))
            have f0 := hy3.frozenAt (m * 2)
            obtain ⟨u0, c0⟩ : ∃ u, w3.cell? ⟨g, m * 2, none⟩ = some u := by
              rw [hy3.cellAt _ (by rw [unhide HL]; omega)]; exact ⟨_, List.getElem?_eq_getElem (by have := hy3.1; rw [unhide HL] at this; omega)⟩
            have E3 : Ext w w3 := (E2.alloc _).grown hgrow (fun q hq => ((unhide hrmE).lt q hq).1)
            have hO3 := OwnCls.grow (m := m) (H := w2.heap.size + 1) (x := x) ((unhide hOC).ext hWE) (by rw [unhide HL]; omega) (fun i hi q hq => by have := ((unhide H3) i hi).lt q hq; omega) (by simpa using hown') hgrow (by simpa using hat)
            rw [← hsC.out] at hO3
            have hgb := ((unhide HY).lt g rfl).1
            rw [unhide HL] at hO3
            have HO3 := hide hO3
            clear hown' hgrow hO3 hrmE hOC H3 hy3 hat
            go_wp2
            go_roundw
            case rel => exact ⟨k + 1, _, by omega, by go_num, HO3, E3.setCell hgb _⟩
            case measure => simp [intOf]; omega
    · obtain rfl : k = n := by omega
      rw [← HF.out] at HO
      go_wp2
      go_ret
      exact ⟨_, rs, rfl, unhide HO, hext⟩
end Go.Proofs.YtokjpnlmkecleaaGreatDoor

namespace Go.Proofs.YtokjpnlmkecleaaGreatDoor
open Go.RowKit

theorem cleanR_bd (r : Int) : 0 ≤ cleanR r ∧ cleanR r ≤ 1114111 := by
  unfold cleanR
  split
  · omega
  · exact shownI_bd r
theorem cleanF_all : ∀ (f : Nat) (l : List Int), ∀ x ∈ cleanF f l, 0 ≤ x ∧ x ≤ 1114111
  | 0, l => by simp [cleanF]
  | f + 1, l => by
    intro x hx
    rw [cleanF] at hx
    split at hx
    · simp at hx
    · rcases List.mem_cons.1 hx with rfl | h
      · exact cleanR_bd _
      · exact cleanF_all f _ x h
theorem cleanL_i32 (l : List Int) : I32s (cleanL l) := fun x hx => by
  have := cleanF_all l.length l x hx
  omega
theorem sumR_app (cs : List (List Int × Int)) (c : List Int × Int) : ∀ k, k ≤ cs.length → sumR (cs ++ [c]) k = sumR cs k
  | 0, _ => rfl
  | k + 1, h => by
    rw [sumR, sumR, sumR_app cs c k (by omega), cR_push]
    rw [if_neg (by omega)]
theorem sumR_set (cs : List (List Int × Int)) (c : List Int × Int) (i : Nat) : ∀ k, k ≤ i → sumR (cs.set i c) k = sumR cs k
  | 0, _ => rfl
  | k + 1, h => by
    rw [sumR, sumR, sumR_set cs c i k (by omega)]
    have : cR (cs.set i c) k = cR cs k := by
      unfold cR
      rw [List.getElem?_set_ne (by omega)]
    rw [this]
theorem clF_sum (xs : List Int) : ∀ k, sumR (clF xs k) (clF xs k).length ≤ k + 1
  | 0 => by simp [clF, sumR]
  | k + 1 => by
    have ih := clF_sum xs k
    rw [clF, clStep]
    split
    · rw [List.length_append, show [([shownI (at0 xs k)], wid (shownI (at0 xs k)))].length = 1 from rfl, sumR, sumR_app _ _ _ (Nat.le_refl _), cR_push, if_pos rfl]
      simp; omega
    · split
      · simp [sumR, cR]
      · rename_i h1 h2
        obtain ⟨m, hm⟩ : ∃ m, (clF xs k).length = m + 1 := ⟨(clF xs k).length - 1, by omega⟩
        rw [List.length_set, hm, sumR, show m + 1 - 1 = m by omega, sumR_set _ _ _ _ (Nat.le_refl _), cR_set _ _ _ _ (by omega), if_pos rfl]
        rw [hm, sumR] at ih
        simp; omega
theorem clF_i32 (xs : List Int) : ∀ k j, I32s (cR (clF xs k) j)
  | 0, j => by intro x hx; simp [clF, cR] at hx
  | k + 1, j => by
    have ih := clF_i32 xs k
    have hs := shownI_bd (at0 xs k)
    rw [clF, clStep]
    split
    · rw [cR_push]; split
      · intro x hx; simp at hx; omega
      · exact ih j
    · split
      · rename_i h1 h2
        by_cases hj : j = 0
        · subst hj; intro x hx; simp [cR] at hx; omega
        · intro x hx; simp [cR, List.getElem?_eq_none (show [(([9676, shownI (at0 xs k)] : List Int), (1 : Int))].length ≤ j by simp; omega)] at hx
      · rename_i h1 h2
        rw [cR_set _ _ _ _ (by omega)]
        split
        · intro x hx
          rcases List.mem_append.1 hx with h | h
          · exact ih _ x h
          · simp at h; omega
        · exact ih j
theorem clusC_fit (xs : List Int) (h : xs.length ≤ 8000000) : (clusC xs).length + sumR (clusC xs) (clusC xs).length ≤ 16777216 := by
  have := clF_len xs xs.length
  have := clF_sum xs xs.length
  unfold clusC; omega
/-- The settled text of bytes. -/
def settleL (bs : List Int) : List Int := textC (clusC (cleanL bs))
theorem txR_bytes (xs : List Int) : ∀ k, Bytes (txR xs k)
  | 0 => by intro x hx; simp [txR] at hx
  | k + 1 => by
    intro x hx
    rw [txR] at hx
    rcases List.mem_append.1 hx with h | h
    · exact txR_bytes xs k x h
    · exact encR_bytes _ x h
theorem txT_bytes (cs : List (List Int × Int)) : ∀ k, Bytes (txT cs k)
  | 0 => by intro x hx; simp [txT] at hx
  | k + 1 => by
    intro x hx
    rw [txT] at hx
    rcases List.mem_append.1 hx with h | h
    · exact txT_bytes cs k x h
    · exact txR_bytes _ _ x h
theorem settleL_bytes (bs : List Int) : Bytes (settleL bs) := txT_bytes _ _

theorem run_s2i {P : Program} (w : World) (src dst e : TypeId) (hs : P.underlying src = some .string) (hd : P.underlying dst = some (.slice e)) (he : P.underlying e = some (.int .u8)) (zs : List Int) (hz : Bytes zs) :
    ∃ v W', (convert src dst (.string (toBA zs))).run P w = .ok v W' ∧ IntsAt W' .u8 v zs ∧ Ext w W' := by
  have hr := run_bytes_of_string (P := P) w src dst e (toBA zs) hs hd he
  rw [toBA_size] at hr
  obtain ⟨cap, W', h1, h2, h3, h4⟩ := run_s2b (P := P) w src dst e hs hd he zs hz
  have h5 := h1
  rw [hr] at h5
  injection h5 with h6 h7
  injection h6 with h8 h9 h10
  refine ⟨_, _, h1, ⟨_, _, rfl, ?_, fun hp => ⟨_, _, rfl, fun j hj => ?_⟩⟩, h2⟩
  · rw [← h10]; exact grownCap_ge w zs.length 0 e
  · have h11 := h4 j (.int .u8 (at0 zs j)) (by simp [at0_lt hj])
    rw [Addr.add_lit] at h11
    exact h11

set_option maxRecDepth 10000 in
set_option maxHeartbeats 1000000 in
theorem specSettle_any (bs : List Int) (hb : Bytes bs) (w : World) (hl : bs.length ≤ 8000000) :
    Calls Tryz.prog 58 #[.string (toBA bs)] w fun e w' => e = .returned (.string (toBA (settleL bs))) ∧ Ext w w' := by
  obtain ⟨v0, w0, hrun, h0, E0⟩ := run_s2i (P := Tryz.prog) w _ _ _ Tryz.underlying9 Tryz.underlying22 Tryz.underlying5 bs hb
  have hcl := cleanL_len bs
  have H0 := hide h0
  go_enter Tryz.func58, Tryz.ntmps58
  go_wp2_with fail
  refine (specClean_any bs hb v0 w0 (unhide H0) (by omega)).mono ?_
  rintro e w1 ⟨v1, rfl, o1, E1⟩
  go_wp2_with fail
  refine (specClusters_any v1 (cleanL bs) w1 (ints_of_owns o1) (cleanL_i32 bs) (by omega)).mono ?_
  rintro e w2 ⟨v2, rs2, rfl, o2, E2⟩
  have O2 := hide o2
  clear o1 o2
  go_wp2_with fail
  refine (specTextOf_any v2 (clusC (cleanL bs)) w2 (unhide O2).cls (clusC_fit _ (by omega)) (fun j _ => clF_i32 _ _ j)).mono ?_
  rintro e w3 ⟨rfl, E3⟩
  go_wp2
  go_ret
  exact ⟨rfl, ((E0.trans E1).trans E2).trans E3⟩
end Go.Proofs.YtokjpnlmkecleaaGreatDoor

namespace Go.Proofs.YtokjpnlmkecleaaGreatDoor
open Go.RowKit

theorem valid_or {r : Int} (h : Utf8.valid r = true) : (0 ≤ r ∧ r ≤ 127) ∨ (128 ≤ r ∧ r ≤ 2047) ∨ ((2048 ≤ r ∧ r < 55296) ∨ (57343 < r ∧ r ≤ 65535)) ∨ (65536 ≤ r ∧ r ≤ 1114111) := by
  have hb := valid_bd h
  by_cases hs : 55296 ≤ r ∧ r ≤ 57343
  · exfalso
    unfold Utf8.valid at h
    simp at h
    omega
  · omega
theorem dec_enc (r : Int) (h : Utf8.valid r = true) (rest : List Int) : decL (encR r ++ rest) = (r, (encR r).length) := by
  rcases valid_or h with h1 | h1 | h1 | h1
  · rw [encR_one h1.1 h1.2]
    have a0 : at0 ([r] ++ rest) 0 = r := by simp [at0]
    unfold decL
    simp only [a0]
    rw [if_pos (by omega)]
    rfl
  · rw [encR_two h1.1 h1.2]
    obtain ⟨l, hl⟩ : ∃ l, l = [192 + r / 64, 128 + r % 64] ++ rest := ⟨_, rfl⟩
    have a0 : at0 l 0 = 192 + r / 64 := by rw [hl]; simp [at0]
    have a1 : at0 l 1 = 128 + r % 64 := by rw [hl]; simp [at0]
    have c1 : cont l 1 = true := by unfold cont; rw [a1, hl]; simp; omega
    have hv : v2 l = r := by unfold v2; rw [a0, a1]; omega
    rw [← hl]
    unfold decL
    rw [if_neg (by omega), if_pos ⟨by omega, c1⟩, hv, if_pos (by omega)]
    rfl
  · rw [encR_three h1]
    obtain ⟨l, hl⟩ : ∃ l, l = [224 + r / 4096, 128 + r / 64 % 64, 128 + r % 64] ++ rest := ⟨_, rfl⟩
    have a0 : at0 l 0 = 224 + r / 4096 := by rw [hl]; simp [at0]
    have a1 : at0 l 1 = 128 + r / 64 % 64 := by rw [hl]; simp [at0]
    have a2 : at0 l 2 = 128 + r % 64 := by rw [hl]; simp [at0]
    have c1 : cont l 1 = true := by unfold cont; rw [a1, hl]; simp; omega
    have c2 : cont l 2 = true := by unfold cont; rw [a2, hl]; simp; omega
    have hv : v3 l = r := by unfold v3; rw [a0, a1, a2]; omega
    rw [← hl]
    unfold decL
    rw [if_neg (by omega), if_neg (by omega), if_pos ⟨by omega, c1, c2⟩, hv, if_pos ⟨by omega, h⟩]
    rfl
  · rw [encR_four h1.1 h1.2]
    obtain ⟨l, hl⟩ : ∃ l, l = [240 + r / 262144, 128 + r / 4096 % 64, 128 + r / 64 % 64, 128 + r % 64] ++ rest := ⟨_, rfl⟩
    have a0 : at0 l 0 = 240 + r / 262144 := by rw [hl]; simp [at0]
    have a1 : at0 l 1 = 128 + r / 4096 % 64 := by rw [hl]; simp [at0]
    have a2 : at0 l 2 = 128 + r / 64 % 64 := by rw [hl]; simp [at0]
    have a3 : at0 l 3 = 128 + r % 64 := by rw [hl]; simp [at0]
    have c1 : cont l 1 = true := by unfold cont; rw [a1, hl]; simp; omega
    have c2 : cont l 2 = true := by unfold cont; rw [a2, hl]; simp; omega
    have c3 : cont l 3 = true := by unfold cont; rw [a3, hl]; simp; omega
    have hv : v4 l = r := by unfold v4; rw [a0, a1, a2, a3]; omega
    rw [← hl]
    unfold decL
    rw [if_neg (by omega), if_neg (by omega), if_neg (by omega), if_pos ⟨by omega, c1, c2, c3⟩, hv, if_pos ⟨by omega, h⟩]
    rfl
/-- A rune that Clean may give. -/
def CleanR (r : Int) : Prop := Utf8.valid r = true ∧ 32 ≤ r ∧ ¬ (127 ≤ r ∧ r ≤ 159)
theorem CleanR.shown {r : Int} (h : CleanR r) : shownI r = r := by
  unfold shownI
  rw [if_neg]
  rintro (h1 | h1 | h1)
  · rw [h.1] at h1; cases h1
  · have := h.2.1; omega
  · exact h.2.2 h1
theorem CleanR.clean {r : Int} (h : CleanR r) : cleanR r = r := by
  unfold cleanR
  rw [if_neg (by have := h.2.1; omega), h.shown]
theorem cleanR_shown (r : Int) : CleanR (shownI r) := by
  unfold shownI
  split
  · exact ⟨by decide, by omega, by omega⟩
  · rename_i h
    refine ⟨?_, by omega, by omega⟩
    cases hv : Utf8.valid r
    · exact absurd (.inl hv) h
    · rfl
theorem cleanR_clean (r : Int) : CleanR (cleanR r) := by
  unfold cleanR
  split
  · exact ⟨by decide, by omega, by omega⟩
  · exact cleanR_shown r
theorem cleanF_mem : ∀ (f : Nat) (l : List Int), ∀ x ∈ cleanF f l, CleanR x
  | 0, l => by simp [cleanF]
  | f + 1, l => by
    intro x hx
    rw [cleanF] at hx
    split at hx
    · simp at hx
    · rcases List.mem_cons.1 hx with rfl | h
      · exact cleanR_clean _
      · exact cleanF_mem f _ x h
theorem cleanL_mem (l : List Int) : ∀ x ∈ cleanL l, CleanR x := cleanF_mem _ _
/-- The bytes of runes. -/
def encA : List Int → List Int
  | [] => []
  | x :: xs => encR x ++ encA xs
theorem encA_app (xs ys : List Int) : encA (xs ++ ys) = encA xs ++ encA ys := by
  induction xs with
  | nil => rfl
  | cons x xs ih => simp [encA, ih]
theorem encR_pos (r : Int) : 0 < (encR r).length := by
  unfold encR encL
  split
  · repeat' split
    all_goals simp
  · simp
theorem clean_enc : ∀ (xs : List Int), (∀ x ∈ xs, CleanR x) → cleanL (encA xs) = xs
  | [], _ => cleanL_nil _ rfl
  | x :: xs, h => by
    have hx := h x (by simp)
    have hp := encR_pos x
    rw [encA, cleanL_step _ (by simp; omega), dec_enc x hx.1]
    simp only
    rw [hx.clean, List.drop_left, clean_enc xs (fun y hy => h y (by simp [hy]))]
/-- All runes of clusters. -/
def flat : List (List Int × Int) → List Int
  | [] => []
  | c :: cs => c.1 ++ flat cs
theorem flat_app (xs ys : List (List Int × Int)) : flat (xs ++ ys) = flat xs ++ flat ys := by
  induction xs with
  | nil => rfl
  | cons x xs ih => simp [flat, ih]
theorem txR_all (xs : List Int) : ∀ k, k ≤ xs.length → txR xs k = encA (xs.take k)
  | 0, _ => by simp [txR, encA]
  | k + 1, h => by
    rw [txR, txR_all xs k (by omega), List.take_succ_eq_append_getElem (by omega), encA_app]
    simp [encA, at0, show k < xs.length by omega]
theorem txT_all (cs : List (List Int × Int)) : ∀ k, k ≤ cs.length → txT cs k = encA (flat (cs.take k))
  | 0, _ => by simp [txT, flat, encA]
  | k + 1, h => by
    rw [txT, txT_all cs k (by omega), List.take_succ_eq_append_getElem (by omega), flat_app, encA_app, txR_all _ _ (Nat.le_refl _), List.take_length]
    simp [flat, cR, show k < cs.length by omega]
theorem textC_flat (cs : List (List Int × Int)) : textC cs = encA (flat cs) := by
  rw [textC, txT_all cs cs.length (Nat.le_refl _), List.take_length]
theorem flat_set (cs : List (List Int × Int)) (x d : Int) (h : 0 < cs.length) : flat (cs.set (cs.length - 1) (cR cs (cs.length - 1) ++ [x], d)) = flat cs ++ [x] := by
  obtain ⟨ys, y, rfl⟩ : ∃ ys y, cs = ys ++ [y] := ⟨cs.dropLast, cs.getLast (by intro e; simp [e] at h), (List.dropLast_concat_getLast _).symm⟩
  have : (ys ++ [y]).length - 1 = ys.length := by simp
  rw [this, List.set_append_right _ _ (Nat.le_refl _), Nat.sub_self]
  simp [flat_app, flat, cR]
/-- With U+25CC in front where the first has no width. -/
def fl (xs : List Int) : List Int := if xs = [] then [] else if 0 < wid (at0 xs 0) then xs else 9676 :: xs
theorem clF_flat (xs : List Int) : ∀ k, k ≤ xs.length → (clF xs k).length = 0 ∧ k = 0 ∨ 0 < (clF xs k).length ∧ 0 < k ∧ flat (clF xs k) = fl ((xs.take k).map shownI)
  | 0, _ => .inl ⟨rfl, rfl⟩
  | k + 1, h => by
    right
    have hk : k < xs.length := by omega
    have ht : (xs.take (k + 1)).map shownI = (xs.take k).map shownI ++ [shownI (at0 xs k)] := by
      rw [List.take_succ_eq_append_getElem hk, List.map_append]
      simp [at0, hk]
    rcases clF_flat xs k (by omega) with ⟨h1, h2⟩ | ⟨h1, h2, h3⟩
    · subst h2
      rw [clF, clStep]
      have e0 : clF xs 0 = [] := rfl
      rw [ht, e0]
      by_cases hw : 0 < wid (shownI (at0 xs 0))
      · rw [if_pos hw]
        simp [flat, fl, at0] at hw ⊢
        exact hw
      · rw [if_neg hw]
        simp [flat, fl, at0] at hw ⊢
        exact hw
    · have hf : ∀ y, fl ((xs.take k).map shownI ++ [y]) = fl ((xs.take k).map shownI) ++ [y] := by
        intro y
        have hne : (xs.take k).map shownI ≠ [] := by
          intro e
          have h9 := congrArg List.length e
          rw [List.length_map, List.length_take, List.length_nil] at h9
          omega
        have ha : at0 ((xs.take k).map shownI ++ [y]) 0 = at0 ((xs.take k).map shownI) 0 := by
          unfold at0
          rw [List.getElem?_append_left (by simp; omega)]
        unfold fl
        rw [if_neg (by simp), if_neg hne, ha]
        split <;> simp
      rw [clF, clStep, ht, hf]
      by_cases hw : 0 < wid (shownI (at0 xs k))
      · rw [if_pos hw]
        refine ⟨by simp, by omega, ?_⟩
        rw [flat_app, h3]
        simp [flat]
      · rw [if_neg hw, if_neg (by omega)]
        refine ⟨by simpa using h1, by omega, ?_⟩
        rw [flat_set _ _ _ h1, h3]
theorem clus_flat (xs : List Int) (h : ∀ x ∈ xs, CleanR x) : flat (clusC xs) = fl xs := by
  have hm : xs.map shownI = xs := by
    conv => rhs; rw [← List.map_id xs]
    exact List.map_congr_left fun x hx => (h x hx).shown
  unfold clusC
  rcases clF_flat xs xs.length (Nat.le_refl _) with ⟨h1, h2⟩ | ⟨_, _, h3⟩
  · have e : xs = [] := List.eq_nil_of_length_eq_zero h2
    subst e
    rfl
  · rw [h3, List.take_length, hm]
theorem fl_clean (xs : List Int) (h : ∀ x ∈ xs, CleanR x) : ∀ x ∈ fl xs, CleanR x := by
  unfold fl
  split
  · simp
  · split
    · exact h
    · intro x hx
      rcases List.mem_cons.1 hx with rfl | hx
      · exact ⟨by decide, by omega, by omega⟩
      · exact h x hx
theorem settleL_enc (bs : List Int) : settleL bs = encA (fl (cleanL bs)) := by
  rw [settleL, textC_flat, clus_flat _ (cleanL_mem bs)]
end Go.Proofs.YtokjpnlmkecleaaGreatDoor

namespace Go.Proofs.YtokjpnlmkecleaaGreatDoor
open Go.RowKit

/-- Clusters as a fold. -/
def clG (cs : List (List Int × Int)) (x : Int) : List (List Int × Int) := clStep cs (shownI x)
theorem clF_fold (xs : List Int) : ∀ k, k ≤ xs.length → clF xs k = (xs.take k).foldl clG []
  | 0, _ => rfl
  | k + 1, h => by
    rw [clF, clF_fold xs k (by omega), List.take_succ_eq_append_getElem (by omega), List.foldl_append]
    simp [clG, at0, show k < xs.length by omega]
theorem clus_fold (xs : List Int) : clusC xs = xs.foldl clG [] := by
  unfold clusC
  rw [clF_fold xs _ (Nat.le_refl _), List.take_length]
theorem clStep_pos (cs : List (List Int × Int)) (x : Int) : 0 < (clStep cs x).length := by
  unfold clStep
  repeat' split
  all_goals simp
  all_goals omega
theorem cR_last (A cs : List (List Int × Int)) (h : 0 < cs.length) : cR (A ++ cs) ((A ++ cs).length - 1) = cR cs (cs.length - 1) ∧ cW (A ++ cs) ((A ++ cs).length - 1) = cW cs (cs.length - 1) := by
  have e : (A ++ cs).length - 1 = A.length + (cs.length - 1) := by simp; omega
  constructor
  · unfold cR
    rw [e, List.getElem?_append_right (by omega), Nat.add_sub_cancel_left]
  · unfold cW
    rw [e, List.getElem?_append_right (by omega), Nat.add_sub_cancel_left]
theorem clStep_app (A cs : List (List Int × Int)) (x : Int) (h : 0 < cs.length) : clStep (A ++ cs) x = A ++ clStep cs x := by
  obtain ⟨h1, h2⟩ := cR_last A cs h
  unfold clStep
  split
  · rw [List.append_assoc]
  · rw [if_neg (by rw [List.length_append]; omega), if_neg (by omega), h1, h2]
    have e : (A ++ cs).length - 1 = A.length + (cs.length - 1) := by simp; omega
    rw [e, List.set_append_right _ _ (by omega), Nat.add_sub_cancel_left]
theorem fold_app (A : List (List Int × Int)) : ∀ (ys : List Int) (cs : List (List Int × Int)), 0 < cs.length → ys.foldl clG (A ++ cs) = A ++ ys.foldl clG cs
  | [], _, _ => rfl
  | y :: ys, cs, h => by
    rw [List.foldl_cons, List.foldl_cons, clG, clStep_app A cs _ h]
    exact fold_app A ys _ (clStep_pos _ _)
/-- A cluster that its own runes give. -/
def GoodC (c : List Int × Int) : Prop := c.1.foldl clG [] = [c]
theorem goodC_one (x : Int) (h : 0 < wid (shownI x)) : GoodC ([shownI x], wid (shownI x)) := by
  unfold GoodC
  simp only [List.foldl_cons, List.foldl_nil, clG, clStep]
  rw [(cleanR_shown x).shown, if_pos h]
  rfl
theorem goodC_more (c : List Int × Int) (x : Int) (hc : GoodC c) (h : ¬ 0 < wid (shownI x)) : GoodC (c.1 ++ [shownI x], c.2) := by
  unfold GoodC at *
  rw [List.foldl_append, hc]
  simp only [List.foldl_cons, List.foldl_nil, clG, clStep]
  rw [(cleanR_shown x).shown, if_neg h]
  simp [cR, cW]
theorem goodC_ring (x : Int) (h : ¬ 0 < wid (shownI x)) : GoodC ([9676, shownI x], 1) := by
  have h0 : GoodC ([9676], 1) := by
    unfold GoodC
    simp only [List.foldl_cons, List.foldl_nil, clG, clStep]
    decide
  exact goodC_more ([9676], 1) x h0 h
theorem clG_good (cs : List (List Int × Int)) (x : Int) (h : ∀ c ∈ cs, GoodC c) : ∀ c ∈ clG cs x, GoodC c := by
  intro c hc
  unfold clG clStep at hc
  split at hc
  · rename_i hw
    rcases List.mem_append.1 hc with hc | hc
    · exact h c hc
    · simp at hc
      rw [hc]
      exact goodC_one x hw
  · rename_i hw
    split at hc
    · simp at hc
      rw [hc]
      exact goodC_ring x hw
    · rename_i h0
      rcases List.mem_or_eq_of_mem_set hc with hc | hc
      · exact h c hc
      · rw [hc]
        have hl : cs.length - 1 < cs.length := by omega
        have hg := h cs[cs.length - 1] (List.getElem_mem hl)
        have := goodC_more _ x hg hw
        simpa [cR, cW, hl] using this
theorem fold_good : ∀ (ys : List Int) (cs : List (List Int × Int)), (∀ c ∈ cs, GoodC c) → ∀ c ∈ ys.foldl clG cs, GoodC c
  | [], _, h => h
  | y :: ys, cs, h => by
    rw [List.foldl_cons]
    exact fold_good ys _ (clG_good cs y h)
theorem clus_good (xs : List Int) : ∀ c ∈ clusC xs, GoodC c := by
  rw [clus_fold]
  exact fold_good xs [] (by simp)
/-- More runes behind a text change its last cluster alone. -/
theorem clus_more (xs ys : List Int) (A : List (List Int × Int)) (c : List Int × Int) (h : clusC xs = A ++ [c]) : clusC (xs ++ ys) = A ++ clusC (c.1 ++ ys) := by
  have hg := clus_good xs c (by rw [h]; simp)
  rw [clus_fold] at h ⊢
  rw [clus_fold, List.foldl_append, List.foldl_append, h, hg, fold_app A ys [c] (by simp)]
theorem clus_nil (xs : List Int) (h : clusC xs = []) : xs = [] := by
  rcases clF_flat xs xs.length (Nat.le_refl _) with ⟨_, h2⟩ | ⟨h1, _, _⟩
  · exact List.eq_nil_of_length_eq_zero h2
  · have : (clusC xs).length = 0 := by rw [h]; rfl
    unfold clusC at this
    omega
end Go.Proofs.YtokjpnlmkecleaaGreatDoor

namespace Go.Proofs.YtokjpnlmkecleaaGreatDoor
open Go.RowKit

section
variable {w w' : World} {base : Nat} {v : Value} {rv : Nat → Value} {rs : Nat → List Value} {R : Nat} {cs : Nat → List (List Int × Int)}
theorem OwnCls.mono {base' : Nat} {r : Value} {rr : List Value} {c : List (List Int × Int)} (h : OwnCls w base r rr c) (hb : base' ≤ base) : OwnCls w base' r rr c := by
  obtain ⟨h0, ⟨ys, h1, h2⟩, h3, h4⟩ := h
  exact ⟨h0, ⟨ys, owns_mono h1 hb, h2⟩, fun j hj => owns_mono (h3 j hj) hb, h4⟩
end
end Go.Proofs.YtokjpnlmkecleaaGreatDoor

namespace Go.Proofs.YtokjpnlmkecleaaGreatDoor
open Go.RowKit

end Go.Proofs.YtokjpnlmkecleaaGreatDoor

namespace Go.Proofs.YtokjpnlmkecleaaGreatDoor
open Go.RowKit

end Go.Proofs.YtokjpnlmkecleaaGreatDoor

namespace Go.Proofs.YtokjpnlmkecleaaGreatDoor
open Go.RowKit

end Go.Proofs.YtokjpnlmkecleaaGreatDoor

namespace Go.Proofs.YtokjpnlmkecleaaGreatDoor
open Go.RowKit

end Go.Proofs.YtokjpnlmkecleaaGreatDoor

namespace Go.Proofs.YtokjpnlmkecleaaGreatDoor
open Go.RowKit

end Go.Proofs.YtokjpnlmkecleaaGreatDoor

namespace Go.Proofs.YtokjpnlmkecleaaGreatDoor
open Go.RowKit

theorem clF_wid (xs : List Int) : ∀ k j, 0 ≤ cW (clF xs k) j ∧ cW (clF xs k) j ≤ 2
  | 0, j => by simp [clF, cW]
  | k + 1, j => by
    have ih := clF_wid xs k
    have hw := wid_bd (shownI (at0 xs k))
    rw [clF, clStep]
    split
    · rw [cW_push]; split
      · exact hw
      · exact ih j
    · split
      · by_cases hj : j = 0
        · subst hj; simp [cW]
        · simp [cW, List.getElem?_eq_none (show [(([9676, shownI (at0 xs k)] : List Int), (1 : Int))].length ≤ j by simp; omega)]
      · rename_i h1 h2
        rw [cW_set _ _ _ _ (by omega)]
        split
        · exact ih _
        · exact ih j
theorem textC_app (xs ys : List (List Int × Int)) : textC (xs ++ ys) = textC xs ++ textC ys := by
  rw [textC_flat, textC_flat, textC_flat, flat_app, encA_app]
theorem sub_R (cs : List (List Int × Int)) (s e j : Nat) (hj : s + j < e) : cR ((cs.take e).drop s) j = cR cs (s + j) ∧ cW ((cs.take e).drop s) j = cW cs (s + j) := by
  unfold cR cW
  rw [List.getElem?_drop, List.getElem?_take, if_pos hj]
  exact ⟨rfl, rfl⟩
theorem sumR_sub (cs : List (List Int × Int)) (s e : Nat) : ∀ j, s + j ≤ e → sumR ((cs.take e).drop s) j + sumR cs s = sumR cs (s + j)
  | 0, _ => by simp [sumR]
  | j + 1, h => by
    have := sumR_sub cs s e j (by omega)
    rw [sumR, (sub_R cs s e j (by omega)).1, ← Nat.add_assoc, sumR]
    omega
end Go.Proofs.YtokjpnlmkecleaaGreatDoor

namespace Go.Proofs.YtokjpnlmkecleaaGreatDoor
open Go.RowKit

/-- The clusters of a text. -/
def cutC (bs : List Int) : List (List Int × Int) := clusC (cleanL bs)
/-- Every cluster has a width of 1 or 2. -/
def Wides (cs : List (List Int × Int)) : Prop := ∀ j, j < cs.length → 1 ≤ cW cs j ∧ cW cs j ≤ 2
theorem cW_none (cs : List (List Int × Int)) (j : Nat) (h : cs.length ≤ j) : cW cs j = 0 := by simp [cW, List.getElem?_eq_none h]
theorem Wides.all {cs : List (List Int × Int)} (h : Wides cs) (j : Nat) : 0 ≤ cW cs j ∧ cW cs j ≤ 2 := by
  by_cases hj : j < cs.length
  · have := h j hj; omega
  · rw [cW_none cs j (by omega)]; omega
theorem cW_app (xs ys : List (List Int × Int)) (j : Nat) : cW (xs ++ ys) j = if j < xs.length then cW xs j else cW ys (j - xs.length) := by
  unfold cW
  split
  · rename_i h; rw [List.getElem?_append_left h]
  · rename_i h; rw [List.getElem?_append_right (by omega)]
theorem cR_app (xs ys : List (List Int × Int)) (j : Nat) : cR (xs ++ ys) j = if j < xs.length then cR xs j else cR ys (j - xs.length) := by
  unfold cR
  split
  · rename_i h; rw [List.getElem?_append_left h]
  · rename_i h; rw [List.getElem?_append_right (by omega)]
theorem Wides.app {xs ys : List (List Int × Int)} (hx : Wides xs) (hy : Wides ys) : Wides (xs ++ ys) := by
  intro j hj
  rw [cW_app]
  split
  · rename_i h; exact hx j h
  · rename_i h; simp at hj; exact hy _ (by omega)
theorem clF_pos (xs : List Int) : ∀ k j, j < (clF xs k).length → 1 ≤ cW (clF xs k) j
  | 0, j, h => by simp [clF] at h
  | k + 1, j, h => by
    have ih := clF_pos xs k
    rw [clF, clStep] at h ⊢
    split
    · rename_i h1
      rw [if_pos h1] at h
      rw [cW_push]
      split
      · omega
      · rename_i h2; simp at h; exact ih j (by omega)
    · rename_i h1
      rw [if_neg h1] at h
      split
      · rename_i h2
        rw [if_pos h2] at h
        simp at h
        subst h
        simp [cW]
      · rename_i h2
        rw [if_neg h2] at h
        simp at h
        rw [cW_set _ _ _ _ (by omega)]
        split
        · exact ih _ (by omega)
        · exact ih j h
theorem cutC_wides (bs : List Int) : Wides (cutC bs) := fun j hj => ⟨clF_pos _ _ j hj, (clF_wid _ _ j).2⟩
section
variable (cs : List (List Int × Int)) (cols : Nat) (p rows : Nat)
end
variable {cs : List (List Int × Int)} {cols p : Nat}
end Go.Proofs.YtokjpnlmkecleaaGreatDoor

namespace Go.Proofs.YtokjpnlmkecleaaGreatDoor
open Go.RowKit

theorem flat_clus (xs : List Int) : flat (clusC xs) = fl (xs.map shownI) := by
  unfold clusC
  rcases clF_flat xs xs.length (Nat.le_refl _) with ⟨h1, h2⟩ | ⟨_, _, h3⟩
  · have e : xs = [] := List.eq_nil_of_length_eq_zero h2
    subst e
    rfl
  · rw [h3, List.take_length]
theorem flat_clean (xs : List Int) : ∀ x ∈ flat (clusC xs), CleanR x := by
  rw [flat_clus]
  refine fl_clean _ (fun x hx => ?_)
  obtain ⟨y, _, rfl⟩ := List.mem_map.1 hx
  exact cleanR_shown y
/-- The runes of the text of clusters. -/
theorem clean_text (xs : List Int) : cleanL (textC (clusC xs)) = flat (clusC xs) := by
  rw [textC_flat, clean_enc _ (flat_clean xs)]
theorem settled_flat {L : List Int} (h : settleL L = L) : flat (cutC L) = cleanL L := by
  have h1 := clean_text (cleanL L)
  rw [show textC (clusC (cleanL L)) = L from h] at h1
  exact h1.symm
theorem settled_enc {L : List Int} (h : settleL L = L) : encA (cleanL L) = L := by
  rw [← settled_flat h, ← textC_flat]
  exact h
theorem settled_fl {L : List Int} (h : settleL L = L) : fl (cleanL L) = cleanL L := by
  have h1 := settled_flat h
  unfold cutC at h1
  rwa [clus_flat _ (cleanL_mem L)] at h1
theorem fl_app {xs ys : List Int} (hx : fl xs = xs) (hy : fl ys = ys) : fl (xs ++ ys) = xs ++ ys := by
  by_cases e : xs = []
  · subst e
    simpa using hy
  · unfold fl at hx ⊢
    rw [if_neg e] at hx
    have h0 : 0 < xs.length := List.length_pos_iff.2 e
    have ha : at0 (xs ++ ys) 0 = at0 xs 0 := by
      unfold at0
      rw [List.getElem?_append_left h0]
    have hw : 0 < wid (at0 xs 0) := by
      by_cases hw : 0 < wid (at0 xs 0)
      · exact hw
      · rw [if_neg hw] at hx
        have := congrArg List.length hx
        simp at this
    rw [if_neg (by simp [e]), ha, if_pos hw]
/-- A settled text with another behind it. -/
theorem yank_text {L K : List Int} (hL : settleL L = L) (hK : settleL K = K) : textC (clusC (cleanL L ++ cleanL K)) = L ++ K ∧ flat (clusC (cleanL L ++ cleanL K)) = cleanL L ++ cleanL K := by
  have h1 : flat (clusC (cleanL L ++ cleanL K)) = cleanL L ++ cleanL K := by
    rw [clus_flat _ (fun x hx => (List.mem_append.1 hx).elim (cleanL_mem L x) (cleanL_mem K x)), fl_app (settled_fl hL) (settled_fl hK)]
  refine ⟨?_, h1⟩
  rw [textC_flat, h1, encA_app, settled_enc hL, settled_enc hK]
end Go.Proofs.YtokjpnlmkecleaaGreatDoor

namespace Go.Proofs.YtokjpnlmkecleaaGreatDoor
open Go.RowKit

section
variable {P : Program} {w : World}
end
/-- What an append may take: a slice (nil too) of m elements that reads as these cells. -/
def Src (w : World) (size : Nat) (x : Value) (m : Nat) (news : List Value) : Prop :=
  news.length = m * size ∧ (∀ u ∈ news, u.oneCell' = true) ∧ ((∃ c, x = .slice none 0 c ∧ m = 0) ∨ ∃ ad c, x = .slice (some ad) m c ∧ ∀ j u, news[j]? = some u → w.cell? (ad.add j) = some u)
theorem Src.ext {w w' : World} {size : Nat} {x : Value} {m : Nat} {news : List Value} (h : Src w size x m news) (he : Ext w w') : Src w' size x m news := by
  obtain ⟨h1, h2, h3⟩ := h
  refine ⟨h1, h2, ?_⟩
  rcases h3 with h3 | ⟨ad, c, e, h3⟩
  · exact .inl h3
  · exact .inr ⟨ad, c, e, fun j u hj => he.cell (h3 j u hj)⟩
theorem Src.ints {w : World} {k : IntKind} {v : Value} {zs : List Int} (h : IntsAt w k v zs) : Src w 1 v zs.length (zs.map (Value.int k)) := by
  refine ⟨by simp, fun u hu => by obtain ⟨x, _, rfl⟩ := List.mem_map.1 hu; rfl, ?_⟩
  obtain ⟨ao, c, rfl, hc, hx⟩ := h
  by_cases h0 : 0 < zs.length
  · obtain ⟨b, o, rfl, h2⟩ := hx h0
    refine .inr ⟨_, c, rfl, fun j u hj => ?_⟩
    simp only [List.getElem?_map, Option.map_eq_some_iff] at hj
    obtain ⟨x, hx, rfl⟩ := hj
    have hjl : j < zs.length := (List.getElem?_eq_some_iff.1 hx).1
    have := h2 j hjl
    rw [at0, hx] at this
    rw [Addr.add_lit]; simpa using this
  · have e0 : zs = [] := List.eq_nil_of_length_eq_zero (by omega)
    subst e0
    cases ao with
    | none => exact .inl ⟨c, rfl, rfl⟩
    | some ad => exact .inr ⟨ad, c, rfl, fun j u hj => by simp at hj⟩
/-- The elements of a literal slice that the walk has just made. -/
theorem Src.made {w : World} {size : Nat} (zs : List Value) (n : Nat) (t : TypeId) (hl : zs.length = n * size) (h1 : ∀ u ∈ zs, u.oneCell' = true) : Src (w.alloc (.cells zs.toArray t)) size (.slice (some ⟨w.heap.size, 0, none⟩) n n) n zs :=
  ⟨hl, h1, .inr ⟨_, _, rfl, fun j u hj => by rw [Addr.add_lit, Nat.zero_add]; exact cells_of (new_block w _) j u (by simpa using hj)⟩⟩
section
variable {P : Program} {w : World}
theorem run_app_none (base : Nat) (t ty e : TypeId) (i : TypeInfo) (size : Nat) (ht : P.underlying t = some (.slice e)) (hi : P.info? e = some i)
    (v : Value) (n c : Nat) (xs : List Value) (hown : w.ownsRow base e size v n xs) :
    (Builtin.append_ #[t, t] ty #[v, .slice none 0 c]).run P w = .ok v w := by
  rcases hown.2 with ⟨rfl, rfl⟩ | ⟨g, cap, cur, rfl, _, _, hnc, _⟩
  · simp [Builtin.append_, run_underlying ht, sizeOf, typeInfo, hi, Builtin.lenOf, Builtin.firstCells]
  · simp [Builtin.append_, run_underlying ht, sizeOf, typeInfo, hi, Builtin.lenOf, Builtin.firstCells, hnc, storeCells]
/-- append onto an owned row, whatever the source. -/
theorem wp_app {o : Oper} {a : Act} {K : Act → World → Prop} {Q : Exit → Act → World → Prop} (s x : Operand) (t : TypeId)
    (ho : o.op = .call { callee := .builtin .append, args := #[s, x], argTypes := #[t, t] })
    (base : Nat) (e : TypeId) (i : TypeInfo) (z : Value) (size bytes : Nat) (ht : P.underlying t = some (.slice e)) (hi : P.info? e = some i) (hz : i.zero = some z)
    (hsize : i.size = size) (hby : i.bytes = bytes) (hzs : z.cells.size = size) (hsz : 0 < size)
    (v : Value) (n : Nat) (xs : List Value) (hs : a.eval s = v) (hown : w.ownsRow base e size v n xs)
    (y : Value) (m : Nat) (news : List Value) (hx : a.eval x = y) (hsrc : Src w size y m news)
    (h63 : n + m ≤ maxLen) (hbytes : (n + m) * bytes ≤ 140737488355328) (hbase : base ≤ w.heap.size)
    (h : ∀ v' w', w'.ownsRow base e size v' (n + m) (xs ++ news) → w.grownBy w' v.ownBlock → (v' = .slice none 0 0 ↔ v = .slice none 0 0 ∧ m = 0) → K (a.put o.dst v') w') : o.wp P a w K Q := by
  obtain ⟨h1, h2, h3⟩ := hsrc
  rcases h3 with ⟨c, rfl, rfl⟩ | ⟨ad, c, rfl, h3⟩
  · have hn : news = [] := List.eq_nil_of_length_eq_zero (by omega)
    subst hn
    have hr := run_app_none (P := P) (w := w) base t o.type e i size ht hi v n c xs hown
    unfold Oper.wp execOp
    simp only [ho, resolve, invoke, builtin, Sem.run_bind, Sem.run_pure, Result.andThen_ok, List.map_toArray, List.map_cons, List.map_nil, hs, hx, hr]
    exact h v w (by simpa using hown) (World.grownBy.refl w _) (by simp)
  · exact wp_append_own w s x t ho base e i z size bytes ht hi hz hsize hby hzs hsz v n xs hs hown ad m c news hx h1 h3 h2 h63 hbytes hbase h
theorem wpList_app {ops : Array Oper} {rest : List Oper} {o : Oper} {a : Act} {Q : Exit → Act → World → Prop} (hgd : o.guard = none) (s x : Operand) (t : TypeId)
    (ho : o.op = .call { callee := .builtin .append, args := #[s, x], argTypes := #[t, t] })
    (base : Nat) (e : TypeId) (i : TypeInfo) (z : Value) (size bytes : Nat) (ht : P.underlying t = some (.slice e)) (hi : P.info? e = some i) (hz : i.zero = some z)
    (hsize : i.size = size) (hby : i.bytes = bytes) (hzs : z.cells.size = size) (hsz : 0 < size)
    (v : Value) (n : Nat) (xs : List Value) (hs : a.eval s = v) (hown : w.ownsRow base e size v n xs)
    (y : Value) (m : Nat) (news : List Value) (hx : a.eval x = y) (hsrc : Src w size y m news)
    (h63 : n + m ≤ maxLen) (hbytes : (n + m) * bytes ≤ 140737488355328) (hbase : base ≤ w.heap.size)
    (h : ∀ v' w', w'.ownsRow base e size v' (n + m) (xs ++ news) → w.grownBy w' v.ownBlock → (v' = .slice none 0 0 ↔ v = .slice none 0 0 ∧ m = 0) → wpList P ops Q rest (a.put o.dst v') w') : wpList P ops Q (o :: rest) a w :=
  wpList_plain hgd fun _ hK => wp_app s x t ho base e i z size bytes ht hi hz hsize hby hzs hsz v n xs hs hown y m news hx hsrc h63 hbytes hbase fun v' w' h2 h3 h4 => hK _ _ (h v' w' h2 h3 h4)
end
theorem owns_nil (w : World) (base : Nat) (e : TypeId) (size : Nat) : w.ownsRow base e size (.slice none 0 0) 0 [] := ⟨by simp, .inl ⟨rfl, rfl⟩⟩
theorem owns_empty (w : World) (e : TypeId) (size : Nat) : (w.alloc (.cells #[] e)).ownsRow w.heap.size e size (.slice (some ⟨w.heap.size, 0, none⟩) 0 0) 0 [] := ⟨by simp, .inr ⟨w.heap.size, 0, #[], rfl, Nat.le_refl _, new_block w _, Nat.le_refl _, by unfold maxLen; omega, by simp, by simp⟩⟩
end Go.Proofs.YtokjpnlmkecleaaGreatDoor

namespace Go.Proofs.YtokjpnlmkecleaaGreatDoor
open Go.RowKit

/-- A cluster that is a space and nothing more. -/
def spB (xs : List Int) : Bool := decide (xs = [32])
set_option maxRecDepth 10000 in
set_option maxHeartbeats 1000000 in
theorem isSpace_any (v : Value) (d : Int) (xs : List Int) (w : World) (hv : IntsAt w .i32 v xs) :
    Calls Tryz.prog 138 #[.agg #[v, .int .i64 d]] w fun e w' => e = .returned (.bool (spB xs)) ∧ Ext w w' := by
  obtain ⟨ao, ca, rfl, hca, hx⟩ := hv
  by_cases h1 : xs.length = 1
  · obtain ⟨b, off, rfl, hc⟩ := hx (by omega)
    have g1 := hc 0 (by omega)
    obtain ⟨x, rfl⟩ : ∃ x, xs = [x] := List.length_eq_one_iff.1 h1
    have HB := hide (fun o => ((Ext.refl w).alloc o).cell g1)
    have g2 : ∀ o, (w.alloc o).cell? ⟨b, off, none⟩ = some (.int .i32 x) := fun o => (unhide HB) o
    clear hc hx g1
    by_cases h2 : x = 32
    · subst h2
      go_enter Tryz.func138, Tryz.ntmps138
      go_wp2
      go_ret
      exact ⟨rfl, (Ext.refl w).alloc _⟩
    · have HF : Hid ((x == 32) = spB [x]) := hide (by simp [spB, h2])
      go_enter Tryz.func138, Tryz.ntmps138
      go_wp2
      go_ret
      exact ⟨ret_bool (unhide HF), (Ext.refl w).alloc _⟩
  · have HF : Hid (spB xs = false) := hide (by simp [spB]; intro e; rw [e] at h1; simp at h1)
    have h1I : ¬ (xs.length : Int) = 1 := by omega
    clear hx
    go_enter Tryz.func138, Tryz.ntmps138
    go_wp2
    go_ret
    exact ⟨ret_bool (unhide HF).symm, (Ext.refl w).alloc _⟩
set_option maxRecDepth 10000 in
set_option maxHeartbeats 1000000 in
theorem l4Space_any (v : Value) (d : Int) (xs : List Int) (w : World) (hv : IntsAt w .i32 v xs) :
    Calls Tryz.prog 67 #[.agg #[v, .int .i64 d]] w fun e w' => e = .returned (.bool (spB xs)) ∧ Ext w w' := by
  obtain ⟨ao, ca, rfl, hca, hx⟩ := hv
  by_cases h1 : xs.length = 1
  · obtain ⟨b, off, rfl, hc⟩ := hx (by omega)
    have g1 := hc 0 (by omega)
    obtain ⟨x, rfl⟩ : ∃ x, xs = [x] := List.length_eq_one_iff.1 h1
    have HB := hide (fun o => ((Ext.refl w).alloc o).cell g1)
    have g2 : ∀ o, (w.alloc o).cell? ⟨b, off, none⟩ = some (.int .i32 x) := fun o => (unhide HB) o
    clear hc hx g1
    by_cases h2 : x = 32
    · subst h2
      go_enter Tryz.func67, Tryz.ntmps67
      go_wp2
      go_ret
      exact ⟨rfl, (Ext.refl w).alloc _⟩
    · have HF : Hid ((x == 32) = spB [x]) := hide (by simp [spB, h2])
      go_enter Tryz.func67, Tryz.ntmps67
      go_wp2
      go_ret
      exact ⟨ret_bool (unhide HF), (Ext.refl w).alloc _⟩
  · have HF : Hid (spB xs = false) := hide (by simp [spB]; intro e; rw [e] at h1; simp at h1)
    have h1I : ¬ (xs.length : Int) = 1 := by omega
    clear hx
    go_enter Tryz.func67, Tryz.ntmps67
    go_wp2
    go_ret
    exact ⟨ret_bool (unhide HF).symm, (Ext.refl w).alloc _⟩
end Go.Proofs.YtokjpnlmkecleaaGreatDoor

namespace Go.Proofs.YtokjpnlmkecleaaGreatDoor
open Go.RowKit

/-- From i on p holds up to r, and no further. -/
def Sk (p : Nat → Bool) (n i r : Nat) : Prop := i ≤ r ∧ r ≤ n ∧ (∀ j, i ≤ j → j < r → p j = true) ∧ (r < n → p r = false)
theorem Sk.only {p : Nat → Bool} {n i r s : Nat} (h : Sk p n i r) (k : Sk p n i s) : r = s := by
  obtain ⟨h1, h2, h3, h4⟩ := h
  obtain ⟨k1, k2, k3, k4⟩ := k
  by_cases e : r < s
  · have := k3 r h1 e
    rw [h4 (by omega)] at this
    cases this
  · by_cases e2 : s < r
    · have := h3 s k1 e2
      rw [k4 (by omega)] at this
      cases this
    · omega
/-- How far a word goes: spaces, then others. -/
def Wd (p : Nat → Bool) (n r : Nat) : Prop := ∃ m, Sk p n 0 m ∧ Sk (fun j => !p j) n m r
theorem Wd.only {p : Nat → Bool} {n r s : Nat} (h : Wd p n r) (k : Wd p n s) : r = s := by
  obtain ⟨m, h1, h2⟩ := h
  obtain ⟨m', k1, k2⟩ := k
  obtain rfl := h1.only k1
  exact h2.only k2
set_option maxRecDepth 10000 in
set_option maxHeartbeats 2000000 in
theorem l4WordRight_any (v : Value) (cs : List (List Int × Int)) (w : World) (hv : ClsAt w v cs) (hl : cs.length ≤ 16777216) :
    Calls Tryz.prog 64 #[v] w fun e w' => ∃ r : Nat, e = .returned (.int .i64 (r : Int)) ∧ Wd (fun j => spB (cR cs j)) cs.length r ∧ Ext w w' := by
  obtain ⟨rs, ao, ca, rfl, hca, hr, hx⟩ := hv
  have HX := hide hx
  have HR := hide hr
  clear hx hr
  go_enter Tryz.func64, Tryz.ntmps64
  go_wp2
  go_loopw [3] (fun i wr => ∃ (j : Nat), j ≤ cs.length ∧ i = .int .i64 j ∧ Hid (∀ q, q < j → spB (cR cs q) = true) ∧ Ext w wr) (fun i _ => cs.length - (intOf i).toNat)
  case atStart => exact ⟨0, Nat.zero_le _, rfl, hide (fun q hq => by omega), Ext.refl _⟩
  case round =>
    obtain ⟨j, hj, rfl, HJ, hE⟩ := hrel
    by_cases hlt : j < cs.length
    · obtain ⟨b, off, hao, hc⟩ := (unhide HX) (by omega)
      subst hao
      have g1 := hE.cell (hc j hlt).1
      have g2 := hE.cell (hc j hlt).2
      have bj : (j : Int) < (cs.length : Int) := by omega
      have HS := hide (fun W (E : Ext w W) => l4Space_any (rV rs j) (cW cs j) (cR cs j) W (((unhide HR) j hlt).ext E))
      clear hc
      go_wp2_with fail
      refine ((unhide HS) _ hE).mono ?_
      rintro e w1 ⟨rfl, E1⟩
      have hE2 := hE.trans E1
      cases hb : spB (cR cs j) with
      | true =>
        have HJ3 : Hid (∀ q, q < j + 1 → spB (cR cs q) = true) := hide (fun q hq => by
          by_cases e : q = j
          · subst e; exact hb
          · exact (unhide HJ) q (by omega))
        clear HS g1 g2 hb E1
        go_wp2
        go_roundw
        case rel => exact ⟨j + 1, by omega, by go_num, HJ3, hE2⟩
        case measure => simp [intOf]; omega
      | false =>
        have HSK : Hid (Sk (fun j => spB (cR cs j)) cs.length 0 j) := hide ⟨Nat.zero_le _, hj, fun q _ hq => (unhide HJ) q hq, fun _ => hb⟩
        clear HS g1 g2 hb E1 hE
        go_wp2
        go_loopw [3] (fun i wr => ∃ (r : Nat), j ≤ r ∧ r ≤ cs.length ∧ i = .int .i64 r ∧ Hid (∀ q, j ≤ q → q < r → (!spB (cR cs q)) = true) ∧ Ext w wr) (fun i _ => cs.length - (intOf i).toNat)
        case atStart => exact ⟨j, Nat.le_refl _, hj, rfl, hide (fun q h1 h2 => by omega), hE2⟩
        case round =>
          obtain ⟨r, hjr, hr9, rfl, HJ2, hE3⟩ := hrel
          by_cases hlt2 : r < cs.length
          · obtain ⟨b2, off2, hao2, hc2⟩ := (unhide HX) (by omega)
            first | subst hao2 | (obtain ⟨rfl, rfl⟩ := Addr.mk.inj (Option.some.inj hao2) |>.imp id (fun h => h.1))
            have q1 := hE3.cell (hc2 r hlt2).1
            have q2 := hE3.cell (hc2 r hlt2).2
            have bj2 : (r : Int) < (cs.length : Int) := by omega
            have HS2 := hide (l4Space_any (rV rs r) (cW cs r) (cR cs r) _ (((unhide HR) r hlt2).ext hE3))
            clear hc2
            go_wp2_with fail
            refine (unhide HS2).mono ?_
            rintro e w5 ⟨rfl, E5⟩
            have hE5 := hE3.trans E5
            cases hb2 : spB (cR cs r) with
            | false =>
              have HJ3 : Hid (∀ q, j ≤ q → q < r + 1 → (!spB (cR cs q)) = true) := hide (fun q h1 h2 => by
                by_cases e : q = r
                · subst e; rw [hb2]; rfl
                · exact (unhide HJ2) q h1 (by omega))
              clear HS2 q1 q2 hb2 E5
              go_wp2
              go_roundw
              case rel => exact ⟨r + 1, by omega, by omega, by go_num, HJ3, hE5⟩
              case measure => simp [intOf]; omega
            | true =>
              have HW : Hid (Wd (fun j => spB (cR cs j)) cs.length r) := hide ⟨j, unhide HSK, hjr, hr9, unhide HJ2, fun _ => by simp [hb2]⟩
              clear HS2 q1 q2 hb2 E5
              go_wp2
              go_ret
              exact ⟨r, rfl, unhide HW, hE5⟩
          · obtain rfl : r = cs.length := by omega
            have hb7 : ¬ (cs.length : Int) < (cs.length : Int) := by omega
            have HW : Hid (Wd (fun j => spB (cR cs j)) cs.length cs.length) := hide ⟨j, unhide HSK, hjr, hr9, unhide HJ2, fun h => by omega⟩
            go_wp2
            go_ret
            exact ⟨_, rfl, unhide HW, hE3⟩
    · have hb9 : ¬ (j : Int) < (cs.length : Int) := by omega
      have HSK : Hid (Sk (fun j => spB (cR cs j)) cs.length 0 j) := hide ⟨Nat.zero_le _, hj, fun q _ hq => (unhide HJ) q hq, fun h => by omega⟩
      have hE2 := hE
      clear hE
      go_wp2
      go_loopw [3] (fun i wr => ∃ (r : Nat), j ≤ r ∧ r ≤ cs.length ∧ i = .int .i64 r ∧ Hid (∀ q, j ≤ q → q < r → (!spB (cR cs q)) = true) ∧ Ext w wr) (fun i _ => cs.length - (intOf i).toNat)
      case atStart => exact ⟨j, Nat.le_refl _, hj, rfl, hide (fun q h1 h2 => by omega), hE2⟩
      case round =>
        obtain ⟨r, hjr, hr9, rfl, HJ2, hE3⟩ := hrel
        by_cases hlt2 : r < cs.length
        · obtain ⟨b2, off2, hao2, hc2⟩ := (unhide HX) (by omega)
          first | subst hao2 | (obtain ⟨rfl, rfl⟩ := Addr.mk.inj (Option.some.inj hao2) |>.imp id (fun h => h.1))
          have q1 := hE3.cell (hc2 r hlt2).1
          have q2 := hE3.cell (hc2 r hlt2).2
          have bj2 : (r : Int) < (cs.length : Int) := by omega
          have HS2 := hide (l4Space_any (rV rs r) (cW cs r) (cR cs r) _ (((unhide HR) r hlt2).ext hE3))
          clear hc2
          go_wp2_with fail
          refine (unhide HS2).mono ?_
          rintro e w5 ⟨rfl, E5⟩
          have hE5 := hE3.trans E5
          cases hb2 : spB (cR cs r) with
          | false =>
            have HJ3 : Hid (∀ q, j ≤ q → q < r + 1 → (!spB (cR cs q)) = true) := hide (fun q h1 h2 => by
              by_cases e : q = r
              · subst e; rw [hb2]; rfl
              · exact (unhide HJ2) q h1 (by omega))
            clear HS2 q1 q2 hb2 E5
            go_wp2
            go_roundw
            case rel => exact ⟨r + 1, by omega, by omega, by go_num, HJ3, hE5⟩
            case measure => simp [intOf]; omega
          | true =>
            have HW : Hid (Wd (fun j => spB (cR cs j)) cs.length r) := hide ⟨j, unhide HSK, hjr, hr9, unhide HJ2, fun _ => by simp [hb2]⟩
            clear HS2 q1 q2 hb2 E5
            go_wp2
            go_ret
            exact ⟨r, rfl, unhide HW, hE5⟩
        · obtain rfl : r = cs.length := by omega
          have hb7 : ¬ (cs.length : Int) < (cs.length : Int) := by omega
          have HW : Hid (Wd (fun j => spB (cR cs j)) cs.length cs.length) := hide ⟨j, unhide HSK, hjr, hr9, unhide HJ2, fun h => by omega⟩
          go_wp2
          go_ret
          exact ⟨_, rfl, unhide HW, hE3⟩
end Go.Proofs.YtokjpnlmkecleaaGreatDoor
