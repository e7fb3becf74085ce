import Derived.Test.YtmomcccgjjjldaaDoorClsGrow
import Derived.Test.YtmomcccgjjjldaaDoorShowable
import Derived.Test.YtmomcccgjjjldaaDoorRwImpl
namespace Go.Proofs.YtmomcccgjjjldaaDoor
open Go.RowKit
def clStep (cs : List (List Int × Int)) (x : Int) : List (List Int × Int) :=
  if 0 < wid x then cs ++ [([x], wid x)]
  else if cs.length = 0 then [([9676, x], 1)]
  else cs.set (cs.length - 1) (cR cs (cs.length - 1) ++ [x], cW cs (cs.length - 1))
def clF (xs : List Int) : Nat → List (List Int × Int)
  | 0 => []
  | k + 1 => clStep (clF xs k) (shownI (at0 xs k))
def clusC (xs : List Int) : List (List Int × Int) := clF xs xs.length
theorem clF_len (xs : List Int) : ∀ k, (clF xs k).length ≤ k
  | 0 => by simp [clF]
  | k + 1 => by
    have := clF_len xs k
    rw [clF, clStep]
    repeat' split
    all_goals simp
    all_goals omega
theorem clF_runes (xs : List Int) : ∀ k j, (cR (clF xs k) j).length ≤ k + 1
  | 0, j => by simp [clF, cR]
  | k + 1, j => by
    have ih := clF_runes xs k
    rw [clF, clStep]
    split
    · rw [cR_push]; split
      · simp
      · have := ih j; omega
    · split
      · rename_i h1 h2
        by_cases hj : j = 0
        · subst hj; simp [cR]
        · simp [cR, List.getElem?_eq_none (show [(([9676, shownI (at0 xs k)] : List Int), (1 : Int))].length ≤ j by simp; omega)]
      · rename_i h1 h2
        rw [cR_set _ _ _ _ (by omega)]
        split
        · have := ih ((clF xs k).length - 1); simp; omega
        · have := ih j; omega
theorem wid_bd (r : Int) : 0 ≤ wid r ∧ wid r ≤ 2 := by
  unfold wid
  repeat' split
  all_goals omega
theorem infoClu : (Tryd.prog.info? 32).map (fun i => (i.zero, i.size, i.bytes)) = some (some (.agg #[.slice none 0 0, .int .i64 0]), 2, 32) := by kernel_rfl
theorem infoI32u : (Tryd.prog.info? 21).map (fun i => (i.zero, i.size, i.bytes)) = some (some (.int .i32 0), 1, 4) := by kernel_rfl
set_option maxRecDepth 10000 in
set_option maxHeartbeats 2000000 in
theorem specClusters_any (v : Value) (xs : List Int) (w : World) (hv : IntsAt w .i32 v xs) (hI : I32s xs) (hl : xs.length ≤ 16777216) :
    Calls Tryd.prog 11 #[v] w fun e w' => ∃ v' rs, e = .returned v' ∧ OwnCls w' w.heap.size v' rs (clusC xs) ∧ Ext w w' := by
  obtain ⟨ic, hic, hc0, hc1, hc2⟩ := info_parts infoClu
  obtain ⟨ii, hii, hi0, hi1, hi2⟩ := info_parts infoI32u
  obtain ⟨ao, cap, rfl, hcap, hr⟩ := hv
  have HF : Hid (clusC xs = clF xs xs.length) := rfl
  obtain ⟨n, hn⟩ : ∃ n, n = xs.length := ⟨_, rfl⟩
  rw [← hn] at hcap hr hl HF ⊢
  have HR := hide hr
  clear hr hn
  go_enter Tryd.func11, Tryd.ntmps11
  go_wp2
  go_loopw [3, 4] (fun o i wr => ∃ (k : Nat) (rs : List Value), k ≤ n ∧ i = .int .i64 k ∧ Hid (OwnCls wr w.heap.size o rs (clF xs k)) ∧ Ext w wr) (fun _ i _ => n - (intOf i).toNat)
  case atStart => exact ⟨0, [], Nat.zero_le _, rfl, ⟨rfl, ⟨[], by simpa [clF] using World.ownsRow_made w #[] 0 (Nat.le_refl _) (by unfold maxLen; omega) (by simp), fun j hj => by simp [clF] at hj⟩, fun j hj => by simp [clF] at hj, fun i j g _ hj => by simp [clF] at hj⟩, (Ext.refl _).alloc _⟩
  case round =>
    obtain ⟨k, rs, hk, rfl, HO, hext⟩ := hrel
    by_cases hlt : k < n
    · obtain ⟨b, off, hao, hc⟩ := (unhide HR) (by omega)
      subst hao
      have g1 := hext.cell (hc k hlt)
      clear hc
      have bk : (k : Int) < (n : Int) := by omega
      have hst : Hid (clF xs (k + 1) = clStep (clF xs k) (shownI (at0 xs k))) := rfl
      have hlen := clF_len xs k
      have hrl := clF_runes xs k
      have HRL := hide hrl
      clear hrl
      obtain ⟨x, hx⟩ : ∃ x, x = shownI (at0 xs k) := ⟨_, rfl⟩
      have hxb := shownI_bd (at0 xs k)
      have hIk := hI.at0 k
      have HX := hide hx
      rw [← hx] at hst hxb
      clear hx
      obtain ⟨cs, hcs⟩ : ∃ cs, cs = clF xs k := ⟨_, rfl⟩
      rw [← hcs] at HO hst hlen HRL
      have HCS := hide hcs
      clear hcs
      have hwb := wid_bd x
      go_wp2_with fail
      refine (l1Shown_any _ _).mono ?_
      rw [← unhide HX]
      rintro e w1 ⟨rfl, rfl⟩
      go_wp2_with fail
      refine (specRW_any x _ (by omega) (by omega)).mono ?_
      rintro e w2 ⟨rfl, hb2⟩
      have F2 := Ext.of_below hb2
      have E2 := hext.trans F2
      have z2 := E2.size
      clear hb2
      obtain ⟨h0, ⟨ys, hy, hyy⟩, h3, h4⟩ := (unhide HO).ext F2
      by_cases hwp : 0 < wid x
      · have hsA : Hid (clF xs (k + 1) = cs ++ [([x], wid x)]) := by show _ = _; rw [hst.out, clStep, if_pos hwp]
        have hyE := hide ((((Ext.refl w2).alloc (.cells #[.int .i32 x] 21)).alloc (.cells #[.slice (some ⟨w2.heap.size, 0, none⟩) 1 1, .int .i64 (wid x)] 32)).owns hy)
        have HYY := hide hyy
        have H3 := hide h3
        have hOC := hide ((unhide HO).ext F2)
        clear hy hyy h3 h4
        go_wp2_with (at_builtin; go_must (refine wpList_append_own _ rfl _ _ 27 rfl w.heap.size 32 ic (.agg #[.slice none 0 0, .int .i64 0]) 2 32 Tryd.underlying27 hic hc0 hc1 hc2 rfl (by decide) _ _ _ rfl (unhide hyE) ⟨w2.heap.size + 1, 0, none⟩ 1 1 [.slice (some ⟨w2.heap.size, 0, none⟩) 1 1, .int .i64 (wid x)] rfl rfl ?_ (pair_one rfl rfl) ?_ ?_ ?_ ?_))
        · have := news_cells (w := w2.alloc (.cells #[.int .i32 x] 21)) [.slice (some ⟨w2.heap.size, 0, none⟩) 1 1, .int .i64 (wid x)] 32
          simpa using this
        · unfold maxLen; omega
        · omega
        · simp; omega
        · intro v' w3 hown' hgrow _
          have E3 : Ext w w3 := ((E2.alloc _).alloc _).grown hgrow (fun q hq => ((unhide hyE).lt q hq).1)
          have hO3 : OwnCls w3 w.heap.size v' (rs ++ [.slice (some ⟨w2.heap.size, 0, none⟩) 1 1]) (cs ++ [([x], wid x)]) := by
            refine OwnCls.push (((unhide hOC).ext (((Ext.refl w2).alloc _).alloc _))) (unhide hyE) (unhide HYY) ?_ ?_ hown' hgrow
            · exact ((Ext.refl _).alloc _).owns (own_lit .i32 [x] 21 w.heap.size 1 rfl (by omega) (by unfold maxLen; simp))
            · intro j q hj hq
              have := ((unhide H3) j hj).lt q hq
              simp [Value.ownBlock]; omega
          rw [← hsA.out] at hO3
          have HO3 := hide hO3
          clear hown' hgrow hO3 hyE hOC H3
          go_wp2
          go_roundw
          case rel => exact ⟨k + 1, _, by omega, by go_num, HO3, E3⟩
          case measure => simp [intOf]; omega
      · have hw0 : wid x = 0 := by omega
        have hw0' : ¬ (0 : Int) < wid x := by omega
        by_cases hne : cs.length = 0
        · have hce : cs = [] := List.eq_nil_of_length_eq_zero hne
          have hsB : Hid (clF xs (k + 1) = [([9676, x], 1)]) := by show _ = _; rw [hst.out, clStep, if_neg hwp, if_pos hne]
          have hrs : rs = [] := List.eq_nil_of_length_eq_zero (by omega)
          subst hce
          subst hrs
          have hyE := hide ((((Ext.refl w2).alloc (.cells #[.int .i32 9676] 21)).alloc (.cells #[.slice (some ⟨w2.heap.size, 0, none⟩) 1 1, .int .i64 1] 32)).owns hy)
          have HYY := hide hyy
          have hOC := hide ((unhide HO).ext F2)
          have hu3 : ∃ a c, u3 = .slice a 0 c := by
            rcases hy.2 with ⟨rfl, _⟩ | ⟨g, co, cur, rfl, _⟩
            · exact ⟨_, _, rfl⟩
            · exact ⟨_, _, rfl⟩
          obtain ⟨au, cu, hu3⟩ := hu3
          subst hu3
          clear hy hyy h3 h4 hw0 hne hlen
          go_wp2_with (at_builtin; go_must (refine wpList_append_own _ rfl _ _ 27 rfl w.heap.size 32 ic (.agg #[.slice none 0 0, .int .i64 0]) 2 32 Tryd.underlying27 hic hc0 hc1 hc2 rfl (by decide) _ _ _ rfl (unhide hyE) ⟨w2.heap.size + 1, 0, none⟩ 1 1 [.slice (some ⟨w2.heap.size, 0, none⟩) 1 1, .int .i64 1] rfl rfl ?_ (pair_one rfl rfl) ?_ ?_ ?_ ?_))
          · have := news_cells (w := w2.alloc (.cells #[.int .i32 9676] 21)) [.slice (some ⟨w2.heap.size, 0, none⟩) 1 1, .int .i64 1] 32
            simpa using this
          · unfold maxLen; simp
          · simp
          · simp; omega
          · intro v' w3 hown' hgrow _
            have E3 : Ext w w3 := ((E2.alloc _).alloc _).grown hgrow (fun q hq => ((unhide hyE).lt q hq).1)
            have hO3 : OwnCls w3 w.heap.size v' ([] ++ [.slice (some ⟨w2.heap.size, 0, none⟩) 1 1]) ([] ++ [([9676], 1)]) := by
              refine OwnCls.push (((unhide hOC).ext (((Ext.refl w2).alloc _).alloc _))) (unhide hyE) (unhide HYY) ?_ ?_ hown' hgrow
              · exact ((Ext.refl _).alloc _).owns (own_lit .i32 [9676] 21 w.heap.size 1 rfl (by omega) (by unfold maxLen; simp))
              · intro j q hj hq
                simp at hj
            have z3 : w2.heap.size + 2 ≤ w3.heap.size := by have := hgrow.size; simpa using this
            rcases hown'.2 with ⟨_, h5⟩ | ⟨g, co, cur, hval, _⟩
            · simp at h5
            subst hval
            simp only [List.nil_append] at hO3
            have hOC3 := hide hO3
            obtain ⟨_, ⟨ys3, hy3, hyy3⟩, h33, _⟩ := hO3
            have hcl : w3.cell? ⟨g, 0, none⟩ = some (.slice (some ⟨w2.heap.size, 0, none⟩) 1 1) := by
              have := hy3.cellAt 0 (by simp)
              rw [this]; simpa [rV] using (hyy3 0 (by simp)).1
            have hrmE := hide (((Ext.refl w3).alloc (.cells #[.int .i32 x] 21)).owns (h33 0 (by simp)))
            have HY := hide hy3
            clear hown' hgrow hyE hOC hy3 hyy3 h33
            go_wp2_with (at_builtin; go_must (refine wpList_append_own_at _ rfl _ _ 25 rfl w.heap.size 21 ii (.int .i32 0) 1 4 Tryd.underlying25 hii hi0 hi1 hi2 rfl (by decide) _ _ _ rfl (unhide hrmE) ⟨w3.heap.size, 0, none⟩ 1 1 [.int .i32 x] rfl rfl ?_ ?_ ?_ ?_ ?_ ?_))
            · exact news_cells [.int .i32 x] 21
            · intro u hu; simp at hu; subst hu; rfl
            · unfold maxLen; simp [cR]
            · simp [cR]
            · simp; omega
            · intro r' w4 hown' hgrow _ hat
              rcases hown'.2 with ⟨_, h5⟩ | ⟨gr, cr, curr, hvr, _⟩
              · simp at h5
              subst hvr
              have hWE : Ext w3 (w3.alloc (.cells #[.int .i32 x] 21)) := (Ext.refl w3).alloc _
              have hy4 := owns_same (w' := w4) (hWE.owns (unhide HY)) (fun q hq => hgrow.block q ((hWE.owns (unhide HY)).lt q hq).2 (fun e => owns_apart (hWE.owns (unhide HY)) (unhide hrmE) (by decide) hq e.symm))
              have f0 := hy4.frozenAt 0
              obtain ⟨u0, c0⟩ : ∃ u, w4.cell? ⟨g, 0, none⟩ = some u := by
                rw [hy4.cellAt _ (by simp)]; exact ⟨_, List.getElem?_eq_getElem (by have := hy4.1; simp at this; omega)⟩
              have E4 : Ext w w4 := (E3.alloc _).grown hgrow (fun q hq => ((unhide hrmE).lt q hq).1)
              have hO4 := OwnCls.grow (m := 0) (H := w3.heap.size + 1) (x := x) ((unhide hOC3).ext hWE) (by simp) (fun i hi q hq => by
                simp at hi; subst hi; simp [rV, Value.ownBlock] at hq; omega) (by simpa using hown') hgrow (by simpa [rV] using hat)
              have hsB2 : Hid (clF xs (k + 1) = [([9676], (1 : Int))].set 0 (cR [([9676], (1 : Int))] 0 ++ [x], cW [([9676], (1 : Int))] 0)) := by
                show _ = _; rw [hsB.out]; simp [cR, cW]
              rw [← hsB2.out] at hO4
              have hgb := ((unhide HY).lt g rfl).1
              have HO4 := hide hO4
              clear hown' hgrow hO4 hrmE hOC3 hy4 hat
              go_wp2
              go_roundw
              case rel => exact ⟨k + 1, _, by omega, by go_num, HO4, E4.setCell hgb _⟩
              case measure => simp [intOf]; omega
        · have hsC : Hid (clF xs (k + 1) = cs.set (cs.length - 1) (cR cs (cs.length - 1) ++ [x], cW cs (cs.length - 1))) := by show _ = _; rw [hst.out, clStep, if_neg hwp, if_neg hne]
          clear hw0
          rcases hy.2 with ⟨_, h5⟩ | ⟨g, co, cur, hval, _⟩
          · omega
          subst hval
          obtain ⟨m, hm⟩ : ∃ m, cs.length = m + 1 := ⟨cs.length - 1, by omega⟩
          have hcl : w2.cell? ⟨g, m * 2, none⟩ = some (rV rs m) := by rw [hy.cellAt _ (by omega)]; exact (hyy m (by omega)).1
          have hrm := h3 m (by omega)
          have hgl := (hy.lt g rfl).2
          have hrmE := hide (((Ext.refl w2).alloc (.cells #[.int .i32 x] 21)).owns hrm)
          have hrr := (unhide HRL) m
          have hOC := hide ((unhide HO).ext F2)
          have HL := hide hm
          have hml : m + 1 ≤ k := by omega
          have hml2 : (m : Int) ≤ 16777216 := by omega
          have HY := hide hy
          have H3 := hide h3
          have hlen1 : ((cs.length : Int) == 0) = false := beq_eq_false_iff_ne.2 (by omega)
          rw [hm] at hlen1 hsC ⊢
          simp only [Nat.add_sub_cancel] at hsC
          clear hy hyy h3 h4 hrm hm hne
          go_wp2_with (at_builtin; go_must (refine wpList_append_own_at _ rfl _ _ 25 rfl w.heap.size 21 ii (.int .i32 0) 1 4 Tryd.underlying25 hii hi0 hi1 hi2 rfl (by decide) _ _ _ rfl (unhide hrmE) ⟨w2.heap.size, 0, none⟩ 1 1 [.int .i32 x] rfl rfl ?_ ?_ ?_ ?_ ?_ ?_))
          · exact news_cells [.int .i32 x] 21
          · intro u hu; simp at hu; subst hu; rfl
          · unfold maxLen; omega
          · omega
          · simp; omega
          · intro r' w3 hown' hgrow _ hat
            rcases hown'.2 with ⟨_, h5⟩ | ⟨gr, cr, curr, hvr, _⟩
            · omega
            subst hvr
            have hWE : Ext w2 (w2.alloc (.cells #[.int .i32 x] 21)) := (Ext.refl w2).alloc _
            have hy3 := owns_same (w' := w3) (hWE.owns (unhide HY)) (fun q hq => hgrow.block q ((hWE.owns (unhide HY)).lt q hq).2 (fun e => owns_apart (hWE.owns (unhide HY)) (unhide hrmE) (by decide) hq e.symm))
            have f0 := hy3.frozenAt (m * 2)
            obtain ⟨u0, c0⟩ : ∃ u, w3.cell? ⟨g, m * 2, none⟩ = some u := by
              rw [hy3.cellAt _ (by rw [unhide HL]; omega)]; exact ⟨_, List.getElem?_eq_getElem (by have := hy3.1; rw [unhide HL] at this; omega)⟩
            have E3 : Ext w w3 := (E2.alloc _).grown hgrow (fun q hq => ((unhide hrmE).lt q hq).1)
            have hO3 := OwnCls.grow (m := m) (H := w2.heap.size + 1) (x := x) ((unhide hOC).ext hWE) (by rw [unhide HL]; omega) (fun i hi q hq => by have := ((unhide H3) i hi).lt q hq; omega) (by simpa using hown') hgrow (by simpa using hat)
            rw [← hsC.out] at hO3
            have hgb := ((unhide HY).lt g rfl).1
            rw [unhide HL] at hO3
            have HO3 := hide hO3
            clear hown' hgrow hO3 hrmE hOC H3 hy3 hat
            go_wp2
            go_roundw
            case rel => exact ⟨k + 1, _, by omega, by go_num, HO3, E3.setCell hgb _⟩
            case measure => simp [intOf]; omega
    · obtain rfl : k = n := by omega
      rw [← HF.out] at HO
      go_wp2
      go_ret
      exact ⟨_, rs, rfl, unhide HO, hext⟩
set_option maxRecDepth 10000 in
set_option maxHeartbeats 2000000 in
theorem implClusters_any (v : Value) (xs : List Int) (w : World) (hv : IntsAt w .i32 v xs) (hI : I32s xs) (hl : xs.length ≤ 16777216) (hT : Laid w) :
    Calls Tryd.prog 8 #[v] w fun e w' => ∃ v' rs, e = .returned v' ∧ OwnCls w' w.heap.size v' rs (clusC xs) ∧ Ext w w' := by
  obtain ⟨ic, hic, hc0, hc1, hc2⟩ := info_parts infoClu
  obtain ⟨ii, hii, hi0, hi1, hi2⟩ := info_parts infoI32u
  obtain ⟨ao, cap, rfl, hcap, hr⟩ := hv
  have HF : Hid (clusC xs = clF xs xs.length) := rfl
  obtain ⟨n, hn⟩ : ∃ n, n = xs.length := ⟨_, rfl⟩
  rw [← hn] at hcap hr hl HF ⊢
  have HR := hide hr
  clear hr hn
  go_enter Tryd.func8, Tryd.ntmps8
  go_wp2
  go_loopw [3, 11] (fun o i wr => ∃ (k : Nat) (rs : List Value), k ≤ n ∧ i = .int .i64 k ∧ Hid (OwnCls wr w.heap.size o rs (clF xs k)) ∧ Ext w wr) (fun _ i _ => n - (intOf i).toNat)
  case atStart => exact ⟨0, [], Nat.zero_le _, rfl, ⟨rfl, ⟨[], by simpa [clF] using World.ownsRow_nil w w.heap.size 32 2, fun j hj => by simp [clF] at hj⟩, fun j hj => by simp [clF] at hj, fun i j g _ hj => by simp [clF] at hj⟩, Ext.refl _⟩
  case round =>
    obtain ⟨k, rs, hk, rfl, HO, hext⟩ := hrel
    by_cases hlt : k < n
    · obtain ⟨b, off, hao, hc⟩ := (unhide HR) (by omega)
      subst hao
      have g1 := hext.cell (hc k hlt)
      clear hc
      have bk : (k : Int) < (n : Int) := by omega
      have hst : Hid (clF xs (k + 1) = clStep (clF xs k) (shownI (at0 xs k))) := rfl
      have hlen := clF_len xs k
      have hrl := clF_runes xs k
      have HRL := hide hrl
      clear hrl
      obtain ⟨x, hx⟩ : ∃ x, x = shownI (at0 xs k) := ⟨_, rfl⟩
      have hxb := shownI_bd (at0 xs k)
      have hIk := hI.at0 k
      have HX := hide hx
      rw [← hx] at hst hxb
      clear hx
      obtain ⟨cs, hcs⟩ : ∃ cs, cs = clF xs k := ⟨_, rfl⟩
      rw [← hcs] at HO hst hlen HRL
      have HCS := hide hcs
      clear hcs
      have hwb := wid_bd x
      have HT := hide (hT.below hext.below)
      go_wp2_with fail
      refine (showable_any _ _).mono ?_
      rw [← unhide HX]
      rintro e w1 ⟨rfl, rfl⟩
      go_wp2_with fail
      refine (implRW_any x _ (by omega) (by omega) (unhide HT)).mono ?_
      rintro e w2 ⟨rfl, hb2⟩
      have F2 := Ext.of_below hb2
      have E2 := hext.trans F2
      have z2 := E2.size
      clear hb2
      obtain ⟨h0, ⟨ys, hy, hyy⟩, h3, h4⟩ := (unhide HO).ext F2
      by_cases hwp : 0 < wid x
      · have hsA : Hid (clF xs (k + 1) = cs ++ [([x], wid x)]) := by show _ = _; rw [hst.out, clStep, if_pos hwp]
        have hyE := hide ((((Ext.refl w2).alloc (.cells #[.int .i32 x] 21)).alloc (.cells #[.slice (some ⟨w2.heap.size, 0, none⟩) 1 1, .int .i64 (wid x)] 32)).owns hy)
        have HYY := hide hyy
        have H3 := hide h3
        have hOC := hide ((unhide HO).ext F2)
        clear hy hyy h3 h4
        go_wp2_with (at_builtin; go_must (refine wpList_append_own _ rfl _ _ 27 rfl w.heap.size 32 ic (.agg #[.slice none 0 0, .int .i64 0]) 2 32 Tryd.underlying27 hic hc0 hc1 hc2 rfl (by decide) _ _ _ rfl (unhide hyE) ⟨w2.heap.size + 1, 0, none⟩ 1 1 [.slice (some ⟨w2.heap.size, 0, none⟩) 1 1, .int .i64 (wid x)] rfl rfl ?_ (pair_one rfl rfl) ?_ ?_ ?_ ?_))
        · have := news_cells (w := w2.alloc (.cells #[.int .i32 x] 21)) [.slice (some ⟨w2.heap.size, 0, none⟩) 1 1, .int .i64 (wid x)] 32
          simpa using this
        · unfold maxLen; omega
        · omega
        · simp; omega
        · intro v' w3 hown' hgrow _
          have E3 : Ext w w3 := ((E2.alloc _).alloc _).grown hgrow (fun q hq => ((unhide hyE).lt q hq).1)
          have hO3 : OwnCls w3 w.heap.size v' (rs ++ [.slice (some ⟨w2.heap.size, 0, none⟩) 1 1]) (cs ++ [([x], wid x)]) := by
            refine OwnCls.push (((unhide hOC).ext (((Ext.refl w2).alloc _).alloc _))) (unhide hyE) (unhide HYY) ?_ ?_ hown' hgrow
            · exact ((Ext.refl _).alloc _).owns (own_lit .i32 [x] 21 w.heap.size 1 rfl (by omega) (by unfold maxLen; simp))
            · intro j q hj hq
              have := ((unhide H3) j hj).lt q hq
              simp [Value.ownBlock]; omega
          rw [← hsA.out] at hO3
          have HO3 := hide hO3
          clear hown' hgrow hO3 hyE hOC H3
          go_wp2
          go_roundw
          case rel => exact ⟨k + 1, _, by omega, by go_num, HO3, E3⟩
          case measure => simp [intOf]; omega
      · have hw0 : wid x = 0 := by omega
        have hw0' : ¬ (0 : Int) < wid x := by omega
        by_cases hne : cs.length = 0
        · have hce : cs = [] := List.eq_nil_of_length_eq_zero hne
          have hsB : Hid (clF xs (k + 1) = [([9676, x], 1)]) := by show _ = _; rw [hst.out, clStep, if_neg hwp, if_pos hne]
          have hrs : rs = [] := List.eq_nil_of_length_eq_zero (by omega)
          subst hce
          subst hrs
          have hu3 : ∃ a c, u3 = .slice a 0 c := by
            rcases hy.2 with ⟨rfl, _⟩ | ⟨g, co, cur, rfl, _⟩
            · exact ⟨_, _, rfl⟩
            · exact ⟨_, _, rfl⟩
          obtain ⟨au, cu, hu3⟩ := hu3
          subst hu3
          have HYY := hide hyy
          have HY := hide hy
          have hOC := hide ((unhide HO).ext F2)
          have HT2 := hide ((hT.below E2.below).below ((Ext.refl w2).alloc (.cells #[.int .i32 9676, .int .i32 x] 21)).below)
          have hw9 : wid 9676 = 1 := by decide
          have hrw := hide (implRW_any 9676 _ (by omega) (by omega) (unhide HT2))
          rw [hw9] at hrw
          clear hy hyy h3 h4 hw0 hne hlen hw9
          go_wp2_with fail
          refine (unhide hrw).mono ?_
          rintro e w3 ⟨rfl, hb3⟩
          have F3 := ((Ext.refl w2).alloc (.cells #[.int .i32 9676, .int .i32 x] 21)).trans (Ext.of_below hb3)
          have E3 := E2.trans F3
          have hz3 : w2.heap.size + 1 ≤ w3.heap.size := by have := hb3.size; simpa using this
          have hr3 := hide ((Ext.of_below hb3).owns (own_lit .i32 [9676, x] 21 w.heap.size 2 rfl (by omega) (by unfold maxLen; simp)))
          have hyE := hide (((Ext.refl w3).alloc (.cells #[.slice (some ⟨w2.heap.size, 0, none⟩) 2 2, .int .i64 1] 32)).owns (F3.owns (unhide HY)))
          clear hb3
          go_wp2_with (at_builtin; go_must (refine wpList_append_own _ rfl _ _ 27 rfl w.heap.size 32 ic (.agg #[.slice none 0 0, .int .i64 0]) 2 32 Tryd.underlying27 hic hc0 hc1 hc2 rfl (by decide) _ _ _ rfl (unhide hyE) ⟨w3.heap.size, 0, none⟩ 1 1 [.slice (some ⟨w2.heap.size, 0, none⟩) 2 2, .int .i64 1] rfl rfl ?_ (pair_one rfl rfl) ?_ ?_ ?_ ?_))
          · exact news_cells (w := w3) [.slice (some ⟨w2.heap.size, 0, none⟩) 2 2, .int .i64 1] 32
          · unfold maxLen; simp
          · simp
          · simp; omega
          · intro v' w4 hown' hgrow _
            have E4 : Ext w w4 := (E3.alloc _).grown hgrow (fun q hq => ((unhide hyE).lt q hq).1)
            have hO4 : OwnCls w4 w.heap.size v' ([] ++ [.slice (some ⟨w2.heap.size, 0, none⟩) 2 2]) ([] ++ [([9676, x], 1)]) := by
              refine OwnCls.push ((((unhide hOC).ext F3).ext ((Ext.refl w3).alloc _))) (unhide hyE) (unhide HYY) ?_ ?_ hown' hgrow
              · exact ((Ext.refl _).alloc _).owns (unhide hr3)
              · intro j q hj hq
                simp at hj
            simp only [List.nil_append] at hO4
            rw [← hsB.out] at hO4
            have HO4 := hide hO4
            clear hown' hgrow hO4 hyE hOC hr3
            go_wp2
            go_roundw
            case rel => exact ⟨k + 1, _, by omega, by go_num, HO4, E4⟩
            case measure => simp [intOf]; omega
        · have hsC : Hid (clF xs (k + 1) = cs.set (cs.length - 1) (cR cs (cs.length - 1) ++ [x], cW cs (cs.length - 1))) := by show _ = _; rw [hst.out, clStep, if_neg hwp, if_neg hne]
          clear hw0
          rcases hy.2 with ⟨_, h5⟩ | ⟨g, co, cur, hval, _⟩
          · omega
          subst hval
          obtain ⟨m, hm⟩ : ∃ m, cs.length = m + 1 := ⟨cs.length - 1, by omega⟩
          have hcl : w2.cell? ⟨g, m * 2, none⟩ = some (rV rs m) := by rw [hy.cellAt _ (by omega)]; exact (hyy m (by omega)).1
          have hrm := h3 m (by omega)
          have hgl := (hy.lt g rfl).2
          have hrmE := hide (((Ext.refl w2).alloc (.cells #[.int .i32 x] 21)).owns hrm)
          have hrr := (unhide HRL) m
          have hOC := hide ((unhide HO).ext F2)
          have HL := hide hm
          have hml : m + 1 ≤ k := by omega
          have hml2 : (m : Int) ≤ 16777216 := by omega
          have HY := hide hy
          have H3 := hide h3
          have hlen1 : ((cs.length : Int) == 0) = false := beq_eq_false_iff_ne.2 (by omega)
          rw [hm] at hlen1 hsC ⊢
          simp only [Nat.add_sub_cancel] at hsC
          clear hy hyy h3 h4 hrm hm hne
          go_wp2_with (at_builtin; go_must (refine wpList_append_own_at _ rfl _ _ 25 rfl w.heap.size 21 ii (.int .i32 0) 1 4 Tryd.underlying25 hii hi0 hi1 hi2 rfl (by decide) _ _ _ rfl (unhide hrmE) ⟨w2.heap.size, 0, none⟩ 1 1 [.int .i32 x] rfl rfl ?_ ?_ ?_ ?_ ?_ ?_))
          · exact news_cells [.int .i32 x] 21
          · intro u hu; simp at hu; subst hu; rfl
          · unfold maxLen; omega
          · omega
          · simp; omega
          · intro r' w3 hown' hgrow _ hat
            rcases hown'.2 with ⟨_, h5⟩ | ⟨gr, cr, curr, hvr, _⟩
            · omega
            subst hvr
            have hWE : Ext w2 (w2.alloc (.cells #[.int .i32 x] 21)) := (Ext.refl w2).alloc _
            have hy3 := owns_same (w' := w3) (hWE.owns (unhide HY)) (fun q hq => hgrow.block q ((hWE.owns (unhide HY)).lt q hq).2 (fun e => owns_apart (hWE.owns (unhide HY)) (unhide hrmE) (by decide) hq e.symm))
            have f0 := hy3.frozenAt (m * 2)
            obtain ⟨u0, c0⟩ : ∃ u, w3.cell? ⟨g, m * 2, none⟩ = some u := by
              rw [hy3.cellAt _ (by rw [unhide HL]; omega)]; exact ⟨_, List.getElem?_eq_getElem (by have := hy3.1; rw [unhide HL] at this; omega)⟩
            have E3 : Ext w w3 := (E2.alloc _).grown hgrow (fun q hq => ((unhide hrmE).lt q hq).1)
            have hO3 := OwnCls.grow (m := m) (H := w2.heap.size + 1) (x := x) ((unhide hOC).ext hWE) (by rw [unhide HL]; omega) (fun i hi q hq => by have := ((unhide H3) i hi).lt q hq; omega) (by simpa using hown') hgrow (by simpa using hat)
            rw [← hsC.out] at hO3
            have hgb := ((unhide HY).lt g rfl).1
            rw [unhide HL] at hO3
            have HO3 := hide hO3
            clear hown' hgrow hO3 hrmE hOC H3 hy3 hat
            go_wp2
            go_roundw
            case rel => exact ⟨k + 1, _, by omega, by go_num, HO3, E3.setCell hgb _⟩
            case measure => simp [intOf]; omega
    · obtain rfl : k = n := by omega
      rw [← HF.out] at HO
      go_wp2
      go_ret
      exact ⟨_, rs, rfl, unhide HO, hext⟩
end Go.Proofs.YtmomcccgjjjldaaDoor
