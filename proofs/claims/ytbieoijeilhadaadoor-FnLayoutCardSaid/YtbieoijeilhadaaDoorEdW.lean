import Derived.Test.YtbieoijeilhadaaDoorCells
import Derived.Test.YtbieoijeilhadaaDoorRwImpl
import Derived.Test.YtbieoijeilhadaaDoorKys
import Derived.Deep.RegionLaw
import Derived.Deep.AppendLies
import Derived.Test.YtbieoijeilhadaaDoorBlocks
import Derived.Deep.RegionHeldLaw
namespace Go.Proofs.YtbieoijeilhadaaDoor
open Go.RowKit
def clStep (cs : List (List Int × Int)) (x : Int) : List (List Int × Int) :=
  if 0 < wid x then cs ++ [([x], wid x)]
  else if cs.length = 0 then [([9676, x], 1)]
  else cs.set (cs.length - 1) (cR cs (cs.length - 1) ++ [x], cW cs (cs.length - 1))
def clF (xs : List Int) : Nat → List (List Int × Int)
  | 0 => []
  | k + 1 => clStep (clF xs k) (shownI (at0 xs k))
def clusC (xs : List Int) : List (List Int × Int) := clF xs xs.length
theorem clF_len (xs : List Int) : ∀ k, (clF xs k).length ≤ k
  | 0 => by simp [clF]
  | k + 1 => by
    have := clF_len xs k
    rw [clF, clStep]
    repeat' split
    all_goals simp
    all_goals omega
theorem clF_runes (xs : List Int) : ∀ k j, (cR (clF xs k) j).length ≤ k + 1
  | 0, j => by simp [clF, cR]
  | k + 1, j => by
    have ih := clF_runes xs k
    rw [clF, clStep]
    split
    · rw [cR_push]; split
      · simp
      · have := ih j; omega
    · split
      · rename_i h1 h2
        by_cases hj : j = 0
        · subst hj; simp [cR]
        · simp [cR, List.getElem?_eq_none (show [(([9676, shownI (at0 xs k)] : List Int), (1 : Int))].length ≤ j by simp; omega)]
      · rename_i h1 h2
        rw [cR_set _ _ _ _ (by omega)]
        split
        · have := ih ((clF xs k).length - 1); simp; omega
        · have := ih j; omega
theorem wid_bd (r : Int) : 0 ≤ wid r ∧ wid r ≤ 2 := by
  unfold wid
  repeat' split
  all_goals omega
theorem infoClu : (Tryd.prog.info? 58).map (fun i => (i.zero, i.size, i.bytes)) = some (some (.agg #[.slice none 0 0, .int .i64 0]), 2, 32) := by kernel_rfl
theorem infoI32u : (Tryd.prog.info? 21).map (fun i => (i.zero, i.size, i.bytes)) = some (some (.int .i32 0), 1, 4) := by kernel_rfl
set_option maxRecDepth 10000 in
set_option maxHeartbeats 2000000 in
theorem specClusters_any (v : Value) (xs : List Int) (w : World) (hv : IntsAt w .i32 v xs) (hI : I32s xs) (hl : xs.length ≤ 16777216) :
    Calls Tryd.prog 27 #[v] w fun e w' => ∃ v' rs, e = .returned v' ∧ OwnCls w' w.heap.size v' rs (clusC xs) ∧ Ext w w' := by
  obtain ⟨ic, hic, hc0, hc1, hc2⟩ := info_parts infoClu
  obtain ⟨ii, hii, hi0, hi1, hi2⟩ := info_parts infoI32u
  obtain ⟨ao, cap, rfl, hcap, hr⟩ := hv
  have HF : Hid (clusC xs = clF xs xs.length) := rfl
  obtain ⟨n, hn⟩ : ∃ n, n = xs.length := ⟨_, rfl⟩
  rw [← hn] at hcap hr hl HF ⊢
  have HR := hide hr
  clear hr hn
  go_enter Tryd.func27, Tryd.ntmps27
  go_wp2
  go_loopw [3, 4] (fun o i wr => ∃ (k : Nat) (rs : List Value), k ≤ n ∧ i = .int .i64 k ∧ Hid (OwnCls wr w.heap.size o rs (clF xs k)) ∧ Ext w wr) (fun _ i _ => n - (intOf i).toNat)
  case atStart => exact ⟨0, [], Nat.zero_le _, rfl, ⟨rfl, ⟨[], by simpa [clF] using World.ownsRow_made w #[] 0 (Nat.le_refl _) (by unfold maxLen; omega) (by simp), fun j hj => by simp [clF] at hj⟩, fun j hj => by simp [clF] at hj, fun i j g _ hj => by simp [clF] at hj⟩, (Ext.refl _).alloc _⟩
  case round =>
    obtain ⟨k, rs, hk, rfl, HO, hext⟩ := hrel
    by_cases hlt : k < n
    · obtain ⟨b, off, hao, hc⟩ := (unhide HR) (by omega)
      subst hao
      have g1 := hext.cell (hc k hlt)
      clear hc
      have bk : (k : Int) < (n : Int) := by omega
      have hst : Hid (clF xs (k + 1) = clStep (clF xs k) (shownI (at0 xs k))) := rfl
      have hlen := clF_len xs k
      have hrl := clF_runes xs k
      have HRL := hide hrl
      clear hrl
      obtain ⟨x, hx⟩ : ∃ x, x = shownI (at0 xs k) := ⟨_, rfl⟩
      have hxb := shownI_bd (at0 xs k)
      have hIk := hI.at0 k
      have HX := hide hx
      rw [← hx] at hst hxb
      clear hx
      obtain ⟨cs, hcs⟩ : ∃ cs, cs = clF xs k := ⟨_, rfl⟩
      rw [← hcs] at HO hst hlen HRL
      have HCS := hide hcs
      clear hcs
      have hwb := wid_bd x
      go_wp2_with fail
      refine (l1Shown_any _ _).mono ?_
      rw [← unhide HX]
      rintro e w1 ⟨rfl, rfl⟩
      go_wp2_with fail
      refine (specRW_any x _ (by omega) (by omega)).mono ?_
      rintro e w2 ⟨rfl, hb2⟩
      have F2 := Ext.of_below hb2
      have E2 := hext.trans F2
      have z2 := E2.size
      clear hb2
      obtain ⟨h0, ⟨ys, hy, hyy⟩, h3, h4⟩ := (unhide HO).ext F2
      by_cases hwp : 0 < wid x
      · have hsA : Hid (clF xs (k + 1) = cs ++ [([x], wid x)]) := by show _ = _; rw [hst.out, clStep, if_pos hwp]
        have hyE := hide ((((Ext.refl w2).alloc (.cells #[.int .i32 x] 21)).alloc (.cells #[.slice (some ⟨w2.heap.size, 0, none⟩) 1 1, .int .i64 (wid x)] 58)).owns hy)
        have HYY := hide hyy
        have H3 := hide h3
        have hOC := hide ((unhide HO).ext F2)
        clear hy hyy h3 h4
        go_wp2_with (at_builtin; go_must (refine wpList_append_own _ rfl _ _ 53 rfl w.heap.size 58 ic (.agg #[.slice none 0 0, .int .i64 0]) 2 32 Tryd.underlying53 hic hc0 hc1 hc2 rfl (by decide) _ _ _ rfl (unhide hyE) ⟨w2.heap.size + 1, 0, none⟩ 1 1 [.slice (some ⟨w2.heap.size, 0, none⟩) 1 1, .int .i64 (wid x)] rfl rfl ?_ (pair_one rfl rfl) ?_ ?_ ?_ ?_))
        · have := news_cells (w := w2.alloc (.cells #[.int .i32 x] 21)) [.slice (some ⟨w2.heap.size, 0, none⟩) 1 1, .int .i64 (wid x)] 58
          simpa using this
        · unfold maxLen; omega
        · omega
        · simp; omega
        · intro v' w3 hown' hgrow _
          have E3 : Ext w w3 := ((E2.alloc _).alloc _).grown hgrow (fun q hq => ((unhide hyE).lt q hq).1)
          have hO3 : OwnCls w3 w.heap.size v' (rs ++ [.slice (some ⟨w2.heap.size, 0, none⟩) 1 1]) (cs ++ [([x], wid x)]) := by
            refine OwnCls.push (((unhide hOC).ext (((Ext.refl w2).alloc _).alloc _))) (unhide hyE) (unhide HYY) ?_ ?_ hown' hgrow
            · exact ((Ext.refl _).alloc _).owns (own_lit .i32 [x] 21 w.heap.size 1 rfl (by omega) (by unfold maxLen; simp))
            · intro j q hj hq
              have := ((unhide H3) j hj).lt q hq
              simp [Value.ownBlock]; omega
          rw [← hsA.out] at hO3
          have HO3 := hide hO3
          clear hown' hgrow hO3 hyE hOC H3
          go_wp2
          go_roundw
          case rel => exact ⟨k + 1, _, by omega, by go_num, HO3, E3⟩
          case measure => simp [intOf]; omega
      · have hw0 : wid x = 0 := by omega
        have hw0' : ¬ (0 : Int) < wid x := by omega
        by_cases hne : cs.length = 0
        · have hce : cs = [] := List.eq_nil_of_length_eq_zero hne
          have hsB : Hid (clF xs (k + 1) = [([9676, x], 1)]) := by show _ = _; rw [hst.out, clStep, if_neg hwp, if_pos hne]
          have hrs : rs = [] := List.eq_nil_of_length_eq_zero (by omega)
          subst hce
          subst hrs
          have hyE := hide ((((Ext.refl w2).alloc (.cells #[.int .i32 9676] 21)).alloc (.cells #[.slice (some ⟨w2.heap.size, 0, none⟩) 1 1, .int .i64 1] 58)).owns hy)
          have HYY := hide hyy
          have hOC := hide ((unhide HO).ext F2)
          have hu3 : ∃ a c, u3 = .slice a 0 c := by
            rcases hy.2 with ⟨rfl, _⟩ | ⟨g, co, cur, rfl, _⟩
            · exact ⟨_, _, rfl⟩
            · exact ⟨_, _, rfl⟩
          obtain ⟨au, cu, hu3⟩ := hu3
          subst hu3
          clear hy hyy h3 h4 hw0 hne hlen
          go_wp2_with (at_builtin; go_must (refine wpList_append_own _ rfl _ _ 53 rfl w.heap.size 58 ic (.agg #[.slice none 0 0, .int .i64 0]) 2 32 Tryd.underlying53 hic hc0 hc1 hc2 rfl (by decide) _ _ _ rfl (unhide hyE) ⟨w2.heap.size + 1, 0, none⟩ 1 1 [.slice (some ⟨w2.heap.size, 0, none⟩) 1 1, .int .i64 1] rfl rfl ?_ (pair_one rfl rfl) ?_ ?_ ?_ ?_))
          · have := news_cells (w := w2.alloc (.cells #[.int .i32 9676] 21)) [.slice (some ⟨w2.heap.size, 0, none⟩) 1 1, .int .i64 1] 58
            simpa using this
          · unfold maxLen; simp
          · simp
          · simp; omega
          · intro v' w3 hown' hgrow _
            have E3 : Ext w w3 := ((E2.alloc _).alloc _).grown hgrow (fun q hq => ((unhide hyE).lt q hq).1)
            have hO3 : OwnCls w3 w.heap.size v' ([] ++ [.slice (some ⟨w2.heap.size, 0, none⟩) 1 1]) ([] ++ [([9676], 1)]) := by
              refine OwnCls.push (((unhide hOC).ext (((Ext.refl w2).alloc _).alloc _))) (unhide hyE) (unhide HYY) ?_ ?_ hown' hgrow
              · exact ((Ext.refl _).alloc _).owns (own_lit .i32 [9676] 21 w.heap.size 1 rfl (by omega) (by unfold maxLen; simp))
              · intro j q hj hq
                simp at hj
            have z3 : w2.heap.size + 2 ≤ w3.heap.size := by have := hgrow.size; simpa using this
            rcases hown'.2 with ⟨_, h5⟩ | ⟨g, co, cur, hval, _⟩
            · simp at h5
            subst hval
            simp only [List.nil_append] at hO3
            have hOC3 := hide hO3
            obtain ⟨_, ⟨ys3, hy3, hyy3⟩, h33, _⟩ := hO3
            have hcl : w3.cell? ⟨g, 0, none⟩ = some (.slice (some ⟨w2.heap.size, 0, none⟩) 1 1) := by
              have := hy3.cellAt 0 (by simp)
              rw [this]; simpa [rV] using (hyy3 0 (by simp)).1
            have hrmE := hide (((Ext.refl w3).alloc (.cells #[.int .i32 x] 21)).owns (h33 0 (by simp)))
            have HY := hide hy3
            clear hown' hgrow hyE hOC hy3 hyy3 h33
            go_wp2_with (at_builtin; go_must (refine wpList_append_own_at _ rfl _ _ 55 rfl w.heap.size 21 ii (.int .i32 0) 1 4 Tryd.underlying55 hii hi0 hi1 hi2 rfl (by decide) _ _ _ rfl (unhide hrmE) ⟨w3.heap.size, 0, none⟩ 1 1 [.int .i32 x] rfl rfl ?_ ?_ ?_ ?_ ?_ ?_))
            · exact news_cells [.int .i32 x] 21
            · intro u hu; simp at hu; subst hu; rfl
            · unfold maxLen; simp [cR]
            · simp [cR]
            · simp; omega
            · intro r' w4 hown' hgrow _ hat
              rcases hown'.2 with ⟨_, h5⟩ | ⟨gr, cr, curr, hvr, _⟩
              · simp at h5
              subst hvr
              have hWE : Ext w3 (w3.alloc (.cells #[.int .i32 x] 21)) := (Ext.refl w3).alloc _
              have hy4 := owns_same (w' := w4) (hWE.owns (unhide HY)) (fun q hq => hgrow.block q ((hWE.owns (unhide HY)).lt q hq).2 (fun e => owns_apart (hWE.owns (unhide HY)) (unhide hrmE) (by decide) hq e.symm))
              have f0 := hy4.frozenAt 0
              obtain ⟨u0, c0⟩ : ∃ u, w4.cell? ⟨g, 0, none⟩ = some u := by
                rw [hy4.cellAt _ (by simp)]; exact ⟨_, List.getElem?_eq_getElem (by have := hy4.1; simp at this; omega)⟩
              have E4 : Ext w w4 := (E3.alloc _).grown hgrow (fun q hq => ((unhide hrmE).lt q hq).1)
              have hO4 := OwnCls.grow (m := 0) (H := w3.heap.size + 1) (x := x) ((unhide hOC3).ext hWE) (by simp) (fun i hi q hq => by
                simp at hi; subst hi; simp [rV, Value.ownBlock] at hq; omega) (by simpa using hown') hgrow (by simpa [rV] using hat)
              have hsB2 : Hid (clF xs (k + 1) = [([9676], (1 : Int))].set 0 (cR [([9676], (1 : Int))] 0 ++ [x], cW [([9676], (1 : Int))] 0)) := by
                show _ = _; rw [hsB.out]; simp [cR, cW]
              rw [← hsB2.out] at hO4
              have hgb := ((unhide HY).lt g rfl).1
              have HO4 := hide hO4
              clear hown' hgrow hO4 hrmE hOC3 hy4 hat
              go_wp2
              go_roundw
              case rel => exact ⟨k + 1, _, by omega, by go_num, HO4, E4.setCell hgb _⟩
              case measure => simp [intOf]; omega
        · have hsC : Hid (clF xs (k + 1) = cs.set (cs.length - 1) (cR cs (cs.length - 1) ++ [x], cW cs (cs.length - 1))) := by show _ = _; rw [hst.out, clStep, if_neg hwp, if_neg hne]
          clear hw0
          rcases hy.2 with ⟨_, h5⟩ | ⟨g, co, cur, hval, _⟩
          · omega
          subst hval
          obtain ⟨m, hm⟩ : ∃ m, cs.length = m + 1 := ⟨cs.length - 1, by omega⟩
          have hcl : w2.cell? ⟨g, m * 2, none⟩ = some (rV rs m) := by rw [hy.cellAt _ (by omega)]; exact (hyy m (by omega)).1
          have hrm := h3 m (by omega)
          have hgl := (hy.lt g rfl).2
          have hrmE := hide (((Ext.refl w2).alloc (.cells #[.int .i32 x] 21)).owns hrm)
          have hrr := (unhide HRL) m
          have hOC := hide ((unhide HO).ext F2)
          have HL := hide hm
          have hml : m + 1 ≤ k := by omega
          have hml2 : (m : Int) ≤ 16777216 := by omega
          have HY := hide hy
          have H3 := hide h3
          have hlen1 : ((cs.length : Int) == 0) = false := beq_eq_false_iff_ne.2 (by omega)
          rw [hm] at hlen1 hsC ⊢
          simp only [Nat.add_sub_cancel] at hsC
          clear hy hyy h3 h4 hrm hm hne
          go_wp2_with (at_builtin; go_must (refine wpList_append_own_at _ rfl _ _ 55 rfl w.heap.size 21 ii (.int .i32 0) 1 4 Tryd.underlying55 hii hi0 hi1 hi2 rfl (by decide) _ _ _ rfl (unhide hrmE) ⟨w2.heap.size, 0, none⟩ 1 1 [.int .i32 x] rfl rfl ?_ ?_ ?_ ?_ ?_ ?_))
          · exact news_cells [.int .i32 x] 21
          · intro u hu; simp at hu; subst hu; rfl
          · unfold maxLen; omega
          · omega
          · simp; omega
          · intro r' w3 hown' hgrow _ hat
            rcases hown'.2 with ⟨_, h5⟩ | ⟨gr, cr, curr, hvr, _⟩
            · omega
            subst hvr
            have hWE : Ext w2 (w2.alloc (.cells #[.int .i32 x] 21)) := (Ext.refl w2).alloc _
            have hy3 := owns_same (w' := w3) (hWE.owns (unhide HY)) (fun q hq => hgrow.block q ((hWE.owns (unhide HY)).lt q hq).2 (fun e => owns_apart (hWE.owns (unhide HY)) (unhide hrmE) (by decide) hq e.symm))
            have f0 := hy3.frozenAt (m * 2)
            obtain ⟨u0, c0⟩ : ∃ u, w3.cell? ⟨g, m * 2, none⟩ = some u := by
              rw [hy3.cellAt _ (by rw [unhide HL]; omega)]; exact ⟨_, List.getElem?_eq_getElem (by have := hy3.1; rw [unhide HL] at this; omega)⟩
            have E3 : Ext w w3 := (E2.alloc _).grown hgrow (fun q hq => ((unhide hrmE).lt q hq).1)
            have hO3 := OwnCls.grow (m := m) (H := w2.heap.size + 1) (x := x) ((unhide hOC).ext hWE) (by rw [unhide HL]; omega) (fun i hi q hq => by have := ((unhide H3) i hi).lt q hq; omega) (by simpa using hown') hgrow (by simpa using hat)
            rw [← hsC.out] at hO3
            have hgb := ((unhide HY).lt g rfl).1
            rw [unhide HL] at hO3
            have HO3 := hide hO3
            clear hown' hgrow hO3 hrmE hOC H3 hy3 hat
            go_wp2
            go_roundw
            case rel => exact ⟨k + 1, _, by omega, by go_num, HO3, E3.setCell hgb _⟩
            case measure => simp [intOf]; omega
    · obtain rfl : k = n := by omega
      rw [← HF.out] at HO
      go_wp2
      go_ret
      exact ⟨_, rs, rfl, unhide HO, hext⟩
set_option maxRecDepth 10000 in
set_option maxHeartbeats 2000000 in
theorem implClusters_any (v : Value) (xs : List Int) (w : World) (hv : IntsAt w .i32 v xs) (hI : I32s xs) (hl : xs.length ≤ 16777216) (hT : Laid w) :
    Calls Tryd.prog 86 #[v] w fun e w' => ∃ v' rs, e = .returned v' ∧ OwnCls w' w.heap.size v' rs (clusC xs) ∧ Ext w w' := by
  obtain ⟨ic, hic, hc0, hc1, hc2⟩ := info_parts infoClu
  obtain ⟨ii, hii, hi0, hi1, hi2⟩ := info_parts infoI32u
  obtain ⟨ao, cap, rfl, hcap, hr⟩ := hv
  have HF : Hid (clusC xs = clF xs xs.length) := rfl
  obtain ⟨n, hn⟩ : ∃ n, n = xs.length := ⟨_, rfl⟩
  rw [← hn] at hcap hr hl HF ⊢
  have HR := hide hr
  clear hr hn
  go_enter Tryd.func86, Tryd.ntmps86
  go_wp2
  go_loopw [3, 11] (fun o i wr => ∃ (k : Nat) (rs : List Value), k ≤ n ∧ i = .int .i64 k ∧ Hid (OwnCls wr w.heap.size o rs (clF xs k)) ∧ Ext w wr) (fun _ i _ => n - (intOf i).toNat)
  case atStart => exact ⟨0, [], Nat.zero_le _, rfl, ⟨rfl, ⟨[], by simpa [clF] using World.ownsRow_nil w w.heap.size 58 2, fun j hj => by simp [clF] at hj⟩, fun j hj => by simp [clF] at hj, fun i j g _ hj => by simp [clF] at hj⟩, Ext.refl _⟩
  case round =>
    obtain ⟨k, rs, hk, rfl, HO, hext⟩ := hrel
    by_cases hlt : k < n
    · obtain ⟨b, off, hao, hc⟩ := (unhide HR) (by omega)
      subst hao
      have g1 := hext.cell (hc k hlt)
      clear hc
      have bk : (k : Int) < (n : Int) := by omega
      have hst : Hid (clF xs (k + 1) = clStep (clF xs k) (shownI (at0 xs k))) := rfl
      have hlen := clF_len xs k
      have hrl := clF_runes xs k
      have HRL := hide hrl
      clear hrl
      obtain ⟨x, hx⟩ : ∃ x, x = shownI (at0 xs k) := ⟨_, rfl⟩
      have hxb := shownI_bd (at0 xs k)
      have hIk := hI.at0 k
      have HX := hide hx
      rw [← hx] at hst hxb
      clear hx
      obtain ⟨cs, hcs⟩ : ∃ cs, cs = clF xs k := ⟨_, rfl⟩
      rw [← hcs] at HO hst hlen HRL
      have HCS := hide hcs
      clear hcs
      have hwb := wid_bd x
      have HT := hide (hT.below hext.below)
      go_wp2_with fail
      refine (showable_any _ _).mono ?_
      rw [← unhide HX]
      rintro e w1 ⟨rfl, rfl⟩
      go_wp2_with fail
      refine (implRW_any x _ (by omega) (by omega) (unhide HT)).mono ?_
      rintro e w2 ⟨rfl, hb2⟩
      have F2 := Ext.of_below hb2
      have E2 := hext.trans F2
      have z2 := E2.size
      clear hb2
      obtain ⟨h0, ⟨ys, hy, hyy⟩, h3, h4⟩ := (unhide HO).ext F2
      by_cases hwp : 0 < wid x
      · have hsA : Hid (clF xs (k + 1) = cs ++ [([x], wid x)]) := by show _ = _; rw [hst.out, clStep, if_pos hwp]
        have hyE := hide ((((Ext.refl w2).alloc (.cells #[.int .i32 x] 21)).alloc (.cells #[.slice (some ⟨w2.heap.size, 0, none⟩) 1 1, .int .i64 (wid x)] 58)).owns hy)
        have HYY := hide hyy
        have H3 := hide h3
        have hOC := hide ((unhide HO).ext F2)
        clear hy hyy h3 h4
        go_wp2_with (at_builtin; go_must (refine wpList_append_own _ rfl _ _ 53 rfl w.heap.size 58 ic (.agg #[.slice none 0 0, .int .i64 0]) 2 32 Tryd.underlying53 hic hc0 hc1 hc2 rfl (by decide) _ _ _ rfl (unhide hyE) ⟨w2.heap.size + 1, 0, none⟩ 1 1 [.slice (some ⟨w2.heap.size, 0, none⟩) 1 1, .int .i64 (wid x)] rfl rfl ?_ (pair_one rfl rfl) ?_ ?_ ?_ ?_))
        · have := news_cells (w := w2.alloc (.cells #[.int .i32 x] 21)) [.slice (some ⟨w2.heap.size, 0, none⟩) 1 1, .int .i64 (wid x)] 58
          simpa using this
        · unfold maxLen; omega
        · omega
        · simp; omega
        · intro v' w3 hown' hgrow _
          have E3 : Ext w w3 := ((E2.alloc _).alloc _).grown hgrow (fun q hq => ((unhide hyE).lt q hq).1)
          have hO3 : OwnCls w3 w.heap.size v' (rs ++ [.slice (some ⟨w2.heap.size, 0, none⟩) 1 1]) (cs ++ [([x], wid x)]) := by
            refine OwnCls.push (((unhide hOC).ext (((Ext.refl w2).alloc _).alloc _))) (unhide hyE) (unhide HYY) ?_ ?_ hown' hgrow
            · exact ((Ext.refl _).alloc _).owns (own_lit .i32 [x] 21 w.heap.size 1 rfl (by omega) (by unfold maxLen; simp))
            · intro j q hj hq
              have := ((unhide H3) j hj).lt q hq
              simp [Value.ownBlock]; omega
          rw [← hsA.out] at hO3
          have HO3 := hide hO3
          clear hown' hgrow hO3 hyE hOC H3
          go_wp2
          go_roundw
          case rel => exact ⟨k + 1, _, by omega, by go_num, HO3, E3⟩
          case measure => simp [intOf]; omega
      · have hw0 : wid x = 0 := by omega
        have hw0' : ¬ (0 : Int) < wid x := by omega
        by_cases hne : cs.length = 0
        · have hce : cs = [] := List.eq_nil_of_length_eq_zero hne
          have hsB : Hid (clF xs (k + 1) = [([9676, x], 1)]) := by show _ = _; rw [hst.out, clStep, if_neg hwp, if_pos hne]
          have hrs : rs = [] := List.eq_nil_of_length_eq_zero (by omega)
          subst hce
          subst hrs
          have hu3 : ∃ a c, u3 = .slice a 0 c := by
            rcases hy.2 with ⟨rfl, _⟩ | ⟨g, co, cur, rfl, _⟩
            · exact ⟨_, _, rfl⟩
            · exact ⟨_, _, rfl⟩
          obtain ⟨au, cu, hu3⟩ := hu3
          subst hu3
          have HYY := hide hyy
          have HY := hide hy
          have hOC := hide ((unhide HO).ext F2)
          have HT2 := hide ((hT.below E2.below).below ((Ext.refl w2).alloc (.cells #[.int .i32 9676, .int .i32 x] 21)).below)
          have hw9 : wid 9676 = 1 := by decide
          have hrw := hide (implRW_any 9676 _ (by omega) (by omega) (unhide HT2))
          rw [hw9] at hrw
          clear hy hyy h3 h4 hw0 hne hlen hw9
          go_wp2_with fail
          refine (unhide hrw).mono ?_
          rintro e w3 ⟨rfl, hb3⟩
          have F3 := ((Ext.refl w2).alloc (.cells #[.int .i32 9676, .int .i32 x] 21)).trans (Ext.of_below hb3)
          have E3 := E2.trans F3
          have hz3 : w2.heap.size + 1 ≤ w3.heap.size := by have := hb3.size; simpa using this
          have hr3 := hide ((Ext.of_below hb3).owns (own_lit .i32 [9676, x] 21 w.heap.size 2 rfl (by omega) (by unfold maxLen; simp)))
          have hyE := hide (((Ext.refl w3).alloc (.cells #[.slice (some ⟨w2.heap.size, 0, none⟩) 2 2, .int .i64 1] 58)).owns (F3.owns (unhide HY)))
          clear hb3
          go_wp2_with (at_builtin; go_must (refine wpList_append_own _ rfl _ _ 53 rfl w.heap.size 58 ic (.agg #[.slice none 0 0, .int .i64 0]) 2 32 Tryd.underlying53 hic hc0 hc1 hc2 rfl (by decide) _ _ _ rfl (unhide hyE) ⟨w3.heap.size, 0, none⟩ 1 1 [.slice (some ⟨w2.heap.size, 0, none⟩) 2 2, .int .i64 1] rfl rfl ?_ (pair_one rfl rfl) ?_ ?_ ?_ ?_))
          · exact news_cells (w := w3) [.slice (some ⟨w2.heap.size, 0, none⟩) 2 2, .int .i64 1] 58
          · unfold maxLen; simp
          · simp
          · simp; omega
          · intro v' w4 hown' hgrow _
            have E4 : Ext w w4 := (E3.alloc _).grown hgrow (fun q hq => ((unhide hyE).lt q hq).1)
            have hO4 : OwnCls w4 w.heap.size v' ([] ++ [.slice (some ⟨w2.heap.size, 0, none⟩) 2 2]) ([] ++ [([9676, x], 1)]) := by
              refine OwnCls.push ((((unhide hOC).ext F3).ext ((Ext.refl w3).alloc _))) (unhide hyE) (unhide HYY) ?_ ?_ hown' hgrow
              · exact ((Ext.refl _).alloc _).owns (unhide hr3)
              · intro j q hj hq
                simp at hj
            simp only [List.nil_append] at hO4
            rw [← hsB.out] at hO4
            have HO4 := hide hO4
            clear hown' hgrow hO4 hyE hOC hr3
            go_wp2
            go_roundw
            case rel => exact ⟨k + 1, _, by omega, by go_num, HO4, E4⟩
            case measure => simp [intOf]; omega
        · have hsC : Hid (clF xs (k + 1) = cs.set (cs.length - 1) (cR cs (cs.length - 1) ++ [x], cW cs (cs.length - 1))) := by show _ = _; rw [hst.out, clStep, if_neg hwp, if_neg hne]
          clear hw0
          rcases hy.2 with ⟨_, h5⟩ | ⟨g, co, cur, hval, _⟩
          · omega
          subst hval
          obtain ⟨m, hm⟩ : ∃ m, cs.length = m + 1 := ⟨cs.length - 1, by omega⟩
          have hcl : w2.cell? ⟨g, m * 2, none⟩ = some (rV rs m) := by rw [hy.cellAt _ (by omega)]; exact (hyy m (by omega)).1
          have hrm := h3 m (by omega)
          have hgl := (hy.lt g rfl).2
          have hrmE := hide (((Ext.refl w2).alloc (.cells #[.int .i32 x] 21)).owns hrm)
          have hrr := (unhide HRL) m
          have hOC := hide ((unhide HO).ext F2)
          have HL := hide hm
          have hml : m + 1 ≤ k := by omega
          have hml2 : (m : Int) ≤ 16777216 := by omega
          have HY := hide hy
          have H3 := hide h3
          have hlen1 : ((cs.length : Int) == 0) = false := beq_eq_false_iff_ne.2 (by omega)
          rw [hm] at hlen1 hsC ⊢
          simp only [Nat.add_sub_cancel] at hsC
          clear hy hyy h3 h4 hrm hm hne
          go_wp2_with (at_builtin; go_must (refine wpList_append_own_at _ rfl _ _ 55 rfl w.heap.size 21 ii (.int .i32 0) 1 4 Tryd.underlying55 hii hi0 hi1 hi2 rfl (by decide) _ _ _ rfl (unhide hrmE) ⟨w2.heap.size, 0, none⟩ 1 1 [.int .i32 x] rfl rfl ?_ ?_ ?_ ?_ ?_ ?_))
          · exact news_cells [.int .i32 x] 21
          · intro u hu; simp at hu; subst hu; rfl
          · unfold maxLen; omega
          · omega
          · simp; omega
          · intro r' w3 hown' hgrow _ hat
            rcases hown'.2 with ⟨_, h5⟩ | ⟨gr, cr, curr, hvr, _⟩
            · omega
            subst hvr
            have hWE : Ext w2 (w2.alloc (.cells #[.int .i32 x] 21)) := (Ext.refl w2).alloc _
            have hy3 := owns_same (w' := w3) (hWE.owns (unhide HY)) (fun q hq => hgrow.block q ((hWE.owns (unhide HY)).lt q hq).2 (fun e => owns_apart (hWE.owns (unhide HY)) (unhide hrmE) (by decide) hq e.symm))
            have f0 := hy3.frozenAt (m * 2)
            obtain ⟨u0, c0⟩ : ∃ u, w3.cell? ⟨g, m * 2, none⟩ = some u := by
              rw [hy3.cellAt _ (by rw [unhide HL]; omega)]; exact ⟨_, List.getElem?_eq_getElem (by have := hy3.1; rw [unhide HL] at this; omega)⟩
            have E3 : Ext w w3 := (E2.alloc _).grown hgrow (fun q hq => ((unhide hrmE).lt q hq).1)
            have hO3 := OwnCls.grow (m := m) (H := w2.heap.size + 1) (x := x) ((unhide hOC).ext hWE) (by rw [unhide HL]; omega) (fun i hi q hq => by have := ((unhide H3) i hi).lt q hq; omega) (by simpa using hown') hgrow (by simpa using hat)
            rw [← hsC.out] at hO3
            have hgb := ((unhide HY).lt g rfl).1
            rw [unhide HL] at hO3
            have HO3 := hide hO3
            clear hown' hgrow hO3 hrmE hOC H3 hy3 hat
            go_wp2
            go_roundw
            case rel => exact ⟨k + 1, _, by omega, by go_num, HO3, E3.setCell hgb _⟩
            case measure => simp [intOf]; omega
    · obtain rfl : k = n := by omega
      rw [← HF.out] at HO
      go_wp2
      go_ret
      exact ⟨_, rs, rfl, unhide HO, hext⟩
end Go.Proofs.YtbieoijeilhadaaDoor

namespace Go.Proofs.YtbieoijeilhadaaDoor
open Go.RowKit
theorem cleanR_bd (r : Int) : 0 ≤ cleanR r ∧ cleanR r ≤ 1114111 := by
  unfold cleanR
  split
  · omega
  · exact shownI_bd r
theorem cleanF_all : ∀ (f : Nat) (l : List Int), ∀ x ∈ cleanF f l, 0 ≤ x ∧ x ≤ 1114111
  | 0, l => by simp [cleanF]
  | f + 1, l => by
    intro x hx
    rw [cleanF] at hx
    split at hx
    · simp at hx
    · rcases List.mem_cons.1 hx with rfl | h
      · exact cleanR_bd _
      · exact cleanF_all f _ x h
theorem cleanL_i32 (l : List Int) : I32s (cleanL l) := fun x hx => by
  have := cleanF_all l.length l x hx
  omega
theorem sumR_app (cs : List (List Int × Int)) (c : List Int × Int) : ∀ k, k ≤ cs.length → sumR (cs ++ [c]) k = sumR cs k
  | 0, _ => rfl
  | k + 1, h => by
    rw [sumR, sumR, sumR_app cs c k (by omega), cR_push]
    rw [if_neg (by omega)]
theorem sumR_set (cs : List (List Int × Int)) (c : List Int × Int) (i : Nat) : ∀ k, k ≤ i → sumR (cs.set i c) k = sumR cs k
  | 0, _ => rfl
  | k + 1, h => by
    rw [sumR, sumR, sumR_set cs c i k (by omega)]
    have : cR (cs.set i c) k = cR cs k := by
      unfold cR
      rw [List.getElem?_set_ne (by omega)]
    rw [this]
theorem clF_sum (xs : List Int) : ∀ k, sumR (clF xs k) (clF xs k).length ≤ k + 1
  | 0 => by simp [clF, sumR]
  | k + 1 => by
    have ih := clF_sum xs k
    rw [clF, clStep]
    split
    · rw [List.length_append, show [([shownI (at0 xs k)], wid (shownI (at0 xs k)))].length = 1 from rfl, sumR, sumR_app _ _ _ (Nat.le_refl _), cR_push, if_pos rfl]
      simp; omega
    · split
      · simp [sumR, cR]
      · rename_i h1 h2
        obtain ⟨m, hm⟩ : ∃ m, (clF xs k).length = m + 1 := ⟨(clF xs k).length - 1, by omega⟩
        rw [List.length_set, hm, sumR, show m + 1 - 1 = m by omega, sumR_set _ _ _ _ (Nat.le_refl _), cR_set _ _ _ _ (by omega), if_pos rfl]
        rw [hm, sumR] at ih
        simp; omega
theorem clF_i32 (xs : List Int) : ∀ k j, I32s (cR (clF xs k) j)
  | 0, j => by intro x hx; simp [clF, cR] at hx
  | k + 1, j => by
    have ih := clF_i32 xs k
    have hs := shownI_bd (at0 xs k)
    rw [clF, clStep]
    split
    · rw [cR_push]; split
      · intro x hx; simp at hx; omega
      · exact ih j
    · split
      · rename_i h1 h2
        by_cases hj : j = 0
        · subst hj; intro x hx; simp [cR] at hx; omega
        · intro x hx; simp [cR, List.getElem?_eq_none (show [(([9676, shownI (at0 xs k)] : List Int), (1 : Int))].length ≤ j by simp; omega)] at hx
      · rename_i h1 h2
        rw [cR_set _ _ _ _ (by omega)]
        split
        · intro x hx
          rcases List.mem_append.1 hx with h | h
          · exact ih _ x h
          · simp at h; omega
        · exact ih j
theorem clusC_fit (xs : List Int) (h : xs.length ≤ 8000000) : (clusC xs).length + sumR (clusC xs) (clusC xs).length ≤ 16777216 := by
  have := clF_len xs xs.length
  have := clF_sum xs xs.length
  unfold clusC; omega
def settleL (bs : List Int) : List Int := textC (clusC (cleanL bs))
theorem settleL_len (bs : List Int) : (settleL bs).length ≤ 4 * bs.length + 4 := by
  have h1 := txT_len (clusC (cleanL bs)) (clusC (cleanL bs)).length
  have h2 := clF_sum (cleanL bs) (cleanL bs).length
  have h3 := cleanL_len bs
  unfold settleL textC
  unfold clusC at h1 ⊢
  omega
theorem txR_bytes (xs : List Int) : ∀ k, Bytes (txR xs k)
  | 0 => by intro x hx; simp [txR] at hx
  | k + 1 => by
    intro x hx
    rw [txR] at hx
    rcases List.mem_append.1 hx with h | h
    · exact txR_bytes xs k x h
    · exact encR_bytes _ x h
theorem txT_bytes (cs : List (List Int × Int)) : ∀ k, Bytes (txT cs k)
  | 0 => by intro x hx; simp [txT] at hx
  | k + 1 => by
    intro x hx
    rw [txT] at hx
    rcases List.mem_append.1 hx with h | h
    · exact txT_bytes cs k x h
    · exact txR_bytes _ _ x h
theorem settleL_bytes (bs : List Int) : Bytes (settleL bs) := txT_bytes _ _
theorem run_s2i {P : Program} (w : World) (src dst e : TypeId) (hs : P.underlying src = some .string) (hd : P.underlying dst = some (.slice e)) (he : P.underlying e = some (.int .u8)) (zs : List Int) (hz : Bytes zs) :
    ∃ v W', (convert src dst (.string (toBA zs))).run P w = .ok v W' ∧ IntsAt W' .u8 v zs ∧ Ext w W' := by
  have hr := run_bytes_of_string (P := P) w src dst e (toBA zs) hs hd he
  rw [toBA_size] at hr
  obtain ⟨cap, W', h1, h2, h3, h4⟩ := run_s2b (P := P) w src dst e hs hd he zs hz
  have h5 := h1
  rw [hr] at h5
  injection h5 with h6 h7
  injection h6 with h8 h9 h10
  refine ⟨_, _, h1, ⟨_, _, rfl, ?_, fun hp => ⟨_, _, rfl, fun j hj => ?_⟩⟩, h2⟩
  · rw [← h10]; exact grownCap_ge w zs.length 0 e
  · have h11 := h4 j (.int .u8 (at0 zs j)) (by simp [at0_lt hj])
    rw [Addr.add_lit] at h11
    exact h11
set_option maxRecDepth 10000 in
set_option maxHeartbeats 1000000 in
theorem specSettle_any (bs : List Int) (hb : Bytes bs) (w : World) (hl : bs.length ≤ 8000000) :
    Calls Tryd.prog 29 #[.string (toBA bs)] w fun e w' => e = .returned (.string (toBA (settleL bs))) ∧ Ext w w' := by
  obtain ⟨v0, w0, hrun, h0, E0⟩ := run_s2i (P := Tryd.prog) w _ _ _ Tryd.underlying9 Tryd.underlying22 Tryd.underlying5 bs hb
  have hcl := cleanL_len bs
  have H0 := hide h0
  go_enter Tryd.func29, Tryd.ntmps29
  go_wp2_with fail
  refine (specClean_any bs hb v0 w0 (unhide H0) (by omega)).mono ?_
  rintro e w1 ⟨v1, rfl, o1, E1⟩
  go_wp2_with fail
  refine (specClusters_any v1 (cleanL bs) w1 (ints_of_owns o1) (cleanL_i32 bs) (by omega)).mono ?_
  rintro e w2 ⟨v2, rs2, rfl, o2, E2⟩
  have O2 := hide o2
  clear o1 o2
  go_wp2_with fail
  refine (specTextOf_any v2 (clusC (cleanL bs)) w2 (unhide O2).cls (clusC_fit _ (by omega)) (fun j _ => clF_i32 _ _ j)).mono ?_
  rintro e w3 ⟨rfl, E3⟩
  go_wp2
  go_ret
  exact ⟨rfl, ((E0.trans E1).trans E2).trans E3⟩
end Go.Proofs.YtbieoijeilhadaaDoor

namespace Go.Proofs.YtbieoijeilhadaaDoor
open Go.RowKit
theorem valid_or {r : Int} (h : Utf8.valid r = true) : (0 ≤ r ∧ r ≤ 127) ∨ (128 ≤ r ∧ r ≤ 2047) ∨ ((2048 ≤ r ∧ r < 55296) ∨ (57343 < r ∧ r ≤ 65535)) ∨ (65536 ≤ r ∧ r ≤ 1114111) := by
  have hb := valid_bd h
  by_cases hs : 55296 ≤ r ∧ r ≤ 57343
  · exfalso
    unfold Utf8.valid at h
    simp at h
    omega
  · omega
theorem dec_enc (r : Int) (h : Utf8.valid r = true) (rest : List Int) : decL (encR r ++ rest) = (r, (encR r).length) := by
  rcases valid_or h with h1 | h1 | h1 | h1
  · rw [encR_one h1.1 h1.2]
    have a0 : at0 ([r] ++ rest) 0 = r := by simp [at0]
    unfold decL
    simp only [a0]
    rw [if_pos (by omega)]
    rfl
  · rw [encR_two h1.1 h1.2]
    obtain ⟨l, hl⟩ : ∃ l, l = [192 + r / 64, 128 + r % 64] ++ rest := ⟨_, rfl⟩
    have a0 : at0 l 0 = 192 + r / 64 := by rw [hl]; simp [at0]
    have a1 : at0 l 1 = 128 + r % 64 := by rw [hl]; simp [at0]
    have c1 : cont l 1 = true := by unfold cont; rw [a1, hl]; simp; omega
    have hv : v2 l = r := by unfold v2; rw [a0, a1]; omega
    rw [← hl]
    unfold decL
    rw [if_neg (by omega), if_pos ⟨by omega, c1⟩, hv, if_pos (by omega)]
    rfl
  · rw [encR_three h1]
    obtain ⟨l, hl⟩ : ∃ l, l = [224 + r / 4096, 128 + r / 64 % 64, 128 + r % 64] ++ rest := ⟨_, rfl⟩
    have a0 : at0 l 0 = 224 + r / 4096 := by rw [hl]; simp [at0]
    have a1 : at0 l 1 = 128 + r / 64 % 64 := by rw [hl]; simp [at0]
    have a2 : at0 l 2 = 128 + r % 64 := by rw [hl]; simp [at0]
    have c1 : cont l 1 = true := by unfold cont; rw [a1, hl]; simp; omega
    have c2 : cont l 2 = true := by unfold cont; rw [a2, hl]; simp; omega
    have hv : v3 l = r := by unfold v3; rw [a0, a1, a2]; omega
    rw [← hl]
    unfold decL
    rw [if_neg (by omega), if_neg (by omega), if_pos ⟨by omega, c1, c2⟩, hv, if_pos ⟨by omega, h⟩]
    rfl
  · rw [encR_four h1.1 h1.2]
    obtain ⟨l, hl⟩ : ∃ l, l = [240 + r / 262144, 128 + r / 4096 % 64, 128 + r / 64 % 64, 128 + r % 64] ++ rest := ⟨_, rfl⟩
    have a0 : at0 l 0 = 240 + r / 262144 := by rw [hl]; simp [at0]
    have a1 : at0 l 1 = 128 + r / 4096 % 64 := by rw [hl]; simp [at0]
    have a2 : at0 l 2 = 128 + r / 64 % 64 := by rw [hl]; simp [at0]
    have a3 : at0 l 3 = 128 + r % 64 := by rw [hl]; simp [at0]
    have c1 : cont l 1 = true := by unfold cont; rw [a1, hl]; simp; omega
    have c2 : cont l 2 = true := by unfold cont; rw [a2, hl]; simp; omega
    have c3 : cont l 3 = true := by unfold cont; rw [a3, hl]; simp; omega
    have hv : v4 l = r := by unfold v4; rw [a0, a1, a2, a3]; omega
    rw [← hl]
    unfold decL
    rw [if_neg (by omega), if_neg (by omega), if_neg (by omega), if_pos ⟨by omega, c1, c2, c3⟩, hv, if_pos ⟨by omega, h⟩]
    rfl
def CleanR (r : Int) : Prop := Utf8.valid r = true ∧ 32 ≤ r ∧ ¬ (127 ≤ r ∧ r ≤ 159)
theorem CleanR.shown {r : Int} (h : CleanR r) : shownI r = r := by
  unfold shownI
  rw [if_neg]
  rintro (h1 | h1 | h1)
  · rw [h.1] at h1; cases h1
  · have := h.2.1; omega
  · exact h.2.2 h1
theorem CleanR.clean {r : Int} (h : CleanR r) : cleanR r = r := by
  unfold cleanR
  rw [if_neg (by have := h.2.1; omega), h.shown]
theorem cleanR_shown (r : Int) : CleanR (shownI r) := by
  unfold shownI
  split
  · exact ⟨by decide, by omega, by omega⟩
  · rename_i h
    refine ⟨?_, by omega, by omega⟩
    cases hv : Utf8.valid r
    · exact absurd (.inl hv) h
    · rfl
theorem cleanR_clean (r : Int) : CleanR (cleanR r) := by
  unfold cleanR
  split
  · exact ⟨by decide, by omega, by omega⟩
  · exact cleanR_shown r
theorem cleanF_mem : ∀ (f : Nat) (l : List Int), ∀ x ∈ cleanF f l, CleanR x
  | 0, l => by simp [cleanF]
  | f + 1, l => by
    intro x hx
    rw [cleanF] at hx
    split at hx
    · simp at hx
    · rcases List.mem_cons.1 hx with rfl | h
      · exact cleanR_clean _
      · exact cleanF_mem f _ x h
theorem cleanL_mem (l : List Int) : ∀ x ∈ cleanL l, CleanR x := cleanF_mem _ _
def encA : List Int → List Int
  | [] => []
  | x :: xs => encR x ++ encA xs
theorem encA_app (xs ys : List Int) : encA (xs ++ ys) = encA xs ++ encA ys := by
  induction xs with
  | nil => rfl
  | cons x xs ih => simp [encA, ih]
theorem encR_pos (r : Int) : 0 < (encR r).length := by
  unfold encR encL
  split
  · repeat' split
    all_goals simp
  · simp
theorem clean_enc : ∀ (xs : List Int), (∀ x ∈ xs, CleanR x) → cleanL (encA xs) = xs
  | [], _ => cleanL_nil _ rfl
  | x :: xs, h => by
    have hx := h x (by simp)
    have hp := encR_pos x
    rw [encA, cleanL_step _ (by simp; omega), dec_enc x hx.1]
    simp only
    rw [hx.clean, List.drop_left, clean_enc xs (fun y hy => h y (by simp [hy]))]
def flat : List (List Int × Int) → List Int
  | [] => []
  | c :: cs => c.1 ++ flat cs
theorem flat_app (xs ys : List (List Int × Int)) : flat (xs ++ ys) = flat xs ++ flat ys := by
  induction xs with
  | nil => rfl
  | cons x xs ih => simp [flat, ih]
theorem txR_all (xs : List Int) : ∀ k, k ≤ xs.length → txR xs k = encA (xs.take k)
  | 0, _ => by simp [txR, encA]
  | k + 1, h => by
    rw [txR, txR_all xs k (by omega), List.take_succ_eq_append_getElem (by omega), encA_app]
    simp [encA, at0, show k < xs.length by omega]
theorem txT_all (cs : List (List Int × Int)) : ∀ k, k ≤ cs.length → txT cs k = encA (flat (cs.take k))
  | 0, _ => by simp [txT, flat, encA]
  | k + 1, h => by
    rw [txT, txT_all cs k (by omega), List.take_succ_eq_append_getElem (by omega), flat_app, encA_app, txR_all _ _ (Nat.le_refl _), List.take_length]
    simp [flat, cR, show k < cs.length by omega]
theorem textC_flat (cs : List (List Int × Int)) : textC cs = encA (flat cs) := by
  rw [textC, txT_all cs cs.length (Nat.le_refl _), List.take_length]
theorem flat_set (cs : List (List Int × Int)) (x d : Int) (h : 0 < cs.length) : flat (cs.set (cs.length - 1) (cR cs (cs.length - 1) ++ [x], d)) = flat cs ++ [x] := by
  obtain ⟨ys, y, rfl⟩ : ∃ ys y, cs = ys ++ [y] := ⟨cs.dropLast, cs.getLast (by intro e; simp [e] at h), (List.dropLast_concat_getLast _).symm⟩
  have : (ys ++ [y]).length - 1 = ys.length := by simp
  rw [this, List.set_append_right _ _ (Nat.le_refl _), Nat.sub_self]
  simp [flat_app, flat, cR]
def fl (xs : List Int) : List Int := if xs = [] then [] else if 0 < wid (at0 xs 0) then xs else 9676 :: xs
theorem clF_flat (xs : List Int) : ∀ k, k ≤ xs.length → (clF xs k).length = 0 ∧ k = 0 ∨ 0 < (clF xs k).length ∧ 0 < k ∧ flat (clF xs k) = fl ((xs.take k).map shownI)
  | 0, _ => .inl ⟨rfl, rfl⟩
  | k + 1, h => by
    right
    have hk : k < xs.length := by omega
    have ht : (xs.take (k + 1)).map shownI = (xs.take k).map shownI ++ [shownI (at0 xs k)] := by
      rw [List.take_succ_eq_append_getElem hk, List.map_append]
      simp [at0, hk]
    rcases clF_flat xs k (by omega) with ⟨h1, h2⟩ | ⟨h1, h2, h3⟩
    · subst h2
      rw [clF, clStep]
      have e0 : clF xs 0 = [] := rfl
      rw [ht, e0]
      by_cases hw : 0 < wid (shownI (at0 xs 0))
      · rw [if_pos hw]
        simp [flat, fl, at0] at hw ⊢
        exact hw
      · rw [if_neg hw]
        simp [flat, fl, at0] at hw ⊢
        exact hw
    · have hf : ∀ y, fl ((xs.take k).map shownI ++ [y]) = fl ((xs.take k).map shownI) ++ [y] := by
        intro y
        have hne : (xs.take k).map shownI ≠ [] := by
          intro e
          have h9 := congrArg List.length e
          rw [List.length_map, List.length_take, List.length_nil] at h9
          omega
        have ha : at0 ((xs.take k).map shownI ++ [y]) 0 = at0 ((xs.take k).map shownI) 0 := by
          unfold at0
          rw [List.getElem?_append_left (by simp; omega)]
        unfold fl
        rw [if_neg (by simp), if_neg hne, ha]
        split <;> simp
      rw [clF, clStep, ht, hf]
      by_cases hw : 0 < wid (shownI (at0 xs k))
      · rw [if_pos hw]
        refine ⟨by simp, by omega, ?_⟩
        rw [flat_app, h3]
        simp [flat]
      · rw [if_neg hw, if_neg (by omega)]
        refine ⟨by simpa using h1, by omega, ?_⟩
        rw [flat_set _ _ _ h1, h3]
theorem clus_flat (xs : List Int) (h : ∀ x ∈ xs, CleanR x) : flat (clusC xs) = fl xs := by
  have hm : xs.map shownI = xs := by
    conv => rhs; rw [← List.map_id xs]
    exact List.map_congr_left fun x hx => (h x hx).shown
  unfold clusC
  rcases clF_flat xs xs.length (Nat.le_refl _) with ⟨h1, h2⟩ | ⟨_, _, h3⟩
  · have e : xs = [] := List.eq_nil_of_length_eq_zero h2
    subst e
    rfl
  · rw [h3, List.take_length, hm]
theorem fl_clean (xs : List Int) (h : ∀ x ∈ xs, CleanR x) : ∀ x ∈ fl xs, CleanR x := by
  unfold fl
  split
  · simp
  · split
    · exact h
    · intro x hx
      rcases List.mem_cons.1 hx with rfl | hx
      · exact ⟨by decide, by omega, by omega⟩
      · exact h x hx
theorem settleL_enc (bs : List Int) : settleL bs = encA (fl (cleanL bs)) := by
  rw [settleL, textC_flat, clus_flat _ (cleanL_mem bs)]
end Go.Proofs.YtbieoijeilhadaaDoor

namespace Go.Proofs.YtbieoijeilhadaaDoor
open Go.RowKit
def clG (cs : List (List Int × Int)) (x : Int) : List (List Int × Int) := clStep cs (shownI x)
theorem clF_fold (xs : List Int) : ∀ k, k ≤ xs.length → clF xs k = (xs.take k).foldl clG []
  | 0, _ => rfl
  | k + 1, h => by
    rw [clF, clF_fold xs k (by omega), List.take_succ_eq_append_getElem (by omega), List.foldl_append]
    simp [clG, at0, show k < xs.length by omega]
theorem clus_fold (xs : List Int) : clusC xs = xs.foldl clG [] := by
  unfold clusC
  rw [clF_fold xs _ (Nat.le_refl _), List.take_length]
theorem clStep_pos (cs : List (List Int × Int)) (x : Int) : 0 < (clStep cs x).length := by
  unfold clStep
  repeat' split
  all_goals simp
  all_goals omega
theorem cR_last (A cs : List (List Int × Int)) (h : 0 < cs.length) : cR (A ++ cs) ((A ++ cs).length - 1) = cR cs (cs.length - 1) ∧ cW (A ++ cs) ((A ++ cs).length - 1) = cW cs (cs.length - 1) := by
  have e : (A ++ cs).length - 1 = A.length + (cs.length - 1) := by simp; omega
  constructor
  · unfold cR
    rw [e, List.getElem?_append_right (by omega), Nat.add_sub_cancel_left]
  · unfold cW
    rw [e, List.getElem?_append_right (by omega), Nat.add_sub_cancel_left]
theorem clStep_app (A cs : List (List Int × Int)) (x : Int) (h : 0 < cs.length) : clStep (A ++ cs) x = A ++ clStep cs x := by
  obtain ⟨h1, h2⟩ := cR_last A cs h
  unfold clStep
  split
  · rw [List.append_assoc]
  · rw [if_neg (by rw [List.length_append]; omega), if_neg (by omega), h1, h2]
    have e : (A ++ cs).length - 1 = A.length + (cs.length - 1) := by simp; omega
    rw [e, List.set_append_right _ _ (by omega), Nat.add_sub_cancel_left]
theorem fold_app (A : List (List Int × Int)) : ∀ (ys : List Int) (cs : List (List Int × Int)), 0 < cs.length → ys.foldl clG (A ++ cs) = A ++ ys.foldl clG cs
  | [], _, _ => rfl
  | y :: ys, cs, h => by
    rw [List.foldl_cons, List.foldl_cons, clG, clStep_app A cs _ h]
    exact fold_app A ys _ (clStep_pos _ _)
def GoodC (c : List Int × Int) : Prop := c.1.foldl clG [] = [c]
theorem goodC_one (x : Int) (h : 0 < wid (shownI x)) : GoodC ([shownI x], wid (shownI x)) := by
  unfold GoodC
  simp only [List.foldl_cons, List.foldl_nil, clG, clStep]
  rw [(cleanR_shown x).shown, if_pos h]
  rfl
theorem goodC_more (c : List Int × Int) (x : Int) (hc : GoodC c) (h : ¬ 0 < wid (shownI x)) : GoodC (c.1 ++ [shownI x], c.2) := by
  unfold GoodC at *
  rw [List.foldl_append, hc]
  simp only [List.foldl_cons, List.foldl_nil, clG, clStep]
  rw [(cleanR_shown x).shown, if_neg h]
  simp [cR, cW]
theorem goodC_ring (x : Int) (h : ¬ 0 < wid (shownI x)) : GoodC ([9676, shownI x], 1) := by
  have h0 : GoodC ([9676], 1) := by
    unfold GoodC
    simp only [List.foldl_cons, List.foldl_nil, clG, clStep]
    decide
  exact goodC_more ([9676], 1) x h0 h
theorem clG_good (cs : List (List Int × Int)) (x : Int) (h : ∀ c ∈ cs, GoodC c) : ∀ c ∈ clG cs x, GoodC c := by
  intro c hc
  unfold clG clStep at hc
  split at hc
  · rename_i hw
    rcases List.mem_append.1 hc with hc | hc
    · exact h c hc
    · simp at hc
      rw [hc]
      exact goodC_one x hw
  · rename_i hw
    split at hc
    · simp at hc
      rw [hc]
      exact goodC_ring x hw
    · rename_i h0
      rcases List.mem_or_eq_of_mem_set hc with hc | hc
      · exact h c hc
      · rw [hc]
        have hl : cs.length - 1 < cs.length := by omega
        have hg := h cs[cs.length - 1] (List.getElem_mem hl)
        have := goodC_more _ x hg hw
        simpa [cR, cW, hl] using this
theorem fold_good : ∀ (ys : List Int) (cs : List (List Int × Int)), (∀ c ∈ cs, GoodC c) → ∀ c ∈ ys.foldl clG cs, GoodC c
  | [], _, h => h
  | y :: ys, cs, h => by
    rw [List.foldl_cons]
    exact fold_good ys _ (clG_good cs y h)
theorem clus_good (xs : List Int) : ∀ c ∈ clusC xs, GoodC c := by
  rw [clus_fold]
  exact fold_good xs [] (by simp)
end Go.Proofs.YtbieoijeilhadaaDoor

namespace Go.Proofs.YtbieoijeilhadaaDoor
open Go.RowKit
def CssAt (w : World) (v : Value) (R : Nat) (cs : Nat → List (List Int × Int)) : Prop :=
  ∃ rv : Nat → Value, Row1At w v R rv ∧ ∀ i, i < R → ClsAt w (rv i) (cs i)
theorem CssAt.ext {w w' : World} {v : Value} {R : Nat} {cs : Nat → List (List Int × Int)} (h : CssAt w v R cs) (he : Ext w w') : CssAt w' v R cs := by
  obtain ⟨rv, h1, h2⟩ := h
  exact ⟨rv, h1.ext he, fun i hi => (h2 i hi).ext he⟩
def OwnCss (w : World) (base : Nat) (v : Value) (rv : Nat → Value) (rs : Nat → List Value) (R : Nat) (cs : Nat → List (List Int × Int)) : Prop :=
  Own1 w base 53 v R rv ∧ (∀ i, i < R → OwnCls w base (rv i) (rs i) (cs i)) ∧ (∀ i j g, i < j → j < R → Foot (rv i) (rs i) (cs i).length g → ¬ Foot (rv j) (rs j) (cs j).length g)
def CFoot (v : Value) (rv : Nat → Value) (rs : Nat → List Value) (R : Nat) (cs : Nat → List (List Int × Int)) (g : Nat) : Prop := v.ownBlock = some g ∨ ∃ i, i < R ∧ Foot (rv i) (rs i) (cs i).length g
section
variable {w w' : World} {base : Nat} {v : Value} {rv : Nat → Value} {rs : Nat → List Value} {R : Nat} {cs : Nat → List (List Int × Int)}
theorem OwnCss.ext (h : OwnCss w base v rv rs R cs) (he : Ext w w') : OwnCss w' base v rv rs R cs := ⟨h.1.ext he, fun i hi => (h.2.1 i hi).ext he, h.2.2⟩
theorem OwnCss.reads (h : OwnCss w base v rv rs R cs) : CssAt w v R cs := ⟨rv, h.1.reads, fun i hi => (h.2.1 i hi).cls⟩
theorem OwnCss.foot (h : OwnCss w base v rv rs R cs) {g : Nat} (hg : CFoot v rv rs R cs g) : base ≤ g ∧ g < w.heap.size := by
  rcases hg with hg | ⟨i, hi, hg⟩
  · exact h.1.lt g hg
  · exact (h.2.1 i hi).foot hg
theorem OwnCss.fr {S : Nat → Prop} (h : OwnCss w base v rv rs R cs) (hf : Fr S w w') (hS : ∀ g, CFoot v rv rs R cs g → ¬ S g) : OwnCss w' base v rv rs R cs :=
  ⟨h.1.fr hf (fun g hg => hS g (.inl hg)), fun i hi => (h.2.1 i hi).fr hf (fun g hg => hS g (.inr ⟨i, hi, hg⟩)), h.2.2⟩
theorem cls_apart {xs : List Value} {n : Nat} {v r : Value} {rr : List Value} {c : List (List Int × Int)} {base' : Nat} (h1 : w.ownsRow base 53 1 v n xs) (h2 : OwnCls w base' r rr c) {g : Nat} (hg : Foot r rr c.length g) : v.ownBlock ≠ some g := by
  obtain ⟨_, ⟨ys, h3, _⟩, h4, _⟩ := h2
  rcases hg with hg | ⟨j, hj, hg⟩
  · exact owns_apart h3 h1 (by decide) hg
  · exact owns_apart (h4 j hj) h1 (by decide) hg
theorem OwnCss.apart (h : OwnCss w base v rv rs R cs) {i g : Nat} (hi : i < R) (hg : Foot (rv i) (rs i) (cs i).length g) : v.ownBlock ≠ some g := by
  obtain ⟨ys, h1, _⟩ := h.1
  exact cls_apart h1 (h.2.1 i hi) hg
theorem OwnCls.mono {base' : Nat} {r : Value} {rr : List Value} {c : List (List Int × Int)} (h : OwnCls w base r rr c) (hb : base' ≤ base) : OwnCls w base' r rr c := by
  obtain ⟨h0, ⟨ys, h1, h2⟩, h3, h4⟩ := h
  exact ⟨h0, ⟨ys, owns_mono h1 hb, h2⟩, fun j hj => owns_mono (h3 j hj) hb, h4⟩
theorem OwnCss.push {v' r : Value} {rr : List Value} {c : List (List Int × Int)} {ys : List Value} (h : OwnCss w base v rv rs R cs) (hy : w.ownsRow base 53 1 v R ys) (hyy : ∀ j, j < R → ys[j]? = some (rv j))
    (hr : OwnCls w base r rr c) (hap : ∀ i g, i < R → Foot (rv i) (rs i) (cs i).length g → ¬ Foot r rr c.length g) (ho : w'.ownsRow base 53 1 v' (R + 1) (ys ++ [r])) (hg : w.grownBy w' v.ownBlock) :
    OwnCss w' base v' (fun i => if i = R then r else rv i) (fun i => if i = R then rr else rs i) (R + 1) (fun i => if i = R then c else cs i) := by
  have fr : Fr (fun k => v.ownBlock = some k) w w' := (Fr.refl _ _).grown hg (fun k hk => hk)
  refine ⟨own1_push (by have := hy.1; omega) hyy ho, fun i hi => ?_, fun i j g hij hj h1 => ?_⟩
  · dsimp only
    by_cases e : i = R
    · subst e; rw [if_pos rfl, if_pos rfl, if_pos rfl]
      exact hr.fr fr (fun g hg e => cls_apart hy hr hg e)
    · rw [if_neg e, if_neg e, if_neg e]
      exact (h.2.1 i (by omega)).fr fr (fun g hg e => h.apart (by omega) hg e)
  · dsimp only at h1 ⊢
    rw [if_neg (by omega), if_neg (by omega), if_neg (by omega)] at h1
    by_cases e : j = R
    · subst e; rw [if_pos rfl, if_pos rfl, if_pos rfl]
      exact hap i g (by omega) h1
    · rw [if_neg e, if_neg e, if_neg e]
      exact h.2.2 i j g hij (by omega) h1
theorem OwnCss.congr {cs' : Nat → List (List Int × Int)} (h : OwnCss w base v rv rs R cs) (e : ∀ i, i < R → cs i = cs' i) : OwnCss w base v rv rs R cs' :=
  ⟨h.1, fun i hi => by rw [← e i hi]; exact h.2.1 i hi, fun i j g hij hj h1 => by rw [← e i (by omega)] at h1; rw [← e j hj]; exact h.2.2 i j g hij hj h1⟩
end
def gkC (k : Int) (cs : Nat → List (List Int × Int)) : Nat → Int
  | 0 => k
  | i + 1 => kkC (gkC k cs i) (cs i) (cs i).length
def SmallC (k : Int) (cs : Nat → List (List Int × Int)) (R : Nat) : Prop := ∀ i, i < R → Small (gkC k cs i) (cs i) ∧ (cs i).length ≤ 4398046511104 ∧ ∀ j, j < (cs i).length → (cR (cs i) j).length ≤ 4398046511104
theorem SmallC.pos {k : Int} {cs : Nat → List (List Int × Int)} {R : Nat} (h : SmallC k cs R) {i : Nat} (hi : i < R) : 0 ≤ gkC k cs (i + 1) := ((h i hi).1 _ (Nat.le_refl _)).1
end Go.Proofs.YtbieoijeilhadaaDoor

namespace Go.Proofs.YtbieoijeilhadaaDoor
open Go.RowKit
def cWd (d : Int) : Int := if d < 0 then 0 else if 1000 < d then 1000 else d
theorem cWd_bd (d : Int) : 0 ≤ cWd d ∧ cWd d ≤ 1000 := by
  unfold cWd
  split
  · omega
  · split <;> omega
theorem l1Wide_any (r : Value) (d : Int) (w : World) : Calls Tryd.prog 83 #[.agg #[r, .int .i64 d]] w fun e w' => e = .returned (.int .i64 (cWd d)) ∧ Ext w w' := by
  by_cases h : d < 0
  · have hw : Hid (cWd d = 0) := by show _ = _; rw [cWd, if_pos h]
    go_enter Tryd.func83, Tryd.ntmps83
    go_wp2
    go_ret
    exact ⟨by rw [hw.out]; rfl, (Ext.refl _).alloc _⟩
  · by_cases h2 : 1000 < d
    · have hw : Hid (cWd d = 1000) := by show _ = _; rw [cWd, if_neg h, if_pos h2]
      go_enter Tryd.func83, Tryd.ntmps83
      go_wp2
      go_ret
      exact ⟨by rw [hw.out]; rfl, (Ext.refl _).alloc _⟩
    · have hw : Hid (cWd d = d) := by show _ = _; rw [cWd, if_neg h, if_neg h2]
      go_enter Tryd.func83, Tryd.ntmps83
      go_wp2
      go_ret
      exact ⟨by rw [hw.out]; rfl, (Ext.refl _).alloc _⟩
theorem countedWidth_any (r : Value) (d : Int) (w : World) : Calls Tryd.prog 88 #[.agg #[r, .int .i64 d]] w fun e w' => e = .returned (.int .i64 (cWd d)) ∧ Ext w w' := by
  by_cases h : d < 0
  · have hw : Hid (cWd d = 0) := by show _ = _; rw [cWd, if_pos h]
    have hm : max d 0 = 0 := by omega
    go_enter Tryd.func88, Tryd.ntmps88
    go_wp2
    go_ret
    exact ⟨by rw [hw.out]; rfl, (Ext.refl _).alloc _⟩
  · by_cases h2 : 1000 < d
    · have hw : Hid (cWd d = 1000) := by show _ = _; rw [cWd, if_neg h, if_pos h2]
      go_enter Tryd.func88, Tryd.ntmps88
      go_wp2
      go_ret
      exact ⟨by rw [hw.out]; rfl, (Ext.refl _).alloc _⟩
    · have hw : Hid (cWd d = d) := by show _ = _; rw [cWd, if_neg h, if_neg h2]
      go_enter Tryd.func88, Tryd.ntmps88
      go_wp2
      go_ret
      exact ⟨by rw [hw.out]; rfl, (Ext.refl _).alloc _⟩
theorem infoI32w : (Tryd.prog.info? 21).map (fun i => (i.zero, i.size, i.bytes)) = some (some (.int .i32 0), 1, 4) := by kernel_rfl
theorem ints_news' {w : World} {ao : Option Addr} {cap : Nat} {bs : List Int} {k : IntKind} (h : IntsAt w k (.slice ao bs.length cap) bs) (h0 : 0 < bs.length) : ∃ b off, ao = some ⟨b, off, none⟩ ∧ ∀ j u, (bs.map (Value.int k))[j]? = some u → w.cell? ((⟨b, off, none⟩ : Addr).add j) = some u := by
  obtain ⟨ao', c, e, _, hx⟩ := h
  obtain ⟨b, off, e2, hc⟩ := hx h0
  injection e with e3
  refine ⟨b, off, e3.trans e2, fun j u hj => ?_⟩
  have hjl : j < bs.length := by
    have := (List.getElem?_eq_some_iff.1 hj).1
    simpa using this
  rw [Addr.add_lit, hc j hjl]
  simp [at0_lt hjl] at hj
  rw [hj]
set_option maxHeartbeats 1000000 in
theorem copyCluster_any (r : Value) (xs : List Int) (d : Int) (w : World) (hr : IntsAt w .i32 r xs) (hx : xs.length ≤ 16777216) :
    Calls Tryd.prog 89 #[.agg #[r, .int .i64 d]] w fun e w' => ∃ r', e = .returned (.agg #[r', .int .i64 d]) ∧ w'.ownsRow w.heap.size 21 1 r' xs.length (xs.map (Value.int .i32)) ∧ Ext w w' := by
  obtain ⟨i0, hi, hz0, hz1, hz2⟩ := info_parts infoI32w
  have HR := hide hr
  obtain ⟨ao, cap, rfl, _, _⟩ := hr
  obtain ⟨V, hV⟩ : ∃ V, V = (w.alloc (.cells #[.slice ao xs.length cap, .int .i64 d] 58)).alloc (.cells #[.slice none 0 0, .int .i64 0] 58) := ⟨_, rfl⟩
  have hzV : V.heap.size = w.heap.size + 2 := by rw [hV]; simp
  have EV : Ext w V := by rw [hV]; exact ((Ext.refl _).alloc _).alloc _
  have c0 : V.cell? ⟨w.heap.size, 0, none⟩ = some (.slice ao xs.length cap) := by rw [hV]; simp [go_sem]
  have c1 : V.cell? ⟨w.heap.size, 1, none⟩ = some (.int .i64 d) := by rw [hV]; simp [go_sem]
  have c2 : V.cell? ⟨w.heap.size + 1, 0, none⟩ = some (.slice none 0 0) := by rw [hV]; simp [go_sem]
  have c3 : V.cell? ⟨w.heap.size + 1, 1, none⟩ = some (.int .i64 0) := by rw [hV]; simp [go_sem]
  have f2 : V.frozen? ⟨w.heap.size + 1, 0, none⟩ = false := by rw [hV]; simp [go_sem]
  have f3 : V.frozen? ⟨w.heap.size + 1, 1, none⟩ = false := by rw [hV]; simp [go_sem]
  have HO : Hid (V.drew.ownsRow (w.heap.size + 2) 21 1 (.slice none 0 0) 0 []) := ⟨by simp, .inl ⟨rfl, rfl⟩⟩
  have HVV := hide hV
  clear hV
  by_cases h0 : 0 < xs.length
  · obtain ⟨b, off, rfl, hn⟩ := ints_news' ((unhide HR).ext EV.drew) h0
    have HC := hide hn
    clear hn
    go_enter Tryd.func89, Tryd.ntmps89
    go_wp2
    rw [← unhide HVV]
    go_region_law (first
      | (refine step_append_lies _ (by rfl) _ _ _ (by rfl) (w.heap.size + 2) 21 i0 _ 1 4 Tryd.underlying55 hi hz0 hz1 hz2 rfl (by omega) _ 0 [] (by rfl) (unhide HO) ⟨b, off, none⟩ xs.length cap (xs.map (Value.int .i32)) (by rfl) (by simp) (unhide HC) (ints_oneCell _ _) (by omega) (by unfold maxLen; omega) (by omega) (by simp [hzV]) (w.heap.size + 2) (by simp [hzV]) ?_; intro g1 cap1 w1 o1 G1 at1 lt1; have E1 : Ext V w1 := (Ext.refl V).drew.grown G1 (fun k hk => by simp [Value.ownBlock] at hk); have k0 := E1.cell c0; have k1 := E1.cell c1; have k2 := E1.cell c2; have k3 := E1.cell c3; have k4 := E1.rules.2 _ 0 (show w.heap.size + 1 < _ by omega); have k5 := E1.rules.2 _ 1 (show w.heap.size + 1 < _ by omega); rw [f2] at k4; rw [f3] at k5; have O1 := hide o1; clear o1 G1))
    all_goals
      go_wp2
      refine bodyPost_ret (v := .agg #[.slice (some ⟨g1, 0, none⟩) (0 + xs.length) cap1, .int .i64 d]) (by simp [results, Tryd.results89, go_sem, k2, k3]) rfl ⟨_, rfl, ?_, ?_⟩
      · rw [Nat.zero_add]
        have := unhide O1
        rw [Nat.zero_add, List.nil_append] at this
        refine owns_setCell (owns_setCell (owns_mono this (by omega)) ?_ _) ?_ _
        · intro e; have := (this.lt _ e).1; dsimp only at this; omega
        · intro e; have := (this.lt _ e).1; dsimp only at this; omega
      · exact ((EV.trans E1).setCell (by dsimp only; omega) _).setCell (by dsimp only; omega) _
  · have e0 : xs = [] := List.eq_nil_of_length_eq_zero (by omega)
    subst e0
    simp only [List.length_nil] at HVV c0
    rcases ao with _ | ⟨b, off, sp⟩
    · go_enter Tryd.func89, Tryd.ntmps89
      go_wp2
      rw [← unhide HVV]
      go_region_law (first | fail)
      all_goals
        go_wp2
        refine bodyPost_ret (v := .agg #[.slice none 0 0, .int .i64 d]) (by simp [results, Tryd.results89, go_sem, c2, c3]) rfl ⟨_, rfl, ⟨by simp, .inl ⟨rfl, rfl⟩⟩, ?_⟩
        repeat' first | exact EV | refine Ext.drew ?_ | refine Ext.setCell ?_ (by dsimp only; omega) _
    · go_enter Tryd.func89, Tryd.ntmps89
      go_wp2
      rw [← unhide HVV]
      go_region_law (first | fail)
      all_goals
        go_wp2
        refine bodyPost_ret (v := .agg #[.slice none 0 0, .int .i64 d]) (by simp [results, Tryd.results89, go_sem, c2, c3]) rfl ⟨_, rfl, ⟨by simp, .inl ⟨rfl, rfl⟩⟩, ?_⟩
        repeat' first | exact EV | refine Ext.drew ?_ | refine Ext.setCell ?_ (by dsimp only; omega) _
end Go.Proofs.YtbieoijeilhadaaDoor

namespace Go.Proofs.YtbieoijeilhadaaDoor
open Go.RowKit
theorem infoClw : (Tryd.prog.info? 58).map (fun i => (i.zero, i.size, i.bytes)) = some (some (.agg #[.slice none 0 0, .int .i64 0]), 2, 32) := by kernel_rfl
theorem cls_take_succ (cs : List (List Int × Int)) (k : Nat) (h : k < cs.length) : cs.take (k + 1) = cs.take k ++ [(cR cs k, cW cs k)] := by
  rw [List.take_succ_eq_append_getElem h]
  congr 1
  simp [cR, cW, h]
theorem cls_none {W : World} {base : Nat} {v : Value} (h : W.ownsRow base 58 2 v 0 []) : OwnCls W base v [] [] :=
  ⟨rfl, ⟨[], h, fun j hj => by simp at hj⟩, fun j hj => by simp at hj, fun i j g _ hj => by simp at hj⟩
end Go.Proofs.YtbieoijeilhadaaDoor

namespace Go.Proofs.YtbieoijeilhadaaDoor
open Go.RowKit
def stF (cs : List (List Int × Int)) (cols : Int) : Nat → List Int × Int
  | 0 => ([0], 0)
  | k + 1 => if at0 (stF cs cols k).1 ((stF cs cols k).1.length - 1) < (k : Int) ∧ cols < (stF cs cols k).2 + cWd (cW cs k) then ((stF cs cols k).1 ++ [(k : Int)], cWd (cW cs k)) else ((stF cs cols k).1, (stF cs cols k).2 + cWd (cW cs k))
theorem at0_app {xs : List Int} {x : Int} {i : Nat} : at0 (xs ++ [x]) i = if i = xs.length then x else at0 xs i := by
  unfold at0
  by_cases h : i = xs.length
  · subst h; simp
  · rw [if_neg h]
    by_cases h2 : i < xs.length
    · rw [List.getElem?_append_left h2]
    · rw [List.getElem?_eq_none (by simp; omega), List.getElem?_eq_none (by omega)]
structure StOk (S : List Int) (u : Int) (k : Nat) : Prop where
  one : 1 ≤ S.length
  len : S.length ≤ k + 1
  u0 : 0 ≤ u
  u1 : u ≤ 1000 * (k : Int)
  at00 : at0 S 0 = 0
  le : ∀ i, i < S.length → 0 ≤ at0 S i ∧ at0 S i ≤ (k : Int)
  mono : ∀ i, i + 1 < S.length → at0 S i ≤ at0 S (i + 1)
theorem stF_ok (cs : List (List Int × Int)) (cols : Int) : ∀ k, StOk (stF cs cols k).1 (stF cs cols k).2 k
  | 0 => ⟨by simp [stF], by simp [stF], by simp [stF], by simp [stF], by simp [stF, at0], fun i hi => by
      simp [stF] at hi; subst hi; simp [stF, at0], fun i hi => by simp [stF] at hi⟩
  | k + 1 => by
    have h := stF_ok cs cols k
    have hw := cWd_bd (cW cs k)
    have h1 := h.one
    have h2 := h.len
    have h3 := h.u0
    have h4 := h.u1
    rw [stF]
    split
    · refine ⟨by simp, by simp; omega, by dsimp only; omega, by dsimp only; omega, ?_, fun i hi => ?_, fun i hi => ?_⟩
      · dsimp only; rw [at0_app, if_neg (by omega)]; exact h.at00
      · dsimp only at hi ⊢
        simp at hi
        rw [at0_app]
        split
        · omega
        · have := h.le i (by omega); omega
      · dsimp only at hi ⊢
        simp at hi
        rw [at0_app, at0_app, if_neg (by omega)]
        split
        · have := h.le i (by omega); omega
        · exact h.mono i (by omega)
    · refine ⟨h1, by dsimp only; omega, by dsimp only; omega, by dsimp only; omega, h.at00, fun i hi => ?_, h.mono⟩
      have := h.le i hi
      dsimp only
      omega
theorem infoInt : (Tryd.prog.info? 3).map (fun i => (i.zero, i.size, i.bytes)) = some (some (.int .i64 0), 1, 8) := by kernel_rfl
set_option maxRecDepth 10000 in
set_option maxHeartbeats 2000000 in
theorem l1Starts_any (v : Value) (cs : List (List Int × Int)) (cols : Int) (w : World) (hv : ClsAt w v cs) (hl : cs.length ≤ 16777216) :
    Calls Tryd.prog 53 #[v, .int .i64 cols] w fun e w' => ∃ v', e = .returned v' ∧ w'.ownsRow w.heap.size 3 1 v' (stF cs cols cs.length).1.length ((stF cs cols cs.length).1.map (Value.int .i64)) ∧ Ext w w' := by
  obtain ⟨ii, hii, hi0, hi1, hi2⟩ := info_parts infoInt
  obtain ⟨ra, ao, ca, rfl, hca, hra, hxa⟩ := hv
  obtain ⟨n, hn⟩ : ∃ n, n = cs.length := ⟨_, rfl⟩
  rw [← hn] at hca hra hxa hl ⊢
  have HXA := hide hxa
  clear hn hra hxa
  have HOK := hide (fun k => stF_ok cs cols k)
  go_enter Tryd.func53, Tryd.ntmps53
  go_wp2
  go_loopw [5, 6, 7] (fun o u i wr => ∃ (k : Nat), k ≤ n ∧ i = .int .i64 k ∧ u = .int .i64 (stF cs cols k).2 ∧ Hid (wr.ownsRow w.heap.size 3 1 o (stF cs cols k).1.length ((stF cs cols k).1.map (Value.int .i64))) ∧ Ext w wr) (fun _ _ i _ => n - (intOf i).toNat)
  case atStart =>
    refine ⟨0, Nat.zero_le _, rfl, rfl, ?_, (Ext.refl _).alloc _⟩
    exact hide (own_lit (w := w) .i64 [0] 3 w.heap.size 1 rfl (Nat.le_refl _) (by unfold maxLen; simp))
  case round =>
    obtain ⟨k, hk, rfl, rfl, HO, hext⟩ := hrel
    obtain ⟨S, hS⟩ : ∃ S, S = (stF cs cols k).1 := ⟨_, rfl⟩
    obtain ⟨u, hu⟩ : ∃ u, u = (stF cs cols k).2 := ⟨_, rfl⟩
    have hok := (unhide HOK) k
    have hst : Hid (stF cs cols (k + 1) = if at0 S (S.length - 1) < (k : Int) ∧ cols < u + cWd (cW cs k) then (S ++ [(k : Int)], cWd (cW cs k)) else (S, u + cWd (cW cs k))) := by
      show _ = _
      rw [hS, hu]; rfl
    rw [← hS] at HO hok
    rw [← hu] at hok ⊢
    have HS := hide hS
    have HU := hide hu
    clear hS hu
    by_cases hlt : k < n
    · have bk : (k : Int) < (n : Int) := by omega
      obtain ⟨b, off, rfl, hc⟩ := (unhide HXA) (by omega)
      have g1 := hext.cell (hc k hlt).1
      have g2 := hext.cell (hc k hlt).2
      have OC := hide (hc k hlt)
      clear hc
      obtain ⟨g, cap, rfl⟩ : ∃ g cap, u5 = .slice (some ⟨g, 0, none⟩) S.length cap := by
        rcases (unhide HO).2 with ⟨_, e⟩ | ⟨g, cap, cur, e, _⟩
        · have := hok.one; omega
        · exact ⟨g, cap, e⟩
      have h1 := hok.one
      have h2 := hok.len
      have h3 := hok.u0
      have h4 := hok.u1
      have hwd := cWd_bd (cW cs k)
      obtain ⟨m, hm⟩ : ∃ m, S.length = m + 1 := ⟨S.length - 1, by omega⟩
      obtain ⟨L, hL⟩ : ∃ L, L = at0 S m := ⟨_, rfl⟩
      have cL : wr.cell? ⟨g, m, none⟩ = some (.int .i64 L) := by
        rw [(unhide HO).cellAt m (by omega), hL]
        simp [at0_lt (show m < S.length by omega)]
      have hb := hok.le m (by omega)
      rw [← hL] at hb
      rw [show S.length - 1 = m by omega, ← hL] at hst
      rw [hm] at HO ⊢
      have hmb : m ≤ k := by omega
      have HLN := hide hm
      clear hL hok hm
      have hw1 : IntKind.i64.wrap (((m + 1 : Nat) : Int) - 1) = (m : Int) := by rw [IntKind.wrap_i64]; omega
      have hw1b : IntKind.i64.wrap ((m : Int) + 1 - 1) = (m : Int) := by rw [IntKind.wrap_i64]; omega
      have hw2 : IntKind.i64.wrap (u + cWd (cW cs k)) = u + cWd (cW cs k) := by rw [IntKind.wrap_i64]; omega
      have hw3 : ((m : Int) + 1 - 1) = (m : Int) := by omega
      have hmm : (m : Int) < (m : Int) + 1 := by omega
      by_cases hlk : L < (k : Int)
      · go_wp2_with fail
        refine (l1Wide_any _ _ _).mono ?_
        rintro e w1 ⟨rfl, F1⟩
        have q1 := F1.cell g1
        have q2 := F1.cell g2
        have E1 := hext.trans F1
        have z1 := E1.size
        by_cases hov : cols < u + cWd (cW cs k)
        · have hs1 : Hid (stF cs cols (k + 1) = (S ++ [(k : Int)], cWd (cW cs k))) := by show _ = _; rw [hst.out, if_pos ⟨hlk, hov⟩]
          have HY := hide (((Ext.refl w1).alloc (.cells #[.int .i64 (k : Int)] 3)).owns (F1.owns (unhide HO)))
          have r1 := fun o => ((Ext.refl w1).alloc o).cell q1
          have r2 := fun o => ((Ext.refl w1).alloc o).cell q2
          go_wp2_with (at_builtin; go_must (refine wpList_append_own _ rfl _ _ 91 rfl w.heap.size 3 ii (.int .i64 0) 1 8 Tryd.underlying91 hii hi0 hi1 hi2 rfl (by decide) _ _ _ rfl (unhide HY) ⟨w1.heap.size, 0, none⟩ 1 1 [.int .i64 (k : Int)] rfl rfl ?_ (by simp [Value.oneCell']) ?_ ?_ ?_ ?_))
          · exact news_cells (w := w1) [.int .i64 (k : Int)] 3
          · unfold maxLen; omega
          · omega
          · simp; omega
          · intro v' w3 hown' hgrow _
            have E3 : Ext w w3 := (E1.alloc _).grown hgrow (fun q hq => ((unhide HY).lt q hq).1)
            have HO3 : Hid (w3.ownsRow w.heap.size 3 1 v' (S ++ [(k : Int)]).length ((S ++ [(k : Int)]).map (Value.int .i64))) := by
              refine hide ?_
              rw [List.length_append, unhide HLN, List.map_append]
              exact hown'
            clear hown' hgrow r1 r2 q1 q2 g1 g2
            have g1 := E3.cell (unhide OC).1
            have g2 := E3.cell (unhide OC).2
            go_wp2_with fail
            refine (l1Wide_any _ _ _).mono ?_
            rintro e w4 ⟨rfl, F4⟩
            have HO4 := hide (F4.owns (unhide HO3))
            go_wp2
            go_roundw
            case rel => exact ⟨k + 1, by omega, by go_num, by rw [hs1.out], by rw [hs1.out]; exact HO4, E3.trans F4⟩
            case measure => simp [intOf]; omega
        · have hs1 : Hid (stF cs cols (k + 1) = (S, u + cWd (cW cs k))) := by show _ = _; rw [hst.out, if_neg (fun h => hov h.2)]
          go_wp2_with fail
          refine (l1Wide_any _ _ _).mono ?_
          rintro e w2 ⟨rfl, F2⟩
          have HO2 := hide ((F1.trans F2).owns (unhide HO))
          go_wp2
          go_roundw
          case rel => exact ⟨k + 1, by omega, by go_num, by rw [hs1.out], by rw [hs1.out, unhide HLN]; exact HO2, E1.trans F2⟩
          case measure => simp [intOf]; omega
      · have hs1 : Hid (stF cs cols (k + 1) = (S, u + cWd (cW cs k))) := by show _ = _; rw [hst.out, if_neg (fun h => hlk h.1)]
        go_wp2_with fail
        refine (l1Wide_any _ _ _).mono ?_
        rintro e w2 ⟨rfl, F2⟩
        have HO2 := hide (F2.owns (unhide HO))
        go_wp2
        go_roundw
        case rel => exact ⟨k + 1, by omega, by go_num, by rw [hs1.out], by rw [hs1.out, unhide HLN]; exact HO2, hext.trans F2⟩
        case measure => simp [intOf]; omega
    · obtain rfl : k = n := by omega
      rw [unhide HS] at HO
      go_wp2
      go_ret
      exact ⟨_, rfl, unhide HO, hext⟩
end Go.Proofs.YtbieoijeilhadaaDoor

namespace Go.Proofs.YtbieoijeilhadaaDoor
open Go.RowKit
def wrS (cs : List (List Int × Int)) (cols : Int) : List Int := (stF cs cols cs.length).1 ++ [(cs.length : Int)]
def wrR (cs : List (List Int × Int)) (cols : Int) : Nat := if cols < 2 then 0 else (stF cs cols cs.length).1.length
def wrC (cs : List (List Int × Int)) (cols : Int) (i : Nat) : List (List Int × Int) := (cs.take (at0 (wrS cs cols) (i + 1)).toNat).drop (at0 (wrS cs cols) i).toNat
theorem ClsAt.sub {w : World} {b off cap : Nat} {cs : List (List Int × Int)} (h : ClsAt w (.slice (some ⟨b, off, none⟩) cs.length cap) cs) (s e : Nat) (hse : s ≤ e) (he : e ≤ cs.length) (v : Value) (c : Nat) (hv : v = .slice (some ⟨b, off + s * 2, none⟩) (e - s) c) (hc : e - s ≤ c) : ClsAt w v ((cs.take e).drop s) := by
  obtain ⟨rs, ao, ca, e1, hca, hr, hx⟩ := h
  have hlen : ((cs.take e).drop s).length = e - s := by simp; omega
  have hR : ∀ j, j < e - s → cR ((cs.take e).drop s) j = cR cs (s + j) ∧ cW ((cs.take e).drop s) j = cW cs (s + j) := by
    intro j hj
    unfold cR cW
    rw [List.getElem?_drop, List.getElem?_take, if_pos (by omega)]
    exact ⟨rfl, rfl⟩
  refine ⟨rs.drop s, _, c, by rw [hlen]; exact hv, by omega, ?_, ?_⟩
  · intro j hj
    rw [hlen] at hj
    rw [(hR j hj).1]
    have : rV (rs.drop s) j = rV rs (s + j) := by
      unfold rV
      rw [List.getElem?_drop]
    rw [this]
    exact hr (s + j) (by omega)
  · intro hp
    rw [hlen] at hp
    obtain ⟨b', off', e2, hcell⟩ := hx (by omega)
    injection e1 with e3
    rw [e2] at e3
    injection e3 with e4
    injection e4 with e5 e6
    subst e5 e6
    refine ⟨b, off + s * 2, rfl, fun j hj => ?_⟩
    rw [hlen] at hj
    have h5 := hcell (s + j) (by omega)
    have : rV (rs.drop s) j = rV rs (s + j) := by
      unfold rV
      rw [List.getElem?_drop]
    rw [this, (hR j hj).2, show off + s * 2 + j * 2 = off + (s + j) * 2 by omega]
    exact h5
theorem infoRw : (Tryd.prog.info? 53).map (fun i => (i.zero, i.size, i.bytes)) = some (some (.slice none 0 0), 1, 24) := by kernel_rfl
theorem css_nil {W : World} {base : Nat} {v : Value} {rv : Nat → Value} {rs : Nat → List Value} {cs : Nat → List (List Int × Int)} (h : W.ownsRow base 53 1 v 0 []) : OwnCss W base v rv rs 0 cs :=
  ⟨⟨[], h, fun j hj => by omega⟩, fun i hi => by omega, fun i j g _ hj => by omega⟩
end Go.Proofs.YtbieoijeilhadaaDoor

namespace Go.Proofs.YtbieoijeilhadaaDoor
open Go.RowKit
def wk (cs : List (List Int × Int)) (cols : Int) (k i : Nat) : List (List Int × Int) := (cs.take (at0 ((stF cs cols k).1 ++ [(k : Int)]) (i + 1)).toNat).drop (at0 ((stF cs cols k).1 ++ [(k : Int)]) i).toNat
theorem wk_last (cs : List (List Int × Int)) (cols : Int) (k m : Nat) (hm : (stF cs cols k).1.length = m + 1) : wk cs cols k m = (cs.take k).drop (at0 (stF cs cols k).1 m).toNat := by
  unfold wk
  rw [at0_app (i := m + 1), if_pos (by omega), at0_app (i := m), if_neg (by omega)]
  simp
theorem wk_same (cs : List (List Int × Int)) (cols : Int) (k m : Nat) (hm : (stF cs cols k).1.length = m + 1) (hs : (stF cs cols (k + 1)).1 = (stF cs cols k).1) (hk : k < cs.length) :
    (∀ i, i < m → wk cs cols (k + 1) i = wk cs cols k i) ∧ wk cs cols (k + 1) m = wk cs cols k m ++ [(cR cs k, cW cs k)] := by
  constructor
  · intro i hi
    unfold wk
    rw [hs, at0_app, at0_app, at0_app, at0_app, if_neg (by omega), if_neg (by omega), if_neg (by omega), if_neg (by omega)]
  · have hle := (stF_ok cs cols k).le m (by omega)
    rw [wk_last cs cols k m hm, wk_last cs cols (k + 1) m (by rw [hs]; exact hm), hs, cls_take_succ cs k hk, List.drop_append_of_le_length (by simp; omega)]
theorem wk_new (cs : List (List Int × Int)) (cols : Int) (k m : Nat) (hm : (stF cs cols k).1.length = m + 1) (hs : (stF cs cols (k + 1)).1 = (stF cs cols k).1 ++ [(k : Int)]) (hk : k < cs.length) :
    (∀ i, i < m + 1 → wk cs cols (k + 1) i = wk cs cols k i) ∧ wk cs cols (k + 1) (m + 1) = [(cR cs k, cW cs k)] := by
  constructor
  · intro i hi
    unfold wk
    rw [hs, at0_app (i := i + 1), at0_app (xs := (stF cs cols k).1 ++ [(k : Int)]) (i := i), if_neg (by simp; omega), if_neg (by simp; omega)]
  · rw [wk_last cs cols (k + 1) (m + 1) (by rw [hs]; simp; omega), hs, at0_app, if_pos (by omega), cls_take_succ cs k hk, List.drop_append_of_le_length (by simp; omega)]
    simp
def Wk (w : World) (base : Nat) (v5 v6 : Value) (rv : Nat → Value) (rs : Nat → List Value) (rr : List Value) (cs : List (List Int × Int)) (cols : Int) (k m : Nat) : Prop :=
  OwnCss w base v5 rv rs m (wk cs cols k) ∧ OwnCls w base v6 rr (wk cs cols k m) ∧ ∀ i g, i < m → Foot (rv i) (rs i) (wk cs cols k i).length g → ¬ Foot v6 rr (wk cs cols k m).length g
theorem Wk.ext {w w' : World} {base : Nat} {v5 v6 : Value} {rv : Nat → Value} {rs : Nat → List Value} {rr : List Value} {cs : List (List Int × Int)} {cols : Int} {k m : Nat} (h : Wk w base v5 v6 rv rs rr cs cols k m) (he : Ext w w') : Wk w' base v5 v6 rv rs rr cs cols k m :=
  ⟨h.1.ext he, h.2.1.ext he, h.2.2⟩
theorem Wk.fresh {w : World} {base : Nat} {v5 v6 : Value} {rv : Nat → Value} {rs : Nat → List Value} {rr : List Value} {cs : List (List Int × Int)} {cols : Int} {k m : Nat} (h : Wk w base v5 v6 rv rs rr cs cols k m) {i g : Nat} (hi : i < m) (hg : Foot (rv i) (rs i) (wk cs cols k i).length g) : g < w.heap.size := ((h.1.2.1 i hi).foot hg).2
theorem OwnCss.congrN {w : World} {base : Nat} {v : Value} {rv : Nat → Value} {rs : Nat → List Value} {R : Nat} {cs cs' : Nat → List (List Int × Int)} (h : OwnCss w base v rv rs R cs) (e : ∀ i, i < R → cs' i = cs i) : OwnCss w base v rv rs R cs' := h.congr (fun i hi => (e i hi).symm)
theorem Wk.more {w w5 w6 : World} {base : Nat} {v5 v6 r : Value} {rv : Nat → Value} {rs : Nat → List Value} {rr ys : List Value} {cs : List (List Int × Int)} {cols : Int} {k m g6 cap6 H : Nat} (h : Wk w base v5 v6 rv rs rr cs cols k m) (hb : base ≤ w.heap.size)
    (hm : (stF cs cols k).1.length = m + 1) (hs : (stF cs cols (k + 1)).1 = (stF cs cols k).1) (hk : k < cs.length)
    (E5 : Ext w w5) (hr : w5.ownsRow w.heap.size 21 1 r (cR cs k).length ((cR cs k).map (Value.int .i32)))
    (hy : w.ownsRow base 58 2 v6 (wk cs cols k m).length ys) (hyy : ∀ j, j < (wk cs cols k m).length → ys[j * 2]? = some (rV rr j) ∧ ys[j * 2 + 1]? = some (.int .i64 (cW (wk cs cols k m) j)))
    (o6 : w6.ownsRow base 58 2 (.slice (some ⟨g6, 0, none⟩) ((wk cs cols k m).length + 1) cap6) ((wk cs cols k m).length + 1) (ys ++ [r, .int .i64 (cW cs k)])) (G6 : w5.grownBy w6 v6.ownBlock) (hat : v6.ownBlock = some g6 ∨ g6 = H) (hH : w5.heap.size ≤ H) :
    Wk w6 base v5 (.slice (some ⟨g6, 0, none⟩) ((wk cs cols k m).length + 1) cap6) rv rs (rr ++ [r]) cs cols (k + 1) m := by
  obtain ⟨ws, wl⟩ := wk_same cs cols k m hm hs hk
  have fr : Fr (fun q => v6.ownBlock = some q) w5 w6 := (Fr.refl _ _).grown G6 (fun q hq => hq)
  have h5 := h.ext E5
  have hl6 : (wk cs cols (k + 1) m).length = (wk cs cols k m).length + 1 := by rw [wl]; simp
  refine ⟨(h5.1.fr fr (fun g hg e => ?_)).congrN ws, ?_, fun i g hi hg h2 => ?_⟩
  · rcases hg with hg | ⟨i, hi, hg⟩
    · obtain ⟨zs, h6, _⟩ := h5.1.1
      exact cls_apart h6 h5.2.1 (g := g) (.inl e) hg
    · exact h.2.2 i g hi hg (.inl e)
  · rw [wl]
    exact OwnCls.push h5.2.1 (E5.owns hy) hyy (owns_mono hr hb) (fun j q hj hq e => by
      have h6 := (h.2.1.foot (.inr ⟨j, hj, hq⟩)).2
      have h7 := (hr.lt q e).1
      omega) (by simpa using o6) G6
  · rw [ws i hi] at hg
    rw [hl6] at h2
    have hlt := h.fresh hi hg
    have := E5.size
    rcases h2 with h2 | ⟨j, hj, h2⟩
    · simp [Value.ownBlock] at h2
      subst h2
      rcases hat with e | e
      · exact h.2.2 i _ hi hg (.inl e)
      · omega
    · have hrl : rr.length = (wk cs cols k m).length := h.2.1.1
      by_cases e : j = rr.length
      · subst e
        rw [rV_last] at h2
        have := (hr.lt g h2).1
        omega
      · rw [rV_push _ _ _ (by omega)] at h2
        exact h.2.2 i g hi hg (.inr ⟨j, by omega, h2⟩)
theorem Wk.turn {w w2 w5 w6 : World} {base : Nat} {v5 v6 v5' r : Value} {rv : Nat → Value} {rs : Nat → List Value} {rr ys : List Value} {cs : List (List Int × Int)} {cols : Int} {k m g6 cap6 : Nat} (h : Wk w base v5 v6 rv rs rr cs cols k m)
    (hm : (stF cs cols k).1.length = m + 1) (hs : (stF cs cols (k + 1)).1 = (stF cs cols k).1 ++ [(k : Int)]) (hk : k < cs.length)
    (hy : w.ownsRow base 53 1 v5 m ys) (hyy : ∀ j, j < m → ys[j]? = some (rv j)) (o2 : w2.ownsRow base 53 1 v5' (m + 1) (ys ++ [v6])) (G2 : w.grownBy w2 v5.ownBlock) (hb : base ≤ w2.heap.size)
    (E5 : Ext w2 w5) (hr : w5.ownsRow w2.heap.size 21 1 r (cR cs k).length ((cR cs k).map (Value.int .i32)))
    (o6 : w6.ownsRow base 58 2 (.slice (some ⟨g6, 0, none⟩) 1 cap6) 1 [r, .int .i64 (cW cs k)]) (G6 : w5.grownBy w6 none) (hg6 : w5.heap.size ≤ g6) :
    ∃ rv' rs', Wk w6 base v5' (.slice (some ⟨g6, 0, none⟩) 1 cap6) rv' rs' [r] cs cols (k + 1) (m + 1) := by
  obtain ⟨ws, wl⟩ := wk_new cs cols k m hm hs hk
  have h2 := (OwnCss.push h.1 hy hyy h.2.1 h.2.2 o2 G2).congrN (cs' := wk cs cols (k + 1)) (fun i hi => by
    rw [ws i hi]
    by_cases e : i = m
    · rw [if_pos e, e]
    · rw [if_neg e])
  refine ⟨_, _, h2.ext (E5.trans G6), ?_, fun i g hi hg h3 => ?_⟩
  · rw [wl]
    have := OwnCls.push (W := w5) (W' := w6) (base := base) (v := .slice none 0 0) (v' := .slice (some ⟨g6, 0, none⟩) 1 cap6) (r := r) (rs := []) (cs := []) (xs := cR cs k) (d := cW cs k) (ys := []) (cls_none ⟨by simp, .inl ⟨rfl, rfl⟩⟩) ⟨by simp, .inl ⟨rfl, rfl⟩⟩ (fun j hj => by simp at hj) (owns_mono hr hb) (fun j g hj => by simp at hj) (by simpa using o6) G6
    simpa using this
  · have hlt := ((h2.2.1 i hi).foot hg).2
    have := E5.size
    rw [wl] at h3
    rcases h3 with h3 | ⟨j, hj, h3⟩
    · simp [Value.ownBlock] at h3
      omega
    · simp at hj
      subst hj
      have := (hr.lt g (by simpa [rV] using h3)).1
      omega
set_option maxRecDepth 10000 in
set_option maxHeartbeats 4000000 in
theorem implWrap_any (v : Value) (cs : List (List Int × Int)) (cols : Int) (w : World) (hv : ClsAt w v cs) (hl : cs.length ≤ 4194304) (hx : ∀ j, j < cs.length → (cR cs j).length ≤ 4194304) :
    Calls Tryd.prog 59 #[v, .int .i64 cols] w fun e w' => ∃ v' rv rs, e = .returned v' ∧ OwnCss w' w.heap.size v' rv rs (wrR cs cols) (wrC cs cols) ∧ Ext w w' := by
  obtain ⟨ir, hir, hr0, hr1, hr2⟩ := info_parts infoRw
  obtain ⟨ic, hic, hc0, hc1, hc2⟩ := info_parts infoClw
  obtain ⟨ra, ao, ca, rfl, hca, hra, hxa⟩ := hv
  have HX := hide hx
  have HR := hide hra
  have HXA := hide hxa
  clear hx hra hxa
  by_cases hc : cols < 2
  · have hR : Hid (wrR cs cols = 0) := by show _ = _; rw [wrR, if_pos hc]
    go_enter Tryd.func59, Tryd.ntmps59
    go_wp2
    go_ret
    exact ⟨_, fun _ => .slice none 0 0, fun _ => [], rfl, by rw [hR.out]; exact css_nil ⟨by simp, .inl ⟨rfl, rfl⟩⟩, Ext.refl _⟩
  · have hR : Hid (wrR cs cols = (stF cs cols cs.length).1.length) := by show _ = _; rw [wrR, if_neg hc]
    have HEND : Hid (wk cs cols cs.length = wrC cs cols) := rfl
    have HOK := hide (fun k => stF_ok cs cols k)
    have hst0 : Hid ((stF cs cols 0).1 = [0]) := rfl
    have hw0 : Hid (wk cs cols 0 0 = []) := by show _ = _; rw [wk_last cs cols 0 0 rfl]; simp
    obtain ⟨n, hn⟩ : ∃ n, n = cs.length := ⟨_, rfl⟩
    rw [← hn] at hca hl HX HR HXA hR HEND ⊢
    have HN := hide hn
    clear hn
    go_enter Tryd.func59, Tryd.ntmps59
    go_wp2
    go_loopw [5, 6, 7, 15] (fun o5 o6 u i wr => ∃ (k m : Nat) (rv : Nat → Value) (rs : Nat → List Value) (rr : List Value), k ≤ n ∧ i = .int .i64 k ∧ u = .int .i64 (stF cs cols k).2 ∧ Hid ((stF cs cols k).1.length = m + 1) ∧ Hid (Wk wr w.heap.size o5 o6 rv rs rr cs cols k m) ∧ Ext w wr) (fun _ _ _ i _ => n - (intOf i).toNat)
    case atStart => exact ⟨0, 0, fun _ => .slice none 0 0, fun _ => [], [], Nat.zero_le _, rfl, rfl, hide (by rw [hst0.out]; rfl), hide ⟨css_nil ⟨by simp, .inl ⟨rfl, rfl⟩⟩, by rw [hw0.out]; exact cls_none ⟨by simp, .inl ⟨rfl, rfl⟩⟩, fun i g hi => by omega⟩, Ext.refl _⟩
    case round =>
      obtain ⟨k, m, rv, rs, rr, hk, rfl, rfl, HM, HW, hext⟩ := hrel
      obtain ⟨_, r6, c6, h6, _⟩ := (unhide HW).2.1.cls
      subst h6
      have hok := (unhide HOK) k
      have h3 := hok.u0
      have h4 := hok.u1
      have hmk := hok.len
      rw [unhide HM] at hmk
      have z1 := hext.size
      by_cases hlt : k < n
      · have bk : (k : Int) < (n : Int) := by omega
        have hkc : k < cs.length := by rw [← unhide HN]; exact hlt
        obtain ⟨b, off, rfl, hc⟩ := (unhide HXA) (by omega)
        have g1 := hext.cell (hc k hlt).1
        have g2 := hext.cell (hc k hlt).2
        have HRK := hide (((unhide HR) k hlt).ext hext)
        have HRW := hide ((unhide HR) k hlt)
        have hxk := (unhide HX) k hlt
        clear hc
        obtain ⟨rk, hrk⟩ : ∃ r, r = rV ra k := ⟨_, rfl⟩
        rw [← hrk] at g1 HRK HRW
        clear hrk
        obtain ⟨xa, xc, hrk2, _, _⟩ := unhide HRK
        subst hrk2
        obtain ⟨u, hu⟩ : ∃ u, u = (stF cs cols k).2 := ⟨_, rfl⟩
        have hwd := cWd_bd (cW cs k)
        have hlw : (wk cs cols k m).length = k - (at0 (stF cs cols k).1 m).toNat := by rw [wk_last cs cols k m (unhide HM)]; simp; omega
        have hLb := hok.le m (by rw [unhide HM]; omega)
        have hst : Hid (stF cs cols (k + 1) = if at0 (stF cs cols k).1 m < (k : Int) ∧ cols < u + cWd (cW cs k) then ((stF cs cols k).1 ++ [(k : Int)], cWd (cW cs k)) else ((stF cs cols k).1, u + cWd (cW cs k))) := by
          show _ = _
          rw [hu, stF, unhide HM]
          rfl
        rw [← hu] at h3 h4 ⊢
        clear hu hok
        obtain ⟨L, hL⟩ : ∃ L, L = (wk cs cols k m).length := ⟨_, rfl⟩
        have hLk : 0 < L ↔ at0 (stF cs cols k).1 m < (k : Int) := by omega
        have HL := hide hL
        rw [← hL] at HW ⊢
        clear hlw hLb hL
        have hw2 : IntKind.i64.wrap (u + cWd (cW cs k)) = u + cWd (cW cs k) := by rw [IntKind.wrap_i64]; omega
        go_wp2_with fail
        refine (countedWidth_any _ _ _).mono ?_
        rintro e w1 ⟨rfl, F1⟩
        have bx0 : w1.cell? ⟨wr.heap.size, 0, none⟩ = some (.slice xa (cR cs k).length xc) := F1.cell (by simp [go_sem])
        have bx1 : w1.cell? ⟨wr.heap.size, 1, none⟩ = some (.int .i64 (cW cs k)) := F1.cell (by simp [go_sem])
        have E1 : Ext wr w1 := ((Ext.refl wr).alloc _).trans F1
        have HW1 := hide ((unhide HW).ext E1)
        have X1 := hext.trans E1
        have hwz : wr.heap.size < w1.heap.size := lt_of_cell bx0
        clear F1 g1 g2
        have hcon := hide (fun W (hW : Ext w W) => copyCluster_any (.slice xa (cR cs k).length xc) (cR cs k) (cW cs k) W ((unhide HRW).ext hW) (by omega))
        obtain ⟨_, ⟨ys6, hy6, hyy6⟩, _, _⟩ := (unhide HW1).2.1
        obtain ⟨ys5, hy5, hyy5⟩ := (unhide HW1).1.1
        have HY5 := hide hy5
        have HYY5 := hide hyy5
        have HY6 := hide hy6
        have HYY6 := hide hyy6
        have hu5 : u5.ownBlock ≠ some wr.heap.size := fun e => by have := ((unhide HW).1.1.lt _ e).2; omega
        have HU5 := hide hu5
        have hLb2 : L ≤ k := by have := (unhide HW).2.1.1; have h := unhide HL; rw [wk_last cs cols k m (unhide HM)] at h; simp at h; omega
        clear hy5 hyy5 hy6 hyy6 hu5
        by_cases hA : 0 < L ∧ cols < u + cWd (cW cs k)
        · have hs1 : Hid (stF cs cols (k + 1) = ((stF cs cols k).1 ++ [(k : Int)], cWd (cW cs k))) := by show _ = _; rw [hst.out, if_pos ⟨hLk.1 hA.1, hA.2⟩]
          have hL1 : (0 : Int) < (L : Int) := by omega
          have hov := hA.2
          have EA : Ext w1 (w1.alloc (.cells #[.slice r6 L c6] 53)) := (Ext.refl _).alloc _
          have HYA := hide (EA.owns (unhide HY5))
          go_wp2_with (at_builtin; go_must (refine wpList_append_lies _ rfl _ _ 98 rfl w.heap.size 53 ir _ 1 24 Tryd.underlying98 hir hr0 hr1 hr2 rfl (by decide) u5 m ys5 rfl (unhide HYA) ⟨w1.heap.size, 0, none⟩ 1 1 [.slice r6 L c6] rfl rfl (news_cells (w := w1) [.slice r6 L c6] 53) (by simp [Value.oneCell']) (by omega) (by unfold maxLen; omega) (by omega) (by simp; omega) (w1.heap.size + 1) (by simp) ?_))
          intro g2 cap2 w2 o2 G2 at2 lt2
          have X2 : Ext w w2 := (X1.trans EA).grown G2 (fun q hq => ((unhide HY5).lt q hq).1)
          have q0 : w2.cell? ⟨wr.heap.size, 0, none⟩ = some (.slice xa (cR cs k).length xc) := by rw [G2.cell_far _ (by simp; omega) (fun e => (unhide HU5) e.symm)]; exact EA.cell bx0
          have q1 : w2.cell? ⟨wr.heap.size, 1, none⟩ = some (.int .i64 (cW cs k)) := by rw [G2.cell_far _ (by simp; omega) (fun e => (unhide HU5) e.symm)]; exact EA.cell bx1
          have O2 := hide o2
          have GG2 := hide G2
          have z2 := X2.size
          clear o2 G2 at2 bx0 bx1
          go_wp2_with fail
          refine ((unhide hcon) _ X2).mono ?_
          rintro e w3 ⟨r', rfl, o3, F3⟩
          obtain ⟨r3, c3, hr3, _, _⟩ := ints_of_owns o3
          subst hr3
          have O3 := hide o3
          have z3 := F3.size
          clear o3 q0 q1
          have EB : Ext w3 (w3.alloc (.cells #[.slice r3 (cR cs k).length c3, .int .i64 (cW cs k)] 58)) := (Ext.refl _).alloc _
          go_wp2_with (at_builtin; go_must (refine wpList_append_lies _ rfl _ _ 53 rfl w.heap.size 58 ic _ 2 32 Tryd.underlying53 hic hc0 hc1 hc2 rfl (by decide) (.slice none 0 0) 0 [] rfl ⟨by simp, .inl ⟨rfl, rfl⟩⟩ ⟨w3.heap.size, 0, none⟩ 1 1 [.slice r3 (cR cs k).length c3, .int .i64 (cW cs k)] rfl rfl (news_cells (w := w3) [.slice r3 (cR cs k).length c3, .int .i64 (cW cs k)] 58) (pair_one rfl rfl) (by omega) (by unfold maxLen; omega) (by omega) (by simp; omega) (w3.heap.size + 1) (by simp) ?_))
          intro g6 cap6 w6 o6 G6 at6 lt6
          have hg6 : g6 = w3.heap.size + 1 := at6.elim (fun e => by simp [Value.ownBlock] at e) id
          have E6 : Ext w w6 := ((X2.trans F3).trans EB).trans G6
          have HM' : Hid ((stF cs cols (k + 1)).1.length = m + 1 + 1) := by refine hide ?_; rw [hs1.out, List.length_append, unhide HM]; rfl
          have HW6 : Hid (∃ rv' rs', Wk w6 w.heap.size (.slice (some ⟨g2, 0, none⟩) (m + 1) cap2) (.slice (some ⟨g6, 0, none⟩) 1 cap6) rv' rs' [.slice r3 (cR cs k).length c3] cs cols (k + 1) (m + 1)) := by
            refine hide (Wk.turn (w := w1.alloc (.cells #[.slice r6 L c6] 53)) (w2 := w2) (w5 := w3.alloc (.cells #[.slice r3 (cR cs k).length c3, .int .i64 (cW cs k)] 58)) ((unhide HW1).ext EA) (unhide HM) (by rw [hs1.out]) hkc (unhide HYA) (unhide HYY5) (unhide O2) (unhide GG2) (by omega) (F3.trans EB) (EB.owns (unhide O3)) ?_ G6 (by simp; omega))
            simpa using o6
          obtain ⟨rv', rs', HWW⟩ := unhide HW6
          have HWF := hide HWW
          clear o6 G6 at6 HW6 HWW O2 GG2 O3
          go_wp2
          go_roundw
          case rel => exact ⟨k + 1, m + 1, rv', rs', _, by omega, by go_num, by rw [hs1.out], HM', HWF, E6⟩
          case measure => simp [intOf]; omega
        · have hs1 : Hid (stF cs cols (k + 1) = ((stF cs cols k).1, u + cWd (cW cs k))) := by show _ = _; rw [hst.out, if_neg (fun h => hA ⟨hLk.2 h.1, h.2⟩)]
          have hpick : ((decide (0 < (L : Int))) && decide (cols < u + cWd (cW cs k))) = false := by
            cases h : (decide (0 < (L : Int)) && decide (cols < u + cWd (cW cs k)))
            · rfl
            · simp at h; exact absurd ⟨by omega, h.2⟩ hA
          have hpick2 : (0 : Int) < (L : Int) → ¬ cols < u + cWd (cW cs k) := fun h1 h2 => hA ⟨by omega, h2⟩
          by_cases hL0 : 0 < L
          · have hL1 : (0 : Int) < (L : Int) := by omega
            have hov := hpick2 hL1
            go_wp2_with fail
            refine ((unhide hcon) _ X1).mono ?_
            rintro e w3 ⟨r', rfl, o3, F3⟩
            obtain ⟨r3, c3, hr3, _, _⟩ := ints_of_owns o3
            subst hr3
            have O3 := hide o3
            have z3 := F3.size
            clear o3 bx0 bx1
            have EB : Ext w3 (w3.alloc (.cells #[.slice r3 (cR cs k).length c3, .int .i64 (cW cs k)] 58)) := (Ext.refl _).alloc _
            have HYB : Hid ((w3.alloc (.cells #[.slice r3 (cR cs k).length c3, .int .i64 (cW cs k)] 58)).ownsRow w.heap.size 58 2 (.slice r6 L c6) L ys6) := by
              have := (F3.trans EB).owns (unhide HY6)
              rw [← unhide HL] at this
              exact hide this
            go_wp2_with (at_builtin; go_must (refine wpList_append_lies _ rfl _ _ 53 rfl w.heap.size 58 ic _ 2 32 Tryd.underlying53 hic hc0 hc1 hc2 rfl (by decide) (.slice r6 L c6) L ys6 rfl (unhide HYB) ⟨w3.heap.size, 0, none⟩ 1 1 [.slice r3 (cR cs k).length c3, .int .i64 (cW cs k)] rfl rfl (news_cells (w := w3) [.slice r3 (cR cs k).length c3, .int .i64 (cW cs k)] 58) (pair_one rfl rfl) (by omega) (by unfold maxLen; omega) (by omega) (by simp; omega) (w3.heap.size + 1) (by simp) ?_))
            intro g6 cap6 w6 o6 G6 at6 lt6
            have E6 : Ext w w6 := ((X1.trans F3).trans EB).grown G6 (fun q hq => ((unhide HYB).lt q hq).1)
            have HM' : Hid ((stF cs cols (k + 1)).1.length = m + 1) := by refine hide ?_; rw [hs1.out]; exact unhide HM
            have HW6 : Hid (Wk w6 w.heap.size u5 (.slice (some ⟨g6, 0, none⟩) (L + 1) cap6) rv rs (rr ++ [.slice r3 (cR cs k).length c3]) cs cols (k + 1) m) := by
              have := Wk.more (w := w1) (w5 := w3.alloc (.cells #[.slice r3 (cR cs k).length c3, .int .i64 (cW cs k)] 58)) (w6 := w6) (g6 := g6) (cap6 := cap6) (H := w3.heap.size + 1) (r := .slice r3 (cR cs k).length c3) (unhide HW1) (by omega) (unhide HM) (by rw [hs1.out]) hkc (F3.trans EB) (EB.owns (unhide O3)) (unhide HY6) (unhide HYY6) (by rw [← unhide HL]; exact o6) G6 at6 (by simp)
              rw [← unhide HL] at this
              exact hide this
            clear o6 G6 at6 O3 HYB
            go_wp2
            go_roundw
            case rel => exact ⟨k + 1, m, rv, rs, _, by omega, by go_num, by rw [hs1.out], HM', HW6, E6⟩
            case measure => simp [intOf]; omega
          · obtain rfl : L = 0 := by omega
            go_wp2_with fail
            refine ((unhide hcon) _ X1).mono ?_
            rintro e w3 ⟨r', rfl, o3, F3⟩
            obtain ⟨r3, c3, hr3, _, _⟩ := ints_of_owns o3
            subst hr3
            have O3 := hide o3
            have z3 := F3.size
            clear o3 bx0 bx1
            have EB : Ext w3 (w3.alloc (.cells #[.slice r3 (cR cs k).length c3, .int .i64 (cW cs k)] 58)) := (Ext.refl _).alloc _
            have HYB : Hid ((w3.alloc (.cells #[.slice r3 (cR cs k).length c3, .int .i64 (cW cs k)] 58)).ownsRow w.heap.size 58 2 (.slice r6 0 c6) 0 ys6) := by
              have := (F3.trans EB).owns (unhide HY6)
              rw [← unhide HL] at this
              exact hide this
            go_wp2_with (at_builtin; go_must (refine wpList_append_lies _ rfl _ _ 53 rfl w.heap.size 58 ic _ 2 32 Tryd.underlying53 hic hc0 hc1 hc2 rfl (by decide) (.slice r6 0 c6) 0 ys6 rfl (unhide HYB) ⟨w3.heap.size, 0, none⟩ 1 1 [.slice r3 (cR cs k).length c3, .int .i64 (cW cs k)] rfl rfl (news_cells (w := w3) [.slice r3 (cR cs k).length c3, .int .i64 (cW cs k)] 58) (pair_one rfl rfl) (by omega) (by unfold maxLen; omega) (by omega) (by simp; omega) (w3.heap.size + 1) (by simp) ?_))
            intro g6 cap6 w6 o6 G6 at6 lt6
            have E6 : Ext w w6 := ((X1.trans F3).trans EB).grown G6 (fun q hq => ((unhide HYB).lt q hq).1)
            have HM' : Hid ((stF cs cols (k + 1)).1.length = m + 1) := by refine hide ?_; rw [hs1.out]; exact unhide HM
            have HW6 : Hid (Wk w6 w.heap.size u5 (.slice (some ⟨g6, 0, none⟩) (0 + 1) cap6) rv rs (rr ++ [.slice r3 (cR cs k).length c3]) cs cols (k + 1) m) := by
              have := Wk.more (w := w1) (w5 := w3.alloc (.cells #[.slice r3 (cR cs k).length c3, .int .i64 (cW cs k)] 58)) (w6 := w6) (g6 := g6) (cap6 := cap6) (H := w3.heap.size + 1) (r := .slice r3 (cR cs k).length c3) (unhide HW1) (by omega) (unhide HM) (by rw [hs1.out]) hkc (F3.trans EB) (EB.owns (unhide O3)) (unhide HY6) (unhide HYY6) (by rw [← unhide HL]; exact o6) G6 at6 (by simp)
              rw [← unhide HL] at this
              exact hide this
            clear o6 G6 at6 O3 HYB
            go_wp2
            go_roundw
            case rel => exact ⟨k + 1, m, rv, rs, _, by omega, by go_num, by rw [hs1.out], HM', HW6, E6⟩
            case measure => simp [intOf]; omega
      · obtain rfl : k = n := by omega
        obtain ⟨ys5, hy5, hyy5⟩ := (unhide HW).1.1
        have EA : Ext wr (wr.alloc (.cells #[.slice r6 (wk cs cols k m).length c6] 53)) := (Ext.refl _).alloc _
        have HYA := hide (EA.owns hy5)
        have HYY5 := hide hyy5
        clear hy5 hyy5
        go_wp2_with (at_builtin; go_must (refine wpList_append_lies _ rfl _ _ 98 rfl w.heap.size 53 ir _ 1 24 Tryd.underlying98 hir hr0 hr1 hr2 rfl (by decide) u5 m ys5 rfl (unhide HYA) ⟨wr.heap.size, 0, none⟩ 1 1 [.slice r6 (wk cs cols k m).length c6] rfl rfl (news_cells (w := wr) [.slice r6 (wk cs cols k m).length c6] 53) (by simp [Value.oneCell']) (by omega) (by unfold maxLen; omega) (by omega) (by simp; omega) (wr.heap.size + 1) (by simp) ?_))
        intro g2 cap2 w2 o2 G2 at2 lt2
        have X2 : Ext w w2 := (hext.trans EA).grown G2 (fun q hq => ((unhide HYA).lt q hq).1)
        have HWA := (unhide HW).ext EA
        have h2 := (OwnCss.push HWA.1 (unhide HYA) (unhide HYY5) HWA.2.1 HWA.2.2 o2 G2).congr (cs' := wrC cs cols) (fun i hi => by
          rw [← HEND.out]
          by_cases e : i = m
          · rw [if_pos e, e]
          · rw [if_neg e])
        have hR2 : wrR cs cols = m + 1 := by rw [hR.out]; exact unhide HM
        rw [← hR2] at h2
        have H2 := hide h2
        rw [← hR2]
        clear o2 G2 at2 HWA h2
        go_wp2
        go_ret
        exact ⟨_, _, _, rfl, unhide H2, X2⟩
end Go.Proofs.YtbieoijeilhadaaDoor

namespace Go.Proofs.YtbieoijeilhadaaDoor
open Go.RowKit
def pw (cs : List (List Int × Int)) : Nat → Int
  | 0 => 0
  | k + 1 => pw cs k + cW cs k
theorem clF_wid (xs : List Int) : ∀ k j, 0 ≤ cW (clF xs k) j ∧ cW (clF xs k) j ≤ 2
  | 0, j => by simp [clF, cW]
  | k + 1, j => by
    have ih := clF_wid xs k
    have hw := wid_bd (shownI (at0 xs k))
    rw [clF, clStep]
    split
    · rw [cW_push]; split
      · exact hw
      · exact ih j
    · split
      · by_cases hj : j = 0
        · subst hj; simp [cW]
        · simp [cW, List.getElem?_eq_none (show [(([9676, shownI (at0 xs k)] : List Int), (1 : Int))].length ≤ j by simp; omega)]
      · rename_i h1 h2
        rw [cW_set _ _ _ _ (by omega)]
        split
        · exact ih _
        · exact ih j
theorem pw_bd (cs : List (List Int × Int)) (h : ∀ j, 0 ≤ cW cs j ∧ cW cs j ≤ 2) : ∀ k, 0 ≤ pw cs k ∧ pw cs k ≤ 2 * (k : Int)
  | 0 => by simp [pw]
  | k + 1 => by have := pw_bd cs h k; have := h k; rw [pw]; omega
theorem pw_mono (cs : List (List Int × Int)) (h : ∀ j, 0 ≤ cW cs j ∧ cW cs j ≤ 2) (s : Nat) : ∀ e, s ≤ e → pw cs s ≤ pw cs e := by
  intro e
  induction e with
  | zero => intro h1; have : s = 0 := by omega
            subst this; exact Int.le_refl _
  | succ e ih =>
    intro h1
    by_cases e1 : s = e + 1
    · subst e1; exact Int.le_refl _
    · have := ih (by omega); have := h e; rw [pw]; omega
structure RowOk (cs : List (List Int × Int)) (cols : Int) (S : List Int) (u : Int) (k : Nat) : Prop where
  eq : u = pw cs k - pw cs (at0 S (S.length - 1)).toNat
  le : u ≤ cols
  rows : ∀ i, i + 1 < S.length → pw cs (at0 S (i + 1)).toNat - pw cs (at0 S i).toNat ≤ cols ∧ cols < pw cs (at0 S (i + 1)).toNat - pw cs (at0 S i).toNat + cW cs (at0 S (i + 1)).toNat ∧ at0 S i < at0 S (i + 1)
  last : 0 < k → at0 S (S.length - 1) < (k : Int)
theorem rowOk (cs : List (List Int × Int)) (cols : Int) (hc : 2 ≤ cols) (h : ∀ j, 0 ≤ cW cs j ∧ cW cs j ≤ 2) : ∀ k, RowOk cs cols (stF cs cols k).1 (stF cs cols k).2 k
  | 0 => ⟨by simp [stF, at0, pw], by simp [stF]; omega, fun i hi => by simp [stF] at hi, fun h => by omega⟩
  | k + 1 => by
    have ih := rowOk cs cols hc h k
    have ok := stF_ok cs cols k
    have hk := h k
    have hd : cWd (cW cs k) = cW cs k := by unfold cWd; rw [if_neg (by omega), if_neg (by omega)]
    have h1 := ok.one
    have hL := ok.le ((stF cs cols k).1.length - 1) (by omega)
    have e1 := ih.eq
    have e2 := ih.le
    rw [stF, hd]
    split
    · rename_i hn
      refine ⟨?_, by dsimp only; omega, fun i hi => ?_, fun _ => ?_⟩
      · dsimp only
        rw [at0_app, if_pos (by simp), pw]
        simp
        omega
      · dsimp only at hi ⊢
        simp at hi
        rw [at0_app (i := i), if_neg (by omega), at0_app (i := i + 1)]
        by_cases e : i + 1 = (stF cs cols k).1.length
        · rw [if_pos e]
          have e3 : (stF cs cols k).1.length - 1 = i := by omega
          rw [e3] at e1 hn
          simp only [Int.toNat_natCast]
          refine ⟨by omega, by omega, hn.1⟩
        · rw [if_neg e]
          exact ih.rows i (by omega)
      · dsimp only
        rw [at0_app, if_pos (by simp)]
        omega
    · rename_i hn
      refine ⟨by dsimp only; rw [pw]; omega, ?_, ih.rows, fun _ => by dsimp only; omega⟩
      dsimp only
      by_cases hlk : at0 (stF cs cols k).1 ((stF cs cols k).1.length - 1) < (k : Int)
      · have := fun h2 => hn ⟨hlk, h2⟩
        omega
      · have hk0 : k = 0 := by
          rcases Nat.eq_zero_or_pos k with e | e
          · exact e
          · exact absurd (ih.last e) hlk
        subst hk0
        have : (stF cs cols 0).2 = 0 := rfl
        omega
theorem textC_app (xs ys : List (List Int × Int)) : textC (xs ++ ys) = textC xs ++ textC ys := by
  rw [textC_flat, textC_flat, textC_flat, flat_app, encA_app]
theorem sub_R (cs : List (List Int × Int)) (s e j : Nat) (hj : s + j < e) : cR ((cs.take e).drop s) j = cR cs (s + j) ∧ cW ((cs.take e).drop s) j = cW cs (s + j) := by
  unfold cR cW
  rw [List.getElem?_drop, List.getElem?_take, if_pos hj]
  exact ⟨rfl, rfl⟩
theorem sumR_sub (cs : List (List Int × Int)) (s e : Nat) : ∀ j, s + j ≤ e → sumR ((cs.take e).drop s) j + sumR cs s = sumR cs (s + j)
  | 0, _ => by simp [sumR]
  | j + 1, h => by
    have := sumR_sub cs s e j (by omega)
    rw [sumR, (sub_R cs s e j (by omega)).1, ← Nat.add_assoc, sumR]
    omega
theorem toBA_app2 (xs ys : List Int) : toBA xs ++ toBA ys = toBA (xs ++ ys) := by
  have h : (toBA xs ++ toBA ys).data.toList = (toBA (xs ++ ys)).data.toList := by
    rw [toBA_list, List.map_append, ← toBA_list, ← toBA_list]
    simp
  have h2 := Array.toList_inj.1 h
  cases h3 : toBA xs ++ toBA ys
  cases h4 : toBA (xs ++ ys)
  rw [h3, h4] at h2
  simp at h2
  rw [h2]
end Go.Proofs.YtbieoijeilhadaaDoor

namespace Go.Proofs.YtbieoijeilhadaaDoor
open Go.RowKit
def cutC (bs : List Int) : List (List Int × Int) := clusC (cleanL bs)
def Wides (cs : List (List Int × Int)) : Prop := ∀ j, j < cs.length → 1 ≤ cW cs j ∧ cW cs j ≤ 2
theorem cW_none (cs : List (List Int × Int)) (j : Nat) (h : cs.length ≤ j) : cW cs j = 0 := by simp [cW, List.getElem?_eq_none h]
theorem Wides.all {cs : List (List Int × Int)} (h : Wides cs) (j : Nat) : 0 ≤ cW cs j ∧ cW cs j ≤ 2 := by
  by_cases hj : j < cs.length
  · have := h j hj; omega
  · rw [cW_none cs j (by omega)]; omega
theorem cW_app (xs ys : List (List Int × Int)) (j : Nat) : cW (xs ++ ys) j = if j < xs.length then cW xs j else cW ys (j - xs.length) := by
  unfold cW
  split
  · rename_i h; rw [List.getElem?_append_left h]
  · rename_i h; rw [List.getElem?_append_right (by omega)]
theorem cR_app (xs ys : List (List Int × Int)) (j : Nat) : cR (xs ++ ys) j = if j < xs.length then cR xs j else cR ys (j - xs.length) := by
  unfold cR
  split
  · rename_i h; rw [List.getElem?_append_left h]
  · rename_i h; rw [List.getElem?_append_right (by omega)]
theorem Wides.app {xs ys : List (List Int × Int)} (hx : Wides xs) (hy : Wides ys) : Wides (xs ++ ys) := by
  intro j hj
  rw [cW_app]
  split
  · rename_i h; exact hx j h
  · rename_i h; simp at hj; exact hy _ (by omega)
theorem clF_pos (xs : List Int) : ∀ k j, j < (clF xs k).length → 1 ≤ cW (clF xs k) j
  | 0, j, h => by simp [clF] at h
  | k + 1, j, h => by
    have ih := clF_pos xs k
    rw [clF, clStep] at h ⊢
    split
    · rename_i h1
      rw [if_pos h1] at h
      rw [cW_push]
      split
      · omega
      · rename_i h2; simp at h; exact ih j (by omega)
    · rename_i h1
      rw [if_neg h1] at h
      split
      · rename_i h2
        rw [if_pos h2] at h
        simp at h
        subst h
        simp [cW]
      · rename_i h2
        rw [if_neg h2] at h
        simp at h
        rw [cW_set _ _ _ _ (by omega)]
        split
        · exact ih _ (by omega)
        · exact ih j h
theorem cutC_wides (bs : List Int) : Wides (cutC bs) := fun j hj => ⟨clF_pos _ _ j hj, (clF_wid _ _ j).2⟩
theorem pw_strict {cs : List (List Int × Int)} (h : Wides cs) {s e : Nat} (hse : s < e) (he : e ≤ cs.length) : pw cs s < pw cs e := by
  have h1 := pw_mono cs h.all s (e - 1) (by omega)
  have h2 := h (e - 1) (by omega)
  obtain ⟨k, rfl⟩ : ∃ k, e = k + 1 := ⟨e - 1, by omega⟩
  rw [pw]
  simp at h1 h2
  omega
def rwF (S : List Int) (p : Int) : Nat → Nat
  | 0 => 0
  | i + 1 => if at0 S i ≤ p then i else rwF S p i
theorem rwF_lt (S : List Int) (p : Int) : ∀ i, 0 < i → rwF S p i < i
  | 0, h => by omega
  | i + 1, _ => by
    rw [rwF]
    split
    · omega
    · by_cases h0 : i = 0
      · subst h0; simp [rwF]
      · have := rwF_lt S p i (by omega); omega
theorem rwF_le (S : List Int) (p : Int) (h0 : at0 S 0 ≤ p) : ∀ i, at0 S (rwF S p i) ≤ p
  | 0 => h0
  | i + 1 => by
    rw [rwF]
    split
    · assumption
    · exact rwF_le S p h0 i
theorem rwF_above (S : List Int) (p : Int) : ∀ i j, rwF S p i < j → j < i → p < at0 S j
  | 0, j, _, h => by omega
  | i + 1, j, h1, h2 => by
    rw [rwF] at h1
    split at h1
    · omega
    · rename_i h
      by_cases e : j = i
      · subst e; omega
      · exact rwF_above S p i j h1 (by omega)
theorem rwF_only {S : List Int} {p : Int} {m i : Nat} (hm : i < m) (h1 : at0 S i ≤ p) (h2 : ∀ j, i < j → j < m → p < at0 S j) (h0 : at0 S 0 ≤ p) : rwF S p m = i := by
  have a := rwF_lt S p m (by omega)
  have b := rwF_le S p h0 m
  by_cases e : rwF S p m < i
  · have := rwF_above S p m i e hm; omega
  · by_cases e2 : i < rwF S p m
    · have := h2 _ e2 a; omega
    · omega
section
variable (cs : List (List Int × Int)) (cols : Nat) (p rows : Nat)
def stS : List Int := (stF cs cols cs.length).1
def layRow0 : Nat := rwF (stS cs cols) p (stS cs cols).length
def layCol0 : Int := pw cs p - pw cs (at0 (stS cs cols) (layRow0 cs cols p)).toNat
def LayFull : Prop := p = cs.length ∧ layCol0 cs cols p = cols
abbrev layD : Decidable (LayFull cs cols p) := inferInstanceAs (Decidable (p = cs.length ∧ layCol0 cs cols p = cols))
def layS : List Int := @ite _ (LayFull cs cols p) (layD cs cols p) (stS cs cols ++ [(p : Int)]) (stS cs cols)
def layRow : Nat := @ite _ (LayFull cs cols p) (layD cs cols p) (layRow0 cs cols p + 1) (layRow0 cs cols p)
def layCol : Int := @ite _ (LayFull cs cols p) (layD cs cols p) (0) (layCol0 cs cols p)
def layFr : Nat := layRow cs cols p + 1 - rows
def layCnt : Nat := min (layFr cs cols p rows + rows) (layS cs cols p).length - layFr cs cols p rows
def layC (i : Nat) : List (List Int × Int) := (cs.take (at0 (layS cs cols p ++ [(cs.length : Int)]) (i + 1)).toNat).drop (at0 (layS cs cols p ++ [(cs.length : Int)]) i).toNat
def layT (i : Nat) : ByteArray := toBA (textC (layC cs cols p (layFr cs cols p rows + i)))
end
variable {cs : List (List Int × Int)} {cols p : Nat}
theorem stS_row (hw : Wides cs) (hc : 2 ≤ cols) : RowOk cs cols (stS cs cols) (stF cs cols cs.length).2 cs.length := rowOk cs cols (by omega) hw.all cs.length
theorem layRow0_lt : layRow0 cs cols p < (stS cs cols).length := rwF_lt _ _ _ (by have := (stF_ok cs cols cs.length).one; exact this)
theorem stS_zero : at0 (stS cs cols) 0 = 0 := (stF_ok cs cols cs.length).at00
theorem layRow0_le : at0 (stS cs cols) (layRow0 cs cols p) ≤ (p : Int) := rwF_le _ _ (by rw [stS_zero]; omega) _
theorem layRow0_above {j : Nat} (h1 : layRow0 cs cols p < j) (h2 : j < (stS cs cols).length) : (p : Int) < at0 (stS cs cols) j := rwF_above _ _ _ _ h1 h2
theorem stS_nonneg {i : Nat} (hi : i < (stS cs cols).length) : 0 ≤ at0 (stS cs cols) i ∧ at0 (stS cs cols) i ≤ (cs.length : Int) := (stF_ok cs cols cs.length).le i hi
theorem full_iff (hw : Wides cs) (hc : 2 ≤ cols) (hp : p ≤ cs.length) : LayFull cs cols p ↔ layCol0 cs cols p = cols := by
  refine ⟨fun h => h.2, fun h => ⟨?_, h⟩⟩
  by_cases e : p = cs.length
  · exact e
  exfalso
  have hlt := layRow0_lt (cs := cs) (cols := cols) (p := p)
  have hle := layRow0_le (cs := cs) (cols := cols) (p := p)
  have ok := stS_row hw hc
  have hn := stS_nonneg hlt
  unfold layCol0 at h
  by_cases hl : layRow0 cs cols p + 1 < (stS cs cols).length
  · have h1 := (ok.rows _ hl).1
    have h2 := layRow0_above (cs := cs) (cols := cols) (p := p) (show layRow0 cs cols p < layRow0 cs cols p + 1 by omega) hl
    have h3 := stS_nonneg hl
    have h4 := pw_strict hw (s := p) (e := (at0 (stS cs cols) (layRow0 cs cols p + 1)).toNat) (by omega) (by omega)
    omega
  · have h1 := ok.le
    have h2 := ok.eq
    have h3 : (stS cs cols).length - 1 = layRow0 cs cols p := by omega
    rw [h3] at h2
    have h4 := pw_strict hw (s := p) (e := cs.length) (by omega) (Nat.le_refl _)
    omega
theorem layCol0_bd (hw : Wides cs) (hc : 2 ≤ cols) (hp : p ≤ cs.length) : 0 ≤ layCol0 cs cols p ∧ layCol0 cs cols p ≤ cols := by
  have hlt := layRow0_lt (cs := cs) (cols := cols) (p := p)
  have hle := layRow0_le (cs := cs) (cols := cols) (p := p)
  have ok := stS_row hw hc
  have hn := stS_nonneg hlt
  unfold layCol0
  have h0 := pw_mono cs hw.all (at0 (stS cs cols) (layRow0 cs cols p)).toNat p (by omega)
  refine ⟨by omega, ?_⟩
  by_cases hl : layRow0 cs cols p + 1 < (stS cs cols).length
  · have h1 := (ok.rows _ hl).1
    have h2 := layRow0_above (cs := cs) (cols := cols) (p := p) (show layRow0 cs cols p < layRow0 cs cols p + 1 by omega) hl
    have h3 := stS_nonneg hl
    have h4 := pw_mono cs hw.all p (at0 (stS cs cols) (layRow0 cs cols p + 1)).toNat (by omega)
    omega
  · have h1 := ok.le
    have h2 := ok.eq
    have h3 : (stS cs cols).length - 1 = layRow0 cs cols p := by omega
    rw [h3] at h2
    have h4 := pw_mono cs hw.all p cs.length hp
    omega
theorem layS_len : (layS cs cols p).length ≤ cs.length + 2 := by
  have := (stF_ok cs cols cs.length).len
  unfold layS
  split
  · simp [stS]; omega
  · simp [stS]; omega
theorem layRow_lt : layRow cs cols p < (layS cs cols p).length := by
  have := layRow0_lt (cs := cs) (cols := cols) (p := p)
  unfold layRow layS
  split
  · simp; omega
  · exact this
def wsum (cs : List (List Int × Int)) : Int := pw cs cs.length
theorem pw_sub (cs : List (List Int × Int)) (s e : Nat) : ∀ j, s + j ≤ e → pw ((cs.take e).drop s) j = pw cs (s + j) - pw cs s
  | 0, _ => by simp [pw]
  | j + 1, h => by rw [pw, pw_sub cs s e j (by omega), (sub_R cs s e j (by omega)).2, ← Nat.add_assoc, pw]; omega
theorem wsum_sub (cs : List (List Int × Int)) (s e : Nat) (hse : s ≤ e) (he : e ≤ cs.length) : wsum ((cs.take e).drop s) = pw cs e - pw cs s := by
  unfold wsum
  rw [List.length_drop, List.length_take, show min e cs.length - s = e - s by omega, pw_sub cs s e _ (by omega), show s + (e - s) = e by omega]
end Go.Proofs.YtbieoijeilhadaaDoor

namespace Go.Proofs.YtbieoijeilhadaaDoor
open Go.RowKit
theorem flat_clus (xs : List Int) : flat (clusC xs) = fl (xs.map shownI) := by
  unfold clusC
  rcases clF_flat xs xs.length (Nat.le_refl _) with ⟨h1, h2⟩ | ⟨_, _, h3⟩
  · have e : xs = [] := List.eq_nil_of_length_eq_zero h2
    subst e
    rfl
  · rw [h3, List.take_length]
theorem flat_clean (xs : List Int) : ∀ x ∈ flat (clusC xs), CleanR x := by
  rw [flat_clus]
  refine fl_clean _ (fun x hx => ?_)
  obtain ⟨y, _, rfl⟩ := List.mem_map.1 hx
  exact cleanR_shown y
theorem clean_text (xs : List Int) : cleanL (textC (clusC xs)) = flat (clusC xs) := by
  rw [textC_flat, clean_enc _ (flat_clean xs)]
theorem settled_flat {L : List Int} (h : settleL L = L) : flat (cutC L) = cleanL L := by
  have h1 := clean_text (cleanL L)
  rw [show textC (clusC (cleanL L)) = L from h] at h1
  exact h1.symm
theorem settled_enc {L : List Int} (h : settleL L = L) : encA (cleanL L) = L := by
  rw [← settled_flat h, ← textC_flat]
  exact h
theorem settled_fl {L : List Int} (h : settleL L = L) : fl (cleanL L) = cleanL L := by
  have h1 := settled_flat h
  unfold cutC at h1
  rwa [clus_flat _ (cleanL_mem L)] at h1
theorem fl_app {xs ys : List Int} (hx : fl xs = xs) (hy : fl ys = ys) : fl (xs ++ ys) = xs ++ ys := by
  by_cases e : xs = []
  · subst e
    simpa using hy
  · unfold fl at hx ⊢
    rw [if_neg e] at hx
    have h0 : 0 < xs.length := List.length_pos_iff.2 e
    have ha : at0 (xs ++ ys) 0 = at0 xs 0 := by
      unfold at0
      rw [List.getElem?_append_left h0]
    have hw : 0 < wid (at0 xs 0) := by
      by_cases hw : 0 < wid (at0 xs 0)
      · exact hw
      · rw [if_neg hw] at hx
        have := congrArg List.length hx
        simp at this
    rw [if_neg (by simp [e]), ha, if_pos hw]
theorem yank_text {L K : List Int} (hL : settleL L = L) (hK : settleL K = K) : textC (clusC (cleanL L ++ cleanL K)) = L ++ K ∧ flat (clusC (cleanL L ++ cleanL K)) = cleanL L ++ cleanL K := by
  have h1 : flat (clusC (cleanL L ++ cleanL K)) = cleanL L ++ cleanL K := by
    rw [clus_flat _ (fun x hx => (List.mem_append.1 hx).elim (cleanL_mem L x) (cleanL_mem K x)), fl_app (settled_fl hL) (settled_fl hK)]
  refine ⟨?_, h1⟩
  rw [textC_flat, h1, encA_app, settled_enc hL, settled_enc hK]
end Go.Proofs.YtbieoijeilhadaaDoor

namespace Go.Proofs.YtbieoijeilhadaaDoor
open Go.RowKit
def strL (tx : Nat → ByteArray) (n : Nat) : List Value := (List.range n).map (fun j => .string (tx j))
theorem strL_at (tx : Nat → ByteArray) (n j : Nat) (hj : j < n) : (strL tx n)[j]? = some (.string (tx j)) := by simp [strL, hj]
theorem strL_succ (tx : Nat → ByteArray) (n : Nat) : strL tx (n + 1) = strL tx n ++ [.string (tx n)] := by simp [strL, List.range_succ]
theorem own_strL {w : World} {base : Nat} {T : TypeId} {v : Value} {n : Nat} {tx : Nat → ByteArray} (h : w.ownsRow base T 1 v n (strL tx n)) : Own1 w base T v n (fun j => .string (tx j)) :=
  ⟨_, h, fun j hj => strL_at tx n j hj⟩
theorem Own1.slice {w : World} {base : Nat} {T : TypeId} {v : Value} {n : Nat} {A : Nat → Value} (h : Own1 w base T v n A) : ∃ a c, v = .slice a n c := by
  rcases h.form with ⟨rfl, rfl⟩ | ⟨g, c, rfl⟩
  · exact ⟨none, 0, rfl⟩
  · exact ⟨some ⟨g, 0, none⟩, c, rfl⟩
section
variable {P : Program} {w : World}
end
def Src (w : World) (size : Nat) (x : Value) (m : Nat) (news : List Value) : Prop :=
  news.length = m * size ∧ (∀ u ∈ news, u.oneCell' = true) ∧ ((∃ c, x = .slice none 0 c ∧ m = 0) ∨ ∃ ad c, x = .slice (some ad) m c ∧ ∀ j u, news[j]? = some u → w.cell? (ad.add j) = some u)
theorem Src.ext {w w' : World} {size : Nat} {x : Value} {m : Nat} {news : List Value} (h : Src w size x m news) (he : Ext w w') : Src w' size x m news := by
  obtain ⟨h1, h2, h3⟩ := h
  refine ⟨h1, h2, ?_⟩
  rcases h3 with h3 | ⟨ad, c, e, h3⟩
  · exact .inl h3
  · exact .inr ⟨ad, c, e, fun j u hj => he.cell (h3 j u hj)⟩
theorem Src.ints {w : World} {k : IntKind} {v : Value} {zs : List Int} (h : IntsAt w k v zs) : Src w 1 v zs.length (zs.map (Value.int k)) := by
  refine ⟨by simp, fun u hu => by obtain ⟨x, _, rfl⟩ := List.mem_map.1 hu; rfl, ?_⟩
  obtain ⟨ao, c, rfl, hc, hx⟩ := h
  by_cases h0 : 0 < zs.length
  · obtain ⟨b, o, rfl, h2⟩ := hx h0
    refine .inr ⟨_, c, rfl, fun j u hj => ?_⟩
    simp only [List.getElem?_map, Option.map_eq_some_iff] at hj
    obtain ⟨x, hx, rfl⟩ := hj
    have hjl : j < zs.length := (List.getElem?_eq_some_iff.1 hx).1
    have := h2 j hjl
    rw [at0, hx] at this
    rw [Addr.add_lit]; simpa using this
  · have e0 : zs = [] := List.eq_nil_of_length_eq_zero (by omega)
    subst e0
    cases ao with
    | none => exact .inl ⟨c, rfl, rfl⟩
    | some ad => exact .inr ⟨ad, c, rfl, fun j u hj => by simp at hj⟩
theorem Src.made {w : World} {size : Nat} (zs : List Value) (n : Nat) (t : TypeId) (hl : zs.length = n * size) (h1 : ∀ u ∈ zs, u.oneCell' = true) : Src (w.alloc (.cells zs.toArray t)) size (.slice (some ⟨w.heap.size, 0, none⟩) n n) n zs :=
  ⟨hl, h1, .inr ⟨_, _, rfl, fun j u hj => by rw [Addr.add_lit, Nat.zero_add]; exact cells_of (new_block w _) j u (by simpa using hj)⟩⟩
section
variable {P : Program} {w : World}
theorem run_app_none (base : Nat) (t ty e : TypeId) (i : TypeInfo) (size : Nat) (ht : P.underlying t = some (.slice e)) (hi : P.info? e = some i)
    (v : Value) (n c : Nat) (xs : List Value) (hown : w.ownsRow base e size v n xs) :
    (Builtin.append_ #[t, t] ty #[v, .slice none 0 c]).run P w = .ok v w := by
  rcases hown.2 with ⟨rfl, rfl⟩ | ⟨g, cap, cur, rfl, _, _, hnc, _⟩
  · simp [Builtin.append_, run_underlying ht, sizeOf, typeInfo, hi, Builtin.lenOf, Builtin.firstCells]
  · simp [Builtin.append_, run_underlying ht, sizeOf, typeInfo, hi, Builtin.lenOf, Builtin.firstCells, hnc, storeCells]
theorem wp_app {o : Oper} {a : Act} {K : Act → World → Prop} {Q : Exit → Act → World → Prop} (s x : Operand) (t : TypeId)
    (ho : o.op = .call { callee := .builtin .append, args := #[s, x], argTypes := #[t, t] })
    (base : Nat) (e : TypeId) (i : TypeInfo) (z : Value) (size bytes : Nat) (ht : P.underlying t = some (.slice e)) (hi : P.info? e = some i) (hz : i.zero = some z)
    (hsize : i.size = size) (hby : i.bytes = bytes) (hzs : z.cells.size = size) (hsz : 0 < size)
    (v : Value) (n : Nat) (xs : List Value) (hs : a.eval s = v) (hown : w.ownsRow base e size v n xs)
    (y : Value) (m : Nat) (news : List Value) (hx : a.eval x = y) (hsrc : Src w size y m news)
    (h63 : n + m ≤ maxLen) (hbytes : (n + m) * bytes ≤ 140737488355328) (hbase : base ≤ w.heap.size)
    (h : ∀ v' w', w'.ownsRow base e size v' (n + m) (xs ++ news) → w.grownBy w' v.ownBlock → (v' = .slice none 0 0 ↔ v = .slice none 0 0 ∧ m = 0) → K (a.put o.dst v') w') : o.wp P a w K Q := by
  obtain ⟨h1, h2, h3⟩ := hsrc
  rcases h3 with ⟨c, rfl, rfl⟩ | ⟨ad, c, rfl, h3⟩
  · have hn : news = [] := List.eq_nil_of_length_eq_zero (by omega)
    subst hn
    have hr := run_app_none (P := P) (w := w) base t o.type e i size ht hi v n c xs hown
    unfold Oper.wp execOp
    simp only [ho, resolve, invoke, builtin, Sem.run_bind, Sem.run_pure, Result.andThen_ok, List.map_toArray, List.map_cons, List.map_nil, hs, hx, hr]
    exact h v w (by simpa using hown) (World.grownBy.refl w _) (by simp)
  · exact wp_append_own w s x t ho base e i z size bytes ht hi hz hsize hby hzs hsz v n xs hs hown ad m c news hx h1 h3 h2 h63 hbytes hbase h
theorem wpList_app {ops : Array Oper} {rest : List Oper} {o : Oper} {a : Act} {Q : Exit → Act → World → Prop} (hgd : o.guard = none) (s x : Operand) (t : TypeId)
    (ho : o.op = .call { callee := .builtin .append, args := #[s, x], argTypes := #[t, t] })
    (base : Nat) (e : TypeId) (i : TypeInfo) (z : Value) (size bytes : Nat) (ht : P.underlying t = some (.slice e)) (hi : P.info? e = some i) (hz : i.zero = some z)
    (hsize : i.size = size) (hby : i.bytes = bytes) (hzs : z.cells.size = size) (hsz : 0 < size)
    (v : Value) (n : Nat) (xs : List Value) (hs : a.eval s = v) (hown : w.ownsRow base e size v n xs)
    (y : Value) (m : Nat) (news : List Value) (hx : a.eval x = y) (hsrc : Src w size y m news)
    (h63 : n + m ≤ maxLen) (hbytes : (n + m) * bytes ≤ 140737488355328) (hbase : base ≤ w.heap.size)
    (h : ∀ v' w', w'.ownsRow base e size v' (n + m) (xs ++ news) → w.grownBy w' v.ownBlock → (v' = .slice none 0 0 ↔ v = .slice none 0 0 ∧ m = 0) → wpList P ops Q rest (a.put o.dst v') w') : wpList P ops Q (o :: rest) a w :=
  wpList_plain hgd fun _ hK => wp_app s x t ho base e i z size bytes ht hi hz hsize hby hzs hsz v n xs hs hown y m news hx hsrc h63 hbytes hbase fun v' w' h2 h3 h4 => hK _ _ (h v' w' h2 h3 h4)
theorem step_app {ops : Array Oper} {o : Oper} {a : Act} {K : Act → World → Prop} {Q : Exit → Act → World → Prop} {E : Prop} (hgd : o.guard = none) (s x : Operand) (t : TypeId)
    (ho : o.op = .call { callee := .builtin .append, args := #[s, x], argTypes := #[t, t] })
    (base : Nat) (e : TypeId) (i : TypeInfo) (z : Value) (size bytes : Nat) (ht : P.underlying t = some (.slice e)) (hi : P.info? e = some i) (hz : i.zero = some z)
    (hsize : i.size = size) (hby : i.bytes = bytes) (hzs : z.cells.size = size) (hsz : 0 < size)
    (v : Value) (n : Nat) (xs : List Value) (hs : a.eval s = v) (hown : w.ownsRow base e size v n xs)
    (y : Value) (m : Nat) (news : List Value) (hx : a.eval x = y) (hsrc : Src w size y m news)
    (h63 : n + m ≤ maxLen) (hbytes : (n + m) * bytes ≤ 140737488355328) (hbase : base ≤ w.heap.size)
    (h : ∀ v' w', w'.ownsRow base e size v' (n + m) (xs ++ news) → w.grownBy w' v.ownBlock → (v' = .slice none 0 0 ↔ v = .slice none 0 0 ∧ m = 0) → K (a.put o.dst v') w') :
    if Region.wanted o (yielded ops a.tmps) = true then Oper.wp P o a w K Q else E := by
  rw [if_pos (by simp [Region.wanted, hgd])]
  exact wp_app s x t ho base e i z size bytes ht hi hz hsize hby hzs hsz v n xs hs hown y m news hx hsrc h63 hbytes hbase h
end
theorem owns_nil (w : World) (base : Nat) (e : TypeId) (size : Nat) : w.ownsRow base e size (.slice none 0 0) 0 [] := ⟨by simp, .inl ⟨rfl, rfl⟩⟩
theorem owns_empty (w : World) (e : TypeId) (size : Nat) : (w.alloc (.cells #[] e)).ownsRow w.heap.size e size (.slice (some ⟨w.heap.size, 0, none⟩) 0 0) 0 [] := ⟨by simp, .inr ⟨w.heap.size, 0, #[], rfl, Nat.le_refl _, new_block w _, Nat.le_refl _, by unfold maxLen; omega, by simp, by simp⟩⟩
end Go.Proofs.YtbieoijeilhadaaDoor

namespace Go.Proofs.YtbieoijeilhadaaDoor
open Go.RowKit
def spB (xs : List Int) : Bool := decide (xs = [32])
set_option maxRecDepth 10000 in
set_option maxHeartbeats 1000000 in
theorem l4Space_any (v : Value) (d : Int) (xs : List Int) (w : World) (hv : IntsAt w .i32 v xs) :
    Calls Tryd.prog 136 #[.agg #[v, .int .i64 d]] w fun e w' => e = .returned (.bool (spB xs)) ∧ Ext w w' := by
  obtain ⟨ao, ca, rfl, hca, hx⟩ := hv
  by_cases h1 : xs.length = 1
  · obtain ⟨b, off, rfl, hc⟩ := hx (by omega)
    have g1 := hc 0 (by omega)
    obtain ⟨x, rfl⟩ : ∃ x, xs = [x] := List.length_eq_one_iff.1 h1
    have HB := hide (fun o => ((Ext.refl w).alloc o).cell g1)
    have g2 : ∀ o, (w.alloc o).cell? ⟨b, off, none⟩ = some (.int .i32 x) := fun o => (unhide HB) o
    clear hc hx g1
    by_cases h2 : x = 32
    · subst h2
      go_enter Tryd.func136, Tryd.ntmps136
      go_wp2
      go_ret
      exact ⟨rfl, (Ext.refl w).alloc _⟩
    · have HF : Hid ((x == 32) = spB [x]) := hide (by simp [spB, h2])
      go_enter Tryd.func136, Tryd.ntmps136
      go_wp2
      go_ret
      exact ⟨ret_bool (unhide HF), (Ext.refl w).alloc _⟩
  · have HF : Hid (spB xs = false) := hide (by simp [spB]; intro e; rw [e] at h1; simp at h1)
    have h1I : ¬ (xs.length : Int) = 1 := by omega
    clear hx
    go_enter Tryd.func136, Tryd.ntmps136
    go_wp2
    go_ret
    exact ⟨ret_bool (unhide HF).symm, (Ext.refl w).alloc _⟩
end Go.Proofs.YtbieoijeilhadaaDoor

namespace Go.Proofs.YtbieoijeilhadaaDoor
open Go.RowKit
def Sk (p : Nat → Bool) (n i r : Nat) : Prop := i ≤ r ∧ r ≤ n ∧ (∀ j, i ≤ j → j < r → p j = true) ∧ (r < n → p r = false)
theorem Sk.only {p : Nat → Bool} {n i r s : Nat} (h : Sk p n i r) (k : Sk p n i s) : r = s := by
  obtain ⟨h1, h2, h3, h4⟩ := h
  obtain ⟨k1, k2, k3, k4⟩ := k
  by_cases e : r < s
  · have := k3 r h1 e
    rw [h4 (by omega)] at this
    cases this
  · by_cases e2 : s < r
    · have := h3 s k1 e2
      rw [k4 (by omega)] at this
      cases this
    · omega
def Wd (p : Nat → Bool) (n r : Nat) : Prop := ∃ m, Sk p n 0 m ∧ Sk (fun j => !p j) n m r
theorem Wd.only {p : Nat → Bool} {n r s : Nat} (h : Wd p n r) (k : Wd p n s) : r = s := by
  obtain ⟨m, h1, h2⟩ := h
  obtain ⟨m', k1, k2⟩ := k
  obtain rfl := h1.only k1
  exact h2.only k2
set_option maxRecDepth 10000 in
set_option maxHeartbeats 2000000 in
theorem l4WordRight_any (v : Value) (cs : List (List Int × Int)) (w : World) (hv : ClsAt w v cs) (hl : cs.length ≤ 16777216) :
    Calls Tryd.prog 134 #[v] w fun e w' => ∃ r : Nat, e = .returned (.int .i64 (r : Int)) ∧ Wd (fun j => spB (cR cs j)) cs.length r ∧ Ext w w' := by
  obtain ⟨rs, ao, ca, rfl, hca, hr, hx⟩ := hv
  have HX := hide hx
  have HR := hide hr
  clear hx hr
  go_enter Tryd.func134, Tryd.ntmps134
  go_wp2
  go_loopw [3] (fun i wr => ∃ (j : Nat), j ≤ cs.length ∧ i = .int .i64 j ∧ Hid (∀ q, q < j → spB (cR cs q) = true) ∧ Ext w wr) (fun i _ => cs.length - (intOf i).toNat)
  case atStart => exact ⟨0, Nat.zero_le _, rfl, hide (fun q hq => by omega), Ext.refl _⟩
  case round =>
    obtain ⟨j, hj, rfl, HJ, hE⟩ := hrel
    by_cases hlt : j < cs.length
    · obtain ⟨b, off, hao, hc⟩ := (unhide HX) (by omega)
      subst hao
      have g1 := hE.cell (hc j hlt).1
      have g2 := hE.cell (hc j hlt).2
      have bj : (j : Int) < (cs.length : Int) := by omega
      have HS := hide (fun W (E : Ext w W) => l4Space_any (rV rs j) (cW cs j) (cR cs j) W (((unhide HR) j hlt).ext E))
      clear hc
      go_wp2_with fail
      refine ((unhide HS) _ hE).mono ?_
      rintro e w1 ⟨rfl, E1⟩
      have hE2 := hE.trans E1
      cases hb : spB (cR cs j) with
      | true =>
        have HJ3 : Hid (∀ q, q < j + 1 → spB (cR cs q) = true) := hide (fun q hq => by
          by_cases e : q = j
          · subst e; exact hb
          · exact (unhide HJ) q (by omega))
        clear HS g1 g2 hb E1
        go_wp2
        go_roundw
        case rel => exact ⟨j + 1, by omega, by go_num, HJ3, hE2⟩
        case measure => simp [intOf]; omega
      | false =>
        have HSK : Hid (Sk (fun j => spB (cR cs j)) cs.length 0 j) := hide ⟨Nat.zero_le _, hj, fun q _ hq => (unhide HJ) q hq, fun _ => hb⟩
        clear HS g1 g2 hb E1 hE
        go_wp2
        go_loopw [3] (fun i wr => ∃ (r : Nat), j ≤ r ∧ r ≤ cs.length ∧ i = .int .i64 r ∧ Hid (∀ q, j ≤ q → q < r → (!spB (cR cs q)) = true) ∧ Ext w wr) (fun i _ => cs.length - (intOf i).toNat)
        case atStart => exact ⟨j, Nat.le_refl _, hj, rfl, hide (fun q h1 h2 => by omega), hE2⟩
        case round =>
          obtain ⟨r, hjr, hr9, rfl, HJ2, hE3⟩ := hrel
          by_cases hlt2 : r < cs.length
          · obtain ⟨b2, off2, hao2, hc2⟩ := (unhide HX) (by omega)
            first | subst hao2 | (obtain ⟨rfl, rfl⟩ := Addr.mk.inj (Option.some.inj hao2) |>.imp id (fun h => h.1))
            have q1 := hE3.cell (hc2 r hlt2).1
            have q2 := hE3.cell (hc2 r hlt2).2
            have bj2 : (r : Int) < (cs.length : Int) := by omega
            have HS2 := hide (l4Space_any (rV rs r) (cW cs r) (cR cs r) _ (((unhide HR) r hlt2).ext hE3))
            clear hc2
            go_wp2_with fail
            refine (unhide HS2).mono ?_
            rintro e w5 ⟨rfl, E5⟩
            have hE5 := hE3.trans E5
            cases hb2 : spB (cR cs r) with
            | false =>
              have HJ3 : Hid (∀ q, j ≤ q → q < r + 1 → (!spB (cR cs q)) = true) := hide (fun q h1 h2 => by
                by_cases e : q = r
                · subst e; rw [hb2]; rfl
                · exact (unhide HJ2) q h1 (by omega))
              clear HS2 q1 q2 hb2 E5
              go_wp2
              go_roundw
              case rel => exact ⟨r + 1, by omega, by omega, by go_num, HJ3, hE5⟩
              case measure => simp [intOf]; omega
            | true =>
              have HW : Hid (Wd (fun j => spB (cR cs j)) cs.length r) := hide ⟨j, unhide HSK, hjr, hr9, unhide HJ2, fun _ => by simp [hb2]⟩
              clear HS2 q1 q2 hb2 E5
              go_wp2
              go_ret
              exact ⟨r, rfl, unhide HW, hE5⟩
          · obtain rfl : r = cs.length := by omega
            have hb7 : ¬ (cs.length : Int) < (cs.length : Int) := by omega
            have HW : Hid (Wd (fun j => spB (cR cs j)) cs.length cs.length) := hide ⟨j, unhide HSK, hjr, hr9, unhide HJ2, fun h => by omega⟩
            go_wp2
            go_ret
            exact ⟨_, rfl, unhide HW, hE3⟩
    · have hb9 : ¬ (j : Int) < (cs.length : Int) := by omega
      have HSK : Hid (Sk (fun j => spB (cR cs j)) cs.length 0 j) := hide ⟨Nat.zero_le _, hj, fun q _ hq => (unhide HJ) q hq, fun h => by omega⟩
      have hE2 := hE
      clear hE
      go_wp2
      go_loopw [3] (fun i wr => ∃ (r : Nat), j ≤ r ∧ r ≤ cs.length ∧ i = .int .i64 r ∧ Hid (∀ q, j ≤ q → q < r → (!spB (cR cs q)) = true) ∧ Ext w wr) (fun i _ => cs.length - (intOf i).toNat)
      case atStart => exact ⟨j, Nat.le_refl _, hj, rfl, hide (fun q h1 h2 => by omega), hE2⟩
      case round =>
        obtain ⟨r, hjr, hr9, rfl, HJ2, hE3⟩ := hrel
        by_cases hlt2 : r < cs.length
        · obtain ⟨b2, off2, hao2, hc2⟩ := (unhide HX) (by omega)
          first | subst hao2 | (obtain ⟨rfl, rfl⟩ := Addr.mk.inj (Option.some.inj hao2) |>.imp id (fun h => h.1))
          have q1 := hE3.cell (hc2 r hlt2).1
          have q2 := hE3.cell (hc2 r hlt2).2
          have bj2 : (r : Int) < (cs.length : Int) := by omega
          have HS2 := hide (l4Space_any (rV rs r) (cW cs r) (cR cs r) _ (((unhide HR) r hlt2).ext hE3))
          clear hc2
          go_wp2_with fail
          refine (unhide HS2).mono ?_
          rintro e w5 ⟨rfl, E5⟩
          have hE5 := hE3.trans E5
          cases hb2 : spB (cR cs r) with
          | false =>
            have HJ3 : Hid (∀ q, j ≤ q → q < r + 1 → (!spB (cR cs q)) = true) := hide (fun q h1 h2 => by
              by_cases e : q = r
              · subst e; rw [hb2]; rfl
              · exact (unhide HJ2) q h1 (by omega))
            clear HS2 q1 q2 hb2 E5
            go_wp2
            go_roundw
            case rel => exact ⟨r + 1, by omega, by omega, by go_num, HJ3, hE5⟩
            case measure => simp [intOf]; omega
          | true =>
            have HW : Hid (Wd (fun j => spB (cR cs j)) cs.length r) := hide ⟨j, unhide HSK, hjr, hr9, unhide HJ2, fun _ => by simp [hb2]⟩
            clear HS2 q1 q2 hb2 E5
            go_wp2
            go_ret
            exact ⟨r, rfl, unhide HW, hE5⟩
        · obtain rfl : r = cs.length := by omega
          have hb7 : ¬ (cs.length : Int) < (cs.length : Int) := by omega
          have HW : Hid (Wd (fun j => spB (cR cs j)) cs.length cs.length) := hide ⟨j, unhide HSK, hjr, hr9, unhide HJ2, fun h => by omega⟩
          go_wp2
          go_ret
          exact ⟨_, rfl, unhide HW, hE3⟩
end Go.Proofs.YtbieoijeilhadaaDoor
