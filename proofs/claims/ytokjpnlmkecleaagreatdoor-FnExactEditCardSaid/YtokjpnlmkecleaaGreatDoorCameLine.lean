import Derived.Test.YtokjpnlmkecleaaGreatDoorEdTf
import Derived.Test.YtokjpnlmkecleaaGreatDoorGap
import Derived.Deep.RegionHeld3
import Derived.Test.YtokjpnlmkecleaaGreatDoorEdPs
import Derived.Test.YtokjpnlmkecleaaGreatDoorU8s
import Derived.Test.YtokjpnlmkecleaaGreatDoorSpecRune2
namespace Go.Proofs.YtokjpnlmkecleaaGreatDoor
open Go.RowKit

section
variable {P base : Nat} {W : World} {k : ByteArray} {u : Value} {qs : List Nat} {un : List (ByteArray × ByteArray)} {cl rl rr : List Value}
set_option linter.unusedSimpArgs false in
set_option maxRecDepth 10000 in
set_option maxHeartbeats 8000000 in
theorem put_Z {B : List (List Int × Int)} (rv : Value) (rs : List Int) (hr : IntsAt W .i32 rv rs) (iR : I32s rs) (zR : rs.length ≤ 1048576) (hN : rs.length ≤ 8000000) (hT : ∀ W', Fr (fun x => x = P ∨ base ≤ x) W W' → Laid W') (hfit : (flat (clusC rs)).length + (flat B).length ≤ 300 → (clusC rs).length + B.length ≤ 300) (h : Ed0 P base W k u qs un [] B cl rl rr) :
    Calls Tryz.prog 118 #[.pointer (some ⟨P, 0, none⟩), rv] W fun e w' => (300 < (flat (clusC rs)).length + (flat B).length ∧ EdR P base W w' k un [] B 2 e) ∨ ((flat (clusC rs)).length + (flat B).length ≤ 300 ∧ EdR P base W w' k (undoN un (toBA (textC []), toBA (textC B))) (clusC rs) B 1 e) := by
  obtain ⟨ic, hic, hc0, hc1, hc2⟩ := info_parts infoI32u
  have hg := h.now
  have hl := h.len
  have hPl : P < W.heap.size := lt_of_block h.blk
  have hfb := h.fit
  have H1 := hide (edLeftOf h.two)
  have HR := hide (fun w (E : Ext W w) => edRightOf (h.ext E).two)
  have HCh := hide (fun w (E : Ext W w) => edChangeE h E)
  have H0 := hide (fun w (E : Ext W w) => h.same E 2)
  have HTk := hide (fun w u' un' (g : Ed2 P base W w k u' un' ([] ++ []) B cl rl rr) => edTakeF g)
  have HC2 : Hid (∀ w, Ext W w → ∀ c, ClsAt w (.slice (some ⟨P, 0, none⟩) 0 c) []) := hide (fun w _ c => ⟨[], _, c, rfl, Nat.zero_le _, fun j hj => absurd hj (Nat.not_lt_zero _), fun hp => absurd hp (Nat.not_lt_zero _)⟩)
  have HC1 := HC2
  have cB := h.cb
  have cA := h.ca
  have HR2 := hide (fun v w (hv : ClsAt w v []) => runesOf_any v [] w hv (by decide))
  have HR1 := hide (fun v w (hv : ClsAt w v []) => runesOf_any v [] w hv (by decide))
  have HRN := hide (fun v w (hv : ClsAt w v (clusC rs)) => runesOf_any v (clusC rs) w hv (clusC_fit _ hN))
  have HRB := hide (fun v w (hv : ClsAt w v B) => runesOf_any v B w hv cB.1)
  have HK := hide (fun v w (E : Ext W w) (hv : IntsAt w .i32 v rs) => implClusters_any v rs w hv iR (by omega) (hT w (Fr.of_ext E)))
  have HSr := hide (fun w (E : Ext W w) => Src.ints (hr.ext E))
  obtain ⟨ra, rc, rfl, _⟩ := id hr
  have hub : ∀ b, u.ownBlock = some b → b < W.heap.size := fun b hb => (h.bk.2.1.lt b hb).2
  have HUB := hide hub
  obtain ⟨fN, hfN⟩ : ∃ n, (flat (clusC rs)).length = n := ⟨_, rfl⟩
  obtain ⟨fB, hfB⟩ : ∃ n, (flat B).length = n := ⟨_, rfl⟩
  have zfN : fN ≤ 16777216 := by rw [← hfN, flat_len]; have := clusC_fit _ hN; omega
  have zfB : fB ≤ 16777216 := by rw [← hfB, flat_len]; have := cB.1; omega
  have HFN := hide hfN
  have HFB := hide hfB
  obtain ⟨fA, hfA⟩ : ∃ n, (flat ([] : List (List Int × Int))).length = n := ⟨_, rfl⟩
  have hfA0 : fA = 0 := hfA.symm
  have zfA : fA ≤ 16777216 := by omega
  have HFA := hide hfA
  have HFA0 := hide hfA0
  rw [hfN, hfB] at hfit ⊢
  have HFit := hide hfit
  have hwS : IntKind.i64.wrap ((fA : Int) + (fN : Int)) = (fA : Int) + (fN : Int) := by rw [IntKind.wrap_i64]; omega
  have hwT : IntKind.i64.wrap ((fA : Int) + (fN : Int) + (fB : Int)) = (fA : Int) + (fN : Int) + (fB : Int) := by rw [IntKind.wrap_i64]; omega
  clear h hg hfit hr hT iR cB cA hub hfN hfB hfA hfA0
  go_enter Tryz.func118, Tryz.ntmps118
  go_wp2_with fail
  refine (unhide H1).mono ?_
  rintro e w1 ⟨rfl, -, E1⟩
  have HE1 := hide E1
  clear H1 E1
  go_wp2_with fail
  refine ((unhide HR2) _ w1 ((unhide HC2) w1 (unhide HE1) _)).mono ?_
  rintro e w2 ⟨v2, rfl, o2, E2⟩
  obtain ⟨a2, c2, rfl⟩ := owns_sl o2
  have HO2 := hide o2
  have hf2 : (flat []).length ≤ 8000000 := by decide
  obtain ⟨L2, hL2⟩ : ∃ n, (flat []).length = n := ⟨_, rfl⟩
  rw [hL2] at HO2 hf2 ⊢
  have HL2 := hide hL2
  have HE2 := hide ((unhide HE1).trans E2)
  have zw2 := E2.size
  clear HR2 HC2 E2 o2 hL2
  go_wp2_with (at_builtin; go_loud (
     refine wpList_app rfl _ _ 26 rfl w1.heap.size 21 ic (.int .i32 0) 1 4 Tryz.underlying26 hic hc0 hc1 hc2 rfl (by decide) (.slice a2 L2 c2) _ _ rfl (unhide HO2) _ _ _ rfl ((unhide HSr) w2 (unhide HE2)) (by unfold maxLen; omega) (by omega) zw2 ?_
     intro v3 w3 o3 G3 _
     have E3 : Ext W w3 := (unhide HE2).grown G3 (fun b hb => Nat.le_trans (unhide HE1).size ((unhide HO2).lt b hb).1)
     have i3 : IntsAt w3 .i32 v3 rs := (by
       have e : (flat []).map (Value.int .i32) ++ rs.map (Value.int .i32) = rs.map (Value.int .i32) := (by simp [flat])
       have e2 : L2 + rs.length = rs.length := (by rw [← unhide HL2]; simp [flat])
       rw [e, e2] at o3
       exact ints_of_owns o3)
     obtain ⟨a3, c3, rfl⟩ := owns_sl o3
     have HE3 := hide E3
     have HI3 := hide i3
     clear o3 G3 E3 i3))
  refine ((unhide HK) _ w3 (unhide HE3) (unhide HI3)).mono ?_
  rintro e w4 ⟨v4, rs4, rfl, o4, E4⟩
  obtain ⟨a4, c4, rfl⟩ : ∃ a c, v4 = .slice a (clusC rs).length c := by
    obtain ⟨_, ao, ca, e, _⟩ := o4.cls
    exact ⟨ao, ca, e⟩
  have HO4 := hide o4
  have HE4 := hide ((unhide HE3).trans E4)
  have hz3 := (unhide HE3).size
  obtain ⟨nN, hnN⟩ : ∃ n, (clusC rs).length = n := ⟨_, rfl⟩
  have HNN := hide hnN
  rw [hnN] at HO4 ⊢
  clear HK HI3 HSr HO2 HL2 E4 o4 hnN
  go_wp2_with fail
  refine wp_region_held_drew (S := fun W9 => Ext w4 W9) (by kernel_rfl) (by first | exact Ext.refl w4 | exact (Ext.refl w4).drew) (fun hHeld => ?_)
  refine wpAnyH_take (i := 0) (v := ?_) rfl (by kernel_rfl) (by kernel_rfl) (by kernel_rfl) (fun _ _ _ h => h) (Or.inl ⟨by rfl, ?_⟩) (by assumption) ?_
  rotate_left
  · intro w' hSw; go_simp <;> with_reducible rfl
  simp only [Act.put, List.getElem_toArray, List.getElem_cons_succ, List.getElem_cons_zero, List.setIfInBounds_toArray, List.set_cons_zero, List.set_cons_succ]
  refine wpAnyH_take (i := 1) (v := ?_) rfl (by kernel_rfl) (by kernel_rfl) (by kernel_rfl) (fun _ _ _ h => h) (Or.inl ⟨by rfl, ?_⟩) (by assumption) ?_
  rotate_left
  · intro w' hSw; go_simp <;> with_reducible rfl
  simp only [Act.put, List.getElem_toArray, List.getElem_cons_succ, List.getElem_cons_zero, List.setIfInBounds_toArray, List.set_cons_zero, List.set_cons_succ]
  refine wpAnyH_take (i := 2) (v := ?_) rfl (by kernel_rfl) (by kernel_rfl) (by kernel_rfl) (fun _ _ _ h => h) (Or.inl ⟨by rfl, ?_⟩) (by assumption) ?_
  rotate_left
  · intro w' hSw; go_simp <;> with_reducible rfl
  simp only [Act.put, List.getElem_toArray, List.getElem_cons_succ, List.getElem_cons_zero, List.setIfInBounds_toArray, List.set_cons_zero, List.set_cons_succ]
  refine wpAnyH_take (i := 5) (v := ?_) rfl (by kernel_rfl) (by kernel_rfl) (by kernel_rfl) (fun _ _ _ h => h) (Or.inl ⟨by rfl, ?_⟩) (by assumption) ?_
  rotate_left
  · intro w' hSw; go_simp <;> with_reducible rfl
  simp only [Act.put, List.getElem_toArray, List.getElem_cons_succ, List.getElem_cons_zero, List.setIfInBounds_toArray, List.set_cons_zero, List.set_cons_succ]
  refine wpAnyH_take (i := 9) (v := ?_) rfl (by kernel_rfl) (by kernel_rfl) (by kernel_rfl) (fun _ _ _ h => h) (Or.inl ⟨by rfl, ?_⟩) (by assumption) ?_
  rotate_left
  · intro w' hSw; go_simp <;> with_reducible rfl
  simp only [Act.put, List.getElem_toArray, List.getElem_cons_succ, List.getElem_cons_zero, List.setIfInBounds_toArray, List.set_cons_zero, List.set_cons_succ]
  refine wpAnyH_take (i := 10) (v := ?_) rfl (by kernel_rfl) (by kernel_rfl) (by kernel_rfl) (fun _ _ _ h => h) (Or.inl ⟨by rfl, ?_⟩) (by assumption) ?_
  rotate_left
  · intro w' hSw; go_simp <;> with_reducible rfl
  simp only [Act.put, List.getElem_toArray, List.getElem_cons_succ, List.getElem_cons_zero, List.setIfInBounds_toArray, List.set_cons_zero, List.set_cons_succ]
  refine wpAnyH_take (i := 11) (v := ?_) rfl (by kernel_rfl) (by kernel_rfl) (by kernel_rfl) (fun _ _ _ h => h) (Or.inl ⟨by rfl, ?_⟩) (by assumption) ?_
  rotate_left
  · intro w' hSw; go_simp <;> with_reducible rfl
  simp only [Act.put, List.getElem_toArray, List.getElem_cons_succ, List.getElem_cons_zero, List.setIfInBounds_toArray, List.set_cons_zero, List.set_cons_succ]
  refine wpAnyH_ready (rs := [3]) (by kernel_rfl) (by simp) ?_
  refine AllReadyH.cons rfl (fun K hK => ?_) AllReadyH.nil
  go_simp
  go_wp2_with (go_at_call 136; refine ((unhide HR1) _ _ ((unhide HC1) _ (by first | exact unhide HE4 | exact (unhide HE4).drew) _)).mono ?_; rintro e w5 ⟨v5, rfl, o5, E5⟩; rw [unhide HFA] at o5; obtain ⟨a5, c5, rfl⟩ := owns_sl o5; have F5 : Ext w4 w5 := (by first | exact E5 | exact (Ext.refl _).drew.trans E5); clear o5 E5)
  refine hK.out _ _ F5 (fun hHeld => ?_)
  clear hK K
  refine wpAnyH_take (i := 4) (v := ?_) rfl (by kernel_rfl) (by kernel_rfl) (by kernel_rfl) (fun _ _ _ h => h) (Or.inl ⟨by rfl, ?_⟩) (by assumption) ?_
  rotate_left
  · intro w' hSw; go_simp <;> with_reducible rfl
  simp only [Act.put, List.getElem_toArray, List.getElem_cons_succ, List.getElem_cons_zero, List.setIfInBounds_toArray, List.set_cons_zero, List.set_cons_succ]
  refine wpAnyH_ready (rs := [6]) (by kernel_rfl) (by simp) ?_
  refine AllReadyH.cons rfl (fun K hK => ?_) AllReadyH.nil
  go_simp
  go_wp2_with (go_at_call 136; refine ((unhide HRN) _ _ ((unhide HO4).cls.ext (by first | exact F5 | exact F5.drew))).mono ?_; rintro e w6 ⟨v6, rfl, o6, E6⟩; rw [unhide HFN] at o6; obtain ⟨a6, c6, rfl⟩ := owns_sl o6; have F6 : Ext w4 w6 := (by first | exact F5.trans E6 | exact F5.drew.trans E6); clear o6 E6)
  refine hK.out _ _ F6 (fun hHeld => ?_)
  clear hK K
  refine wpAnyH_take (i := 7) (v := ?_) rfl (by kernel_rfl) (by kernel_rfl) (by kernel_rfl) (fun _ _ _ h => h) (Or.inl ⟨by rfl, ?_⟩) (by assumption) ?_
  rotate_left
  · intro w' hSw; go_simp <;> with_reducible rfl
  simp only [Act.put, List.getElem_toArray, List.getElem_cons_succ, List.getElem_cons_zero, List.setIfInBounds_toArray, List.set_cons_zero, List.set_cons_succ]
  refine wpAnyH_take (i := 8) (v := ?_) rfl (by kernel_rfl) (by kernel_rfl) (by kernel_rfl) (fun _ _ _ h => h) (Or.inl ⟨by rfl, ?_⟩) (by assumption) ?_
  rotate_left
  · intro w' hSw; go_simp <;> with_reducible rfl
  simp only [Act.put, List.getElem_toArray, List.getElem_cons_succ, List.getElem_cons_zero, List.setIfInBounds_toArray, List.set_cons_zero, List.set_cons_succ]
  refine wpAnyH_ready (rs := [12]) (by kernel_rfl) (by simp) ?_
  refine AllReadyH.cons rfl (fun K hK => ?_) AllReadyH.nil
  go_simp
  go_wp2_with (go_at_call 105; refine ((unhide HR) _ (by first | exact (unhide HE4).trans F6 | exact (unhide HE4).trans F6.drew)).mono ?_; rintro e w7 ⟨a7, c7, rfl, hcB, E7⟩; have F7 : Ext w4 w7 := (by first | exact F6.trans E7 | exact F6.drew.trans E7); clear E7)
  refine hK.out _ _ F7 (fun hHeld => ?_)
  clear hK K
  refine wpAnyH_ready (rs := [13]) (by kernel_rfl) (by simp) ?_
  refine AllReadyH.cons rfl (fun K hK => ?_) AllReadyH.nil
  go_simp
  go_wp2_with (go_at_call 136; refine ((unhide HRB) _ _ (hcB.ext (by first | exact Ext.refl _ | exact (Ext.refl _).drew))).mono ?_; rintro e w8 ⟨v8, rfl, o8, E8⟩; rw [unhide HFB] at o8; obtain ⟨a8, c8, rfl⟩ := owns_sl o8; have F8 : Ext w4 w8 := (by first | exact F7.trans E8 | exact F7.drew.trans E8); clear o8 E8)
  refine hK.out _ _ F8 (fun hHeld => ?_)
  clear hK K
  refine wpAnyH_take (i := 14) (v := ?_) rfl (by kernel_rfl) (by kernel_rfl) (by kernel_rfl) (fun _ _ _ h => h) (Or.inl ⟨by rfl, ?_⟩) (by assumption) ?_
  rotate_left
  · intro w' hSw; go_simp <;> with_reducible rfl
  simp only [Act.put, List.getElem_toArray, List.getElem_cons_succ, List.getElem_cons_zero, List.setIfInBounds_toArray, List.set_cons_zero, List.set_cons_succ]
  refine wpAnyH_take (i := 15) (v := ?_) rfl (by kernel_rfl) (by kernel_rfl) (by kernel_rfl) (fun _ _ _ h => h) (Or.inl ⟨by rfl, ?_⟩) (by assumption) ?_
  rotate_left
  · intro w' hSw; go_simp <;> with_reducible rfl
  simp only [Act.put, List.getElem_toArray, List.getElem_cons_succ, List.getElem_cons_zero, List.setIfInBounds_toArray, List.set_cons_zero, List.set_cons_succ]
  refine wpAnyH_take (i := 16) (v := ?_) rfl (by kernel_rfl) (by kernel_rfl) (by kernel_rfl) (fun _ _ _ h => h) (Or.inl ⟨by rfl, ?_⟩) (by assumption) ?_
  rotate_left
  · intro w' hSw; go_simp <;> with_reducible rfl
  simp only [Act.put, List.getElem_toArray, List.getElem_cons_succ, List.getElem_cons_zero, List.setIfInBounds_toArray, List.set_cons_zero, List.set_cons_succ]
  refine wpAnyH_done (by kernel_rfl) ?_ _
  have EW8 := (unhide HE4).trans F8
  by_cases hb : 300 < fA + fN + fB
  · have hbI : (300 : Int) < (fA : Int) + (fN : Int) + (fB : Int) := by omega
    have H3 := hide ((unhide H0) w8 EW8)
    clear EW8 HCh HTk HO4
    go_wp2
    exact bodyPost_ret (v := .int .i64 2) (by simp [results, Tryz.results118, go_sem]) rfl (Or.inl ⟨by have := unhide HFA0; omega, unhide H3⟩)
  · have hbI : ¬ (300 : Int) < (fA : Int) + (fN : Int) + (fB : Int) := by omega
    have HCh' := hide ((unhide HCh) w8 EW8)
    have HO8 := hide ((unhide HO4).ext F8)
    have HB := hide hb
    have hfit := (unhide HFit) (by have := unhide HFA0; omega)
    have HFi := hide hfit
    have HP3 : Hid (P < w3.heap.size) := hide (by omega)
    clear EW8 HCh HO4 HR1 HRN HRB HR HC1 H0 hb hfit F5 F6 F7 F8 hcB
    go_wp2_with fail
    refine (unhide HCh').mono ?_
    rintro e w9 ⟨u9, rfl, g9, f9⟩
    have HO9 := hide ((unhide HO8).fr f9 (fun g hg e9 => by
      have h1 := (unhide HO8).foot hg
      rcases e9 with e9 | e9
      · omega
      · have := (unhide HUB) g e9
        omega))
    have HTk' := hide ((unhide HTk) w9 u9 _ g9)
    clear HCh' HO8 g9 f9 HTk
    go_wp2_with fail
    refine (unhide HTk').mono ?_
    rintro e w10 ⟨v10, rl10, rfl, g10, f10⟩
    have HO10 := hide ((unhide HO9).fr f10 (fun g hg e9 => by
      have h1 := (unhide HO9).foot hg
      omega))
    have HIn : Hid (Calls Tryz.prog 83 #[.pointer (some ⟨P, 0, none⟩), .slice a4 nN c4] w10 fun e w' => ∃ cl' rl', e = .returned (.tuple #[]) ∧ Ed2 P base W w' k u9 _ ([] ++ (clusC rs)) B cl' rl' rr) := hide (by
      obtain ⟨ao, cap, ev, hrs, hr, h1, hx⟩ := (unhide HO10).gap (unhide HP3)
      refine (insert_any P cl rl10 rr [] B (clusC rs) _ rfl k u9 _ rs4 w10 g10.blk g10.gap hrs (by simp; exact unhide HFi) hr h1 ao cap ev hx).mono ?_
      rintro e w' ⟨cl', rfl, b', G', F'⟩
      exact ⟨cl', _, rfl, g10.step b' G' F'⟩)
    clear HTk' HO9 HO10 g10 f10
    go_wp2_with fail
    refine (unhide HIn).mono ?_
    rintro e w11 ⟨cl11, rl11, rfl, g11⟩
    have H9 := hide (g11.end 1)
    clear HIn g11
    go_wp2
    exact bodyPost_ret (v := .int .i64 1) (by simp [results, Tryz.results118, go_sem]) rfl (Or.inr ⟨by have := unhide HB; have := unhide HFA0; omega, unhide H9⟩)
end
end Go.Proofs.YtokjpnlmkecleaaGreatDoor

namespace Go.Proofs.YtokjpnlmkecleaaGreatDoor
open Go.RowKit

theorem len_flat : ∀ {X : List (List Int × Int)}, (∀ c ∈ X, GoodC c) → X.length ≤ (flat X).length
  | [], _ => Nat.zero_le _
  | c :: cs, h => by
    have h1 := goodC_ne (h c (by simp))
    have h2 := len_flat (X := cs) (fun d hd => h d (by simp [hd]))
    have h3 : 0 < c.1.length := List.length_pos_iff.2 h1
    simp [flat]
    omega
section
variable {P base : Nat} {W : World} {k : ByteArray} {u : Value} {qs : List Nat} {un : List (ByteArray × ByteArray)} {cl rl rr : List Value}
theorem put_any (xs ys : List Int) (hx : xs.length ≤ 1048576) (rv : Value) (rs : List Int) (hr : IntsAt W .i32 rv rs) (iR : I32s rs) (zR : rs.length ≤ 1048576) (hT : ∀ W', Fr (fun x => x = P ∨ base ≤ x) W W' → Laid W') (h : Ed0 P base W k u qs un (clusC xs) (clusC ys) cl rl rr) :
    Calls Tryz.prog 118 #[.pointer (some ⟨P, 0, none⟩), rv] W fun e w' => (300 < (flat (clusC (xs ++ rs))).length + (flat (clusC ys)).length ∧ EdR P base W w' k un (clusC xs) (clusC ys) 2 e) ∨ ((flat (clusC (xs ++ rs))).length + (flat (clusC ys)).length ≤ 300 ∧ EdR P base W w' k (undoN un (toBA (textC (clusC xs)), toBA (textC (clusC ys)))) (clusC (xs ++ rs)) (clusC ys) 1 e) := by
  have gB := len_flat (clus_good ys)
  have gN := len_flat (clus_good (xs ++ rs))
  rcases List.eq_nil_or_concat (clusC xs) with e | ⟨A1, x, e⟩
  · obtain rfl := clus_nil xs e
    have e2 : clusC [] = [] := rfl
    rw [List.nil_append] at gN ⊢
    rw [e2] at h ⊢
    exact put_Z rv rs hr iR zR (by omega) hT (fun _ => by omega) h
  · rw [List.concat_eq_append] at e
    have hm := clus_more xs rs A1 x e
    have gA : ∀ c ∈ A1, GoodC c := fun c hc => clus_good xs c (by rw [e]; simp [hc])
    have gx : x.1.length ≤ xs.length + 1 := by
      have := clF_runes xs xs.length A1.length
      have e3 : cR (clF xs xs.length) A1.length = x.1 := by
        rw [show clF xs xs.length = A1 ++ [x] from e]
        have := (cR_appR A1 [x] 0).1
        rw [Nat.add_zero] at this
        exact this
      rw [e3] at this
      exact this
    rw [hm] at gN ⊢
    rw [flat_app, List.length_append]
    rw [e] at h ⊢
    rw [List.length_append, flat_app, List.length_append] at gN
    have gA2 := len_flat gA
    have gN2 := len_flat (clus_good (x.1 ++ rs))
    exact put_S rv rs hr iR zR (by rw [List.length_append]; omega) hT (fun _ => by omega) h
set_option maxRecDepth 10000 in
set_option maxHeartbeats 4000000 in
theorem edWrite_no {A B : List (List Int × Int)} (kd : Int) (ra : Option Addr) (rc : Nat) (h : Ed0 P base W k u qs un A B cl rl rr) :
    Calls Tryz.prog 87 #[.pointer (some ⟨P, 0, none⟩), .agg #[.int .i64 kd, .slice ra 0 rc]] W fun e w' => EdR P base W w' k un A B 0 e := by
  have H0 := hide (h.same ((Ext.refl W).alloc (.cells #[.int .i64 kd, .slice ra 0 rc] 28)) 0)
  clear h
  go_enter Tryz.func87, Tryz.ntmps87
  go_wp2
  exact bodyPost_ret (v := .int .i64 0) (by simp [results, Tryz.results87, go_sem]) rfl (unhide H0)
set_option maxRecDepth 10000 in
set_option maxHeartbeats 4000000 in
theorem edWrite_yes (xs ys : List Int) (hx : xs.length ≤ 1048576) (kd : Int) (rv : Value) (rs : List Int) (h0 : 0 < rs.length) (hr : IntsAt W .i32 rv rs) (iR : I32s rs) (zR : rs.length ≤ 1048576) (hT : ∀ W', Fr (fun x => x = P ∨ base ≤ x) W W' → Laid W') (h : Ed0 P base W k u qs un (clusC xs) (clusC ys) cl rl rr) :
    Calls Tryz.prog 87 #[.pointer (some ⟨P, 0, none⟩), .agg #[.int .i64 kd, rv]] W fun e w' => (300 < (flat (clusC (xs ++ rs))).length + (flat (clusC ys)).length ∧ EdR P base W w' k un (clusC xs) (clusC ys) 2 e) ∨ ((flat (clusC (xs ++ rs))).length + (flat (clusC ys)).length ≤ 300 ∧ EdR P base W w' k (undoN un (toBA (textC (clusC xs)), toBA (textC (clusC ys)))) (clusC (xs ++ rs)) (clusC ys) 1 e) := by
  have HP := hide (put_any xs ys hx rv rs (hr.ext ((Ext.refl W).alloc (.cells #[.int .i64 kd, rv] 28))) iR zR (fun W' f => hT W' ((Fr.of_ext ((Ext.refl W).alloc (.cells #[.int .i64 kd, rv] 28))).tr f)) (h.ext ((Ext.refl W).alloc (.cells #[.int .i64 kd, rv] 28))))
  obtain ⟨ra, rc, rfl, _⟩ := id hr
  clear h hr iR zR hT hx
  obtain ⟨c1, hc1⟩ : ∃ c : Prop, c = (300 < (flat (clusC (xs ++ rs))).length + (flat (clusC ys)).length) := ⟨_, rfl⟩
  obtain ⟨c2, hc2⟩ : ∃ c : Prop, c = ((flat (clusC (xs ++ rs))).length + (flat (clusC ys)).length ≤ 300) := ⟨_, rfl⟩
  rw [← hc1, ← hc2] at HP ⊢
  clear hc1 hc2
  obtain ⟨n, hn⟩ : ∃ n, rs.length = n := ⟨_, rfl⟩
  rw [hn] at HP h0 ⊢
  have hI : ¬ (n : Int) = 0 := by omega
  have hN : ¬ n = 0 := by omega
  clear hn
  go_enter Tryz.func87, Tryz.ntmps87
  go_wp2_with fail
  refine (unhide HP).mono ?_
  rintro e w1 (⟨h1, rfl, h2⟩ | ⟨h1, rfl, h2⟩)
  · have H2 := hide h2
    clear h2 HP
    go_wp2
    exact bodyPost_ret (v := .int .i64 2) (by simp [results, Tryz.results87, go_sem]) rfl (Or.inl ⟨h1, EdR.pre ⟨rfl, unhide H2⟩ ((Ext.refl W).alloc _)⟩)
  · have H2 := hide h2
    clear h2 HP
    go_wp2
    exact bodyPost_ret (v := .int .i64 1) (by simp [results, Tryz.results87, go_sem]) rfl (Or.inr ⟨h1, EdR.pre ⟨rfl, unhide H2⟩ ((Ext.refl W).alloc _)⟩)
end
end Go.Proofs.YtokjpnlmkecleaaGreatDoor

namespace Go.Proofs.YtokjpnlmkecleaaGreatDoor
open Go.RowKit

/-- What 'mark' lays into pairs of texts. -/
def mkU (k : Int) (j : Nat) : Value := .string (mtx (k + 2 * (j : Int) + 1))
theorem Own2.setA {w : World} {base : Nat} {T : TypeId} {n : Nat} {A B : Nat → Value} {g cap j : Nat} (h : Own2 w base T (.slice (some ⟨g, 0, none⟩) n cap) n A B) (hj : j < n) (u : Value) :
    Own2 (w.setCell ⟨g, j * 2, none⟩ u) base T (.slice (some ⟨g, 0, none⟩) n cap) n (fun i => if i = j then u else A i) B := by
  obtain ⟨ys, h1, h2⟩ := h
  have hl := h1.1
  refine ⟨_, (h1.stored (j * 2) u).1, fun i hi => ?_⟩
  dsimp only
  by_cases e : i = j
  · subst e
    rw [if_pos rfl, List.getElem?_set_self (by omega), List.getElem?_set_ne (by omega)]
    exact ⟨rfl, (h2 i hi).2⟩
  · rw [if_neg e, List.getElem?_set_ne (by omega), List.getElem?_set_ne (by omega)]
    exact h2 i hi
theorem Own2.setB {w : World} {base : Nat} {T : TypeId} {n : Nat} {A B : Nat → Value} {g cap j : Nat} (h : Own2 w base T (.slice (some ⟨g, 0, none⟩) n cap) n A B) (hj : j < n) (u : Value) :
    Own2 (w.setCell ⟨g, j * 2 + 1, none⟩ u) base T (.slice (some ⟨g, 0, none⟩) n cap) n A (fun i => if i = j then u else B i) := by
  obtain ⟨ys, h1, h2⟩ := h
  have hl := h1.1
  refine ⟨_, (h1.stored (j * 2 + 1) u).1, fun i hi => ?_⟩
  dsimp only
  by_cases e : i = j
  · subst e
    rw [if_pos rfl, List.getElem?_set_ne (by omega), List.getElem?_set_self (by omega)]
    exact ⟨(h2 i hi).1, rfl⟩
  · rw [if_neg e, List.getElem?_set_ne (by omega), List.getElem?_set_ne (by omega)]
    exact h2 i hi
set_option maxRecDepth 10000 in
set_option maxHeartbeats 1000000 in
theorem markSnapS_any (base : Nat) (v : Value) (n : Nat) (A B : Nat → Value) (k : Int) (w : World) (hv : Own2 w base 49 v n A B) (hn : n ≤ 1048576) (hk : 0 ≤ k) (hk2 : k ≤ 1099511627776) :
    Calls Tryz.prog 48 #[v, .int .i64 k] w fun e w' => e = .returned (.int .i64 (k + 2 * (n : Int))) ∧ Own2 w' base 49 v n (mkT k) (mkU k) ∧ Fr (fun g => v.ownBlock = some g) w w' := by
  have HV := hide hv
  rcases hv.form with ⟨rfl, h0⟩ | ⟨g, cap, rfl⟩
  · subst h0
    clear hv
    go_enter Tryz.func48, Tryz.ntmps48
    go_wp2
    go_loop [1, 5] (fun a i => a = .int .i64 k ∧ i = .int .i64 0) (fun _ _ => 0)
    case atStart => exact ⟨rfl, rfl⟩
    case round =>
      obtain ⟨rfl, rfl⟩ := hrel
      go_wp2
      go_ret
      exact ⟨ret_int (by simp), (unhide HV).congr (fun j hj => by omega), Fr.refl _ _⟩
  · clear hv
    go_enter Tryz.func48, Tryz.ntmps48
    go_wp2
    go_loopw [1, 5] (fun a i wr => ∃ j : Nat, j ≤ n ∧ a = .int .i64 (k + 2 * (j : Int)) ∧ i = .int .i64 j ∧ Hid (Own2 wr base 49 (.slice (some ⟨g, 0, none⟩) n cap) n (fun i => if i < j then mkT k i else A i) (fun i => if i < j then mkU k i else B i)) ∧ Hid (Fr (fun q => (Value.slice (some ⟨g, 0, none⟩) n cap).ownBlock = some q) w wr)) (fun _ i _ => n - (intOf i).toNat)
    case atStart => exact ⟨0, Nat.zero_le _, by go_num, rfl, (unhide HV).congr (fun j hj => ⟨by simp, by simp⟩), Fr.refl _ _⟩
    case round =>
      obtain ⟨j, hj, rfl, rfl, HO, HF⟩ := hrel
      by_cases hlt : j < n
      · have bj : (j : Int) < (n : Int) := by omega
        obtain ⟨K, hK⟩ : ∃ K, K = k + 2 * (j : Int) := ⟨_, rfl⟩
        have HK := hide hK
        have hKb : 0 ≤ K ∧ K ≤ 1099513724928 := by omega
        rw [← hK]
        clear hK
        go_wp2_with fail
        refine (markText_any K _ (by omega)).mono ?_
        rintro e w1 ⟨rfl, F1⟩
        have hO1 := (unhide HO).ext F1
        obtain ⟨⟨c0, f0⟩, c1, f1⟩ := hO1.cell hlt
        have HS1 := hide (hO1.setA hlt (.string (mtx K)))
        have HF1 := hide (((unhide HF).grown F1 (fun q hq => by simp at hq)).setCell (a := ⟨g, j * 2, none⟩) rfl (.string (mtx K)))
        clear hO1
        go_wp2_with fail
        refine (markText_any (K + 1) _ (by omega)).mono ?_
        rintro e w2 ⟨rfl, F2⟩
        have hO2 := (unhide HS1).ext F2
        obtain ⟨⟨d0, e0⟩, d1, e1⟩ := hO2.cell hlt
        have HS := hide ((hO2.setB hlt (.string (mtx (K + 1)))).congr (A' := fun i => if i < j + 1 then mkT k i else A i) (B' := fun i => if i < j + 1 then mkU k i else B i) (fun i hi => by
          by_cases e : i = j
          · subst e
            rw [if_pos rfl, if_pos rfl, if_pos (by omega), if_pos (by omega), mkT, mkU, ← unhide HK]
            exact ⟨rfl, rfl⟩
          · rw [if_neg e, if_neg e]
            by_cases e2 : i < j
            · rw [if_pos e2, if_pos e2, if_pos (by omega), if_pos (by omega)]; exact ⟨rfl, rfl⟩
            · rw [if_neg e2, if_neg e2, if_neg (by omega), if_neg (by omega)]; exact ⟨rfl, rfl⟩))
        have HF2 := hide (((unhide HF1).grown F2 (fun q hq => by simp at hq)).setCell (a := ⟨g, j * 2 + 1, none⟩) rfl (.string (mtx (K + 1))))
        clear hO2
        go_wp2
        go_roundw
        case rel => exact ⟨j + 1, by omega, by rw [unhide HK]; go_num, by go_num, HS, HF2⟩
        case measure => simp [intOf]; omega
      · obtain rfl : j = n := by omega
        have HFIN := hide ((unhide HO).congr (A' := mkT k) (B' := mkU k) (fun i hi => ⟨by simp [hi], by simp [hi]⟩))
        go_wp2
        go_ret
        exact ⟨rfl, unhide HFIN, unhide HF⟩
set_option maxRecDepth 10000 in
set_option maxHeartbeats 1000000 in
theorem heldSnapS_any (v : Value) (n : Nat) (k : Int) (w : World) (hv : Row2At w v n (mkT k) (mkU k)) (hn : n ≤ 1048576) (hk : 0 ≤ k) (hk2 : k ≤ 1099511627776) :
    Calls Tryz.prog 50 #[v, .int .i64 k] w fun e w' => e = .returned (.int .i64 (k + 2 * (n : Int))) ∧ Ext w w' := by
  obtain ⟨ao, ca, rfl, hca, hxa⟩ := hv
  by_cases h0 : n = 0
  · subst h0
    clear hxa
    go_enter Tryz.func50, Tryz.ntmps50
    go_wp2
    go_loop [1, 5] (fun a i => a = .int .i64 k ∧ i = .int .i64 0) (fun _ _ => 0)
    case atStart => exact ⟨rfl, rfl⟩
    case round =>
      obtain ⟨rfl, rfl⟩ := hrel
      go_wp2
      go_ret
      exact ⟨ret_int (by simp), Ext.refl _⟩
  · obtain ⟨b, off, rfl, hc⟩ := hxa (by omega)
    have HC := hide hc
    clear hxa hc
    go_enter Tryz.func50, Tryz.ntmps50
    go_wp2
    go_loopw [1, 5] (fun a i wr => ∃ j : Nat, j ≤ n ∧ a = .int .i64 (k + 2 * (j : Int)) ∧ i = .int .i64 j ∧ Ext w wr) (fun _ i _ => n - (intOf i).toNat)
    case atStart => exact ⟨0, Nat.zero_le _, by go_num, rfl, Ext.refl _⟩
    case round =>
      obtain ⟨j, hj, rfl, rfl, hext⟩ := hrel
      by_cases hlt : j < n
      · have bj : (j : Int) < (n : Int) := by omega
        have hcc := (unhide HC) j hlt
        have g1 := hext.cell hcc.1
        have g2 := hext.cell hcc.2
        simp only [mkT, mkU] at g1 g2
        obtain ⟨K, hK⟩ : ∃ K, K = k + 2 * (j : Int) := ⟨_, rfl⟩
        have HK := hide hK
        have hKb : 0 ≤ K ∧ K ≤ 1099513724928 := by omega
        rw [← hK] at g1 g2 ⊢
        clear hK hcc
        have G2 := hide g2
        clear g2
        go_wp2
        go_region_held3 (fun W => Ext wr W ∧ W.cell? ⟨b, off + j * 2, none⟩ = some (.string (mtx K))) (first | exact ⟨(Ext.refl wr).drew, g1⟩ | exact ⟨(Ext.refl wr).drew.trans he', he'.cell g1⟩) (first | (go_at_call 73; refine (markText_any K _ (by omega)).mono ?_; rintro e w' ⟨rfl, he'⟩))
        rename_i hS
        have hE := hext.trans hS.1
        have g3 := hS.1.cell (unhide G2)
        have hF := hS.1
        clear hS g1
        go_wp2
        go_region_held3 (fun W => Ext wr W ∧ W.cell? ⟨b, off + j * 2 + 1, none⟩ = some (.string (mtx (K + 1)))) (first | exact ⟨hF.drew, g3⟩ | exact ⟨hF.drew.trans he2, he2.cell g3⟩) (first | (go_at_call 73; refine (markText_any (K + 1) _ (by omega)).mono ?_; rintro e w'' ⟨rfl, he2⟩))
        rename_i hS
        have hE := hext.trans hS.1
        clear hS
        go_wp2
        go_roundw
        case rel => exact ⟨j + 1, by omega, by rw [unhide HK]; go_num, by go_num, hE⟩
        case measure => simp [intOf]; omega
      · obtain rfl : j = n := by omega
        go_wp2
        go_ret
        exact ⟨rfl, hext⟩
set_option maxRecDepth 10000 in
set_option maxHeartbeats 1000000 in
theorem markLine_any (base : Nat) (a b c : ByteArray) (v : Value) (n : Nat) (A B : Nat → Value) (k : Int) (w : World) (hv : Own2 w base 49 v n A B) (hn : n ≤ 1048576) (hk : 0 ≤ k) (hk2 : k ≤ 1099511627776) :
    Calls Tryz.prog 16 #[.agg #[.string a, .string b, .string c, v], .int .i64 k] w fun e w' => e = .returned (.int .i64 (k + 2 * (n : Int))) ∧ Own2 w' base 49 v n (mkT k) (mkU k) ∧ Fr (fun g => v.ownBlock = some g) w w' := by
  have HC := hide (fun U (hU : Ext w U) => markSnapS_any base v n A B k U (hv.ext hU) hn hk hk2)
  clear hv
  go_enter Tryz.func16, Tryz.ntmps16
  go_wp2_with fail
  refine ((unhide HC) _ ((Ext.refl w).alloc _)).mono ?_
  rintro e w1 ⟨rfl, o1, F1⟩
  have O1 := hide o1
  clear o1
  go_wp2
  go_ret
  exact ⟨rfl, unhide O1, ⟨F1.os, F1.tape, F1.output, Nat.le_trans ((Ext.refl w).alloc _).size F1.size, fun i hi hn => (F1.block i (Nat.lt_of_lt_of_le hi ((Ext.refl w).alloc _).size) hn).trans (((Ext.refl w).alloc _).heap hi)⟩⟩
set_option maxRecDepth 10000 in
set_option maxHeartbeats 1000000 in
theorem heldLine_any (a b c : ByteArray) (v : Value) (n : Nat) (k : Int) (w : World) (hv : Row2At w v n (mkT k) (mkU k)) (hn : n ≤ 1048576) (hk : 0 ≤ k) (hk2 : k ≤ 1099511627776) :
    Calls Tryz.prog 18 #[.agg #[.string a, .string b, .string c, v], .int .i64 k] w fun e w' => e = .returned (.int .i64 (k + 2 * (n : Int))) ∧ Ext w w' := by
  have HC := hide (fun U (hU : Ext w U) => heldSnapS_any v n k U (hv.ext hU) hn hk hk2)
  clear hv
  have hneg : ¬ k + 2 * (n : Int) < 0 := by omega
  go_enter Tryz.func18, Tryz.ntmps18
  go_wp2_with fail
  refine ((unhide HC) _ ((Ext.refl w).alloc _)).mono ?_
  rintro e w1 ⟨rfl, F1⟩
  go_wp2
  go_ret
  exact ⟨rfl, ((Ext.refl w).alloc _).trans F1⟩
end Go.Proofs.YtokjpnlmkecleaaGreatDoor

namespace Go.Proofs.YtokjpnlmkecleaaGreatDoor
open Go.RowKit

/-- Lines. -/
def lineK (a b c : ByteArray) (n : Nat) (tx hf : Nat → ByteArray) : Kd where
  R w v := ∃ u, v = .agg #[.string a, .string b, .string c, u] ∧ Row2At w u n (fun j => .string (tx j)) (fun j => .string (hf j))
  O w base S v := ∃ u, v = .agg #[.string a, .string b, .string c, u] ∧ Own2 w base 49 u n (fun j => .string (tx j)) (fun j => .string (hf j)) ∧ ∀ g, S g ↔ u.ownBlock = some g
  rext := by rintro w w' v ⟨u, e, h⟩ he; exact ⟨u, e, h.ext he⟩
  oext := by rintro w w' b S v ⟨u, e, h, hS⟩ he; exact ⟨u, e, h.ext he, hS⟩
  ofr := by rintro w w' b S S' v ⟨u, e, h, hS⟩ hf hd; exact ⟨u, e, h.fr hf (fun g hg => hd g ((hS g).2 hg)), hS⟩
  reads := by rintro w b S v ⟨u, e, h, hS⟩; exact ⟨u, e, h.reads⟩
  lt := by rintro w b S v ⟨u, e, h, hS⟩ g hg; exact h.lt g ((hS g).1 hg)
theorem lineK_shape {a b c : ByteArray} {n : Nat} {tx hf : Nat → ByteArray} {w : World} {v : Value} (h : (lineK a b c n tx hf).R w v) : ∃ ua uc, v = .agg #[.string a, .string b, .string c, .slice ua n uc] := by
  obtain ⟨u, rfl, ua, uc, rfl, _⟩ := h
  exact ⟨ua, uc, rfl⟩
theorem lineK_own {a b c : ByteArray} {n : Nat} {tx hf : Nat → ByteArray} {w : World} {base : Nat} {u : Value} (h : Own2 w base 49 u n (fun j => .string (tx j)) (fun j => .string (hf j))) : (lineK a b c n tx hf).O w base (fun g => u.ownBlock = some g) (.agg #[.string a, .string b, .string c, u]) := ⟨u, rfl, h, fun _ => Iff.rfl⟩
theorem lineK_eq (a b c : ByteArray) (n : Nat) (tx hf : Nat → ByteArray) (hn : n ≤ 4398046511104) : EqOk 14 (lineK a b c n tx hf) := by
  rintro w x y ⟨ux, rfl, h1⟩ ⟨uy, rfl, h2⟩
  exact eqLine_same a b c ux uy n tx hf w h1 h2 hn
theorem lineK_mark (a b c : ByteArray) (n : Nat) (tx hf : Nat → ByteArray) (hn : n ≤ 1048576) : MarkOk 16 (lineK a b c n tx hf) (fun k => lineK a b c n (fun j => mtx (k + 2 * (j : Int))) (fun j => mtx (k + 2 * (j : Int) + 1))) (2 * n) := by
  rintro w base S v k ⟨u, rfl, h, hS⟩ h0 h1
  refine (markLine_any base a b c u n _ _ k w h hn h0 (by omega)).mono ?_
  rintro e w' ⟨rfl, o, f⟩
  rw [show ((2 * n : Nat) : Int) = 2 * (n : Int) by omega]
  exact ⟨rfl, ⟨u, rfl, o, hS⟩, f.mono (fun g hg => (hS g).2 hg)⟩
theorem lineK_held (a b c : ByteArray) (n : Nat) (hn : n ≤ 1048576) : HeldOk 18 (fun k => lineK a b c n (fun j => mtx (k + 2 * (j : Int))) (fun j => mtx (k + 2 * (j : Int) + 1))) (2 * n) := by
  rintro w v k ⟨u, rfl, h⟩ h0 h1
  have hc := heldLine_any a b c u n k w h hn h0 (by omega)
  rw [show ((2 * n : Nat) : Int) = 2 * (n : Int) by omega]
  exact hc
end Go.Proofs.YtokjpnlmkecleaaGreatDoor

namespace Go.Proofs.YtokjpnlmkecleaaGreatDoor
open Go.ChangeShapes Go.WideShapes Go.ChangeAt Go.RowKit Go.Deep

set_option maxHeartbeats 1000000 in
theorem szKey_any (kd : Int) (ao : Option Addr) (n cap : Nat) (l : Int) (w : World) (h0 : 0 ≤ l) (h1 : l ≤ 4398046511104) (hn : (n : Int) ≤ 9223372036854775807) :
    Calls Tryz.prog 11 #[.agg #[.int .i64 kd, .slice ao n cap], .int .i64 l] w fun e w' => ∃ r : Int, e = .returned (.int .i64 r) ∧ SzR l n r ∧ Ext w w' := by
  have hcon := hide (fun W => szInt32S_any ao n cap l W h0 h1 hn)
  go_enter Tryz.func11, Tryz.ntmps11
  go_wp2_with fail
  refine ((unhide hcon) _).mono ?_
  rintro e w1 ⟨rfl, rfl⟩
  by_cases h : l < (n : Int)
  · rw [if_pos h]
    go_wp2
    go_ret
    exact ⟨-1, rfl, .inl ⟨rfl, h⟩, (Ext.refl _).alloc _⟩
  · rw [if_neg h]
    have h2 : ¬ l - (n : Int) < 0 := by omega
    go_wp2
    go_ret
    exact ⟨l - (n : Int), rfl, .inr ⟨rfl, by omega⟩, (Ext.refl _).alloc _⟩
set_option maxHeartbeats 1000000 in
theorem toKey_any (kd : Int) (h : Value) (bs : List Int) (w : World) (hr : IntsAt w .i32 h bs) (hx : bs.length ≤ 4398046511104) :
    Calls Tryz.prog 13 #[.agg #[.int .i64 kd, h]] w fun e w' => e = .returned (.agg #[.int .i64 kd, .slice (some ⟨w.heap.size + 3, 0, none⟩) bs.length bs.length]) ∧ 
      w'.ownsRow (w.heap.size + 3) 21 1 (.slice (some ⟨w.heap.size + 3, 0, none⟩) bs.length bs.length) bs.length (bs.map (Value.int .i32)) ∧ Ext w w' := by
  go_enter Tryz.func13, Tryz.ntmps13
  go_wp2_with fail
  refine (toInt32S_any _ bs _ (((hr.ext ((((Ext.refl _).alloc _).alloc _).alloc _)).ext (by first | exact Ext.refl _ | exact (Ext.refl _).setCell (by dsimp only; omega) _))) hx).mono ?_
  rintro e w1 ⟨rfl, o1, F1⟩
  obtain ⟨hc, hf⟩ := F1.rules
  have hz : w.heap.size + 3 < w1.heap.size := by have := (o1.lt _ rfl).2; simpa using this
  have a0 : w1.cell? ⟨w.heap.size + 1, 0, none⟩ = some (.int .i64 0) := by rw [hc _ _ (by simp)]; simp [go_sem]
  have a1 : w1.cell? ⟨w.heap.size + 1, 1, none⟩ = some (.slice none 0 0) := by rw [hc _ _ (by simp)]; simp [go_sem]
  go_wp2
  refine bodyPost_ret (v := .agg #[.int .i64 kd, .slice (some ⟨w.heap.size + 3, 0, none⟩) bs.length bs.length]) (by simp [results, Tryz.results13, go_sem, a0, a1]) rfl ⟨rfl, ?_, ?_⟩
  · repeat (refine owns_setCell ?_ (by simp [Value.ownBlock]) _)
    simpa using o1
  · repeat (refine Ext.setCell ?_ (by dsimp only; omega) _)
    exact ((((Ext.refl _).alloc _).alloc _).alloc _).trans F1
set_option maxHeartbeats 1000000 in
theorem eqKey_one (ra rb : Value) (xs : List Int) (d : Int) (w : World) (ha : IntsAt w .i32 ra xs) (hb : IntsAt w .i32 rb xs) (hx : xs.length ≤ 4398046511104) :
    Calls Tryz.prog 15 #[.agg #[.int .i64 d, ra], .agg #[.int .i64 d, rb]] w fun e w' => e = .returned (.bool true) ∧ Ext w w' := by
  go_enter Tryz.func15, Tryz.ntmps15
  go_wp2_with fail
  refine (eqInt32S_same _ _ xs _ (ha.ext (((Ext.refl _).alloc _).alloc _)) (hb.ext (((Ext.refl _).alloc _).alloc _)) hx).mono ?_
  rintro e w1 ⟨rfl, F1⟩
  obtain ⟨hc, hf⟩ := F1.rules
  go_wp2
  go_ret
  exact ⟨rfl, (((Ext.refl _).alloc _).alloc _).trans F1⟩
set_option maxHeartbeats 1000000 in
theorem markKey_any (base : Nat) (v : Value) (n : Nat) (xs : List Value) (d k : Int) (w : World) (hv : w.ownsRow base 21 1 v n xs) (hn : n ≤ 4398046511104) (hk : 0 ≤ k) (hk2 : k ≤ 4398046511104) :
    Calls Tryz.prog 17 #[.agg #[.int .i64 d, v], .int .i64 k] w fun e w' => e = .returned (.int .i64 (k + (n : Int))) ∧ w'.ownsRow base 21 1 v n ((mkI32 k n).map (Value.int .i32)) ∧ w.grownBy w' v.ownBlock := by
  have hcon := hide (fun W (hW : Ext w W) => markInt32S_any base v n xs k W (hW.owns hv) hn hk hk2)
  go_enter Tryz.func17, Tryz.ntmps17
  go_wp2_with fail
  refine ((unhide hcon) _ ((Ext.refl _).alloc _)).mono ?_
  rintro e w1 ⟨rfl, o1, F1⟩
  go_wp2
  go_ret
  exact ⟨rfl, o1, (World.grownBy_alloc w _ _).trans F1⟩
/-- Keys. -/
def keyK (kd : Int) (zs : List Int) : Kd where
  R w v := ∃ u, v = .agg #[.int .i64 kd, u] ∧ IntsAt w .i32 u zs
  O w base S v := ∃ u, v = .agg #[.int .i64 kd, u] ∧ w.ownsRow base 21 1 u zs.length (zs.map (Value.int .i32)) ∧ ∀ g, S g ↔ u.ownBlock = some g
  rext := by rintro w w' v ⟨u, e, h⟩ he; exact ⟨u, e, h.ext he⟩
  oext := by rintro w w' b S v ⟨u, e, h, hS⟩ he; exact ⟨u, e, he.owns h, hS⟩
  ofr := by rintro w w' b S S' v ⟨u, e, h, hS⟩ hf hd; exact ⟨u, e, hf.owns h (fun g hg => hd g ((hS g).2 hg)), hS⟩
  reads := by rintro w b S v ⟨u, e, h, hS⟩; exact ⟨u, e, ints_of_owns h⟩
  lt := by rintro w b S v ⟨u, e, h, hS⟩ g hg; exact h.lt g ((hS g).1 hg)
theorem keyK_shape {kd : Int} {zs : List Int} {w : World} {v : Value} (h : (keyK kd zs).R w v) : ∃ ua uc, v = .agg #[.int .i64 kd, .slice ua zs.length uc] := by
  obtain ⟨u, rfl, ua, uc, rfl, _⟩ := h
  exact ⟨ua, uc, rfl⟩
theorem keyK_own {kd : Int} {zs : List Int} {w : World} {base : Nat} {u : Value} (h : w.ownsRow base 21 1 u zs.length (zs.map (Value.int .i32))) : (keyK kd zs).O w base (fun g => u.ownBlock = some g) (.agg #[.int .i64 kd, u]) := ⟨u, rfl, h, fun _ => Iff.rfl⟩
theorem keyK_eq (kd : Int) (zs : List Int) (hn : zs.length ≤ 4398046511104) : EqOk 15 (keyK kd zs) := by
  rintro w x y ⟨ux, rfl, h1⟩ ⟨uy, rfl, h2⟩
  exact eqKey_one ux uy zs kd w h1 h2 hn
theorem keyK_mark (kd : Int) (zs : List Int) (hn : zs.length ≤ 1048576) : MarkOk 17 (keyK kd zs) (fun k => keyK kd (mkI32 k zs.length)) zs.length := by
  rintro w base S v k ⟨u, rfl, h, hS⟩ h0 h1
  refine (markKey_any base u zs.length _ kd k w h (by omega) h0 (by omega)).mono ?_
  rintro e w' ⟨rfl, o, f⟩
  exact ⟨rfl, ⟨u, rfl, by rw [mkI32_len]; exact o, hS⟩, (Fr.refl _ w).grown f (fun g hg => (hS g).2 hg)⟩
set_option maxRecDepth 10000 in
/-- A key that came in, opened. -/
theorem key_came {H : Type} {enc : TypeId × Value → H} {W : World} {v : Value} {d : DataW H} {p : List MemPlace} {base : Nat} {r : Reach}
    (hv : Value.okWide Tryz.prog W r base 38 v) (h : DataW.Trod enc Tryz.prog W 0 (fun _ => true) true 38 v d p) :
    ∃ (kd : Int) (bs : List Int) (ha : Option Addr) (hc : Nat), v = .agg #[.int .i64 kd, .slice ha bs.length hc] ∧ IntsAt W .i32 (.slice ha bs.length hc) bs ∧ (∀ n ∈ bs, (Lit.int .i32 n).wf = true) ∧ bs.length ≤ maxLen ∧ (Lit.int .i64 kd).wf = true := by
  obtain ⟨cs, rfl, hsz⟩ := okWide_struct Tryz.underlying38 hv
  obtain ⟨fuel, hf⟩ := h
  obtain ⟨xs, n, _, _, _, hlen, hx⟩ := DataW.trod_struct Tryz.underlying38 hf
  have h8 : Tryz.prog.cellsOf 38 = 2 := by kernel_rfl
  rw [h8] at hsz
  obtain ⟨l⟩ := cs
  have kb : Tryz.prog.cellsOf 3 = 1 := by kernel_rfl
  have ku : Tryz.prog.cellsOf 26 = 1 := by kernel_rfl
  match l, hsz, xs, hlen with
  | [c0, c1], _, [x0, x1], _ =>
    have t0 : DataW.trod enc Tryz.prog W 0 (fun _ => true) true n 3 [c0] = some x0 := by
      have := hx 0 _ rfl
      simpa [Value.cells, kb] using this
    have t1 : DataW.trod enc Tryz.prog W 0 (fun _ => true) true n 26 [c1] = some x1 := by
      have := hx 1 _ rfl
      simpa [Value.cells, ku] using this
    obtain ⟨zs, z1, z2, z3⟩ := bytes_trod Tryz.underlying26 Tryz.underlying21 (by kernel_rfl) t1
    obtain ⟨kd, e5, _, hw⟩ := DataW.trod_int Tryz.underlying3 t0
    simp at e5
    subst e5
    have z4 := z1
    obtain ⟨ao, cap, rfl, _⟩ := z1
    exact ⟨kd, zs, ao, cap, rfl, z4, z2, z3, hw⟩
end Go.Proofs.YtokjpnlmkecleaaGreatDoor

namespace Go.Proofs.YtokjpnlmkecleaaGreatDoor
open Go.ChangeShapes Go.WideShapes Go.ChangeAt Go.RowKit Go.Deep

set_option maxRecDepth 10000 in
theorem snaps_trod {H : Type} {enc : TypeId × Value → H} {W : World} {fuel : Nat} {v : Value} {x : DataW H × List MemPlace}
    (h : DataW.trod enc Tryz.prog W 0 (fun _ => true) true fuel 35 [v] = some x) : ∃ (n : Nat) (tx hf : Nat → ByteArray), Row2At W v n (fun j => .string (tx j)) (fun j => .string (hf j)) ∧ n ≤ maxLen ∧ ∀ j, j < n → (tx j).size ≤ maxLen ∧ (hf j).size ≤ maxLen := by
  rcases open_slice_pairs Tryz.underlying35 Tryz.underlying111 (by kernel_rfl) rfl rfl (by kernel_rfl) (by kernel_rfl) h with ⟨hcs, _⟩ | ⟨a, len, cap, m, n, V0, V1, D0, D1, P0, P1, hcs, _, hl, hm, hmm, _, hx⟩
  · simp at hcs
    subst hcs
    exact ⟨0, fun _ => { data := #[] }, fun _ => { data := #[] }, ⟨none, 0, rfl, Nat.le_refl _, fun h => by omega⟩, by simp, fun j hj => by omega⟩
  · simp at hcs
    subst hcs
    simp at hmm
    have each : ∀ i, i < len → ∃ q : ByteArray × ByteArray, V0 i = .string q.1 ∧ V1 i = .string q.2 ∧ q.1.size ≤ maxLen ∧ q.2.size ≤ maxLen := by
      intro i hi
      obtain ⟨_, _, t0, t1⟩ := hx i (by omega)
      obtain ⟨s, e0, _, hs⟩ := DataW.trod_string Tryz.underlying9 t0
      obtain ⟨b, e1, _, hb⟩ := DataW.trod_string Tryz.underlying9 t1
      simp at e0 e1
      exact ⟨(s, b), e0, e1, hs, hb⟩
    obtain ⟨q, hq⟩ := choose_lt each
    refine ⟨len, fun i => (q i).1, fun i => (q i).2, ⟨some a, cap, rfl, hl, fun hp => ?_⟩, by omega, fun j hj => (hq j hj).2.2⟩
    have ha := addr_plain (by simpa using (hx 0 (by omega)).1)
    refine ⟨a.block, a.off, by rw [← ha], fun j hj => ?_⟩
    obtain ⟨c0, c1, _, _⟩ := hx j (by omega)
    rw [ha, Addr.add_lit] at c0 c1
    rw [(hq j hj).1] at c0
    rw [(hq j hj).2.1] at c1
    exact ⟨c0, by simpa [Nat.add_assoc] using c1⟩
set_option maxRecDepth 10000 in
/-- A line that came in, opened. -/
theorem line_came {H : Type} {enc : TypeId × Value → H} {W : World} {v : Value} {d : DataW H} {p : List MemPlace} {base : Nat} {r : Reach}
    (hv : Value.okWide Tryz.prog W r base 37 v) (h : DataW.Trod enc Tryz.prog W 0 (fun _ => true) true 37 v d p) :
    ∃ (a b c : ByteArray) (u : Value) (n : Nat) (tx hf : Nat → ByteArray), v = .agg #[.string a, .string b, .string c, u] ∧ Row2At W u n (fun j => .string (tx j)) (fun j => .string (hf j)) ∧ a.size ≤ maxLen ∧ b.size ≤ maxLen ∧ c.size ≤ maxLen ∧ n ≤ maxLen ∧ ∀ j, j < n → (tx j).size ≤ maxLen ∧ (hf j).size ≤ maxLen := by
  obtain ⟨cs, rfl, hsz⟩ := okWide_struct Tryz.underlying37 hv
  obtain ⟨fuel, hf⟩ := h
  obtain ⟨xs, n, _, _, _, hlen, hx⟩ := DataW.trod_struct Tryz.underlying37 hf
  have h4 : Tryz.prog.cellsOf 37 = 4 := by kernel_rfl
  rw [h4] at hsz
  obtain ⟨l⟩ := cs
  have ks : Tryz.prog.cellsOf 9 = 1 := by kernel_rfl
  have ku : Tryz.prog.cellsOf 35 = 1 := by kernel_rfl
  match l, hsz, xs, hlen with
  | [c0, c1, c2, c3], _, [x0, x1, x2, x3], _ =>
    have t0 : DataW.trod enc Tryz.prog W 0 (fun _ => true) true n 9 [c0] = some x0 := by
      have := hx 0 _ rfl
      simpa [Value.cells, ks] using this
    have t1 : DataW.trod enc Tryz.prog W 0 (fun _ => true) true n 9 [c1] = some x1 := by
      have := hx 1 _ rfl
      simpa [Value.cells, ks] using this
    have t2 : DataW.trod enc Tryz.prog W 0 (fun _ => true) true n 9 [c2] = some x2 := by
      have := hx 2 _ rfl
      simpa [Value.cells, ks] using this
    have t3 : DataW.trod enc Tryz.prog W 0 (fun _ => true) true n 35 [c3] = some x3 := by
      have := hx 3 _ rfl
      simpa [Value.cells, ku] using this
    obtain ⟨s0, e0, _, z0⟩ := DataW.trod_string Tryz.underlying9 t0
    obtain ⟨s1, e1, _, z1⟩ := DataW.trod_string Tryz.underlying9 t1
    obtain ⟨s2, e2, _, z2⟩ := DataW.trod_string Tryz.underlying9 t2
    obtain ⟨m, tx, hfl, g1, g2, g3⟩ := snaps_trod t3
    simp at e0 e1 e2
    subst e0 e1 e2
    exact ⟨s0, s1, s2, c3, m, tx, hfl, rfl, g1, z0, z1, z2, g2, g3⟩
end Go.Proofs.YtokjpnlmkecleaaGreatDoor
