import Derived.Test.YtokjpnlmkecleaaGreatDoorEdTf
import Derived.Test.YtokjpnlmkecleaaGreatDoorLnCp
import Derived.Deep.RegionHeld3
import Derived.Test.YtokjpnlmkecleaaGreatDoorEdPs
import Derived.Test.YtokjpnlmkecleaaGreatDoorItemOk
import Derived.Test.YtokjpnlmkecleaaGreatDoorEdD7
import Derived.Test.YtokjpnlmkecleaaGreatDoorEdN2
import Derived.Test.YtokjpnlmkecleaaGreatDoorEdSy
namespace Go.Proofs.YtokjpnlmkecleaaGreatDoor
open Go.RowKit

section
variable {P base : Nat} {W : World} {k : ByteArray} {u : Value} {qs : List Nat} {un : List (ByteArray × ByteArray)} {cl rl rr : List Value}
set_option linter.unusedSimpArgs false in
set_option maxRecDepth 10000 in
set_option maxHeartbeats 8000000 in
theorem put_Z {B : List (List Int × Int)} (rv : Value) (rs : List Int) (hr : IntsAt W .i32 rv rs) (iR : I32s rs) (zR : rs.length ≤ 1048576) (hN : rs.length ≤ 8000000) (hT : ∀ W', Fr (fun x => x = P ∨ base ≤ x) W W' → Laid W') (hfit : (flat (clusC rs)).length + (flat B).length ≤ 300 → (clusC rs).length + B.length ≤ 300) (h : Ed0 P base W k u qs un [] B cl rl rr) :
    Calls Tryz.prog 118 #[.pointer (some ⟨P, 0, none⟩), rv] W fun e w' => (300 < (flat (clusC rs)).length + (flat B).length ∧ EdR P base W w' k un [] B 2 e) ∨ ((flat (clusC rs)).length + (flat B).length ≤ 300 ∧ EdR P base W w' k (undoN un (toBA (textC []), toBA (textC B))) (clusC rs) B 1 e) := by
  obtain ⟨ic, hic, hc0, hc1, hc2⟩ := info_parts infoI32u
  have hg := h.now
  have hl := h.len
  have hPl : P < W.heap.size := lt_of_block h.blk
  have hfb := h.fit
  have H1 := hide (edLeftOf h.two)
  have HR := hide (fun w (E : Ext W w) => edRightOf (h.ext E).two)
  have HCh := hide (fun w (E : Ext W w) => edChangeE h E)
  have H0 := hide (fun w (E : Ext W w) => h.same E 2)
  have HTk := hide (fun w u' un' (g : Ed2 P base W w k u' un' ([] ++ []) B cl rl rr) => edTakeF g)
  have HC2 : Hid (∀ w, Ext W w → ∀ c, ClsAt w (.slice (some ⟨P, 0, none⟩) 0 c) []) := hide (fun w _ c => ⟨[], _, c, rfl, Nat.zero_le _, fun j hj => absurd hj (Nat.not_lt_zero _), fun hp => absurd hp (Nat.not_lt_zero _)⟩)
  have HC1 := HC2
  have cB := h.cb
  have cA := h.ca
  have HR2 := hide (fun v w (hv : ClsAt w v []) => runesOf_any v [] w hv (by decide))
  have HR1 := hide (fun v w (hv : ClsAt w v []) => runesOf_any v [] w hv (by decide))
  have HRN := hide (fun v w (hv : ClsAt w v (clusC rs)) => runesOf_any v (clusC rs) w hv (clusC_fit _ hN))
  have HRB := hide (fun v w (hv : ClsAt w v B) => runesOf_any v B w hv cB.1)
  have HK := hide (fun v w (E : Ext W w) (hv : IntsAt w .i32 v rs) => implClusters_any v rs w hv iR (by omega) (hT w (Fr.of_ext E)))
  have HSr := hide (fun w (E : Ext W w) => Src.ints (hr.ext E))
  obtain ⟨ra, rc, rfl, _⟩ := id hr
  have hub : ∀ b, u.ownBlock = some b → b < W.heap.size := fun b hb => (h.bk.2.1.lt b hb).2
  have HUB := hide hub
  obtain ⟨fN, hfN⟩ : ∃ n, (flat (clusC rs)).length = n := ⟨_, rfl⟩
  obtain ⟨fB, hfB⟩ : ∃ n, (flat B).length = n := ⟨_, rfl⟩
  have zfN : fN ≤ 16777216 := by rw [← hfN, flat_len]; have := clusC_fit _ hN; omega
  have zfB : fB ≤ 16777216 := by rw [← hfB, flat_len]; have := cB.1; omega
  have HFN := hide hfN
  have HFB := hide hfB
  obtain ⟨fA, hfA⟩ : ∃ n, (flat ([] : List (List Int × Int))).length = n := ⟨_, rfl⟩
  have hfA0 : fA = 0 := hfA.symm
  have zfA : fA ≤ 16777216 := by omega
  have HFA := hide hfA
  have HFA0 := hide hfA0
  rw [hfN, hfB] at hfit ⊢
  have HFit := hide hfit
  have hwS : IntKind.i64.wrap ((fA : Int) + (fN : Int)) = (fA : Int) + (fN : Int) := by rw [IntKind.wrap_i64]; omega
  have hwT : IntKind.i64.wrap ((fA : Int) + (fN : Int) + (fB : Int)) = (fA : Int) + (fN : Int) + (fB : Int) := by rw [IntKind.wrap_i64]; omega
  clear h hg hfit hr hT iR cB cA hub hfN hfB hfA hfA0
  go_enter Tryz.func118, Tryz.ntmps118
  go_wp2_with fail
  refine (unhide H1).mono ?_
  rintro e w1 ⟨rfl, -, E1⟩
  have HE1 := hide E1
  clear H1 E1
  go_wp2_with fail
  refine ((unhide HR2) _ w1 ((unhide HC2) w1 (unhide HE1) _)).mono ?_
  rintro e w2 ⟨v2, rfl, o2, E2⟩
  obtain ⟨a2, c2, rfl⟩ := owns_sl o2
  have HO2 := hide o2
  have hf2 : (flat []).length ≤ 8000000 := by decide
  obtain ⟨L2, hL2⟩ : ∃ n, (flat []).length = n := ⟨_, rfl⟩
  rw [hL2] at HO2 hf2 ⊢
  have HL2 := hide hL2
  have HE2 := hide ((unhide HE1).trans E2)
  have zw2 := E2.size
  clear HR2 HC2 E2 o2 hL2
  go_wp2_with (at_builtin; go_loud (
     refine wpList_app rfl _ _ 26 rfl w1.heap.size 21 ic (.int .i32 0) 1 4 Tryz.underlying26 hic hc0 hc1 hc2 rfl (by decide) (.slice a2 L2 c2) _ _ rfl (unhide HO2) _ _ _ rfl ((unhide HSr) w2 (unhide HE2)) (by unfold maxLen; omega) (by omega) zw2 ?_
     intro v3 w3 o3 G3 _
     have E3 : Ext W w3 := (unhide HE2).grown G3 (fun b hb => Nat.le_trans (unhide HE1).size ((unhide HO2).lt b hb).1)
     have i3 : IntsAt w3 .i32 v3 rs := (by
       have e : (flat []).map (Value.int .i32) ++ rs.map (Value.int .i32) = rs.map (Value.int .i32) := (by simp [flat])
       have e2 : L2 + rs.length = rs.length := (by rw [← unhide HL2]; simp [flat])
       rw [e, e2] at o3
       exact ints_of_owns o3)
     obtain ⟨a3, c3, rfl⟩ := owns_sl o3
     have HE3 := hide E3
     have HI3 := hide i3
     clear o3 G3 E3 i3))
  refine ((unhide HK) _ w3 (unhide HE3) (unhide HI3)).mono ?_
  rintro e w4 ⟨v4, rs4, rfl, o4, E4⟩
  obtain ⟨a4, c4, rfl⟩ : ∃ a c, v4 = .slice a (clusC rs).length c := by
    obtain ⟨_, ao, ca, e, _⟩ := o4.cls
    exact ⟨ao, ca, e⟩
  have HO4 := hide o4
  have HE4 := hide ((unhide HE3).trans E4)
  have hz3 := (unhide HE3).size
  obtain ⟨nN, hnN⟩ : ∃ n, (clusC rs).length = n := ⟨_, rfl⟩
  have HNN := hide hnN
  rw [hnN] at HO4 ⊢
  clear HK HI3 HSr HO2 HL2 E4 o4 hnN
  go_wp2_with fail
  refine wp_region_held_drew (S := fun W9 => Ext w4 W9) (by kernel_rfl) (by first | exact Ext.refl w4 | exact (Ext.refl w4).drew) (fun hHeld => ?_)
  refine wpAnyH_take (i := 0) (v := ?_) rfl (by kernel_rfl) (by kernel_rfl) (by kernel_rfl) (fun _ _ _ h => h) (Or.inl ⟨by rfl, ?_⟩) (by assumption) ?_
  rotate_left
  · intro w' hSw; go_simp <;> with_reducible rfl
  simp only [Act.put, List.getElem_toArray, List.getElem_cons_succ, List.getElem_cons_zero, List.setIfInBounds_toArray, List.set_cons_zero, List.set_cons_succ]
  refine wpAnyH_take (i := 1) (v := ?_) rfl (by kernel_rfl) (by kernel_rfl) (by kernel_rfl) (fun _ _ _ h => h) (Or.inl ⟨by rfl, ?_⟩) (by assumption) ?_
  rotate_left
  · intro w' hSw; go_simp <;> with_reducible rfl
  simp only [Act.put, List.getElem_toArray, List.getElem_cons_succ, List.getElem_cons_zero, List.setIfInBounds_toArray, List.set_cons_zero, List.set_cons_succ]
  refine wpAnyH_take (i := 2) (v := ?_) rfl (by kernel_rfl) (by kernel_rfl) (by kernel_rfl) (fun _ _ _ h => h) (Or.inl ⟨by rfl, ?_⟩) (by assumption) ?_
  rotate_left
  · intro w' hSw; go_simp <;> with_reducible rfl
  simp only [Act.put, List.getElem_toArray, List.getElem_cons_succ, List.getElem_cons_zero, List.setIfInBounds_toArray, List.set_cons_zero, List.set_cons_succ]
  refine wpAnyH_take (i := 5) (v := ?_) rfl (by kernel_rfl) (by kernel_rfl) (by kernel_rfl) (fun _ _ _ h => h) (Or.inl ⟨by rfl, ?_⟩) (by assumption) ?_
  rotate_left
  · intro w' hSw; go_simp <;> with_reducible rfl
  simp only [Act.put, List.getElem_toArray, List.getElem_cons_succ, List.getElem_cons_zero, List.setIfInBounds_toArray, List.set_cons_zero, List.set_cons_succ]
  refine wpAnyH_take (i := 9) (v := ?_) rfl (by kernel_rfl) (by kernel_rfl) (by kernel_rfl) (fun _ _ _ h => h) (Or.inl ⟨by rfl, ?_⟩) (by assumption) ?_
  rotate_left
  · intro w' hSw; go_simp <;> with_reducible rfl
  simp only [Act.put, List.getElem_toArray, List.getElem_cons_succ, List.getElem_cons_zero, List.setIfInBounds_toArray, List.set_cons_zero, List.set_cons_succ]
  refine wpAnyH_take (i := 10) (v := ?_) rfl (by kernel_rfl) (by kernel_rfl) (by kernel_rfl) (fun _ _ _ h => h) (Or.inl ⟨by rfl, ?_⟩) (by assumption) ?_
  rotate_left
  · intro w' hSw; go_simp <;> with_reducible rfl
  simp only [Act.put, List.getElem_toArray, List.getElem_cons_succ, List.getElem_cons_zero, List.setIfInBounds_toArray, List.set_cons_zero, List.set_cons_succ]
  refine wpAnyH_take (i := 11) (v := ?_) rfl (by kernel_rfl) (by kernel_rfl) (by kernel_rfl) (fun _ _ _ h => h) (Or.inl ⟨by rfl, ?_⟩) (by assumption) ?_
  rotate_left
  · intro w' hSw; go_simp <;> with_reducible rfl
  simp only [Act.put, List.getElem_toArray, List.getElem_cons_succ, List.getElem_cons_zero, List.setIfInBounds_toArray, List.set_cons_zero, List.set_cons_succ]
  refine wpAnyH_ready (rs := [3]) (by kernel_rfl) (by simp) ?_
  refine AllReadyH.cons rfl (fun K hK => ?_) AllReadyH.nil
  go_simp
  go_wp2_with (go_at_call 136; refine ((unhide HR1) _ _ ((unhide HC1) _ (by first | exact unhide HE4 | exact (unhide HE4).drew) _)).mono ?_; rintro e w5 ⟨v5, rfl, o5, E5⟩; rw [unhide HFA] at o5; obtain ⟨a5, c5, rfl⟩ := owns_sl o5; have F5 : Ext w4 w5 := (by first | exact E5 | exact (Ext.refl _).drew.trans E5); clear o5 E5)
  refine hK.out _ _ F5 (fun hHeld => ?_)
  clear hK K
  refine wpAnyH_take (i := 4) (v := ?_) rfl (by kernel_rfl) (by kernel_rfl) (by kernel_rfl) (fun _ _ _ h => h) (Or.inl ⟨by rfl, ?_⟩) (by assumption) ?_
  rotate_left
  · intro w' hSw; go_simp <;> with_reducible rfl
  simp only [Act.put, List.getElem_toArray, List.getElem_cons_succ, List.getElem_cons_zero, List.setIfInBounds_toArray, List.set_cons_zero, List.set_cons_succ]
  refine wpAnyH_ready (rs := [6]) (by kernel_rfl) (by simp) ?_
  refine AllReadyH.cons rfl (fun K hK => ?_) AllReadyH.nil
  go_simp
  go_wp2_with (go_at_call 136; refine ((unhide HRN) _ _ ((unhide HO4).cls.ext (by first | exact F5 | exact F5.drew))).mono ?_; rintro e w6 ⟨v6, rfl, o6, E6⟩; rw [unhide HFN] at o6; obtain ⟨a6, c6, rfl⟩ := owns_sl o6; have F6 : Ext w4 w6 := (by first | exact F5.trans E6 | exact F5.drew.trans E6); clear o6 E6)
  refine hK.out _ _ F6 (fun hHeld => ?_)
  clear hK K
  refine wpAnyH_take (i := 7) (v := ?_) rfl (by kernel_rfl) (by kernel_rfl) (by kernel_rfl) (fun _ _ _ h => h) (Or.inl ⟨by rfl, ?_⟩) (by assumption) ?_
  rotate_left
  · intro w' hSw; go_simp <;> with_reducible rfl
  simp only [Act.put, List.getElem_toArray, List.getElem_cons_succ, List.getElem_cons_zero, List.setIfInBounds_toArray, List.set_cons_zero, List.set_cons_succ]
  refine wpAnyH_take (i := 8) (v := ?_) rfl (by kernel_rfl) (by kernel_rfl) (by kernel_rfl) (fun _ _ _ h => h) (Or.inl ⟨by rfl, ?_⟩) (by assumption) ?_
  rotate_left
  · intro w' hSw; go_simp <;> with_reducible rfl
  simp only [Act.put, List.getElem_toArray, List.getElem_cons_succ, List.getElem_cons_zero, List.setIfInBounds_toArray, List.set_cons_zero, List.set_cons_succ]
  refine wpAnyH_ready (rs := [12]) (by kernel_rfl) (by simp) ?_
  refine AllReadyH.cons rfl (fun K hK => ?_) AllReadyH.nil
  go_simp
  go_wp2_with (go_at_call 105; refine ((unhide HR) _ (by first | exact (unhide HE4).trans F6 | exact (unhide HE4).trans F6.drew)).mono ?_; rintro e w7 ⟨a7, c7, rfl, hcB, E7⟩; have F7 : Ext w4 w7 := (by first | exact F6.trans E7 | exact F6.drew.trans E7); clear E7)
  refine hK.out _ _ F7 (fun hHeld => ?_)
  clear hK K
  refine wpAnyH_ready (rs := [13]) (by kernel_rfl) (by simp) ?_
  refine AllReadyH.cons rfl (fun K hK => ?_) AllReadyH.nil
  go_simp
  go_wp2_with (go_at_call 136; refine ((unhide HRB) _ _ (hcB.ext (by first | exact Ext.refl _ | exact (Ext.refl _).drew))).mono ?_; rintro e w8 ⟨v8, rfl, o8, E8⟩; rw [unhide HFB] at o8; obtain ⟨a8, c8, rfl⟩ := owns_sl o8; have F8 : Ext w4 w8 := (by first | exact F7.trans E8 | exact F7.drew.trans E8); clear o8 E8)
  refine hK.out _ _ F8 (fun hHeld => ?_)
  clear hK K
  refine wpAnyH_take (i := 14) (v := ?_) rfl (by kernel_rfl) (by kernel_rfl) (by kernel_rfl) (fun _ _ _ h => h) (Or.inl ⟨by rfl, ?_⟩) (by assumption) ?_
  rotate_left
  · intro w' hSw; go_simp <;> with_reducible rfl
  simp only [Act.put, List.getElem_toArray, List.getElem_cons_succ, List.getElem_cons_zero, List.setIfInBounds_toArray, List.set_cons_zero, List.set_cons_succ]
  refine wpAnyH_take (i := 15) (v := ?_) rfl (by kernel_rfl) (by kernel_rfl) (by kernel_rfl) (fun _ _ _ h => h) (Or.inl ⟨by rfl, ?_⟩) (by assumption) ?_
  rotate_left
  · intro w' hSw; go_simp <;> with_reducible rfl
  simp only [Act.put, List.getElem_toArray, List.getElem_cons_succ, List.getElem_cons_zero, List.setIfInBounds_toArray, List.set_cons_zero, List.set_cons_succ]
  refine wpAnyH_take (i := 16) (v := ?_) rfl (by kernel_rfl) (by kernel_rfl) (by kernel_rfl) (fun _ _ _ h => h) (Or.inl ⟨by rfl, ?_⟩) (by assumption) ?_
  rotate_left
  · intro w' hSw; go_simp <;> with_reducible rfl
  simp only [Act.put, List.getElem_toArray, List.getElem_cons_succ, List.getElem_cons_zero, List.setIfInBounds_toArray, List.set_cons_zero, List.set_cons_succ]
  refine wpAnyH_done (by kernel_rfl) ?_ _
  have EW8 := (unhide HE4).trans F8
  by_cases hb : 300 < fA + fN + fB
  · have hbI : (300 : Int) < (fA : Int) + (fN : Int) + (fB : Int) := by omega
    have H3 := hide ((unhide H0) w8 EW8)
    clear EW8 HCh HTk HO4
    go_wp2
    exact bodyPost_ret (v := .int .i64 2) (by simp [results, Tryz.results118, go_sem]) rfl (Or.inl ⟨by have := unhide HFA0; omega, unhide H3⟩)
  · have hbI : ¬ (300 : Int) < (fA : Int) + (fN : Int) + (fB : Int) := by omega
    have HCh' := hide ((unhide HCh) w8 EW8)
    have HO8 := hide ((unhide HO4).ext F8)
    have HB := hide hb
    have hfit := (unhide HFit) (by have := unhide HFA0; omega)
    have HFi := hide hfit
    have HP3 : Hid (P < w3.heap.size) := hide (by omega)
    clear EW8 HCh HO4 HR1 HRN HRB HR HC1 H0 hb hfit F5 F6 F7 F8 hcB
    go_wp2_with fail
    refine (unhide HCh').mono ?_
    rintro e w9 ⟨u9, rfl, g9, f9⟩
    have HO9 := hide ((unhide HO8).fr f9 (fun g hg e9 => by
      have h1 := (unhide HO8).foot hg
      rcases e9 with e9 | e9
      · omega
      · have := (unhide HUB) g e9
        omega))
    have HTk' := hide ((unhide HTk) w9 u9 _ g9)
    clear HCh' HO8 g9 f9 HTk
    go_wp2_with fail
    refine (unhide HTk').mono ?_
    rintro e w10 ⟨v10, rl10, rfl, g10, f10⟩
    have HO10 := hide ((unhide HO9).fr f10 (fun g hg e9 => by
      have h1 := (unhide HO9).foot hg
      omega))
    have HIn : Hid (Calls Tryz.prog 83 #[.pointer (some ⟨P, 0, none⟩), .slice a4 nN c4] w10 fun e w' => ∃ cl' rl', e = .returned (.tuple #[]) ∧ Ed2 P base W w' k u9 _ ([] ++ (clusC rs)) B cl' rl' rr) := hide (by
      obtain ⟨ao, cap, ev, hrs, hr, h1, hx⟩ := (unhide HO10).gap (unhide HP3)
      refine (insert_any P cl rl10 rr [] B (clusC rs) _ rfl k u9 _ rs4 w10 g10.blk g10.gap hrs (by simp; exact unhide HFi) hr h1 ao cap ev hx).mono ?_
      rintro e w' ⟨cl', rfl, b', G', F'⟩
      exact ⟨cl', _, rfl, g10.step b' G' F'⟩)
    clear HTk' HO9 HO10 g10 f10
    go_wp2_with fail
    refine (unhide HIn).mono ?_
    rintro e w11 ⟨cl11, rl11, rfl, g11⟩
    have H9 := hide (g11.end 1)
    clear HIn g11
    go_wp2
    exact bodyPost_ret (v := .int .i64 1) (by simp [results, Tryz.results118, go_sem]) rfl (Or.inr ⟨by have := unhide HB; have := unhide HFA0; omega, unhide H9⟩)
end
end Go.Proofs.YtokjpnlmkecleaaGreatDoor

namespace Go.Proofs.YtokjpnlmkecleaaGreatDoor
open Go.RowKit

theorem len_flat : ∀ {X : List (List Int × Int)}, (∀ c ∈ X, GoodC c) → X.length ≤ (flat X).length
  | [], _ => Nat.zero_le _
  | c :: cs, h => by
    have h1 := goodC_ne (h c (by simp))
    have h2 := len_flat (X := cs) (fun d hd => h d (by simp [hd]))
    have h3 : 0 < c.1.length := List.length_pos_iff.2 h1
    simp [flat]
    omega
section
variable {P base : Nat} {W : World} {k : ByteArray} {u : Value} {qs : List Nat} {un : List (ByteArray × ByteArray)} {cl rl rr : List Value}
theorem put_any (xs ys : List Int) (hx : xs.length ≤ 1048576) (rv : Value) (rs : List Int) (hr : IntsAt W .i32 rv rs) (iR : I32s rs) (zR : rs.length ≤ 1048576) (hT : ∀ W', Fr (fun x => x = P ∨ base ≤ x) W W' → Laid W') (h : Ed0 P base W k u qs un (clusC xs) (clusC ys) cl rl rr) :
    Calls Tryz.prog 118 #[.pointer (some ⟨P, 0, none⟩), rv] W fun e w' => (300 < (flat (clusC (xs ++ rs))).length + (flat (clusC ys)).length ∧ EdR P base W w' k un (clusC xs) (clusC ys) 2 e) ∨ ((flat (clusC (xs ++ rs))).length + (flat (clusC ys)).length ≤ 300 ∧ EdR P base W w' k (undoN un (toBA (textC (clusC xs)), toBA (textC (clusC ys)))) (clusC (xs ++ rs)) (clusC ys) 1 e) := by
  have gB := len_flat (clus_good ys)
  have gN := len_flat (clus_good (xs ++ rs))
  rcases List.eq_nil_or_concat (clusC xs) with e | ⟨A1, x, e⟩
  · obtain rfl := clus_nil xs e
    have e2 : clusC [] = [] := rfl
    rw [List.nil_append] at gN ⊢
    rw [e2] at h ⊢
    exact put_Z rv rs hr iR zR (by omega) hT (fun _ => by omega) h
  · rw [List.concat_eq_append] at e
    have hm := clus_more xs rs A1 x e
    have gA : ∀ c ∈ A1, GoodC c := fun c hc => clus_good xs c (by rw [e]; simp [hc])
    have gx : x.1.length ≤ xs.length + 1 := by
      have := clF_runes xs xs.length A1.length
      have e3 : cR (clF xs xs.length) A1.length = x.1 := by
        rw [show clF xs xs.length = A1 ++ [x] from e]
        have := (cR_appR A1 [x] 0).1
        rw [Nat.add_zero] at this
        exact this
      rw [e3] at this
      exact this
    rw [hm] at gN ⊢
    rw [flat_app, List.length_append]
    rw [e] at h ⊢
    rw [List.length_append, flat_app, List.length_append] at gN
    have gA2 := len_flat gA
    have gN2 := len_flat (clus_good (x.1 ++ rs))
    exact put_S rv rs hr iR zR (by rw [List.length_append]; omega) hT (fun _ => by omega) h
set_option maxRecDepth 10000 in
set_option maxHeartbeats 4000000 in
theorem edWrite_no {A B : List (List Int × Int)} (kd : Int) (ra : Option Addr) (rc : Nat) (h : Ed0 P base W k u qs un A B cl rl rr) :
    Calls Tryz.prog 87 #[.pointer (some ⟨P, 0, none⟩), .agg #[.int .i64 kd, .slice ra 0 rc]] W fun e w' => EdR P base W w' k un A B 0 e := by
  have H0 := hide (h.same ((Ext.refl W).alloc (.cells #[.int .i64 kd, .slice ra 0 rc] 28)) 0)
  clear h
  go_enter Tryz.func87, Tryz.ntmps87
  go_wp2
  exact bodyPost_ret (v := .int .i64 0) (by simp [results, Tryz.results87, go_sem]) rfl (unhide H0)
set_option maxRecDepth 10000 in
set_option maxHeartbeats 4000000 in
theorem edWrite_yes (xs ys : List Int) (hx : xs.length ≤ 1048576) (kd : Int) (rv : Value) (rs : List Int) (h0 : 0 < rs.length) (hr : IntsAt W .i32 rv rs) (iR : I32s rs) (zR : rs.length ≤ 1048576) (hT : ∀ W', Fr (fun x => x = P ∨ base ≤ x) W W' → Laid W') (h : Ed0 P base W k u qs un (clusC xs) (clusC ys) cl rl rr) :
    Calls Tryz.prog 87 #[.pointer (some ⟨P, 0, none⟩), .agg #[.int .i64 kd, rv]] W fun e w' => (300 < (flat (clusC (xs ++ rs))).length + (flat (clusC ys)).length ∧ EdR P base W w' k un (clusC xs) (clusC ys) 2 e) ∨ ((flat (clusC (xs ++ rs))).length + (flat (clusC ys)).length ≤ 300 ∧ EdR P base W w' k (undoN un (toBA (textC (clusC xs)), toBA (textC (clusC ys)))) (clusC (xs ++ rs)) (clusC ys) 1 e) := by
  have HP := hide (put_any xs ys hx rv rs (hr.ext ((Ext.refl W).alloc (.cells #[.int .i64 kd, rv] 28))) iR zR (fun W' f => hT W' ((Fr.of_ext ((Ext.refl W).alloc (.cells #[.int .i64 kd, rv] 28))).tr f)) (h.ext ((Ext.refl W).alloc (.cells #[.int .i64 kd, rv] 28))))
  obtain ⟨ra, rc, rfl, _⟩ := id hr
  clear h hr iR zR hT hx
  obtain ⟨c1, hc1⟩ : ∃ c : Prop, c = (300 < (flat (clusC (xs ++ rs))).length + (flat (clusC ys)).length) := ⟨_, rfl⟩
  obtain ⟨c2, hc2⟩ : ∃ c : Prop, c = ((flat (clusC (xs ++ rs))).length + (flat (clusC ys)).length ≤ 300) := ⟨_, rfl⟩
  rw [← hc1, ← hc2] at HP ⊢
  clear hc1 hc2
  obtain ⟨n, hn⟩ : ∃ n, rs.length = n := ⟨_, rfl⟩
  rw [hn] at HP h0 ⊢
  have hI : ¬ (n : Int) = 0 := by omega
  have hN : ¬ n = 0 := by omega
  clear hn
  go_enter Tryz.func87, Tryz.ntmps87
  go_wp2_with fail
  refine (unhide HP).mono ?_
  rintro e w1 (⟨h1, rfl, h2⟩ | ⟨h1, rfl, h2⟩)
  · have H2 := hide h2
    clear h2 HP
    go_wp2
    exact bodyPost_ret (v := .int .i64 2) (by simp [results, Tryz.results87, go_sem]) rfl (Or.inl ⟨h1, EdR.pre ⟨rfl, unhide H2⟩ ((Ext.refl W).alloc _)⟩)
  · have H2 := hide h2
    clear h2 HP
    go_wp2
    exact bodyPost_ret (v := .int .i64 1) (by simp [results, Tryz.results87, go_sem]) rfl (Or.inr ⟨h1, EdR.pre ⟨rfl, unhide H2⟩ ((Ext.refl W).alloc _)⟩)
end
end Go.Proofs.YtokjpnlmkecleaaGreatDoor

namespace Go.Proofs.YtokjpnlmkecleaaGreatDoor
open Go.RowKit

section
variable {P base : Nat} {W : World} {k : ByteArray} {u : Value} {qs : List Nat} {un : List (ByteArray × ByteArray)} {cl rl rr : List Value}
set_option maxRecDepth 10000 in
set_option maxHeartbeats 4000000 in
theorem edYank_no {A B : List (List Int × Int)} (kd : Int) (rv : Value) (h : Ed0 P base W { data := #[] } u qs un A B cl rl rr) :
    Calls Tryz.prog 99 #[.pointer (some ⟨P, 0, none⟩), .agg #[.int .i64 kd, rv]] W fun e w' => EdR P base W w' { data := #[] } un A B 2 e := by
  replace h := h.ext ((Ext.refl W).alloc (.cells #[.int .i64 kd, rv] 28))
  have H0 := hide ((h.same (Ext.refl _) 2).pre ((Ext.refl W).alloc (.cells #[.int .i64 kd, rv] 28)))
  have c602 := (edG_cells h.blk h.len).2.2.1
  clear h
  go_enter Tryz.func99, Tryz.ntmps99
  go_wp2
  exact bodyPost_ret (v := .int .i64 2) (by simp [results, Tryz.results99, go_sem]) rfl (unhide H0)
set_option maxRecDepth 10000 in
set_option maxHeartbeats 4000000 in
theorem edYank_yes (xs ys : List Int) (hx : xs.length ≤ 1048576) (kd : Int) (rv : Value) (K : List Int) (hK : Bytes K) (h0 : 0 < K.length) (zK : K.length ≤ 1048576) (hT : ∀ W', Fr (fun x => x = P ∨ base ≤ x) W W' → Laid W') (h : Ed0 P base W (toBA K) u qs un (clusC xs) (clusC ys) cl rl rr) :
    Calls Tryz.prog 99 #[.pointer (some ⟨P, 0, none⟩), .agg #[.int .i64 kd, rv]] W fun e w' => (300 < (flat (clusC (xs ++ cleanL K))).length + (flat (clusC ys)).length ∧ EdR P base W w' (toBA K) un (clusC xs) (clusC ys) 2 e) ∨ ((flat (clusC (xs ++ cleanL K))).length + (flat (clusC ys)).length ≤ 300 ∧ EdR P base W w' (toBA K) (undoN un (toBA (textC (clusC xs)), toBA (textC (clusC ys)))) (clusC (xs ++ cleanL K)) (clusC ys) 1 e) := by
  have hcl := cleanL_len K
  obtain ⟨V, hV⟩ : ∃ V, V = W.alloc (.cells #[.int .i64 kd, rv] 28) := ⟨_, rfl⟩
  have E0 : Ext W V := by rw [hV]; exact (Ext.refl W).alloc _
  have HP := hide (fun w (E : Ext V w) v (hv : IntsAt w .i32 v (cleanL K)) => put_any xs ys hx v (cleanL K) hv (cleanL_i32 K) (by omega) (fun W' f => hT W' ((Fr.of_ext (E0.trans E)).tr f)) (h.ext (E0.trans E)))
  have c602 := (edG_cells (h.ext E0).blk h.len).2.2.1
  obtain ⟨v0, w0, hrun, i0, E1⟩ := run_s2i (P := Tryz.prog) V _ _ _ Tryz.underlying9 Tryz.underlying22 Tryz.underlying5 K hK
  have HC := hide (implClean_any K hK v0 w0 i0 (by omega))
  have hne2 : (toBA K).toList.isEmpty = false := toBA_some (List.length_pos_iff.1 h0)
  have hne : ¬ (toBA K).toList = [] := fun e => by rw [e] at hne2; simp at hne2
  have HE0 := hide E0
  have HE1 := hide E1
  rw [hV] at hrun c602 
  have HV := hide hV
  clear h hT hx E0 E1 i0 hV
  obtain ⟨c1, hc1⟩ : ∃ c : Prop, c = (300 < (flat (clusC (xs ++ cleanL K))).length + (flat (clusC ys)).length) := ⟨_, rfl⟩
  obtain ⟨c2, hc2⟩ : ∃ c : Prop, c = ((flat (clusC (xs ++ cleanL K))).length + (flat (clusC ys)).length ≤ 300) := ⟨_, rfl⟩
  rw [← hc1, ← hc2] at HP ⊢
  clear hc1 hc2
  go_enter Tryz.func99, Tryz.ntmps99
  go_wp2_with fail
  refine (unhide HC).mono ?_
  rintro e w1 ⟨v1, rfl, o1, E2⟩
  have HP' := hide ((unhide HP) w1 ((unhide HE1).trans E2) v1 (ints_of_owns o1))
  have HEW := hide ((unhide HE0).trans ((unhide HE1).trans E2))
  clear HC HP E2 o1
  go_wp2_with fail
  refine (unhide HP').mono ?_
  rintro e w2 (⟨h1, rfl, h2⟩ | ⟨h1, rfl, h2⟩)
  · have H2 := hide h2
    clear h2 HP'
    go_wp2
    exact bodyPost_ret (v := .int .i64 2) (by simp [results, Tryz.results99, go_sem]) rfl (Or.inl ⟨h1, EdR.pre ⟨rfl, unhide H2⟩ (unhide HEW)⟩)
  · have H2 := hide h2
    clear h2 HP'
    go_wp2
    exact bodyPost_ret (v := .int .i64 1) (by simp [results, Tryz.results99, go_sem]) rfl (Or.inr ⟨h1, EdR.pre ⟨rfl, unhide H2⟩ (unhide HEW)⟩)
end
end Go.Proofs.YtokjpnlmkecleaaGreatDoor

namespace Go.Proofs.YtokjpnlmkecleaaGreatDoor
open Go.RowKit

section
variable {P base : Nat} {W : World} {a b c : ByteArray} {u : Value} {qs : List Nat} {un : List (ByteArray × ByteArray)} {cl rl rr : List Value}
theorem press_1 (h : LnOk a b c un) (e0 : Ed0 P base W c u qs un (cutC (baL a)) (cutC (baL b)) cl rl rr) (rv : Value) (rs : List Int) (hr : IntsAt W .i32 rv rs) (iR : I32s rs) (zR : rs.length ≤ 1048576) (hT : ∀ W', Fr (fun x => x = P ∨ base ≤ x) W W' → Laid W') :
    Calls Tryz.prog 28 #[.pointer (some ⟨P, 0, none⟩), .agg #[.int .i64 1, rv]] W fun e w' => ∃ d, e = .returned (.int .i64 d) ∧ Done (edF a b c un 1 rs) P base W d w' := by
  have ef : edF a b c un 1 rs = edPut a b c un rs := by simp [edF]
  have key : ∀ o : LD, edF a b c un 1 rs = o → ∀ (w w' : World) (e : Ending), Ext W w → (∃ d, e = .returned (.int .i64 d) ∧ Done o P base w d w') → ∃ d, e = .returned (.int .i64 d) ∧ Done (edF a b c un 1 rs) P base W d w' := by
    rintro o rfl w w' e E ⟨d, h1, h2⟩
    exact ⟨d, h1, h2.pre E⟩
  have hz : (cleanL (baL a)).length ≤ 1048576 := by have := h.nab; omega
  have fb : flat (clusC (cleanL (baL b))) = cleanL (baL b) := settled_flat h.sb
  have ea : toBA (textC (clusC (cleanL (baL a)))) = a := h.ea
  have eb : toBA (textC (clusC (cleanL (baL b)))) = b := h.eb
  refine press_hit 87 (fun _ _ => by kernel_rfl) (.pointer (some ⟨P, 0, none⟩)) P 1 rv W rfl (Done (edF a b c un 1 rs) P base W) (fun w E => ?_)
  by_cases h0 : rs.length = 0
  · obtain ⟨ra, rc, rfl, _⟩ := id hr
    rw [h0]
    refine (edWrite_no 1 ra rc (e0.ext E)).mono ?_
    intro e1 w' r
    refine key ⟨a, b, c, un, 0⟩ (ef.trans ?_) w w' e1 E (Done.of (o := ⟨a, b, c, un, 0⟩) r h.ea h.eb h.smA h.smB h.n)
    rw [edPut, if_pos h0]
  · refine (edWrite_yes (cleanL (baL a)) (cleanL (baL b)) hz 1 rv rs (by omega) (hr.ext E) iR zR (fun W' f => hT W' ((Fr.of_ext E).tr f)) (e0.ext E)).mono ?_
    rw [fb, ea, eb]
    rintro e1 w' (⟨h1, r⟩ | ⟨h1, r⟩)
    · refine key ⟨a, b, c, un, 2⟩ (ef.trans ?_) w w' e1 E (Done.of (o := ⟨a, b, c, un, 2⟩) r h.ea h.eb h.smA h.smB h.n)
      rw [edPut, if_neg h0, if_pos h1]
    · refine key (edSet a b c un (toBA (textC (clusC (cleanL (baL a) ++ rs)))) b) (ef.trans ?_) w w' e1 E (Done.of (o := edSet a b c un (toBA (textC (clusC (cleanL (baL a) ++ rs)))) b) r rfl eb (flat_sm (by omega)) h.smB (h.un50 _))
      rw [edPut, if_neg h0, if_neg (by omega)]
theorem press_2 (h : LnOk a b c un) (e0 : Ed0 P base W c u qs un (cutC (baL a)) (cutC (baL b)) cl rl rr) (rv : Value) (rs : List Int) (hr : IntsAt W .i32 rv rs) (iR : I32s rs) (zR : rs.length ≤ 1048576) (hT : ∀ W', Fr (fun x => x = P ∨ base ≤ x) W W' → Laid W') :
    Calls Tryz.prog 28 #[.pointer (some ⟨P, 0, none⟩), .agg #[.int .i64 2, rv]] W fun e w' => ∃ d, e = .returned (.int .i64 d) ∧ Done (edF a b c un 2 rs) P base W d w' := by
  have ef : edF a b c un 2 rs = edPut a b c un rs := by simp [edF]
  have key : ∀ o : LD, edF a b c un 2 rs = o → ∀ (w w' : World) (e : Ending), Ext W w → (∃ d, e = .returned (.int .i64 d) ∧ Done o P base w d w') → ∃ d, e = .returned (.int .i64 d) ∧ Done (edF a b c un 2 rs) P base W d w' := by
    rintro o rfl w w' e E ⟨d, h1, h2⟩
    exact ⟨d, h1, h2.pre E⟩
  have hz : (cleanL (baL a)).length ≤ 1048576 := by have := h.nab; omega
  have fb : flat (clusC (cleanL (baL b))) = cleanL (baL b) := settled_flat h.sb
  have ea : toBA (textC (clusC (cleanL (baL a)))) = a := h.ea
  have eb : toBA (textC (clusC (cleanL (baL b)))) = b := h.eb
  refine press_hit 87 (fun _ _ => by kernel_rfl) (.pointer (some ⟨P, 0, none⟩)) P 2 rv W rfl (Done (edF a b c un 2 rs) P base W) (fun w E => ?_)
  by_cases h0 : rs.length = 0
  · obtain ⟨ra, rc, rfl, _⟩ := id hr
    rw [h0]
    refine (edWrite_no 2 ra rc (e0.ext E)).mono ?_
    intro e1 w' r
    refine key ⟨a, b, c, un, 0⟩ (ef.trans ?_) w w' e1 E (Done.of (o := ⟨a, b, c, un, 0⟩) r h.ea h.eb h.smA h.smB h.n)
    rw [edPut, if_pos h0]
  · refine (edWrite_yes (cleanL (baL a)) (cleanL (baL b)) hz 2 rv rs (by omega) (hr.ext E) iR zR (fun W' f => hT W' ((Fr.of_ext E).tr f)) (e0.ext E)).mono ?_
    rw [fb, ea, eb]
    rintro e1 w' (⟨h1, r⟩ | ⟨h1, r⟩)
    · refine key ⟨a, b, c, un, 2⟩ (ef.trans ?_) w w' e1 E (Done.of (o := ⟨a, b, c, un, 2⟩) r h.ea h.eb h.smA h.smB h.n)
      rw [edPut, if_neg h0, if_pos h1]
    · refine key (edSet a b c un (toBA (textC (clusC (cleanL (baL a) ++ rs)))) b) (ef.trans ?_) w w' e1 E (Done.of (o := edSet a b c un (toBA (textC (clusC (cleanL (baL a) ++ rs)))) b) r rfl eb (flat_sm (by omega)) h.smB (h.un50 _))
      rw [edPut, if_neg h0, if_neg (by omega)]
theorem press_4 (h : LnOk a b c un) (e0 : Ed0 P base W c u qs un (cutC (baL a)) (cutC (baL b)) cl rl rr) (rv : Value) (rs : List Int) :
    Calls Tryz.prog 28 #[.pointer (some ⟨P, 0, none⟩), .agg #[.int .i64 4, rv]] W fun e w' => ∃ d, e = .returned (.int .i64 d) ∧ Done (edF a b c un 4 rs) P base W d w' := by
  have ef : edF a b c un 4 rs = edBack a b c un := by simp [edF]
  have key : ∀ o : LD, edF a b c un 4 rs = o → ∀ (w w' : World) (e : Ending), Ext W w → (∃ d, e = .returned (.int .i64 d) ∧ Done o P base w d w') → ∃ d, e = .returned (.int .i64 d) ∧ Done (edF a b c un 4 rs) P base W d w' := by
    rintro o rfl w w' e E ⟨d, h1, h2⟩
    exact ⟨d, h1, h2.pre E⟩
  refine press_hit 88 (fun _ _ => by kernel_rfl) (.pointer (some ⟨P, 0, none⟩)) P 4 rv W rfl (Done (edF a b c un 4 rs) P base W) (fun w E => ?_)
  rcases snoc_or (cutC (baL a)) with e | ⟨A1, x, e⟩
  · refine (edBack_no 4 rv (by have := e0.ext E; rw [e] at this; exact this)).mono ?_
    intro e1 w' r
    rw [← e] at r
    refine key ⟨a, b, c, un, 2⟩ (ef.trans ?_) w w' e1 E (Done.of (o := ⟨a, b, c, un, 2⟩) r h.ea h.eb h.smA h.smB h.n)
    rw [edBack, e]
    rfl
  · refine (edBack_yes (A := A1) x 4 rv (by have := e0.ext E; rw [e] at this; exact this)).mono ?_
    intro e1 w' r
    have sA := h.smA
    have ea := h.ea
    rw [e] at sA ea
    rw [ea, h.eb] at r
    refine key (edSet a b c un (toBA (textC A1)) b) (ef.trans ?_) w w' e1 E (Done.of (o := edSet a b c un (toBA (textC A1)) b) r rfl h.eb sA.left h.smB (h.un50 _))
    rw [edBack, e, if_neg (by simp)]
    simp
theorem press_5 (h : LnOk a b c un) (e0 : Ed0 P base W c u qs un (cutC (baL a)) (cutC (baL b)) cl rl rr) (rv : Value) (rs : List Int) :
    Calls Tryz.prog 28 #[.pointer (some ⟨P, 0, none⟩), .agg #[.int .i64 5, rv]] W fun e w' => ∃ d, e = .returned (.int .i64 d) ∧ Done (edF a b c un 5 rs) P base W d w' := by
  have ef : edF a b c un 5 rs = edDel a b c un := by simp [edF]
  have key : ∀ o : LD, edF a b c un 5 rs = o → ∀ (w w' : World) (e : Ending), Ext W w → (∃ d, e = .returned (.int .i64 d) ∧ Done o P base w d w') → ∃ d, e = .returned (.int .i64 d) ∧ Done (edF a b c un 5 rs) P base W d w' := by
    rintro o rfl w w' e E ⟨d, h1, h2⟩
    exact ⟨d, h1, h2.pre E⟩
  refine press_hit 89 (fun _ _ => by kernel_rfl) (.pointer (some ⟨P, 0, none⟩)) P 5 rv W rfl (Done (edF a b c un 5 rs) P base W) (fun w E => ?_)
  cases e : cutC (baL b) with
  | nil =>
    by_cases ha : cutC (baL a) = []
    · refine (edDel_end 5 rv (by have := e0.ext E; rw [e, ha] at this; exact this)).mono ?_
      intro e1 w' r
      have r2 : EdR P base w w' c un (cutC (baL a)) (cutC (baL b)) 8 e1 := by rw [ha, e]; exact r
      refine key ⟨a, b, c, un, 8⟩ (ef.trans ?_) w w' e1 E (Done.of (o := ⟨a, b, c, un, 8⟩) r2 h.ea h.eb h.smA h.smB h.n)
      rw [edDel, e, ha]
      rfl
    · refine (edDel_no (A := cutC (baL a)) (List.length_pos_iff.2 ha) 5 rv (by have := e0.ext E; rw [e] at this; exact this)).mono ?_
      intro e1 w' r
      rw [← e] at r
      refine key ⟨a, b, c, un, 2⟩ (ef.trans ?_) w w' e1 E (Done.of (o := ⟨a, b, c, un, 2⟩) r h.ea h.eb h.smA h.smB h.n)
      rw [edDel, e, if_pos (by simp), if_neg (by simpa using ha)]
  | cons x B2 =>
    refine (edDel_yes (A := cutC (baL a)) (B := B2) x 5 rv (by have := e0.ext E; rw [e] at this; exact this)).mono ?_
    intro e1 w' r
    have sB := h.smB
    have eb := h.eb
    rw [e] at sB eb
    have e9 : [x] ++ B2 = x :: B2 := rfl
    rw [e9, eb, h.ea] at r
    refine key (edSet a b c un a (toBA (textC B2))) (ef.trans ?_) w w' e1 E (Done.of (o := edSet a b c un a (toBA (textC B2))) r h.ea rfl h.smA (SmC.right (A := [x]) sB) (h.un50 _))
    rw [edDel, e, if_neg (by simp)]
    rfl
theorem press_12 (h : LnOk a b c un) (e0 : Ed0 P base W c u qs un (cutC (baL a)) (cutC (baL b)) cl rl rr) (rv : Value) (rs : List Int) :
    Calls Tryz.prog 28 #[.pointer (some ⟨P, 0, none⟩), .agg #[.int .i64 12, rv]] W fun e w' => ∃ d, e = .returned (.int .i64 d) ∧ Done (edF a b c un 12 rs) P base W d w' := by
  have ef : edF a b c un 12 rs = edKe a b c un := by simp [edF]
  have key : ∀ o : LD, edF a b c un 12 rs = o → ∀ (w w' : World) (e : Ending), Ext W w → (∃ d, e = .returned (.int .i64 d) ∧ Done o P base w d w') → ∃ d, e = .returned (.int .i64 d) ∧ Done (edF a b c un 12 rs) P base W d w' := by
    rintro o rfl w w' e E ⟨d, h1, h2⟩
    exact ⟨d, h1, h2.pre E⟩
  refine press_hit 96 (fun _ _ => by kernel_rfl) (.pointer (some ⟨P, 0, none⟩)) P 12 rv W rfl (Done (edF a b c un 12 rs) P base W) (fun w E => ?_)
  by_cases e : cutC (baL b) = []
  · refine (edKillEnd_no 12 rv (by have := e0.ext E; rw [e] at this; exact this)).mono ?_
    intro e1 w' r
    rw [← e] at r
    refine key ⟨a, b, c, un, 2⟩ (ef.trans ?_) w w' e1 E (Done.of (o := ⟨a, b, c, un, 2⟩) r h.ea h.eb h.smA h.smB h.n)
    rw [edKe, e]
    rfl
  · refine (edKillEnd_yes 12 rv (List.length_pos_iff.2 e) e0.cb (e0.ext E)).mono ?_
    intro e1 w' r
    rw [h.ea, h.eb] at r
    refine key ⟨a, noT, b, undoN un (a, b), 1⟩ (ef.trans ?_) w w' e1 E (Done.of (o := ⟨a, noT, b, undoN un (a, b), 1⟩) r h.ea rfl h.smA (fun c hc => absurd hc (by simp)) (h.un50 _))
    rw [edKe, if_neg (by simpa using e)]
theorem press_13 (h : LnOk a b c un) (e0 : Ed0 P base W c u qs un (cutC (baL a)) (cutC (baL b)) cl rl rr) (rv : Value) (rs : List Int) :
    Calls Tryz.prog 28 #[.pointer (some ⟨P, 0, none⟩), .agg #[.int .i64 13, rv]] W fun e w' => ∃ d, e = .returned (.int .i64 d) ∧ Done (edF a b c un 13 rs) P base W d w' := by
  have ef : edF a b c un 13 rs = edKs a b c un := by simp [edF]
  have key : ∀ o : LD, edF a b c un 13 rs = o → ∀ (w w' : World) (e : Ending), Ext W w → (∃ d, e = .returned (.int .i64 d) ∧ Done o P base w d w') → ∃ d, e = .returned (.int .i64 d) ∧ Done (edF a b c un 13 rs) P base W d w' := by
    rintro o rfl w w' e E ⟨d, h1, h2⟩
    exact ⟨d, h1, h2.pre E⟩
  refine press_hit 97 (fun _ _ => by kernel_rfl) (.pointer (some ⟨P, 0, none⟩)) P 13 rv W rfl (Done (edF a b c un 13 rs) P base W) (fun w E => ?_)
  by_cases e : cutC (baL a) = []
  · refine (edKillStart_no 13 rv (by have := e0.ext E; rw [e] at this; exact this)).mono ?_
    intro e1 w' r
    rw [← e] at r
    refine key ⟨a, b, c, un, 2⟩ (ef.trans ?_) w w' e1 E (Done.of (o := ⟨a, b, c, un, 2⟩) r h.ea h.eb h.smA h.smB h.n)
    rw [edKs, e]
    rfl
  · refine (edKillStart_yes 13 rv (List.length_pos_iff.2 e) e0.ca (e0.ext E)).mono ?_
    intro e1 w' r
    rw [h.ea, h.eb] at r
    refine key ⟨noT, b, a, undoN un (a, b), 1⟩ (ef.trans ?_) w w' e1 E (Done.of (o := ⟨noT, b, a, undoN un (a, b), 1⟩) r rfl h.eb (fun c hc => absurd hc (by simp)) h.smB (h.un50 _))
    rw [edKs, if_neg (by simpa using e)]
theorem press_14 (h : LnOk a b c un) (e0 : Ed0 P base W c u qs un (cutC (baL a)) (cutC (baL b)) cl rl rr) (rv : Value) (rs : List Int) :
    Calls Tryz.prog 28 #[.pointer (some ⟨P, 0, none⟩), .agg #[.int .i64 14, rv]] W fun e w' => ∃ d, e = .returned (.int .i64 d) ∧ Done (edF a b c un 14 rs) P base W d w' := by
  have ef : edF a b c un 14 rs = edKw a b c un := by simp [edF]
  have key : ∀ o : LD, edF a b c un 14 rs = o → ∀ (w w' : World) (e : Ending), Ext W w → (∃ d, e = .returned (.int .i64 d) ∧ Done o P base w d w') → ∃ d, e = .returned (.int .i64 d) ∧ Done (edF a b c un 14 rs) P base W d w' := by
    rintro o rfl w w' e E ⟨d, h1, h2⟩
    exact ⟨d, h1, h2.pre E⟩
  have hw := wd_ex (fun j => spB (cR (cutC (baL a)) ((cutC (baL a)).length - 1 - j))) (cutC (baL a)).length
  have hle := hw.le
  obtain ⟨r, hr⟩ : ∃ r, wdL (cutC (baL a)) = r := ⟨_, rfl⟩
  rw [show wdN (fun j => spB (cR (cutC (baL a)) ((cutC (baL a)).length - 1 - j))) (cutC (baL a)).length = r from hr] at hw hle
  refine press_hit 98 (fun _ _ => by kernel_rfl) (.pointer (some ⟨P, 0, none⟩)) P 14 rv W rfl (Done (edF a b c un 14 rs) P base W) (fun w E => ?_)
  by_cases h0 : r = 0
  · subst h0
    refine (edKillWord_no 14 rv hw (e0.ext E)).mono ?_
    intro e1 w' r
    refine key ⟨a, b, c, un, 2⟩ (ef.trans ?_) w w' e1 E (Done.of (o := ⟨a, b, c, un, 2⟩) r h.ea h.eb h.smA h.smB h.n)
    rw [edKw, if_pos hr]
  · have hs : (cutC (baL a)).take ((cutC (baL a)).length - r) ++ (cutC (baL a)).drop ((cutC (baL a)).length - r) = cutC (baL a) := List.take_append_drop _ _
    have hl : ((cutC (baL a)).drop ((cutC (baL a)).length - r)).length = r := by rw [List.length_drop]; omega
    obtain ⟨A1, hA1⟩ : ∃ x, x = (cutC (baL a)).take ((cutC (baL a)).length - r) := ⟨_, rfl⟩
    obtain ⟨A2, hA2⟩ : ∃ x, x = (cutC (baL a)).drop ((cutC (baL a)).length - r) := ⟨_, rfl⟩
    have eo : edKw a b c un = ⟨toBA (textC A1), b, toBA (textC A2), undoN un (a, b), 1⟩ := by rw [edKw, if_neg (by omega), hr, hA1, hA2]
    rw [← hA1, ← hA2] at hs
    rw [← hA2] at hl
    have sA := h.smA
    have ea := h.ea
    rw [← hs] at sA ea hw
    refine (edKillWord_yes (A1 := A1) (A2 := A2) 14 rv (by rw [hl]; exact hw) (by omega) (sA.right.ck (by have := congrArg List.length hs; have := e0.fit; simp at *; omega)) (by have := e0.ext E; rw [← hs] at this; exact this)).mono ?_
    intro e1 w' q
    rw [ea, h.eb] at q
    exact key ⟨toBA (textC A1), b, toBA (textC A2), undoN un (a, b), 1⟩ (ef.trans eo) w w' e1 E (Done.of (o := ⟨toBA (textC A1), b, toBA (textC A2), undoN un (a, b), 1⟩) q rfl h.eb sA.left h.smB (h.un50 _))
theorem press_15 (h : LnOk a b c un) (e0 : Ed0 P base W c u qs un (cutC (baL a)) (cutC (baL b)) cl rl rr) (rv : Value) (rs : List Int) (hT : ∀ W', Fr (fun x => x = P ∨ base ≤ x) W W' → Laid W') :
    Calls Tryz.prog 28 #[.pointer (some ⟨P, 0, none⟩), .agg #[.int .i64 15, rv]] W fun e w' => ∃ d, e = .returned (.int .i64 d) ∧ Done (edF a b c un 15 rs) P base W d w' := by
  have ef : edF a b c un 15 rs = edYank a b c un := by simp [edF]
  have key : ∀ o : LD, edF a b c un 15 rs = o → ∀ (w w' : World) (e : Ending), Ext W w → (∃ d, e = .returned (.int .i64 d) ∧ Done o P base w d w') → ∃ d, e = .returned (.int .i64 d) ∧ Done (edF a b c un 15 rs) P base W d w' := by
    rintro o rfl w w' e E ⟨d, h1, h2⟩
    exact ⟨d, h1, h2.pre E⟩
  have hz : (cleanL (baL a)).length ≤ 1048576 := by have := h.nab; omega
  have fb : flat (clusC (cleanL (baL b))) = cleanL (baL b) := settled_flat h.sb
  have ea : toBA (textC (clusC (cleanL (baL a)))) = a := h.ea
  have eb : toBA (textC (clusC (cleanL (baL b)))) = b := h.eb
  obtain ⟨yt, yf⟩ := yank_text h.sa h.sc
  refine press_hit 99 (fun _ _ => by kernel_rfl) (.pointer (some ⟨P, 0, none⟩)) P 15 rv W rfl (Done (edF a b c un 15 rs) P base W) (fun w E => ?_)
  by_cases h0 : (baL c).length = 0
  · have hc : c = { data := #[] } := by rw [← toBA_baL c, List.eq_nil_of_length_eq_zero h0]; rfl
    refine (show Calls _ _ _ _ _ from (by rw [hc] at e0; exact edYank_no 15 rv (e0.ext E))).mono ?_
    intro e1 w' r
    rw [← hc] at r
    refine key ⟨a, b, c, un, 2⟩ (ef.trans ?_) w w' e1 E (Done.of (o := ⟨a, b, c, un, 2⟩) r h.ea h.eb h.smA h.smB h.n)
    rw [edYank, if_pos h0]
  · have hx := edYank_yes (cleanL (baL a)) (cleanL (baL b)) hz 15 rv (baL c) (baL_bytes c) (by omega) (by rw [baL_len]; exact h.zc) (fun W' f => hT W' ((Fr.of_ext E).tr f)) (by rw [toBA_baL]; exact e0.ext E)
    rw [toBA_baL] at hx
    refine hx.mono ?_
    rw [fb, ea, eb, yf, List.length_append]
    rintro e1 w' (⟨h1, r⟩ | ⟨h1, r⟩)
    · refine key ⟨a, b, c, un, 2⟩ (ef.trans ?_) w w' e1 E (Done.of (o := ⟨a, b, c, un, 2⟩) r h.ea h.eb h.smA h.smB h.n)
      rw [edYank, if_neg h0, if_pos h1]
    · refine key (edSet a b c un (toBA (baL a ++ baL c)) b) (ef.trans ?_) w w' e1 E (Done.of (o := edSet a b c un (toBA (baL a ++ baL c)) b) r (by rw [yt]; rfl) eb (flat_sm (by rw [yf, List.length_append]; omega)) h.smB (h.un50 _))
      rw [edYank, if_neg h0, if_neg (by omega)]
theorem press_16 (h : LnOk a b c un) (e0 : Ed0 P base W c u qs un (cutC (baL a)) (cutC (baL b)) cl rl rr) (rv : Value) (rs : List Int) :
    Calls Tryz.prog 28 #[.pointer (some ⟨P, 0, none⟩), .agg #[.int .i64 16, rv]] W fun e w' => ∃ d, e = .returned (.int .i64 d) ∧ Done (edF a b c un 16 rs) P base W d w' := by
  have ef : edF a b c un 16 rs = edSwap a b c un := by simp [edF]
  have key : ∀ o : LD, edF a b c un 16 rs = o → ∀ (w w' : World) (e : Ending), Ext W w → (∃ d, e = .returned (.int .i64 d) ∧ Done o P base w d w') → ∃ d, e = .returned (.int .i64 d) ∧ Done (edF a b c un 16 rs) P base W d w' := by
    rintro o rfl w w' e E ⟨d, h1, h2⟩
    exact ⟨d, h1, h2.pre E⟩
  refine press_hit 100 (fun _ _ => by kernel_rfl) (.pointer (some ⟨P, 0, none⟩)) P 16 rv W rfl (Done (edF a b c un 16 rs) P base W) (fun w E => ?_)
  by_cases hn : (cutC (baL a)).length = 0 ∨ (cutC (baL a)).length + (cutC (baL b)).length < 2
  · refine (edSwap_no 16 rv hn (e0.ext E)).mono ?_
    intro e1 w' r
    refine key ⟨a, b, c, un, 2⟩ (ef.trans ?_) w w' e1 E (Done.of (o := ⟨a, b, c, un, 2⟩) r h.ea h.eb h.smA h.smB h.n)
    rw [edSwap, if_neg (by omega), if_neg (by omega)]
  · rcases snoc_or (cutC (baL a)) with e | ⟨A1, y, e⟩
    · rw [e] at hn
      simp at hn
    have sA := h.smA
    have ea := h.ea
    have f0 := e0.ext E
    rw [e] at sA ea f0 hn
    cases eB : cutC (baL b) with
    | nil =>
      rw [eB] at hn f0
      rcases snoc_or A1 with e2 | ⟨A0, x, e2⟩
      · rw [e2] at hn
        simp at hn
      · subst e2
        have e3 : A0 ++ [x] ++ [y] = A0 ++ [x, y] := by simp
        rw [e3] at sA ea f0 e
        refine (edSwap_end 16 rv f0).mono ?_
        intro e1 w' r
        have hb9 : toBA (textC ([] : List (List Int × Int))) = b := by rw [← eB]; exact h.eb
        rw [ea, hb9] at r
        have r2 : EdR P base w w' c (undoN un (a, b)) (A0 ++ [y, x]) (cutC (baL b)) 1 e1 := by rw [eB]; exact r
        have so : SmC (A0 ++ [y, x]) := sA.left.app (fun c hc => sA.right c (by simp at hc ⊢; exact hc.symm))
        refine key (edSet a b c un (toBA (textC (A0 ++ [y, x]))) b) (ef.trans ?_) w w' e1 E (Done.of (o := edSet a b c un (toBA (textC (A0 ++ [y, x]))) b) r2 rfl h.eb so h.smB (h.un50 _))
        have hb0 : b = noT := by rw [← h.eb, eB]; rfl
        have e4 : textC (A0 ++ [y, x]) = textC A0 ++ textC [y] ++ textC [x] := by rw [← textC_app, ← textC_app]; simp
        rw [edSwap, eB, e, if_neg (by simp), if_pos (by simp), e4, hb0]
        have d1 : (A0 ++ [x, y]).take ((A0 ++ [x, y]).length - 2) = A0 := by simp
        have d2 : (A0 ++ [x, y]).drop ((A0 ++ [x, y]).length - 1) = [y] := by
          rw [← e3, show (A0 ++ [x] ++ [y]).length - 1 = (A0 ++ [x]).length by simp, List.drop_left]
        have d3 : ((A0 ++ [x, y]).take ((A0 ++ [x, y]).length - 1)).drop ((A0 ++ [x, y]).length - 2) = [x] := by
          rw [← e3, show (A0 ++ [x] ++ [y]).length - 1 = (A0 ++ [x]).length by simp, List.take_left, show (A0 ++ [x] ++ [y]).length - 2 = A0.length by simp, List.drop_left]
        rw [d1, d2, d3]
    | cons y2 B2 =>
      rw [eB] at f0
      have sB := h.smB
      have eb := h.eb
      rw [eB] at sB eb
      refine (edSwap_mid (A1 := A1) (B := B2) (x := y) (y := y2) 16 rv f0).mono ?_
      intro e1 w' r
      have e9 : [y2] ++ B2 = y2 :: B2 := rfl
      rw [ea, e9, eb] at r
      have so : SmC (A1 ++ [y2, y]) := sA.left.app (fun c hc => by
        simp at hc
        rcases hc with rfl | rfl
        · exact sB _ (by simp)
        · exact sA.right _ (by simp))
      refine key (edSet a b c un (toBA (textC (A1 ++ [y2, y]))) (toBA (textC B2))) (ef.trans ?_) w w' e1 E (Done.of (o := edSet a b c un (toBA (textC (A1 ++ [y2, y]))) (toBA (textC B2))) r rfl rfl so (SmC.right (A := [y2]) sB) (h.un50 _))
      have e4 : textC (A1 ++ [y2, y]) = textC A1 ++ textC [y2] ++ textC [y] := by rw [← textC_app, ← textC_app]; simp
      have d1 : (A1 ++ [y]).take ((A1 ++ [y]).length - 1) = A1 := by simp
      have d2 : (A1 ++ [y]).drop ((A1 ++ [y]).length - 1) = [y] := by rw [show (A1 ++ [y]).length - 1 = A1.length by simp, List.drop_left]
      rw [edSwap, eB, e, if_pos (by simp), e4, d1, d2]
      rfl
theorem press_17 (h : LnOk a b c un) (e0 : Ed0 P base W c u qs un (cutC (baL a)) (cutC (baL b)) cl rl rr) (rv : Value) (rs : List Int) (hT : ∀ W', Fr (fun x => x = P ∨ base ≤ x) W W' → Laid W') :
    Calls Tryz.prog 28 #[.pointer (some ⟨P, 0, none⟩), .agg #[.int .i64 17, rv]] W fun e w' => ∃ d, e = .returned (.int .i64 d) ∧ Done (edF a b c un 17 rs) P base W d w' := by
  have ef : edF a b c un 17 rs = edUndo a b c un := by simp [edF]
  have key : ∀ o : LD, edF a b c un 17 rs = o → ∀ (w w' : World) (e : Ending), Ext W w → (∃ d, e = .returned (.int .i64 d) ∧ Done o P base w d w') → ∃ d, e = .returned (.int .i64 d) ∧ Done (edF a b c un 17 rs) P base W d w' := by
    rintro o rfl w w' e E ⟨d, h1, h2⟩
    exact ⟨d, h1, h2.pre E⟩
  refine press_hit 101 (fun _ _ => by kernel_rfl) (.pointer (some ⟨P, 0, none⟩)) P 17 rv W rfl (Done (edF a b c un 17 rs) P base W) (fun w E => ?_)
  by_cases h0 : un.length = 0
  · obtain rfl : un = [] := List.eq_nil_of_length_eq_zero h0
    refine (edUndo_no 17 rv (e0.ext E)).mono ?_
    intro e1 w' r
    refine key ⟨a, b, c, [], 2⟩ (ef.trans ?_) w w' e1 E (Done.of (o := ⟨a, b, c, [], 2⟩) r h.ea h.eb h.smA h.smB h.n)
    rw [edUndo, if_pos h0]
  · obtain ⟨s, hs⟩ : ∃ s, un[un.length - 1]? = some s := ⟨un[un.length - 1]'(by omega), by simp⟩
    have hm : s ∈ un := List.mem_of_getElem? hs
    obtain ⟨s1, s2, s3⟩ := h.us s hm
    obtain ⟨z1, z2⟩ := h.zu s hm
    have l1 := cut_len (baL s.1)
    have l2 := cut_len (baL s.2)
    refine (edUndo_yes s hs (by omega) (by omega) (by omega) (fun W' f => hT W' ((Fr.of_ext E).tr f)) 17 rv (e0.ext E)).mono ?_
    intro e1 w' r
    refine key ⟨s.1, s.2, c, un.take (un.length - 1), 1⟩ (ef.trans ?_) w w' e1 E (Done.of (o := ⟨s.1, s.2, c, un.take (un.length - 1), 1⟩) r (by rw [show textC (cutC (baL s.1)) = baL s.1 from s1, toBA_baL]) (by rw [show textC (cutC (baL s.2)) = baL s.2 from s2, toBA_baL]) (cut_sm (by omega)) (cut_sm (by omega)) (by simp; have := h.n; omega))
    rw [edUndo, if_neg h0, lnT_at hs, lnH_at hs]
end
end Go.Proofs.YtokjpnlmkecleaaGreatDoor

namespace Go.Proofs.YtokjpnlmkecleaaGreatDoor
open Go.RowKit

set_option maxRecDepth 10000 in
set_option maxHeartbeats 4000000 in
theorem to_any (d kd : Int) (rv : Value) (W : World) :
    Calls Tryz.prog 102 #[.int .i64 d, .agg #[.int .i64 kd, rv]] W fun e w' => e = .returned (.int .i64 d) ∧ Ext W w' := by
  have H0 := hide ((Ext.refl W).alloc (.cells #[.int .i64 kd, rv] 28))
  go_enter Tryz.func102, Tryz.ntmps102
  go_wp2
  exact bodyPost_ret (v := .int .i64 d) (by simp [results, Tryz.results102, go_sem]) rfl ⟨rfl, unhide H0⟩
section
variable {P base : Nat} {W : World} {a b c : ByteArray} {u : Value} {qs : List Nat} {un : List (ByteArray × ByteArray)} {cl rl rr : List Value}
theorem press_3 (h : LnOk a b c un) (e0 : Ed0 P base W c u qs un (cutC (baL a)) (cutC (baL b)) cl rl rr) (rv : Value) (rs : List Int) :
    Calls Tryz.prog 28 #[.pointer (some ⟨P, 0, none⟩), .agg #[.int .i64 3, rv]] W fun e w' => ∃ d, e = .returned (.int .i64 d) ∧ Done (edF a b c un 3 rs) P base W d w' := by
  have ef : edF a b c un 3 rs = ⟨a, b, c, un, 3⟩ := by simp [edF]
  have key : ∀ o : LD, edF a b c un 3 rs = o → ∀ (w w' : World) (e : Ending), Ext W w → (∃ d, e = .returned (.int .i64 d) ∧ Done o P base w d w') → ∃ d, e = .returned (.int .i64 d) ∧ Done (edF a b c un 3 rs) P base W d w' := by
    rintro o rfl w w' e E ⟨d, h1, h2⟩
    exact ⟨d, h1, h2.pre E⟩
  refine press_hit 102 (fun _ _ => by kernel_rfl) (.int .i64 3) P 3 rv W rfl (Done (edF a b c un 3 rs) P base W) (fun w E => ?_)
  refine (to_any 3 3 rv w).mono ?_
  rintro e1 w' ⟨rfl, E1⟩
  exact key _ ef w w' _ E (Done.of (o := ⟨a, b, c, un, 3⟩) ((e0.ext E).same E1 3) h.ea h.eb h.smA h.smB h.n)
theorem press_21 (h : LnOk a b c un) (e0 : Ed0 P base W c u qs un (cutC (baL a)) (cutC (baL b)) cl rl rr) (rv : Value) (rs : List Int) :
    Calls Tryz.prog 28 #[.pointer (some ⟨P, 0, none⟩), .agg #[.int .i64 21, rv]] W fun e w' => ∃ d, e = .returned (.int .i64 d) ∧ Done (edF a b c un 21 rs) P base W d w' := by
  have ef : edF a b c un 21 rs = ⟨a, b, c, un, 4⟩ := by simp [edF]
  have key : ∀ o : LD, edF a b c un 21 rs = o → ∀ (w w' : World) (e : Ending), Ext W w → (∃ d, e = .returned (.int .i64 d) ∧ Done o P base w d w') → ∃ d, e = .returned (.int .i64 d) ∧ Done (edF a b c un 21 rs) P base W d w' := by
    rintro o rfl w w' e E ⟨d, h1, h2⟩
    exact ⟨d, h1, h2.pre E⟩
  refine press_hit 102 (fun _ _ => by kernel_rfl) (.int .i64 4) P 21 rv W rfl (Done (edF a b c un 21 rs) P base W) (fun w E => ?_)
  refine (to_any 4 21 rv w).mono ?_
  rintro e1 w' ⟨rfl, E1⟩
  exact key _ ef w w' _ E (Done.of (o := ⟨a, b, c, un, 4⟩) ((e0.ext E).same E1 4) h.ea h.eb h.smA h.smB h.n)
theorem press_10 (h : LnOk a b c un) (e0 : Ed0 P base W c u qs un (cutC (baL a)) (cutC (baL b)) cl rl rr) (rv : Value) (rs : List Int) :
    Calls Tryz.prog 28 #[.pointer (some ⟨P, 0, none⟩), .agg #[.int .i64 10, rv]] W fun e w' => ∃ d, e = .returned (.int .i64 d) ∧ Done (edF a b c un 10 rs) P base W d w' := by
  have ef : edF a b c un 10 rs = ⟨a, b, c, un, 5⟩ := by simp [edF]
  have key : ∀ o : LD, edF a b c un 10 rs = o → ∀ (w w' : World) (e : Ending), Ext W w → (∃ d, e = .returned (.int .i64 d) ∧ Done o P base w d w') → ∃ d, e = .returned (.int .i64 d) ∧ Done (edF a b c un 10 rs) P base W d w' := by
    rintro o rfl w w' e E ⟨d, h1, h2⟩
    exact ⟨d, h1, h2.pre E⟩
  refine press_hit 102 (fun _ _ => by kernel_rfl) (.int .i64 5) P 10 rv W rfl (Done (edF a b c un 10 rs) P base W) (fun w E => ?_)
  refine (to_any 5 10 rv w).mono ?_
  rintro e1 w' ⟨rfl, E1⟩
  exact key _ ef w w' _ E (Done.of (o := ⟨a, b, c, un, 5⟩) ((e0.ext E).same E1 5) h.ea h.eb h.smA h.smB h.n)
theorem press_11 (h : LnOk a b c un) (e0 : Ed0 P base W c u qs un (cutC (baL a)) (cutC (baL b)) cl rl rr) (rv : Value) (rs : List Int) :
    Calls Tryz.prog 28 #[.pointer (some ⟨P, 0, none⟩), .agg #[.int .i64 11, rv]] W fun e w' => ∃ d, e = .returned (.int .i64 d) ∧ Done (edF a b c un 11 rs) P base W d w' := by
  have ef : edF a b c un 11 rs = ⟨a, b, c, un, 6⟩ := by simp [edF]
  have key : ∀ o : LD, edF a b c un 11 rs = o → ∀ (w w' : World) (e : Ending), Ext W w → (∃ d, e = .returned (.int .i64 d) ∧ Done o P base w d w') → ∃ d, e = .returned (.int .i64 d) ∧ Done (edF a b c un 11 rs) P base W d w' := by
    rintro o rfl w w' e E ⟨d, h1, h2⟩
    exact ⟨d, h1, h2.pre E⟩
  refine press_hit 102 (fun _ _ => by kernel_rfl) (.int .i64 6) P 11 rv W rfl (Done (edF a b c un 11 rs) P base W) (fun w E => ?_)
  refine (to_any 6 11 rv w).mono ?_
  rintro e1 w' ⟨rfl, E1⟩
  exact key _ ef w w' _ E (Done.of (o := ⟨a, b, c, un, 6⟩) ((e0.ext E).same E1 6) h.ea h.eb h.smA h.smB h.n)
theorem press_20 (h : LnOk a b c un) (e0 : Ed0 P base W c u qs un (cutC (baL a)) (cutC (baL b)) cl rl rr) (rv : Value) (rs : List Int) :
    Calls Tryz.prog 28 #[.pointer (some ⟨P, 0, none⟩), .agg #[.int .i64 20, rv]] W fun e w' => ∃ d, e = .returned (.int .i64 d) ∧ Done (edF a b c un 20 rs) P base W d w' := by
  have ef : edF a b c un 20 rs = ⟨a, b, c, un, 7⟩ := by simp [edF]
  have key : ∀ o : LD, edF a b c un 20 rs = o → ∀ (w w' : World) (e : Ending), Ext W w → (∃ d, e = .returned (.int .i64 d) ∧ Done o P base w d w') → ∃ d, e = .returned (.int .i64 d) ∧ Done (edF a b c un 20 rs) P base W d w' := by
    rintro o rfl w w' e E ⟨d, h1, h2⟩
    exact ⟨d, h1, h2.pre E⟩
  refine press_hit 102 (fun _ _ => by kernel_rfl) (.int .i64 7) P 20 rv W rfl (Done (edF a b c un 20 rs) P base W) (fun w E => ?_)
  refine (to_any 7 20 rv w).mono ?_
  rintro e1 w' ⟨rfl, E1⟩
  exact key _ ef w w' _ E (Done.of (o := ⟨a, b, c, un, 7⟩) ((e0.ext E).same E1 7) h.ea h.eb h.smA h.smB h.n)
theorem press_all (h : LnOk a b c un) (e0 : Ed0 P base W c u qs un (cutC (baL a)) (cutC (baL b)) cl rl rr) (kd : Int) (rv : Value) (rs : List Int) (hr : IntsAt W .i32 rv rs) (iR : I32s rs) (zR : rs.length ≤ 1048576) (hT : ∀ W', Fr (fun x => x = P ∨ base ≤ x) W W' → Laid W') :
    Calls Tryz.prog 28 #[.pointer (some ⟨P, 0, none⟩), .agg #[.int .i64 kd, rv]] W fun e w' => ∃ d, e = .returned (.int .i64 d) ∧ Done (edF a b c un kd rs) P base W d w' := by
  by_cases h1 : kd = 1
  · subst h1
    exact press_1 h e0 rv rs hr iR zR hT
  by_cases h2 : kd = 2
  · subst h2
    exact press_2 h e0 rv rs hr iR zR hT
  by_cases h3 : kd = 3
  · subst h3
    exact press_3 h e0 rv rs
  by_cases h4 : kd = 4
  · subst h4
    exact press_4 h e0 rv rs
  by_cases h5 : kd = 5
  · subst h5
    exact press_5 h e0 rv rs
  by_cases h6 : kd = 6
  · subst h6
    exact press_6 h e0 rv rs
  by_cases h7 : kd = 7
  · subst h7
    exact press_7 h e0 rv rs
  by_cases h8 : kd = 8
  · subst h8
    exact press_8 h e0 rv rs
  by_cases h9 : kd = 9
  · subst h9
    exact press_9 h e0 rv rs
  by_cases h10 : kd = 10
  · subst h10
    exact press_10 h e0 rv rs
  by_cases h11 : kd = 11
  · subst h11
    exact press_11 h e0 rv rs
  by_cases h12 : kd = 12
  · subst h12
    exact press_12 h e0 rv rs
  by_cases h13 : kd = 13
  · subst h13
    exact press_13 h e0 rv rs
  by_cases h14 : kd = 14
  · subst h14
    exact press_14 h e0 rv rs
  by_cases h15 : kd = 15
  · subst h15
    exact press_15 h e0 rv rs hT
  by_cases h16 : kd = 16
  · subst h16
    exact press_16 h e0 rv rs
  by_cases h17 : kd = 17
  · subst h17
    exact press_17 h e0 rv rs hT
  by_cases h18 : kd = 18
  · subst h18
    exact press_18 h e0 rv rs
  by_cases h19 : kd = 19
  · subst h19
    exact press_19 h e0 rv rs
  by_cases h20 : kd = 20
  · subst h20
    exact press_20 h e0 rv rs
  by_cases h21 : kd = 21
  · subst h21
    exact press_21 h e0 rv rs
  have ef : edF a b c un kd rs = ⟨a, b, c, un, 0⟩ := by simp [edF, h1, h2, h3, h4, h5, h6, h7, h8, h9, h10, h11, h12, h13, h14, h15, h16, h17, h18, h19, h20, h21]
  rw [ef]
  refine (press_miss P kd rv W (fun x hx e => ?_)).mono ?_
  · simp only [actL, List.mem_cons, List.not_mem_nil, or_false] at hx
    rcases hx with rfl | rfl | rfl | rfl | rfl | rfl | rfl | rfl | rfl | rfl | rfl | rfl | rfl | rfl | rfl | rfl | rfl | rfl | rfl | rfl | rfl <;> simp at e <;> omega
  · rintro e1 w' ⟨rfl, E1⟩
    exact Done.of (o := ⟨a, b, c, un, 0⟩) (e0.same E1 0) h.ea h.eb h.smA h.smB h.n
end
end Go.Proofs.YtokjpnlmkecleaaGreatDoor
