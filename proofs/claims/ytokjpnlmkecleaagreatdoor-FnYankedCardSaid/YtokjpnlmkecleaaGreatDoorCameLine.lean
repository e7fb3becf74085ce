import Derived.Test.YtokjpnlmkecleaaGreatDoorEdTf
import Derived.Test.YtokjpnlmkecleaaGreatDoorGap
import Derived.Deep.RegionHeld3
import Derived.Test.YtokjpnlmkecleaaGreatDoorEdPs
import Derived.Test.YtokjpnlmkecleaaGreatDoorU8s
import Derived.Test.YtokjpnlmkecleaaGreatDoorKys
namespace Go.Proofs.YtokjpnlmkecleaaGreatDoor
open Go.RowKit
section
variable {P base : Nat} {W : World} {k : ByteArray} {u : Value} {qs : List Nat} {un : List (ByteArray × ByteArray)} {cl rl rr : List Value}
set_option linter.unusedSimpArgs false in
set_option maxRecDepth 10000 in
set_option maxHeartbeats 8000000 in
theorem put_Z {B : List (List Int × Int)} (rv : Value) (rs : List Int) (hr : IntsAt W .i32 rv rs) (iR : I32s rs) (zR : rs.length ≤ 1048576) (hN : rs.length ≤ 8000000) (hT : ∀ W', Fr (fun x => x = P ∨ base ≤ x) W W' → Laid W') (hfit : (flat (clusC rs)).length + (flat B).length ≤ 300 → (clusC rs).length + B.length ≤ 300) (h : Ed0 P base W k u qs un [] B cl rl rr) :
    Calls Tryz.prog 118 #[.pointer (some ⟨P, 0, none⟩), rv] W fun e w' => (300 < (flat (clusC rs)).length + (flat B).length ∧ EdR P base W w' k un [] B 2 e) ∨ ((flat (clusC rs)).length + (flat B).length ≤ 300 ∧ EdR P base W w' k (undoN un (toBA (textC []), toBA (textC B))) (clusC rs) B 1 e) := by
  obtain ⟨ic, hic, hc0, hc1, hc2⟩ := info_parts infoI32u
  have hg := h.now
  have hl := h.len
  have hPl : P < W.heap.size := lt_of_block h.blk
  have hfb := h.fit
  have H1 := hide (edLeftOf h.two)
  have HR := hide (fun w (E : Ext W w) => edRightOf (h.ext E).two)
  have HCh := hide (fun w (E : Ext W w) => edChangeE h E)
  have H0 := hide (fun w (E : Ext W w) => h.same E 2)
  have HTk := hide (fun w u' un' (g : Ed2 P base W w k u' un' ([] ++ []) B cl rl rr) => edTakeF g)
  have HC2 : Hid (∀ w, Ext W w → ∀ c, ClsAt w (.slice (some ⟨P, 0, none⟩) 0 c) []) := hide (fun w _ c => ⟨[], _, c, rfl, Nat.zero_le _, fun j hj => absurd hj (Nat.not_lt_zero _), fun hp => absurd hp (Nat.not_lt_zero _)⟩)
  have HC1 := HC2
  have cB := h.cb
  have cA := h.ca
  have HR2 := hide (fun v w (hv : ClsAt w v []) => runesOf_any v [] w hv (by decide))
  have HR1 := hide (fun v w (hv : ClsAt w v []) => runesOf_any v [] w hv (by decide))
  have HRN := hide (fun v w (hv : ClsAt w v (clusC rs)) => runesOf_any v (clusC rs) w hv (clusC_fit _ hN))
  have HRB := hide (fun v w (hv : ClsAt w v B) => runesOf_any v B w hv cB.1)
  have HK := hide (fun v w (E : Ext W w) (hv : IntsAt w .i32 v rs) => implClusters_any v rs w hv iR (by omega) (hT w (Fr.of_ext E)))
  have HSr := hide (fun w (E : Ext W w) => Src.ints (hr.ext E))
  obtain ⟨ra, rc, rfl, _⟩ := id hr
  have hub : ∀ b, u.ownBlock = some b → b < W.heap.size := fun b hb => (h.bk.2.1.lt b hb).2
  have HUB := hide hub
  obtain ⟨fN, hfN⟩ : ∃ n, (flat (clusC rs)).length = n := ⟨_, rfl⟩
  obtain ⟨fB, hfB⟩ : ∃ n, (flat B).length = n := ⟨_, rfl⟩
  have zfN : fN ≤ 16777216 := by rw [← hfN, flat_len]; have := clusC_fit _ hN; omega
  have zfB : fB ≤ 16777216 := by rw [← hfB, flat_len]; have := cB.1; omega
  have HFN := hide hfN
  have HFB := hide hfB
  obtain ⟨fA, hfA⟩ : ∃ n, (flat ([] : List (List Int × Int))).length = n := ⟨_, rfl⟩
  have hfA0 : fA = 0 := hfA.symm
  have zfA : fA ≤ 16777216 := by omega
  have HFA := hide hfA
  have HFA0 := hide hfA0
  rw [hfN, hfB] at hfit ⊢
  have HFit := hide hfit
  have hwS : IntKind.i64.wrap ((fA : Int) + (fN : Int)) = (fA : Int) + (fN : Int) := by rw [IntKind.wrap_i64]; omega
  have hwT : IntKind.i64.wrap ((fA : Int) + (fN : Int) + (fB : Int)) = (fA : Int) + (fN : Int) + (fB : Int) := by rw [IntKind.wrap_i64]; omega
  clear h hg hfit hr hT iR cB cA hub hfN hfB hfA hfA0
  go_enter Tryz.func118, Tryz.ntmps118
  go_wp2_with fail
  refine (unhide H1).mono ?_
  rintro e w1 ⟨rfl, -, E1⟩
  have HE1 := hide E1
  clear H1 E1
  go_wp2_with fail
  refine ((unhide HR2) _ w1 ((unhide HC2) w1 (unhide HE1) _)).mono ?_
  rintro e w2 ⟨v2, rfl, o2, E2⟩
  obtain ⟨a2, c2, rfl⟩ := owns_sl o2
  have HO2 := hide o2
  have hf2 : (flat []).length ≤ 8000000 := by decide
  obtain ⟨L2, hL2⟩ : ∃ n, (flat []).length = n := ⟨_, rfl⟩
  rw [hL2] at HO2 hf2 ⊢
  have HL2 := hide hL2
  have HE2 := hide ((unhide HE1).trans E2)
  have zw2 := E2.size
  clear HR2 HC2 E2 o2 hL2
  go_wp2_with (at_builtin; go_loud (
     refine wpList_app rfl _ _ 26 rfl w1.heap.size 21 ic (.int .i32 0) 1 4 Tryz.underlying26 hic hc0 hc1 hc2 rfl (by decide) (.slice a2 L2 c2) _ _ rfl (unhide HO2) _ _ _ rfl ((unhide HSr) w2 (unhide HE2)) (by unfold maxLen; omega) (by omega) zw2 ?_
     intro v3 w3 o3 G3 _
     have E3 : Ext W w3 := (unhide HE2).grown G3 (fun b hb => Nat.le_trans (unhide HE1).size ((unhide HO2).lt b hb).1)
     have i3 : IntsAt w3 .i32 v3 rs := (by
       have e : (flat []).map (Value.int .i32) ++ rs.map (Value.int .i32) = rs.map (Value.int .i32) := (by simp [flat])
       have e2 : L2 + rs.length = rs.length := (by rw [← unhide HL2]; simp [flat])
       rw [e, e2] at o3
       exact ints_of_owns o3)
     obtain ⟨a3, c3, rfl⟩ := owns_sl o3
     have HE3 := hide E3
     have HI3 := hide i3
     clear o3 G3 E3 i3))
  refine ((unhide HK) _ w3 (unhide HE3) (unhide HI3)).mono ?_
  rintro e w4 ⟨v4, rs4, rfl, o4, E4⟩
  obtain ⟨a4, c4, rfl⟩ : ∃ a c, v4 = .slice a (clusC rs).length c := by
    obtain ⟨_, ao, ca, e, _⟩ := o4.cls
    exact ⟨ao, ca, e⟩
  have HO4 := hide o4
  have HE4 := hide ((unhide HE3).trans E4)
  have hz3 := (unhide HE3).size
  obtain ⟨nN, hnN⟩ : ∃ n, (clusC rs).length = n := ⟨_, rfl⟩
  have HNN := hide hnN
  rw [hnN] at HO4 ⊢
  clear HK HI3 HSr HO2 HL2 E4 o4 hnN
  go_wp2_with fail
  refine wp_region_held_drew (S := fun W9 => Ext w4 W9) (by kernel_rfl) (by first | exact Ext.refl w4 | exact (Ext.refl w4).drew) (fun hHeld => ?_)
  refine wpAnyH_take (i := 0) (v := ?_) rfl (by kernel_rfl) (by kernel_rfl) (by kernel_rfl) (fun _ _ _ h => h) (Or.inl ⟨by rfl, ?_⟩) (by assumption) ?_
  rotate_left
  · intro w' hSw; go_simp <;> with_reducible rfl
  simp only [Act.put, qA, qB, qC, qD, qE, qF]
  refine wpAnyH_take (i := 1) (v := ?_) rfl (by kernel_rfl) (by kernel_rfl) (by kernel_rfl) (fun _ _ _ h => h) (Or.inl ⟨by rfl, ?_⟩) (by assumption) ?_
  rotate_left
  · intro w' hSw; go_simp <;> with_reducible rfl
  simp only [Act.put, qA, qB, qC, qD, qE, qF]
  refine wpAnyH_take (i := 2) (v := ?_) rfl (by kernel_rfl) (by kernel_rfl) (by kernel_rfl) (fun _ _ _ h => h) (Or.inl ⟨by rfl, ?_⟩) (by assumption) ?_
  rotate_left
  · intro w' hSw; go_simp <;> with_reducible rfl
  simp only [Act.put, qA, qB, qC, qD, qE, qF]
  refine wpAnyH_take (i := 5) (v := ?_) rfl (by kernel_rfl) (by kernel_rfl) (by kernel_rfl) (fun _ _ _ h => h) (Or.inl ⟨by rfl, ?_⟩) (by assumption) ?_
  rotate_left
  · intro w' hSw; go_simp <;> with_reducible rfl
  simp only [Act.put, qA, qB, qC, qD, qE, qF]
  refine wpAnyH_take (i := 9) (v := ?_) rfl (by kernel_rfl) (by kernel_rfl) (by kernel_rfl) (fun _ _ _ h => h) (Or.inl ⟨by rfl, ?_⟩) (by assumption) ?_
  rotate_left
  · intro w' hSw; go_simp <;> with_reducible rfl
  simp only [Act.put, qA, qB, qC, qD, qE, qF]
  refine wpAnyH_take (i := 10) (v := ?_) rfl (by kernel_rfl) (by kernel_rfl) (by kernel_rfl) (fun _ _ _ h => h) (Or.inl ⟨by rfl, ?_⟩) (by assumption) ?_
  rotate_left
  · intro w' hSw; go_simp <;> with_reducible rfl
  simp only [Act.put, qA, qB, qC, qD, qE, qF]
  refine wpAnyH_take (i := 11) (v := ?_) rfl (by kernel_rfl) (by kernel_rfl) (by kernel_rfl) (fun _ _ _ h => h) (Or.inl ⟨by rfl, ?_⟩) (by assumption) ?_
  rotate_left
  · intro w' hSw; go_simp <;> with_reducible rfl
  simp only [Act.put, qA, qB, qC, qD, qE, qF]
  refine wpAnyH_ready (rs := [3]) (by kernel_rfl) (by simp) ?_
  refine AllReadyH.cons rfl (fun K hK => ?_) AllReadyH.nil
  go_simp
  go_wp2_with (go_at_call 136; refine ((unhide HR1) _ _ ((unhide HC1) _ (by first | exact unhide HE4 | exact (unhide HE4).drew) _)).mono ?_; rintro e w5 ⟨v5, rfl, o5, E5⟩; rw [unhide HFA] at o5; obtain ⟨a5, c5, rfl⟩ := owns_sl o5; have F5 : Ext w4 w5 := (by first | exact E5 | exact (Ext.refl _).drew.trans E5); clear o5 E5)
  refine hK.out _ _ F5 (fun hHeld => ?_)
  clear hK K
  refine wpAnyH_take (i := 4) (v := ?_) rfl (by kernel_rfl) (by kernel_rfl) (by kernel_rfl) (fun _ _ _ h => h) (Or.inl ⟨by rfl, ?_⟩) (by assumption) ?_
  rotate_left
  · intro w' hSw; go_simp <;> with_reducible rfl
  simp only [Act.put, qA, qB, qC, qD, qE, qF]
  refine wpAnyH_ready (rs := [6]) (by kernel_rfl) (by simp) ?_
  refine AllReadyH.cons rfl (fun K hK => ?_) AllReadyH.nil
  go_simp
  go_wp2_with (go_at_call 136; refine ((unhide HRN) _ _ ((unhide HO4).cls.ext (by first | exact F5 | exact F5.drew))).mono ?_; rintro e w6 ⟨v6, rfl, o6, E6⟩; rw [unhide HFN] at o6; obtain ⟨a6, c6, rfl⟩ := owns_sl o6; have F6 : Ext w4 w6 := (by first | exact F5.trans E6 | exact F5.drew.trans E6); clear o6 E6)
  refine hK.out _ _ F6 (fun hHeld => ?_)
  clear hK K
  refine wpAnyH_take (i := 7) (v := ?_) rfl (by kernel_rfl) (by kernel_rfl) (by kernel_rfl) (fun _ _ _ h => h) (Or.inl ⟨by rfl, ?_⟩) (by assumption) ?_
  rotate_left
  · intro w' hSw; go_simp <;> with_reducible rfl
  simp only [Act.put, qA, qB, qC, qD, qE, qF]
  refine wpAnyH_take (i := 8) (v := ?_) rfl (by kernel_rfl) (by kernel_rfl) (by kernel_rfl) (fun _ _ _ h => h) (Or.inl ⟨by rfl, ?_⟩) (by assumption) ?_
  rotate_left
  · intro w' hSw; go_simp <;> with_reducible rfl
  simp only [Act.put, qA, qB, qC, qD, qE, qF]
  refine wpAnyH_ready (rs := [12]) (by kernel_rfl) (by simp) ?_
  refine AllReadyH.cons rfl (fun K hK => ?_) AllReadyH.nil
  go_simp
  go_wp2_with (go_at_call 105; refine ((unhide HR) _ (by first | exact (unhide HE4).trans F6 | exact (unhide HE4).trans F6.drew)).mono ?_; rintro e w7 ⟨a7, c7, rfl, hcB, E7⟩; have F7 : Ext w4 w7 := (by first | exact F6.trans E7 | exact F6.drew.trans E7); clear E7)
  refine hK.out _ _ F7 (fun hHeld => ?_)
  clear hK K
  refine wpAnyH_ready (rs := [13]) (by kernel_rfl) (by simp) ?_
  refine AllReadyH.cons rfl (fun K hK => ?_) AllReadyH.nil
  go_simp
  go_wp2_with (go_at_call 136; refine ((unhide HRB) _ _ (hcB.ext (by first | exact Ext.refl _ | exact (Ext.refl _).drew))).mono ?_; rintro e w8 ⟨v8, rfl, o8, E8⟩; rw [unhide HFB] at o8; obtain ⟨a8, c8, rfl⟩ := owns_sl o8; have F8 : Ext w4 w8 := (by first | exact F7.trans E8 | exact F7.drew.trans E8); clear o8 E8)
  refine hK.out _ _ F8 (fun hHeld => ?_)
  clear hK K
  refine wpAnyH_take (i := 14) (v := ?_) rfl (by kernel_rfl) (by kernel_rfl) (by kernel_rfl) (fun _ _ _ h => h) (Or.inl ⟨by rfl, ?_⟩) (by assumption) ?_
  rotate_left
  · intro w' hSw; go_simp <;> with_reducible rfl
  simp only [Act.put, qA, qB, qC, qD, qE, qF]
  refine wpAnyH_take (i := 15) (v := ?_) rfl (by kernel_rfl) (by kernel_rfl) (by kernel_rfl) (fun _ _ _ h => h) (Or.inl ⟨by rfl, ?_⟩) (by assumption) ?_
  rotate_left
  · intro w' hSw; go_simp <;> with_reducible rfl
  simp only [Act.put, qA, qB, qC, qD, qE, qF]
  refine wpAnyH_take (i := 16) (v := ?_) rfl (by kernel_rfl) (by kernel_rfl) (by kernel_rfl) (fun _ _ _ h => h) (Or.inl ⟨by rfl, ?_⟩) (by assumption) ?_
  rotate_left
  · intro w' hSw; go_simp <;> with_reducible rfl
  simp only [Act.put, qA, qB, qC, qD, qE, qF]
  refine wpAnyH_done (by kernel_rfl) ?_ _
  have EW8 := (unhide HE4).trans F8
  by_cases hb : 300 < fA + fN + fB
  · have hbI : (300 : Int) < (fA : Int) + (fN : Int) + (fB : Int) := by omega
    have H3 := hide ((unhide H0) w8 EW8)
    clear EW8 HCh HTk HO4
    go_wp2
    exact bodyPost_ret (v := .int .i64 2) (by simp [results, Tryz.results118, go_sem]) rfl (Or.inl ⟨by have := unhide HFA0; omega, unhide H3⟩)
  · have hbI : ¬ (300 : Int) < (fA : Int) + (fN : Int) + (fB : Int) := by omega
    have HCh' := hide ((unhide HCh) w8 EW8)
    have HO8 := hide ((unhide HO4).ext F8)
    have HB := hide hb
    have hfit := (unhide HFit) (by have := unhide HFA0; omega)
    have HFi := hide hfit
    have HP3 : Hid (P < w3.heap.size) := hide (by omega)
    clear EW8 HCh HO4 HR1 HRN HRB HR HC1 H0 hb hfit F5 F6 F7 F8 hcB
    go_wp2_with fail
    refine (unhide HCh').mono ?_
    rintro e w9 ⟨u9, rfl, g9, f9⟩
    have HO9 := hide ((unhide HO8).fr f9 (fun g hg e9 => by
      have h1 := (unhide HO8).foot hg
      rcases e9 with e9 | e9
      · omega
      · have := (unhide HUB) g e9
        omega))
    have HTk' := hide ((unhide HTk) w9 u9 _ g9)
    clear HCh' HO8 g9 f9 HTk
    go_wp2_with fail
    refine (unhide HTk').mono ?_
    rintro e w10 ⟨v10, rl10, rfl, g10, f10⟩
    have HO10 := hide ((unhide HO9).fr f10 (fun g hg e9 => by
      have h1 := (unhide HO9).foot hg
      omega))
    have HIn : Hid (Calls Tryz.prog 83 #[.pointer (some ⟨P, 0, none⟩), .slice a4 nN c4] w10 fun e w' => ∃ cl' rl', e = .returned (.tuple #[]) ∧ Ed2 P base W w' k u9 _ ([] ++ (clusC rs)) B cl' rl' rr) := hide (by
      obtain ⟨ao, cap, ev, hrs, hr, h1, hx⟩ := (unhide HO10).gap (unhide HP3)
      refine (insert_any P cl rl10 rr [] B (clusC rs) _ rfl k u9 _ rs4 w10 g10.blk g10.gap hrs (by simp; exact unhide HFi) hr h1 ao cap ev hx).mono ?_
      rintro e w' ⟨cl', rfl, b', G', F'⟩
      exact ⟨cl', _, rfl, g10.step b' G' F'⟩)
    clear HTk' HO9 HO10 g10 f10
    go_wp2_with fail
    refine (unhide HIn).mono ?_
    rintro e w11 ⟨cl11, rl11, rfl, g11⟩
    have H9 := hide (g11.end 1)
    clear HIn g11
    go_wp2
    exact bodyPost_ret (v := .int .i64 1) (by simp [results, Tryz.results118, go_sem]) rfl (Or.inr ⟨by have := unhide HB; have := unhide HFA0; omega, unhide H9⟩)
end
end Go.Proofs.YtokjpnlmkecleaaGreatDoor

namespace Go.Proofs.YtokjpnlmkecleaaGreatDoor
open Go.RowKit
theorem len_flat : ∀ {X : List (List Int × Int)}, (∀ c ∈ X, GoodC c) → X.length ≤ (flat X).length
  | [], _ => Nat.zero_le _
  | c :: cs, h => by
    have h1 := goodC_ne (h c (by simp))
    have h2 := len_flat (X := cs) (fun d hd => h d (by simp [hd]))
    have h3 : 0 < c.1.length := List.length_pos_iff.2 h1
    simp [flat]
    omega
section
variable {P base : Nat} {W : World} {k : ByteArray} {u : Value} {qs : List Nat} {un : List (ByteArray × ByteArray)} {cl rl rr : List Value}
theorem put_any (xs ys : List Int) (hx : xs.length ≤ 1048576) (rv : Value) (rs : List Int) (hr : IntsAt W .i32 rv rs) (iR : I32s rs) (zR : rs.length ≤ 1048576) (hT : ∀ W', Fr (fun x => x = P ∨ base ≤ x) W W' → Laid W') (h : Ed0 P base W k u qs un (clusC xs) (clusC ys) cl rl rr) :
    Calls Tryz.prog 118 #[.pointer (some ⟨P, 0, none⟩), rv] W fun e w' => (300 < (flat (clusC (xs ++ rs))).length + (flat (clusC ys)).length ∧ EdR P base W w' k un (clusC xs) (clusC ys) 2 e) ∨ ((flat (clusC (xs ++ rs))).length + (flat (clusC ys)).length ≤ 300 ∧ EdR P base W w' k (undoN un (toBA (textC (clusC xs)), toBA (textC (clusC ys)))) (clusC (xs ++ rs)) (clusC ys) 1 e) := by
  have gB := len_flat (clus_good ys)
  have gN := len_flat (clus_good (xs ++ rs))
  rcases List.eq_nil_or_concat (clusC xs) with e | ⟨A1, x, e⟩
  · obtain rfl := clus_nil xs e
    have e2 : clusC [] = [] := rfl
    rw [List.nil_append] at gN ⊢
    rw [e2] at h ⊢
    exact put_Z rv rs hr iR zR (by omega) hT (fun _ => by omega) h
  · rw [List.concat_eq_append] at e
    have hm := clus_more xs rs A1 x e
    have gA : ∀ c ∈ A1, GoodC c := fun c hc => clus_good xs c (by rw [e]; simp [hc])
    have gx : x.1.length ≤ xs.length + 1 := by
      have := clF_runes xs xs.length A1.length
      have e3 : cR (clF xs xs.length) A1.length = x.1 := by
        rw [show clF xs xs.length = A1 ++ [x] from e]
        have := (cR_appR A1 [x] 0).1
        rw [Nat.add_zero] at this
        exact this
      rw [e3] at this
      exact this
    rw [hm] at gN ⊢
    rw [flat_app, List.length_append]
    rw [e] at h ⊢
    rw [List.length_append, flat_app, List.length_append] at gN
    have gA2 := len_flat gA
    have gN2 := len_flat (clus_good (x.1 ++ rs))
    exact put_S rv rs hr iR zR (by rw [List.length_append]; omega) hT (fun _ => by omega) h
set_option maxRecDepth 10000 in
set_option maxHeartbeats 4000000 in
theorem edWrite_no {A B : List (List Int × Int)} (kd : Int) (ra : Option Addr) (rc : Nat) (h : Ed0 P base W k u qs un A B cl rl rr) :
    Calls Tryz.prog 87 #[.pointer (some ⟨P, 0, none⟩), .agg #[.int .i64 kd, .slice ra 0 rc]] W fun e w' => EdR P base W w' k un A B 0 e := by
  have H0 := hide (h.same ((Ext.refl W).alloc (.cells #[.int .i64 kd, .slice ra 0 rc] 28)) 0)
  clear h
  go_enter Tryz.func87, Tryz.ntmps87
  go_wp2
  exact bodyPost_ret (v := .int .i64 0) (by simp [results, Tryz.results87, go_sem]) rfl (unhide H0)
set_option maxRecDepth 10000 in
set_option maxHeartbeats 4000000 in
theorem edWrite_yes (xs ys : List Int) (hx : xs.length ≤ 1048576) (kd : Int) (rv : Value) (rs : List Int) (h0 : 0 < rs.length) (hr : IntsAt W .i32 rv rs) (iR : I32s rs) (zR : rs.length ≤ 1048576) (hT : ∀ W', Fr (fun x => x = P ∨ base ≤ x) W W' → Laid W') (h : Ed0 P base W k u qs un (clusC xs) (clusC ys) cl rl rr) :
    Calls Tryz.prog 87 #[.pointer (some ⟨P, 0, none⟩), .agg #[.int .i64 kd, rv]] W fun e w' => (300 < (flat (clusC (xs ++ rs))).length + (flat (clusC ys)).length ∧ EdR P base W w' k un (clusC xs) (clusC ys) 2 e) ∨ ((flat (clusC (xs ++ rs))).length + (flat (clusC ys)).length ≤ 300 ∧ EdR P base W w' k (undoN un (toBA (textC (clusC xs)), toBA (textC (clusC ys)))) (clusC (xs ++ rs)) (clusC ys) 1 e) := by
  have HP := hide (put_any xs ys hx rv rs (hr.ext ((Ext.refl W).alloc (.cells #[.int .i64 kd, rv] 28))) iR zR (fun W' f => hT W' ((Fr.of_ext ((Ext.refl W).alloc (.cells #[.int .i64 kd, rv] 28))).tr f)) (h.ext ((Ext.refl W).alloc (.cells #[.int .i64 kd, rv] 28))))
  obtain ⟨ra, rc, rfl, _⟩ := id hr
  clear h hr iR zR hT hx
  obtain ⟨c1, hc1⟩ : ∃ c : Prop, c = (300 < (flat (clusC (xs ++ rs))).length + (flat (clusC ys)).length) := ⟨_, rfl⟩
  obtain ⟨c2, hc2⟩ : ∃ c : Prop, c = ((flat (clusC (xs ++ rs))).length + (flat (clusC ys)).length ≤ 300) := ⟨_, rfl⟩
  rw [← hc1, ← hc2] at HP ⊢
  clear hc1 hc2
  obtain ⟨n, hn⟩ : ∃ n, rs.length = n := ⟨_, rfl⟩
  rw [hn] at HP h0 ⊢
  have hI : ¬ (n : Int) = 0 := by omega
  have hN : ¬ n = 0 := by omega
  clear hn
  go_enter Tryz.func87, Tryz.ntmps87
  go_wp2_with fail
  refine (unhide HP).mono ?_
  rintro e w1 (⟨h1, rfl, h2⟩ | ⟨h1, rfl, h2⟩)
  · have H2 := hide h2
    clear h2 HP
    go_wp2
    exact bodyPost_ret (v := .int .i64 2) (by simp [results, Tryz.results87, go_sem]) rfl (Or.inl ⟨h1, EdR.pre ⟨rfl, unhide H2⟩ ((Ext.refl W).alloc _)⟩)
  · have H2 := hide h2
    clear h2 HP
    go_wp2
    exact bodyPost_ret (v := .int .i64 1) (by simp [results, Tryz.results87, go_sem]) rfl (Or.inr ⟨h1, EdR.pre ⟨rfl, unhide H2⟩ ((Ext.refl W).alloc _)⟩)
end
end Go.Proofs.YtokjpnlmkecleaaGreatDoor

namespace Go.Proofs.YtokjpnlmkecleaaGreatDoor
open Go.RowKit
end Go.Proofs.YtokjpnlmkecleaaGreatDoor

namespace Go.Proofs.YtokjpnlmkecleaaGreatDoor
open Go.RowKit
end Go.Proofs.YtokjpnlmkecleaaGreatDoor

namespace Go.Proofs.YtokjpnlmkecleaaGreatDoor
open Go.ChangeShapes Go.WideShapes Go.ChangeAt Go.RowKit Go.Deep
end Go.Proofs.YtokjpnlmkecleaaGreatDoor

namespace Go.Proofs.YtokjpnlmkecleaaGreatDoor
open Go.ChangeShapes Go.WideShapes Go.ChangeAt Go.RowKit Go.Deep
end Go.Proofs.YtokjpnlmkecleaaGreatDoor
