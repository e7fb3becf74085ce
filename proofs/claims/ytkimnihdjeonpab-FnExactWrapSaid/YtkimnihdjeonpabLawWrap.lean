import Derived.Test.YtkimnihdjeonpabImplWrap
import Derived.Test.YtkimnihdjeonpabSzCls
import Derived.Test.YtkimnihdjeonpabCameCls
import Derived.Test.YtkimnihdjeonpabRows
namespace Go.Proofs.Ytkimnihdjeonpab
open Go.ChangeShapes Go.WideShapes Go.ChangeAt Go.RowKit
theorem kkC_sum (k : Int) (cs : List (List Int × Int)) : ∀ j, kkC k cs j = k + (j : Int) + (sumR cs j : Int)
  | 0 => by simp [kkC, sumR]
  | j + 1 => by rw [kkC, kkC_sum k cs j, sumR]; omega
theorem sub_cR (cs : List (List Int × Int)) (s e j : Nat) (hj : s + j < e) : cR ((cs.take e).drop s) j = cR cs (s + j) := by
  unfold cR
  rw [List.getElem?_drop, List.getElem?_take, if_pos hj]
theorem kkC_sub (k : Int) (cs : List (List Int × Int)) (s e : Nat) : ∀ j, s + j ≤ e → kkC (kkC k cs s) ((cs.take e).drop s) j = kkC k cs (s + j)
  | 0, _ => rfl
  | j + 1, h => by rw [kkC, kkC_sub k cs s e j (by omega), sub_cR cs s e j (by omega), ← Nat.add_assoc, kkC]
theorem sumR_up (cs : List (List Int × Int)) (i : Nat) : ∀ n, i ≤ n → sumR cs i ≤ sumR cs n := by
  intro n
  induction n with
  | zero => intro h; have : i = 0 := by omega
            subst this; exact Nat.le_refl _
  | succ n ih =>
    intro h
    by_cases e : i = n + 1
    · subst e; exact Nat.le_refl _
    · have := ih (by omega); rw [sumR]; omega
theorem wrC_facts (cs : List (List Int × Int)) (cols : Int) (i : Nat) (hi : i < (stF cs cols cs.length).1.length) : ∃ s e, s ≤ e ∧ e ≤ cs.length ∧ (at0 (wrS cs cols) i).toNat = s ∧ (at0 (wrS cs cols) (i + 1)).toNat = e ∧ wrC cs cols i = (cs.take e).drop s ∧ (wrC cs cols i).length = e - s := by
  have h := wrS_step cs cols i hi
  refine ⟨_, _, ?_, ?_, rfl, rfl, rfl, ?_⟩
  · omega
  · omega
  · unfold wrC; simp; omega
theorem gkC_wr (cs : List (List Int × Int)) (cols : Int) : ∀ i, i ≤ (stF cs cols cs.length).1.length → gkC 1 (wrC cs cols) i = kkC 1 cs (at0 (wrS cs cols) i).toNat
  | 0, _ => by
    have h := (stF_ok cs cols cs.length).at00
    have h1 := (stF_ok cs cols cs.length).one
    rw [wrS, at0_app, if_neg (by omega), h]
    rfl
  | i + 1, hi => by
    obtain ⟨s, e, h1, h2, h3, h4, h5, h6⟩ := wrC_facts cs cols i (by omega)
    rw [gkC, gkC_wr cs cols i (by omega), h6, h3, h4, h5, kkC_sub 1 cs s e (e - s) (by omega)]
    congr 1
    omega
theorem wr_small (cs : List (List Int × Int)) (cols : Int) (h : cs.length + sumR cs cs.length ≤ 1048576) : SmallC 1 (wrC cs cols) (wrR cs cols) := by
  intro i hi
  have hi' : i < (stF cs cols cs.length).1.length := by
    unfold wrR at hi
    split at hi
    · omega
    · exact hi
  obtain ⟨s, e, h1, h2, h3, h4, h5, h6⟩ := wrC_facts cs cols i hi'
  refine ⟨fun j hj => ?_, by omega, fun j hj => ?_⟩
  · rw [gkC_wr cs cols i (by omega), h3, h5, kkC_sub 1 cs s e j (by omega), kkC_sum]
    have := sumR_up cs (s + j) cs.length (by omega)
    omega
  · rw [h5, sub_cR cs s e j (by omega)]
    have := sumR_le cs (s + j) cs.length (by omega)
    omega
theorem wrR_le (cs : List (List Int × Int)) (cols : Int) : wrR cs cols ≤ cs.length + 1 := by
  unfold wrR
  split
  · omega
  · exact (stF_ok cs cols cs.length).len
set_option maxHeartbeats 2000000 in
theorem fnExactWrap_walk (v : Value) (cs : List (List Int × Int)) (cols : Int) (w : World) (hv : ClsAt w v cs) (hn : cs.length ≤ maxLen) (hx : ∀ j, j < cs.length → (cR cs j).length ≤ maxLen) :
    Calls Try.prog 3 #[v, .int .i64 cols] w fun e w' => e = .returned (.bool true) ∧ Below w.heap.size w w' := by
  have hz := hide (szClusterS_any v cs 1048576 w hv (by omega) (by omega) (by unfold maxLen at hn; omega) (fun j hj => by have := hx j hj; unfold maxLen at this; omega))
  have HV := hide hv
  go_enter Try.func3, Try.ntmps3
  go_wp2_with fail
  refine (unhide hz).mono ?_
  rintro e w1 ⟨r, rfl, hr, E1⟩
  rcases hr with hr | ⟨hr, hsz⟩
  · go_wp2
    go_ret
    exact ⟨rfl, E1.below⟩
  have hl : cs.length + sumR cs cs.length ≤ 1048576 := by omega
  have hx1 : ∀ j, j < cs.length → (cR cs j).length ≤ 1048576 := fun j hj => by have := sumR_le cs j cs.length hj; omega
  have HX := hide hx1
  have HX4 := hide (fun j (hj : j < cs.length) => (by have := (unhide HX) j hj; omega : (cR cs j).length ≤ 4194304))
  have HX5 := hide (fun j (hj : j < cs.length) => (by have := (unhide HX) j hj; omega : (cR cs j).length ≤ 4398046511104))
  have HSC := hide (wr_small cs cols hl)
  have hRl := wrR_le cs cols
  have hSmX : Small 1 cs := fun j hj => by
    rw [kkC_sum]
    have := sumR_up cs j cs.length hj
    omega
  have HSX := hide hSmX
  have HCL := hide (fun i (hi : i < wrR cs cols) => ((unhide HSC) i hi).2)
  clear hx hx1 hsz hSmX hv hz
  obtain ⟨R, hR⟩ : ∃ R, R = wrR cs cols := ⟨_, rfl⟩
  obtain ⟨C, hC⟩ : ∃ C, C = wrC cs cols := ⟨_, rfl⟩
  have HTO := hide (fun W (h : Ext w1 W) => toClusterS_any v cs W ((unhide HV).ext (E1.trans h)) (by omega) (unhide HX5))
  have HSP := hide (fun (b : Nat) W (h : ClsAt W (.slice (some ⟨b, 0, none⟩) cs.length cs.length) cs) => specWrap_any b 0 cs.length cs cols W h (Nat.le_refl _) (by omega) (unhide HX4))
  have HIM := hide (fun (u : Value) W (h : ClsAt W u cs) => implWrap_any u cs cols W h (by omega) (unhide HX4))
  rw [← hR, ← hC] at HSP HIM HSC HCL
  rw [← hR] at hRl
  clear hR hC
  have HEQ := hide (fun W va vb (ha : CssAt W va R C) (hb : CssAt W vb R C) => eqClusterSS_same va vb R C W ha hb (by omega) (unhide HCL))
  go_wp2_with fail
  refine ((unhide HTO) _ (Ext.refl _)).mono ?_
  rintro e w2 ⟨rfl, ⟨r2, o2⟩, F2⟩
  go_wp2_with fail
  refine ((unhide HSP) _ _ o2.cls).mono ?_
  rintro e w3 ⟨vs, rvs, rss, rfl, os, F3⟩
  have OS := hide os
  have Y3 := F2.trans F3
  clear o2 os
  go_wp2_with fail
  refine ((unhide HTO) _ Y3).mono ?_
  rintro e w4 ⟨rfl, ⟨rx, ox⟩, F4⟩
  have OX := hide ox
  have hx34 : w3.heap.size < w4.heap.size := (ox.foot (.inl rfl)).2
  clear ox
  go_wp2_with fail
  refine ((unhide HIM) _ _ (unhide OX).cls).mono ?_
  rintro e w5 ⟨vg, rvg, rsg, rfl, og, F5⟩
  have OG := hide og
  clear og
  have X5 := (Y3.trans F4).trans F5
  have Y5 := F4.trans F5
  go_wp2_with fail
  refine ((unhide HEQ) _ _ _ (unhide OG).reads ((unhide OS).reads.ext Y5)).mono ?_
  rintro e w6 ⟨rfl, F6⟩
  have X6 := X5.trans F6
  go_wp2_with fail
  refine ((unhide HTO) _ X6).mono ?_
  rintro e w7 ⟨rfl, ⟨ry, oy⟩, F7⟩
  have Y7 := F6.trans F7
  go_wp2_with fail
  refine (eqClusterS_same _ _ cs _ ((unhide OX).cls.ext (F5.trans Y7)) oy.cls (by omega) (unhide HX5)).mono ?_
  rintro e w8 ⟨rfl, F8⟩
  have Y8 := Y7.trans F8
  have X8 := X5.trans Y8
  have Z8 := F5.trans Y8
  clear oy
  go_wp2_with fail
  refine (markClusterS_any w3.heap.size _ _ cs 1 _ ((unhide OX).ext Z8) (by omega) (unhide HX5) (unhide HSX)).mono ?_
  rintro e w9 ⟨rfl, -, fr9⟩
  have z13 := Y3.size
  have X9 : Ext w1 w9 := fr9.ext X8 (fun k hk => by have := ((unhide OX).foot hk).1; omega)
  have OG9 := hide (((unhide OG).ext Y8).fr fr9 (fun g hg e => by have := ((unhide OG).foot hg).1; have := ((unhide OX).foot e).2; omega))
  have OS9 := hide (((unhide OS).ext (Y5.trans Y8)).fr fr9 (fun g hg e => by have := ((unhide OS).foot hg).2; have := ((unhide OX).foot e).1; omega))
  clear fr9
  obtain ⟨KX, hKX⟩ : ∃ K, K = kkC 1 cs cs.length := ⟨_, rfl⟩
  have hKX0 := ((unhide HSX) _ (Nat.le_refl _)).1
  rw [← hKX] at hKX0 ⊢
  clear hKX
  have hKXn : ¬ KX < 0 := by omega
  go_wp2_with fail
  refine ((unhide HEQ) _ _ _ (unhide OG9).reads (unhide OS9).reads).mono ?_
  rintro e w10 ⟨rfl, F10⟩
  have OG10 := hide ((unhide OG9).ext F10)
  have OS10 := hide ((unhide OS9).ext F10)
  have X10 := X9.trans F10
  clear OG9 OS9
  go_wp2_with fail
  refine (markClusterSS_any w4.heap.size vg rvg rsg R C 1 _ (unhide OG10) (by omega) (unhide HSC)).mono ?_
  rintro e w11 ⟨rfl, om, fr11⟩
  have z34 := F4.size
  have X11 : Ext w1 w11 := fr11.ext X10 (fun k hk => by have := ((unhide OG).foot hk).1; omega)
  have OS11 := hide ((unhide OS10).fr fr11 (fun g hg e => by have := ((unhide OS).foot hg).2; have := ((unhide OG).foot e).1; omega))
  have OM := hide om
  clear om fr11 OG10 OS10
  have HH := hide (fun W (h : CssAt W vg R (fun i => mkCls (gkC 1 C i) (C i))) => heldClusterSS_any vg R C 1 W h (by omega) (unhide HSC))
  have hK0 : 0 ≤ gkC 1 C R := by
    rcases Nat.eq_zero_or_pos R with e | e
    · rw [e]; exact Int.one_nonneg
    · obtain ⟨R', rfl⟩ : ∃ R', R = R' + 1 := ⟨R - 1, by omega⟩
      exact (unhide HSC).pos (by omega)
  obtain ⟨K, hK⟩ : ∃ K, K = gkC 1 C R := ⟨_, rfl⟩
  rw [← hK] at hK0 HH ⊢
  clear hK
  have hKn : ¬ K < 0 := by omega
  go_wp2_with fail
  refine ((unhide HH) _ (unhide OM).reads).mono ?_
  rintro e w12 ⟨rfl, F12⟩
  have X12 := X11.trans F12
  go_wp2_with fail
  refine ((unhide HTO) _ X12).mono ?_
  rintro e w13 ⟨rfl, ⟨rz, oz⟩, F13⟩
  have OZ := hide oz
  clear oz
  go_wp2_with fail
  refine ((unhide HIM) _ _ (unhide OZ).cls).mono ?_
  rintro e w14 ⟨vh, rvh, rsh, rfl, oh, F14⟩
  have OH := hide oh
  clear oh
  have Y14 := (F12.trans F13).trans F14
  go_wp2_with fail
  refine ((unhide HEQ) _ _ _ (unhide OH).reads ((unhide OS11).reads.ext Y14)).mono ?_
  rintro e w15 ⟨rfl, F15⟩
  have Y15 := Y14.trans F15
  go_wp2_with fail
  refine ((unhide HH) _ ((unhide OM).reads.ext Y15)).mono ?_
  rintro e w16 ⟨rfl, F16⟩
  go_wp2
  go_ret
  exact ⟨rfl, (((E1.trans X11).trans Y15).trans F16).below⟩
set_option maxRecDepth 100000 in
theorem fnExactWrap_lifted (os : Os) (started : os.Started) (H : Type) (enc : TypeId × Value → H) :
    ReturnsInHanded {} Try.checked os 3 .any (Rows.fnExactWrapSpec.pre6 enc Try.prog Try.f3 Rows.fnExactWrapRow.domain false) (Rows.fnExactWrapSpec.post enc Try.prog Try.f3 false true false false) := by
  have own : ownKnob Try.prog.godebug = none := by kernel_rfl
  refine returnsInHanded_of_change (C := Try.checked) own started (by kernel_rfl) Try.func3
    (ChangeSpec.witness6 (enc := enc) (C := Try.checked) false ⟨#[], #[.slice none 0 0, .int .i64 0], []⟩ 8 (by kernel_rfl) (by kernel_rfl) (by kernel_rfl) (by kernel_rfl)) ?_
  intro W base args ds gs before hval0 hW hcnd _
  have hval : ∀ (j : Nat) t v, Try.f3.params[j]? = some t → args[j]? = some v → Value.okWide Try.prog W .any base t v := hval0
  have hW' := hW
  obtain ⟨p, q, hA0, hV, rfl, hfz, hnd⟩ := hW
  have hA : DataW.TrodAll enc Try.prog W 0 (fun _ => true) true Try.f3.params.toList args.toList ds p := hA0
  rw [Try.params3] at hA hval
  obtain ⟨v0, v1, d0, d1, p0, p1, rfl, rfl, rfl, h0, h1⟩ := trodAll_two hA
  obtain ⟨rfl, rfl⟩ := trodVars_none hV
  obtain ⟨cs, c1, c2, c3, c4⟩ := cls_came (hval 0 22 v0 rfl rfl) h0
  obtain ⟨a1, rfl, rfl, rfl, w1⟩ := open_int Try.underlying3 (hval 1 3 v1 rfl rfl) h1
  clear hA0 hval0
  refine (fnExactWrap_walk v0 cs a1 W c1 c3 c4).mono fun e W' ⟨he, hb⟩ => ?_
  subst he
  exact ⟨_, rfl, post_law (by kernel_rfl) (by kernel_rfl) (by kernel_rfl) (bt := 4) (by kernel_rfl) Try.underlying4 hW' rfl hb⟩
theorem fnExactWrap_holds : Rows.FnExactWrapSaid :=
  OpenClaim.holds_of_wide 3 Try.f3 rfl rfl rfl rfl rfl rfl rfl ⟨rfl, rfl, rfl, rfl, rfl⟩ rfl rfl rfl rfl rfl (by kernel_rfl) Try.func3 (by kernel_rfl)
    (of_decide_eq_true (by kernel_rfl)) (by unfold Func.isWrapper; first | (rw [if_pos (by decide +kernel)]; kernel_rfl) | (rw [if_neg (by decide +kernel)]; exact ⟨rfl, rfl⟩))
    (fun os started H enc _ => fnExactWrap_lifted os started H enc)
#print axioms fnExactWrap_holds
end Go.Proofs.Ytkimnihdjeonpab
