import Derived.Test.YtlnmpbdnmlpkiaaDoorGenResize
import Derived.Test.YtlnmpbdnmlpkiaaDoorResizeS
import Derived.Test.YtlnmpbdnmlpkiaaDoorKdScr2
import Derived.Test.YtlnmpbdnmlpkiaaDoorCameScr
import Derived.Test.YtlnmpbdnmlpkiaaDoorRows
import Derived.Test.YtlnmpbdnmlpkiaaDoorTie
import Derived.Test.YtlnmpbdnmlpkiaaDoorCards
import Derived.SevenTiedAt
import Derived.Lay
import Derived.LaidMore
import Derived.Lib.LaidU8
import Derived.Stop.Joined
import Derived.PinnedBridge
namespace Go.Proofs.YtlnmpbdnmlpkiaaDoor
open Go.ChangeShapes Go.WideShapes Go.ChangeAt Go.RowKit Go.Deep

theorem sumC_const (c : Nat) : ∀ n, sumC (fun _ => c) n = n * c
  | 0 => by simp [sumC]
  | n + 1 => by rw [sumC, sumC_const c n, Nat.succ_mul]
theorem fnExactResize_walk (s : SD) (gv hv bv : Value) (c r : Int) (w : World) (h : ScrAt w s gv hv bv) (hC : s.Came) :
    Calls Tryd.prog 7 #[scrV s gv hv bv, .int .i64 c, .int .i64 r] w fun e w' => e = .returned (.bool true) ∧ Below w.heap.size w w' := by
  obtain ⟨D, q, hD, hF, hS⟩ : ∃ (D : SD) (q : Bool), (s.bulk ≤ 1048576 → D.Fits ∧ sumC D.C D.R ≤ 1073741824 ∧ scrM D ≤ 1073741824)
      ∧ (s.bulk ≤ 1048576 → ∀ W gv hv bv, ScrAt W s gv hv bv → Calls Tryd.prog 38 #[scrV s gv hv bv, .int .i64 c, .int .i64 r] W fun e w' => ∃ g rv h b, e = .returned (.tuple #[scrV D g h b, .bool q]) ∧ OwnScr w' W.heap.size D g rv h b ∧ Ext W w')
      ∧ (s.bulk ≤ 1048576 → ∀ W gv hv bv, ScrAt W s gv hv bv → Calls Tryd.prog 37 #[scrV s gv hv bv, .int .i64 c, .int .i64 r] W fun e w' => ∃ g h b, e = .returned (.tuple #[scrV D g h b, .bool q]) ∧ ScrAt w' D g h b ∧ Ext W w') := by
    have zf : zeroSD.Fits ∧ sumC zeroSD.C zeroSD.R ≤ 1073741824 ∧ scrM zeroSD ≤ 1073741824 := ⟨⟨by simp [zeroSD], fun i hi => by simp [zeroSD], by simp [zeroSD], by simp [zeroSD]⟩, by simp [zeroSD, sumC], by simp [zeroSD, scrM, sumC]⟩
    have zi : ∀ {W : World} {F : Nat} {a : Array Value}, Calls Tryd.prog F a W (fun e w' => e = .returned (.tuple #[scrV zeroSD (.slice none 0 0) (.slice none 0 0) (.slice none 0 0), .bool false]) ∧ Ext W w') → Calls Tryd.prog F a W fun e w' => ∃ g rv h b, e = .returned (.tuple #[scrV zeroSD g h b, .bool false]) ∧ OwnScr w' W.heap.size zeroSD g rv h b ∧ Ext W w' := by
      intro W F a hc
      refine hc.mono ?_
      rintro e w' ⟨rfl, E⟩
      exact ⟨_, _, _, _, rfl, own_zero w' _ zeroSD rfl rfl rfl, E⟩
    have zs : ∀ {W : World} {F : Nat} {a : Array Value}, Calls Tryd.prog F a W (fun e w' => e = .returned (.tuple #[scrV zeroSD (.slice none 0 0) (.slice none 0 0) (.slice none 0 0), .bool false]) ∧ Ext W w') → Calls Tryd.prog F a W fun e w' => ∃ g h b, e = .returned (.tuple #[scrV zeroSD g h b, .bool false]) ∧ ScrAt w' zeroSD g h b ∧ Ext W w' := by
      intro W F a hc
      refine hc.mono ?_
      rintro e w' ⟨rfl, E⟩
      exact ⟨_, _, _, rfl, (own_zero w' 0 zeroSD rfl rfl rfl).reads, E⟩
    by_cases hsz : sizeB c r = true
    · obtain ⟨cn, rn, rfl, rfl, h1, h2, h3, h4⟩ := sizeB_open hsz
      by_cases hok : OkP s
      · refine ⟨resD s cn rn, true, fun hb => ?_, fun hb W gv hv bv hr => ?_, fun hb W gv hv bv hr => ?_⟩
        · have hl := linN_bulk hb
          have hm : rn * cn ≤ 100 * 200 := Nat.mul_le_mul h4 h2
          have hsum : sumC (resD s cn rn).C (resD s cn rn).R = rn * cn := sumC_const cn rn
          refine ⟨⟨by show rn ≤ _; omega, fun i _ => by show cn ≤ _; omega, by show ([] : List Int).length ≤ _; simp, hl⟩, by rw [hsum]; omega, ?_⟩
          unfold scrM
          rw [hsum]
          show 2 * (rn * cn) + ([] : List Int).length + linN s ≤ _
          simp
          omega
        · refine (implResize_yes s gv hv bv cn rn W hr (SD.Fits.of_bulk hb) (SD.texts_of_bulk hb) hok hsz h2 h4).mono ?_
          rintro e w' ⟨g, rv, b, rfl, o, E⟩
          exact ⟨_, _, _, _, rfl, o, E⟩
        · exact specResize_yes s gv hv bv cn rn W hr (SD.Fits.of_bulk hb) (SD.texts_of_bulk hb) hok hsz h2 h4
      · exact ⟨zeroSD, false, fun _ => zf, fun hb W gv hv bv hr => zi (implResize_no1 s gv hv bv _ _ W hr (SD.Fits.of_bulk hb) hok), fun hb W gv hv bv hr => zs (specResize_no2 s gv hv bv cn rn W hr (SD.Fits.of_bulk hb) hok hsz h2 h4)⟩
    · have hsz' : sizeB c r = false := by simpa using hsz
      refine ⟨zeroSD, false, fun _ => zf, fun hb W gv hv bv hr => ?_, fun hb W gv hv bv hr => zs (specResize_no1 s gv hv bv _ _ W hr hsz')⟩
      by_cases hok : OkP s
      · exact zi (implResize_no2 s gv hv bv _ _ W hr (SD.Fits.of_bulk hb) hok hsz')
      · exact zi (implResize_no1 s gv hv bv _ _ W hr (SD.Fits.of_bulk hb) hok)
  obtain ⟨ga, gc, ha, hc, ba, bc, rfl, rfl, rfl⟩ := h.forms
  refine law_Resize _ _ _ _ _ _ _ _ _ _ _ _ _ _ _ _ q w (scrK s) (fun k => scrK (mkSD k s)) (scrM s) (scrK D) (fun k => scrK (mkSD k D)) (scrM D) (s.bulk ≤ 1048576)
    ?_ ?_ ?_ ?_ ?_ ?_ ?_ ?_ ?_ ?_ ?_
  · refine hide (fun W hW => (szScreen_any s _ _ _ 1048576 W (h.ext hW) hC (by omega) (by omega)).mono ?_)
    rintro e w' ⟨r, rfl, hr, F⟩
    refine ⟨r, rfl, fun h0 => ?_, F⟩
    rcases hr with ⟨h1, _⟩ | ⟨h1, _⟩ <;> omega
  · refine hide (fun hb W hW => (toScreen_any s _ _ _ W (h.ext hW) (SD.Fits.of_bulk hb)).mono ?_)
    rintro e w' ⟨g', rv, h', b', rfl, o, F⟩
    exact ⟨_, _, rfl, scrK_own o, F⟩
  · exact hide (fun W u hu => by
      obtain ⟨a1, a2, a3, a4, a5, a6, e⟩ := scrK_shape hu
      exact ⟨_, _, _, _, _, _, _, _, _, _, _, _, _, _, e⟩)
  · exact hide (fun hb => scrK_eq s (SD.Fits.of_bulk hb))
  · exact hide (fun hb => ⟨scrK_mark s (SD.Fits.of_bulk hb) (by have := SD.sum_of_bulk hb; omega), by
      have h1 := SD.sum_of_bulk hb
      have h2 := (SD.Fits.of_bulk hb).hold
      have h3 := (SD.Fits.of_bulk hb).nb
      unfold scrM
      omega⟩)
  · refine hide (fun hb W u hW hu => ?_)
    obtain ⟨g', h', b', rfl, hr⟩ := hu
    refine (hS hb W g' h' b' hr).mono ?_
    rintro e w' ⟨g, h, b, rfl, o, F⟩
    exact ⟨_, rfl, ⟨_, _, _, rfl, o⟩, F⟩
  · refine hide (fun hb W u hW hu => ?_)
    obtain ⟨g', h', b', rfl, hr⟩ := hu
    refine (hF hb W g' h' b' hr).mono ?_
    rintro e w' ⟨g, rv, h, b, rfl, o, F⟩
    exact ⟨_, _, rfl, scrK_own o, F⟩
  · exact hide (fun W u hu => by
      obtain ⟨a1, a2, a3, a4, a5, a6, e⟩ := scrK_shape hu
      exact ⟨_, _, _, _, _, _, _, _, _, _, _, _, _, _, e⟩)
  · exact hide (fun hb => scrK_eq D (hD hb).1)
  · exact hide (fun hb => ⟨scrK_mark D (hD hb).1 (hD hb).2.1, (hD hb).2.2⟩)
  · exact hide (fun hb => scrK_held D (hD hb).1 (hD hb).2.1)
--@card FnExactResize | laws.Screen ; int ; int | .agg #[.int .i64 0, .int .i64 0, .slice none 0 0, .int .i64 0, .int .i64 0, .bool false, .slice none 0 0, .slice none 0 0], .int .i64 0, .int .i64 0 | 0 | [.data, .pinned] | obtain ⟨s, gv, hv, bv, rfl, c1, c2⟩ := scr_came (hval 0 26 v0 rfl rfl) h0 ;; obtain ⟨a1, rfl, rfl, rfl, w1⟩ := open_int Tryd.underlying3 (hval 1 3 v1 rfl rfl) h1 ;; obtain ⟨a2, rfl, rfl, rfl, w2⟩ := open_int Tryd.underlying3 (hval 2 3 v2 rfl rfl) h2 | fnExactResize_walk s gv hv bv a1 a2 W c1 c2
set_option maxRecDepth 100000 in
theorem fnExactResize_lifted (os : Os) (started : os.Started) (H : Type) (enc : TypeId × Value → H) :
    ReturnsInHanded {} Tryd.checked os 7 .any (fun w args => (Rows.fnExactResizeSpec.pre enc Tryd.prog Tryd.f7 [] false w args ∧ laidMetH Tryd.prog Rows.fnExactResizeRow.laid w) ∧ sizedMet enc Tryd.prog Tryd.f7 (OpenSpec.ofChange Rows.fnExactResizeSpec) false w args)
      (Rows.fnExactResizeSpec.post enc Tryd.prog Tryd.f7 false true false false) := by
  have own : ownKnob Tryd.prog.godebug = none := by kernel_rfl
  refine returnsInHanded_of_change_and (C := Tryd.checked) (X := fun w _ => laidMetH Tryd.prog Rows.fnExactResizeRow.laid w) (fun _ _ _ hh h => h.of_heap hh) own started (by kernel_rfl) Tryd.func7
    (ChangeSpec.witness_shaped (enc := enc) (C := Tryd.checked) (os := os) (X := fun w _ => laidMetH Tryd.prog Rows.fnExactResizeRow.laid w) false (World.laidAll Tryd.prog os Rows.fnExactResizeRow.laid) #[.agg #[.int .i64 0, .int .i64 0, .slice none 0 0, .int .i64 0, .int .i64 0, .bool false, .slice none 0 0, .slice none 0 0], .int .i64 0, .int .i64 0] 8 (World.laidAll_os _ _ _)
      (World.shaped_of_ZipB (by kernel_rfl) (by kernel_rfl)) (by kernel_rfl) (by kernel_rfl) (by kernel_rfl)
      (by rw [MakeChecks.laidMetH_plain _ _ _ (by kernel_rfl)]; exact laidMet_laidAll _ (by kernel_rfl) (by kernel_rfl))) ?_
  intro W base args ds gs before hval0 hW _ _ hL _
  have hval : ∀ (j : Nat) t v, Tryd.f7.params[j]? = some t → args[j]? = some v → Value.okWide Tryd.prog W .any base t v := hval0
  have hW' := hW
  obtain ⟨p, q, hA0, hV0, rfl, hfz, hnd⟩ := hW
  have hA : DataW.TrodAll enc Tryd.prog W 0 (fun _ => true) true Tryd.f7.params.toList args.toList ds p := hA0
  rw [Tryd.params7] at hA hval
  obtain ⟨v0, v1, v2, d0, d1, d2, p0, p1, p2, rfl, rfl, rfl, h0, h1, h2⟩ := trodAll_three hA
  obtain ⟨rfl, rfl⟩ := trodVars_none hV0
  obtain ⟨s, gv, hv, bv, rfl, c1, c2⟩ := scr_came (hval 0 26 v0 rfl rfl) h0
  obtain ⟨a1, rfl, rfl, rfl, w1⟩ := open_int Tryd.underlying3 (hval 1 3 v1 rfl rfl) h1
  obtain ⟨a2, rfl, rfl, rfl, w2⟩ := open_int Tryd.underlying3 (hval 2 3 v2 rfl rfl) h2
  clear hA0 hval0
  refine (fnExactResize_walk s gv hv bv a1 a2 W c1 c2).mono fun e W' ⟨he, hb⟩ => ?_
  subst he
  exact ⟨_, rfl, post_law (by kernel_rfl) (by kernel_rfl) (by kernel_rfl) (bt := 4) (by kernel_rfl) Tryd.underlying4 hW' rfl hb⟩

theorem fnExactResize_holds : Rows.FnExactResizeSaid :=
  OpenClaim.holds_of_wide 7 Tryd.f7 rfl rfl rfl rfl rfl rfl rfl ⟨rfl, rfl, rfl, rfl, rfl⟩ rfl rfl rfl rfl rfl (by kernel_rfl) Tryd.func7 (by kernel_rfl)
    (of_decide_eq_true (by kernel_rfl)) (by unfold Func.isWrapper; first | (rw [if_pos (by decide +kernel)]; kernel_rfl) | (rw [if_neg (by decide +kernel)]; exact ⟨rfl, rfl⟩))
    (fun os started H enc _ => fnExactResize_lifted os started H enc)

theorem fnExactResize_card_holds : Rows.FnExactResizeCardSaid :=
  Claim7.holds_tied_plain_at .later [] [.data, .pinned] true Rows.fnExactResizeCard.stood.harness false
    fnExactResize_holds (fun _ h => by cases h) (by kernel_rfl) (fun _ h => by cases h) fnExactResize_row_tie rfl ⟨rfl, rfl⟩ (by kernel_rfl) rfl
    (fun f fn hf hfn => by
      obtain rfl : f = 7 := Option.some.inj ((show Tryd.prog.funcNamed Rows.fnExactResizeRow.func = some 7 by kernel_rfl).symm.trans hf) |>.symm
      obtain rfl : fn = Tryd.f7 := (Option.some.inj (Tryd.func7.symm.trans hfn)).symm
      exact ⟨by kernel_rfl, fun j t ht => by
        rw [Tryd.params7] at ht
        have hm : t ∈ [26, 3, 3] := by simpa using Array.mem_of_getElem? ht
        have hall : ([26, 3, 3].all fun u => !Tryd.prog.wantsStandIn u) = true := by kernel_rfl
        exact (show Tryd.prog.wantsStandIn t = false by simpa using List.all_eq_true.1 hall t hm)⟩)
    (by kernel_rfl)
#print axioms fnExactResize_card_holds
--@endcard
end Go.Proofs.YtlnmpbdnmlpkiaaDoor
