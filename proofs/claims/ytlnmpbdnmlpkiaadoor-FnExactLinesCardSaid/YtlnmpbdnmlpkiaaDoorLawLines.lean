import Derived.Test.YtlnmpbdnmlpkiaaDoorGenLines
import Derived.Test.YtlnmpbdnmlpkiaaDoorLinesS
import Derived.Test.YtlnmpbdnmlpkiaaDoorKdScr
import Derived.Test.YtlnmpbdnmlpkiaaDoorCameScr
import Derived.Test.YtlnmpbdnmlpkiaaDoorRows
import Derived.Test.YtlnmpbdnmlpkiaaDoorTie
import Derived.Test.YtlnmpbdnmlpkiaaDoorCards
import Derived.SevenTiedAt
import Derived.Lay
import Derived.LaidMore
import Derived.Lib.LaidU8
import Derived.Stop.Joined
import Derived.PinnedBridge
namespace Go.Proofs.YtlnmpbdnmlpkiaaDoor
open Go.ChangeShapes Go.WideShapes Go.ChangeAt Go.RowKit Go.Deep

theorem gl_row (C : Nat → Nat) (t : Nat → Nat → ByteArray) (R i : Nat) (h : i < R) : C i + tl (t i) (C i) ≤ gl C t R := by
  have := gl_le C t R (i + 1) (by omega)
  rw [gl] at this
  omega
theorem rsz_tl (t : Nat → ByteArray) : ∀ n, rsz t n = n + tl t n
  | 0 => rfl
  | n + 1 => by rw [rsz, tl, rsz_tl t n]; omega
theorem SD.Fits.of_bulk {s : SD} (h : s.bulk ≤ 1048576) : s.Fits := by
  unfold SD.bulk at h
  exact ⟨by omega, fun i hi => by have := gl_row s.C s.tx s.R i hi; omega, by omega, by omega⟩
theorem SD.texts_of_bulk {s : SD} (h : s.bulk ≤ 1048576) : s.Texts := by
  unfold SD.bulk at h
  intro i hi
  have := gl_row s.C s.tx s.R i hi
  rw [rsz_tl]
  omega
theorem SD.sum_of_bulk {s : SD} (h : s.bulk ≤ 1048576) : sumC s.C s.R ≤ 1048576 := by
  unfold SD.bulk at h
  have := sumC_gl s.C s.tx s.R
  omega
theorem fnExactLines_walk (s : SD) (gv hv bv : Value) (w : World) (h : ScrAt w s gv hv bv) (hC : s.Came) :
    Calls Tryd.prog 3 #[scrV s gv hv bv] w fun e w' => e = .returned (.bool true) ∧ Below w.heap.size w w' := by
  obtain ⟨ok, hok⟩ : ∃ b : Bool, b = true ↔ OkP s := by
    classical exact ⟨decide (OkP s), by simp⟩
  obtain ⟨ga, gc, ha, hc, ba, bc, rfl, rfl, rfl⟩ := h.forms
  have hN : s.bulk ≤ 1048576 → (if ok = true then linN s else 0) ≤ 1048676 := by
    intro hb
    split
    · rename_i ho
      have h1 := shN_le s s.R
      have h2 := (hok.1 ho).R
      obtain ⟨cn, rn, ec, er, c2, c200, r1, r100⟩ := sizeB_open (hok.1 ho).size
      have := (SD.Fits.of_bulk hb).nb
      unfold linN
      omega
    · omega
  refine law_Lines _ _ _ _ _ _ _ _ _ _ _ _ _ _ w (scrK s) (fun k => scrK (mkSD k s)) (scrM s) (strsK (if ok = true then linN s else 0) (linT s)) (fun k => strsK (if ok = true then linN s else 0) (fun j => mtx (k + (j : Int)))) (if ok = true then linN s else 0) (s.bulk ≤ 1048576)
    ?_ ?_ ?_ ?_ ?_ ?_ ?_ ?_ ?_ ?_ ?_
  · refine hide (fun W hW => (szScreen_any s _ _ _ 1048576 W (h.ext hW) hC (by omega) (by omega)).mono ?_)
    rintro e w' ⟨r, rfl, hr, F⟩
    refine ⟨r, rfl, fun h0 => ?_, F⟩
    rcases hr with ⟨h1, _⟩ | ⟨h1, _⟩ <;> omega
  · refine hide (fun hb W hW => (toScreen_any s _ _ _ W (h.ext hW) (SD.Fits.of_bulk hb)).mono ?_)
    rintro e w' ⟨g', rv, h', b', rfl, o, F⟩
    exact ⟨_, _, rfl, scrK_own o, F⟩
  · exact hide (fun W u hu => by
      obtain ⟨a1, a2, a3, a4, a5, a6, e⟩ := scrK_shape hu
      exact ⟨_, _, _, _, _, _, _, _, _, _, _, _, _, _, e⟩)
  · exact hide (fun hb => scrK_eq s (SD.Fits.of_bulk hb))
  · exact hide (fun hb => ⟨scrK_mark s (SD.Fits.of_bulk hb) (by have := SD.sum_of_bulk hb; omega), by
      have h1 := SD.sum_of_bulk hb
      have h2 := (SD.Fits.of_bulk hb).hold
      have h3 := (SD.Fits.of_bulk hb).nb
      unfold scrM
      omega⟩)
  · refine hide (fun hb W u hW hu => ?_)
    obtain ⟨g', h', b', rfl, hr⟩ := hu
    refine (specLines_any s g' h' b' ok hok W hr (SD.Fits.of_bulk hb) (SD.texts_of_bulk hb)).mono ?_
    rintro e w' ⟨v, rfl, o, F⟩
    exact ⟨_, _, rfl, strsK_own o, F⟩
  · refine hide (fun hb W u hW hu => ?_)
    obtain ⟨g', h', b', rfl, hr⟩ := hu
    refine (implLines_any s g' h' b' ok hok W hr (SD.Fits.of_bulk hb) (SD.texts_of_bulk hb)).mono ?_
    rintro e w' ⟨v, rfl, o, F⟩
    exact ⟨_, _, rfl, strsK_own o, F⟩
  · exact hide (fun W u hu => by
      obtain ⟨a, c, e⟩ := strsK_shape hu
      exact ⟨_, _, _, e⟩)
  · exact hide (fun hb => strsK_eq _ _ (by have := hN hb; omega))
  · exact hide (fun hb => ⟨strsK_mark _ _ (by have := hN hb; omega), by have := hN hb; omega⟩)
  · exact hide (fun hb => strsK_held _ (by have := hN hb; omega))
--@card FnExactLines | laws.Screen | .agg #[.int .i64 0, .int .i64 0, .slice none 0 0, .int .i64 0, .int .i64 0, .bool false, .slice none 0 0, .slice none 0 0] | 0 | [.data, .pinned] | obtain ⟨s, gv, hv, bv, rfl, c1, c2⟩ := scr_came (hval 0 26 v0 rfl rfl) h0 | fnExactLines_walk s gv hv bv W c1 c2
set_option maxRecDepth 100000 in
theorem fnExactLines_lifted (os : Os) (started : os.Started) (H : Type) (enc : TypeId × Value → H) :
    ReturnsInHanded {} Tryd.checked os 3 .any (fun w args => (Rows.fnExactLinesSpec.pre enc Tryd.prog Tryd.f3 [] false w args ∧ laidMetH Tryd.prog Rows.fnExactLinesRow.laid w) ∧ sizedMet enc Tryd.prog Tryd.f3 (OpenSpec.ofChange Rows.fnExactLinesSpec) false w args)
      (Rows.fnExactLinesSpec.post enc Tryd.prog Tryd.f3 false true false false) := by
  have own : ownKnob Tryd.prog.godebug = none := by kernel_rfl
  refine returnsInHanded_of_change_and (C := Tryd.checked) (X := fun w _ => laidMetH Tryd.prog Rows.fnExactLinesRow.laid w) (fun _ _ _ hh h => h.of_heap hh) own started (by kernel_rfl) Tryd.func3
    (ChangeSpec.witness_shaped (enc := enc) (C := Tryd.checked) (os := os) (X := fun w _ => laidMetH Tryd.prog Rows.fnExactLinesRow.laid w) false (World.laidAll Tryd.prog os Rows.fnExactLinesRow.laid) #[.agg #[.int .i64 0, .int .i64 0, .slice none 0 0, .int .i64 0, .int .i64 0, .bool false, .slice none 0 0, .slice none 0 0]] 8 (World.laidAll_os _ _ _)
      (World.shaped_of_ZipB (by kernel_rfl) (by kernel_rfl)) (by kernel_rfl) (by kernel_rfl) (by kernel_rfl)
      (by rw [MakeChecks.laidMetH_plain _ _ _ (by kernel_rfl)]; exact laidMet_laidAll _ (by kernel_rfl) (by kernel_rfl))) ?_
  intro W base args ds gs before hval0 hW _ _ hL _
  have hval : ∀ (j : Nat) t v, Tryd.f3.params[j]? = some t → args[j]? = some v → Value.okWide Tryd.prog W .any base t v := hval0
  have hW' := hW
  obtain ⟨p, q, hA0, hV0, rfl, hfz, hnd⟩ := hW
  have hA : DataW.TrodAll enc Tryd.prog W 0 (fun _ => true) true Tryd.f3.params.toList args.toList ds p := hA0
  rw [Tryd.params3] at hA hval
  obtain ⟨v0, d0, rfl, rfl, h0⟩ := trodAll_one hA
  obtain ⟨rfl, rfl⟩ := trodVars_none hV0
  obtain ⟨s, gv, hv, bv, rfl, c1, c2⟩ := scr_came (hval 0 26 v0 rfl rfl) h0
  clear hA0 hval0
  refine (fnExactLines_walk s gv hv bv W c1 c2).mono fun e W' ⟨he, hb⟩ => ?_
  subst he
  exact ⟨_, rfl, post_law (by kernel_rfl) (by kernel_rfl) (by kernel_rfl) (bt := 4) (by kernel_rfl) Tryd.underlying4 hW' rfl hb⟩

theorem fnExactLines_holds : Rows.FnExactLinesSaid :=
  OpenClaim.holds_of_wide 3 Tryd.f3 rfl rfl rfl rfl rfl rfl rfl ⟨rfl, rfl, rfl, rfl, rfl⟩ rfl rfl rfl rfl rfl (by kernel_rfl) Tryd.func3 (by kernel_rfl)
    (of_decide_eq_true (by kernel_rfl)) (by unfold Func.isWrapper; first | (rw [if_pos (by decide +kernel)]; kernel_rfl) | (rw [if_neg (by decide +kernel)]; exact ⟨rfl, rfl⟩))
    (fun os started H enc _ => fnExactLines_lifted os started H enc)

theorem fnExactLines_card_holds : Rows.FnExactLinesCardSaid :=
  Claim7.holds_tied_plain_at .later [] [.data, .pinned] true Rows.fnExactLinesCard.stood.harness false
    fnExactLines_holds (fun _ h => by cases h) (by kernel_rfl) (fun _ h => by cases h) fnExactLines_row_tie rfl ⟨rfl, rfl⟩ (by kernel_rfl) rfl
    (fun f fn hf hfn => by
      obtain rfl : f = 3 := Option.some.inj ((show Tryd.prog.funcNamed Rows.fnExactLinesRow.func = some 3 by kernel_rfl).symm.trans hf) |>.symm
      obtain rfl : fn = Tryd.f3 := (Option.some.inj (Tryd.func3.symm.trans hfn)).symm
      exact ⟨by kernel_rfl, fun j t ht => by
        rw [Tryd.params3] at ht
        have hm : t ∈ [26] := by simpa using Array.mem_of_getElem? ht
        have hall : ([26].all fun u => !Tryd.prog.wantsStandIn u) = true := by kernel_rfl
        exact (show Tryd.prog.wantsStandIn t = false by simpa using List.all_eq_true.1 hall t hm)⟩)
    (by kernel_rfl)
#print axioms fnExactLines_card_holds
--@endcard
end Go.Proofs.YtlnmpbdnmlpkiaaDoor
