import Derived.Test.YtlnmpbdnmlpkiaaDoorGenSessionOk
import Derived.Test.YtlnmpbdnmlpkiaaDoorSesTo
import Derived.Test.YtlnmpbdnmlpkiaaDoorSesOkS2
import Derived.Test.YtlnmpbdnmlpkiaaDoorHTab
import Derived.Test.YtlnmpbdnmlpkiaaDoorRows
import Derived.Test.YtlnmpbdnmlpkiaaDoorTie
import Derived.Test.YtlnmpbdnmlpkiaaDoorCards
import Derived.SevenTiedAt
import Derived.Lay
import Derived.LaidMore
import Derived.Lib.LaidU8
import Derived.Stop.Joined
import Derived.PinnedBridge
namespace Go.Proofs.YtlnmpbdnmlpkiaaDoor
open Go.ChangeShapes Go.WideShapes Go.ChangeAt Go.RowKit Go.Deep

theorem fnExactSessionOk_walk (s : SS) (u h p q l d : Value) (w : World) (hA : SesAt w s u h p q l d) (hC : s.Came) (hT : Tabs3 w) :
    Calls Tryd.prog 8 #[sesV s u h p q l d] w fun e w' => e = .returned (.bool true) ∧ Below w.heap.size w w' := by
  obtain ⟨ok, hok⟩ := ex_bool (SesP s)
  obtain ⟨ua, uc, ha, hc, pa, pc, qa, qc, la, lc, da, dc, rfl, rfl, rfl, rfl, rfl, rfl⟩ := hA.forms
  refine law_SessionOk _ _ _ _ _ _ _ _ _ _ _ _ _ _ _ _ _ _ _ _ _ _ _ _ _ _ _ _ _ ok w (sesK s) (s.bulk ≤ 1048576) ?_ ?_ ?_ ?_ ?_ ?_
  · refine hide (fun W hW => (szSession_any s _ _ _ _ _ _ 1048576 W (hA.ext hW) hC (by omega) (by omega)).mono ?_)
    rintro e w' ⟨r, rfl, hr, F⟩
    exact ⟨r, rfl, fun h0 => by have := hr h0; omega, F⟩
  · refine hide (fun hb W hW => (toSession_any s _ _ _ _ _ _ W (hA.ext hW) hb).mono ?_)
    rintro e w' ⟨u, h, p, q, l, d, rfl, o, F⟩
    exact ⟨_, _, rfl, sesK_own o, F⟩
  · exact hide (fun W u hu => by
      obtain ⟨ua, uc, ha, hc, pa, pc, qa, qc, la, lc, da, dc, e⟩ := sesK_shape hu
      exact ⟨_, _, _, _, _, _, _, _, _, _, _, _, _, _, _, _, _, _, _, _, _, _, _, _, _, _, _, _, _, e⟩)
  · exact hide (fun hb => sesK_eq s (by omega))
  · refine hide (fun hb W v hW hv => ?_)
    obtain ⟨u, h, p, q, l, d, rfl, o⟩ := hv
    exact specSessionOk_any s u h p q l d W o (SS.Sz.of_bulk hb) ok hok
  · refine hide (fun hb W v hW hv => ?_)
    obtain ⟨u, h, p, q, l, d, rfl, o⟩ := hv
    exact implSessionOk_any s u h p q l d W o (SS.Sz.of_bulk hb) (hT.ext hW) ok hok
--@card FnExactSessionOk | laws.Session | .agg #[.string noT, .int .i64 0, .int .i64 0, .string noT, .string noT, .string noT, .slice none 0 0, .slice none 0 0, .bool false, .bool false, .slice none 0 0, .int .i64 0, .string noT, .bool false, .slice none 0 0, .slice none 0 0, .slice none 0 0] | 1 | [.data, .data, .pinned] | obtain ⟨s, u, h, p, q, l, d, rfl, c1, c2⟩ := session_came (hval 0 73 v0 rfl rfl) h0 | fnExactSessionOk_walk s u h p q l d W c1 c2 (tabs3_of_laid hL)
set_option maxRecDepth 100000 in
theorem fnExactSessionOk_lifted (os : Os) (started : os.Started) (H : Type) (enc : TypeId × Value → H) :
    ReturnsInHanded {} Tryd.checked os 8 .any (fun w args => (Rows.fnExactSessionOkSpec.pre enc Tryd.prog Tryd.f8 [] false w args ∧ laidMetH Tryd.prog Rows.fnExactSessionOkRow.laid w) ∧ sizedMet enc Tryd.prog Tryd.f8 (OpenSpec.ofChange Rows.fnExactSessionOkSpec) false w args)
      (Rows.fnExactSessionOkSpec.post enc Tryd.prog Tryd.f8 false true false false) := by
  have own : ownKnob Tryd.prog.godebug = none := by kernel_rfl
  refine returnsInHanded_of_change_and (C := Tryd.checked) (X := fun w _ => laidMetH Tryd.prog Rows.fnExactSessionOkRow.laid w) (fun _ _ _ hh h => h.of_heap hh) own started (by kernel_rfl) Tryd.func8
    (ChangeSpec.witness_shaped (enc := enc) (C := Tryd.checked) (os := os) (X := fun w _ => laidMetH Tryd.prog Rows.fnExactSessionOkRow.laid w) false (World.laidAll Tryd.prog os Rows.fnExactSessionOkRow.laid) #[.agg #[.string noT, .int .i64 0, .int .i64 0, .string noT, .string noT, .string noT, .slice none 0 0, .slice none 0 0, .bool false, .bool false, .slice none 0 0, .int .i64 0, .string noT, .bool false, .slice none 0 0, .slice none 0 0, .slice none 0 0]] 8 (World.laidAll_os _ _ _)
      (World.shaped_of_ZipB (by kernel_rfl) (by kernel_rfl)) (by kernel_rfl) (by kernel_rfl) (by kernel_rfl)
      (by rw [MakeChecks.laidMetH_plain _ _ _ (by kernel_rfl)]; exact laidMet_laidAll _ (by kernel_rfl) (by kernel_rfl))) ?_
  intro W base args ds gs before hval0 hW _ _ hL _
  have hval : ∀ (j : Nat) t v, Tryd.f8.params[j]? = some t → args[j]? = some v → Value.okWide Tryd.prog W .any base t v := hval0
  have hW' := hW
  obtain ⟨p, q, hA0, hV0, rfl, hfz, hnd⟩ := hW
  have hV : DataW.TrodVars enc Tryd.prog W (fun _ => true) [Rows.fnExactSessionOkSpec.vars.headD ""] gs q := hV0
  have hA : DataW.TrodAll enc Tryd.prog W 0 (fun _ => true) true Tryd.f8.params.toList args.toList ds p := hA0
  rw [Tryd.params8] at hA hval
  obtain ⟨v0, d0, rfl, rfl, h0⟩ := trodAll_one hA
  obtain ⟨g, t, cs, fuel, d, p', rfl, _, _, _, _, _⟩ := trodVars_one hV
  obtain ⟨s, u, h, p, q, l, d, rfl, c1, c2⟩ := session_came (hval 0 73 v0 rfl rfl) h0
  clear hA0 hval0
  refine (fnExactSessionOk_walk s u h p q l d W c1 c2 (tabs3_of_laid hL)).mono fun e W' ⟨he, hb⟩ => ?_
  subst he
  exact ⟨_, rfl, post_law (by kernel_rfl) (by kernel_rfl) (by kernel_rfl) (bt := 4) (by kernel_rfl) Tryd.underlying4 hW' rfl hb⟩

theorem fnExactSessionOk_holds : Rows.FnExactSessionOkSaid :=
  OpenClaim.holds_of_wide 8 Tryd.f8 rfl rfl rfl rfl rfl rfl rfl ⟨rfl, rfl, rfl, rfl, rfl⟩ rfl rfl rfl rfl rfl (by kernel_rfl) Tryd.func8 (by kernel_rfl)
    (of_decide_eq_true (by kernel_rfl)) (by unfold Func.isWrapper; first | (rw [if_pos (by decide +kernel)]; kernel_rfl) | (rw [if_neg (by decide +kernel)]; exact ⟨rfl, rfl⟩))
    (fun os started H enc _ => fnExactSessionOk_lifted os started H enc)

theorem fnExactSessionOk_card_holds : Rows.FnExactSessionOkCardSaid :=
  Claim7.holds_tied_plain_at .later [] [.data, .data, .pinned] true Rows.fnExactSessionOkCard.stood.harness false
    fnExactSessionOk_holds (fun _ h => by cases h) (by kernel_rfl) (fun _ h => by cases h) fnExactSessionOk_row_tie rfl ⟨rfl, rfl⟩ (by kernel_rfl) rfl
    (fun f fn hf hfn => by
      obtain rfl : f = 8 := Option.some.inj ((show Tryd.prog.funcNamed Rows.fnExactSessionOkRow.func = some 8 by kernel_rfl).symm.trans hf) |>.symm
      obtain rfl : fn = Tryd.f8 := (Option.some.inj (Tryd.func8.symm.trans hfn)).symm
      exact ⟨by kernel_rfl, fun j t ht => by
        rw [Tryd.params8] at ht
        have hm : t ∈ [73] := by simpa using Array.mem_of_getElem? ht
        have hall : ([73].all fun u => !Tryd.prog.wantsStandIn u) = true := by kernel_rfl
        exact (show Tryd.prog.wantsStandIn t = false by simpa using List.all_eq_true.1 hall t hm)⟩)
    (by kernel_rfl)
#print axioms fnExactSessionOk_card_holds
--@endcard
end Go.Proofs.YtlnmpbdnmlpkiaaDoor
