import Derived.Test.YteabhioifedgeaaGreatDoorGenView
import Derived.Test.YteabhioifedgeaaGreatDoorSesTo
import Derived.Test.YteabhioifedgeaaGreatDoorSesMark
import Derived.Test.YteabhioifedgeaaGreatDoorViewS
import Derived.Test.YteabhioifedgeaaGreatDoorHTab
import Derived.Test.YteabhioifedgeaaGreatDoorRows
import Derived.Test.YteabhioifedgeaaGreatDoorTie
import Derived.Test.YteabhioifedgeaaGreatDoorCards
import Derived.SevenTiedAt
import Derived.Lay
import Derived.LaidMore
import Derived.Lib.LaidU8
import Derived.Stop.Joined
import Derived.PinnedBridge
namespace Go.Proofs.YteabhioifedgeaaGreatDoor
open Go.ChangeShapes Go.WideShapes Go.ChangeAt Go.RowKit Go.Deep

theorem own1_none (w : World) (b : Nat) (T : TypeId) (A : Nat → Value) : Own1 w b T (.slice none 0 0) 0 A := ⟨[], owns_nil w b T 1, fun j hj => by omega⟩
theorem fnExactView_walk (s : SS) (u h p q l d : Value) (w : World) (hA : SesAt w s u h p q l d) (hC : s.Came) (hT : Tabs3 w) :
    Calls Tryz.prog 7 #[sesV s u h p q l d] w fun e w' => e = .returned (.bool true) ∧ Below w.heap.size w w' := by
  obtain ⟨N, TX, R, C, hN, hI, hS⟩ : ∃ (N : Nat) (TX : Nat → ByteArray) (R C : Int), (s.bulk ≤ 1048576 → N ≤ 1073741824)
      ∧ (s.bulk ≤ 1048576 → ∀ W u h p q l d, SesAt W s u h p q l d → Tabs3 W → Calls Tryz.prog 44 #[sesV s u h p q l d] W fun e w' => ∃ v, e = .returned (.tuple #[v, .int .i64 R, .int .i64 C]) ∧ Own1 w' W.heap.size 9 v N (fun i => .string (TX i)) ∧ Ext W w')
      ∧ (s.bulk ≤ 1048576 → ∀ W u h p q l d, SesAt W s u h p q l d → Calls Tryz.prog 42 #[sesV s u h p q l d] W fun e w' => ∃ v, e = .returned (.tuple #[v, .int .i64 R, .int .i64 C]) ∧ Own1 w' W.heap.size 9 v N (fun i => .string (TX i)) ∧ Ext W w') := by
    by_cases hok : SesP s
    · cases hst : s.st with
      | true =>
        refine ⟨s.ln + 1, fun i => if i < s.ln then s.lt i else noX, (s.ln : Int), 0, fun hb => by have := (SS.Sz.of_bulk hb).ln; omega, fun hb W u h p q l d o ht => ?_, fun hb W u h p q l d o => ?_⟩
        · exact implView_st s u h p q l d W o (SS.Sz.of_bulk hb) ht hok hst
        · exact specView_st s u h p q l d W o (SS.Sz.of_bulk hb) hok hst
      | false =>
        have hlt := s.blk_lt hok.2.1
        have hl2 := lastV_lt (fun i => trimS (s.blk.tx i)) s.blk.R s.blk.n hlt.1
        refine ⟨s.ln + (lastV (fun i => trimS (s.blk.tx i)) s.blk.R s.blk.n + 1), fun i => if i < s.ln then s.lt i else trimS (s.blk.tx (i - s.ln)), (s.ln : Int) + (s.blk.R : Int), s.blk.C, fun hb => by have := (SS.Sz.of_bulk hb).ln; omega, fun hb W u h p q l d o ht => ?_, fun hb W u h p q l d o => ?_⟩
        · exact implView_go s u h p q l d W o (SS.Sz.of_bulk hb) ht hok hst
        · exact specView_go s u h p q l d W o (SS.Sz.of_bulk hb) hok hst
    · refine ⟨0, fun _ => noX, 0, 0, fun _ => by omega, fun hb W u h p q l d o ht => ?_, fun hb W u h p q l d o => ?_⟩
      · refine (implView_no s u h p q l d W o (SS.Sz.of_bulk hb) ht hok).mono ?_
        rintro e w' ⟨rfl, E⟩
        exact ⟨_, rfl, own1_none _ _ _ _, E⟩
      · exact specView_no s u h p q l d W o (SS.Sz.of_bulk hb) hok
  obtain ⟨ua, uc, ha, hc, pa, pc, qa, qc, la, lc, da, dc, rfl, rfl, rfl, rfl, rfl, rfl⟩ := hA.forms
  refine law_View _ _ _ _ _ _ _ _ _ _ _ _ _ _ _ _ _ _ _ _ _ _ _ _ _ _ _ _ _ R C w (sesK s) (fun k => sesK (mkSS k s)) s.m (strsK N TX) (fun k => strsK N (fun j => mtx (k + (j : Int)))) N (s.bulk ≤ 1048576) ?_ ?_ ?_ ?_ ?_ ?_ ?_ ?_ ?_ ?_ ?_
  · refine hide (fun W hW => (szSession_any s _ _ _ _ _ _ 1048576 W (hA.ext hW) hC (by omega) (by omega)).mono ?_)
    rintro e w' ⟨r, rfl, hr, F⟩
    exact ⟨r, rfl, fun h0 => by have := hr h0; omega, F⟩
  · refine hide (fun hb W hW => (toSession_any s _ _ _ _ _ _ W (hA.ext hW) hb).mono ?_)
    rintro e w' ⟨u, h, p, q, l, d, rfl, o, F⟩
    exact ⟨_, _, rfl, sesK_own o, F⟩
  · exact hide (fun W u hu => by
      obtain ⟨ua, uc, ha, hc, pa, pc, qa, qc, la, lc, da, dc, e⟩ := sesK_shape hu
      exact ⟨_, _, _, _, _, _, _, _, _, _, _, _, _, _, _, _, _, _, _, _, _, _, _, _, _, _, _, _, _, e⟩)
  · exact hide (fun hb => sesK_eq s (by omega))
  · refine hide (fun hb => ⟨sesK_mark s (SS.Sz.of_bulk hb), ?_⟩)
    have hz := SS.Sz.of_bulk hb
    have z0 := hz.un
    have z1 := hz.kh
    have z2 := hz.pn
    have z3 := hz.qn
    have z4 := hz.ln
    have z5 := hz.dn
    unfold SS.m
    omega
  · refine hide (fun hb W v hW hv => ?_)
    obtain ⟨u, h, p, q, l, d, rfl, o⟩ := hv
    refine (hS hb W u h p q l d o).mono ?_
    rintro e w' ⟨v, rfl, o, F⟩
    exact ⟨_, rfl, o.reads, F⟩
  · refine hide (fun hb W v hW hv => ?_)
    obtain ⟨u, h, p, q, l, d, rfl, o⟩ := hv
    refine (hI hb W u h p q l d o (hT.ext hW)).mono ?_
    rintro e w' ⟨v, rfl, o, F⟩
    exact ⟨_, _, rfl, strsK_own o, F⟩
  · exact hide (fun W u hu => by
      obtain ⟨a1, a2, e⟩ := strsK_shape hu
      exact ⟨_, _, _, e⟩)
  · exact hide (fun hb => strsK_eq N TX (by have := hN hb; omega))
  · exact hide (fun hb => ⟨strsK_mark N TX (by have := hN hb; omega), hN hb⟩)
  · exact hide (fun hb => strsK_held N (by have := hN hb; omega))
--@card FnExactView | laws.Session | .agg #[.string noT, .int .i64 0, .int .i64 0, .string noT, .string noT, .string noT, .slice none 0 0, .slice none 0 0, .bool false, .bool false, .slice none 0 0, .int .i64 0, .string noT, .bool false, .slice none 0 0, .slice none 0 0, .slice none 0 0] | 1 | [.data, .data, .pinned] | obtain ⟨s, u, h, p, q, l, d, rfl, c1, c2⟩ := session_came (hval 0 74 v0 rfl rfl) h0 | fnExactView_walk s u h p q l d W c1 c2 (tabs3_of_laid hL)
set_option maxRecDepth 100000 in
theorem fnExactView_lifted (os : Os) (started : os.Started) (H : Type) (enc : TypeId × Value → H) :
    ReturnsInHanded {} Tryz.checked os 7 .any (fun w args => (Rows.fnExactViewSpec.pre enc Tryz.prog Tryz.f7 [] false w args ∧ laidMetH Tryz.prog Rows.fnExactViewRow.laid w) ∧ sizedMet enc Tryz.prog Tryz.f7 (OpenSpec.ofChange Rows.fnExactViewSpec) false w args)
      (Rows.fnExactViewSpec.post enc Tryz.prog Tryz.f7 false true false false) := by
  have own : ownKnob Tryz.prog.godebug = none := by kernel_rfl
  refine returnsInHanded_of_change_and (C := Tryz.checked) (X := fun w _ => laidMetH Tryz.prog Rows.fnExactViewRow.laid w) (fun _ _ _ hh h => h.of_heap hh) own started (by kernel_rfl) Tryz.func7
    (ChangeSpec.witness_shaped (enc := enc) (C := Tryz.checked) (os := os) (X := fun w _ => laidMetH Tryz.prog Rows.fnExactViewRow.laid w) false (World.laidAll Tryz.prog os Rows.fnExactViewRow.laid) #[.agg #[.string noT, .int .i64 0, .int .i64 0, .string noT, .string noT, .string noT, .slice none 0 0, .slice none 0 0, .bool false, .bool false, .slice none 0 0, .int .i64 0, .string noT, .bool false, .slice none 0 0, .slice none 0 0, .slice none 0 0]] 8 (World.laidAll_os _ _ _)
      (World.shaped_of_ZipB (by kernel_rfl) (by kernel_rfl)) (by kernel_rfl) (by kernel_rfl) (by kernel_rfl)
      (by rw [MakeChecks.laidMetH_plain _ _ _ (by kernel_rfl)]; exact laidMet_laidAll _ (by kernel_rfl) (by kernel_rfl))) ?_
  intro W base args ds gs before hval0 hW _ _ hL _
  have hval : ∀ (j : Nat) t v, Tryz.f7.params[j]? = some t → args[j]? = some v → Value.okWide Tryz.prog W .any base t v := hval0
  have hW' := hW
  obtain ⟨p, q, hA0, hV0, rfl, hfz, hnd⟩ := hW
  have hV : DataW.TrodVars enc Tryz.prog W (fun _ => true) [Rows.fnExactViewSpec.vars.headD ""] gs q := hV0
  have hA : DataW.TrodAll enc Tryz.prog W 0 (fun _ => true) true Tryz.f7.params.toList args.toList ds p := hA0
  rw [Tryz.params7] at hA hval
  obtain ⟨v0, d0, rfl, rfl, h0⟩ := trodAll_one hA
  obtain ⟨g, t, cs, fuel, d, p', rfl, _, _, _, _, _⟩ := trodVars_one hV
  obtain ⟨s, u, h, p, q, l, d, rfl, c1, c2⟩ := session_came (hval 0 74 v0 rfl rfl) h0
  clear hA0 hval0
  refine (fnExactView_walk s u h p q l d W c1 c2 (tabs3_of_laid hL)).mono fun e W' ⟨he, hb⟩ => ?_
  subst he
  exact ⟨_, rfl, post_law (by kernel_rfl) (by kernel_rfl) (by kernel_rfl) (bt := 4) (by kernel_rfl) Tryz.underlying4 hW' rfl hb⟩

theorem fnExactView_holds : Rows.FnExactViewSaid :=
  OpenClaim.holds_of_wide 7 Tryz.f7 rfl rfl rfl rfl rfl rfl rfl ⟨rfl, rfl, rfl, rfl, rfl⟩ rfl rfl rfl rfl rfl (by kernel_rfl) Tryz.func7 (by kernel_rfl)
    (of_decide_eq_true (by kernel_rfl)) (by unfold Func.isWrapper; first | (rw [if_pos (by decide +kernel)]; kernel_rfl) | (rw [if_neg (by decide +kernel)]; exact ⟨rfl, rfl⟩))
    (fun os started H enc _ => fnExactView_lifted os started H enc)

theorem fnExactView_card_holds : Rows.FnExactViewCardSaid :=
  Claim7.holds_tied_plain_at .later [] [.data, .data, .pinned] true Rows.fnExactViewCard.stood.harness false
    fnExactView_holds (fun _ h => by cases h) (by kernel_rfl) (fun _ h => by cases h) fnExactView_row_tie rfl ⟨rfl, rfl⟩ (by kernel_rfl) rfl
    (fun f fn hf hfn => by
      obtain rfl : f = 7 := Option.some.inj ((show Tryz.prog.funcNamed Rows.fnExactViewRow.func = some 7 by kernel_rfl).symm.trans hf) |>.symm
      obtain rfl : fn = Tryz.f7 := (Option.some.inj (Tryz.func7.symm.trans hfn)).symm
      exact ⟨by kernel_rfl, fun j t ht => by
        rw [Tryz.params7] at ht
        have hm : t ∈ [74] := by simpa using Array.mem_of_getElem? ht
        have hall : ([74].all fun u => !Tryz.prog.wantsStandIn u) = true := by kernel_rfl
        exact (show Tryz.prog.wantsStandIn t = false by simpa using List.all_eq_true.1 hall t hm)⟩)
    (by kernel_rfl)
#print axioms fnExactView_card_holds
--@endcard
end Go.Proofs.YteabhioifedgeaaGreatDoor
