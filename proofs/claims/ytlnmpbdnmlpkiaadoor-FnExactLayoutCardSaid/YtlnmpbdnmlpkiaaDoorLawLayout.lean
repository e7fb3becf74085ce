import Derived.Test.YtlnmpbdnmlpkiaaDoorGenLayout
import Derived.Test.YtlnmpbdnmlpkiaaDoorLayI2
import Derived.Test.YtlnmpbdnmlpkiaaDoorLayS2
import Derived.Test.YtlnmpbdnmlpkiaaDoorKdBlk
import Derived.Test.YtlnmpbdnmlpkiaaDoorTab
import Derived.Test.YtlnmpbdnmlpkiaaDoorRows
import Derived.Test.YtlnmpbdnmlpkiaaDoorTie
import Derived.Test.YtlnmpbdnmlpkiaaDoorCards
import Derived.SevenTiedAt
import Derived.Lay
import Derived.ChangeMaps5
import Derived.LaidMore
import Derived.Lib.LaidU8
import Derived.Stop.Joined
import Derived.PinnedBridge
namespace Go.Proofs.YtlnmpbdnmlpkiaaDoor
open Go.ChangeShapes Go.WideShapes Go.ChangeAt Go.RowKit Go.Deep

theorem own1_nil (w : World) (b : Nat) (T : TypeId) (A : Nat → Value) : Own1 w b T (.slice none 0 0) 0 A := ⟨[], owns_nil w b T 1, fun j hj => by omega⟩
set_option maxRecDepth 10000 in
set_option maxHeartbeats 1000000 in
theorem fnExactLayout_walk (s0 a b c : ByteArray) (u : Value) (n : Nat) (tx hf : Nat → ByteArray) (x y : Int) (w : World) (hu : Row2At w u n (fun j => .string (tx j)) (fun j => .string (hf j))) (h0 : s0.size ≤ maxLen) (ha : a.size ≤ maxLen) (hb : b.size ≤ maxLen) (hc : c.size ≤ maxLen) (hn : n ≤ maxLen) (hx : ∀ j, j < n → (tx j).size ≤ maxLen ∧ (hf j).size ≤ maxLen) (hT : Laid w) :
    Calls Tryd.prog 6 #[.string s0, .agg #[.string a, .string b, .string c, u], .int .i64 x, .int .i64 y] w fun e w' => e = .returned (.bool true) ∧ Below w.heap.size w w' := by
  unfold maxLen at h0 ha hb hc hn hx
  obtain ⟨ua, uc, rfl, _⟩ := id hu
  by_cases hl : s0.size ≤ 1048576
  case neg =>
    have hlI : (1048576 : Int) < (s0.size : Int) := by omega
    go_enter Tryd.func6, Tryd.ntmps6
    go_wp2
    go_ret
    exact ⟨rfl, ((Ext.refl _).alloc _).below⟩
  obtain ⟨N, TX, R, C, hN, hI, hS⟩ : ∃ (N : Nat) (TX : Nat → ByteArray) (R C : Int), N ≤ 100
      ∧ (a.size + b.size + c.size + (n + tl2 tx hf n) ≤ 1048576 → ∀ W ua un uc, Laid W → Calls Tryd.prog 33 #[.string s0, .agg (lcells a b c ua un uc), .int .i64 x, .int .i64 y] W fun e w' => ∃ v, e = .returned (.agg #[v, .int .i64 R, .int .i64 C]) ∧ Own1 w' W.heap.size 9 v N (fun i => .string (TX i)) ∧ Ext W w')
      ∧ (a.size + b.size + c.size + (n + tl2 tx hf n) ≤ 1048576 → ∀ W ua un uc, Calls Tryd.prog 32 #[.string s0, .agg (lcells a b c ua un uc), .int .i64 x, .int .i64 y] W fun e w' => ∃ v, e = .returned (.agg #[v, .int .i64 R, .int .i64 C]) ∧ Own1 w' W.heap.size 9 v N (fun i => .string (TX i)) ∧ Ext W w') := by
    cases hs : sizeB x y with
    | false =>
      refine ⟨0, fun _ => noT, 0, 0, by omega, fun _ W ua un uc _ => (implLayout_no s0 a b c ua un uc x y W hs).mono ?_, fun _ W ua un uc => (specLayout_no s0 a b c ua un uc x y W hs).mono ?_⟩
      all_goals
        rintro e w' ⟨rfl, E⟩
        exact ⟨_, rfl, own1_nil _ _ _ _, E⟩
    | true =>
      obtain ⟨cn, rn, rfl, rfl, _, _, _, hr⟩ := sizeB_open hs
      refine ⟨layCnt (cutC (baL s0) ++ cutC (baL a) ++ cutC (baL b)) cn ((cutC (baL s0)).length + (cutC (baL a)).length) rn, layT (cutC (baL s0) ++ cutC (baL a) ++ cutC (baL b)) cn ((cutC (baL s0)).length + (cutC (baL a)).length) rn, (layRow (cutC (baL s0) ++ cutC (baL a) ++ cutC (baL b)) cn ((cutC (baL s0)).length + (cutC (baL a)).length) : Int) - (layFr (cutC (baL s0) ++ cutC (baL a) ++ cutC (baL b)) cn ((cutC (baL s0)).length + (cutC (baL a)).length) rn : Int), layCol (cutC (baL s0) ++ cutC (baL a) ++ cutC (baL b)) cn ((cutC (baL s0)).length + (cutC (baL a)).length), ?_, fun hF W ua un uc hL => ?_, fun hF W ua un uc => ?_⟩
      · unfold layCnt
        omega
      · have h := implLayout_yes (baL s0) (baL a) (baL b) c ua un uc cn rn W hs (baL_bytes _) (baL_bytes _) (baL_bytes _) (by rw [baL_len]; omega) (by rw [baL_len]; omega) (by rw [baL_len]; omega) hL
        rw [toBA_baL, toBA_baL, toBA_baL] at h
        exact h
      · have h := specLayout_yes (baL s0) (baL a) (baL b) c ua un uc cn rn W hs (baL_bytes _) (baL_bytes _) (baL_bytes _) (by rw [baL_len]; omega) (by rw [baL_len]; omega) (by rw [baL_len]; omega)
        rw [toBA_baL, toBA_baL, toBA_baL] at h
        exact h
  refine law_Layout s0 a b c ua n uc x y w hl (lineK a b c n tx hf) (fun k => lineK a b c n (fun j => mtx (k + 2 * (j : Int))) (fun j => mtx (k + 2 * (j : Int) + 1))) (2 * n) (blkK N TX R C) (fun k => blkK N (fun j => mtx (k + (j : Int))) R C) N (a.size + b.size + c.size + (n + tl2 tx hf n) ≤ 1048576)
    ?_ ?_ ?_ ?_ ?_ ?_ ?_ ?_ ?_ ?_ ?_
  · refine hide (fun W hW => (szLine_any a b c _ n tx hf 1048576 W (hu.ext hW) (by omega) (by omega) (by omega) (by omega) (by omega) (by omega) (fun j hj => by have := hx j hj; omega)).mono ?_)
    rintro e w' ⟨r, rfl, hr, F⟩
    refine ⟨r, rfl, fun h0 => ?_, F⟩
    rcases hr with h1 | ⟨_, h1⟩ <;> omega
  · refine hide (fun hF W hW => (toLine_any a b c _ n tx hf W (hu.ext hW) (by omega)).mono ?_)
    rintro e w' ⟨rfl, o, F⟩
    exact ⟨_, _, rfl, lineK_own (o.mono (by omega)), F⟩
  · exact hide (fun W u hu => by
      obtain ⟨a1, a2, e⟩ := lineK_shape hu
      exact ⟨_, _, _, _, _, _, e⟩)
  · exact hide (fun hF => lineK_eq a b c n tx hf (by omega))
  · exact hide (fun hF => ⟨lineK_mark a b c n tx hf (by omega), by omega⟩)
  · refine hide (fun hF W u hW hu => ?_)
    obtain ⟨va, vc, rfl⟩ := lineK_shape hu
    refine (hS hF W va n vc).mono ?_
    rintro e w' ⟨v, rfl, o, F⟩
    exact ⟨_, rfl, (blkK N TX R C).reads (blkK_own o), F⟩
  · refine hide (fun hF W u hW hu => ?_)
    obtain ⟨va, vc, rfl⟩ := lineK_shape hu
    refine (hI hF W va n vc (hT.below hW.below)).mono ?_
    rintro e w' ⟨v, rfl, o, F⟩
    exact ⟨_, _, rfl, blkK_own o, F⟩
  · exact hide (fun W u hu => by
      obtain ⟨a1, a2, e⟩ := blkK_shape hu
      exact ⟨_, _, _, _, _, e⟩)
  · exact hide (fun hF => blkK_eq N TX R C (by omega))
  · exact hide (fun hF => ⟨blkK_mark N TX R C (by omega), by omega⟩)
  · exact hide (fun hF => blkK_held N R C (by omega))
--@card FnExactLayout | string ; laws.Line ; int ; int | .string noT, .agg #[.string noT, .string noT, .string noT, .slice none 0 0], .int .i64 0, .int .i64 0 | 1 | [.data] | obtain ⟨s0, rfl, rfl, rfl, z0⟩ := Go.ChangeMaps.open_string Tryd.underlying9 (hval 0 9 v0 rfl rfl) h0 ;; obtain ⟨a, b, c, u, n, tx, hf, rfl, c1, c2, c3, c4, c5, c6⟩ := line_came (hval 1 50 v1 rfl rfl) h1 ;; obtain ⟨a2, rfl, rfl, rfl, w2⟩ := open_int Tryd.underlying3 (hval 2 3 v2 rfl rfl) h2 ;; obtain ⟨a3, rfl, rfl, rfl, w3⟩ := open_int Tryd.underlying3 (hval 3 3 v3 rfl rfl) h3 | fnExactLayout_walk s0 a b c u n tx hf a2 a3 W c1 z0 c2 c3 c4 c5 c6 (of_laid hL)
set_option maxRecDepth 100000 in
theorem fnExactLayout_lifted (os : Os) (started : os.Started) (H : Type) (enc : TypeId × Value → H) :
    ReturnsInHanded {} Tryd.checked os 6 .any (fun w args => (Rows.fnExactLayoutSpec.pre enc Tryd.prog Tryd.f6 [] false w args ∧ laidMetH Tryd.prog Rows.fnExactLayoutRow.laid w) ∧ sizedMet enc Tryd.prog Tryd.f6 (OpenSpec.ofChange Rows.fnExactLayoutSpec) false w args)
      (Rows.fnExactLayoutSpec.post enc Tryd.prog Tryd.f6 false true false false) := by
  have own : ownKnob Tryd.prog.godebug = none := by kernel_rfl
  refine returnsInHanded_of_change_and (C := Tryd.checked) (X := fun w _ => laidMetH Tryd.prog Rows.fnExactLayoutRow.laid w) (fun _ _ _ hh h => h.of_heap hh) own started (by kernel_rfl) Tryd.func6
    (ChangeSpec.witness_shaped (enc := enc) (C := Tryd.checked) (os := os) (X := fun w _ => laidMetH Tryd.prog Rows.fnExactLayoutRow.laid w) false (World.laidAll Tryd.prog os Rows.fnExactLayoutRow.laid) #[.string noT, .agg #[.string noT, .string noT, .string noT, .slice none 0 0], .int .i64 0, .int .i64 0] 8 (World.laidAll_os _ _ _)
      (World.shaped_of_ZipB (by kernel_rfl) (by kernel_rfl)) (by kernel_rfl) (by kernel_rfl) (by kernel_rfl)
      (by rw [MakeChecks.laidMetH_plain _ _ _ (by kernel_rfl)]; exact laidMet_laidAll _ (by kernel_rfl) (by kernel_rfl))) ?_
  intro W base args ds gs before hval0 hW _ _ hL _
  have hval : ∀ (j : Nat) t v, Tryd.f6.params[j]? = some t → args[j]? = some v → Value.okWide Tryd.prog W .any base t v := hval0
  have hW' := hW
  obtain ⟨p, q, hA0, hV0, rfl, hfz, hnd⟩ := hW
  have hV : DataW.TrodVars enc Tryd.prog W (fun _ => true) [Rows.fnExactLayoutSpec.vars.headD ""] gs q := hV0
  have hA : DataW.TrodAll enc Tryd.prog W 0 (fun _ => true) true Tryd.f6.params.toList args.toList ds p := hA0
  rw [Tryd.params6] at hA hval
  obtain ⟨v0, v1, v2, v3, d0, d1, d2, d3, p0, p1, p2, p3, rfl, rfl, rfl, h0, h1, h2, h3⟩ := trodAll_four hA
  obtain ⟨g, t, cs, fuel, d, p', rfl, _, _, _, _, _⟩ := trodVars_one hV
  obtain ⟨s0, rfl, rfl, rfl, z0⟩ := Go.ChangeMaps.open_string Tryd.underlying9 (hval 0 9 v0 rfl rfl) h0
  obtain ⟨a, b, c, u, n, tx, hf, rfl, c1, c2, c3, c4, c5, c6⟩ := line_came (hval 1 50 v1 rfl rfl) h1
  obtain ⟨a2, rfl, rfl, rfl, w2⟩ := open_int Tryd.underlying3 (hval 2 3 v2 rfl rfl) h2
  obtain ⟨a3, rfl, rfl, rfl, w3⟩ := open_int Tryd.underlying3 (hval 3 3 v3 rfl rfl) h3
  clear hA0 hval0
  refine (fnExactLayout_walk s0 a b c u n tx hf a2 a3 W c1 z0 c2 c3 c4 c5 c6 (of_laid hL)).mono fun e W' ⟨he, hb⟩ => ?_
  subst he
  exact ⟨_, rfl, post_law (by kernel_rfl) (by kernel_rfl) (by kernel_rfl) (bt := 4) (by kernel_rfl) Tryd.underlying4 hW' rfl hb⟩

theorem fnExactLayout_holds : Rows.FnExactLayoutSaid :=
  OpenClaim.holds_of_wide 6 Tryd.f6 rfl rfl rfl rfl rfl rfl rfl ⟨rfl, rfl, rfl, rfl, rfl⟩ rfl rfl rfl rfl rfl (by kernel_rfl) Tryd.func6 (by kernel_rfl)
    (of_decide_eq_true (by kernel_rfl)) (by unfold Func.isWrapper; first | (rw [if_pos (by decide +kernel)]; kernel_rfl) | (rw [if_neg (by decide +kernel)]; exact ⟨rfl, rfl⟩))
    (fun os started H enc _ => fnExactLayout_lifted os started H enc)

theorem fnExactLayout_card_holds : Rows.FnExactLayoutCardSaid :=
  Claim7.holds_tied_plain_at .later [] [.data] true Rows.fnExactLayoutCard.stood.harness false
    fnExactLayout_holds (fun _ h => by cases h) (by kernel_rfl) (fun _ h => by cases h) fnExactLayout_row_tie rfl ⟨rfl, rfl⟩ (by kernel_rfl) rfl
    (fun f fn hf hfn => by
      obtain rfl : f = 6 := Option.some.inj ((show Tryd.prog.funcNamed Rows.fnExactLayoutRow.func = some 6 by kernel_rfl).symm.trans hf) |>.symm
      obtain rfl : fn = Tryd.f6 := (Option.some.inj (Tryd.func6.symm.trans hfn)).symm
      exact ⟨by kernel_rfl, fun j t ht => by
        rw [Tryd.params6] at ht
        have hm : t ∈ [9, 50, 3, 3] := by simpa using Array.mem_of_getElem? ht
        have hall : ([9, 50, 3, 3].all fun u => !Tryd.prog.wantsStandIn u) = true := by kernel_rfl
        exact (show Tryd.prog.wantsStandIn t = false by simpa using List.all_eq_true.1 hall t hm)⟩)
    (by kernel_rfl)
#print axioms fnExactLayout_card_holds
--@endcard
end Go.Proofs.YtlnmpbdnmlpkiaaDoor
