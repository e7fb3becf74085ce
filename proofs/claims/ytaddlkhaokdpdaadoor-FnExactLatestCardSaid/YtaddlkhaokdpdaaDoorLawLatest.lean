import Derived.Test.YtaddlkhaokdpdaaDoorHTab
import Derived.Test.YtaddlkhaokdpdaaDoorLatest
import Derived.Test.YtaddlkhaokdpdaaDoorHst
import Derived.Test.YtaddlkhaokdpdaaDoorBlocks
import Derived.Test.YtaddlkhaokdpdaaDoorTie
import Derived.Test.YtaddlkhaokdpdaaDoorCards
import Derived.SevenTiedAt
import Derived.HandedShaped
import Derived.Lay
namespace Go.Proofs.YtaddlkhaokdpdaaDoor
open Go.ChangeShapes Go.WideShapes Go.ChangeAt Go.RowKit Go.Deep
set_option maxRecDepth 10000 in
set_option maxHeartbeats 4000000 in
theorem fnExactLatest_walk (cap : Int) (v : Value) (n : Nat) (tx : Nat → ByteArray) (part : ByteArray) (m : Int) (w : World) (hv : Row1At w v n (fun j => .string (tx j))) (hn9 : n ≤ maxLen) (hx9 : ∀ j, j < n → (tx j).size ≤ maxLen) (hp9 : part.size ≤ maxLen) (hm : w.cell? ⟨3, 0, none⟩ = some (.int .i64 m)) (hT : Tabs3 w) :
    Calls Tryd.prog 5 #[.agg #[.int .i64 cap, v], .string part] w fun e w' => e = .returned (.bool true) ∧ Below w.heap.size w w' := by
  obtain ⟨ok, hok⟩ : ∃ b : Bool, b = true ↔ HistP cap n tx := by
    by_cases h : HistP cap n tx
    · exact ⟨true, by simp [h]⟩
    · exact ⟨false, by simp [h]⟩
  have HK := hide hok
  obtain ⟨ao, ca, hvv, _, _⟩ := id hv
  subst hvv
  unfold maxLen at hn9 hx9 hp9
  have HM := hide hm
  clear hm
  by_cases hpl : 1048576 < part.size
  · have hpI : (1048576 : Int) < (part.size : Int) := by omega
    clear hv hT hx9 hok
    go_enter Tryd.func5, Tryd.ntmps5
    go_wp2
    go_ret
    exact ⟨rfl, ((Ext.refl w).alloc _).below⟩
  have hpI : ¬ (1048576 : Int) < (part.size : Int) := by omega
  have hcZ := hide (fun W (hW : Ext w W) => szHistory_any cap (.slice ao n ca) n tx 1048576 W (hv.ext hW) (by omega) (by omega) (by omega) (fun j hj => by have := hx9 j hj; omega))
  have hcT := hide (fun W (hW : Ext w W) (h : n ≤ 1048576) => toHistory_any cap (.slice ao n ca) n tx W (hv.ext hW) h)
  have HT := hide hT
  clear hv hT hx9 hok
  go_enter Tryd.func5, Tryd.ntmps5
  go_wp2_with fail
  obtain ⟨W0, hW0⟩ : ∃ W0, W0 = w.alloc (.cells #[.int .i64 cap, .slice ao n ca] 24) := ⟨_, rfl⟩
  rw [← hW0]
  have E0 : Ext w W0 := by rw [hW0]; exact (Ext.refl w).alloc _
  have hb0 : W0.heap[w.heap.size]? = some (.cells #[.int .i64 cap, .slice ao n ca] 24 (0, 0)) := by rw [hW0]; exact new_block w _
  have q0 := cells_of hb0 0 _ rfl
  have q1 := cells_of hb0 1 _ rfl
  clear hW0
  refine ((unhide hcZ) _ E0).mono ?_
  rintro e w1 ⟨r, rfl, hr, F1⟩
  have hN : 0 ≤ r → n + slen tx n ≤ 1048576 := by rcases hr with ⟨rfl, _⟩ | ⟨h1, h2⟩ <;> omega
  clear hr hcZ
  have d0 := F1.cell q0
  have d1 := F1.cell q1
  by_cases hr0 : r < 0
  · go_wp2
    go_ret
    exact ⟨rfl, (E0.trans F1).below⟩
  have hn : n + slen tx n ≤ 1048576 := hN (by omega)
  have hx : ∀ j, j < n → (tx j).size ≤ 1048576 := fun j hj => by
    have h1 := slen_le tx n (j + 1) (by omega)
    rw [slen] at h1
    omega
  have HX := hide hx
  clear hN hx
  go_wp2_with fail
  refine ((unhide hcT) _ (E0.trans F1) (by omega)).mono ?_
  rintro e w2 ⟨g2, rfl, o2, F2⟩
  have X2 := F1.trans F2
  obtain ⟨R, B, hRB⟩ : ∃ R B, latV (latR ok part tx n) = .tuple #[.string R, .bool B] := ⟨_, _, rfl⟩
  have hcS0 := (specLatest_any cap (.slice (some ⟨g2, 0, none⟩) n n) n tx part w2 o2.reads (by omega) (unhide HX) (by omega) ok (unhide HK))
  rw [hRB] at hcS0
  have hcS := hide hcS0
  clear hcS0
  have HRB := hide hRB
  clear hRB d0 d1 o2
  go_wp2_with fail
  refine (unhide hcS).mono ?_
  rintro e w3 ⟨rfl, F3⟩
  have X3 := X2.trans F3
  have d0 := X3.cell q0
  have d1 := X3.cell q1
  clear hcS
  go_wp2_with fail
  refine ((unhide hcT) _ (E0.trans X3) (by omega)).mono ?_
  rintro e w4 ⟨g4, rfl, o4, F4⟩
  have X4 := X3.trans F4
  have OX := hide o4
  have hb5 := new_block w4 (.cells #[.int .i64 cap, .slice (some ⟨g4, 0, none⟩) n n] 27)
  have F5 := (Ext.refl w4).alloc (.cells #[.int .i64 cap, .slice (some ⟨g4, 0, none⟩) n n] 27)
  have hcI0 := (fun W (hW : Ext w4 W) => implLatest_any cap (.slice (some ⟨g4, 0, none⟩) n n) n tx part m W (o4.ext hW).reads (by omega) (unhide HX) (((E0.trans X4).trans hW).cell (unhide HM)) ((unhide HT).ext ((E0.trans X4).trans hW)) ok (unhide HK))
  rw [unhide HRB] at hcI0
  have hcI := hide hcI0
  clear hcI0 d0 d1 o4
  go_wp2_with fail
  refine ((unhide hcI) _ F5).mono ?_
  rintro e w6 ⟨rfl, F6⟩
  have hb6 := F6.kept hb5
  have Y6 := F5.trans F6
  have X6 := X4.trans Y6
  have q0' := X6.cell q0
  have q1' := X6.cell q1
  have p0 := cells_of hb6 0 _ rfl
  have p1 := cells_of hb6 1 _ rfl
  have hto := hide (fun U (hU : Ext w6 U) => (unhide hcT) U ((E0.trans X6).trans hU) (by omega))
  clear hb5 hb6
  go_wp2
  go_region_held3 (fun W => W.cell? ⟨w.heap.size, 0, none⟩ = some (.int .i64 cap) ∧ W.cell? ⟨w.heap.size, 1, none⟩ = some (.slice ao n ca) ∧ W.cell? ⟨w4.heap.size, 0, none⟩ = some (.int .i64 cap) ∧ W.cell? ⟨w4.heap.size, 1, none⟩ = some (.slice (some ⟨g4, 0, none⟩) n n)) (first | exact ⟨q0', q1', p0, p1⟩ | exact ⟨he'.cell q0', he'.cell q1', he'.cell p0, he'.cell p1⟩)
    (first
      | (go_at_call 9; refine ((unhide hto) _ (Ext.refl w6).drew).mono ?_; rintro e w8 ⟨g8, rfl, o8, F8⟩; have he' := (Ext.refl w6).drew.trans F8; have R8 := hide o8.reads; clear o8 F8)
      | (go_at_call 11; refine (eqHistory_same cap _ _ n tx _ (((unhide OX).ext (Y6.trans he')).reads) (unhide R8) (by omega)).mono ?_; rintro e w9 ⟨rfl, F9⟩; have he' := he'.trans F9))
  have X9 := X6.trans he'
  go_wp2
  go_ret
  exact ⟨rfl, (E0.trans X9).below⟩
theorem laidLa_eq : Rows.fnExactLatestRow.laid = laidH := by kernel_rfl
theorem handed_and_shaped {H : Type} {enc : TypeId × Value → H} {a : Assume} {C : Checked} {os : Os} {f : FuncId} {fn : Func} {s : ChangeSpec} {conds : List PathCond} {apart fresh handsOn again : Bool} {X : World → Array Value → Prop}
    (hX : ∀ (w w' : World) (args : Array Value), w.heap = w'.heap → X w args → X w' args)
    (own : ownKnob C.prog.godebug = none) (started : os.Started) (noInit : C.prog.inits.idxOf? f = none) (hfn : C.prog.funcs[f]? = some fn)
    (witness : ∃ (w : World) (tape : Tape) (i : Input), w.os = os ∧ (w.forCall tape i).Shaped C.prog ∧ i.vars = [] ∧ Input.okWide C.prog (w.forCall tape i) .any w.heap.size f i ∧
      ((s.pre enc C.prog fn conds apart (w.forCall tape i).memory i.args ∧ X (w.forCall tape i).memory i.args) ∧ sizedMet enc C.prog fn (OpenSpec.ofChange s) apart (w.forCall tape i).memory i.args) ∧ a.holds C.prog (lone (Frame.enter C.prog f i.args .normal) [] (w.forCall tape i)))
    (contract : ∀ (W : World) (base : Nat) (args : Array Value) (ds gs : List (DataW H)) (before : List MemPlace),
      (∀ (j : Nat) t v, fn.params[j]? = some t → args[j]? = some v → Value.okWide C.prog W .any base t v) →
      DataW.Whole enc C.prog fn.params.toList s.vars apart W args.toList ds gs before → W.ShapedOpen C.prog → X W args →
      Calls C.prog f args W fun e W' => ∃ v, e = .returned v ∧ s.post enc C.prog fn apart fresh handsOn again W args v W') :
    ReturnsInHanded a C os f .any (fun w args => (s.pre enc C.prog fn conds apart w args ∧ X w args) ∧ sizedMet enc C.prog fn (OpenSpec.ofChange s) apart w args) (s.post enc C.prog fn apart fresh handsOn again) := by
  refine returnsInHanded_of_calls own started noInit witness ?_
  intro w tape i _ hsh _ hok hpre _
  obtain ⟨_, _, _, fn', hfn', _, _, _, _, hval⟩ := hok
  obtain rfl : fn' = fn := Option.some.inj (hfn'.symm.trans hfn)
  obtain ⟨⟨⟨ds, gs, before, hw, _⟩, hx⟩, _⟩ := hpre
  refine (contract (w.forCall tape i) w.heap.size i.args ds gs before hval (DataW.Whole.of_heap (w' := w.forCall tape i) (by rfl) hw) hsh (hX _ _ _ (by rfl) hx)).mono fun e W' ⟨v, he, hp⟩ => ?_
  subst he
  exact ChangeSpec.post_blind hp
set_option maxRecDepth 100000 in
theorem fnExactLatest_lifted (os : Os) (started : os.Started) (H : Type) (enc : TypeId × Value → H) :
    ReturnsInHanded {} Tryd.checked os 5 .any (fun w args => (Rows.fnExactLatestSpec.pre enc Tryd.prog Tryd.f5 [] false w args ∧ laidMetH Tryd.prog Rows.fnExactLatestRow.laid w) ∧ sizedMet enc Tryd.prog Tryd.f5 (OpenSpec.ofChange Rows.fnExactLatestSpec) false w args)
      (Rows.fnExactLatestSpec.post enc Tryd.prog Tryd.f5 false true false false) := by
  rw [laidLa_eq]
  refine handed_and_shaped (C := Tryd.checked) (X := fun w _ => laidMetH Tryd.prog laidH w) (fun _ _ _ hh h => h.of_heap hh) ownH started (by kernel_rfl) Tryd.func5
    (ChangeSpec.witness_shaped (enc := enc) (C := Tryd.checked) (os := os) (X := fun w _ => laidMetH Tryd.prog laidH w) false (World.laidAll Tryd.prog os laidH) #[.agg #[.int .i64 0, .slice none 0 0], .string { data := #[] }] 8 (World.laidAll_os _ _ _)
      (World.shaped_of_ZipB (by kernel_rfl) (by kernel_rfl)) (by kernel_rfl) (by kernel_rfl) (by kernel_rfl)
      (by rw [MakeChecks.laidMetH_plain _ _ _ (by kernel_rfl)]; exact laidMet_laidAll _ (by kernel_rfl) (by kernel_rfl))) ?_
  intro W base args ds gs before hval0 hW hsh hL
  obtain ⟨m, hm⟩ := Tryd.lays144.s1_3 W hsh
  have hval : ∀ (j : Nat) t v, Tryd.f5.params[j]? = some t → args[j]? = some v → Value.okWide Tryd.prog W .any base t v := hval0
  have hW' := hW
  obtain ⟨p, q, hA0, hV0, rfl, hfz, hnd⟩ := hW
  have hV : DataW.TrodVars enc Tryd.prog W (fun _ => true) [wideName] gs q := hV0
  have hA : DataW.TrodAll enc Tryd.prog W 0 (fun _ => true) true Tryd.f5.params.toList args.toList ds p := hA0
  rw [Tryd.params5] at hA hval
  obtain ⟨v0, v1, d0, d1, p0, p1, rfl, rfl, rfl, h0, h1⟩ := trodAll_two hA
  obtain ⟨g, t, cs, fuel, d, p', rfl, _, _, _, _, _⟩ := trodVars_one hV
  obtain ⟨cap, u, n, tx, rfl, c1, c2, c3⟩ := history_came (hval 0 24 v0 rfl rfl) h0
  obtain ⟨part, rfl, rfl, rfl, c4⟩ := Go.ChangeMaps.open_string Tryd.underlying9 (hval 1 9 v1 rfl rfl) h1
  clear hA0 hval0
  refine (fnExactLatest_walk cap u n tx part m W c1 c2 c3 c4 hm (tabs3_of_laid hL)).mono fun e W' ⟨he, hb⟩ => ?_
  subst he
  exact ⟨_, rfl, post_law laidOutH (by kernel_rfl) (by kernel_rfl) (bt := 4) (by kernel_rfl) Tryd.underlying4 hW' rfl hb⟩
theorem fnExactLatest_holds : Rows.FnExactLatestSaid :=
  OpenClaim.holds_of_wide 5 Tryd.f5 rfl rfl rfl rfl rfl rfl rfl ⟨rfl, rfl, rfl, rfl, rfl⟩ rfl rfl rfl rfl rfl (by kernel_rfl) Tryd.func5 (by kernel_rfl)
    (of_decide_eq_true (by kernel_rfl)) (by unfold Func.isWrapper; first | (rw [if_pos (by decide +kernel)]; kernel_rfl) | (rw [if_neg (by decide +kernel)]; exact ⟨rfl, rfl⟩))
    (fun os started H enc _ => fnExactLatest_lifted os started H enc)
theorem fnExactLatest_card_holds : Rows.FnExactLatestCardSaid :=
  Claim7.holds_tied_plain_at .later [] [.data, .data, .pinned] true Rows.fnExactLatestCard.stood.harness false
    fnExactLatest_holds (fun _ h => by cases h) (by kernel_rfl) (fun _ h => by cases h) fnExactLatest_row_tie rfl ⟨rfl, rfl⟩ (by kernel_rfl) rfl
    (fun f fn hf hfn => by
      obtain rfl : f = 5 := Option.some.inj ((show Tryd.prog.funcNamed Rows.fnExactLatestRow.func = some 5 by kernel_rfl).symm.trans hf) |>.symm
      obtain rfl : fn = Tryd.f5 := (Option.some.inj (Tryd.func5.symm.trans hfn)).symm
      exact ⟨by kernel_rfl, fun j t ht => by
        rw [Tryd.params5] at ht
        have hm : t ∈ [24, 9] := by simpa using Array.mem_of_getElem? ht
        have hall : ([24, 9].all fun u => !Tryd.prog.wantsStandIn u) = true := by kernel_rfl
        exact (show Tryd.prog.wantsStandIn t = false by simpa using List.all_eq_true.1 hall t hm)⟩)
    (by kernel_rfl)
#print axioms fnExactLatest_card_holds
end Go.Proofs.YtaddlkhaokdpdaaDoor
