import Derived.Test.YtlmgeobmjkbccaaDoorFrame
import Derived.Test.YtlmgeobmjkbccaaDoorEraseT
import Derived.Test.YtlmgeobmjkbccaaDoorPowLaid
import Derived.Test.YtlmgeobmjkbccaaDoorTie
import Derived.Test.YtlmgeobmjkbccaaDoorCards
import Derived.SevenTiedAt
namespace Go.Proofs.YtlmgeobmjkbccaaDoor
open Go.ChangeShapes Go.WideShapes Go.ChangeAt Go.RowKit Go.Deep
set_option maxRecDepth 10000 in
set_option maxHeartbeats 4000000 in
theorem fnExactErase_walk (v : Value) (row col : Int) (n : Nat) (tx : Nat → ByteArray) (w : World) (hv : Row1At w v n (fun j => .string (tx j))) (hn9 : n ≤ maxLen) (hx9 : ∀ j, j < n → (tx j).size ≤ maxLen) (hlo : 0 < w.heap.size) (hT : PowT w) :
    Calls Tryd.prog 3 #[blV v row col] w fun e w' => e = .returned (.bool true) ∧ Below w.heap.size w w' := by
  obtain ⟨ao, cap, hvv, _, _⟩ := id hv
  subst hvv
  unfold maxLen at hn9 hx9
  have hcZ := hide (fun W (hW : Ext w W) => szBlock_any (.slice ao n cap) row col n tx 1048576 W (hv.ext hW) (by omega) (by omega) (by omega) (fun j hj => by have := hx9 j hj; omega))
  have hcT := hide (fun W (hW : Ext w W) (h : n ≤ 1048576) => toBlock_any (.slice ao n cap) row col n tx W (hv.ext hW) h)
  have hP := fun W (hW : Ext w W) => hT.keep (hW.heap hlo)
  have HP := hide hP
  clear hv hT hP hx9
  unfold blV at *
  go_enter Tryd.func3, Tryd.ntmps3
  go_wp2_with fail
  obtain ⟨W0, hW0⟩ : ∃ W0, W0 = w.alloc (.cells #[.slice ao n cap, .int .i64 row, .int .i64 col] 24) := ⟨_, rfl⟩
  rw [← hW0]
  have E0 : Ext w W0 := by rw [hW0]; exact (Ext.refl w).alloc _
  have hb0 : W0.heap[w.heap.size]? = some (.cells #[.slice ao n cap, .int .i64 row, .int .i64 col] 24 (0, 0)) := by rw [hW0]; exact alloc_new w _
  have q0 := heap_cell' hb0 0 _ rfl
  have q1 := heap_cell' hb0 1 _ rfl
  have q2 := heap_cell' hb0 2 _ rfl
  clear hW0
  refine ((unhide hcZ) _ E0).mono ?_
  rintro e w1 ⟨r, rfl, hr, F1⟩
  have hN : 0 ≤ r → n + slen tx n ≤ 1048576 := by rcases hr with ⟨rfl, _⟩ | ⟨h1, h2⟩ <;> omega
  clear hr hcZ
  have d0 := F1.cell q0
  have d1 := F1.cell q1
  have d2 := F1.cell q2
  by_cases hr0 : r < 0
  · go_wp2
    go_ret
    exact ⟨rfl, (E0.trans F1).below⟩
  have hn : n + slen tx n ≤ 1048576 := hN (by omega)
  clear hN
  go_wp2_with fail
  refine ((unhide hcT) _ (E0.trans F1) (by omega)).mono ?_
  rintro e w2 ⟨g2, rfl, o2, F2⟩
  have X2 := F1.trans F2
  have hcS := hide (specErase_any (.slice (some ⟨g2, 0, none⟩) n n) row col n tx w2 o2.reads (by omega))
  unfold blV at hcS
  clear d0 d1 d2 o2
  go_wp2_with fail
  refine (unhide hcS).mono ?_
  rintro e w3 ⟨us, rfl, os, F3⟩
  have X3 := X2.trans F3
  have OS := hide os
  obtain ⟨sa, sc, hus, _⟩ := id os.1
  subst hus
  clear os hcS
  have d0 := X3.cell q0
  have d1 := X3.cell q1
  have d2 := X3.cell q2
  go_wp2_with fail
  refine ((unhide hcT) _ (E0.trans X3) (by omega)).mono ?_
  rintro e w4 ⟨g4, rfl, o4, F4⟩
  have X4 := X3.trans F4
  have hg4 := (o4.lt g4 rfl)
  have OX := hide o4
  have hb5 := fun o => alloc_new w4 o
  have hlo4 : 0 < w4.heap.size := Nat.lt_of_lt_of_le hlo (E0.trans X4).size
  have hcI := hide (fun W (hW : Ext w4 W) => implErase_any (.slice (some ⟨g4, 0, none⟩) n n) row col n tx W (o4.ext hW).reads (by omega) (Nat.lt_of_lt_of_le hlo4 hW.size) ((unhide HP) _ ((E0.trans X4).trans hW)))
  unfold blV at hcI
  clear d0 d1 d2 o4
  go_wp2_with fail
  have hb5 := hb5 (.cells #[.slice (some ⟨g4, 0, none⟩) n n, .int .i64 row, .int .i64 col] 28)
  have F5 := (Ext.refl w4).alloc (.cells #[.slice (some ⟨g4, 0, none⟩) n n, .int .i64 row, .int .i64 col] 28)
  refine ((unhide hcI) _ F5).mono ?_
  rintro e w6 ⟨ug, rfl, og, F6⟩
  have hb6 := F6.keep' hb5
  have Y6 := F5.trans F6
  have X6 := X4.trans Y6
  have s5 : w4.heap.size ≤ (w4.alloc (.cells #[.slice (some ⟨g4, 0, none⟩) n n, .int .i64 row, .int .i64 col] 28)).heap.size := F5.size
  have OG := hide (owns_mono og s5)
  obtain ⟨ga, gc, hug, _⟩ := id (ints_of_owns og)
  subst hug
  have hLl : (eraseL n row col).length ≤ 4194304 := by have := eraseL_len n row col (by omega); omega
  obtain ⟨L, hL⟩ : ∃ L, L = eraseL n row col := ⟨_, rfl⟩
  rw [← hL] at OS OG hLl
  clear og hb5 F5 F6 s5
  go_wp2_with fail
  rw [← hL]
  have HL := hide hL
  clear hL
  refine (eqByteS_same _ _ L _ (ints_of_owns (unhide OG)) ((unhide OS).1.ext (F4.trans Y6)) (by omega)).mono ?_
  rintro e w7 ⟨rfl, F7⟩
  have X7 := X6.trans F7
  have Y7 := Y6.trans F7
  have hb7 := F7.keep' hb6
  have q0' := X7.cell q0
  have q1' := X7.cell q1
  have q2' := X7.cell q2
  have p0 := heap_cell' hb7 0 _ rfl
  have p1 := heap_cell' hb7 1 _ rfl
  have p2 := heap_cell' hb7 2 _ rfl
  have hto := hide (fun U (hU : Ext w7 U) => (unhide hcT) U ((E0.trans X7).trans hU) (by omega))
  go_wp2
  go_region_held3 (fun W => W.cell? ⟨w.heap.size, 0, none⟩ = some (.slice ao n cap) ∧ W.cell? ⟨w.heap.size, 1, none⟩ = some (.int .i64 row) ∧ W.cell? ⟨w.heap.size, 2, none⟩ = some (.int .i64 col) ∧ W.cell? ⟨w4.heap.size, 0, none⟩ = some (.slice (some ⟨g4, 0, none⟩) n n) ∧ W.cell? ⟨w4.heap.size, 1, none⟩ = some (.int .i64 row) ∧ W.cell? ⟨w4.heap.size, 2, none⟩ = some (.int .i64 col)) (first | exact ⟨q0', q1', q2', p0, p1, p2⟩ | exact ⟨he'.cell q0', he'.cell q1', he'.cell q2', he'.cell p0, he'.cell p1, he'.cell p2⟩)
    (first
      | (go_at_call 7; refine ((unhide hto) _ (Ext.refl w7).drew).mono ?_; rintro e w8 ⟨g8, rfl, o8, F8⟩; have he' := (Ext.refl w7).drew.trans F8; have R8 := hide o8.reads; clear o8 F8)
      | (go_at_call 10; refine (eqBlock_same _ _ row col n tx _ (((unhide OX).ext (Y7.trans he')).reads) (unhide R8) (by omega)).mono ?_; rintro e w9 ⟨rfl, F9⟩; have he' := he'.trans F9))
  have X9 := X7.trans he'
  have Y9 := Y7.trans he'
  have hb9 := he'.keep' hb7
  have OX9 := hide ((unhide OX).ext Y9)
  have OG9 := hide ((F7.trans he').owns (unhide OG))
  have OS9 := hide ((unhide OS).ext (F4.trans Y9))
  have hsS := fun g hg => ((unhide OS).2 g hg).2
  have HSS := hide hsS
  have s3 := X3.size
  have s4 := F4.size
  clear q0' q1' q2' p0 p1 p2 hb7 hb6 R8 OX OG OS hsS
  have p0 := heap_cell' hb9 0 _ rfl
  have p1 := heap_cell' hb9 1 _ rfl
  have p2 := heap_cell' hb9 2 _ rfl
  have hcM := hide (markBlock_any w3.heap.size (.slice (some ⟨g4, 0, none⟩) n n) row col n _ 1 w9 (unhide OX9) (by omega) (by omega) (by omega))
  unfold blV at hcM
  go_wp2_with fail
  refine (unhide hcM).mono ?_
  rintro e w10 ⟨rfl, fr10⟩
  have hq4 : ∀ g, (Value.slice (some ⟨g4, 0, none⟩) n n).ownBlock = some g → g = g4 := fun g hg => by simp [Value.ownBlock] at hg; exact hg.symm
  have X10 : Ext W0 w10 := fr10.ext X9 (fun k hk => by have := hq4 k hk; omega)
  have OG10 := hide (fr10.owns (unhide OG9) (fun g hg e => by have := ((unhide OG9).lt g hg).1; have := hq4 g e; omega))
  have OS10 := hide ((unhide OS9).fr fr10 (fun g hg e => by have := (unhide HSS) g hg; have := hq4 g e; omega))
  clear fr10 p0 p1 p2 hb9 OX9 OG9 OS9 hcM hq4
  have hk2 : ¬ (1 : Int) + (n : Int) < 0 := by omega
  go_wp2_with fail
  refine (eqByteS_same _ _ L _ (ints_of_owns (unhide OG10)) (unhide OS10).1 (by omega)).mono ?_
  rintro e w11 ⟨rfl, F11⟩
  have X11 := X10.trans F11
  have OG11 := hide (F11.owns (unhide OG10))
  have OS11 := hide ((unhide OS10).ext F11)
  clear OG10 OS10 F11
  go_wp2_with fail
  refine (markByteS_any w4.heap.size _ L.length _ 1 _ (unhide OG11) (by omega) (by omega) (by omega)).mono ?_
  rintro e w12 ⟨rfl, og12, G12⟩
  have fr12 : Fr (fun k => (Value.slice ga L.length gc).ownBlock = some k) w11 w12 := (Fr.refl _ _).grown G12 (fun k hk => hk)
  have X12 : Ext W0 w12 := fr12.ext X11 (fun k hk => by have := ((unhide OG11).lt k hk).1; omega)
  have OS12 := hide ((unhide OS11).fr fr12 (fun g hg e => by have := (unhide HSS) g hg; have := ((unhide OG11).lt g e).1; omega))
  have RG12 : Hid (IntsAt w12 .u8 (.slice ga L.length gc) (mkU8 1 L.length)) := hide (ints_of_owns (by rw [mkU8_len]; exact og12))
  clear og12 G12 fr12 OG11 OS11
  go_wp2_with fail
  refine (heldByteS_any _ L.length 1 _ (unhide RG12) (by omega) (by omega) (by omega)).mono ?_
  rintro e w13 ⟨rfl, F13⟩
  have X13 := X12.trans F13
  have d0 := X13.cell q0
  have d1 := X13.cell q1
  have d2 := X13.cell q2
  have hk3 : ¬ (1 : Int) + (L.length : Int) < 0 := by omega
  go_wp2_with fail
  refine ((unhide hcT) _ (E0.trans X13) (by omega)).mono ?_
  rintro e w14 ⟨g14, rfl, o14, F14⟩
  have X14 := X13.trans F14
  have hlo14 : 0 < w14.heap.size := Nat.lt_of_lt_of_le hlo (E0.trans X14).size
  have hcJ := hide (implErase_any (.slice (some ⟨g14, 0, none⟩) n n) row col n tx w14 o14.reads (by omega) hlo14 ((unhide HP) _ (E0.trans X14)))
  unfold blV at hcJ
  clear d0 d1 d2 o14
  go_wp2_with fail
  refine (unhide hcJ).mono ?_
  rintro e w15 ⟨uh, rfl, oh, F15⟩
  rw [← unhide HL] at oh
  have X15 := X14.trans F15
  obtain ⟨ha, hc, huh, _⟩ := id (ints_of_owns oh)
  subst huh
  have RH := hide (ints_of_owns oh)
  have Y15 := (F13.trans F14).trans F15
  clear oh hcJ
  go_wp2_with fail
  refine (eqByteS_same _ _ L _ (unhide RH) ((unhide OS12).1.ext Y15) (by omega)).mono ?_
  rintro e w16 ⟨rfl, F16⟩
  go_wp2_with fail
  refine (heldByteS_any _ L.length 1 _ ((unhide RG12).ext (Y15.trans F16)) (by omega) (by omega) (by omega)).mono ?_
  rintro e w17 ⟨rfl, F17⟩
  go_wp2
  go_ret
  exact ⟨rfl, (((E0.trans X15).trans F16).trans F17).below⟩
set_option maxRecDepth 100000 in
theorem fnExactErase_lifted (os : Os) (started : os.Started) (H : Type) (enc : TypeId × Value → H) :
    ReturnsInHanded {} Tryd.checked os 3 .any (fun w args => (Rows.fnExactEraseSpec.pre enc Tryd.prog Tryd.f3 [] false w args ∧ laidMetH Tryd.prog laidP w) ∧ sizedMet enc Tryd.prog Tryd.f3 (OpenSpec.ofChange Rows.fnExactEraseSpec) false w args)
      (Rows.fnExactEraseSpec.post enc Tryd.prog Tryd.f3 false true false false) := by
  refine returnsInHanded_of_change_and (C := Tryd.checked) (X := fun w _ => laidMetH Tryd.prog laidP w) (fun _ _ _ hh h => h.of_heap hh) ownP started (by kernel_rfl) Tryd.func3
    (ChangeSpec.witness_shaped (enc := enc) (C := Tryd.checked) (os := os) (X := fun w _ => laidMetH Tryd.prog laidP w) false (World.doorLaid Tryd.prog 400 os) #[.agg #[.slice none 0 0, .int .i64 0, .int .i64 0]] 8 rfl (World.shaped_of_RefB (by kernel_rfl) (by kernel_rfl)) (by kernel_rfl) (by kernel_rfl) (by kernel_rfl) (door_metP os _)) ?_
  intro W base args ds gs before hval0 hW _ _ hL _
  have hval : ∀ (j : Nat) t v, Tryd.f3.params[j]? = some t → args[j]? = some v → Value.okWide Tryd.prog W .any base t v := hval0
  have hW' := hW
  obtain ⟨p, q, hA0, hV, rfl, hfz, hnd⟩ := hW
  have hA : DataW.TrodAll enc Tryd.prog W 0 (fun _ => true) true Tryd.f3.params.toList args.toList ds p := hA0
  rw [Tryd.params3] at hA hval
  obtain ⟨v0, d0, rfl, rfl, h0⟩ := trodAll_one hA
  obtain ⟨rfl, rfl⟩ := trodVars_none hV
  obtain ⟨u, row, col, n, tx, rfl, c1, c2, c3⟩ := block_came (hval 0 24 v0 rfl rfl) h0
  clear hA0 hval0
  have hP := pow_of_laid hL
  refine (fnExactErase_walk u row col n tx W c1 c2 c3 (pow_lo hP) hP).mono fun e W' ⟨he, hb⟩ => ?_
  subst he
  exact ⟨_, rfl, post_law laidOutP (by kernel_rfl) (by kernel_rfl) (bt := 4) (by kernel_rfl) Tryd.underlying4 hW' rfl hb⟩
theorem fnExactErase_holds : Rows.FnExactEraseSaid :=
  OpenClaim.holds_of_wide 3 Tryd.f3 rfl rfl rfl rfl rfl rfl rfl ⟨rfl, rfl, rfl, rfl, rfl⟩ rfl rfl rfl rfl rfl (by kernel_rfl) Tryd.func3 (by kernel_rfl)
    (of_decide_eq_true (by kernel_rfl)) (by unfold Func.isWrapper; first | (rw [if_pos (by decide +kernel)]; kernel_rfl) | (rw [if_neg (by decide +kernel)]; exact ⟨rfl, rfl⟩))
    (fun os started H enc _ => fnExactErase_lifted os started H enc)
theorem fnExactErase_card_holds : Rows.FnExactEraseCardSaid :=
  Claim7.holds_tied_plain_at .later [] [.data, .data, .data] true Rows.fnExactEraseCard.stood.harness false
    fnExactErase_holds (fun _ h => by cases h) (by kernel_rfl) (fun _ h => by cases h) fnExactErase_row_tie rfl ⟨rfl, rfl⟩ (by kernel_rfl) rfl
    (fun f fn hf hfn => by
      obtain rfl : f = 3 := Option.some.inj ((show Tryd.prog.funcNamed Rows.fnExactEraseRow.func = some 3 by kernel_rfl).symm.trans hf) |>.symm
      obtain rfl : fn = Tryd.f3 := (Option.some.inj (Tryd.func3.symm.trans hfn)).symm
      exact ⟨by kernel_rfl, fun j t ht => by
        rw [Tryd.params3] at ht
        have hm : t ∈ [24] := by simpa using Array.mem_of_getElem? ht
        have hall : ([24].all fun u => !Tryd.prog.wantsStandIn u) = true := by kernel_rfl
        exact (show Tryd.prog.wantsStandIn t = false by simpa using List.all_eq_true.1 hall t hm)⟩)
    (by kernel_rfl)
#print axioms fnExactErase_card_holds
end Go.Proofs.YtlmgeobmjkbccaaDoor
