import Derived.Test.YtaddlkhaokdpdaaDoorHTab
import Derived.Test.YtaddlkhaokdpdaaDoorAddS
import Derived.Test.YtaddlkhaokdpdaaDoorHstMark
import Derived.Test.YtaddlkhaokdpdaaDoorTie
import Derived.Test.YtaddlkhaokdpdaaDoorCards
import Derived.SevenTiedAt
import Derived.Lay
import Derived.Deep.RegionHeld3
namespace Go.Proofs.YtaddlkhaokdpdaaDoor
open Go.ChangeShapes Go.WideShapes Go.ChangeAt Go.RowKit Go.Deep
theorem addN_le (ok : Bool) (cap : Int) (n : Nat) : addN ok cap n ≤ n + 1 := by
  unfold addN
  split
  · split <;> omega
  · omega
set_option maxRecDepth 10000 in
set_option maxHeartbeats 8000000 in
theorem fnExactAdd_walk (cap : Int) (v : Value) (n : Nat) (tx : Nat → ByteArray) (text : ByteArray) (w : World) (hv : Row1At w v n (fun j => .string (tx j))) (hn9 : n ≤ maxLen) (hx9 : ∀ j, j < n → (tx j).size ≤ maxLen) (hp9 : text.size ≤ maxLen) (hT : Tabs3 w) :
    Calls Tryd.prog 6 #[.agg #[.int .i64 cap, v], .string text] w fun e w' => e = .returned (.bool true) ∧ Below w.heap.size w w' := by
  obtain ⟨ok, hok⟩ := yes_no (AddP cap n tx text)
  have HK := hide hok
  obtain ⟨ao, ca, hvv, _, _⟩ := id hv
  subst hvv
  unfold maxLen at hn9 hx9 hp9
  by_cases hpl : 1048576 < text.size
  · have hpI : (1048576 : Int) < (text.size : Int) := by omega
    clear hv hT hx9 hok
    go_enter Tryd.func6, Tryd.ntmps6
    go_wp2
    go_ret
    exact ⟨rfl, ((Ext.refl w).alloc _).below⟩
  have hpI : ¬ (1048576 : Int) < (text.size : Int) := by omega
  have hcZ := hide (fun W (hW : Ext w W) => szHistory_any cap (.slice ao n ca) n tx 1048576 W (hv.ext hW) (by omega) (by omega) (by omega) (fun j hj => by have := hx9 j hj; omega))
  have hcT := hide (fun W (hW : Ext w W) (h : n ≤ 1048576) => toHistory_any cap (.slice ao n ca) n tx W (hv.ext hW) h)
  have HT := hide hT
  clear hv hT hx9 hok
  go_enter Tryd.func6, Tryd.ntmps6
  go_wp2_with fail
  obtain ⟨W0, hW0⟩ : ∃ W0, W0 = w.alloc (.cells #[.int .i64 cap, .slice ao n ca] 24) := ⟨_, rfl⟩
  rw [← hW0]
  have E0 : Ext w W0 := by rw [hW0]; exact (Ext.refl w).alloc _
  have hb0 : W0.heap[w.heap.size]? = some (.cells #[.int .i64 cap, .slice ao n ca] 24 (0, 0)) := by rw [hW0]; exact new_block w _
  have q0 := cells_of hb0 0 _ rfl
  have q1 := cells_of hb0 1 _ rfl
  have hz0 : W0.heap.size = w.heap.size + 1 := by rw [hW0]; simp
  clear hW0
  refine ((unhide hcZ) _ E0).mono ?_
  rintro e w1 ⟨r, rfl, hr, F1⟩
  have hN : 0 ≤ r → n + slen tx n ≤ 1048576 := by rcases hr with ⟨rfl, _⟩ | ⟨h1, h2⟩ <;> omega
  clear hr hcZ
  have d0 := F1.cell q0
  have d1 := F1.cell q1
  by_cases hr0 : r < 0
  · go_wp2
    go_ret
    exact ⟨rfl, (E0.trans F1).below⟩
  have hn : n + slen tx n ≤ 1048576 := hN (by omega)
  have hx : ∀ j, j < n → (tx j).size ≤ 1048576 := fun j hj => by
    have h1 := slen_le tx n (j + 1) (by omega)
    rw [slen] at h1
    omega
  have HX := hide hx
  clear hN hx
  obtain ⟨N, hNe⟩ : ∃ N, N = addN ok cap n := ⟨_, rfl⟩
  obtain ⟨T, hTe⟩ : ∃ T, T = fun j => addT ok cap n tx text j := ⟨_, rfl⟩
  have hNb : N ≤ n + 1 := by rw [hNe]; exact addN_le ok cap n
  have hcS := hide (fun W g (h : Row1At W (.slice (some ⟨g, 0, none⟩) n n) n (fun j => .string (tx j))) => specAdd_some cap ⟨g, 0, none⟩ n n tx text W h (by omega) (unhide HX) (by omega) ok (unhide HK))
  have hcI := hide (fun W g (hW : Ext w W) (h : Row1At W (.slice (some ⟨g, 0, none⟩) n n) n (fun j => .string (tx j))) => implAdd_some cap ⟨g, 0, none⟩ n n tx text W h (by omega) (unhide HX) (by omega) ((unhide HT).ext hW) ok (unhide HK))
  have hTf : ∀ j, addT ok cap n tx text j = T j := fun j => by rw [hTe]
  simp only [← hNe, hTf] at hcS hcI
  clear hNe hTe hTf
  go_wp2_with fail
  refine ((unhide hcT) _ (E0.trans F1) (by omega)).mono ?_
  rintro e w2 ⟨g2, rfl, o2, F2⟩
  have X2 := F1.trans F2
  have hS := hide ((unhide hcS) w2 g2 o2.reads)
  clear d0 d1 o2
  go_wp2_with fail
  refine (unhide hS).mono ?_
  rintro e w3 ⟨vS, rfl, oS, F3⟩
  obtain ⟨aS, cS, rfl⟩ := oS.slice
  have X3 := X2.trans F3
  have d0 : ∀ o, (w3.alloc o).cell? ⟨w.heap.size, 0, none⟩ = some (.int .i64 cap) := fun o => (X3.alloc o).cell q0
  have d1 : ∀ o, (w3.alloc o).cell? ⟨w.heap.size, 1, none⟩ = some (.slice ao n ca) := fun o => (X3.alloc o).cell q1
  have OS := hide oS
  have zS := hide oS.lt
  clear oS hS
  go_wp2_with fail
  have b6 := HBox.new w3 cap (.slice aS N cS) 27
  have G3 := (Ext.refl w3).alloc (.cells #[.int .i64 cap, .slice aS N cS] 27)
  obtain ⟨V3, hV3⟩ : ∃ V3, V3 = w3.alloc (.cells #[.int .i64 cap, .slice aS N cS] 27) := ⟨_, rfl⟩
  rw [← hV3] at b6 G3 ⊢
  clear hV3 d0 d1
  have Y3 := X3.trans G3
  have OS3 := hide ((unhide OS).ext G3)
  refine ((unhide hcT) _ (E0.trans Y3) (by omega)).mono ?_
  rintro e w4 ⟨g4, rfl, o4, F4⟩
  have Y4 := Y3.trans F4
  have O4 := hide o4
  have z4 := (o4.lt g4 rfl)
  clear o4
  have G4 := (Ext.refl w4).alloc (.cells #[.int .i64 cap, .slice (some ⟨g4, 0, none⟩) n n] 27)
  have b8 := HBox.new w4 cap (.slice (some ⟨g4, 0, none⟩) n n) 27
  obtain ⟨V4, hV4⟩ : ∃ V4, V4 = w4.alloc (.cells #[.int .i64 cap, .slice (some ⟨g4, 0, none⟩) n n] 27) := ⟨_, rfl⟩
  rw [← hV4] at b8 G4
  have HV4 := hide hV4
  clear hV4
  have Y5 := Y4.trans G4
  have hI := hide ((unhide hcI) V4 g4 (E0.trans Y5) ((unhide O4).ext G4).reads)
  go_wp2_with fail
  rw [← unhide HV4]
  refine (unhide hI).mono ?_
  rintro e w5 ⟨vI, rfl, oI, F5⟩
  obtain ⟨aI, cI, rfl⟩ := oI.slice
  have OI := hide oI
  have zI := hide oI.lt
  clear oI hI HV4
  have Y6 := Y5.trans F5
  have G5 := (Ext.refl w5).alloc (.cells #[.int .i64 cap, .slice aI N cI] 27)
  have b9 := HBox.new w5 cap (.slice aI N cI) 27
  have c6 : ∀ o, (w5.alloc o).cell? ⟨w3.heap.size, 0, none⟩ = some (.int .i64 cap) ∧ (w5.alloc o).cell? ⟨w3.heap.size, 1, none⟩ = some (.slice aS N cS) := fun o => ((b6.ext (F4.trans (G4.trans F5))).ext ((Ext.refl w5).alloc o))
  have c60 := fun o => (c6 o).1
  have c61 := fun o => (c6 o).2
  go_wp2_with fail
  obtain ⟨V5, hV5⟩ : ∃ V5, V5 = w5.alloc (.cells #[.int .i64 cap, .slice aI N cI] 27) := ⟨_, rfl⟩
  rw [← hV5] at b9 G5 ⊢
  clear hV5 c6 c60 c61
  have Y7 := Y6.trans G5
  have T4 := F5.trans G5
  have T3 := F4.trans (G4.trans T4)
  have OS5 := hide ((unhide OS3).ext T3)
  have OI5 := hide ((unhide OI).ext G5)
  have OX5 := hide ((unhide O4).ext (G4.trans T4))
  have l3 := lt_of_cell b6.1
  have l4 := lt_of_cell b8.1
  have b65 := b6.ext T3
  have b85 := b8.ext T4
  refine (eqHistory_same cap _ _ N T V5 (unhide OI5).reads (unhide OS5).reads (by omega)).mono ?_
  rintro e w6 ⟨rfl, F6⟩
  have q0' := (Y7.trans F6).cell q0
  have q1' := (Y7.trans F6).cell q1
  obtain ⟨p0, p1⟩ := b85.ext F6
  have hto := hide (fun U (hU : Ext w6 U) => (unhide hcT) U ((E0.trans (Y7.trans F6)).trans hU) (by omega))
  have HB := hide (And.intro b65 (And.intro b85 b9))
  have HYs := hide (And.intro Y7 (And.intro F6 (And.intro Y3.size (And.intro F4.size (And.intro F5.size (And.intro F3.size (And.intro X2.size G5.size)))))))
  clear b6 b8 b9 b65 b85 G3 G4 G5 T3 T4 F5 F4 Y3 Y4 Y5 Y6 X3 F3 F2 OS OI OS3 O4
  go_wp2
  go_region_held3 (fun W => W.cell? ⟨w.heap.size, 0, none⟩ = some (.int .i64 cap) ∧ W.cell? ⟨w.heap.size, 1, none⟩ = some (.slice ao n ca) ∧ W.cell? ⟨w4.heap.size, 0, none⟩ = some (.int .i64 cap) ∧ W.cell? ⟨w4.heap.size, 1, none⟩ = some (.slice (some ⟨g4, 0, none⟩) n n)) (first | exact ⟨q0', q1', p0, p1⟩ | exact ⟨he'.cell q0', he'.cell q1', he'.cell p0, he'.cell p1⟩)
    (first
      | (go_at_call 9; refine ((unhide hto) _ (Ext.refl w6).drew).mono ?_; rintro e w8 ⟨g8, rfl, o8, F8⟩; have he' := (Ext.refl w6).drew.trans F8; have R8 := hide o8.reads; clear o8 F8)
      | (go_at_call 11; refine (eqHistory_same cap _ _ n tx _ (((unhide OX5).ext (F6.trans he')).reads) (unhide R8) (by omega)).mono ?_; rintro e w9 ⟨rfl, F9⟩; have he' := he'.trans F9))
  obtain ⟨b65, b85, b95⟩ := unhide HB
  obtain ⟨_, _, s1, s2, s3, s4, s5, s6⟩ := unhide HYs
  have Z9 := F6.trans he'
  have OX9 := hide ((unhide OX5).ext Z9)
  have OS9 := hide ((unhide OS5).ext Z9)
  have OI9 := hide ((unhide OI5).ext Z9)
  have b69 := b65.ext Z9
  have b99 := b95.ext Z9
  obtain ⟨u0, u1⟩ := b85.ext Z9
  have Y9 := Y7.trans Z9
  have hg4 : Hid (∀ k, (Value.slice (some ⟨g4, 0, none⟩) n n).ownBlock = some k → k = g4) := hide (fun k h => (Option.some.inj h).symm)
  have hM := hide (markHistory_any _ cap (.slice (some ⟨g4, 0, none⟩) n n) n _ 1 _ (unhide OX9) (by omega) (by omega) (by omega))
  clear b65 b85 b95 HB OS5 OI5 OX5 OX9 p0 p1 q0' q1'
  go_wp2_with fail
  refine (unhide hM).mono ?_
  rintro e wA ⟨rfl, _, FA⟩
  have YA := Fr.ext FA Y9 (fun k hk => by have := (unhide hg4) k hk; omega)
  have b6A := b69.fr FA (fun h => by have := (unhide hg4) _ h; omega)
  have b9A := b99.fr FA (fun h => by have := (unhide hg4) _ h; omega)
  have OSA := hide ((unhide OS9).fr FA (fun g h hh => by have := (unhide zS) g h; have := (unhide hg4) g hh; omega))
  have OIA := hide ((unhide OI9).fr FA (fun g h hh => by have := (unhide zI) g h; have := (unhide hg4) g hh; omega))
  obtain ⟨c60, c61⟩ := b6A
  obtain ⟨c90, c91⟩ := b9A
  have b6A : HBox wA w3.heap.size cap (.slice aS N cS) := ⟨c60, c61⟩
  have b9A : HBox wA w5.heap.size cap (.slice aI N cI) := ⟨c90, c91⟩
  have hE := hide (eqHistory_same cap (.slice aI N cI) (.slice aS N cS) N T wA (unhide OIA).reads (unhide OSA).reads (by omega))
  clear hM u0 u1 FA OS9 OI9 b69 b99
  go_wp2_with fail
  refine (unhide hE).mono ?_
  rintro e wB ⟨rfl, FB⟩
  have YB := YA.trans FB
  have b6B := b6A.ext FB
  have b9B := b9A.ext FB
  have OSB := hide ((unhide OSA).ext FB)
  have OIB := hide ((unhide OIA).ext FB)
  obtain ⟨e90, e91⟩ := id b9B
  have hM := hide (markHistory_any _ cap (.slice aI N cI) N _ 1 wB (unhide OIB) (by omega) (by omega) (by omega))
  clear hE c60 c61 c90 c91 b6A b9A OSA OIA
  go_wp2_with fail
  refine (unhide hM).mono ?_
  rintro e wC ⟨rfl, oC, FC⟩
  have YC := Fr.ext FC YB (fun k hk => by have := (unhide zI) k hk; omega)
  have b6C := b6B.fr FC (fun h => by have := (unhide zI) _ h; omega)
  have b9C := b9B.fr FC (fun h => by have := (unhide zI) _ h; omega)
  have OSC := hide ((unhide OSB).fr FC (fun g h hh => by have := (unhide zS) g h; have := (unhide zI) g hh; omega))
  have OC := hide oC
  obtain ⟨e90, e91⟩ := id b9C
  have hH := hide (heldHistory_any cap (.slice aI N cI) N 1 wC oC.reads (by omega) (by omega) (by omega))
  have hp1 : ¬ (1 : Int) + (N : Int) < 0 := by omega
  clear hM oC FC b6B b9B OSB OIB
  go_wp2_with fail
  refine (unhide hH).mono ?_
  rintro e wD ⟨rfl, FD⟩
  have YD := YC.trans FD
  have d0 := YD.cell q0
  have d1 := YD.cell q1
  clear e90 e91 hH
  go_wp2_with fail
  refine ((unhide hcT) wD (E0.trans YD) (by omega)).mono ?_
  rintro e wE ⟨gE, rfl, oE, FE⟩
  have YE := YD.trans FE
  have hI := hide ((unhide hcI) wE gE (E0.trans YE) oE.reads)
  clear d0 d1 oE
  go_wp2_with fail
  refine (unhide hI).mono ?_
  rintro e wF ⟨vH, rfl, oH, FF⟩
  obtain ⟨aH, cH, rfl⟩ := oH.slice
  have YF := YE.trans FF
  have TF := FD.trans (FE.trans FF)
  have c60 : ∀ o, (wF.alloc o).cell? ⟨w3.heap.size, 0, none⟩ = some (.int .i64 cap) := fun o => ((b6C.ext TF).ext ((Ext.refl wF).alloc o)).1
  have c61 : ∀ o, (wF.alloc o).cell? ⟨w3.heap.size, 1, none⟩ = some (.slice aS N cS) := fun o => ((b6C.ext TF).ext ((Ext.refl wF).alloc o)).2
  have GF := (Ext.refl wF).alloc (.cells #[.int .i64 cap, .slice aH N cH] 27)
  have OH := hide (oH.ext GF)
  clear oH hI
  go_wp2_with fail
  obtain ⟨V6, hV6⟩ : ∃ V6, V6 = wF.alloc (.cells #[.int .i64 cap, .slice aH N cH] 27) := ⟨_, rfl⟩
  rw [← hV6] at GF OH ⊢
  clear hV6 c60 c61
  refine (eqHistory_same cap _ _ N T V6 (unhide OH).reads (((unhide OSC).ext (TF.trans GF)).reads) (by omega)).mono ?_
  rintro e wG ⟨rfl, FG⟩
  have TG := (TF.trans GF).trans FG
  have YG := (YF.trans GF).trans FG
  obtain ⟨e90, e91⟩ := b9C.ext TG
  have hH := hide (heldHistory_any cap (.slice aI N cI) N 1 wG ((unhide OC).ext TG).reads (by omega) (by omega) (by omega))
  go_wp2_with fail
  refine (unhide hH).mono ?_
  rintro e wH ⟨rfl, FH⟩
  go_wp2
  go_ret
  exact ⟨rfl, (E0.trans (YG.trans FH)).below⟩
theorem laidAd_eq : Rows.fnExactAddRow.laid = laidH := by kernel_rfl
set_option maxRecDepth 100000 in
theorem fnExactAdd_lifted (os : Os) (started : os.Started) (H : Type) (enc : TypeId × Value → H) :
    ReturnsInHanded {} Tryd.checked os 6 .any (fun w args => (Rows.fnExactAddSpec.pre enc Tryd.prog Tryd.f6 [] false w args ∧ laidMetH Tryd.prog Rows.fnExactAddRow.laid w) ∧ sizedMet enc Tryd.prog Tryd.f6 (OpenSpec.ofChange Rows.fnExactAddSpec) false w args)
      (Rows.fnExactAddSpec.post enc Tryd.prog Tryd.f6 false true false false) := by
  rw [laidAd_eq]
  refine returnsInHanded_of_change_and (C := Tryd.checked) (X := fun w _ => laidMetH Tryd.prog laidH w) (fun _ _ _ hh h => h.of_heap hh) ownH started (by kernel_rfl) Tryd.func6
    (ChangeSpec.witness_shaped (enc := enc) (C := Tryd.checked) (os := os) (X := fun w _ => laidMetH Tryd.prog laidH w) false (World.laidAll Tryd.prog os laidH) #[.agg #[.int .i64 0, .slice none 0 0], .string { data := #[] }] 8 (World.laidAll_os _ _ _)
      (World.shaped_of_ZipB (by kernel_rfl) (by kernel_rfl)) (by kernel_rfl) (by kernel_rfl) (by kernel_rfl)
      (by rw [MakeChecks.laidMetH_plain _ _ _ (by kernel_rfl)]; exact laidMet_laidAll _ (by kernel_rfl) (by kernel_rfl))) ?_
  intro W base args ds gs before hval0 hW _ _ hL _
  have hval : ∀ (j : Nat) t v, Tryd.f6.params[j]? = some t → args[j]? = some v → Value.okWide Tryd.prog W .any base t v := hval0
  have hW' := hW
  obtain ⟨p, q, hA0, hV0, rfl, hfz, hnd⟩ := hW
  have hV : DataW.TrodVars enc Tryd.prog W (fun _ => true) [wideName] gs q := hV0
  have hA : DataW.TrodAll enc Tryd.prog W 0 (fun _ => true) true Tryd.f6.params.toList args.toList ds p := hA0
  rw [Tryd.params6] at hA hval
  obtain ⟨v0, v1, d0, d1, p0, p1, rfl, rfl, rfl, h0, h1⟩ := trodAll_two hA
  obtain ⟨g, t, cs, fuel, d, p', rfl, _, _, _, _, _⟩ := trodVars_one hV
  obtain ⟨cap, u, n, tx, rfl, c1, c2, c3⟩ := history_came (hval 0 24 v0 rfl rfl) h0
  obtain ⟨part, rfl, rfl, rfl, c4⟩ := Go.ChangeMaps.open_string Tryd.underlying9 (hval 1 9 v1 rfl rfl) h1
  clear hA0 hval0
  refine (fnExactAdd_walk cap u n tx part W c1 c2 c3 c4 (tabs3_of_laid hL)).mono fun e W' ⟨he, hb⟩ => ?_
  subst he
  exact ⟨_, rfl, post_law laidOutH (by kernel_rfl) (by kernel_rfl) (bt := 4) (by kernel_rfl) Tryd.underlying4 hW' rfl hb⟩
theorem fnExactAdd_holds : Rows.FnExactAddSaid :=
  OpenClaim.holds_of_wide 6 Tryd.f6 rfl rfl rfl rfl rfl rfl rfl ⟨rfl, rfl, rfl, rfl, rfl⟩ rfl rfl rfl rfl rfl (by kernel_rfl) Tryd.func6 (by kernel_rfl)
    (of_decide_eq_true (by kernel_rfl)) (by unfold Func.isWrapper; first | (rw [if_pos (by decide +kernel)]; kernel_rfl) | (rw [if_neg (by decide +kernel)]; exact ⟨rfl, rfl⟩))
    (fun os started H enc _ => fnExactAdd_lifted os started H enc)
theorem fnExactAdd_card_holds : Rows.FnExactAddCardSaid :=
  Claim7.holds_tied_plain_at .later [] [.data, .data, .pinned] true Rows.fnExactAddCard.stood.harness false
    fnExactAdd_holds (fun _ h => by cases h) (by kernel_rfl) (fun _ h => by cases h) fnExactAdd_row_tie rfl ⟨rfl, rfl⟩ (by kernel_rfl) rfl
    (fun f fn hf hfn => by
      obtain rfl : f = 6 := Option.some.inj ((show Tryd.prog.funcNamed Rows.fnExactAddRow.func = some 6 by kernel_rfl).symm.trans hf) |>.symm
      obtain rfl : fn = Tryd.f6 := (Option.some.inj (Tryd.func6.symm.trans hfn)).symm
      exact ⟨by kernel_rfl, fun j t ht => by
        rw [Tryd.params6] at ht
        have hm : t ∈ [24, 9] := by simpa using Array.mem_of_getElem? ht
        have hall : ([24, 9].all fun u => !Tryd.prog.wantsStandIn u) = true := by kernel_rfl
        exact (show Tryd.prog.wantsStandIn t = false by simpa using List.all_eq_true.1 hall t hm)⟩)
    (by kernel_rfl)
#print axioms fnExactAdd_card_holds
end Go.Proofs.YtaddlkhaokdpdaaDoor
