import Derived.Test.YtkimnihdjeonpaaDoorClus
import Derived.Test.YtkimnihdjeonpaaDoorClsMark
import Derived.Test.YtkimnihdjeonpaaDoorTab
import Derived.Test.YtkimnihdjeonpaaDoorTie
import Derived.Test.YtkimnihdjeonpaaDoorCards
import Derived.SevenTiedAt
namespace Go.Proofs.YtkimnihdjeonpaaDoor
open Go.ChangeShapes Go.WideShapes Go.ChangeAt Go.RowKit
theorem clus_small (xs : List Int) (hl : xs.length ≤ 1048576) : Small 1 (clusC xs) := by
  intro j hj
  have h1 := clF_len xs xs.length
  have h2 := kkC_bd 1 (clusC xs) 1048577 (by omega) (fun i => by have := clF_runes xs xs.length i; unfold clusC; omega) j
  have h3 : j ≤ 1048576 := by unfold clusC at hj; omega
  have h4 : (j : Int) * (1048577 + 1) ≤ 1048576 * (1048577 + 1) := Int.mul_le_mul_of_nonneg_right (by omega) (by omega)
  have h5 : ((1048577 : Nat) : Int) = 1048577 := rfl
  rw [h5] at h2
  omega
set_option maxHeartbeats 2000000 in
theorem fnExactClusters_small (va : Value) (xs : List Int) (w : World) (hv : IntsAt w .i32 va xs) (hI : I32s xs) (hl : xs.length ≤ 1048576) (hT : Laid w) :
    Calls Tryd.prog 5 #[va] w fun e w' => e = .returned (.bool true) ∧ Below w.heap.size w w' := by
  have hv0 := hv
  obtain ⟨ao, cap, rfl, hcap, hr⟩ := hv
  clear hr
  have hsm := hide (clus_small xs hl)
  have hCl : (clusC xs).length ≤ 1048576 := by have := clF_len xs xs.length; unfold clusC; omega
  have hCr : ∀ j, j < (clusC xs).length → (cR (clusC xs) j).length ≤ 4398046511104 := fun j _ => by have := clF_runes xs xs.length j; unfold clusC; omega
  have HCR := hide hCr
  have HI := hide hI
  have HT := hide hT
  clear hCr hI hT
  go_enter Tryd.func5, Tryd.ntmps5
  go_wp2_with fail
  refine (toInt32S_any _ xs _ hv0 (by omega)).mono ?_
  rintro e w1 ⟨rfl, o1, E1⟩
  go_wp2_with fail
  refine (specClusters_any _ xs w1 (ints_of_owns o1) (unhide HI) (by omega)).mono ?_
  rintro e w2 ⟨ws, rss, rfl, os2, F2⟩
  have E2 := E1.trans F2
  clear o1
  go_wp2_with fail
  refine (toInt32S_any _ xs _ (hv0.ext E2) (by omega)).mono ?_
  rintro e w3 ⟨rfl, ox3, F3⟩
  have E3 := E2.trans F3
  go_wp2_with fail
  refine (implClusters_any _ xs w3 (ints_of_owns ox3) (unhide HI) (by omega) ((unhide HT).below E3.below)).mono ?_
  rintro e w4 ⟨vg, rsg, rfl, og4, F4⟩
  have E4 := E3.trans F4
  have OS2 := hide os2
  have os4 := hide ((os2.ext F3).ext F4)
  have ox4 := hide (F4.owns ox3)
  have z23 : w2.heap.size < w3.heap.size := (ox3.lt w2.heap.size rfl).2
  have z02 := E2.size
  have z03 := E3.size
  have og4 := hide og4
  clear os2 ox3
  go_wp2_with fail
  refine (eqClusterS_same _ _ _ w4 (unhide og4).cls (unhide os4).cls (by omega) (unhide HCR)).mono ?_
  rintro e w5 ⟨rfl, F5⟩
  have E5 := E4.trans F5
  go_wp2_with fail
  refine (toInt32S_any _ xs _ (hv0.ext E5) (by omega)).mono ?_
  rintro e w6 ⟨rfl, oy6, F6⟩
  have E6 := E5.trans F6
  have ox6 := F6.owns (F5.owns (unhide ox4))
  go_wp2_with fail
  refine (eqInt32S_same _ _ xs _ (ints_of_owns ox6) (ints_of_owns oy6) (by omega)).mono ?_
  rintro e w7 ⟨rfl, F7⟩
  clear oy6
  have E7 := E6.trans F7
  have ox7 := F7.owns ox6
  have F47 := (F5.trans F6).trans F7
  clear ox6
  go_wp2_with fail
  refine (markInt32S_any w2.heap.size _ _ _ 1 _ ox7 (by omega) (by omega) (by omega)).mono ?_
  rintro e w8 ⟨rfl, -, G8⟩
  have E8 : Ext w w8 := E7.grown G8 (fun k hk => by simp [Value.ownBlock] at hk; omega)
  have fr8 : Fr (fun k => k = w2.heap.size) w7 w8 := (Fr.refl _ _).grown G8 (fun k hk => by simp [Value.ownBlock] at hk; exact hk.symm)
  have og8 := hide (((unhide og4).ext F47).fr fr8 (fun g hg e => by have := ((unhide og4).foot hg).1; omega))
  have os8 := hide (((unhide os4).ext F47).fr fr8 (fun g hg e => by have := ((unhide OS2).foot hg).2; omega))
  clear G8 fr8 ox7 og4 os4 ox4
  have hk2 : ¬ (1 : Int) + (xs.length : Int) < 0 := by omega
  go_wp2_with fail
  refine (eqClusterS_same _ _ _ w8 (unhide og8).cls (unhide os8).cls (by omega) (unhide HCR)).mono ?_
  rintro e w9 ⟨rfl, F9⟩
  have E9 := E8.trans F9
  have og9 := hide ((unhide og8).ext F9)
  have os9 := hide ((unhide os8).ext F9)
  clear og8 os8
  go_wp2_with fail
  refine (markClusterS_any w3.heap.size _ _ _ 1 _ (unhide og9) (by omega) (unhide HCR) (unhide hsm)).mono ?_
  rintro e w10 ⟨rfl, om10, fr10⟩
  have E10 : Ext w w10 := fr10.ext E9 (fun k hk => by have := ((unhide og9).foot hk).1; omega)
  have os10 := hide ((unhide os9).fr fr10 (fun g hg e => by have := ((unhide OS2).foot hg).2; have := ((unhide og9).foot e).1; omega))
  have om10 := hide om10
  clear og9 os9 fr10
  obtain ⟨K, hK⟩ : ∃ K, K = kkC 1 (clusC xs) (clusC xs).length := ⟨_, rfl⟩
  have hK0 := ((unhide hsm) _ (Nat.le_refl _)).1
  have HH := hide (fun W (h : ClsAt W vg (mkCls 1 (clusC xs))) => heldClusterS_any vg (clusC xs) 1 W h (by omega) (unhide HCR) (unhide hsm))
  rw [← hK] at hK0 HH ⊢
  clear hK
  have hq1 : ¬ K < 0 := by omega
  go_wp2_with fail
  refine ((unhide HH) _ (unhide om10).cls).mono ?_
  rintro e w11 ⟨rfl, F11⟩
  have E11 := E10.trans F11
  go_wp2_with fail
  refine (toInt32S_any _ xs _ (hv0.ext E11) (by omega)).mono ?_
  rintro e w12 ⟨rfl, oy12, F12⟩
  have E12 := E11.trans F12
  go_wp2_with fail
  refine (implClusters_any _ xs w12 (ints_of_owns oy12) (unhide HI) (by omega) ((unhide HT).below E12.below)).mono ?_
  rintro e w13 ⟨vh, rsh, rfl, oh13, F13⟩
  have oh13 := hide oh13
  have F1013 := (F11.trans F12).trans F13
  have os13 := hide ((unhide os10).ext F1013)
  have om13 := hide ((unhide om10).ext F1013)
  clear oy12 os10 om10
  go_wp2_with fail
  refine (eqClusterS_same _ _ _ w13 (unhide oh13).cls (unhide os13).cls (by omega) (unhide HCR)).mono ?_
  rintro e w14 ⟨rfl, F14⟩
  have om14 := hide ((unhide om13).ext F14)
  go_wp2_with fail
  refine ((unhide HH) _ (unhide om14).cls).mono ?_
  rintro e w15 ⟨rfl, F15⟩
  go_wp2
  go_ret
  exact ⟨rfl, ((((E12.trans F13).trans F14).trans F15)).below⟩
theorem fnExactClusters_great (ao : Option Addr) (n cap : Nat) (w : World) (hl : ¬ n ≤ 1048576) :
    Calls Tryd.prog 5 #[.slice ao n cap] w fun e w' => e = .returned (.bool true) ∧ Below w.heap.size w w' := by
  have h : (1048576 : Int) < (n : Int) := by omega
  go_enter Tryd.func5, Tryd.ntmps5
  go_wp2
  go_ret
  exact ⟨rfl, Below.refl _ _⟩
set_option maxRecDepth 100000 in
theorem fnExactClusters_lifted (os : Os) (started : os.Started) (H : Type) (enc : TypeId × Value → H) :
    ReturnsInHanded {} Tryd.checked os 5 .any (fun w args => (Rows.fnExactClustersSpec.pre enc Tryd.prog Tryd.f5 [] false w args ∧ laidMetH Tryd.prog laid1 w) ∧ sizedMet enc Tryd.prog Tryd.f5 (OpenSpec.ofChange Rows.fnExactClustersSpec) false w args)
      (Rows.fnExactClustersSpec.post enc Tryd.prog Tryd.f5 false true false false) := by
  refine returnsInHanded_of_change_and (C := Tryd.checked) (X := fun w _ => laidMetH Tryd.prog laid1 w) (fun _ _ _ hh h => h.of_heap hh) own started (by kernel_rfl) Tryd.func5
    (ChangeSpec.witness_shaped (enc := enc) (C := Tryd.checked) (os := os) (X := fun w _ => laidMetH Tryd.prog laid1 w) false (World.doorLaid Tryd.prog 400 os) #[.slice none 0 0] 8 rfl (World.shaped_of_RefB (by kernel_rfl) (by kernel_rfl)) (by kernel_rfl) (by kernel_rfl) (by kernel_rfl) (door_met os _)) ?_
  intro W base args ds gs before hval0 hW _ _ hL _
  have hval : ∀ (j : Nat) t v, Tryd.f5.params[j]? = some t → args[j]? = some v → Value.okWide Tryd.prog W .any base t v := hval0
  have hW' := hW
  obtain ⟨p, q, hA0, hV0, rfl, hfz, hnd⟩ := hW
  have hA : DataW.TrodAll enc Tryd.prog W 0 (fun _ => true) true Tryd.f5.params.toList args.toList ds p := hA0
  have hV : DataW.TrodVars enc Tryd.prog W (fun _ => true) [tabName] gs q := hV0
  rw [Tryd.params5] at hA hval
  obtain ⟨v0, d0, rfl, rfl, h0⟩ := trodAll_one hA
  obtain ⟨g, t, cs, fuel, d, p', rfl, _, _, _, _, _⟩ := trodVars_one hV
  obtain ⟨zs, hz, hwf, ao, cap, rfl⟩ := ints_came Tryd.underlying26 Tryd.underlying21 (by kernel_rfl) (hval 0 26 v0 rfl rfl) h0
  clear hA0 hval0
  have hwalk : Calls Tryd.prog 5 #[.slice ao zs.length cap] W fun e w' => e = .returned (.bool true) ∧ Below W.heap.size W w' := by
    by_cases hl : zs.length ≤ 1048576
    · exact fnExactClusters_small _ zs W hz (fun n hn => bounds_i32 (hwf n hn)) hl (of_laid hL)
    · exact fnExactClusters_great ao _ cap W hl
  refine hwalk.mono fun e W' ⟨he, hb⟩ => ?_
  subst he
  exact ⟨_, rfl, post_law laidOut (by kernel_rfl) (by kernel_rfl) (bt := 4) (by kernel_rfl) Tryd.underlying4 hW' rfl hb⟩
theorem fnExactClusters_holds : Rows.FnExactClustersSaid :=
  OpenClaim.holds_of_wide 5 Tryd.f5 rfl rfl rfl rfl rfl rfl rfl ⟨rfl, rfl, rfl, rfl, rfl⟩ rfl rfl rfl rfl rfl (by kernel_rfl) Tryd.func5 (by kernel_rfl)
    (of_decide_eq_true (by kernel_rfl)) (by unfold Func.isWrapper; first | (rw [if_pos (by decide +kernel)]; kernel_rfl) | (rw [if_neg (by decide +kernel)]; exact ⟨rfl, rfl⟩))
    (fun os started H enc _ => fnExactClusters_lifted os started H enc)
theorem fnExactClusters_card_holds : Rows.FnExactClustersCardSaid :=
  Claim7.holds_tied_plain_at .later [] [.data] true Rows.fnExactClustersCard.stood.harness false
    fnExactClusters_holds (fun _ h => by cases h) (by kernel_rfl) (fun _ h => by cases h) fnExactClusters_row_tie rfl ⟨rfl, rfl⟩ (by kernel_rfl) rfl
    (fun f fn hf hfn => by
      obtain rfl : f = 5 := Option.some.inj ((show Tryd.prog.funcNamed Rows.fnExactClustersRow.func = some 5 by kernel_rfl).symm.trans hf) |>.symm
      obtain rfl : fn = Tryd.f5 := (Option.some.inj (Tryd.func5.symm.trans hfn)).symm
      exact ⟨by kernel_rfl, fun j t ht => by
        rw [Tryd.params5] at ht
        have hm : t ∈ [26] := by simpa using Array.mem_of_getElem? ht
        have hall : ([26].all fun u => !Tryd.prog.wantsStandIn u) = true := by kernel_rfl
        exact (show Tryd.prog.wantsStandIn t = false by simpa using List.all_eq_true.1 hall t hm)⟩)
    (by kernel_rfl)
#print axioms fnExactClusters_card_holds
end Go.Proofs.YtkimnihdjeonpaaDoor
