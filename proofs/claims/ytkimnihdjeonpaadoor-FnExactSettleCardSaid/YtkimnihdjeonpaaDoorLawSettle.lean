import Derived.Test.YtkimnihdjeonpaaDoorSettle
import Derived.Test.YtkimnihdjeonpaaDoorTab
import Derived.Test.YtkimnihdjeonpaaDoorTie
import Derived.Test.YtkimnihdjeonpaaDoorCards
import Derived.SevenTiedAt
namespace Go.Proofs.YtkimnihdjeonpaaDoor
open Go.ChangeShapes Go.WideShapes Go.ChangeAt Go.RowKit Go.Deep
theorem ba_eq (s : ByteArray) : ∃ bs, Bytes bs ∧ s = toBA bs := by
  refine ⟨s.data.toList.map (fun u => (u.toNat : Int)), ?_, ?_⟩
  · intro n hn
    obtain ⟨u, _, rfl⟩ := List.mem_map.1 hn
    have := u.toNat_lt
    omega
  · have h := toBA_list (s.data.toList.map (fun u => (u.toNat : Int)))
    rw [List.map_map] at h
    have h2 : (s.data.toList.map ((fun n : Int => UInt8.ofNat n.toNat) ∘ fun u => (u.toNat : Int))) = s.data.toList := by
      conv => rhs; rw [← List.map_id s.data.toList]
      refine List.map_congr_left fun u _ => ?_
      simp
    rw [h2] at h
    have h3 := Array.toList_inj.1 h
    cases s
    cases hh : toBA _
    simp_all
set_option maxHeartbeats 400000 in
theorem fnExactSettle_walk (bs : List Int) (hb : Bytes bs) (w : World) (hT : Laid w) :
    Calls Tryd.prog 4 #[.string (toBA bs)] w fun e w' => e = .returned (.bool true) ∧ Below w.heap.size w w' := by
  have hsz := toBA_size bs
  by_cases hl : bs.length ≤ 1048576
  · have hl2 : ¬ (1048576 : Int) < (bs.length : Int) := by omega
    go_enter Tryd.func4, Tryd.ntmps4
    go_wp2_with fail
    refine (specSettle_any bs hb w (by omega)).mono ?_
    rintro e w1 ⟨rfl, E1⟩
    have hT1 := hT.below E1.below
    go_wp2_with fail
    refine (implSettle_any bs hb w1 (by omega) hT1).mono ?_
    rintro e w2 ⟨rfl, E2⟩
    go_wp2
    go_ret
    exact ⟨rfl, (E1.trans E2).below⟩
  · have hl2 : (1048576 : Int) < (bs.length : Int) := by omega
    go_enter Tryd.func4, Tryd.ntmps4
    go_wp2
    go_ret
    exact ⟨rfl, Below.refl _ _⟩
set_option maxRecDepth 100000 in
theorem fnExactSettle_lifted (os : Os) (started : os.Started) (H : Type) (enc : TypeId × Value → H) :
    ReturnsInHanded {} Tryd.checked os 4 .any (fun w args => (Rows.fnExactSettleSpec.pre enc Tryd.prog Tryd.f4 [] false w args ∧ laidMetH Tryd.prog laid1 w) ∧ sizedMet enc Tryd.prog Tryd.f4 (OpenSpec.ofChange Rows.fnExactSettleSpec) false w args)
      (Rows.fnExactSettleSpec.post enc Tryd.prog Tryd.f4 false true false false) := by
  refine returnsInHanded_of_change_and (C := Tryd.checked) (X := fun w _ => laidMetH Tryd.prog laid1 w) (fun _ _ _ hh h => h.of_heap hh) own started (by kernel_rfl) Tryd.func4
    (ChangeSpec.witness_shaped (enc := enc) (C := Tryd.checked) (os := os) (X := fun w _ => laidMetH Tryd.prog laid1 w) false (World.doorLaid Tryd.prog 400 os) #[.string ByteArray.empty] 8 rfl (World.shaped_of_RefB (by kernel_rfl) (by kernel_rfl)) (by kernel_rfl) (by kernel_rfl) (by kernel_rfl) (door_met os _)) ?_
  intro W base args ds gs before hval0 hW _ _ hL _
  have hval : ∀ (j : Nat) t v, Tryd.f4.params[j]? = some t → args[j]? = some v → Value.okWide Tryd.prog W .any base t v := hval0
  have hW' := hW
  obtain ⟨p, q, hA0, hV0, rfl, hfz, hnd⟩ := hW
  have hA : DataW.TrodAll enc Tryd.prog W 0 (fun _ => true) true Tryd.f4.params.toList args.toList ds p := hA0
  have hV : DataW.TrodVars enc Tryd.prog W (fun _ => true) [tabName] gs q := hV0
  rw [Tryd.params4] at hA hval
  obtain ⟨v0, d0, rfl, rfl, h0⟩ := trodAll_one hA
  obtain ⟨g, t, cs, fuel, d, p', rfl, _, _, _, _, _⟩ := trodVars_one hV
  obtain ⟨s0, rfl, rfl, rfl, w0⟩ := Go.ChangeMaps.open_string Tryd.underlying9 (hval 0 9 v0 rfl rfl) h0
  clear hA0 hval0
  obtain ⟨bs, hb, rfl⟩ := ba_eq s0
  refine (fnExactSettle_walk bs hb W (of_laid hL)).mono fun e W' ⟨he, hb⟩ => ?_
  subst he
  exact ⟨_, rfl, post_law laidOut (by kernel_rfl) (by kernel_rfl) (bt := 4) (by kernel_rfl) Tryd.underlying4 hW' rfl hb⟩
theorem fnExactSettle_holds : Rows.FnExactSettleSaid :=
  OpenClaim.holds_of_wide 4 Tryd.f4 rfl rfl rfl rfl rfl rfl rfl ⟨rfl, rfl, rfl, rfl, rfl⟩ rfl rfl rfl rfl rfl (by kernel_rfl) Tryd.func4 (by kernel_rfl)
    (of_decide_eq_true (by kernel_rfl)) (by unfold Func.isWrapper; first | (rw [if_pos (by decide +kernel)]; kernel_rfl) | (rw [if_neg (by decide +kernel)]; exact ⟨rfl, rfl⟩))
    (fun os started H enc _ => fnExactSettle_lifted os started H enc)
theorem fnExactSettle_card_holds : Rows.FnExactSettleCardSaid :=
  Claim7.holds_tied_plain_at .later [] [.data] true Rows.fnExactSettleCard.stood.harness false
    fnExactSettle_holds (fun _ h => by cases h) (by kernel_rfl) (fun _ h => by cases h) fnExactSettle_row_tie rfl ⟨rfl, rfl⟩ (by kernel_rfl) rfl
    (fun f fn hf hfn => by
      obtain rfl : f = 4 := Option.some.inj ((show Tryd.prog.funcNamed Rows.fnExactSettleRow.func = some 4 by kernel_rfl).symm.trans hf) |>.symm
      obtain rfl : fn = Tryd.f4 := (Option.some.inj (Tryd.func4.symm.trans hfn)).symm
      exact ⟨by kernel_rfl, fun j t ht => by
        rw [Tryd.params4] at ht
        have hm : t ∈ [9] := by simpa using Array.mem_of_getElem? ht
        have hall : ([9].all fun u => !Tryd.prog.wantsStandIn u) = true := by kernel_rfl
        exact (show Tryd.prog.wantsStandIn t = false by simpa using List.all_eq_true.1 hall t hm)⟩)
    (by kernel_rfl)
#print axioms fnExactSettle_card_holds
end Go.Proofs.YtkimnihdjeonpaaDoor
