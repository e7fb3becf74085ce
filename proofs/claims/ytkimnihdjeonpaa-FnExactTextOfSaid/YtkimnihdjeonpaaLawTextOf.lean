import Derived.Test.YtkimnihdjeonpaaCameCls
import Derived.Test.YtkimnihdjeonpaaRows
namespace Go.Proofs.Ytkimnihdjeonpaa
open Go.ChangeShapes Go.WideShapes Go.ChangeAt Go.RowKit
set_option maxHeartbeats 1000000 in
theorem fnExactTextOf_walk (v : Value) (cs : List (List Int × Int)) (w : World) (hv : ClsAt w v cs) (hI : ∀ j, j < cs.length → I32s (cR cs j)) (hn : cs.length ≤ maxLen) (hx : ∀ j, j < cs.length → (cR cs j).length ≤ maxLen) :
    Calls Try.prog 3 #[v] w fun e w' => e = .returned (.bool true) ∧ Below w.heap.size w w' := by
  have hz := hide (szClusterS_any v cs 1048576 w hv (by omega) (by omega) (by unfold maxLen at hn; omega) (fun j hj => by have := hx j hj; unfold maxLen at this; omega))
  go_enter Try.func3, Try.ntmps3
  go_wp2_with fail
  refine (unhide hz).mono ?_
  rintro e w1 ⟨r, rfl, hr, E1⟩
  rcases hr with hr | ⟨hr, hsz⟩
  · go_wp2
    go_ret
    exact ⟨rfl, E1.below⟩
  · have hl : cs.length + sumR cs cs.length ≤ 16777216 := by omega
    have hx1 : ∀ j, j < cs.length → (cR cs j).length ≤ 4398046511104 := fun j hj => by have := sumR_le cs j cs.length hj; omega
    have HX := hide hx1
    have HI := hide hI
    clear hx hx1 hI hsz
    go_wp2_with fail
    refine (toClusterS_any v cs w1 (hv.ext E1) (by omega) (unhide HX)).mono ?_
    rintro e w2 ⟨rfl, ⟨r1, o2⟩, F2⟩
    go_wp2_with fail
    refine (specTextOf_any _ cs w2 o2.cls hl (unhide HI)).mono ?_
    rintro e w3 ⟨rfl, F3⟩
    have E3 := (E1.trans F2).trans F3
    clear o2
    go_wp2_with fail
    refine (toClusterS_any v cs w3 (hv.ext E3) (by omega) (unhide HX)).mono ?_
    rintro e w4 ⟨rfl, ⟨r4, o4⟩, F4⟩
    go_wp2_with fail
    refine (implTextOf_any _ cs w4 o4.cls hl (unhide HI)).mono ?_
    rintro e w5 ⟨rfl, F5⟩
    have E5 := (E3.trans F4).trans F5
    have o5 := o4.ext F5
    clear o4
    go_wp2_with fail
    refine (toClusterS_any v cs w5 (hv.ext E5) (by omega) (unhide HX)).mono ?_
    rintro e w6 ⟨rfl, ⟨r6, o6⟩, F6⟩
    go_wp2_with fail
    refine (eqClusterS_same _ _ cs w6 (o5.ext F6).cls o6.cls (by omega) (unhide HX)).mono ?_
    rintro e w7 ⟨rfl, F7⟩
    go_wp2
    go_ret
    exact ⟨rfl, ((E5.trans F6).trans F7).below⟩
set_option maxRecDepth 100000 in
theorem fnExactTextOf_lifted (os : Os) (started : os.Started) (H : Type) (enc : TypeId × Value → H) :
    ReturnsInHanded {} Try.checked os 3 .any (Rows.fnExactTextOfSpec.pre6 enc Try.prog Try.f3 Rows.fnExactTextOfRow.domain false) (Rows.fnExactTextOfSpec.post enc Try.prog Try.f3 false true false false) := by
  have own : ownKnob Try.prog.godebug = none := by kernel_rfl
  refine returnsInHanded_of_change (C := Try.checked) own started (by kernel_rfl) Try.func3
    (ChangeSpec.witness6 (enc := enc) (C := Try.checked) false ⟨#[], #[.slice none 0 0], []⟩ 8 (by kernel_rfl) (by kernel_rfl) (by kernel_rfl) (by kernel_rfl)) ?_
  intro W base args ds gs before hval0 hW hcnd _
  have hval : ∀ (j : Nat) t v, Try.f3.params[j]? = some t → args[j]? = some v → Value.okWide Try.prog W .any base t v := hval0
  have hW' := hW
  obtain ⟨p, q, hA0, hV, rfl, hfz, hnd⟩ := hW
  have hA : DataW.TrodAll enc Try.prog W 0 (fun _ => true) true Try.f3.params.toList args.toList ds p := hA0
  rw [Try.params3] at hA hval
  obtain ⟨v0, d0, rfl, rfl, h0⟩ := trodAll_one hA
  obtain ⟨rfl, rfl⟩ := trodVars_none hV
  obtain ⟨cs, c1, c2, c3, c4⟩ := cls_came (hval 0 22 v0 rfl rfl) h0
  clear hA0 hval0
  refine (fnExactTextOf_walk v0 cs W c1 c2 c3 c4).mono fun e W' ⟨he, hb⟩ => ?_
  subst he
  exact ⟨_, rfl, post_law (by kernel_rfl) (by kernel_rfl) (by kernel_rfl) (bt := 4) (by kernel_rfl) Try.underlying4 hW' rfl hb⟩
theorem fnExactTextOf_holds : Rows.FnExactTextOfSaid :=
  OpenClaim.holds_of_wide 3 Try.f3 rfl rfl rfl rfl rfl rfl rfl ⟨rfl, rfl, rfl, rfl, rfl⟩ rfl rfl rfl rfl rfl (by kernel_rfl) Try.func3 (by kernel_rfl)
    (of_decide_eq_true (by kernel_rfl)) (by unfold Func.isWrapper; first | (rw [if_pos (by decide +kernel)]; kernel_rfl) | (rw [if_neg (by decide +kernel)]; exact ⟨rfl, rfl⟩))
    (fun os started H enc _ => fnExactTextOf_lifted os started H enc)
#print axioms fnExactTextOf_holds
end Go.Proofs.Ytkimnihdjeonpaa
