import Derived.Test.YtkimnihdjeonpabNewScrS
import Derived.Test.YtkimnihdjeonpabSBox
import Derived.Test.YtkimnihdjeonpabFrame
import Derived.Test.YtkimnihdjeonpabRows
namespace Go.Proofs.Ytkimnihdjeonpab
open Go.ChangeShapes Go.WideShapes Go.ChangeAt Go.RowKit
set_option maxHeartbeats 2000000 in
theorem newScreen_walk (c r : Int) (d : SD) (b : Bool) (w : World) (hF : d.Fits) (hS : d.Small 1)
    (hspec : ∀ W : World, Calls Try.prog 15 #[.int .i64 c, .int .i64 r] W fun e w' => ∃ gv hv bv, e = .returned (.tuple #[scrV d gv hv bv, .bool b]) ∧ ScrAt w' d gv hv bv ∧ Ext W w')
    (himpl : ∀ W : World, Calls Try.prog 16 #[.int .i64 c, .int .i64 r] W fun e w' => ∃ gv rv hv bv, e = .returned (.tuple #[scrV d gv hv bv, .bool b]) ∧ OwnScr w' W.heap.size d gv rv hv bv ∧ Ext W w') :
    Calls Try.prog 4 #[.int .i64 c, .int .i64 r] w fun e w' => e = .returned (.bool true) ∧ Below w.heap.size w w' := by
  have HSP := hide hspec
  have HIM := hide himpl
  have HF := hide hF
  have HSM := hide hS
  have hk3 : 0 ≤ sk3 1 d := by
    have := (hS d.R (Nat.le_refl _)).1
    unfold sk3 sk2 sk1; omega
  have hneg : ¬ sk3 1 d < 0 := by omega
  clear hspec himpl hF hS
  go_enter Try.func4, Try.ntmps4
  go_wp2_with fail
  refine ((unhide HSP) _).mono ?_
  rintro e w1 ⟨g1, h1, b1, rfl, s1, E1⟩
  obtain ⟨ga1, gc1, ha1, hc1, ba1, bc1, rfl, rfl, rfl⟩ := s1.forms
  have S1 := hide s1
  clear s1
  unfold scrV
  go_wp2_with fail
  refine ((unhide HIM) _).mono ?_
  rintro e w2 ⟨g2, rv2, h2, b2, rfl, o2, F2⟩
  obtain ⟨ga2, gc2, ha2, hc2, ba2, bc2, rfl, rfl, rfl⟩ := o2.reads.forms
  have hz1 : ∀ o, (w1.alloc o).heap.size = w1.heap.size + 1 := fun o => by simp
  rw [hz1] at o2
  have B1 := hide ((SBox.new w1 d _ _ _).ext F2)
  have O2 := hide o2
  have E2 := (E1.alloc _).trans F2
  have G2 := ((Ext.refl w1).alloc _).trans F2
  have QA := hide (fun o => (unhide B1).ext ((Ext.refl w2).alloc o))
  have p0 := fun o => (unhide QA o).1
  have p1 := fun o => (unhide QA o).2.1
  have p2 := fun o => (unhide QA o).2.2.1
  have p3 := fun o => (unhide QA o).2.2.2.1
  have p4 := fun o => (unhide QA o).2.2.2.2.1
  have p5 := fun o => (unhide QA o).2.2.2.2.2.1
  have p6 := fun o => (unhide QA o).2.2.2.2.2.2.1
  have p7 := fun o => (unhide QA o).2.2.2.2.2.2.2
  clear o2 F2 hz1
  unfold scrV
  go_wp2_with fail
  refine (eqScreen_same d (.slice ga2 d.R gc2) (.slice ha2 d.hold.length hc2) (.slice ba2 d.nb bc2) (.slice ga1 d.R gc1) (.slice ha1 d.hold.length hc1) (.slice ba1 d.nb bc1) _ ((unhide O2).reads.ext ((Ext.refl _).alloc _)) (((unhide S1).ext G2).ext ((Ext.refl _).alloc _)) (unhide HF)).mono ?_
  rintro e w3 ⟨rfl, F3⟩
  clear p0 p1 p2 p3 p4 p5 p6 p7
  have B7 := hide ((SBox.new w2 d _ _ _).ext F3)
  have X3 := ((Ext.refl w2).alloc _).trans F3
  have B5 := hide ((unhide B1).ext X3)
  have p0 := (unhide B7).1
  have p1 := (unhide B7).2.1
  have p2 := (unhide B7).2.2.1
  have p3 := (unhide B7).2.2.2.1
  have p4 := (unhide B7).2.2.2.2.1
  have p5 := (unhide B7).2.2.2.2.2.1
  have p6 := (unhide B7).2.2.2.2.2.2.1
  have p7 := (unhide B7).2.2.2.2.2.2.2
  clear B1 QA F3
  go_wp2_with fail
  refine (markScreen_any (w1.heap.size + 1) d (.slice ga2 d.R gc2) rv2 (.slice ha2 d.hold.length hc2) (.slice ba2 d.nb bc2) 1 _ ((unhide O2).ext X3) (unhide HF) (unhide HSM)).mono ?_
  rintro e w4 ⟨rfl, o4, fr4⟩
  clear p0 p1 p2 p3 p4 p5 p6 p7
  have hft := hide (fun k (hk : SFoot d (.slice ga2 d.R gc2) rv2 (.slice ha2 d.hold.length hc2) (.slice ba2 d.nb bc2) k) => (unhide O2).foot hk)
  have hle := E1.size
  have E4 := Fr.ext fr4 (E2.trans X3) (fun k hk => by have := (unhide hft) k hk; omega)
  have G4 := Fr.ext fr4 (G2.trans X3) (fun k hk => by have := (unhide hft) k hk; omega)
  have B74 := hide ((unhide B7).fr fr4 (fun hk => by have := (unhide hft) _ hk; omega))
  have B54 := hide ((unhide B5).fr fr4 (fun hk => by have := (unhide hft) _ hk; omega))
  have O4 := hide o4
  have p0 := (unhide B74).1
  have p1 := (unhide B74).2.1
  have p2 := (unhide B74).2.2.1
  have p3 := (unhide B74).2.2.2.1
  have p4 := (unhide B74).2.2.2.2.1
  have p5 := (unhide B74).2.2.2.2.2.1
  have p6 := (unhide B74).2.2.2.2.2.2.1
  have p7 := (unhide B74).2.2.2.2.2.2.2
  clear o4 fr4 B7 B5 O2
  go_wp2_with fail
  refine (heldScreen_any d (.slice ga2 d.R gc2) (.slice ha2 d.hold.length hc2) (.slice ba2 d.nb bc2) 1 _ (unhide O4).reads (unhide HF) (unhide HSM)).mono ?_
  rintro e w5 ⟨rfl, F5⟩
  clear p0 p1 p2 p3 p4 p5 p6 p7
  go_wp2_with fail
  refine ((unhide HIM) _).mono ?_
  rintro e w6 ⟨g6, rv6, h6, b6, rfl, o6, F6⟩
  obtain ⟨ga6, gc6, ha6, hc6, ba6, bc6, rfl, rfl, rfl⟩ := o6.reads.forms
  have X6 := F5.trans F6
  have R6 := hide o6.reads
  have QA := hide (fun o => (unhide B54).ext (X6.alloc o))
  have p0 := fun o => (unhide QA o).1
  have p1 := fun o => (unhide QA o).2.1
  have p2 := fun o => (unhide QA o).2.2.1
  have p3 := fun o => (unhide QA o).2.2.2.1
  have p4 := fun o => (unhide QA o).2.2.2.2.1
  have p5 := fun o => (unhide QA o).2.2.2.2.2.1
  have p6 := fun o => (unhide QA o).2.2.2.2.2.2.1
  have p7 := fun o => (unhide QA o).2.2.2.2.2.2.2
  clear o6
  unfold scrV
  go_wp2_with fail
  refine (eqScreen_same d (.slice ga6 d.R gc6) (.slice ha6 d.hold.length hc6) (.slice ba6 d.nb bc6) (.slice ga1 d.R gc1) (.slice ha1 d.hold.length hc1) (.slice ba1 d.nb bc1) _ ((unhide R6).ext ((Ext.refl _).alloc _)) ((unhide S1).ext ((G4.trans X6).alloc _)) (unhide HF)).mono ?_
  rintro e w7 ⟨rfl, F7⟩
  clear p0 p1 p2 p3 p4 p5 p6 p7
  have X7 := (X6.alloc _).trans F7
  have p0 := ((unhide B74).ext X7).1
  have p1 := ((unhide B74).ext X7).2.1
  have p2 := ((unhide B74).ext X7).2.2.1
  have p3 := ((unhide B74).ext X7).2.2.2.1
  have p4 := ((unhide B74).ext X7).2.2.2.2.1
  have p5 := ((unhide B74).ext X7).2.2.2.2.2.1
  have p6 := ((unhide B74).ext X7).2.2.2.2.2.2.1
  have p7 := ((unhide B74).ext X7).2.2.2.2.2.2.2
  clear F7
  go_wp2_with fail
  refine (heldScreen_any d (.slice ga2 d.R gc2) (.slice ha2 d.hold.length hc2) (.slice ba2 d.nb bc2) 1 _ ((unhide O4).reads.ext X7) (unhide HF) (unhide HSM)).mono ?_
  rintro e w8 ⟨rfl, F8⟩
  go_wp2
  go_ret
  exact ⟨rfl, ((E4.trans X7).trans F8).below⟩
theorem fnExactNewScreen_walk (c r : Int) (w : World) :
    Calls Try.prog 4 #[.int .i64 c, .int .i64 r] w fun e w' => e = .returned (.bool true) ∧ Below w.heap.size w w' := by
  by_cases h : sizeB c r = true
  · obtain ⟨cn, rn, rfl, rfl, h1, h2, h3, h4⟩ := sizeB_open h
    refine newScreen_walk _ _ (blankSD cn rn) true w ⟨by simp [blankSD]; omega, fun i _ => by simp [blankSD]; omega, by simp [blankSD], by simp [blankSD]⟩ (fun i hi => ?_) (fun W => (specNewScreen_yes cn rn W h h2 h4).mono (fun e w' ⟨g, _, h, b, e1, _, e2, e3⟩ => ⟨g, h, b, e1, e2, e3⟩)) (fun W => (implNewScreen_yes cn rn W h h2 h4).mono ?_)
    · have hb := gk_bd 1 (fun _ => cn) 200 (fun _ => h2) i
      have hi' : i ≤ 100 := Nat.le_trans hi h4
      show 0 ≤ gk 1 (fun _ => cn) i ∧ gk 1 (fun _ => cn) i ≤ 549755813888
      omega
    · rintro e w' ⟨rfl, ⟨rv, ho⟩, hE⟩
      exact ⟨_, rv, _, _, rfl, ho, hE⟩
  · have h0 : sizeB c r = false := by simpa using h
    refine newScreen_walk _ _ zeroSD false w ⟨by simp [zeroSD], fun i hi => by simp [zeroSD], by simp [zeroSD], by simp [zeroSD]⟩ (fun i hi => ?_) (fun W => (specNewScreen_no c r W h0).mono ?_) (fun W => (implNewScreen_no c r W h0).mono ?_)
    · have : i = 0 := by simpa [zeroSD] using hi
      subst this
      simp [gk]
    · rintro e w' ⟨rfl, hE⟩
      exact ⟨_, _, _, rfl, (own_zero w' 0 zeroSD rfl rfl rfl).reads, hE⟩
    · rintro e w' ⟨rfl, hE⟩
      exact ⟨_, _, _, _, rfl, own_zero w' _ zeroSD rfl rfl rfl, hE⟩
set_option maxRecDepth 100000 in
theorem fnExactNewScreen_lifted (os : Os) (started : os.Started) (H : Type) (enc : TypeId × Value → H) :
    ReturnsInHanded {} Try.checked os 4 .any (Rows.fnExactNewScreenSpec.pre6 enc Try.prog Try.f4 Rows.fnExactNewScreenRow.domain false) (Rows.fnExactNewScreenSpec.post enc Try.prog Try.f4 false true false false) := by
  have own : ownKnob Try.prog.godebug = none := by kernel_rfl
  refine returnsInHanded_of_change (C := Try.checked) own started (by kernel_rfl) Try.func4
    (ChangeSpec.witness6 (enc := enc) (C := Try.checked) false ⟨#[], #[.int .i64 0, .int .i64 0], []⟩ 8 (by kernel_rfl) (by kernel_rfl) (by kernel_rfl) (by kernel_rfl)) ?_
  intro W base args ds gs before hval0 hW hcnd _
  have hval : ∀ (j : Nat) t v, Try.f4.params[j]? = some t → args[j]? = some v → Value.okWide Try.prog W .any base t v := hval0
  have hW' := hW
  obtain ⟨p, q, hA0, hV, rfl, hfz, hnd⟩ := hW
  have hA : DataW.TrodAll enc Try.prog W 0 (fun _ => true) true Try.f4.params.toList args.toList ds p := hA0
  rw [Try.params4] at hA hval
  obtain ⟨v0, v1, d0, d1, p0, p1, rfl, rfl, rfl, h0, h1⟩ := trodAll_two hA
  obtain ⟨rfl, rfl⟩ := trodVars_none hV
  obtain ⟨a0, rfl, rfl, rfl, w0⟩ := open_int Try.underlying3 (hval 0 3 v0 rfl rfl) h0
  obtain ⟨a1, rfl, rfl, rfl, w1⟩ := open_int Try.underlying3 (hval 1 3 v1 rfl rfl) h1
  clear hA0 hval0
  refine (fnExactNewScreen_walk a0 a1 W).mono fun e W' ⟨he, hb⟩ => ?_
  subst he
  exact ⟨_, rfl, post_law (by kernel_rfl) (by kernel_rfl) (by kernel_rfl) (bt := 4) (by kernel_rfl) Try.underlying4 hW' rfl hb⟩
theorem fnExactNewScreen_holds : Rows.FnExactNewScreenSaid :=
  OpenClaim.holds_of_wide 4 Try.f4 rfl rfl rfl rfl rfl rfl rfl ⟨rfl, rfl, rfl, rfl, rfl⟩ rfl rfl rfl rfl rfl (by kernel_rfl) Try.func4 (by kernel_rfl)
    (of_decide_eq_true (by kernel_rfl)) (by unfold Func.isWrapper; first | (rw [if_pos (by decide +kernel)]; kernel_rfl) | (rw [if_neg (by decide +kernel)]; exact ⟨rfl, rfl⟩))
    (fun os started H enc _ => fnExactNewScreen_lifted os started H enc)
#print axioms fnExactNewScreen_holds
end Go.Proofs.Ytkimnihdjeonpab
