import Derived.Test.YtkimnihdjeonpabOkImpl
import Derived.Test.YtkimnihdjeonpabToScr
import Derived.Test.YtkimnihdjeonpabCameScr
import Derived.Test.YtkimnihdjeonpabRows
namespace Go.Proofs.Ytkimnihdjeonpab
open Go.ChangeShapes Go.WideShapes Go.ChangeAt Go.RowKit
theorem gl_row (C : Nat → Nat) (t : Nat → Nat → ByteArray) (R i : Nat) (h : i < R) : C i ≤ gl C t R := by
  have := gl_le C t R (i + 1) (by omega)
  rw [gl] at this
  omega
theorem SD.Fits.of_bulk {s : SD} (h : s.bulk ≤ 1048576) : s.Fits := by
  unfold SD.bulk at h
  exact ⟨by omega, fun i hi => by have := gl_row s.C s.tx s.R i hi; omega, by omega, by omega⟩
theorem SBox.came (w : World) (d : SD) (gv hv bv : Value) : SBox (w.alloc (.cells #[.int .i64 d.cols, .int .i64 d.rows, gv, .int .i64 d.row, .int .i64 d.col, .bool d.late, hv, bv] 45)) w.heap.size d gv hv bv := by
  unfold SBox; simp [go_sem]
set_option maxHeartbeats 2000000 in
theorem fnExactScreenOk_walk (s : SD) (gv hv bv : Value) (w : World) (h : ScrAt w s gv hv bv) (hC : s.Came) :
    Calls Try.prog 5 #[scrV s gv hv bv] w fun e w' => e = .returned (.bool true) ∧ Below w.heap.size w w' := by
  obtain ⟨ok, hok⟩ : ∃ b : Bool, b = true ↔ OkP s := by
    classical exact ⟨decide (OkP s), by simp⟩
  have HOK := hide hok
  have HH := hide h
  have HC := hide hC
  clear hok h hC
  have HB := hide (SBox.came w s gv hv bv)
  unfold scrV
  go_enter Try.func5, Try.ntmps5
  go_wp2_with fail
  have E0 : ∀ a, Ext w (w.alloc a) := fun a => (Ext.refl _).alloc _
  refine (szScreen_any s gv hv bv 1048576 _ ((unhide HH).ext (E0 _)) (unhide HC) (by omega) (by omega)).mono ?_
  rintro e w1 ⟨r, rfl, hr, F1⟩
  have B1 := hide ((unhide HB).ext F1)
  have E1 := (E0 _).trans F1
  clear F1 HB E0
  rcases hr with ⟨rfl, _⟩ | ⟨hr, hr0⟩
  · go_wp2
    go_ret
    exact ⟨rfl, E1.below⟩
  · have HFI := hide (SD.Fits.of_bulk (s := s) (by omega))
    have hneg : ¬ r < 0 := by omega
    clear hr
    have p0 := (unhide B1).1
    have p1 := (unhide B1).2.1
    have p2 := (unhide B1).2.2.1
    have p3 := (unhide B1).2.2.2.1
    have p4 := (unhide B1).2.2.2.2.1
    have p5 := (unhide B1).2.2.2.2.2.1
    have p6 := (unhide B1).2.2.2.2.2.2.1
    have p7 := (unhide B1).2.2.2.2.2.2.2
    go_wp2_with fail
    refine (toScreen_any s gv hv bv w1 ((unhide HH).ext E1) (unhide HFI)).mono ?_
    rintro e w2 ⟨g2, rv2, h2, b2, rfl, o2, F2⟩
    have hcon := hide (specScreenOk_any s g2 h2 b2 ok (unhide HOK) w2 o2.reads (unhide HFI))
    clear o2
    go_wp2_with fail
    refine (unhide hcon).mono ?_
    rintro e w3 ⟨rfl, F3⟩
    have E3 := (E1.trans F2).trans F3
    have X3 := F2.trans F3
    clear p0 p1 p2 p3 p4 p5 p6 p7 hcon
    have p0 := ((unhide B1).ext X3).1
    have p1 := ((unhide B1).ext X3).2.1
    have p2 := ((unhide B1).ext X3).2.2.1
    have p3 := ((unhide B1).ext X3).2.2.2.1
    have p4 := ((unhide B1).ext X3).2.2.2.2.1
    have p5 := ((unhide B1).ext X3).2.2.2.2.2.1
    have p6 := ((unhide B1).ext X3).2.2.2.2.2.2.1
    have p7 := ((unhide B1).ext X3).2.2.2.2.2.2.2
    go_wp2_with fail
    refine (toScreen_any s gv hv bv w3 ((unhide HH).ext E3) (unhide HFI)).mono ?_
    rintro e w5 ⟨g5, rv5, h5, b5, rfl, o5, F5⟩
    obtain ⟨ga, gc, ha, hc, ba, bc, rfl, rfl, rfl⟩ := o5.reads.forms
    have R5 := hide o5.reads
    have hcon := hide (fun U (hU : Ext w5 U) => implScreenOk_any s _ _ _ ok (unhide HOK) U (o5.reads.ext hU) (unhide HFI))
    have N5 := hide (SBox.new w5 s (.slice ga s.R gc) (.slice ha s.hold.length hc) (.slice ba s.nb bc))
    have E5 := E3.trans F5
    have X5 := X3.trans F5
    clear o5 p0 p1 p2 p3 p4 p5 p6 p7
    unfold scrV
    go_wp2_with fail
    refine ((unhide hcon) _ ((Ext.refl _).alloc _)).mono ?_
    rintro e w6 ⟨rfl, F6⟩
    have N6 := hide ((unhide N5).ext F6)
    have X6 := ((Ext.refl w5).alloc _).trans F6
    have E6 := E5.trans X6
    have q0 := (unhide N6).1
    have q1 := (unhide N6).2.1
    have q2 := (unhide N6).2.2.1
    have q3 := (unhide N6).2.2.2.1
    have q4 := (unhide N6).2.2.2.2.1
    have q5 := (unhide N6).2.2.2.2.2.1
    have q6 := (unhide N6).2.2.2.2.2.2.1
    have q7 := (unhide N6).2.2.2.2.2.2.2
    have p0 := ((unhide B1).ext (X5.trans X6)).1
    have p1 := ((unhide B1).ext (X5.trans X6)).2.1
    have p2 := ((unhide B1).ext (X5.trans X6)).2.2.1
    have p3 := ((unhide B1).ext (X5.trans X6)).2.2.2.1
    have p4 := ((unhide B1).ext (X5.trans X6)).2.2.2.2.1
    have p5 := ((unhide B1).ext (X5.trans X6)).2.2.2.2.2.1
    have p6 := ((unhide B1).ext (X5.trans X6)).2.2.2.2.2.2.1
    have p7 := ((unhide B1).ext (X5.trans X6)).2.2.2.2.2.2.2
    have hto := hide (fun U (hU : Ext w6 U) => toScreen_any s gv hv bv U ((unhide HH).ext (E6.trans hU)) (unhide HFI))
    clear F6 hcon N5
    go_wp2
    go_region_held3 (fun W => W.cell? ⟨w.heap.size, 0, none⟩ = some (.int .i64 s.cols) ∧ W.cell? ⟨w.heap.size, 1, none⟩ = some (.int .i64 s.rows) ∧ W.cell? ⟨w.heap.size, 2, none⟩ = some (gv) ∧ W.cell? ⟨w.heap.size, 3, none⟩ = some (.int .i64 s.row) ∧ W.cell? ⟨w.heap.size, 4, none⟩ = some (.int .i64 s.col) ∧ W.cell? ⟨w.heap.size, 5, none⟩ = some (.bool s.late) ∧ W.cell? ⟨w.heap.size, 6, none⟩ = some (hv) ∧ W.cell? ⟨w.heap.size, 7, none⟩ = some (bv) ∧ W.cell? ⟨w5.heap.size, 0, none⟩ = some (.int .i64 s.cols) ∧ W.cell? ⟨w5.heap.size, 1, none⟩ = some (.int .i64 s.rows) ∧ W.cell? ⟨w5.heap.size, 2, none⟩ = some (.slice ga s.R gc) ∧ W.cell? ⟨w5.heap.size, 3, none⟩ = some (.int .i64 s.row) ∧ W.cell? ⟨w5.heap.size, 4, none⟩ = some (.int .i64 s.col) ∧ W.cell? ⟨w5.heap.size, 5, none⟩ = some (.bool s.late) ∧ W.cell? ⟨w5.heap.size, 6, none⟩ = some (.slice ha s.hold.length hc) ∧ W.cell? ⟨w5.heap.size, 7, none⟩ = some (.slice ba s.nb bc)) (first | exact ⟨p0, p1, p2, p3, p4, p5, p6, p7, q0, q1, q2, q3, q4, q5, q6, q7⟩ | exact ⟨he'.cell p0, he'.cell p1, he'.cell p2, he'.cell p3, he'.cell p4, he'.cell p5, he'.cell p6, he'.cell p7, he'.cell q0, he'.cell q1, he'.cell q2, he'.cell q3, he'.cell q4, he'.cell q5, he'.cell q6, he'.cell q7⟩ | go_keep)
      (first
        | (go_at_call 22; refine ((unhide hto) _ (Ext.refl w6).drew).mono ?_; rintro e w7 ⟨g7, rv7, h7, b7, rfl, o7, F7⟩; have he' := (Ext.refl w6).drew.trans F7; have R7 := hide o7.reads; clear o7)
        | (go_at_call 17; refine (eqScreen_same s _ _ _ _ _ _ _ ((unhide R5).ext (X6.trans he')) (unhide R7) (unhide HFI)).mono ?_; rintro e w8 ⟨rfl, F8⟩; have he' := he'.trans F8))
    go_wp2
    go_ret
    exact ⟨rfl, (E6.trans he').below⟩
set_option maxRecDepth 100000 in
theorem fnExactScreenOk_lifted (os : Os) (started : os.Started) (H : Type) (enc : TypeId × Value → H) :
    ReturnsInHanded {} Try.checked os 5 .any (Rows.fnExactScreenOkSpec.pre6 enc Try.prog Try.f5 Rows.fnExactScreenOkRow.domain false) (Rows.fnExactScreenOkSpec.post enc Try.prog Try.f5 false true false false) := by
  have own : ownKnob Try.prog.godebug = none := by kernel_rfl
  refine returnsInHanded_of_change (C := Try.checked) own started (by kernel_rfl) Try.func5
    (ChangeSpec.witness6 (enc := enc) (C := Try.checked) false ⟨#[], #[.agg #[.int .i64 0, .int .i64 0, .slice none 0 0, .int .i64 0, .int .i64 0, .bool false, .slice none 0 0, .slice none 0 0]], []⟩ 8 (by kernel_rfl) (by kernel_rfl) (by kernel_rfl) (by kernel_rfl)) ?_
  intro W base args ds gs before hval0 hW hcnd _
  have hval : ∀ (j : Nat) t v, Try.f5.params[j]? = some t → args[j]? = some v → Value.okWide Try.prog W .any base t v := hval0
  have hW' := hW
  obtain ⟨p, q, hA0, hV, rfl, hfz, hnd⟩ := hW
  have hA : DataW.TrodAll enc Try.prog W 0 (fun _ => true) true Try.f5.params.toList args.toList ds p := hA0
  rw [Try.params5] at hA hval
  obtain ⟨v0, d0, rfl, rfl, h0⟩ := trodAll_one hA
  obtain ⟨rfl, rfl⟩ := trodVars_none hV
  obtain ⟨s, gv, hv, bv, rfl, c1, c2⟩ := scr_came (hval 0 45 v0 rfl rfl) h0
  clear hA0 hval0
  refine (fnExactScreenOk_walk s gv hv bv W c1 c2).mono fun e W' ⟨he, hb⟩ => ?_
  subst he
  exact ⟨_, rfl, post_law (by kernel_rfl) (by kernel_rfl) (by kernel_rfl) (bt := 4) (by kernel_rfl) Try.underlying4 hW' rfl hb⟩
theorem fnExactScreenOk_holds : Rows.FnExactScreenOkSaid :=
  OpenClaim.holds_of_wide 5 Try.f5 rfl rfl rfl rfl rfl rfl rfl ⟨rfl, rfl, rfl, rfl, rfl⟩ rfl rfl rfl rfl rfl (by kernel_rfl) Try.func5 (by kernel_rfl)
    (of_decide_eq_true (by kernel_rfl)) (by unfold Func.isWrapper; first | (rw [if_pos (by decide +kernel)]; kernel_rfl) | (rw [if_neg (by decide +kernel)]; exact ⟨rfl, rfl⟩))
    (fun os started H enc _ => fnExactScreenOk_lifted os started H enc)
#print axioms fnExactScreenOk_holds
end Go.Proofs.Ytkimnihdjeonpab
