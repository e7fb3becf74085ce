import Derived.Test.YtgdadidppelgdaaGreatDoorCnS2
import Derived.Test.YtgdadidppelgdaaGreatDoorCnS3
import Derived.Test.YtgdadidppelgdaaGreatDoorL7Keep
import Derived.Test.YtgdadidppelgdaaGreatDoorMu
import Derived.Test.YtgdadidppelgdaaGreatDoorGenContinue
import Derived.Test.YtgdadidppelgdaaGreatDoorSesTo
import Derived.Test.YtgdadidppelgdaaGreatDoorContK
import Derived.Test.YtgdadidppelgdaaGreatDoorPowLaid
import Derived.Test.YtgdadidppelgdaaGreatDoorRows
import Derived.Test.YtgdadidppelgdaaGreatDoorTie
import Derived.Test.YtgdadidppelgdaaGreatDoorCards
import Derived.SevenTiedAt
import Derived.Lay
import Derived.LaidMore
import Derived.Lib.LaidU8
import Derived.Stop.Joined
import Derived.PinnedBridge
import Derived.Test.YtgdadidppelgdaaGreatDoorCardC0
namespace Go.Proofs.YtgdadidppelgdaaGreatDoor
open Go.RowKit

theorem specCont_any (s s' : SS) (zs : List Int) (cd : Int) (hR : ContR s s' zs cd) (u h p q l d : Value) (w : World) (hA : SesAt w s u h p q l d) (hz : s.Sz) :
    Calls Tryz.prog 16 #[sesV s u h p q l d] w fun e w' => ∃ v0 v1, e = .returned (.tuple #[v0, v1, .int .i64 cd]) ∧ (sesK s').R w' v0 ∧ (bytesK zs).R w' v1 ∧ Ext w w' := by
  rcases hR with ⟨h1, h2, rfl, rfl, rfl⟩ | ⟨h1, h2, rfl, rfl, rfl⟩ | ⟨h1, rfl, rfl, rfl⟩
  · exact specCont_go s u h p q l d w hA hz h1 h2
  · exact specCont_st _ u h p q l d w hA hz h1 h2
  · exact specCont_no _ u h p q l d w hA hz h1
end Go.Proofs.YtgdadidppelgdaaGreatDoor

namespace Go.Proofs.YtgdadidppelgdaaGreatDoor
open Go.RowKit

theorem sesK_row {s : SS} {W : World} {u : Value} (h : (sesK s).R W u) : ∃ x : Array Value, u = .agg x ∧ x.size = 17 ∧ x.all (·.oneCell') = true := by
  obtain ⟨u1, h1, p1, q1, l1, d1, rfl, hA⟩ := h
  obtain ⟨ua, uc, ha, hc, pa, pc, qa, qc, la, lc, da, dc, rfl, rfl, rfl, rfl, rfl, rfl⟩ := hA.forms
  exact ⟨_, rfl, rfl, by simp [Value.oneCell']⟩
theorem slen_keep0 (s : SS) (R : List ByteArray) : ∀ k, k ≤ s.ln → slen (s.keep R).lt k = slen s.lt k
  | 0, _ => rfl
  | k + 1, h => by
    rw [slen, slen, slen_keep0 s R k (by omega)]
    unfold SS.keep
    simp only
    rw [if_pos (by omega)]
theorem slen_keep1 (s : SS) (R : List ByteArray) : ∀ k, k ≤ R.length → slen (s.keep R).lt (s.ln + k) ≤ slen s.lt s.ln + lsz (R.take k)
  | 0, _ => by rw [Nat.add_zero, slen_keep0 s R _ (Nat.le_refl _)]; omega
  | k + 1, h => by
    have h1 := slen_keep1 s R k (by omega)
    have h2 : ((s.keep R).lt (s.ln + k)).size ≤ (atR R k).size := by
      unfold SS.keep
      simp only
      rw [if_neg (by omega), Nat.add_sub_cancel_left]
      exact trimS_size _
    rw [← Nat.add_assoc, slen, take_snoc R k (by omega), lsz_app]
    simp only [lsz]
    omega
/-- What a log with rows behind it weighs. -/
theorem keep_bulk (s : SS) (R : List ByteArray) : (s.keep R).ln + slen (s.keep R).lt (s.keep R).ln ≤ s.ln + slen s.lt s.ln + (R.length + lsz R) := by
  have h := slen_keep1 s R R.length (Nat.le_refl _)
  rw [List.take_length] at h
  show s.ln + R.length + slen (s.keep R).lt (s.ln + R.length) ≤ _
  omega
theorem SS.mM_le {s : SS} (hz : s.SzM) : s.m ≤ 17179869184 := by
  have z0 := hz.un
  have z1 := hz.kh
  have z2 := hz.pn
  have z3 := hz.qn
  have z4 := hz.ln
  have z5 := hz.dn
  unfold SS.m
  omega
end Go.Proofs.YtgdadidppelgdaaGreatDoor

namespace Go.Proofs.YtgdadidppelgdaaGreatDoor
open Go.ChangeShapes Go.WideShapes Go.ChangeAt Go.RowKit Go.Deep

theorem contR_ex (s : SS) : ∃ s' zs cd, ContR s s' zs cd := by
  by_cases h : SesP s
  · cases hst : s.st with
    | true => exact ⟨_, _, _, .inl ⟨h, hst, rfl, rfl, rfl⟩⟩
    | false => exact ⟨_, _, _, .inr (.inl ⟨h, hst, rfl, rfl, rfl⟩)⟩
  · exact ⟨_, _, _, .inr (.inr ⟨h, rfl, rfl, rfl⟩)⟩
theorem contR_m {s s' : SS} {zs : List Int} {cd : Int} (h : ContR s s' zs cd) (hb : s.bulk ≤ 1048576) : s'.SzM ∧ zs.length ≤ 9000000000 ∧ s'.bulk ≤ 4398046511104 := by
  have hz := SS.Sz.of_bulk hb
  have m := hz.toM
  rcases h with ⟨h1, h2, rfl, rfl, rfl⟩ | ⟨_, _, rfl, rfl, rfl⟩ | ⟨_, rfl, rfl, rfl⟩
  · have hsq := queue_small hz h1
    have hbd := linesR_bd s.cols s.qt s.qn
    have hk := keep_bulk s s.rowsQ
    have hpl := s.paint_len_big hz.pr hz.la hz.lb h1.2.1
    have hol := outR_len s.rowsQ
    unfold SS.rowsQ at hk hol
    have e : s.cont.ln = (s.keep (linesR s.cols s.qt s.qn)).ln := rfl
    have e2 : (s.keep (linesR s.cols s.qt s.qn)).ln = s.ln + (linesR s.cols s.qt s.qn).length := rfl
    have hl := hz.ln
    refine ⟨⟨m.un, m.kh, m.pn, Nat.zero_le _, by rw [e, e2]; omega, m.dn⟩, ?_, ?_⟩
    · unfold SS.contZ SS.rowsQ
      rw [List.length_append, hol]
      omega
    · have d : s.cont.bulk + (s.qn + slen s.qt s.qn) + (s.ln + slen s.lt s.ln) = s.bulk + ((s.keep (linesR s.cols s.qt s.qn)).ln + slen (s.keep (linesR s.cols s.qt s.qn)).lt (s.keep (linesR s.cols s.qt s.qn)).ln) := by
        unfold SS.bulk SS.cont SS.rowsQ SS.keep
        dsimp only
        simp only [slen]
        omega
      omega
  · exact ⟨m, by simp, by omega⟩
  · exact ⟨m, by simp, by omega⟩
theorem fnExactContinue_walk (s : SS) (u h p q l d : Value) (w : World) (hA : SesAt w s u h p q l d) (hC : s.Came) (hT : Tabs3 w) (hlo : 4 < w.heap.size) (hPw : PowT w) :
    Calls Tryz.prog 4 #[sesV s u h p q l d] w fun e w' => e = .returned (.bool true) ∧ Below w.heap.size w w' := by
  obtain ⟨s', zs, cd, hR⟩ := contR_ex s
  refine law_Continue (sesC s u h p q l d) cd w (hide rfl) (sesK s) (fun k => sesK (mkSS k s)) s.m (sesK s') (fun k => sesK (mkSS k s')) s'.m (bytesK zs) (fun k => bytesK (mkU8 k zs.length)) zs.length (s.bulk ≤ 1048576) ?_ ?_ ?_ ?_ ?_ ?_ ?_ ?_ ?_ ?_ ?_ ?_ ?_ ?_ ?_
  · refine hide (fun W hW => (szSession_any s _ _ _ _ _ _ 1048576 W (hA.ext hW) hC (by omega) (by omega)).mono ?_)
    rintro e w' ⟨r, rfl, hr, F⟩
    exact ⟨r, rfl, fun h0 => by have := hr h0; omega, F⟩
  · refine hide (fun hb W hW => (toSession_any s _ _ _ _ _ _ W (hA.ext hW) hb).mono ?_)
    rintro e w' ⟨u, h, p, q, l, d, rfl, o, F⟩
    exact ⟨_, _, rfl, sesK_own o, F⟩
  · exact hide (fun W u hu => sesK_row hu)
  · exact hide (fun hb => sesK_eq s (by omega))
  · exact hide (fun hb => ⟨sesK_mark s (SS.Sz.of_bulk hb).toM, SS.mM_le (SS.Sz.of_bulk hb).toM⟩)
  · refine hide (fun hb W v hW hv => ?_)
    obtain ⟨u, h, p, q, l, d, rfl, o⟩ := hv
    exact specCont_any s s' zs cd hR u h p q l d W o (SS.Sz.of_bulk hb)
  · refine hide (fun hb W v hW hv => ?_)
    obtain ⟨u, h, p, q, l, d, rfl, o⟩ := hv
    exact implCont_any s s' zs cd hR u h p q l d W o (SS.Sz.of_bulk hb) (hT.ext hW) (Nat.lt_of_lt_of_le hlo hW.size) (hPw.keep (hW.heap hlo))
  · exact hide (fun W u hu => sesK_row hu)
  · exact hide (fun hb => sesK_eq s' (contR_m hR hb).2.2)
  · exact hide (fun hb => ⟨sesK_mark s' (contR_m hR hb).1, SS.mM_le (contR_m hR hb).1⟩)
  · exact hide (fun hb => sesK_held s' (contR_m hR hb).1)
  · exact hide (fun W u hu => by
      obtain ⟨a, c, e⟩ := bytesK_shape hu
      exact ⟨_, _, _, e⟩)
  · exact hide (fun hb => bytesK_eq zs (by have := (contR_m hR hb).2.1; omega))
  · exact hide (fun hb => ⟨bytesK_mark zs (by have := (contR_m hR hb).2.1; omega), by have := (contR_m hR hb).2.1; omega⟩)
  · exact hide (fun hb => bytesK_held zs.length (by have := (contR_m hR hb).2.1; omega))
end Go.Proofs.YtgdadidppelgdaaGreatDoor

namespace Go.Proofs.YtgdadidppelgdaaGreatDoor
open Go.ChangeShapes Go.WideShapes Go.ChangeAt Go.RowKit Go.Deep

set_option maxRecDepth 100000 in
theorem fnExactContinue_lifted (os : Os) (started : os.Started) (H : Type) (enc : TypeId × Value → H) :
    ReturnsInHanded {} Tryz.checked os 4 .any (fun w args => (Rows.fnExactContinueSpec.pre enc Tryz.prog Tryz.f4 [] false w args ∧ laidMetH Tryz.prog Rows.fnExactContinueRow.laid w) ∧ sizedMet enc Tryz.prog Tryz.f4 (OpenSpec.ofChange Rows.fnExactContinueSpec) false w args)
      (Rows.fnExactContinueSpec.post enc Tryz.prog Tryz.f4 false true false false) := by
  have own : ownKnob Tryz.prog.godebug = none := by kernel_rfl
  refine returnsInHanded_of_change_and (C := Tryz.checked) (X := fun w _ => laidMetH Tryz.prog Rows.fnExactContinueRow.laid w) (fun _ _ _ hh h => h.of_heap hh) own started (by kernel_rfl) Tryz.func4
    (ChangeSpec.witness_shaped (enc := enc) (C := Tryz.checked) (os := os) (X := fun w _ => laidMetH Tryz.prog Rows.fnExactContinueRow.laid w) false (World.laidAll Tryz.prog os Rows.fnExactContinueRow.laid) #[.agg #[.string noT, .int .i64 0, .int .i64 0, .string noT, .string noT, .string noT, .slice none 0 0, .slice none 0 0, .bool false, .bool false, .slice none 0 0, .int .i64 0, .string noT, .bool false, .slice none 0 0, .slice none 0 0, .slice none 0 0]] 8 (World.laidAll_os _ _ _)
      (World.shaped_of_ZipB (by kernel_rfl) (by kernel_rfl)) (by kernel_rfl) (by kernel_rfl) (by kernel_rfl)
      (by rw [MakeChecks.laidMetH_plain _ _ _ (by kernel_rfl)]; exact laidMet_laidAll _ (by kernel_rfl) (by kernel_rfl))) ?_
  intro W base args ds gs before hval0 hW _ _ hL _
  have hval : ∀ (j : Nat) t v, Tryz.f4.params[j]? = some t → args[j]? = some v → Value.okWide Tryz.prog W .any base t v := hval0
  have hW' := hW
  obtain ⟨p, q, hA0, hV0, rfl, hfz, hnd⟩ := hW
  have hV : DataW.TrodVars enc Tryz.prog W (fun _ => true) [Rows.fnExactContinueSpec.vars.headD ""] gs q := hV0
  have hA : DataW.TrodAll enc Tryz.prog W 0 (fun _ => true) true Tryz.f4.params.toList args.toList ds p := hA0
  rw [Tryz.params4] at hA hval
  obtain ⟨v0, d0, rfl, rfl, h0⟩ := trodAll_one hA
  obtain ⟨g, t, cs, fuel, d, p', rfl, _, _, _, _, _⟩ := trodVars_one hV
  obtain ⟨s, u, h, p, q, l, d, rfl, c1, c2⟩ := session_came (hval 0 30 v0 rfl rfl) h0
  clear hA0 hval0
  have hP := pow_of_laid hL
  refine (fnExactContinue_walk s u h p q l d W c1 c2 (tabs3_of_laid hL) (pow_lo hP) hP).mono fun e W' ⟨he, hb⟩ => ?_
  subst he
  exact ⟨_, rfl, post_law (by kernel_rfl) (by kernel_rfl) (by kernel_rfl) (bt := 4) (by kernel_rfl) Tryz.underlying4 hW' rfl hb⟩
end Go.Proofs.YtgdadidppelgdaaGreatDoor

namespace Go.Proofs.YtgdadidppelgdaaGreatDoor
open Go.ChangeShapes Go.WideShapes Go.ChangeAt Go.RowKit Go.Deep

theorem fnExactContinue_holds : Rows.FnExactContinueSaid :=
  OpenClaim.holds_of_wide 4 Tryz.f4 rfl rfl rfl rfl rfl rfl rfl ⟨rfl, rfl, rfl, rfl, rfl⟩ rfl rfl rfl rfl rfl (by kernel_rfl) Tryz.func4 fnExactContinue_facts
    (of_decide_eq_true (by kernel_rfl)) (by unfold Func.isWrapper; first | (rw [if_pos (by decide +kernel)]; kernel_rfl) | (rw [if_neg (by decide +kernel)]; exact ⟨rfl, rfl⟩))
    (fun os started H enc _ => fnExactContinue_lifted os started H enc)
end Go.Proofs.YtgdadidppelgdaaGreatDoor
