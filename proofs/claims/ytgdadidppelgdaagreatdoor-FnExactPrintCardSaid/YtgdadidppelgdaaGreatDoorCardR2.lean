import Derived.Test.YtgdadidppelgdaaGreatDoorL7Keep
import Derived.Test.YtgdadidppelgdaaGreatDoorMu
import Derived.Test.YtgdadidppelgdaaGreatDoorPrS2
import Derived.Test.YtgdadidppelgdaaGreatDoorPrS4
import Derived.Test.YtgdadidppelgdaaGreatDoorGenPrint
import Derived.Test.YtgdadidppelgdaaGreatDoorSesTo
import Derived.Test.YtgdadidppelgdaaGreatDoorPrnK
import Derived.Test.YtgdadidppelgdaaGreatDoorDrawM
import Derived.Test.YtgdadidppelgdaaGreatDoorPowLaid
import Derived.Test.YtgdadidppelgdaaGreatDoorRows
import Derived.Test.YtgdadidppelgdaaGreatDoorTie
import Derived.Test.YtgdadidppelgdaaGreatDoorCards
import Derived.SevenTiedAt
import Derived.Lay
import Derived.LaidMore
import Derived.Lib.LaidU8
import Derived.Stop.Joined
import Derived.PinnedBridge
import Derived.Test.YtgdadidppelgdaaGreatDoorCardR0
namespace Go.Proofs.YtgdadidppelgdaaGreatDoor
open Go.RowKit

theorem sesK_row {s : SS} {W : World} {u : Value} (h : (sesK s).R W u) : ∃ x : Array Value, u = .agg x ∧ x.size = 17 ∧ x.all (·.oneCell') = true := by
  obtain ⟨u1, h1, p1, q1, l1, d1, rfl, hA⟩ := h
  obtain ⟨ua, uc, ha, hc, pa, pc, qa, qc, la, lc, da, dc, rfl, rfl, rfl, rfl, rfl, rfl⟩ := hA.forms
  exact ⟨_, rfl, rfl, by simp [Value.oneCell']⟩
theorem slen_keep0 (s : SS) (R : List ByteArray) : ∀ k, k ≤ s.ln → slen (s.keep R).lt k = slen s.lt k
  | 0, _ => rfl
  | k + 1, h => by
    rw [slen, slen, slen_keep0 s R k (by omega)]
    unfold SS.keep
    simp only
    rw [if_pos (by omega)]
theorem slen_keep1 (s : SS) (R : List ByteArray) : ∀ k, k ≤ R.length → slen (s.keep R).lt (s.ln + k) ≤ slen s.lt s.ln + lsz (R.take k)
  | 0, _ => by rw [Nat.add_zero, slen_keep0 s R _ (Nat.le_refl _)]; omega
  | k + 1, h => by
    have h1 := slen_keep1 s R k (by omega)
    have h2 : ((s.keep R).lt (s.ln + k)).size ≤ (atR R k).size := by
      unfold SS.keep
      simp only
      rw [if_neg (by omega), Nat.add_sub_cancel_left]
      exact trimS_size _
    rw [← Nat.add_assoc, slen, take_snoc R k (by omega), lsz_app]
    simp only [lsz]
    omega
/-- What a log with rows behind it weighs. -/
theorem keep_bulk (s : SS) (R : List ByteArray) : (s.keep R).ln + slen (s.keep R).lt (s.keep R).ln ≤ s.ln + slen s.lt s.ln + (R.length + lsz R) := by
  have h := slen_keep1 s R R.length (Nat.le_refl _)
  rw [List.take_length] at h
  show s.ln + R.length + slen (s.keep R).lt (s.ln + R.length) ≤ _
  omega
theorem SS.mM_le {s : SS} (hz : s.SzM) : s.m ≤ 17179869184 := by
  have z0 := hz.un
  have z1 := hz.kh
  have z2 := hz.pn
  have z3 := hz.qn
  have z4 := hz.ln
  have z5 := hz.dn
  unfold SS.m
  omega
end Go.Proofs.YtgdadidppelgdaaGreatDoor

namespace Go.Proofs.YtgdadidppelgdaaGreatDoor
open Go.RowKit

theorem specPrint_any (s s' : SS) (bs : List Int) (ba : Option Addr) (bc : Nat) (hby : Bytes bs) (zs : List Int) (cd : Int) (hR : PrintR s bs s' zs cd) (u h p q l d : Value) (w : World) (hA : SesAt w s u h p q l d) (hin : IntsAt w .u8 (.slice ba bs.length bc) bs) (hz : s.Sz) :
    Calls Tryz.prog 18 #[sesV s u h p q l d, .slice ba bs.length bc] w fun e w' => ∃ v0 v1, e = .returned (.tuple #[v0, v1, .int .i64 cd]) ∧ (sesK s').R w' v0 ∧ (bytesK zs).R w' v1 ∧ Ext w w' := by
  by_cases hok : SesP s
  · by_cases hlg : 5000 < bs.length
    · obtain ⟨rfl, rfl, rfl⟩ := printR_det (prn_long hok hlg) hR
      exact specPrint_long _ bs ba bc hby u h p q l d w hA hin hz hok hlg
    · have hle : bs.length ≤ 5000 := by omega
      cases hst : s.st with
      | true =>
        by_cases hf : 20 < s.qn + (linesB bs).length
        · obtain ⟨rfl, rfl, rfl⟩ := printR_det (prn_full hok hle hst hf) hR
          exact specPrint_full _ bs ba bc hby u h p q l d w hA hin hz hok hle hst hf
        · obtain ⟨rfl, rfl, rfl⟩ := printR_det (prn_queue hok hle hst (by omega)) hR
          exact specPrint_queue s bs ba bc hby u h p q l d w hA hin hz hok hle hst (by omega)
      | false =>
        by_cases hn : (linesB bs).length = 0
        · obtain ⟨rfl, rfl, rfl⟩ := printR_det (prn_none hok hle hst hn) hR
          exact specPrint_none _ bs ba bc hby u h p q l d w hA hin hz hok hle hst hn
        · obtain ⟨rfl, rfl, rfl⟩ := printR_det (prn_rows hok hle hst hn) hR
          exact specPrint_rows s bs ba bc hby u h p q l d w hA hin hz hok hle hst hn
  · obtain ⟨rfl, rfl, rfl⟩ := printR_det (prn_no hok) hR
    exact specPrint_no _ bs ba bc hby u h p q l d w hA hin hz hok
end Go.Proofs.YtgdadidppelgdaaGreatDoor

namespace Go.Proofs.YtgdadidppelgdaaGreatDoor
open Go.ChangeShapes Go.WideShapes Go.ChangeAt Go.RowKit Go.Deep

theorem queue_bulk (s : SS) (L : List ByteArray) : slen (s.queue L).qt (s.queue L).qn ≤ slen s.qt s.qn + lsz L := by
  have h0 : ∀ k, k ≤ s.qn → slen (s.queue L).qt k = slen s.qt k := by
    intro k
    induction k with
    | zero => intro _; rfl
    | succ k ih =>
      intro h
      rw [slen, slen, ih (by omega)]
      unfold SS.queue
      simp only
      rw [if_pos (by omega)]
  have h1 : ∀ k, k ≤ L.length → slen (s.queue L).qt (s.qn + k) ≤ slen s.qt s.qn + lsz (L.take k) := by
    intro k
    induction k with
    | zero => intro _; rw [Nat.add_zero, h0 _ (Nat.le_refl _)]; omega
    | succ k ih =>
      intro h
      have h2 := ih (by omega)
      have h3 : (s.queue L).qt (s.qn + k) = atR L k := by
        unfold SS.queue
        simp only
        rw [if_neg (by omega), Nat.add_sub_cancel_left]
      rw [← Nat.add_assoc, slen, h3, take_snoc L k (by omega), lsz_app]
      simp only [lsz]
      omega
  have h := h1 L.length (Nat.le_refl _)
  rw [List.take_length] at h
  exact h
theorem printR_m {s s' : SS} {bs zs : List Int} {cd : Int} (h : PrintR s bs s' zs cd) (hb : s.bulk ≤ 1048576) : s'.SzM ∧ zs.length ≤ 9000000000 ∧ s'.bulk ≤ 4398046511104 := by
  have hz := SS.Sz.of_bulk hb
  have m := hz.toM
  have same : s.SzM ∧ ([] : List Int).length ≤ 9000000000 ∧ s.bulk ≤ 4398046511104 := ⟨m, by simp, by omega⟩
  by_cases hok : SesP s
  · by_cases hlg : 5000 < bs.length
    · obtain ⟨rfl, rfl, rfl⟩ := printR_det (prn_long hok hlg) h
      exact same
    · have hle : bs.length ≤ 5000 := by omega
      have hl := linesB_bd bs
      cases hst : s.st with
      | true =>
        by_cases hf : 20 < s.qn + (linesB bs).length
        · obtain ⟨rfl, rfl, rfl⟩ := printR_det (prn_full hok hle hst hf) h
          exact same
        · obtain ⟨rfl, rfl, rfl⟩ := printR_det (prn_queue hok hle hst (by omega)) h
          have hq := queue_bulk s (linesB bs)
          have e2 : (s.queue (linesB bs)).qn = s.qn + (linesB bs).length := rfl
          refine ⟨⟨m.un, m.kh, m.pn, by rw [e2]; omega, m.ln, m.dn⟩, by simp, ?_⟩
          have d : (s.queue (linesB bs)).bulk + (s.qn + slen s.qt s.qn) = s.bulk + ((s.queue (linesB bs)).qn + slen (s.queue (linesB bs)).qt (s.queue (linesB bs)).qn) := by
            unfold SS.bulk SS.queue
            dsimp only
            omega
          omega
      | false =>
        by_cases hn : (linesB bs).length = 0
        · obtain ⟨rfl, rfl, rfl⟩ := printR_det (prn_none hok hle hst hn) h
          exact same
        · obtain ⟨rfl, rfl, rfl⟩ := printR_det (prn_rows hok hle hst hn) h
          have hrb := rowsB_bd s bs hle
          have hk := keep_bulk s (s.rowsB bs)
          have hpl := s.paint_len_big hz.pr hz.la hz.lb hok.2.1
          have hol := outR_len (s.rowsB bs)
          have hel := eraseL_len s.blk.n (s.blk.R : Int) s.blk.C (by have := (s.blk_lt hok.2.1).2; omega)
          have e2 : (s.keep (s.rowsB bs)).ln = s.ln + (s.rowsB bs).length := rfl
          have hln := hz.ln
          refine ⟨⟨m.un, m.kh, m.pn, m.qn, by rw [e2]; omega, m.dn⟩, ?_, ?_⟩
          · unfold SS.printZ
            rw [List.length_append, List.length_append, hol]
            omega
          · have d : (s.keep (s.rowsB bs)).bulk + (s.ln + slen s.lt s.ln) = s.bulk + ((s.keep (s.rowsB bs)).ln + slen (s.keep (s.rowsB bs)).lt (s.keep (s.rowsB bs)).ln) := by
              unfold SS.bulk
              have e3 : (s.keep (s.rowsB bs)).pr = s.pr := rfl
              have e4 : (s.keep (s.rowsB bs)).la = s.la := rfl
              have e5 : (s.keep (s.rowsB bs)).lb = s.lb := rfl
              have e6 : (s.keep (s.rowsB bs)).lc = s.lc := rfl
              have e7 : (s.keep (s.rowsB bs)).un = s.un := rfl
              have e8 : (s.keep (s.rowsB bs)).ut = s.ut := rfl
              have e9 : (s.keep (s.rowsB bs)).uh = s.uh := rfl
              have e10 : (s.keep (s.rowsB bs)).kh = s.kh := rfl
              have e11 : (s.keep (s.rowsB bs)).pn = s.pn := rfl
              have e12 : (s.keep (s.rowsB bs)).pt = s.pt := rfl
              have e13 : (s.keep (s.rowsB bs)).dr = s.dr := rfl
              have e14 : (s.keep (s.rowsB bs)).qn = s.qn := rfl
              have e15 : (s.keep (s.rowsB bs)).qt = s.qt := rfl
              have e16 : (s.keep (s.rowsB bs)).dn = s.dn := rfl
              have e17 : (s.keep (s.rowsB bs)).dt = s.dt := rfl
              rw [e3, e4, e5, e6, e7, e8, e9, e10, e11, e12, e13, e14, e15, e16, e17]
              omega
            omega
  · obtain ⟨rfl, rfl, rfl⟩ := printR_det (prn_no hok) h
    exact same
set_option maxRecDepth 10000 in
set_option maxHeartbeats 1000000 in
theorem fnExactPrint_great (cs : Array Value) (ao : Option Addr) (n cap : Nat) (w : World) (hn : ¬ n ≤ 1048576) :
    Calls Tryz.prog 5 #[.agg cs, .slice ao n cap] w fun e w' => e = .returned (.bool true) ∧ Below w.heap.size w w' := by
  have b1 : (1048576 : Int) < (n : Int) := by omega
  go_enter Tryz.func5, Tryz.ntmps5
  go_wp2
  go_ret
  exact ⟨rfl, ((Ext.refl w).alloc _).below⟩
theorem fnExactPrint_walk (s : SS) (bs : List Int) (ao : Option Addr) (cap : Nat) (hby : Bytes bs) (u h p q l d : Value) (w : World) (hA : SesAt w s u h p q l d) (hC : s.Came) (hin : IntsAt w .u8 (.slice ao bs.length cap) bs) (hT : Tabs3 w) (hlo : 4 < w.heap.size) (hPw : PowT w) :
    Calls Tryz.prog 5 #[sesV s u h p q l d, .slice ao bs.length cap] w fun e w' => e = .returned (.bool true) ∧ Below w.heap.size w w' := by
  by_cases hl : bs.length ≤ 1048576
  · obtain ⟨s', zs, cd, hR⟩ : ∃ s' zs cd, PrintR s bs s' zs cd := by by_cases e : SesP s; exact ⟨_, _, _, fun _ => rfl, fun n => absurd e n⟩; exact ⟨_, _, _, fun h => absurd h e, fun _ => rfl⟩
    refine law_Print (sesC s u h p q l d) ao bs.length cap cd w (hide rfl) hl (sesK s) (fun k => sesK (mkSS k s)) s.m (bytesK bs) (fun k => bytesK (mkU8 k bs.length)) bs.length (sesK s') (fun k => sesK (mkSS k s')) s'.m (bytesK zs) (fun k => bytesK (mkU8 k zs.length)) zs.length (s.bulk ≤ 1048576) ?_ ?_ ?_ ?_ ?_ ?_ ?_ ?_ ?_ ?_ ?_ ?_ ?_ ?_ ?_ ?_ ?_ ?_ ?_
    · refine hide (fun W hW => (szSession_any s _ _ _ _ _ _ 1048576 W (hA.ext hW) hC (by omega) (by omega)).mono ?_)
      rintro e w' ⟨r, rfl, hr, F⟩
      exact ⟨r, rfl, fun h0 => by have := hr h0; omega, F⟩
    · refine hide (fun hb W hW => (toSession_any s _ _ _ _ _ _ W (hA.ext hW) hb).mono ?_)
      rintro e w' ⟨u, h, p, q, l, d, rfl, o, F⟩
      exact ⟨_, _, rfl, sesK_own o, F⟩
    · exact hide (fun W u hu => sesK_row hu)
    · exact hide (fun hb => sesK_eq s (by omega))
    · exact hide (fun hb => ⟨sesK_mark s (SS.Sz.of_bulk hb).toM, SS.mM_le (SS.Sz.of_bulk hb).toM⟩)
    · refine hide (fun hb W hW => (toByteS_any _ bs W (hin.ext hW) (by omega)).mono ?_)
      rintro e w' ⟨rfl, o, F⟩
      exact ⟨_, _, rfl, bytesK_own o, F⟩
    · exact hide (fun W u hu => by
        obtain ⟨a, c, e⟩ := bytesK_shape hu
        exact ⟨_, _, _, e⟩)
    · exact hide (fun hb => bytesK_eq bs (by omega))
    · exact hide (fun hb => ⟨bytesK_mark bs (by omega), by omega⟩)
    · refine hide (fun hb W v v1 hW hv hv1 => ?_)
      obtain ⟨u, h, p, q, l, d, rfl, o⟩ := hv
      obtain ⟨a, c, rfl⟩ := bytesK_shape hv1
      exact specPrint_any s s' bs a c hby zs cd hR u h p q l d W o hv1 (SS.Sz.of_bulk hb)
    · refine hide (fun hb W v v1 hW hv hv1 => ?_)
      obtain ⟨u, h, p, q, l, d, rfl, o⟩ := hv
      obtain ⟨a, c, rfl⟩ := bytesK_shape hv1
      exact implPrint_any s s' bs a c hby zs cd hR u h p q l d W o hv1 (SS.Sz.of_bulk hb) (hT.ext hW) (Nat.lt_of_lt_of_le hlo hW.size) (hPw.keep (hW.heap hlo))
    · exact hide (fun W u hu => sesK_row hu)
    · exact hide (fun hb => sesK_eq s' (printR_m hR hb).2.2)
    · exact hide (fun hb => ⟨sesK_mark s' (printR_m hR hb).1, SS.mM_le (printR_m hR hb).1⟩)
    · exact hide (fun hb => sesK_held s' (printR_m hR hb).1)
    · exact hide (fun W u hu => by
        obtain ⟨a, c, e⟩ := bytesK_shape hu
        exact ⟨_, _, _, e⟩)
    · exact hide (fun hb => bytesK_eq zs (by have := (printR_m hR hb).2.1; omega))
    · exact hide (fun hb => ⟨bytesK_mark zs (by have := (printR_m hR hb).2.1; omega), by have := (printR_m hR hb).2.1; omega⟩)
    · exact hide (fun hb => bytesK_held zs.length (by have := (printR_m hR hb).2.1; omega))
  · exact fnExactPrint_great (sesC s u h p q l d) ao bs.length cap w hl
end Go.Proofs.YtgdadidppelgdaaGreatDoor

namespace Go.Proofs.YtgdadidppelgdaaGreatDoor
open Go.ChangeShapes Go.WideShapes Go.ChangeAt Go.RowKit Go.Deep

set_option maxRecDepth 100000 in
theorem fnExactPrint_lifted (os : Os) (started : os.Started) (H : Type) (enc : TypeId × Value → H) :
    ReturnsInHanded {} Tryz.checked os 5 .any (fun w args => (Rows.fnExactPrintSpec.pre enc Tryz.prog Tryz.f5 [] false w args ∧ laidMetH Tryz.prog Rows.fnExactPrintRow.laid w) ∧ sizedMet enc Tryz.prog Tryz.f5 (OpenSpec.ofChange Rows.fnExactPrintSpec) false w args)
      (Rows.fnExactPrintSpec.post enc Tryz.prog Tryz.f5 false true false false) := by
  have own : ownKnob Tryz.prog.godebug = none := by kernel_rfl
  refine returnsInHanded_of_change_and (C := Tryz.checked) (X := fun w _ => laidMetH Tryz.prog Rows.fnExactPrintRow.laid w) (fun _ _ _ hh h => h.of_heap hh) own started (by kernel_rfl) Tryz.func5
    (ChangeSpec.witness_shaped (enc := enc) (C := Tryz.checked) (os := os) (X := fun w _ => laidMetH Tryz.prog Rows.fnExactPrintRow.laid w) false (World.laidAll Tryz.prog os Rows.fnExactPrintRow.laid) #[.agg #[.string noT, .int .i64 0, .int .i64 0, .string noT, .string noT, .string noT, .slice none 0 0, .slice none 0 0, .bool false, .bool false, .slice none 0 0, .int .i64 0, .string noT, .bool false, .slice none 0 0, .slice none 0 0, .slice none 0 0], .slice none 0 0] 8 (World.laidAll_os _ _ _)
      (World.shaped_of_ZipB (by kernel_rfl) (by kernel_rfl)) (by kernel_rfl) (by kernel_rfl) (by kernel_rfl)
      (by rw [MakeChecks.laidMetH_plain _ _ _ (by kernel_rfl)]; exact laidMet_laidAll _ (by kernel_rfl) (by kernel_rfl))) ?_
  intro W base args ds gs before hval0 hW _ _ hL _
  have hval : ∀ (j : Nat) t v, Tryz.f5.params[j]? = some t → args[j]? = some v → Value.okWide Tryz.prog W .any base t v := hval0
  have hW' := hW
  obtain ⟨p, q, hA0, hV0, rfl, hfz, hnd⟩ := hW
  have hV : DataW.TrodVars enc Tryz.prog W (fun _ => true) [Rows.fnExactPrintSpec.vars.headD ""] gs q := hV0
  have hA : DataW.TrodAll enc Tryz.prog W 0 (fun _ => true) true Tryz.f5.params.toList args.toList ds p := hA0
  rw [Tryz.params5] at hA hval
  obtain ⟨v0, v1, d0, d1, p0, p1, rfl, rfl, rfl, h0, h1⟩ := trodAll_two hA
  obtain ⟨g, t, cs, fuel, d, p', rfl, _, _, _, _, _⟩ := trodVars_one hV
  obtain ⟨s, u, h, p, q, l, d, rfl, c1, c2⟩ := session_came (hval 0 30 v0 rfl rfl) h0
  obtain ⟨zs, hz1, hwf1, ao, cap, rfl⟩ := ints_came Tryz.underlying25 Tryz.underlying5 (by kernel_rfl) (hval 1 25 v1 rfl rfl) h1
  clear hA0 hval0
  have hP := pow_of_laid hL
  refine (fnExactPrint_walk s zs ao cap (fun n hn => bounds_u8 (hwf1 n hn)) u h p q l d W c1 c2 hz1 (tabs3_of_laid hL) (pow_lo hP) hP).mono fun e W' ⟨he, hb⟩ => ?_
  subst he
  exact ⟨_, rfl, post_law (by kernel_rfl) (by kernel_rfl) (by kernel_rfl) (bt := 4) (by kernel_rfl) Tryz.underlying4 hW' rfl hb⟩
end Go.Proofs.YtgdadidppelgdaaGreatDoor

namespace Go.Proofs.YtgdadidppelgdaaGreatDoor
open Go.ChangeShapes Go.WideShapes Go.ChangeAt Go.RowKit Go.Deep

theorem fnExactPrint_holds : Rows.FnExactPrintSaid :=
  OpenClaim.holds_of_wide 5 Tryz.f5 rfl rfl rfl rfl rfl rfl rfl ⟨rfl, rfl, rfl, rfl, rfl⟩ rfl rfl rfl rfl rfl (by kernel_rfl) Tryz.func5 fnExactPrint_facts
    (of_decide_eq_true (by kernel_rfl)) (by unfold Func.isWrapper; first | (rw [if_pos (by decide +kernel)]; kernel_rfl) | (rw [if_neg (by decide +kernel)]; exact ⟨rfl, rfl⟩))
    (fun os started H enc _ => fnExactPrint_lifted os started H enc)
end Go.Proofs.YtgdadidppelgdaaGreatDoor
