import Derived.Test.YtjfnieodpdklfaaGreatDoorStopJ
import Derived.Test.YtjfnieodpdklfaaGreatDoorSpcS1
import Derived.Test.YtjfnieodpdklfaaGreatDoorSpcS2
import Derived.Test.YtjfnieodpdklfaaGreatDoorSpcS3
import Derived.Test.YtjfnieodpdklfaaGreatDoorGenStop
import Derived.Test.YtjfnieodpdklfaaGreatDoorSesTo
import Derived.Test.YtjfnieodpdklfaaGreatDoorNewSD
import Derived.Test.YtjfnieodpdklfaaGreatDoorPowLaid
import Derived.Test.YtjfnieodpdklfaaGreatDoorRows
import Derived.Test.YtjfnieodpdklfaaGreatDoorTie
import Derived.Test.YtjfnieodpdklfaaGreatDoorCards
import Derived.SevenTiedAt
import Derived.Lay
import Derived.LaidMore
import Derived.Lib.LaidU8
import Derived.Stop.Joined
import Derived.PinnedBridge
import Derived.Test.YtjfnieodpdklfaaGreatDoorCardS0
namespace Go.Proofs.YtjfnieodpdklfaaGreatDoor
open Go.RowKit

theorem specStop_any (s s' : SS) (zs : List Int) (cd : Int) (hR : StopR s s' zs cd) (u h p q l d : Value) (w : World) (hA : SesAt w s u h p q l d) (hz : s.Sz) :
    Calls Tryz.prog 14 #[sesV s u h p q l d] w fun e w' => ∃ v0 v1, e = .returned (.tuple #[v0, v1, .int .i64 cd]) ∧ (sesK s').R w' v0 ∧ (bytesK zs).R w' v1 ∧ Ext w w' := by
  rcases hR with ⟨h1, h2, rfl, rfl, rfl⟩ | ⟨h1, h2, rfl, rfl, rfl⟩ | ⟨h1, rfl, rfl, rfl⟩
  · exact specStop_go s u h p q l d w hA hz h1 h2
  · exact specStop_st _ u h p q l d w hA hz h1 h2
  · exact specStop_no _ u h p q l d w hA hz h1
end Go.Proofs.YtjfnieodpdklfaaGreatDoor

namespace Go.Proofs.YtjfnieodpdklfaaGreatDoor
open Go.ChangeShapes Go.WideShapes Go.ChangeAt Go.RowKit Go.Deep

theorem sesK_row {s : SS} {W : World} {u : Value} (h : (sesK s).R W u) : ∃ x : Array Value, u = .agg x ∧ x.size = 17 ∧ x.all (·.oneCell') = true := by
  obtain ⟨u1, h1, p1, q1, l1, d1, rfl, hA⟩ := h
  obtain ⟨ua, uc, ha, hc, pa, pc, qa, qc, la, lc, da, dc, rfl, rfl, rfl, rfl, rfl, rfl⟩ := hA.forms
  exact ⟨_, rfl, rfl, by simp [Value.oneCell']⟩
theorem stopR_ex (s : SS) : ∃ s' zs cd, StopR s s' zs cd := by
  by_cases h : SesP s
  · cases hst : s.st with
    | false => exact ⟨_, _, _, .inl ⟨h, hst, rfl, rfl, rfl⟩⟩
    | true => exact ⟨_, _, _, .inr (.inl ⟨h, hst, rfl, rfl, rfl⟩)⟩
  · exact ⟨_, _, _, .inr (.inr ⟨h, rfl, rfl, rfl⟩)⟩
theorem stopR_size {s s' : SS} {zs : List Int} {cd : Int} (h : StopR s s' zs cd) : s'.bulk = s.bulk ∧ s'.m = s.m ∧ zs.length ≤ 15 := by
  rcases h with ⟨h1, _, rfl, rfl, rfl⟩ | ⟨_, _, rfl, rfl, rfl⟩ | ⟨_, rfl, rfl, rfl⟩
  · exact ⟨rfl, rfl, eraseL_len _ _ _ (by have := (s.blk_lt h1.2.1).2; omega)⟩
  · exact ⟨rfl, rfl, by simp⟩
  · exact ⟨rfl, rfl, by simp⟩
theorem SS.m_le {s : SS} (hz : s.Sz) : s.m ≤ 17179869184 := by
  have z0 := hz.un
  have z1 := hz.kh
  have z2 := hz.pn
  have z3 := hz.qn
  have z4 := hz.ln
  have z5 := hz.dn
  unfold SS.m
  omega
theorem fnExactStop_walk (s : SS) (u h p q l d : Value) (w : World) (hA : SesAt w s u h p q l d) (hC : s.Came) (hT : Tabs3 w) (hlo : 3 < w.heap.size) (hPw : PowT w) :
    Calls Tryz.prog 4 #[sesV s u h p q l d] w fun e w' => e = .returned (.bool true) ∧ Below w.heap.size w w' := by
  obtain ⟨s', zs, cd, hR⟩ := stopR_ex s
  obtain ⟨hb', hm', hz'⟩ := stopR_size hR
  refine law_Stop (sesC s u h p q l d) cd w (hide rfl) (sesK s) (fun k => sesK (mkSS k s)) s.m (sesK s') (fun k => sesK (mkSS k s')) s'.m (bytesK zs) (fun k => bytesK (mkU8 k zs.length)) zs.length (s.bulk ≤ 1048576) ?_ ?_ ?_ ?_ ?_ ?_ ?_ ?_ ?_ ?_ ?_ ?_ ?_ ?_ ?_
  · refine hide (fun W hW => (szSession_any s _ _ _ _ _ _ 1048576 W (hA.ext hW) hC (by omega) (by omega)).mono ?_)
    rintro e w' ⟨r, rfl, hr, F⟩
    exact ⟨r, rfl, fun h0 => by have := hr h0; omega, F⟩
  · refine hide (fun hb W hW => (toSession_any s _ _ _ _ _ _ W (hA.ext hW) hb).mono ?_)
    rintro e w' ⟨u, h, p, q, l, d, rfl, o, F⟩
    exact ⟨_, _, rfl, sesK_own o, F⟩
  · exact hide (fun W u hu => sesK_row hu)
  · exact hide (fun hb => sesK_eq s (by omega))
  · exact hide (fun hb => ⟨sesK_mark s (SS.Sz.of_bulk hb), SS.m_le (SS.Sz.of_bulk hb)⟩)
  · refine hide (fun hb W v hW hv => ?_)
    obtain ⟨u, h, p, q, l, d, rfl, o⟩ := hv
    exact specStop_any s s' zs cd hR u h p q l d W o (SS.Sz.of_bulk hb)
  · refine hide (fun hb W v hW hv => ?_)
    obtain ⟨u, h, p, q, l, d, rfl, o⟩ := hv
    exact implStop_any s s' zs cd hR u h p q l d W o (SS.Sz.of_bulk hb) (hT.ext hW) (Nat.lt_of_lt_of_le hlo hW.size) (hPw.keep (hW.heap hlo))
  · exact hide (fun W u hu => sesK_row hu)
  · exact hide (fun hb => sesK_eq s' (by omega))
  · exact hide (fun hb => ⟨sesK_mark s' (SS.Sz.of_bulk (by omega)), SS.m_le (SS.Sz.of_bulk (by omega))⟩)
  · exact hide (fun hb => sesK_held s' (SS.Sz.of_bulk (by omega)))
  · exact hide (fun W u hu => by
      obtain ⟨a, c, e⟩ := bytesK_shape hu
      exact ⟨_, _, _, e⟩)
  · exact hide (fun hb => bytesK_eq zs (by omega))
  · exact hide (fun hb => ⟨bytesK_mark zs (by omega), by omega⟩)
  · exact hide (fun hb => bytesK_held zs.length (by omega))
end Go.Proofs.YtjfnieodpdklfaaGreatDoor

namespace Go.Proofs.YtjfnieodpdklfaaGreatDoor
open Go.ChangeShapes Go.WideShapes Go.ChangeAt Go.RowKit Go.Deep

set_option maxRecDepth 100000 in
theorem fnExactStop_lifted (os : Os) (started : os.Started) (H : Type) (enc : TypeId × Value → H) :
    ReturnsInHanded {} Tryz.checked os 4 .any (fun w args => (Rows.fnExactStopSpec.pre enc Tryz.prog Tryz.f4 [] false w args ∧ laidMetH Tryz.prog Rows.fnExactStopRow.laid w) ∧ sizedMet enc Tryz.prog Tryz.f4 (OpenSpec.ofChange Rows.fnExactStopSpec) false w args)
      (Rows.fnExactStopSpec.post enc Tryz.prog Tryz.f4 false true false false) := by
  have own : ownKnob Tryz.prog.godebug = none := by kernel_rfl
  refine returnsInHanded_of_change_and (C := Tryz.checked) (X := fun w _ => laidMetH Tryz.prog Rows.fnExactStopRow.laid w) (fun _ _ _ hh h => h.of_heap hh) own started (by kernel_rfl) Tryz.func4
    (ChangeSpec.witness_shaped (enc := enc) (C := Tryz.checked) (os := os) (X := fun w _ => laidMetH Tryz.prog Rows.fnExactStopRow.laid w) false (World.laidAll Tryz.prog os Rows.fnExactStopRow.laid) #[.agg #[.string noT, .int .i64 0, .int .i64 0, .string noT, .string noT, .string noT, .slice none 0 0, .slice none 0 0, .bool false, .bool false, .slice none 0 0, .int .i64 0, .string noT, .bool false, .slice none 0 0, .slice none 0 0, .slice none 0 0]] 8 (World.laidAll_os _ _ _)
      (World.shaped_of_ZipB (by kernel_rfl) (by kernel_rfl)) (by kernel_rfl) (by kernel_rfl) (by kernel_rfl)
      (by rw [MakeChecks.laidMetH_plain _ _ _ (by kernel_rfl)]; exact laidMet_laidAll _ (by kernel_rfl) (by kernel_rfl))) ?_
  intro W base args ds gs before hval0 hW _ _ hL _
  have hval : ∀ (j : Nat) t v, Tryz.f4.params[j]? = some t → args[j]? = some v → Value.okWide Tryz.prog W .any base t v := hval0
  have hW' := hW
  obtain ⟨p, q, hA0, hV0, rfl, hfz, hnd⟩ := hW
  have hV : DataW.TrodVars enc Tryz.prog W (fun _ => true) [Rows.fnExactStopSpec.vars.headD ""] gs q := hV0
  have hA : DataW.TrodAll enc Tryz.prog W 0 (fun _ => true) true Tryz.f4.params.toList args.toList ds p := hA0
  rw [Tryz.params4] at hA hval
  obtain ⟨v0, d0, rfl, rfl, h0⟩ := trodAll_one hA
  obtain ⟨g, t, cs, fuel, d, p', rfl, _, _, _, _, _⟩ := trodVars_one hV
  obtain ⟨s, u, h, p, q, l, d, rfl, c1, c2⟩ := session_came (hval 0 43 v0 rfl rfl) h0
  clear hA0 hval0
  have hP := pow_of_laid hL
  refine (fnExactStop_walk s u h p q l d W c1 c2 (tabs3_of_laid hL) (pow_lo hP) hP).mono fun e W' ⟨he, hb⟩ => ?_
  subst he
  exact ⟨_, rfl, post_law (by kernel_rfl) (by kernel_rfl) (by kernel_rfl) (bt := 4) (by kernel_rfl) Tryz.underlying4 hW' rfl hb⟩
end Go.Proofs.YtjfnieodpdklfaaGreatDoor

namespace Go.Proofs.YtjfnieodpdklfaaGreatDoor
open Go.ChangeShapes Go.WideShapes Go.ChangeAt Go.RowKit Go.Deep

theorem fnExactStop_holds : Rows.FnExactStopSaid :=
  OpenClaim.holds_of_wide 4 Tryz.f4 rfl rfl rfl rfl rfl rfl rfl ⟨rfl, rfl, rfl, rfl, rfl⟩ rfl rfl rfl rfl rfl (by kernel_rfl) Tryz.func4 fnExactStop_facts
    (of_decide_eq_true (by kernel_rfl)) (by unfold Func.isWrapper; first | (rw [if_pos (by decide +kernel)]; kernel_rfl) | (rw [if_neg (by decide +kernel)]; exact ⟨rfl, rfl⟩))
    (fun os started H enc _ => fnExactStop_lifted os started H enc)
end Go.Proofs.YtjfnieodpdklfaaGreatDoor
