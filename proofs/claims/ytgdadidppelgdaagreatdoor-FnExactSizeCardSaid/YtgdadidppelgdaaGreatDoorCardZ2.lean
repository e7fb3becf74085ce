import Derived.Test.YtgdadidppelgdaaGreatDoorSzS1
import Derived.Test.YtgdadidppelgdaaGreatDoorSzS2
import Derived.Test.YtgdadidppelgdaaGreatDoorSzS3
import Derived.Test.YtgdadidppelgdaaGreatDoorSzS4
import Derived.Test.YtgdadidppelgdaaGreatDoorGenSize
import Derived.Test.YtgdadidppelgdaaGreatDoorSesTo
import Derived.Test.YtgdadidppelgdaaGreatDoorMu
import Derived.Test.YtgdadidppelgdaaGreatDoorPowLaid
import Derived.Test.YtgdadidppelgdaaGreatDoorRows
import Derived.Test.YtgdadidppelgdaaGreatDoorTie
import Derived.Test.YtgdadidppelgdaaGreatDoorCards
import Derived.SevenTiedAt
import Derived.Lay
import Derived.LaidMore
import Derived.Lib.LaidU8
import Derived.Stop.Joined
import Derived.PinnedBridge
import Derived.Test.YtgdadidppelgdaaGreatDoorCardZ0
namespace Go.Proofs.YtgdadidppelgdaaGreatDoor
open Go.RowKit

theorem specSize_any (s s' : SS) (cols rows : Int) (zs : List Int) (cd : Int) (hR : SizeR s cols rows s' zs cd) (u h p q l d : Value) (w : World) (hA : SesAt w s u h p q l d) (hz : s.Sz) :
    Calls Tryz.prog 7 #[sesV s u h p q l d, .int .i64 cols, .int .i64 rows] w fun e w' => ∃ v0 v1, e = .returned (.tuple #[v0, v1, .int .i64 cd]) ∧ (sesK s').R w' v0 ∧ (bytesK zs).R w' v1 ∧ Ext w w' := by
  rcases hR with ⟨h1, h2, rfl, rfl, rfl⟩ | ⟨h1, h2, rfl, rfl, rfl⟩ | ⟨h1, rfl, rfl, rfl⟩
  · cases hst : s.st with
    | true => exact specSize_st s cols rows u h p q l d w hA hz h1 hst h2
    | false => exact specSize_go s cols rows u h p q l d w hA hz h1 hst h2
  · exact specSize_bad _ cols rows u h p q l d w hA hz h1 h2
  · exact specSize_no _ cols rows u h p q l d w hA hz h1
end Go.Proofs.YtgdadidppelgdaaGreatDoor

namespace Go.Proofs.YtgdadidppelgdaaGreatDoor
open Go.ChangeShapes Go.WideShapes Go.ChangeAt Go.RowKit Go.Deep

theorem sesK_row {s : SS} {W : World} {u : Value} (h : (sesK s).R W u) : ∃ x : Array Value, u = .agg x ∧ x.size = 17 ∧ x.all (·.oneCell') = true := by
  obtain ⟨u1, h1, p1, q1, l1, d1, rfl, hA⟩ := h
  obtain ⟨ua, uc, ha, hc, pa, pc, qa, qc, la, lc, da, dc, rfl, rfl, rfl, rfl, rfl, rfl⟩ := hA.forms
  exact ⟨_, rfl, rfl, by simp [Value.oneCell']⟩
theorem sizeR_ex (s : SS) (cols rows : Int) : ∃ s' zs cd, SizeR s cols rows s' zs cd := by
  by_cases h : SesP s
  · cases hsb : sizeB cols rows with
    | true => exact ⟨_, _, _, .inl ⟨h, hsb, rfl, rfl, rfl⟩⟩
    | false => exact ⟨_, _, _, .inr (.inl ⟨h, hsb, rfl, rfl, rfl⟩)⟩
  · exact ⟨_, _, _, .inr (.inr ⟨h, rfl, rfl, rfl⟩)⟩
theorem slen_eq (a t : Nat → ByteArray) : ∀ n, (∀ i, i < n → t i = a i) → slen t n = slen a n
  | 0, _ => rfl
  | n + 1, h => by rw [slen, slen, slen_eq a t n (fun i hi => h i (by omega)), h n (by omega)]
theorem slen_two (a t : Nat → ByteArray) (n b : Nat) (h : ∀ i, i < n → t i = a i) (hb : ∀ i, (t i).size ≤ b) : ∀ k, slen t (n + k) ≤ slen a n + k * b
  | 0 => by rw [Nat.add_zero, slen_eq a t n h]; omega
  | k + 1 => by have h1 := slen_two a t n b h hb k; have h2 := hb (n + k); rw [← Nat.add_assoc, slen, Nat.succ_mul]; omega
theorem vN_le {s : SS} (h : SesP s) : ∃ k, s.vN = s.ln + k ∧ k ≤ 100 := by
  have h2 := s.blk_lt h.2.1
  have h3 := lastV_lt (fun i => trimS (s.blk.tx i)) s.blk.R s.blk.n h2.1
  unfold SS.vN
  split
  · exact ⟨1, rfl, by omega⟩
  · exact ⟨_, rfl, by omega⟩
theorem vT_le {s : SS} (hz : s.Sz) (i : Nat) : (s.vT i).size ≤ 75497472 := by
  have h0 : noX.size = 0 := rfl
  have hl : i < s.ln → (s.lt i).size ≤ 1048576 := fun h => hz.lt i h
  have ht : (trimS (s.blk.tx (i - s.ln))).size ≤ (s.blk.tx (i - s.ln)).size := trimS_size _
  have hb := s.blk_size hz (i - s.ln)
  unfold SS.vT
  split <;> split <;> rename_i h1 h2 <;> first | (have := hl h2; omega) | omega
theorem sizeR_m {s s' : SS} {cols rows : Int} {zs : List Int} {cd : Int} (h : SizeR s cols rows s' zs cd) (hz : s.Sz) : s'.SzM ∧ zs.length ≤ 8000000000 := by
  rcases h with ⟨h1, h2, rfl, rfl, rfl⟩ | ⟨_, _, rfl, rfl, rfl⟩ | ⟨_, rfl, rfl, rfl⟩
  · have m := hz.toM
    refine ⟨⟨m.un, m.kh, m.pn, m.qn, ?_, m.dn⟩, ?_⟩
    · show s.vN ≤ _
      obtain ⟨k, e, hk⟩ := vN_le h1
      have := hz.ln
      omega
    · unfold SS.sizeZ
      split
      · simp
      · exact (s.resize cols rows).paint_len_big hz.pr hz.la hz.lb h2
  · exact ⟨hz.toM, by simp⟩
  · exact ⟨hz.toM, by simp⟩
theorem sizeR_bulk {s s' : SS} {cols rows : Int} {zs : List Int} {cd : Int} (h : SizeR s cols rows s' zs cd) (hb : s.bulk ≤ 1048576) : s'.bulk ≤ 4398046511104 := by
  have hz := SS.Sz.of_bulk hb
  rcases h with ⟨h1, h2, rfl, rfl, rfl⟩ | ⟨_, _, rfl, rfl, rfl⟩ | ⟨_, rfl, rfl, rfl⟩
  · obtain ⟨k, e, hk⟩ := vN_le h1
    have b := slen_two s.lt s.vT s.ln 75497472 (fun i hi => by unfold SS.vT; simp [hi]) (fun i => vT_le hz i) k
    have c : k * 75497472 ≤ 100 * 75497472 := Nat.mul_le_mul_right _ hk
    have d : (s.resize cols rows).bulk + (s.ln + slen s.lt s.ln) = s.bulk + (s.vN + slen s.vT s.vN) := by unfold SS.bulk SS.resize; dsimp only; omega
    rw [e] at d
    omega
  · omega
  · omega
theorem SS.m_le {s : SS} (hz : s.Sz) : s.m ≤ 17179869184 := by
  have z0 := hz.un
  have z1 := hz.kh
  have z2 := hz.pn
  have z3 := hz.qn
  have z4 := hz.ln
  have z5 := hz.dn
  unfold SS.m
  omega
theorem SS.mM_le {s : SS} (hz : s.SzM) : s.m ≤ 17179869184 := by
  have z0 := hz.un
  have z1 := hz.kh
  have z2 := hz.pn
  have z3 := hz.qn
  have z4 := hz.ln
  have z5 := hz.dn
  unfold SS.m
  omega
theorem fnExactSize_walk (s : SS) (cols rows : Int) (u h p q l d : Value) (w : World) (hA : SesAt w s u h p q l d) (hC : s.Came) (hT : Tabs3 w) (hlo : 4 < w.heap.size) (hPw : PowT w) :
    Calls Tryz.prog 3 #[sesV s u h p q l d, .int .i64 cols, .int .i64 rows] w fun e w' => e = .returned (.bool true) ∧ Below w.heap.size w w' := by
  obtain ⟨s', zs, cd, hR⟩ := sizeR_ex s cols rows
  refine law_Size (sesC s u h p q l d) cols rows cd w (hide rfl) (sesK s) (fun k => sesK (mkSS k s)) s.m (sesK s') (fun k => sesK (mkSS k s')) s'.m (bytesK zs) (fun k => bytesK (mkU8 k zs.length)) zs.length (s.bulk ≤ 1048576) ?_ ?_ ?_ ?_ ?_ ?_ ?_ ?_ ?_ ?_ ?_ ?_ ?_ ?_ ?_
  · refine hide (fun W hW => (szSession_any s _ _ _ _ _ _ 1048576 W (hA.ext hW) hC (by omega) (by omega)).mono ?_)
    rintro e w' ⟨r, rfl, hr, F⟩
    exact ⟨r, rfl, fun h0 => by have := hr h0; omega, F⟩
  · refine hide (fun hb W hW => (toSession_any s _ _ _ _ _ _ W (hA.ext hW) hb).mono ?_)
    rintro e w' ⟨u, h, p, q, l, d, rfl, o, F⟩
    exact ⟨_, _, rfl, sesK_own o, F⟩
  · exact hide (fun W u hu => sesK_row hu)
  · exact hide (fun hb => sesK_eq s (by omega))
  · exact hide (fun hb => ⟨sesK_mark s (SS.Sz.of_bulk hb).toM, SS.m_le (SS.Sz.of_bulk hb)⟩)
  · refine hide (fun hb W v hW hv => ?_)
    obtain ⟨u, h, p, q, l, d, rfl, o⟩ := hv
    exact specSize_any s s' cols rows zs cd hR u h p q l d W o (SS.Sz.of_bulk hb)
  · refine hide (fun hb W v hW hv => ?_)
    obtain ⟨u, h, p, q, l, d, rfl, o⟩ := hv
    exact implSize_any s s' cols rows zs cd hR u h p q l d W o (SS.Sz.of_bulk hb) (hT.ext hW) (Nat.lt_of_lt_of_le hlo hW.size) (hPw.keep (hW.heap hlo))
  · exact hide (fun W u hu => sesK_row hu)
  · exact hide (fun hb => sesK_eq s' (sizeR_bulk hR hb))
  · exact hide (fun hb => ⟨sesK_mark s' (sizeR_m hR (SS.Sz.of_bulk hb)).1, SS.mM_le (sizeR_m hR (SS.Sz.of_bulk hb)).1⟩)
  · exact hide (fun hb => sesK_held s' (sizeR_m hR (SS.Sz.of_bulk hb)).1)
  · exact hide (fun W u hu => by
      obtain ⟨a, c, e⟩ := bytesK_shape hu
      exact ⟨_, _, _, e⟩)
  · exact hide (fun hb => bytesK_eq zs (by have := (sizeR_m hR (SS.Sz.of_bulk hb)).2; omega))
  · exact hide (fun hb => ⟨bytesK_mark zs (by have := (sizeR_m hR (SS.Sz.of_bulk hb)).2; omega), by have := (sizeR_m hR (SS.Sz.of_bulk hb)).2; omega⟩)
  · exact hide (fun hb => bytesK_held zs.length (by have := (sizeR_m hR (SS.Sz.of_bulk hb)).2; omega))
end Go.Proofs.YtgdadidppelgdaaGreatDoor

namespace Go.Proofs.YtgdadidppelgdaaGreatDoor
open Go.ChangeShapes Go.WideShapes Go.ChangeAt Go.RowKit Go.Deep

set_option maxRecDepth 100000 in
theorem fnExactSize_lifted (os : Os) (started : os.Started) (H : Type) (enc : TypeId × Value → H) :
    ReturnsInHanded {} Tryz.checked os 3 .any (fun w args => (Rows.fnExactSizeSpec.pre enc Tryz.prog Tryz.f3 [] false w args ∧ laidMetH Tryz.prog Rows.fnExactSizeRow.laid w) ∧ sizedMet enc Tryz.prog Tryz.f3 (OpenSpec.ofChange Rows.fnExactSizeSpec) false w args)
      (Rows.fnExactSizeSpec.post enc Tryz.prog Tryz.f3 false true false false) := by
  have own : ownKnob Tryz.prog.godebug = none := by kernel_rfl
  refine returnsInHanded_of_change_and (C := Tryz.checked) (X := fun w _ => laidMetH Tryz.prog Rows.fnExactSizeRow.laid w) (fun _ _ _ hh h => h.of_heap hh) own started (by kernel_rfl) Tryz.func3
    (ChangeSpec.witness_shaped (enc := enc) (C := Tryz.checked) (os := os) (X := fun w _ => laidMetH Tryz.prog Rows.fnExactSizeRow.laid w) false (World.laidAll Tryz.prog os Rows.fnExactSizeRow.laid) #[.agg #[.string noT, .int .i64 0, .int .i64 0, .string noT, .string noT, .string noT, .slice none 0 0, .slice none 0 0, .bool false, .bool false, .slice none 0 0, .int .i64 0, .string noT, .bool false, .slice none 0 0, .slice none 0 0, .slice none 0 0], .int .i64 0, .int .i64 0] 8 (World.laidAll_os _ _ _)
      (World.shaped_of_ZipB (by kernel_rfl) (by kernel_rfl)) (by kernel_rfl) (by kernel_rfl) (by kernel_rfl)
      (by rw [MakeChecks.laidMetH_plain _ _ _ (by kernel_rfl)]; exact laidMet_laidAll _ (by kernel_rfl) (by kernel_rfl))) ?_
  intro W base args ds gs before hval0 hW _ _ hL _
  have hval : ∀ (j : Nat) t v, Tryz.f3.params[j]? = some t → args[j]? = some v → Value.okWide Tryz.prog W .any base t v := hval0
  have hW' := hW
  obtain ⟨p, q, hA0, hV0, rfl, hfz, hnd⟩ := hW
  have hV : DataW.TrodVars enc Tryz.prog W (fun _ => true) [Rows.fnExactSizeSpec.vars.headD ""] gs q := hV0
  have hA : DataW.TrodAll enc Tryz.prog W 0 (fun _ => true) true Tryz.f3.params.toList args.toList ds p := hA0
  rw [Tryz.params3] at hA hval
  obtain ⟨v0, v1, v2, d0, d1, d2, p0, p1, p2, rfl, rfl, rfl, h0, h1, h2⟩ := trodAll_three hA
  obtain ⟨g, t, cs, fuel, d, p', rfl, _, _, _, _, _⟩ := trodVars_one hV
  obtain ⟨s, u, h, p, q, l, d, rfl, c1, c2⟩ := session_came (hval 0 30 v0 rfl rfl) h0
  obtain ⟨a1, rfl, rfl, rfl, w1⟩ := open_int Tryz.underlying3 (hval 1 3 v1 rfl rfl) h1
  obtain ⟨a2, rfl, rfl, rfl, w2⟩ := open_int Tryz.underlying3 (hval 2 3 v2 rfl rfl) h2
  clear hA0 hval0
  have hP := pow_of_laid hL
  refine (fnExactSize_walk s a1 a2 u h p q l d W c1 c2 (tabs3_of_laid hL) (pow_lo hP) hP).mono fun e W' ⟨he, hb⟩ => ?_
  subst he
  exact ⟨_, rfl, post_law (by kernel_rfl) (by kernel_rfl) (by kernel_rfl) (bt := 4) (by kernel_rfl) Tryz.underlying4 hW' rfl hb⟩
end Go.Proofs.YtgdadidppelgdaaGreatDoor

namespace Go.Proofs.YtgdadidppelgdaaGreatDoor
open Go.ChangeShapes Go.WideShapes Go.ChangeAt Go.RowKit Go.Deep

theorem fnExactSize_holds : Rows.FnExactSizeSaid :=
  OpenClaim.holds_of_wide 3 Tryz.f3 rfl rfl rfl rfl rfl rfl rfl ⟨rfl, rfl, rfl, rfl, rfl⟩ rfl rfl rfl rfl rfl (by kernel_rfl) Tryz.func3 fnExactSize_facts
    (of_decide_eq_true (by kernel_rfl)) (by unfold Func.isWrapper; first | (rw [if_pos (by decide +kernel)]; kernel_rfl) | (rw [if_neg (by decide +kernel)]; exact ⟨rfl, rfl⟩))
    (fun os started H enc _ => fnExactSize_lifted os started H enc)
end Go.Proofs.YtgdadidppelgdaaGreatDoor
