import Derived.Test.YtjfnieodpdklfaaGreatDoorTx
import Derived.Test.YtjfnieodpdklfaaGreatDoorNewSI
import Derived.Test.YtjfnieodpdklfaaGreatDoorNewSS
import Derived.Test.YtjfnieodpdklfaaGreatDoorNewSD
import Derived.Test.YtjfnieodpdklfaaGreatDoorPowLaid
import Derived.Test.YtjfnieodpdklfaaGreatDoorRows
import Derived.Test.YtjfnieodpdklfaaGreatDoorTie
import Derived.Test.YtjfnieodpdklfaaGreatDoorCards
import Derived.SevenTiedAt
import Derived.Lay
import Derived.LaidMore
import Derived.Lib.LaidU8
import Derived.Stop.Joined
import Derived.PinnedBridge
import Derived.Test.YtjfnieodpdklfaaGreatDoorCardN0
namespace Go.Proofs.YtjfnieodpdklfaaGreatDoor
open Go.ChangeShapes Go.WideShapes Go.ChangeAt Go.RowKit Go.Deep

theorem sesK_cells {s : SS} {W : World} {u : Value} (h : (sesK s).R W u) : ∃ x : Array Value, u = .agg x ∧ x.size = 17 ∧ x.all (·.oneCell') = true := by
  obtain ⟨u1, h1, p1, q1, l1, d1, rfl, hA⟩ := h
  obtain ⟨ua, uc, ha, hc, pa, pc, qa, qc, la, lc, da, dc, rfl, rfl, rfl, rfl, rfl, rfl⟩ := hA.forms
  exact ⟨_, rfl, rfl, by simp [Value.oneCell']⟩
theorem newS_bulk (p : ByteArray) (c r : Int) : (newS p c r).bulk = p.size := by
  have h0 : noX.size = 0 := rfl
  simp [SS.bulk, newS, tl2, slen, h0]
set_option maxRecDepth 10000 in
set_option maxHeartbeats 1000000 in
theorem fnExactNewSession_walk (p : ByteArray) (c r : Int) (w : World) (_ : p.size ≤ maxLen) (hT : Tabs3 w) (hlo : 3 < w.heap.size) (hW : PowT w) :
    Calls Tryz.prog 3 #[.string p, .int .i64 c, .int .i64 r] w fun e w' => e = .returned (.bool true) ∧ Below w.heap.size w w' := by
  by_cases hp : p.size ≤ 1048576
  · obtain ⟨q, s, zs, hs, hz, hb, hI, hS⟩ : ∃ (q : Bool) (s : SS) (zs : List Int), s.Sz ∧ zs.length ≤ 8000000000 ∧ (s.bulk ≤ 1048576 ∧ s.m = 0)
        ∧ (∀ W, Ext w W → Calls Tryz.prog 6 #[.string p, .int .i64 c, .int .i64 r] W fun e w' => ∃ v0 S0 v1 S1, e = .returned (.tuple #[v0, v1, .bool q]) ∧ (sesK s).O w' W.heap.size S0 v0 ∧ (bytesK zs).O w' W.heap.size S1 v1 ∧ (∀ g, S0 g → ¬ S1 g) ∧ Ext W w')
        ∧ (∀ W, Ext w W → Calls Tryz.prog 5 #[.string p, .int .i64 c, .int .i64 r] W fun e w' => ∃ v0 v1, e = .returned (.tuple #[v0, v1, .bool q]) ∧ (sesK s).R w' v0 ∧ (bytesK zs).R w' v1 ∧ Ext W w') := by
      have hf : ∀ g, ¬ SesFoot nilV nilV nilV nilV nilV nilV g := fun g hg => by simp [SesFoot, Value.ownBlock] at hg
      by_cases hok : SesP (newS p c r)
      · refine ⟨true, newS p c r, (newS p c r).paint, newS_sz p c r hp, (newS p c r).paint_len (newS_sz p c r hp) hok.2.1, ⟨by rw [newS_bulk]; exact hp, newS_m p c r⟩, fun W hE => ?_, fun W hE => ?_⟩
        · refine (implNewSession_yes p c r W hp (hT.ext hE) (Nat.lt_of_lt_of_le hlo hE.size) (hW.keep (hE.heap hlo)) hok).mono ?_
          rintro e w' ⟨u, rfl, o, F⟩
          exact ⟨_, _, _, _, rfl, sesK_own (newS_own w' W.heap.size p c r), bytesK_own o, fun g hg => absurd hg (hf g), F⟩
        · exact specNewSession_yes p c r W hp hok
      · refine ⟨false, newS noX 0 0, [], newS_sz noX 0 0 (by decide), by simp, ⟨by rw [newS_bulk]; decide, newS_m _ _ _⟩, fun W hE => ?_, fun W hE => ?_⟩
        · refine (implNewSession_no p c r W hp (hT.ext hE) hok).mono ?_
          rintro e w' ⟨rfl, F⟩
          exact ⟨_, _, _, _, rfl, sesK_own (newS_own w' W.heap.size noX 0 0), bytesK_own (zs := []) (owns_nil w' W.heap.size 5 1), fun g hg => absurd hg (hf g), F⟩
        · refine (specNewSession_no p c r W hp hok).mono ?_
          rintro e w' ⟨u, rfl, o, F⟩
          exact ⟨_, _, rfl, ⟨_, _, _, _, _, _, rfl, newS_at w' noX 0 0⟩, o, F⟩
    refine law_NewSession p c r q w hp (sesK s) (fun k => sesK (mkSS k s)) s.m (bytesK zs) (fun k => bytesK (mkU8 k zs.length)) zs.length True trivial (hide (fun _ => hS)) (hide (fun _ => hI)) (hide (fun W u hu => sesK_cells hu)) (hide (fun _ => sesK_eq s (by omega))) (hide (fun _ => ⟨sesK_mark s hs, by omega⟩)) (hide (fun _ => sesK_held s hs)) (hide (fun W u hu => ?_)) (hide (fun _ => bytesK_eq zs (by omega))) (hide (fun _ => ⟨bytesK_mark zs (by omega), by omega⟩)) (hide (fun _ => bytesK_held zs.length (by omega)))
    obtain ⟨a, c, e⟩ := bytesK_shape hu
    exact ⟨_, _, _, e⟩
  · have hlI : (1048576 : Int) < (p.size : Int) := by omega
    clear hT hW hp
    go_enter Tryz.func3, Tryz.ntmps3
    go_wp2
    go_ret
    exact ⟨rfl, Below.refl _ _⟩
end Go.Proofs.YtjfnieodpdklfaaGreatDoor

namespace Go.Proofs.YtjfnieodpdklfaaGreatDoor
open Go.ChangeShapes Go.WideShapes Go.ChangeAt Go.RowKit Go.Deep

set_option maxRecDepth 100000 in
theorem fnExactNewSession_lifted (os : Os) (started : os.Started) (H : Type) (enc : TypeId × Value → H) :
    ReturnsInHanded {} Tryz.checked os 3 .any (fun w args => (Rows.fnExactNewSessionSpec.pre enc Tryz.prog Tryz.f3 [] false w args ∧ laidMetH Tryz.prog Rows.fnExactNewSessionRow.laid w) ∧ sizedMet enc Tryz.prog Tryz.f3 (OpenSpec.ofChange Rows.fnExactNewSessionSpec) false w args)
      (Rows.fnExactNewSessionSpec.post enc Tryz.prog Tryz.f3 false true false false) := by
  have own : ownKnob Tryz.prog.godebug = none := by kernel_rfl
  refine returnsInHanded_of_change_and (C := Tryz.checked) (X := fun w _ => laidMetH Tryz.prog Rows.fnExactNewSessionRow.laid w) (fun _ _ _ hh h => h.of_heap hh) own started (by kernel_rfl) Tryz.func3
    (ChangeSpec.witness_shaped (enc := enc) (C := Tryz.checked) (os := os) (X := fun w _ => laidMetH Tryz.prog Rows.fnExactNewSessionRow.laid w) false (World.laidAll Tryz.prog os Rows.fnExactNewSessionRow.laid) #[.string noT, .int .i64 0, .int .i64 0] 8 (World.laidAll_os _ _ _)
      (World.shaped_of_ZipB (by kernel_rfl) (by kernel_rfl)) (by kernel_rfl) (by kernel_rfl) (by kernel_rfl)
      (by rw [MakeChecks.laidMetH_plain _ _ _ (by kernel_rfl)]; exact laidMet_laidAll _ (by kernel_rfl) (by kernel_rfl))) ?_
  intro W base args ds gs before hval0 hW _ _ hL _
  have hval : ∀ (j : Nat) t v, Tryz.f3.params[j]? = some t → args[j]? = some v → Value.okWide Tryz.prog W .any base t v := hval0
  have hW' := hW
  obtain ⟨p, q, hA0, hV0, rfl, hfz, hnd⟩ := hW
  have hV : DataW.TrodVars enc Tryz.prog W (fun _ => true) [Rows.fnExactNewSessionSpec.vars.headD ""] gs q := hV0
  have hA : DataW.TrodAll enc Tryz.prog W 0 (fun _ => true) true Tryz.f3.params.toList args.toList ds p := hA0
  rw [Tryz.params3] at hA hval
  obtain ⟨v0, v1, v2, d0, d1, d2, p0, p1, p2, rfl, rfl, rfl, h0, h1, h2⟩ := trodAll_three hA
  obtain ⟨g, t, cs, fuel, d, p', rfl, _, _, _, _, _⟩ := trodVars_one hV
  obtain ⟨s0, rfl, rfl, rfl, z0⟩ := Go.ChangeMaps.open_string Tryz.underlying9 (hval 0 9 v0 rfl rfl) h0
  obtain ⟨a1, rfl, rfl, rfl, w1⟩ := open_int Tryz.underlying3 (hval 1 3 v1 rfl rfl) h1
  obtain ⟨a2, rfl, rfl, rfl, w2⟩ := open_int Tryz.underlying3 (hval 2 3 v2 rfl rfl) h2
  clear hA0 hval0
  have hP := pow_of_laid hL
  refine (fnExactNewSession_walk s0 a1 a2 W z0 (tabs3_of_laid hL) (pow_lo hP) hP).mono fun e W' ⟨he, hb⟩ => ?_
  subst he
  exact ⟨_, rfl, post_law (by kernel_rfl) (by kernel_rfl) (by kernel_rfl) (bt := 4) (by kernel_rfl) Tryz.underlying4 hW' rfl hb⟩
end Go.Proofs.YtjfnieodpdklfaaGreatDoor

namespace Go.Proofs.YtjfnieodpdklfaaGreatDoor
open Go.ChangeShapes Go.WideShapes Go.ChangeAt Go.RowKit Go.Deep

theorem fnExactNewSession_holds : Rows.FnExactNewSessionSaid :=
  OpenClaim.holds_of_wide 3 Tryz.f3 rfl rfl rfl rfl rfl rfl rfl ⟨rfl, rfl, rfl, rfl, rfl⟩ rfl rfl rfl rfl rfl (by kernel_rfl) Tryz.func3 fnExactNewSession_facts
    (of_decide_eq_true (by kernel_rfl)) (by unfold Func.isWrapper; first | (rw [if_pos (by decide +kernel)]; kernel_rfl) | (rw [if_neg (by decide +kernel)]; exact ⟨rfl, rfl⟩))
    (fun os started H enc _ => fnExactNewSession_lifted os started H enc)
end Go.Proofs.YtjfnieodpdklfaaGreatDoor
