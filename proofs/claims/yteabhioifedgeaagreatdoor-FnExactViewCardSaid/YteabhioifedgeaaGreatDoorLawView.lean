import Derived.Test.YteabhioifedgeaaGreatDoorGenView
import Derived.Test.YteabhioifedgeaaGreatDoorSesTo
import Derived.Test.YteabhioifedgeaaGreatDoorSesMark
import Derived.Test.YteabhioifedgeaaGreatDoorViewS
import Derived.Test.YteabhioifedgeaaGreatDoorHTab
import Derived.Test.YteabhioifedgeaaGreatDoorRows
namespace Go.Proofs.YteabhioifedgeaaGreatDoor
open Go.ChangeShapes Go.WideShapes Go.ChangeAt Go.RowKit Go.Deep

theorem own1_none (w : World) (b : Nat) (T : TypeId) (A : Nat → Value) : Own1 w b T (.slice none 0 0) 0 A := ⟨[], owns_nil w b T 1, fun j hj => by omega⟩
theorem fnExactView_walk (s : SS) (u h p q l d : Value) (w : World) (hA : SesAt w s u h p q l d) (hC : s.Came) (hT : Tabs3 w) :
    Calls Tryz.prog 7 #[sesV s u h p q l d] w fun e w' => e = .returned (.bool true) ∧ Below w.heap.size w w' := by
  obtain ⟨N, TX, R, C, hN, hI, hS⟩ : ∃ (N : Nat) (TX : Nat → ByteArray) (R C : Int), (s.bulk ≤ 1048576 → N ≤ 1073741824)
      ∧ (s.bulk ≤ 1048576 → ∀ W u h p q l d, SesAt W s u h p q l d → Tabs3 W → Calls Tryz.prog 44 #[sesV s u h p q l d] W fun e w' => ∃ v, e = .returned (.tuple #[v, .int .i64 R, .int .i64 C]) ∧ Own1 w' W.heap.size 9 v N (fun i => .string (TX i)) ∧ Ext W w')
      ∧ (s.bulk ≤ 1048576 → ∀ W u h p q l d, SesAt W s u h p q l d → Calls Tryz.prog 42 #[sesV s u h p q l d] W fun e w' => ∃ v, e = .returned (.tuple #[v, .int .i64 R, .int .i64 C]) ∧ Own1 w' W.heap.size 9 v N (fun i => .string (TX i)) ∧ Ext W w') := by
    by_cases hok : SesP s
    · cases hst : s.st with
      | true =>
        refine ⟨s.ln + 1, fun i => if i < s.ln then s.lt i else noX, (s.ln : Int), 0, fun hb => by have := (SS.Sz.of_bulk hb).ln; omega, fun hb W u h p q l d o ht => ?_, fun hb W u h p q l d o => ?_⟩
        · exact implView_st s u h p q l d W o (SS.Sz.of_bulk hb) ht hok hst
        · exact specView_st s u h p q l d W o (SS.Sz.of_bulk hb) hok hst
      | false =>
        have hlt := s.blk_lt hok.2.1
        have hl2 := lastV_lt (fun i => trimS (s.blk.tx i)) s.blk.R s.blk.n hlt.1
        refine ⟨s.ln + (lastV (fun i => trimS (s.blk.tx i)) s.blk.R s.blk.n + 1), fun i => if i < s.ln then s.lt i else trimS (s.blk.tx (i - s.ln)), (s.ln : Int) + (s.blk.R : Int), s.blk.C, fun hb => by have := (SS.Sz.of_bulk hb).ln; omega, fun hb W u h p q l d o ht => ?_, fun hb W u h p q l d o => ?_⟩
        · exact implView_go s u h p q l d W o (SS.Sz.of_bulk hb) ht hok hst
        · exact specView_go s u h p q l d W o (SS.Sz.of_bulk hb) hok hst
    · refine ⟨0, fun _ => noX, 0, 0, fun _ => by omega, fun hb W u h p q l d o ht => ?_, fun hb W u h p q l d o => ?_⟩
      · refine (implView_no s u h p q l d W o (SS.Sz.of_bulk hb) ht hok).mono ?_
        rintro e w' ⟨rfl, E⟩
        exact ⟨_, rfl, own1_none _ _ _ _, E⟩
      · exact specView_no s u h p q l d W o (SS.Sz.of_bulk hb) hok
  obtain ⟨ua, uc, ha, hc, pa, pc, qa, qc, la, lc, da, dc, rfl, rfl, rfl, rfl, rfl, rfl⟩ := hA.forms
  refine law_View _ _ _ _ _ _ _ _ _ _ _ _ _ _ _ _ _ _ _ _ _ _ _ _ _ _ _ _ _ R C w (sesK s) (fun k => sesK (mkSS k s)) s.m (strsK N TX) (fun k => strsK N (fun j => mtx (k + (j : Int)))) N (s.bulk ≤ 1048576) ?_ ?_ ?_ ?_ ?_ ?_ ?_ ?_ ?_ ?_ ?_
  · refine hide (fun W hW => (szSession_any s _ _ _ _ _ _ 1048576 W (hA.ext hW) hC (by omega) (by omega)).mono ?_)
    rintro e w' ⟨r, rfl, hr, F⟩
    exact ⟨r, rfl, fun h0 => by have := hr h0; omega, F⟩
  · refine hide (fun hb W hW => (toSession_any s _ _ _ _ _ _ W (hA.ext hW) hb).mono ?_)
    rintro e w' ⟨u, h, p, q, l, d, rfl, o, F⟩
    exact ⟨_, _, rfl, sesK_own o, F⟩
  · exact hide (fun W u hu => by
      obtain ⟨ua, uc, ha, hc, pa, pc, qa, qc, la, lc, da, dc, e⟩ := sesK_shape hu
      exact ⟨_, _, _, _, _, _, _, _, _, _, _, _, _, _, _, _, _, _, _, _, _, _, _, _, _, _, _, _, _, e⟩)
  · exact hide (fun hb => sesK_eq s (by omega))
  · refine hide (fun hb => ⟨sesK_mark s (SS.Sz.of_bulk hb), ?_⟩)
    have hz := SS.Sz.of_bulk hb
    have z0 := hz.un
    have z1 := hz.kh
    have z2 := hz.pn
    have z3 := hz.qn
    have z4 := hz.ln
    have z5 := hz.dn
    unfold SS.m
    omega
  · refine hide (fun hb W v hW hv => ?_)
    obtain ⟨u, h, p, q, l, d, rfl, o⟩ := hv
    refine (hS hb W u h p q l d o).mono ?_
    rintro e w' ⟨v, rfl, o, F⟩
    exact ⟨_, rfl, o.reads, F⟩
  · refine hide (fun hb W v hW hv => ?_)
    obtain ⟨u, h, p, q, l, d, rfl, o⟩ := hv
    refine (hI hb W u h p q l d o (hT.ext hW)).mono ?_
    rintro e w' ⟨v, rfl, o, F⟩
    exact ⟨_, _, rfl, strsK_own o, F⟩
  · exact hide (fun W u hu => by
      obtain ⟨a1, a2, e⟩ := strsK_shape hu
      exact ⟨_, _, _, e⟩)
  · exact hide (fun hb => strsK_eq N TX (by have := hN hb; omega))
  · exact hide (fun hb => ⟨strsK_mark N TX (by have := hN hb; omega), hN hb⟩)
  · exact hide (fun hb => strsK_held N (by have := hN hb; omega))
end Go.Proofs.YteabhioifedgeaaGreatDoor
