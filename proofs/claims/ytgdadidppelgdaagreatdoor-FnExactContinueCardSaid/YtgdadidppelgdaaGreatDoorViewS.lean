import Derived.Test.YtgdadidppelgdaaGreatDoorTrim
import Derived.Test.YtgdadidppelgdaaGreatDoorViewG
import Derived.Test.YtgdadidppelgdaaGreatDoorSesOkS2
import Derived.Deep.AppendLies
namespace Go.Proofs.YtgdadidppelgdaaGreatDoor
open Go.RowKit

set_option maxRecDepth 10000 in
set_option maxHeartbeats 1000000 in
theorem l2Trim_big (s : ByteArray) (w : World) (hs : s.size ≤ 4398046511104) :
    Calls Tryz.prog 59 #[.string s] w fun e w' => e = .returned (.string (s.extract 0 (trimK s s.size))) ∧ w' = w := by
  go_enter Tryz.func59, Tryz.ntmps59
  go_wp2
  go_loop [3] (fun i => ∃ k : Nat, k ≤ s.size ∧ i = .int .i64 k ∧ Hid (trimK s s.size = trimK s k)) (fun i => (intOf i).toNat)
  case atStart => exact ⟨s.size, Nat.le_refl _, rfl, hide rfl⟩
  case round =>
    obtain ⟨k, hk, rfl, HJ⟩ := hrel
    by_cases h0 : k = 0
    · subst h0
      have hfin : Hid (trimK s s.size = 0) := hide ((unhide HJ).trans rfl)
      go_wp2
      go_ret
      exact ⟨by rw [unhide hfin]; simp, rfl⟩
    · obtain ⟨j, rfl⟩ : ∃ j, k = j + 1 := ⟨k - 1, by omega⟩
      have hw1 : IntKind.i64.wrap (((j + 1 : Nat) : Int) - 1) = (j : Int) := by rw [IntKind.wrap_i64]; omega
      have bj : (j : Int) < (s.size : Int) := by omega
      have hj : j < s.size := by omega
      have hat : s.data.toList[j]? = some (s[j]'hj) := by
        rw [List.getElem?_eq_getElem (by simpa using hj)]
        simp [ByteArray.getElem_eq_getElem_data]
      by_cases he : (s[j]'hj).toNat = 32
      · have HJ2 : Hid (trimK s s.size = trimK s j) := hide ((unhide HJ).trans (by
          rw [trimK, if_pos]
          rw [hat]
          exact congrArg some (UInt8.toNat_inj.1 he)))
        clear hat
        go_wp2
        go_round
        case rel => exact ⟨j, by omega, rfl, HJ2⟩
        case measure => simp [intOf]
      · have hfin : Hid (trimK s s.size = j + 1) := hide ((unhide HJ).trans (by
          rw [trimK, if_neg]
          rw [hat]
          exact fun e => he (by rw [Option.some.inj e]; rfl)))
        clear hat
        go_wp2
        go_ret
        exact ⟨by rw [unhide hfin]; rfl, rfl⟩
end Go.Proofs.YtgdadidppelgdaaGreatDoor

namespace Go.Proofs.YtgdadidppelgdaaGreatDoor
open Go.RowKit

/-- Blocks that stand while an owned row grows elsewhere. -/
structure VK (w0 wr : World) (o : Value) (L : List Nat) : Prop where
  blk : ∀ b ∈ L, wr.heap[b]? = w0.heap[b]?
  ne : ∀ b ∈ L, o.ownBlock ≠ some b
  lt : ∀ b ∈ L, b < wr.heap.size
theorem VK.more {w0 wr w3 : World} {o : Value} {L : List Nat} {ob : Obj} (h : VK w0 wr o L) {g n cap : Nat} (hg : (wr.alloc ob).grownBy w3 o.ownBlock) (hat : o.ownBlock = some g ∨ g = wr.heap.size + 1) : VK w0 w3 (.slice (some ⟨g, 0, none⟩) n cap) L := by
  have s1 : (wr.alloc ob).heap.size = wr.heap.size + 1 := by simp
  have s2 := hg.size
  refine ⟨fun b hb => ?_, fun b hb e => ?_, fun b hb => by have := h.lt b hb; omega⟩
  · have l := h.lt b hb
    exact (hg.block b (by omega) (fun e => h.ne b hb e.symm)).trans ((((Ext.refl wr).alloc ob).heap l).trans (h.blk b hb))
  · have l := h.lt b hb
    simp [Value.ownBlock] at e
    rcases hat with e2 | e2
    · exact h.ne b hb (by rw [e2, e])
    · omega
theorem VK.cell {w0 wr : World} {o : Value} {L : List Nat} (h : VK w0 wr o L) {b j : Nat} {v : Value} (hb : b ∈ L) (hc : w0.cell? ⟨b, j, none⟩ = some v) : wr.cell? ⟨b, j, none⟩ = some v := by
  rw [World.cell?_of_block (a := ⟨b, j, none⟩) (h.blk b hb)]
  exact hc
set_option maxRecDepth 10000 in
set_option maxHeartbeats 4000000 in
theorem specView_no (s : SS) (u h p q l d : Value) (w : World) (hA : SesAt w s u h p q l d) (hz : s.Sz) (hok : ¬ SesP s) :
    Calls Tryz.prog 27 #[sesV s u h p q l d] w fun e w' => ∃ v, e = .returned (.tuple #[v, .int .i64 0, .int .i64 0]) ∧ Own1 w' w.heap.size 9 v 0 (fun _ => .string noX) ∧ Ext w w' := by
  obtain ⟨ua, uc, ha, hc, pa, pc, qa, qc, la, lc, da, dc, rfl, rfl, rfl, rfl, rfl, rfl⟩ := hA.forms
  have hcS := hide (fun W (hW : Ext w W) => specSessionOk_any s _ _ _ _ _ _ W (hA.ext hW) hz false (by simp [hok]))
  clear hA hz hok
  obtain ⟨V, hV⟩ : ∃ V, V = w.alloc (.cells #[.string s.pr, .int .i64 s.cols, .int .i64 s.rows, .string s.la, .string s.lb, .string s.lc, .slice ua s.un uc, .slice ha s.kh.length hc, .bool s.kp, .bool s.nav, .slice pa s.pn pc, .int .i64 s.at9, .string s.dr, .bool s.st, .slice qa s.qn qc, .slice la s.ln lc, .slice da s.dn dc] 37) := ⟨_, rfl⟩
  have E0 : Ext w V := by rw [hV]; exact (Ext.refl w).alloc _
  have HB : Hid (V.heap[w.heap.size]? = some (.cells #[.string s.pr, .int .i64 s.cols, .int .i64 s.rows, .string s.la, .string s.lb, .string s.lc, .slice ua s.un uc, .slice ha s.kh.length hc, .bool s.kp, .bool s.nav, .slice pa s.pn pc, .int .i64 s.at9, .string s.dr, .bool s.st, .slice qa s.qn qc, .slice la s.ln lc, .slice da s.dn dc] 37 (0, 0))) := hide (by rw [hV]; exact new_block w _)
  have HV := hide hV
  clear hV
  have hB0 := lt_of_block (unhide HB)
  have HWV := hide (Nat.le_of_lt hB0)
  have HE := hide (owns_empty V 9 1)
  obtain ⟨V1, hV1⟩ : ∃ V1, V1 = V.alloc (.cells #[] 9) := ⟨_, rfl⟩
  have EV : Ext V V1 := by rw [hV1]; exact (Ext.refl V).alloc _
  rw [← hV1] at HE
  have HV1 := hide hV1
  clear hV1
  unfold sesV
  go_enter Tryz.func27, Tryz.ntmps27
  go_upto_region 0 with fail
  go_cut [0, 1, 2, 3, 4] (fun _ p a b c wq => p = .pointer (some ⟨w.heap.size, 0, none⟩) ∧ a = .slice none 0 0 ∧ b = .int .i64 0 ∧ c = .int .i64 0 ∧ wq = V)
  case first =>
    go_wp2
    go_meet
    exact ⟨rfl, rfl, rfl, rfl, (unhide HV).symm⟩
  case rest =>
  obtain ⟨rfl, rfl, rfl, rfl, hwc⟩ := hcut
  obtain rfl : V = wc := hwc.symm
  clear HV
  go_wp2_with (refine wpList_load_blk rfl 37 _ rfl (w.heap.size) rfl _ _ _ _ (((Ext.refl _).alloc _).kept (unhide HB)) Tryz.underlying37 rfl infoSesV ?_)
  rw [← unhide HV1]
  clear HV1
  refine ((unhide hcS) V1 (E0.trans EV)).mono ?_
  rintro e w1 ⟨rfl, F1⟩
  have E1 := (E0.trans EV).trans F1
  have sV := EV.size
  have s1 := F1.size
  replace HB := hide ((EV.trans F1).kept (unhide HB))
  have HO1 := hide (F1.owns (unhide HE))
  clear HE
  go_wp2
  exact bodyPost_ret (v := .tuple #[.slice (some ⟨V.heap.size, 0, none⟩) 0 0, .int .i64 0, .int .i64 0]) (by simp [results, Tryz.results27, go_sem]) rfl ⟨_, rfl, ⟨[], owns_mono (unhide HO1) (by omega), fun j hj => by omega⟩, E1⟩
set_option maxRecDepth 10000 in
set_option maxHeartbeats 4000000 in
theorem specView_st (s : SS) (u h p q l d : Value) (w : World) (hA : SesAt w s u h p q l d) (hz : s.Sz) (hok : SesP s) (hst : s.st = true) :
    Calls Tryz.prog 27 #[sesV s u h p q l d] w fun e w' => ∃ v, e = .returned (.tuple #[v, .int .i64 (s.ln : Int), .int .i64 0]) ∧ Own1 w' w.heap.size 9 v (s.ln + 1) (fun i => .string (if i < s.ln then s.lt i else noX)) ∧ Ext w w' := by
  obtain ⟨ua, uc, ha, hc, pa, pc, qa, qc, la, lc, da, dc, rfl, rfl, rfl, rfl, rfl, rfl⟩ := hA.forms
  have hcS := hide (fun W (hW : Ext w W) => specSessionOk_any s _ _ _ _ _ _ W (hA.ext hW) hz true (by simp [hok]))
  obtain ⟨ic, hic, hc0, hc1, hc2⟩ := info_parts infoStrs
  have HSL := hide (fun W (hW : Ext w W) => Src.strs (hA.lo.ext hW))
  have hln := hz.ln
  have HLS : Hid (strL s.lt s.ln ++ [.string noX] = strL (fun i => if i < s.ln then s.lt i else noX) (s.ln + 1)) := hide (by
    rw [strL_succ, if_neg (Nat.lt_irrefl _)]
    congr 1
    exact strL_congr (fun j hj => by rw [if_pos hj]))
  have HST := hide hst
  clear hA hz hok hst
  obtain ⟨V, hV⟩ : ∃ V, V = w.alloc (.cells #[.string s.pr, .int .i64 s.cols, .int .i64 s.rows, .string s.la, .string s.lb, .string s.lc, .slice ua s.un uc, .slice ha s.kh.length hc, .bool s.kp, .bool s.nav, .slice pa s.pn pc, .int .i64 s.at9, .string s.dr, .bool s.st, .slice qa s.qn qc, .slice la s.ln lc, .slice da s.dn dc] 37) := ⟨_, rfl⟩
  have E0 : Ext w V := by rw [hV]; exact (Ext.refl w).alloc _
  have HB : Hid (V.heap[w.heap.size]? = some (.cells #[.string s.pr, .int .i64 s.cols, .int .i64 s.rows, .string s.la, .string s.lb, .string s.lc, .slice ua s.un uc, .slice ha s.kh.length hc, .bool s.kp, .bool s.nav, .slice pa s.pn pc, .int .i64 s.at9, .string s.dr, .bool s.st, .slice qa s.qn qc, .slice la s.ln lc, .slice da s.dn dc] 37 (0, 0))) := hide (by rw [hV]; exact new_block w _)
  have HV := hide hV
  clear hV
  have hB0 := lt_of_block (unhide HB)
  have HWV := hide (Nat.le_of_lt hB0)
  have HE := hide (owns_empty V 9 1)
  obtain ⟨V1, hV1⟩ : ∃ V1, V1 = V.alloc (.cells #[] 9) := ⟨_, rfl⟩
  have EV : Ext V V1 := by rw [hV1]; exact (Ext.refl V).alloc _
  rw [← hV1] at HE
  have HV1 := hide hV1
  clear hV1
  unfold sesV
  go_enter Tryz.func27, Tryz.ntmps27
  go_upto_region 0 with fail
  go_cut [0, 1, 2, 3, 4] (fun _ p a b c wq => p = .pointer (some ⟨w.heap.size, 0, none⟩) ∧ a = .slice none 0 0 ∧ b = .int .i64 0 ∧ c = .int .i64 0 ∧ wq = V)
  case first =>
    go_wp2
    go_meet
    exact ⟨rfl, rfl, rfl, rfl, (unhide HV).symm⟩
  case rest =>
  obtain ⟨rfl, rfl, rfl, rfl, hwc⟩ := hcut
  obtain rfl : V = wc := hwc.symm
  clear HV
  go_wp2_with (refine wpList_load_blk rfl 37 _ rfl (w.heap.size) rfl _ _ _ _ (((Ext.refl _).alloc _).kept (unhide HB)) Tryz.underlying37 rfl infoSesV ?_)
  rw [← unhide HV1]
  clear HV1
  refine ((unhide hcS) V1 (E0.trans EV)).mono ?_
  rintro e w1 ⟨rfl, F1⟩
  have E1 := (E0.trans EV).trans F1
  have sV := EV.size
  have s1 := F1.size
  replace HB := hide ((EV.trans F1).kept (unhide HB))
  have HO1 := hide (F1.owns (unhide HE))
  clear HE
  have x15 : w1.cell? ⟨w.heap.size, 15, none⟩ = some (.slice la s.ln lc) := cells_of (unhide HB) 15 _ rfl
  go_wp2_with (at_builtin; refine StopP.intro ?_)
  show wpList _ _ _ _ _ _
  refine wpList_app rfl _ _ 28 rfl V.heap.size 9 ic (.string { data := #[] }) 1 16 Tryz.underlying28 hic hc0 hc1 hc2 rfl (by decide) _ 0 [] rfl (unhide HO1) _ s.ln (strL s.lt s.ln) rfl ((unhide HSL) _ E1) (by unfold maxLen; omega) (by omega) (by omega) ?_
  intro v5 w5 o5 G5 _
  have X5 := Fr.grown (S := fun q => q = V.heap.size) (Fr.refl _ w1) G5 (fun q hq => by cases hq; rfl)
  have E5 := X5.ext E1 (fun q hq => by omega)
  rw [Nat.zero_add, List.nil_append] at o5
  obtain ⟨a5, c5, e5⟩ := owns_slice o5
  subst e5
  have HO5 := hide o5
  have hs5 := G5.size
  have HB5 := hide (X5.kept (unhide HB) (fun h => by omega))
  have x13 : w5.cell? ⟨w.heap.size, 13, none⟩ = some (.bool true) := by have h9 : w5.cell? ⟨w.heap.size, 13, none⟩ = some (.bool s.st) := cells_of (unhide HB5) 13 _ rfl; rw [unhide HST] at h9; exact h9
  have x15' : w5.cell? ⟨w.heap.size, 15, none⟩ = some (.slice la s.ln lc) := cells_of (unhide HB5) 15 _ rfl
  clear o5 G5 x15 X5
  go_upto_region 6 with fail
  clear x13
  have x15n : ∀ o, (w5.alloc o).cell? ⟨w.heap.size, 15, none⟩ = some (.slice la s.ln lc) := fun o => ((Ext.refl w5).alloc o).cell x15'
  go_region_law (first
    | (refine step_app (by rfl) _ _ 28 (by rfl) V.heap.size 9 ic (.string { data := #[] }) 1 16 Tryz.underlying28 hic hc0 hc1 hc2 rfl (by decide) _ s.ln (strL s.lt s.ln) (by rfl) (by first | exact (unhide HO5).alloc _ | exact ((unhide HO5).alloc _).drew | exact (unhide HO5).drew.alloc _ | exact ((unhide HO5).drew.alloc _).drew) _ 1 [.string noX] (by rfl) (by first | exact Src.made _ _ _ rfl (by simp [Value.oneCell']) | exact (Src.made _ _ _ rfl (by simp [Value.oneCell'])).ext ((Ext.refl _).drew)) (by unfold maxLen; omega) (by omega) (by simp; omega) ?_; intro v6 w6 o6 G6 _; have X6 := Fr.grown (S := fun q => (Value.slice a5 s.ln c5).ownBlock = some q) (Fr.of_ext (by first | exact ((Ext.refl w5).alloc _).drew | exact (Ext.refl w5).drew.alloc _ | exact (Ext.refl w5).alloc _)) G6 (fun q hq => hq); have HO6 := hide o6; have E6 := hide (X6.ext E5 (fun q hq => by have := ((unhide HO5).lt q hq).1; omega)); have x15'' : w6.cell? ⟨w.heap.size, 15, none⟩ = some (.slice la s.ln lc) := cells_of (X6.kept (unhide HB5) (fun hq => by have := ((unhide HO5).lt _ hq).1; omega)) 15 _ rfl; clear X6 o6 G6))
  all_goals
    rw [unhide HLS] at HO6
    go_wp2
    exact bodyPost_ret (v := .tuple #[_, .int .i64 (s.ln : Int), .int .i64 0]) (by simp [results, Tryz.results27, go_sem]) rfl ⟨_, rfl, (own_strL (unhide HO6)).mono (by omega), unhide E6⟩
set_option maxRecDepth 10000 in
set_option maxHeartbeats 4000000 in
theorem specView_go (s : SS) (u h p q l d : Value) (w : World) (hA : SesAt w s u h p q l d) (hz : s.Sz) (hok : SesP s) (hst : s.st = false) :
    Calls Tryz.prog 27 #[sesV s u h p q l d] w fun e w' => ∃ v, e = .returned (.tuple #[v, .int .i64 ((s.ln : Int) + (s.blk.R : Int)), .int .i64 s.blk.C]) ∧ Own1 w' w.heap.size 9 v (s.ln + (lastV (fun i => trimS (s.blk.tx i)) s.blk.R s.blk.n + 1)) (fun i => .string (if i < s.ln then s.lt i else trimS (s.blk.tx (i - s.ln)))) ∧ Ext w w' := by
  obtain ⟨ua, uc, ha, hc, pa, pc, qa, qc, la, lc, da, dc, rfl, rfl, rfl, rfl, rfl, rfl⟩ := hA.forms
  have hcS := hide (fun W (hW : Ext w W) => specSessionOk_any s _ _ _ _ _ _ W (hA.ext hW) hz true (by simp [hok]))
  have hcB := hide (fun W (hW : Ext w W) => l7Block_any s _ _ _ _ _ _ W (hA.ext hW) hz hok.2.1)
  obtain ⟨hR, hN⟩ := s.blk_lt hok.2.1
  have hTX := hide (fun i => s.blk_size hz i)
  obtain ⟨ic, hic, hc0, hc1, hc2⟩ := info_parts infoStrs
  have HSL := hide (fun W (hW : Ext w W) => Src.strs (hA.lo.ext hW))
  have hln := hz.ln
  have HST := hide hst
  clear hA hz hok hst
  generalize s.blk.n = n at *
  generalize s.blk.R = R at *
  generalize s.blk.C = C at *
  generalize s.blk.tx = tx at *
  obtain ⟨V, hV⟩ : ∃ V, V = w.alloc (.cells #[.string s.pr, .int .i64 s.cols, .int .i64 s.rows, .string s.la, .string s.lb, .string s.lc, .slice ua s.un uc, .slice ha s.kh.length hc, .bool s.kp, .bool s.nav, .slice pa s.pn pc, .int .i64 s.at9, .string s.dr, .bool s.st, .slice qa s.qn qc, .slice la s.ln lc, .slice da s.dn dc] 37) := ⟨_, rfl⟩
  have E0 : Ext w V := by rw [hV]; exact (Ext.refl w).alloc _
  have HB : Hid (V.heap[w.heap.size]? = some (.cells #[.string s.pr, .int .i64 s.cols, .int .i64 s.rows, .string s.la, .string s.lb, .string s.lc, .slice ua s.un uc, .slice ha s.kh.length hc, .bool s.kp, .bool s.nav, .slice pa s.pn pc, .int .i64 s.at9, .string s.dr, .bool s.st, .slice qa s.qn qc, .slice la s.ln lc, .slice da s.dn dc] 37 (0, 0))) := hide (by rw [hV]; exact new_block w _)
  have HV := hide hV
  clear hV
  have hB0 := lt_of_block (unhide HB)
  have HWV := hide (Nat.le_of_lt hB0)
  have HE := hide (owns_empty V 9 1)
  obtain ⟨V1, hV1⟩ : ∃ V1, V1 = V.alloc (.cells #[] 9) := ⟨_, rfl⟩
  have EV : Ext V V1 := by rw [hV1]; exact (Ext.refl V).alloc _
  rw [← hV1] at HE
  have HV1 := hide hV1
  clear hV1
  unfold sesV
  go_enter Tryz.func27, Tryz.ntmps27
  go_upto_region 0 with fail
  go_cut [0, 1, 2, 3, 4] (fun _ p a b c wq => p = .pointer (some ⟨w.heap.size, 0, none⟩) ∧ a = .slice none 0 0 ∧ b = .int .i64 0 ∧ c = .int .i64 0 ∧ wq = V)
  case first =>
    go_wp2
    go_meet
    exact ⟨rfl, rfl, rfl, rfl, (unhide HV).symm⟩
  case rest =>
  obtain ⟨rfl, rfl, rfl, rfl, hwc⟩ := hcut
  obtain rfl : V = wc := hwc.symm
  clear HV
  go_wp2_with (refine wpList_load_blk rfl 37 _ rfl (w.heap.size) rfl _ _ _ _ (((Ext.refl _).alloc _).kept (unhide HB)) Tryz.underlying37 rfl infoSesV ?_)
  rw [← unhide HV1]
  clear HV1
  refine ((unhide hcS) V1 (E0.trans EV)).mono ?_
  rintro e w1 ⟨rfl, F1⟩
  have E1 := (E0.trans EV).trans F1
  have sV := EV.size
  have s1 := F1.size
  replace HB := hide ((EV.trans F1).kept (unhide HB))
  have HO1 := hide (F1.owns (unhide HE))
  clear HE
  have x15 : w1.cell? ⟨w.heap.size, 15, none⟩ = some (.slice la s.ln lc) := cells_of (unhide HB) 15 _ rfl
  go_wp2_with (at_builtin; refine StopP.intro ?_)
  show wpList _ _ _ _ _ _
  refine wpList_app rfl _ _ 28 rfl V.heap.size 9 ic (.string { data := #[] }) 1 16 Tryz.underlying28 hic hc0 hc1 hc2 rfl (by decide) _ 0 [] rfl (unhide HO1) _ s.ln (strL s.lt s.ln) rfl ((unhide HSL) _ E1) (by unfold maxLen; omega) (by omega) (by omega) ?_
  intro v5 w5 o5 G5 _
  have X5 := Fr.grown (S := fun q => q = V.heap.size) (Fr.refl _ w1) G5 (fun q hq => by cases hq; rfl)
  have E5 := X5.ext E1 (fun q hq => by omega)
  rw [Nat.zero_add, List.nil_append] at o5
  obtain ⟨a5, c5, e5⟩ := owns_slice o5
  subst e5
  have HO5 := hide o5
  have hs5 := G5.size
  have HB5 := hide (X5.kept (unhide HB) (fun h => by omega))
  have x13 : w5.cell? ⟨w.heap.size, 13, none⟩ = some (.bool false) := by have h9 : w5.cell? ⟨w.heap.size, 13, none⟩ = some (.bool s.st) := cells_of (unhide HB5) 13 _ rfl; rw [unhide HST] at h9; exact h9
  have x15' : w5.cell? ⟨w.heap.size, 15, none⟩ = some (.slice la s.ln lc) := cells_of (unhide HB5) 15 _ rfl
  clear o5 G5 x15 X5
  go_wp2_with (refine wpList_load_blk rfl 37 _ rfl (w.heap.size) rfl _ _ _ _ (unhide HB5) Tryz.underlying37 rfl infoSesV ?_)
  clear x13 x15'
  refine ((unhide hcB) w5 E5).mono ?_
  rintro e w6 ⟨v6, rfl, o6, F6⟩
  obtain ⟨g6, c6, rfl⟩ : ∃ g c, v6 = .slice (some ⟨g, 0, none⟩) n c := by
    rcases o6.form with ⟨_, h0⟩ | ⟨g, cap, e⟩
    · omega
    · exact ⟨g, cap, e⟩
  have hg6 := o6.lt g6 rfl
  have hat6 : Hid (∀ j, j < n → w6.cell? ⟨g6, j, none⟩ = some (.string (tx j))) := hide (fun j hj => by
    obtain ⟨ys, h1, h2⟩ := o6
    rw [h1.cellAt j (by omega), h2 j hj])
  have hs6 := F6.size
  obtain ⟨W7, hW7⟩ : ∃ W7, W7 = w6.alloc (.cells #[.slice (some ⟨g6, 0, none⟩) n c6, .int .i64 (R : Int), .int .i64 C] 61) := ⟨_, rfl⟩
  have F7 : Ext w6 W7 := by rw [hW7]; exact (Ext.refl w6).alloc _
  have HB7 : Hid (W7.heap[w6.heap.size]? = some (.cells #[.slice (some ⟨g6, 0, none⟩) n c6, .int .i64 (R : Int), .int .i64 C] 61 (0, 0))) := hide (by rw [hW7]; exact new_block w6 _)
  replace hat6 : Hid (∀ j, j < n → W7.cell? ⟨g6, j, none⟩ = some (.string (tx j))) := hide (fun j hj => F7.cell ((unhide hat6) j hj))
  have HB0 := hide ((F6.trans F7).kept (unhide HB5))
  have HO7 := hide ((F6.trans F7).owns (unhide HO5))
  have E7 := E5.trans (F6.trans F7)
  have hs7 := lt_of_block (unhide HB7)
  have HW7 := hide hW7
  clear hW7 o6 hcB hcS HB HB5
  have b0 : W7.cell? ⟨w6.heap.size, 0, none⟩ = some (.slice (some ⟨g6, 0, none⟩) n c6) := cells_of (unhide HB7) 0 _ rfl
  go_wp2
  rw [← unhide HW7]
  clear HW7
  go_loopw [7, 8] (fun a i wr => ∃ k : Nat, k ≤ n ∧ i = .int .i64 (k : Int) ∧ a = .int .i64 (lastV (fun i => trimS (tx i)) R k : Int) ∧ wr = W7) (fun _ i _ => n - (intOf i).toNat)
  case atStart => exact ⟨0, Nat.zero_le _, rfl, rfl, rfl⟩
  case round =>
    obtain ⟨k, hk, rfl, rfl, rfl⟩ := hrel
    have hlv := lastV_or (fun i => trimS (tx i)) R k
    have hlb : lastV (fun i => trimS (tx i)) R k < 1048576 := by omega
    by_cases hlt : k < n
    · have bk : (k : Int) < (n : Int) := by omega
      have hsucc : Hid (lastV (fun i => trimS (tx i)) R (k + 1) = if lastV (fun i => trimS (tx i)) R k < k ∧ trimS (tx k) ≠ noX then k else lastV (fun i => trimS (tx i)) R k) := hide rfl
      generalize lastV (fun i => trimS (tx i)) R k = m at *
      clear hlv
      by_cases hgt : (m : Int) < (k : Int)
      · have g1 := (unhide hat6) k hlt
        have hct := hide (l2Trim_big (tx k) wr (by have := (unhide hTX) k; omega))
        go_wp2_with fail
        refine (unhide hct).mono ?_
        rintro e w8 ⟨rfl, rfl⟩
        have htr : (tx k).extract 0 (trimK (tx k) (tx k).size) = trimS (tx k) := rfl
        rw [htr]
        clear htr hct
        by_cases hbl : trimS (tx k) = noX
        · have hm : Hid (lastV (fun i => trimS (tx i)) R (k + 1) = m) := hide (by rw [unhide hsucc, if_neg (fun hh => hh.2 hbl)])
          rw [hbl]
          clear hsucc hbl
          go_wp2
          go_roundw
          case rel => exact ⟨k + 1, by omega, by go_num, by rw [unhide hm], by first | rfl | trivial⟩
          case measure => simp [intOf]; omega
        · have hm : Hid (lastV (fun i => trimS (tx i)) R (k + 1) = k) := hide (by rw [unhide hsucc, if_pos ⟨by omega, hbl⟩])
          have hne : (trimS (tx k)).toList.isEmpty = false := by
            rw [toList_data]
            cases e : (trimS (tx k)).data.toList with
            | nil => exact absurd (WideShapes.bytes_inj e) hbl
            | cons _ _ => rfl
          clear hsucc hbl
          go_wp2
          go_roundw
          case rel => exact ⟨k + 1, by omega, by go_num, by rw [unhide hm], by first | rfl | trivial⟩
          case measure => simp [intOf]; omega
      · have hm : Hid (lastV (fun i => trimS (tx i)) R (k + 1) = m) := hide (by rw [unhide hsucc, if_neg (fun hh => hgt (by have := hh.1; omega))])
        clear hsucc
        go_wp2
        go_roundw
        case rel => exact ⟨k + 1, by omega, by go_num, by rw [unhide hm], by first | rfl | trivial⟩
        case measure => simp [intOf]; omega
    · obtain rfl : k = n := by omega
      have hln2 := lastV_lt (fun i => trimS (tx i)) R k hR
      generalize hm9 : lastV (fun i => trimS (tx i)) R k = m at *
      have HM9 := hide hm9
      clear hm9
      have hb9 : ¬ (k : Int) < (k : Int) := by omega
      have HVK : Hid (VK wr wr (.slice a5 s.ln c5) [w.heap.size, w6.heap.size, g6]) := hide ⟨fun _ _ => rfl, fun b hb e => by
        have l9 := (unhide HO5).lt b e
        simp only [List.mem_cons, List.not_mem_nil, or_false] at hb
        omega, fun b hb => by
        simp only [List.mem_cons, List.not_mem_nil, or_false] at hb
        have := (unhide HO5).2
        omega⟩
      obtain ⟨W8, rfl⟩ : ∃ W8, W8 = wr := ⟨_, rfl⟩
      have x15w : W8.cell? ⟨w.heap.size, 15, none⟩ = some (.slice la s.ln lc) := cells_of (unhide HB0) 15 _ rfl
      have b1w : W8.cell? ⟨w6.heap.size, 1, none⟩ = some (.int .i64 (R : Int)) := cells_of (unhide HB7) 1 _ rfl
      have b2w : W8.cell? ⟨w6.heap.size, 2, none⟩ = some (.int .i64 C) := cells_of (unhide HB7) 2 _ rfl
      have X15 := hide x15w
      have BB0 := hide b0
      have BB1 := hide b1w
      have BB2 := hide b2w
      have hwr : IntKind.i64.wrap ((s.ln : Int) + (R : Int)) = (s.ln : Int) + (R : Int) := by rw [IntKind.wrap_i64]; omega
      clear x15w b1w b2w
      go_wp2
      clear b0
      go_loopw [5, 9] (fun o i wr => ∃ k2 : Nat, k2 ≤ m + 1 ∧ i = .int .i64 (k2 : Int) ∧ Hid (wr.ownsRow V.heap.size 9 1 o (s.ln + k2) (strL (fun i => if i < s.ln then s.lt i else trimS (tx (i - s.ln))) (s.ln + k2))) ∧ Hid (VK W8 wr o [w.heap.size, w6.heap.size, g6]) ∧ Ext w wr) (fun _ i _ => m + 1 - (intOf i).toNat)
      case atStart =>
        refine ⟨0, Nat.zero_le _, rfl, hide ?_, HVK, E7⟩
        have h7 := unhide HO7
        rw [strL_congr (ty := fun i => if i < s.ln then s.lt i else trimS (tx (i - s.ln))) (fun j hj => by rw [if_pos hj])] at h7
        exact h7
      case round =>
        clear HVK HO7
        obtain ⟨k2, hk2, rfl, HO, HK, hext⟩ := hrel
        obtain ⟨ao, co, rfl⟩ := owns_slice (unhide HO)
        have y0 := (unhide HK).cell (by simp) (unhide BB0)
        have hzr := hext.size
        have hVr : V.heap.size ≤ wr.heap.size := by have := (unhide HK).lt w6.heap.size (by simp); omega
        by_cases hl2 : k2 < m + 1
        · have b2i : (k2 : Int) ≤ (m : Int) := by omega
          have bk : (k2 : Int) < (k : Int) := by omega
          have g1 := (unhide HK).cell (by simp) ((unhide hat6) k2 (by omega))
          have hct := hide (l2Trim_big (tx k2) wr (by have := (unhide hTX) k2; omega))
          have hst9 : Hid (strL (fun i => if i < s.ln then s.lt i else trimS (tx (i - s.ln))) (s.ln + k2) ++ [.string (trimS (tx k2))] = strL (fun i => if i < s.ln then s.lt i else trimS (tx (i - s.ln))) (s.ln + (k2 + 1))) := hide (by
            rw [← Nat.add_assoc, strL_succ, if_neg (by omega), Nat.add_sub_cancel_left])
          go_wp2_with fail
          refine (unhide hct).mono ?_
          rintro e w8 ⟨rfl, rfl⟩
          have htr : (tx k2).extract 0 (trimK (tx k2) (tx k2).size) = trimS (tx k2) := rfl
          rw [htr]
          clear htr hct y0 g1
          go_wp2_with (at_builtin; refine StopP.intro ?_)
          show wpList _ _ _ _ _ _
          refine wpList_append_lies _ rfl _ _ 28 rfl V.heap.size 9 ic (.string { data := #[] }) 1 16 Tryz.underlying28 hic hc0 hc1 hc2 rfl (by decide) (.slice ao (s.ln + k2) co) (s.ln + k2) (strL (fun i => if i < s.ln then s.lt i else trimS (tx (i - s.ln))) (s.ln + k2)) rfl ((unhide HO).alloc _) ⟨w8.heap.size, 0, none⟩ 1 1 [.string (trimS (tx k2))] rfl rfl (World.news_of_block (cs := #[.string (trimS (tx k2))]) (t := 9) (fr := (0, 0)) (heap_alloc_new w8 _)) (by simp [Value.oneCell']) (by omega) (by unfold maxLen; omega) (by omega) (by simp; omega) (w8.heap.size + 1) (by simp) ?_
          intro g9 cap9 w9 o9 G9 hat9 _
          rw [unhide hst9] at o9
          have HO9 := hide o9
          have HK9 := hide (VK.more (n := s.ln + k2 + 1) (cap := cap9) (unhide HK) G9 hat9)
          have E9 := (hext.alloc _).grown G9 (fun q hq => by have := ((unhide HO).lt q hq).1; omega)
          clear o9 G9 hat9
          go_wp2
          go_roundw
          case rel => exact ⟨k2 + 1, by omega, by go_num, HO9, HK9, E9⟩
          case measure => simp [intOf]; omega
        · obtain rfl : k2 = m + 1 := by omega
          have hb2 : ¬ ((m + 1 : Nat) : Int) ≤ (m : Int) := by omega
          have z15 := (unhide HK).cell (by simp) (unhide X15)
          have z1 := (unhide HK).cell (by simp) (unhide BB1)
          have z2 := (unhide HK).cell (by simp) (unhide BB2)
          go_wp2
          go_quiet (fail)
          go_wp2
          exact bodyPost_ret (v := .tuple #[.slice ao (s.ln + (m + 1)) co, .int .i64 ((s.ln : Int) + (R : Int)), .int .i64 C]) (by simp [results, Tryz.results27, go_sem]) rfl ⟨_, rfl, by rw [unhide HM9]; exact ((own_strL (unhide HO)).mono (unhide HWV)).ext ((Ext.refl wr).drewN nq), hext.drewN nq⟩
end Go.Proofs.YtgdadidppelgdaaGreatDoor
