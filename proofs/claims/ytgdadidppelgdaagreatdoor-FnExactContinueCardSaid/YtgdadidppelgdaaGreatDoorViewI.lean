import Derived.Test.YtgdadidppelgdaaGreatDoorViewM
import Derived.Test.YtgdadidppelgdaaGreatDoorItemOk
import Derived.Test.YtgdadidppelgdaaGreatDoorWri
import Derived.Test.YtgdadidppelgdaaGreatDoorWhole
import Derived.Test.YtgdadidppelgdaaGreatDoorShelfB
import Derived.Shelf.Strings.Trim
import Derived.Deep.DeepCutAuto
namespace Go.Proofs.YtgdadidppelgdaaGreatDoor
open Go.RowKit

/-- Where a walk shall stand. -/
def StopP (p : Prop) : Prop := p
theorem StopP.intro {p : Prop} (h : StopP p) : p := h
theorem infoSesV : (Tryz.prog.info? 37).map (·.size) = some 17 := by kernel_rfl
set_option maxRecDepth 10000 in
set_option maxHeartbeats 2000000 in
theorem asShown_any (v : Value) (n : Nat) (tx : Nat → ByteArray) (w : World) (hv : Row1At w v n (fun j => .string (tx j))) (hn : n ≤ 16777216) (hx : ∀ j, j < n → (tx j).size ≤ 9223372036854775807) :
    Calls Tryz.prog 101 #[v] w fun e w' => ∃ v', e = .returned v' ∧ Own1 w' w.heap.size 9 v' n (fun i => .string (trimS (tx i))) ∧ Ext w w' := by
  obtain ⟨ic, hic, hc0, hc1, hc2⟩ := info_parts infoStrs
  obtain ⟨ao, ca, rfl, hca, hxa⟩ := hv
  have HX := hide hxa
  have HZ := hide hx
  clear hxa hx
  go_enter Tryz.func101, Tryz.ntmps101
  go_wp2
  go_loopw [3, 8] (fun o i wr => ∃ k : Nat, k ≤ n ∧ i = .int .i64 k ∧ Hid (wr.ownsRow w.heap.size 9 1 o k (strL (fun i => trimS (tx i)) k)) ∧ Ext w wr) (fun _ i _ => n - (intOf i).toNat)
  case atStart => exact ⟨0, Nat.zero_le _, rfl, hide (owns_nil _ _ _ _), Ext.refl _⟩
  case round =>
    obtain ⟨k, hk, rfl, HO, hext⟩ := hrel
    have hsz := hext.size
    by_cases hlt : k < n
    · obtain ⟨b, off, hao, hc⟩ := (unhide HX) (by omega)
      subst hao
      have g1 := hext.cell (hc k hlt)
      clear hc
      have bk : (k : Int) < (n : Int) := by omega
      have hcon := hide (Any.strings_TrimRight_one Tryz.lays162 (tx k) 32 (by decide) wr ((unhide HZ) k hlt))
      have hst : Hid (strL (fun i => trimS (tx i)) (k + 1) = strL (fun i => trimS (tx i)) k ++ [.string (trimS (tx k))]) := hide (strL_succ _ _)
      go_wp2_with (first
        | (go_at_call 134; refine (unhide hcon).mono ?_; rintro e w4 ⟨rfl, rfl⟩; rw [trimS_right])
        | (at_builtin; go_must (refine wpList_app rfl _ _ 28 rfl w.heap.size 9 ic (.string { data := #[] }) 1 16 Tryz.underlying28 hic hc0 hc1 hc2 rfl (by decide) _ _ _ rfl ((unhide HO).alloc _) _ 1 [.string (trimS (tx k))] rfl (Src.made _ _ _ rfl (by simp [Value.oneCell'])) (by unfold maxLen; omega) (by omega) (by simp; omega) ?_); intro v5 w5 o5 G5 _; rw [← unhide hst] at o5; have HO5 := hide o5; have E5 := hide ((hext.alloc _).grown G5 (fun q hq => ((unhide HO).lt q hq).1)); clear o5 G5))
      go_roundw
      case rel => exact ⟨k + 1, by omega, by go_num, HO5, unhide E5⟩
      case measure => simp [intOf]; omega
    · obtain rfl : k = n := by omega
      have hb9 : ¬ (k : Int) < (k : Int) := by omega
      go_wp2
      go_ret
      exact ⟨_, rfl, own_strL (unhide HO), hext⟩
set_option maxRecDepth 10000 in
set_option maxHeartbeats 4000000 in
theorem implView_no (s : SS) (u h p q l d : Value) (w : World) (hA : SesAt w s u h p q l d) (hz : s.Sz) (hT : Tabs3 w) (hok : ¬ SesP s) :
    Calls Tryz.prog 70 #[sesV s u h p q l d] w fun e w' => e = .returned (.tuple #[.slice none 0 0, .int .i64 0, .int .i64 0]) ∧ Ext w w' := by
  obtain ⟨ua, uc, ha, hc, pa, pc, qa, qc, la, lc, da, dc, rfl, rfl, rfl, rfl, rfl, rfl⟩ := hA.forms
  have hcS := hide (fun W (hW : Ext w W) => implSessionOk_any s _ _ _ _ _ _ W (hA.ext hW) hz (hT.ext hW) false (by simp [hok]))
  clear hA hz hT hok
  obtain ⟨V, hV⟩ : ∃ V, V = w.alloc (.cells #[.string s.pr, .int .i64 s.cols, .int .i64 s.rows, .string s.la, .string s.lb, .string s.lc, .slice ua s.un uc, .slice ha s.kh.length hc, .bool s.kp, .bool s.nav, .slice pa s.pn pc, .int .i64 s.at9, .string s.dr, .bool s.st, .slice qa s.qn qc, .slice la s.ln lc, .slice da s.dn dc] 37) := ⟨_, rfl⟩
  have E0 : Ext w V := by rw [hV]; exact (Ext.refl w).alloc _
  have HB : Hid (V.heap[w.heap.size]? = some (.cells #[.string s.pr, .int .i64 s.cols, .int .i64 s.rows, .string s.la, .string s.lb, .string s.lc, .slice ua s.un uc, .slice ha s.kh.length hc, .bool s.kp, .bool s.nav, .slice pa s.pn pc, .int .i64 s.at9, .string s.dr, .bool s.st, .slice qa s.qn qc, .slice la s.ln lc, .slice da s.dn dc] 37 (0, 0))) := hide (by rw [hV]; exact new_block w _)
  have HV := hide hV
  clear hV
  unfold sesV
  go_enter Tryz.func70, Tryz.ntmps70
  go_upto_region 0 with fail
  go_cut [0, 1, 2, 3, 4] (fun _ p a b c wq => p = .pointer (some ⟨w.heap.size, 0, none⟩) ∧ a = .slice none 0 0 ∧ b = .int .i64 0 ∧ c = .int .i64 0 ∧ wq = V)
  case first =>
    go_wp2
    go_meet
    exact ⟨rfl, rfl, rfl, rfl, (unhide HV).symm⟩
  case rest =>
  obtain ⟨rfl, rfl, rfl, rfl, hwc⟩ := hcut
  obtain rfl : V = wc := hwc.symm
  clear HV
  go_wp2_with (refine wpList_load_blk rfl 37 _ rfl (w.heap.size) rfl _ _ _ _ (unhide HB) Tryz.underlying37 rfl infoSesV ?_)
  refine ((unhide hcS) V E0).mono ?_
  rintro e w1 ⟨rfl, F1⟩
  have E1 := E0.trans F1
  replace HB := hide (F1.kept (unhide HB))
  go_wp2
  exact bodyPost_ret (v := .tuple #[.slice none 0 0, .int .i64 0, .int .i64 0]) (by simp [results, Tryz.results70, go_sem]) rfl ⟨rfl, E1⟩
set_option maxRecDepth 10000 in
set_option maxHeartbeats 4000000 in
theorem implView_st (s : SS) (u h p q l d : Value) (w : World) (hA : SesAt w s u h p q l d) (hz : s.Sz) (hT : Tabs3 w) (hok : SesP s) (hst : s.st = true) :
    Calls Tryz.prog 70 #[sesV s u h p q l d] w fun e w' => ∃ v, e = .returned (.tuple #[v, .int .i64 (s.ln : Int), .int .i64 0]) ∧ Own1 w' w.heap.size 9 v (s.ln + 1) (fun i => .string (if i < s.ln then s.lt i else noX)) ∧ Ext w w' := by
  obtain ⟨ua, uc, ha, hc, pa, pc, qa, qc, la, lc, da, dc, rfl, rfl, rfl, rfl, rfl, rfl⟩ := hA.forms
  have hcS := hide (fun W (hW : Ext w W) => implSessionOk_any s _ _ _ _ _ _ W (hA.ext hW) hz (hT.ext hW) true (by simp [hok]))
  obtain ⟨ic, hic, hc0, hc1, hc2⟩ := info_parts infoStrs
  have HSL := hide (fun W (hW : Ext w W) => Src.strs (hA.lo.ext hW))
  have hln := hz.ln
  have HLS : Hid (strL s.lt s.ln ++ [.string noX] = strL (fun i => if i < s.ln then s.lt i else noX) (s.ln + 1)) := hide (by
    rw [strL_succ, if_neg (Nat.lt_irrefl _)]
    congr 1
    exact strL_congr (fun j hj => by rw [if_pos hj]))
  have HST := hide hst
  clear hA hz hT hok hst
  obtain ⟨V, hV⟩ : ∃ V, V = w.alloc (.cells #[.string s.pr, .int .i64 s.cols, .int .i64 s.rows, .string s.la, .string s.lb, .string s.lc, .slice ua s.un uc, .slice ha s.kh.length hc, .bool s.kp, .bool s.nav, .slice pa s.pn pc, .int .i64 s.at9, .string s.dr, .bool s.st, .slice qa s.qn qc, .slice la s.ln lc, .slice da s.dn dc] 37) := ⟨_, rfl⟩
  have E0 : Ext w V := by rw [hV]; exact (Ext.refl w).alloc _
  have HB : Hid (V.heap[w.heap.size]? = some (.cells #[.string s.pr, .int .i64 s.cols, .int .i64 s.rows, .string s.la, .string s.lb, .string s.lc, .slice ua s.un uc, .slice ha s.kh.length hc, .bool s.kp, .bool s.nav, .slice pa s.pn pc, .int .i64 s.at9, .string s.dr, .bool s.st, .slice qa s.qn qc, .slice la s.ln lc, .slice da s.dn dc] 37 (0, 0))) := hide (by rw [hV]; exact new_block w _)
  have HV := hide hV
  clear hV
  unfold sesV
  go_enter Tryz.func70, Tryz.ntmps70
  go_upto_region 0 with fail
  go_cut [0, 1, 2, 3, 4] (fun _ p a b c wq => p = .pointer (some ⟨w.heap.size, 0, none⟩) ∧ a = .slice none 0 0 ∧ b = .int .i64 0 ∧ c = .int .i64 0 ∧ wq = V)
  case first =>
    go_wp2
    go_meet
    exact ⟨rfl, rfl, rfl, rfl, (unhide HV).symm⟩
  case rest =>
  obtain ⟨rfl, rfl, rfl, rfl, hwc⟩ := hcut
  obtain rfl : V = wc := hwc.symm
  clear HV
  go_wp2_with (refine wpList_load_blk rfl 37 _ rfl (w.heap.size) rfl _ _ _ _ (unhide HB) Tryz.underlying37 rfl infoSesV ?_)
  refine ((unhide hcS) V E0).mono ?_
  rintro e w1 ⟨rfl, F1⟩
  have E1 := E0.trans F1
  replace HB := hide (F1.kept (unhide HB))
  have hB1 := lt_of_block (unhide HB)
  have x15 : w1.cell? ⟨w.heap.size, 15, none⟩ = some (.slice la s.ln lc) := cells_of (unhide HB) 15 _ rfl
  rw [unhide HST] at HB
  go_wp2_with (at_builtin; refine StopP.intro ?_)
  show wpList _ _ _ _ _ _
  refine wpList_app rfl _ _ 28 rfl w1.heap.size 9 ic (.string { data := #[] }) 1 16 Tryz.underlying28 hic hc0 hc1 hc2 rfl (by decide) _ 0 [] rfl (owns_nil _ _ _ _) _ s.ln (strL s.lt s.ln) rfl ((unhide HSL) _ E1) (by unfold maxLen; omega) (by omega) (Nat.le_refl _) ?_
  intro v5 w5 o5 G5 _
  have E5 := E1.grown G5 (fun q hq => by cases hq)
  rw [Nat.zero_add, List.nil_append] at o5
  obtain ⟨a5, c5, e5⟩ := owns_slice o5
  subst e5
  have HO5 := hide o5
  have hs5 := G5.size
  have HB5 := hide (Fr.kept (S := fun _ => False) (Fr.grown (Fr.refl _ w1) G5 (fun q hq => by cases hq)) (unhide HB) (fun h => h))
  have x13 : w5.cell? ⟨w.heap.size, 13, none⟩ = some (.bool true) := cells_of (unhide HB5) 13 _ rfl
  have x15' : w5.cell? ⟨w.heap.size, 15, none⟩ = some (.slice la s.ln lc) := cells_of (unhide HB5) 15 _ rfl
  clear o5 G5 x15
  go_upto_region 5 with fail
  clear x13
  have x15n : ∀ o, (w5.alloc o).cell? ⟨w.heap.size, 15, none⟩ = some (.slice la s.ln lc) := fun o => ((Ext.refl w5).alloc o).cell x15'
  go_region_law (first
    | (refine step_app (by rfl) _ _ 28 (by rfl) w1.heap.size 9 ic (.string { data := #[] }) 1 16 Tryz.underlying28 hic hc0 hc1 hc2 rfl (by decide) _ s.ln (strL s.lt s.ln) (by rfl) (by first | exact (unhide HO5).alloc _ | exact ((unhide HO5).alloc _).drew | exact (unhide HO5).drew.alloc _ | exact ((unhide HO5).drew.alloc _).drew) _ 1 [.string noX] (by rfl) (by first | exact Src.made _ _ _ rfl (by simp [Value.oneCell']) | exact (Src.made _ _ _ rfl (by simp [Value.oneCell'])).ext ((Ext.refl _).drew)) (by unfold maxLen; omega) (by omega) (by simp; omega) ?_; intro v6 w6 o6 G6 _; have X6 := Fr.grown (S := fun q => (Value.slice a5 s.ln c5).ownBlock = some q) (Fr.of_ext (by first | exact ((Ext.refl w5).alloc _).drew | exact (Ext.refl w5).drew.alloc _ | exact (Ext.refl w5).alloc _)) G6 (fun q hq => hq); have HO6 := hide o6; have E6 := hide (X6.ext E5 (fun q hq => by have := ((unhide HO5).lt q hq).1; omega)); have x15'' : w6.cell? ⟨w.heap.size, 15, none⟩ = some (.slice la s.ln lc) := cells_of (X6.kept (unhide HB5) (fun hq => by have := ((unhide HO5).lt _ hq).1; omega)) 15 _ rfl; clear X6 o6 G6))
  all_goals
    rw [unhide HLS] at HO6
    go_wp2
    exact bodyPost_ret (v := .tuple #[_, .int .i64 (s.ln : Int), .int .i64 0]) (by simp [results, Tryz.results70, go_sem]) rfl ⟨_, rfl, (own_strL (unhide HO6)).mono (by omega), unhide E6⟩
end Go.Proofs.YtgdadidppelgdaaGreatDoor
