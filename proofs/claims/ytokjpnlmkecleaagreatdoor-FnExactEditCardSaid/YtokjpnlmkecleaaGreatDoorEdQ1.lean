import Derived.Test.YtokjpnlmkecleaaGreatDoorEdA
import Derived.Test.YtokjpnlmkecleaaGreatDoorGap
import Derived.Deep.RegionLaw
import Derived.Deep.DeepCutAuto
import Derived.Test.YtokjpnlmkecleaaGreatDoorEdG
import Derived.Test.YtokjpnlmkecleaaGreatDoorEdH
namespace Go.Proofs.YtokjpnlmkecleaaGreatDoor
open Go.RowKit Go.Maps


set_option maxRecDepth 10000 in
set_option maxHeartbeats 8000000 in
theorem press_hit (f : FuncId) (hcf : ∀ (args : Array Value) (w : World), (callFunc f args).run Tryz.prog w = .ok (.enter f args) w) (p : Value) (P : Nat) (kd : Int) (rv : Value) (W : World) (hfind : ((actL P).find? (fun x => x.1 == kd)).map (·.2) = some (.func (.func f) #[p] #[])) (Q : Int → World → Prop) (HM : ∀ w, Ext W w → Calls Tryz.prog f #[p, .agg #[.int .i64 kd, rv]] w fun e w' => ∃ d, e = .returned (.int .i64 d) ∧ Q d w') :
    Calls Tryz.prog 28 #[.pointer (some ⟨P, 0, none⟩), .agg #[.int .i64 kd, rv]] W fun e w' => ∃ d, e = .returned (.int .i64 d) ∧ Q d w' := by
  have infoK : (Tryz.prog.info? 28).map (·.size) = some 2 := by kernel_rfl
  have HL := hide (fun (w : World) (b : Nat) (hb : w.heap[b]? = some (mapO (actL P))) => run_lookup_some (P := Tryz.prog) (w := w) (b := b) Tryz.underlying102 Tryz.underlying3 hb hfind)
  obtain ⟨V, hV⟩ : ∃ V, V = W.alloc (.cells #[.int .i64 kd, rv] 28) := ⟨_, rfl⟩
  have E0 : Ext W V := by rw [hV]; exact (Ext.refl W).alloc _
  have k0 : V.heap[W.heap.size]? = some (.cells #[.int .i64 kd, rv] 28 (0, 0)) := by rw [hV]; exact new_block W _
  have HA := hide (fun w => acts_any P w)
  have HMh := hide HM
  clear hfind HM
  go_enter Tryz.func28, Tryz.ntmps28
  go_wp2_with fail
  rw [← hV]
  have c0 : V.cell? ⟨W.heap.size, 0, none⟩ = some (.int .i64 kd) := cells_of k0 0 _ rfl
  have HK0 := hide k0
  have HE0 := hide E0
  clear hV k0 E0
  go_region_law (first
    | (go_simp; go_at_call 62
       refine ((unhide HA) _).mono ?_
       rintro e w1 ⟨rfl, hm, E1⟩
       have hlk := (unhide HL) w1 V.heap.size hm
       have E2 : Ext V w1 := (by first | exact E1 | exact (Ext.refl _).drew.trans E1)
       have c1 := E2.cell c0
       clear E1 hm))
  all_goals
    have HK1 := hide (E2.kept (unhide HK0))
    have HM1 := hide ((unhide HMh) w1 ((unhide HE0).trans E2))
    clear hlk c1 c0 HL HA HMh
    go_wp2_with (first
      | (refine wpList_load_blk rfl 28 _ rfl (W.heap.size) rfl _ _ _ _ (unhide HK1) Tryz.underlying28 rfl infoK ?_))
    refine (unhide HM1).mono ?_
    rintro e w2 ⟨d, rfl, hQ⟩
    have HQ := hide hQ
    clear hQ HM1 HK1 HK0
    go_wp2
    exact bodyPost_ret (v := .int .i64 d) (by simp [results, Tryz.results28, go_sem]) rfl ⟨d, rfl, unhide HQ⟩
set_option maxRecDepth 10000 in
set_option maxHeartbeats 8000000 in
theorem press_miss (P : Nat) (kd : Int) (rv : Value) (W : World) (hmiss : ∀ x ∈ actL P, x.1 ≠ kd) :
    Calls Tryz.prog 28 #[.pointer (some ⟨P, 0, none⟩), .agg #[.int .i64 kd, rv]] W fun e w' => e = .returned (.int .i64 0) ∧ Ext W w' := by
  have HL := hide (fun (w : World) (b : Nat) (hb : w.heap[b]? = some (mapO (actL P))) => run_lookup_none (P := Tryz.prog) (w := w) (b := b) (z := .nilFunc) Tryz.underlying102 Tryz.underlying3 hb hmiss (by kernel_rfl))
  obtain ⟨V, hV⟩ : ∃ V, V = W.alloc (.cells #[.int .i64 kd, rv] 28) := ⟨_, rfl⟩
  have E0 : Ext W V := by rw [hV]; exact (Ext.refl W).alloc _
  have k0 : V.heap[W.heap.size]? = some (.cells #[.int .i64 kd, rv] 28 (0, 0)) := by rw [hV]; exact new_block W _
  have HA := hide (fun w => acts_any P w)
  clear hmiss
  go_enter Tryz.func28, Tryz.ntmps28
  go_wp2_with fail
  rw [← hV]
  have c0 : V.cell? ⟨W.heap.size, 0, none⟩ = some (.int .i64 kd) := cells_of k0 0 _ rfl
  have HK0 := hide k0
  have HE0 := hide E0
  clear hV k0 E0
  go_region_law (first
    | (go_simp; go_at_call 62
       refine ((unhide HA) _).mono ?_
       rintro e w1 ⟨rfl, hm, E1⟩
       have hlk := (unhide HL) w1 V.heap.size hm
       have E2 : Ext V w1 := (by first | exact E1 | exact (Ext.refl _).drew.trans E1)
       have c1 := E2.cell c0
       clear E1 hm))
  all_goals
    have HE := hide ((unhide HE0).trans E2)
    clear hlk c1 c0 HL HA HK0
    go_wp2
    exact bodyPost_ret (v := .int .i64 0) (by simp [results, Tryz.results28, go_sem]) rfl ⟨rfl, unhide HE⟩
end Go.Proofs.YtokjpnlmkecleaaGreatDoor

namespace Go.Proofs.YtokjpnlmkecleaaGreatDoor
open Go.RowKit

theorem snoc_or {α : Type} (l : List α) : l = [] ∨ ∃ x y, l = x ++ [y] := by
  rcases List.eq_nil_or_concat l with e | ⟨x, y, e⟩
  · exact .inl e
  · exact .inr ⟨x, y, by rw [e, List.concat_eq_append]⟩
section
variable {P base : Nat} {W : World} {a b c : ByteArray} {u : Value} {qs : List Nat} {un : List (ByteArray × ByteArray)} {cl rl rr : List Value}
theorem press_6 (h : LnOk a b c un) (e0 : Ed0 P base W c u qs un (cutC (baL a)) (cutC (baL b)) cl rl rr) (rv : Value) (rs : List Int) :
    Calls Tryz.prog 28 #[.pointer (some ⟨P, 0, none⟩), .agg #[.int .i64 6, rv]] W fun e w' => ∃ d, e = .returned (.int .i64 d) ∧ Done (edF a b c un 6 rs) P base W d w' := by
  have ef : edF a b c un 6 rs = edLeft a b c un := by simp [edF]
  have key : ∀ o : LD, edF a b c un 6 rs = o → ∀ (w w' : World) (e : Ending), Ext W w → (∃ d, e = .returned (.int .i64 d) ∧ Done o P base w d w') → ∃ d, e = .returned (.int .i64 d) ∧ Done (edF a b c un 6 rs) P base W d w' := by
    rintro o rfl w w' e E ⟨d, h1, h2⟩
    exact ⟨d, h1, h2.pre E⟩
  refine press_hit 90 (fun _ _ => by kernel_rfl) (.pointer (some ⟨P, 0, none⟩)) P 6 rv W rfl (Done (edF a b c un 6 rs) P base W) (fun w E => ?_)
  rcases snoc_or (cutC (baL a)) with e | ⟨A1, x, e⟩
  · refine (edLeft_any (A1 := []) (A2 := []) 6 rv (.inl ⟨rfl, rfl⟩) (by have := (e0.ext E).two; rw [e] at this; exact this)).mono ?_
    intro e1 w' r
    refine key _ (ef.trans ?_) w w' e1 E (done_mvL h (A1 := []) (A2 := []) e 2 r)
    rw [edLeft, e]
    rfl
  · refine (edLeft_any (A1 := A1) (A2 := [x]) 6 rv (.inr rfl) (by have := (e0.ext E).two; rw [e] at this; exact this)).mono ?_
    intro e1 w' r
    refine key _ (ef.trans ?_) w w' e1 E (done_mvL h e 2 r)
    rw [edLeft, e, if_neg (by simp), if_neg (by simp)]
    simp
theorem press_7 (h : LnOk a b c un) (e0 : Ed0 P base W c u qs un (cutC (baL a)) (cutC (baL b)) cl rl rr) (rv : Value) (rs : List Int) :
    Calls Tryz.prog 28 #[.pointer (some ⟨P, 0, none⟩), .agg #[.int .i64 7, rv]] W fun e w' => ∃ d, e = .returned (.int .i64 d) ∧ Done (edF a b c un 7 rs) P base W d w' := by
  have ef : edF a b c un 7 rs = edRight a b c un := by simp [edF]
  have key : ∀ o : LD, edF a b c un 7 rs = o → ∀ (w w' : World) (e : Ending), Ext W w → (∃ d, e = .returned (.int .i64 d) ∧ Done o P base w d w') → ∃ d, e = .returned (.int .i64 d) ∧ Done (edF a b c un 7 rs) P base W d w' := by
    rintro o rfl w w' e E ⟨d, h1, h2⟩
    exact ⟨d, h1, h2.pre E⟩
  refine press_hit 91 (fun _ _ => by kernel_rfl) (.pointer (some ⟨P, 0, none⟩)) P 7 rv W rfl (Done (edF a b c un 7 rs) P base W) (fun w E => ?_)
  cases e : cutC (baL b) with
  | nil =>
    refine (edRight_any (A1 := cutC (baL a)) (A2 := []) (B := []) 7 rv (.inl ⟨rfl, rfl⟩) (by have := (e0.ext E).two; rw [e] at this; exact this)).mono ?_
    intro e1 w' r
    refine key _ (ef.trans ?_) w w' e1 E (done_mvR h (B1 := []) (B2 := []) e 2 r)
    rw [edRight, e]
    rfl
  | cons x B2 =>
    refine (edRight_any (A1 := cutC (baL a)) (A2 := [x]) (B := B2) 7 rv (.inr rfl) (by have := (e0.ext E).two; rw [e] at this; exact this)).mono ?_
    intro e1 w' r
    refine key _ (ef.trans ?_) w w' e1 E (done_mvR h (B1 := [x]) (B2 := B2) e 2 r)
    rw [edRight, e, if_neg (by simp), if_neg (by simp)]
    simp
theorem press_8 (h : LnOk a b c un) (e0 : Ed0 P base W c u qs un (cutC (baL a)) (cutC (baL b)) cl rl rr) (rv : Value) (rs : List Int) :
    Calls Tryz.prog 28 #[.pointer (some ⟨P, 0, none⟩), .agg #[.int .i64 8, rv]] W fun e w' => ∃ d, e = .returned (.int .i64 d) ∧ Done (edF a b c un 8 rs) P base W d w' := by
  have ef : edF a b c un 8 rs = edHome a b c un := by simp [edF]
  have key : ∀ o : LD, edF a b c un 8 rs = o → ∀ (w w' : World) (e : Ending), Ext W w → (∃ d, e = .returned (.int .i64 d) ∧ Done o P base w d w') → ∃ d, e = .returned (.int .i64 d) ∧ Done (edF a b c un 8 rs) P base W d w' := by
    rintro o rfl w w' e E ⟨d, h1, h2⟩
    exact ⟨d, h1, h2.pre E⟩
  refine press_hit 92 (fun _ _ => by kernel_rfl) (.pointer (some ⟨P, 0, none⟩)) P 8 rv W rfl (Done (edF a b c un 8 rs) P base W) (fun w E => ?_)
  refine (edHome_any 8 rv (e0.ext E).two).mono ?_
  intro e1 w' r
  refine key _ (ef.trans ?_) w w' e1 E (done_mvL h (A1 := []) (A2 := cutC (baL a)) rfl 0 r)
  rw [edHome]
  rfl
theorem press_9 (h : LnOk a b c un) (e0 : Ed0 P base W c u qs un (cutC (baL a)) (cutC (baL b)) cl rl rr) (rv : Value) (rs : List Int) :
    Calls Tryz.prog 28 #[.pointer (some ⟨P, 0, none⟩), .agg #[.int .i64 9, rv]] W fun e w' => ∃ d, e = .returned (.int .i64 d) ∧ Done (edF a b c un 9 rs) P base W d w' := by
  have ef : edF a b c un 9 rs = edEnd a b c un := by simp [edF]
  have key : ∀ o : LD, edF a b c un 9 rs = o → ∀ (w w' : World) (e : Ending), Ext W w → (∃ d, e = .returned (.int .i64 d) ∧ Done o P base w d w') → ∃ d, e = .returned (.int .i64 d) ∧ Done (edF a b c un 9 rs) P base W d w' := by
    rintro o rfl w w' e E ⟨d, h1, h2⟩
    exact ⟨d, h1, h2.pre E⟩
  refine press_hit 93 (fun _ _ => by kernel_rfl) (.pointer (some ⟨P, 0, none⟩)) P 9 rv W rfl (Done (edF a b c un 9 rs) P base W) (fun w E => ?_)
  refine (edEnd_any 9 rv (e0.ext E).two).mono ?_
  intro e1 w' r
  refine key _ (ef.trans ?_) w w' e1 E (done_mvR h (B1 := cutC (baL b)) (B2 := []) (by simp) 0 r)
  rw [edEnd]
theorem press_18 (h : LnOk a b c un) (e0 : Ed0 P base W c u qs un (cutC (baL a)) (cutC (baL b)) cl rl rr) (rv : Value) (rs : List Int) :
    Calls Tryz.prog 28 #[.pointer (some ⟨P, 0, none⟩), .agg #[.int .i64 18, rv]] W fun e w' => ∃ d, e = .returned (.int .i64 d) ∧ Done (edF a b c un 18 rs) P base W d w' := by
  have ef : edF a b c un 18 rs = edWl a b c un := by simp [edF]
  have key : ∀ o : LD, edF a b c un 18 rs = o → ∀ (w w' : World) (e : Ending), Ext W w → (∃ d, e = .returned (.int .i64 d) ∧ Done o P base w d w') → ∃ d, e = .returned (.int .i64 d) ∧ Done (edF a b c un 18 rs) P base W d w' := by
    rintro o rfl w w' e E ⟨d, h1, h2⟩
    exact ⟨d, h1, h2.pre E⟩
  have hw := wd_ex (fun j => spB (cR (cutC (baL a)) ((cutC (baL a)).length - 1 - j))) (cutC (baL a)).length
  have hle := hw.le
  obtain ⟨r, hr⟩ : ∃ r, wdL (cutC (baL a)) = r := ⟨_, rfl⟩
  rw [show wdN (fun j => spB (cR (cutC (baL a)) ((cutC (baL a)).length - 1 - j))) (cutC (baL a)).length = r from hr] at hw hle
  have hs : cutC (baL a) = (cutC (baL a)).take ((cutC (baL a)).length - r) ++ (cutC (baL a)).drop ((cutC (baL a)).length - r) := (List.take_append_drop _ _).symm
  have hl : ((cutC (baL a)).drop ((cutC (baL a)).length - r)).length = r := by rw [List.length_drop]; omega
  have hl1 : ((cutC (baL a)).take ((cutC (baL a)).length - r)).length = (cutC (baL a)).length - r := by rw [List.length_take]; omega
  refine press_hit 94 (fun _ _ => by kernel_rfl) (.pointer (some ⟨P, 0, none⟩)) P 18 rv W rfl (Done (edF a b c un 18 rs) P base W) (fun w E => ?_)
  refine (edWordLeft_any (A1 := (cutC (baL a)).take ((cutC (baL a)).length - r)) (A2 := (cutC (baL a)).drop ((cutC (baL a)).length - r)) 18 rv (by rw [hl, ← hs]; exact hw) (by have := (e0.ext E).two; rw [← hs]; exact this)).mono ?_
  intro e1 w' q
  refine key _ (ef.trans ?_) w w' e1 E (done_mvL h hs 2 q)
  rw [hl, hl1, edWl, hr]
theorem press_19 (h : LnOk a b c un) (e0 : Ed0 P base W c u qs un (cutC (baL a)) (cutC (baL b)) cl rl rr) (rv : Value) (rs : List Int) :
    Calls Tryz.prog 28 #[.pointer (some ⟨P, 0, none⟩), .agg #[.int .i64 19, rv]] W fun e w' => ∃ d, e = .returned (.int .i64 d) ∧ Done (edF a b c un 19 rs) P base W d w' := by
  have ef : edF a b c un 19 rs = edWr a b c un := by simp [edF]
  have key : ∀ o : LD, edF a b c un 19 rs = o → ∀ (w w' : World) (e : Ending), Ext W w → (∃ d, e = .returned (.int .i64 d) ∧ Done o P base w d w') → ∃ d, e = .returned (.int .i64 d) ∧ Done (edF a b c un 19 rs) P base W d w' := by
    rintro o rfl w w' e E ⟨d, h1, h2⟩
    exact ⟨d, h1, h2.pre E⟩
  have hw := wd_ex (fun j => spB (cR (cutC (baL b)) j)) (cutC (baL b)).length
  have hle := hw.le
  obtain ⟨r, hr⟩ : ∃ r, wdR (cutC (baL b)) = r := ⟨_, rfl⟩
  rw [show wdN (fun j => spB (cR (cutC (baL b)) j)) (cutC (baL b)).length = r from hr] at hw hle
  have hs : cutC (baL b) = (cutC (baL b)).take r ++ (cutC (baL b)).drop r := (List.take_append_drop _ _).symm
  have hl : ((cutC (baL b)).take r).length = r := by rw [List.length_take]; omega
  refine press_hit 95 (fun _ _ => by kernel_rfl) (.pointer (some ⟨P, 0, none⟩)) P 19 rv W rfl (Done (edF a b c un 19 rs) P base W) (fun w E => ?_)
  refine (edWordRight_any (B1 := (cutC (baL b)).take r) (B2 := (cutC (baL b)).drop r) 19 rv (by rw [hl, ← hs]; exact hw) (by have := (e0.ext E).two; rw [← hs]; exact this)).mono ?_
  intro e1 w' q
  refine key _ (ef.trans ?_) w w' e1 E (done_mvR h hs 2 q)
  rw [hl, edWr, hr]
end
end Go.Proofs.YtokjpnlmkecleaaGreatDoor
