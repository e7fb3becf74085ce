import Derived.Test.YtokjpnlmkecleaaGreatDoorEdG2
import Derived.Test.YtokjpnlmkecleaaGreatDoorEdKb
import Derived.Test.YtokjpnlmkecleaaGreatDoorEdV
import Derived.Test.YtokjpnlmkecleaaGreatDoorLnCp
import Derived.Test.YtokjpnlmkecleaaGreatDoorLnSet
import Derived.Test.YtokjpnlmkecleaaGreatDoorClsCut
namespace Go.Proofs.YtokjpnlmkecleaaGreatDoor
open Go.RowKit

theorem Wd.same {p : Nat → Bool} {n s : Nat} (h : Wd p n s) : ∀ r, Wd p n r → r = s := fun _ hr => hr.only h
section
variable {P base : Nat} {W0 W : World} {k : ByteArray} {u : Value} {un : List (ByteArray × ByteArray)} {cl rl rr : List Value}
set_option maxRecDepth 10000 in
set_option maxHeartbeats 4000000 in
theorem edFront_any {A B : List (List Int × Int)} (h : Ed2 P base W0 W k u un A B cl rl rr) :
    Calls Tryz.prog 124 #[.pointer (some ⟨P, 0, none⟩)] W fun e w' => ∃ r : Nat, e = .returned (.int .i64 (r : Int)) ∧ Wd (fun j => spB (cR A (A.length - 1 - j))) A.length r ∧ Ext W w' := by
  have H1 := hide (edLeftOf h)
  have hf := h.gap.fit
  have H2 := hide (fun w X v (hB : w.cell? ⟨X, 0, none⟩ = some v) (hv : ClsAt w v A) => wordFront_len X v A (by omega) w hB hv)
  obtain ⟨p, hp⟩ : ∃ p : Nat → Prop, p = (fun r => Wd (fun j => spB (cR A (A.length - 1 - j))) A.length r) := ⟨_, rfl⟩
  have hp2 : ∀ r, Wd (fun j => spB (cR A (A.length - 1 - j))) A.length r ↔ p r := fun r => by rw [hp]
  simp only [hp2] at H2 ⊢
  obtain ⟨n, hn⟩ : ∃ n, A.length = n := ⟨_, rfl⟩
  rw [hn] at H1 H2
  have hmf : ∀ (fn : Fn) (first cap : Array Value) (w : World), (Instr.makeFunc fn first cap).run Tryz.prog w = .ok (.func fn first cap) w := fun _ _ _ _ => rfl
  clear h hn hp hf hp2
  go_enter Tryz.func124, Tryz.ntmps124
  go_wp2_with fail
  refine (unhide H1).mono ?_
  rintro e w1 ⟨rfl, hc, E1⟩
  have HC := hide hc
  have HE := hide E1
  clear H1 hc E1
  go_wp2_with fail
  refine ((unhide H2) _ w1.heap.size _ (cells_of (new_block w1 _) 0 _ rfl) ((unhide HC).ext ((Ext.refl w1).alloc _))).mono ?_
  rintro e w2 ⟨r, rfl, hr, E2⟩
  have HE2 := hide ((unhide HE).trans (((Ext.refl w1).alloc _).trans E2))
  have HR := hide hr
  clear H2 HC HE E2 hr
  go_wp2
  exact bodyPost_ret (v := .int .i64 (r : Int)) (by simp [results, Tryz.results124, go_sem]) rfl ⟨r, rfl, unhide HR, unhide HE2⟩
set_option maxRecDepth 10000 in
set_option maxHeartbeats 4000000 in
theorem edWordLeft_any {A1 A2 B : List (List Int × Int)} (kd : Int) (rv : Value) (hW : Wd (fun j => spB (cR (A1 ++ A2) ((A1 ++ A2).length - 1 - j))) (A1 ++ A2).length A2.length) (h : Ed2 P base W0 W k u un (A1 ++ A2) B cl rl rr) :
    Calls Tryz.prog 94 #[.pointer (some ⟨P, 0, none⟩), .agg #[.int .i64 kd, rv]] W fun e w' => EdR P base W0 w' k un A1 (A2 ++ B) (if A2.length = 0 then 2 else 1) e := by
  replace h := h.ext ((Ext.refl W).alloc (.cells #[.int .i64 kd, rv] 28))
  have H1 := hide (edFront_any h)
  have H2 := hide (fun w (E : Ext _ w) => edGoLeft_any (A1 := A1) (A2 := A2) 2 (h.ext E))
  have HW := hide (Wd.same hW)
  obtain ⟨d, hd⟩ : ∃ d : Int, d = if A2.length = 0 then 2 else 1 := ⟨_, rfl⟩
  rw [← hd] at H2 ⊢
  clear h hd hW
  go_enter Tryz.func94, Tryz.ntmps94
  go_wp2_with fail
  refine (unhide H1).mono ?_
  rintro e w1 ⟨r, rfl, hr, E1⟩
  have H2' := hide ((unhide H2) w1 E1)
  rw [← (unhide HW) r hr] at H2'
  clear H1 H2 E1 hr HW
  go_wp2_with fail
  refine (unhide H2').mono ?_
  rintro e w2 ⟨rfl, h3⟩
  have H3 := hide h3
  clear h3 H2'
  go_wp2
  exact bodyPost_ret (v := .int .i64 d) (by simp [results, Tryz.results94, go_sem]) rfl ⟨rfl, unhide H3⟩
set_option maxRecDepth 10000 in
set_option maxHeartbeats 4000000 in
theorem edWordRight_any {A B1 B2 : List (List Int × Int)} (kd : Int) (rv : Value) (hW : Wd (fun j => spB (cR (B1 ++ B2) j)) (B1 ++ B2).length B1.length) (h : Ed2 P base W0 W k u un A (B1 ++ B2) cl rl rr) :
    Calls Tryz.prog 95 #[.pointer (some ⟨P, 0, none⟩), .agg #[.int .i64 kd, rv]] W fun e w' => EdR P base W0 w' k un (A ++ B1) B2 (if B1.length = 0 then 2 else 1) e := by
  replace h := h.ext ((Ext.refl W).alloc (.cells #[.int .i64 kd, rv] 28))
  have hf := h.gap.fit
  have H1 := hide (edRightOf h)
  have H4 := hide (fun w X v (hB : w.cell? ⟨X, 0, none⟩ = some v) (hv : ClsAt w v (B1 ++ B2)) => wordRight_len X v (B1 ++ B2) (by omega) w hB hv)
  have H2 := hide (fun w (E : Ext _ w) => edGoRight_any (B1 := B1) (B2 := B2) 2 (h.ext E))
  have HW := hide (Wd.same hW)
  obtain ⟨d, hd⟩ : ∃ d : Int, d = if B1.length = 0 then 2 else 1 := ⟨_, rfl⟩
  rw [← hd] at H2 ⊢
  have hmf : ∀ (fn : Fn) (first cap : Array Value) (w : World), (Instr.makeFunc fn first cap).run Tryz.prog w = .ok (.func fn first cap) w := fun _ _ _ _ => rfl
  clear h hd hW hf
  obtain ⟨n, hn⟩ : ∃ n, (B1 ++ B2).length = n := ⟨_, rfl⟩
  have HN := hide hn
  rw [hn] at H1
  clear hn
  go_enter Tryz.func95, Tryz.ntmps95
  go_wp2_with fail
  refine (unhide H1).mono ?_
  rintro e w1 ⟨ao, cap, rfl, hc, E1⟩
  have H4' := hide ((unhide H4) (w1.alloc (.cells #[.slice ao n cap] 64)) w1.heap.size _ (cells_of (new_block w1 _) 0 _ rfl) (hc.ext ((Ext.refl w1).alloc _)))
  have HE := hide (E1.trans ((Ext.refl w1).alloc (.cells #[.slice ao n cap] 64)))
  rw [unhide HN] at H4'
  clear H1 H4 E1 hc
  go_wp2_with fail
  refine (unhide H4').mono ?_
  rintro e w2 ⟨r, rfl, hr, E2⟩
  have H2' := hide ((unhide H2) w2 ((unhide HE).trans E2))
  rw [unhide HN] at HW
  rw [← (unhide HW) r hr] at H2'
  clear H4' H2 E2 hr HW HE HN
  go_wp2_with fail
  refine (unhide H2').mono ?_
  rintro e w3 ⟨rfl, h3⟩
  have H3 := hide h3
  clear h3 H2'
  go_wp2
  exact bodyPost_ret (v := .int .i64 d) (by simp [results, Tryz.results95, go_sem]) rfl ⟨rfl, unhide H3⟩
end
end Go.Proofs.YtokjpnlmkecleaaGreatDoor

namespace Go.Proofs.YtokjpnlmkecleaaGreatDoor
open Go.RowKit

theorem snoc_or {α : Type} (l : List α) : l = [] ∨ ∃ x y, l = x ++ [y] := by
  rcases List.eq_nil_or_concat l with e | ⟨x, y, e⟩
  · exact .inl e
  · exact .inr ⟨x, y, by rw [e, List.concat_eq_append]⟩
section
variable {P base : Nat} {W : World} {a b c : ByteArray} {u : Value} {qs : List Nat} {un : List (ByteArray × ByteArray)} {cl rl rr : List Value}
theorem press_6 (h : LnOk a b c un) (e0 : Ed0 P base W c u qs un (cutC (baL a)) (cutC (baL b)) cl rl rr) (rv : Value) (rs : List Int) :
    Calls Tryz.prog 28 #[.pointer (some ⟨P, 0, none⟩), .agg #[.int .i64 6, rv]] W fun e w' => ∃ d, e = .returned (.int .i64 d) ∧ Done (edF a b c un 6 rs) P base W d w' := by
  have ef : edF a b c un 6 rs = edLeft a b c un := by simp [edF]
  have key : ∀ o : LD, edF a b c un 6 rs = o → ∀ (w w' : World) (e : Ending), Ext W w → (∃ d, e = .returned (.int .i64 d) ∧ Done o P base w d w') → ∃ d, e = .returned (.int .i64 d) ∧ Done (edF a b c un 6 rs) P base W d w' := by
    rintro o rfl w w' e E ⟨d, h1, h2⟩
    exact ⟨d, h1, h2.pre E⟩
  refine press_hit 90 (fun _ _ => by kernel_rfl) (.pointer (some ⟨P, 0, none⟩)) P 6 rv W rfl (Done (edF a b c un 6 rs) P base W) (fun w E => ?_)
  rcases snoc_or (cutC (baL a)) with e | ⟨A1, x, e⟩
  · refine (edLeft_any (A1 := []) (A2 := []) 6 rv (.inl ⟨rfl, rfl⟩) (by have := (e0.ext E).two; rw [e] at this; exact this)).mono ?_
    intro e1 w' r
    refine key _ (ef.trans ?_) w w' e1 E (done_mvL h (A1 := []) (A2 := []) e 2 r)
    rw [edLeft, e]
    rfl
  · refine (edLeft_any (A1 := A1) (A2 := [x]) 6 rv (.inr rfl) (by have := (e0.ext E).two; rw [e] at this; exact this)).mono ?_
    intro e1 w' r
    refine key _ (ef.trans ?_) w w' e1 E (done_mvL h e 2 r)
    rw [edLeft, e, if_neg (by simp), if_neg (by simp)]
    simp
theorem press_7 (h : LnOk a b c un) (e0 : Ed0 P base W c u qs un (cutC (baL a)) (cutC (baL b)) cl rl rr) (rv : Value) (rs : List Int) :
    Calls Tryz.prog 28 #[.pointer (some ⟨P, 0, none⟩), .agg #[.int .i64 7, rv]] W fun e w' => ∃ d, e = .returned (.int .i64 d) ∧ Done (edF a b c un 7 rs) P base W d w' := by
  have ef : edF a b c un 7 rs = edRight a b c un := by simp [edF]
  have key : ∀ o : LD, edF a b c un 7 rs = o → ∀ (w w' : World) (e : Ending), Ext W w → (∃ d, e = .returned (.int .i64 d) ∧ Done o P base w d w') → ∃ d, e = .returned (.int .i64 d) ∧ Done (edF a b c un 7 rs) P base W d w' := by
    rintro o rfl w w' e E ⟨d, h1, h2⟩
    exact ⟨d, h1, h2.pre E⟩
  refine press_hit 91 (fun _ _ => by kernel_rfl) (.pointer (some ⟨P, 0, none⟩)) P 7 rv W rfl (Done (edF a b c un 7 rs) P base W) (fun w E => ?_)
  cases e : cutC (baL b) with
  | nil =>
    refine (edRight_any (A1 := cutC (baL a)) (A2 := []) (B := []) 7 rv (.inl ⟨rfl, rfl⟩) (by have := (e0.ext E).two; rw [e] at this; exact this)).mono ?_
    intro e1 w' r
    refine key _ (ef.trans ?_) w w' e1 E (done_mvR h (B1 := []) (B2 := []) e 2 r)
    rw [edRight, e]
    rfl
  | cons x B2 =>
    refine (edRight_any (A1 := cutC (baL a)) (A2 := [x]) (B := B2) 7 rv (.inr rfl) (by have := (e0.ext E).two; rw [e] at this; exact this)).mono ?_
    intro e1 w' r
    refine key _ (ef.trans ?_) w w' e1 E (done_mvR h (B1 := [x]) (B2 := B2) e 2 r)
    rw [edRight, e, if_neg (by simp), if_neg (by simp)]
    simp
theorem press_8 (h : LnOk a b c un) (e0 : Ed0 P base W c u qs un (cutC (baL a)) (cutC (baL b)) cl rl rr) (rv : Value) (rs : List Int) :
    Calls Tryz.prog 28 #[.pointer (some ⟨P, 0, none⟩), .agg #[.int .i64 8, rv]] W fun e w' => ∃ d, e = .returned (.int .i64 d) ∧ Done (edF a b c un 8 rs) P base W d w' := by
  have ef : edF a b c un 8 rs = edHome a b c un := by simp [edF]
  have key : ∀ o : LD, edF a b c un 8 rs = o → ∀ (w w' : World) (e : Ending), Ext W w → (∃ d, e = .returned (.int .i64 d) ∧ Done o P base w d w') → ∃ d, e = .returned (.int .i64 d) ∧ Done (edF a b c un 8 rs) P base W d w' := by
    rintro o rfl w w' e E ⟨d, h1, h2⟩
    exact ⟨d, h1, h2.pre E⟩
  refine press_hit 92 (fun _ _ => by kernel_rfl) (.pointer (some ⟨P, 0, none⟩)) P 8 rv W rfl (Done (edF a b c un 8 rs) P base W) (fun w E => ?_)
  refine (edHome_any 8 rv (e0.ext E).two).mono ?_
  intro e1 w' r
  refine key _ (ef.trans ?_) w w' e1 E (done_mvL h (A1 := []) (A2 := cutC (baL a)) rfl 0 r)
  rw [edHome]
  rfl
theorem press_9 (h : LnOk a b c un) (e0 : Ed0 P base W c u qs un (cutC (baL a)) (cutC (baL b)) cl rl rr) (rv : Value) (rs : List Int) :
    Calls Tryz.prog 28 #[.pointer (some ⟨P, 0, none⟩), .agg #[.int .i64 9, rv]] W fun e w' => ∃ d, e = .returned (.int .i64 d) ∧ Done (edF a b c un 9 rs) P base W d w' := by
  have ef : edF a b c un 9 rs = edEnd a b c un := by simp [edF]
  have key : ∀ o : LD, edF a b c un 9 rs = o → ∀ (w w' : World) (e : Ending), Ext W w → (∃ d, e = .returned (.int .i64 d) ∧ Done o P base w d w') → ∃ d, e = .returned (.int .i64 d) ∧ Done (edF a b c un 9 rs) P base W d w' := by
    rintro o rfl w w' e E ⟨d, h1, h2⟩
    exact ⟨d, h1, h2.pre E⟩
  refine press_hit 93 (fun _ _ => by kernel_rfl) (.pointer (some ⟨P, 0, none⟩)) P 9 rv W rfl (Done (edF a b c un 9 rs) P base W) (fun w E => ?_)
  refine (edEnd_any 9 rv (e0.ext E).two).mono ?_
  intro e1 w' r
  refine key _ (ef.trans ?_) w w' e1 E (done_mvR h (B1 := cutC (baL b)) (B2 := []) (by simp) 0 r)
  rw [edEnd]
theorem press_18 (h : LnOk a b c un) (e0 : Ed0 P base W c u qs un (cutC (baL a)) (cutC (baL b)) cl rl rr) (rv : Value) (rs : List Int) :
    Calls Tryz.prog 28 #[.pointer (some ⟨P, 0, none⟩), .agg #[.int .i64 18, rv]] W fun e w' => ∃ d, e = .returned (.int .i64 d) ∧ Done (edF a b c un 18 rs) P base W d w' := by
  have ef : edF a b c un 18 rs = edWl a b c un := by simp [edF]
  have key : ∀ o : LD, edF a b c un 18 rs = o → ∀ (w w' : World) (e : Ending), Ext W w → (∃ d, e = .returned (.int .i64 d) ∧ Done o P base w d w') → ∃ d, e = .returned (.int .i64 d) ∧ Done (edF a b c un 18 rs) P base W d w' := by
    rintro o rfl w w' e E ⟨d, h1, h2⟩
    exact ⟨d, h1, h2.pre E⟩
  have hw := wd_ex (fun j => spB (cR (cutC (baL a)) ((cutC (baL a)).length - 1 - j))) (cutC (baL a)).length
  have hle := hw.le
  obtain ⟨r, hr⟩ : ∃ r, wdL (cutC (baL a)) = r := ⟨_, rfl⟩
  rw [show wdN (fun j => spB (cR (cutC (baL a)) ((cutC (baL a)).length - 1 - j))) (cutC (baL a)).length = r from hr] at hw hle
  have hs : cutC (baL a) = (cutC (baL a)).take ((cutC (baL a)).length - r) ++ (cutC (baL a)).drop ((cutC (baL a)).length - r) := (List.take_append_drop _ _).symm
  have hl : ((cutC (baL a)).drop ((cutC (baL a)).length - r)).length = r := by rw [List.length_drop]; omega
  have hl1 : ((cutC (baL a)).take ((cutC (baL a)).length - r)).length = (cutC (baL a)).length - r := by rw [List.length_take]; omega
  refine press_hit 94 (fun _ _ => by kernel_rfl) (.pointer (some ⟨P, 0, none⟩)) P 18 rv W rfl (Done (edF a b c un 18 rs) P base W) (fun w E => ?_)
  refine (edWordLeft_any (A1 := (cutC (baL a)).take ((cutC (baL a)).length - r)) (A2 := (cutC (baL a)).drop ((cutC (baL a)).length - r)) 18 rv (by rw [hl, ← hs]; exact hw) (by have := (e0.ext E).two; rw [← hs]; exact this)).mono ?_
  intro e1 w' q
  refine key _ (ef.trans ?_) w w' e1 E (done_mvL h hs 2 q)
  rw [hl, hl1, edWl, hr]
theorem press_19 (h : LnOk a b c un) (e0 : Ed0 P base W c u qs un (cutC (baL a)) (cutC (baL b)) cl rl rr) (rv : Value) (rs : List Int) :
    Calls Tryz.prog 28 #[.pointer (some ⟨P, 0, none⟩), .agg #[.int .i64 19, rv]] W fun e w' => ∃ d, e = .returned (.int .i64 d) ∧ Done (edF a b c un 19 rs) P base W d w' := by
  have ef : edF a b c un 19 rs = edWr a b c un := by simp [edF]
  have key : ∀ o : LD, edF a b c un 19 rs = o → ∀ (w w' : World) (e : Ending), Ext W w → (∃ d, e = .returned (.int .i64 d) ∧ Done o P base w d w') → ∃ d, e = .returned (.int .i64 d) ∧ Done (edF a b c un 19 rs) P base W d w' := by
    rintro o rfl w w' e E ⟨d, h1, h2⟩
    exact ⟨d, h1, h2.pre E⟩
  have hw := wd_ex (fun j => spB (cR (cutC (baL b)) j)) (cutC (baL b)).length
  have hle := hw.le
  obtain ⟨r, hr⟩ : ∃ r, wdR (cutC (baL b)) = r := ⟨_, rfl⟩
  rw [show wdN (fun j => spB (cR (cutC (baL b)) j)) (cutC (baL b)).length = r from hr] at hw hle
  have hs : cutC (baL b) = (cutC (baL b)).take r ++ (cutC (baL b)).drop r := (List.take_append_drop _ _).symm
  have hl : ((cutC (baL b)).take r).length = r := by rw [List.length_take]; omega
  refine press_hit 95 (fun _ _ => by kernel_rfl) (.pointer (some ⟨P, 0, none⟩)) P 19 rv W rfl (Done (edF a b c un 19 rs) P base W) (fun w E => ?_)
  refine (edWordRight_any (B1 := (cutC (baL b)).take r) (B2 := (cutC (baL b)).drop r) 19 rv (by rw [hl, ← hs]; exact hw) (by have := (e0.ext E).two; rw [← hs]; exact this)).mono ?_
  intro e1 w' q
  refine key _ (ef.trans ?_) w w' e1 E (done_mvR h hs 2 q)
  rw [hl, edWr, hr]
end
end Go.Proofs.YtokjpnlmkecleaaGreatDoor

namespace Go.Proofs.YtokjpnlmkecleaaGreatDoor
open Go.RowKit

set_option maxRecDepth 10000 in
set_option maxHeartbeats 8000000 in
theorem l4Moved_none (a b c : ByteArray) (v : Value) (un : List (ByteArray × ByteArray)) (w : World) (hv : LnAt w v un) (za : a.size ≤ 1048576) (zb : b.size ≤ 1048576) (kd : Int) (h6 : ¬ kd = 6) (h7 : ¬ kd = 7) (h8 : ¬ kd = 8) (h9 : ¬ kd = 9) (h18 : ¬ kd = 18) (h19 : ¬ kd = 19) :
    Calls Tryz.prog 31 #[.agg #[.string a, .string b, .string c, v], .int .i64 kd] w fun e w' => e = .returned (.tuple #[.agg #[.string a, .string b, .string c, v], .int .i64 (-1)]) ∧ Ext w w' := by
  have infoL : (Tryz.prog.info? 25).map (·.size) = some 4 := by kernel_rfl
  have hcA := hide (fun W => l4Cut_any (baL a) (baL_bytes a) W (by rw [baL_len]; omega))
  have hcB := hide (fun W => l4Cut_any (baL b) (baL_bytes b) W (by rw [baL_len]; omega))
  rw [toBA_baL] at hcA hcB
  have lA := cutC_len (baL a)
  have lB := cutC_len (baL b)
  rw [baL_len] at lA lB
  obtain ⟨ao, ca, rfl, _, _⟩ := id hv
  clear hv
  obtain ⟨A, hA⟩ : ∃ A, A = cutC (baL a) := ⟨_, rfl⟩
  obtain ⟨B, hB⟩ : ∃ B, B = cutC (baL b) := ⟨_, rfl⟩
  rw [← hA] at hcA lA
  rw [← hB] at hcB lB
  obtain ⟨nA, hnA⟩ : ∃ n, A.length = n := ⟨_, rfl⟩
  obtain ⟨nB, hnB⟩ : ∃ n, B.length = n := ⟨_, rfl⟩
  have HNA := hide hnA
  have HNB := hide hnB
  clear hA hB hnA hnB
  obtain ⟨V, hV⟩ : ∃ V, V = (w.alloc (.cells #[.string a, .string b, .string c, .slice ao un.length ca] 25)).alloc (.cells #[.string { data := #[] }, .string { data := #[] }, .string { data := #[] }, .slice none 0 0] 25) := ⟨_, rfl⟩
  have E0 : Ext w V := by rw [hV]; exact ((Ext.refl w).alloc _).alloc _
  have HB0 : Hid (V.heap[w.heap.size]? = some (.cells #[.string a, .string b, .string c, .slice ao un.length ca] 25 (0, 0))) := hide (by rw [hV]; exact ((Ext.refl _).alloc _).kept (new_block w _))
  have HB1 : Hid (V.heap[w.heap.size + 1]? = some (.cells #[.string { data := #[] }, .string { data := #[] }, .string { data := #[] }, .slice none 0 0] 25 (0, 0))) := hide (by rw [hV]; have h := new_block (w.alloc (.cells #[.string a, .string b, .string c, .slice ao un.length ca] 25)) (.cells #[.string { data := #[] }, .string { data := #[] }, .string { data := #[] }, .slice none 0 0] 25); rw [show (w.alloc (.cells #[.string a, .string b, .string c, .slice ao un.length ca] 25)).heap.size = w.heap.size + 1 by simp] at h; exact h)
  have sz0 : w.heap.size + 1 < V.heap.size := lt_of_block (unhide HB1)
  have HW := hide hV
  have HE0 := hide E0
  clear hV E0
  go_enter Tryz.func31, Tryz.ntmps31
  go_wp2_with fail
  rw [← unhide HW]
  clear HW
  refine ((unhide hcA) _).mono ?_
  rintro e w2 ⟨v2, rs2, rfl, o2, E2⟩
  obtain ⟨a2, c2, rfl⟩ : ∃ a c, v2 = .slice a A.length c := by
    obtain ⟨_, ao, cc, e, _⟩ := o2.cls
    exact ⟨ao, cc, e⟩
  have H2 := hide o2.cls
  rw [unhide HNA] at H2 ⊢
  replace HB0 := hide (E2.kept (unhide HB0))
  replace HB1 := hide (E2.kept (unhide HB1))
  replace HE0 := hide ((unhide HE0).trans E2)
  have q1 : w2.cell? ⟨w.heap.size, 1, none⟩ = some (.string b) := cells_of (unhide HB0) 1 _ rfl
  have z2 := E2.size
  clear o2 E2 hcA
  go_wp2_with fail
  refine ((unhide hcB) _).mono ?_
  rintro e w3 ⟨v3, rs3, rfl, o3, E3⟩
  obtain ⟨a3, c3, rfl⟩ : ∃ a c, v3 = .slice a B.length c := by
    obtain ⟨_, ao, cc, e, _⟩ := o3.cls
    exact ⟨ao, cc, e⟩
  have H3 := hide o3.cls
  rw [unhide HNB] at H3 ⊢
  replace H2 := hide ((unhide H2).ext E3)
  replace HB0 := hide (E3.kept (unhide HB0))
  replace HB1 := hide (E3.kept (unhide HB1))
  replace HE0 := hide ((unhide HE0).trans E3)
  have z3 := E3.size
  clear o3 E3 hcB q1
  clear H2 H3 HNA HNB
  go_wp2_with (first
    | (refine wpList_load_blk rfl 25 _ rfl (w.heap.size) rfl _ _ _ _ (unhide HB0) Tryz.underlying25 rfl infoL ?_)
    | (refine wpList_store_blk rfl 25 _ _ rfl rfl (w.heap.size + 1) rfl _ _ _ rfl (unhide HB1) infoL rfl (by simp [Value.oneCell']) ?_; intro Z hy hf9; have HY := hide hy; have FY := hide hf9; clear hy hf9))
  have v0 : Z.cell? ⟨w.heap.size + 1, 0, none⟩ = some (.string a) := cells_of (unhide HY) 0 _ rfl
  have v1 : Z.cell? ⟨w.heap.size + 1, 1, none⟩ = some (.string b) := cells_of (unhide HY) 1 _ rfl
  have v2 : Z.cell? ⟨w.heap.size + 1, 2, none⟩ = some (.string c) := cells_of (unhide HY) 2 _ rfl
  have v3 : Z.cell? ⟨w.heap.size + 1, 3, none⟩ = some (.slice ao un.length ca) := cells_of (unhide HY) 3 _ rfl
  exact bodyPost_ret (v := .tuple #[.agg #[.string a, .string b, .string c, .slice ao un.length ca], .int .i64 (-1)]) (by simp [results, Tryz.results31, go_sem, v0, v1, v2, v3]) rfl ⟨rfl, (unhide FY).ext (unhide HE0) (fun q hq => by omega)⟩
end Go.Proofs.YtokjpnlmkecleaaGreatDoor

namespace Go.Proofs.YtokjpnlmkecleaaGreatDoor
open Go.RowKit

set_option maxRecDepth 10000 in
set_option maxHeartbeats 8000000 in
theorem l4Moved_6_no (a b c : ByteArray) (v : Value) (un : List (ByteArray × ByteArray)) (w : World) (hv : LnAt w v un) (za : a.size ≤ 1048576) (zb : b.size ≤ 1048576) (XA XB : ByteArray) (N : Int) (hw : IntKind.i64.wrap (((cutC (baL a)).length : Int) - 1) = N ∧ ¬ N = -2) (HM : ∀ W u, Ext w W → LnAt W u un → Calls Tryz.prog 65 #[.agg #[.string a, .string b, .string c, u], .int .i64 N] W fun e w' => LnO w' W.heap.size ⟨XA, XB, c, un, 2⟩ e ∧ Ext W w') :
    Calls Tryz.prog 31 #[.agg #[.string a, .string b, .string c, v], .int .i64 6] w fun e w' => LnO w' w.heap.size ⟨XA, XB, c, un, 2⟩ e ∧ Ext w w' := by
  have infoL : (Tryz.prog.info? 25).map (·.size) = some 4 := by kernel_rfl
  have hcA := hide (fun W => l4Cut_any (baL a) (baL_bytes a) W (by rw [baL_len]; omega))
  have hcB := hide (fun W => l4Cut_any (baL b) (baL_bytes b) W (by rw [baL_len]; omega))
  rw [toBA_baL] at hcA hcB
  have lA := cutC_len (baL a)
  have lB := cutC_len (baL b)
  rw [baL_len] at lA lB
  obtain ⟨ao, ca, rfl, _, _⟩ := id hv
  have HMv := hide (fun W (E : Ext w W) => HM W _ E (hv.ext E))
  obtain ⟨hw1, hw2⟩ := hw
  clear hv HM
  obtain ⟨A, hA⟩ : ∃ A, A = cutC (baL a) := ⟨_, rfl⟩
  obtain ⟨B, hB⟩ : ∃ B, B = cutC (baL b) := ⟨_, rfl⟩
  rw [← hA] at hcA lA hw1
  rw [← hB] at hcB lB
  obtain ⟨nA, hnA⟩ : ∃ n, A.length = n := ⟨_, rfl⟩
  obtain ⟨nB, hnB⟩ : ∃ n, B.length = n := ⟨_, rfl⟩
  rw [hnA] at hw1
  have HNA := hide hnA
  have HNB := hide hnB
  clear hA hB hnA hnB
  obtain ⟨V, hV⟩ : ∃ V, V = (w.alloc (.cells #[.string a, .string b, .string c, .slice ao un.length ca] 25)).alloc (.cells #[.string { data := #[] }, .string { data := #[] }, .string { data := #[] }, .slice none 0 0] 25) := ⟨_, rfl⟩
  have E0 : Ext w V := by rw [hV]; exact ((Ext.refl w).alloc _).alloc _
  have HB0 : Hid (V.heap[w.heap.size]? = some (.cells #[.string a, .string b, .string c, .slice ao un.length ca] 25 (0, 0))) := hide (by rw [hV]; exact ((Ext.refl _).alloc _).kept (new_block w _))
  have HB1 : Hid (V.heap[w.heap.size + 1]? = some (.cells #[.string { data := #[] }, .string { data := #[] }, .string { data := #[] }, .slice none 0 0] 25 (0, 0))) := hide (by rw [hV]; have h := new_block (w.alloc (.cells #[.string a, .string b, .string c, .slice ao un.length ca] 25)) (.cells #[.string { data := #[] }, .string { data := #[] }, .string { data := #[] }, .slice none 0 0] 25); rw [show (w.alloc (.cells #[.string a, .string b, .string c, .slice ao un.length ca] 25)).heap.size = w.heap.size + 1 by simp] at h; exact h)
  have sz0 : w.heap.size + 1 < V.heap.size := lt_of_block (unhide HB1)
  have HW := hide hV
  have HE0 := hide E0
  clear hV E0
  go_enter Tryz.func31, Tryz.ntmps31
  go_wp2_with fail
  rw [← unhide HW]
  clear HW
  refine ((unhide hcA) _).mono ?_
  rintro e w2 ⟨v2, rs2, rfl, o2, E2⟩
  obtain ⟨a2, c2, rfl⟩ : ∃ a c, v2 = .slice a A.length c := by
    obtain ⟨_, ao, cc, e, _⟩ := o2.cls
    exact ⟨ao, cc, e⟩
  have H2 := hide o2.cls
  rw [unhide HNA] at H2 ⊢
  replace HB0 := hide (E2.kept (unhide HB0))
  replace HB1 := hide (E2.kept (unhide HB1))
  replace HE0 := hide ((unhide HE0).trans E2)
  have q1 : w2.cell? ⟨w.heap.size, 1, none⟩ = some (.string b) := cells_of (unhide HB0) 1 _ rfl
  have z2 := E2.size
  clear o2 E2 hcA
  go_wp2_with fail
  refine ((unhide hcB) _).mono ?_
  rintro e w3 ⟨v3, rs3, rfl, o3, E3⟩
  obtain ⟨a3, c3, rfl⟩ : ∃ a c, v3 = .slice a B.length c := by
    obtain ⟨_, ao, cc, e, _⟩ := o3.cls
    exact ⟨ao, cc, e⟩
  have H3 := hide o3.cls
  rw [unhide HNB] at H3 ⊢
  replace H2 := hide ((unhide H2).ext E3)
  replace HB0 := hide (E3.kept (unhide HB0))
  replace HB1 := hide (E3.kept (unhide HB1))
  replace HE0 := hide ((unhide HE0).trans E3)
  have z3 := E3.size
  clear o3 E3 hcB q1
  have HMc := hide ((unhide HMv) w3 (unhide HE0))
  clear HMv H2 H3 HNA HNB
  go_wp2_with (first
    | (refine wpList_load_blk rfl 25 _ rfl (w.heap.size) rfl _ _ _ _ (unhide HB0) Tryz.underlying25 rfl infoL ?_))
  refine (unhide HMc).mono ?_
  rintro e w5 ⟨⟨v5, rfl, hl5⟩, E5⟩
  obtain ⟨ua, uc, rfl⟩ : ∃ ua uc, v5 = .slice ua un.length uc := by
    obtain ⟨x, y, e, _⟩ := hl5.reads
    exact ⟨x, y, e⟩
  have HL5 := hide hl5
  replace HB1 := hide (E5.kept (unhide HB1))
  replace HE0 := hide ((unhide HE0).trans E5)
  have HN := hide (heap_alloc_new w5 (.cells #[.string { data := #[] }, .string { data := #[] }, .string { data := #[] }, .slice none 0 0] 25))
  have hz5 : w.heap.size + 1 < w5.heap.size := lt_of_block (unhide HB1)
  clear HMc E5 hl5 HB0
  dsimp only
  go_wp2_with (first
    | (refine wpList_store_blk rfl 25 _ _ rfl rfl (w5.heap.size) rfl _ _ _ rfl (unhide HN) infoL rfl (by simp [Value.oneCell']) ?_; intro U hB hU; have hU1 := hU.ext ((Ext.refl w5).alloc _) (fun q hq => by omega); have HEU := hide hU1; have HBU := hide hB; have HB1s := hide (hU1.kept (unhide HB1)); clear hB hU hU1)
    | (refine wpList_load_blk rfl 25 _ rfl (w5.heap.size) rfl _ _ _ _ (unhide HBU) Tryz.underlying25 rfl infoL ?_)
    | (refine wpList_store_blk rfl 25 _ _ rfl rfl (w.heap.size + 1) rfl _ _ _ rfl (unhide HB1s) infoL rfl (by simp [Value.oneCell']) ?_; intro Z hy hf9; have HY := hide hy; have FY := hide hf9; clear hy hf9))
  have v0 : Z.cell? ⟨w.heap.size + 1, 0, none⟩ = some (.string XA) := cells_of (unhide HY) 0 _ rfl
  have v1 : Z.cell? ⟨w.heap.size + 1, 1, none⟩ = some (.string XB) := cells_of (unhide HY) 1 _ rfl
  have v2 : Z.cell? ⟨w.heap.size + 1, 2, none⟩ = some (.string c) := cells_of (unhide HY) 2 _ rfl
  have v3 : Z.cell? ⟨w.heap.size + 1, 3, none⟩ = some (.slice ua un.length uc) := cells_of (unhide HY) 3 _ rfl
  exact bodyPost_ret (v := .tuple #[.agg #[.string XA, .string XB, .string c, .slice ua un.length uc], .int .i64 2]) (by simp [results, Tryz.results31, go_sem, v0, v1, v2, v3]) rfl ⟨⟨_, rfl, (((unhide HL5).ext (unhide HEU)).fr (unhide FY) (fun g hg e9 => by have := ((unhide HL5).lt g hg).1; omega)).mono (by omega)⟩, (unhide FY).ext ((unhide HE0).trans (unhide HEU)) (fun q hq => by omega)⟩
set_option maxRecDepth 10000 in
set_option maxHeartbeats 8000000 in
theorem l4Moved_6_yes (a b c : ByteArray) (v : Value) (un : List (ByteArray × ByteArray)) (w : World) (hv : LnAt w v un) (za : a.size ≤ 1048576) (zb : b.size ≤ 1048576) (XA XB : ByteArray) (N : Int) (hw : IntKind.i64.wrap (((cutC (baL a)).length : Int) - 1) = N ∧ ¬ N = -2) (HM : ∀ W u, Ext w W → LnAt W u un → Calls Tryz.prog 65 #[.agg #[.string a, .string b, .string c, u], .int .i64 N] W fun e w' => LnO w' W.heap.size ⟨XA, XB, c, un, 1⟩ e ∧ Ext W w') :
    Calls Tryz.prog 31 #[.agg #[.string a, .string b, .string c, v], .int .i64 6] w fun e w' => LnO w' w.heap.size ⟨XA, XB, c, un, 1⟩ e ∧ Ext w w' := by
  have infoL : (Tryz.prog.info? 25).map (·.size) = some 4 := by kernel_rfl
  have hcA := hide (fun W => l4Cut_any (baL a) (baL_bytes a) W (by rw [baL_len]; omega))
  have hcB := hide (fun W => l4Cut_any (baL b) (baL_bytes b) W (by rw [baL_len]; omega))
  rw [toBA_baL] at hcA hcB
  have lA := cutC_len (baL a)
  have lB := cutC_len (baL b)
  rw [baL_len] at lA lB
  obtain ⟨ao, ca, rfl, _, _⟩ := id hv
  have HMv := hide (fun W (E : Ext w W) => HM W _ E (hv.ext E))
  obtain ⟨hw1, hw2⟩ := hw
  clear hv HM
  obtain ⟨A, hA⟩ : ∃ A, A = cutC (baL a) := ⟨_, rfl⟩
  obtain ⟨B, hB⟩ : ∃ B, B = cutC (baL b) := ⟨_, rfl⟩
  rw [← hA] at hcA lA hw1
  rw [← hB] at hcB lB
  obtain ⟨nA, hnA⟩ : ∃ n, A.length = n := ⟨_, rfl⟩
  obtain ⟨nB, hnB⟩ : ∃ n, B.length = n := ⟨_, rfl⟩
  rw [hnA] at hw1
  have HNA := hide hnA
  have HNB := hide hnB
  clear hA hB hnA hnB
  obtain ⟨V, hV⟩ : ∃ V, V = (w.alloc (.cells #[.string a, .string b, .string c, .slice ao un.length ca] 25)).alloc (.cells #[.string { data := #[] }, .string { data := #[] }, .string { data := #[] }, .slice none 0 0] 25) := ⟨_, rfl⟩
  have E0 : Ext w V := by rw [hV]; exact ((Ext.refl w).alloc _).alloc _
  have HB0 : Hid (V.heap[w.heap.size]? = some (.cells #[.string a, .string b, .string c, .slice ao un.length ca] 25 (0, 0))) := hide (by rw [hV]; exact ((Ext.refl _).alloc _).kept (new_block w _))
  have HB1 : Hid (V.heap[w.heap.size + 1]? = some (.cells #[.string { data := #[] }, .string { data := #[] }, .string { data := #[] }, .slice none 0 0] 25 (0, 0))) := hide (by rw [hV]; have h := new_block (w.alloc (.cells #[.string a, .string b, .string c, .slice ao un.length ca] 25)) (.cells #[.string { data := #[] }, .string { data := #[] }, .string { data := #[] }, .slice none 0 0] 25); rw [show (w.alloc (.cells #[.string a, .string b, .string c, .slice ao un.length ca] 25)).heap.size = w.heap.size + 1 by simp] at h; exact h)
  have sz0 : w.heap.size + 1 < V.heap.size := lt_of_block (unhide HB1)
  have HW := hide hV
  have HE0 := hide E0
  clear hV E0
  go_enter Tryz.func31, Tryz.ntmps31
  go_wp2_with fail
  rw [← unhide HW]
  clear HW
  refine ((unhide hcA) _).mono ?_
  rintro e w2 ⟨v2, rs2, rfl, o2, E2⟩
  obtain ⟨a2, c2, rfl⟩ : ∃ a c, v2 = .slice a A.length c := by
    obtain ⟨_, ao, cc, e, _⟩ := o2.cls
    exact ⟨ao, cc, e⟩
  have H2 := hide o2.cls
  rw [unhide HNA] at H2 ⊢
  replace HB0 := hide (E2.kept (unhide HB0))
  replace HB1 := hide (E2.kept (unhide HB1))
  replace HE0 := hide ((unhide HE0).trans E2)
  have q1 : w2.cell? ⟨w.heap.size, 1, none⟩ = some (.string b) := cells_of (unhide HB0) 1 _ rfl
  have z2 := E2.size
  clear o2 E2 hcA
  go_wp2_with fail
  refine ((unhide hcB) _).mono ?_
  rintro e w3 ⟨v3, rs3, rfl, o3, E3⟩
  obtain ⟨a3, c3, rfl⟩ : ∃ a c, v3 = .slice a B.length c := by
    obtain ⟨_, ao, cc, e, _⟩ := o3.cls
    exact ⟨ao, cc, e⟩
  have H3 := hide o3.cls
  rw [unhide HNB] at H3 ⊢
  replace H2 := hide ((unhide H2).ext E3)
  replace HB0 := hide (E3.kept (unhide HB0))
  replace HB1 := hide (E3.kept (unhide HB1))
  replace HE0 := hide ((unhide HE0).trans E3)
  have z3 := E3.size
  clear o3 E3 hcB q1
  have HMc := hide ((unhide HMv) w3 (unhide HE0))
  clear HMv H2 H3 HNA HNB
  go_wp2_with (first
    | (refine wpList_load_blk rfl 25 _ rfl (w.heap.size) rfl _ _ _ _ (unhide HB0) Tryz.underlying25 rfl infoL ?_))
  refine (unhide HMc).mono ?_
  rintro e w5 ⟨⟨v5, rfl, hl5⟩, E5⟩
  obtain ⟨ua, uc, rfl⟩ : ∃ ua uc, v5 = .slice ua un.length uc := by
    obtain ⟨x, y, e, _⟩ := hl5.reads
    exact ⟨x, y, e⟩
  have HL5 := hide hl5
  replace HB1 := hide (E5.kept (unhide HB1))
  replace HE0 := hide ((unhide HE0).trans E5)
  have HN := hide (heap_alloc_new w5 (.cells #[.string { data := #[] }, .string { data := #[] }, .string { data := #[] }, .slice none 0 0] 25))
  have hz5 : w.heap.size + 1 < w5.heap.size := lt_of_block (unhide HB1)
  clear HMc E5 hl5 HB0
  dsimp only
  go_wp2_with (first
    | (refine wpList_store_blk rfl 25 _ _ rfl rfl (w5.heap.size) rfl _ _ _ rfl (unhide HN) infoL rfl (by simp [Value.oneCell']) ?_; intro U hB hU; have hU1 := hU.ext ((Ext.refl w5).alloc _) (fun q hq => by omega); have HEU := hide hU1; have HBU := hide hB; have HB1s := hide (hU1.kept (unhide HB1)); clear hB hU hU1)
    | (refine wpList_load_blk rfl 25 _ rfl (w5.heap.size) rfl _ _ _ _ (unhide HBU) Tryz.underlying25 rfl infoL ?_)
    | (refine wpList_store_blk rfl 25 _ _ rfl rfl (w.heap.size + 1) rfl _ _ _ rfl (unhide HB1s) infoL rfl (by simp [Value.oneCell']) ?_; intro Z hy hf9; have HY := hide hy; have FY := hide hf9; clear hy hf9))
  have v0 : Z.cell? ⟨w.heap.size + 1, 0, none⟩ = some (.string XA) := cells_of (unhide HY) 0 _ rfl
  have v1 : Z.cell? ⟨w.heap.size + 1, 1, none⟩ = some (.string XB) := cells_of (unhide HY) 1 _ rfl
  have v2 : Z.cell? ⟨w.heap.size + 1, 2, none⟩ = some (.string c) := cells_of (unhide HY) 2 _ rfl
  have v3 : Z.cell? ⟨w.heap.size + 1, 3, none⟩ = some (.slice ua un.length uc) := cells_of (unhide HY) 3 _ rfl
  exact bodyPost_ret (v := .tuple #[.agg #[.string XA, .string XB, .string c, .slice ua un.length uc], .int .i64 1]) (by simp [results, Tryz.results31, go_sem, v0, v1, v2, v3]) rfl ⟨⟨_, rfl, (((unhide HL5).ext (unhide HEU)).fr (unhide FY) (fun g hg e9 => by have := ((unhide HL5).lt g hg).1; omega)).mono (by omega)⟩, (unhide FY).ext ((unhide HE0).trans (unhide HEU)) (fun q hq => by omega)⟩
end Go.Proofs.YtokjpnlmkecleaaGreatDoor

namespace Go.Proofs.YtokjpnlmkecleaaGreatDoor
open Go.RowKit

set_option maxRecDepth 10000 in
set_option maxHeartbeats 8000000 in
theorem l4Moved_7_no (a b c : ByteArray) (v : Value) (un : List (ByteArray × ByteArray)) (w : World) (hv : LnAt w v un) (za : a.size ≤ 1048576) (zb : b.size ≤ 1048576) (XA XB : ByteArray) (N : Int) (hw : IntKind.i64.wrap (((cutC (baL a)).length : Int) + 1) = N ∧ ¬ N = -2) (HM : ∀ W u, Ext w W → LnAt W u un → Calls Tryz.prog 65 #[.agg #[.string a, .string b, .string c, u], .int .i64 N] W fun e w' => LnO w' W.heap.size ⟨XA, XB, c, un, 2⟩ e ∧ Ext W w') :
    Calls Tryz.prog 31 #[.agg #[.string a, .string b, .string c, v], .int .i64 7] w fun e w' => LnO w' w.heap.size ⟨XA, XB, c, un, 2⟩ e ∧ Ext w w' := by
  have infoL : (Tryz.prog.info? 25).map (·.size) = some 4 := by kernel_rfl
  have hcA := hide (fun W => l4Cut_any (baL a) (baL_bytes a) W (by rw [baL_len]; omega))
  have hcB := hide (fun W => l4Cut_any (baL b) (baL_bytes b) W (by rw [baL_len]; omega))
  rw [toBA_baL] at hcA hcB
  have lA := cutC_len (baL a)
  have lB := cutC_len (baL b)
  rw [baL_len] at lA lB
  obtain ⟨ao, ca, rfl, _, _⟩ := id hv
  have HMv := hide (fun W (E : Ext w W) => HM W _ E (hv.ext E))
  obtain ⟨hw1, hw2⟩ := hw
  clear hv HM
  obtain ⟨A, hA⟩ : ∃ A, A = cutC (baL a) := ⟨_, rfl⟩
  obtain ⟨B, hB⟩ : ∃ B, B = cutC (baL b) := ⟨_, rfl⟩
  rw [← hA] at hcA lA hw1
  rw [← hB] at hcB lB
  obtain ⟨nA, hnA⟩ : ∃ n, A.length = n := ⟨_, rfl⟩
  obtain ⟨nB, hnB⟩ : ∃ n, B.length = n := ⟨_, rfl⟩
  rw [hnA] at hw1
  have HNA := hide hnA
  have HNB := hide hnB
  clear hA hB hnA hnB
  obtain ⟨V, hV⟩ : ∃ V, V = (w.alloc (.cells #[.string a, .string b, .string c, .slice ao un.length ca] 25)).alloc (.cells #[.string { data := #[] }, .string { data := #[] }, .string { data := #[] }, .slice none 0 0] 25) := ⟨_, rfl⟩
  have E0 : Ext w V := by rw [hV]; exact ((Ext.refl w).alloc _).alloc _
  have HB0 : Hid (V.heap[w.heap.size]? = some (.cells #[.string a, .string b, .string c, .slice ao un.length ca] 25 (0, 0))) := hide (by rw [hV]; exact ((Ext.refl _).alloc _).kept (new_block w _))
  have HB1 : Hid (V.heap[w.heap.size + 1]? = some (.cells #[.string { data := #[] }, .string { data := #[] }, .string { data := #[] }, .slice none 0 0] 25 (0, 0))) := hide (by rw [hV]; have h := new_block (w.alloc (.cells #[.string a, .string b, .string c, .slice ao un.length ca] 25)) (.cells #[.string { data := #[] }, .string { data := #[] }, .string { data := #[] }, .slice none 0 0] 25); rw [show (w.alloc (.cells #[.string a, .string b, .string c, .slice ao un.length ca] 25)).heap.size = w.heap.size + 1 by simp] at h; exact h)
  have sz0 : w.heap.size + 1 < V.heap.size := lt_of_block (unhide HB1)
  have HW := hide hV
  have HE0 := hide E0
  clear hV E0
  go_enter Tryz.func31, Tryz.ntmps31
  go_wp2_with fail
  rw [← unhide HW]
  clear HW
  refine ((unhide hcA) _).mono ?_
  rintro e w2 ⟨v2, rs2, rfl, o2, E2⟩
  obtain ⟨a2, c2, rfl⟩ : ∃ a c, v2 = .slice a A.length c := by
    obtain ⟨_, ao, cc, e, _⟩ := o2.cls
    exact ⟨ao, cc, e⟩
  have H2 := hide o2.cls
  rw [unhide HNA] at H2 ⊢
  replace HB0 := hide (E2.kept (unhide HB0))
  replace HB1 := hide (E2.kept (unhide HB1))
  replace HE0 := hide ((unhide HE0).trans E2)
  have q1 : w2.cell? ⟨w.heap.size, 1, none⟩ = some (.string b) := cells_of (unhide HB0) 1 _ rfl
  have z2 := E2.size
  clear o2 E2 hcA
  go_wp2_with fail
  refine ((unhide hcB) _).mono ?_
  rintro e w3 ⟨v3, rs3, rfl, o3, E3⟩
  obtain ⟨a3, c3, rfl⟩ : ∃ a c, v3 = .slice a B.length c := by
    obtain ⟨_, ao, cc, e, _⟩ := o3.cls
    exact ⟨ao, cc, e⟩
  have H3 := hide o3.cls
  rw [unhide HNB] at H3 ⊢
  replace H2 := hide ((unhide H2).ext E3)
  replace HB0 := hide (E3.kept (unhide HB0))
  replace HB1 := hide (E3.kept (unhide HB1))
  replace HE0 := hide ((unhide HE0).trans E3)
  have z3 := E3.size
  clear o3 E3 hcB q1
  have HMc := hide ((unhide HMv) w3 (unhide HE0))
  clear HMv H2 H3 HNA HNB
  go_wp2_with (first
    | (refine wpList_load_blk rfl 25 _ rfl (w.heap.size) rfl _ _ _ _ (unhide HB0) Tryz.underlying25 rfl infoL ?_))
  refine (unhide HMc).mono ?_
  rintro e w5 ⟨⟨v5, rfl, hl5⟩, E5⟩
  obtain ⟨ua, uc, rfl⟩ : ∃ ua uc, v5 = .slice ua un.length uc := by
    obtain ⟨x, y, e, _⟩ := hl5.reads
    exact ⟨x, y, e⟩
  have HL5 := hide hl5
  replace HB1 := hide (E5.kept (unhide HB1))
  replace HE0 := hide ((unhide HE0).trans E5)
  have HN := hide (heap_alloc_new w5 (.cells #[.string { data := #[] }, .string { data := #[] }, .string { data := #[] }, .slice none 0 0] 25))
  have hz5 : w.heap.size + 1 < w5.heap.size := lt_of_block (unhide HB1)
  clear HMc E5 hl5 HB0
  dsimp only
  go_wp2_with (first
    | (refine wpList_store_blk rfl 25 _ _ rfl rfl (w5.heap.size) rfl _ _ _ rfl (unhide HN) infoL rfl (by simp [Value.oneCell']) ?_; intro U hB hU; have hU1 := hU.ext ((Ext.refl w5).alloc _) (fun q hq => by omega); have HEU := hide hU1; have HBU := hide hB; have HB1s := hide (hU1.kept (unhide HB1)); clear hB hU hU1)
    | (refine wpList_load_blk rfl 25 _ rfl (w5.heap.size) rfl _ _ _ _ (unhide HBU) Tryz.underlying25 rfl infoL ?_)
    | (refine wpList_store_blk rfl 25 _ _ rfl rfl (w.heap.size + 1) rfl _ _ _ rfl (unhide HB1s) infoL rfl (by simp [Value.oneCell']) ?_; intro Z hy hf9; have HY := hide hy; have FY := hide hf9; clear hy hf9))
  have v0 : Z.cell? ⟨w.heap.size + 1, 0, none⟩ = some (.string XA) := cells_of (unhide HY) 0 _ rfl
  have v1 : Z.cell? ⟨w.heap.size + 1, 1, none⟩ = some (.string XB) := cells_of (unhide HY) 1 _ rfl
  have v2 : Z.cell? ⟨w.heap.size + 1, 2, none⟩ = some (.string c) := cells_of (unhide HY) 2 _ rfl
  have v3 : Z.cell? ⟨w.heap.size + 1, 3, none⟩ = some (.slice ua un.length uc) := cells_of (unhide HY) 3 _ rfl
  exact bodyPost_ret (v := .tuple #[.agg #[.string XA, .string XB, .string c, .slice ua un.length uc], .int .i64 2]) (by simp [results, Tryz.results31, go_sem, v0, v1, v2, v3]) rfl ⟨⟨_, rfl, (((unhide HL5).ext (unhide HEU)).fr (unhide FY) (fun g hg e9 => by have := ((unhide HL5).lt g hg).1; omega)).mono (by omega)⟩, (unhide FY).ext ((unhide HE0).trans (unhide HEU)) (fun q hq => by omega)⟩
set_option maxRecDepth 10000 in
set_option maxHeartbeats 8000000 in
theorem l4Moved_7_yes (a b c : ByteArray) (v : Value) (un : List (ByteArray × ByteArray)) (w : World) (hv : LnAt w v un) (za : a.size ≤ 1048576) (zb : b.size ≤ 1048576) (XA XB : ByteArray) (N : Int) (hw : IntKind.i64.wrap (((cutC (baL a)).length : Int) + 1) = N ∧ ¬ N = -2) (HM : ∀ W u, Ext w W → LnAt W u un → Calls Tryz.prog 65 #[.agg #[.string a, .string b, .string c, u], .int .i64 N] W fun e w' => LnO w' W.heap.size ⟨XA, XB, c, un, 1⟩ e ∧ Ext W w') :
    Calls Tryz.prog 31 #[.agg #[.string a, .string b, .string c, v], .int .i64 7] w fun e w' => LnO w' w.heap.size ⟨XA, XB, c, un, 1⟩ e ∧ Ext w w' := by
  have infoL : (Tryz.prog.info? 25).map (·.size) = some 4 := by kernel_rfl
  have hcA := hide (fun W => l4Cut_any (baL a) (baL_bytes a) W (by rw [baL_len]; omega))
  have hcB := hide (fun W => l4Cut_any (baL b) (baL_bytes b) W (by rw [baL_len]; omega))
  rw [toBA_baL] at hcA hcB
  have lA := cutC_len (baL a)
  have lB := cutC_len (baL b)
  rw [baL_len] at lA lB
  obtain ⟨ao, ca, rfl, _, _⟩ := id hv
  have HMv := hide (fun W (E : Ext w W) => HM W _ E (hv.ext E))
  obtain ⟨hw1, hw2⟩ := hw
  clear hv HM
  obtain ⟨A, hA⟩ : ∃ A, A = cutC (baL a) := ⟨_, rfl⟩
  obtain ⟨B, hB⟩ : ∃ B, B = cutC (baL b) := ⟨_, rfl⟩
  rw [← hA] at hcA lA hw1
  rw [← hB] at hcB lB
  obtain ⟨nA, hnA⟩ : ∃ n, A.length = n := ⟨_, rfl⟩
  obtain ⟨nB, hnB⟩ : ∃ n, B.length = n := ⟨_, rfl⟩
  rw [hnA] at hw1
  have HNA := hide hnA
  have HNB := hide hnB
  clear hA hB hnA hnB
  obtain ⟨V, hV⟩ : ∃ V, V = (w.alloc (.cells #[.string a, .string b, .string c, .slice ao un.length ca] 25)).alloc (.cells #[.string { data := #[] }, .string { data := #[] }, .string { data := #[] }, .slice none 0 0] 25) := ⟨_, rfl⟩
  have E0 : Ext w V := by rw [hV]; exact ((Ext.refl w).alloc _).alloc _
  have HB0 : Hid (V.heap[w.heap.size]? = some (.cells #[.string a, .string b, .string c, .slice ao un.length ca] 25 (0, 0))) := hide (by rw [hV]; exact ((Ext.refl _).alloc _).kept (new_block w _))
  have HB1 : Hid (V.heap[w.heap.size + 1]? = some (.cells #[.string { data := #[] }, .string { data := #[] }, .string { data := #[] }, .slice none 0 0] 25 (0, 0))) := hide (by rw [hV]; have h := new_block (w.alloc (.cells #[.string a, .string b, .string c, .slice ao un.length ca] 25)) (.cells #[.string { data := #[] }, .string { data := #[] }, .string { data := #[] }, .slice none 0 0] 25); rw [show (w.alloc (.cells #[.string a, .string b, .string c, .slice ao un.length ca] 25)).heap.size = w.heap.size + 1 by simp] at h; exact h)
  have sz0 : w.heap.size + 1 < V.heap.size := lt_of_block (unhide HB1)
  have HW := hide hV
  have HE0 := hide E0
  clear hV E0
  go_enter Tryz.func31, Tryz.ntmps31
  go_wp2_with fail
  rw [← unhide HW]
  clear HW
  refine ((unhide hcA) _).mono ?_
  rintro e w2 ⟨v2, rs2, rfl, o2, E2⟩
  obtain ⟨a2, c2, rfl⟩ : ∃ a c, v2 = .slice a A.length c := by
    obtain ⟨_, ao, cc, e, _⟩ := o2.cls
    exact ⟨ao, cc, e⟩
  have H2 := hide o2.cls
  rw [unhide HNA] at H2 ⊢
  replace HB0 := hide (E2.kept (unhide HB0))
  replace HB1 := hide (E2.kept (unhide HB1))
  replace HE0 := hide ((unhide HE0).trans E2)
  have q1 : w2.cell? ⟨w.heap.size, 1, none⟩ = some (.string b) := cells_of (unhide HB0) 1 _ rfl
  have z2 := E2.size
  clear o2 E2 hcA
  go_wp2_with fail
  refine ((unhide hcB) _).mono ?_
  rintro e w3 ⟨v3, rs3, rfl, o3, E3⟩
  obtain ⟨a3, c3, rfl⟩ : ∃ a c, v3 = .slice a B.length c := by
    obtain ⟨_, ao, cc, e, _⟩ := o3.cls
    exact ⟨ao, cc, e⟩
  have H3 := hide o3.cls
  rw [unhide HNB] at H3 ⊢
  replace H2 := hide ((unhide H2).ext E3)
  replace HB0 := hide (E3.kept (unhide HB0))
  replace HB1 := hide (E3.kept (unhide HB1))
  replace HE0 := hide ((unhide HE0).trans E3)
  have z3 := E3.size
  clear o3 E3 hcB q1
  have HMc := hide ((unhide HMv) w3 (unhide HE0))
  clear HMv H2 H3 HNA HNB
  go_wp2_with (first
    | (refine wpList_load_blk rfl 25 _ rfl (w.heap.size) rfl _ _ _ _ (unhide HB0) Tryz.underlying25 rfl infoL ?_))
  refine (unhide HMc).mono ?_
  rintro e w5 ⟨⟨v5, rfl, hl5⟩, E5⟩
  obtain ⟨ua, uc, rfl⟩ : ∃ ua uc, v5 = .slice ua un.length uc := by
    obtain ⟨x, y, e, _⟩ := hl5.reads
    exact ⟨x, y, e⟩
  have HL5 := hide hl5
  replace HB1 := hide (E5.kept (unhide HB1))
  replace HE0 := hide ((unhide HE0).trans E5)
  have HN := hide (heap_alloc_new w5 (.cells #[.string { data := #[] }, .string { data := #[] }, .string { data := #[] }, .slice none 0 0] 25))
  have hz5 : w.heap.size + 1 < w5.heap.size := lt_of_block (unhide HB1)
  clear HMc E5 hl5 HB0
  dsimp only
  go_wp2_with (first
    | (refine wpList_store_blk rfl 25 _ _ rfl rfl (w5.heap.size) rfl _ _ _ rfl (unhide HN) infoL rfl (by simp [Value.oneCell']) ?_; intro U hB hU; have hU1 := hU.ext ((Ext.refl w5).alloc _) (fun q hq => by omega); have HEU := hide hU1; have HBU := hide hB; have HB1s := hide (hU1.kept (unhide HB1)); clear hB hU hU1)
    | (refine wpList_load_blk rfl 25 _ rfl (w5.heap.size) rfl _ _ _ _ (unhide HBU) Tryz.underlying25 rfl infoL ?_)
    | (refine wpList_store_blk rfl 25 _ _ rfl rfl (w.heap.size + 1) rfl _ _ _ rfl (unhide HB1s) infoL rfl (by simp [Value.oneCell']) ?_; intro Z hy hf9; have HY := hide hy; have FY := hide hf9; clear hy hf9))
  have v0 : Z.cell? ⟨w.heap.size + 1, 0, none⟩ = some (.string XA) := cells_of (unhide HY) 0 _ rfl
  have v1 : Z.cell? ⟨w.heap.size + 1, 1, none⟩ = some (.string XB) := cells_of (unhide HY) 1 _ rfl
  have v2 : Z.cell? ⟨w.heap.size + 1, 2, none⟩ = some (.string c) := cells_of (unhide HY) 2 _ rfl
  have v3 : Z.cell? ⟨w.heap.size + 1, 3, none⟩ = some (.slice ua un.length uc) := cells_of (unhide HY) 3 _ rfl
  exact bodyPost_ret (v := .tuple #[.agg #[.string XA, .string XB, .string c, .slice ua un.length uc], .int .i64 1]) (by simp [results, Tryz.results31, go_sem, v0, v1, v2, v3]) rfl ⟨⟨_, rfl, (((unhide HL5).ext (unhide HEU)).fr (unhide FY) (fun g hg e9 => by have := ((unhide HL5).lt g hg).1; omega)).mono (by omega)⟩, (unhide FY).ext ((unhide HE0).trans (unhide HEU)) (fun q hq => by omega)⟩
end Go.Proofs.YtokjpnlmkecleaaGreatDoor
