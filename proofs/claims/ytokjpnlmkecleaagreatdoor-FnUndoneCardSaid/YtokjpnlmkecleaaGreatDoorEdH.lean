import Derived.Test.YtokjpnlmkecleaaGreatDoorEdG
import Derived.Test.YtokjpnlmkecleaaGreatDoorGap
namespace Go.Proofs.YtokjpnlmkecleaaGreatDoor
open Go.RowKit
section
variable {P base : Nat} {W0 W : World} {k : ByteArray} {u : Value} {un : List (ByteArray × ByteArray)} {cl rl rr : List Value}
set_option maxRecDepth 10000 in
set_option maxHeartbeats 4000000 in
theorem edEnd_any {A B : List (List Int × Int)} (kd : Int) (rv : Value) (h : Ed2 P base W0 W k u un A B cl rl rr) :
    Calls Tryz.prog 93 #[.pointer (some ⟨P, 0, none⟩), .agg #[.int .i64 kd, rv]] W fun e w' => EdR P base W0 w' k un (A ++ B) [] (if B.length = 0 then 0 else 1) e := by
  replace h := h.ext ((Ext.refl W).alloc (.cells #[.int .i64 kd, rv] 28))
  have H1 := hide (edRightOf h)
  have H2 := hide (fun w (E : Ext _ w) => edGoRight_any (B1 := B) (B2 := []) 0 (by rw [List.append_nil]; exact h.ext E))
  obtain ⟨n, hn⟩ : ∃ n, B.length = n := ⟨_, rfl⟩
  rw [hn] at H1 H2 ⊢
  obtain ⟨d, hd⟩ : ∃ d : Int, d = if n = 0 then 0 else 1 := ⟨_, rfl⟩
  rw [← hd] at H2 ⊢
  clear h hn hd
  go_enter Tryz.func93, Tryz.ntmps93
  go_wp2_with fail
  refine (unhide H1).mono ?_
  rintro e w1 ⟨ao, cap, rfl, -, E1⟩
  have H2' := hide ((unhide H2) w1 E1)
  clear H1 H2 E1
  go_wp2_with fail
  refine (unhide H2').mono ?_
  rintro e w2 ⟨rfl, h3⟩
  have H3 := hide h3
  clear h3 H2'
  go_wp2
  exact bodyPost_ret (v := .int .i64 d) (by simp [results, Tryz.results93, go_sem]) rfl ⟨rfl, unhide H3⟩
set_option maxRecDepth 10000 in
set_option maxHeartbeats 4000000 in
theorem edLeft_any {A1 A2 B : List (List Int × Int)} (kd : Int) (rv : Value) (hA : (A1.length = 0 ∧ A2.length = 0) ∨ A2.length = 1) (h : Ed2 P base W0 W k u un (A1 ++ A2) B cl rl rr) :
    Calls Tryz.prog 90 #[.pointer (some ⟨P, 0, none⟩), .agg #[.int .i64 kd, rv]] W fun e w' => EdR P base W0 w' k un A1 (A2 ++ B) (if A2.length = 0 then 2 else 1) e := by
  replace h := h.ext ((Ext.refl W).alloc (.cells #[.int .i64 kd, rv] 28))
  have H1 := hide (edLeftOf h)
  have H2 := hide (fun w (E : Ext _ w) => edGoLeft_any (A1 := A1) (A2 := A2) 2 (h.ext E))
  rw [List.length_append] at H1
  obtain ⟨n, hn⟩ : ∃ n, A1.length = n := ⟨_, rfl⟩
  obtain ⟨m, hm⟩ : ∃ m, A2.length = m := ⟨_, rfl⟩
  rw [hn, hm] at hA
  rw [hm] at H2 ⊢
  rw [hn, hm] at H1
  obtain ⟨d, hd⟩ : ∃ d : Int, d = if m = 0 then 2 else 1 := ⟨_, rfl⟩
  rw [← hd] at H2 ⊢
  clear h hn hm hd
  rcases hA with ⟨rfl, rfl⟩ | rfl
  · go_enter Tryz.func90, Tryz.ntmps90
    go_wp2_with fail
    refine (unhide H1).mono ?_
    rintro e w1 ⟨rfl, -, E1⟩
    have H2' := hide ((unhide H2) w1 E1)
    clear H1 H2 E1
    go_wp2_with fail
    refine (unhide H2').mono ?_
    rintro e w2 ⟨rfl, h3⟩
    have H3 := hide h3
    clear h3 H2'
    go_wp2
    exact bodyPost_ret (v := .int .i64 d) (by simp [results, Tryz.results90, go_sem]) rfl ⟨rfl, unhide H3⟩
  · by_cases h0 : n = 0
    · subst h0
      rw [show 0 + 1 = 1 from rfl] at H1
      go_enter Tryz.func90, Tryz.ntmps90
      go_wp2_with fail
      refine (unhide H1).mono ?_
      rintro e w1 ⟨rfl, -, E1⟩
      have H2' := hide ((unhide H2) w1 E1)
      clear H1 H2 E1
      go_wp2_with fail
      refine (unhide H2').mono ?_
      rintro e w2 ⟨rfl, h3⟩
      have H3 := hide h3
      clear h3 H2'
      go_wp2
      exact bodyPost_ret (v := .int .i64 d) (by simp [results, Tryz.results90, go_sem]) rfl ⟨rfl, unhide H3⟩
    · have h1 : ¬ ((n + 1 : Nat) : Int) < 1 := by omega
      have h2 : (1 : Int) < ((n + 1 : Nat) : Int) := by omega
      have h3 : ¬ ((n + 1 : Nat) : Int) ≤ 1 := by omega
      obtain ⟨p, hp⟩ : ∃ p, n + 1 = p := ⟨_, rfl⟩
      rw [hp] at H1 h1 h2 h3
      clear hp
      go_enter Tryz.func90, Tryz.ntmps90
      go_wp2_with fail
      refine (unhide H1).mono ?_
      rintro e w1 ⟨rfl, -, E1⟩
      have H2' := hide ((unhide H2) w1 E1)
      clear H1 H2 E1
      go_wp2_with fail
      refine (unhide H2').mono ?_
      rintro e w2 ⟨rfl, h3⟩
      have H3 := hide h3
      clear h3 H2'
      go_wp2
      exact bodyPost_ret (v := .int .i64 d) (by simp [results, Tryz.results90, go_sem]) rfl ⟨rfl, unhide H3⟩
set_option maxRecDepth 10000 in
set_option maxHeartbeats 4000000 in
theorem edRight_any {A1 A2 B : List (List Int × Int)} (kd : Int) (rv : Value) (hA : (B.length = 0 ∧ A2.length = 0) ∨ A2.length = 1) (h : Ed2 P base W0 W k u un A1 (A2 ++ B) cl rl rr) :
    Calls Tryz.prog 91 #[.pointer (some ⟨P, 0, none⟩), .agg #[.int .i64 kd, rv]] W fun e w' => EdR P base W0 w' k un (A1 ++ A2) B (if A2.length = 0 then 2 else 1) e := by
  replace h := h.ext ((Ext.refl W).alloc (.cells #[.int .i64 kd, rv] 28))
  have H1 := hide (edRightOf h)
  have H2 := hide (fun w (E : Ext _ w) => edGoRight_any (B1 := A2) (B2 := B) 2 (h.ext E))
  rw [List.length_append] at H1
  obtain ⟨n, hn⟩ : ∃ n, B.length = n := ⟨_, rfl⟩
  obtain ⟨m, hm⟩ : ∃ m, A2.length = m := ⟨_, rfl⟩
  rw [hn, hm] at hA
  rw [hm] at H2 ⊢
  rw [hn, hm] at H1
  obtain ⟨d, hd⟩ : ∃ d : Int, d = if m = 0 then 2 else 1 := ⟨_, rfl⟩
  rw [← hd] at H2 ⊢
  clear h hn hm hd
  rcases hA with ⟨rfl, rfl⟩ | rfl
  · go_enter Tryz.func91, Tryz.ntmps91
    go_wp2_with fail
    refine (unhide H1).mono ?_
    rintro e w1 ⟨ao, cap, rfl, -, E1⟩
    have H2' := hide ((unhide H2) w1 E1)
    clear H1 H2 E1
    go_wp2_with fail
    refine (unhide H2').mono ?_
    rintro e w2 ⟨rfl, h3⟩
    have H3 := hide h3
    clear h3 H2'
    go_wp2
    exact bodyPost_ret (v := .int .i64 d) (by simp [results, Tryz.results91, go_sem]) rfl ⟨rfl, unhide H3⟩
  · by_cases h0 : n = 0
    · subst h0
      rw [show 1 + 0 = 1 from rfl] at H1
      go_enter Tryz.func91, Tryz.ntmps91
      go_wp2_with fail
      refine (unhide H1).mono ?_
      rintro e w1 ⟨ao, cap, rfl, -, E1⟩
      have H2' := hide ((unhide H2) w1 E1)
      clear H1 H2 E1
      go_wp2_with fail
      refine (unhide H2').mono ?_
      rintro e w2 ⟨rfl, h3⟩
      have H3 := hide h3
      clear h3 H2'
      go_wp2
      exact bodyPost_ret (v := .int .i64 d) (by simp [results, Tryz.results91, go_sem]) rfl ⟨rfl, unhide H3⟩
    · have h1 : ¬ ((1 + n : Nat) : Int) < 1 := by omega
      have h2 : (1 : Int) < ((1 + n : Nat) : Int) := by omega
      have h3 : ¬ ((1 + n : Nat) : Int) ≤ 1 := by omega
      obtain ⟨p, hp⟩ : ∃ p, 1 + n = p := ⟨_, rfl⟩
      rw [hp] at H1 h1 h2 h3
      clear hp
      go_enter Tryz.func91, Tryz.ntmps91
      go_wp2_with fail
      refine (unhide H1).mono ?_
      rintro e w1 ⟨ao, cap, rfl, -, E1⟩
      have H2' := hide ((unhide H2) w1 E1)
      clear H1 H2 E1
      go_wp2_with fail
      refine (unhide H2').mono ?_
      rintro e w2 ⟨rfl, h3⟩
      have H3 := hide h3
      clear h3 H2'
      go_wp2
      exact bodyPost_ret (v := .int .i64 d) (by simp [results, Tryz.results91, go_sem]) rfl ⟨rfl, unhide H3⟩
end
end Go.Proofs.YtokjpnlmkecleaaGreatDoor

namespace Go.Proofs.YtokjpnlmkecleaaGreatDoor
open Go.RowKit
theorem edC_kill {cl : List Value} {fr bh : Int} {k k' : ByteArray} {u : Value} (h : cl.length = 600) : (edC cl fr bh k u).setIfInBounds 602 (.string k') = edC cl fr bh k' u := by
  unfold edC
  simp [h]
theorem edG_kill {W : World} {P : Nat} {cl : List Value} {fr bh : Int} {k : ByteArray} {u : Value} (h : W.heap[P]? = some (.cells (edC cl fr bh k u) 99 (0, 0))) : W.frozen? ⟨P, 602, none⟩ = false := Lib.frozen_of_heap h 602
section
variable {P base : Nat} {W0 W : World} {k : ByteArray} {u : Value} {un : List (ByteArray × ByteArray)} {cl rl rr : List Value}
theorem Ed2.kill {A B : List (List Int × Int)} (h : Ed2 P base W0 W k u un A B cl rl rr) (k' : ByteArray) : Ed2 P base W0 (W.setCell ⟨P, 602, none⟩ (.string k')) k' u un A B cl rl rr := by
  have f : Fr (fun q => q = P) W (W.setCell ⟨P, 602, none⟩ (.string k')) := Fr.setCell (S := fun q => q = P) (Fr.refl _ W) (a := ⟨P, 602, none⟩) rfl _
  have hb := heap_setCell_same W P 602 _ _ (.string k') h.blk
  rw [edC_kill h.gap.len] at hb
  exact h.step hb (h.gap.fr f) f
end
section
variable {P base : Nat} {W : World} {k : ByteArray} {u : Value} {qs : List Nat} {un : List (ByteArray × ByteArray)} {cl rl rr : List Value}
set_option maxRecDepth 10000 in
set_option maxHeartbeats 4000000 in
theorem killBy_no {w : World} {A B : List (List Int × Int)} (tk : Value) (h : Ed0 P base W k u qs un A B cl rl rr) (E : Ext W w) :
    Calls Tryz.prog 127 #[.pointer (some ⟨P, 0, none⟩), tk, .int .i64 0] w fun e w' => EdR P base W w' k un A B 2 e := by
  have H0 := hide (h.same E 2)
  clear h E
  go_enter Tryz.func127, Tryz.ntmps127
  go_wp2
  exact bodyPost_ret (v := .int .i64 2) (by simp [results, Tryz.results127, go_sem]) rfl (unhide H0)
set_option maxRecDepth 10000 in
set_option maxHeartbeats 4000000 in
theorem killByL_any {w : World} {A1 A2 B : List (List Int × Int)} (hp : 0 < A2.length) (hc : CkC A2) (h : Ed0 P base W k u qs un (A1 ++ A2) B cl rl rr) (E : Ext W w) :
    Calls Tryz.prog 127 #[.pointer (some ⟨P, 0, none⟩), .func (.func 120) #[.pointer (some ⟨P, 0, none⟩)] #[], .int .i64 (A2.length : Int)] w fun e w' => EdR P base W w' (toBA (textC A2)) (undoN un (toBA (textC (A1 ++ A2)), toBA (textC B))) A1 B 1 e := by
  have H1 := hide (edChangeE h E)
  have H2 := hide (fun w u' un' (g : Ed2 P base W w k u' un' (A1 ++ A2) B cl rl rr) => edTakeL g)
  have H3 := hide (fun w v (hv : ClsAt w v A2) => implTextOf_any v A2 w hv hc.1 hc.2)
  obtain ⟨n, hn⟩ : ∃ n, A2.length = n := ⟨_, rfl⟩
  rw [hn] at hp H2 ⊢
  have hI : ¬ (n : Int) = 0 := by omega
  have hI2 : ¬ n = 0 := by omega
  clear h hn E hc
  go_enter Tryz.func127, Tryz.ntmps127
  go_wp2_with fail
  refine (unhide H1).mono ?_
  rintro e w1 ⟨u1, rfl, g1, -⟩
  have H2' := hide ((unhide H2) w1 u1 _ g1)
  clear H1 g1 H2
  go_wp2_with fail
  refine (unhide H2').mono ?_
  rintro e w2 ⟨v2, rl2, rfl, g2, c2⟩
  have H3' := hide ((unhide H3) w2 v2 c2)
  have HG := hide g2
  clear H2' g2 c2 H3
  go_wp2_with fail
  refine (unhide H3').mono ?_
  rintro e w3 ⟨rfl, E3⟩
  have HG3 := hide ((unhide HG).ext E3)
  have c602 := (edG_cells (unhide HG3).blk (unhide HG3).gap.len).2.2.1
  have f602 := edG_kill (unhide HG3).blk
  have H4 := hide (((unhide HG3).kill (toBA (textC A2))).end 1)
  clear HG E3 H3'
  go_wp2
  exact bodyPost_ret (v := .int .i64 1) (by simp [results, Tryz.results127, go_sem]) rfl (unhide H4)
set_option maxRecDepth 10000 in
set_option maxHeartbeats 4000000 in
theorem killByR_any {w : World} {A B1 B2 : List (List Int × Int)} (hp : 0 < B1.length) (hc : CkC B1) (h : Ed0 P base W k u qs un A (B1 ++ B2) cl rl rr) (E : Ext W w) :
    Calls Tryz.prog 127 #[.pointer (some ⟨P, 0, none⟩), .func (.func 121) #[.pointer (some ⟨P, 0, none⟩)] #[], .int .i64 (B1.length : Int)] w fun e w' => EdR P base W w' (toBA (textC B1)) (undoN un (toBA (textC A), toBA (textC (B1 ++ B2)))) A B2 1 e := by
  have H1 := hide (edChangeE h E)
  have H2 := hide (fun w u' un' (g : Ed2 P base W w k u' un' A (B1 ++ B2) cl rl rr) => edTakeR g)
  have H3 := hide (fun w v (hv : ClsAt w v B1) => implTextOf_any v B1 w hv hc.1 hc.2)
  obtain ⟨n, hn⟩ : ∃ n, B1.length = n := ⟨_, rfl⟩
  rw [hn] at hp H2 ⊢
  have hI : ¬ (n : Int) = 0 := by omega
  have hI2 : ¬ n = 0 := by omega
  clear h hn E hc
  go_enter Tryz.func127, Tryz.ntmps127
  go_wp2_with fail
  refine (unhide H1).mono ?_
  rintro e w1 ⟨u1, rfl, g1, -⟩
  have H2' := hide ((unhide H2) w1 u1 _ g1)
  clear H1 g1 H2
  go_wp2_with fail
  refine (unhide H2').mono ?_
  rintro e w2 ⟨v2, rl2, rfl, g2, c2⟩
  have H3' := hide ((unhide H3) w2 v2 c2)
  have HG := hide g2
  clear H2' g2 c2 H3
  go_wp2_with fail
  refine (unhide H3').mono ?_
  rintro e w3 ⟨rfl, E3⟩
  have HG3 := hide ((unhide HG).ext E3)
  have c602 := (edG_cells (unhide HG3).blk (unhide HG3).gap.len).2.2.1
  have f602 := edG_kill (unhide HG3).blk
  have H4 := hide (((unhide HG3).kill (toBA (textC B1))).end 1)
  clear HG E3 H3'
  go_wp2
  exact bodyPost_ret (v := .int .i64 1) (by simp [results, Tryz.results127, go_sem]) rfl (unhide H4)
end
end Go.Proofs.YtokjpnlmkecleaaGreatDoor

namespace Go.Proofs.YtokjpnlmkecleaaGreatDoor
open Go.RowKit
theorem Wd.same {p : Nat → Bool} {n s : Nat} (h : Wd p n s) : ∀ r, Wd p n r → r = s := fun _ hr => hr.only h
section
variable {P base : Nat} {W0 W : World} {k : ByteArray} {u : Value} {un : List (ByteArray × ByteArray)} {cl rl rr : List Value}
set_option maxRecDepth 10000 in
set_option maxHeartbeats 4000000 in
theorem edFront_any {A B : List (List Int × Int)} (h : Ed2 P base W0 W k u un A B cl rl rr) :
    Calls Tryz.prog 124 #[.pointer (some ⟨P, 0, none⟩)] W fun e w' => ∃ r : Nat, e = .returned (.int .i64 (r : Int)) ∧ Wd (fun j => spB (cR A (A.length - 1 - j))) A.length r ∧ Ext W w' := by
  have H1 := hide (edLeftOf h)
  have hf := h.gap.fit
  have H2 := hide (fun w X v (hB : w.cell? ⟨X, 0, none⟩ = some v) (hv : ClsAt w v A) => wordFront_len X v A (by omega) w hB hv)
  obtain ⟨p, hp⟩ : ∃ p : Nat → Prop, p = (fun r => Wd (fun j => spB (cR A (A.length - 1 - j))) A.length r) := ⟨_, rfl⟩
  have hp2 : ∀ r, Wd (fun j => spB (cR A (A.length - 1 - j))) A.length r ↔ p r := fun r => by rw [hp]
  simp only [hp2] at H2 ⊢
  obtain ⟨n, hn⟩ : ∃ n, A.length = n := ⟨_, rfl⟩
  rw [hn] at H1 H2
  have hmf : ∀ (fn : Fn) (first cap : Array Value) (w : World), (Instr.makeFunc fn first cap).run Tryz.prog w = .ok (.func fn first cap) w := fun _ _ _ _ => rfl
  clear h hn hp hf hp2
  go_enter Tryz.func124, Tryz.ntmps124
  go_wp2_with fail
  refine (unhide H1).mono ?_
  rintro e w1 ⟨rfl, hc, E1⟩
  have HC := hide hc
  have HE := hide E1
  clear H1 hc E1
  go_wp2_with fail
  refine ((unhide H2) _ w1.heap.size _ (cells_of (new_block w1 _) 0 _ rfl) ((unhide HC).ext ((Ext.refl w1).alloc _))).mono ?_
  rintro e w2 ⟨r, rfl, hr, E2⟩
  have HE2 := hide ((unhide HE).trans (((Ext.refl w1).alloc _).trans E2))
  have HR := hide hr
  clear H2 HC HE E2 hr
  go_wp2
  exact bodyPost_ret (v := .int .i64 (r : Int)) (by simp [results, Tryz.results124, go_sem]) rfl ⟨r, rfl, unhide HR, unhide HE2⟩
set_option maxRecDepth 10000 in
set_option maxHeartbeats 4000000 in
theorem edWordLeft_any {A1 A2 B : List (List Int × Int)} (kd : Int) (rv : Value) (hW : Wd (fun j => spB (cR (A1 ++ A2) ((A1 ++ A2).length - 1 - j))) (A1 ++ A2).length A2.length) (h : Ed2 P base W0 W k u un (A1 ++ A2) B cl rl rr) :
    Calls Tryz.prog 94 #[.pointer (some ⟨P, 0, none⟩), .agg #[.int .i64 kd, rv]] W fun e w' => EdR P base W0 w' k un A1 (A2 ++ B) (if A2.length = 0 then 2 else 1) e := by
  replace h := h.ext ((Ext.refl W).alloc (.cells #[.int .i64 kd, rv] 28))
  have H1 := hide (edFront_any h)
  have H2 := hide (fun w (E : Ext _ w) => edGoLeft_any (A1 := A1) (A2 := A2) 2 (h.ext E))
  have HW := hide (Wd.same hW)
  obtain ⟨d, hd⟩ : ∃ d : Int, d = if A2.length = 0 then 2 else 1 := ⟨_, rfl⟩
  rw [← hd] at H2 ⊢
  clear h hd hW
  go_enter Tryz.func94, Tryz.ntmps94
  go_wp2_with fail
  refine (unhide H1).mono ?_
  rintro e w1 ⟨r, rfl, hr, E1⟩
  have H2' := hide ((unhide H2) w1 E1)
  rw [← (unhide HW) r hr] at H2'
  clear H1 H2 E1 hr HW
  go_wp2_with fail
  refine (unhide H2').mono ?_
  rintro e w2 ⟨rfl, h3⟩
  have H3 := hide h3
  clear h3 H2'
  go_wp2
  exact bodyPost_ret (v := .int .i64 d) (by simp [results, Tryz.results94, go_sem]) rfl ⟨rfl, unhide H3⟩
set_option maxRecDepth 10000 in
set_option maxHeartbeats 4000000 in
theorem edWordRight_any {A B1 B2 : List (List Int × Int)} (kd : Int) (rv : Value) (hW : Wd (fun j => spB (cR (B1 ++ B2) j)) (B1 ++ B2).length B1.length) (h : Ed2 P base W0 W k u un A (B1 ++ B2) cl rl rr) :
    Calls Tryz.prog 95 #[.pointer (some ⟨P, 0, none⟩), .agg #[.int .i64 kd, rv]] W fun e w' => EdR P base W0 w' k un (A ++ B1) B2 (if B1.length = 0 then 2 else 1) e := by
  replace h := h.ext ((Ext.refl W).alloc (.cells #[.int .i64 kd, rv] 28))
  have hf := h.gap.fit
  have H1 := hide (edRightOf h)
  have H4 := hide (fun w X v (hB : w.cell? ⟨X, 0, none⟩ = some v) (hv : ClsAt w v (B1 ++ B2)) => wordRight_len X v (B1 ++ B2) (by omega) w hB hv)
  have H2 := hide (fun w (E : Ext _ w) => edGoRight_any (B1 := B1) (B2 := B2) 2 (h.ext E))
  have HW := hide (Wd.same hW)
  obtain ⟨d, hd⟩ : ∃ d : Int, d = if B1.length = 0 then 2 else 1 := ⟨_, rfl⟩
  rw [← hd] at H2 ⊢
  have hmf : ∀ (fn : Fn) (first cap : Array Value) (w : World), (Instr.makeFunc fn first cap).run Tryz.prog w = .ok (.func fn first cap) w := fun _ _ _ _ => rfl
  clear h hd hW hf
  obtain ⟨n, hn⟩ : ∃ n, (B1 ++ B2).length = n := ⟨_, rfl⟩
  have HN := hide hn
  rw [hn] at H1
  clear hn
  go_enter Tryz.func95, Tryz.ntmps95
  go_wp2_with fail
  refine (unhide H1).mono ?_
  rintro e w1 ⟨ao, cap, rfl, hc, E1⟩
  have H4' := hide ((unhide H4) (w1.alloc (.cells #[.slice ao n cap] 64)) w1.heap.size _ (cells_of (new_block w1 _) 0 _ rfl) (hc.ext ((Ext.refl w1).alloc _)))
  have HE := hide (E1.trans ((Ext.refl w1).alloc (.cells #[.slice ao n cap] 64)))
  rw [unhide HN] at H4'
  clear H1 H4 E1 hc
  go_wp2_with fail
  refine (unhide H4').mono ?_
  rintro e w2 ⟨r, rfl, hr, E2⟩
  have H2' := hide ((unhide H2) w2 ((unhide HE).trans E2))
  rw [unhide HN] at HW
  rw [← (unhide HW) r hr] at H2'
  clear H4' H2 E2 hr HW HE HN
  go_wp2_with fail
  refine (unhide H2').mono ?_
  rintro e w3 ⟨rfl, h3⟩
  have H3 := hide h3
  clear h3 H2'
  go_wp2
  exact bodyPost_ret (v := .int .i64 d) (by simp [results, Tryz.results95, go_sem]) rfl ⟨rfl, unhide H3⟩
end
end Go.Proofs.YtokjpnlmkecleaaGreatDoor

namespace Go.Proofs.YtokjpnlmkecleaaGreatDoor
open Go.RowKit
def handF (kd : Int) : Int := if kd = 3 then 3 else if kd = 21 then 4 else if kd = 10 then 5 else if kd = 11 then 6 else if kd = 20 then 7 else 0
set_option maxRecDepth 10000 in
set_option maxHeartbeats 4000000 in
theorem l4Handed_any (kd : Int) (w : World) :
    Calls Tryz.prog 41 #[.int .i64 kd] w fun e w' => e = .returned (.int .i64 (handF kd)) ∧ Ext w w' := by
  obtain ⟨V, hV⟩ : ∃ V, V = w.alloc (.cells #[.int .i64 3, .int .i64 21, .int .i64 10, .int .i64 11, .int .i64 20] 3) := ⟨_, rfl⟩
  have E0 : Ext w V := by rw [hV]; exact (Ext.refl w).alloc _
  have hb : V.heap[w.heap.size]? = some (.cells #[.int .i64 3, .int .i64 21, .int .i64 10, .int .i64 11, .int .i64 20] 3 (0, 0)) := by rw [hV]; exact new_block w _
  have k0 : V.cell? ⟨w.heap.size, 0, none⟩ = some (.int .i64 3) := cells_of hb 0 _ rfl
  have k1 : V.cell? ⟨w.heap.size, 1, none⟩ = some (.int .i64 21) := cells_of hb 1 _ rfl
  have k2 : V.cell? ⟨w.heap.size, 2, none⟩ = some (.int .i64 10) := cells_of hb 2 _ rfl
  have k3 : V.cell? ⟨w.heap.size, 3, none⟩ = some (.int .i64 11) := cells_of hb 3 _ rfl
  have k4 : V.cell? ⟨w.heap.size, 4, none⟩ = some (.int .i64 20) := cells_of hb 4 _ rfl
  have HE := hide E0
  have HV := hide hV
  clear hb hV E0
  go_enter Tryz.func41, Tryz.ntmps41
  go_wp2
  rw [← unhide HV]
  clear HV
  go_loopw [4] (fun i wr => ∃ j : Nat, j ≤ 5 ∧ i = .int .i64 j ∧ Hid (wr = V) ∧ Hid ((0 < j → kd ≠ 3) ∧ (1 < j → kd ≠ 21) ∧ (2 < j → kd ≠ 10) ∧ (3 < j → kd ≠ 11) ∧ (4 < j → kd ≠ 20))) (fun i _ => 5 - (intOf i).toNat)
  case atStart => exact ⟨0, Nat.zero_le _, rfl, hide rfl, hide ⟨by omega, by omega, by omega, by omega, by omega⟩⟩
  case round =>
    obtain ⟨j, hj, rfl, HV2, HK⟩ := hrel
    have hV2 := unhide HV2
    subst hV2
    clear HV2
    have : j = 0 ∨ j = 1 ∨ j = 2 ∨ j = 3 ∨ j = 4 ∨ j = 5 := by omega
    rcases this with rfl | rfl | rfl | rfl | rfl | rfl
    · by_cases hk : kd = 3
      · subst hk
        go_wp2
        exact bodyPost_ret (v := .int .i64 3) (by simp [results, Tryz.results41, go_sem]) rfl ⟨rfl, unhide HE⟩
      · have hk2 : ¬ 3 = kd := fun e => hk e.symm
        have HKs : Hid ((0 < 1 → kd ≠ 3) ∧ (1 < 1 → kd ≠ 21) ∧ (2 < 1 → kd ≠ 10) ∧ (3 < 1 → kd ≠ 11) ∧ (4 < 1 → kd ≠ 20)) := hide (by
          obtain ⟨m0, m1, m2, m3, m4⟩ := unhide HK
          exact ⟨fun _ => hk, fun h => absurd h (by omega), fun h => absurd h (by omega), fun h => absurd h (by omega), fun h => absurd h (by omega)⟩)
        clear HK
        go_wp2
        go_roundw
        case rel => exact ⟨1, by omega, by go_num, (by first | exact hide rfl | exact hide trivial), HKs⟩
        case measure => simp [intOf]
    · by_cases hk : kd = 21
      · subst hk
        go_wp2
        exact bodyPost_ret (v := .int .i64 4) (by simp [results, Tryz.results41, go_sem]) rfl ⟨rfl, unhide HE⟩
      · have hk2 : ¬ 21 = kd := fun e => hk e.symm
        have HKs : Hid ((0 < 2 → kd ≠ 3) ∧ (1 < 2 → kd ≠ 21) ∧ (2 < 2 → kd ≠ 10) ∧ (3 < 2 → kd ≠ 11) ∧ (4 < 2 → kd ≠ 20)) := hide (by
          obtain ⟨m0, m1, m2, m3, m4⟩ := unhide HK
          exact ⟨fun _ => m0 (by omega), fun _ => hk, fun h => absurd h (by omega), fun h => absurd h (by omega), fun h => absurd h (by omega)⟩)
        clear HK
        go_wp2
        go_roundw
        case rel => exact ⟨2, by omega, by go_num, (by first | exact hide rfl | exact hide trivial), HKs⟩
        case measure => simp [intOf]
    · by_cases hk : kd = 10
      · subst hk
        go_wp2
        exact bodyPost_ret (v := .int .i64 5) (by simp [results, Tryz.results41, go_sem]) rfl ⟨rfl, unhide HE⟩
      · have hk2 : ¬ 10 = kd := fun e => hk e.symm
        have HKs : Hid ((0 < 3 → kd ≠ 3) ∧ (1 < 3 → kd ≠ 21) ∧ (2 < 3 → kd ≠ 10) ∧ (3 < 3 → kd ≠ 11) ∧ (4 < 3 → kd ≠ 20)) := hide (by
          obtain ⟨m0, m1, m2, m3, m4⟩ := unhide HK
          exact ⟨fun _ => m0 (by omega), fun _ => m1 (by omega), fun _ => hk, fun h => absurd h (by omega), fun h => absurd h (by omega)⟩)
        clear HK
        go_wp2
        go_roundw
        case rel => exact ⟨3, by omega, by go_num, (by first | exact hide rfl | exact hide trivial), HKs⟩
        case measure => simp [intOf]
    · by_cases hk : kd = 11
      · subst hk
        go_wp2
        exact bodyPost_ret (v := .int .i64 6) (by simp [results, Tryz.results41, go_sem]) rfl ⟨rfl, unhide HE⟩
      · have hk2 : ¬ 11 = kd := fun e => hk e.symm
        have HKs : Hid ((0 < 4 → kd ≠ 3) ∧ (1 < 4 → kd ≠ 21) ∧ (2 < 4 → kd ≠ 10) ∧ (3 < 4 → kd ≠ 11) ∧ (4 < 4 → kd ≠ 20)) := hide (by
          obtain ⟨m0, m1, m2, m3, m4⟩ := unhide HK
          exact ⟨fun _ => m0 (by omega), fun _ => m1 (by omega), fun _ => m2 (by omega), fun _ => hk, fun h => absurd h (by omega)⟩)
        clear HK
        go_wp2
        go_roundw
        case rel => exact ⟨4, by omega, by go_num, (by first | exact hide rfl | exact hide trivial), HKs⟩
        case measure => simp [intOf]
    · by_cases hk : kd = 20
      · subst hk
        go_wp2
        exact bodyPost_ret (v := .int .i64 7) (by simp [results, Tryz.results41, go_sem]) rfl ⟨rfl, unhide HE⟩
      · have hk2 : ¬ 20 = kd := fun e => hk e.symm
        have HKs : Hid ((0 < 5 → kd ≠ 3) ∧ (1 < 5 → kd ≠ 21) ∧ (2 < 5 → kd ≠ 10) ∧ (3 < 5 → kd ≠ 11) ∧ (4 < 5 → kd ≠ 20)) := hide (by
          obtain ⟨m0, m1, m2, m3, m4⟩ := unhide HK
          exact ⟨fun _ => m0 (by omega), fun _ => m1 (by omega), fun _ => m2 (by omega), fun _ => m3 (by omega), fun _ => hk⟩)
        clear HK
        go_wp2
        go_roundw
        case rel => exact ⟨5, by omega, by go_num, (by first | exact hide rfl | exact hide trivial), HKs⟩
        case measure => simp [intOf]
    · have hh : handF kd = 0 := by
        obtain ⟨m0, m1, m2, m3, m4⟩ := unhide HK
        simp [handF, m0 (by omega), m1 (by omega), m2 (by omega), m3 (by omega), m4 (by omega)]
      clear HK
      go_wp2
      exact bodyPost_ret (v := .int .i64 0) (by simp [results, Tryz.results41, go_sem]) rfl ⟨by rw [hh], unhide HE⟩
end Go.Proofs.YtokjpnlmkecleaaGreatDoor
