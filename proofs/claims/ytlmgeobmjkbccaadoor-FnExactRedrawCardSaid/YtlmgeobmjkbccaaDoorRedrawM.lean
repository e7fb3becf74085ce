import Derived.Test.YtlmgeobmjkbccaaDoorSameT
import Derived.Test.YtlmgeobmjkbccaaDoorPaintM
import Derived.Test.YtlmgeobmjkbccaaDoorEraseT
namespace Go.Proofs.YtlmgeobmjkbccaaDoor
open Go.RowKit
def redrawL (n1 : Nat) (r1 c1 : Int) (n2 : Nat) (ty : Nat → ByteArray) (r2 c2 : Int) (same : Bool) : List Int :=
  @ite _ (bOk n1 r1 c1 ∧ bOk n2 r2 c2) (@instDecidableAnd _ _ (bOkD n1 r1 c1) (bOkD n2 r2 c2)) ((if same = true then goL (r1 - r2) 65 ++ (goL (r2 - r1) 66 ++ (if c1 = c2 then [] else goL (c2 + 1) 71)) else eraseL n1 r1 c1 ++ paintL n2 ty r2 c2)) []
theorem redrawL_len (n1 : Nat) (r1 c1 : Int) (n2 : Nat) (ty : Nat → ByteArray) (r2 c2 : Int) (same : Bool) (h1 : n1 ≤ 1048576) (h2 : n2 ≤ 1048576) : (redrawL n1 r1 c1 n2 ty r2 c2 same).length ≤ slen ty n2 + 2 * n2 + 100 := by
  unfold redrawL
  split
  · rename_i h
    obtain ⟨a, b⟩ := h
    unfold bOk at a b
    split
    · have g1 := goL_len (r1 - r2) 65 (by omega)
      have g2 := goL_len (r2 - r1) 66 (by omega)
      have g3 := goL_len (c2 + 1) 71 (by omega)
      split
      · simp only [List.length_append, List.length_nil]; omega
      · simp only [List.length_append]; omega
    · have e1 := eraseL_len n1 r1 c1 h1
      have e2 := paintL_len n2 ty r2 c2 h2
      simp only [List.length_append]; omega
  · simp
set_option maxRecDepth 10000 in
set_option maxHeartbeats 4000000 in
theorem redrawM_any (v1 v2 : Value) (r1 c1 r2 c2 : Int) (n1 n2 : Nat) (tx ty : Nat → ByteArray) (ok1 : bOk n1 r1 c1) (ok2 : bOk n2 r2 c2) (same : Bool) (hsame : same = true ↔ SameR n1 n2 tx ty) (B ob qb nb : Nat) (w0 w : World) (h : WrS w B ob qb nb []) (hE0 : Ext w0 w) (h0 : w0.heap.size ≤ ob)
    (hv1 : Row1At w0 v1 n1 (fun j => .string (tx j))) (hv2 : Row1At w0 v2 n2 (fun j => .string (ty j))) (hn1 : n1 ≤ 1048576) (hn2 : n2 ≤ 1048576) (hs2 : slen ty n2 ≤ 1048576) :
    Calls Tryd.prog 27 #[wrV ob qb nb, blV v1 r1 c1, blV v2 r2 c2] w fun e w' => e = .returned (.tuple #[]) ∧ WrS w' B ob qb nb (redrawL n1 r1 c1 n2 ty r2 c2 same) ∧ WF B ob w w' := by
  have hcE := hide (fun W (hW : Ext w0 W) => slicesEqual_any v1 v2 n1 n2 tx ty W (hv1.ext hW) (hv2.ext hW) hn1 hn2 (by unfold bOk at ok1; omega) (by unfold bOk at ok2; omega) same hsame)
  have hcR := hide (fun W (hS : WrS W B ob qb nb []) (hW : Ext w0 W) => eraseM_any v1 r1 c1 n1 tx ok1 B ob qb nb [] W hS (hv1.ext hW) hn1 (by simp))
  have hel := eraseL_len n1 r1 c1 hn1
  have hcP := hide (fun W (hS : WrS W B ob qb nb (eraseL n1 r1 c1)) (hW : Ext w0 W) => paintM_any v2 r2 c2 n2 ty ok2 B ob qb nb (eraseL n1 r1 c1) W hS (hv2.ext hW) hn2 (by omega) (by omega))
  obtain ⟨ao, cap, rfl, _, _⟩ := hv1
  obtain ⟨bo, cbp, rfl, _, _⟩ := hv2
  have HS := hide h
  have hob : ob < w.heap.size := Nat.lt_of_lt_of_le h.ltb h.le
  have hltb := h.ltb
  have hw0 := hE0.size
  have ok1' := id ok1
  have ok2' := id ok2
  unfold bOk at ok1' ok2'
  have hx1 := alloc_new w (.cells (wrV ob qb nb).cells 45)
  obtain ⟨U1, hU1⟩ : ∃ U, U = w.alloc (.cells (wrV ob qb nb).cells 45) := ⟨_, rfl⟩
  have hx2 := alloc_new U1 (.cells (blV (.slice ao n1 cap) r1 c1).cells 28)
  obtain ⟨U2, hU2⟩ : ∃ U, U = U1.alloc (.cells (blV (.slice ao n1 cap) r1 c1).cells 28) := ⟨_, rfl⟩
  have hx3 := alloc_new U2 (.cells (blV (.slice bo n2 cbp) r2 c2).cells 28)
  obtain ⟨U3, hU3⟩ : ∃ U, U = U2.alloc (.cells (blV (.slice bo n2 cbp) r2 c2).cells 28) := ⟨_, rfl⟩
  have z1 : U1.heap.size = w.heap.size + 1 := by rw [hU1]; simp
  have z2 : U2.heap.size = w.heap.size + 1 + 1 := by rw [hU2]; simp [z1]
  have e01 : Ext w U1 := by rw [hU1]; exact (Ext.refl w).alloc _
  have e12 : Ext U1 U2 := by rw [hU2]; exact (Ext.refl _).alloc _
  have e23 : Ext U2 U3 := by rw [hU3]; exact (Ext.refl _).alloc _
  rw [← hU1] at hx1
  rw [← hU2, z1] at hx2
  rw [← hU3, z2] at hx3
  have y1 := (e12.trans e23).keep' hx1
  have y2 := e23.keep' hx2
  have HE := hide (e01.trans (e12.trans e23))
  have hU : U3 = ((w.alloc (Obj.cells #[Value.func (Fn.func 32) #[] #[.pointer (some ⟨ob, 0, none⟩)], .func (.func 33) #[] #[.pointer (some ⟨nb, 0, none⟩)], .func (.func 34) #[] #[.pointer (some ⟨nb, 0, none⟩)], .func (.func 35) #[] #[.pointer (some ⟨qb, 0, none⟩)], .func (.func 36) #[] #[.pointer (some ⟨ob, 0, none⟩)]] 45)).alloc (Obj.cells #[.slice ao n1 cap, .int .i64 r1, .int .i64 c1] 28)).alloc (Obj.cells #[.slice bo n2 cbp, .int .i64 r2, .int .i64 c2] 28) := by rw [hU3, hU2, hU1]; rfl
  have HU := hide hU
  clear hU1 hU2 hU3 hx1 hx2 e01 e12 e23 z1 z2 hU h ok1 ok2
  unfold wrV blV at *
  simp only [Value.cells] at y1 y2 hx3
  go_enter Tryd.func27, Tryd.ntmps27
  go_wp2_with fail
  rw [← unhide HU]
  have hE3 := (hE0.trans (unhide HE))
  refine ((unhide hcE) _ hE3).mono ?_
  rintro e w4 ⟨rfl, E4⟩
  have k1 := E4.keep' y1
  have k2 := E4.keep' y2
  have k3 := E4.keep' hx3
  have HS4 := hide ((unhide HS).on ((unhide HE).trans E4))
  have HF4 := hide (WF.of_ext (B := B) (ob := ob) ((unhide HE).trans E4))
  have E04 := hE3.trans E4
  clear y1 y2 hx3 E4 HU
  have a0 := heap_cell' k1 0 _ rfl
  have a1 := heap_cell' k1 1 _ rfl
  have a2 := heap_cell' k1 2 _ rfl
  have a3 := heap_cell' k1 3 _ rfl
  have a4 := heap_cell' k1 4 _ rfl
  have b0 := heap_cell' k2 0 _ rfl
  have b1 := heap_cell' k2 1 _ rfl
  have b2 := heap_cell' k2 2 _ rfl
  have d0 := heap_cell' k3 0 _ rfl
  have d1 := heap_cell' k3 1 _ rfl
  have d2 := heap_cell' k3 2 _ rfl
  have K1 := hide k1
  have K2 := hide k2
  have K3 := hide k3
  clear k1 k2 k3 hE3
  have hne1 : ob ≠ w.heap.size := by omega
  have hne2 : ob ≠ w.heap.size + 1 := by omega
  have hne3 : ob ≠ w.heap.size + 1 + 1 := by omega
  cases hsm : same with
  | false =>
    have hp : Hid (redrawL n1 r1 c1 n2 ty r2 c2 false = eraseL n1 r1 c1 ++ paintL n2 ty r2 c2) := by refine hide ?_; rw [redrawL, if_pos ⟨ok1', ok2'⟩]; rfl
    go_wp2_with fail
    refine ((unhide hcR) _ (unhide HS4) E04).mono ?_
    rintro e w5 ⟨rfl, hS5, hF5⟩
    rw [List.nil_append] at hS5
    have k1 := hF5.keep' (unhide K1) hne1 (by decide)
    have k3 := hF5.keep' (unhide K3) hne3 (by decide)
    have E05 := hF5.1.ext E04 (fun k hk => by rcases hk with rfl | hk <;> omega)
    have HS5 := hide hS5
    have HF5 := hide ((unhide HF4).tr hF5)
    clear a0 a1 a2 a3 a4 b0 b1 b2 d0 d1 d2 hS5 hF5
    have a0 := heap_cell' k1 0 _ rfl
    have a1 := heap_cell' k1 1 _ rfl
    have a2 := heap_cell' k1 2 _ rfl
    have a3 := heap_cell' k1 3 _ rfl
    have a4 := heap_cell' k1 4 _ rfl
    have d0 := heap_cell' k3 0 _ rfl
    have d1 := heap_cell' k3 1 _ rfl
    have d2 := heap_cell' k3 2 _ rfl
    clear k1 k3
    go_wp2_with fail
    refine ((unhide hcP) _ (unhide HS5) E05).mono ?_
    rintro e w6 ⟨rfl, hS6, hF6⟩
    have HS6 := hide hS6
    have HF6 := hide ((unhide HF5).tr hF6)
    clear hS6 hF6
    go_wp2
    exact bodyPost_ret (v := .tuple #[]) (by simp [results, Tryd.results27, go_sem]) rfl ⟨rfl, by rw [hsm, unhide hp]; exact unhide HS6, unhide HF6⟩
  | true =>
    have hp : Hid (redrawL n1 r1 c1 n2 ty r2 c2 true = goL (r1 - r2) 65 ++ (goL (r2 - r1) 66 ++ (if c1 = c2 then [] else goL (c2 + 1) 71))) := by refine hide ?_; rw [redrawL, if_pos ⟨ok1', ok2'⟩]; rfl
    have g1 := goL_len (r1 - r2) 65 (by omega)
    have g2 := goL_len (r2 - r1) 66 (by omega)
    have hc1 := hide (up_any (r1 - r2) (by omega) B ob qb nb [] w4 (unhide HS4) (by simp))
    go_wp2_with fail
    refine (unhide hc1).mono ?_
    rintro e w5 ⟨rfl, hS5, hF5⟩
    rw [List.nil_append] at hS5
    have k1 := hF5.keep' (unhide K1) hne1 (by decide)
    have k2 := hF5.keep' (unhide K2) hne2 (by decide)
    have k3 := hF5.keep' (unhide K3) hne3 (by decide)
    have HS5 := hide hS5
    have HF5 := hide ((unhide HF4).tr hF5)
    clear a0 a1 a2 a3 a4 b0 b1 b2 d0 d1 d2 hS5 hF5 K1 K2 K3
    have a2 := heap_cell' k1 2 _ rfl
    have b1 := heap_cell' k2 1 _ rfl
    have d1 := heap_cell' k3 1 _ rfl
    have K1 := hide k1
    have K2 := hide k2
    have K3 := hide k3
    clear k1 k2 k3
    have hc2 := hide (down_any (r2 - r1) (by omega) B ob qb nb _ w5 (unhide HS5) (by omega))
    go_wp2_with fail
    refine (unhide hc2).mono ?_
    rintro e w6 ⟨rfl, hS6, hF6⟩
    have k1 := hF6.keep' (unhide K1) hne1 (by decide)
    have k2 := hF6.keep' (unhide K2) hne2 (by decide)
    have k3 := hF6.keep' (unhide K3) hne3 (by decide)
    have HS6 := hide hS6
    have HF6 := hide ((unhide HF5).tr hF6)
    clear a2 b1 d1 hS6 hF6
    have a3 := heap_cell' k1 3 _ rfl
    have b2 := heap_cell' k2 2 _ rfl
    have d2 := heap_cell' k3 2 _ rfl
    clear k1 k2 k3
    by_cases hcc : c1 = c2
    · rw [if_pos hcc, List.append_nil] at hp
      subst hcc
      go_wp2
      exact bodyPost_end (v := .tuple #[]) (by simp [results, Tryd.results27, go_sem]) rfl ⟨rfl, by rw [hsm, unhide hp]; exact unhide HS6, unhide HF6⟩
    · rw [if_neg hcc, ← List.append_assoc] at hp
      have hc3 := hide (column_any c2 (by omega) (by omega) B ob qb nb _ w6 (unhide HS6) (by simp only [List.length_append]; omega))
      go_wp2_with fail
      refine (unhide hc3).mono ?_
      rintro e w7 ⟨rfl, hS7, hF7⟩
      have HS7 := hide hS7
      have HF7 := hide ((unhide HF6).tr hF7)
      clear hS7 hF7
      go_wp2
      exact bodyPost_end (v := .tuple #[]) (by simp [results, Tryd.results27, go_sem]) rfl ⟨rfl, by rw [hsm, unhide hp]; exact unhide HS7, unhide HF7⟩
end Go.Proofs.YtlmgeobmjkbccaaDoor
