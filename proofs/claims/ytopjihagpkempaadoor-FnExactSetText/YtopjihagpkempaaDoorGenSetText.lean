import Derived.Test.YtopjihagpkempaaDoorBaL
import Derived.Lib.ItoaNum
import Derived.Lib.Join
import Derived.Deep.RegionHeld3
namespace Go.Proofs.YtopjihagpkempaaDoor
open Go.RowKit

/-- The rows of a block with CR LF between them. -/
def rowsL (tx : Nat → ByteArray) : Nat → List Int
  | 0 => []
  | i + 1 => rowsL tx i ++ ((if i = 0 then [] else [13, 10]) ++ baL (tx i))
/-- The bytes of the first rows together. -/
def slen (tx : Nat → ByteArray) : Nat → Nat
  | 0 => 0
  | i + 1 => slen tx i + (tx i).size
theorem rowsL_bytes (tx : Nat → ByteArray) : ∀ n, Bytes (rowsL tx n)
  | 0 => by intro x hx; simp [rowsL] at hx
  | n + 1 => by
    refine (rowsL_bytes tx n).app (Bytes.app ?_ (baL_bytes _))
    intro x hx
    split at hx
    · simp at hx
    · simp at hx; omega
theorem rowsL_len (tx : Nat → ByteArray) : ∀ n, (rowsL tx n).length ≤ slen tx n + 2 * n
  | 0 => by simp [rowsL]
  | n + 1 => by
    have := rowsL_len tx n
    have h2 : (if n = 0 then ([] : List Int) else [13, 10]).length ≤ 2 := by split <;> simp
    simp only [rowsL, slen, List.length_append, baL_len]
    omega
theorem slen_le (tx : Nat → ByteArray) (n : Nat) : ∀ k, k ≤ n → slen tx k ≤ slen tx n := by
  have aux : ∀ m k, slen tx k ≤ slen tx (k + m) := by
    intro m
    induction m with
    | zero => intro k; exact Nat.le_refl _
    | succ m ih => intro k; have := ih k; rw [← Nat.add_assoc, slen]; omega
  intro k hk
  have := aux (n - k) k
  rwa [show k + (n - k) = n by omega] at this
theorem inter_snoc {α : Type} (sep : List α) : ∀ (xs : List (List α)) (y : List α), sep.intercalate (xs ++ [y]) = if xs = [] then y else sep.intercalate xs ++ sep ++ y
  | [], y => by simp [List.intercalate]
  | [x], y => by simp [List.intercalate]
  | x :: x' :: xs, y => by
    have ih := inter_snoc sep (x' :: xs) y
    simp only [List.intercalate] at ih ⊢
    simp only [List.cons_append, List.intersperse, List.flatten_cons] at ih ⊢
    simp at ih ⊢
    rw [ih]
theorem join_rows (tx : Nat → ByteArray) : ∀ n : Nat, (Lib.join (((List.range n).map tx).map (fun x => x.data.toList)) [13, 10]).map (fun b => ((b.toNat : Nat) : Int)) = rowsL tx n
  | 0 => by simp [Lib.join, rowsL, List.intercalate]
  | n + 1 => by
    have ih := join_rows tx n
    unfold Lib.join at ih ⊢
    rw [List.range_succ, List.map_append, List.map_append, List.map_cons, List.map_nil, List.map_cons, List.map_nil, inter_snoc]
    by_cases h : n = 0
    · subst h
      simp [rowsL, baL]
    · rw [if_neg (by simp [h]), List.map_append, List.map_append, ih, rowsL, if_neg h, List.append_assoc]
      rfl
theorem dec_dg : ∀ u : Nat, 0 < u → (Lib.decDigits u).map (fun b => ((b.toNat : Nat) : Int)) = dg u := by
  intro u
  induction u using Nat.strongRecOn with
  | _ u ih =>
    intro h
    rw [dg_step u h, Lib.decDigits]
    by_cases h1 : u < 10
    · rw [dif_pos h1, show u / 10 = 0 by omega]
      simp [dg, dgs, Nat.mod_eq_of_lt h1]
      omega
    · rw [dif_neg h1, List.map_append, ih (u / 10) (by omega) (by omega)]
      simp
      omega
theorem itoa_dg (n : Int) (h : 0 < n) : (Lib.itoa n).map (fun b => ((b.toNat : Nat) : Int)) = dg n.toNat := by
  rw [Lib.itoa, if_neg (by omega)]
  exact dec_dg _ (by omega)
theorem dg_bytes : ∀ u : Nat, Bytes (dg u) := by
  intro u
  induction u using Nat.strongRecOn with
  | _ u ih =>
    by_cases h : u = 0
    · subst h; intro x hx; simp [dg, dgs] at hx
    · rw [dg_step u (by omega)]
      refine (ih (u / 10) (by omega)).app ?_
      intro x hx
      simp at hx
      omega
theorem dg_short : ∀ (k u : Nat), u < 10 ^ k → (dg u).length ≤ k := by
  intro k
  induction k with
  | zero => intro u h; simp at h; subst h; simp [dg, dgs]
  | succ k ih =>
    intro u h
    by_cases h0 : u = 0
    · subst h0; simp [dg, dgs]
    · rw [dg_step u (by omega)]
      have := ih (u / 10) (by rw [Nat.pow_succ] at h; omega)
      simp; omega
/-- A sequence with a number; nothing where it is not above 0. -/
def goL (n c : Int) : List Int := if n ≤ 0 then [] else 27 :: 91 :: (dg n.toNat ++ [c])
theorem goL_bytes (n c : Int) (h0 : 0 ≤ c) (h1 : c ≤ 255) : Bytes (goL n c) := by
  unfold goL
  split
  · intro x hx; simp at hx
  · intro x hx
    simp at hx
    rcases hx with rfl | rfl | hx | rfl
    · omega
    · omega
    · exact dg_bytes _ x hx
    · omega
theorem goL_len (n c : Int) (h : n ≤ 99999999) : (goL n c).length ≤ 11 := by
  unfold goL
  split
  · simp
  · have := dg_short 8 n.toNat (by omega)
    simp; omega
/-- Whether a block may be drawn. -/
def bOk (n : Nat) (row col : Int) : Prop := 0 ≤ row ∧ row < (n : Int) ∧ 0 ≤ col ∧ col < 200
abbrev bOkD (n : Nat) (row col : Int) : Decidable (bOk n row col) := inferInstanceAs (Decidable (0 ≤ row ∧ row < (n : Int) ∧ 0 ≤ col ∧ col < 200))
theorem bOk_t {n : Nat} {row col : Int} (h : bOk n row col) : @decide (bOk n row col) (bOkD n row col) = true := @decide_eq_true _ (bOkD n row col) h
theorem bOk_f {n : Nat} {row col : Int} (h : ¬ bOk n row col) : @decide (bOk n row col) (bOkD n row col) = false := @decide_eq_false _ (bOkD n row col) h
def paintL (n : Nat) (tx : Nat → ByteArray) (row col : Int) : List Int := @ite _ (bOk n row col) (bOkD n row col) (rowsL tx n ++ (goL ((n : Int) - 1 - row) 65 ++ goL (col + 1) 71)) []
def eraseL (n : Nat) (row col : Int) : List Int := @ite _ (bOk n row col) (bOkD n row col) (13 :: (goL row 65 ++ [27, 91, 74])) []
theorem paintL_len (n : Nat) (tx : Nat → ByteArray) (row col : Int) (hn : n ≤ 1048576) : (paintL n tx row col).length ≤ slen tx n + 2 * n + 22 := by
  unfold paintL
  split
  · rename_i h
    unfold bOk at h
    have h1 := rowsL_len tx n
    have h2 := goL_len ((n : Int) - 1 - row) 65 (by omega)
    have h3 := goL_len (col + 1) 71 (by omega)
    simp only [List.length_append]; omega
  · simp
theorem eraseL_len (n : Nat) (row col : Int) (hn : n ≤ 1048576) : (eraseL n row col).length ≤ 15 := by
  unfold eraseL
  split
  · rename_i h
    unfold bOk at h
    have h2 := goL_len row 65 (by omega)
    simp only [List.length_append, List.length_cons, List.length_nil]; omega
  · simp
theorem paintL_bytes (n : Nat) (tx : Nat → ByteArray) (row col : Int) : Bytes (paintL n tx row col) := by
  unfold paintL
  split
  · exact (rowsL_bytes tx n).app ((goL_bytes _ _ (by omega) (by omega)).app (goL_bytes _ _ (by omega) (by omega)))
  · intro x hx; simp at hx
theorem eraseL_bytes (n : Nat) (row col : Int) : Bytes (eraseL n row col) := by
  unfold eraseL
  split
  · refine Bytes.app (xs := [13]) (fun x hx => ?_) ((goL_bytes _ _ (by omega) (by omega)).app (fun x hx => ?_))
    · simp at hx; omega
    · simp at hx; omega
  · intro x hx; simp at hx
end Go.Proofs.YtopjihagpkempaaDoor

namespace Go.Proofs.YtopjihagpkempaaDoor
open Go.RowKit

theorem Fr.tr {S : Nat → Prop} {a b c : World} (h : Fr S a b) (k : Fr S b c) : Fr S a c :=
  ⟨k.os.trans h.os, k.tape.trans h.tape, k.output.trans h.output, Nat.le_trans h.size k.size, fun i hi hn => (k.block i (Nat.lt_of_lt_of_le hi h.size) hn).trans (h.block i hi hn)⟩
end Go.Proofs.YtopjihagpkempaaDoor

namespace Go.Proofs.YtopjihagpkempaaDoor
open Go.RowKit

theorem cells_of {W : World} {p : Nat} {cs : Array Value} {T : TypeId} {fz : Nat × Nat} (h : W.heap[p]? = some (.cells cs T fz)) (i : Nat) (x : Value) (hx : cs[i]? = some x) : W.cell? ⟨p, i, none⟩ = some x := by simp [World.cell?, h, hx]
theorem Ext.kept {W W' : World} {p : Nat} {o : Obj} (h : Ext W W') (hp : W.heap[p]? = some o) : W'.heap[p]? = some o := (h.heap (Array.getElem?_eq_some_iff.1 hp).1).trans hp
theorem new_block (w : World) (o : Obj) : (w.alloc o).heap[w.heap.size]? = some o := by unfold World.alloc; simp
end Go.Proofs.YtopjihagpkempaaDoor

namespace Go.Proofs.YtopjihagpkempaaDoor
open Go.RowKit

/-- A datum as values bear it: how a value reads as it, how one owns it (from a block on, its blocks). -/
structure Kd where
  R : World → Value → Prop
  O : World → Nat → (Nat → Prop) → Value → Prop
  rext : ∀ {w w' : World} {v : Value}, R w v → Ext w w' → R w' v
  oext : ∀ {w w' : World} {b : Nat} {S : Nat → Prop} {v : Value}, O w b S v → Ext w w' → O w' b S v
  ofr : ∀ {w w' : World} {b : Nat} {S S' : Nat → Prop} {v : Value}, O w b S v → Fr S' w w' → (∀ g, S g → ¬ S' g) → O w' b S v
  reads : ∀ {w : World} {b : Nat} {S : Nat → Prop} {v : Value}, O w b S v → R w v
  lt : ∀ {w : World} {b : Nat} {S : Nat → Prop} {v : Value}, O w b S v → ∀ g, S g → b ≤ g ∧ g < w.heap.size
def EqOk (F : Nat) (K : Kd) : Prop := ∀ (w : World) (a b : Value), K.R w a → K.R w b → Calls Tryd.prog F #[a, b] w fun e w' => e = .returned (.bool true) ∧ Ext w w'
def MarkOk (F : Nat) (K : Kd) (M : Int → Kd) (m : Nat) : Prop :=
  ∀ (w : World) (b : Nat) (S : Nat → Prop) (v : Value) (k : Int), K.O w b S v → 0 ≤ k → k ≤ 68719476736 → Calls Tryd.prog F #[v, .int .i64 k] w fun e w' => e = .returned (.int .i64 (k + (m : Int))) ∧ (M k).O w' b S v ∧ Fr S w w'
def HeldOk (F : Nat) (M : Int → Kd) (m : Nat) : Prop :=
  ∀ (w : World) (v : Value) (k : Int), (M k).R w v → 0 ≤ k → k ≤ 68719476736 → Calls Tryd.prog F #[v, .int .i64 k] w fun e w' => e = .returned (.int .i64 (k + (m : Int))) ∧ Ext w w'
theorem Fr.kept {S : Nat → Prop} {w w' : World} {p : Nat} {o : Obj} (h : Fr S w w') (hp : w.heap[p]? = some o) (hS : ¬ S p) : w'.heap[p]? = some o := (h.block p (Array.getElem?_eq_some_iff.1 hp).1 hS).trans hp
theorem lt_of_block {w : World} {p : Nat} {o : Obj} (h : w.heap[p]? = some o) : p < w.heap.size := (Array.getElem?_eq_some_iff.1 h).1
/-- Texts. -/
def strsK (n : Nat) (tx : Nat → ByteArray) : Kd where
  R w v := Row1At w v n (fun j => .string (tx j))
  O w b S v := Own1 w b 9 v n (fun j => .string (tx j)) ∧ ∀ g, S g ↔ v.ownBlock = some g
  rext h e := h.ext e
  oext h e := ⟨h.1.ext e, h.2⟩
  ofr h f d := ⟨h.1.fr f (fun g hg => d g ((h.2 g).2 hg)), h.2⟩
  reads h := h.1.reads
  lt h g hg := h.1.lt g ((h.2 g).1 hg)
theorem strsK_shape {n : Nat} {tx : Nat → ByteArray} {w : World} {v : Value} (h : (strsK n tx).R w v) : ∃ a c, v = .slice a n c := by
  obtain ⟨a, c, e, _⟩ := h
  exact ⟨a, c, e⟩
theorem strsK_own {n : Nat} {tx : Nat → ByteArray} {w : World} {b : Nat} {v : Value} (h : Own1 w b 9 v n (fun j => .string (tx j))) : (strsK n tx).O w b (fun g => v.ownBlock = some g) v := ⟨h, fun _ => Iff.rfl⟩
/-- Bytes. -/
def bytesK (zs : List Int) : Kd where
  R w v := IntsAt w .u8 v zs
  O w b S v := w.ownsRow b 5 1 v zs.length (zs.map (Value.int .u8)) ∧ ∀ g, S g ↔ v.ownBlock = some g
  rext h e := h.ext e
  oext h e := ⟨e.owns h.1, h.2⟩
  ofr h f d := ⟨f.owns h.1 (fun g hg => d g ((h.2 g).2 hg)), h.2⟩
  reads h := ints_of_owns h.1
  lt h g hg := h.1.lt g ((h.2 g).1 hg)
theorem bytesK_shape {zs : List Int} {w : World} {v : Value} (h : (bytesK zs).R w v) : ∃ a c, v = .slice a zs.length c := by
  obtain ⟨a, c, e, _⟩ := h
  exact ⟨a, c, e⟩
theorem bytesK_own {zs : List Int} {w : World} {b : Nat} {v : Value} (h : w.ownsRow b 5 1 v zs.length (zs.map (Value.int .u8))) : (bytesK zs).O w b (fun g => v.ownBlock = some g) v := ⟨h, fun _ => Iff.rfl⟩
end Go.Proofs.YtopjihagpkempaaDoor

namespace Go.Proofs.YtopjihagpkempaaDoor
open Go.RowKit

set_option maxRecDepth 10000 in
set_option maxHeartbeats 8000000 in
theorem law_SetText (p0_0 : ByteArray) (p0_1 : ByteArray) (p0_2 : ByteArray) (p0_3a : Option Addr) (p0_3n : Nat) (p0_3c : Nat) (s1 : ByteArray) (q1 : Bool) (w : World)
    (hlen1 : s1.size ≤ 1048576)
    (X0 : Kd) (MX0 : Int → Kd) (mX0 : Nat)
    (K0 : Kd) (MK0 : Int → Kd) (mK0 : Nat)
    (Fit : Prop)
    (HZ : Hid (∀ W, Ext w W → Calls Tryd.prog 4 #[.agg #[.string p0_0, .string p0_1, .string p0_2, .slice p0_3a p0_3n p0_3c], .int .i64 1048576] W fun e w' => ∃ r : Int, e = .returned (.int .i64 r) ∧ (0 ≤ r → Fit) ∧ Ext W w'))
    (HTo0' : Hid (Fit → ∀ W, Ext w W → Calls Tryd.prog 6 #[.agg #[.string p0_0, .string p0_1, .string p0_2, .slice p0_3a p0_3n p0_3c]] W fun e w' => ∃ u S, e = .returned u ∧ X0.O w' W.heap.size S u ∧ Ext W w'))
    (ShX0 : Hid (∀ W u, X0.R W u → ∃ (x0 : ByteArray) (x1 : ByteArray) (x2 : ByteArray) (x3a : Option Addr) (x3n : Nat) (x3c : Nat), u = .agg #[.string x0, .string x1, .string x2, .slice x3a x3n x3c]))
    (HEqX0' : Hid (Fit → EqOk 8 X0)) (HMkX0' : Hid (Fit → MarkOk 9 X0 MX0 mX0 ∧ mX0 ≤ 1073741824))
    (HS' : Hid (Fit → ∀ (W : World) (u0 : Value), Ext w W → X0.R W u0 → Calls Tryd.prog 5 #[u0, .string s1] W fun e w' => ∃ v0, e = .returned (.tuple #[v0, .bool q1]) ∧ K0.R w' v0 ∧ Ext W w'))
    (HI' : Hid (Fit → ∀ (W : World) (u0 : Value), Ext w W → X0.R W u0 → Calls Tryd.prog 7 #[u0, .string s1] W fun e w' => ∃ v0 S0, e = .returned (.tuple #[v0, .bool q1]) ∧ K0.O w' W.heap.size S0 v0 ∧ Ext W w'))
    (ShK0 : Hid (∀ W u, K0.R W u → ∃ (x0 : ByteArray) (x1 : ByteArray) (x2 : ByteArray) (x3a : Option Addr) (x3n : Nat) (x3c : Nat), u = .agg #[.string x0, .string x1, .string x2, .slice x3a x3n x3c]))
    (HEqK0' : Hid (Fit → EqOk 8 K0)) (HMkK0' : Hid (Fit → MarkOk 9 K0 MK0 mK0 ∧ mK0 ≤ 1073741824)) (HHdK0' : Hid (Fit → HeldOk 10 MK0 mK0))
    : Calls Tryd.prog 3 #[.agg #[.string p0_0, .string p0_1, .string p0_2, .slice p0_3a p0_3n p0_3c], .string s1] w fun e w' => e = .returned (.bool true) ∧ Below w.heap.size w w' := by
  have hlI1 : ¬ (1048576 : Int) < (s1.size : Int) := by omega
  go_enter Tryd.func3, Tryd.ntmps3
  go_wp2_with fail
  obtain ⟨W0, hW0⟩ : ∃ W0, W0 = w.alloc (.cells #[.string p0_0, .string p0_1, .string p0_2, .slice p0_3a p0_3n p0_3c] 24) := ⟨_, rfl⟩
  rw [← hW0]
  have E : Ext w W0 := by rw [hW0]; exact (Ext.refl w).alloc _
  have HB_p : Hid (W0.heap[w.heap.size]? = some (.cells #[.string p0_0, .string p0_1, .string p0_2, .slice p0_3a p0_3n p0_3c] 24 (0, 0))) := hide (by rw [hW0]; exact new_block w _)
  have hzW0 := hide (lt_of_block (unhide HB_p))
  clear hW0
  refine ((unhide HZ) _ E).mono ?_
  rintro e w1 ⟨r, rfl, hr, F1⟩
  have hs2 := hide (F1).size
  replace E := E.trans F1
  replace HB_p := hide ((F1).kept (unhide HB_p))
  by_cases hr0 : r < 0
  · go_wp2
    go_ret
    exact ⟨rfl, E.below⟩
  have hfit : Fit := hr (by omega)
  clear hr HZ
  have HTo0 := hide ((unhide HTo0') hfit)
  have HEqX0 := hide ((unhide HEqX0') hfit)
  have HMkX0 := hide ((unhide HMkX0') hfit).1
  have hmX0 := ((unhide HMkX0') hfit).2
  clear HTo0' HEqX0' HMkX0'
  have HEqK0 := hide ((unhide HEqK0') hfit)
  have HMkK0 := hide ((unhide HMkK0') hfit).1
  have hmK0 := ((unhide HMkK0') hfit).2
  have HHdK0 := hide ((unhide HHdK0') hfit)
  clear HEqK0' HMkK0' HHdK0'
  have HS := hide ((unhide HS') hfit)
  have HI := hide ((unhide HI') hfit)
  clear HS' HI' hfit
  have c_p_0 : w1.cell? ⟨w.heap.size, 0, none⟩ = some (.string p0_0) := cells_of (unhide HB_p) 0 _ rfl
  have c_p_1 : w1.cell? ⟨w.heap.size, 1, none⟩ = some (.string p0_1) := cells_of (unhide HB_p) 1 _ rfl
  have c_p_2 : w1.cell? ⟨w.heap.size, 2, none⟩ = some (.string p0_2) := cells_of (unhide HB_p) 2 _ rfl
  have c_p_3 : w1.cell? ⟨w.heap.size, 3, none⟩ = some (.slice p0_3a p0_3n p0_3c) := cells_of (unhide HB_p) 3 _ rfl
  go_wp2_with fail
  clear c_p_0 c_p_1 c_p_2 c_p_3
  refine ((unhide HTo0) _ E).mono ?_
  rintro e w3 ⟨ut0, St0, rfl, ot0, F4⟩
  have HL_t0 : Hid (∀ g, St0 g → w1.heap.size ≤ g ∧ g < w3.heap.size) := hide (X0.lt ot0)
  have hs5 := hide (F4).size
  replace E := E.trans F4
  replace HB_p := hide ((F4).kept (unhide HB_p))
  obtain ⟨t0_0, t0_1, t0_2, t0_3a, t0_3n, t0_3c, rfl⟩ := (unhide ShX0) _ _ (X0.reads ot0)
  have HO_t0 := hide ot0
  clear ot0
  go_wp2_with fail
  refine ((unhide HS) _ _ E (X0.reads (unhide HO_t0))).mono ?_
  rintro e w6 ⟨uw0, rfl, rw0, F7⟩
  have hs8 := hide (F7).size
  replace E := E.trans F7
  replace HB_p := hide ((F7).kept (unhide HB_p))
  replace HO_t0 := hide (X0.oext (unhide HO_t0) F7)
  obtain ⟨w0_0, w0_1, w0_2, w0_3a, w0_3n, w0_3c, rfl⟩ := (unhide ShK0) _ _ rw0
  have HR_w0 := hide rw0
  clear rw0
  have HEw := hide (Ext.refl w6)
  clear HO_t0
  have c_p_0 : ∀ o0, (w6.alloc o0).cell? ⟨w.heap.size, 0, none⟩ = some (.string p0_0) := fun o0 => ((Ext.refl w6).alloc o0).cell (cells_of (unhide HB_p) 0 _ rfl)
  have c_p_1 : ∀ o0, (w6.alloc o0).cell? ⟨w.heap.size, 1, none⟩ = some (.string p0_1) := fun o0 => ((Ext.refl w6).alloc o0).cell (cells_of (unhide HB_p) 1 _ rfl)
  have c_p_2 : ∀ o0, (w6.alloc o0).cell? ⟨w.heap.size, 2, none⟩ = some (.string p0_2) := fun o0 => ((Ext.refl w6).alloc o0).cell (cells_of (unhide HB_p) 2 _ rfl)
  have c_p_3 : ∀ o0, (w6.alloc o0).cell? ⟨w.heap.size, 3, none⟩ = some (.slice p0_3a p0_3n p0_3c) := fun o0 => ((Ext.refl w6).alloc o0).cell (cells_of (unhide HB_p) 3 _ rfl)
  go_wp2_with fail
  clear c_p_0 c_p_1 c_p_2 c_p_3
  obtain ⟨V9, hV9⟩ : ∃ V9, V9 = w6.alloc (.cells #[.string w0_0, .string w0_1, .string w0_2, .slice w0_3a w0_3n w0_3c] 28) := ⟨_, rfl⟩
  rw [← hV9]
  have FV9 : Ext w6 V9 := by rw [hV9]; exact (Ext.refl w6).alloc _
  have HB_w0 : Hid (V9.heap[w6.heap.size]? = some (.cells #[.string w0_0, .string w0_1, .string w0_2, .slice w0_3a w0_3n w0_3c] 28 (0, 0))) := hide (by rw [hV9]; exact new_block w6 _)
  have hzV9 := hide (lt_of_block (unhide HB_w0))
  clear hV9
  have hs10 := hide (FV9).size
  replace E := E.trans FV9
  replace HB_p := hide ((FV9).kept (unhide HB_p))
  replace HEw := hide ((unhide HEw).trans FV9)
  refine ((unhide HTo0) _ E).mono ?_
  rintro e w11 ⟨ux0, Sx0, rfl, ox0, F12⟩
  have HL_x0 : Hid (∀ g, Sx0 g → V9.heap.size ≤ g ∧ g < w11.heap.size) := hide (X0.lt ox0)
  have hs13 := hide (F12).size
  replace E := E.trans F12
  replace HB_p := hide ((F12).kept (unhide HB_p))
  replace HB_w0 := hide ((F12).kept (unhide HB_w0))
  replace HEw := hide ((unhide HEw).trans F12)
  obtain ⟨x0_0, x0_1, x0_2, x0_3a, x0_3n, x0_3c, rfl⟩ := (unhide ShX0) _ _ (X0.reads ox0)
  have HO_x0 := hide ox0
  clear ox0
  go_wp2_with fail
  obtain ⟨V14, hV14⟩ : ∃ V14, V14 = w11.alloc (.cells #[.string x0_0, .string x0_1, .string x0_2, .slice x0_3a x0_3n x0_3c] 28) := ⟨_, rfl⟩
  rw [← hV14]
  have FV14 : Ext w11 V14 := by rw [hV14]; exact (Ext.refl w11).alloc _
  have HB_x0 : Hid (V14.heap[w11.heap.size]? = some (.cells #[.string x0_0, .string x0_1, .string x0_2, .slice x0_3a x0_3n x0_3c] 28 (0, 0))) := hide (by rw [hV14]; exact new_block w11 _)
  have hzV14 := hide (lt_of_block (unhide HB_x0))
  clear hV14
  have hs15 := hide (FV14).size
  replace E := E.trans FV14
  replace HB_p := hide ((FV14).kept (unhide HB_p))
  replace HB_w0 := hide ((FV14).kept (unhide HB_w0))
  replace HO_x0 := hide (X0.oext (unhide HO_x0) FV14)
  replace HEw := hide ((unhide HEw).trans FV14)
  refine ((unhide HI) _ _ E (X0.reads (unhide HO_x0))).mono ?_
  rintro e w16 ⟨ug0, Sg0, rfl, og0, F17⟩
  have HL_g0 : Hid (∀ g, Sg0 g → V14.heap.size ≤ g ∧ g < w16.heap.size) := hide (K0.lt og0)
  have hs18 := hide (F17).size
  replace E := E.trans F17
  replace HB_p := hide ((F17).kept (unhide HB_p))
  replace HB_w0 := hide ((F17).kept (unhide HB_w0))
  replace HB_x0 := hide ((F17).kept (unhide HB_x0))
  replace HO_x0 := hide (X0.oext (unhide HO_x0) F17)
  replace HEw := hide ((unhide HEw).trans F17)
  obtain ⟨g0_0, g0_1, g0_2, g0_3a, g0_3n, g0_3c, rfl⟩ := (unhide ShK0) _ _ (K0.reads og0)
  have HO_g0 := hide og0
  clear og0
  have c_w0_0 : ∀ o0, (w16.alloc o0).cell? ⟨w6.heap.size, 0, none⟩ = some (.string w0_0) := fun o0 => ((Ext.refl w16).alloc o0).cell (cells_of (unhide HB_w0) 0 _ rfl)
  have c_w0_1 : ∀ o0, (w16.alloc o0).cell? ⟨w6.heap.size, 1, none⟩ = some (.string w0_1) := fun o0 => ((Ext.refl w16).alloc o0).cell (cells_of (unhide HB_w0) 1 _ rfl)
  have c_w0_2 : ∀ o0, (w16.alloc o0).cell? ⟨w6.heap.size, 2, none⟩ = some (.string w0_2) := fun o0 => ((Ext.refl w16).alloc o0).cell (cells_of (unhide HB_w0) 2 _ rfl)
  have c_w0_3 : ∀ o0, (w16.alloc o0).cell? ⟨w6.heap.size, 3, none⟩ = some (.slice w0_3a w0_3n w0_3c) := fun o0 => ((Ext.refl w16).alloc o0).cell (cells_of (unhide HB_w0) 3 _ rfl)
  go_wp2_with fail
  clear c_w0_0 c_w0_1 c_w0_2 c_w0_3
  obtain ⟨V19, hV19⟩ : ∃ V19, V19 = w16.alloc (.cells #[.string g0_0, .string g0_1, .string g0_2, .slice g0_3a g0_3n g0_3c] 28) := ⟨_, rfl⟩
  rw [← hV19]
  have FV19 : Ext w16 V19 := by rw [hV19]; exact (Ext.refl w16).alloc _
  have HB_g0 : Hid (V19.heap[w16.heap.size]? = some (.cells #[.string g0_0, .string g0_1, .string g0_2, .slice g0_3a g0_3n g0_3c] 28 (0, 0))) := hide (by rw [hV19]; exact new_block w16 _)
  have hzV19 := hide (lt_of_block (unhide HB_g0))
  clear hV19
  have hs20 := hide (FV19).size
  replace E := E.trans FV19
  replace HB_p := hide ((FV19).kept (unhide HB_p))
  replace HB_w0 := hide ((FV19).kept (unhide HB_w0))
  replace HB_x0 := hide ((FV19).kept (unhide HB_x0))
  replace HO_x0 := hide (X0.oext (unhide HO_x0) FV19)
  replace HO_g0 := hide (K0.oext (unhide HO_g0) FV19)
  replace HEw := hide ((unhide HEw).trans FV19)
  refine ((unhide HEqK0) _ _ _ (K0.reads (unhide HO_g0)) (K0.rext (unhide HR_w0) (unhide HEw))).mono ?_
  rintro e w21 ⟨rfl, F22⟩
  have hs23 := hide (F22).size
  replace E := E.trans F22
  replace HB_p := hide ((F22).kept (unhide HB_p))
  replace HB_w0 := hide ((F22).kept (unhide HB_w0))
  replace HB_x0 := hide ((F22).kept (unhide HB_x0))
  replace HB_g0 := hide ((F22).kept (unhide HB_g0))
  replace HO_x0 := hide (X0.oext (unhide HO_x0) F22)
  replace HO_g0 := hide (K0.oext (unhide HO_g0) F22)
  replace HEw := hide ((unhide HEw).trans F22)
  have c_x0_0 : w21.cell? ⟨w11.heap.size, 0, none⟩ = some (.string x0_0) := cells_of (unhide HB_x0) 0 _ rfl
  have c_x0_1 : w21.cell? ⟨w11.heap.size, 1, none⟩ = some (.string x0_1) := cells_of (unhide HB_x0) 1 _ rfl
  have c_x0_2 : w21.cell? ⟨w11.heap.size, 2, none⟩ = some (.string x0_2) := cells_of (unhide HB_x0) 2 _ rfl
  have c_x0_3 : w21.cell? ⟨w11.heap.size, 3, none⟩ = some (.slice x0_3a x0_3n x0_3c) := cells_of (unhide HB_x0) 3 _ rfl
  have c_p_0 : w21.cell? ⟨w.heap.size, 0, none⟩ = some (.string p0_0) := cells_of (unhide HB_p) 0 _ rfl
  have c_p_1 : w21.cell? ⟨w.heap.size, 1, none⟩ = some (.string p0_1) := cells_of (unhide HB_p) 1 _ rfl
  have c_p_2 : w21.cell? ⟨w.heap.size, 2, none⟩ = some (.string p0_2) := cells_of (unhide HB_p) 2 _ rfl
  have c_p_3 : w21.cell? ⟨w.heap.size, 3, none⟩ = some (.slice p0_3a p0_3n p0_3c) := cells_of (unhide HB_p) 3 _ rfl
  go_wp2
  have HTt := hide (fun U (hU : Ext w21 U) => (unhide HTo0) U (E.trans hU))
  go_region_held3 (fun W => W.cell? ⟨w11.heap.size, 0, none⟩ = some (.string x0_0) ∧ W.cell? ⟨w11.heap.size, 1, none⟩ = some (.string x0_1) ∧ W.cell? ⟨w11.heap.size, 2, none⟩ = some (.string x0_2) ∧ W.cell? ⟨w11.heap.size, 3, none⟩ = some (.slice x0_3a x0_3n x0_3c) ∧ W.cell? ⟨w.heap.size, 0, none⟩ = some (.string p0_0) ∧ W.cell? ⟨w.heap.size, 1, none⟩ = some (.string p0_1) ∧ W.cell? ⟨w.heap.size, 2, none⟩ = some (.string p0_2) ∧ W.cell? ⟨w.heap.size, 3, none⟩ = some (.slice p0_3a p0_3n p0_3c)) (first | exact ⟨c_x0_0, c_x0_1, c_x0_2, c_x0_3, c_p_0, c_p_1, c_p_2, c_p_3⟩ | exact ⟨he'.cell c_x0_0, he'.cell c_x0_1, he'.cell c_x0_2, he'.cell c_x0_3, he'.cell c_p_0, he'.cell c_p_1, he'.cell c_p_2, he'.cell c_p_3⟩)
    (first
      | (go_at_call 6; refine ((unhide HTt) _ (Ext.refl w21).drew).mono ?_; rintro e w24 ⟨uT, ST, rfl, oT, FT⟩; have he' := (Ext.refl w21).drew.trans FT; obtain ⟨yx0, yx1, yx2, yx3a, yx3n, yx3c, rfl⟩ := (unhide ShX0) _ _ (X0.reads oT); have RT := hide (X0.reads oT); clear oT FT)
      | (go_at_call 8; refine ((unhide HEqX0) _ _ _ (X0.rext (X0.reads (unhide HO_x0)) he') (unhide RT)).mono ?_; rintro e w25 ⟨rfl, FE⟩; have he' := he'.trans FE; clear FE))
  clear HTt RT c_x0_0 c_x0_1 c_x0_2 c_x0_3 c_p_0 c_p_1 c_p_2 c_p_3
  have F26 := he'
  clear he'
  have hs27 := hide (F26).size
  replace E := E.trans F26
  replace HB_p := hide ((F26).kept (unhide HB_p))
  replace HB_w0 := hide ((F26).kept (unhide HB_w0))
  replace HB_x0 := hide ((F26).kept (unhide HB_x0))
  replace HB_g0 := hide ((F26).kept (unhide HB_g0))
  replace HO_x0 := hide (X0.oext (unhide HO_x0) F26)
  replace HO_g0 := hide (K0.oext (unhide HO_g0) F26)
  replace HEw := hide ((unhide HEw).trans F26)
  have c_x0_0 : w25.cell? ⟨w11.heap.size, 0, none⟩ = some (.string x0_0) := cells_of (unhide HB_x0) 0 _ rfl
  have c_x0_1 : w25.cell? ⟨w11.heap.size, 1, none⟩ = some (.string x0_1) := cells_of (unhide HB_x0) 1 _ rfl
  have c_x0_2 : w25.cell? ⟨w11.heap.size, 2, none⟩ = some (.string x0_2) := cells_of (unhide HB_x0) 2 _ rfl
  have c_x0_3 : w25.cell? ⟨w11.heap.size, 3, none⟩ = some (.slice x0_3a x0_3n x0_3c) := cells_of (unhide HB_x0) 3 _ rfl
  go_wp2_with fail
  clear c_x0_0 c_x0_1 c_x0_2 c_x0_3
  refine ((unhide HMkX0) _ _ _ _ _ (unhide HO_x0) (by omega) (by omega)).mono ?_
  rintro e w28 ⟨rfl, om, F29⟩
  replace E := F29.ext E (fun _ h9 => by have b9 := (unhide HL_x0) _ h9; have z0 := unhide hzW0; have z1 := unhide hs2; have z2 := unhide hs5; have z3 := unhide hs8; have z4 := unhide hzV9; have z5 := unhide hs10; have z6 := unhide hs13; have z7 := unhide hzV14; have z8 := unhide hs15; have z9 := unhide hs18; have z10 := unhide hzV19; have z11 := unhide hs20; have z12 := unhide hs23; have z13 := unhide hs27; omega)
  replace HEw := hide (F29.ext (unhide HEw) (fun _ h9 => by have b9 := (unhide HL_x0) _ h9; have z0 := unhide hzW0; have z1 := unhide hs2; have z2 := unhide hs5; have z3 := unhide hs8; have z4 := unhide hzV9; have z5 := unhide hs10; have z6 := unhide hs13; have z7 := unhide hzV14; have z8 := unhide hs15; have z9 := unhide hs18; have z10 := unhide hzV19; have z11 := unhide hs20; have z12 := unhide hs23; have z13 := unhide hs27; omega))
  replace HB_p := hide (F29.kept (unhide HB_p) (fun h9 => by have b9 := (unhide HL_x0) _ h9; have z0 := unhide hzW0; have z1 := unhide hs2; have z2 := unhide hs5; have z3 := unhide hs8; have z4 := unhide hzV9; have z5 := unhide hs10; have z6 := unhide hs13; have z7 := unhide hzV14; have z8 := unhide hs15; have z9 := unhide hs18; have z10 := unhide hzV19; have z11 := unhide hs20; have z12 := unhide hs23; have z13 := unhide hs27; omega))
  replace HB_w0 := hide (F29.kept (unhide HB_w0) (fun h9 => by have b9 := (unhide HL_x0) _ h9; have z0 := unhide hzW0; have z1 := unhide hs2; have z2 := unhide hs5; have z3 := unhide hs8; have z4 := unhide hzV9; have z5 := unhide hs10; have z6 := unhide hs13; have z7 := unhide hzV14; have z8 := unhide hs15; have z9 := unhide hs18; have z10 := unhide hzV19; have z11 := unhide hs20; have z12 := unhide hs23; have z13 := unhide hs27; omega))
  replace HB_x0 := hide (F29.kept (unhide HB_x0) (fun h9 => by have b9 := (unhide HL_x0) _ h9; have z0 := unhide hzW0; have z1 := unhide hs2; have z2 := unhide hs5; have z3 := unhide hs8; have z4 := unhide hzV9; have z5 := unhide hs10; have z6 := unhide hs13; have z7 := unhide hzV14; have z8 := unhide hs15; have z9 := unhide hs18; have z10 := unhide hzV19; have z11 := unhide hs20; have z12 := unhide hs23; have z13 := unhide hs27; omega))
  replace HB_g0 := hide (F29.kept (unhide HB_g0) (fun h9 => by have b9 := (unhide HL_x0) _ h9; have z0 := unhide hzW0; have z1 := unhide hs2; have z2 := unhide hs5; have z3 := unhide hs8; have z4 := unhide hzV9; have z5 := unhide hs10; have z6 := unhide hs13; have z7 := unhide hzV14; have z8 := unhide hs15; have z9 := unhide hs18; have z10 := unhide hzV19; have z11 := unhide hs20; have z12 := unhide hs23; have z13 := unhide hs27; omega))
  replace HO_g0 := hide (K0.ofr (unhide HO_g0) F29 (fun q9 h8 h9 => by have b8 := (unhide HL_g0) q9 h8; have b9 := (unhide HL_x0) q9 h9; have z0 := unhide hzW0; have z1 := unhide hs2; have z2 := unhide hs5; have z3 := unhide hs8; have z4 := unhide hzV9; have z5 := unhide hs10; have z6 := unhide hs13; have z7 := unhide hzV14; have z8 := unhide hs15; have z9 := unhide hs18; have z10 := unhide hzV19; have z11 := unhide hs20; have z12 := unhide hs23; have z13 := unhide hs27; omega))
  have hs30 := hide F29.size
  replace HO_x0 := hide om
  clear om
  have hkk : ¬ (1 + (mX0 : Int) : Int) < 0 := by omega
  clear HO_x0
  clear HB_x0
  have c_g0_0 : w28.cell? ⟨w16.heap.size, 0, none⟩ = some (.string g0_0) := cells_of (unhide HB_g0) 0 _ rfl
  have c_g0_1 : w28.cell? ⟨w16.heap.size, 1, none⟩ = some (.string g0_1) := cells_of (unhide HB_g0) 1 _ rfl
  have c_g0_2 : w28.cell? ⟨w16.heap.size, 2, none⟩ = some (.string g0_2) := cells_of (unhide HB_g0) 2 _ rfl
  have c_g0_3 : w28.cell? ⟨w16.heap.size, 3, none⟩ = some (.slice g0_3a g0_3n g0_3c) := cells_of (unhide HB_g0) 3 _ rfl
  have c_w0_0 : w28.cell? ⟨w6.heap.size, 0, none⟩ = some (.string w0_0) := cells_of (unhide HB_w0) 0 _ rfl
  have c_w0_1 : w28.cell? ⟨w6.heap.size, 1, none⟩ = some (.string w0_1) := cells_of (unhide HB_w0) 1 _ rfl
  have c_w0_2 : w28.cell? ⟨w6.heap.size, 2, none⟩ = some (.string w0_2) := cells_of (unhide HB_w0) 2 _ rfl
  have c_w0_3 : w28.cell? ⟨w6.heap.size, 3, none⟩ = some (.slice w0_3a w0_3n w0_3c) := cells_of (unhide HB_w0) 3 _ rfl
  go_wp2_with fail
  clear c_g0_0 c_g0_1 c_g0_2 c_g0_3 c_w0_0 c_w0_1 c_w0_2 c_w0_3
  refine ((unhide HEqK0) _ _ _ (K0.reads (unhide HO_g0)) (K0.rext (unhide HR_w0) (unhide HEw))).mono ?_
  rintro e w31 ⟨rfl, F32⟩
  have hs33 := hide (F32).size
  replace E := E.trans F32
  replace HB_p := hide ((F32).kept (unhide HB_p))
  replace HB_w0 := hide ((F32).kept (unhide HB_w0))
  replace HB_g0 := hide ((F32).kept (unhide HB_g0))
  replace HO_g0 := hide (K0.oext (unhide HO_g0) F32)
  replace HEw := hide ((unhide HEw).trans F32)
  have c_g0_0 : w31.cell? ⟨w16.heap.size, 0, none⟩ = some (.string g0_0) := cells_of (unhide HB_g0) 0 _ rfl
  have c_g0_1 : w31.cell? ⟨w16.heap.size, 1, none⟩ = some (.string g0_1) := cells_of (unhide HB_g0) 1 _ rfl
  have c_g0_2 : w31.cell? ⟨w16.heap.size, 2, none⟩ = some (.string g0_2) := cells_of (unhide HB_g0) 2 _ rfl
  have c_g0_3 : w31.cell? ⟨w16.heap.size, 3, none⟩ = some (.slice g0_3a g0_3n g0_3c) := cells_of (unhide HB_g0) 3 _ rfl
  go_wp2_with fail
  clear c_g0_0 c_g0_1 c_g0_2 c_g0_3
  refine ((unhide HMkK0) _ _ _ _ _ (unhide HO_g0) (by omega) (by omega)).mono ?_
  rintro e w34 ⟨rfl, om, F35⟩
  replace E := F35.ext E (fun _ h9 => by have b9 := (unhide HL_g0) _ h9; have z0 := unhide hzW0; have z1 := unhide hs2; have z2 := unhide hs5; have z3 := unhide hs8; have z4 := unhide hzV9; have z5 := unhide hs10; have z6 := unhide hs13; have z7 := unhide hzV14; have z8 := unhide hs15; have z9 := unhide hs18; have z10 := unhide hzV19; have z11 := unhide hs20; have z12 := unhide hs23; have z13 := unhide hs27; have z14 := unhide hs30; have z15 := unhide hs33; omega)
  replace HEw := hide (F35.ext (unhide HEw) (fun _ h9 => by have b9 := (unhide HL_g0) _ h9; have z0 := unhide hzW0; have z1 := unhide hs2; have z2 := unhide hs5; have z3 := unhide hs8; have z4 := unhide hzV9; have z5 := unhide hs10; have z6 := unhide hs13; have z7 := unhide hzV14; have z8 := unhide hs15; have z9 := unhide hs18; have z10 := unhide hzV19; have z11 := unhide hs20; have z12 := unhide hs23; have z13 := unhide hs27; have z14 := unhide hs30; have z15 := unhide hs33; omega))
  replace HB_p := hide (F35.kept (unhide HB_p) (fun h9 => by have b9 := (unhide HL_g0) _ h9; have z0 := unhide hzW0; have z1 := unhide hs2; have z2 := unhide hs5; have z3 := unhide hs8; have z4 := unhide hzV9; have z5 := unhide hs10; have z6 := unhide hs13; have z7 := unhide hzV14; have z8 := unhide hs15; have z9 := unhide hs18; have z10 := unhide hzV19; have z11 := unhide hs20; have z12 := unhide hs23; have z13 := unhide hs27; have z14 := unhide hs30; have z15 := unhide hs33; omega))
  replace HB_w0 := hide (F35.kept (unhide HB_w0) (fun h9 => by have b9 := (unhide HL_g0) _ h9; have z0 := unhide hzW0; have z1 := unhide hs2; have z2 := unhide hs5; have z3 := unhide hs8; have z4 := unhide hzV9; have z5 := unhide hs10; have z6 := unhide hs13; have z7 := unhide hzV14; have z8 := unhide hs15; have z9 := unhide hs18; have z10 := unhide hzV19; have z11 := unhide hs20; have z12 := unhide hs23; have z13 := unhide hs27; have z14 := unhide hs30; have z15 := unhide hs33; omega))
  replace HB_g0 := hide (F35.kept (unhide HB_g0) (fun h9 => by have b9 := (unhide HL_g0) _ h9; have z0 := unhide hzW0; have z1 := unhide hs2; have z2 := unhide hs5; have z3 := unhide hs8; have z4 := unhide hzV9; have z5 := unhide hs10; have z6 := unhide hs13; have z7 := unhide hzV14; have z8 := unhide hs15; have z9 := unhide hs18; have z10 := unhide hzV19; have z11 := unhide hs20; have z12 := unhide hs23; have z13 := unhide hs27; have z14 := unhide hs30; have z15 := unhide hs33; omega))
  have hs36 := hide F35.size
  replace HO_g0 := hide om
  clear om
  have hq0 : ¬ (1 + (mK0 : Int) : Int) < 0 := by omega
  have c_g0_0 : w34.cell? ⟨w16.heap.size, 0, none⟩ = some (.string g0_0) := cells_of (unhide HB_g0) 0 _ rfl
  have c_g0_1 : w34.cell? ⟨w16.heap.size, 1, none⟩ = some (.string g0_1) := cells_of (unhide HB_g0) 1 _ rfl
  have c_g0_2 : w34.cell? ⟨w16.heap.size, 2, none⟩ = some (.string g0_2) := cells_of (unhide HB_g0) 2 _ rfl
  have c_g0_3 : w34.cell? ⟨w16.heap.size, 3, none⟩ = some (.slice g0_3a g0_3n g0_3c) := cells_of (unhide HB_g0) 3 _ rfl
  go_wp2_with fail
  clear c_g0_0 c_g0_1 c_g0_2 c_g0_3
  refine ((unhide HHdK0) _ _ _ ((MK0 (1)).reads (unhide HO_g0)) (by omega) (by omega)).mono ?_
  rintro e w37 ⟨rfl, F38⟩
  have hs39 := hide (F38).size
  replace E := E.trans F38
  replace HB_p := hide ((F38).kept (unhide HB_p))
  replace HB_w0 := hide ((F38).kept (unhide HB_w0))
  replace HB_g0 := hide ((F38).kept (unhide HB_g0))
  replace HO_g0 := hide ((MK0 (1)).oext (unhide HO_g0) F38)
  replace HEw := hide ((unhide HEw).trans F38)
  have c_p_0 : w37.cell? ⟨w.heap.size, 0, none⟩ = some (.string p0_0) := cells_of (unhide HB_p) 0 _ rfl
  have c_p_1 : w37.cell? ⟨w.heap.size, 1, none⟩ = some (.string p0_1) := cells_of (unhide HB_p) 1 _ rfl
  have c_p_2 : w37.cell? ⟨w.heap.size, 2, none⟩ = some (.string p0_2) := cells_of (unhide HB_p) 2 _ rfl
  have c_p_3 : w37.cell? ⟨w.heap.size, 3, none⟩ = some (.slice p0_3a p0_3n p0_3c) := cells_of (unhide HB_p) 3 _ rfl
  go_wp2_with fail
  clear c_p_0 c_p_1 c_p_2 c_p_3
  refine ((unhide HTo0) _ E).mono ?_
  rintro e w40 ⟨ut0, St0, rfl, ot0, F41⟩
  have HL_t0 : Hid (∀ g, St0 g → w37.heap.size ≤ g ∧ g < w40.heap.size) := hide (X0.lt ot0)
  have hs42 := hide (F41).size
  replace E := E.trans F41
  replace HB_p := hide ((F41).kept (unhide HB_p))
  replace HB_w0 := hide ((F41).kept (unhide HB_w0))
  replace HB_g0 := hide ((F41).kept (unhide HB_g0))
  replace HO_g0 := hide ((MK0 (1)).oext (unhide HO_g0) F41)
  replace HEw := hide ((unhide HEw).trans F41)
  obtain ⟨t0_0, t0_1, t0_2, t0_3a, t0_3n, t0_3c, rfl⟩ := (unhide ShX0) _ _ (X0.reads ot0)
  have HO_t0 := hide ot0
  clear ot0
  go_wp2_with fail
  refine ((unhide HI) _ _ E (X0.reads (unhide HO_t0))).mono ?_
  rintro e w43 ⟨uh0, Sh0, rfl, oh0, F44⟩
  have HL_h0 : Hid (∀ g, Sh0 g → w40.heap.size ≤ g ∧ g < w43.heap.size) := hide (K0.lt oh0)
  have hs45 := hide (F44).size
  replace E := E.trans F44
  replace HB_p := hide ((F44).kept (unhide HB_p))
  replace HB_w0 := hide ((F44).kept (unhide HB_w0))
  replace HB_g0 := hide ((F44).kept (unhide HB_g0))
  replace HO_g0 := hide ((MK0 (1)).oext (unhide HO_g0) F44)
  replace HO_t0 := hide (X0.oext (unhide HO_t0) F44)
  replace HEw := hide ((unhide HEw).trans F44)
  obtain ⟨h0_0, h0_1, h0_2, h0_3a, h0_3n, h0_3c, rfl⟩ := (unhide ShK0) _ _ (K0.reads oh0)
  have HO_h0 := hide oh0
  clear oh0
  clear HO_t0
  have c_w0_0 : ∀ o0, (w43.alloc o0).cell? ⟨w6.heap.size, 0, none⟩ = some (.string w0_0) := fun o0 => ((Ext.refl w43).alloc o0).cell (cells_of (unhide HB_w0) 0 _ rfl)
  have c_w0_1 : ∀ o0, (w43.alloc o0).cell? ⟨w6.heap.size, 1, none⟩ = some (.string w0_1) := fun o0 => ((Ext.refl w43).alloc o0).cell (cells_of (unhide HB_w0) 1 _ rfl)
  have c_w0_2 : ∀ o0, (w43.alloc o0).cell? ⟨w6.heap.size, 2, none⟩ = some (.string w0_2) := fun o0 => ((Ext.refl w43).alloc o0).cell (cells_of (unhide HB_w0) 2 _ rfl)
  have c_w0_3 : ∀ o0, (w43.alloc o0).cell? ⟨w6.heap.size, 3, none⟩ = some (.slice w0_3a w0_3n w0_3c) := fun o0 => ((Ext.refl w43).alloc o0).cell (cells_of (unhide HB_w0) 3 _ rfl)
  go_wp2_with fail
  clear c_w0_0 c_w0_1 c_w0_2 c_w0_3
  obtain ⟨V46, hV46⟩ : ∃ V46, V46 = w43.alloc (.cells #[.string h0_0, .string h0_1, .string h0_2, .slice h0_3a h0_3n h0_3c] 28) := ⟨_, rfl⟩
  rw [← hV46]
  have FV46 : Ext w43 V46 := by rw [hV46]; exact (Ext.refl w43).alloc _
  have HB_h0 : Hid (V46.heap[w43.heap.size]? = some (.cells #[.string h0_0, .string h0_1, .string h0_2, .slice h0_3a h0_3n h0_3c] 28 (0, 0))) := hide (by rw [hV46]; exact new_block w43 _)
  have hzV46 := hide (lt_of_block (unhide HB_h0))
  clear hV46
  have hs47 := hide (FV46).size
  replace E := E.trans FV46
  replace HB_p := hide ((FV46).kept (unhide HB_p))
  replace HB_w0 := hide ((FV46).kept (unhide HB_w0))
  replace HB_g0 := hide ((FV46).kept (unhide HB_g0))
  replace HO_g0 := hide ((MK0 (1)).oext (unhide HO_g0) FV46)
  replace HO_h0 := hide (K0.oext (unhide HO_h0) FV46)
  replace HEw := hide ((unhide HEw).trans FV46)
  refine ((unhide HEqK0) _ _ _ (K0.reads (unhide HO_h0)) (K0.rext (unhide HR_w0) (unhide HEw))).mono ?_
  rintro e w48 ⟨rfl, F49⟩
  have hs50 := hide (F49).size
  replace E := E.trans F49
  replace HB_p := hide ((F49).kept (unhide HB_p))
  replace HB_w0 := hide ((F49).kept (unhide HB_w0))
  replace HB_g0 := hide ((F49).kept (unhide HB_g0))
  replace HB_h0 := hide ((F49).kept (unhide HB_h0))
  replace HO_g0 := hide ((MK0 (1)).oext (unhide HO_g0) F49)
  replace HO_h0 := hide (K0.oext (unhide HO_h0) F49)
  replace HEw := hide ((unhide HEw).trans F49)
  have hq0 : ¬ (1 + (mK0 : Int) : Int) < 0 := by omega
  have c_g0_0 : w48.cell? ⟨w16.heap.size, 0, none⟩ = some (.string g0_0) := cells_of (unhide HB_g0) 0 _ rfl
  have c_g0_1 : w48.cell? ⟨w16.heap.size, 1, none⟩ = some (.string g0_1) := cells_of (unhide HB_g0) 1 _ rfl
  have c_g0_2 : w48.cell? ⟨w16.heap.size, 2, none⟩ = some (.string g0_2) := cells_of (unhide HB_g0) 2 _ rfl
  have c_g0_3 : w48.cell? ⟨w16.heap.size, 3, none⟩ = some (.slice g0_3a g0_3n g0_3c) := cells_of (unhide HB_g0) 3 _ rfl
  go_wp2_with fail
  clear c_g0_0 c_g0_1 c_g0_2 c_g0_3
  refine ((unhide HHdK0) _ _ _ ((MK0 (1)).reads (unhide HO_g0)) (by omega) (by omega)).mono ?_
  rintro e w51 ⟨rfl, F52⟩
  have hs53 := hide (F52).size
  replace E := E.trans F52
  replace HB_p := hide ((F52).kept (unhide HB_p))
  replace HB_w0 := hide ((F52).kept (unhide HB_w0))
  replace HB_g0 := hide ((F52).kept (unhide HB_g0))
  replace HB_h0 := hide ((F52).kept (unhide HB_h0))
  replace HO_g0 := hide ((MK0 (1)).oext (unhide HO_g0) F52)
  replace HO_h0 := hide (K0.oext (unhide HO_h0) F52)
  replace HEw := hide ((unhide HEw).trans F52)
  go_wp2
  go_ret
  exact ⟨rfl, E.below⟩
end Go.Proofs.YtopjihagpkempaaDoor
