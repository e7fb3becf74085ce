import Derived.Test.YtlnmpbdnmlpkiaaDoorBaL
import Derived.Lib.ItoaNum
import Derived.Lib.Join
namespace Go.Proofs.YtlnmpbdnmlpkiaaDoor
open Go.RowKit

/-- The rows of a block with CR LF between them. -/
def rowsL (tx : Nat → ByteArray) : Nat → List Int
  | 0 => []
  | i + 1 => rowsL tx i ++ ((if i = 0 then [] else [13, 10]) ++ baL (tx i))
/-- The bytes of the first rows together. -/
def slen (tx : Nat → ByteArray) : Nat → Nat
  | 0 => 0
  | i + 1 => slen tx i + (tx i).size
theorem rowsL_bytes (tx : Nat → ByteArray) : ∀ n, Bytes (rowsL tx n)
  | 0 => by intro x hx; simp [rowsL] at hx
  | n + 1 => by
    refine (rowsL_bytes tx n).app (Bytes.app ?_ (baL_bytes _))
    intro x hx
    split at hx
    · simp at hx
    · simp at hx; omega
theorem rowsL_len (tx : Nat → ByteArray) : ∀ n, (rowsL tx n).length ≤ slen tx n + 2 * n
  | 0 => by simp [rowsL]
  | n + 1 => by
    have := rowsL_len tx n
    have h2 : (if n = 0 then ([] : List Int) else [13, 10]).length ≤ 2 := by split <;> simp
    simp only [rowsL, slen, List.length_append, baL_len]
    omega
theorem slen_le (tx : Nat → ByteArray) (n : Nat) : ∀ k, k ≤ n → slen tx k ≤ slen tx n := by
  have aux : ∀ m k, slen tx k ≤ slen tx (k + m) := by
    intro m
    induction m with
    | zero => intro k; exact Nat.le_refl _
    | succ m ih => intro k; have := ih k; rw [← Nat.add_assoc, slen]; omega
  intro k hk
  have := aux (n - k) k
  rwa [show k + (n - k) = n by omega] at this
theorem inter_snoc {α : Type} (sep : List α) : ∀ (xs : List (List α)) (y : List α), sep.intercalate (xs ++ [y]) = if xs = [] then y else sep.intercalate xs ++ sep ++ y
  | [], y => by simp [List.intercalate]
  | [x], y => by simp [List.intercalate]
  | x :: x' :: xs, y => by
    have ih := inter_snoc sep (x' :: xs) y
    simp only [List.intercalate] at ih ⊢
    simp only [List.cons_append, List.intersperse, List.flatten_cons] at ih ⊢
    simp at ih ⊢
    rw [ih]
theorem join_rows (tx : Nat → ByteArray) : ∀ n : Nat, (Lib.join (((List.range n).map tx).map (fun x => x.data.toList)) [13, 10]).map (fun b => ((b.toNat : Nat) : Int)) = rowsL tx n
  | 0 => by simp [Lib.join, rowsL, List.intercalate]
  | n + 1 => by
    have ih := join_rows tx n
    unfold Lib.join at ih ⊢
    rw [List.range_succ, List.map_append, List.map_append, List.map_cons, List.map_nil, List.map_cons, List.map_nil, inter_snoc]
    by_cases h : n = 0
    · subst h
      simp [rowsL, baL]
    · rw [if_neg (by simp [h]), List.map_append, List.map_append, ih, rowsL, if_neg h, List.append_assoc]
      rfl
theorem dec_dg : ∀ u : Nat, 0 < u → (Lib.decDigits u).map (fun b => ((b.toNat : Nat) : Int)) = dg u := by
  intro u
  induction u using Nat.strongRecOn with
  | _ u ih =>
    intro h
    rw [dg_step u h, Lib.decDigits]
    by_cases h1 : u < 10
    · rw [dif_pos h1, show u / 10 = 0 by omega]
      simp [dg, dgs, Nat.mod_eq_of_lt h1]
      omega
    · rw [dif_neg h1, List.map_append, ih (u / 10) (by omega) (by omega)]
      simp
      omega
theorem itoa_dg (n : Int) (h : 0 < n) : (Lib.itoa n).map (fun b => ((b.toNat : Nat) : Int)) = dg n.toNat := by
  rw [Lib.itoa, if_neg (by omega)]
  exact dec_dg _ (by omega)
theorem dg_bytes : ∀ u : Nat, Bytes (dg u) := by
  intro u
  induction u using Nat.strongRecOn with
  | _ u ih =>
    by_cases h : u = 0
    · subst h; intro x hx; simp [dg, dgs] at hx
    · rw [dg_step u (by omega)]
      refine (ih (u / 10) (by omega)).app ?_
      intro x hx
      simp at hx
      omega
theorem dg_short : ∀ (k u : Nat), u < 10 ^ k → (dg u).length ≤ k := by
  intro k
  induction k with
  | zero => intro u h; simp at h; subst h; simp [dg, dgs]
  | succ k ih =>
    intro u h
    by_cases h0 : u = 0
    · subst h0; simp [dg, dgs]
    · rw [dg_step u (by omega)]
      have := ih (u / 10) (by rw [Nat.pow_succ] at h; omega)
      simp; omega
/-- A sequence with a number; nothing where it is not above 0. -/
def goL (n c : Int) : List Int := if n ≤ 0 then [] else 27 :: 91 :: (dg n.toNat ++ [c])
theorem goL_bytes (n c : Int) (h0 : 0 ≤ c) (h1 : c ≤ 255) : Bytes (goL n c) := by
  unfold goL
  split
  · intro x hx; simp at hx
  · intro x hx
    simp at hx
    rcases hx with rfl | rfl | hx | rfl
    · omega
    · omega
    · exact dg_bytes _ x hx
    · omega
theorem goL_len (n c : Int) (h : n ≤ 99999999) : (goL n c).length ≤ 11 := by
  unfold goL
  split
  · simp
  · have := dg_short 8 n.toNat (by omega)
    simp; omega
/-- Whether a block may be drawn. -/
def bOk (n : Nat) (row col : Int) : Prop := 0 ≤ row ∧ row < (n : Int) ∧ 0 ≤ col ∧ col < 200
abbrev bOkD (n : Nat) (row col : Int) : Decidable (bOk n row col) := inferInstanceAs (Decidable (0 ≤ row ∧ row < (n : Int) ∧ 0 ≤ col ∧ col < 200))
theorem bOk_t {n : Nat} {row col : Int} (h : bOk n row col) : @decide (bOk n row col) (bOkD n row col) = true := @decide_eq_true _ (bOkD n row col) h
theorem bOk_f {n : Nat} {row col : Int} (h : ¬ bOk n row col) : @decide (bOk n row col) (bOkD n row col) = false := @decide_eq_false _ (bOkD n row col) h
def paintL (n : Nat) (tx : Nat → ByteArray) (row col : Int) : List Int := @ite _ (bOk n row col) (bOkD n row col) (rowsL tx n ++ (goL ((n : Int) - 1 - row) 65 ++ goL (col + 1) 71)) []
def eraseL (n : Nat) (row col : Int) : List Int := @ite _ (bOk n row col) (bOkD n row col) (13 :: (goL row 65 ++ [27, 91, 74])) []
theorem paintL_len (n : Nat) (tx : Nat → ByteArray) (row col : Int) (hn : n ≤ 1048576) : (paintL n tx row col).length ≤ slen tx n + 2 * n + 22 := by
  unfold paintL
  split
  · rename_i h
    unfold bOk at h
    have h1 := rowsL_len tx n
    have h2 := goL_len ((n : Int) - 1 - row) 65 (by omega)
    have h3 := goL_len (col + 1) 71 (by omega)
    simp only [List.length_append]; omega
  · simp
theorem eraseL_len (n : Nat) (row col : Int) (hn : n ≤ 1048576) : (eraseL n row col).length ≤ 15 := by
  unfold eraseL
  split
  · rename_i h
    unfold bOk at h
    have h2 := goL_len row 65 (by omega)
    simp only [List.length_append, List.length_cons, List.length_nil]; omega
  · simp
theorem paintL_bytes (n : Nat) (tx : Nat → ByteArray) (row col : Int) : Bytes (paintL n tx row col) := by
  unfold paintL
  split
  · exact (rowsL_bytes tx n).app ((goL_bytes _ _ (by omega) (by omega)).app (goL_bytes _ _ (by omega) (by omega)))
  · intro x hx; simp at hx
theorem eraseL_bytes (n : Nat) (row col : Int) : Bytes (eraseL n row col) := by
  unfold eraseL
  split
  · refine Bytes.app (xs := [13]) (fun x hx => ?_) ((goL_bytes _ _ (by omega) (by omega)).app (fun x hx => ?_))
    · simp at hx; omega
    · simp at hx; omega
  · intro x hx; simp at hx
end Go.Proofs.YtlnmpbdnmlpkiaaDoor
