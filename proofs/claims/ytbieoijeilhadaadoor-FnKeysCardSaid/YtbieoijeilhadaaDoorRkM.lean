import Derived.Test.YtbieoijeilhadaaDoorSpecRune2
namespace Go.Proofs.YtbieoijeilhadaaDoor
open Go.RowKit
structure Tk where
  n : Nat
  kind : Int
  r : Int
  p : Bool
def tkV (t : Tk) : Value := .agg #[.int .i64 (t.n : Int), .int .i64 t.kind, .int .i64 t.r, .bool t.p]
def tk0 : Tk := ⟨0, 0, 0, false⟩
def ctlB : List Int := [13, 10, 8, 127, 4, 2, 6, 1, 5, 16, 14, 11, 21, 23, 25, 20, 31, 18, 3]
def ctlK : List Int := [3, 3, 4, 4, 5, 6, 7, 8, 9, 10, 11, 12, 13, 14, 15, 16, 17, 20, 21]
def lookT : List Int → List Int → Int → Int → Int
  | b :: bs, k :: ks, c, d => if b = c then k else lookT bs ks c d
  | _, _, _, d => d
theorem lookT_no : ∀ (bs ks : List Int) (c d : Int), (∀ j, j < bs.length → at0 bs j ≠ c) → lookT bs ks c d = d
  | [], ks, c, d, _ => by cases ks <;> rfl
  | b :: bs, [], c, d, _ => rfl
  | b :: bs, k :: ks, c, d, h => by
    rw [lookT, if_neg (fun e => h 0 (by simp) (by simpa [at0] using e))]
    exact lookT_no bs ks c d (fun j hj => by have := h (j + 1) (by simpa using hj); simpa [at0] using this)
theorem lookT_yes : ∀ (bs ks : List Int) (c d : Int) (j : Nat), j < bs.length → bs.length = ks.length → (∀ m, m < j → at0 bs m ≠ c) → at0 bs j = c → lookT bs ks c d = at0 ks j
  | [], ks, c, d, j, hj, _, _, _ => by simp at hj
  | b :: bs, [], c, d, j, _, he, _, _ => by simp at he
  | b :: bs, k :: ks, c, d, 0, _, _, _, e => by
    rw [lookT, if_pos (by simpa [at0] using e)]
    simp [at0]
  | b :: bs, k :: ks, c, d, j + 1, hj, he, h, e => by
    rw [lookT, if_neg (fun e => h 0 (by omega) (by simpa [at0] using e)), lookT_yes bs ks c d j (by simpa using hj) (by simpa using he) (fun m hm => by have := h (m + 1) (by omega); simpa [at0] using this) (by simpa [at0] using e)]
    simp [at0]
def ctrlF (c : Int) : Int := lookT ctlB ctlK c (if c < 32 ∧ c ≠ 9 ∧ c ≠ 27 then 23 else 0)
def letB : List Int := [65, 66, 67, 68, 72, 70]
def letKs : List Int := [10, 11, 7, 6, 8, 9]
def letF (c : Int) : Int := lookT letB letKs c 23
def tilF (xs : List Int) : Int := if xs = [51] then 5 else if xs = [49] ∨ xs = [55] then 8 else if xs = [52] ∨ xs = [56] then 9 else if xs = [50, 48, 48] then -1 else 23
def numR : List Int → Nat
  | [] => 0
  | x :: xs => if 48 ≤ x ∧ x ≤ 63 then numR xs + 1 else 0
def brkF (s : List Int) : Tk :=
  if s.length ≤ 2 + numR (s.drop 2) then tk0
  else if at0 s (2 + numR (s.drop 2)) < 64 ∨ 126 < at0 s (2 + numR (s.drop 2)) then ⟨numR (s.drop 2) + 2, 23, 0, false⟩
  else if (if at0 s (2 + numR (s.drop 2)) = 126 then tilF ((s.drop 2).take (numR (s.drop 2))) else if numR (s.drop 2) = 0 then letF (at0 s (2 + numR (s.drop 2))) else 23) < 0 then ⟨numR (s.drop 2) + 3, 0, 0, true⟩
  else ⟨numR (s.drop 2) + 3, if at0 s (2 + numR (s.drop 2)) = 126 then tilF ((s.drop 2).take (numR (s.drop 2))) else if numR (s.drop 2) = 0 then letF (at0 s (2 + numR (s.drop 2))) else 23, 0, false⟩
def escF (s : List Int) : Tk :=
  if s.length ≤ 1 then tk0 else if at0 s 1 = 27 then ⟨1, 22, 0, false⟩ else if at0 s 1 = 91 then brkF s
  else if at0 s 1 = 79 then (if s.length ≤ 2 then tk0 else ⟨3, letF (at0 s 2), 0, false⟩)
  else if at0 s 1 = 98 then ⟨2, 18, 0, false⟩ else if at0 s 1 = 102 then ⟨2, 19, 0, false⟩ else ⟨2, 23, 0, false⟩
end Go.Proofs.YtbieoijeilhadaaDoor
