import Derived.Test.YtbieoijeilhadaaDoorSnapOk
import Derived.Test.YtbieoijeilhadaaDoorKys
import Derived.Lib.ItoaNum
import Derived.Lib.Join
import Derived.Test.YtbieoijeilhadaaDoorCells
import Derived.Test.YtbieoijeilhadaaDoorBlocks
namespace Go.Proofs.YtbieoijeilhadaaDoor
open Go.RowKit
def TextP (bs : List Int) : Prop := settleL bs = bs ∧ (cleanL bs).length ≤ 300
theorem TextP_snap (bs : List Int) : TextP bs ↔ SnapP bs [] := by
  unfold TextP SnapP
  have e1 : settleL [] = [] := rfl
  have e2 : cleanL [] = [] := rfl
  simp [e1, e2]
end Go.Proofs.YtbieoijeilhadaaDoor

namespace Go.Proofs.YtbieoijeilhadaaDoor
open Go.RowKit
def LineP (a b c : ByteArray) (n : Nat) (tx hf : Nat → ByteArray) : Prop := n ≤ 50 ∧ SnapP (baL a) (baL b) ∧ TextP (baL c) ∧ ∀ j, j < n → SnapP (baL (tx j)) (baL (hf j))
abbrev snapD (x y : List Int) : Decidable (SnapP x y) := inferInstanceAs (Decidable (settleL x = x ∧ settleL y = y ∧ (cleanL x).length + (cleanL y).length ≤ 300))
abbrev lineD (a b c : ByteArray) (n : Nat) (tx hf : Nat → ByteArray) : Decidable (LineP a b c n tx hf) := @instDecidableAnd _ _ _ (@instDecidableAnd _ _ (snapD _ _) (@instDecidableAnd _ _ (inferInstanceAs (Decidable (settleL (baL c) = baL c ∧ (cleanL (baL c)).length ≤ 300))) (@Nat.decidableBallLT n _ (fun j _ => snapD (baL (tx j)) (baL (hf j))))))
theorem ex_bool (p : Prop) : ∃ b : Bool, b = true ↔ p := by
  by_cases h : p
  · exact ⟨true, by simp [h]⟩
  · exact ⟨false, by simp [h]⟩
theorem not_ok {ok : Bool} {p : Prop} (h : ok = true ↔ p) (hn : ¬ p) : ok = false := by
  cases hc : ok with
  | false => rfl
  | true => exact absurd (h.1 hc) hn
end Go.Proofs.YtbieoijeilhadaaDoor

namespace Go.Proofs.YtbieoijeilhadaaDoor
open Go.RowKit
theorem encA_len : ∀ xs : List Int, (encA xs).length ≤ 4 * xs.length
  | [] => by simp [encA]
  | x :: xs => by
    have := encA_len xs
    have h2 : (encR x).length ≤ 4 := by
      unfold encR encL
      repeat' split
      all_goals simp
    simp only [encA, List.length_append, List.length_cons]
    omega
theorem settled_short (bs : List Int) (h : settleL bs = bs) : bs.length ≤ 4 * (cleanL bs).length := by
  have hv := ((settled_iff bs).1 h).2.2
  have h1 := encA_len (runesL bs)
  rw [hv] at h1
  rw [clean_runes, List.length_map]
  exact h1
theorem toBA_some {bs : List Int} (h : bs ≠ []) : (toBA bs).toList.isEmpty = false := by
  rw [toList_data, toBA_list]
  cases bs with
  | nil => exact absurd rfl h
  | cons a r => rfl
end Go.Proofs.YtbieoijeilhadaaDoor
