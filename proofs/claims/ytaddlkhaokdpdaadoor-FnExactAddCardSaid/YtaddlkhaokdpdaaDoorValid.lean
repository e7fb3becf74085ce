import Derived.Test.YtaddlkhaokdpdaaDoorSettled
import Derived.Lib.ValidLaws
namespace Go.Proofs.YtaddlkhaokdpdaaDoor
open Go.RowKit
theorem split2 {bs : List Int} (h : 1 < bs.length) : bs = at0 bs 0 :: at0 bs 1 :: bs.drop 2 := by
  match bs, h with
  | a :: b :: r, _ => rfl
theorem split3 {bs : List Int} (h : 2 < bs.length) : bs = at0 bs 0 :: at0 bs 1 :: at0 bs 2 :: bs.drop 3 := by
  match bs, h with
  | a :: b :: c :: r, _ => rfl
theorem split4 {bs : List Int} (h : 3 < bs.length) : bs = at0 bs 0 :: at0 bs 1 :: at0 bs 2 :: at0 bs 3 :: bs.drop 4 := by
  match bs, h with
  | a :: b :: c :: d :: r, _ => rfl
theorem cont_bd {l : List Int} {k : Nat} (h : cont l k = true) : k < l.length ∧ 128 ≤ at0 l k ∧ at0 l k ≤ 191 := by
  unfold cont at h
  simp at h
  exact ⟨h.1.1, h.1.2, h.2⟩
theorem enc_dec (bs : List Int) (hb : Bytes bs) (h0 : 0 < bs.length) (hv : ¬ ((decL bs).1 = 65533 ∧ (decL bs).2 = 1)) : encR (decL bs).1 ++ bs.drop (decL bs).2 = bs := by
  have b0 := hb.at0 0
  unfold decL at hv ⊢
  by_cases h1 : at0 bs 0 < 128
  · rw [if_pos h1]
    have hval : Utf8.valid (at0 bs 0) = true := by unfold Utf8.valid; simp; omega
    show encR (at0 bs 0) ++ bs.drop 1 = bs
    rw [encR, if_pos hval, encL, if_pos (by omega)]
    match bs, h0 with
    | a :: r, _ => rfl
  rw [if_neg h1] at hv ⊢
  by_cases h2 : (192 ≤ at0 bs 0 ∧ at0 bs 0 < 224) ∧ cont bs 1 = true
  · rw [if_pos h2] at hv ⊢
    obtain ⟨hl, k1, k2⟩ := cont_bd h2.2
    by_cases h3 : 128 ≤ v2 bs
    · rw [if_pos h3]
      show encR (v2 bs) ++ bs.drop 2 = bs
      have hval : Utf8.valid (v2 bs) = true := by unfold v2 at h3 ⊢; unfold Utf8.valid; simp; omega
      rw [encR, if_pos hval]
      conv => rhs; rw [split2 hl]
      have e : encL (v2 bs) = [at0 bs 0, at0 bs 1] := by
        unfold encL v2 at *
        rw [if_neg (by omega), if_pos (by omega)]
        have : (at0 bs 0 % 32 * 64 + at0 bs 1 - 128) / 64 = at0 bs 0 - 192 := by omega
        have : (at0 bs 0 % 32 * 64 + at0 bs 1 - 128) % 64 = at0 bs 1 - 128 := by omega
        simp
        omega
      rw [e]; rfl
    · rw [if_neg h3] at hv
      exact absurd ⟨rfl, rfl⟩ hv
  rw [if_neg h2] at hv ⊢
  by_cases h4 : (224 ≤ at0 bs 0 ∧ at0 bs 0 < 240) ∧ cont bs 1 = true ∧ cont bs 2 = true
  · rw [if_pos h4] at hv ⊢
    obtain ⟨_, k1, k2⟩ := cont_bd h4.2.1
    obtain ⟨hl, k3, k4⟩ := cont_bd h4.2.2
    by_cases h3 : 2048 ≤ v3 bs ∧ Utf8.valid (v3 bs) = true
    · rw [if_pos h3]
      show encR (v3 bs) ++ bs.drop 3 = bs
      rw [encR, if_pos h3.2]
      conv => rhs; rw [split3 hl]
      have e : encL (v3 bs) = [at0 bs 0, at0 bs 1, at0 bs 2] := by
        have h3' := h3.1
        unfold encL v3 at *
        rw [if_neg (by omega), if_neg (by omega), if_pos (by omega)]
        simp
        omega
      rw [e]; rfl
    · rw [if_neg h3] at hv
      exact absurd ⟨rfl, rfl⟩ hv
  rw [if_neg h4] at hv ⊢
  by_cases h5 : (240 ≤ at0 bs 0 ∧ at0 bs 0 < 248) ∧ cont bs 1 = true ∧ cont bs 2 = true ∧ cont bs 3 = true
  · rw [if_pos h5] at hv ⊢
    obtain ⟨_, k1, k2⟩ := cont_bd h5.2.1
    obtain ⟨_, k3, k4⟩ := cont_bd h5.2.2.1
    obtain ⟨hl, k5, k6⟩ := cont_bd h5.2.2.2
    by_cases h3 : 65536 ≤ v4 bs ∧ Utf8.valid (v4 bs) = true
    · rw [if_pos h3]
      show encR (v4 bs) ++ bs.drop 4 = bs
      rw [encR, if_pos h3.2]
      conv => rhs; rw [split4 hl]
      have e : encL (v4 bs) = [at0 bs 0, at0 bs 1, at0 bs 2, at0 bs 3] := by
        have h3' := h3.1
        unfold encL v4 at *
        rw [if_neg (by omega), if_neg (by omega), if_neg (by omega)]
        simp
        omega
      rw [e]; rfl
    · rw [if_neg h3] at hv
      exact absurd ⟨rfl, rfl⟩ hv
  · rw [if_neg h5] at hv
    exact absurd ⟨rfl, rfl⟩ hv
theorem toBA_drop (bs : List Int) (m : Nat) : (toBA bs).data.toList.drop m = (toBA (bs.drop m)).data.toList := by
  rw [toBA_list, toBA_list, List.map_drop]
theorem decodeL_is (bs : List Int) (hb : Bytes bs) : (((Lib.decodeL (toBA bs).data.toList).1 : Int), (Lib.decodeL (toBA bs).data.toList).2) = decL bs := by
  have h := decode_is bs hb 0
  rw [List.drop_zero] at h
  exact h
theorem validD_iff : ∀ (f : Nat) (bs : List Int), bs.length ≤ f → Bytes bs → (Lib.validD (toBA bs).data.toList = true ↔ ValidL bs) := by
  intro f
  induction f with
  | zero =>
    intro bs h hb
    have : bs = [] := List.eq_nil_of_length_eq_zero (by omega)
    subst this
    exact ⟨fun _ => rfl, fun _ => rfl⟩
  | succ f ih =>
    intro bs h hb
    by_cases h0 : bs.length = 0
    · have : bs = [] := List.eq_nil_of_length_eq_zero h0
      subst this
      exact ⟨fun _ => rfl, fun _ => rfl⟩
    have hne : (toBA bs).data.toList ≠ [] := by
      intro e
      have := congrArg List.length e
      rw [toBA_list, List.length_map] at this
      exact h0 this
    have hd := decodeL_is bs hb
    have hp := decL_pos bs
    have e1 : ((Lib.decodeL (toBA bs).data.toList).1 : Int) = (decL bs).1 := congrArg Prod.fst hd
    have e2 : (Lib.decodeL (toBA bs).data.toList).2 = (decL bs).2 := congrArg Prod.snd hd
    rw [Lib.validD_step _ hne, e2, toBA_drop]
    have hiff : ((Lib.decodeL (toBA bs).data.toList).1 = 65533 ∧ (decL bs).2 = 1) ↔ ((decL bs).1 = 65533 ∧ (decL bs).2 = 1) := by rw [← e1]; omega
    unfold ValidL
    rw [runesL_step bs (by omega), encA]
    by_cases hv : (decL bs).1 = 65533 ∧ (decL bs).2 = 1
    · rw [if_pos (hiff.2 hv)]
      refine ⟨fun e => (by cases e), fun e => ?_⟩
      rw [hv.1] at e
      have h3 := dec_enc 65533 (by decide) (encA (runesL (bs.drop (decL bs).2)))
      rw [e] at h3
      have h5 : (decL bs).2 = (encR 65533).length := congrArg Prod.snd h3
      have h4 : (encR 65533).length = 3 := by decide
      omega
    · rw [if_neg (fun e => hv (hiff.1 e)), ih (bs.drop (decL bs).2) (by simp; omega) (hb.drop _)]
      have hed := enc_dec bs hb (by omega) hv
      unfold ValidL
      constructor
      · intro e; rw [e]; exact hed
      · intro e
        have := e.trans hed.symm
        exact List.append_cancel_left this
end Go.Proofs.YtaddlkhaokdpdaaDoor
