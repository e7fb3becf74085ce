import Derived.Test.YtmomcccgjjjldaaDoorRwSpec
namespace Go.Proofs.YtmomcccgjjjldaaDoor
open Go.RowKit
def firsts : List Int := [768, 1155, 1425, 4352, 8203, 8400, 11904, 12353, 19968, 44032, 63744, 65024, 65056, 65072, 65280, 65504, 127744, 129280, 131072]
def lasts : List Int := [879, 1161, 1469, 4447, 8207, 8432, 12350, 19903, 42191, 55203, 64255, 65039, 65071, 65135, 65376, 65510, 128591, 129535, 262141]
def widths : List Int := [0, 0, 0, 2, 0, 0, 2, 2, 2, 2, 2, 0, 0, 2, 2, 2, 2, 2, 2]
theorem firsts_up : ∀ j : Fin 19, ∀ i : Fin 19, i.val ≤ j.val → at0 firsts i.val ≤ at0 firsts j.val := by decide +kernel
theorem lasts_up : ∀ j : Fin 19, ∀ i : Fin 19, i.val ≤ j.val → at0 lasts i.val ≤ at0 lasts j.val := by decide +kernel
theorem wid_open (r : Int) : wid r = if ((768 ≤ r ∧ r ≤ 879) ∨ (1155 ≤ r ∧ r ≤ 1161) ∨ (1425 ≤ r ∧ r ≤ 1469) ∨ (8203 ≤ r ∧ r ≤ 8207) ∨ (8400 ≤ r ∧ r ≤ 8432) ∨ (65024 ≤ r ∧ r ≤ 65039) ∨ (65056 ≤ r ∧ r ≤ 65071)) then 0
    else if ((4352 ≤ r ∧ r ≤ 4447) ∨ (11904 ≤ r ∧ r ≤ 12350) ∨ (12353 ≤ r ∧ r ≤ 19903) ∨ (19968 ≤ r ∧ r ≤ 42191) ∨ (44032 ≤ r ∧ r ≤ 55203) ∨ (63744 ≤ r ∧ r ≤ 64255) ∨ (65072 ≤ r ∧ r ≤ 65135) ∨ (65280 ≤ r ∧ r ≤ 65376) ∨ (65504 ≤ r ∧ r ≤ 65510) ∨ (127744 ≤ r ∧ r ≤ 128591) ∨ (129280 ≤ r ∧ r ≤ 129535) ∨ (131072 ≤ r ∧ r ≤ 262141)) then 2 else 1 := by
  unfold wid
  have e1 : (inR r zeros = true) = ((768 ≤ r ∧ r ≤ 879) ∨ (1155 ≤ r ∧ r ≤ 1161) ∨ (1425 ≤ r ∧ r ≤ 1469) ∨ (8203 ≤ r ∧ r ≤ 8207) ∨ (8400 ≤ r ∧ r ≤ 8432) ∨ (65024 ≤ r ∧ r ≤ 65039) ∨ (65056 ≤ r ∧ r ≤ 65071)) := by
    simp [inR, zeros]
  have e2 : (inR r twos = true) = ((4352 ≤ r ∧ r ≤ 4447) ∨ (11904 ≤ r ∧ r ≤ 12350) ∨ (12353 ≤ r ∧ r ≤ 19903) ∨ (19968 ≤ r ∧ r ≤ 42191) ∨ (44032 ≤ r ∧ r ≤ 55203) ∨ (63744 ≤ r ∧ r ≤ 64255) ∨ (65072 ≤ r ∧ r ≤ 65135) ∨ (65280 ≤ r ∧ r ≤ 65376) ∨ (65504 ≤ r ∧ r ≤ 65510) ∨ (127744 ≤ r ∧ r ≤ 128591) ∨ (129280 ≤ r ∧ r ≤ 129535) ∨ (131072 ≤ r ∧ r ≤ 262141)) := by
    simp [inR, twos]
  simp only [e1, e2]
theorem wid_hit (r : Int) (m : Nat) (hm : m < 19) (h1 : at0 firsts m ≤ r) (h2 : r ≤ at0 lasts m) : wid r = at0 widths m := by
  rw [wid_open]
  match m, hm with
  | 0, _ | 1, _ | 2, _ | 3, _ | 4, _ | 5, _ | 6, _ | 7, _ | 8, _ | 9, _ | 10, _ | 11, _ | 12, _ | 13, _ | 14, _ | 15, _ | 16, _ | 17, _ | 18, _ =>
    simp [at0, firsts, lasts] at h1 h2
    first
      | (rw [if_pos (by omega)]; rfl)
      | (rw [if_neg (by omega), if_pos (by omega)]; rfl)
  | n + 19, h => omega
theorem wid_miss (r : Int) (l : Nat) (hl : l ≤ 19) (h1 : ∀ i, i < l → at0 lasts i < r) (h2 : ∀ i, l ≤ i → i < 19 → r < at0 firsts i) : wid r = 1 := by
  rw [wid_open]
  have a := h1 (l - 1)
  have b := h2 l (Nat.le_refl _)
  clear h1 h2
  match l, hl with
  | 0, _ | 1, _ | 2, _ | 3, _ | 4, _ | 5, _ | 6, _ | 7, _ | 8, _ | 9, _ | 10, _ | 11, _ | 12, _ | 13, _ | 14, _ | 15, _ | 16, _ | 17, _ | 18, _ | 19, _ =>
    simp [at0, firsts, lasts] at a b
    rw [if_neg (by omega), if_neg (by omega)]
  | n + 20, h => omega
theorem lo_step (r : Int) (m : Nat) (hm : m < 19) (h : at0 lasts m < r) : ∀ i, i < m + 1 → at0 lasts i < r := by
  intro i hi
  have := lasts_up ⟨m, hm⟩ ⟨i, by omega⟩ (by simp; omega)
  simp at this
  omega
theorem hi_step (r : Int) (m : Nat) (hm : m < 19) (h : r < at0 firsts m) : ∀ i, m ≤ i → i < 19 → r < at0 firsts i := by
  intro i hi hi2
  have := firsts_up ⟨i, hi2⟩ ⟨m, hm⟩ (by simp; omega)
  simp at this
  omega
def Laid (w : World) : Prop := ∀ m : Nat, m < 19 → w.cell? ⟨0, m * 3, none⟩ = some (.int .i32 (at0 firsts m)) ∧ w.cell? ⟨0, m * 3 + 1, none⟩ = some (.int .i32 (at0 lasts m)) ∧ w.cell? ⟨0, m * 3 + 2, none⟩ = some (.int .i64 (at0 widths m))
theorem Laid.pos {w : World} (h : Laid w) : 0 < w.heap.size := lt_of_cell (h 0 (by omega)).1
theorem Laid.below {w w' : World} (h : Laid w) (hb : Below w.heap.size w w') : Laid w' := fun m hm => by
  have p := h.pos
  obtain ⟨a, b, c⟩ := h m hm
  exact ⟨(hb.cell (p := ⟨0, m * 3, none⟩) p).trans a, (hb.cell (p := ⟨0, m * 3 + 1, none⟩) p).trans b, (hb.cell (p := ⟨0, m * 3 + 2, none⟩) p).trans c⟩
set_option maxHeartbeats 400000 in
theorem implRW_any (r : Int) (w : World) (_h0 : -2147483648 ≤ r) (_h1 : r ≤ 2147483647) (hT : Laid w) :
    Calls Tryd.prog 19 #[.int .i32 r] w fun e w' => e = .returned (.int .i64 (wid r)) ∧ Below w.heap.size w w' := by
  go_enter Tryd.func19, Tryd.ntmps19
  go_wp2
  go_loopw [3, 4] (fun a b w' => ∃ l h : Nat, l ≤ h ∧ h ≤ 19 ∧ a = .int .i64 l ∧ b = .int .i64 h ∧ Hid ((∀ i, i < l → at0 lasts i < r) ∧ (∀ i, h ≤ i → i < 19 → r < at0 firsts i)) ∧ Below w.heap.size w w') (fun a b _ => (intOf b).toNat - (intOf a).toNat)
  case atStart => exact ⟨0, 19, by omega, by omega, rfl, rfl, ⟨by intros; omega, by intros; omega⟩, Below.refl _ _⟩
  case round =>
    obtain ⟨l, h, hlh, hh, rfl, rfl, HI, hb⟩ := hrel
    by_cases hlt : l < h
    · have hm0 : (l + h) / 2 < 19 := by omega
      have hm1 : l ≤ (l + h) / 2 := by omega
      have hm2 : (l + h) / 2 < h := by omega
      obtain ⟨c0, c1, c2⟩ := (hT.below hb) ((l + h)/2) hm0
      have hsz := hb.size
      go_wp2
      · go_roundw
        case rel => exact ⟨l, (l + h) / 2, by omega, by omega, by go_num, by go_num, ⟨HI.out.1, hi_step r _ hm0 (by assumption)⟩, by go_grown⟩
        case measure => simp [intOf]; omega
      · go_roundw
        case rel => exact ⟨(l + h) / 2 + 1, h, by omega, by omega, by go_num, by go_num, ⟨lo_step r _ hm0 (by assumption), HI.out.2⟩, by go_grown⟩
        case measure => simp [intOf]; omega
      · go_ret
        exact ⟨ret_int (wid_hit r _ hm0 (by omega) (by omega)).symm, by go_grown⟩
    · have e : l = h := by omega
      have hw : Hid (wid r = 1) := wid_miss r l (by omega) HI.out.1 (by rw [e]; exact HI.out.2)
      clear e
      go_wp2
      go_ret
      exact ⟨ret_int hw.out.symm, hb⟩
end Go.Proofs.YtmomcccgjjjldaaDoor
