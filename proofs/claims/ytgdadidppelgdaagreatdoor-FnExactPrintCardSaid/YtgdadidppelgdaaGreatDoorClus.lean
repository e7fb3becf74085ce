import Derived.Test.YtgdadidppelgdaaGreatDoorProg
import Derived.Test.YtgdadidppelgdaaGreatDoorSpecRune
import Derived.Test.YtgdadidppelgdaaGreatDoorDrawM
import Derived.Test.YtgdadidppelgdaaGreatDoorImplClean
namespace Go.Proofs.YtgdadidppelgdaaGreatDoor
open Go.RowKit
def inR (r : Int) : List Int → Bool
  | a :: b :: t => (decide (a ≤ r) && decide (r ≤ b)) || inR r t
  | _ => false
theorem inR_drop (r : Int) (xs : List Int) (k : Nat) (h : k + 1 < xs.length) :
    inR r (xs.drop k) = ((decide (at0 xs k ≤ r) && decide (r ≤ at0 xs (k + 1))) || inR r (xs.drop (k + 2))) := by
  rw [List.drop_eq_getElem_cons (by omega), List.drop_eq_getElem_cons (by omega), inR]
  simp [at0, List.getElem?_eq_getElem (show k < xs.length by omega), List.getElem?_eq_getElem h]
theorem inR_short (r : Int) (xs : List Int) (k : Nat) (h : xs.length ≤ k + 1) : inR r (xs.drop k) = false := by
  have : (xs.drop k).length ≤ 1 := by simp; omega
  match hx : xs.drop k, this with
  | [], _ => rfl
  | [a], _ => rfl
set_option maxHeartbeats 400000 in
theorem l1In_any (r : Int) (b : Nat) (xs : List Int) (c : Nat) (w : World) (hl : xs.length < 1000)
    (hc : ∀ i : Nat, i < xs.length → w.cell? ⟨b, i, none⟩ = some (.int .i64 (at0 xs i))) :
    Calls Tryz.prog 147 #[.int .i64 r, .slice (some ⟨b, 0, none⟩) xs.length c] w fun e w' => e = .returned (.bool (inR r xs)) ∧ w' = w := by
  go_enter Tryz.func147, Tryz.ntmps147
  go_wp2
  go_loop [5] (fun i => ∃ k : Nat, k ≤ xs.length + 1 ∧ i = .int .i64 k ∧ inR r (xs.drop k) = inR r xs) (fun i => xs.length + 1 - (intOf i).toNat)
  case atStart => exact ⟨0, Nat.zero_le _, rfl, rfl⟩
  case round =>
    obtain ⟨k, hk, rfl, hin0⟩ := hrel
    have hin : Hid (inR r (xs.drop k) = inR r xs) := hin0
    by_cases hlt : k + 1 < xs.length
    · have h1 := hc k (by omega)
      have h2 := hc (k+1) (by omega)
      have hd : Hid (inR r (xs.drop k) = ((decide (at0 xs k ≤ r) && decide (r ≤ at0 xs (k + 1))) || inR r (xs.drop (k + 2)))) := inR_drop r xs k hlt
      clear hin0
      go_wp2
      · go_ret
        exact ⟨ret_bool (by rw [← hin.out, hd.out]; simp [*]), rfl⟩
      all_goals
        go_round
        case rel => exact ⟨k + 2, by omega, by go_num, by rw [← hin.out, hd.out]; simp only [Bool.eq_or_self]; intro hh; simp at hh; omega⟩
        case measure => simp [intOf]; omega
    · clear hin0
      have hs : Hid (inR r (xs.drop k) = false) := inR_short r xs k (by omega)
      go_wp2
      go_ret
      exact ⟨ret_bool (by rw [← hin.out, hs.out]), rfl⟩
def zeros : List Int := [768, 879, 1155, 1161, 1425, 1469, 8203, 8207, 8400, 8432, 65024, 65039, 65056, 65071]
def twos : List Int := [4352, 4447, 11904, 12350, 12353, 19903, 19968, 42191, 44032, 55203, 63744, 64255, 65072, 65135, 65280, 65376, 65504, 65510, 127744, 128591, 129280, 129535, 131072, 262141]
def wid (r : Int) : Int := if inR r zeros then 0 else if inR r twos then 2 else 1
def cellsOf (l : List Int) : Array Value := (l.map (Value.int .i64)).toArray
theorem cellsOf_at (l : List Int) (i : Nat) (h : i < l.length) : (cellsOf l)[i]? = some (.int .i64 (at0 l i)) := by
  simp [cellsOf, at0, h]
theorem l1In_zeros (r : Int) (w : World) (t : Nat) (o : Obj) : Calls Tryz.prog 147 #[.int .i64 r, .slice (some ⟨w.heap.size, 0, none⟩) 14 14] ((w.alloc (.cells (cellsOf zeros) t)).alloc o) fun e w' => e = .returned (.bool (inR r zeros)) ∧ w' = ((w.alloc (.cells (cellsOf zeros) t)).alloc o) := by
  refine l1In_any r w.heap.size zeros 14 _ (by decide) ?_
  intro i hi
  rw [World.cell?_alloc_past _ _ _ (by simp), World.cell?_alloc_at _ _ _ _ rfl]
  exact cellsOf_at _ i hi
theorem l1In_twos (r : Int) (w : World) (t : Nat) : Calls Tryz.prog 147 #[.int .i64 r, .slice (some ⟨w.heap.size, 0, none⟩) 24 24] (w.alloc (.cells (cellsOf twos) t)) fun e w' => e = .returned (.bool (inR r twos)) ∧ w' = (w.alloc (.cells (cellsOf twos) t)) := by
  refine l1In_any r w.heap.size twos 24 _ (by decide) ?_
  intro i hi
  rw [World.cell?_alloc_at _ _ _ _ rfl]
  exact cellsOf_at _ i hi
theorem l1In_twos' (r : Int) (w : World) (o : Obj) (t : Nat) : Calls Tryz.prog 147 #[.int .i64 r, .slice (some ⟨w.heap.size + 1, 0, none⟩) 24 24] ((w.alloc o).alloc (.cells (cellsOf twos) t)) fun e w' => e = .returned (.bool (inR r twos)) ∧ w' = ((w.alloc o).alloc (.cells (cellsOf twos) t)) := by
  have h := l1In_twos r (w.alloc o) t
  simpa using h
set_option maxHeartbeats 400000 in
theorem specRW_any (r : Int) (w : World) (h0 : -2147483648 ≤ r) (h1 : r ≤ 2147483647) :
    Calls Tryz.prog 115 #[.int .i32 r] w fun e w' => e = .returned (.int .i64 (wid r)) ∧ Below w.heap.size w w' := by
  cases hz : inR r zeros
  · cases ht : inR r twos
    all_goals
      have hw : Hid (wid r = if inR r zeros then 0 else if inR r twos then 2 else 1) := rfl
      go_enter Tryz.func115, Tryz.ntmps115
      go_wp2_with fail
      refine (l1In_zeros r w 3 _).mono ?_
      rintro e w' ⟨rfl, rfl⟩
      go_wp2_with fail
      refine (l1In_twos' r w _ 3).mono ?_
      rintro e w' ⟨rfl, rfl⟩
      go_wp2
      go_ret
      refine ⟨?_, by go_grown⟩
      rw [hw.out]; simp [hz, ht]
  · have hw : Hid (wid r = if inR r zeros then 0 else if inR r twos then 2 else 1) := rfl
    go_enter Tryz.func115, Tryz.ntmps115
    go_wp2_with fail
    refine (l1In_zeros r w 3 _).mono ?_
    rintro e w' ⟨rfl, rfl⟩
    go_wp2
    go_ret
    refine ⟨?_, by go_grown⟩
    rw [hw.out]; simp [hz]
end Go.Proofs.YtgdadidppelgdaaGreatDoor

namespace Go.Proofs.YtgdadidppelgdaaGreatDoor
open Go.RowKit
def firsts : List Int := [768, 1155, 1425, 4352, 8203, 8400, 11904, 12353, 19968, 44032, 63744, 65024, 65056, 65072, 65280, 65504, 127744, 129280, 131072]
def lasts : List Int := [879, 1161, 1469, 4447, 8207, 8432, 12350, 19903, 42191, 55203, 64255, 65039, 65071, 65135, 65376, 65510, 128591, 129535, 262141]
def widths : List Int := [0, 0, 0, 2, 0, 0, 2, 2, 2, 2, 2, 0, 0, 2, 2, 2, 2, 2, 2]
theorem firsts_up : ∀ j : Fin 19, ∀ i : Fin 19, i.val ≤ j.val → at0 firsts i.val ≤ at0 firsts j.val := by decide +kernel
theorem lasts_up : ∀ j : Fin 19, ∀ i : Fin 19, i.val ≤ j.val → at0 lasts i.val ≤ at0 lasts j.val := by decide +kernel
theorem wid_open (r : Int) : wid r = if ((768 ≤ r ∧ r ≤ 879) ∨ (1155 ≤ r ∧ r ≤ 1161) ∨ (1425 ≤ r ∧ r ≤ 1469) ∨ (8203 ≤ r ∧ r ≤ 8207) ∨ (8400 ≤ r ∧ r ≤ 8432) ∨ (65024 ≤ r ∧ r ≤ 65039) ∨ (65056 ≤ r ∧ r ≤ 65071)) then 0
    else if ((4352 ≤ r ∧ r ≤ 4447) ∨ (11904 ≤ r ∧ r ≤ 12350) ∨ (12353 ≤ r ∧ r ≤ 19903) ∨ (19968 ≤ r ∧ r ≤ 42191) ∨ (44032 ≤ r ∧ r ≤ 55203) ∨ (63744 ≤ r ∧ r ≤ 64255) ∨ (65072 ≤ r ∧ r ≤ 65135) ∨ (65280 ≤ r ∧ r ≤ 65376) ∨ (65504 ≤ r ∧ r ≤ 65510) ∨ (127744 ≤ r ∧ r ≤ 128591) ∨ (129280 ≤ r ∧ r ≤ 129535) ∨ (131072 ≤ r ∧ r ≤ 262141)) then 2 else 1 := by
  unfold wid
  have e1 : (inR r zeros = true) = ((768 ≤ r ∧ r ≤ 879) ∨ (1155 ≤ r ∧ r ≤ 1161) ∨ (1425 ≤ r ∧ r ≤ 1469) ∨ (8203 ≤ r ∧ r ≤ 8207) ∨ (8400 ≤ r ∧ r ≤ 8432) ∨ (65024 ≤ r ∧ r ≤ 65039) ∨ (65056 ≤ r ∧ r ≤ 65071)) := by
    simp [inR, zeros]
  have e2 : (inR r twos = true) = ((4352 ≤ r ∧ r ≤ 4447) ∨ (11904 ≤ r ∧ r ≤ 12350) ∨ (12353 ≤ r ∧ r ≤ 19903) ∨ (19968 ≤ r ∧ r ≤ 42191) ∨ (44032 ≤ r ∧ r ≤ 55203) ∨ (63744 ≤ r ∧ r ≤ 64255) ∨ (65072 ≤ r ∧ r ≤ 65135) ∨ (65280 ≤ r ∧ r ≤ 65376) ∨ (65504 ≤ r ∧ r ≤ 65510) ∨ (127744 ≤ r ∧ r ≤ 128591) ∨ (129280 ≤ r ∧ r ≤ 129535) ∨ (131072 ≤ r ∧ r ≤ 262141)) := by
    simp [inR, twos]
  simp only [e1, e2]
theorem wid_hit (r : Int) (m : Nat) (hm : m < 19) (h1 : at0 firsts m ≤ r) (h2 : r ≤ at0 lasts m) : wid r = at0 widths m := by
  rw [wid_open]
  match m, hm with
  | 0, _ | 1, _ | 2, _ | 3, _ | 4, _ | 5, _ | 6, _ | 7, _ | 8, _ | 9, _ | 10, _ | 11, _ | 12, _ | 13, _ | 14, _ | 15, _ | 16, _ | 17, _ | 18, _ =>
    simp [at0, firsts, lasts] at h1 h2
    first
      | (rw [if_pos (by omega)]; rfl)
      | (rw [if_neg (by omega), if_pos (by omega)]; rfl)
  | n + 19, h => omega
theorem wid_miss (r : Int) (l : Nat) (hl : l ≤ 19) (h1 : ∀ i, i < l → at0 lasts i < r) (h2 : ∀ i, l ≤ i → i < 19 → r < at0 firsts i) : wid r = 1 := by
  rw [wid_open]
  have a := h1 (l - 1)
  have b := h2 l (Nat.le_refl _)
  clear h1 h2
  match l, hl with
  | 0, _ | 1, _ | 2, _ | 3, _ | 4, _ | 5, _ | 6, _ | 7, _ | 8, _ | 9, _ | 10, _ | 11, _ | 12, _ | 13, _ | 14, _ | 15, _ | 16, _ | 17, _ | 18, _ | 19, _ =>
    simp [at0, firsts, lasts] at a b
    rw [if_neg (by omega), if_neg (by omega)]
  | n + 20, h => omega
theorem lo_step (r : Int) (m : Nat) (hm : m < 19) (h : at0 lasts m < r) : ∀ i, i < m + 1 → at0 lasts i < r := by
  intro i hi
  have := lasts_up ⟨m, hm⟩ ⟨i, by omega⟩ (by simp; omega)
  simp at this
  omega
theorem hi_step (r : Int) (m : Nat) (hm : m < 19) (h : r < at0 firsts m) : ∀ i, m ≤ i → i < 19 → r < at0 firsts i := by
  intro i hi hi2
  have := firsts_up ⟨i, hi2⟩ ⟨m, hm⟩ (by simp; omega)
  simp at this
  omega
/-- THE TABLE AS IT LIES IN MEMORY. -/
def Laid (w : World) : Prop := ∀ m : Nat, m < 19 → w.cell? ⟨0, m * 3, none⟩ = some (.int .i32 (at0 firsts m)) ∧ w.cell? ⟨0, m * 3 + 1, none⟩ = some (.int .i32 (at0 lasts m)) ∧ w.cell? ⟨0, m * 3 + 2, none⟩ = some (.int .i64 (at0 widths m))
theorem Laid.pos {w : World} (h : Laid w) : 0 < w.heap.size := lt_of_cell (h 0 (by omega)).1
theorem Laid.below {w w' : World} (h : Laid w) (hb : Below w.heap.size w w') : Laid w' := fun m hm => by
  have p := h.pos
  obtain ⟨a, b, c⟩ := h m hm
  exact ⟨(hb.cell (p := ⟨0, m * 3, none⟩) p).trans a, (hb.cell (p := ⟨0, m * 3 + 1, none⟩) p).trans b, (hb.cell (p := ⟨0, m * 3 + 2, none⟩) p).trans c⟩
set_option maxHeartbeats 400000 in
theorem implRW_any (r : Int) (w : World) (_h0 : -2147483648 ≤ r) (_h1 : r ≤ 2147483647) (hT : Laid w) :
    Calls Tryz.prog 175 #[.int .i32 r] w fun e w' => e = .returned (.int .i64 (wid r)) ∧ Below w.heap.size w w' := by
  go_enter Tryz.func175, Tryz.ntmps175
  go_wp2
  go_loopw [3, 4] (fun a b w' => ∃ l h : Nat, l ≤ h ∧ h ≤ 19 ∧ a = .int .i64 l ∧ b = .int .i64 h ∧ Hid ((∀ i, i < l → at0 lasts i < r) ∧ (∀ i, h ≤ i → i < 19 → r < at0 firsts i)) ∧ Below w.heap.size w w') (fun a b _ => (intOf b).toNat - (intOf a).toNat)
  case atStart => exact ⟨0, 19, by omega, by omega, rfl, rfl, ⟨by intros; omega, by intros; omega⟩, Below.refl _ _⟩
  case round =>
    obtain ⟨l, h, hlh, hh, rfl, rfl, HI, hb⟩ := hrel
    by_cases hlt : l < h
    · have hm0 : (l + h) / 2 < 19 := by omega
      have hm1 : l ≤ (l + h) / 2 := by omega
      have hm2 : (l + h) / 2 < h := by omega
      obtain ⟨c0, c1, c2⟩ := (hT.below hb) ((l + h)/2) hm0
      have hsz := hb.size
      go_wp2
      · go_roundw
        case rel => exact ⟨l, (l + h) / 2, by omega, by omega, by go_num, by go_num, ⟨HI.out.1, hi_step r _ hm0 (by assumption)⟩, by go_grown⟩
        case measure => simp [intOf]; omega
      · go_roundw
        case rel => exact ⟨(l + h) / 2 + 1, h, by omega, by omega, by go_num, by go_num, ⟨lo_step r _ hm0 (by assumption), HI.out.2⟩, by go_grown⟩
        case measure => simp [intOf]; omega
      · go_ret
        exact ⟨ret_int (wid_hit r _ hm0 (by omega) (by omega)).symm, by go_grown⟩
    · have e : l = h := by omega
      have hw : Hid (wid r = 1) := wid_miss r l (by omega) HI.out.1 (by rw [e]; exact HI.out.2)
      clear e
      go_wp2
      go_ret
      exact ⟨ret_int hw.out.symm, hb⟩
end Go.Proofs.YtgdadidppelgdaaGreatDoor

namespace Go.Proofs.YtgdadidppelgdaaGreatDoor
open Go.RowKit

/-- What a rune does to the clusters so far. -/
def clStep (cs : List (List Int × Int)) (x : Int) : List (List Int × Int) :=
  if 0 < wid x then cs ++ [([x], wid x)]
  else if cs.length = 0 then [([9676, x], 1)]
  else cs.set (cs.length - 1) (cR cs (cs.length - 1) ++ [x], cW cs (cs.length - 1))
def clF (xs : List Int) : Nat → List (List Int × Int)
  | 0 => []
  | k + 1 => clStep (clF xs k) (shownI (at0 xs k))
/-- The clusters of runes. -/
def clusC (xs : List Int) : List (List Int × Int) := clF xs xs.length
theorem clF_len (xs : List Int) : ∀ k, (clF xs k).length ≤ k
  | 0 => by simp [clF]
  | k + 1 => by
    have := clF_len xs k
    rw [clF, clStep]
    repeat' split
    all_goals simp
    all_goals omega
theorem clF_runes (xs : List Int) : ∀ k j, (cR (clF xs k) j).length ≤ k + 1
  | 0, j => by simp [clF, cR]
  | k + 1, j => by
    have ih := clF_runes xs k
    rw [clF, clStep]
    split
    · rw [cR_push]; split
      · simp
      · have := ih j; omega
    · split
      · rename_i h1 h2
        by_cases hj : j = 0
        · subst hj; simp [cR]
        · simp [cR, List.getElem?_eq_none (show [(([9676, shownI (at0 xs k)] : List Int), (1 : Int))].length ≤ j by simp; omega)]
      · rename_i h1 h2
        rw [cR_set _ _ _ _ (by omega)]
        split
        · have := ih ((clF xs k).length - 1); simp; omega
        · have := ih j; omega
theorem wid_bd (r : Int) : 0 ≤ wid r ∧ wid r ≤ 2 := by
  unfold wid
  repeat' split
  all_goals omega
theorem infoClu : (Tryz.prog.info? 139).map (fun i => (i.zero, i.size, i.bytes)) = some (some (.agg #[.slice none 0 0, .int .i64 0]), 2, 32) := by kernel_rfl
theorem infoI32u : (Tryz.prog.info? 21).map (fun i => (i.zero, i.size, i.bytes)) = some (some (.int .i32 0), 1, 4) := by kernel_rfl
set_option maxRecDepth 10000 in
set_option maxHeartbeats 2000000 in
theorem specClusters_any (v : Value) (xs : List Int) (w : World) (hv : IntsAt w .i32 v xs) (hI : I32s xs) (hl : xs.length ≤ 16777216) :
    Calls Tryz.prog 87 #[v] w fun e w' => ∃ v' rs, e = .returned v' ∧ OwnCls w' w.heap.size v' rs (clusC xs) ∧ Ext w w' := by
  obtain ⟨ic, hic, hc0, hc1, hc2⟩ := info_parts infoClu
  obtain ⟨ii, hii, hi0, hi1, hi2⟩ := info_parts infoI32u
  obtain ⟨ao, cap, rfl, hcap, hr⟩ := hv
  have HF : Hid (clusC xs = clF xs xs.length) := rfl
  obtain ⟨n, hn⟩ : ∃ n, n = xs.length := ⟨_, rfl⟩
  rw [← hn] at hcap hr hl HF ⊢
  have HR := hide hr
  clear hr hn
  go_enter Tryz.func87, Tryz.ntmps87
  go_wp2
  go_loopw [3, 4] (fun o i wr => ∃ (k : Nat) (rs : List Value), k ≤ n ∧ i = .int .i64 k ∧ Hid (OwnCls wr w.heap.size o rs (clF xs k)) ∧ Ext w wr) (fun _ i _ => n - (intOf i).toNat)
  case atStart => exact ⟨0, [], Nat.zero_le _, rfl, ⟨rfl, ⟨[], by simpa [clF] using World.ownsRow_made w #[] 0 (Nat.le_refl _) (by unfold maxLen; omega) (by simp), fun j hj => by simp [clF] at hj⟩, fun j hj => by simp [clF] at hj, fun i j g _ hj => by simp [clF] at hj⟩, (Ext.refl _).alloc _⟩
  case round =>
    obtain ⟨k, rs, hk, rfl, HO, hext⟩ := hrel
    by_cases hlt : k < n
    · obtain ⟨b, off, hao, hc⟩ := (unhide HR) (by omega)
      subst hao
      have g1 := hext.cell (hc k hlt)
      clear hc
      have bk : (k : Int) < (n : Int) := by omega
      have hst : Hid (clF xs (k + 1) = clStep (clF xs k) (shownI (at0 xs k))) := rfl
      have hlen := clF_len xs k
      have hrl := clF_runes xs k
      have HRL := hide hrl
      clear hrl
      obtain ⟨x, hx⟩ : ∃ x, x = shownI (at0 xs k) := ⟨_, rfl⟩
      have hxb := shownI_bd (at0 xs k)
      have hIk := hI.at0 k
      have HX := hide hx
      rw [← hx] at hst hxb
      clear hx
      obtain ⟨cs, hcs⟩ : ∃ cs, cs = clF xs k := ⟨_, rfl⟩
      rw [← hcs] at HO hst hlen HRL
      have HCS := hide hcs
      clear hcs
      have hwb := wid_bd x
      go_wp2_with fail
      refine (l1Shown_any _ _).mono ?_
      rw [← unhide HX]
      rintro e w1 ⟨rfl, rfl⟩
      go_wp2_with fail
      refine (specRW_any x _ (by omega) (by omega)).mono ?_
      rintro e w2 ⟨rfl, hb2⟩
      have F2 := Ext.of_below hb2
      have E2 := hext.trans F2
      have z2 := E2.size
      clear hb2
      obtain ⟨h0, ⟨ys, hy, hyy⟩, h3, h4⟩ := (unhide HO).ext F2
      by_cases hwp : 0 < wid x
      · have hsA : Hid (clF xs (k + 1) = cs ++ [([x], wid x)]) := by show _ = _; rw [hst.out, clStep, if_pos hwp]
        have hyE := hide ((((Ext.refl w2).alloc (.cells #[.int .i32 x] 21)).alloc (.cells #[.slice (some ⟨w2.heap.size, 0, none⟩) 1 1, .int .i64 (wid x)] 139)).owns hy)
        have HYY := hide hyy
        have H3 := hide h3
        have hOC := hide ((unhide HO).ext F2)
        clear hy hyy h3 h4
        go_wp2_with (at_builtin; go_must (refine wpList_append_own _ rfl _ _ 115 rfl w.heap.size 139 ic (.agg #[.slice none 0 0, .int .i64 0]) 2 32 Tryz.underlying115 hic hc0 hc1 hc2 rfl (by decide) _ _ _ rfl (unhide hyE) ⟨w2.heap.size + 1, 0, none⟩ 1 1 [.slice (some ⟨w2.heap.size, 0, none⟩) 1 1, .int .i64 (wid x)] rfl rfl ?_ (pair_one rfl rfl) ?_ ?_ ?_ ?_))
        · have := news_cells (w := w2.alloc (.cells #[.int .i32 x] 21)) [.slice (some ⟨w2.heap.size, 0, none⟩) 1 1, .int .i64 (wid x)] 139
          simpa using this
        · unfold maxLen; omega
        · omega
        · simp; omega
        · intro v' w3 hown' hgrow _
          have E3 : Ext w w3 := ((E2.alloc _).alloc _).grown hgrow (fun q hq => ((unhide hyE).lt q hq).1)
          have hO3 : OwnCls w3 w.heap.size v' (rs ++ [.slice (some ⟨w2.heap.size, 0, none⟩) 1 1]) (cs ++ [([x], wid x)]) := by
            refine OwnCls.push (((unhide hOC).ext (((Ext.refl w2).alloc _).alloc _))) (unhide hyE) (unhide HYY) ?_ ?_ hown' hgrow
            · exact ((Ext.refl _).alloc _).owns (own_lit .i32 [x] 21 w.heap.size 1 rfl (by omega) (by unfold maxLen; simp))
            · intro j q hj hq
              have := ((unhide H3) j hj).lt q hq
              simp [Value.ownBlock]; omega
          rw [← hsA.out] at hO3
          have HO3 := hide hO3
          clear hown' hgrow hO3 hyE hOC H3
          go_wp2
          go_roundw
          case rel => exact ⟨k + 1, _, by omega, by go_num, HO3, E3⟩
          case measure => simp [intOf]; omega
      · have hw0 : wid x = 0 := by omega
        have hw0' : ¬ (0 : Int) < wid x := by omega
        by_cases hne : cs.length = 0
        · have hce : cs = [] := List.eq_nil_of_length_eq_zero hne
          have hsB : Hid (clF xs (k + 1) = [([9676, x], 1)]) := by show _ = _; rw [hst.out, clStep, if_neg hwp, if_pos hne]
          have hrs : rs = [] := List.eq_nil_of_length_eq_zero (by omega)
          subst hce
          subst hrs
          have hyE := hide ((((Ext.refl w2).alloc (.cells #[.int .i32 9676] 21)).alloc (.cells #[.slice (some ⟨w2.heap.size, 0, none⟩) 1 1, .int .i64 1] 139)).owns hy)
          have HYY := hide hyy
          have hOC := hide ((unhide HO).ext F2)
          have hu3 : ∃ a c, u3 = .slice a 0 c := by
            rcases hy.2 with ⟨rfl, _⟩ | ⟨g, co, cur, rfl, _⟩
            · exact ⟨_, _, rfl⟩
            · exact ⟨_, _, rfl⟩
          obtain ⟨au, cu, hu3⟩ := hu3
          subst hu3
          clear hy hyy h3 h4 hw0 hne hlen
          go_wp2_with (at_builtin; go_must (refine wpList_append_own _ rfl _ _ 115 rfl w.heap.size 139 ic (.agg #[.slice none 0 0, .int .i64 0]) 2 32 Tryz.underlying115 hic hc0 hc1 hc2 rfl (by decide) _ _ _ rfl (unhide hyE) ⟨w2.heap.size + 1, 0, none⟩ 1 1 [.slice (some ⟨w2.heap.size, 0, none⟩) 1 1, .int .i64 1] rfl rfl ?_ (pair_one rfl rfl) ?_ ?_ ?_ ?_))
          · have := news_cells (w := w2.alloc (.cells #[.int .i32 9676] 21)) [.slice (some ⟨w2.heap.size, 0, none⟩) 1 1, .int .i64 1] 139
            simpa using this
          · unfold maxLen; simp
          · simp
          · simp; omega
          · intro v' w3 hown' hgrow _
            have E3 : Ext w w3 := ((E2.alloc _).alloc _).grown hgrow (fun q hq => ((unhide hyE).lt q hq).1)
            have hO3 : OwnCls w3 w.heap.size v' ([] ++ [.slice (some ⟨w2.heap.size, 0, none⟩) 1 1]) ([] ++ [([9676], 1)]) := by
              refine OwnCls.push (((unhide hOC).ext (((Ext.refl w2).alloc _).alloc _))) (unhide hyE) (unhide HYY) ?_ ?_ hown' hgrow
              · exact ((Ext.refl _).alloc _).owns (own_lit .i32 [9676] 21 w.heap.size 1 rfl (by omega) (by unfold maxLen; simp))
              · intro j q hj hq
                simp at hj
            have z3 : w2.heap.size + 2 ≤ w3.heap.size := by have := hgrow.size; simpa using this
            rcases hown'.2 with ⟨_, h5⟩ | ⟨g, co, cur, hval, _⟩
            · simp at h5
            subst hval
            simp only [List.nil_append] at hO3
            have hOC3 := hide hO3
            obtain ⟨_, ⟨ys3, hy3, hyy3⟩, h33, _⟩ := hO3
            have hcl : w3.cell? ⟨g, 0, none⟩ = some (.slice (some ⟨w2.heap.size, 0, none⟩) 1 1) := by
              have := hy3.cellAt 0 (by simp)
              rw [this]; simpa [rV] using (hyy3 0 (by simp)).1
            have hrmE := hide (((Ext.refl w3).alloc (.cells #[.int .i32 x] 21)).owns (h33 0 (by simp)))
            have HY := hide hy3
            clear hown' hgrow hyE hOC hy3 hyy3 h33
            go_wp2_with (at_builtin; go_must (refine wpList_append_own_at _ rfl _ _ 125 rfl w.heap.size 21 ii (.int .i32 0) 1 4 Tryz.underlying125 hii hi0 hi1 hi2 rfl (by decide) _ _ _ rfl (unhide hrmE) ⟨w3.heap.size, 0, none⟩ 1 1 [.int .i32 x] rfl rfl ?_ ?_ ?_ ?_ ?_ ?_))
            · exact news_cells [.int .i32 x] 21
            · intro u hu; simp at hu; subst hu; rfl
            · unfold maxLen; simp [cR]
            · simp [cR]
            · simp; omega
            · intro r' w4 hown' hgrow _ hat
              rcases hown'.2 with ⟨_, h5⟩ | ⟨gr, cr, curr, hvr, _⟩
              · simp at h5
              subst hvr
              have hWE : Ext w3 (w3.alloc (.cells #[.int .i32 x] 21)) := (Ext.refl w3).alloc _
              have hy4 := owns_same (w' := w4) (hWE.owns (unhide HY)) (fun q hq => hgrow.block q ((hWE.owns (unhide HY)).lt q hq).2 (fun e => owns_apart (hWE.owns (unhide HY)) (unhide hrmE) (by decide) hq e.symm))
              have f0 := hy4.frozenAt 0
              obtain ⟨u0, c0⟩ : ∃ u, w4.cell? ⟨g, 0, none⟩ = some u := by
                rw [hy4.cellAt _ (by simp)]; exact ⟨_, List.getElem?_eq_getElem (by have := hy4.1; simp at this; omega)⟩
              have E4 : Ext w w4 := (E3.alloc _).grown hgrow (fun q hq => ((unhide hrmE).lt q hq).1)
              have hO4 := OwnCls.grow (m := 0) (H := w3.heap.size + 1) (x := x) ((unhide hOC3).ext hWE) (by simp) (fun i hi q hq => by
                simp at hi; subst hi; simp [rV, Value.ownBlock] at hq; omega) (by simpa using hown') hgrow (by simpa [rV] using hat)
              have hsB2 : Hid (clF xs (k + 1) = [([9676], (1 : Int))].set 0 (cR [([9676], (1 : Int))] 0 ++ [x], cW [([9676], (1 : Int))] 0)) := by
                show _ = _; rw [hsB.out]; simp [cR, cW]
              rw [← hsB2.out] at hO4
              have hgb := ((unhide HY).lt g rfl).1
              have HO4 := hide hO4
              clear hown' hgrow hO4 hrmE hOC3 hy4 hat
              go_wp2
              go_roundw
              case rel => exact ⟨k + 1, _, by omega, by go_num, HO4, E4.setCell hgb _⟩
              case measure => simp [intOf]; omega
        · have hsC : Hid (clF xs (k + 1) = cs.set (cs.length - 1) (cR cs (cs.length - 1) ++ [x], cW cs (cs.length - 1))) := by show _ = _; rw [hst.out, clStep, if_neg hwp, if_neg hne]
          clear hw0
          rcases hy.2 with ⟨_, h5⟩ | ⟨g, co, cur, hval, _⟩
          · omega
          subst hval
          obtain ⟨m, hm⟩ : ∃ m, cs.length = m + 1 := ⟨cs.length - 1, by omega⟩
          have hcl : w2.cell? ⟨g, m * 2, none⟩ = some (rV rs m) := by rw [hy.cellAt _ (by omega)]; exact (hyy m (by omega)).1
          have hrm := h3 m (by omega)
          have hgl := (hy.lt g rfl).2
          have hrmE := hide (((Ext.refl w2).alloc (.cells #[.int .i32 x] 21)).owns hrm)
          have hrr := (unhide HRL) m
          have hOC := hide ((unhide HO).ext F2)
          have HL := hide hm
          have hml : m + 1 ≤ k := by omega
          have hml2 : (m : Int) ≤ 16777216 := by omega
          have HY := hide hy
          have H3 := hide h3
          have hlen1 : ((cs.length : Int) == 0) = false := beq_eq_false_iff_ne.2 (by omega)
          rw [hm] at hlen1 hsC ⊢
          simp only [Nat.add_sub_cancel] at hsC
          clear hy hyy h3 h4 hrm hm hne
          go_wp2_with (at_builtin; go_must (refine wpList_append_own_at _ rfl _ _ 125 rfl w.heap.size 21 ii (.int .i32 0) 1 4 Tryz.underlying125 hii hi0 hi1 hi2 rfl (by decide) _ _ _ rfl (unhide hrmE) ⟨w2.heap.size, 0, none⟩ 1 1 [.int .i32 x] rfl rfl ?_ ?_ ?_ ?_ ?_ ?_))
          · exact news_cells [.int .i32 x] 21
          · intro u hu; simp at hu; subst hu; rfl
          · unfold maxLen; omega
          · omega
          · simp; omega
          · intro r' w3 hown' hgrow _ hat
            rcases hown'.2 with ⟨_, h5⟩ | ⟨gr, cr, curr, hvr, _⟩
            · omega
            subst hvr
            have hWE : Ext w2 (w2.alloc (.cells #[.int .i32 x] 21)) := (Ext.refl w2).alloc _
            have hy3 := owns_same (w' := w3) (hWE.owns (unhide HY)) (fun q hq => hgrow.block q ((hWE.owns (unhide HY)).lt q hq).2 (fun e => owns_apart (hWE.owns (unhide HY)) (unhide hrmE) (by decide) hq e.symm))
            have f0 := hy3.frozenAt (m * 2)
            obtain ⟨u0, c0⟩ : ∃ u, w3.cell? ⟨g, m * 2, none⟩ = some u := by
              rw [hy3.cellAt _ (by rw [unhide HL]; omega)]; exact ⟨_, List.getElem?_eq_getElem (by have := hy3.1; rw [unhide HL] at this; omega)⟩
            have E3 : Ext w w3 := (E2.alloc _).grown hgrow (fun q hq => ((unhide hrmE).lt q hq).1)
            have hO3 := OwnCls.grow (m := m) (H := w2.heap.size + 1) (x := x) ((unhide hOC).ext hWE) (by rw [unhide HL]; omega) (fun i hi q hq => by have := ((unhide H3) i hi).lt q hq; omega) (by simpa using hown') hgrow (by simpa using hat)
            rw [← hsC.out] at hO3
            have hgb := ((unhide HY).lt g rfl).1
            rw [unhide HL] at hO3
            have HO3 := hide hO3
            clear hown' hgrow hO3 hrmE hOC H3 hy3 hat
            go_wp2
            go_roundw
            case rel => exact ⟨k + 1, _, by omega, by go_num, HO3, E3.setCell hgb _⟩
            case measure => simp [intOf]; omega
    · obtain rfl : k = n := by omega
      rw [← HF.out] at HO
      go_wp2
      go_ret
      exact ⟨_, rs, rfl, unhide HO, hext⟩
set_option maxRecDepth 10000 in
set_option maxHeartbeats 2000000 in
theorem implClusters_any (v : Value) (xs : List Int) (w : World) (hv : IntsAt w .i32 v xs) (hI : I32s xs) (hl : xs.length ≤ 16777216) (hT : Laid w) :
    Calls Tryz.prog 142 #[v] w fun e w' => ∃ v' rs, e = .returned v' ∧ OwnCls w' w.heap.size v' rs (clusC xs) ∧ Ext w w' := by
  obtain ⟨ic, hic, hc0, hc1, hc2⟩ := info_parts infoClu
  obtain ⟨ii, hii, hi0, hi1, hi2⟩ := info_parts infoI32u
  obtain ⟨ao, cap, rfl, hcap, hr⟩ := hv
  have HF : Hid (clusC xs = clF xs xs.length) := rfl
  obtain ⟨n, hn⟩ : ∃ n, n = xs.length := ⟨_, rfl⟩
  rw [← hn] at hcap hr hl HF ⊢
  have HR := hide hr
  clear hr hn
  go_enter Tryz.func142, Tryz.ntmps142
  go_wp2
  go_loopw [3, 11] (fun o i wr => ∃ (k : Nat) (rs : List Value), k ≤ n ∧ i = .int .i64 k ∧ Hid (OwnCls wr w.heap.size o rs (clF xs k)) ∧ Ext w wr) (fun _ i _ => n - (intOf i).toNat)
  case atStart => exact ⟨0, [], Nat.zero_le _, rfl, ⟨rfl, ⟨[], by simpa [clF] using World.ownsRow_nil w w.heap.size 139 2, fun j hj => by simp [clF] at hj⟩, fun j hj => by simp [clF] at hj, fun i j g _ hj => by simp [clF] at hj⟩, Ext.refl _⟩
  case round =>
    obtain ⟨k, rs, hk, rfl, HO, hext⟩ := hrel
    by_cases hlt : k < n
    · obtain ⟨b, off, hao, hc⟩ := (unhide HR) (by omega)
      subst hao
      have g1 := hext.cell (hc k hlt)
      clear hc
      have bk : (k : Int) < (n : Int) := by omega
      have hst : Hid (clF xs (k + 1) = clStep (clF xs k) (shownI (at0 xs k))) := rfl
      have hlen := clF_len xs k
      have hrl := clF_runes xs k
      have HRL := hide hrl
      clear hrl
      obtain ⟨x, hx⟩ : ∃ x, x = shownI (at0 xs k) := ⟨_, rfl⟩
      have hxb := shownI_bd (at0 xs k)
      have hIk := hI.at0 k
      have HX := hide hx
      rw [← hx] at hst hxb
      clear hx
      obtain ⟨cs, hcs⟩ : ∃ cs, cs = clF xs k := ⟨_, rfl⟩
      rw [← hcs] at HO hst hlen HRL
      have HCS := hide hcs
      clear hcs
      have hwb := wid_bd x
      have HT := hide (hT.below hext.below)
      go_wp2_with fail
      refine (showable_any _ _).mono ?_
      rw [← unhide HX]
      rintro e w1 ⟨rfl, rfl⟩
      go_wp2_with fail
      refine (implRW_any x _ (by omega) (by omega) (unhide HT)).mono ?_
      rintro e w2 ⟨rfl, hb2⟩
      have F2 := Ext.of_below hb2
      have E2 := hext.trans F2
      have z2 := E2.size
      clear hb2
      obtain ⟨h0, ⟨ys, hy, hyy⟩, h3, h4⟩ := (unhide HO).ext F2
      by_cases hwp : 0 < wid x
      · have hsA : Hid (clF xs (k + 1) = cs ++ [([x], wid x)]) := by show _ = _; rw [hst.out, clStep, if_pos hwp]
        have hyE := hide ((((Ext.refl w2).alloc (.cells #[.int .i32 x] 21)).alloc (.cells #[.slice (some ⟨w2.heap.size, 0, none⟩) 1 1, .int .i64 (wid x)] 139)).owns hy)
        have HYY := hide hyy
        have H3 := hide h3
        have hOC := hide ((unhide HO).ext F2)
        clear hy hyy h3 h4
        go_wp2_with (at_builtin; go_must (refine wpList_append_own _ rfl _ _ 115 rfl w.heap.size 139 ic (.agg #[.slice none 0 0, .int .i64 0]) 2 32 Tryz.underlying115 hic hc0 hc1 hc2 rfl (by decide) _ _ _ rfl (unhide hyE) ⟨w2.heap.size + 1, 0, none⟩ 1 1 [.slice (some ⟨w2.heap.size, 0, none⟩) 1 1, .int .i64 (wid x)] rfl rfl ?_ (pair_one rfl rfl) ?_ ?_ ?_ ?_))
        · have := news_cells (w := w2.alloc (.cells #[.int .i32 x] 21)) [.slice (some ⟨w2.heap.size, 0, none⟩) 1 1, .int .i64 (wid x)] 139
          simpa using this
        · unfold maxLen; omega
        · omega
        · simp; omega
        · intro v' w3 hown' hgrow _
          have E3 : Ext w w3 := ((E2.alloc _).alloc _).grown hgrow (fun q hq => ((unhide hyE).lt q hq).1)
          have hO3 : OwnCls w3 w.heap.size v' (rs ++ [.slice (some ⟨w2.heap.size, 0, none⟩) 1 1]) (cs ++ [([x], wid x)]) := by
            refine OwnCls.push (((unhide hOC).ext (((Ext.refl w2).alloc _).alloc _))) (unhide hyE) (unhide HYY) ?_ ?_ hown' hgrow
            · exact ((Ext.refl _).alloc _).owns (own_lit .i32 [x] 21 w.heap.size 1 rfl (by omega) (by unfold maxLen; simp))
            · intro j q hj hq
              have := ((unhide H3) j hj).lt q hq
              simp [Value.ownBlock]; omega
          rw [← hsA.out] at hO3
          have HO3 := hide hO3
          clear hown' hgrow hO3 hyE hOC H3
          go_wp2
          go_roundw
          case rel => exact ⟨k + 1, _, by omega, by go_num, HO3, E3⟩
          case measure => simp [intOf]; omega
      · have hw0 : wid x = 0 := by omega
        have hw0' : ¬ (0 : Int) < wid x := by omega
        by_cases hne : cs.length = 0
        · have hce : cs = [] := List.eq_nil_of_length_eq_zero hne
          have hsB : Hid (clF xs (k + 1) = [([9676, x], 1)]) := by show _ = _; rw [hst.out, clStep, if_neg hwp, if_pos hne]
          have hrs : rs = [] := List.eq_nil_of_length_eq_zero (by omega)
          subst hce
          subst hrs
          have hu3 : ∃ a c, u3 = .slice a 0 c := by
            rcases hy.2 with ⟨rfl, _⟩ | ⟨g, co, cur, rfl, _⟩
            · exact ⟨_, _, rfl⟩
            · exact ⟨_, _, rfl⟩
          obtain ⟨au, cu, hu3⟩ := hu3
          subst hu3
          have HYY := hide hyy
          have HY := hide hy
          have hOC := hide ((unhide HO).ext F2)
          have HT2 := hide ((hT.below E2.below).below ((Ext.refl w2).alloc (.cells #[.int .i32 9676, .int .i32 x] 21)).below)
          have hw9 : wid 9676 = 1 := by decide
          have hrw := hide (implRW_any 9676 _ (by omega) (by omega) (unhide HT2))
          rw [hw9] at hrw
          clear hy hyy h3 h4 hw0 hne hlen hw9
          go_wp2_with fail
          refine (unhide hrw).mono ?_
          rintro e w3 ⟨rfl, hb3⟩
          have F3 := ((Ext.refl w2).alloc (.cells #[.int .i32 9676, .int .i32 x] 21)).trans (Ext.of_below hb3)
          have E3 := E2.trans F3
          have hz3 : w2.heap.size + 1 ≤ w3.heap.size := by have := hb3.size; simpa using this
          have hr3 := hide ((Ext.of_below hb3).owns (own_lit .i32 [9676, x] 21 w.heap.size 2 rfl (by omega) (by unfold maxLen; simp)))
          have hyE := hide (((Ext.refl w3).alloc (.cells #[.slice (some ⟨w2.heap.size, 0, none⟩) 2 2, .int .i64 1] 139)).owns (F3.owns (unhide HY)))
          clear hb3
          go_wp2_with (at_builtin; go_must (refine wpList_append_own _ rfl _ _ 115 rfl w.heap.size 139 ic (.agg #[.slice none 0 0, .int .i64 0]) 2 32 Tryz.underlying115 hic hc0 hc1 hc2 rfl (by decide) _ _ _ rfl (unhide hyE) ⟨w3.heap.size, 0, none⟩ 1 1 [.slice (some ⟨w2.heap.size, 0, none⟩) 2 2, .int .i64 1] rfl rfl ?_ (pair_one rfl rfl) ?_ ?_ ?_ ?_))
          · exact news_cells (w := w3) [.slice (some ⟨w2.heap.size, 0, none⟩) 2 2, .int .i64 1] 139
          · unfold maxLen; simp
          · simp
          · simp; omega
          · intro v' w4 hown' hgrow _
            have E4 : Ext w w4 := (E3.alloc _).grown hgrow (fun q hq => ((unhide hyE).lt q hq).1)
            have hO4 : OwnCls w4 w.heap.size v' ([] ++ [.slice (some ⟨w2.heap.size, 0, none⟩) 2 2]) ([] ++ [([9676, x], 1)]) := by
              refine OwnCls.push ((((unhide hOC).ext F3).ext ((Ext.refl w3).alloc _))) (unhide hyE) (unhide HYY) ?_ ?_ hown' hgrow
              · exact ((Ext.refl _).alloc _).owns (unhide hr3)
              · intro j q hj hq
                simp at hj
            simp only [List.nil_append] at hO4
            rw [← hsB.out] at hO4
            have HO4 := hide hO4
            clear hown' hgrow hO4 hyE hOC hr3
            go_wp2
            go_roundw
            case rel => exact ⟨k + 1, _, by omega, by go_num, HO4, E4⟩
            case measure => simp [intOf]; omega
        · have hsC : Hid (clF xs (k + 1) = cs.set (cs.length - 1) (cR cs (cs.length - 1) ++ [x], cW cs (cs.length - 1))) := by show _ = _; rw [hst.out, clStep, if_neg hwp, if_neg hne]
          clear hw0
          rcases hy.2 with ⟨_, h5⟩ | ⟨g, co, cur, hval, _⟩
          · omega
          subst hval
          obtain ⟨m, hm⟩ : ∃ m, cs.length = m + 1 := ⟨cs.length - 1, by omega⟩
          have hcl : w2.cell? ⟨g, m * 2, none⟩ = some (rV rs m) := by rw [hy.cellAt _ (by omega)]; exact (hyy m (by omega)).1
          have hrm := h3 m (by omega)
          have hgl := (hy.lt g rfl).2
          have hrmE := hide (((Ext.refl w2).alloc (.cells #[.int .i32 x] 21)).owns hrm)
          have hrr := (unhide HRL) m
          have hOC := hide ((unhide HO).ext F2)
          have HL := hide hm
          have hml : m + 1 ≤ k := by omega
          have hml2 : (m : Int) ≤ 16777216 := by omega
          have HY := hide hy
          have H3 := hide h3
          have hlen1 : ((cs.length : Int) == 0) = false := beq_eq_false_iff_ne.2 (by omega)
          rw [hm] at hlen1 hsC ⊢
          simp only [Nat.add_sub_cancel] at hsC
          clear hy hyy h3 h4 hrm hm hne
          go_wp2_with (at_builtin; go_must (refine wpList_append_own_at _ rfl _ _ 125 rfl w.heap.size 21 ii (.int .i32 0) 1 4 Tryz.underlying125 hii hi0 hi1 hi2 rfl (by decide) _ _ _ rfl (unhide hrmE) ⟨w2.heap.size, 0, none⟩ 1 1 [.int .i32 x] rfl rfl ?_ ?_ ?_ ?_ ?_ ?_))
          · exact news_cells [.int .i32 x] 21
          · intro u hu; simp at hu; subst hu; rfl
          · unfold maxLen; omega
          · omega
          · simp; omega
          · intro r' w3 hown' hgrow _ hat
            rcases hown'.2 with ⟨_, h5⟩ | ⟨gr, cr, curr, hvr, _⟩
            · omega
            subst hvr
            have hWE : Ext w2 (w2.alloc (.cells #[.int .i32 x] 21)) := (Ext.refl w2).alloc _
            have hy3 := owns_same (w' := w3) (hWE.owns (unhide HY)) (fun q hq => hgrow.block q ((hWE.owns (unhide HY)).lt q hq).2 (fun e => owns_apart (hWE.owns (unhide HY)) (unhide hrmE) (by decide) hq e.symm))
            have f0 := hy3.frozenAt (m * 2)
            obtain ⟨u0, c0⟩ : ∃ u, w3.cell? ⟨g, m * 2, none⟩ = some u := by
              rw [hy3.cellAt _ (by rw [unhide HL]; omega)]; exact ⟨_, List.getElem?_eq_getElem (by have := hy3.1; rw [unhide HL] at this; omega)⟩
            have E3 : Ext w w3 := (E2.alloc _).grown hgrow (fun q hq => ((unhide hrmE).lt q hq).1)
            have hO3 := OwnCls.grow (m := m) (H := w2.heap.size + 1) (x := x) ((unhide hOC).ext hWE) (by rw [unhide HL]; omega) (fun i hi q hq => by have := ((unhide H3) i hi).lt q hq; omega) (by simpa using hown') hgrow (by simpa using hat)
            rw [← hsC.out] at hO3
            have hgb := ((unhide HY).lt g rfl).1
            rw [unhide HL] at hO3
            have HO3 := hide hO3
            clear hown' hgrow hO3 hrmE hOC H3 hy3 hat
            go_wp2
            go_roundw
            case rel => exact ⟨k + 1, _, by omega, by go_num, HO3, E3.setCell hgb _⟩
            case measure => simp [intOf]; omega
    · obtain rfl : k = n := by omega
      rw [← HF.out] at HO
      go_wp2
      go_ret
      exact ⟨_, rs, rfl, unhide HO, hext⟩
end Go.Proofs.YtgdadidppelgdaaGreatDoor
