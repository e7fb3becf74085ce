import Derived.Test.YtinfdhbnljnifaaGreatDoorProg
import Derived.Test.YtinfdhbnljnifaaGreatDoorRsz
import Derived.Test.YtinfdhbnljnifaaGreatDoorChecked
namespace Go.Proofs.YtinfdhbnljnifaaGreatDoor
open Go.RowKit
def inR (r : Int) : List Int → Bool
 | a :: b :: t => (decide (a ≤ r) && decide (r ≤ b)) || inR r t
 | _ => false
theorem zox (r : Int) (xs : List Int) (k : Nat) (h : k + 1 < xs.length) :
  inR r (xs.drop k) = ((decide (at0 xs k ≤ r) && decide (r ≤ at0 xs (k + 1))) || inR r (xs.drop (k + 2))) := by
 rw [List.drop_eq_getElem_cons (by omega), List.drop_eq_getElem_cons (by omega), inR]
 simp [at0, List.getElem?_eq_getElem (show k < xs.length by omega), List.getElem?_eq_getElem h]
theorem zmZ (r : Int) (xs : List Int) (k : Nat) (h : xs.length ≤ k + 1) : inR r (xs.drop k) = false := by
 have : (xs.drop k).length ≤ 1 := by simp; omega
 match hx : xs.drop k, this with
 | [], _ => rfl
 | [a], _ => rfl
set_option maxHeartbeats 400000 in
theorem zjP (r : Int) (b : Nat) (xs : List Int) (c : Nat) (w : World) (hl : xs.length < 1000)
  (hc : ∀ i : Nat, i < xs.length → w.cell? ⟨b, i, none⟩ = some (.int .i64 (at0 xs i))) :
  Calls Tryz.prog 162 #[.int .i64 r, .slice (some ⟨b, 0, none⟩) xs.length c] w fun e w' => e = .returned (.bool (inR r xs)) ∧ w' = w := by
 go_enter Tryz.func162, Tryz.ntmps162
 go_wp2
 go_loop [5] (fun i => ∃ k : Nat, k ≤ xs.length + 1 ∧ i = .int .i64 k ∧ inR r (xs.drop k) = inR r xs) (fun i => xs.length + 1 - (intOf i).toNat)
 case atStart => exact ⟨0, Nat.zero_le _, rfl, rfl⟩
 case round =>
  obtain ⟨k, hk, rfl, hin0⟩ := hrel
  have hin : Hid (inR r (xs.drop k) = inR r xs) := hin0
  by_cases hlt : k + 1 < xs.length
  ·have h1 := hc k (by omega)
   have h2 := hc (k+1) (by omega)
   have hd : Hid (inR r (xs.drop k) = ((decide (at0 xs k ≤ r) && decide (r ≤ at0 xs (k + 1))) || inR r (xs.drop (k + 2)))) := zox r xs k hlt
   clear hin0
   go_wp2
   ·go_ret
    exact ⟨zaH (by rw [← hin.out, hd.out]; simp [*]), rfl⟩
   all_goals
    go_round
    case rel => exact ⟨k + 2, by omega, by go_num, by rw [← hin.out, hd.out]; simp only [Bool.eq_or_self]; intro hh; simp at hh; omega⟩
    case measure => simp [intOf]; omega
  ·clear hin0
   have hs : Hid (inR r (xs.drop k) = false) := zmZ r xs k (by omega)
   go_wp2
   go_ret
   exact ⟨zaH (by rw [← hin.out, hs.out]), rfl⟩
def zeG : List Int := [768, 879, 1155, 1161, 1425, 1469, 8203, 8207, 8400, 8432, 65024, 65039, 65056, 65071]
def zfy : List Int := [4352, 4447, 11904, 12350, 12353, 19903, 19968, 42191, 44032, 55203, 63744, 64255, 65072, 65135, 65280, 65376, 65504, 65510, 127744, 128591, 129280, 129535, 131072, 262141]
def wid (r : Int) : Int := if inR r zeG then 0 else if inR r zfy then 2 else 1
def zc0 (l : List Int) : Array Value := (l.map (Value.int .i64)).toArray
theorem zgT (l : List Int) (i : Nat) (h : i < l.length) : (zc0 l)[i]? = some (.int .i64 (at0 l i)) := by
 simp [zc0, at0, h]
theorem zgB (r : Int) (w : World) (t : Nat) (o : Obj) : Calls Tryz.prog 162 #[.int .i64 r, .slice (some ⟨w.heap.size, 0, none⟩) 14 14] ((w.alloc (.cells (zc0 zeG) t)).alloc o) fun e w' => e = .returned (.bool (inR r zeG)) ∧ w' = ((w.alloc (.cells (zc0 zeG) t)).alloc o) := by
 refine zjP r w.heap.size zeG 14 _ (by decide) ?_
 intro i hi
 rw [World.cell?_alloc_past _ _ _ (by simp), World.cell?_alloc_at _ _ _ _ rfl]
 exact zgT _ i hi
theorem znu (r : Int) (w : World) (t : Nat) : Calls Tryz.prog 162 #[.int .i64 r, .slice (some ⟨w.heap.size, 0, none⟩) 24 24] (w.alloc (.cells (zc0 zfy) t)) fun e w' => e = .returned (.bool (inR r zfy)) ∧ w' = (w.alloc (.cells (zc0 zfy) t)) := by
 refine zjP r w.heap.size zfy 24 _ (by decide) ?_
 intro i hi
 rw [World.cell?_alloc_at _ _ _ _ rfl]
 exact zgT _ i hi
theorem l1In_twos' (r : Int) (w : World) (o : Obj) (t : Nat) : Calls Tryz.prog 162 #[.int .i64 r, .slice (some ⟨w.heap.size + 1, 0, none⟩) 24 24] ((w.alloc o).alloc (.cells (zc0 zfy) t)) fun e w' => e = .returned (.bool (inR r zfy)) ∧ w' = ((w.alloc o).alloc (.cells (zc0 zfy) t)) := by
 have h := znu r (w.alloc o) t
 simpa using h
set_option maxHeartbeats 400000 in
theorem zkV (r : Int) (w : World) (h0 : -2147483648 ≤ r) (h1 : r ≤ 2147483647) :
  Calls Tryz.prog 98 #[.int .i32 r] w fun e w' => e = .returned (.int .i64 (wid r)) ∧ Below w.heap.size w w' := by
 cases hz : inR r zeG
 ·cases ht : inR r zfy
  all_goals
   have hw : Hid (wid r = if inR r zeG then 0 else if inR r zfy then 2 else 1) := rfl
   go_enter Tryz.func98, Tryz.ntmps98
   go_wp2_with fail
   refine (zgB r w 3 _).mono ?_
   rintro e w' ⟨rfl, rfl⟩
   go_wp2_with fail
   refine (l1In_twos' r w _ 3).mono ?_
   rintro e w' ⟨rfl, rfl⟩
   go_wp2
   go_ret
   refine ⟨?_, by go_grown⟩
   rw [hw.out]; simp [hz, ht]
 ·have hw : Hid (wid r = if inR r zeG then 0 else if inR r zfy then 2 else 1) := rfl
  go_enter Tryz.func98, Tryz.ntmps98
  go_wp2_with fail
  refine (zgB r w 3 _).mono ?_
  rintro e w' ⟨rfl, rfl⟩
  go_wp2
  go_ret
  refine ⟨?_, by go_grown⟩
  rw [hw.out]; simp [hz]
def zcH : List Int := [768, 1155, 1425, 4352, 8203, 8400, 11904, 12353, 19968, 44032, 63744, 65024, 65056, 65072, 65280, 65504, 127744, 129280, 131072]
def zdU : List Int := [879, 1161, 1469, 4447, 8207, 8432, 12350, 19903, 42191, 55203, 64255, 65039, 65071, 65135, 65376, 65510, 128591, 129535, 262141]
def zlC : List Int := [0, 0, 0, 2, 0, 0, 2, 2, 2, 2, 2, 0, 0, 2, 2, 2, 2, 2, 2]
theorem znb : ∀ j : Fin 19, ∀ i : Fin 19, i.val ≤ j.val → at0 zcH i.val ≤ at0 zcH j.val := by decide +kernel
theorem znz : ∀ j : Fin 19, ∀ i : Fin 19, i.val ≤ j.val → at0 zdU i.val ≤ at0 zdU j.val := by decide +kernel
theorem zjA (r : Int) : wid r = if ((768 ≤ r ∧ r ≤ 879) ∨ (1155 ≤ r ∧ r ≤ 1161) ∨ (1425 ≤ r ∧ r ≤ 1469) ∨ (8203 ≤ r ∧ r ≤ 8207) ∨ (8400 ≤ r ∧ r ≤ 8432) ∨ (65024 ≤ r ∧ r ≤ 65039) ∨ (65056 ≤ r ∧ r ≤ 65071)) then 0
  else if ((4352 ≤ r ∧ r ≤ 4447) ∨ (11904 ≤ r ∧ r ≤ 12350) ∨ (12353 ≤ r ∧ r ≤ 19903) ∨ (19968 ≤ r ∧ r ≤ 42191) ∨ (44032 ≤ r ∧ r ≤ 55203) ∨ (63744 ≤ r ∧ r ≤ 64255) ∨ (65072 ≤ r ∧ r ≤ 65135) ∨ (65280 ≤ r ∧ r ≤ 65376) ∨ (65504 ≤ r ∧ r ≤ 65510) ∨ (127744 ≤ r ∧ r ≤ 128591) ∨ (129280 ≤ r ∧ r ≤ 129535) ∨ (131072 ≤ r ∧ r ≤ 262141)) then 2 else 1 := by
 unfold wid
 have e1 : (inR r zeG = true) = ((768 ≤ r ∧ r ≤ 879) ∨ (1155 ≤ r ∧ r ≤ 1161) ∨ (1425 ≤ r ∧ r ≤ 1469) ∨ (8203 ≤ r ∧ r ≤ 8207) ∨ (8400 ≤ r ∧ r ≤ 8432) ∨ (65024 ≤ r ∧ r ≤ 65039) ∨ (65056 ≤ r ∧ r ≤ 65071)) := by
  simp [inR, zeG]
 have e2 : (inR r zfy = true) = ((4352 ≤ r ∧ r ≤ 4447) ∨ (11904 ≤ r ∧ r ≤ 12350) ∨ (12353 ≤ r ∧ r ≤ 19903) ∨ (19968 ≤ r ∧ r ≤ 42191) ∨ (44032 ≤ r ∧ r ≤ 55203) ∨ (63744 ≤ r ∧ r ≤ 64255) ∨ (65072 ≤ r ∧ r ≤ 65135) ∨ (65280 ≤ r ∧ r ≤ 65376) ∨ (65504 ≤ r ∧ r ≤ 65510) ∨ (127744 ≤ r ∧ r ≤ 128591) ∨ (129280 ≤ r ∧ r ≤ 129535) ∨ (131072 ≤ r ∧ r ≤ 262141)) := by
  simp [inR, zfy]
 simp only [e1, e2]
theorem wid_hit (r : Int) (m : Nat) (hm : m < 19) (h1 : at0 zcH m ≤ r) (h2 : r ≤ at0 zdU m) : wid r = at0 zlC m := by
 rw [zjA]
 match m, hm with
 | 0, _ | 1, _ | 2, _ | 3, _ | 4, _ | 5, _ | 6, _ | 7, _ | 8, _ | 9, _ | 10, _ | 11, _ | 12, _ | 13, _ | 14, _ | 15, _ | 16, _ | 17, _ | 18, _ =>
  simp [at0, zcH, zdU] at h1 h2
  first
   | (rw [if_pos (by omega)]; rfl)
   | (rw [if_neg (by omega), if_pos (by omega)]; rfl)
 | n + 19, h => omega
theorem znA (r : Int) (l : Nat) (hl : l ≤ 19) (h1 : ∀ i, i < l → at0 zdU i < r) (h2 : ∀ i, l ≤ i → i < 19 → r < at0 zcH i) : wid r = 1 := by
 rw [zjA]
 have a := h1 (l - 1)
 have b := h2 l (Nat.le_refl _)
 clear h1 h2
 match l, hl with
 | 0, _ | 1, _ | 2, _ | 3, _ | 4, _ | 5, _ | 6, _ | 7, _ | 8, _ | 9, _ | 10, _ | 11, _ | 12, _ | 13, _ | 14, _ | 15, _ | 16, _ | 17, _ | 18, _ | 19, _ =>
  simp [at0, zcH, zdU] at a b
  rw [if_neg (by omega), if_neg (by omega)]
 | n + 20, h => omega
theorem lo_step (r : Int) (m : Nat) (hm : m < 19) (h : at0 zdU m < r) : ∀ i, i < m + 1 → at0 zdU i < r := by
 intro i hi
 have := znz ⟨m, hm⟩ ⟨i, by omega⟩ (by simp; omega)
 simp at this
 omega
theorem hi_step (r : Int) (m : Nat) (hm : m < 19) (h : r < at0 zcH m) : ∀ i, m ≤ i → i < 19 → r < at0 zcH i := by
 intro i hi hi2
 have := znb ⟨i, hi2⟩ ⟨m, hm⟩ (by simp; omega)
 simp at this
 omega
def zi1 (w : World) : Prop := ∀ m : Nat, m < 19 → w.cell? ⟨0, m * 3, none⟩ = some (.int .i32 (at0 zcH m)) ∧ w.cell? ⟨0, m * 3 + 1, none⟩ = some (.int .i32 (at0 zdU m)) ∧ w.cell? ⟨0, m * 3 + 2, none⟩ = some (.int .i64 (at0 zlC m))
theorem zi1.pos {w : World} (h : zi1 w) : 0 < w.heap.size := zaj (h 0 (by omega)).1
theorem zi1.below {w w' : World} (h : zi1 w) (hb : Below w.heap.size w w') : zi1 w' := fun m hm => by
 have p := h.pos
 obtain ⟨a, b, c⟩ := h m hm
 exact ⟨(hb.cell (p := ⟨0, m * 3, none⟩) p).trans a, (hb.cell (p := ⟨0, m * 3 + 1, none⟩) p).trans b, (hb.cell (p := ⟨0, m * 3 + 2, none⟩) p).trans c⟩
set_option maxHeartbeats 400000 in
theorem zlh (r : Int) (w : World) (_h0 : -2147483648 ≤ r) (_h1 : r ≤ 2147483647) (hT : zi1 w) :
  Calls Tryz.prog 101 #[.int .i32 r] w fun e w' => e = .returned (.int .i64 (wid r)) ∧ Below w.heap.size w w' := by
 go_enter Tryz.func101, Tryz.ntmps101
 go_wp2
 go_loopw [3, 4] (fun a b w' => ∃ l h : Nat, l ≤ h ∧ h ≤ 19 ∧ a = .int .i64 l ∧ b = .int .i64 h ∧ Hid ((∀ i, i < l → at0 zdU i < r) ∧ (∀ i, h ≤ i → i < 19 → r < at0 zcH i)) ∧ Below w.heap.size w w') (fun a b _ => (intOf b).toNat - (intOf a).toNat)
 case atStart => exact ⟨0, 19, by omega, by omega, rfl, rfl, ⟨by intros; omega, by intros; omega⟩, Below.refl _ _⟩
 case round =>
  obtain ⟨l, h, hlh, hh, rfl, rfl, HI, hb⟩ := hrel
  by_cases hlt : l < h
  ·have hm0 : (l + h) / 2 < 19 := by omega
   have hm1 : l ≤ (l + h) / 2 := by omega
   have hm2 : (l + h) / 2 < h := by omega
   obtain ⟨c0, c1, c2⟩ := (hT.below hb) ((l + h)/2) hm0
   have hsz := hb.size
   go_wp2
   ·go_roundw
    case rel => exact ⟨l, (l + h) / 2, by omega, by omega, by go_num, by go_num, ⟨HI.out.1, hi_step r _ hm0 (by assumption)⟩, by go_grown⟩
    case measure => simp [intOf]; omega
   ·go_roundw
    case rel => exact ⟨(l + h) / 2 + 1, h, by omega, by omega, by go_num, by go_num, ⟨lo_step r _ hm0 (by assumption), HI.out.2⟩, by go_grown⟩
    case measure => simp [intOf]; omega
   ·go_ret
    exact ⟨zbF (wid_hit r _ hm0 (by omega) (by omega)).symm, by go_grown⟩
  ·have e : l = h := by omega
   have hw : Hid (wid r = 1) := znA r l (by omega) HI.out.1 (by rw [e]; exact HI.out.2)
   clear e
   go_wp2
   go_ret
   exact ⟨zbF hw.out.symm, hb⟩
def zbN (c r : Int) : Bool := decide (2 ≤ c) && decide (c ≤ 200) && decide (1 ≤ r) && decide (r ≤ 100)
theorem zds {c r : Int} (h : zbN c r = true) : ∃ cn rn : Nat, c = cn ∧ r = rn ∧ 2 ≤ cn ∧ cn ≤ 200 ∧ 1 ≤ rn ∧ rn ≤ 100 := by
 simp [zbN] at h
 exact ⟨c.toNat, r.toNat, by omega, by omega, by omega, by omega, by omega, by omega⟩
theorem zhs (c r : Int) (w : World) : Calls Tryz.prog 54 #[.int .i64 c, .int .i64 r] w fun e w' => e = .returned (.bool (zbN c r)) ∧ w' = w := by
 go_enter Tryz.func54, Tryz.ntmps54
 go_wp2
 all_goals
  go_ret
  refine ⟨zaH ?_, rfl⟩
  unfold zbN
  rw [Bool.eq_iff_iff]
  simp
  omega
theorem zjh (c r : Int) (w : World) : Calls Tryz.prog 58 #[.int .i64 c, .int .i64 r] w fun e w' => e = .returned (.bool (zbN c r)) ∧ w' = w := by
 go_enter Tryz.func58, Tryz.ntmps58
 go_wp2
 all_goals
  go_ret
  refine ⟨zaH ?_, rfl⟩
  unfold zbN
  rw [Bool.eq_iff_iff]
  simp
  omega
end Go.Proofs.YtinfdhbnljnifaaGreatDoor
