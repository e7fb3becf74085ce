import Derived.Test.YtmomcccgjjjldaaDoorProg
import Derived.Test.YtmomcccgjjjldaaDoorBase
namespace Go.Proofs.YtmomcccgjjjldaaDoor
open Go.RowKit
def inR (r : Int) : List Int → Bool
  | a :: b :: t => (decide (a ≤ r) && decide (r ≤ b)) || inR r t
  | _ => false
theorem inR_drop (r : Int) (xs : List Int) (k : Nat) (h : k + 1 < xs.length) :
    inR r (xs.drop k) = ((decide (at0 xs k ≤ r) && decide (r ≤ at0 xs (k + 1))) || inR r (xs.drop (k + 2))) := by
  rw [List.drop_eq_getElem_cons (by omega), List.drop_eq_getElem_cons (by omega), inR]
  simp [at0, List.getElem?_eq_getElem (show k < xs.length by omega), List.getElem?_eq_getElem h]
theorem inR_short (r : Int) (xs : List Int) (k : Nat) (h : xs.length ≤ k + 1) : inR r (xs.drop k) = false := by
  have : (xs.drop k).length ≤ 1 := by simp; omega
  match hx : xs.drop k, this with
  | [], _ => rfl
  | [a], _ => rfl
set_option maxHeartbeats 400000 in
theorem l1In_any (r : Int) (b : Nat) (xs : List Int) (c : Nat) (w : World) (hl : xs.length < 1000)
    (hc : ∀ i : Nat, i < xs.length → w.cell? ⟨b, i, none⟩ = some (.int .i64 (at0 xs i))) :
    Calls Tryd.prog 32 #[.int .i64 r, .slice (some ⟨b, 0, none⟩) xs.length c] w fun e w' => e = .returned (.bool (inR r xs)) ∧ w' = w := by
  go_enter Tryd.func32, Tryd.ntmps32
  go_wp2
  go_loop [5] (fun i => ∃ k : Nat, k ≤ xs.length + 1 ∧ i = .int .i64 k ∧ inR r (xs.drop k) = inR r xs) (fun i => xs.length + 1 - (intOf i).toNat)
  case atStart => exact ⟨0, Nat.zero_le _, rfl, rfl⟩
  case round =>
    obtain ⟨k, hk, rfl, hin0⟩ := hrel
    have hin : Hid (inR r (xs.drop k) = inR r xs) := hin0
    by_cases hlt : k + 1 < xs.length
    · have h1 := hc k (by omega)
      have h2 := hc (k+1) (by omega)
      have hd : Hid (inR r (xs.drop k) = ((decide (at0 xs k ≤ r) && decide (r ≤ at0 xs (k + 1))) || inR r (xs.drop (k + 2)))) := inR_drop r xs k hlt
      clear hin0
      go_wp2
      · go_ret
        exact ⟨ret_bool (by rw [← hin.out, hd.out]; simp [*]), rfl⟩
      all_goals
        go_round
        case rel => exact ⟨k + 2, by omega, by go_num, by rw [← hin.out, hd.out]; simp only [Bool.eq_or_self]; intro hh; simp at hh; omega⟩
        case measure => simp [intOf]; omega
    · clear hin0
      have hs : Hid (inR r (xs.drop k) = false) := inR_short r xs k (by omega)
      go_wp2
      go_ret
      exact ⟨ret_bool (by rw [← hin.out, hs.out]), rfl⟩
def zeros : List Int := [768, 879, 1155, 1161, 1425, 1469, 8203, 8207, 8400, 8432, 65024, 65039, 65056, 65071]
def twos : List Int := [4352, 4447, 11904, 12350, 12353, 19903, 19968, 42191, 44032, 55203, 63744, 64255, 65072, 65135, 65280, 65376, 65504, 65510, 127744, 128591, 129280, 129535, 131072, 262141]
def wid (r : Int) : Int := if inR r zeros then 0 else if inR r twos then 2 else 1
def cellsOf (l : List Int) : Array Value := (l.map (Value.int .i64)).toArray
theorem cellsOf_at (l : List Int) (i : Nat) (h : i < l.length) : (cellsOf l)[i]? = some (.int .i64 (at0 l i)) := by
  simp [cellsOf, at0, h]
theorem l1In_zeros (r : Int) (w : World) (t : Nat) (o : Obj) : Calls Tryd.prog 32 #[.int .i64 r, .slice (some ⟨w.heap.size, 0, none⟩) 14 14] ((w.alloc (.cells (cellsOf zeros) t)).alloc o) fun e w' => e = .returned (.bool (inR r zeros)) ∧ w' = ((w.alloc (.cells (cellsOf zeros) t)).alloc o) := by
  refine l1In_any r w.heap.size zeros 14 _ (by decide) ?_
  intro i hi
  rw [World.cell?_alloc_past _ _ _ (by simp), World.cell?_alloc_at _ _ _ _ rfl]
  exact cellsOf_at _ i hi
theorem l1In_twos (r : Int) (w : World) (t : Nat) : Calls Tryd.prog 32 #[.int .i64 r, .slice (some ⟨w.heap.size, 0, none⟩) 24 24] (w.alloc (.cells (cellsOf twos) t)) fun e w' => e = .returned (.bool (inR r twos)) ∧ w' = (w.alloc (.cells (cellsOf twos) t)) := by
  refine l1In_any r w.heap.size twos 24 _ (by decide) ?_
  intro i hi
  rw [World.cell?_alloc_at _ _ _ _ rfl]
  exact cellsOf_at _ i hi
theorem l1In_twos' (r : Int) (w : World) (o : Obj) (t : Nat) : Calls Tryd.prog 32 #[.int .i64 r, .slice (some ⟨w.heap.size + 1, 0, none⟩) 24 24] ((w.alloc o).alloc (.cells (cellsOf twos) t)) fun e w' => e = .returned (.bool (inR r twos)) ∧ w' = ((w.alloc o).alloc (.cells (cellsOf twos) t)) := by
  have h := l1In_twos r (w.alloc o) t
  simpa using h
set_option maxHeartbeats 400000 in
theorem specRW_any (r : Int) (w : World) (h0 : -2147483648 ≤ r) (h1 : r ≤ 2147483647) :
    Calls Tryd.prog 24 #[.int .i32 r] w fun e w' => e = .returned (.int .i64 (wid r)) ∧ Below w.heap.size w w' := by
  cases hz : inR r zeros
  · cases ht : inR r twos
    all_goals
      have hw : Hid (wid r = if inR r zeros then 0 else if inR r twos then 2 else 1) := rfl
      go_enter Tryd.func24, Tryd.ntmps24
      go_wp2_with fail
      refine (l1In_zeros r w 3 _).mono ?_
      rintro e w' ⟨rfl, rfl⟩
      go_wp2_with fail
      refine (l1In_twos' r w _ 3).mono ?_
      rintro e w' ⟨rfl, rfl⟩
      go_wp2
      go_ret
      refine ⟨?_, by go_grown⟩
      rw [hw.out]; simp [hz, ht]
  · have hw : Hid (wid r = if inR r zeros then 0 else if inR r twos then 2 else 1) := rfl
    go_enter Tryd.func24, Tryd.ntmps24
    go_wp2_with fail
    refine (l1In_zeros r w 3 _).mono ?_
    rintro e w' ⟨rfl, rfl⟩
    go_wp2
    go_ret
    refine ⟨?_, by go_grown⟩
    rw [hw.out]; simp [hz]
end Go.Proofs.YtmomcccgjjjldaaDoor
