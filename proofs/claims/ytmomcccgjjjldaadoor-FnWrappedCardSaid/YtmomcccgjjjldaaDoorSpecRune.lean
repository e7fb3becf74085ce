import Derived.Test.YtmomcccgjjjldaaDoorUtf
import Derived.Test.YtmomcccgjjjldaaDoorProg
namespace Go.Proofs.YtmomcccgjjjldaaDoor
open Go.RowKit
theorem l1Valid_any (r : Int) (w : World) : Calls Tryd.prog 27 #[.int .i64 r] w fun e w' => e = .returned (.bool (Utf8.valid r)) ∧ w' = w := by
  go_enter Tryd.func27, Tryd.ntmps27
  go_wp2
  all_goals
    go_ret
    refine ⟨ret_bool ?_, rfl⟩
    rw [Bool.eq_iff_iff]
    simp [Utf8.valid]
    omega
theorem l1Shown_any (r : Int) (w : World) : Calls Tryd.prog 23 #[.int .i64 r] w fun e w' => e = .returned (.int .i64 (shownI r)) ∧ w' = w := by
  cases hv : Utf8.valid r
  · have HS : Hid (shownI r = 65533) := by show shownI r = 65533; simp [shownI, hv]
    go_enter Tryd.func23, Tryd.ntmps23
    go_wp2_with fail
    refine (l1Valid_any _ _).mono ?_
    rintro e w1 ⟨rfl, rfl⟩
    go_wp2
    go_ret
    exact ⟨ret_int HS.out.symm, rfl⟩
  · have HS : Hid (shownI r = if r < 32 ∨ (127 ≤ r ∧ r ≤ 159) then 65533 else r) := by show shownI r = _; simp [shownI, hv]
    go_enter Tryd.func23, Tryd.ntmps23
    go_wp2_with fail
    refine (l1Valid_any _ _).mono ?_
    rintro e w1 ⟨rfl, rfl⟩
    go_wp2
    all_goals
      go_ret
      refine ⟨ret_int ?_, rfl⟩
      rw [HS.out]
      first | (rw [if_pos (by omega)]) | (rw [if_neg (by omega)])
theorem l1Need_any (c : Int) (w : World) : Calls Tryd.prog 33 #[.int .u8 c] w fun e w' => e = .returned (.int .i64 (need c)) ∧ w' = w := by
  go_enter Tryd.func33, Tryd.ntmps33
  go_wp2
  all_goals
    go_ret
    refine ⟨ret_int ?_, rfl⟩
    unfold need
    repeat' split
    all_goals first | rfl | omega
theorem new_ints {w : World} (k : IntKind) (zs : List Int) (t n : Nat) (hn : n = zs.length) : IntsAt (w.alloc (.cells (zs.map (Value.int k)).toArray t)) k (.slice (some ⟨w.heap.size, 0, none⟩) n n) zs := by
  subst hn
  refine ⟨_, _, rfl, Nat.le_refl _, fun _ => ⟨_, 0, rfl, fun j hj => ?_⟩⟩
  rw [World.cell?_alloc_at _ _ _ _ rfl]
  simp [at0, hj]
theorem ret_str {a b : ByteArray} (h : a = b) : Ending.returned (.string a) = .returned (.string b) := by rw [h]
set_option maxHeartbeats 400000 in
theorem l1Utf8_any (r : Int) (w : World) (h0 : 0 ≤ r) (h1 : r ≤ 1114111) : Calls Tryd.prog 28 #[.int .i64 r] w fun e w' => e = .returned (.string (toBA (encL r))) ∧ Ext w w' := by
  have cv : ∀ zs : List Int, (convert 22 9 (.slice (some ⟨w.heap.size, 0, none⟩) zs.length zs.length)).run Tryd.prog (w.alloc (.cells (zs.map (Value.int .u8)).toArray 5)) = .ok (.string (toBA zs)) (w.alloc (.cells (zs.map (Value.int .u8)).toArray 5)) :=
    fun zs => run_b2s _ _ _ _ Tryd.underlying22 Tryd.underlying5 Tryd.underlying9 _ _ (new_ints _ _ _ _ rfl)
  have c1 := fun a : Int => cv [a]
  have c2 := fun a b : Int => cv [a, b]
  have c3 := fun a b c : Int => cv [a, b, c]
  have c4 := fun a b c d : Int => cv [a, b, c, d]
  clear cv
  simp only [List.length_cons, List.length_nil, List.map_cons, List.map_nil, Nat.zero_add, Nat.reduceAdd] at c1 c2 c3 c4
  go_enter Tryd.func28, Tryd.ntmps28
  go_wp2
  all_goals
    go_ret
    refine ⟨ret_str (congrArg toBA ?_), by repeat (first | exact Ext.refl _ | apply Ext.alloc)⟩
    unfold encL
    first | (rw [if_pos (by omega)]) | (rw [if_neg (by omega), if_pos (by omega)]) | (rw [if_neg (by omega), if_neg (by omega), if_pos (by omega)]) | (rw [if_neg (by omega), if_neg (by omega), if_neg (by omega)])
set_option maxHeartbeats 1000000 in
theorem l1Value_any (bs : List Int) (hb : Bytes bs) (v : Value) (i n : Nat) (w : World) (hv : IntsAt w .u8 v bs) (hi : i + n ≤ bs.length) (h1 : 1 ≤ n) (h4 : n ≤ 4) (hl : bs.length ≤ 4398046511104) :
    Calls Tryd.prog 34 #[v, .int .i64 i, .int .i64 n] w fun e w' => e = .returned (.int .i64 (valL (bs.drop i) n)) ∧ Ext w w' := by
  obtain ⟨ao, cap, rfl, hcap, hr⟩ := hv
  obtain ⟨b, off, rfl, hc⟩ := hr (by omega)
  clear hr
  have g0 := hc i (by omega)
  have hbs := lt_of_cell g0
  have b0 := hb.at0 i
  have q0 : at0 (bs.drop i) 0 = at0 bs i := by rw [at0_drop]; rfl
  have q1 := at0_drop bs i 1
  have q2 := at0_drop bs i 2
  have q3 := at0_drop bs i 3
  have hlen : (bs.drop i).length = bs.length - i := by simp
  have hbi : (i : Int) < (bs.length : Int) := by omega
  rcases (show n = 1 ∨ n = 2 ∨ n = 3 ∨ n = 4 by omega) with rfl | rfl | rfl | rfl
  · have hf : Hid (valL (bs.drop i) 1 = at0 bs i) := by show valL _ _ = _; rw [valL, if_pos rfl, q0]
    clear hc q0 q1 q2 q3 hlen
    go_enter Tryd.func34, Tryd.ntmps34
    go_wp2
    refine wp_loop_rounds 1 ?_
    rw [rounds_succ]
    go_wp2
    go_ret
    exact ⟨ret_int hf.out.symm, Ext.refl _⟩
  · have g1 := hc (i + 1) (by omega)
    have b1 := hb.at0 (i + 1)
    have hbi1 : (i : Int) + 1 < (bs.length : Int) := by omega
    clear hc
    have hf : Hid (valL (bs.drop i) 2 = if (128 ≤ at0 bs (i + 1) ∧ at0 bs (i + 1) ≤ 191) then at0 bs i % 32 * 64 + at0 bs (i + 1) - 128 else -1) := by
      show valL _ _ = _
      rw [valL, if_neg (by decide), if_pos rfl]
      simp only [cont, v2, q0, q1, hlen, Bool.and_eq_true, decide_eq_true_eq]
      repeat' split
      all_goals first | rfl | omega
    clear q0 q1 q2 q3 hlen
    go_enter Tryd.func34, Tryd.ntmps34
    go_wp2
    go_rounds 2
    all_goals
      go_ret
      refine ⟨ret_int ?_, by repeat (first | exact Ext.refl _ | apply Ext.alloc)⟩
      rw [hf.out]
      first | (rw [if_pos (by omega)]) | (rw [if_neg (by omega)])
  · have g1 := hc (i + 1) (by omega)
    have b1 := hb.at0 (i + 1)
    have hbi1 : (i : Int) + 1 < (bs.length : Int) := by omega
    have g2 := hc (i + 2) (by omega)
    have b2 := hb.at0 (i + 2)
    have hbi2 : (i : Int) + 2 < (bs.length : Int) := by omega
    clear hc
    have hf : Hid (valL (bs.drop i) 3 = if (128 ≤ at0 bs (i + 1) ∧ at0 bs (i + 1) ≤ 191) ∧ (128 ≤ at0 bs (i + 2) ∧ at0 bs (i + 2) ≤ 191) then (at0 bs i % 16 * 64 + at0 bs (i + 1) - 128) * 64 + at0 bs (i + 2) - 128 else -1) := by
      show valL _ _ = _
      rw [valL, if_neg (by decide), if_neg (by decide), if_pos rfl]
      simp only [cont, v3, q0, q1, q2, hlen, Bool.and_eq_true, decide_eq_true_eq]
      repeat' split
      all_goals first | rfl | omega
    clear q0 q1 q2 q3 hlen
    go_enter Tryd.func34, Tryd.ntmps34
    go_wp2
    go_rounds 3
    all_goals
      go_ret
      refine ⟨ret_int ?_, by repeat (first | exact Ext.refl _ | apply Ext.alloc)⟩
      rw [hf.out]
      first | (rw [if_pos (by omega)]) | (rw [if_neg (by omega)])
  · have g1 := hc (i + 1) (by omega)
    have b1 := hb.at0 (i + 1)
    have hbi1 : (i : Int) + 1 < (bs.length : Int) := by omega
    have g2 := hc (i + 2) (by omega)
    have b2 := hb.at0 (i + 2)
    have hbi2 : (i : Int) + 2 < (bs.length : Int) := by omega
    have g3 := hc (i + 3) (by omega)
    have b3 := hb.at0 (i + 3)
    have hbi3 : (i : Int) + 3 < (bs.length : Int) := by omega
    clear hc
    have hf : Hid (valL (bs.drop i) 4 = if (128 ≤ at0 bs (i + 1) ∧ at0 bs (i + 1) ≤ 191) ∧ (128 ≤ at0 bs (i + 2) ∧ at0 bs (i + 2) ≤ 191) ∧ (128 ≤ at0 bs (i + 3) ∧ at0 bs (i + 3) ≤ 191) then ((at0 bs i % 8 * 64 + at0 bs (i + 1) - 128) * 64 + at0 bs (i + 2) - 128) * 64 + at0 bs (i + 3) - 128 else -1) := by
      show valL _ _ = _
      rw [valL, if_neg (by decide), if_neg (by decide), if_neg (by decide)]
      simp only [cont, v4, q0, q1, q2, q3, hlen, Bool.and_eq_true, decide_eq_true_eq]
      repeat' split
      all_goals first | rfl | omega
    clear q0 q1 q2 q3 hlen
    go_enter Tryd.func34, Tryd.ntmps34
    go_wp2
    go_rounds 4
    all_goals
      go_ret
      refine ⟨ret_int ?_, by repeat (first | exact Ext.refl _ | apply Ext.alloc)⟩
      rw [hf.out]
      first | (rw [if_pos (by omega)]) | (rw [if_neg (by omega)])
end Go.Proofs.YtmomcccgjjjldaaDoor
