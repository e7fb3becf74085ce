import Derived.Test.YtinfdhbnljnifaaGreatDoorRsz
import Derived.Test.YtinfdhbnljnifaaGreatDoorProg
import Derived.Deep.RegionHeld3
namespace Go.Proofs.YtinfdhbnljnifaaGreatDoor
open Go.RowKit
theorem l1Valid_any (r : Int) (w : World) : Calls Tryz.prog 96 #[.int .i64 r] w fun e w' => e = .returned (.bool (Utf8.valid r)) ∧ w' = w := by
  go_enter Tryz.func96, Tryz.ntmps96
  go_wp2
  all_goals
    go_ret
    refine ⟨ret_bool ?_, rfl⟩
    rw [Bool.eq_iff_iff]
    simp [Utf8.valid]
    omega
theorem l1Need_any (c : Int) (w : World) : Calls Tryz.prog 94 #[.int .u8 c] w fun e w' => e = .returned (.int .i64 (need c)) ∧ w' = w := by
  go_enter Tryz.func94, Tryz.ntmps94
  go_wp2
  all_goals
    go_ret
    refine ⟨ret_int ?_, rfl⟩
    unfold need
    repeat' split
    all_goals first | rfl | omega
theorem new_ints {w : World} (k : IntKind) (zs : List Int) (t n : Nat) (hn : n = zs.length) : IntsAt (w.alloc (.cells (zs.map (Value.int k)).toArray t)) k (.slice (some ⟨w.heap.size, 0, none⟩) n n) zs := by
  subst hn
  refine ⟨_, _, rfl, Nat.le_refl _, fun _ => ⟨_, 0, rfl, fun j hj => ?_⟩⟩
  rw [World.cell?_alloc_at _ _ _ _ rfl]
  simp [at0, hj]
theorem ret_str {a b : ByteArray} (h : a = b) : Ending.returned (.string a) = .returned (.string b) := by rw [h]
set_option maxHeartbeats 400000 in
theorem l1Utf8_any (r : Int) (w : World) (h0 : 0 ≤ r) (h1 : r ≤ 1114111) : Calls Tryz.prog 97 #[.int .i64 r] w fun e w' => e = .returned (.string (toBA (encL r))) ∧ Ext w w' := by
  have cv : ∀ zs : List Int, (convert 22 9 (.slice (some ⟨w.heap.size, 0, none⟩) zs.length zs.length)).run Tryz.prog (w.alloc (.cells (zs.map (Value.int .u8)).toArray 5)) = .ok (.string (toBA zs)) (w.alloc (.cells (zs.map (Value.int .u8)).toArray 5)) :=
    fun zs => run_b2s _ _ _ _ Tryz.underlying22 Tryz.underlying5 Tryz.underlying9 _ _ (new_ints _ _ _ _ rfl)
  have c1 := fun a : Int => cv [a]
  have c2 := fun a b : Int => cv [a, b]
  have c3 := fun a b c : Int => cv [a, b, c]
  have c4 := fun a b c d : Int => cv [a, b, c, d]
  clear cv
  simp only [List.length_cons, List.length_nil, List.map_cons, List.map_nil, Nat.zero_add, Nat.reduceAdd] at c1 c2 c3 c4
  go_enter Tryz.func97, Tryz.ntmps97
  go_wp2
  all_goals
    go_ret
    refine ⟨ret_str (congrArg toBA ?_), by repeat (first | exact Ext.refl _ | apply Ext.alloc)⟩
    unfold encL
    first | (rw [if_pos (by omega)]) | (rw [if_neg (by omega), if_pos (by omega)]) | (rw [if_neg (by omega), if_neg (by omega), if_pos (by omega)]) | (rw [if_neg (by omega), if_neg (by omega), if_neg (by omega)])
set_option maxHeartbeats 1000000 in
theorem l1Value_any (bs : List Int) (hb : Bytes bs) (v : Value) (i n : Nat) (w : World) (hv : IntsAt w .u8 v bs) (hi : i + n ≤ bs.length) (h1 : 1 ≤ n) (h4 : n ≤ 4) (hl : bs.length ≤ 4398046511104) :
    Calls Tryz.prog 95 #[v, .int .i64 i, .int .i64 n] w fun e w' => e = .returned (.int .i64 (valL (bs.drop i) n)) ∧ Ext w w' := by
  obtain ⟨ao, cap, rfl, hcap, hr⟩ := hv
  obtain ⟨b, off, rfl, hc⟩ := hr (by omega)
  clear hr
  have g0 := hc i (by omega)
  have hbs := lt_of_cell g0
  have b0 := hb.at0 i
  have q0 : at0 (bs.drop i) 0 = at0 bs i := by rw [at0_drop]; rfl
  have q1 := at0_drop bs i 1
  have q2 := at0_drop bs i 2
  have q3 := at0_drop bs i 3
  have hlen : (bs.drop i).length = bs.length - i := by simp
  have hbi : (i : Int) < (bs.length : Int) := by omega
  rcases (show n = 1 ∨ n = 2 ∨ n = 3 ∨ n = 4 by omega) with rfl | rfl | rfl | rfl
  · have hf : Hid (valL (bs.drop i) 1 = at0 bs i) := by show valL _ _ = _; rw [valL, if_pos rfl, q0]
    clear hc q0 q1 q2 q3 hlen
    go_enter Tryz.func95, Tryz.ntmps95
    go_wp2
    refine wp_loop_rounds 1 ?_
    rw [rounds_succ]
    go_wp2
    go_ret
    exact ⟨ret_int hf.out.symm, Ext.refl _⟩
  · have g1 := hc (i + 1) (by omega)
    have b1 := hb.at0 (i + 1)
    have hbi1 : (i : Int) + 1 < (bs.length : Int) := by omega
    clear hc
    have hf : Hid (valL (bs.drop i) 2 = if (128 ≤ at0 bs (i + 1) ∧ at0 bs (i + 1) ≤ 191) then at0 bs i % 32 * 64 + at0 bs (i + 1) - 128 else -1) := by
      show valL _ _ = _
      rw [valL, if_neg (by decide), if_pos rfl]
      simp only [cont, v2, q0, q1, hlen, Bool.and_eq_true, decide_eq_true_eq]
      repeat' split
      all_goals first | rfl | omega
    clear q0 q1 q2 q3 hlen
    go_enter Tryz.func95, Tryz.ntmps95
    go_wp2
    go_rounds 2
    all_goals
      go_ret
      refine ⟨ret_int ?_, by repeat (first | exact Ext.refl _ | apply Ext.alloc)⟩
      rw [hf.out]
      first | (rw [if_pos (by omega)]) | (rw [if_neg (by omega)])
  · have g1 := hc (i + 1) (by omega)
    have b1 := hb.at0 (i + 1)
    have hbi1 : (i : Int) + 1 < (bs.length : Int) := by omega
    have g2 := hc (i + 2) (by omega)
    have b2 := hb.at0 (i + 2)
    have hbi2 : (i : Int) + 2 < (bs.length : Int) := by omega
    clear hc
    have hf : Hid (valL (bs.drop i) 3 = if (128 ≤ at0 bs (i + 1) ∧ at0 bs (i + 1) ≤ 191) ∧ (128 ≤ at0 bs (i + 2) ∧ at0 bs (i + 2) ≤ 191) then (at0 bs i % 16 * 64 + at0 bs (i + 1) - 128) * 64 + at0 bs (i + 2) - 128 else -1) := by
      show valL _ _ = _
      rw [valL, if_neg (by decide), if_neg (by decide), if_pos rfl]
      simp only [cont, v3, q0, q1, q2, hlen, Bool.and_eq_true, decide_eq_true_eq]
      repeat' split
      all_goals first | rfl | omega
    clear q0 q1 q2 q3 hlen
    go_enter Tryz.func95, Tryz.ntmps95
    go_wp2
    go_rounds 3
    all_goals
      go_ret
      refine ⟨ret_int ?_, by repeat (first | exact Ext.refl _ | apply Ext.alloc)⟩
      rw [hf.out]
      first | (rw [if_pos (by omega)]) | (rw [if_neg (by omega)])
  · have g1 := hc (i + 1) (by omega)
    have b1 := hb.at0 (i + 1)
    have hbi1 : (i : Int) + 1 < (bs.length : Int) := by omega
    have g2 := hc (i + 2) (by omega)
    have b2 := hb.at0 (i + 2)
    have hbi2 : (i : Int) + 2 < (bs.length : Int) := by omega
    have g3 := hc (i + 3) (by omega)
    have b3 := hb.at0 (i + 3)
    have hbi3 : (i : Int) + 3 < (bs.length : Int) := by omega
    clear hc
    have hf : Hid (valL (bs.drop i) 4 = if (128 ≤ at0 bs (i + 1) ∧ at0 bs (i + 1) ≤ 191) ∧ (128 ≤ at0 bs (i + 2) ∧ at0 bs (i + 2) ≤ 191) ∧ (128 ≤ at0 bs (i + 3) ∧ at0 bs (i + 3) ≤ 191) then ((at0 bs i % 8 * 64 + at0 bs (i + 1) - 128) * 64 + at0 bs (i + 2) - 128) * 64 + at0 bs (i + 3) - 128 else -1) := by
      show valL _ _ = _
      rw [valL, if_neg (by decide), if_neg (by decide), if_neg (by decide)]
      simp only [cont, v4, q0, q1, q2, q3, hlen, Bool.and_eq_true, decide_eq_true_eq]
      repeat' split
      all_goals first | rfl | omega
    clear q0 q1 q2 q3 hlen
    go_enter Tryz.func95, Tryz.ntmps95
    go_wp2
    go_rounds 4
    all_goals
      go_ret
      refine ⟨ret_int ?_, by repeat (first | exact Ext.refl _ | apply Ext.alloc)⟩
      rw [hf.out]
      first | (rw [if_pos (by omega)]) | (rw [if_neg (by omega)])
end Go.Proofs.YtinfdhbnljnifaaGreatDoor

namespace Go.Proofs.YtinfdhbnljnifaaGreatDoor
open Go.RowKit
def rV (rs : List Value) (j : Nat) : Value := rs[j]?.getD (.slice none 0 0)
def cR (cs : List (List Int × Int)) (j : Nat) : List Int := (cs[j]?.getD ([], 0)).1
def cW (cs : List (List Int × Int)) (j : Nat) : Int := (cs[j]?.getD ([], 0)).2
def ClsAt (w : World) (v : Value) (cs : List (List Int × Int)) : Prop :=
  ∃ (rs : List Value) (ao : Option Addr) (cap : Nat), v = .slice ao cs.length cap ∧ cs.length ≤ cap ∧ (∀ j, j < cs.length → IntsAt w .i32 (rV rs j) (cR cs j)) ∧
    (0 < cs.length → ∃ b off, ao = some ⟨b, off, none⟩ ∧ ∀ j, j < cs.length → w.cell? ⟨b, off + j * 2, none⟩ = some (rV rs j) ∧ w.cell? ⟨b, off + j * 2 + 1, none⟩ = some (.int .i64 (cW cs j)))
theorem ClsAt.ext {w w' : World} {v : Value} {cs : List (List Int × Int)} (h : ClsAt w v cs) (he : Ext w w') : ClsAt w' v cs := by
  obtain ⟨rs, ao, cap, e, hc, hr, hx⟩ := h
  exact ⟨rs, ao, cap, e, hc, fun j hj => (hr j hj).ext he, fun hp => by
    obtain ⟨b, off, e2, hcell⟩ := hx hp
    exact ⟨b, off, e2, fun j hj => ⟨he.cell (hcell j hj).1, he.cell (hcell j hj).2⟩⟩⟩
theorem rV_push (rs : List Value) (r : Value) (i : Nat) (h : i < rs.length) : rV (rs ++ [r]) i = rV rs i := by
  unfold rV; rw [List.getElem?_append_left h]
theorem rV_last (rs : List Value) (r : Value) : rV (rs ++ [r]) rs.length = r := by simp [rV]
def OwnCls (w : World) (base : Nat) (v : Value) (rs : List Value) (cs : List (List Int × Int)) : Prop :=
  rs.length = cs.length ∧ (∃ ys, w.ownsRow base 205 2 v cs.length ys ∧ ∀ j, j < cs.length → ys[j * 2]? = some (rV rs j) ∧ ys[j * 2 + 1]? = some (.int .i64 (cW cs j))) ∧
  (∀ j, j < cs.length → w.ownsRow base 21 1 (rV rs j) (cR cs j).length ((cR cs j).map (Value.int .i32))) ∧
  (∀ i j g, i < j → j < cs.length → (rV rs i).ownBlock = some g → (rV rs j).ownBlock ≠ some g)
theorem OwnCls.ext {w w' : World} {base : Nat} {v : Value} {rs : List Value} {cs : List (List Int × Int)} (h : OwnCls w base v rs cs) (he : Ext w w') : OwnCls w' base v rs cs := by
  obtain ⟨h0, ⟨ys, h1, h2⟩, h3, h4⟩ := h
  exact ⟨h0, ⟨ys, he.owns h1, h2⟩, fun j hj => he.owns (h3 j hj), h4⟩
end Go.Proofs.YtinfdhbnljnifaaGreatDoor

namespace Go.Proofs.YtinfdhbnljnifaaGreatDoor
open Go.RowKit
set_option maxHeartbeats 400000 in
theorem eqByteS_any (va vb : Value) (xs ys : List Int) (w : World) (ha : IntsAt w .u8 va xs) (hb : IntsAt w .u8 vb ys) (hx : xs.length ≤ 4398046511104) :
    Calls Tryz.prog 18 #[va, vb] w fun e w' => e = .returned (.bool (decide (xs = ys))) ∧ Ext w w' := by
  obtain ⟨ao, ca, rfl, hca, hra⟩ := ha
  obtain ⟨bo, cb, rfl, hcb, hrb⟩ := hb
  by_cases hl : xs.length = ys.length
  · have hlB : ((xs.length : Int) != (ys.length : Int)) = false := by simp [hl]
    by_cases h0 : xs.length = 0
    · have ex : xs = [] := List.eq_nil_of_length_eq_zero h0
      have ey : ys = [] := List.eq_nil_of_length_eq_zero (by omega)
      subst ex; subst ey
      clear hra hrb
      go_enter Tryz.func18, Tryz.ntmps18
      go_wp2
      go_loop [5] (fun i => i = .int .i64 0) (fun _ => 0)
      case atStart => rfl
      case round =>
        subst hrel
        go_wp2
        go_ret
        exact ⟨rfl, Ext.refl _⟩
    · obtain ⟨b1, o1, rfl, h1⟩ := hra (by omega)
      obtain ⟨b2, o2, rfl, h2⟩ := hrb (by omega)
      clear hra hrb
      have HL : Hid (xs.length = ys.length) := hl
      have hxy : xs.length ≤ ys.length := by omega
      have hyx : ys.length ≤ xs.length := by omega
      clear hl
      go_enter Tryz.func18, Tryz.ntmps18
      go_wp2
      go_loopw [5] (fun i w' => ∃ k : Nat, k ≤ xs.length ∧ i = .int .i64 k ∧ Hid (xs.take k = ys.take k) ∧ ∃ n, w' = w.drewN n) (fun i _ => xs.length - (intOf i).toNat)
      case atStart => exact ⟨0, Nat.zero_le _, rfl, rfl, 0, rfl⟩
      case round =>
        obtain ⟨k, hk, rfl, ht, n, rfl⟩ := hrel
        by_cases hlt : k < xs.length
        · have g1 := h1 k hlt
          have g2 := h2 k (by omega)
          have b1' : (k : Int) < (xs.length : Int) := by omega
          have b2' : (k : Int) < (ys.length : Int) := by omega
          clear h1 h2
          by_cases he : at0 xs k = at0 ys k
          · have HE : Hid (xs.take (k + 1) = ys.take (k + 1)) := take_step hlt (by omega) ht.out he
            have hne : (at0 xs k != at0 ys k) = false := by simp [he]
            clear he
            go_wp2
            go_quiet (fail)
            go_wp2
            go_roundw
            case rel => exact ⟨k + 1, by omega, by go_num, HE, _, rfl⟩
            case measure => simp [intOf]; omega
          · have HE : Hid (¬ xs = ys) := take_part he
            have hne : (at0 xs k != at0 ys k) = true := by simp [he]
            clear he
            go_wp2
            go_quiet (fail)
            go_wp2
            go_ret
            exact ⟨ret_bool (by simp [HE.out]), by repeat (first | exact Ext.refl _ | apply Ext.drewN)⟩
        · have HE : Hid (xs = ys) := by
            have := ht.out
            rwa [List.take_of_length_le (by omega), List.take_of_length_le (by omega)] at this
          go_wp2
          go_ret
          exact ⟨ret_bool (by simp [HE.out]), (Ext.refl _).drewN _⟩
  · have hlB : ((xs.length : Int) != (ys.length : Int)) = true := by simp; omega
    have HE : Hid (¬ xs = ys) := fun e => hl (by rw [e])
    go_enter Tryz.func18, Tryz.ntmps18
    go_wp2
    go_ret
    exact ⟨ret_bool (by simp [HE.out]), Ext.refl _⟩
theorem eqByteS_same (va vb : Value) (xs : List Int) (w : World) (ha : IntsAt w .u8 va xs) (hb : IntsAt w .u8 vb xs) (hx : xs.length ≤ 4398046511104) :
    Calls Tryz.prog 18 #[va, vb] w fun e w' => e = .returned (.bool true) ∧ Ext w w' :=
  (eqByteS_any va vb xs xs w ha hb hx).mono fun e w' h => ⟨h.1.trans (ret_bool (by simp)), h.2⟩
def mkU8 (k : Int) (n : Nat) : List Int := (List.range n).map fun (j : Nat) => IntKind.u8.wrap (k + (j : Int))
theorem mkU8_len (k : Int) (n : Nat) : (mkU8 k n).length = n := by simp [mkU8]
theorem mkU8_at (k : Int) (n j : Nat) (h : j < n) : at0 (mkU8 k n) j = IntKind.u8.wrap (k + (j : Int)) := by simp [at0, mkU8, h]
def midU8 (k : Int) (xs : List Value) (j : Nat) : List Value := ((mkU8 k j).map (Value.int .u8)) ++ xs.drop j
theorem midU8_zero (k : Int) (xs : List Value) : midU8 k xs 0 = xs := by simp [midU8, mkU8]
theorem midU8_step (k : Int) (xs : List Value) (j : Nat) (h : j < xs.length) : (midU8 k xs j).set j (.int .u8 (IntKind.u8.wrap (k + (j : Int)))) = midU8 k xs (j + 1) := by
  have e : mkU8 k (j + 1) = mkU8 k j ++ [IntKind.u8.wrap (k + (j : Int))] := by simp [mkU8, List.range_succ]
  have hl : ((mkU8 k j).map (Value.int .u8)).length = j := by simp [mkU8_len]
  unfold midU8
  rw [e, List.set_append_right _ _ (by omega), hl, Nat.sub_self, List.drop_eq_getElem_cons h, List.set_cons_zero]
  simp
theorem midU8_end (k : Int) (xs : List Value) (n : Nat) (h : xs.length = n) : midU8 k xs n = (mkU8 k n).map (Value.int .u8) := by
  unfold midU8
  rw [List.drop_of_length_le (by omega)]
  simp
set_option maxHeartbeats 400000 in
theorem markByteS_any (base : Nat) (v : Value) (n : Nat) (xs : List Value) (k : Int) (w : World) (hv : w.ownsRow base 5 1 v n xs) (hn : n ≤ 4398046511104) (hk : 0 ≤ k) (hk2 : k ≤ 4398046511104) :
    Calls Tryz.prog 20 #[v, .int .i64 k] w fun e w' => e = .returned (.int .i64 (k + (n : Int))) ∧ w'.ownsRow base 5 1 v n ((mkU8 k n).map (Value.int .u8)) ∧ w.grownBy w' v.ownBlock := by
  have hxl : xs.length = n := by have := hv.1; omega
  rcases hv.2 with ⟨rfl, h0⟩ | ⟨g, cap, cur, hval, hrest⟩
  · subst h0
    go_enter Tryz.func20, Tryz.ntmps20
    go_wp2
    go_loop [1, 5] (fun a i => a = .int .i64 k ∧ i = .int .i64 0) (fun _ _ => 0)
    case atStart => exact ⟨rfl, rfl⟩
    case round =>
      obtain ⟨rfl, rfl⟩ := hrel
      go_wp2
      go_ret
      exact ⟨ret_int (by simp), by simpa [mkU8] using World.ownsRow_nil _ _ _ _, World.grownBy.refl _ _⟩
  · clear hrest
    subst hval
    go_enter Tryz.func20, Tryz.ntmps20
    go_wp2
    go_loopw [1, 5] (fun a i wr => ∃ j : Nat, j ≤ n ∧ a = .int .i64 (k + (j : Int)) ∧ i = .int .i64 j ∧ wr.ownsRow base 5 1 (.slice (some ⟨g, 0, none⟩) n cap) n (midU8 k xs j) ∧ w.grownBy wr (some g)) (fun _ i _ => n - (intOf i).toNat)
    case atStart => exact ⟨0, Nat.zero_le _, by go_num, rfl, by rw [midU8_zero]; exact hv, World.grownBy.refl _ _⟩
    case round =>
      obtain ⟨j, hj, rfl, rfl, hown, hgr⟩ := hrel
      by_cases hlt : j < n
      · have hfz := hown.frozenAt j
        have hst := hown.stored j (.int .u8 (IntKind.u8.wrap (k + (j : Int))))
        rw [midU8_step k xs j (by omega)] at hst
        obtain ⟨u, hc⟩ : ∃ u, wr.cell? ⟨g, j, none⟩ = some u := by
          rw [hown.cellAt j (by omega)]
          exact ⟨_, List.getElem?_eq_getElem (by have := hown.1; omega)⟩
        have HS : Hid ((wr.setCell ⟨g, j, none⟩ (.int .u8 (IntKind.u8.wrap (k + (j : Int))))).ownsRow base 5 1 (.slice (some ⟨g, 0, none⟩) n cap) n (midU8 k xs (j + 1))) := hst.1
        have HG : Hid (wr.grownBy (wr.setCell ⟨g, j, none⟩ (.int .u8 (IntKind.u8.wrap (k + (j : Int))))) (some g)) := hst.2
        clear hst hv hown
        have bj : (j : Int) < (n : Int) := by omega
        go_wp2
        go_roundw
        case rel => exact ⟨j + 1, by omega, by go_num, by go_num, HS.out, ⟨HG.out.os.trans hgr.os, HG.out.tape.trans hgr.tape, HG.out.output.trans hgr.output, Nat.le_trans hgr.size HG.out.size, fun i hi hne => (HG.out.block i (Nat.lt_of_lt_of_le hi hgr.size) hne).trans (hgr.block i hi hne)⟩⟩
        case measure => simp [intOf]; omega
      · obtain rfl : j = n := by omega
        rw [midU8_end k xs j hxl] at hown
        clear hv
        go_wp2
        go_ret
        exact ⟨rfl, hown, hgr⟩
set_option maxHeartbeats 400000 in
theorem heldByteS_any (v : Value) (n : Nat) (k : Int) (w : World) (hv : IntsAt w .u8 v (mkU8 k n)) (hn : n ≤ 4398046511104) (hk : 0 ≤ k) (hk2 : k ≤ 4398046511104) :
    Calls Tryz.prog 69 #[v, .int .i64 k] w fun e w' => e = .returned (.int .i64 (k + (n : Int))) ∧ Ext w w' := by
  obtain ⟨ao, cap, rfl, hcap, hr⟩ := hv
  rw [mkU8_len] at hcap hr ⊢
  by_cases h0 : n = 0
  · subst h0
    clear hr
    go_enter Tryz.func69, Tryz.ntmps69
    go_wp2
    go_loop [1, 5] (fun a i => a = .int .i64 k ∧ i = .int .i64 0) (fun _ _ => 0)
    case atStart => exact ⟨rfl, rfl⟩
    case round =>
      obtain ⟨rfl, rfl⟩ := hrel
      go_wp2
      go_ret
      exact ⟨ret_int (by simp), Ext.refl _⟩
  · obtain ⟨b, off, rfl, hc⟩ := hr (by omega)
    clear hr
    go_enter Tryz.func69, Tryz.ntmps69
    go_wp2
    go_loop [1, 5] (fun a i => ∃ j : Nat, j ≤ n ∧ a = .int .i64 (k + (j : Int)) ∧ i = .int .i64 j) (fun _ i => n - (intOf i).toNat)
    case atStart => exact ⟨0, Nat.zero_le _, by go_num, rfl⟩
    case round =>
      obtain ⟨j, hj, rfl, rfl⟩ := hrel
      by_cases hlt : j < n
      · have hcj := hc j hlt
        rw [mkU8_at k n j hlt] at hcj
        clear hc
        have bj : (j : Int) < (n : Int) := by omega
        go_wp2
        go_round
        case rel => exact ⟨j + 1, by omega, by go_num, by go_num⟩
        case measure => simp [intOf]; omega
      · obtain rfl : j = n := by omega
        clear hc
        go_wp2
        go_ret
        exact ⟨rfl, Ext.refl _⟩
theorem infoU8 : (Tryz.prog.info? 5).map (fun i => (i.zero, i.size, i.bytes)) = some (some (.int .u8 0), 1, 1) := by kernel_rfl
def cpU8 (zs : List Int) (xs : List Value) (j : Nat) : List Value := ((zs.take j).map (Value.int .u8)) ++ xs.drop j
theorem cpU8_zero (zs : List Int) (xs : List Value) : cpU8 zs xs 0 = xs := by simp [cpU8]
theorem cpU8_step (zs : List Int) (xs : List Value) (j : Nat) (h : j < xs.length) (h2 : j < zs.length) : (cpU8 zs xs j).set j (.int .u8 (at0 zs j)) = cpU8 zs xs (j + 1) := by
  have e : zs.take (j + 1) = zs.take j ++ [at0 zs j] := by rw [List.take_add_one, at0_lt h2]; rfl
  have hl : ((zs.take j).map (Value.int .u8)).length = j := by simp; omega
  unfold cpU8
  rw [e, List.set_append_right _ _ (by omega), hl, Nat.sub_self, List.drop_eq_getElem_cons h, List.set_cons_zero]
  simp
theorem cpU8_end (zs : List Int) (xs : List Value) (n : Nat) (h : xs.length = n) (h2 : zs.length = n) : cpU8 zs xs n = zs.map (Value.int .u8) := by
  unfold cpU8
  rw [List.drop_of_length_le (by omega), List.take_of_length_le (by omega)]
  simp
set_option maxHeartbeats 400000 in
theorem toByteS_any (v : Value) (zs : List Int) (w : World) (hv : IntsAt w .u8 v zs) (hn : zs.length ≤ 4398046511104) :
    Calls Tryz.prog 16 #[v] w fun e w' => e = .returned (.slice (some ⟨w.heap.size, 0, none⟩) zs.length zs.length) ∧
      w'.ownsRow w.heap.size 5 1 (.slice (some ⟨w.heap.size, 0, none⟩) zs.length zs.length) zs.length (zs.map (Value.int .u8)) ∧ Ext w w' := by
  obtain ⟨ao, cap, rfl, hcap, hr⟩ := hv
  obtain ⟨i0, hi, hz0, hz1, hz2⟩ := info_parts infoU8
  obtain ⟨n, hnn⟩ : ∃ n, n = zs.length := ⟨_, rfl⟩
  rw [← hnn] at hcap hr hn ⊢
  have HN : Hid (n = zs.length) := hnn
  clear hnn
  have hR : Hid (0 < n → ∃ b off, ao = some ⟨b, off, none⟩ ∧ ∀ j, j < n → w.cell? ⟨b, off + j, none⟩ = some (.int .u8 (at0 zs j))) := hr
  clear hr
  by_cases h0 : n = 0
  · subst h0
    go_enter Tryz.func16, Tryz.ntmps16
    go_wp2_with (at_make; refine wpList_make_full _ rfl _ _ 22 rfl w.heap.size 5 i0 (.int .u8 0) 1 Tryz.underlying22 hi hz0 hz1 _ _ _ _ 0 rfl rfl (by simp) (by simp) (by simp) (by simp) (Nat.le_refl _) ?_; intro w1 hown hgr)
    go_loop [4] (fun i => i = .int .i64 0) (fun _ => 0)
    case atStart => rfl
    case round =>
      subst hrel
      go_wp2
      go_ret
      have e : zs = [] := List.eq_nil_of_length_eq_zero HN.out.symm
      subst e
      exact ⟨rfl, by simpa [madeCells] using hown, hgr⟩
  · obtain ⟨b, off, rfl, hc⟩ := hR.out (by omega)
    clear hR
    go_enter Tryz.func16, Tryz.ntmps16
    go_wp2_with (at_make; refine wpList_make_full _ rfl _ _ 22 rfl w.heap.size 5 i0 (.int .u8 0) 1 Tryz.underlying22 hi hz0 hz1 _ _ _ _ n rfl rfl rfl rfl (by rw [hz2]; omega) (by unfold maxLen; omega) (Nat.le_refl _) ?_; intro w1 hown hgr)
    obtain ⟨ys, hys⟩ : ∃ ys, ys = (madeCells (Value.int .u8 0).cells (n * 1)).toList := ⟨_, rfl⟩
    rw [← hys] at hown
    have hyl : ys.length = n := by have := hown.1; omega
    clear hys
    have HC : Hid (∀ j, j < n → w.cell? ⟨b, off + j, none⟩ = some (.int .u8 (at0 zs j))) := hc
    clear hc
    go_loopw [4] (fun i wr => ∃ j : Nat, j ≤ n ∧ i = .int .i64 j ∧ wr.ownsRow w.heap.size 5 1 (.slice (some ⟨w.heap.size, 0, none⟩) n n) n (cpU8 zs ys j) ∧ Ext w wr) (fun i _ => n - (intOf i).toNat)
    case atStart => exact ⟨0, Nat.zero_le _, rfl, by rw [cpU8_zero]; exact hown, hgr⟩
    case round =>
      clear hown hgr
      obtain ⟨j, hj, rfl, hown, hgr⟩ := hrel
      by_cases hlt : j < n
      · have hcj := hgr.cell (HC.out j hlt)
        have hfz := hown.frozenAt j
        have hst := hown.stored j (.int .u8 (at0 zs j))
        rw [cpU8_step zs ys j (by omega) (by rw [← HN.out]; omega)] at hst
        obtain ⟨u, hcc⟩ : ∃ u, wr.cell? ⟨w.heap.size, j, none⟩ = some u := by
          rw [hown.cellAt j (by omega)]
          exact ⟨_, List.getElem?_eq_getElem (by have := hown.1; omega)⟩
        have HS : Hid ((wr.setCell ⟨w.heap.size, j, none⟩ (.int .u8 (at0 zs j))).ownsRow w.heap.size 5 1 (.slice (some ⟨w.heap.size, 0, none⟩) n n) n (cpU8 zs ys (j + 1))) := hst.1
        have HG : Hid (wr.grownBy (wr.setCell ⟨w.heap.size, j, none⟩ (.int .u8 (at0 zs j))) (some w.heap.size)) := hst.2
        clear hst hown
        have bj : (j : Int) < (n : Int) := by omega
        go_wp2
        go_roundw
        case rel => exact ⟨j + 1, by omega, by go_num, HS.out, ⟨HG.out.os.trans hgr.os, HG.out.tape.trans hgr.tape, HG.out.output.trans hgr.output, Nat.le_trans hgr.size HG.out.size, fun i hi hne => (HG.out.block i (Nat.lt_of_lt_of_le hi hgr.size) (by simp; omega)).trans (hgr.block i hi hne)⟩⟩
        case measure => simp [intOf]; omega
      · obtain rfl : j = n := by omega
        rw [cpU8_end zs ys j hyl HN.out.symm] at hown
        go_wp2
        go_ret
        exact ⟨rfl, hown, hgr⟩
end Go.Proofs.YtinfdhbnljnifaaGreatDoor

namespace Go.Proofs.YtinfdhbnljnifaaGreatDoor
open Go.RowKit
theorem szByteS_any (ao : Option Addr) (n cap : Nat) (l : Int) (w : World) (h0 : 0 ≤ l) (h1 : l ≤ 4398046511104) (hn : (n : Int) ≤ 9223372036854775807) :
    Calls Tryz.prog 60 #[.slice ao n cap, .int .i64 l] w fun e w' => e = .returned (.int .i64 (if l < (n : Int) then -1 else l - (n : Int))) ∧ w' = w := by
  by_cases h : l < (n : Int)
  · rw [if_pos h]
    go_enter Tryz.func60, Tryz.ntmps60
    go_wp2
    go_ret
    exact ⟨rfl, rfl⟩
  · rw [if_neg h]
    go_enter Tryz.func60, Tryz.ntmps60
    go_wp2
    go_ret
    exact ⟨rfl, rfl⟩
def SzR (l : Int) (n : Nat) (r : Int) : Prop := (r = -1 ∧ l < (n : Int)) ∨ (r = l - (n : Int) ∧ 0 ≤ r)
end Go.Proofs.YtinfdhbnljnifaaGreatDoor
