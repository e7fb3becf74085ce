import Derived.Test.YtkimnihdjeonpaaBase
import Derived.Test.YtkimnihdjeonpaaProg
namespace Go.Proofs.Ytkimnihdjeonpaa
open Go.RowKit
set_option maxHeartbeats 400000 in
theorem eqByteS_any (va vb : Value) (xs ys : List Int) (w : World) (ha : IntsAt w .u8 va xs) (hb : IntsAt w .u8 vb ys) (hx : xs.length ≤ 4398046511104) :
    Calls Try.prog 15 #[va, vb] w fun e w' => e = .returned (.bool (decide (xs = ys))) ∧ Ext w w' := by
  obtain ⟨ao, ca, rfl, hca, hra⟩ := ha
  obtain ⟨bo, cb, rfl, hcb, hrb⟩ := hb
  by_cases hl : xs.length = ys.length
  · have hlB : ((xs.length : Int) != (ys.length : Int)) = false := by simp [hl]
    by_cases h0 : xs.length = 0
    · have ex : xs = [] := List.eq_nil_of_length_eq_zero h0
      have ey : ys = [] := List.eq_nil_of_length_eq_zero (by omega)
      subst ex; subst ey
      clear hra hrb
      go_enter Try.func15, Try.ntmps15
      go_wp2
      go_loop [5] (fun i => i = .int .i64 0) (fun _ => 0)
      case atStart => rfl
      case round =>
        subst hrel
        go_wp2
        go_ret
        exact ⟨rfl, Ext.refl _⟩
    · obtain ⟨b1, o1, rfl, h1⟩ := hra (by omega)
      obtain ⟨b2, o2, rfl, h2⟩ := hrb (by omega)
      clear hra hrb
      have HL : Hid (xs.length = ys.length) := hl
      have hxy : xs.length ≤ ys.length := by omega
      have hyx : ys.length ≤ xs.length := by omega
      clear hl
      go_enter Try.func15, Try.ntmps15
      go_wp2
      go_loopw [5] (fun i w' => ∃ k : Nat, k ≤ xs.length ∧ i = .int .i64 k ∧ Hid (xs.take k = ys.take k) ∧ ∃ n, w' = w.drewN n) (fun i _ => xs.length - (intOf i).toNat)
      case atStart => exact ⟨0, Nat.zero_le _, rfl, rfl, 0, rfl⟩
      case round =>
        obtain ⟨k, hk, rfl, ht, n, rfl⟩ := hrel
        by_cases hlt : k < xs.length
        · have g1 := h1 k hlt
          have g2 := h2 k (by omega)
          have b1' : (k : Int) < (xs.length : Int) := by omega
          have b2' : (k : Int) < (ys.length : Int) := by omega
          clear h1 h2
          by_cases he : at0 xs k = at0 ys k
          · have HE : Hid (xs.take (k + 1) = ys.take (k + 1)) := take_step hlt (by omega) ht.out he
            have hne : (at0 xs k != at0 ys k) = false := by simp [he]
            clear he
            go_wp2
            go_quiet (fail)
            go_wp2
            go_roundw
            case rel => exact ⟨k + 1, by omega, by go_num, HE, _, rfl⟩
            case measure => simp [intOf]; omega
          · have HE : Hid (¬ xs = ys) := take_part he
            have hne : (at0 xs k != at0 ys k) = true := by simp [he]
            clear he
            go_wp2
            go_quiet (fail)
            go_wp2
            go_ret
            exact ⟨ret_bool (by simp [HE.out]), by repeat (first | exact Ext.refl _ | apply Ext.drewN)⟩
        · have HE : Hid (xs = ys) := by
            have := ht.out
            rwa [List.take_of_length_le (by omega), List.take_of_length_le (by omega)] at this
          go_wp2
          go_ret
          exact ⟨ret_bool (by simp [HE.out]), (Ext.refl _).drewN _⟩
  · have hlB : ((xs.length : Int) != (ys.length : Int)) = true := by simp; omega
    have HE : Hid (¬ xs = ys) := fun e => hl (by rw [e])
    go_enter Try.func15, Try.ntmps15
    go_wp2
    go_ret
    exact ⟨ret_bool (by simp [HE.out]), Ext.refl _⟩
theorem eqByteS_same (va vb : Value) (xs : List Int) (w : World) (ha : IntsAt w .u8 va xs) (hb : IntsAt w .u8 vb xs) (hx : xs.length ≤ 4398046511104) :
    Calls Try.prog 15 #[va, vb] w fun e w' => e = .returned (.bool true) ∧ Ext w w' :=
  (eqByteS_any va vb xs xs w ha hb hx).mono fun e w' h => ⟨h.1.trans (ret_bool (by simp)), h.2⟩
def mkU8 (k : Int) (n : Nat) : List Int := (List.range n).map fun (j : Nat) => IntKind.u8.wrap (k + (j : Int))
theorem mkU8_len (k : Int) (n : Nat) : (mkU8 k n).length = n := by simp [mkU8]
theorem mkU8_at (k : Int) (n j : Nat) (h : j < n) : at0 (mkU8 k n) j = IntKind.u8.wrap (k + (j : Int)) := by simp [at0, mkU8, h]
def midU8 (k : Int) (xs : List Value) (j : Nat) : List Value := ((mkU8 k j).map (Value.int .u8)) ++ xs.drop j
theorem midU8_zero (k : Int) (xs : List Value) : midU8 k xs 0 = xs := by simp [midU8, mkU8]
theorem midU8_step (k : Int) (xs : List Value) (j : Nat) (h : j < xs.length) : (midU8 k xs j).set j (.int .u8 (IntKind.u8.wrap (k + (j : Int)))) = midU8 k xs (j + 1) := by
  have e : mkU8 k (j + 1) = mkU8 k j ++ [IntKind.u8.wrap (k + (j : Int))] := by simp [mkU8, List.range_succ]
  have hl : ((mkU8 k j).map (Value.int .u8)).length = j := by simp [mkU8_len]
  unfold midU8
  rw [e, List.set_append_right _ _ (by omega), hl, Nat.sub_self, List.drop_eq_getElem_cons h, List.set_cons_zero]
  simp
theorem midU8_end (k : Int) (xs : List Value) (n : Nat) (h : xs.length = n) : midU8 k xs n = (mkU8 k n).map (Value.int .u8) := by
  unfold midU8
  rw [List.drop_of_length_le (by omega)]
  simp
set_option maxHeartbeats 400000 in
theorem markByteS_any (base : Nat) (v : Value) (n : Nat) (xs : List Value) (k : Int) (w : World) (hv : w.ownsRow base 5 1 v n xs) (hn : n ≤ 4398046511104) (hk : 0 ≤ k) (hk2 : k ≤ 4398046511104) :
    Calls Try.prog 16 #[v, .int .i64 k] w fun e w' => e = .returned (.int .i64 (k + (n : Int))) ∧ w'.ownsRow base 5 1 v n ((mkU8 k n).map (Value.int .u8)) ∧ w.grownBy w' v.ownBlock := by
  have hxl : xs.length = n := by have := hv.1; omega
  rcases hv.2 with ⟨rfl, h0⟩ | ⟨g, cap, cur, hval, hrest⟩
  · subst h0
    go_enter Try.func16, Try.ntmps16
    go_wp2
    go_loop [1, 5] (fun a i => a = .int .i64 k ∧ i = .int .i64 0) (fun _ _ => 0)
    case atStart => exact ⟨rfl, rfl⟩
    case round =>
      obtain ⟨rfl, rfl⟩ := hrel
      go_wp2
      go_ret
      exact ⟨ret_int (by simp), by simpa [mkU8] using World.ownsRow_nil _ _ _ _, World.grownBy.refl _ _⟩
  · clear hrest
    subst hval
    go_enter Try.func16, Try.ntmps16
    go_wp2
    go_loopw [1, 5] (fun a i wr => ∃ j : Nat, j ≤ n ∧ a = .int .i64 (k + (j : Int)) ∧ i = .int .i64 j ∧ wr.ownsRow base 5 1 (.slice (some ⟨g, 0, none⟩) n cap) n (midU8 k xs j) ∧ w.grownBy wr (some g)) (fun _ i _ => n - (intOf i).toNat)
    case atStart => exact ⟨0, Nat.zero_le _, by go_num, rfl, by rw [midU8_zero]; exact hv, World.grownBy.refl _ _⟩
    case round =>
      obtain ⟨j, hj, rfl, rfl, hown, hgr⟩ := hrel
      by_cases hlt : j < n
      · have hfz := hown.frozenAt j
        have hst := hown.stored j (.int .u8 (IntKind.u8.wrap (k + (j : Int))))
        rw [midU8_step k xs j (by omega)] at hst
        obtain ⟨u, hc⟩ : ∃ u, wr.cell? ⟨g, j, none⟩ = some u := by
          rw [hown.cellAt j (by omega)]
          exact ⟨_, List.getElem?_eq_getElem (by have := hown.1; omega)⟩
        have HS : Hid ((wr.setCell ⟨g, j, none⟩ (.int .u8 (IntKind.u8.wrap (k + (j : Int))))).ownsRow base 5 1 (.slice (some ⟨g, 0, none⟩) n cap) n (midU8 k xs (j + 1))) := hst.1
        have HG : Hid (wr.grownBy (wr.setCell ⟨g, j, none⟩ (.int .u8 (IntKind.u8.wrap (k + (j : Int))))) (some g)) := hst.2
        clear hst hv hown
        have bj : (j : Int) < (n : Int) := by omega
        go_wp2
        go_roundw
        case rel => exact ⟨j + 1, by omega, by go_num, by go_num, HS.out, ⟨HG.out.os.trans hgr.os, HG.out.tape.trans hgr.tape, HG.out.output.trans hgr.output, Nat.le_trans hgr.size HG.out.size, fun i hi hne => (HG.out.block i (Nat.lt_of_lt_of_le hi hgr.size) hne).trans (hgr.block i hi hne)⟩⟩
        case measure => simp [intOf]; omega
      · obtain rfl : j = n := by omega
        rw [midU8_end k xs j hxl] at hown
        clear hv
        go_wp2
        go_ret
        exact ⟨rfl, hown, hgr⟩
set_option maxHeartbeats 400000 in
theorem heldByteS_any (v : Value) (n : Nat) (k : Int) (w : World) (hv : IntsAt w .u8 v (mkU8 k n)) (hn : n ≤ 4398046511104) (hk : 0 ≤ k) (hk2 : k ≤ 4398046511104) :
    Calls Try.prog 42 #[v, .int .i64 k] w fun e w' => e = .returned (.int .i64 (k + (n : Int))) ∧ Ext w w' := by
  obtain ⟨ao, cap, rfl, hcap, hr⟩ := hv
  rw [mkU8_len] at hcap hr ⊢
  by_cases h0 : n = 0
  · subst h0
    clear hr
    go_enter Try.func42, Try.ntmps42
    go_wp2
    go_loop [1, 5] (fun a i => a = .int .i64 k ∧ i = .int .i64 0) (fun _ _ => 0)
    case atStart => exact ⟨rfl, rfl⟩
    case round =>
      obtain ⟨rfl, rfl⟩ := hrel
      go_wp2
      go_ret
      exact ⟨ret_int (by simp), Ext.refl _⟩
  · obtain ⟨b, off, rfl, hc⟩ := hr (by omega)
    clear hr
    go_enter Try.func42, Try.ntmps42
    go_wp2
    go_loop [1, 5] (fun a i => ∃ j : Nat, j ≤ n ∧ a = .int .i64 (k + (j : Int)) ∧ i = .int .i64 j) (fun _ i => n - (intOf i).toNat)
    case atStart => exact ⟨0, Nat.zero_le _, by go_num, rfl⟩
    case round =>
      obtain ⟨j, hj, rfl, rfl⟩ := hrel
      by_cases hlt : j < n
      · have hcj := hc j hlt
        rw [mkU8_at k n j hlt] at hcj
        clear hc
        have bj : (j : Int) < (n : Int) := by omega
        go_wp2
        go_round
        case rel => exact ⟨j + 1, by omega, by go_num, by go_num⟩
        case measure => simp [intOf]; omega
      · obtain rfl : j = n := by omega
        clear hc
        go_wp2
        go_ret
        exact ⟨rfl, Ext.refl _⟩
theorem infoU8 : (Try.prog.info? 5).map (fun i => (i.zero, i.size, i.bytes)) = some (some (.int .u8 0), 1, 1) := by kernel_rfl
def cpU8 (zs : List Int) (xs : List Value) (j : Nat) : List Value := ((zs.take j).map (Value.int .u8)) ++ xs.drop j
theorem cpU8_zero (zs : List Int) (xs : List Value) : cpU8 zs xs 0 = xs := by simp [cpU8]
theorem cpU8_step (zs : List Int) (xs : List Value) (j : Nat) (h : j < xs.length) (h2 : j < zs.length) : (cpU8 zs xs j).set j (.int .u8 (at0 zs j)) = cpU8 zs xs (j + 1) := by
  have e : zs.take (j + 1) = zs.take j ++ [at0 zs j] := by rw [List.take_add_one, at0_lt h2]; rfl
  have hl : ((zs.take j).map (Value.int .u8)).length = j := by simp; omega
  unfold cpU8
  rw [e, List.set_append_right _ _ (by omega), hl, Nat.sub_self, List.drop_eq_getElem_cons h, List.set_cons_zero]
  simp
theorem cpU8_end (zs : List Int) (xs : List Value) (n : Nat) (h : xs.length = n) (h2 : zs.length = n) : cpU8 zs xs n = zs.map (Value.int .u8) := by
  unfold cpU8
  rw [List.drop_of_length_le (by omega), List.take_of_length_le (by omega)]
  simp
set_option maxHeartbeats 400000 in
theorem toByteS_any (v : Value) (zs : List Int) (w : World) (hv : IntsAt w .u8 v zs) (hn : zs.length ≤ 4398046511104) :
    Calls Try.prog 12 #[v] w fun e w' => e = .returned (.slice (some ⟨w.heap.size, 0, none⟩) zs.length zs.length) ∧
      w'.ownsRow w.heap.size 5 1 (.slice (some ⟨w.heap.size, 0, none⟩) zs.length zs.length) zs.length (zs.map (Value.int .u8)) ∧ Ext w w' := by
  obtain ⟨ao, cap, rfl, hcap, hr⟩ := hv
  obtain ⟨i0, hi, hz0, hz1, hz2⟩ := info_parts infoU8
  obtain ⟨n, hnn⟩ : ∃ n, n = zs.length := ⟨_, rfl⟩
  rw [← hnn] at hcap hr hn ⊢
  have HN : Hid (n = zs.length) := hnn
  clear hnn
  have hR : Hid (0 < n → ∃ b off, ao = some ⟨b, off, none⟩ ∧ ∀ j, j < n → w.cell? ⟨b, off + j, none⟩ = some (.int .u8 (at0 zs j))) := hr
  clear hr
  by_cases h0 : n = 0
  · subst h0
    go_enter Try.func12, Try.ntmps12
    go_wp2_with (at_make; refine wpList_make_full _ rfl _ _ 29 rfl w.heap.size 5 i0 (.int .u8 0) 1 Try.underlying29 hi hz0 hz1 _ _ _ _ 0 rfl rfl (by simp) (by simp) (by simp) (by simp) (Nat.le_refl _) ?_; intro w1 hown hgr)
    go_loop [4] (fun i => i = .int .i64 0) (fun _ => 0)
    case atStart => rfl
    case round =>
      subst hrel
      go_wp2
      go_ret
      have e : zs = [] := List.eq_nil_of_length_eq_zero HN.out.symm
      subst e
      exact ⟨rfl, by simpa [madeCells] using hown, hgr⟩
  · obtain ⟨b, off, rfl, hc⟩ := hR.out (by omega)
    clear hR
    go_enter Try.func12, Try.ntmps12
    go_wp2_with (at_make; refine wpList_make_full _ rfl _ _ 29 rfl w.heap.size 5 i0 (.int .u8 0) 1 Try.underlying29 hi hz0 hz1 _ _ _ _ n rfl rfl rfl rfl (by rw [hz2]; omega) (by unfold maxLen; omega) (Nat.le_refl _) ?_; intro w1 hown hgr)
    obtain ⟨ys, hys⟩ : ∃ ys, ys = (madeCells (Value.int .u8 0).cells (n * 1)).toList := ⟨_, rfl⟩
    rw [← hys] at hown
    have hyl : ys.length = n := by have := hown.1; omega
    clear hys
    have HC : Hid (∀ j, j < n → w.cell? ⟨b, off + j, none⟩ = some (.int .u8 (at0 zs j))) := hc
    clear hc
    go_loopw [4] (fun i wr => ∃ j : Nat, j ≤ n ∧ i = .int .i64 j ∧ wr.ownsRow w.heap.size 5 1 (.slice (some ⟨w.heap.size, 0, none⟩) n n) n (cpU8 zs ys j) ∧ Ext w wr) (fun i _ => n - (intOf i).toNat)
    case atStart => exact ⟨0, Nat.zero_le _, rfl, by rw [cpU8_zero]; exact hown, hgr⟩
    case round =>
      clear hown hgr
      obtain ⟨j, hj, rfl, hown, hgr⟩ := hrel
      by_cases hlt : j < n
      · have hcj := hgr.cell (HC.out j hlt)
        have hfz := hown.frozenAt j
        have hst := hown.stored j (.int .u8 (at0 zs j))
        rw [cpU8_step zs ys j (by omega) (by rw [← HN.out]; omega)] at hst
        obtain ⟨u, hcc⟩ : ∃ u, wr.cell? ⟨w.heap.size, j, none⟩ = some u := by
          rw [hown.cellAt j (by omega)]
          exact ⟨_, List.getElem?_eq_getElem (by have := hown.1; omega)⟩
        have HS : Hid ((wr.setCell ⟨w.heap.size, j, none⟩ (.int .u8 (at0 zs j))).ownsRow w.heap.size 5 1 (.slice (some ⟨w.heap.size, 0, none⟩) n n) n (cpU8 zs ys (j + 1))) := hst.1
        have HG : Hid (wr.grownBy (wr.setCell ⟨w.heap.size, j, none⟩ (.int .u8 (at0 zs j))) (some w.heap.size)) := hst.2
        clear hst hown
        have bj : (j : Int) < (n : Int) := by omega
        go_wp2
        go_roundw
        case rel => exact ⟨j + 1, by omega, by go_num, HS.out, ⟨HG.out.os.trans hgr.os, HG.out.tape.trans hgr.tape, HG.out.output.trans hgr.output, Nat.le_trans hgr.size HG.out.size, fun i hi hne => (HG.out.block i (Nat.lt_of_lt_of_le hi hgr.size) (by simp; omega)).trans (hgr.block i hi hne)⟩⟩
        case measure => simp [intOf]; omega
      · obtain rfl : j = n := by omega
        rw [cpU8_end zs ys j hyl HN.out.symm] at hown
        go_wp2
        go_ret
        exact ⟨rfl, hown, hgr⟩
end Go.Proofs.Ytkimnihdjeonpaa
