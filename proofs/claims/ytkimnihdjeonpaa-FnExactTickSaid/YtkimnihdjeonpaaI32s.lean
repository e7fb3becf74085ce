import Derived.Test.YtkimnihdjeonpaaBase
import Derived.Test.YtkimnihdjeonpaaProg
namespace Go.Proofs.Ytkimnihdjeonpaa
open Go.RowKit
set_option maxHeartbeats 400000 in
theorem eqInt32S_any (va vb : Value) (xs ys : List Int) (w : World) (ha : IntsAt w .i32 va xs) (hb : IntsAt w .i32 vb ys) (hx : xs.length ≤ 4398046511104) :
    Calls Try.prog 14 #[va, vb] w fun e w' => e = .returned (.bool (decide (xs = ys))) ∧ Ext w w' := by
  obtain ⟨ao, ca, rfl, hca, hra⟩ := ha
  obtain ⟨bo, cb, rfl, hcb, hrb⟩ := hb
  by_cases hl : xs.length = ys.length
  · have hlB : ((xs.length : Int) != (ys.length : Int)) = false := by simp [hl]
    by_cases h0 : xs.length = 0
    · have ex : xs = [] := List.eq_nil_of_length_eq_zero h0
      have ey : ys = [] := List.eq_nil_of_length_eq_zero (by omega)
      subst ex; subst ey
      clear hra hrb
      go_enter Try.func14, Try.ntmps14
      go_wp2
      go_loop [5] (fun i => i = .int .i64 0) (fun _ => 0)
      case atStart => rfl
      case round =>
        subst hrel
        go_wp2
        go_ret
        exact ⟨rfl, Ext.refl _⟩
    · obtain ⟨b1, o1, rfl, h1⟩ := hra (by omega)
      obtain ⟨b2, o2, rfl, h2⟩ := hrb (by omega)
      clear hra hrb
      have HL : Hid (xs.length = ys.length) := hl
      have hxy : xs.length ≤ ys.length := by omega
      have hyx : ys.length ≤ xs.length := by omega
      clear hl
      go_enter Try.func14, Try.ntmps14
      go_wp2
      go_loopw [5] (fun i w' => ∃ k : Nat, k ≤ xs.length ∧ i = .int .i64 k ∧ Hid (xs.take k = ys.take k) ∧ ∃ n, w' = w.drewN n) (fun i _ => xs.length - (intOf i).toNat)
      case atStart => exact ⟨0, Nat.zero_le _, rfl, rfl, 0, rfl⟩
      case round =>
        obtain ⟨k, hk, rfl, ht, n, rfl⟩ := hrel
        by_cases hlt : k < xs.length
        · have g1 := h1 k hlt
          have g2 := h2 k (by omega)
          have b1' : (k : Int) < (xs.length : Int) := by omega
          have b2' : (k : Int) < (ys.length : Int) := by omega
          clear h1 h2
          by_cases he : at0 xs k = at0 ys k
          · have HE : Hid (xs.take (k + 1) = ys.take (k + 1)) := take_step hlt (by omega) ht.out he
            have hne : (at0 xs k != at0 ys k) = false := by simp [he]
            clear he
            go_wp2
            go_quiet (fail)
            go_wp2
            go_roundw
            case rel => exact ⟨k + 1, by omega, by go_num, HE, _, rfl⟩
            case measure => simp [intOf]; omega
          · have HE : Hid (¬ xs = ys) := take_part he
            have hne : (at0 xs k != at0 ys k) = true := by simp [he]
            clear he
            go_wp2
            go_quiet (fail)
            go_wp2
            go_ret
            exact ⟨ret_bool (by simp [HE.out]), by repeat (first | exact Ext.refl _ | apply Ext.drewN)⟩
        · have HE : Hid (xs = ys) := by
            have := ht.out
            rwa [List.take_of_length_le (by omega), List.take_of_length_le (by omega)] at this
          go_wp2
          go_ret
          exact ⟨ret_bool (by simp [HE.out]), (Ext.refl _).drewN _⟩
  · have hlB : ((xs.length : Int) != (ys.length : Int)) = true := by simp; omega
    have HE : Hid (¬ xs = ys) := fun e => hl (by rw [e])
    go_enter Try.func14, Try.ntmps14
    go_wp2
    go_ret
    exact ⟨ret_bool (by simp [HE.out]), Ext.refl _⟩
theorem eqInt32S_same (va vb : Value) (xs : List Int) (w : World) (ha : IntsAt w .i32 va xs) (hb : IntsAt w .i32 vb xs) (hx : xs.length ≤ 4398046511104) :
    Calls Try.prog 14 #[va, vb] w fun e w' => e = .returned (.bool true) ∧ Ext w w' :=
  (eqInt32S_any va vb xs xs w ha hb hx).mono fun e w' h => ⟨h.1.trans (ret_bool (by simp)), h.2⟩
def mkI32 (k : Int) (n : Nat) : List Int := (List.range n).map fun (j : Nat) => wrap32 (k + (j : Int))
theorem mkI32_len (k : Int) (n : Nat) : (mkI32 k n).length = n := by simp [mkI32]
theorem mkI32_at (k : Int) (n j : Nat) (h : j < n) : at0 (mkI32 k n) j = wrap32 (k + (j : Int)) := by simp [at0, mkI32, h]
def midI32 (k : Int) (xs : List Value) (j : Nat) : List Value := ((mkI32 k j).map (Value.int .i32)) ++ xs.drop j
theorem midI32_zero (k : Int) (xs : List Value) : midI32 k xs 0 = xs := by simp [midI32, mkI32]
theorem midI32_step (k : Int) (xs : List Value) (j : Nat) (h : j < xs.length) : (midI32 k xs j).set j (.int .i32 (wrap32 (k + (j : Int)))) = midI32 k xs (j + 1) := by
  have e : mkI32 k (j + 1) = mkI32 k j ++ [wrap32 (k + (j : Int))] := by simp [mkI32, List.range_succ]
  have hl : ((mkI32 k j).map (Value.int .i32)).length = j := by simp [mkI32_len]
  unfold midI32
  rw [e, List.set_append_right _ _ (by omega), hl, Nat.sub_self, List.drop_eq_getElem_cons h, List.set_cons_zero]
  simp
theorem midI32_end (k : Int) (xs : List Value) (n : Nat) (h : xs.length = n) : midI32 k xs n = (mkI32 k n).map (Value.int .i32) := by
  unfold midI32
  rw [List.drop_of_length_le (by omega)]
  simp
set_option maxHeartbeats 400000 in
theorem markInt32S_any (base : Nat) (v : Value) (n : Nat) (xs : List Value) (k : Int) (w : World) (hv : w.ownsRow base 21 1 v n xs) (hn : n ≤ 4398046511104) (hk : 0 ≤ k) (hk2 : k ≤ 4398046511104) :
    Calls Try.prog 17 #[v, .int .i64 k] w fun e w' => e = .returned (.int .i64 (k + (n : Int))) ∧ w'.ownsRow base 21 1 v n ((mkI32 k n).map (Value.int .i32)) ∧ w.grownBy w' v.ownBlock := by
  have hxl : xs.length = n := by have := hv.1; omega
  rcases hv.2 with ⟨rfl, h0⟩ | ⟨g, cap, cur, hval, hrest⟩
  · subst h0
    go_enter Try.func17, Try.ntmps17
    go_wp2
    go_loop [1, 5] (fun a i => a = .int .i64 k ∧ i = .int .i64 0) (fun _ _ => 0)
    case atStart => exact ⟨rfl, rfl⟩
    case round =>
      obtain ⟨rfl, rfl⟩ := hrel
      go_wp2
      go_ret
      exact ⟨ret_int (by simp), by simpa [mkI32] using World.ownsRow_nil _ _ _ _, World.grownBy.refl _ _⟩
  · clear hrest
    subst hval
    go_enter Try.func17, Try.ntmps17
    go_wp2
    go_loopw [1, 5] (fun a i wr => ∃ j : Nat, j ≤ n ∧ a = .int .i64 (k + (j : Int)) ∧ i = .int .i64 j ∧ wr.ownsRow base 21 1 (.slice (some ⟨g, 0, none⟩) n cap) n (midI32 k xs j) ∧ w.grownBy wr (some g)) (fun _ i _ => n - (intOf i).toNat)
    case atStart => exact ⟨0, Nat.zero_le _, by go_num, rfl, by rw [midI32_zero]; exact hv, World.grownBy.refl _ _⟩
    case round =>
      obtain ⟨j, hj, rfl, rfl, hown, hgr⟩ := hrel
      by_cases hlt : j < n
      · have hfz := hown.frozenAt j
        have hst := hown.stored j (.int .i32 (wrap32 (k + (j : Int))))
        rw [midI32_step k xs j (by omega)] at hst
        obtain ⟨u, hc⟩ : ∃ u, wr.cell? ⟨g, j, none⟩ = some u := by
          rw [hown.cellAt j (by omega)]
          exact ⟨_, List.getElem?_eq_getElem (by have := hown.1; omega)⟩
        have HS : Hid ((wr.setCell ⟨g, j, none⟩ (.int .i32 (wrap32 (k + (j : Int))))).ownsRow base 21 1 (.slice (some ⟨g, 0, none⟩) n cap) n (midI32 k xs (j + 1))) := hst.1
        have HG : Hid (wr.grownBy (wr.setCell ⟨g, j, none⟩ (.int .i32 (wrap32 (k + (j : Int))))) (some g)) := hst.2
        clear hst hv hown
        have bj : (j : Int) < (n : Int) := by omega
        go_wp2
        go_roundw
        case rel => exact ⟨j + 1, by omega, by go_num, by go_num, HS.out, ⟨HG.out.os.trans hgr.os, HG.out.tape.trans hgr.tape, HG.out.output.trans hgr.output, Nat.le_trans hgr.size HG.out.size, fun i hi hne => (HG.out.block i (Nat.lt_of_lt_of_le hi hgr.size) hne).trans (hgr.block i hi hne)⟩⟩
        case measure => simp [intOf]; omega
      · obtain rfl : j = n := by omega
        rw [midI32_end k xs j hxl] at hown
        clear hv
        go_wp2
        go_ret
        exact ⟨rfl, hown, hgr⟩
set_option maxHeartbeats 400000 in
theorem heldInt32S_any (v : Value) (n : Nat) (k : Int) (w : World) (hv : IntsAt w .i32 v (mkI32 k n)) (hn : n ≤ 4398046511104) (hk : 0 ≤ k) (hk2 : k ≤ 4398046511104) :
    Calls Try.prog 18 #[v, .int .i64 k] w fun e w' => e = .returned (.int .i64 (k + (n : Int))) ∧ Ext w w' := by
  obtain ⟨ao, cap, rfl, hcap, hr⟩ := hv
  rw [mkI32_len] at hcap hr ⊢
  by_cases h0 : n = 0
  · subst h0
    clear hr
    go_enter Try.func18, Try.ntmps18
    go_wp2
    go_loop [1, 5] (fun a i => a = .int .i64 k ∧ i = .int .i64 0) (fun _ _ => 0)
    case atStart => exact ⟨rfl, rfl⟩
    case round =>
      obtain ⟨rfl, rfl⟩ := hrel
      go_wp2
      go_ret
      exact ⟨ret_int (by simp), Ext.refl _⟩
  · obtain ⟨b, off, rfl, hc⟩ := hr (by omega)
    clear hr
    go_enter Try.func18, Try.ntmps18
    go_wp2
    go_loop [1, 5] (fun a i => ∃ j : Nat, j ≤ n ∧ a = .int .i64 (k + (j : Int)) ∧ i = .int .i64 j) (fun _ i => n - (intOf i).toNat)
    case atStart => exact ⟨0, Nat.zero_le _, by go_num, rfl⟩
    case round =>
      obtain ⟨j, hj, rfl, rfl⟩ := hrel
      by_cases hlt : j < n
      · have hcj := hc j hlt
        rw [mkI32_at k n j hlt] at hcj
        clear hc
        have bj : (j : Int) < (n : Int) := by omega
        go_wp2
        go_round
        case rel => exact ⟨j + 1, by omega, by go_num, by go_num⟩
        case measure => simp [intOf]; omega
      · obtain rfl : j = n := by omega
        clear hc
        go_wp2
        go_ret
        exact ⟨rfl, Ext.refl _⟩
end Go.Proofs.Ytkimnihdjeonpaa
