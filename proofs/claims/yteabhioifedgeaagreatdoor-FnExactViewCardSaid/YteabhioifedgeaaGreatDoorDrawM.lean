import Derived.Test.YteabhioifedgeaaGreatDoorBase
import Derived.Test.YteabhioifedgeaaGreatDoorProg
import Derived.ProofKit
import Derived.OpenShut
import Derived.OpenVars
import Derived.Carry
import Derived.ChangeOld
import Derived.Test.YteabhioifedgeaaGreatDoorRows12
import Derived.Deep.SlicePairs
import Derived.Deep.Strs
import Derived.Test.YteabhioifedgeaaGreatDoorCells
import Derived.Lib.ItoaNum
import Derived.Lib.Join
namespace Go.Proofs.YteabhioifedgeaaGreatDoor
open Go.RowKit


set_option maxHeartbeats 400000 in
theorem eqByteS_any (va vb : Value) (xs ys : List Int) (w : World) (ha : IntsAt w .u8 va xs) (hb : IntsAt w .u8 vb ys) (hx : xs.length ≤ 4398046511104) :
    Calls Tryz.prog 21 #[va, vb] w fun e w' => e = .returned (.bool (decide (xs = ys))) ∧ Ext w w' := by
  obtain ⟨ao, ca, rfl, hca, hra⟩ := ha
  obtain ⟨bo, cb, rfl, hcb, hrb⟩ := hb
  by_cases hl : xs.length = ys.length
  · have hlB : ((xs.length : Int) != (ys.length : Int)) = false := by simp [hl]
    by_cases h0 : xs.length = 0
    · have ex : xs = [] := List.eq_nil_of_length_eq_zero h0
      have ey : ys = [] := List.eq_nil_of_length_eq_zero (by omega)
      subst ex; subst ey
      clear hra hrb
      go_enter Tryz.func21, Tryz.ntmps21
      go_wp2
      go_loop [5] (fun i => i = .int .i64 0) (fun _ => 0)
      case atStart => rfl
      case round =>
        subst hrel
        go_wp2
        go_ret
        exact ⟨rfl, Ext.refl _⟩
    · obtain ⟨b1, o1, rfl, h1⟩ := hra (by omega)
      obtain ⟨b2, o2, rfl, h2⟩ := hrb (by omega)
      clear hra hrb
      have HL : Hid (xs.length = ys.length) := hl
      have hxy : xs.length ≤ ys.length := by omega
      have hyx : ys.length ≤ xs.length := by omega
      clear hl
      go_enter Tryz.func21, Tryz.ntmps21
      go_wp2
      go_loopw [5] (fun i w' => ∃ k : Nat, k ≤ xs.length ∧ i = .int .i64 k ∧ Hid (xs.take k = ys.take k) ∧ ∃ n, w' = w.drewN n) (fun i _ => xs.length - (intOf i).toNat)
      case atStart => exact ⟨0, Nat.zero_le _, rfl, rfl, 0, rfl⟩
      case round =>
        obtain ⟨k, hk, rfl, ht, n, rfl⟩ := hrel
        by_cases hlt : k < xs.length
        · have g1 := h1 k hlt
          have g2 := h2 k (by omega)
          have b1' : (k : Int) < (xs.length : Int) := by omega
          have b2' : (k : Int) < (ys.length : Int) := by omega
          clear h1 h2
          by_cases he : at0 xs k = at0 ys k
          · have HE : Hid (xs.take (k + 1) = ys.take (k + 1)) := take_step hlt (by omega) ht.out he
            have hne : (at0 xs k != at0 ys k) = false := by simp [he]
            clear he
            go_wp2
            go_quiet (fail)
            go_wp2
            go_roundw
            case rel => exact ⟨k + 1, by omega, by go_num, HE, _, rfl⟩
            case measure => simp [intOf]; omega
          · have HE : Hid (¬ xs = ys) := take_part he
            have hne : (at0 xs k != at0 ys k) = true := by simp [he]
            clear he
            go_wp2
            go_quiet (fail)
            go_wp2
            go_ret
            exact ⟨ret_bool (by simp [HE.out]), by repeat (first | exact Ext.refl _ | apply Ext.drewN)⟩
        · have HE : Hid (xs = ys) := by
            have := ht.out
            rwa [List.take_of_length_le (by omega), List.take_of_length_le (by omega)] at this
          go_wp2
          go_ret
          exact ⟨ret_bool (by simp [HE.out]), (Ext.refl _).drewN _⟩
  · have hlB : ((xs.length : Int) != (ys.length : Int)) = true := by simp; omega
    have HE : Hid (¬ xs = ys) := fun e => hl (by rw [e])
    go_enter Tryz.func21, Tryz.ntmps21
    go_wp2
    go_ret
    exact ⟨ret_bool (by simp [HE.out]), Ext.refl _⟩
theorem eqByteS_same (va vb : Value) (xs : List Int) (w : World) (ha : IntsAt w .u8 va xs) (hb : IntsAt w .u8 vb xs) (hx : xs.length ≤ 4398046511104) :
    Calls Tryz.prog 21 #[va, vb] w fun e w' => e = .returned (.bool true) ∧ Ext w w' :=
  (eqByteS_any va vb xs xs w ha hb hx).mono fun e w' h => ⟨h.1.trans (ret_bool (by simp)), h.2⟩
/-- What 'mark' lays: the numbers from k on, each made an int32. -/
def mkU8 (k : Int) (n : Nat) : List Int := (List.range n).map fun (j : Nat) => IntKind.u8.wrap (k + (j : Int))
theorem mkU8_len (k : Int) (n : Nat) : (mkU8 k n).length = n := by simp [mkU8]
theorem mkU8_at (k : Int) (n j : Nat) (h : j < n) : at0 (mkU8 k n) j = IntKind.u8.wrap (k + (j : Int)) := by simp [at0, mkU8, h]
/-- The row while 'mark' is at place j. -/
def midU8 (k : Int) (xs : List Value) (j : Nat) : List Value := ((mkU8 k j).map (Value.int .u8)) ++ xs.drop j
theorem midU8_zero (k : Int) (xs : List Value) : midU8 k xs 0 = xs := by simp [midU8, mkU8]
theorem midU8_step (k : Int) (xs : List Value) (j : Nat) (h : j < xs.length) : (midU8 k xs j).set j (.int .u8 (IntKind.u8.wrap (k + (j : Int)))) = midU8 k xs (j + 1) := by
  have e : mkU8 k (j + 1) = mkU8 k j ++ [IntKind.u8.wrap (k + (j : Int))] := by simp [mkU8, List.range_succ]
  have hl : ((mkU8 k j).map (Value.int .u8)).length = j := by simp [mkU8_len]
  unfold midU8
  rw [e, List.set_append_right _ _ (by omega), hl, Nat.sub_self, List.drop_eq_getElem_cons h, List.set_cons_zero]
  simp
theorem midU8_end (k : Int) (xs : List Value) (n : Nat) (h : xs.length = n) : midU8 k xs n = (mkU8 k n).map (Value.int .u8) := by
  unfold midU8
  rw [List.drop_of_length_le (by omega)]
  simp

set_option maxHeartbeats 400000 in
theorem markByteS_any (base : Nat) (v : Value) (n : Nat) (xs : List Value) (k : Int) (w : World) (hv : w.ownsRow base 5 1 v n xs) (hn : n ≤ 4398046511104) (hk : 0 ≤ k) (hk2 : k ≤ 4398046511104) :
    Calls Tryz.prog 23 #[v, .int .i64 k] w fun e w' => e = .returned (.int .i64 (k + (n : Int))) ∧ w'.ownsRow base 5 1 v n ((mkU8 k n).map (Value.int .u8)) ∧ w.grownBy w' v.ownBlock := by
  have hxl : xs.length = n := by have := hv.1; omega
  rcases hv.2 with ⟨rfl, h0⟩ | ⟨g, cap, cur, hval, hrest⟩
  · subst h0
    go_enter Tryz.func23, Tryz.ntmps23
    go_wp2
    go_loop [1, 5] (fun a i => a = .int .i64 k ∧ i = .int .i64 0) (fun _ _ => 0)
    case atStart => exact ⟨rfl, rfl⟩
    case round =>
      obtain ⟨rfl, rfl⟩ := hrel
      go_wp2
      go_ret
      exact ⟨ret_int (by simp), by simpa [mkU8] using World.ownsRow_nil _ _ _ _, World.grownBy.refl _ _⟩
  · clear hrest
    subst hval
    go_enter Tryz.func23, Tryz.ntmps23
    go_wp2
    go_loopw [1, 5] (fun a i wr => ∃ j : Nat, j ≤ n ∧ a = .int .i64 (k + (j : Int)) ∧ i = .int .i64 j ∧ wr.ownsRow base 5 1 (.slice (some ⟨g, 0, none⟩) n cap) n (midU8 k xs j) ∧ w.grownBy wr (some g)) (fun _ i _ => n - (intOf i).toNat)
    case atStart => exact ⟨0, Nat.zero_le _, by go_num, rfl, by rw [midU8_zero]; exact hv, World.grownBy.refl _ _⟩
    case round =>
      obtain ⟨j, hj, rfl, rfl, hown, hgr⟩ := hrel
      by_cases hlt : j < n
      · have hfz := hown.frozenAt j
        have hst := hown.stored j (.int .u8 (IntKind.u8.wrap (k + (j : Int))))
        rw [midU8_step k xs j (by omega)] at hst
        obtain ⟨u, hc⟩ : ∃ u, wr.cell? ⟨g, j, none⟩ = some u := by
          rw [hown.cellAt j (by omega)]
          exact ⟨_, List.getElem?_eq_getElem (by have := hown.1; omega)⟩
        have HS : Hid ((wr.setCell ⟨g, j, none⟩ (.int .u8 (IntKind.u8.wrap (k + (j : Int))))).ownsRow base 5 1 (.slice (some ⟨g, 0, none⟩) n cap) n (midU8 k xs (j + 1))) := hst.1
        have HG : Hid (wr.grownBy (wr.setCell ⟨g, j, none⟩ (.int .u8 (IntKind.u8.wrap (k + (j : Int))))) (some g)) := hst.2
        clear hst hv hown
        have bj : (j : Int) < (n : Int) := by omega
        go_wp2
        go_roundw
        case rel => exact ⟨j + 1, by omega, by go_num, by go_num, HS.out, ⟨HG.out.os.trans hgr.os, HG.out.tape.trans hgr.tape, HG.out.output.trans hgr.output, Nat.le_trans hgr.size HG.out.size, fun i hi hne => (HG.out.block i (Nat.lt_of_lt_of_le hi hgr.size) hne).trans (hgr.block i hi hne)⟩⟩
        case measure => simp [intOf]; omega
      · obtain rfl : j = n := by omega
        rw [midU8_end k xs j hxl] at hown
        clear hv
        go_wp2
        go_ret
        exact ⟨rfl, hown, hgr⟩
set_option maxHeartbeats 400000 in
theorem heldByteS_any (v : Value) (n : Nat) (k : Int) (w : World) (hv : IntsAt w .u8 v (mkU8 k n)) (hn : n ≤ 4398046511104) (hk : 0 ≤ k) (hk2 : k ≤ 4398046511104) :
    Calls Tryz.prog 40 #[v, .int .i64 k] w fun e w' => e = .returned (.int .i64 (k + (n : Int))) ∧ Ext w w' := by
  obtain ⟨ao, cap, rfl, hcap, hr⟩ := hv
  rw [mkU8_len] at hcap hr ⊢
  by_cases h0 : n = 0
  · subst h0
    clear hr
    go_enter Tryz.func40, Tryz.ntmps40
    go_wp2
    go_loop [1, 5] (fun a i => a = .int .i64 k ∧ i = .int .i64 0) (fun _ _ => 0)
    case atStart => exact ⟨rfl, rfl⟩
    case round =>
      obtain ⟨rfl, rfl⟩ := hrel
      go_wp2
      go_ret
      exact ⟨ret_int (by simp), Ext.refl _⟩
  · obtain ⟨b, off, rfl, hc⟩ := hr (by omega)
    clear hr
    go_enter Tryz.func40, Tryz.ntmps40
    go_wp2
    go_loop [1, 5] (fun a i => ∃ j : Nat, j ≤ n ∧ a = .int .i64 (k + (j : Int)) ∧ i = .int .i64 j) (fun _ i => n - (intOf i).toNat)
    case atStart => exact ⟨0, Nat.zero_le _, by go_num, rfl⟩
    case round =>
      obtain ⟨j, hj, rfl, rfl⟩ := hrel
      by_cases hlt : j < n
      · have hcj := hc j hlt
        rw [mkU8_at k n j hlt] at hcj
        clear hc
        have bj : (j : Int) < (n : Int) := by omega
        go_wp2
        go_round
        case rel => exact ⟨j + 1, by omega, by go_num, by go_num⟩
        case measure => simp [intOf]; omega
      · obtain rfl : j = n := by omega
        clear hc
        go_wp2
        go_ret
        exact ⟨rfl, Ext.refl _⟩
theorem infoU8 : (Tryz.prog.info? 5).map (fun i => (i.zero, i.size, i.bytes)) = some (some (.int .u8 0), 1, 1) := by kernel_rfl
/-- The copy while it is at place j. -/
def cpU8 (zs : List Int) (xs : List Value) (j : Nat) : List Value := ((zs.take j).map (Value.int .u8)) ++ xs.drop j
theorem cpU8_zero (zs : List Int) (xs : List Value) : cpU8 zs xs 0 = xs := by simp [cpU8]
theorem cpU8_step (zs : List Int) (xs : List Value) (j : Nat) (h : j < xs.length) (h2 : j < zs.length) : (cpU8 zs xs j).set j (.int .u8 (at0 zs j)) = cpU8 zs xs (j + 1) := by
  have e : zs.take (j + 1) = zs.take j ++ [at0 zs j] := by rw [List.take_add_one, at0_lt h2]; rfl
  have hl : ((zs.take j).map (Value.int .u8)).length = j := by simp; omega
  unfold cpU8
  rw [e, List.set_append_right _ _ (by omega), hl, Nat.sub_self, List.drop_eq_getElem_cons h, List.set_cons_zero]
  simp
theorem cpU8_end (zs : List Int) (xs : List Value) (n : Nat) (h : xs.length = n) (h2 : zs.length = n) : cpU8 zs xs n = zs.map (Value.int .u8) := by
  unfold cpU8
  rw [List.drop_of_length_le (by omega), List.take_of_length_le (by omega)]
  simp

set_option maxHeartbeats 400000 in
theorem toByteS_any (v : Value) (zs : List Int) (w : World) (hv : IntsAt w .u8 v zs) (hn : zs.length ≤ 4398046511104) :
    Calls Tryz.prog 19 #[v] w fun e w' => e = .returned (.slice (some ⟨w.heap.size, 0, none⟩) zs.length zs.length) ∧
      w'.ownsRow w.heap.size 5 1 (.slice (some ⟨w.heap.size, 0, none⟩) zs.length zs.length) zs.length (zs.map (Value.int .u8)) ∧ Ext w w' := by
  obtain ⟨ao, cap, rfl, hcap, hr⟩ := hv
  obtain ⟨i0, hi, hz0, hz1, hz2⟩ := info_parts infoU8
  obtain ⟨n, hnn⟩ : ∃ n, n = zs.length := ⟨_, rfl⟩
  rw [← hnn] at hcap hr hn ⊢
  have HN : Hid (n = zs.length) := hnn
  clear hnn
  have hR : Hid (0 < n → ∃ b off, ao = some ⟨b, off, none⟩ ∧ ∀ j, j < n → w.cell? ⟨b, off + j, none⟩ = some (.int .u8 (at0 zs j))) := hr
  clear hr
  by_cases h0 : n = 0
  · subst h0
    go_enter Tryz.func19, Tryz.ntmps19
    go_wp2_with (at_make; refine wpList_make_full _ rfl _ _ 22 rfl w.heap.size 5 i0 (.int .u8 0) 1 Tryz.underlying22 hi hz0 hz1 _ _ _ _ 0 rfl rfl (by simp) (by simp) (by simp) (by simp) (Nat.le_refl _) ?_; intro w1 hown hgr)
    go_loop [4] (fun i => i = .int .i64 0) (fun _ => 0)
    case atStart => rfl
    case round =>
      subst hrel
      go_wp2
      go_ret
      have e : zs = [] := List.eq_nil_of_length_eq_zero HN.out.symm
      subst e
      exact ⟨rfl, by simpa [madeCells] using hown, hgr⟩
  · obtain ⟨b, off, rfl, hc⟩ := hR.out (by omega)
    clear hR
    go_enter Tryz.func19, Tryz.ntmps19
    go_wp2_with (at_make; refine wpList_make_full _ rfl _ _ 22 rfl w.heap.size 5 i0 (.int .u8 0) 1 Tryz.underlying22 hi hz0 hz1 _ _ _ _ n rfl rfl rfl rfl (by rw [hz2]; omega) (by unfold maxLen; omega) (Nat.le_refl _) ?_; intro w1 hown hgr)
    obtain ⟨ys, hys⟩ : ∃ ys, ys = (madeCells (Value.int .u8 0).cells (n * 1)).toList := ⟨_, rfl⟩
    rw [← hys] at hown
    have hyl : ys.length = n := by have := hown.1; omega
    clear hys
    have HC : Hid (∀ j, j < n → w.cell? ⟨b, off + j, none⟩ = some (.int .u8 (at0 zs j))) := hc
    clear hc
    go_loopw [4] (fun i wr => ∃ j : Nat, j ≤ n ∧ i = .int .i64 j ∧ wr.ownsRow w.heap.size 5 1 (.slice (some ⟨w.heap.size, 0, none⟩) n n) n (cpU8 zs ys j) ∧ Ext w wr) (fun i _ => n - (intOf i).toNat)
    case atStart => exact ⟨0, Nat.zero_le _, rfl, by rw [cpU8_zero]; exact hown, hgr⟩
    case round =>
      clear hown hgr
      obtain ⟨j, hj, rfl, hown, hgr⟩ := hrel
      by_cases hlt : j < n
      · have hcj := hgr.cell (HC.out j hlt)
        have hfz := hown.frozenAt j
        have hst := hown.stored j (.int .u8 (at0 zs j))
        rw [cpU8_step zs ys j (by omega) (by rw [← HN.out]; omega)] at hst
        obtain ⟨u, hcc⟩ : ∃ u, wr.cell? ⟨w.heap.size, j, none⟩ = some u := by
          rw [hown.cellAt j (by omega)]
          exact ⟨_, List.getElem?_eq_getElem (by have := hown.1; omega)⟩
        have HS : Hid ((wr.setCell ⟨w.heap.size, j, none⟩ (.int .u8 (at0 zs j))).ownsRow w.heap.size 5 1 (.slice (some ⟨w.heap.size, 0, none⟩) n n) n (cpU8 zs ys (j + 1))) := hst.1
        have HG : Hid (wr.grownBy (wr.setCell ⟨w.heap.size, j, none⟩ (.int .u8 (at0 zs j))) (some w.heap.size)) := hst.2
        clear hst hown
        have bj : (j : Int) < (n : Int) := by omega
        go_wp2
        go_roundw
        case rel => exact ⟨j + 1, by omega, by go_num, HS.out, ⟨HG.out.os.trans hgr.os, HG.out.tape.trans hgr.tape, HG.out.output.trans hgr.output, Nat.le_trans hgr.size HG.out.size, fun i hi hne => (HG.out.block i (Nat.lt_of_lt_of_le hi hgr.size) (by simp; omega)).trans (hgr.block i hi hne)⟩⟩
        case measure => simp [intOf]; omega
      · obtain rfl : j = n := by omega
        rw [cpU8_end zs ys j hyl HN.out.symm] at hown
        go_wp2
        go_ret
        exact ⟨rfl, hown, hgr⟩
end Go.Proofs.YteabhioifedgeaaGreatDoor

namespace Go.Proofs.YteabhioifedgeaaGreatDoor
open Go.RowKit

theorem szByteS_any (ao : Option Addr) (n cap : Nat) (l : Int) (w : World) (h0 : 0 ≤ l) (h1 : l ≤ 4398046511104) (hn : (n : Int) ≤ 9223372036854775807) :
    Calls Tryz.prog 78 #[.slice ao n cap, .int .i64 l] w fun e w' => e = .returned (.int .i64 (if l < (n : Int) then -1 else l - (n : Int))) ∧ w' = w := by
  by_cases h : l < (n : Int)
  · rw [if_pos h]
    go_enter Tryz.func78, Tryz.ntmps78
    go_wp2
    go_ret
    exact ⟨rfl, rfl⟩
  · rw [if_neg h]
    go_enter Tryz.func78, Tryz.ntmps78
    go_wp2
    go_ret
    exact ⟨rfl, rfl⟩
/-- What a measure answers: -1, or what is left. -/
def SzR (l : Int) (n : Nat) (r : Int) : Prop := (r = -1 ∧ l < (n : Int)) ∨ (r = l - (n : Int) ∧ 0 ≤ r)
end Go.Proofs.YteabhioifedgeaaGreatDoor

namespace Go.Proofs.YteabhioifedgeaaGreatDoor
open Go.ChangeShapes Go.WideShapes Go.ChangeAt Go.RowKit

/-- One closed fact: each parameter's type can be read and is a row of the table. -/
def rowed (P : Program) (ts : List TypeId) : Bool := ts.all fun t => P.readableRec t && decide (t < P.types.size)

theorem trodAll_below {H : Type} {enc : TypeId × Value → H} {P : Program} (hl : laidOutB P = true) {W W' : World} (hb : Below W.heap.size W W') :
    ∀ {ts : List TypeId} {vs : List Value} {ds : List (DataW H)} {ps : List MemPlace}, rowed P ts = true → DataW.TrodAll enc P W 0 (fun _ => true) true ts vs ds ps → DataW.TrodAll enc P W' 0 (fun b => decide (b < W.heap.size)) true ts vs ds ps
  | [], [], [], _, _, h => h
  | [], _ :: _, _, _, _, h => h.elim
  | [], [], _ :: _, _, _, h => h.elim
  | _ :: _, [], _, _, _, h => h.elim
  | _ :: _, _ :: _, [], _, _, h => h.elim
  | t :: ts, v :: vs, d :: ds, ps, hr, h => by
    have hlt := h.lt
    obtain ⟨p, q, h1, h2, e⟩ := h
    simp only [rowed, List.all_cons, Bool.and_eq_true, decide_eq_true_eq] at hr
    exact ⟨p, q, Below.trod hl hr.1.1 hr.1.2 h1 hb (fun x hx => hlt x (by rw [e]; simp [hx])), trodAll_below hl hb (by simpa [rowed] using hr.2) h2, e⟩

/-- THE END OF A LAW: it returned true, below the old heap nothing has turned. -/
theorem post_law {H : Type} {enc : TypeId × Value → H} {P : Program} {f : Func} {s : ChangeSpec} {apart fresh handsOn : Bool} {bt : TypeId} {W W' : World} {args : Array Value} {ds gs : List (DataW H)} {before : List MemPlace}
    (hl : laidOutB P = true) (hr : rowed P f.params.toList = true) (hv : varsRowed P s.vars = true) (hres : f.resultTypes = #[bt]) (hbt : P.underlying bt = some .bool)
    (hW : DataW.Whole enc P f.params.toList s.vars apart W args.toList ds gs before)
    (hs : s.fn H (ds ++ gs) = { results := [.lit (.bool true)], args := ds, vars := gs }) (hb : Below W.heap.size W W') :
    s.post enc P f apart fresh handsOn false W args (.bool true) W' := by
  have hW' := hW
  obtain ⟨p, q, hA, hV, rfl, hfz, hnd⟩ := hW
  refine ⟨ds, gs, p ++ q, [], p, q, hW', ?_, ?_, ?_, hb.frame _, fun h => by cases h⟩
  · rw [hs, hres]
    exact trodAll_mk1 (shut_bool hbt true)
  · rw [hs]; exact trodAll_below hl hb hr hA
  · rw [hs]; exact Below.trodVars hl hb hv hV

/-- A slice of numbers that came in, opened. -/
theorem ints_came {H : Type} {enc : TypeId × Value → H} {P : Program} {W : World} {r : Reach} {base : Nat} {t e : TypeId} {k : IntKind} {v : Value} {d : DataW H} {p : List MemPlace} (ht : P.underlying t = some (.slice e)) (he : P.underlying e = some (.int k)) (hc : P.cellsOf e = 1)
    (hv : Value.okWide P W r base t v) (h : DataW.Trod enc P W 0 (fun _ => true) true t v d p) : ∃ zs, IntsAt W k v zs ∧ (∀ n ∈ zs, (Lit.int k n).wf = true) ∧ ∃ ao cap, v = .slice ao zs.length cap := by
  obtain ⟨a0, len, cap, rfl⟩ := okWide_slice ht hv
  obtain ⟨fuel, hf⟩ := h
  rcases open_ints ht he hc hf with ⟨hcs, _⟩ | ⟨a, len', cap', zs, hcs, _, hl, hm, hz, hx, hcell, hwz⟩
  · simp [Value.cells] at hcs
    obtain ⟨rfl, rfl, rfl⟩ := hcs
    exact ⟨[], ⟨none, 0, rfl, Nat.le_refl _, fun h => by simp at h⟩, fun n hn => by simp at hn, none, 0, rfl⟩
  · simp [Value.cells] at hcs
    obtain ⟨rfl, rfl, rfl⟩ := hcs
    simp at hz
    have hlen : (zs.take len).length = len := by simp; omega
    refine ⟨zs.take len, ⟨some a, cap, by rw [hlen], by omega, fun hp => ?_⟩, fun n hn => hwz n (List.mem_of_mem_take hn), some a, cap, by rw [hlen]⟩
    obtain ⟨b, off, rfl, hc2⟩ := ints_at hcell (by omega)
    refine ⟨b, off, rfl, fun j hj => ?_⟩
    rw [hlen] at hj
    rw [hc2 j (by omega)]
    simp [at0, hj, List.getD]
end Go.Proofs.YteabhioifedgeaaGreatDoor

namespace Go.Proofs.YteabhioifedgeaaGreatDoor
open Go.ChangeShapes Go.WideShapes Go.ChangeAt Go.RowKit Go.Deep

theorem addr_plain {W : World} {a : Addr} {v : Value} (h : W.cell? (a.add 0) = some v) : a = ⟨a.block, a.off, none⟩ := by
  obtain ⟨b, off, spot⟩ := a
  have hspot : spot = none := by simpa [Addr.add] using World.cell?_spot h
  subst hspot
  rfl
theorem bytes_trod {H : Type} {enc : TypeId × Value → H} {P : Program} {W : World} {t e : TypeId} {k : IntKind} {fuel : Nat} {v : Value} {x : DataW H × List MemPlace} (ht : P.underlying t = some (.slice e)) (he : P.underlying e = some (.int k)) (hc : P.cellsOf e = 1)
    (h : DataW.trod enc P W 0 (fun _ => true) true fuel t [v] = some x) : ∃ zs, IntsAt W k v zs ∧ (∀ n ∈ zs, (Lit.int k n).wf = true) ∧ zs.length ≤ maxLen := by
  rcases open_ints ht he hc h with ⟨hcs, _⟩ | ⟨a, len', cap', zs, hcs, _, hl, hm, hz, hx, hcell, hwz⟩
  · simp at hcs
    subst hcs
    exact ⟨[], ⟨none, 0, rfl, Nat.le_refl _, fun h => by simp at h⟩, fun n hn => by simp at hn, by simp⟩
  · simp at hcs
    subst hcs
    simp at hz
    have hlen : (zs.take len').length = len' := by simp; omega
    refine ⟨zs.take len', ⟨some a, cap', by rw [hlen], by omega, fun hp => ?_⟩, fun n hn => hwz n (List.mem_of_mem_take hn), by omega⟩
    obtain ⟨b, off, rfl, hc2⟩ := ints_at hcell (by omega)
    refine ⟨b, off, rfl, fun j hj => ?_⟩
    rw [hlen] at hj
    rw [hc2 j (by omega)]
    simp [at0, hj, List.getD]
theorem strs_trod {H : Type} {enc : TypeId × Value → H} {P : Program} {W : World} {t e : TypeId} {fuel : Nat} {v : Value} {x : DataW H × List MemPlace} (ht : P.underlying t = some (.slice e)) (he : P.underlying e = some .string) (hc : P.cellsOf e = 1)
    (h : DataW.trod enc P W 0 (fun _ => true) true fuel t [v] = some x) : ∃ (n : Nat) (tx : Nat → ByteArray), Row1At W v n (fun j => .string (tx j)) ∧ n ≤ maxLen ∧ ∀ j, j < n → (tx j).size ≤ maxLen := by
  rcases open_strs ht he hc h with ⟨hcs, _⟩ | ⟨a, len, cap, m, Sx, hcs, _, hl, hm, hmm, _, hx⟩
  · simp at hcs
    subst hcs
    exact ⟨0, fun _ => { data := #[] }, ⟨none, 0, rfl, Nat.le_refl _, fun h => by omega⟩, by simp, fun j hj => by omega⟩
  · simp at hcs
    subst hcs
    simp at hmm
    refine ⟨len, Sx, ⟨some a, cap, rfl, hl, fun hp => ?_⟩, by omega, fun j hj => (hx j (by omega)).2⟩
    have ha := addr_plain (by simpa using (hx 0 (by omega)).1)
    refine ⟨a.block, a.off, by rw [← ha], fun j hj => ?_⟩
    have c0 := (hx j (by omega)).1
    rw [ha, Addr.add_lit] at c0
    exact c0
end Go.Proofs.YteabhioifedgeaaGreatDoor

namespace Go.Proofs.YteabhioifedgeaaGreatDoor
open Go.RowKit

/-- A string's bytes as numbers. -/
def baL (s : ByteArray) : List Int := s.data.toList.map fun b => ((b.toNat : Nat) : Int)
theorem toBA_baL (s : ByteArray) : toBA (baL s) = s := by
  apply WideShapes.bytes_inj
  rw [toBA_list, baL, List.map_map]
  conv => rhs; rw [← List.map_id s.data.toList]
  apply List.map_congr_left
  intro b _
  simp
theorem baL_len (s : ByteArray) : (baL s).length = s.size := by simp [baL]
theorem baL_bytes (s : ByteArray) : Bytes (baL s) := by
  intro n hn
  obtain ⟨b, _, rfl⟩ := List.mem_map.1 hn
  have := b.toNat_lt
  omega
theorem Bytes.app {xs ys : List Int} (hx : Bytes xs) (hy : Bytes ys) : Bytes (xs ++ ys) := by
  intro n hn
  rcases List.mem_append.1 hn with h | h
  · exact hx n h
  · exact hy n h
theorem baL_toBA {xs : List Int} (h : Bytes xs) : baL (toBA xs) = xs := toBA_inj (baL_bytes _) h (toBA_baL _)
end Go.Proofs.YteabhioifedgeaaGreatDoor

namespace Go.Proofs.YteabhioifedgeaaGreatDoor
open Go.RowKit

/-- The rows of a block with CR LF between them. -/
def rowsL (tx : Nat → ByteArray) : Nat → List Int
  | 0 => []
  | i + 1 => rowsL tx i ++ ((if i = 0 then [] else [13, 10]) ++ baL (tx i))
/-- The bytes of the first rows together. -/
def slen (tx : Nat → ByteArray) : Nat → Nat
  | 0 => 0
  | i + 1 => slen tx i + (tx i).size
theorem rowsL_bytes (tx : Nat → ByteArray) : ∀ n, Bytes (rowsL tx n)
  | 0 => by intro x hx; simp [rowsL] at hx
  | n + 1 => by
    refine (rowsL_bytes tx n).app (Bytes.app ?_ (baL_bytes _))
    intro x hx
    split at hx
    · simp at hx
    · simp at hx; omega
theorem rowsL_len (tx : Nat → ByteArray) : ∀ n, (rowsL tx n).length ≤ slen tx n + 2 * n
  | 0 => by simp [rowsL]
  | n + 1 => by
    have := rowsL_len tx n
    have h2 : (if n = 0 then ([] : List Int) else [13, 10]).length ≤ 2 := by split <;> simp
    simp only [rowsL, slen, List.length_append, baL_len]
    omega
theorem slen_le (tx : Nat → ByteArray) (n : Nat) : ∀ k, k ≤ n → slen tx k ≤ slen tx n := by
  have aux : ∀ m k, slen tx k ≤ slen tx (k + m) := by
    intro m
    induction m with
    | zero => intro k; exact Nat.le_refl _
    | succ m ih => intro k; have := ih k; rw [← Nat.add_assoc, slen]; omega
  intro k hk
  have := aux (n - k) k
  rwa [show k + (n - k) = n by omega] at this
theorem inter_snoc {α : Type} (sep : List α) : ∀ (xs : List (List α)) (y : List α), sep.intercalate (xs ++ [y]) = if xs = [] then y else sep.intercalate xs ++ sep ++ y
  | [], y => by simp [List.intercalate]
  | [x], y => by simp [List.intercalate]
  | x :: x' :: xs, y => by
    have ih := inter_snoc sep (x' :: xs) y
    simp only [List.intercalate] at ih ⊢
    simp only [List.cons_append, List.intersperse, List.flatten_cons] at ih ⊢
    simp at ih ⊢
    rw [ih]
theorem join_rows (tx : Nat → ByteArray) : ∀ n : Nat, (Lib.join (((List.range n).map tx).map (fun x => x.data.toList)) [13, 10]).map (fun b => ((b.toNat : Nat) : Int)) = rowsL tx n
  | 0 => by simp [Lib.join, rowsL, List.intercalate]
  | n + 1 => by
    have ih := join_rows tx n
    unfold Lib.join at ih ⊢
    rw [List.range_succ, List.map_append, List.map_append, List.map_cons, List.map_nil, List.map_cons, List.map_nil, inter_snoc]
    by_cases h : n = 0
    · subst h
      simp [rowsL, baL]
    · rw [if_neg (by simp [h]), List.map_append, List.map_append, ih, rowsL, if_neg h, List.append_assoc]
      rfl
theorem dec_dg : ∀ u : Nat, 0 < u → (Lib.decDigits u).map (fun b => ((b.toNat : Nat) : Int)) = dg u := by
  intro u
  induction u using Nat.strongRecOn with
  | _ u ih =>
    intro h
    rw [dg_step u h, Lib.decDigits]
    by_cases h1 : u < 10
    · rw [dif_pos h1, show u / 10 = 0 by omega]
      simp [dg, dgs, Nat.mod_eq_of_lt h1]
      omega
    · rw [dif_neg h1, List.map_append, ih (u / 10) (by omega) (by omega)]
      simp
      omega
theorem itoa_dg (n : Int) (h : 0 < n) : (Lib.itoa n).map (fun b => ((b.toNat : Nat) : Int)) = dg n.toNat := by
  rw [Lib.itoa, if_neg (by omega)]
  exact dec_dg _ (by omega)
theorem dg_bytes : ∀ u : Nat, Bytes (dg u) := by
  intro u
  induction u using Nat.strongRecOn with
  | _ u ih =>
    by_cases h : u = 0
    · subst h; intro x hx; simp [dg, dgs] at hx
    · rw [dg_step u (by omega)]
      refine (ih (u / 10) (by omega)).app ?_
      intro x hx
      simp at hx
      omega
theorem dg_short : ∀ (k u : Nat), u < 10 ^ k → (dg u).length ≤ k := by
  intro k
  induction k with
  | zero => intro u h; simp at h; subst h; simp [dg, dgs]
  | succ k ih =>
    intro u h
    by_cases h0 : u = 0
    · subst h0; simp [dg, dgs]
    · rw [dg_step u (by omega)]
      have := ih (u / 10) (by rw [Nat.pow_succ] at h; omega)
      simp; omega
/-- A sequence with a number; nothing where it is not above 0. -/
def goL (n c : Int) : List Int := if n ≤ 0 then [] else 27 :: 91 :: (dg n.toNat ++ [c])
theorem goL_bytes (n c : Int) (h0 : 0 ≤ c) (h1 : c ≤ 255) : Bytes (goL n c) := by
  unfold goL
  split
  · intro x hx; simp at hx
  · intro x hx
    simp at hx
    rcases hx with rfl | rfl | hx | rfl
    · omega
    · omega
    · exact dg_bytes _ x hx
    · omega
theorem goL_len (n c : Int) (h : n ≤ 99999999) : (goL n c).length ≤ 11 := by
  unfold goL
  split
  · simp
  · have := dg_short 8 n.toNat (by omega)
    simp; omega
/-- Whether a block may be drawn. -/
def bOk (n : Nat) (row col : Int) : Prop := 0 ≤ row ∧ row < (n : Int) ∧ 0 ≤ col ∧ col < 200
abbrev bOkD (n : Nat) (row col : Int) : Decidable (bOk n row col) := inferInstanceAs (Decidable (0 ≤ row ∧ row < (n : Int) ∧ 0 ≤ col ∧ col < 200))
theorem bOk_t {n : Nat} {row col : Int} (h : bOk n row col) : @decide (bOk n row col) (bOkD n row col) = true := @decide_eq_true _ (bOkD n row col) h
theorem bOk_f {n : Nat} {row col : Int} (h : ¬ bOk n row col) : @decide (bOk n row col) (bOkD n row col) = false := @decide_eq_false _ (bOkD n row col) h
def paintL (n : Nat) (tx : Nat → ByteArray) (row col : Int) : List Int := @ite _ (bOk n row col) (bOkD n row col) (rowsL tx n ++ (goL ((n : Int) - 1 - row) 65 ++ goL (col + 1) 71)) []
def eraseL (n : Nat) (row col : Int) : List Int := @ite _ (bOk n row col) (bOkD n row col) (13 :: (goL row 65 ++ [27, 91, 74])) []
theorem paintL_len (n : Nat) (tx : Nat → ByteArray) (row col : Int) (hn : n ≤ 1048576) : (paintL n tx row col).length ≤ slen tx n + 2 * n + 22 := by
  unfold paintL
  split
  · rename_i h
    unfold bOk at h
    have h1 := rowsL_len tx n
    have h2 := goL_len ((n : Int) - 1 - row) 65 (by omega)
    have h3 := goL_len (col + 1) 71 (by omega)
    simp only [List.length_append]; omega
  · simp
theorem eraseL_len (n : Nat) (row col : Int) (hn : n ≤ 1048576) : (eraseL n row col).length ≤ 15 := by
  unfold eraseL
  split
  · rename_i h
    unfold bOk at h
    have h2 := goL_len row 65 (by omega)
    simp only [List.length_append, List.length_cons, List.length_nil]; omega
  · simp
theorem paintL_bytes (n : Nat) (tx : Nat → ByteArray) (row col : Int) : Bytes (paintL n tx row col) := by
  unfold paintL
  split
  · exact (rowsL_bytes tx n).app ((goL_bytes _ _ (by omega) (by omega)).app (goL_bytes _ _ (by omega) (by omega)))
  · intro x hx; simp at hx
theorem eraseL_bytes (n : Nat) (row col : Int) : Bytes (eraseL n row col) := by
  unfold eraseL
  split
  · refine Bytes.app (xs := [13]) (fun x hx => ?_) ((goL_bytes _ _ (by omega) (by omega)).app (fun x hx => ?_))
    · simp at hx; omega
    · simp at hx; omega
  · intro x hx; simp at hx
end Go.Proofs.YteabhioifedgeaaGreatDoor
