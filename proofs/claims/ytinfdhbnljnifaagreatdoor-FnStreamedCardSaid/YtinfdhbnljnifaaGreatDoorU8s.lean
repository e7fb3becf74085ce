import Derived.Test.YtinfdhbnljnifaaGreatDoorRsz
import Derived.Test.YtinfdhbnljnifaaGreatDoorProg
import Derived.Deep.RegionHeld3
namespace Go.Proofs.YtinfdhbnljnifaaGreatDoor
open Go.RowKit
theorem l1Valid_any (r : Int) (w : World) : Calls Tryz.prog 96 #[.int .i64 r] w fun e w' => e = .returned (.bool (Utf8.valid r)) ∧ w' = w := by
  go_enter Tryz.func96, Tryz.ntmps96
  go_wp2
  all_goals
    go_ret
    refine ⟨ret_bool ?_, rfl⟩
    rw [Bool.eq_iff_iff]
    simp [Utf8.valid]
    omega
theorem l1Need_any (c : Int) (w : World) : Calls Tryz.prog 94 #[.int .u8 c] w fun e w' => e = .returned (.int .i64 (need c)) ∧ w' = w := by
  go_enter Tryz.func94, Tryz.ntmps94
  go_wp2
  all_goals
    go_ret
    refine ⟨ret_int ?_, rfl⟩
    unfold need
    repeat' split
    all_goals first | rfl | omega
theorem new_ints {w : World} (k : IntKind) (zs : List Int) (t n : Nat) (hn : n = zs.length) : IntsAt (w.alloc (.cells (zs.map (Value.int k)).toArray t)) k (.slice (some ⟨w.heap.size, 0, none⟩) n n) zs := by
  subst hn
  refine ⟨_, _, rfl, Nat.le_refl _, fun _ => ⟨_, 0, rfl, fun j hj => ?_⟩⟩
  rw [World.cell?_alloc_at _ _ _ _ rfl]
  simp [at0, hj]
theorem ret_str {a b : ByteArray} (h : a = b) : Ending.returned (.string a) = .returned (.string b) := by rw [h]
set_option maxHeartbeats 400000 in
theorem l1Utf8_any (r : Int) (w : World) (h0 : 0 ≤ r) (h1 : r ≤ 1114111) : Calls Tryz.prog 97 #[.int .i64 r] w fun e w' => e = .returned (.string (toBA (encL r))) ∧ Ext w w' := by
  have cv : ∀ zs : List Int, (convert 22 9 (.slice (some ⟨w.heap.size, 0, none⟩) zs.length zs.length)).run Tryz.prog (w.alloc (.cells (zs.map (Value.int .u8)).toArray 5)) = .ok (.string (toBA zs)) (w.alloc (.cells (zs.map (Value.int .u8)).toArray 5)) :=
    fun zs => run_b2s _ _ _ _ Tryz.underlying22 Tryz.underlying5 Tryz.underlying9 _ _ (new_ints _ _ _ _ rfl)
  have c1 := fun a : Int => cv [a]
  have c2 := fun a b : Int => cv [a, b]
  have c3 := fun a b c : Int => cv [a, b, c]
  have c4 := fun a b c d : Int => cv [a, b, c, d]
  clear cv
  simp only [List.length_cons, List.length_nil, List.map_cons, List.map_nil, Nat.zero_add, Nat.reduceAdd] at c1 c2 c3 c4
  go_enter Tryz.func97, Tryz.ntmps97
  go_wp2
  all_goals
    go_ret
    refine ⟨ret_str (congrArg toBA ?_), by repeat (first | exact Ext.refl _ | apply Ext.alloc)⟩
    unfold encL
    first | (rw [if_pos (by omega)]) | (rw [if_neg (by omega), if_pos (by omega)]) | (rw [if_neg (by omega), if_neg (by omega), if_pos (by omega)]) | (rw [if_neg (by omega), if_neg (by omega), if_neg (by omega)])
set_option maxHeartbeats 1000000 in
theorem l1Value_any (bs : List Int) (hb : Bytes bs) (v : Value) (i n : Nat) (w : World) (hv : IntsAt w .u8 v bs) (hi : i + n ≤ bs.length) (h1 : 1 ≤ n) (h4 : n ≤ 4) (hl : bs.length ≤ 4398046511104) :
    Calls Tryz.prog 95 #[v, .int .i64 i, .int .i64 n] w fun e w' => e = .returned (.int .i64 (valL (bs.drop i) n)) ∧ Ext w w' := by
  obtain ⟨ao, cap, rfl, hcap, hr⟩ := hv
  obtain ⟨b, off, rfl, hc⟩ := hr (by omega)
  clear hr
  have g0 := hc i (by omega)
  have hbs := lt_of_cell g0
  have b0 := hb.at0 i
  have q0 : at0 (bs.drop i) 0 = at0 bs i := by rw [at0_drop]; rfl
  have q1 := at0_drop bs i 1
  have q2 := at0_drop bs i 2
  have q3 := at0_drop bs i 3
  have hlen : (bs.drop i).length = bs.length - i := by simp
  have hbi : (i : Int) < (bs.length : Int) := by omega
  rcases (show n = 1 ∨ n = 2 ∨ n = 3 ∨ n = 4 by omega) with rfl | rfl | rfl | rfl
  · have hf : Hid (valL (bs.drop i) 1 = at0 bs i) := by show valL _ _ = _; rw [valL, if_pos rfl, q0]
    clear hc q0 q1 q2 q3 hlen
    go_enter Tryz.func95, Tryz.ntmps95
    go_wp2
    refine wp_loop_rounds 1 ?_
    rw [rounds_succ]
    go_wp2
    go_ret
    exact ⟨ret_int hf.out.symm, Ext.refl _⟩
  · have g1 := hc (i + 1) (by omega)
    have b1 := hb.at0 (i + 1)
    have hbi1 : (i : Int) + 1 < (bs.length : Int) := by omega
    clear hc
    have hf : Hid (valL (bs.drop i) 2 = if (128 ≤ at0 bs (i + 1) ∧ at0 bs (i + 1) ≤ 191) then at0 bs i % 32 * 64 + at0 bs (i + 1) - 128 else -1) := by
      show valL _ _ = _
      rw [valL, if_neg (by decide), if_pos rfl]
      simp only [cont, v2, q0, q1, hlen, Bool.and_eq_true, decide_eq_true_eq]
      repeat' split
      all_goals first | rfl | omega
    clear q0 q1 q2 q3 hlen
    go_enter Tryz.func95, Tryz.ntmps95
    go_wp2
    go_rounds 2
    all_goals
      go_ret
      refine ⟨ret_int ?_, by repeat (first | exact Ext.refl _ | apply Ext.alloc)⟩
      rw [hf.out]
      first | (rw [if_pos (by omega)]) | (rw [if_neg (by omega)])
  · have g1 := hc (i + 1) (by omega)
    have b1 := hb.at0 (i + 1)
    have hbi1 : (i : Int) + 1 < (bs.length : Int) := by omega
    have g2 := hc (i + 2) (by omega)
    have b2 := hb.at0 (i + 2)
    have hbi2 : (i : Int) + 2 < (bs.length : Int) := by omega
    clear hc
    have hf : Hid (valL (bs.drop i) 3 = if (128 ≤ at0 bs (i + 1) ∧ at0 bs (i + 1) ≤ 191) ∧ (128 ≤ at0 bs (i + 2) ∧ at0 bs (i + 2) ≤ 191) then (at0 bs i % 16 * 64 + at0 bs (i + 1) - 128) * 64 + at0 bs (i + 2) - 128 else -1) := by
      show valL _ _ = _
      rw [valL, if_neg (by decide), if_neg (by decide), if_pos rfl]
      simp only [cont, v3, q0, q1, q2, hlen, Bool.and_eq_true, decide_eq_true_eq]
      repeat' split
      all_goals first | rfl | omega
    clear q0 q1 q2 q3 hlen
    go_enter Tryz.func95, Tryz.ntmps95
    go_wp2
    go_rounds 3
    all_goals
      go_ret
      refine ⟨ret_int ?_, by repeat (first | exact Ext.refl _ | apply Ext.alloc)⟩
      rw [hf.out]
      first | (rw [if_pos (by omega)]) | (rw [if_neg (by omega)])
  · have g1 := hc (i + 1) (by omega)
    have b1 := hb.at0 (i + 1)
    have hbi1 : (i : Int) + 1 < (bs.length : Int) := by omega
    have g2 := hc (i + 2) (by omega)
    have b2 := hb.at0 (i + 2)
    have hbi2 : (i : Int) + 2 < (bs.length : Int) := by omega
    have g3 := hc (i + 3) (by omega)
    have b3 := hb.at0 (i + 3)
    have hbi3 : (i : Int) + 3 < (bs.length : Int) := by omega
    clear hc
    have hf : Hid (valL (bs.drop i) 4 = if (128 ≤ at0 bs (i + 1) ∧ at0 bs (i + 1) ≤ 191) ∧ (128 ≤ at0 bs (i + 2) ∧ at0 bs (i + 2) ≤ 191) ∧ (128 ≤ at0 bs (i + 3) ∧ at0 bs (i + 3) ≤ 191) then ((at0 bs i % 8 * 64 + at0 bs (i + 1) - 128) * 64 + at0 bs (i + 2) - 128) * 64 + at0 bs (i + 3) - 128 else -1) := by
      show valL _ _ = _
      rw [valL, if_neg (by decide), if_neg (by decide), if_neg (by decide)]
      simp only [cont, v4, q0, q1, q2, q3, hlen, Bool.and_eq_true, decide_eq_true_eq]
      repeat' split
      all_goals first | rfl | omega
    clear q0 q1 q2 q3 hlen
    go_enter Tryz.func95, Tryz.ntmps95
    go_wp2
    go_rounds 4
    all_goals
      go_ret
      refine ⟨ret_int ?_, by repeat (first | exact Ext.refl _ | apply Ext.alloc)⟩
      rw [hf.out]
      first | (rw [if_pos (by omega)]) | (rw [if_neg (by omega)])
end Go.Proofs.YtinfdhbnljnifaaGreatDoor

namespace Go.Proofs.YtinfdhbnljnifaaGreatDoor
open Go.RowKit
def rV (rs : List Value) (j : Nat) : Value := rs[j]?.getD (.slice none 0 0)
def cR (cs : List (List Int × Int)) (j : Nat) : List Int := (cs[j]?.getD ([], 0)).1
def cW (cs : List (List Int × Int)) (j : Nat) : Int := (cs[j]?.getD ([], 0)).2
def ClsAt (w : World) (v : Value) (cs : List (List Int × Int)) : Prop :=
  ∃ (rs : List Value) (ao : Option Addr) (cap : Nat), v = .slice ao cs.length cap ∧ cs.length ≤ cap ∧ (∀ j, j < cs.length → IntsAt w .i32 (rV rs j) (cR cs j)) ∧
    (0 < cs.length → ∃ b off, ao = some ⟨b, off, none⟩ ∧ ∀ j, j < cs.length → w.cell? ⟨b, off + j * 2, none⟩ = some (rV rs j) ∧ w.cell? ⟨b, off + j * 2 + 1, none⟩ = some (.int .i64 (cW cs j)))
theorem ClsAt.ext {w w' : World} {v : Value} {cs : List (List Int × Int)} (h : ClsAt w v cs) (he : Ext w w') : ClsAt w' v cs := by
  obtain ⟨rs, ao, cap, e, hc, hr, hx⟩ := h
  exact ⟨rs, ao, cap, e, hc, fun j hj => (hr j hj).ext he, fun hp => by
    obtain ⟨b, off, e2, hcell⟩ := hx hp
    exact ⟨b, off, e2, fun j hj => ⟨he.cell (hcell j hj).1, he.cell (hcell j hj).2⟩⟩⟩
theorem rV_push (rs : List Value) (r : Value) (i : Nat) (h : i < rs.length) : rV (rs ++ [r]) i = rV rs i := by
  unfold rV; rw [List.getElem?_append_left h]
theorem rV_last (rs : List Value) (r : Value) : rV (rs ++ [r]) rs.length = r := by simp [rV]
def OwnCls (w : World) (base : Nat) (v : Value) (rs : List Value) (cs : List (List Int × Int)) : Prop :=
  rs.length = cs.length ∧ (∃ ys, w.ownsRow base 205 2 v cs.length ys ∧ ∀ j, j < cs.length → ys[j * 2]? = some (rV rs j) ∧ ys[j * 2 + 1]? = some (.int .i64 (cW cs j))) ∧
  (∀ j, j < cs.length → w.ownsRow base 21 1 (rV rs j) (cR cs j).length ((cR cs j).map (Value.int .i32))) ∧
  (∀ i j g, i < j → j < cs.length → (rV rs i).ownBlock = some g → (rV rs j).ownBlock ≠ some g)
theorem OwnCls.ext {w w' : World} {base : Nat} {v : Value} {rs : List Value} {cs : List (List Int × Int)} (h : OwnCls w base v rs cs) (he : Ext w w') : OwnCls w' base v rs cs := by
  obtain ⟨h0, ⟨ys, h1, h2⟩, h3, h4⟩ := h
  exact ⟨h0, ⟨ys, he.owns h1, h2⟩, fun j hj => he.owns (h3 j hj), h4⟩
end Go.Proofs.YtinfdhbnljnifaaGreatDoor

namespace Go.Proofs.YtinfdhbnljnifaaGreatDoor
open Go.RowKit
theorem infoU8 : (Tryz.prog.info? 5).map (fun i => (i.zero, i.size, i.bytes)) = some (some (.int .u8 0), 1, 1) := by kernel_rfl
end Go.Proofs.YtinfdhbnljnifaaGreatDoor
