import Derived.Test.YtinfdhbnljnifaaGreatDoorSnapMark
import Derived.Test.YtinfdhbnljnifaaGreatDoorFsP
import Derived.Test.YtinfdhbnljnifaaGreatDoorRowO
import Derived.Test.YtinfdhbnljnifaaGreatDoorSpecClean
import Derived.Test.YtinfdhbnljnifaaGreatDoorRkM
import Derived.Test.YtinfdhbnljnifaaGreatDoorTextOf
import Derived.Test.YtinfdhbnljnifaaGreatDoorRwImpl
import Derived.Lib.OthersKept
import Derived.Test.YtinfdhbnljnifaaGreatDoorFtS
import Derived.Test.YtinfdhbnljnifaaGreatDoorApp
namespace Go.Proofs.YtinfdhbnljnifaaGreatDoor
open Go.RowKit
def KysAt (w : World) (v : Value) (cs : List (List Int × Int)) : Prop :=
  ∃ (rs : List Value) (ao : Option Addr) (cap : Nat), v = .slice ao cs.length cap ∧ cs.length ≤ cap ∧ (∀ j, j < cs.length → IntsAt w .i32 (rV rs j) (cR cs j)) ∧
    (0 < cs.length → ∃ b off, ao = some ⟨b, off, none⟩ ∧ ∀ j, j < cs.length → w.cell? ⟨b, off + j * 2 + 1, none⟩ = some (rV rs j) ∧ w.cell? ⟨b, off + j * 2, none⟩ = some (.int .i64 (cW cs j)))
theorem KysAt.ext {w w' : World} {v : Value} {cs : List (List Int × Int)} (h : KysAt w v cs) (he : Ext w w') : KysAt w' v cs := by
  obtain ⟨rs, ao, cap, e, hc, hr, hx⟩ := h
  exact ⟨rs, ao, cap, e, hc, fun j hj => (hr j hj).ext he, fun hp => by
    obtain ⟨b, off, e2, hcell⟩ := hx hp
    exact ⟨b, off, e2, fun j hj => ⟨he.cell (hcell j hj).1, he.cell (hcell j hj).2⟩⟩⟩
def OwnKys (w : World) (base : Nat) (v : Value) (rs : List Value) (cs : List (List Int × Int)) : Prop :=
  rs.length = cs.length ∧ (∃ ys, w.ownsRow base 95 2 v cs.length ys ∧ ∀ j, j < cs.length → ys[j * 2 + 1]? = some (rV rs j) ∧ ys[j * 2]? = some (.int .i64 (cW cs j))) ∧
  (∀ j, j < cs.length → w.ownsRow base 21 1 (rV rs j) (cR cs j).length ((cR cs j).map (Value.int .i32))) ∧
  (∀ i j g, i < j → j < cs.length → (rV rs i).ownBlock = some g → (rV rs j).ownBlock ≠ some g)
theorem OwnKys.ext {w w' : World} {base : Nat} {v : Value} {rs : List Value} {cs : List (List Int × Int)} (h : OwnKys w base v rs cs) (he : Ext w w') : OwnKys w' base v rs cs := by
  obtain ⟨h0, ⟨ys, h1, h2⟩, h3, h4⟩ := h
  exact ⟨h0, ⟨ys, he.owns h1, h2⟩, fun j hj => he.owns (h3 j hj), h4⟩
theorem OwnKys.push {W W' : World} {base : Nat} {v v' r : Value} {rs : List Value} {cs : List (List Int × Int)} {xs : List Int} {d : Int} {ys : List Value}
    (h : OwnKys W base v rs cs) (hy : W.ownsRow base 95 2 v cs.length ys) (hyy : ∀ j, j < cs.length → ys[j * 2 + 1]? = some (rV rs j) ∧ ys[j * 2]? = some (.int .i64 (cW cs j)))
    (hr : W.ownsRow base 21 1 r xs.length (xs.map (Value.int .i32))) (hfr : ∀ j g, j < cs.length → (rV rs j).ownBlock = some g → r.ownBlock ≠ some g)
    (ho : W'.ownsRow base 95 2 v' (cs.length + 1) (ys ++ [.int .i64 d, r])) (hg : W.grownBy W' v.ownBlock) : OwnKys W' base v' (rs ++ [r]) (cs ++ [(xs, d)]) := by
  obtain ⟨h0, _, h3, h4⟩ := h
  have hyl := hy.1
  have keep : ∀ (u : Value) (m : Nat) (zs : List Value), W.ownsRow base 21 1 u m zs → W'.ownsRow base 21 1 u m zs := fun u m zs hu =>
    owns_same hu (fun g hgu => hg.block g (hu.lt g hgu).2 (fun e => owns_apart hu hy (by decide) hgu e.symm))
  refine ⟨by simp [h0], ⟨_, by simpa using ho, fun j hj => ?_⟩, fun j hj => ?_, fun i j g hij hj hk => ?_⟩
  · simp at hj
    by_cases e : j = cs.length
    · subst e
      rw [← h0, rV_last, h0, cW_push, if_pos rfl]
      constructor
      · rw [List.getElem?_append_right (by omega)]; simp [hyl]
      · rw [List.getElem?_append_right (by omega)]; simp [hyl]
    · rw [rV_push rs r j (by omega), cW_push, if_neg e, List.getElem?_append_left (by omega), List.getElem?_append_left (by omega)]
      exact hyy j (by omega)
  · simp at hj
    rw [cR_push]
    by_cases e : j = cs.length
    · subst e
      rw [← h0, rV_last, h0, if_pos rfl]
      exact keep _ _ _ hr
    · rw [rV_push rs r j (by omega), if_neg e]
      exact keep _ _ _ (h3 j (by omega))
  · simp at hj
    rw [rV_push rs r i (by omega)] at hk
    by_cases e : j = cs.length
    · subst e
      rw [← h0, rV_last]
      exact hfr i g (by omega) hk
    · rw [rV_push rs r j (by omega)]
      exact h4 i j g hij (by omega) hk
theorem OwnKys.fr {S : Nat → Prop} {w w' : World} {base : Nat} {v : Value} {rs : List Value} {cs : List (List Int × Int)} (h : OwnKys w base v rs cs) (hf : Fr S w w') (hS : ∀ g, Foot v rs cs.length g → ¬ S g) : OwnKys w' base v rs cs := by
  obtain ⟨h0, ⟨ys, h1, h2⟩, h3, h4⟩ := h
  exact ⟨h0, ⟨ys, hf.owns h1 (fun g hg => hS g (.inl hg)), h2⟩, fun j hj => hf.owns (h3 j hj) (fun g hg => hS g (.inr ⟨j, hj, hg⟩)), h4⟩
theorem OwnKys.foot {w : World} {base : Nat} {v : Value} {rs : List Value} {cs : List (List Int × Int)} (h : OwnKys w base v rs cs) {g : Nat} (hg : Foot v rs cs.length g) : base ≤ g ∧ g < w.heap.size := by
  obtain ⟨h0, ⟨ys, h1, h2⟩, h3, h4⟩ := h
  rcases hg with hg | ⟨j, hj, hg⟩
  · exact h1.lt g hg
  · exact (h3 j hj).lt g hg
theorem OwnKys.mark {W W1 : World} {base g j cap : Nat} {rs : List Value} {cs : List (List Int × Int)} {zs : List Int} {d : Int}
    (h : OwnKys W base (.slice (some ⟨g, 0, none⟩) cs.length cap) rs cs) (hj : j < cs.length) (hz : zs.length = (cR cs j).length)
    (ho : W1.ownsRow base 21 1 (rV rs j) (cR cs j).length (zs.map (Value.int .i32))) (hg : (W.setCell ⟨g, j * 2, none⟩ (.int .i64 d)).grownBy W1 (rV rs j).ownBlock) :
    OwnKys W1 base (.slice (some ⟨g, 0, none⟩) cs.length cap) rs (cs.set j (zs, d)) := by
  obtain ⟨h0, ⟨ys, hy, hyy⟩, h3, h4⟩ := h
  have hyl := hy.1
  have ng : ∀ (u : Value) (n : Nat) (zs : List Value), W.ownsRow base 21 1 u n zs → u.ownBlock ≠ some g := fun u n zs hu e => owns_apart hu hy (by decide) e rfl
  have s0 := (hy.stored (j * 2) (.int .i64 d)).1
  have s1 : W1.ownsRow base 95 2 (.slice (some ⟨g, 0, none⟩) cs.length cap) cs.length (ys.set (j * 2) (.int .i64 d)) :=
    owns_same s0 (fun k hk => hg.block k (s0.lt k hk).2 (fun e => owns_apart hy (h3 j hj) (by decide) hk e.symm))
  have old : ∀ i, i < cs.length → i ≠ j → W1.ownsRow base 21 1 (rV rs i) (cR cs i).length ((cR cs i).map (Value.int .i32)) := fun i hi hne => by
    have h5 := owns_setCell (a := ⟨g, j * 2, none⟩) (h3 i hi) (ng _ _ _ (h3 i hi)) (.int .i64 d)
    exact owns_same h5 (fun k hk => hg.block k (h5.lt k hk).2 (fun e => by
      rcases Nat.lt_or_gt_of_ne hne with h6 | h6
      · exact h4 i j k h6 hj hk e.symm
      · exact h4 j i k h6 hi e.symm hk))
  refine ⟨by simp [h0], ⟨ys.set (j * 2) (.int .i64 d), by simpa using s1, fun i hi => ?_⟩, fun i hi => ?_, fun i j' k hij hj' hk => h4 i j' k hij (by simpa using hj') hk⟩
  · simp at hi
    rw [cW_set cs j _ i hj]
    by_cases e : i = j
    · subst e
      rw [if_pos rfl]
      exact ⟨by rw [List.getElem?_set_ne (by omega)]; exact (hyy i hi).1, List.getElem?_set_self (by omega)⟩
    · rw [if_neg e, List.getElem?_set_ne (by omega), List.getElem?_set_ne (by omega)]
      exact hyy i hi
  · simp at hi
    rw [cR_set cs j _ i hj]
    by_cases e : i = j
    · subst e
      rw [if_pos rfl]
      simpa [hz] using ho
    · rw [if_neg e]
      exact old i hi e
end Go.Proofs.YtinfdhbnljnifaaGreatDoor

namespace Go.Proofs.YtinfdhbnljnifaaGreatDoor
open Go.RowKit
theorem OwnKys.down {w : World} {base base' : Nat} {v : Value} {rs : List Value} {cs : List (List Int × Int)} (h : OwnKys w base v rs cs) (hb : base' ≤ base) : OwnKys w base' v rs cs := by
  obtain ⟨h0, ⟨ys, h1, h2⟩, h3, h4⟩ := h
  exact ⟨h0, ⟨ys, owns_mono h1 hb, h2⟩, fun j hj => owns_mono (h3 j hj) hb, h4⟩
theorem OwnKys.slice {w : World} {base : Nat} {v : Value} {rs : List Value} {cs : List (List Int × Int)} (h : OwnKys w base v rs cs) : ∃ a c, v = .slice a cs.length c := by
  obtain ⟨_, ⟨ys, h1, _⟩, _⟩ := h
  rcases h1.2 with ⟨e, h0⟩ | ⟨g, cap9, cur, e, _⟩
  · exact ⟨none, 0, by rw [h0]; exact e⟩
  · exact ⟨_, _, e⟩
end Go.Proofs.YtinfdhbnljnifaaGreatDoor

namespace Go.Proofs.YtinfdhbnljnifaaGreatDoor
open Go.RowKit
theorem fr_out {S S' : Nat → Prop} {w w1 w2 : World} (h1 : Fr S w w1) (h2 : Fr S' w1 w2) (hS : ∀ k, S' k → w.heap.size ≤ k) : Fr S w w2 :=
  ⟨h2.os.trans h1.os, h2.tape.trans h1.tape, h2.output.trans h1.output, Nat.le_trans h1.size h2.size, fun q hq hn => (h2.block q (Nat.lt_of_lt_of_le hq h1.size) (fun e => by have := hS q e; omega)).trans (h1.block q hq hn)⟩
end Go.Proofs.YtinfdhbnljnifaaGreatDoor

namespace Go.Proofs.YtinfdhbnljnifaaGreatDoor
open Go.RowKit
theorem left_rd (D : Nat) (v : Value) (bs : List Int) (p : Nat) (w : World) (h : RdAt w D v bs p) (hl : bs.length ≤ 16777216) :
    Calls Tryz.prog 51 #[.pointer (some ⟨D, 0, none⟩)] w fun e w' => e = .returned (.int .i64 ((bs.length : Int) - (p : Int))) ∧ Ext w w' := by
  obtain ⟨h0, h1, h2, h3, h4, h5⟩ := h
  obtain ⟨ao, cap, rfl, hcap, hx⟩ := h3
  have hw : IntKind.i64.wrap ((bs.length : Int) - (p : Int)) = (bs.length : Int) - (p : Int) := by rw [IntKind.wrap_i64]; omega
  go_enter Tryz.func51, Tryz.ntmps51
  go_wp2
  go_quiet (fail)
  go_wp2
  go_ret
  exact ⟨rfl, (Ext.refl _).drewN _⟩
def PcsAt (w : World) (v : Value) (pss : List (List Int)) : Prop :=
  ∃ (rv : Nat → Value) (ao : Option Addr) (cap : Nat), v = .slice ao pss.length cap ∧ (∀ j, j < pss.length → IntsAt w .u8 (rv j) (pss.getD j [])) ∧ (0 < pss.length → ∃ b off, ao = some ⟨b, off, none⟩ ∧ ∀ j, j < pss.length → w.cell? ⟨b, off + j, none⟩ = some (rv j))
theorem PcsAt.ext {w w' : World} {v : Value} {pss : List (List Int)} (h : PcsAt w v pss) (he : Ext w w') : PcsAt w' v pss := by
  obtain ⟨rv, ao, cap, e, h1, h2⟩ := h
  refine ⟨rv, ao, cap, e, fun j hj => (h1 j hj).ext he, fun h0 => ?_⟩
  obtain ⟨b, off, e2, h3⟩ := h2 h0
  exact ⟨b, off, e2, fun j hj => he.cell (h3 j hj)⟩
def PcsRow (w : World) (base : Nat) (o : Value) (vs : List Value) (pss : List (List Int)) : Prop :=
  vs.length = pss.length ∧ w.ownsRow base 22 1 o vs.length vs ∧ ∀ j, j < vs.length → w.ownsRow base 5 1 (rV vs j) (pss.getD j []).length ((pss.getD j []).map (Value.int .u8))
theorem PcsRow.fr {S : Nat → Prop} {w w' : World} {base : Nat} {o : Value} {vs : List Value} {pss : List (List Int)} (h : PcsRow w base o vs pss) (hf : Fr S w w') (hS : ∀ g, base ≤ g → g < w.heap.size → ¬ S g) : PcsRow w' base o vs pss :=
  ⟨h.1, hf.owns h.2.1 (fun g hg => hS g (h.2.1.lt g hg).1 (h.2.1.lt g hg).2), fun j hj => hf.owns (h.2.2 j hj) (fun g hg => hS g ((h.2.2 j hj).lt g hg).1 ((h.2.2 j hj).lt g hg).2)⟩
theorem PcsRow.reads {w : World} {base : Nat} {o : Value} {vs : List Value} {pss : List (List Int)} (h : PcsRow w base o vs pss) : PcsAt w o pss := by
  obtain ⟨h0, h1, h2⟩ := h
  rcases h1.2 with ⟨e, e0⟩ | ⟨g, cap, cur, e, _⟩
  · exact ⟨rV vs, none, 0, by rw [e, ← h0, e0], fun j hj => ints_of_owns (h2 j (by omega)), fun hp => by omega⟩
  · refine ⟨rV vs, _, cap, by rw [e, h0], fun j hj => ints_of_owns (h2 j (by omega)), fun hp => ⟨g, 0, rfl, fun j hj => ?_⟩⟩
    subst e
    have hj2 : j < vs.length := by omega
    rw [Nat.zero_add, h1.cellAt j (by omega)]
    simp [rV, hj2]
theorem PcsRow.down {w : World} {base b2 : Nat} {o : Value} {vs : List Value} {pss : List (List Int)} (h : PcsRow w base o vs pss) (hb : b2 ≤ base) : PcsRow w b2 o vs pss :=
  ⟨h.1, owns_mono h.2.1 hb, fun j hj => owns_mono (h.2.2 j hj) hb⟩
theorem PcsRow.at {w : World} {base n cap : Nat} {pa : Option Addr} {vs : List Value} {pss : List (List Int)} (h : PcsRow w base (.slice pa n cap) vs pss) (j : Nat) (hj : j < pss.length) : ∃ b off ra rc, pa = some ⟨b, off, none⟩ ∧ w.cell? ⟨b, off + j, none⟩ = some (.slice ra (pss.getD j []).length rc) ∧ IntsAt w .u8 (.slice ra (pss.getD j []).length rc) (pss.getD j []) := by
  obtain ⟨rv, ao, c, e, h1, h2⟩ := h.reads
  obtain ⟨b, off, e2, h3⟩ := h2 (by omega)
  simp only [Value.slice.injEq] at e
  have hi := h1 j hj
  have hc := h3 j hj
  obtain ⟨ra, rc, e3, _, _⟩ := id hi
  rw [e3] at hi hc
  exact ⟨b, off, ra, rc, by rw [e.1, e2], hc, hi⟩
theorem pcs_push {w w' : World} {base : Nat} {o v' r : Value} {vs : List Value} {pss : List (List Int)} {zs : List Int} (h : PcsRow w base o vs pss) (hf : Fr (fun q => o.ownBlock = some q) w w') (hr : w'.ownsRow base 5 1 r zs.length (zs.map (Value.int .u8))) (ho : w'.ownsRow base 22 1 v' (vs.length + 1) (vs ++ [r])) : PcsRow w' base v' (vs ++ [r]) (pss ++ [zs]) := by
  obtain ⟨h0, h1, h2⟩ := h
  refine ⟨by simp [h0], by rw [List.length_append]; exact ho, fun j hj => ?_⟩
  rw [List.length_append] at hj
  by_cases e : j = vs.length
  · subst e
    rw [rV_last, h0, show (pss ++ [zs]).getD pss.length [] = zs by simp [List.getD]]
    exact hr
  · have hj2 : j < vs.length := by simp at hj; omega
    rw [rV_push vs r j hj2, show (pss ++ [zs]).getD j [] = pss.getD j [] by rw [List.getD, List.getD, List.getElem?_append_left (by omega)]]
    exact hf.owns (h2 j hj2) (fun g hg e => owns_apart (h2 j hj2) h1 (by decide) hg e)
theorem cut_rest {w : World} {zs : List Int} {bb off bc : Nat} (hc : ∀ j, j < zs.length → w.cell? ⟨bb, off + j, none⟩ = some (.int .u8 (at0 zs j))) (hcap : zs.length ≤ bc) (n : Nat) (hn : n ≤ zs.length) (off' m m2 : Nat) (ho : off' = off + n ∨ bc = n) (hm : m = zs.length - n) (hm2 : m2 = bc - n) : IntsAt w .u8 (.slice (some ⟨bb, off', none⟩) m m2) (zs.drop n) := by
  have hl : (zs.drop n).length = zs.length - n := by simp
  refine ⟨_, m2, by rw [hl, hm], by omega, fun hp => ?_⟩
  rcases ho with rfl | e
  · refine ⟨bb, off + n, rfl, fun j hj => ?_⟩
    rw [at0_drop, Nat.add_assoc]
    exact hc (n + j) (by omega)
  · omega
def lenV (v : Value) : Nat := match v with | .slice _ n _ => n | _ => 0
def posV (w : World) (D : Nat) : Nat := match w.cell? ⟨D, 1, none⟩ with | some (.int _ p) => p.toNat | _ => 0
theorem posV_rd {w : World} {D : Nat} {v : Value} {bs : List Int} {p : Nat} (h : RdAt w D v bs p) : posV w D = p := by simp [posV, h.2.1]
theorem take_more (bs : List Int) (i n : Nat) : bs.take i ++ (bs.drop i).take n = bs.take (i + n) := by rw [List.take_add]
theorem infoBytesS : (Tryz.prog.info? 22).map (fun i => (i.zero, i.size, i.bytes)) = some (some (.slice none 0 0), 1, 24) := by kernel_rfl
set_option maxRecDepth 10000 in
set_option maxHeartbeats 4000000 in
theorem pieces_any (bv mv : Value) (bs ms : List Int) (w : World) (hb : IntsAt w .u8 bv bs) (hm : IntsAt w .u8 mv ms) (hM : Bytes ms) (hlb : bs.length ≤ 1048576) (hlm : ms.length ≤ 16777216) :
    Calls Tryz.prog 9 #[bv, mv] w fun e w' => (∃ pv vs pss, e = .returned pv ∧ PcsRow w' w.heap.size pv vs pss ∧ pss.flatten = bs) ∧ Ext w w' := by
  obtain ⟨i0, hi, hz0, hz1, hz2⟩ := info_parts infoByteA
  obtain ⟨i1, hi1, hy0, hy1, hy2⟩ := info_parts infoBytesS
  have hO := hide (l1Open_any mv ms w hm hlm)
  have hB1 : Bytes (ms.take 1000) := fun n hn => hM n (List.mem_of_mem_take hn)
  have hl1 : (ms.take 1000).length ≤ 16777216 := by simp; omega
  obtain ⟨cs, hcs⟩ : ∃ cs, cs = ms.take 1000 := ⟨_, rfl⟩
  rw [← hcs] at hO hB1 hl1
  have HBs := hide hb
  clear hm hM hlm hcs hb
  go_enter Tryz.func9, Tryz.ntmps9
  go_wp2_with fail
  refine (unhide hO).mono ?_
  rintro e w1 ⟨rfl, ⟨v', hr1⟩, E1⟩
  have HR1 := hide hr1
  have HE1 := hide E1
  have hD1 := lt_of_cell hr1.1
  clear hr1 E1 hO
  go_wp2_with fail
  go_loopw [0, 6] (fun b o wr => ∃ (i p : Nat) (pss : List (List Int)) (vs : List Value), i ≤ bs.length ∧ Hid (IntsAt w .u8 b (bs.drop i)) ∧ Hid (PcsRow wr w1.heap.size o vs pss) ∧ Hid (pss.flatten = bs.take i) ∧ Hid (RdAt wr w.heap.size v' cs p) ∧ Hid (Fr (fun q => q = w.heap.size) w1 wr) ∧ pss.length ≤ i + p) (fun b _ wr => lenV b + (cs.length - posV wr w.heap.size))
  case atStart => exact ⟨0, 0, [], [], Nat.zero_le _, by rw [List.drop_zero]; exact HBs, hide ⟨rfl, owns_empty w1 22 1, fun j hj => by simp at hj⟩, hide rfl, hide ((unhide HR1).ext ((Ext.refl _).alloc _)), hide (Fr.of_ext ((Ext.refl _).alloc _)), by simp⟩
  case round =>
    obtain ⟨i, p, pss, vs, hi9, HB, HP, HFl, HRd, HF, hpl⟩ := hrel
    obtain ⟨ba, bc, rfl, hbc, hrr⟩ := id (unhide HB)
    obtain ⟨L, hL⟩ : ∃ L, L = (bs.drop i).length := ⟨_, rfl⟩
    have hLi : L = bs.length - i := by rw [hL]; simp
    rw [← hL] at hbc hrr HB ⊢
    have hvs : vs.length ≤ pss.length := Nat.le_of_eq (unhide HP).1
    have hpc := (unhide HRd).2.2.2.2.1
    by_cases h0 : 0 < L
    · obtain ⟨bb, off, rfl, hc⟩ := hrr h0
      have HC : Hid (∀ j, j < (bs.drop i).length → w.cell? ⟨bb, off + j, none⟩ = some (.int .u8 (at0 (bs.drop i) j))) := hide (by rw [← hL]; exact hc)
      have HLi := hide hLi
      have HL := hide hL
      have hLb : L ≤ 1048576 := by omega
      have hLb2 : i + L = bs.length := by omega
      have h0I : (0 : Int) < (L : Int) := by omega
      have hb9 := hB1.at0 p
      obtain ⟨x, hx⟩ : ∃ x : Nat, at0 cs p = (x : Int) := ⟨(at0 cs p).toNat, by omega⟩
      have hx255 : x ≤ 255 := by omega
      have t5 : (x : Int).tmod 5 = ((x % 5 : Nat) : Int) := by rw [Int.tmod_eq_emod_of_nonneg (by omega)]; omega
      have hnx := hide (next_any w.heap.size v' cs p wr (unhide HRd) hB1 hl1)
      rw [hx] at hnx
      obtain ⟨p2, hp2⟩ : ∃ p2, p2 = (if p < cs.length then p + 1 else p) := ⟨_, rfl⟩
      have hp2a : p ≤ p2 ∧ p2 ≤ cs.length ∧ (p2 = p → p2 = cs.length) := by rw [hp2]; split <;> omega
      rw [← hp2] at hnx
      have z1 := (unhide HF).size
      clear hx hb9 hc hrr hp2 hLi hL
      go_wp2_with fail
      refine (unhide hnx).mono ?_
      rintro e w2 ⟨rfl, hr2, f2⟩
      have HP2 := hide ((unhide HP).fr f2 (fun g h1 _ e => by omega))
      have hlf := hide (left_rd w.heap.size v' cs p2 w2 hr2 hl1)
      have HR2 := hide hr2
      have HF2 := hide (Fr.tr (unhide HF) f2)
      have z2 := f2.size
      clear hr2 f2 hnx
      go_wp2_with fail
      refine (unhide hlf).mono ?_
      rintro e w3 ⟨rfl, E3⟩
      have HP3 := hide ((unhide HP2).fr (Fr.of_ext E3) (fun g _ _ e => e))
      have HF3 := hide (Fr.tr (unhide HF2) (Fr.of_ext E3))
      have hD3 : w3.heap[w.heap.size]? = w2.heap[w.heap.size]? := E3.heap (by omega)
      have HD3 := hide hD3
      have HOu3 := hide (unhide HP3).2.1
      have HEw3 := hide ((unhide HF3).ext (unhide HE1) (fun q hq => by omega))
      have z3 := E3.size
      clear E3 hlf hD3
      by_cases hlf0 : cs.length ≤ p2
      · have c1 : (cs.length : Int) - (p2 : Int) ≤ 0 := by omega
        have hnL : L ≤ L := by omega
        have hnc : L ≤ bc := by omega
        have hcut : IntsAt w .u8 (.slice (some ⟨bb, off, none⟩) L bc) ((bs.drop i).take L) := by
          have := ints_cut (bs := bs.drop i) (b := bb) (off := off) (cap := bc) 0 L (unhide HC) (by rw [← unhide HL]; omega) hnc
          simpa using this
        have hlc : ((bs.drop i).take L).length = L := by rw [List.length_take, ← unhide HL]; omega
        obtain ⟨Q, hQ⟩ : ∃ Q, Q = (bs.drop i).take L := ⟨_, rfl⟩
        have HQ := hide hQ
        rw [← hQ] at hcut hlc
        clear hQ
        have HSrc := hide (Src.ints (hcut.ext ((unhide HEw3).alloc (.cells #[] 5))))
        have HOe := hide (owns_empty w3 5 1)
        rw [hlc] at HSrc
        have HLC := hide hlc
        clear hcut hlc
        go_wp2_with (at_builtin; go_must (refine wpList_app rfl _ _ 22 rfl w3.heap.size 5 i0 (.int .u8 0) 1 1 Tryz.underlying22 hi hz0 hz1 hz2 rfl (by decide) _ 0 [] rfl (unhide HOe) _ L _ rfl (unhide HSrc) ?_ ?_ ?_ ?_))
        · unfold maxLen; omega
        · omega
        · simp
        intro v4 w4 hown4 hgrow4 _
        have f4 : Fr (fun q => q = w3.heap.size) w3 w4 := Fr.grown (Fr.of_ext ((Ext.refl w3).alloc _)) hgrow4 (fun k hk => by simpa [Value.ownBlock, eq_comm] using hk)
        have E34 : Ext w3 w4 := f4.ext (Ext.refl w3) (fun q hq => by omega)
        try simp only [Nat.zero_add, List.nil_append] at hown4
        obtain ⟨ra, rc, rfl⟩ : ∃ a c, v4 = .slice a L c := by
          rcases hown4.2 with ⟨e, h0⟩ | ⟨g, c, _, e, _⟩
          · exact ⟨none, 0, by rw [e, h0]⟩
          · exact ⟨_, _, e⟩
        have hown5 : w4.ownsRow w3.heap.size 5 1 (.slice ra L rc) Q.length (Q.map (Value.int .u8)) := by rw [unhide HLC]; exact hown4
        have HO4 := hide (owns_mono hown5 (show w1.heap.size ≤ w3.heap.size by omega))
        have HO5 := hide ((E34.alloc (.cells #[.slice ra L rc] 22)).owns (unhide HOu3))
        have HE4 := hide E34
        have z4 := E34.size
        have HLow : Hid (∀ g, Value.ownBlock (.slice ra L rc) = some g → w3.heap.size ≤ g) := hide (fun g hg => (hown5.lt g hg).1)
        clear hown4 hown5 hgrow4 f4 E34 HOe HSrc
        go_wp2_with (at_builtin; go_must (refine wpList_append_own _ rfl _ _ 30 rfl w1.heap.size 22 i1 (.slice none 0 0) 1 24 Tryz.underlying30 hi1 hy0 hy1 hy2 rfl (by decide) _ _ _ rfl (unhide HO5) ⟨w4.heap.size, 0, none⟩ 1 1 [.slice ra L rc] rfl rfl ?_ (by simp [Value.oneCell']) ?_ ?_ ?_ ?_))
        · exact news_cells (w := w4) [.slice ra L rc] 22
        · unfold maxLen; omega
        · omega
        · simp; omega
        intro v6 w6 hown6 hgrow6 _
        have f6 : Fr (fun q => u6.ownBlock = some q) w3 w6 := Fr.grown (Fr.of_ext ((unhide HE4).alloc _)) hgrow6 (fun k hk => hk)
        have hu6 : ∀ q, u6.ownBlock = some q → w1.heap.size ≤ q ∧ q < w3.heap.size := fun q hq => (unhide HOu3).lt q hq
        have HNew : Hid (PcsRow w6 w1.heap.size v6 (vs ++ [.slice ra L rc]) (pss ++ [Q])) := hide (pcs_push (unhide HP3) f6 ((Fr.grown (Fr.of_ext ((Ext.refl w4).alloc _)) hgrow6 (fun k hk => hk)).owns (unhide HO4) (fun g hg e => by have h1 := (unhide HLow) g hg; have h2 := hu6 g e; omega)) hown6)
        have HF6 : Hid (Fr (fun q => q = w.heap.size) w1 w6) := hide (fr_out (unhide HF3) f6 (fun q hq => (hu6 q hq).1))
        have HR6 : Hid (RdAt w6 w.heap.size v' cs p2) := hide ((unhide HR1).keep (unhide HR2) (unhide HF6) ((f6.block _ (by omega) (fun e => by have := hu6 _ e; omega)).trans (unhide HD3)))
        have HFn : Hid ((pss ++ [Q]).flatten = bs.take (i + L)) := hide (by rw [List.flatten_append, unhide HFl, unhide HQ]; simp [take_more])
        have hpl2 : (pss ++ [Q]).length ≤ (i + L) + p2 := by rw [List.length_append]; simp; omega
        have HRest : Hid (∀ m, m = L - L → IntsAt w .u8 (.slice (if bc = L then some ⟨bb, off, none⟩ else some ⟨bb, off + L, none⟩) m (bc - L)) (bs.drop (i + L))) := hide (fun m hm => by
          have h := fun off' ho => cut_rest (unhide HC) (by rw [← unhide HL]; exact hbc) L (by rw [← unhide HL]; exact hnL) off' m (bc - L) ho (by rw [← unhide HL]; exact hm) rfl
          by_cases hb : bc = L
          · rw [if_pos hb, ← List.drop_drop]; exact h off (.inr hb)
          · rw [if_neg hb, ← List.drop_drop]; exact h (off + L) (.inl rfl))
        obtain ⟨v6a, v6c, rfl⟩ : ∃ a c, v6 = .slice a (vs.length + 1) c := by
          rcases hown6.2 with ⟨e, h0⟩ | ⟨g, c, _, e, _⟩
          · exact ⟨none, 0, by rw [e, h0]⟩
          · exact ⟨_, _, e⟩
        clear hown6 hgrow6 f6
        go_wp2
        all_goals
          go_roundw
          case rel => exact ⟨i + L, p2, pss ++ [Q], vs ++ [.slice ra L rc], by omega, hide ((unhide HRest) _ (by omega)), HNew, HFn, HR6, HF6, hpl2⟩
          case measure => simp only [lenV, posV_rd (unhide HR6), posV_rd (unhide HRd)]; omega
      · have c1 : ¬ (cs.length : Int) - (p2 : Int) ≤ 0 := by omega
        by_cases hxL : L < x % 5
        · have c2 : (L : Int) < (x : Int) % 5 := by omega
          have hnL : L ≤ L := by omega
          have hnc : L ≤ bc := by omega
          have hcut : IntsAt w .u8 (.slice (some ⟨bb, off, none⟩) L bc) ((bs.drop i).take L) := by
            have := ints_cut (bs := bs.drop i) (b := bb) (off := off) (cap := bc) 0 L (unhide HC) (by rw [← unhide HL]; omega) hnc
            simpa using this
          have hlc : ((bs.drop i).take L).length = L := by rw [List.length_take, ← unhide HL]; omega
          obtain ⟨Q, hQ⟩ : ∃ Q, Q = (bs.drop i).take L := ⟨_, rfl⟩
          have HQ := hide hQ
          rw [← hQ] at hcut hlc
          clear hQ
          have HSrc := hide (Src.ints (hcut.ext ((unhide HEw3).alloc (.cells #[] 5))))
          have HOe := hide (owns_empty w3 5 1)
          rw [hlc] at HSrc
          have HLC := hide hlc
          clear hcut hlc
          go_wp2_with (at_builtin; go_must (refine wpList_app rfl _ _ 22 rfl w3.heap.size 5 i0 (.int .u8 0) 1 1 Tryz.underlying22 hi hz0 hz1 hz2 rfl (by decide) _ 0 [] rfl (unhide HOe) _ L _ rfl (unhide HSrc) ?_ ?_ ?_ ?_))
          · unfold maxLen; omega
          · omega
          · simp
          intro v4 w4 hown4 hgrow4 _
          have f4 : Fr (fun q => q = w3.heap.size) w3 w4 := Fr.grown (Fr.of_ext ((Ext.refl w3).alloc _)) hgrow4 (fun k hk => by simpa [Value.ownBlock, eq_comm] using hk)
          have E34 : Ext w3 w4 := f4.ext (Ext.refl w3) (fun q hq => by omega)
          try simp only [Nat.zero_add, List.nil_append] at hown4
          obtain ⟨ra, rc, rfl⟩ : ∃ a c, v4 = .slice a L c := by
            rcases hown4.2 with ⟨e, h0⟩ | ⟨g, c, _, e, _⟩
            · exact ⟨none, 0, by rw [e, h0]⟩
            · exact ⟨_, _, e⟩
          have hown5 : w4.ownsRow w3.heap.size 5 1 (.slice ra L rc) Q.length (Q.map (Value.int .u8)) := by rw [unhide HLC]; exact hown4
          have HO4 := hide (owns_mono hown5 (show w1.heap.size ≤ w3.heap.size by omega))
          have HO5 := hide ((E34.alloc (.cells #[.slice ra L rc] 22)).owns (unhide HOu3))
          have HE4 := hide E34
          have z4 := E34.size
          have HLow : Hid (∀ g, Value.ownBlock (.slice ra L rc) = some g → w3.heap.size ≤ g) := hide (fun g hg => (hown5.lt g hg).1)
          clear hown4 hown5 hgrow4 f4 E34 HOe HSrc
          go_wp2_with (at_builtin; go_must (refine wpList_append_own _ rfl _ _ 30 rfl w1.heap.size 22 i1 (.slice none 0 0) 1 24 Tryz.underlying30 hi1 hy0 hy1 hy2 rfl (by decide) _ _ _ rfl (unhide HO5) ⟨w4.heap.size, 0, none⟩ 1 1 [.slice ra L rc] rfl rfl ?_ (by simp [Value.oneCell']) ?_ ?_ ?_ ?_))
          · exact news_cells (w := w4) [.slice ra L rc] 22
          · unfold maxLen; omega
          · omega
          · simp; omega
          intro v6 w6 hown6 hgrow6 _
          have f6 : Fr (fun q => u6.ownBlock = some q) w3 w6 := Fr.grown (Fr.of_ext ((unhide HE4).alloc _)) hgrow6 (fun k hk => hk)
          have hu6 : ∀ q, u6.ownBlock = some q → w1.heap.size ≤ q ∧ q < w3.heap.size := fun q hq => (unhide HOu3).lt q hq
          have HNew : Hid (PcsRow w6 w1.heap.size v6 (vs ++ [.slice ra L rc]) (pss ++ [Q])) := hide (pcs_push (unhide HP3) f6 ((Fr.grown (Fr.of_ext ((Ext.refl w4).alloc _)) hgrow6 (fun k hk => hk)).owns (unhide HO4) (fun g hg e => by have h1 := (unhide HLow) g hg; have h2 := hu6 g e; omega)) hown6)
          have HF6 : Hid (Fr (fun q => q = w.heap.size) w1 w6) := hide (fr_out (unhide HF3) f6 (fun q hq => (hu6 q hq).1))
          have HR6 : Hid (RdAt w6 w.heap.size v' cs p2) := hide ((unhide HR1).keep (unhide HR2) (unhide HF6) ((f6.block _ (by omega) (fun e => by have := hu6 _ e; omega)).trans (unhide HD3)))
          have HFn : Hid ((pss ++ [Q]).flatten = bs.take (i + L)) := hide (by rw [List.flatten_append, unhide HFl, unhide HQ]; simp [take_more])
          have hpl2 : (pss ++ [Q]).length ≤ (i + L) + p2 := by rw [List.length_append]; simp; omega
          have HRest : Hid (∀ m, m = L - L → IntsAt w .u8 (.slice (if bc = L then some ⟨bb, off, none⟩ else some ⟨bb, off + L, none⟩) m (bc - L)) (bs.drop (i + L))) := hide (fun m hm => by
            have h := fun off' ho => cut_rest (unhide HC) (by rw [← unhide HL]; exact hbc) L (by rw [← unhide HL]; exact hnL) off' m (bc - L) ho (by rw [← unhide HL]; exact hm) rfl
            by_cases hb : bc = L
            · rw [if_pos hb, ← List.drop_drop]; exact h off (.inr hb)
            · rw [if_neg hb, ← List.drop_drop]; exact h (off + L) (.inl rfl))
          obtain ⟨v6a, v6c, rfl⟩ : ∃ a c, v6 = .slice a (vs.length + 1) c := by
            rcases hown6.2 with ⟨e, h0⟩ | ⟨g, c, _, e, _⟩
            · exact ⟨none, 0, by rw [e, h0]⟩
            · exact ⟨_, _, e⟩
          clear hown6 hgrow6 f6
          go_wp2
          all_goals
            go_roundw
            case rel => exact ⟨i + L, p2, pss ++ [Q], vs ++ [.slice ra L rc], by omega, hide ((unhide HRest) _ (by omega)), HNew, HFn, HR6, HF6, hpl2⟩
            case measure => simp only [lenV, posV_rd (unhide HR6), posV_rd (unhide HRd)]; omega
        · have c2 : ¬ (L : Int) < (x : Int) % 5 := by omega
          have hnL : (x % 5) ≤ L := by omega
          have hnc : (x % 5) ≤ bc := by omega
          have hcut : IntsAt w .u8 (.slice (some ⟨bb, off, none⟩) (x % 5) bc) ((bs.drop i).take (x % 5)) := by
            have := ints_cut (bs := bs.drop i) (b := bb) (off := off) (cap := bc) 0 (x % 5) (unhide HC) (by rw [← unhide HL]; omega) hnc
            simpa using this
          have hlc : ((bs.drop i).take (x % 5)).length = (x % 5) := by rw [List.length_take, ← unhide HL]; omega
          obtain ⟨Q, hQ⟩ : ∃ Q, Q = (bs.drop i).take (x % 5) := ⟨_, rfl⟩
          have HQ := hide hQ
          rw [← hQ] at hcut hlc
          clear hQ
          have HSrc := hide (Src.ints (hcut.ext ((unhide HEw3).alloc (.cells #[] 5))))
          have HOe := hide (owns_empty w3 5 1)
          rw [hlc] at HSrc
          have HLC := hide hlc
          clear hcut hlc
          go_wp2_with (at_builtin; go_must (refine wpList_app rfl _ _ 22 rfl w3.heap.size 5 i0 (.int .u8 0) 1 1 Tryz.underlying22 hi hz0 hz1 hz2 rfl (by decide) _ 0 [] rfl (unhide HOe) _ (x % 5) _ rfl (unhide HSrc) ?_ ?_ ?_ ?_))
          · unfold maxLen; omega
          · omega
          · simp
          intro v4 w4 hown4 hgrow4 _
          have f4 : Fr (fun q => q = w3.heap.size) w3 w4 := Fr.grown (Fr.of_ext ((Ext.refl w3).alloc _)) hgrow4 (fun k hk => by simpa [Value.ownBlock, eq_comm] using hk)
          have E34 : Ext w3 w4 := f4.ext (Ext.refl w3) (fun q hq => by omega)
          try simp only [Nat.zero_add, List.nil_append] at hown4
          obtain ⟨ra, rc, rfl⟩ : ∃ a c, v4 = .slice a (x % 5) c := by
            rcases hown4.2 with ⟨e, h0⟩ | ⟨g, c, _, e, _⟩
            · exact ⟨none, 0, by rw [e, h0]⟩
            · exact ⟨_, _, e⟩
          have hown5 : w4.ownsRow w3.heap.size 5 1 (.slice ra (x % 5) rc) Q.length (Q.map (Value.int .u8)) := by rw [unhide HLC]; exact hown4
          have HO4 := hide (owns_mono hown5 (show w1.heap.size ≤ w3.heap.size by omega))
          have HO5 := hide ((E34.alloc (.cells #[.slice ra (x % 5) rc] 22)).owns (unhide HOu3))
          have HE4 := hide E34
          have z4 := E34.size
          have HLow : Hid (∀ g, Value.ownBlock (.slice ra (x % 5) rc) = some g → w3.heap.size ≤ g) := hide (fun g hg => (hown5.lt g hg).1)
          clear hown4 hown5 hgrow4 f4 E34 HOe HSrc
          go_wp2_with (at_builtin; go_must (refine wpList_append_own _ rfl _ _ 30 rfl w1.heap.size 22 i1 (.slice none 0 0) 1 24 Tryz.underlying30 hi1 hy0 hy1 hy2 rfl (by decide) _ _ _ rfl (unhide HO5) ⟨w4.heap.size, 0, none⟩ 1 1 [.slice ra (x % 5) rc] rfl rfl ?_ (by simp [Value.oneCell']) ?_ ?_ ?_ ?_))
          · exact news_cells (w := w4) [.slice ra (x % 5) rc] 22
          · unfold maxLen; omega
          · omega
          · simp; omega
          intro v6 w6 hown6 hgrow6 _
          have f6 : Fr (fun q => u6.ownBlock = some q) w3 w6 := Fr.grown (Fr.of_ext ((unhide HE4).alloc _)) hgrow6 (fun k hk => hk)
          have hu6 : ∀ q, u6.ownBlock = some q → w1.heap.size ≤ q ∧ q < w3.heap.size := fun q hq => (unhide HOu3).lt q hq
          have HNew : Hid (PcsRow w6 w1.heap.size v6 (vs ++ [.slice ra (x % 5) rc]) (pss ++ [Q])) := hide (pcs_push (unhide HP3) f6 ((Fr.grown (Fr.of_ext ((Ext.refl w4).alloc _)) hgrow6 (fun k hk => hk)).owns (unhide HO4) (fun g hg e => by have h1 := (unhide HLow) g hg; have h2 := hu6 g e; omega)) hown6)
          have HF6 : Hid (Fr (fun q => q = w.heap.size) w1 w6) := hide (fr_out (unhide HF3) f6 (fun q hq => (hu6 q hq).1))
          have HR6 : Hid (RdAt w6 w.heap.size v' cs p2) := hide ((unhide HR1).keep (unhide HR2) (unhide HF6) ((f6.block _ (by omega) (fun e => by have := hu6 _ e; omega)).trans (unhide HD3)))
          have HFn : Hid ((pss ++ [Q]).flatten = bs.take (i + (x % 5))) := hide (by rw [List.flatten_append, unhide HFl, unhide HQ]; simp [take_more])
          have hpl2 : (pss ++ [Q]).length ≤ (i + (x % 5)) + p2 := by rw [List.length_append]; simp; omega
          have HRest : Hid (∀ m, m = L - (x % 5) → IntsAt w .u8 (.slice (if bc = (x % 5) then some ⟨bb, off, none⟩ else some ⟨bb, off + (x % 5), none⟩) m (bc - (x % 5))) (bs.drop (i + (x % 5)))) := hide (fun m hm => by
            have h := fun off' ho => cut_rest (unhide HC) (by rw [← unhide HL]; exact hbc) (x % 5) (by rw [← unhide HL]; exact hnL) off' m (bc - (x % 5)) ho (by rw [← unhide HL]; exact hm) rfl
            by_cases hb : bc = (x % 5)
            · rw [if_pos hb, ← List.drop_drop]; exact h off (.inr hb)
            · rw [if_neg hb, ← List.drop_drop]; exact h (off + (x % 5)) (.inl rfl))
          obtain ⟨v6a, v6c, rfl⟩ : ∃ a c, v6 = .slice a (vs.length + 1) c := by
            rcases hown6.2 with ⟨e, h0⟩ | ⟨g, c, _, e, _⟩
            · exact ⟨none, 0, by rw [e, h0]⟩
            · exact ⟨_, _, e⟩
          clear hown6 hgrow6 f6
          go_wp2
          all_goals
            go_roundw
            case rel => exact ⟨i + (x % 5), p2, pss ++ [Q], vs ++ [.slice ra (x % 5) rc], by omega, hide ((unhide HRest) _ (by omega)), HNew, HFn, HR6, HF6, hpl2⟩
            case measure => simp only [lenV, posV_rd (unhide HR6), posV_rd (unhide HRd)]; omega
    · obtain rfl : L = 0 := by omega
      have HI := hide (show i = bs.length by omega)
      clear hLi hL hbc hrr hpl hi9
      go_wp2
      refine bodyPost_ret (v := u6) (by simp [results, Tryz.results9, go_sem]) rfl ⟨⟨_, vs, pss, rfl, (unhide HP).down (by omega), by rw [unhide HFl, unhide HI, List.take_length]⟩, (unhide HF).ext (unhide HE1) (fun q hq => by omega)⟩
end Go.Proofs.YtinfdhbnljnifaaGreatDoor
