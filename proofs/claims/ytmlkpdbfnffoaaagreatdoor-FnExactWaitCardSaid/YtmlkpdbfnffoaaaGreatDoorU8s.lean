import Derived.Test.YtmlkpdbfnffoaaaGreatDoorBlocks
import Derived.Test.YtmlkpdbfnffoaaaGreatDoorProg
import Derived.Deep.RegionHeld3
import Derived.Maps.AppendAt
set_option maxHeartbeats 1000000
namespace Go.Proofs.YtmlkpdbfnffoaaaGreatDoor
open Go.RowKit
theorem zb5 (r : Int) (w : World) : Calls Tryz.prog 168 #[.int .i64 r] w fun e w' => e = .returned (.bool (Utf8.valid r)) ∧ w' = w := by
 go_enter Tryz.func168, Tryz.ntmps168
 go_wp2
 all_goals
  go_ret
  refine ⟨zw ?_, rfl⟩
  rw [Bool.eq_iff_iff]
  simp [Utf8.valid]
  omega
theorem zdO (r : Int) (w : World) : Calls Tryz.prog 106 #[.int .i64 r] w fun e w' => e = .returned (.int .i64 (zaa r)) ∧ w' = w := by
 cases hv : Utf8.valid r
 ·have HS : Hid (zaa r = 65533) := by show zaa r = 65533; simp [zaa, hv]
  go_enter Tryz.func106, Tryz.ntmps106
  go_wp2_with fail
  refine (zb5 _ _).mono ?_
  rintro e w1 ⟨rfl, rfl⟩
  go_wp2
  go_ret
  exact ⟨za6 HS.out.symm, rfl⟩
 ·have HS : Hid (zaa r = if r < 32 ∨ (127 ≤ r ∧ r ≤ 159) then 65533 else r) := by show zaa r = _; simp [zaa, hv]
  go_enter Tryz.func106, Tryz.ntmps106
  go_wp2_with fail
  refine (zb5 _ _).mono ?_
  rintro e w1 ⟨rfl, rfl⟩
  go_wp2
  all_goals
   go_ret
   refine ⟨za6 ?_, rfl⟩
   rw [HS.out]
   first | (rw [if_pos (by omega)]) | (rw [if_neg (by omega)])
theorem zew (c : Int) (w : World) : Calls Tryz.prog 166 #[.int .u8 c] w fun e w' => e = .returned (.int .i64 (zgF c)) ∧ w' = w := by
 go_enter Tryz.func166, Tryz.ntmps166
 go_wp2
 all_goals
  go_ret
  refine ⟨za6 ?_, rfl⟩
  unfold zgF
  repeat' split
  all_goals first | rfl | omega
theorem zjl {w : World} (k : IntKind) (zs : List Int) (t n : Nat) (hn : n = zs.length) : zag (w.alloc (.cells (zs.map (Value.int k)).toArray t)) k (.slice (some ⟨w.heap.size, 0, none⟩) n n) zs := by
 subst hn
 refine ⟨_, _, rfl, Nat.le_refl _, fun _ => ⟨_, 0, rfl, fun j hj => ?_⟩⟩
 rw [World.cell?_alloc_at _ _ _ _ rfl]
 simp [at0, hj]
theorem zdB {a b : ByteArray} (h : a = b) : Ending.returned (.string a) = .returned (.string b) := by rw [h]
theorem zeB (r : Int) (w : World) (h0 : 0 ≤ r) (h1 : r ≤ 1114111) : Calls Tryz.prog 169 #[.int .i64 r] w fun e w' => e = .returned (.string (zv (zbm r))) ∧ Ext w w' := by
 have cv : ∀ zs : List Int, (convert 25 9 (.slice (some ⟨w.heap.size, 0, none⟩) zs.length zs.length)).run Tryz.prog (w.alloc (.cells (zs.map (Value.int .u8)).toArray 5)) = .ok (.string (zv zs)) (w.alloc (.cells (zs.map (Value.int .u8)).toArray 5)) :=
  fun zs => zdF _ _ _ _ Tryz.underlying25 Tryz.underlying5 Tryz.underlying9 _ _ (zjl _ _ _ _ rfl)
 have c1 := fun a : Int => cv [a]
 have c2 := fun a b : Int => cv [a, b]
 have c3 := fun a b c : Int => cv [a, b, c]
 have c4 := fun a b c d : Int => cv [a, b, c, d]
 clear cv
 simp only [List.length_cons, List.length_nil, List.map_cons, List.map_nil, Nat.zero_add, Nat.reduceAdd] at c1 c2 c3 c4
 go_enter Tryz.func169, Tryz.ntmps169
 go_wp2
 all_goals
  go_ret
  refine ⟨zdB (congrArg zv ?_), by repeat (first | exact Ext.refl _ | apply Ext.alloc)⟩
  unfold zbm
  first | (rw [if_pos (by omega)]) | (rw [if_neg (by omega), if_pos (by omega)]) | (rw [if_neg (by omega), if_neg (by omega), if_pos (by omega)]) | (rw [if_neg (by omega), if_neg (by omega), if_neg (by omega)])
theorem zfR (bs : List Int) (hb : zaj bs) (v : Value) (i n : Nat) (w : World) (hv : zag w .u8 v bs) (hi : i + n ≤ bs.length) (h1 : 1 ≤ n) (h4 : n ≤ 4) (hl : bs.length ≤ 4398046511104) :
  Calls Tryz.prog 167 #[v, .int .i64 i, .int .i64 n] w fun e w' => e = .returned (.int .i64 (zcc (bs.drop i) n)) ∧ Ext w w' := by
 obtain ⟨ao, cap, rfl, hcap, hr⟩ := hv
 obtain ⟨b, off, rfl, hc⟩ := hr (by omega)
 clear hr
 have g0 := hc i (by omega)
 have hbs := zb2 g0
 have b0 := hb.at0 i
 have q0 : at0 (bs.drop i) 0 = at0 bs i := by rw [zbU]; rfl
 have q1 := zbU bs i 1
 have q2 := zbU bs i 2
 have q3 := zbU bs i 3
 have hlen : (bs.drop i).length = bs.length - i := by simp
 have hbi : (i : Int) < (bs.length : Int) := by omega
 rcases (show n = 1 ∨ n = 2 ∨ n = 3 ∨ n = 4 by omega) with rfl | rfl | rfl | rfl
 ·have hf : Hid (zcc (bs.drop i) 1 = at0 bs i) := by show zcc _ _ = _; rw [zcc, if_pos rfl, q0]
  clear hc q0 q1 q2 q3 hlen
  go_enter Tryz.func167, Tryz.ntmps167
  go_wp2
  refine wp_loop_rounds 1 ?_
  rw [rounds_succ]
  go_wp2
  go_ret
  exact ⟨za6 hf.out.symm, Ext.refl _⟩
 ·have g1 := hc (i + 1) (by omega)
  have b1 := hb.at0 (i + 1)
  have hbi1 : (i : Int) + 1 < (bs.length : Int) := by omega
  clear hc
  have hf : Hid (zcc (bs.drop i) 2 = if (128 ≤ at0 bs (i + 1) ∧ at0 bs (i + 1) ≤ 191) then at0 bs i % 32 * 64 + at0 bs (i + 1) - 128 else -1) := by
   show zcc _ _ = _
   rw [zcc, if_neg (by decide), if_pos rfl]
   simp only [zaP, v2, q0, q1, hlen, Bool.and_eq_true, decide_eq_true_eq]
   repeat' split
   all_goals first | rfl | omega
  clear q0 q1 q2 q3 hlen
  go_enter Tryz.func167, Tryz.ntmps167
  go_wp2
  go_rounds 2
  all_goals
   go_ret
   refine ⟨za6 ?_, by repeat (first | exact Ext.refl _ | apply Ext.alloc)⟩
   rw [hf.out]
   first | (rw [if_pos (by omega)]) | (rw [if_neg (by omega)])
 ·have g1 := hc (i + 1) (by omega)
  have b1 := hb.at0 (i + 1)
  have hbi1 : (i : Int) + 1 < (bs.length : Int) := by omega
  have g2 := hc (i + 2) (by omega)
  have b2 := hb.at0 (i + 2)
  have hbi2 : (i : Int) + 2 < (bs.length : Int) := by omega
  clear hc
  have hf : Hid (zcc (bs.drop i) 3 = if (128 ≤ at0 bs (i + 1) ∧ at0 bs (i + 1) ≤ 191) ∧ (128 ≤ at0 bs (i + 2) ∧ at0 bs (i + 2) ≤ 191) then (at0 bs i % 16 * 64 + at0 bs (i + 1) - 128) * 64 + at0 bs (i + 2) - 128 else -1) := by
   show zcc _ _ = _
   rw [zcc, if_neg (by decide), if_neg (by decide), if_pos rfl]
   simp only [zaP, v3, q0, q1, q2, hlen, Bool.and_eq_true, decide_eq_true_eq]
   repeat' split
   all_goals first | rfl | omega
  clear q0 q1 q2 q3 hlen
  go_enter Tryz.func167, Tryz.ntmps167
  go_wp2
  go_rounds 3
  all_goals
   go_ret
   refine ⟨za6 ?_, by repeat (first | exact Ext.refl _ | apply Ext.alloc)⟩
   rw [hf.out]
   first | (rw [if_pos (by omega)]) | (rw [if_neg (by omega)])
 ·have g1 := hc (i + 1) (by omega)
  have b1 := hb.at0 (i + 1)
  have hbi1 : (i : Int) + 1 < (bs.length : Int) := by omega
  have g2 := hc (i + 2) (by omega)
  have b2 := hb.at0 (i + 2)
  have hbi2 : (i : Int) + 2 < (bs.length : Int) := by omega
  have g3 := hc (i + 3) (by omega)
  have b3 := hb.at0 (i + 3)
  have hbi3 : (i : Int) + 3 < (bs.length : Int) := by omega
  clear hc
  have hf : Hid (zcc (bs.drop i) 4 = if (128 ≤ at0 bs (i + 1) ∧ at0 bs (i + 1) ≤ 191) ∧ (128 ≤ at0 bs (i + 2) ∧ at0 bs (i + 2) ≤ 191) ∧ (128 ≤ at0 bs (i + 3) ∧ at0 bs (i + 3) ≤ 191) then ((at0 bs i % 8 * 64 + at0 bs (i + 1) - 128) * 64 + at0 bs (i + 2) - 128) * 64 + at0 bs (i + 3) - 128 else -1) := by
   show zcc _ _ = _
   rw [zcc, if_neg (by decide), if_neg (by decide), if_neg (by decide)]
   simp only [zaP, v4, q0, q1, q2, q3, hlen, Bool.and_eq_true, decide_eq_true_eq]
   repeat' split
   all_goals first | rfl | omega
  clear q0 q1 q2 q3 hlen
  go_enter Tryz.func167, Tryz.ntmps167
  go_wp2
  go_rounds 4
  all_goals
   go_ret
   refine ⟨za6 ?_, by repeat (first | exact Ext.refl _ | apply Ext.alloc)⟩
   rw [hf.out]
   first | (rw [if_pos (by omega)]) | (rw [if_neg (by omega)])
def rV (rs : List Value) (j : Nat) : Value := rs[j]?.getD (.slice none 0 0)
def cR (cs : List (List Int × Int)) (j : Nat) : List Int := (cs[j]?.getD ([], 0)).1
def cW (cs : List (List Int × Int)) (j : Nat) : Int := (cs[j]?.getD ([], 0)).2
def zaI (w : World) (v : Value) (cs : List (List Int × Int)) : Prop :=
 ∃ (rs : List Value) (ao : Option Addr) (cap : Nat), v = .slice ao cs.length cap ∧ cs.length ≤ cap ∧ (∀ j, j < cs.length → zag w .i32 (rV rs j) (cR cs j)) ∧
  (0 < cs.length → ∃ b off, ao = some ⟨b, off, none⟩ ∧ ∀ j, j < cs.length → w.cell? ⟨b, off + j * 2, none⟩ = some (rV rs j) ∧ w.cell? ⟨b, off + j * 2 + 1, none⟩ = some (.int .i64 (cW cs j)))
theorem zaI.ext {w w' : World} {v : Value} {cs : List (List Int × Int)} (h : zaI w v cs) (he : Ext w w') : zaI w' v cs := by
 obtain ⟨rs, ao, cap, e, hc, hr, hx⟩ := h
 exact ⟨rs, ao, cap, e, hc, fun j hj => (hr j hj).ext he, fun hp => by
  obtain ⟨b, off, e2, hcell⟩ := hx hp
  exact ⟨b, off, e2, fun j hj => ⟨he.cell (hcell j hj).1, he.cell (hcell j hj).2⟩⟩⟩
theorem zcC (rs : List Value) (r : Value) (i : Nat) (h : i < rs.length) : rV (rs ++ [r]) i = rV rs i := by
 unfold rV; rw [List.getElem?_append_left h]
theorem zdu (rs : List Value) (r : Value) : rV (rs ++ [r]) rs.length = r := by simp [rV]
def zak (w : World) (base : Nat) (v : Value) (rs : List Value) (cs : List (List Int × Int)) : Prop :=
 rs.length = cs.length ∧ (∃ ys, w.ownsRow base 203 2 v cs.length ys ∧ ∀ j, j < cs.length → ys[j * 2]? = some (rV rs j) ∧ ys[j * 2 + 1]? = some (.int .i64 (cW cs j))) ∧
 (∀ j, j < cs.length → w.ownsRow base 21 1 (rV rs j) (cR cs j).length ((cR cs j).map (Value.int .i32))) ∧
 (∀ i j g, i < j → j < cs.length → (rV rs i).ownBlock = some g → (rV rs j).ownBlock ≠ some g)
theorem zak.ext {w w' : World} {base : Nat} {v : Value} {rs : List Value} {cs : List (List Int × Int)} (h : zak w base v rs cs) (he : Ext w w') : zak w' base v rs cs := by
 obtain ⟨h0, ⟨ys, h1, h2⟩, h3, h4⟩ := h
 exact ⟨h0, ⟨ys, he.owns h1, h2⟩, fun j hj => he.owns (h3 j hj), h4⟩
theorem zak.cls {w : World} {base : Nat} {v : Value} {rs : List Value} {cs : List (List Int × Int)} (h : zak w base v rs cs) : zaI w v cs := by
 obtain ⟨_, ⟨ys, h1, h2⟩, h3, _⟩ := h
 rcases h1.2 with ⟨rfl, h0⟩ | ⟨g, cap, cur, rfl, hb, hg, hn, hm, hs, ht⟩
 ·exact ⟨rs, none, 0, by rw [h0], by omega, fun j hj => by omega, fun hp => by omega⟩
 ·refine ⟨rs, _, cap, rfl, hn, fun j hj => zaf (h3 j hj), fun _ => ⟨g, 0, rfl, fun j hj => ?_⟩⟩
  have := h2 j hj
  rw [Nat.zero_add, h1.cellAt _ (by omega), h1.cellAt _ (by omega)]
  exact this
theorem zbN {w w' : World} {base : Nat} {e : TypeId} {size : Nat} {v : Value} {n : Nat} {xs : List Value} (ho : w.ownsRow base e size v n xs) (h : ∀ g, v.ownBlock = some g → w'.heap[g]? = w.heap[g]?) : w'.ownsRow base e size v n xs := by
 refine ⟨ho.1, ?_⟩
 rcases ho.2 with h1 | ⟨g, cap, cur, rfl, h2, h3, h4⟩
 ·exact .inl h1
 ·exact .inr ⟨g, cap, cur, rfl, h2, (h g rfl).trans h3, h4⟩
theorem zeg {w : World} {base : Nat} {e : TypeId} {size : Nat} {v : Value} {n : Nat} {xs : List Value} (ho : w.ownsRow base e size v n xs) {g : Nat} (hg : v.ownBlock = some g) : ∃ cur, w.heap[g]? = some (.cells cur e (0, 0)) := by
 rcases ho.2 with ⟨rfl, _⟩ | ⟨g', cap, cur, rfl, h2, h3, h4⟩
 ·simp [Value.ownBlock] at hg
 ·simp [Value.ownBlock] at hg
  subst hg
  exact ⟨cur, h3⟩
theorem zaW {w : World} {b1 b2 : Nat} {e1 e2 : TypeId} {s1 s2 : Nat} {v1 v2 : Value} {n1 n2 : Nat} {x1 x2 : List Value} (h1 : w.ownsRow b1 e1 s1 v1 n1 x1) (h2 : w.ownsRow b2 e2 s2 v2 n2 x2) (hne : e1 ≠ e2) {g : Nat} (hg : v1.ownBlock = some g) : v2.ownBlock ≠ some g := by
 intro hg2
 obtain ⟨c1, k1⟩ := zeg h1 hg
 obtain ⟨c2, k2⟩ := zeg h2 hg2
 rw [k1] at k2
 simp at k2
 exact hne k2.2
theorem ziU (rs : List Value) (m : Nat) (r : Value) (j : Nat) (hm : m < rs.length) : rV (rs.set m r) j = if j = m then r else rV rs j := by
 unfold rV
 by_cases h : j = m
 ·subst h; simp [hm]
 ·rw [if_neg h, List.getElem?_set_ne (by omega)]
theorem zip (cs : List (List Int × Int)) (m : Nat) (c : List Int × Int) (j : Nat) (hm : m < cs.length) : cR (cs.set m c) j = if j = m then c.1 else cR cs j := by
 unfold cR
 by_cases h : j = m
 ·subst h; simp [hm]
 ·rw [if_neg h, List.getElem?_set_ne (by omega)]
theorem zkm (cs : List (List Int × Int)) (m : Nat) (c : List Int × Int) (j : Nat) (hm : m < cs.length) : cW (cs.set m c) j = if j = m then c.2 else cW cs j := by
 unfold cW
 by_cases h : j = m
 ·subst h; simp [hm]
 ·rw [if_neg h, List.getElem?_set_ne (by omega)]
theorem zef (cs : List (List Int × Int)) (c : List Int × Int) (j : Nat) : cR (cs ++ [c]) j = if j = cs.length then c.1 else cR cs j := by
 unfold cR
 by_cases h : j = cs.length
 ·subst h; simp
 ·rw [if_neg h]
  by_cases h2 : j < cs.length
  ·rw [List.getElem?_append_left h2]
  ·rw [List.getElem?_eq_none (by simp; omega), List.getElem?_eq_none (by omega)]
theorem zd6 (cs : List (List Int × Int)) (c : List Int × Int) (j : Nat) : cW (cs ++ [c]) j = if j = cs.length then c.2 else cW cs j := by
 unfold cW
 by_cases h : j = cs.length
 ·subst h; simp
 ·rw [if_neg h]
  by_cases h2 : j < cs.length
  ·rw [List.getElem?_append_left h2]
  ·rw [List.getElem?_eq_none (by simp; omega), List.getElem?_eq_none (by omega)]
theorem zak.push {W W' : World} {base : Nat} {v v' r : Value} {rs : List Value} {cs : List (List Int × Int)} {xs : List Int} {d : Int} {ys : List Value}
  (h : zak W base v rs cs) (hy : W.ownsRow base 203 2 v cs.length ys) (hyy : ∀ j, j < cs.length → ys[j * 2]? = some (rV rs j) ∧ ys[j * 2 + 1]? = some (.int .i64 (cW cs j)))
  (hr : W.ownsRow base 21 1 r xs.length (xs.map (Value.int .i32))) (hfr : ∀ j g, j < cs.length → (rV rs j).ownBlock = some g → r.ownBlock ≠ some g)
  (ho : W'.ownsRow base 203 2 v' (cs.length + 1) (ys ++ [r, .int .i64 d])) (hg : W.grownBy W' v.ownBlock) : zak W' base v' (rs ++ [r]) (cs ++ [(xs, d)]) := by
 obtain ⟨h0, _, h3, h4⟩ := h
 have hyl := hy.1
 have keep : ∀ (u : Value) (m : Nat) (zs : List Value), W.ownsRow base 21 1 u m zs → W'.ownsRow base 21 1 u m zs := fun u m zs hu =>
  zbN hu (fun g hgu => hg.block g (hu.lt g hgu).2 (fun e => zaW hu hy (by decide) hgu e.symm))
 refine ⟨by simp [h0], ⟨_, by simpa using ho, fun j hj => ?_⟩, fun j hj => ?_, fun i j g hij hj hk => ?_⟩
 ·simp at hj
  by_cases e : j = cs.length
  ·subst e
   rw [← h0, zdu, h0, zd6, if_pos rfl]
   constructor
   ·rw [List.getElem?_append_right (by omega)]; simp [hyl]
   ·rw [List.getElem?_append_right (by omega)]; simp [hyl]
  ·rw [zcC rs r j (by omega), zd6, if_neg e, List.getElem?_append_left (by omega), List.getElem?_append_left (by omega)]
   exact hyy j (by omega)
 ·simp at hj
  rw [zef]
  by_cases e : j = cs.length
  ·subst e
   rw [← h0, zdu, h0, if_pos rfl]
   exact keep _ _ _ hr
  ·rw [zcC rs r j (by omega), if_neg e]
   exact keep _ _ _ (h3 j (by omega))
 ·simp at hj
  rw [zcC rs r i (by omega)] at hk
  by_cases e : j = cs.length
  ·subst e
   rw [← h0, zdu]
   exact hfr i g (by omega) hk
  ·rw [zcC rs r j (by omega)]
   exact h4 i j g hij (by omega) hk
theorem zak.grow {W W1 : World} {base g m cap H : Nat} {r' : Value} {rs : List Value} {cs : List (List Int × Int)} {x : Int}
  (h : zak W base (.slice (some ⟨g, 0, none⟩) cs.length cap) rs cs) (hm : m < cs.length) (hlt : ∀ i, i < cs.length → ∀ k, (rV rs i).ownBlock = some k → k < H)
  (ho : W1.ownsRow base 21 1 r' ((cR cs m).length + 1) ((cR cs m ++ [x]).map (Value.int .i32))) (hg : W.grownBy W1 (rV rs m).ownBlock) (hat : r'.ownBlock = (rV rs m).ownBlock ∨ r'.ownBlock = some H) :
  zak (W1.setCell ⟨g, m * 2, none⟩ r') base (.slice (some ⟨g, 0, none⟩) cs.length cap) (rs.set m r') (cs.set m (cR cs m ++ [x], cW cs m)) := by
 obtain ⟨h0, ⟨ys, hy, hyy⟩, h3, h4⟩ := h
 have hyl := hy.1
 have hy1 : W1.ownsRow base 203 2 (.slice (some ⟨g, 0, none⟩) cs.length cap) cs.length ys :=
  zbN hy (fun k hk => hg.block k (hy.lt k hk).2 (fun e => zaW hy (h3 m hm) (by decide) hk e.symm))
 have s1 := (hy1.stored (m * 2) r').1
 have ng : ∀ (u : Value) (n : Nat) (zs : List Value), W1.ownsRow base 21 1 u n zs → u.ownBlock ≠ some g := fun u n zs hu e => zaW hu hy1 (by decide) e rfl
 have keep : ∀ (u : Value) (n : Nat) (zs : List Value), W1.ownsRow base 21 1 u n zs → (W1.setCell ⟨g, m * 2, none⟩ r').ownsRow base 21 1 u n zs := fun u n zs hu =>
  zf hu (ng u n zs hu) _
 have old : ∀ j, j < cs.length → j ≠ m → W1.ownsRow base 21 1 (rV rs j) (cR cs j).length ((cR cs j).map (Value.int .i32)) := fun j hj hne =>
  zbN (h3 j hj) (fun k hk => hg.block k ((h3 j hj).lt k hk).2 (fun e => by
   rcases Nat.lt_or_gt_of_ne hne with h5 | h5
   ·exact h4 j m k h5 hm hk e.symm
   ·exact h4 m j k h5 hj e.symm hk))
 have new : ∀ j, j < cs.length → j ≠ m → ∀ k, (rV rs j).ownBlock = some k → r'.ownBlock ≠ some k := fun j hj hne k hk e => by
  rcases hat with h5 | h5
  ·rw [h5] at e
   rcases Nat.lt_or_gt_of_ne hne with h6 | h6
   ·exact h4 j m k h6 hm hk e
   ·exact h4 m j k h6 hj e hk
  ·rw [h5] at e
   have := hlt j hj k hk
   simp at e
   omega
 refine ⟨by simp [h0], ⟨ys.set (m * 2) r', by simpa using s1, fun j hj => ?_⟩, fun j hj => ?_, fun i j k hij hj hk => ?_⟩
 ·simp at hj
  rw [ziU rs m r' j (by omega), zkm cs m _ j hm]
  by_cases e : j = m
  ·subst e
   rw [if_pos rfl, if_pos rfl]
   exact ⟨List.getElem?_set_self (by omega), by rw [List.getElem?_set_ne (by omega)]; exact (hyy j hj).2⟩
  ·rw [if_neg e, if_neg e, List.getElem?_set_ne (by omega), List.getElem?_set_ne (by omega)]
   exact hyy j hj
 ·simp at hj
  rw [ziU rs m r' j (by omega), zip cs m _ j hm]
  by_cases e : j = m
  ·subst e
   rw [if_pos rfl, if_pos rfl]
   exact keep _ _ _ (by simpa using ho)
  ·rw [if_neg e, if_neg e]
   exact keep _ _ _ (old j hj e)
 ·simp at hj
  rw [ziU rs m r' i (by omega)] at hk
  rw [ziU rs m r' j (by omega)]
  by_cases e : i = m
  ·subst e
   rw [if_pos rfl] at hk
   rw [if_neg (by omega)]
   intro e2
   exact new j hj (by omega) k e2 hk
  ·rw [if_neg e] at hk
   by_cases e2 : j = m
   ·subst e2
    rw [if_pos rfl]
    exact new i (by omega) (by omega) k hk
   ·rw [if_neg e2]
    exact h4 i j k hij hj hk
theorem zal {w : World} (zs : List Value) (t : TypeId) : ∀ j u, zs[j]? = some u → (w.alloc (.cells zs.toArray t)).cell? ((⟨w.heap.size, 0, none⟩ : Addr).add j) = some u := by
 intro j u h
 rw [Addr.add_lit, Nat.zero_add, World.cell?_alloc_at _ _ _ _ rfl]
 simpa using h
theorem zby {a b : Value} (ha : a.oneCell' = true) (hb : b.oneCell' = true) : ∀ u ∈ [a, b], u.oneCell' = true := by
 intro u hu
 simp at hu
 rcases hu with rfl | rfl <;> assumption
theorem zdx {w : World} (k : IntKind) (zs : List Int) (t base n : Nat) (hn : n = zs.length) (hb : base ≤ w.heap.size) (hm : zs.length ≤ maxLen) : (w.alloc (.cells (zs.map (Value.int k)).toArray t)).ownsRow base t 1 (.slice (some ⟨w.heap.size, 0, none⟩) n n) zs.length (zs.map (Value.int k)) := by
 subst hn
 simpa using World.ownsRow_lit (w := w) (base := base) (e := t) (size := 1) (zs.map (Value.int k)).toArray zs.length hb hm (by simp)
structure Fr (S : Nat → Prop) (w w' : World) : Prop where
 os : w'.os = w.os
 tape : w'.tape = w.tape
 output : w'.output = w.output
 size : w.heap.size ≤ w'.heap.size
 block : ∀ k, k < w.heap.size → ¬ S k → w'.heap[k]? = w.heap[k]?
theorem Fr.refl (S : Nat → Prop) (w : World) : Fr S w w := ⟨rfl, rfl, rfl, Nat.le_refl _, fun _ _ _ => rfl⟩
theorem Fr.grown {S : Nat → Prop} {w W w3 : World} {row : Option Nat} (h : Fr S w W) (hg : W.grownBy w3 row) (hrow : ∀ k, row = some k → S k) : Fr S w w3 :=
 ⟨hg.os.trans h.os, hg.tape.trans h.tape, hg.output.trans h.output, Nat.le_trans h.size hg.size, fun i hi hn => (hg.block i (Nat.lt_of_lt_of_le hi h.size) (fun e => hn (hrow i e.symm))).trans (h.block i hi hn)⟩
theorem Fr.setCell {S : Nat → Prop} {w W : World} (h : Fr S w W) {a : Addr} (ha : S a.block) (u : Value) : Fr S w (W.setCell a u) :=
 h.grown (row := some a.block) ⟨rfl, rfl, rfl, by simp, fun k _ hk => Below.heap_setCell _ _ _ _ (fun e => hk (by rw [e]))⟩ (fun k hk => by simp at hk; subst hk; exact ha)
theorem Fr.ext {S : Nat → Prop} {w w' : World} (h : Fr S w w') {w0 : World} (h0 : Ext w0 w) (hS : ∀ k, S k → w0.heap.size ≤ k) : Ext w0 w' :=
 ⟨h.os.trans h0.os, h.tape.trans h0.tape, h.output.trans h0.output, Nat.le_trans h0.size h.size, fun i hi hn => (h.block i (Nat.lt_of_lt_of_le hi h0.size) (fun e => by have := hS i e; omega)).trans (h0.block i hi hn)⟩
theorem Fr.owns {S : Nat → Prop} {w w' : World} (h : Fr S w w') {base : Nat} {e : TypeId} {size : Nat} {v : Value} {n : Nat} {xs : List Value} (ho : w.ownsRow base e size v n xs) (hS : ∀ g, v.ownBlock = some g → ¬ S g) : w'.ownsRow base e size v n xs :=
 zbN ho (fun g hg => h.block g (ho.lt g hg).2 (hS g hg))
theorem Fr.of_ext {S : Nat → Prop} {a b : World} (h : Ext a b) : Fr S a b := ⟨h.os, h.tape, h.output, h.size, fun _ hi _ => h.heap hi⟩
theorem Fr.mono {S S' : Nat → Prop} {a b : World} (h : Fr S a b) (hs : ∀ k, S k → S' k) : Fr S' a b := ⟨h.os, h.tape, h.output, h.size, fun i hi hn => h.block i hi (fun e => hn (hs i e))⟩
def zdN (v : Value) (rs : List Value) (n : Nat) (g : Nat) : Prop := v.ownBlock = some g ∨ ∃ j, j < n ∧ (rV rs j).ownBlock = some g
theorem zak.fr {S : Nat → Prop} {w w' : World} {base : Nat} {v : Value} {rs : List Value} {cs : List (List Int × Int)} (h : zak w base v rs cs) (hf : Fr S w w') (hS : ∀ g, zdN v rs cs.length g → ¬ S g) : zak w' base v rs cs := by
 obtain ⟨h0, ⟨ys, h1, h2⟩, h3, h4⟩ := h
 exact ⟨h0, ⟨ys, hf.owns h1 (fun g hg => hS g (.inl hg)), h2⟩, fun j hj => hf.owns (h3 j hj) (fun g hg => hS g (.inr ⟨j, hj, hg⟩)), h4⟩
theorem zak.foot {w : World} {base : Nat} {v : Value} {rs : List Value} {cs : List (List Int × Int)} (h : zak w base v rs cs) {g : Nat} (hg : zdN v rs cs.length g) : base ≤ g ∧ g < w.heap.size := by
 obtain ⟨h0, ⟨ys, h1, h2⟩, h3, h4⟩ := h
 rcases hg with hg | ⟨j, hj, hg⟩
 ·exact h1.lt g hg
 ·exact (h3 j hj).lt g hg
def kkC (k : Int) (cs : List (List Int × Int)) : Nat → Int
 | 0 => k
 | j + 1 => kkC k cs j + ((cR cs j).length : Int) + 1
def Small (k : Int) (cs : List (List Int × Int)) : Prop := ∀ j, j ≤ cs.length → 0 ≤ kkC k cs j ∧ kkC k cs j ≤ 4398046511104
def zah (w : World) (v : Value) (n : Nat) (A : Nat → Value) : Prop :=
 ∃ ao cap, v = .slice ao n cap ∧ n ≤ cap ∧ (0 < n → ∃ b off, ao = some ⟨b, off, none⟩ ∧ ∀ j, j < n → w.cell? ⟨b, off + j, none⟩ = some (A j))
def zaH (w : World) (v : Value) (n : Nat) (A B : Nat → Value) : Prop :=
 ∃ ao cap, v = .slice ao n cap ∧ n ≤ cap ∧ (0 < n → ∃ b off, ao = some ⟨b, off, none⟩ ∧ ∀ j, j < n → w.cell? ⟨b, off + j * 2, none⟩ = some (A j) ∧ w.cell? ⟨b, off + j * 2 + 1, none⟩ = some (B j))
theorem zah.ext {w w' : World} {v : Value} {n : Nat} {A : Nat → Value} (h : zah w v n A) (he : Ext w w') : zah w' v n A := by
 obtain ⟨ao, cap, e, hc, hx⟩ := h
 exact ⟨ao, cap, e, hc, fun hp => by obtain ⟨b, off, e2, hcell⟩ := hx hp; exact ⟨b, off, e2, fun j hj => he.cell (hcell j hj)⟩⟩
theorem zaH.ext {w w' : World} {v : Value} {n : Nat} {A B : Nat → Value} (h : zaH w v n A B) (he : Ext w w') : zaH w' v n A B := by
 obtain ⟨ao, cap, e, hc, hx⟩ := h
 exact ⟨ao, cap, e, hc, fun hp => by obtain ⟨b, off, e2, hcell⟩ := hx hp; exact ⟨b, off, e2, fun j hj => ⟨he.cell (hcell j hj).1, he.cell (hcell j hj).2⟩⟩⟩
def zaD (w : World) (base : Nat) (T : TypeId) (v : Value) (n : Nat) (A : Nat → Value) : Prop := ∃ ys, w.ownsRow base T 1 v n ys ∧ ∀ j, j < n → ys[j]? = some (A j)
def zaR (w : World) (base : Nat) (T : TypeId) (v : Value) (n : Nat) (A B : Nat → Value) : Prop := ∃ ys, w.ownsRow base T 2 v n ys ∧ ∀ j, j < n → ys[j * 2]? = some (A j) ∧ ys[j * 2 + 1]? = some (B j)
section
variable {w w' : World} {base : Nat} {T : TypeId} {v : Value} {n : Nat} {A B : Nat → Value}
theorem zaD.ext (h : zaD w base T v n A) (he : Ext w w') : zaD w' base T v n A := by obtain ⟨ys, h1, h2⟩ := h; exact ⟨ys, he.owns h1, h2⟩
theorem zaR.ext (h : zaR w base T v n A B) (he : Ext w w') : zaR w' base T v n A B := by obtain ⟨ys, h1, h2⟩ := h; exact ⟨ys, he.owns h1, h2⟩
theorem zaD.lt (h : zaD w base T v n A) : ∀ g, v.ownBlock = some g → base ≤ g ∧ g < w.heap.size := by obtain ⟨ys, h1, _⟩ := h; exact h1.lt
theorem zaR.lt (h : zaR w base T v n A B) : ∀ g, v.ownBlock = some g → base ≤ g ∧ g < w.heap.size := by obtain ⟨ys, h1, _⟩ := h; exact h1.lt
theorem zaD.fr {S : Nat → Prop} (h : zaD w base T v n A) (hf : Fr S w w') (hS : ∀ g, v.ownBlock = some g → ¬ S g) : zaD w' base T v n A := by obtain ⟨ys, h1, h2⟩ := h; exact ⟨ys, hf.owns h1 hS, h2⟩
theorem zaR.fr {S : Nat → Prop} (h : zaR w base T v n A B) (hf : Fr S w w') (hS : ∀ g, v.ownBlock = some g → ¬ S g) : zaR w' base T v n A B := by obtain ⟨ys, h1, h2⟩ := h; exact ⟨ys, hf.owns h1 hS, h2⟩
theorem zaD.mono {base' : Nat} (h : zaD w base T v n A) (hb : base' ≤ base) : zaD w base' T v n A := by obtain ⟨ys, h1, h2⟩ := h; exact ⟨ys, zas h1 hb, h2⟩
theorem zaR.mono {base' : Nat} (h : zaR w base T v n A B) (hb : base' ≤ base) : zaR w base' T v n A B := by obtain ⟨ys, h1, h2⟩ := h; exact ⟨ys, zas h1 hb, h2⟩
theorem zaD.congr {A' : Nat → Value} (h : zaD w base T v n A) (e : ∀ j, j < n → A j = A' j) : zaD w base T v n A' := by obtain ⟨ys, h1, h2⟩ := h; exact ⟨ys, h1, fun j hj => by rw [← e j hj]; exact h2 j hj⟩
theorem zaR.congr {A' B' : Nat → Value} (h : zaR w base T v n A B) (e : ∀ j, j < n → A j = A' j ∧ B j = B' j) : zaR w base T v n A' B' := by obtain ⟨ys, h1, h2⟩ := h; exact ⟨ys, h1, fun j hj => by rw [← (e j hj).1, ← (e j hj).2]; exact h2 j hj⟩
theorem zaD.reads (h : zaD w base T v n A) : zah w v n A := by
 obtain ⟨ys, h1, h2⟩ := h
 rcases h1.2 with ⟨rfl, h0⟩ | ⟨g, cap, cur, rfl, hb, hg, hn, hm, hs, ht⟩
 ·exact ⟨none, 0, by rw [h0], by omega, fun hp => by omega⟩
 ·refine ⟨_, cap, rfl, hn, fun _ => ⟨g, 0, rfl, fun j hj => ?_⟩⟩
  rw [Nat.zero_add, h1.cellAt _ (by omega)]
  exact h2 j hj
theorem zaR.reads (h : zaR w base T v n A B) : zaH w v n A B := by
 obtain ⟨ys, h1, h2⟩ := h
 rcases h1.2 with ⟨rfl, h0⟩ | ⟨g, cap, cur, rfl, hb, hg, hn, hm, hs, ht⟩
 ·exact ⟨none, 0, by rw [h0], by omega, fun hp => by omega⟩
 ·refine ⟨_, cap, rfl, hn, fun _ => ⟨g, 0, rfl, fun j hj => ?_⟩⟩
  rw [Nat.zero_add, h1.cellAt _ (by omega), h1.cellAt _ (by omega)]
  exact h2 j hj
theorem zaD.form (h : zaD w base T v n A) : (v = .slice none 0 0 ∧ n = 0) ∨ ∃ g cap, v = .slice (some ⟨g, 0, none⟩) n cap := by
 obtain ⟨ys, h1, h2⟩ := h
 rcases h1.2 with h0 | ⟨g, cap, cur, rfl, _⟩
 ·exact .inl h0
 ·exact .inr ⟨g, cap, rfl⟩
theorem zaR.form (h : zaR w base T v n A B) : (v = .slice none 0 0 ∧ n = 0) ∨ ∃ g cap, v = .slice (some ⟨g, 0, none⟩) n cap := by
 obtain ⟨ys, h1, h2⟩ := h
 rcases h1.2 with h0 | ⟨g, cap, cur, rfl, _⟩
 ·exact .inl h0
 ·exact .inr ⟨g, cap, rfl⟩
theorem zaD.cell {g cap j : Nat} (h : zaD w base T (.slice (some ⟨g, 0, none⟩) n cap) n A) (hj : j < n) : w.cell? ⟨g, j, none⟩ = some (A j) ∧ w.frozen? ⟨g, j, none⟩ = false := by
 obtain ⟨ys, h1, h2⟩ := h
 exact ⟨by rw [h1.cellAt _ (by omega)]; exact h2 j hj, h1.frozenAt j⟩
theorem zaR.cell {g cap j : Nat} (h : zaR w base T (.slice (some ⟨g, 0, none⟩) n cap) n A B) (hj : j < n) : (w.cell? ⟨g, j * 2, none⟩ = some (A j) ∧ w.frozen? ⟨g, j * 2, none⟩ = false) ∧ w.cell? ⟨g, j * 2 + 1, none⟩ = some (B j) ∧ w.frozen? ⟨g, j * 2 + 1, none⟩ = false := by
 obtain ⟨ys, h1, h2⟩ := h
 exact ⟨⟨by rw [h1.cellAt _ (by omega)]; exact (h2 j hj).1, h1.frozenAt _⟩, by rw [h1.cellAt _ (by omega)]; exact (h2 j hj).2, h1.frozenAt _⟩
theorem zaD.set {g cap j : Nat} (h : zaD w base T (.slice (some ⟨g, 0, none⟩) n cap) n A) (hj : j < n) (u : Value) : zaD (w.setCell ⟨g, j, none⟩ u) base T (.slice (some ⟨g, 0, none⟩) n cap) n (fun i => if i = j then u else A i) := by
 obtain ⟨ys, h1, h2⟩ := h
 have hl := h1.1
 refine ⟨_, (h1.stored j u).1, fun i hi => ?_⟩
 dsimp only
 by_cases e : i = j
 ·subst e; rw [if_pos rfl, List.getElem?_set_self (by omega)]
 ·rw [if_neg e, List.getElem?_set_ne (by omega)]; exact h2 i hi
theorem zaR.set {g cap j : Nat} (h : zaR w base T (.slice (some ⟨g, 0, none⟩) n cap) n A B) (hj : j < n) (u u' : Value) :
  zaR ((w.setCell ⟨g, j * 2, none⟩ u).setCell ⟨g, j * 2 + 1, none⟩ u') base T (.slice (some ⟨g, 0, none⟩) n cap) n (fun i => if i = j then u else A i) (fun i => if i = j then u' else B i) := by
 obtain ⟨ys, h1, h2⟩ := h
 have hl := h1.1
 refine ⟨_, ((h1.stored (j * 2) u).1.stored (j * 2 + 1) u').1, fun i hi => ?_⟩
 dsimp only
 by_cases e : i = j
 ·subst e
  rw [if_pos rfl, if_pos rfl, List.getElem?_set_ne (by omega), List.getElem?_set_self (by omega), List.getElem?_set_self (by simp; omega)]
  exact ⟨rfl, rfl⟩
 ·rw [if_neg e, if_neg e, List.getElem?_set_ne (by omega), List.getElem?_set_ne (by omega), List.getElem?_set_ne (by omega), List.getElem?_set_ne (by omega)]
  exact h2 i hi
end
theorem zlR {w' : World} {base : Nat} {T : TypeId} {v' : Value} {n : Nat} {A : Nat → Value} {ys : List Value} {u : Value} (hl : ys.length = n) (h2 : ∀ j, j < n → ys[j]? = some (A j)) (ho : w'.ownsRow base T 1 v' (n + 1) (ys ++ [u])) : zaD w' base T v' (n + 1) (fun j => if j = n then u else A j) := by
 refine ⟨_, ho, fun j hj => ?_⟩
 dsimp only
 by_cases e : j = n
 ·subst e; rw [if_pos rfl, List.getElem?_append_right (by omega)]; simp [hl]
 ·rw [if_neg e, List.getElem?_append_left (by omega)]; exact h2 j (by omega)
def dgs : Nat → Nat → List Int
 | 0, _ => []
 | f + 1, k => if k = 0 then [] else dgs f (k / 10) ++ [48 + ((k % 10 : Nat) : Int)]
theorem zjd : ∀ (f g k : Nat), k ≤ f → k ≤ g → dgs f k = dgs g k
  | 0, 0, _, _, _ => rfl
  | 0, g + 1, k, h, _ => by have : k = 0 := by omega
                            subst this; simp [dgs]
  | f + 1, 0, k, _, h => by have : k = 0 := by omega
                            subst this; simp [dgs]
  | f + 1, g + 1, k, h1, h2 => by
    simp only [dgs]
    split
    · rfl
    · rw [zjd f g (k / 10) (by omega) (by omega)]
def dg (k : Nat) : List Int := dgs k k
theorem zfd (k : Nat) (h : 0 < k) : dg k = dg (k / 10) ++ [48 + ((k % 10 : Nat) : Int)] := by
 unfold dg
 obtain ⟨m, rfl⟩ : ∃ m, k = m + 1 := ⟨k - 1, by omega⟩
 rw [dgs, if_neg (by omega), zjd m ((m + 1) / 10) _ (by omega) (Nat.le_refl _)]
theorem dg_len (k : Nat) : (dg k).length ≤ k := by
 have : ∀ f k, k ≤ f → (dgs f k).length ≤ k := by
  intro f
  induction f with
  | zero => intro k h; simp [dgs]
  | succ f ih =>
   intro k h
   rw [dgs]
   split
   ·simp
   ·have := ih (k / 10) (by omega); simp; omega
 exact this k k (Nat.le_refl _)
def mtx (k : Int) : ByteArray := if k ≤ 0 then zv [109, 48] else zv (109 :: dg k.toNat)
theorem zbX (xs ys : List Int) : zv xs ++ zv ys = zv (xs ++ ys) := by
 apply WideShapes.bytes_inj
 rw [ByteArray.data_append]
 simp [zbq]
set_option maxRecDepth 100000 in
theorem zbP (k : Int) (w : World) (hk : k ≤ 4398046511104) : Calls Tryz.prog 65 #[.int .i64 k] w fun e w' => e = .returned (.string (mtx k)) ∧ Ext w w' := by
 by_cases h0 : k ≤ 0
 ·have H : Hid (mtx k = { data := #[109, 48] }) := by show _ = _; rw [mtx, if_pos h0]; rfl
  go_enter Tryz.func65, Tryz.ntmps65
  go_wp2
  go_ret
  exact ⟨zdB H.out.symm, Ext.refl _⟩
 ·obtain ⟨m, rfl⟩ := Int.eq_ofNat_of_zero_le (show 0 ≤ k by omega)
  have H : Hid (mtx (m : Int) = zv (109 :: dg m)) := by show _ = _; rw [mtx, if_neg h0, Int.toNat_natCast]
  have cv : ∀ (W : World) (z : Int), (convert 25 9 (.slice (some ⟨W.heap.size, 0, none⟩) 1 1)).run Tryz.prog (W.alloc (.cells #[.int .u8 z] 5)) = .ok (.string (zv [z])) (W.alloc (.cells #[.int .u8 z] 5)) :=
   fun W z => zdF _ _ _ _ Tryz.underlying25 Tryz.underlying5 Tryz.underlying9 _ _ (zjl .u8 [z] _ _ rfl)
  go_enter Tryz.func65, Tryz.ntmps65
  go_wp2
  go_loopw [0, 3] (fun a o wr => ∃ (q : Nat) (acc : List Int), q ≤ m ∧ a = .int .i64 q ∧ o = .string (zv acc) ∧ Hid (dg m = dg q ++ acc) ∧ acc.length ≤ m ∧ Ext w wr) (fun a _ _ => (intOf a).toNat)
  case atStart => exact ⟨m, [], Nat.le_refl _, rfl, rfl, by show _ = _; simp, by simp, Ext.refl _⟩
  case round =>
   obtain ⟨q, acc, hq, rfl, rfl, HD, hacc, hext⟩ := hrel
   by_cases hlt : 0 < q
   ·have hb : (0 : Int) < (q : Int) := by omega
    have hc1 := cv wr (48 + (q : Int) % 10)
    have hs1 : (zv [48 + (q : Int) % 10]).size + (zv acc).size ≤ 9223372036854775807 := by rw [zai, zai]; simp; omega
    have hadd := fun W => run_string_add_sum (P := Tryz.prog) W _ _ hs1
    have hst := zfd q hlt
    have HD2 : Hid (dg m = dg (q / 10) ++ ((48 + (q : Int) % 10) :: acc)) := by
     show _ = _
     rw [HD.out, hst, List.append_assoc]
     simp
    have hal : acc.length + 1 ≤ m := by
     have h1 := congrArg List.length HD2.out
     have h2 := dg_len m
     simp at h1; omega
    rw [zbX] at hadd
    clear cv hs1 hst
    go_wp2
    go_roundw
    case rel => exact ⟨q / 10, _, by omega, by go_num, rfl, HD2, by simp; omega, hext.alloc _⟩
    case measure => simp [intOf]; omega
   ·have hb : ¬ (0 : Int) < (q : Int) := by omega
    have hq0 : q = 0 := by omega
    have hs1 : (zv [109]).size + (zv acc).size ≤ 9223372036854775807 := by rw [zai, zai]; simp; omega
    have e1 : ({ data := #[109] } : ByteArray) = zv [109] := rfl
    have hadd := fun W => run_string_add_sum (P := Tryz.prog) W _ _ hs1
    rw [zbX, ← e1] at hadd
    have hfin : Hid (mtx (m : Int) = zv ([109] ++ acc)) := by
     show _ = _
     rw [H.out, HD.out, hq0]; rfl
    clear cv hs1 hq0 e1
    go_wp2
    go_ret
    exact ⟨zdB hfin.out.symm, hext⟩
def noS : ByteArray := { data := #[] }
theorem zdn : (Tryz.prog.info? 9).map (fun i => (i.zero, i.size, i.bytes)) = some (some (.string noS), 1, 16) := by kernel_rfl
theorem zbF (va vb : Value) (n : Nat) (tx : Nat → ByteArray) (w : World) (ha : zah w va n (fun j => .string (tx j))) (hb : zah w vb n (fun j => .string (tx j))) (hl : n ≤ 4398046511104) :
  Calls Tryz.prog 38 #[va, vb] w fun e w' => e = .returned (.bool true) ∧ Ext w w' := by
 obtain ⟨ao, ca, rfl, hca, hxa⟩ := ha
 obtain ⟨bo, cb, rfl, hcb, hxb⟩ := hb
 by_cases h0 : n = 0
 ·subst h0
  clear hxa hxb
  go_enter Tryz.func38, Tryz.ntmps38
  go_wp2
  go_loop [5] (fun i => i = .int .i64 0) (fun _ => 0)
  case atStart => rfl
  case round =>
   subst hrel
   go_wp2
   go_ret
   exact ⟨rfl, Ext.refl _⟩
 ·obtain ⟨b1, o1, rfl, h1⟩ := hxa (by omega)
  obtain ⟨b2, o2, rfl, h2⟩ := hxb (by omega)
  clear hxa hxb
  have H1 := zi h1
  have H2 := zi h2
  clear h1 h2
  go_enter Tryz.func38, Tryz.ntmps38
  go_wp2
  go_loopw [5] (fun i w' => ∃ k : Nat, k ≤ n ∧ i = .int .i64 k ∧ Ext w w') (fun i _ => n - (intOf i).toNat)
  case atStart => exact ⟨0, Nat.zero_le _, rfl, Ext.refl _⟩
  case round =>
   obtain ⟨k, hk, rfl, hext⟩ := hrel
   by_cases hlt : k < n
   ·have g1 := hext.cell ((zg H1) k hlt)
    have g3 := hext.cell ((zg H2) k hlt)
    have bk : (k : Int) < (n : Int) := by omega
    go_wp2
    go_quiet (fail)
    go_wp2
    go_roundw
    case rel => exact ⟨k + 1, by omega, by go_num, hext.drewN _⟩
    case measure => simp [intOf]; omega
   ·go_wp2
    go_ret
    exact ⟨rfl, hext⟩
def mkT (k : Int) (j : Nat) : Value := .string (mtx (k + 2 * (j : Int)))
def mkS (k : Int) (j : Nat) : Value := .string (mtx (k + (j : Int)))
theorem zbz (base : Nat) (v : Value) (n : Nat) (A : Nat → Value) (k : Int) (w : World) (hv : zaD w base 9 v n A) (hn : n ≤ 1099511627776) (hk : 0 ≤ k) (hk2 : k ≤ 1099511627776) :
  Calls Tryz.prog 41 #[v, .int .i64 k] w fun e w' => e = .returned (.int .i64 (k + (n : Int))) ∧ zaD w' base 9 v n (mkS k) ∧ Fr (fun g => v.ownBlock = some g) w w' := by
 have HV := zi hv
 rcases hv.form with ⟨rfl, h0⟩ | ⟨g, cap, rfl⟩
 ·subst h0
  clear hv
  go_enter Tryz.func41, Tryz.ntmps41
  go_wp2
  go_loop [1, 5] (fun a i => a = .int .i64 k ∧ i = .int .i64 0) (fun _ _ => 0)
  case atStart => exact ⟨rfl, rfl⟩
  case round =>
   obtain ⟨rfl, rfl⟩ := hrel
   go_wp2
   go_ret
   exact ⟨za6 (by simp), (zg HV).congr (fun j hj => by omega), Fr.refl _ _⟩
 ·clear hv
  go_enter Tryz.func41, Tryz.ntmps41
  go_wp2
  go_loopw [1, 5] (fun a i wr => ∃ j : Nat, j ≤ n ∧ a = .int .i64 (k + (j : Int)) ∧ i = .int .i64 j ∧ Hid (zaD wr base 9 (.slice (some ⟨g, 0, none⟩) n cap) n (fun i => if i < j then mkS k i else A i)) ∧ Hid (Fr (fun q => (Value.slice (some ⟨g, 0, none⟩) n cap).ownBlock = some q) w wr)) (fun _ i _ => n - (intOf i).toNat)
  case atStart => exact ⟨0, Nat.zero_le _, by go_num, rfl, (zg HV).congr (fun j hj => by simp), Fr.refl _ _⟩
  case round =>
   obtain ⟨j, hj, rfl, rfl, HO, HF⟩ := hrel
   by_cases hlt : j < n
   ·have bj : (j : Int) < (n : Int) := by omega
    obtain ⟨K, hK⟩ : ∃ K, K = k + (j : Int) := ⟨_, rfl⟩
    have HK := zi hK
    have hKb : 0 ≤ K ∧ K ≤ 2199023255552 := by omega
    rw [← hK]
    clear hK
    go_wp2_with fail
    refine (zbP K _ (by omega)).mono ?_
    rintro e w1 ⟨rfl, F1⟩
    have hO1 := (zg HO).ext F1
    obtain ⟨c0, f0⟩ := hO1.cell hlt
    have hS := hO1.set hlt (.string (mtx K))
    have HS := zi (hS.congr (A' := fun i => if i < j + 1 then mkS k i else A i) (fun i hi => by
     by_cases e : i = j
     ·subst e
      rw [if_pos rfl, if_pos (by omega), mkS, ← zg HK]
     ·rw [if_neg e]
      by_cases e2 : i < j
      ·rw [if_pos e2, if_pos (by omega)]
      ·rw [if_neg e2, if_neg (by omega)]))
    have HF2 := zi ((((zg HF).grown F1 (fun q hq => by simp at hq)).setCell (a := ⟨g, j, none⟩) rfl (.string (mtx K))))
    clear hO1 hS
    go_wp2
    go_roundw
    case rel => exact ⟨j + 1, by omega, by rw [zg HK]; go_num, by go_num, HS, HF2⟩
    case measure => simp [intOf]; omega
   ·obtain rfl : j = n := by omega
    have HFIN := zi ((zg HO).congr (A' := mkS k) (fun i hi => by simp [hi]))
    go_wp2
    go_ret
    exact ⟨rfl, zg HFIN, zg HF⟩
theorem zbx (v : Value) (n : Nat) (k : Int) (w : World) (hv : zah w v n (mkS k)) (hn : n ≤ 1099511627776) (hk : 0 ≤ k) (hk2 : k ≤ 1099511627776) :
  Calls Tryz.prog 44 #[v, .int .i64 k] w fun e w' => e = .returned (.int .i64 (k + (n : Int))) ∧ Ext w w' := by
 obtain ⟨ao, ca, rfl, hca, hxa⟩ := hv
 by_cases h0 : n = 0
 ·subst h0
  clear hxa
  go_enter Tryz.func44, Tryz.ntmps44
  go_wp2
  go_loop [1, 5] (fun a i => a = .int .i64 k ∧ i = .int .i64 0) (fun _ _ => 0)
  case atStart => exact ⟨rfl, rfl⟩
  case round =>
   obtain ⟨rfl, rfl⟩ := hrel
   go_wp2
   go_ret
   exact ⟨za6 (by simp), Ext.refl _⟩
 ·obtain ⟨b, off, rfl, hc⟩ := hxa (by omega)
  have HC := zi hc
  clear hxa hc
  go_enter Tryz.func44, Tryz.ntmps44
  go_wp2
  go_loopw [1, 5] (fun a i wr => ∃ j : Nat, j ≤ n ∧ a = .int .i64 (k + (j : Int)) ∧ i = .int .i64 j ∧ Ext w wr) (fun _ i _ => n - (intOf i).toNat)
  case atStart => exact ⟨0, Nat.zero_le _, by go_num, rfl, Ext.refl _⟩
  case round =>
   obtain ⟨j, hj, rfl, rfl, hext⟩ := hrel
   by_cases hlt : j < n
   ·have bj : (j : Int) < (n : Int) := by omega
    have g1 := hext.cell ((zg HC) j hlt)
    simp only [mkS] at g1
    obtain ⟨K, hK⟩ : ∃ K, K = k + (j : Int) := ⟨_, rfl⟩
    have HK := zi hK
    have hKb : 0 ≤ K ∧ K ≤ 2199023255552 := by omega
    rw [← hK] at g1 ⊢
    clear hK
    go_wp2
    go_region_held3 (fun W => Ext wr W ∧ W.cell? ⟨b, off + j, none⟩ = some (.string (mtx K))) (first | exact ⟨(Ext.refl wr).drew, g1⟩ | exact ⟨(Ext.refl wr).drew.trans he', he'.cell g1⟩) (first | (go_at_call 65; refine (zbP K _ (by omega)).mono ?_; rintro e w' ⟨rfl, he'⟩))
    rename_i hS
    have hE := hext.trans hS.1
    clear hS
    go_wp2
    go_roundw
    case rel => exact ⟨j + 1, by omega, by rw [zg HK]; go_num, by go_num, hE⟩
    case measure => simp [intOf]; omega
   ·obtain rfl : j = n := by omega
    go_wp2
    go_ret
    exact ⟨rfl, hext⟩
theorem zjh (va vb : Value) (xs ys : List Int) (w : World) (ha : zag w .u8 va xs) (hb : zag w .u8 vb ys) (hx : xs.length ≤ 4398046511104) :
  Calls Tryz.prog 13 #[va, vb] w fun e w' => e = .returned (.bool (decide (xs = ys))) ∧ Ext w w' := by
 obtain ⟨ao, ca, rfl, hca, hra⟩ := ha
 obtain ⟨bo, cb, rfl, hcb, hrb⟩ := hb
 by_cases hl : xs.length = ys.length
 ·have hlB : ((xs.length : Int) != (ys.length : Int)) = false := by simp [hl]
  by_cases h0 : xs.length = 0
  ·have ex : xs = [] := List.eq_nil_of_length_eq_zero h0
   have ey : ys = [] := List.eq_nil_of_length_eq_zero (by omega)
   subst ex; subst ey
   clear hra hrb
   go_enter Tryz.func13, Tryz.ntmps13
   go_wp2
   go_loop [5] (fun i => i = .int .i64 0) (fun _ => 0)
   case atStart => rfl
   case round =>
    subst hrel
    go_wp2
    go_ret
    exact ⟨rfl, Ext.refl _⟩
  ·obtain ⟨b1, o1, rfl, h1⟩ := hra (by omega)
   obtain ⟨b2, o2, rfl, h2⟩ := hrb (by omega)
   clear hra hrb
   have HL : Hid (xs.length = ys.length) := hl
   have hxy : xs.length ≤ ys.length := by omega
   have hyx : ys.length ≤ xs.length := by omega
   clear hl
   go_enter Tryz.func13, Tryz.ntmps13
   go_wp2
   go_loopw [5] (fun i w' => ∃ k : Nat, k ≤ xs.length ∧ i = .int .i64 k ∧ Hid (xs.take k = ys.take k) ∧ ∃ n, w' = w.drewN n) (fun i _ => xs.length - (intOf i).toNat)
   case atStart => exact ⟨0, Nat.zero_le _, rfl, rfl, 0, rfl⟩
   case round =>
    obtain ⟨k, hk, rfl, ht, n, rfl⟩ := hrel
    by_cases hlt : k < xs.length
    ·have g1 := h1 k hlt
     have g2 := h2 k (by omega)
     have b1' : (k : Int) < (xs.length : Int) := by omega
     have b2' : (k : Int) < (ys.length : Int) := by omega
     clear h1 h2
     by_cases he : at0 xs k = at0 ys k
     ·have HE : Hid (xs.take (k + 1) = ys.take (k + 1)) := zl3 hlt (by omega) ht.out he
      have hne : (at0 xs k != at0 ys k) = false := by simp [he]
      clear he
      go_wp2
      go_quiet (fail)
      go_wp2
      go_roundw
      case rel => exact ⟨k + 1, by omega, by go_num, HE, _, rfl⟩
      case measure => simp [intOf]; omega
     ·have HE : Hid (¬ xs = ys) := zmd he
      have hne : (at0 xs k != at0 ys k) = true := by simp [he]
      clear he
      go_wp2
      go_quiet (fail)
      go_wp2
      go_ret
      exact ⟨zw (by simp [HE.out]), by repeat (first | exact Ext.refl _ | apply Ext.drewN)⟩
    ·have HE : Hid (xs = ys) := by
      have := ht.out
      rwa [List.take_of_length_le (by omega), List.take_of_length_le (by omega)] at this
     go_wp2
     go_ret
     exact ⟨zw (by simp [HE.out]), (Ext.refl _).drewN _⟩
 ·have hlB : ((xs.length : Int) != (ys.length : Int)) = true := by simp; omega
  have HE : Hid (¬ xs = ys) := fun e => hl (by rw [e])
  go_enter Tryz.func13, Tryz.ntmps13
  go_wp2
  go_ret
  exact ⟨zw (by simp [HE.out]), Ext.refl _⟩
theorem zeW (va vb : Value) (xs : List Int) (w : World) (ha : zag w .u8 va xs) (hb : zag w .u8 vb xs) (hx : xs.length ≤ 4398046511104) :
  Calls Tryz.prog 13 #[va, vb] w fun e w' => e = .returned (.bool true) ∧ Ext w w' :=
 (zjh va vb xs xs w ha hb hx).mono fun e w' h => ⟨h.1.trans (zw (by simp)), h.2⟩
def zcy (k : Int) (n : Nat) : List Int := (List.range n).map fun (j : Nat) => IntKind.u8.wrap (k + (j : Int))
theorem zd5 (k : Int) (n : Nat) : (zcy k n).length = n := by simp [zcy]
theorem mkU8_at (k : Int) (n j : Nat) (h : j < n) : at0 (zcy k n) j = IntKind.u8.wrap (k + (j : Int)) := by simp [at0, zcy, h]
def zeS (k : Int) (xs : List Value) (j : Nat) : List Value := ((zcy k j).map (Value.int .u8)) ++ xs.drop j
theorem zkE (k : Int) (xs : List Value) : zeS k xs 0 = xs := by simp [zeS, zcy]
theorem zki (k : Int) (xs : List Value) (j : Nat) (h : j < xs.length) : (zeS k xs j).set j (.int .u8 (IntKind.u8.wrap (k + (j : Int)))) = zeS k xs (j + 1) := by
 have e : zcy k (j + 1) = zcy k j ++ [IntKind.u8.wrap (k + (j : Int))] := by simp [zcy, List.range_succ]
 have hl : ((zcy k j).map (Value.int .u8)).length = j := by simp [zd5]
 unfold zeS
 rw [e, List.set_append_right _ _ (by omega), hl, Nat.sub_self, List.drop_eq_getElem_cons h, List.set_cons_zero]
 simp
theorem zlC (k : Int) (xs : List Value) (n : Nat) (h : xs.length = n) : zeS k xs n = (zcy k n).map (Value.int .u8) := by
 unfold zeS
 rw [List.drop_of_length_le (by omega)]
 simp
theorem zes (base : Nat) (v : Value) (n : Nat) (xs : List Value) (k : Int) (w : World) (hv : w.ownsRow base 5 1 v n xs) (hn : n ≤ 4398046511104) (hk : 0 ≤ k) (hk2 : k ≤ 4398046511104) :
  Calls Tryz.prog 16 #[v, .int .i64 k] w fun e w' => e = .returned (.int .i64 (k + (n : Int))) ∧ w'.ownsRow base 5 1 v n ((zcy k n).map (Value.int .u8)) ∧ w.grownBy w' v.ownBlock := by
 have hxl : xs.length = n := by have := hv.1; omega
 rcases hv.2 with ⟨rfl, h0⟩ | ⟨g, cap, cur, hval, hrest⟩
 ·subst h0
  go_enter Tryz.func16, Tryz.ntmps16
  go_wp2
  go_loop [1, 5] (fun a i => a = .int .i64 k ∧ i = .int .i64 0) (fun _ _ => 0)
  case atStart => exact ⟨rfl, rfl⟩
  case round =>
   obtain ⟨rfl, rfl⟩ := hrel
   go_wp2
   go_ret
   exact ⟨za6 (by simp), by simpa [zcy] using World.ownsRow_nil _ _ _ _, World.grownBy.refl _ _⟩
 ·clear hrest
  subst hval
  go_enter Tryz.func16, Tryz.ntmps16
  go_wp2
  go_loopw [1, 5] (fun a i wr => ∃ j : Nat, j ≤ n ∧ a = .int .i64 (k + (j : Int)) ∧ i = .int .i64 j ∧ wr.ownsRow base 5 1 (.slice (some ⟨g, 0, none⟩) n cap) n (zeS k xs j) ∧ w.grownBy wr (some g)) (fun _ i _ => n - (intOf i).toNat)
  case atStart => exact ⟨0, Nat.zero_le _, by go_num, rfl, by rw [zkE]; exact hv, World.grownBy.refl _ _⟩
  case round =>
   obtain ⟨j, hj, rfl, rfl, hown, hgr⟩ := hrel
   by_cases hlt : j < n
   ·have hfz := hown.frozenAt j
    have hst := hown.stored j (.int .u8 (IntKind.u8.wrap (k + (j : Int))))
    rw [zki k xs j (by omega)] at hst
    obtain ⟨u, hc⟩ : ∃ u, wr.cell? ⟨g, j, none⟩ = some u := by
     rw [hown.cellAt j (by omega)]
     exact ⟨_, List.getElem?_eq_getElem (by have := hown.1; omega)⟩
    have HS : Hid ((wr.setCell ⟨g, j, none⟩ (.int .u8 (IntKind.u8.wrap (k + (j : Int))))).ownsRow base 5 1 (.slice (some ⟨g, 0, none⟩) n cap) n (zeS k xs (j + 1))) := hst.1
    have HG : Hid (wr.grownBy (wr.setCell ⟨g, j, none⟩ (.int .u8 (IntKind.u8.wrap (k + (j : Int))))) (some g)) := hst.2
    clear hst hv hown
    have bj : (j : Int) < (n : Int) := by omega
    go_wp2
    go_roundw
    case rel => exact ⟨j + 1, by omega, by go_num, by go_num, HS.out, ⟨HG.out.os.trans hgr.os, HG.out.tape.trans hgr.tape, HG.out.output.trans hgr.output, Nat.le_trans hgr.size HG.out.size, fun i hi hne => (HG.out.block i (Nat.lt_of_lt_of_le hi hgr.size) hne).trans (hgr.block i hi hne)⟩⟩
    case measure => simp [intOf]; omega
   ·obtain rfl : j = n := by omega
    rw [zlC k xs j hxl] at hown
    clear hv
    go_wp2
    go_ret
    exact ⟨rfl, hown, hgr⟩
theorem zeq (v : Value) (n : Nat) (k : Int) (w : World) (hv : zag w .u8 v (zcy k n)) (hn : n ≤ 4398046511104) (hk : 0 ≤ k) (hk2 : k ≤ 4398046511104) :
  Calls Tryz.prog 19 #[v, .int .i64 k] w fun e w' => e = .returned (.int .i64 (k + (n : Int))) ∧ Ext w w' := by
 obtain ⟨ao, cap, rfl, hcap, hr⟩ := hv
 rw [zd5] at hcap hr ⊢
 by_cases h0 : n = 0
 ·subst h0
  clear hr
  go_enter Tryz.func19, Tryz.ntmps19
  go_wp2
  go_loop [1, 5] (fun a i => a = .int .i64 k ∧ i = .int .i64 0) (fun _ _ => 0)
  case atStart => exact ⟨rfl, rfl⟩
  case round =>
   obtain ⟨rfl, rfl⟩ := hrel
   go_wp2
   go_ret
   exact ⟨za6 (by simp), Ext.refl _⟩
 ·obtain ⟨b, off, rfl, hc⟩ := hr (by omega)
  clear hr
  go_enter Tryz.func19, Tryz.ntmps19
  go_wp2
  go_loop [1, 5] (fun a i => ∃ j : Nat, j ≤ n ∧ a = .int .i64 (k + (j : Int)) ∧ i = .int .i64 j) (fun _ i => n - (intOf i).toNat)
  case atStart => exact ⟨0, Nat.zero_le _, by go_num, rfl⟩
  case round =>
   obtain ⟨j, hj, rfl, rfl⟩ := hrel
   by_cases hlt : j < n
   ·have hcj := hc j hlt
    rw [mkU8_at k n j hlt] at hcj
    clear hc
    have bj : (j : Int) < (n : Int) := by omega
    go_wp2
    go_round
    case rel => exact ⟨j + 1, by omega, by go_num, by go_num⟩
    case measure => simp [intOf]; omega
   ·obtain rfl : j = n := by omega
    clear hc
    go_wp2
    go_ret
    exact ⟨rfl, Ext.refl _⟩
theorem zgL : (Tryz.prog.info? 5).map (fun i => (i.zero, i.size, i.bytes)) = some (some (.int .u8 0), 1, 1) := by kernel_rfl
def ziS (zs : List Int) (xs : List Value) (j : Nat) : List Value := ((zs.take j).map (Value.int .u8)) ++ xs.drop j
theorem zl8 (zs : List Int) (xs : List Value) : ziS zs xs 0 = xs := by simp [ziS]
theorem zlD (zs : List Int) (xs : List Value) (j : Nat) (h : j < xs.length) (h2 : j < zs.length) : (ziS zs xs j).set j (.int .u8 (at0 zs j)) = ziS zs xs (j + 1) := by
 have e : zs.take (j + 1) = zs.take j ++ [at0 zs j] := by rw [List.take_add_one, zb1 h2]; rfl
 have hl : ((zs.take j).map (Value.int .u8)).length = j := by simp; omega
 unfold ziS
 rw [e, List.set_append_right _ _ (by omega), hl, Nat.sub_self, List.drop_eq_getElem_cons h, List.set_cons_zero]
 simp
theorem zmT (zs : List Int) (xs : List Value) (n : Nat) (h : xs.length = n) (h2 : zs.length = n) : ziS zs xs n = zs.map (Value.int .u8) := by
 unfold ziS
 rw [List.drop_of_length_le (by omega), List.take_of_length_le (by omega)]
 simp
theorem zjw (v : Value) (zs : List Int) (w : World) (hv : zag w .u8 v zs) (hn : zs.length ≤ 4398046511104) :
  Calls Tryz.prog 21 #[v] w fun e w' => e = .returned (.slice (some ⟨w.heap.size, 0, none⟩) zs.length zs.length) ∧
   w'.ownsRow w.heap.size 5 1 (.slice (some ⟨w.heap.size, 0, none⟩) zs.length zs.length) zs.length (zs.map (Value.int .u8)) ∧ Ext w w' := by
 obtain ⟨ao, cap, rfl, hcap, hr⟩ := hv
 obtain ⟨i0, hi, hz0, hz1, hz2⟩ := info_parts zgL
 obtain ⟨n, hnn⟩ : ∃ n, n = zs.length := ⟨_, rfl⟩
 rw [← hnn] at hcap hr hn ⊢
 have HN : Hid (n = zs.length) := hnn
 clear hnn
 have hR : Hid (0 < n → ∃ b off, ao = some ⟨b, off, none⟩ ∧ ∀ j, j < n → w.cell? ⟨b, off + j, none⟩ = some (.int .u8 (at0 zs j))) := hr
 clear hr
 by_cases h0 : n = 0
 ·subst h0
  go_enter Tryz.func21, Tryz.ntmps21
  go_wp2_with (at_make; refine wpList_make_full _ rfl _ _ 25 rfl w.heap.size 5 i0 (.int .u8 0) 1 Tryz.underlying25 hi hz0 hz1 _ _ _ _ 0 rfl rfl (by simp) (by simp) (by simp) (by simp) (Nat.le_refl _) ?_; intro w1 hown hgr)
  go_loop [4] (fun i => i = .int .i64 0) (fun _ => 0)
  case atStart => rfl
  case round =>
   subst hrel
   go_wp2
   go_ret
   have e : zs = [] := List.eq_nil_of_length_eq_zero HN.out.symm
   subst e
   exact ⟨rfl, by simpa [madeCells] using hown, hgr⟩
 ·obtain ⟨b, off, rfl, hc⟩ := hR.out (by omega)
  clear hR
  go_enter Tryz.func21, Tryz.ntmps21
  go_wp2_with (at_make; refine wpList_make_full _ rfl _ _ 25 rfl w.heap.size 5 i0 (.int .u8 0) 1 Tryz.underlying25 hi hz0 hz1 _ _ _ _ n rfl rfl rfl rfl (by rw [hz2]; omega) (by unfold maxLen; omega) (Nat.le_refl _) ?_; intro w1 hown hgr)
  obtain ⟨ys, hys⟩ : ∃ ys, ys = (madeCells (Value.int .u8 0).cells (n * 1)).toList := ⟨_, rfl⟩
  rw [← hys] at hown
  have hyl : ys.length = n := by have := hown.1; omega
  clear hys
  have HC : Hid (∀ j, j < n → w.cell? ⟨b, off + j, none⟩ = some (.int .u8 (at0 zs j))) := hc
  clear hc
  go_loopw [4] (fun i wr => ∃ j : Nat, j ≤ n ∧ i = .int .i64 j ∧ wr.ownsRow w.heap.size 5 1 (.slice (some ⟨w.heap.size, 0, none⟩) n n) n (ziS zs ys j) ∧ Ext w wr) (fun i _ => n - (intOf i).toNat)
  case atStart => exact ⟨0, Nat.zero_le _, rfl, by rw [zl8]; exact hown, hgr⟩
  case round =>
   clear hown hgr
   obtain ⟨j, hj, rfl, hown, hgr⟩ := hrel
   by_cases hlt : j < n
   ·have hcj := hgr.cell (HC.out j hlt)
    have hfz := hown.frozenAt j
    have hst := hown.stored j (.int .u8 (at0 zs j))
    rw [zlD zs ys j (by omega) (by rw [← HN.out]; omega)] at hst
    obtain ⟨u, hcc⟩ : ∃ u, wr.cell? ⟨w.heap.size, j, none⟩ = some u := by
     rw [hown.cellAt j (by omega)]
     exact ⟨_, List.getElem?_eq_getElem (by have := hown.1; omega)⟩
    have HS : Hid ((wr.setCell ⟨w.heap.size, j, none⟩ (.int .u8 (at0 zs j))).ownsRow w.heap.size 5 1 (.slice (some ⟨w.heap.size, 0, none⟩) n n) n (ziS zs ys (j + 1))) := hst.1
    have HG : Hid (wr.grownBy (wr.setCell ⟨w.heap.size, j, none⟩ (.int .u8 (at0 zs j))) (some w.heap.size)) := hst.2
    clear hst hown
    have bj : (j : Int) < (n : Int) := by omega
    go_wp2
    go_roundw
    case rel => exact ⟨j + 1, by omega, by go_num, HS.out, ⟨HG.out.os.trans hgr.os, HG.out.tape.trans hgr.tape, HG.out.output.trans hgr.output, Nat.le_trans hgr.size HG.out.size, fun i hi hne => (HG.out.block i (Nat.lt_of_lt_of_le hi hgr.size) (by simp; omega)).trans (hgr.block i hi hne)⟩⟩
    case measure => simp [intOf]; omega
   ·obtain rfl : j = n := by omega
    rw [zmT zs ys j hyl HN.out.symm] at hown
    go_wp2
    go_ret
    exact ⟨rfl, hown, hgr⟩
end Go.Proofs.YtmlkpdbfnffoaaaGreatDoor
