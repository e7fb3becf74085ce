import Derived.Deep.RegionLaw
import Derived.Deep.AppendLies
import Derived.Test.YtmlkpdbfnffoaaaGreatDoorRwImpl
set_option maxHeartbeats 2000000
set_option maxRecDepth 10000
namespace Go.Proofs.YtmlkpdbfnffoaaaGreatDoor
open Go.RowKit
def zgD (w : World) (v : Value) (cs : List (List Int × Int)) : Prop :=
 ∃ (rs : List Value) (ao : Option Addr) (cap : Nat), v = .slice ao cs.length cap ∧ cs.length ≤ cap ∧ (∀ j, j < cs.length → zag w .i32 (rV rs j) (cR cs j)) ∧
  (0 < cs.length → ∃ b off, ao = some ⟨b, off, none⟩ ∧ ∀ j, j < cs.length → w.cell? ⟨b, off + j * 2 + 1, none⟩ = some (rV rs j) ∧ w.cell? ⟨b, off + j * 2, none⟩ = some (.int .i64 (cW cs j)))
theorem zgD.ext {w w' : World} {v : Value} {cs : List (List Int × Int)} (h : zgD w v cs) (he : Ext w w') : zgD w' v cs := by
 obtain ⟨rs, ao, cap, e, hc, hr, hx⟩ := h
 exact ⟨rs, ao, cap, e, hc, fun j hj => (hr j hj).ext he, fun hp => by
  obtain ⟨b, off, e2, hcell⟩ := hx hp
  exact ⟨b, off, e2, fun j hj => ⟨he.cell (hcell j hj).1, he.cell (hcell j hj).2⟩⟩⟩
def zan (w : World) (base : Nat) (v : Value) (rs : List Value) (cs : List (List Int × Int)) : Prop :=
 rs.length = cs.length ∧ (∃ ys, w.ownsRow base 102 2 v cs.length ys ∧ ∀ j, j < cs.length → ys[j * 2 + 1]? = some (rV rs j) ∧ ys[j * 2]? = some (.int .i64 (cW cs j))) ∧
 (∀ j, j < cs.length → w.ownsRow base 21 1 (rV rs j) (cR cs j).length ((cR cs j).map (Value.int .i32))) ∧
 (∀ i j g, i < j → j < cs.length → (rV rs i).ownBlock = some g → (rV rs j).ownBlock ≠ some g)
theorem zan.ext {w w' : World} {base : Nat} {v : Value} {rs : List Value} {cs : List (List Int × Int)} (h : zan w base v rs cs) (he : Ext w w') : zan w' base v rs cs := by
 obtain ⟨h0, ⟨ys, h1, h2⟩, h3, h4⟩ := h
 exact ⟨h0, ⟨ys, he.owns h1, h2⟩, fun j hj => he.owns (h3 j hj), h4⟩
theorem zan.cls {w : World} {base : Nat} {v : Value} {rs : List Value} {cs : List (List Int × Int)} (h : zan w base v rs cs) : zgD w v cs := by
 obtain ⟨_, ⟨ys, h1, h2⟩, h3, _⟩ := h
 rcases h1.2 with ⟨rfl, h0⟩ | ⟨g, cap, cur, rfl, hb, hg, hn, hm, hs, ht⟩
 ·exact ⟨rs, none, 0, by rw [h0], by omega, fun j hj => by omega, fun hp => by omega⟩
 ·refine ⟨rs, _, cap, rfl, hn, fun j hj => zaf (h3 j hj), fun _ => ⟨g, 0, rfl, fun j hj => ?_⟩⟩
  have := h2 j hj
  rw [Nat.zero_add, h1.cellAt _ (by omega), h1.cellAt _ (by omega)]
  exact this
theorem zan.push {W W' : World} {base : Nat} {v v' r : Value} {rs : List Value} {cs : List (List Int × Int)} {xs : List Int} {d : Int} {ys : List Value}
  (h : zan W base v rs cs) (hy : W.ownsRow base 102 2 v cs.length ys) (hyy : ∀ j, j < cs.length → ys[j * 2 + 1]? = some (rV rs j) ∧ ys[j * 2]? = some (.int .i64 (cW cs j)))
  (hr : W.ownsRow base 21 1 r xs.length (xs.map (Value.int .i32))) (hfr : ∀ j g, j < cs.length → (rV rs j).ownBlock = some g → r.ownBlock ≠ some g)
  (ho : W'.ownsRow base 102 2 v' (cs.length + 1) (ys ++ [.int .i64 d, r])) (hg : W.grownBy W' v.ownBlock) : zan W' base v' (rs ++ [r]) (cs ++ [(xs, d)]) := by
 obtain ⟨h0, _, h3, h4⟩ := h
 have hyl := hy.1
 have keep : ∀ (u : Value) (m : Nat) (zs : List Value), W.ownsRow base 21 1 u m zs → W'.ownsRow base 21 1 u m zs := fun u m zs hu =>
  zbN hu (fun g hgu => hg.block g (hu.lt g hgu).2 (fun e => zaW hu hy (by decide) hgu e.symm))
 refine ⟨by simp [h0], ⟨_, by simpa using ho, fun j hj => ?_⟩, fun j hj => ?_, fun i j g hij hj hk => ?_⟩
 ·simp at hj
  by_cases e : j = cs.length
  ·subst e
   rw [← h0, zdu, h0, zd6, if_pos rfl]
   constructor
   ·rw [List.getElem?_append_right (by omega)]; simp [hyl]
   ·rw [List.getElem?_append_right (by omega)]; simp [hyl]
  ·rw [zcC rs r j (by omega), zd6, if_neg e, List.getElem?_append_left (by omega), List.getElem?_append_left (by omega)]
   exact hyy j (by omega)
 ·simp at hj
  rw [zef]
  by_cases e : j = cs.length
  ·subst e
   rw [← h0, zdu, h0, if_pos rfl]
   exact keep _ _ _ hr
  ·rw [zcC rs r j (by omega), if_neg e]
   exact keep _ _ _ (h3 j (by omega))
 ·simp at hj
  rw [zcC rs r i (by omega)] at hk
  by_cases e : j = cs.length
  ·subst e
   rw [← h0, zdu]
   exact hfr i g (by omega) hk
  ·rw [zcC rs r j (by omega)]
   exact h4 i j g hij (by omega) hk
theorem zan.fr {S : Nat → Prop} {w w' : World} {base : Nat} {v : Value} {rs : List Value} {cs : List (List Int × Int)} (h : zan w base v rs cs) (hf : Fr S w w') (hS : ∀ g, zdN v rs cs.length g → ¬ S g) : zan w' base v rs cs := by
 obtain ⟨h0, ⟨ys, h1, h2⟩, h3, h4⟩ := h
 exact ⟨h0, ⟨ys, hf.owns h1 (fun g hg => hS g (.inl hg)), h2⟩, fun j hj => hf.owns (h3 j hj) (fun g hg => hS g (.inr ⟨j, hj, hg⟩)), h4⟩
theorem zan.foot {w : World} {base : Nat} {v : Value} {rs : List Value} {cs : List (List Int × Int)} (h : zan w base v rs cs) {g : Nat} (hg : zdN v rs cs.length g) : base ≤ g ∧ g < w.heap.size := by
 obtain ⟨h0, ⟨ys, h1, h2⟩, h3, h4⟩ := h
 rcases hg with hg | ⟨j, hj, hg⟩
 ·exact h1.lt g hg
 ·exact (h3 j hj).lt g hg
end Go.Proofs.YtmlkpdbfnffoaaaGreatDoor

namespace Go.Proofs.YtmlkpdbfnffoaaaGreatDoor
open Go.ChangeShapes Go.WideShapes Go.ChangeAt Go.RowKit Go.Deep
theorem zgn (ao : Option Addr) (n cap : Nat) (p : Bool) (l : Int) (w : World) (h0 : 0 ≤ l) (h1 : l ≤ 4398046511104) (hn : (n : Int) ≤ 9223372036854775807) :
  Calls Tryz.prog 24 #[.agg #[.slice ao n cap, .bool p], .int .i64 l] w fun e w' => ∃ r : Int, e = .returned (.int .i64 r) ∧ SzR l n r ∧ Ext w w' := by
 have hcon := zi (fun W => zjg ao n cap l W h0 h1 hn)
 go_enter Tryz.func24, Tryz.ntmps24
 go_wp2_with fail
 refine ((zg hcon) _).mono ?_
 rintro e w1 ⟨rfl, rfl⟩
 by_cases h : l < (n : Int)
 ·rw [if_pos h]
  go_wp2
  go_ret
  exact ⟨-1, rfl, .inl ⟨rfl, h⟩, (Ext.refl _).alloc _⟩
 ·rw [if_neg h]
  have h2 : ¬ l - (n : Int) < 0 := by omega
  go_wp2
  go_ret
  exact ⟨l - (n : Int), rfl, .inr ⟨rfl, by omega⟩, (Ext.refl _).alloc _⟩
theorem zgl (h : Value) (bs : List Int) (p : Bool) (w : World) (hr : zag w .u8 h bs) (hx : bs.length ≤ 4398046511104) :
  Calls Tryz.prog 32 #[.agg #[h, .bool p]] w fun e w' => e = .returned (.agg #[.slice (some ⟨w.heap.size + 3, 0, none⟩) bs.length bs.length, .bool p]) ∧
   w'.ownsRow (w.heap.size + 3) 5 1 (.slice (some ⟨w.heap.size + 3, 0, none⟩) bs.length bs.length) bs.length (bs.map (Value.int .u8)) ∧ Ext w w' := by
 go_enter Tryz.func32, Tryz.ntmps32
 go_wp2_with fail
 refine (zjw _ bs _ (hr.ext ((((Ext.refl _).alloc _).alloc _).alloc _)) hx).mono ?_
 rintro e w1 ⟨rfl, o1, F1⟩
 obtain ⟨hc, hf⟩ := F1.rules
 have hz : w.heap.size + 3 < w1.heap.size := by have := (o1.lt _ rfl).2; simpa using this
 have a0 : w1.cell? ⟨w.heap.size + 1, 0, none⟩ = some (.slice none 0 0) := by rw [hc _ _ (by simp)]; simp [go_sem]
 have a1 : w1.cell? ⟨w.heap.size + 1, 1, none⟩ = some (.bool false) := by rw [hc _ _ (by simp)]; simp [go_sem]
 go_wp2
 refine bodyPost_ret (v := .agg #[.slice (some ⟨w.heap.size + 3, 0, none⟩) bs.length bs.length, .bool p]) (by simp [results, Tryz.results32, go_sem, a0, a1]) rfl ⟨rfl, ?_, ?_⟩
 ·repeat (refine zf ?_ (by simp [Value.ownBlock]) _)
  simpa using o1
 ·repeat (refine Ext.setCell ?_ (by dsimp only; omega) _)
  exact ((((Ext.refl _).alloc _).alloc _).alloc _).trans F1
theorem zfL (ra rb : Value) (bs : List Int) (p : Bool) (w : World) (ha : zag w .u8 ra bs) (hb : zag w .u8 rb bs) (hx : bs.length ≤ 4398046511104) :
  Calls Tryz.prog 37 #[.agg #[ra, .bool p], .agg #[rb, .bool p]] w fun e w' => e = .returned (.bool true) ∧ Ext w w' := by
 go_enter Tryz.func37, Tryz.ntmps37
 go_wp2_with fail
 refine (zeW _ _ bs _ (ha.ext (((Ext.refl _).alloc _).alloc _)) (hb.ext (((Ext.refl _).alloc _).alloc _)) hx).mono ?_
 rintro e w1 ⟨rfl, F1⟩
 obtain ⟨hc, hf⟩ := F1.rules
 go_wp2
 go_ret
 exact ⟨rfl, (((Ext.refl _).alloc _).alloc _).trans F1⟩
theorem zfb (base : Nat) (v : Value) (n : Nat) (xs : List Value) (p : Bool) (k : Int) (w : World) (hv : w.ownsRow base 5 1 v n xs) (hn : n ≤ 4398046511104) (hk : 0 ≤ k) (hk2 : k ≤ 4398046511104) :
  Calls Tryz.prog 40 #[.agg #[v, .bool p], .int .i64 k] w fun e w' => e = .returned (.int .i64 (k + (n : Int))) ∧ w'.ownsRow base 5 1 v n ((zcy k n).map (Value.int .u8)) ∧ w.grownBy w' v.ownBlock := by
 have hcon := zi (fun W (hW : Ext w W) => zes base v n xs k W (hW.owns hv) hn hk hk2)
 go_enter Tryz.func40, Tryz.ntmps40
 go_wp2_with fail
 refine ((zg hcon) _ ((Ext.refl _).alloc _)).mono ?_
 rintro e w1 ⟨rfl, o1, F1⟩
 go_wp2
 go_ret
 exact ⟨rfl, o1, (World.grownBy_alloc w _ _).trans F1⟩
theorem ze4 (v : Value) (n : Nat) (p : Bool) (k : Int) (w : World) (hv : zag w .u8 v (zcy k n)) (hn : n ≤ 4398046511104) (hk : 0 ≤ k) (hk2 : k ≤ 4398046511104) :
  Calls Tryz.prog 43 #[.agg #[v, .bool p], .int .i64 k] w fun e w' => e = .returned (.int .i64 (k + (n : Int))) ∧ Ext w w' := by
 have hcon := zi (fun W (hW : Ext w W) => zeq v n k W (hv.ext hW) hn hk hk2)
 have hneg : ¬ k + (n : Int) < 0 := by omega
 go_enter Tryz.func43, Tryz.ntmps43
 go_wp2_with fail
 refine ((zg hcon) _ ((Ext.refl _).alloc _)).mono ?_
 rintro e w1 ⟨rfl, F1⟩
 go_wp2
 go_ret
 exact ⟨rfl, ((Ext.refl _).alloc _).trans F1⟩
end Go.Proofs.YtmlkpdbfnffoaaaGreatDoor

namespace Go.Proofs.YtmlkpdbfnffoaaaGreatDoor
open Go.RowKit Go.Deep
def zaS (bs : List Int) (p : Bool) : List (List Int × Int) :=
 if p = true ∨ bs.length = 0 then [] else if at0 bs 0 = 27 then (if bs.length = 1 then [([], 22)] else [([], 23)]) else List.replicate bs.length ([65533], 1)
def zaV (bs : List Int) (p : Bool) : List Int := if p = true then bs else []
theorem zlv : (Tryz.prog.info? 5).map (fun i => (i.zero, i.size, i.bytes)) = some (some (.int .u8 0), 1, 1) := by kernel_rfl
theorem zaA (w : World) (base : Nat) (t : TypeId) (sz : Nat) (hb : base ≤ w.heap.size) : (w.alloc (.cells #[] t)).ownsRow base t sz (.slice (some ⟨w.heap.size, 0, none⟩) 0 0) 0 [] := by
 refine ⟨by simp, .inr ⟨w.heap.size, 0, #[], rfl, hb, heap_alloc_new w _, Nat.le_refl _, by unfold maxLen; omega, by simp, by simp⟩⟩
theorem zfv {w : World} {b off cap : Nat} {bs : List Int} {k : IntKind} (h : zag w k (.slice (some ⟨b, off, none⟩) bs.length cap) bs) (h0 : 0 < bs.length) : ∀ j u, (bs.map (Value.int k))[j]? = some u → w.cell? ((⟨b, off, none⟩ : Addr).add j) = some u := by
 intro j u hj
 obtain ⟨ao, c, e, _, hx⟩ := h
 obtain ⟨b', off', e2, hc⟩ := hx h0
 injection e with e3
 rw [e2] at e3
 injection e3 with e4
 injection e4 with e5 e6
 subst e5 e6
 have hjl : j < bs.length := by
  have := (List.getElem?_eq_some_iff.1 hj).1
  simpa using this
 rw [Addr.add_lit, hc j hjl]
 simp [zb1 hjl] at hj
 rw [hj]
theorem zg7 (b off cap : Nat) (bs : List Int) (w : World) (hr : zag w .u8 (.slice (some ⟨b, off, none⟩) bs.length cap) bs) (hl : bs.length ≤ 1048576) (h0 : 0 < bs.length) :
  Calls Tryz.prog 29 #[.agg #[.slice (some ⟨b, off, none⟩) bs.length cap, .bool true]] w fun e w' => ∃ hv kv, e = .returned (.tuple #[.agg #[hv, .bool true], kv]) ∧ w'.ownsRow w.heap.size 5 1 hv bs.length (bs.map (Value.int .u8)) ∧ zan w' w.heap.size kv [] [] ∧ Ext w w' := by
 obtain ⟨i0, hi, hz0, hz1, hz2⟩ := info_parts zlv
 have HR := zi hr
 clear hr
 go_enter Tryz.func29, Tryz.ntmps29
 go_wp2
 obtain ⟨V, hV⟩ : ∃ V, V = ((w.alloc (Obj.cells #[Value.slice (some { block := b, off := off }) bs.length cap, Value.bool true] 38)).alloc (Obj.cells #[Value.slice none 0 0, Value.bool false] 38)).alloc (Obj.cells #[] 102) := ⟨_, rfl⟩
 rw [← hV]
 have hzV : V.heap.size = w.heap.size + 3 := by rw [hV]; simp
 have EV : Ext w V := by rw [hV]; exact (((Ext.refl _).alloc _).alloc _).alloc _
 have c0 : V.cell? ⟨w.heap.size, 0, none⟩ = some (.slice (some ⟨b, off, none⟩) bs.length cap) := by rw [hV]; simp [go_sem]
 have c1 : V.cell? ⟨w.heap.size, 1, none⟩ = some (.bool true) := by rw [hV]; simp [go_sem]
 have c2 : V.cell? ⟨w.heap.size + 1, 0, none⟩ = some (.slice none 0 0) := by rw [hV]; simp [go_sem]
 have c3 : V.cell? ⟨w.heap.size + 1, 1, none⟩ = some (.bool false) := by rw [hV]; simp [go_sem]
 have f2 : V.frozen? ⟨w.heap.size + 1, 0, none⟩ = false := by rw [hV]; simp [go_sem]
 have f3 : V.frozen? ⟨w.heap.size + 1, 1, none⟩ = false := by rw [hV]; simp [go_sem]
 have HK : Hid (V.ownsRow w.heap.size 102 2 (.slice (some ⟨w.heap.size + 1 + 1, 0, none⟩) 0 0) 0 []) := by
  have := zaA ((w.alloc (Obj.cells #[Value.slice (some { block := b, off := off }) bs.length cap, Value.bool true] 38)).alloc (Obj.cells #[Value.slice none 0 0, Value.bool false] 38)) w.heap.size 102 2 (by simp; omega)
  rw [hV]
  have h2 : ∀ o1 o2, ((w.alloc o1).alloc o2).heap.size = w.heap.size + 1 + 1 := fun o1 o2 => by simp
  rw [h2] at this
  exact zi this
 clear hV
 obtain ⟨W, hW⟩ : ∃ W, W = V.alloc (Obj.cells #[] 5) := ⟨_, rfl⟩
 have HO : Hid (W.drew.ownsRow (w.heap.size + 3) 5 1 (.slice (some ⟨w.heap.size + 1 + 1 + 1, 0, none⟩) 0 0) 0 []) := by
  have := zaA V (w.heap.size + 3) 5 1 (by omega)
  rw [hzV] at this
  rw [hW]
  exact zi this.drew
 have EW : Ext V W := by rw [hW]; exact (Ext.refl _).alloc _
 have hzW : W.heap.size = w.heap.size + 4 := by rw [hW]; simp; omega
 have HC := zi (zfv ((zg HR).ext (EV.trans EW.drew)) h0)
 rw [← hW]
 have d0 := EW.cell c0
 have d1 := EW.cell c1
 clear hW
 go_region_law (first
  | (refine step_append_lies _ (by rfl) _ _ _ (by rfl) (w.heap.size + 3) 5 i0 _ 1 1 Tryz.underlying25 hi hz0 hz1 hz2 rfl (by omega) _ 0 [] (by rfl) (zg HO) ⟨b, off, none⟩ bs.length cap (bs.map (Value.int .u8)) (by rfl) (by simp) (zg HC) (ints_oneCell _ _) (by omega) (by unfold maxLen; omega) (by omega) (by simp [hzW]) (w.heap.size + 4) (by simp [hzW]) ?_; intro g1 cap1 w1 o1 G1 at1 lt1; have E1 : Ext V w1 := EW.drew.grown G1 (fun k hk => by simp [Value.ownBlock] at hk; omega); have k0 := E1.cell c0; have k1 := E1.cell c1; have k2 := E1.cell c2; have k3 := E1.cell c3; have k4 := E1.rules.2 _ 0 (show w.heap.size + 1 < _ by omega); have k5 := E1.rules.2 _ 1 (show w.heap.size + 1 < _ by omega); rw [f2] at k4; rw [f3] at k5; have O1 := zi o1; clear o1 G1))
 all_goals
  go_wp2
  refine bodyPost_ret (v := .tuple #[.agg #[.slice (some ⟨g1, 0, none⟩) (0 + bs.length) cap1, .bool true], .slice (some ⟨w.heap.size + 1 + 1, 0, none⟩) 0 0]) (by simp [results, Tryz.results29, go_sem, k2, k3]) rfl ⟨_, _, rfl, ?_, ?_, ?_⟩
  ·rw [Nat.zero_add]
   have := zg O1
   rw [Nat.zero_add, List.nil_append] at this
   refine zf (zf (zas this (by omega)) ?_ _) ?_ _
   ·intro e; have := (this.lt _ e).1; dsimp only at this; omega
   ·intro e; have := (this.lt _ e).1; dsimp only at this; omega
  ·have hk := E1.owns (zg HK)
   exact ⟨rfl, ⟨[], zf (zf hk (by simp [Value.ownBlock]) _) (by simp [Value.ownBlock]) _, fun j hj => by simp at hj⟩, fun j hj => by simp at hj, fun i j g _ hj => by simp at hj⟩
  ·exact ((EV.trans E1).setCell (by dsimp only; omega) _).setCell (by dsimp only; omega) _
theorem zgq : (Tryz.prog.info? 102).map (fun i => (i.zero, i.size, i.bytes)) = some (some (.agg zH2), 2, 32) := by kernel_rfl
theorem zdE {w : World} {b off cap : Nat} {bs : List Int} {k : IntKind} (h : zag w k (.slice (some ⟨b, off, none⟩) bs.length cap) bs) (h0 : 0 < bs.length) : w.cell? ⟨b, off, none⟩ = some (.int k (at0 bs 0)) := by
 have := zfv h h0 0 (.int k (at0 bs 0)) (by simp [zb1 h0])
 rw [Addr.add_lit] at this
 exact this
theorem zan.mono {W : World} {base base' : Nat} {v : Value} {rs : List Value} {cs : List (List Int × Int)} (h : zan W base v rs cs) (hb : base' ≤ base) : zan W base' v rs cs := by
 obtain ⟨h0, ⟨ys, h1, h2⟩, h3, h4⟩ := h
 exact ⟨h0, ⟨ys, zas h1 hb, h2⟩, fun j hj => zas (h3 j hj) hb, h4⟩
theorem zc3 {W : World} {base : Nat} {v : Value} (h : W.ownsRow base 102 2 v 0 []) : zan W base v [] [] :=
 ⟨rfl, ⟨[], h, fun j hj => by simp at hj⟩, fun j hj => by simp at hj, fun i j g _ hj => by simp at hj⟩
theorem zls {W W' : World} {base : Nat} {v v' r : Value} {kd : Int} {xs : List Int} (hk : W.ownsRow base 102 2 v 0 []) (hr : W.ownsRow base 21 1 r xs.length (xs.map (Value.int .i32)))
  (ho : W'.ownsRow base 102 2 v' 1 [.int .i64 kd, r]) (hg : W.grownBy W' v.ownBlock) : zan W' base v' [r] [(xs, kd)] := by
 have := zan.push (cs := []) (rs := []) (ys := []) (r := r) (xs := xs) (d := kd) (v' := v') (zc3 hk) hk (fun j hj => by simp at hj) hr (fun j g hj => by simp at hj) (by simpa using ho) hg
 simpa using this
theorem ziq (b off cap : Nat) (bs : List Int) (kd : Int) (hkd : kd = if bs.length = 1 then 22 else 23) (w : World) (hr : zag w .u8 (.slice (some ⟨b, off, none⟩) bs.length cap) bs) (hl : bs.length ≤ 1048576) (h0 : 0 < bs.length) (h27 : at0 bs 0 = 27) :
  Calls Tryz.prog 29 #[.agg #[.slice (some ⟨b, off, none⟩) bs.length cap, .bool false]] w fun e w' => ∃ hv kv rs, e = .returned (.tuple #[.agg #[hv, .bool false], kv]) ∧ w'.ownsRow w.heap.size 5 1 hv 0 [] ∧ zan w' w.heap.size kv rs [([], kd)] ∧ Ext w w' := by
 obtain ⟨ic, hic, hc0, hc1, hc2⟩ := info_parts zgq
 have c0 := zdE hr h0
 rw [h27] at c0
 have c4 : ∀ o1 o2 o3 o4, ((((w.alloc o1).alloc o2).alloc o3).alloc o4).cell? ⟨b, off, none⟩ = some (.int .u8 27) := fun o1 o2 o3 o4 => (((((Ext.refl w).alloc o1).alloc o2).alloc o3).alloc o4).cell c0
 have hpos : (0 : Int) < (bs.length : Int) := by omega
 have hne : ((bs.length : Int) == 0) = false := by rw [beq_eq_false_iff_ne]; omega
 have hne2 : ¬ (bs = []) := by intro e; rw [e] at h0; simp at h0
 clear hr
 by_cases h1 : bs.length = 1
 ·rw [if_pos h1] at hkd
  subst hkd
  rw [h1] at hl hpos hne ⊢
  clear hne2
  have HK0 : Hid ((((w.alloc (.cells #[.slice (some ⟨b, off, none⟩) 1 cap, .bool false] 38)).alloc (.cells #[.slice none 0 0, .bool false] 38)).alloc (.cells #[] 102)).ownsRow (w.heap.size + 2) 102 2 (.slice (some ⟨w.heap.size + 1 + 1, 0, none⟩) 0 0) 0 []) := by
   have := zaA ((w.alloc (.cells #[.slice (some ⟨b, off, none⟩) 1 cap, .bool false] 38)).alloc (.cells #[.slice none 0 0, .bool false] 38)) (w.heap.size + 2) 102 2 (by simp)
   have h2 : ∀ o1 o2, ((w.alloc o1).alloc o2).heap.size = w.heap.size + 1 + 1 := fun o1 o2 => by simp
   rw [h2] at this
   exact zi this
  have HU0 : Hid (((((w.alloc (.cells #[.slice (some ⟨b, off, none⟩) 1 cap, .bool false] 38)).alloc (.cells #[.slice none 0 0, .bool false] 38)).alloc (.cells #[] 102)).alloc (.cells #[] 5)).ownsRow (w.heap.size + 3) 5 1 (.slice (some ⟨w.heap.size + 1 + 1 + 1, 0, none⟩) 0 0) 0 []) := by
   have := zaA (((w.alloc (.cells #[.slice (some ⟨b, off, none⟩) 1 cap, .bool false] 38)).alloc (.cells #[.slice none 0 0, .bool false] 38)).alloc (.cells #[] 102)) (w.heap.size + 3) 5 1 (by simp)
   have h2 : ∀ o1 o2 o3, (((w.alloc o1).alloc o2).alloc o3).heap.size = w.heap.size + 1 + 1 + 1 := fun o1 o2 o3 => by simp
   rw [h2] at this
   exact zi this
  have HR0 : Hid ((((((w.alloc (.cells #[.slice (some ⟨b, off, none⟩) 1 cap, .bool false] 38)).alloc (.cells #[.slice none 0 0, .bool false] 38)).alloc (.cells #[] 102)).alloc (.cells #[] 5)).alloc (.cells #[] 21)).ownsRow (w.heap.size + 2) 21 1 (.slice (some ⟨w.heap.size + 1 + 1 + 1 + 1, 0, none⟩) 0 0) 0 []) := by
   have := zaA ((((w.alloc (.cells #[.slice (some ⟨b, off, none⟩) 1 cap, .bool false] 38)).alloc (.cells #[.slice none 0 0, .bool false] 38)).alloc (.cells #[] 102)).alloc (.cells #[] 5)) (w.heap.size + 2) 21 1 (by simp; try omega)
   have h2 : ∀ o1 o2 o3 o4, ((((w.alloc o1).alloc o2).alloc o3).alloc o4).heap.size = w.heap.size + 1 + 1 + 1 + 1 := fun o1 o2 o3 o4 => by simp
   rw [h2] at this
   exact zi this
  obtain ⟨V, hV⟩ : ∃ V, V = (w.alloc (.cells #[.slice (some ⟨b, off, none⟩) 1 cap, .bool false] 38)).alloc (.cells #[.slice none 0 0, .bool false] 38) := ⟨_, rfl⟩
  have hzV : V.heap.size = w.heap.size + 2 := by rw [hV]; simp
  have EV : Ext w V := by rw [hV]; exact ((Ext.refl _).alloc _).alloc _
  have d2 : V.cell? ⟨w.heap.size + 1, 0, none⟩ = some (.slice none 0 0) := by rw [hV]; simp [go_sem]
  have d3 : V.cell? ⟨w.heap.size + 1, 1, none⟩ = some (.bool false) := by rw [hV]; simp [go_sem]
  have f2 : V.frozen? ⟨w.heap.size + 1, 0, none⟩ = false := by rw [hV]; simp [go_sem]
  have f3 : V.frozen? ⟨w.heap.size + 1, 1, none⟩ = false := by rw [hV]; simp [go_sem]
  rw [← hV] at HK0 HU0 HR0
  have HVV := zi hV
  clear hV
  go_enter Tryz.func29, Tryz.ntmps29
  go_wp2_with (at_builtin; go_must (refine wpList_append_own _ rfl _ _ 62 rfl (w.heap.size + 2) 102 ic (.agg zH2) 2 32 Tryz.underlying62 hic hc0 hc1 hc2 rfl (by decide) _ 0 [] rfl ?_ ⟨w.heap.size + 1 + 1 + 1 + 1 + 1 + 1, 0, none⟩ 1 1 [.int .i64 22, .slice (some ⟨w.heap.size + 1 + 1 + 1 + 1, 0, none⟩) 0 0] rfl rfl ?_ (zby rfl rfl) ?_ ?_ ?_ ?_))
  ·rw [← zg HVV]
   exact Ext.owns (by repeat' first | exact Ext.refl _ | refine Ext.alloc ?_ _) (zg HK0)
  ·have h2 : ∀ o1 o2 o3 o4 o5 o6, ((((((w.alloc o1).alloc o2).alloc o3).alloc o4).alloc o5).alloc o6).heap.size = w.heap.size + 1 + 1 + 1 + 1 + 1 + 1 := fun o1 o2 o3 o4 o5 o6 => by simp
   have := fun o1 o2 o3 o4 o5 o6 => zal (w := (((((w.alloc o1).alloc o2).alloc o3).alloc o4).alloc o5).alloc o6) [.int .i64 22, .slice (some ⟨w.heap.size + 1 + 1 + 1 + 1, 0, none⟩) 0 0] 102
   intro j u hj
   have h3 := this (.cells #[.slice (some ⟨b, off, none⟩) 1 cap, .bool false] 38) (.cells #[.slice none 0 0, .bool false] 38) (.cells #[] 102) (.cells #[] 5) (.cells #[] 21) (.cells #[.int .i64 22, .slice (some ⟨w.heap.size + 1 + 1 + 1 + 1, 0, none⟩) 0 0] 102) j u hj
   rw [h2] at h3
   exact h3
  ·unfold maxLen; omega
  ·omega
  ·simp; try omega
  ·intro v' w3 hown' hgrow _
   rw [← zg HVV] at hgrow
   have E3 : Ext V w3 := Ext.grown (by repeat' first | exact Ext.refl _ | refine Ext.alloc ?_ _) hgrow (fun k hk => by simp [Value.ownBlock] at hk; omega)
   have HKK := zi (zls (kd := 22) (xs := []) (Ext.owns (by repeat' first | exact Ext.refl _ | refine Ext.alloc ?_ _) (zg HK0)) (Ext.owns (by repeat' first | exact Ext.refl _ | refine Ext.alloc ?_ _) (zg HR0)) hown' hgrow)
   have HUU := zi (((Fr.refl (fun k => (Value.slice (some ⟨w.heap.size + 1 + 1, 0, none⟩) 0 0).ownBlock = some k) _).grown hgrow (fun k hk => hk)).owns (Ext.owns (w' := _) (by repeat' first | exact Ext.refl _ | refine Ext.alloc ?_ _) (zg HU0)) (fun g hg e => by simp [Value.ownBlock] at hg e; omega))
   have k2 := E3.cell d2
   have k3 := E3.cell d3
   have k4 := E3.rules.2 _ 0 (show w.heap.size + 1 < _ by omega)
   have k5 := E3.rules.2 _ 1 (show w.heap.size + 1 < _ by omega)
   rw [f2] at k4
   rw [f3] at k5
   have hvb := ((zg HKK).2.1.choose_spec.1)
   clear hown' hgrow
   obtain ⟨g', cap', rfl⟩ : ∃ g cap, v' = .slice (some ⟨g, 0, none⟩) 1 cap := by
    rcases hvb.2 with ⟨_, e0⟩ | ⟨g, cap, cur, e0, _⟩
    ·simp at e0
    ·exact ⟨g, cap, e0⟩
   clear hvb
   go_wp2
   refine bodyPost_ret (v := .tuple #[.agg #[.slice (some ⟨w.heap.size + 1 + 1 + 1, 0, none⟩) 0 0, .bool false], .slice (some ⟨g', 0, none⟩) 1 cap']) (by simp [results, Tryz.results29, go_sem, k2, k3]) rfl ⟨_, _, [.slice (some ⟨w.heap.size + 1 + 1 + 1 + 1, 0, none⟩) 0 0], rfl, ?_, ?_, ?_⟩
   ·exact zf (zf (zas (zg HUU) (by omega)) (by simp [Value.ownBlock]; try omega) _) (by simp [Value.ownBlock]; try omega) _
   ·exact (zan.fr (S := fun k => k = w.heap.size + 1) (zg HKK) (by repeat' first | refine Fr.setCell (S := fun q => q = w.heap.size + 1) ?_ (a := ⟨w.heap.size + 1, _, none⟩) rfl _ | exact Fr.refl _ _) (fun g hg e => by have := ((zg HKK).foot hg).1; omega)).mono (by omega)
   ·exact Ext.setCell (Ext.setCell (EV.trans E3) (by dsimp only; omega) _) (by dsimp only; omega) _
 ·rw [if_neg h1] at hkd
  subst hkd
  have h11 : ¬ ((bs.length : Int) = 1) := by omega
  have HK0 : Hid ((((w.alloc (.cells #[.slice (some ⟨b, off, none⟩) bs.length cap, .bool false] 38)).alloc (.cells #[.slice none 0 0, .bool false] 38)).alloc (.cells #[] 102)).ownsRow (w.heap.size + 2) 102 2 (.slice (some ⟨w.heap.size + 1 + 1, 0, none⟩) 0 0) 0 []) := by
   have := zaA ((w.alloc (.cells #[.slice (some ⟨b, off, none⟩) bs.length cap, .bool false] 38)).alloc (.cells #[.slice none 0 0, .bool false] 38)) (w.heap.size + 2) 102 2 (by simp)
   have h2 : ∀ o1 o2, ((w.alloc o1).alloc o2).heap.size = w.heap.size + 1 + 1 := fun o1 o2 => by simp
   rw [h2] at this
   exact zi this
  have HU0 : Hid (((((w.alloc (.cells #[.slice (some ⟨b, off, none⟩) bs.length cap, .bool false] 38)).alloc (.cells #[.slice none 0 0, .bool false] 38)).alloc (.cells #[] 102)).alloc (.cells #[] 5)).ownsRow (w.heap.size + 3) 5 1 (.slice (some ⟨w.heap.size + 1 + 1 + 1, 0, none⟩) 0 0) 0 []) := by
   have := zaA (((w.alloc (.cells #[.slice (some ⟨b, off, none⟩) bs.length cap, .bool false] 38)).alloc (.cells #[.slice none 0 0, .bool false] 38)).alloc (.cells #[] 102)) (w.heap.size + 3) 5 1 (by simp)
   have h2 : ∀ o1 o2 o3, (((w.alloc o1).alloc o2).alloc o3).heap.size = w.heap.size + 1 + 1 + 1 := fun o1 o2 o3 => by simp
   rw [h2] at this
   exact zi this
  have HR0 : Hid ((((((w.alloc (.cells #[.slice (some ⟨b, off, none⟩) bs.length cap, .bool false] 38)).alloc (.cells #[.slice none 0 0, .bool false] 38)).alloc (.cells #[] 102)).alloc (.cells #[] 5)).alloc (.cells #[] 21)).ownsRow (w.heap.size + 2) 21 1 (.slice (some ⟨w.heap.size + 1 + 1 + 1 + 1, 0, none⟩) 0 0) 0 []) := by
   have := zaA ((((w.alloc (.cells #[.slice (some ⟨b, off, none⟩) bs.length cap, .bool false] 38)).alloc (.cells #[.slice none 0 0, .bool false] 38)).alloc (.cells #[] 102)).alloc (.cells #[] 5)) (w.heap.size + 2) 21 1 (by simp; try omega)
   have h2 : ∀ o1 o2 o3 o4, ((((w.alloc o1).alloc o2).alloc o3).alloc o4).heap.size = w.heap.size + 1 + 1 + 1 + 1 := fun o1 o2 o3 o4 => by simp
   rw [h2] at this
   exact zi this
  obtain ⟨V, hV⟩ : ∃ V, V = (w.alloc (.cells #[.slice (some ⟨b, off, none⟩) bs.length cap, .bool false] 38)).alloc (.cells #[.slice none 0 0, .bool false] 38) := ⟨_, rfl⟩
  have hzV : V.heap.size = w.heap.size + 2 := by rw [hV]; simp
  have EV : Ext w V := by rw [hV]; exact ((Ext.refl _).alloc _).alloc _
  have d2 : V.cell? ⟨w.heap.size + 1, 0, none⟩ = some (.slice none 0 0) := by rw [hV]; simp [go_sem]
  have d3 : V.cell? ⟨w.heap.size + 1, 1, none⟩ = some (.bool false) := by rw [hV]; simp [go_sem]
  have f2 : V.frozen? ⟨w.heap.size + 1, 0, none⟩ = false := by rw [hV]; simp [go_sem]
  have f3 : V.frozen? ⟨w.heap.size + 1, 1, none⟩ = false := by rw [hV]; simp [go_sem]
  rw [← hV] at HK0 HU0 HR0
  have HVV := zi hV
  clear hV
  go_enter Tryz.func29, Tryz.ntmps29
  go_wp2_with (at_builtin; go_must (refine wpList_append_own _ rfl _ _ 62 rfl (w.heap.size + 2) 102 ic (.agg zH2) 2 32 Tryz.underlying62 hic hc0 hc1 hc2 rfl (by decide) _ 0 [] rfl ?_ ⟨w.heap.size + 1 + 1 + 1 + 1 + 1 + 1, 0, none⟩ 1 1 [.int .i64 23, .slice (some ⟨w.heap.size + 1 + 1 + 1 + 1, 0, none⟩) 0 0] rfl rfl ?_ (zby rfl rfl) ?_ ?_ ?_ ?_))
  ·rw [← zg HVV]
   exact Ext.owns (by repeat' first | exact Ext.refl _ | refine Ext.alloc ?_ _) (zg HK0)
  ·have h2 : ∀ o1 o2 o3 o4 o5 o6, ((((((w.alloc o1).alloc o2).alloc o3).alloc o4).alloc o5).alloc o6).heap.size = w.heap.size + 1 + 1 + 1 + 1 + 1 + 1 := fun o1 o2 o3 o4 o5 o6 => by simp
   have := fun o1 o2 o3 o4 o5 o6 => zal (w := (((((w.alloc o1).alloc o2).alloc o3).alloc o4).alloc o5).alloc o6) [.int .i64 23, .slice (some ⟨w.heap.size + 1 + 1 + 1 + 1, 0, none⟩) 0 0] 102
   intro j u hj
   have h3 := this (.cells #[.slice (some ⟨b, off, none⟩) bs.length cap, .bool false] 38) (.cells #[.slice none 0 0, .bool false] 38) (.cells #[] 102) (.cells #[] 5) (.cells #[] 21) (.cells #[.int .i64 23, .slice (some ⟨w.heap.size + 1 + 1 + 1 + 1, 0, none⟩) 0 0] 102) j u hj
   rw [h2] at h3
   exact h3
  ·unfold maxLen; omega
  ·omega
  ·simp; try omega
  ·intro v' w3 hown' hgrow _
   rw [← zg HVV] at hgrow
   have E3 : Ext V w3 := Ext.grown (by repeat' first | exact Ext.refl _ | refine Ext.alloc ?_ _) hgrow (fun k hk => by simp [Value.ownBlock] at hk; omega)
   have HKK := zi (zls (kd := 23) (xs := []) (Ext.owns (by repeat' first | exact Ext.refl _ | refine Ext.alloc ?_ _) (zg HK0)) (Ext.owns (by repeat' first | exact Ext.refl _ | refine Ext.alloc ?_ _) (zg HR0)) hown' hgrow)
   have HUU := zi (((Fr.refl (fun k => (Value.slice (some ⟨w.heap.size + 1 + 1, 0, none⟩) 0 0).ownBlock = some k) _).grown hgrow (fun k hk => hk)).owns (Ext.owns (w' := _) (by repeat' first | exact Ext.refl _ | refine Ext.alloc ?_ _) (zg HU0)) (fun g hg e => by simp [Value.ownBlock] at hg e; omega))
   have k2 := E3.cell d2
   have k3 := E3.cell d3
   have k4 := E3.rules.2 _ 0 (show w.heap.size + 1 < _ by omega)
   have k5 := E3.rules.2 _ 1 (show w.heap.size + 1 < _ by omega)
   rw [f2] at k4
   rw [f3] at k5
   have hvb := ((zg HKK).2.1.choose_spec.1)
   clear hown' hgrow
   obtain ⟨g', cap', rfl⟩ : ∃ g cap, v' = .slice (some ⟨g, 0, none⟩) 1 cap := by
    rcases hvb.2 with ⟨_, e0⟩ | ⟨g, cap, cur, e0, _⟩
    ·simp at e0
    ·exact ⟨g, cap, e0⟩
   clear hvb
   go_wp2
   refine bodyPost_ret (v := .tuple #[.agg #[.slice (some ⟨w.heap.size + 1 + 1 + 1, 0, none⟩) 0 0, .bool false], .slice (some ⟨g', 0, none⟩) 1 cap']) (by simp [results, Tryz.results29, go_sem, k2, k3]) rfl ⟨_, _, [.slice (some ⟨w.heap.size + 1 + 1 + 1 + 1, 0, none⟩) 0 0], rfl, ?_, ?_, ?_⟩
   ·exact zf (zf (zas (zg HUU) (by omega)) (by simp [Value.ownBlock]; try omega) _) (by simp [Value.ownBlock]; try omega) _
   ·exact (zan.fr (S := fun k => k = w.heap.size + 1) (zg HKK) (by repeat' first | refine Fr.setCell (S := fun q => q = w.heap.size + 1) ?_ (a := ⟨w.heap.size + 1, _, none⟩) rfl _ | exact Fr.refl _ _) (fun g hg e => by have := ((zg HKK).foot hg).1; omega)).mono (by omega)
   ·exact Ext.setCell (Ext.setCell (EV.trans E3) (by dsimp only; omega) _) (by dsimp only; omega) _
theorem zgU (b off cap : Nat) (bs : List Int) (w : World) (hr : zag w .u8 (.slice (some ⟨b, off, none⟩) bs.length cap) bs) (hB : zaj bs) (hl : bs.length ≤ 1048576) (h0 : 0 < bs.length) (h27 : at0 bs 0 ≠ 27) :
  Calls Tryz.prog 29 #[.agg #[.slice (some ⟨b, off, none⟩) bs.length cap, .bool false]] w fun e w' => ∃ hv kv rs, e = .returned (.tuple #[.agg #[hv, .bool false], kv]) ∧ w'.ownsRow w.heap.size 5 1 hv 0 [] ∧ zan w' w.heap.size kv rs (List.replicate bs.length ([65533], 1)) ∧ Ext w w' := by
 obtain ⟨ic, hic, hc0, hc1, hc2⟩ := info_parts zgq
 have c0 := zdE hr h0
 obtain ⟨x0, hx0⟩ : ∃ x, x = at0 bs 0 := ⟨_, rfl⟩
 have hxb := hB.at0 0
 rw [← hx0] at c0 h27 hxb
 have c4 : ∀ o1 o2 o3 o4, ((((w.alloc o1).alloc o2).alloc o3).alloc o4).cell? ⟨b, off, none⟩ = some (.int .u8 x0) := fun o1 o2 o3 o4 => (((((Ext.refl w).alloc o1).alloc o2).alloc o3).alloc o4).cell c0
 have hpos : (0 : Int) < (bs.length : Int) := by omega
 have hne : ((bs.length : Int) == 0) = false := by rw [beq_eq_false_iff_ne]; omega
 have hne2 : ¬ (bs = []) := by intro e; rw [e] at h0; simp at h0
 obtain ⟨n, hn⟩ : ∃ n, n = bs.length := ⟨_, rfl⟩
 rw [← hn] at hl h0 hpos hne ⊢
 have hn0 : ¬ n = 0 := by omega
 clear hr hB hx0 hn hne2
 have hb27 : (x0 == 27) = false := by rw [beq_eq_false_iff_ne]; exact h27
 obtain ⟨V, hV⟩ : ∃ V, V = (w.alloc (.cells #[.slice (some ⟨b, off, none⟩) n cap, .bool false] 38)).alloc (.cells #[.slice none 0 0, .bool false] 38) := ⟨_, rfl⟩
 have hzV : V.heap.size = w.heap.size + 2 := by rw [hV]; simp
 have EV : Ext w V := by rw [hV]; exact ((Ext.refl _).alloc _).alloc _
 have d0 : V.cell? ⟨w.heap.size, 0, none⟩ = some (.slice (some ⟨b, off, none⟩) n cap) := by rw [hV]; simp [go_sem]
 have d2 : V.cell? ⟨w.heap.size + 1, 0, none⟩ = some (.slice none 0 0) := by rw [hV]; simp [go_sem]
 have d3 : V.cell? ⟨w.heap.size + 1, 1, none⟩ = some (.bool false) := by rw [hV]; simp [go_sem]
 have f2 : V.frozen? ⟨w.heap.size + 1, 0, none⟩ = false := by rw [hV]; simp [go_sem]
 have f3 : V.frozen? ⟨w.heap.size + 1, 1, none⟩ = false := by rw [hV]; simp [go_sem]
 have HK0 := zi (zaA V (w.heap.size + 2) 102 2 (by omega))
 have HU0 := zi (zaA (V.alloc (.cells #[] 102)) (w.heap.size + 3) 5 1 (by simp; omega))
 have hz3 : (V.alloc (.cells #[] 102)).heap.size = w.heap.size + 1 + 1 + 1 := by simp; omega
 rw [hzV] at HK0
 rw [hz3] at HU0
 have D0 := zi d0
 have D2 := zi d2
 have D3 := zi d3
 have F2 := zi f2
 have F3 := zi f3
 have HVV := zi hV
 clear hV d0 d2 d3 f2 f3
 go_enter Tryz.func29, Tryz.ntmps29
 go_wp2
 rw [← zg HVV]
 go_loopw [4, 7] (fun o i wr => ∃ (k : Nat) (rs : List Value), k ≤ n ∧ i = .int .i64 k ∧ Hid (zan wr (w.heap.size + 2) o rs (List.replicate k ([65533], 1))) ∧ Hid (wr.ownsRow (w.heap.size + 3) 5 1 (.slice (some ⟨w.heap.size + 1 + 1 + 1, 0, none⟩) 0 0) 0 []) ∧ Hid (Ext V wr)) (fun _ i _ => n - (intOf i).toNat)
 case atStart => exact ⟨0, [], Nat.zero_le _, rfl, zc3 (((Ext.refl _).alloc _).owns (zg HK0)), zg HU0, ((Ext.refl _).alloc _).alloc _⟩
 case round =>
  obtain ⟨k, rs, hk, rfl, HO, HU, HE⟩ := hrel
  have g0 := (zg HE).cell (zg D0)
  by_cases hlt : k < n
  ·have bk : (k : Int) < (n : Int) := by omega
   have z2 := (zg HE).size
   obtain ⟨h0', ⟨ys, hy, hyy⟩, h3, h4⟩ := (zg HO)
   rw [List.length_replicate] at hy hyy h3
   have hyE := zi ((((Ext.refl wr).alloc (.cells #[.int .i32 65533] 21)).alloc (.cells #[.int .i64 1, .slice (some ⟨wr.heap.size, 0, none⟩) 1 1] 102)).owns hy)
   have HYY := zi hyy
   have H3 := zi h3
   clear hy hyy h3 h4
   go_wp2_with (at_builtin; go_must (refine wpList_append_own _ rfl _ _ 62 rfl (w.heap.size + 2) 102 ic (.agg zH2) 2 32 Tryz.underlying62 hic hc0 hc1 hc2 rfl (by decide) _ _ _ rfl (zg hyE) ⟨wr.heap.size + 1, 0, none⟩ 1 1 [.int .i64 1, .slice (some ⟨wr.heap.size, 0, none⟩) 1 1] rfl rfl ?_ (zby rfl rfl) ?_ ?_ ?_ ?_))
   ·have := zal (w := wr.alloc (.cells #[.int .i32 65533] 21)) [.int .i64 1, .slice (some ⟨wr.heap.size, 0, none⟩) 1 1] 102
    simpa using this
   ·unfold maxLen; omega
   ·omega
   ·simp; omega
   ·intro v' w3 hown' hgrow _
    have E3 : Ext V w3 := (((zg HE).alloc _).alloc _).grown hgrow (fun q hq => by have := ((zg hyE).lt q hq).1; omega)
    have hO3 : zan w3 (w.heap.size + 2) v' (rs ++ [.slice (some ⟨wr.heap.size, 0, none⟩) 1 1]) (List.replicate k ([65533], 1) ++ [([65533], 1)]) := by
     refine zan.push (((zg HO).ext (((Ext.refl wr).alloc _).alloc _))) (by rw [List.length_replicate]; exact zg hyE) (by rw [List.length_replicate]; exact zg HYY) ?_ ?_ (by rw [List.length_replicate]; exact hown') hgrow
     ·exact ((Ext.refl _).alloc _).owns (zdx .i32 [65533] 21 (w.heap.size + 2) 1 rfl (by omega) (by unfold maxLen; simp))
     ·intro j q hj hq
      rw [List.length_replicate] at hj
      have := ((zg H3) j hj).lt q hq
      simp [Value.ownBlock]; omega
    rw [← List.replicate_succ'] at hO3
    have HO3 := zi hO3
    have HU3 := zi (zbN ((((Ext.refl wr).alloc (.cells #[.int .i32 65533] 21)).alloc (.cells #[.int .i64 1, .slice (some ⟨wr.heap.size, 0, none⟩) 1 1] 102)).owns (zg HU)) (fun g hg => hgrow.block g ((((((Ext.refl wr).alloc (.cells #[.int .i32 65533] 21)).alloc (.cells #[.int .i64 1, .slice (some ⟨wr.heap.size, 0, none⟩) 1 1] 102)).owns (zg HU))).lt g hg).2 (fun e => zaW ((((Ext.refl wr).alloc (.cells #[.int .i32 65533] 21)).alloc (.cells #[.int .i64 1, .slice (some ⟨wr.heap.size, 0, none⟩) 1 1] 102)).owns (zg HU)) (zg hyE) (by decide) hg e.symm)))
    clear hown' hgrow hO3 hyE H3
    go_wp2
    go_roundw
    case rel => exact ⟨k + 1, _, by omega, by go_num, HO3, HU3, E3⟩
    case measure => simp [intOf]; omega
  ·obtain rfl : k = n := by omega
   have k2 := (zg HE).cell (zg D2)
   have k3 := (zg HE).cell (zg D3)
   have k4 := (zg HE).rules.2 _ 0 (show w.heap.size + 1 < _ by omega)
   have k5 := (zg HE).rules.2 _ 1 (show w.heap.size + 1 < _ by omega)
   rw [zg F2] at k4
   rw [zg F3] at k5
   have hvb := ((zg HO).2.1.choose_spec.1)
   obtain ⟨g', cap', rfl⟩ : ∃ g cap, u4 = .slice (some ⟨g, 0, none⟩) k cap := by
    rcases hvb.2 with ⟨_, e0⟩ | ⟨g, cap, cur, e0, _⟩
    ·simp at e0; omega
    ·exact ⟨g, cap, by simpa using e0⟩
   clear hvb
   go_wp2
   refine bodyPost_ret (v := .tuple #[.agg #[.slice (some ⟨w.heap.size + 1 + 1 + 1, 0, none⟩) 0 0, .bool false], .slice (some ⟨g', 0, none⟩) k cap']) (by simp [results, Tryz.results29, go_sem, k2, k3]) rfl ⟨_, _, rs, rfl, ?_, ?_, ?_⟩
   ·exact zf (zf (zas (zg HU) (by omega)) (by simp [Value.ownBlock]; try omega) _) (by simp [Value.ownBlock]; try omega) _
   ·exact (zan.fr (S := fun k => k = w.heap.size + 1) (zg HO) (by repeat' first | refine Fr.setCell (S := fun q => q = w.heap.size + 1) ?_ (a := ⟨w.heap.size + 1, _, none⟩) rfl _ | exact Fr.refl _ _) (fun g hg e => by have := ((zg HO).foot hg).1; omega)).mono (by omega)
   ·exact Ext.setCell (Ext.setCell (EV.trans (zg HE)) (by dsimp only; omega) _) (by dsimp only; omega) _
def zhj (w : World) (D base : Nat) (kv : Value) (rs : List Value) (ks : List (List Int × Int)) : Prop :=
 w.cell? ⟨D, 2, none⟩ = some kv ∧ w.frozen? ⟨D, 2, none⟩ = false ∧ zan w base kv rs ks ∧ D < base
theorem zhU (D base : Nat) (kv : Value) (rs : List Value) (ks : List (List Int × Int)) (kd : Int) (w : World) (h : zhj w D base kv rs ks) (hb : base ≤ w.heap.size) (hl : ks.length ≤ 4194304) :
  Calls Tryz.prog 102 #[.pointer (some ⟨D, 0, none⟩), .int .i64 kd] w fun e w' => e = .returned (.tuple #[]) ∧ ∃ kv', zhj w' D base kv' (rs ++ [.slice none 0 0]) (ks ++ [([], kd)]) ∧ Fr (fun k => k = D ∨ kv.ownBlock = some k) w w' := by
 obtain ⟨ic, hic, hc0, hc1, hc2⟩ := info_parts zgq
 obtain ⟨h0, h1, h2, h3⟩ := h
 have hD : D < w.heap.size := zb2 h0
 have H2 := zi h2
 obtain ⟨h0', ⟨ys, hy, hyy⟩, hr, h4⟩ := h2
 have HY := zi hy
 have HYA := zi (((Ext.refl w).alloc (.cells #[.int .i64 kd, .slice none 0 0] 102)).owns hy)
 have HYY := zi hyy
 clear hy hyy hr h4
 go_enter Tryz.func102, Tryz.ntmps102
 go_wp2_with (at_builtin; go_must (refine wpList_append_own _ rfl _ _ 62 rfl base 102 ic (.agg zH2) 2 32 Tryz.underlying62 hic hc0 hc1 hc2 rfl (by decide) _ _ _ rfl (zg HYA) ⟨w.heap.size, 0, none⟩ 1 1 [.int .i64 kd, .slice none 0 0] rfl rfl ?_ (zby rfl rfl) ?_ ?_ ?_ ?_))
 ·exact zal (w := w) [.int .i64 kd, .slice none 0 0] 102
 ·unfold maxLen; omega
 ·omega
 ·simp; omega
 ·intro v' w3 hown' hgrow _
  have fr3 : Fr (fun k => kv.ownBlock = some k) w w3 := Fr.grown (Fr.of_ext ((Ext.refl w).alloc _)) hgrow (fun k hk => hk)
  have hkD : kv.ownBlock ≠ some D := fun e => by have := ((zg HY).lt D e).1; omega
  have k0 : w3.cell? ⟨D, 2, none⟩ = some kv := by rw [hgrow.cell_far _ (by simp; omega) (by simp; exact fun e => hkD e.symm)]; exact ((Ext.refl w).alloc _).cell h0
  have k1 : w3.frozen? ⟨D, 2, none⟩ = false := by rw [hgrow.frozen_far _ (by simp; omega) (by simp; exact fun e => hkD e.symm), ((Ext.refl w).alloc _).rules.2 _ _ hD]; exact h1
  have hO3 : zan w3 base v' (rs ++ [.slice none 0 0]) (ks ++ [([], kd)]) :=
   zan.push (((zg H2).ext ((Ext.refl w).alloc _))) (zg HYA) (zg HYY) ⟨by simp, .inl ⟨rfl, rfl⟩⟩ (fun j g _ _ => by simp [Value.ownBlock]) hown' hgrow
  obtain ⟨g', cap', rfl⟩ : ∃ g cap, v' = .slice (some ⟨g, 0, none⟩) (ks.length + 1) cap := by
   rcases hown'.2 with ⟨_, e0⟩ | ⟨g, cap, cur, e0, _⟩
   ·simp at e0
   ·exact ⟨g, cap, e0⟩
  have HO3 := zi hO3
  have FR3 := zi fr3
  have KK0 := zi k0
  have KK1 := zi k1
  clear hown' hgrow hO3 HYA HY H2 fr3
  go_wp2
  go_end0
  refine ⟨rfl, .slice (some ⟨g', 0, none⟩) (ks.length + 1) cap', ⟨World.cell?_setCell_same _ _ _ (zg KK0), ?_, ?_, h3⟩, ?_⟩
  ·simpa [go_sem] using (zg KK1)
  ·exact zan.fr (S := fun k => k = D) (zg HO3) (Fr.setCell (S := fun q => q = D) (Fr.refl _ _) (a := ⟨D, 2, none⟩) rfl _) (fun g hg e => by have := ((zg HO3).foot hg).1; omega)
  ·refine Fr.setCell (a := ⟨D, 2, none⟩) ?_ (.inl rfl) _
   exact ⟨(zg FR3).os, (zg FR3).tape, (zg FR3).output, (zg FR3).size, fun k hk hn => (zg FR3).block k hk (fun e => hn (.inr e))⟩
theorem zmz (w : World) (o : Obj) (u v : Value) (t : TypeId) : ∀ j x, [u, v][j]? = some x → ((w.alloc o).alloc (.cells #[u, v] t)).drew.cell? ((⟨w.heap.size + 1, 0, none⟩ : Addr).add j) = some x := by
 have := zal (w := w.alloc o) [u, v] t
 have h2 : (w.alloc o).heap.size = w.heap.size + 1 := by simp
 rw [h2] at this
 exact this
theorem zhz (D base : Nat) (kv : Value) (rs : List Value) (ks : List (List Int × Int)) (x : Int) (w : World) (h : zhj w D base kv rs ks) (hb : base ≤ w.heap.size) (hl : ks.length ≤ 4194304) :
    Calls Tryz.prog 101 #[.pointer (some ⟨D, 0, none⟩), .int .i32 x] w fun e w' => e = .returned (.tuple #[]) ∧ ∃ kv' r, zhj w' D base kv' (rs ++ [r]) (ks ++ [([zaa x], 1)]) ∧ Fr (fun k => k = D ∨ kv.ownBlock = some k) w w' := by
  obtain ⟨ic, hic, hc0, hc1, hc2⟩ := info_parts zgq
  obtain ⟨h0, h1, h2, h3⟩ := h
  have hD : D < w.heap.size := zb2 h0
  have H2 := zi h2
  obtain ⟨h0', ⟨ys, hy, hyy⟩, hr, h4⟩ := h2
  have HY := zi hy
  have HYY := zi hyy
  have HR := zi hr
  have hkD : kv.ownBlock ≠ some D := fun e => by have := (hy.lt D e).1; omega
  have HKD := zi hkD
  clear hy hyy hr h4 hkD
  go_enter Tryz.func101, Tryz.ntmps101
  go_region_law (first
    | (refine step_append_lies _ (by rfl) _ _ _ (by rfl) base 102 ic _ 2 32 Tryz.underlying62 hic hc0 hc1 hc2 rfl (by omega) kv ks.length ys (by rfl) (by first | exact (((Ext.refl w).drew.alloc _).alloc _).owns (zg HY) | exact (((Ext.refl w).alloc _).alloc _).drew.owns (zg HY)) ⟨w.heap.size + 1, 0, none⟩ 1 1 [.int .i64 1, .slice (some ⟨w.heap.size, 0, none⟩) 1 1] (by rfl) (by rfl) (zmz w _ _ _ _) (zby rfl rfl) (by omega) (by unfold maxLen; omega) (by omega) (by simp; omega) (w.heap.size + 2) (by simp) ?_
       intro g' cap' w3 hown3 hgrow hat hlt3
       have fr3 : Fr (fun k => kv.ownBlock = some k) w w3 := Fr.grown (Fr.of_ext (((Ext.refl w).alloc _).alloc _).drew) hgrow (fun k hk => hk)
       have k0 : w3.cell? ⟨D, 2, none⟩ = some kv := by rw [hgrow.cell_far _ (by simp; omega) (by simp; exact fun e => (zg HKD) e.symm)]; exact (((Ext.refl w).alloc _).alloc _).drew.cell h0
       have k1 : w3.frozen? ⟨D, 2, none⟩ = false := by rw [hgrow.frozen_far _ (by simp; omega) (by simp; exact fun e => (zg HKD) e.symm), (((Ext.refl w).alloc _).alloc _).drew.rules.2 _ _ hD]; exact h1
       have HO3 := zi (zan.push (r := .slice (some ⟨w.heap.size, 0, none⟩) 1 1) (xs := [zaa x]) (d := 1) ((zg H2).ext (((Ext.refl w).alloc _).alloc _).drew) ((((Ext.refl w).alloc _).alloc _).drew.owns (zg HY)) (zg HYY) (((Ext.refl _).alloc _).drew.owns (zdx .i32 [zaa x] 21 base 1 rfl (by omega) (by unfold maxLen; simp))) (fun j g hj hg => by have := ((zg HR) j hj).lt g hg; simp [Value.ownBlock]; omega) hown3 hgrow)
       have FR3 := zi fr3
       have KK0 := zi k0
       have KK1 := zi k1
       clear hown3 hgrow fr3)
    | (go_simp; go_at_call 165; refine (zbw _ _).mono ?_; rintro e w' ⟨rfl, rfl⟩))
  all_goals
    go_wp2
    go_end0
    refine ⟨rfl, .slice (some ⟨g', 0, none⟩) (ks.length + 1) cap', .slice (some ⟨w.heap.size, 0, none⟩) 1 1, ⟨World.cell?_setCell_same _ _ _ (zg KK0), ?_, ?_, h3⟩, ?_⟩
    · simpa [go_sem] using (zg KK1)
    · exact zan.fr (S := fun k => k = D) (zg HO3) (Fr.setCell (S := fun q => q = D) (Fr.refl _ _) (a := ⟨D, 2, none⟩) rfl _) (fun g hg e => by have := ((zg HO3).foot hg).1; omega)
    · refine Fr.setCell (a := ⟨D, 2, none⟩) ?_ (.inl rfl) _
      exact ⟨(zg FR3).os, (zg FR3).tape, (zg FR3).output, (zg FR3).size, fun k hk hn => (zg FR3).block k hk (fun e => hn (.inr e))⟩
theorem zhm (b off cap : Nat) (bs : List Int) (w : World) (hr : zag w .u8 (.slice (some ⟨b, off, none⟩) bs.length cap) bs) (hl : bs.length ≤ 1048576) (h0 : 0 < bs.length) :
  Calls Tryz.prog 62 #[.agg #[.slice (some ⟨b, off, none⟩) bs.length cap, .bool true]] w fun e w' => ∃ hv kv, e = .returned (.tuple #[.agg #[hv, .bool true], kv]) ∧ w'.ownsRow w.heap.size 5 1 hv bs.length (bs.map (Value.int .u8)) ∧ zan w' w.heap.size kv [] [] ∧ Ext w w' := by
 obtain ⟨i0, hi, hz0, hz1, hz2⟩ := info_parts zlv
 have HR := zi hr
 clear hr
 go_enter Tryz.func62, Tryz.ntmps62
 go_wp2
 obtain ⟨V, hV⟩ : ∃ V, V = (w.alloc (Obj.cells #[Value.slice (some { block := b, off := off }) bs.length cap, Value.bool true] 38)).alloc (Obj.cells #[Value.slice none 0 0, Value.bool false] 38) := ⟨_, rfl⟩
 rw [← hV]
 have hzV : V.heap.size = w.heap.size + 2 := by rw [hV]; simp
 have EV : Ext w V := by rw [hV]; exact ((Ext.refl _).alloc _).alloc _
 have c0 : V.cell? ⟨w.heap.size, 0, none⟩ = some (.slice (some ⟨b, off, none⟩) bs.length cap) := by rw [hV]; simp [go_sem]
 have c1 : V.cell? ⟨w.heap.size, 1, none⟩ = some (.bool true) := by rw [hV]; simp [go_sem]
 have c2 : V.cell? ⟨w.heap.size + 1, 0, none⟩ = some (.slice none 0 0) := by rw [hV]; simp [go_sem]
 have c3 : V.cell? ⟨w.heap.size + 1, 1, none⟩ = some (.bool false) := by rw [hV]; simp [go_sem]
 have f2 : V.frozen? ⟨w.heap.size + 1, 0, none⟩ = false := by rw [hV]; simp [go_sem]
 have f3 : V.frozen? ⟨w.heap.size + 1, 1, none⟩ = false := by rw [hV]; simp [go_sem]
 clear hV
 have HO : Hid (V.drew.ownsRow (w.heap.size + 2) 5 1 (.slice none 0 0) 0 []) := ⟨by simp, .inl ⟨rfl, rfl⟩⟩
 have HC := zi (zfv ((zg HR).ext EV.drew) h0)
 go_region_law (first
  | (refine step_append_lies _ (by rfl) _ _ _ (by rfl) (w.heap.size + 2) 5 i0 _ 1 1 Tryz.underlying25 hi hz0 hz1 hz2 rfl (by omega) _ 0 [] (by rfl) (zg HO) ⟨b, off, none⟩ bs.length cap (bs.map (Value.int .u8)) (by rfl) (by simp) (zg HC) (ints_oneCell _ _) (by omega) (by unfold maxLen; omega) (by omega) (by simp [hzV]) (w.heap.size + 2) (by simp [hzV]) ?_; intro g1 cap1 w1 o1 G1 at1 lt1; have E1 : Ext V w1 := (Ext.refl V).drew.grown G1 (fun k hk => by simp [Value.ownBlock] at hk); have k0 := E1.cell c0; have k1 := E1.cell c1; have k2 := E1.cell c2; have k3 := E1.cell c3; have k4 := E1.rules.2 _ 0 (show w.heap.size + 1 < _ by omega); have k5 := E1.rules.2 _ 1 (show w.heap.size + 1 < _ by omega); rw [f2] at k4; rw [f3] at k5; have O1 := zi o1; clear o1 G1))
 all_goals
  go_wp2
  refine bodyPost_ret (v := .tuple #[.agg #[.slice (some ⟨g1, 0, none⟩) (0 + bs.length) cap1, .bool true], .slice none 0 0]) (by simp [results, Tryz.results62, go_sem, k2, k3]) rfl ⟨_, _, rfl, ?_, zc3 ⟨by simp, .inl ⟨rfl, rfl⟩⟩, ?_⟩
  ·rw [Nat.zero_add]
   have := zg O1
   rw [Nat.zero_add, List.nil_append] at this
   refine zf (zf (zas this (by omega)) ?_ _) ?_ _
   ·intro e; have := (this.lt _ e).1; dsimp only at this; omega
   ·intro e; have := (this.lt _ e).1; dsimp only at this; omega
  ·exact ((EV.trans E1).setCell (by dsimp only; omega) _).setCell (by dsimp only; omega) _
theorem zhb (b off cap : Nat) (p : Bool) (w : World) :
  Calls Tryz.prog 62 #[.agg #[.slice (some ⟨b, off, none⟩) 0 cap, .bool p]] w fun e w' => ∃ hv kv, e = .returned (.tuple #[.agg #[hv, .bool p], kv]) ∧ w'.ownsRow w.heap.size 5 1 hv 0 [] ∧ zan w' w.heap.size kv [] [] ∧ Ext w w' := by
 cases p
 ·go_enter Tryz.func62, Tryz.ntmps62
  go_wp2
  go_region_law (first | fail)
  all_goals
   go_wp2
   exact bodyPost_ret (v := .tuple #[.agg #[.slice none 0 0, .bool false], .slice none 0 0]) (by simp [results, Tryz.results62, go_sem]) rfl ⟨_, _, rfl, ⟨by simp, .inl ⟨rfl, rfl⟩⟩, zc3 ⟨by simp, .inl ⟨rfl, rfl⟩⟩, by repeat' first | exact Ext.refl _ | refine Ext.alloc ?_ _ | refine Ext.drew ?_ | refine Ext.setCell ?_ (by dsimp only; omega) _⟩
 ·go_enter Tryz.func62, Tryz.ntmps62
  go_wp2
  go_region_law (first | fail)
  all_goals
   go_wp2
   exact bodyPost_ret (v := .tuple #[.agg #[.slice none 0 0, .bool true], .slice none 0 0]) (by simp [results, Tryz.results62, go_sem]) rfl ⟨_, _, rfl, ⟨by simp, .inl ⟨rfl, rfl⟩⟩, zc3 ⟨by simp, .inl ⟨rfl, rfl⟩⟩, by repeat' first | exact Ext.refl _ | refine Ext.alloc ?_ _ | refine Ext.drew ?_ | refine Ext.setCell ?_ (by dsimp only; omega) _⟩
theorem ziM (p : Bool) (w : World) :
  Calls Tryz.prog 62 #[.agg #[.slice none 0 0, .bool p]] w fun e w' => ∃ hv kv, e = .returned (.tuple #[.agg #[hv, .bool p], kv]) ∧ w'.ownsRow w.heap.size 5 1 hv 0 [] ∧ zan w' w.heap.size kv [] [] ∧ Ext w w' := by
 cases p
 ·go_enter Tryz.func62, Tryz.ntmps62
  go_wp2
  go_region_law (first | fail)
  all_goals
   go_wp2
   exact bodyPost_ret (v := .tuple #[.agg #[.slice none 0 0, .bool false], .slice none 0 0]) (by simp [results, Tryz.results62, go_sem]) rfl ⟨_, _, rfl, ⟨by simp, .inl ⟨rfl, rfl⟩⟩, zc3 ⟨by simp, .inl ⟨rfl, rfl⟩⟩, by repeat' first | exact Ext.refl _ | refine Ext.alloc ?_ _ | refine Ext.drew ?_ | refine Ext.setCell ?_ (by dsimp only; omega) _⟩
 ·go_enter Tryz.func62, Tryz.ntmps62
  go_wp2
  go_region_law (first | fail)
  all_goals
   go_wp2
   exact bodyPost_ret (v := .tuple #[.agg #[.slice none 0 0, .bool true], .slice none 0 0]) (by simp [results, Tryz.results62, go_sem]) rfl ⟨_, _, rfl, ⟨by simp, .inl ⟨rfl, rfl⟩⟩, zc3 ⟨by simp, .inl ⟨rfl, rfl⟩⟩, by repeat' first | exact Ext.refl _ | refine Ext.alloc ?_ _ | refine Ext.drew ?_ | refine Ext.setCell ?_ (by dsimp only; omega) _⟩
theorem Fr.drew {S : Nat → Prop} {w w' : World} (h : Fr S w w') : Fr S w w'.drew := ⟨h.os, h.tape, h.output, h.size, h.block⟩
theorem zhj.zero (V : World) (o : Obj) (D : Nat) (h0 : (V.alloc o).cell? ⟨D, 2, none⟩ = some (.slice none 0 0)) (h1 : (V.alloc o).frozen? ⟨D, 2, none⟩ = false) : zhj (V.alloc o) D (D + 1) (.slice none 0 0) [] [] :=
 ⟨h0, h1, zc3 ⟨by simp, .inl ⟨rfl, rfl⟩⟩, by omega⟩
theorem ziL (b off cap : Nat) (bs : List Int) (kd : Int) (hkd : kd = if bs.length = 1 then 22 else 23) (w : World) (hr : zag w .u8 (.slice (some ⟨b, off, none⟩) bs.length cap) bs) (hl : bs.length ≤ 1048576) (h0 : 0 < bs.length) (h27 : at0 bs 0 = 27) :
  Calls Tryz.prog 62 #[.agg #[.slice (some ⟨b, off, none⟩) bs.length cap, .bool false]] w fun e w' => ∃ hv kv rs, e = .returned (.tuple #[.agg #[hv, .bool false], kv]) ∧ hv = .slice none 0 0 ∧ zan w' w.heap.size kv rs [([], kd)] ∧ Ext w w' := by
 have c0 := zdE hr h0
 rw [h27] at c0
 have c4 : ∀ o1 o2 o3, (((w.alloc o1).alloc o2).alloc o3).cell? ⟨b, off, none⟩ = some (.int .u8 27) := fun o1 o2 o3 => ((((Ext.refl w).alloc o1).alloc o2).alloc o3).cell c0
 have hpos : (0 : Int) < (bs.length : Int) := by omega
 have hne : ((bs.length : Int) == 0) = false := by rw [beq_eq_false_iff_ne]; omega
 have hne2 : ¬ (bs = []) := by intro e; rw [e] at h0; simp at h0
 clear hr
 obtain ⟨n, hn⟩ : ∃ n, n = bs.length := ⟨_, rfl⟩
 rw [← hn] at hkd hl h0 hpos hne ⊢
 have hn0 : ¬ n = 0 := by omega
 clear hne2 h27 hn
 obtain ⟨V, hV⟩ : ∃ V, V = (w.alloc (.cells #[.slice (some ⟨b, off, none⟩) n cap, .bool false] 38)).alloc (.cells #[.slice none 0 0, .bool false] 38) := ⟨_, rfl⟩
 have hzV : V.heap.size = w.heap.size + 1 + 1 := by rw [hV]; simp
 have EV : Ext w V := by rw [hV]; exact ((Ext.refl _).alloc _).alloc _
 have d0 : V.cell? ⟨w.heap.size, 0, none⟩ = some (.slice (some ⟨b, off, none⟩) n cap) := by rw [hV]; simp [go_sem]
 have d2 : V.cell? ⟨w.heap.size + 1, 0, none⟩ = some (.slice none 0 0) := by rw [hV]; simp [go_sem]
 have d3 : V.cell? ⟨w.heap.size + 1, 1, none⟩ = some (.bool false) := by rw [hV]; simp [go_sem]
 have f2 : V.frozen? ⟨w.heap.size + 1, 0, none⟩ = false := by rw [hV]; simp [go_sem]
 have f3 : V.frozen? ⟨w.heap.size + 1, 1, none⟩ = false := by rw [hV]; simp [go_sem]
 have HD : Hid (zhj (V.alloc (.cells #[.slice none 0 0, .bool false, .slice none 0 0, .map none, .map none, .map none] 143)) (w.heap.size + 1 + 1) (w.heap.size + 1 + 1 + 1) (.slice none 0 0) [] []) :=
  zi (zhj.zero V _ _ (by rw [← hzV]; simp [go_sem]) (by rw [← hzV]; simp [go_sem]))
 have D2 := zi d2
 have D3 := zi d3
 have F2 := zi f2
 have F3 := zi f3
 have HVV := zi hV
 clear hV d0 d2 d3 f2 f3
 by_cases h1 : n = 1
 ·rw [if_pos h1] at hkd
  subst h1 hkd
  go_enter Tryz.func62, Tryz.ntmps62
  go_wp2_with fail
  rw [← zg HVV]
  refine (zhU _ _ _ _ _ 22 _ (zg HD) (by simp [hzV]) (by simp)).mono ?_
  rintro e w1 ⟨rfl, kv', DK, fr⟩
  obtain ⟨dk0, dk1, dk2, dk3⟩ := DK
  have E1 : Ext V w1 := Fr.ext fr ((Ext.refl V).alloc _) (fun k hk => hk.elim (fun e => by omega) (fun e => by simp [Value.ownBlock] at e))
  have k2 := E1.cell (zg D2)
  have k3 := E1.cell (zg D3)
  have k4 := E1.rules.2 _ 0 (show w.heap.size + 1 < _ by omega)
  have k5 := E1.rules.2 _ 1 (show w.heap.size + 1 < _ by omega)
  rw [zg F2] at k4
  rw [zg F3] at k5
  have hvb := dk2.2.1.choose_spec.1
  obtain ⟨g', cap', rfl⟩ : ∃ g cap, kv' = .slice (some ⟨g, 0, none⟩) 1 cap := by
   rcases hvb.2 with ⟨_, e0⟩ | ⟨g, cap, cur, e0, _⟩
   ·simp at e0
   ·exact ⟨g, cap, e0⟩
  have HK := zi dk2
  clear hvb dk2 fr
  go_wp2
  go_region_law (first | fail)
  all_goals
   go_wp2
   refine bodyPost_ret (v := .tuple #[.agg #[.slice none 0 0, .bool false], .slice (some ⟨g', 0, none⟩) 1 cap']) (by simp [results, Tryz.results62, go_sem, k2, k3]) rfl ⟨_, _, [.slice none 0 0], rfl, rfl, ?_, ?_⟩
   ·refine (zan.fr (S := fun k => k = w.heap.size + 1) (zg HK) ?_ (fun g hg e => by have := ((zg HK).foot hg).1; omega)).mono (by omega)
    repeat' first | refine Fr.setCell (S := fun q => q = w.heap.size + 1) ?_ (a := ⟨w.heap.size + 1, _, none⟩) rfl _ | refine Fr.drew ?_ | exact Fr.refl _ _
   ·have := EV.trans E1
    repeat' first | exact this | refine Ext.drew ?_ | refine Ext.setCell ?_ (by dsimp only; omega) _
 ·rw [if_neg h1] at hkd
  subst hkd
  have h11 : ¬ ((n : Int) = 1) := by omega
  go_enter Tryz.func62, Tryz.ntmps62
  go_wp2_with fail
  rw [← zg HVV]
  refine (zhU _ _ _ _ _ 23 _ (zg HD) (by simp [hzV]) (by simp)).mono ?_
  rintro e w1 ⟨rfl, kv', DK, fr⟩
  obtain ⟨dk0, dk1, dk2, dk3⟩ := DK
  have E1 : Ext V w1 := Fr.ext fr ((Ext.refl V).alloc _) (fun k hk => hk.elim (fun e => by omega) (fun e => by simp [Value.ownBlock] at e))
  have k2 := E1.cell (zg D2)
  have k3 := E1.cell (zg D3)
  have k4 := E1.rules.2 _ 0 (show w.heap.size + 1 < _ by omega)
  have k5 := E1.rules.2 _ 1 (show w.heap.size + 1 < _ by omega)
  rw [zg F2] at k4
  rw [zg F3] at k5
  have hvb := dk2.2.1.choose_spec.1
  obtain ⟨g', cap', rfl⟩ : ∃ g cap, kv' = .slice (some ⟨g, 0, none⟩) 1 cap := by
   rcases hvb.2 with ⟨_, e0⟩ | ⟨g, cap, cur, e0, _⟩
   ·simp at e0
   ·exact ⟨g, cap, e0⟩
  have HK := zi dk2
  clear hvb dk2 fr
  go_wp2
  go_region_law (first | fail)
  all_goals
   go_wp2
   refine bodyPost_ret (v := .tuple #[.agg #[.slice none 0 0, .bool false], .slice (some ⟨g', 0, none⟩) 1 cap']) (by simp [results, Tryz.results62, go_sem, k2, k3]) rfl ⟨_, _, [.slice none 0 0], rfl, rfl, ?_, ?_⟩
   ·refine (zan.fr (S := fun k => k = w.heap.size + 1) (zg HK) ?_ (fun g hg e => by have := ((zg HK).foot hg).1; omega)).mono (by omega)
    repeat' first | refine Fr.setCell (S := fun q => q = w.heap.size + 1) ?_ (a := ⟨w.heap.size + 1, _, none⟩) rfl _ | refine Fr.drew ?_ | exact Fr.refl _ _
   ·have := EV.trans E1
    repeat' first | exact this | refine Ext.drew ?_ | refine Ext.setCell ?_ (by dsimp only; omega) _
theorem zgZ (b off cap : Nat) (bs : List Int) (w : World) (hr : zag w .u8 (.slice (some ⟨b, off, none⟩) bs.length cap) bs) (hB : zaj bs) (hl : bs.length ≤ 1048576) (h0 : 0 < bs.length) (h27 : at0 bs 0 ≠ 27) :
  Calls Tryz.prog 62 #[.agg #[.slice (some ⟨b, off, none⟩) bs.length cap, .bool false]] w fun e w' => ∃ hv kv rs, e = .returned (.tuple #[.agg #[hv, .bool false], kv]) ∧ hv = .slice none 0 0 ∧ zan w' w.heap.size kv rs (List.replicate bs.length ([65533], 1)) ∧ Ext w w' := by
 have c0 := zdE hr h0
 obtain ⟨x0, hx0⟩ : ∃ x, x = at0 bs 0 := ⟨_, rfl⟩
 have hxb := hB.at0 0
 rw [← hx0] at c0 h27 hxb
 have c4 : ∀ o1 o2 o3, (((w.alloc o1).alloc o2).alloc o3).cell? ⟨b, off, none⟩ = some (.int .u8 x0) := fun o1 o2 o3 => ((((Ext.refl w).alloc o1).alloc o2).alloc o3).cell c0
 have hb27 : (x0 != 27) = true := by simp [h27]
 have hpos : (0 : Int) < (bs.length : Int) := by omega
 have hne : ((bs.length : Int) == 0) = false := by rw [beq_eq_false_iff_ne]; omega
 clear hr
 obtain ⟨n, hn⟩ : ∃ n, n = bs.length := ⟨_, rfl⟩
 rw [← hn] at hl h0 hpos hne ⊢
 have hn0 : ¬ n = 0 := by omega
 clear hn hB hx0
 obtain ⟨V, hV⟩ : ∃ V, V = (w.alloc (.cells #[.slice (some ⟨b, off, none⟩) n cap, .bool false] 38)).alloc (.cells #[.slice none 0 0, .bool false] 38) := ⟨_, rfl⟩
 have hzV : V.heap.size = w.heap.size + 1 + 1 := by rw [hV]; simp
 have EV : Ext w V := by rw [hV]; exact ((Ext.refl _).alloc _).alloc _
 have d2 : V.cell? ⟨w.heap.size + 1, 0, none⟩ = some (.slice none 0 0) := by rw [hV]; simp [go_sem]
 have d3 : V.cell? ⟨w.heap.size + 1, 1, none⟩ = some (.bool false) := by rw [hV]; simp [go_sem]
 have f2 : V.frozen? ⟨w.heap.size + 1, 0, none⟩ = false := by rw [hV]; simp [go_sem]
 have f3 : V.frozen? ⟨w.heap.size + 1, 1, none⟩ = false := by rw [hV]; simp [go_sem]
 have HD : Hid (zhj (V.alloc (.cells #[.slice none 0 0, .bool false, .slice none 0 0, .map none, .map none, .map none] 143)) (w.heap.size + 1 + 1) (w.heap.size + 1 + 1 + 1) (.slice none 0 0) [] []) :=
  zi (zhj.zero V _ _ (by rw [← hzV]; simp [go_sem]) (by rw [← hzV]; simp [go_sem]))
 have D2 := zi d2
 have D3 := zi d3
 have F2 := zi f2
 have F3 := zi f3
 have HVV := zi hV
 clear hV d2 d3 f2 f3
 go_enter Tryz.func62, Tryz.ntmps62
 go_wp2
 rw [← zg HVV]
 go_loopw [30] (fun i wr => ∃ (k : Nat) (kv : Value) (rs : List Value), k ≤ n ∧ i = .int .i64 k ∧ Hid (zhj wr (w.heap.size + 1 + 1) (w.heap.size + 1 + 1 + 1) kv rs (List.replicate k ([65533], 1))) ∧ Hid (Ext V wr) ∧ w.heap.size + 1 + 1 + 1 ≤ wr.heap.size) (fun i _ => n - (intOf i).toNat)
 case atStart => exact ⟨0, .slice none 0 0, [], Nat.zero_le _, rfl, HD, (Ext.refl _).alloc _, by simp [hzV]⟩
 case round =>
  obtain ⟨k, kv, rs, hk, rfl, HK, HE, hsz⟩ := hrel
  by_cases hlt : k < n
  ·have bk : (k : Int) < (n : Int) := by omega
   go_wp2_with fail
   refine (zhz _ _ _ _ _ 65533 _ (zg HK) hsz (by simp; omega)).mono ?_
   rintro e w1 ⟨rfl, kv', r, DK, fr⟩
   rw [show zaa 65533 = 65533 by decide, ← List.replicate_succ'] at DK
   have HK2 := zi DK
   have hfo := (zg HK).2.2.1
   have HE2 := zi (fr.ext (zg HE) (fun q hq => hq.elim (fun e => by omega) (fun e => by have := (hfo.foot (.inl e)).1; omega)))
   have hs2 := fr.size
   clear DK fr hfo
   go_wp2
   go_roundw
   case rel => exact ⟨k + 1, kv', _, by omega, by go_num, HK2, HE2, by omega⟩
   case measure => simp [intOf]; omega
  ·obtain rfl : k = n := by omega
   obtain ⟨dk0, dk1, dk2, dk3⟩ := zg HK
   have k2 := (zg HE).cell (zg D2)
   have k3 := (zg HE).cell (zg D3)
   have k4 := (zg HE).rules.2 _ 0 (show w.heap.size + 1 < _ by omega)
   have k5 := (zg HE).rules.2 _ 1 (show w.heap.size + 1 < _ by omega)
   rw [zg F2] at k4
   rw [zg F3] at k5
   have hvb := dk2.2.1.choose_spec.1
   obtain ⟨g', cap', rfl⟩ : ∃ g cap, kv = .slice (some ⟨g, 0, none⟩) k cap := by
    rcases hvb.2 with ⟨_, e0⟩ | ⟨g, cap, cur, e0, _⟩
    ·simp at e0; omega
    ·exact ⟨g, cap, by simpa using e0⟩
   have HKK := zi dk2
   clear hvb dk2
   go_wp2
   go_region_law (first | fail)
   all_goals
    go_wp2
    refine bodyPost_ret (v := .tuple #[.agg #[.slice none 0 0, .bool false], .slice (some ⟨g', 0, none⟩) k cap']) (by simp [results, Tryz.results62, go_sem, k2, k3]) rfl ⟨_, _, rs, rfl, rfl, ?_, ?_⟩
    ·refine (zan.fr (S := fun k => k = w.heap.size + 1) (zg HKK) ?_ (fun g hg e => by have := ((zg HKK).foot hg).1; omega)).mono (by omega)
     repeat' first | refine Fr.setCell (S := fun q => q = w.heap.size + 1) ?_ (a := ⟨w.heap.size + 1, _, none⟩) rfl _ | refine Fr.drew ?_ | exact Fr.refl _ _
    ·have := EV.trans (zg HE)
     repeat' first | exact this | refine Ext.drew ?_ | refine Ext.setCell ?_ (by dsimp only; omega) _
theorem zhr (b off cap : Nat) (bs : List Int) (w : World) (hr : zag w .u8 (.slice (some ⟨b, off, none⟩) bs.length cap) bs) (hB : zaj bs) (hl : bs.length ≤ 1048576) (h0 : 0 < bs.length) :
  Calls Tryz.prog 62 #[.agg #[.slice (some ⟨b, off, none⟩) bs.length cap, .bool false]] w fun e w' => ∃ kv rs, e = .returned (.tuple #[.agg #[.slice none 0 0, .bool false], kv]) ∧ zan w' w.heap.size kv rs (zaS bs false) ∧ Ext w w' := by
 by_cases h27 : at0 bs 0 = 27
 ·refine (ziL b off cap bs _ rfl w hr hl h0 h27).mono ?_
  rintro e w' ⟨hv, kv, rs, h1, rfl, h3, h4⟩
  refine ⟨kv, rs, h1, ?_, h4⟩
  rw [zaS, if_neg (fun h => h.elim (fun h => by simp at h) (fun h => by omega)), if_pos h27]
  split
  ·rename_i h5; rw [if_pos h5] at h3; exact h3
  ·rename_i h5; rw [if_neg h5] at h3; exact h3
 ·refine (zgZ b off cap bs w hr hB hl h0 h27).mono ?_
  rintro e w' ⟨hv, kv, rs, h1, rfl, h3, h4⟩
  refine ⟨kv, rs, h1, ?_, h4⟩
  rw [zaS, if_neg (fun h => h.elim (fun h => by simp at h) (fun h => by omega)), if_neg h27]
  exact h3
end Go.Proofs.YtmlkpdbfnffoaaaGreatDoor
