import Derived.Test.YtinfdhbnljnifaaGreatDoorRkI
import Derived.Test.YtinfdhbnljnifaaGreatDoorRd
import Derived.Test.YtinfdhbnljnifaaGreatDoorKmU
import Derived.Test.YtinfdhbnljnifaaGreatDoorKys
import Derived.Deep.AppendSrc
import Derived.Test.YtinfdhbnljnifaaGreatDoorWhole
import Derived.Test.YtinfdhbnljnifaaGreatDoorEdW2
import Derived.Test.YtinfdhbnljnifaaGreatDoorToScr
import Derived.Test.YtinfdhbnljnifaaGreatDoorAppRune
import Derived.Deep.RegionLaw
import Derived.Test.YtinfdhbnljnifaaGreatDoorFdB
import Derived.Test.YtinfdhbnljnifaaGreatDoorSizeB
import Derived.Test.YtinfdhbnljnifaaGreatDoorRsz
namespace Go.Proofs.YtinfdhbnljnifaaGreatDoor
open Go.RowKit
theorem zlg {x : Int} (h : za5 x) : -2147483648 ≤ x ∧ x ≤ 2147483647 := by
 have := zbV h.1
 omega
theorem zny {s : List Int} {p : Bool} {ks : List (List Int × Int)} {m : Nat} {q : Bool} (h : zbB s p = some (ks, m, q)) : ks.length ≤ m ∧ ∀ k ∈ ks, zdv k.1 ∧ k.1.length ≤ m := by
 have hm := ze5 h
 unfold zbB at h
 split at h
 ·simp at h
 ·split at h
  ·cases he : zfr s with
   | none => rw [he] at h; simp at h
   | some k =>
    rw [he] at h
    simp at h
    obtain ⟨rfl, rfl, rfl⟩ := h
    refine ⟨by simp, fun x hx => ?_⟩
    simp at hx
    subst hx
    refine ⟨fun y hy => zlg (zcg _ y hy), ?_⟩
    have h1 := zaJ (s.take k)
    rw [List.length_take] at h1
    show (zm (s.take k)).length ≤ k + 6
    omega
  ·split at h
   ·simp at h
   ·simp at h
    obtain ⟨rfl, rfl, rfl⟩ := h
    have hr := zoX s
    unfold keyT
    split
    ·refine ⟨by simp; omega, fun x hx => ?_⟩
     simp at hx
     subst hx
     refine ⟨fun y hy => ?_, by simp; omega⟩
     simp at hy
     subst hy
     omega
    ·split
     ·refine ⟨by simp; omega, fun x hx => ?_⟩
      simp at hx
      subst hx
      exact ⟨fun y hy => by simp at hy, by simp⟩
     ·exact ⟨by simp, fun x hx => by simp at hx⟩
theorem rkF_ok : ∀ (f : Nat) (s : List Int) (p : Bool), (rkF f s p).1.length ≤ s.length ∧ ∀ k ∈ (rkF f s p).1, zdv k.1 ∧ k.1.length ≤ s.length := by
 intro f
 induction f with
 | zero => intro s p; exact ⟨by simp [rkF], fun k hk => by simp [rkF] at hk⟩
 | succ f ih =>
  intro s p
  cases hst : zbB s p with
  | none =>
   have e : rkF (f + 1) s p = ([], 0, p) := by rw [rkF, hst]
   rw [e]
   exact ⟨by simp, fun k hk => by simp at hk⟩
  | some x =>
   obtain ⟨ks, m, q⟩ := x
   have hm := ze5 hst
   obtain ⟨h1, h2⟩ := zny hst
   obtain ⟨h3, h4⟩ := ih (s.drop m) q
   have e : (rkF (f + 1) s p).1 = ks ++ (rkF f (s.drop m) q).1 := by rw [rkF, hst]
   have hl : (s.drop m).length = s.length - m := by simp
   rw [e]
   refine ⟨by rw [List.length_append]; omega, fun k hk => ?_⟩
   rcases List.mem_append.1 hk with hk | hk
   ·have := h2 k hk
    exact ⟨this.1, by omega⟩
   ·have := h4 k hk
    exact ⟨this.1, by omega⟩
theorem rk_ok (s : List Int) (p : Bool) : (rk s p).1.length ≤ s.length ∧ ∀ k ∈ (rk s p).1, zdv k.1 ∧ k.1.length ≤ s.length := rkF_ok _ s p
def zbg (w : World) (base : Nat) (T : TypeId) (v : Value) (n : Nat) (A : Nat → Value) : Prop :=
 ∃ g k cap cur, v = .slice (some ⟨g, k, none⟩) n cap ∧ base ≤ g ∧ w.heap[g]? = some (.cells cur T (0, 0)) ∧ k + cap ≤ cur.size ∧ n ≤ cap ∧ cap ≤ maxLen ∧ ∀ j, j < n → cur[k + j]? = some (A j)
section
variable {w w' : World} {base : Nat} {T : TypeId} {v : Value} {n : Nat} {A B : Nat → Value}
theorem zbg.reads (h : zbg w base T v n A) : zam w v n A := by
 obtain ⟨g, k, cap, cur, rfl, hb, hg, hk, hn, hm, hA⟩ := h
 exact ⟨_, cap, rfl, hn, fun _ => ⟨g, k, rfl, fun j hj => zg hg (k + j) _ (hA j hj)⟩⟩
theorem zbg.lt (h : zbg w base T v n A) : ∀ g, v.ownBlock = some g → base ≤ g ∧ g < w.heap.size := by
 obtain ⟨g, k, cap, cur, rfl, hb, hg, _⟩ := h
 intro g' e
 have e2 : g = g' := by simpa [Value.ownBlock] using e
 subst e2
 exact ⟨hb, (Array.getElem?_eq_some_iff.1 hg).1⟩
theorem zbg.fr {S : Nat → Prop} (h : zbg w base T v n A) (hf : Fr S w w') (hS : ∀ g, v.ownBlock = some g → ¬ S g) : zbg w' base T v n A := by
 obtain ⟨g, k, cap, cur, rfl, hb, hg, h2⟩ := h
 exact ⟨g, k, cap, cur, rfl, hb, hf.kept hg (hS g rfl), h2⟩
theorem zbg.ext (h : zbg w base T v n A) (he : Ext w w') : zbg w' base T v n A := h.fr (S := fun _ => False) (Fr.of_ext he) (fun _ _ e => e)
theorem zbg.congr (h : zbg w base T v n A) (e : ∀ j, j < n → A j = B j) : zbg w base T v n B := by
 obtain ⟨g, k, cap, cur, h1, h2, h3, h4, h5, h6, h7⟩ := h
 exact ⟨g, k, cap, cur, h1, h2, h3, h4, h5, h6, fun j hj => by rw [← e j hj]; exact h7 j hj⟩
theorem zbg.mono {b2 : Nat} (h : zbg w base T v n A) (hb : b2 ≤ base) : zbg w b2 T v n A := by
 obtain ⟨g, k, cap, cur, h1, h2, h3⟩ := h
 exact ⟨g, k, cap, cur, h1, Nat.le_trans hb h2, h3⟩
theorem za4.toO (h : za4 w base T v n A) (hn : 0 < n) : zbg w base T v n A := by
 obtain ⟨ys, ⟨hl, h1⟩, h2⟩ := h
 rcases h1 with ⟨_, e⟩ | ⟨g, cap, cur, rfl, hb, hg, hnc, hm, hs, ht⟩
 ·omega
 ·refine ⟨g, 0, cap, cur, rfl, hb, hg, by omega, hnc, hm, fun j hj => ?_⟩
  have := h2 j hj
  rw [← ht, List.getElem?_take] at this
  rw [if_pos (by omega)] at this
  rw [Nat.zero_add, ← Array.getElem?_toList]
  exact this
theorem zbg.tail {g k cap : Nat} (h : zbg w base T (.slice (some ⟨g, k, none⟩) (n + 1) cap) (n + 1) A) : zbg w base T (.slice (if cap = 1 then some ⟨g, k, none⟩ else some ⟨g, k + 1, none⟩) n (cap - 1)) n (fun j => A (j + 1)) := by
 obtain ⟨g', k', cap', cur, e, hb, hg, hk, hn, hm, hA⟩ := h
 simp only [Value.slice.injEq, Option.some.injEq, Addr.mk.injEq, and_true, true_and] at e
 obtain ⟨⟨rfl, rfl⟩, rfl⟩ := e
 by_cases hc : cap = 1
 ·rw [if_pos hc]
  exact ⟨g, k, cap - 1, cur, rfl, hb, hg, by omega, by omega, by omega, fun j hj => by omega⟩
 ·rw [if_neg hc]
  exact ⟨g, k + 1, cap - 1, cur, rfl, hb, hg, by omega, by omega, by omega, fun j hj => by rw [Nat.add_assoc, Nat.add_comm 1 j]; exact hA (j + 1) (by omega)⟩
theorem zbg.set {g k cap : Nat} (h : zbg w base T (.slice (some ⟨g, k, none⟩) n cap) n A) (i : Nat) (hi : i < n) (u : Value) : zbg (w.setCell ⟨g, k + i, none⟩ u) base T (.slice (some ⟨g, k, none⟩) n cap) n (fun j => if j = i then u else A j) := by
 obtain ⟨g', k', cap', cur, e, hb, hg, hk, hn, hm, hA⟩ := h
 simp only [Value.slice.injEq, Option.some.injEq, Addr.mk.injEq, and_true, true_and] at e
 obtain ⟨⟨rfl, rfl⟩, rfl⟩ := e
 refine ⟨g, k, cap, _, rfl, hb, ziW hg, by simpa using hk, hn, hm, fun j hj => ?_⟩
 show _ = some (if j = i then u else A j)
 by_cases e : j = i
 ·subst e
  rw [if_pos rfl, Array.getElem?_setIfInBounds_self_of_lt (by omega)]
 ·rw [if_neg e, Array.getElem?_setIfInBounds_ne (by omega)]
  exact hA j hj
end
theorem zo3 {P : Program} {w : World} {base : Nat} {T : TypeId} {v : Value} {n : Nat} {A : Nat → Value} (h : zbg w base T v n A) (t ty : TypeId) (i : TypeInfo) (z : Value) (bytes : Nat) (ht : P.underlying t = some (.slice T)) (hi : P.info? T = some i) (hz : i.zero = some z) (hsize : i.size = 1) (hby : i.bytes = bytes) (hzs : z.cells.size = 1)
  (ad : Addr) (c : Nat) (r : Value) (hr : w.cell? ad = some r) (hr1 : r.oneCell' = true) (hbase : base ≤ w.heap.size) (hn : n ≤ 200) (hbt : bytes ≤ 64) :
  ∃ v' w', (Builtin.append_ #[t, t] ty #[v, .slice (some ad) 1 c]).run P w = .ok v' w' ∧ zbg w' base T v' (n + 1) (fun j => if j < n then A j else r) ∧ Fr (fun q => v.ownBlock = some q) w w' ∧ (v'.ownBlock = v.ownBlock ∨ v'.ownBlock = some w.heap.size) := by
 obtain ⟨g, k, cap, cur, rfl, hb, hg, hk, hnc, hm, hA⟩ := h
 have hsrc : Go.Src P i.size t (.slice (some ad) 1 c) 1 [r] w := Go.Src.ofSlice w ht ad 1 c [r] (by rw [hsize]; rfl) (fun j u hj => by
  cases j with
  | zero =>
   simp at hj
   subst hj
   have : ad.add 0 = ad := by unfold Addr.add; split <;> simp_all
   rw [this]
   exact hr
  | succ j => simp at hj) (fun u hu => by simp at hu; subst hu; exact hr1)
 by_cases hroom : n + 1 ≤ cap
 ·have hlt : k + n < cur.size := by omega
  have hrun := run_append_room_src (P := P) w t t ty T i ht hi g k n cap (.slice (some ad) 1 c) 1 [r] hsrc hroom
   (fun j hj => by
    have e : j = 0 := by simpa using hj
    subst e
    rw [hsize, Nat.mul_one, Nat.add_zero, zg hg (k + n) cur[k + n] (by simp [hlt])]
    rfl)
   (fun j hj => by
    have e : j = 0 := by simpa using hj
    subst e
    exact Lib.frozen_of_heap hg _)
  rw [hsize, Nat.mul_one] at hrun
  refine ⟨_, _, hrun, ⟨g, k, cap, cur.setIfInBounds (k + n) r, rfl, hb, ?_, ?_, hroom, hm, fun j hj => ?_⟩, ?_, .inl rfl⟩
  ·show (w.setCell ⟨g, k + n, none⟩ r).heap[g]? = _
   exact ziW hg
  ·simpa using hk
  ·show _ = some (if j < n then A j else r)
   by_cases e : j < n
   ·rw [if_pos e, Array.getElem?_setIfInBounds_ne (by omega)]
    exact hA j e
   ·have e2 : j = n := by omega
    subst e2
    rw [if_neg (by omega), Array.getElem?_setIfInBounds_self_of_lt hlt]
  ·show Fr _ w (w.setCell ⟨g, k + n, none⟩ r)
   exact Fr.setCell (S := fun q => Value.ownBlock (.slice (some ⟨g, k, none⟩) n cap) = some q) (Fr.refl _ w) (a := ⟨g, k + n, none⟩) rfl r
 ·have holds : ∀ W : World, (∀ a, W.cell? a = w.cell? a) → (Builtin.firstCells i.size n (.slice (some ⟨g, k, none⟩) n cap)).run P W = .ok ((List.range n).map A).toArray W := fun W hW => by
   refine run_firstCells_some W i.size n ⟨g, k, none⟩ n cap _ (by rw [hsize]; simp) (fun j u hj => ?_)
   have hjn : j < n := by
    have := (List.getElem?_eq_some_iff.1 hj).1
    simpa using this
   rw [Addr.add_lit, hW, zg hg (k + j) _ (hA j hjn)]
   simpa [hjn] using hj
  have hcapn : cap = n := by omega
  have hnx : Builtin.nextslicecap (n + 1) cap * i.bytes ≤ 281474976710656 := by
   have h1 : Builtin.nextslicecap (n + 1) cap ≤ 1000 := by
    unfold Builtin.nextslicecap
    split
    ·omega
    ·rw [if_pos (by omega)]
     omega
   rw [hby]
   have := Nat.mul_le_mul h1 hbt
   omega
  have hrun := run_append_grow_src (P := P) w t t ty T i z ht hi hz (some ⟨g, k, none⟩) n cap ((List.range n).map A) (holds w.drew (fun _ => rfl)) (.slice (some ad) 1 c) 1 [r] hsrc (by omega) (by omega) hnx
  have hge := grownCap_ge w (n + 1) cap T
  have hcm := grownCap_le_maxLen w (n + 1) cap T (by unfold maxLen; omega)
  refine ⟨_, _, hrun, ⟨w.heap.size, 0, _, _, rfl, hbase, zk w.drew _, ?_, hge, hcm, fun j hj => ?_⟩, Fr.of_ext ((Ext.refl w).drew.alloc _), .inr rfl⟩
  ·simp only [Array.size_append, List.size_toArray, size_zeroCells, hzs, List.length_append, List.length_map, List.length_range, List.length_singleton]
   omega
  ·show _ = some (if j < n then A j else r)
   rw [Nat.zero_add, Array.getElem?_append_left (by simp; omega), List.getElem?_toArray]
   by_cases e : j < n
   ·rw [if_pos e, List.getElem?_append_left (by simpa using e)]
    simp [e]
   ·have e2 : j = n := by omega
    subst e2
    rw [if_neg (by omega), List.getElem?_append_right (by simp)]
    simp
theorem wp_appO {P : Program} {w : World} {o : Oper} {a : Act} {K : Act → World → Prop} {Q : Exit → Act → World → Prop} (s x : Operand) (t : TypeId) (ho : o.op = .call { callee := .builtin .append, args := #[s, x], argTypes := #[t, t] })
  {base : Nat} {T : TypeId} {v : Value} {n : Nat} {A : Nat → Value} (h : zbg w base T v n A) (i : TypeInfo) (z : Value) (bytes : Nat) (ht : P.underlying t = some (.slice T)) (hi : P.info? T = some i) (hz : i.zero = some z) (hsize : i.size = 1) (hby : i.bytes = bytes) (hzs : z.cells.size = 1)
  (hs : a.eval s = v) (ad : Addr) (c : Nat) (r : Value) (hx : a.eval x = .slice (some ad) 1 c) (hr : w.cell? ad = some r) (hr1 : r.oneCell' = true) (hbase : base ≤ w.heap.size) (hn : n ≤ 200) (hbt : bytes ≤ 64)
  (hK : ∀ v' w', zbg w' base T v' (n + 1) (fun j => if j < n then A j else r) → Fr (fun q => v.ownBlock = some q) w w' → (v'.ownBlock = v.ownBlock ∨ v'.ownBlock = some w.heap.size) → K (a.put o.dst v') w') : o.wp P a w K Q := by
 obtain ⟨v', w', hrun, h1, h2, h3⟩ := zo3 (P := P) h t o.type i z bytes ht hi hz hsize hby hzs ad c r hr hr1 hbase hn hbt
 unfold Oper.wp execOp
 simp only [ho, resolve, invoke, builtin, Sem.run_bind, Sem.run_pure, Result.andThen_ok, List.map_toArray, List.map_cons, List.map_nil, hs, hx, hrun]
 exact hK v' w' h1 h2 h3
def zkn (kd : Int) : Int := if kd = 3 then 3 else if kd = 21 then 4 else if kd = 10 then 5 else if kd = 11 then 6 else if kd = 20 then 7 else 0
set_option maxRecDepth 10000 in
set_option maxHeartbeats 4000000 in
theorem zji (kd : Int) (w : World) :
  Calls Tryz.prog 143 #[.int .i64 kd] w fun e w' => e = .returned (.int .i64 (zkn kd)) ∧ Ext w w' := by
 obtain ⟨V, hV⟩ : ∃ V, V = w.alloc (.cells #[.int .i64 3, .int .i64 21, .int .i64 10, .int .i64 11, .int .i64 20] 3) := ⟨_, rfl⟩
 have E0 : Ext w V := by rw [hV]; exact (Ext.refl w).alloc _
 have hb : V.heap[w.heap.size]? = some (.cells #[.int .i64 3, .int .i64 21, .int .i64 10, .int .i64 11, .int .i64 20] 3 (0, 0)) := by rw [hV]; exact zk w _
 have k0 := zg hb 0 _ rfl
 have k1 := zg hb 1 _ rfl
 have k2 := zg hb 2 _ rfl
 have k3 := zg hb 3 _ rfl
 have k4 := zg hb 4 _ rfl
 have HE := zh E0
 have HV := zh hV
 clear hb hV E0
 go_enter Tryz.func143, Tryz.ntmps143
 go_wp2
 rw [← zu HV]
 clear HV
 go_loopw [4] (fun i wr => ∃ j : Nat, j ≤ 5 ∧ i = .int .i64 j ∧ Hid (wr = V) ∧ Hid ((0 < j → kd ≠ 3) ∧ (1 < j → kd ≠ 21) ∧ (2 < j → kd ≠ 10) ∧ (3 < j → kd ≠ 11) ∧ (4 < j → kd ≠ 20))) (fun i _ => 5 - (intOf i).toNat)
 case atStart => exact ⟨0, Nat.zero_le _, rfl, zh rfl, zh ⟨by omega, by omega, by omega, by omega, by omega⟩⟩
 case round =>
  obtain ⟨j, hj, rfl, HV2, HK⟩ := hrel
  have hV2 := zu HV2
  subst hV2
  clear HV2
  have : j = 0 ∨ j = 1 ∨ j = 2 ∨ j = 3 ∨ j = 4 ∨ j = 5 := by omega
  rcases this with rfl | rfl | rfl | rfl | rfl | rfl
  ·by_cases hk : kd = 3
   ·subst hk
    go_wp2
    exact bodyPost_ret (v := .int .i64 3) (by simp [results, Tryz.results143, go_sem]) rfl ⟨rfl, zu HE⟩
   ·have hk2 : ¬ 3 = kd := fun e => hk e.symm
    have HKs : Hid ((0 < 1 → kd ≠ 3) ∧ (1 < 1 → kd ≠ 21) ∧ (2 < 1 → kd ≠ 10) ∧ (3 < 1 → kd ≠ 11) ∧ (4 < 1 → kd ≠ 20)) := zh (by
     obtain ⟨m0, m1, m2, m3, m4⟩ := zu HK
     exact ⟨fun _ => hk, fun h => absurd h (by omega), fun h => absurd h (by omega), fun h => absurd h (by omega), fun h => absurd h (by omega)⟩)
    clear HK
    go_wp2
    go_roundw
    case rel => exact ⟨1, by omega, by go_num, (by first | exact zh rfl | exact zh trivial), HKs⟩
    case measure => simp [intOf]
  ·by_cases hk : kd = 21
   ·subst hk
    go_wp2
    exact bodyPost_ret (v := .int .i64 4) (by simp [results, Tryz.results143, go_sem]) rfl ⟨rfl, zu HE⟩
   ·have hk2 : ¬ 21 = kd := fun e => hk e.symm
    have HKs : Hid ((0 < 2 → kd ≠ 3) ∧ (1 < 2 → kd ≠ 21) ∧ (2 < 2 → kd ≠ 10) ∧ (3 < 2 → kd ≠ 11) ∧ (4 < 2 → kd ≠ 20)) := zh (by
     obtain ⟨m0, m1, m2, m3, m4⟩ := zu HK
     exact ⟨fun _ => m0 (by omega), fun _ => hk, fun h => absurd h (by omega), fun h => absurd h (by omega), fun h => absurd h (by omega)⟩)
    clear HK
    go_wp2
    go_roundw
    case rel => exact ⟨2, by omega, by go_num, (by first | exact zh rfl | exact zh trivial), HKs⟩
    case measure => simp [intOf]
  ·by_cases hk : kd = 10
   ·subst hk
    go_wp2
    exact bodyPost_ret (v := .int .i64 5) (by simp [results, Tryz.results143, go_sem]) rfl ⟨rfl, zu HE⟩
   ·have hk2 : ¬ 10 = kd := fun e => hk e.symm
    have HKs : Hid ((0 < 3 → kd ≠ 3) ∧ (1 < 3 → kd ≠ 21) ∧ (2 < 3 → kd ≠ 10) ∧ (3 < 3 → kd ≠ 11) ∧ (4 < 3 → kd ≠ 20)) := zh (by
     obtain ⟨m0, m1, m2, m3, m4⟩ := zu HK
     exact ⟨fun _ => m0 (by omega), fun _ => m1 (by omega), fun _ => hk, fun h => absurd h (by omega), fun h => absurd h (by omega)⟩)
    clear HK
    go_wp2
    go_roundw
    case rel => exact ⟨3, by omega, by go_num, (by first | exact zh rfl | exact zh trivial), HKs⟩
    case measure => simp [intOf]
  ·by_cases hk : kd = 11
   ·subst hk
    go_wp2
    exact bodyPost_ret (v := .int .i64 6) (by simp [results, Tryz.results143, go_sem]) rfl ⟨rfl, zu HE⟩
   ·have hk2 : ¬ 11 = kd := fun e => hk e.symm
    have HKs : Hid ((0 < 4 → kd ≠ 3) ∧ (1 < 4 → kd ≠ 21) ∧ (2 < 4 → kd ≠ 10) ∧ (3 < 4 → kd ≠ 11) ∧ (4 < 4 → kd ≠ 20)) := zh (by
     obtain ⟨m0, m1, m2, m3, m4⟩ := zu HK
     exact ⟨fun _ => m0 (by omega), fun _ => m1 (by omega), fun _ => m2 (by omega), fun _ => hk, fun h => absurd h (by omega)⟩)
    clear HK
    go_wp2
    go_roundw
    case rel => exact ⟨4, by omega, by go_num, (by first | exact zh rfl | exact zh trivial), HKs⟩
    case measure => simp [intOf]
  ·by_cases hk : kd = 20
   ·subst hk
    go_wp2
    exact bodyPost_ret (v := .int .i64 7) (by simp [results, Tryz.results143, go_sem]) rfl ⟨rfl, zu HE⟩
   ·have hk2 : ¬ 20 = kd := fun e => hk e.symm
    have HKs : Hid ((0 < 5 → kd ≠ 3) ∧ (1 < 5 → kd ≠ 21) ∧ (2 < 5 → kd ≠ 10) ∧ (3 < 5 → kd ≠ 11) ∧ (4 < 5 → kd ≠ 20)) := zh (by
     obtain ⟨m0, m1, m2, m3, m4⟩ := zu HK
     exact ⟨fun _ => m0 (by omega), fun _ => m1 (by omega), fun _ => m2 (by omega), fun _ => m3 (by omega), fun _ => hk⟩)
    clear HK
    go_wp2
    go_roundw
    case rel => exact ⟨5, by omega, by go_num, (by first | exact zh rfl | exact zh trivial), HKs⟩
    case measure => simp [intOf]
  ·have hh : zkn kd = 0 := by
    obtain ⟨m0, m1, m2, m3, m4⟩ := zu HK
    simp [zkn, m0 (by omega), m1 (by omega), m2 (by omega), m3 (by omega), m4 (by omega)]
   clear HK
   go_wp2
   exact bodyPost_ret (v := .int .i64 0) (by simp [results, Tryz.results143, go_sem]) rfl ⟨by rw [hh], zu HE⟩
theorem zkc {A : Nat → ByteArray} {B : Nat → Bool} {n : Nat} : ∀ u ∈ zaK (fun j => .string (A j)) (fun j => .bool (B j)) n, u.oneCell' = true := by
 intro u hu
 simp only [zaK, List.mem_map] at hu
 obtain ⟨q, _, rfl⟩ := hu
 split <;> rfl
theorem Src.cells {w : World} {v : Value} {n : Nat} {tx : Nat → ByteArray} {hf : Nat → Bool} (h : zag w v n (fun j => .string (tx j)) (fun j => .bool (hf j))) : Src w 2 v n (zaK (fun j => .string (tx j)) (fun j => .bool (hf j)) n) := by
 refine ⟨zcD _ _ _, zkc, ?_⟩
 obtain ⟨ao, c, rfl, hc, hx⟩ := h
 by_cases h0 : n = 0
 ·subst h0
  cases ao with
  | none => exact .inl ⟨c, rfl, rfl⟩
  | some ad => exact .inr ⟨ad, c, rfl, fun j u hu => by simp [zaK] at hu⟩
 ·obtain ⟨bb, off, e, hcc⟩ := hx (by omega)
  subst e
  exact .inr ⟨_, c, rfl, zd2 hcc⟩
def PG3 (w : World) (base : Nat) (v : Value) (r : Nat) (C : Nat → Nat) (A B : Nat → Nat → Value) (rv : Nat → Value) (j : Nat) : Prop :=
 za4 w base 81 v r (fun i => if i < j then rv i else .slice none 0 0) ∧ (∀ i, i < j → zaG w base 83 (rv i) (C i) (A i) (B i)) ∧ (∀ i i' g, i < i' → i' < j → (rv i).ownBlock = some g → (rv i').ownBlock ≠ some g)
theorem PG3.done {w : World} {base : Nat} {v : Value} {r : Nat} {C : Nat → Nat} {A B : Nat → Nat → Value} {rv : Nat → Value} (h : PG3 w base v r C A B rv r) : zax w base v rv r C A B :=
 ⟨h.1.congr (fun j hj => by simp [hj]), h.2.1, h.2.2⟩
theorem PG3.step {wr w2 : World} {base r cap j g : Nat} {C : Nat → Nat} {A B : Nat → Nat → Value} {rv : Nat → Value} (h : PG3 wr base (.slice (some ⟨g, 0, none⟩) r cap) r C A B rv j) (hlt : j < r) (F : Ext wr w2) (u : Value)
  (row : zaG w2 base 83 u (C j) (A j) (B j)) (hu : ∀ q, u.ownBlock = some q → wr.heap.size ≤ q) :
  PG3 (w2.setCell ⟨g, j, none⟩ u) base (.slice (some ⟨g, 0, none⟩) r cap) r C A B (fun i => if i = j then u else rv i) (j + 1) := by
 obtain ⟨p1, p2, p3⟩ := h
 have hgz := (p1.lt g rfl).2
 have fr1 : Fr (fun q => q = g) w2 (w2.setCell ⟨g, j, none⟩ u) := Fr.setCell (S := fun q => q = g) (Fr.refl _ _) (a := ⟨g, j, none⟩) rfl _
 refine ⟨((p1.ext F).set hlt _).congr (fun i hi => ?_), fun i hi => ?_, fun i i' q hii hi hq => ?_⟩
 ·by_cases e : i = j
  ·subst e; simp
  ·by_cases e2 : i < j
   ·rw [if_neg e, if_pos e2, if_pos (by omega)]; simp [e]
   ·rw [if_neg e, if_neg e2, if_neg (by omega)]
 ·dsimp only
  by_cases e : i = j
  ·subst e
   rw [if_pos rfl]
   exact row.fr fr1 (fun q hq e => by have := hu q hq; omega)
  ·rw [if_neg e]
   refine ((p2 i (by omega)).ext F).fr fr1 (fun q hq e => ?_)
   obtain ⟨ys, a1, _⟩ := p1
   obtain ⟨zs, a2, _⟩ := p2 i (by omega)
   subst e
   exact zaw a2 a1 (by decide) hq rfl
 ·dsimp only at hq ⊢
  rw [if_neg (by omega)] at hq
  by_cases e : i' = j
  ·subst e
   rw [if_pos rfl]
   intro h9
   have := ((p2 i (by omega)).lt q hq).2
   have := hu q h9
   omega
  ·rw [if_neg e]
   exact p3 i i' q hii (by omega) hq
structure CpB (wr : World) (B0 : Nat) (sc : Array Value) (d : SD) (gv hv bv : Value) : Prop where
 s : wr.heap[B0]? = some (.cells sc 26 (0, 0))
 z : wr.heap[B0 + 1]? = some (.cells zS8 26 (0, 0))
 m : wr.heap[B0 + 2]? = some (.cells #[.int .i64 d.cols, .int .i64 d.rows, gv, .int .i64 d.row, .int .i64 d.col, .bool d.late, hv, bv] 26 (0, 0))
theorem CpB.fr {S : Nat → Prop} {wr w' : World} {B0 : Nat} {sc : Array Value} {d : SD} {gv hv bv : Value} (h : CpB wr B0 sc d gv hv bv) (hf : Fr S wr w') (h0 : ¬ S B0) (h1 : ¬ S (B0 + 1)) (h2 : ¬ S (B0 + 2)) : CpB w' B0 sc d gv hv bv := ⟨hf.kept h.s h0, hf.kept h.z h1, hf.kept h.m h2⟩
theorem CpB.ext {wr w' : World} {B0 : Nat} {sc : Array Value} {d : SD} {gv hv bv : Value} (h : CpB wr B0 sc d gv hv bv) (he : Ext wr w') : CpB w' B0 sc d gv hv bv := ⟨he.kept h.s, he.kept h.z, he.kept h.m⟩
theorem CpB.set {wr w' : World} {B0 i : Nat} {sc : Array Value} {d : SD} {gv hv bv gv' hv' bv' u : Value} (h : CpB wr B0 sc d gv hv bv) (hw : w' = wr.setCell ⟨B0 + 2, i, none⟩ u) (e : (#[.int .i64 d.cols, .int .i64 d.rows, gv, .int .i64 d.row, .int .i64 d.col, .bool d.late, hv, bv] : Array Value).setIfInBounds i u = #[.int .i64 d.cols, .int .i64 d.rows, gv', .int .i64 d.row, .int .i64 d.col, .bool d.late, hv', bv']) : CpB w' B0 sc d gv' hv' bv' := by
 subst hw
 exact ⟨zbl h.s (by omega), zbl h.z (by omega), zj h.m e⟩
theorem zd3 : (Tryz.prog.info? 26).map (·.size) = some 8 := by kernel_rfl
set_option maxRecDepth 10000 in
set_option maxHeartbeats 4000000 in
theorem zgO (d : SD) (gv hv bv : Value) (w : World) (h : zbY w d gv hv bv) (hF : d.Fits) :
    Calls Tryz.prog 44 #[zbT d gv hv bv] w fun e w' => ∃ gv' rv hv' bv', e = .returned (zbT d gv' hv' bv') ∧ zcf w' w.heap.size d gv' rv hv' bv' ∧ Ext w w' := by
  obtain ⟨f1, f2, f3, f4⟩ := hF
  obtain ⟨ir, hir, hr0, hr1, hr2⟩ := info_parts zi2
  obtain ⟨ic, hic, hc0, hc1, hc2⟩ := info_parts zgM
  have HH := zh h
  have HF2 := zh f2
  obtain ⟨rw0, ⟨ga, gc, rfl, hgc, hgx⟩, hrows⟩ := h.1
  obtain ⟨ha, hc, rfl, hhc, hhx⟩ := h.2.1
  obtain ⟨ba, bc, rfl, hbc, hbx⟩ := h.2.2
  have HX := zh hgx
  have HRW := zh hrows
  clear h f2 hgx hrows hhx hbx
  obtain ⟨sc, hsc⟩ : ∃ sc : Array Value, sc = #[.int .i64 d.cols, .int .i64 d.rows, .slice ga d.R gc, .int .i64 d.row, .int .i64 d.col, .bool d.late, .slice ha d.hold.length hc, .slice ba d.nb bc] := ⟨_, rfl⟩
  obtain ⟨V, hV⟩ : ∃ V, V = ((w.alloc (.cells #[.int .i64 d.cols, .int .i64 d.rows, .slice ga d.R gc, .int .i64 d.row, .int .i64 d.col, .bool d.late, .slice ha d.hold.length hc, .slice ba d.nb bc] 26)).alloc (.cells zS8 26)).alloc (.cells #[.int .i64 d.cols, .int .i64 d.rows, .slice ga d.R gc, .int .i64 d.row, .int .i64 d.col, .bool d.late, .slice ha d.hold.length hc, .slice ba d.nb bc] 26) := ⟨_, rfl⟩
  have E0 : Ext w V := by rw [hV]; exact (((Ext.refl w).alloc _).alloc _).alloc _
  have szV : V.heap.size = w.heap.size + 3 := by rw [hV]; simp
  have HB0 : Hid (CpB V w.heap.size sc d (.slice ga d.R gc) (.slice ha d.hold.length hc) (.slice ba d.nb bc)) := zh (by
    rw [hV, hsc]
    refine ⟨(((Ext.refl _).alloc _).alloc _).kept (zk w _), ((Ext.refl _).alloc _).kept ?_, ?_⟩
    · have h9 := zk (w.alloc (.cells #[.int .i64 d.cols, .int .i64 d.rows, .slice ga d.R gc, .int .i64 d.row, .int .i64 d.col, .bool d.late, .slice ha d.hold.length hc, .slice ba d.nb bc] 26)) (.cells zS8 26)
      rw [show ∀ o, (w.alloc o).heap.size = w.heap.size + 1 from fun o => by simp] at h9
      exact h9
    · have h9 := zk ((w.alloc (.cells #[.int .i64 d.cols, .int .i64 d.rows, .slice ga d.R gc, .int .i64 d.row, .int .i64 d.col, .bool d.late, .slice ha d.hold.length hc, .slice ba d.nb bc] 26)).alloc (.cells zS8 26)) (.cells #[.int .i64 d.cols, .int .i64 d.rows, .slice ga d.R gc, .int .i64 d.row, .int .i64 d.col, .bool d.late, .slice ha d.hold.length hc, .slice ba d.nb bc] 26)
      rw [show ∀ o o', ((w.alloc o).alloc o').heap.size = w.heap.size + 2 from fun o o' => by simp] at h9
      exact h9)
  have HVV := zh hV
  have HSC := zh hsc
  have HE0 := zh E0
  clear hV hsc E0
  unfold zbT
  go_enter Tryz.func44, Tryz.ntmps44
  go_wp2_with (at_make; refine zaS.intro ?_)
  show wpList _ _ _ _ _ _
  rw [← zu HVV]
  clear HVV
  refine wpList_make_full _ rfl _ _ 23 rfl (w.heap.size + 3) 81 ir (.slice none 0 0) 1 Tryz.underlying23 hir hr0 hr1 _ _ _ _ d.R rfl rfl rfl rfl (by rw [hr2]; omega) (by unfold maxLen; omega) (by omega) ?_
  intro w1 hown hgr
  rw [szV] at hown ⊢
  have E1 : Ext V w1 := Ext.grown (Ext.refl V) hgr (fun k hk => by cases hk)
  have hb1 := (zu HB0).ext E1
  have m2 := zg hb1.m 2 _ rfl
  have m2f : w1.frozen? ⟨w.heap.size + 1 + 1, 2, none⟩ = false := Lib.frozen_of_heap hb1.m 2
  obtain ⟨U, hU⟩ : ∃ U, U = w1.setCell ⟨w.heap.size + 2, 2, none⟩ (.slice (some ⟨w.heap.size + 3, 0, none⟩) d.R d.R) := ⟨_, rfl⟩
  have fU : Fr (fun q => q = w.heap.size + 2) w1 U := by rw [hU]; exact Fr.setCell (S := fun q => q = w.heap.size + 2) (Fr.refl _ _) (a := ⟨w.heap.size + 2, 2, none⟩) rfl _
  have hbU : CpB U w.heap.size sc d (.slice (some ⟨w.heap.size + 3, 0, none⟩) d.R d.R) (.slice ha d.hold.length hc) (.slice ba d.nb bc) := hb1.set hU rfl
  have HE1 : Hid (Ext w U) := zh (fU.ext ((zu HE0).trans E1) (fun q hq => by omega))
  have H0 : Hid (PG3 U (w.heap.size + 3) (.slice (some ⟨w.heap.size + 3, 0, none⟩) d.R d.R) d.R d.C (fun i j => .string (d.tx i j)) (fun i j => .bool (d.hf i j)) (fun _ => .slice none 0 0) 0) :=
    zh ⟨⟨_, fU.owns hown (fun g hg e => by have : w.heap.size + 3 = g := (by simpa [Value.ownBlock] using hg); omega), fun j hj => by simp [madeCells, Value.cells, hj, Nat.mod_one]⟩, fun i hi => by omega, fun i i' g _ hi => by omega⟩
  have zU : w.heap.size + 3 < U.heap.size := by have := (hown.lt (w.heap.size + 3) rfl).2; have := fU.size; omega
  have u2 : U.cell? ⟨w.heap.size, 2, none⟩ = some (.slice ga d.R gc) := zg hbU.s 2 _ (by rw [zu HSC]; rfl)
  have HBU := zh hbU
  have HU := zh (show w1.setCell ⟨w.heap.size + 1 + 1, 2, none⟩ (.slice (some ⟨w.heap.size + 1 + 1 + 1, 0, none⟩) d.R d.R) = U from hU.symm)
  have HU2 : Hid ((w1.setCell ⟨w.heap.size + 1 + 1, 2, none⟩ (.slice (some ⟨w.heap.size + 1 + 1 + 1, 0, none⟩) d.R d.R)).cell? ⟨w.heap.size, 2, none⟩ = some (.slice ga d.R gc)) := zh (by rw [zu HU]; exact u2)
  have u2' := zu HU2
  clear hown hgr E1 hb1 fU hbU hU HE0 HB0 HU2
  go_wp2_with fail
  rw [zu HU]
  clear HU u2' m2 m2f
  go_loopw [15] (fun i wr => ∃ (j : Nat) (rv : Nat → Value), j ≤ d.R ∧ i = .int .i64 j ∧ Hid (PG3 wr (w.heap.size + 3) (.slice (some ⟨w.heap.size + 3, 0, none⟩) d.R d.R) d.R d.C (fun i j => .string (d.tx i j)) (fun i j => .bool (d.hf i j)) rv j) ∧ Hid (CpB wr w.heap.size sc d (.slice (some ⟨w.heap.size + 3, 0, none⟩) d.R d.R) (.slice ha d.hold.length hc) (.slice ba d.nb bc)) ∧ Hid (Ext w wr) ∧ w.heap.size + 3 < wr.heap.size) (fun i _ => d.R - (intOf i).toNat)
  case atStart => exact ⟨0, _, Nat.zero_le _, rfl, H0, HBU, HE1, zU⟩
  case round =>
    clear H0 HBU HE1 zU
    obtain ⟨j, rv, hj, rfl, HP, HB, HE, hz⟩ := hrel
    by_cases hlt : j < d.R
    · have bj : (j : Int) < (d.R : Int) := by omega
      obtain ⟨b, off, rfl, hcl⟩ := (zu HX) (by omega)
      have g1 := (zu HE).cell (hcl j hlt)
      have m2 := zg (zu HB).m 2 _ rfl
      have HSR := zh (Src.cells (((zu HRW) j hlt).ext (zu HE)))
      have hCj := (zu HF2) j hlt
      obtain ⟨ca, cn, cc, hsv⟩ : ∃ ca cn cc, rw0 j = .slice ca cn cc := by
        obtain ⟨x, y, e, _⟩ := (zu HRW) j hlt
        exact ⟨_, _, _, e⟩
      clear hcl
      have hcg := fun W (hW : Ext wr W) => ((zu HP).1.ext hW).cell hlt
      have HCG := zh hcg
      clear hcg
      go_wp2_with fail
      go_region_law (first
        | (refine zjC (by rfl) _ _ 81 (by rfl) wr.heap.size 83 ic (.agg #[.string noB, .bool false]) 2 24 Tryz.underlying81 hic hc0 hc1 hc2 rfl (by decide) (.slice none 0 0) 0 [] (by rfl) (zd8 _ _ _ _) (rw0 j) (d.C j) (zaK (fun q => .string (d.tx j q)) (fun q => .bool (d.hf j q)) (d.C j)) (by first | rfl | exact hsv.symm) ((zu HSR).ext (by first | exact Ext.refl _ | exact (Ext.refl _).drew)) (by unfold maxLen; omega) (by omega) (by simp) ?_
           intro v5 w5 o5 G5 _
           have E5 : Ext wr w5 := Ext.grown (by first | exact Ext.refl _ | exact (Ext.refl _).drew) G5 (fun k hk => by cases hk)
           rw [Nat.zero_add, List.nil_append] at o5
           obtain ⟨a5, c5, rfl⟩ := zbi o5
           obtain ⟨k5, k5f⟩ := (zu HCG) w5 E5
           obtain ⟨old5, k5⟩ : ∃ x, w5.cell? ⟨w.heap.size + 3, j, none⟩ = some x := ⟨_, k5⟩
           have m5 := E5.cell m2
           have HO5 := zh o5
           have HE5 := zh E5
           clear o5 G5 E5))
      all_goals
        have hrow5 := zeI (zu HO5)
        have HS := zh ((zu HP).step hlt (zu HE5) _ (hrow5.mono (by omega)) (fun q hq => (hrow5.lt q hq).1))
        obtain ⟨Z, hZ⟩ : ∃ Z, Z = w5.setCell ⟨w.heap.size + 3, j, none⟩ (.slice a5 (d.C j) c5) := ⟨_, rfl⟩
        have fZ : Fr (fun q => q = w.heap.size + 3) w5 Z := by rw [hZ]; exact Fr.setCell (S := fun q => q = w.heap.size + 3) (Fr.refl _ _) (a := ⟨w.heap.size + 3, j, none⟩) rfl _
        rw [← hZ] at HS
        have HB5 := zh (((zu HB).ext (zu HE5)).fr fZ (by omega) (by omega) (by omega))
        have HE6 := zh (fZ.ext ((zu HE).trans (zu HE5)) (fun q hq => by omega))
        have hz6 : w.heap.size + 3 < Z.heap.size := by have := (zu HE5).size; have := fZ.size; omega
        have HZ := zh (show w5.setCell ⟨w.heap.size + 1 + 1 + 1, j, none⟩ (.slice a5 (d.C j) c5) = Z from hZ.symm)
        clear hrow5 fZ hZ
        first | rw [zu HZ] | skip
        go_wp2
        go_roundw
        case rel => exact ⟨j + 1, _, by omega, by go_num, by first | exact HS | (rw [zu HZ]; exact HS), by first | exact HB5 | (rw [zu HZ]; exact HB5), by first | exact HE6 | (rw [zu HZ]; exact HE6), by first | exact hz6 | (rw [zu HZ]; exact hz6)⟩
        case measure => simp [intOf]; omega
    · obtain rfl : j = d.R := by omega
      have HD := zh (zu HP).done
      have hb9 : ¬ (d.R : Int) < (d.R : Int) := by omega
      have s6 : wr.cell? ⟨w.heap.size, 6, none⟩ = some (.slice ha d.hold.length hc) := zg (zu HB).s 6 _ (by rw [zu HSC]; rfl)
      have s7 : wr.cell? ⟨w.heap.size, 7, none⟩ = some (.slice ba d.nb bc) := zg (zu HB).s 7 _ (by rw [zu HSC]; rfl)
      have HSI := zh (Src.ints ((zu HH).ext (zu HE)).2.1)
      have HSS := zh (Src.strs ((zu HH).ext (zu HE)).2.2)
      obtain ⟨i8, hi8, h80, h81, h82⟩ := info_parts zbP
      obtain ⟨i9, hi9, h90, h91, h92⟩ := info_parts zfa
      have hszB := hz
      go_wp2_with (first
        | (at_builtin; have _t := zu HSI; clear _t; go_must (refine zd rfl _ _ 22 rfl (w.heap.size + 3) 5 i8 (.int .u8 0) 1 1 Tryz.underlying22 hi8 h80 h81 h82 rfl (by decide) (.slice none 0 0) 0 [] rfl (zd8 _ _ _ _) (.slice ha d.hold.length hc) d.hold.length (d.hold.map (Value.int .u8)) rfl (zu HSI) (by unfold maxLen; omega) (by omega) (by omega) ?_)
           intro v5 w5 o5 G5 _
           have E5 : Ext wr w5 := Ext.grown (Ext.refl _) G5 (fun k hk => by cases hk)
           rw [Nat.zero_add, List.nil_append] at o5
           obtain ⟨a5, c5, rfl⟩ := zbi o5
           have hb5 := (zu HB).ext E5
           have m6 := zg hb5.m 6 _ rfl
           have m6f : w5.frozen? ⟨w.heap.size + 1 + 1, 6, none⟩ = false := Lib.frozen_of_heap hb5.m 6
           have hbY : CpB (w5.setCell ⟨w.heap.size + 1 + 1, 6, none⟩ (.slice a5 d.hold.length c5)) w.heap.size sc d (.slice (some ⟨w.heap.size + 3, 0, none⟩) d.R d.R) (.slice a5 d.hold.length c5) (.slice ba d.nb bc) := hb5.set rfl rfl
           have y7 : (w5.setCell ⟨w.heap.size + 1 + 1, 6, none⟩ (.slice a5 d.hold.length c5)).cell? ⟨w.heap.size, 7, none⟩ = some (.slice ba d.nb bc) := zg hbY.s 7 _ (by rw [zu HSC]; rfl)
           have EY := ((zu HE).trans E5).setCell (a := ⟨w.heap.size + 1 + 1, 6, none⟩) (by show w.heap.size ≤ w.heap.size + 1 + 1; omega) (.slice a5 d.hold.length c5)
           have HSY := zh (Src.strs ((zu HH).ext EY).2.2)
           have HBY := zh hbY
           have HO5 := zh o5
           have HE5 := zh E5
           have HEY := zh EY
           clear o5 G5 E5 hb5 hbY EY HSI)
        | (at_builtin; have _t := zu HSY; clear _t; go_must (refine zd rfl _ _ 24 rfl (w.heap.size + 3) 9 i9 (.string { data := #[] }) 1 16 Tryz.underlying24 hi9 h90 h91 h92 rfl (by decide) (.slice none 0 0) 0 [] rfl (zd8 _ _ _ _) (.slice ba d.nb bc) d.nb (zbC d.bk d.nb) rfl (zu HSY) (by unfold maxLen; omega) (by omega) (by have := (zu HE5).size; simp; omega) ?_)
           intro v6 w6 o6 G6 _
           have E6 : Ext (w5.setCell ⟨w.heap.size + 1 + 1, 6, none⟩ (.slice a5 d.hold.length c5)) w6 := Ext.grown (Ext.refl _) G6 (fun k hk => by cases hk)
           rw [Nat.zero_add, List.nil_append] at o6
           obtain ⟨a6, c6, rfl⟩ := zbi o6
           have hb6 := (zu HBY).ext E6
           have m7 := zg hb6.m 7 _ rfl
           have m7f : w6.frozen? ⟨w.heap.size + 1 + 1, 7, none⟩ = false := Lib.frozen_of_heap hb6.m 7
           have HB6 := zh hb6
           have HO6 := zh o6
           have HE6 := zh E6
           clear o6 G6 E6 hb6 y7 m6 m6f
           refine zaS.intro ?_))
      show wpList _ _ _ _ _ _
      obtain ⟨Z, hZ⟩ : ∃ Z, Z = w6.setCell ⟨w.heap.size + 2, 7, none⟩ (.slice a6 d.nb c6) := ⟨_, rfl⟩
      have HBZ : Hid (CpB Z w.heap.size sc d (.slice (some ⟨w.heap.size + 3, 0, none⟩) d.R d.R) (.slice a5 d.hold.length c5) (.slice a6 d.nb c6)) := zh ((zu HB6).set hZ rfl)
      have HZ := zh (show w6.setCell ⟨w.heap.size + 1 + 1, 7, none⟩ (.slice a6 d.nb c6) = Z from hZ.symm)
      have fY : Fr (fun q => q = w.heap.size + 2) w5 (w5.setCell ⟨w.heap.size + 1 + 1, 6, none⟩ (.slice a5 d.hold.length c5)) := Fr.setCell (S := fun q => q = w.heap.size + 2) (Fr.refl _ _) (a := ⟨w.heap.size + 1 + 1, 6, none⟩) rfl _
      have fZ : Fr (fun q => q = w.heap.size + 2) w6 Z := by rw [hZ]; exact Fr.setCell (S := fun q => q = w.heap.size + 2) (Fr.refl _ _) (a := ⟨w.heap.size + 2, 7, none⟩) rfl _
      have hall : Fr (fun q => q = w.heap.size + 2) wr Z := Fr.tr (Fr.tr (Fr.tr (Fr.of_ext (zu HE5)) fY) (Fr.of_ext (zu HE6))) fZ
      have HFin : Hid (zcf Z (w.heap.size + 3) d (.slice (some ⟨w.heap.size + 3, 0, none⟩) d.R d.R) rv (.slice a5 d.hold.length c5) (.slice a6 d.nb c6)) := zh ⟨(zu HD).fr hall (fun g hg e => by have := ((zu HD).foot hg).1; omega), fZ.owns ((zu HE6).owns (fY.owns (zu HO5) (fun g hg e => by have := ((zu HO5).lt g hg).1; omega))) (fun g hg e => by have := ((zu HO5).lt g hg).1; omega), zdg (fZ.owns (zu HO6) (fun g hg e => by have := ((zu HO6).lt g hg).1; omega))⟩
      have HEZ := zh (hall.ext (zu HE) (fun q hq => by omega))
      clear hZ fY fZ hall
      have HM : Hid ((w6.setCell ⟨w.heap.size + 1 + 1, 7, none⟩ (.slice a6 d.nb c6)).heap[w.heap.size + 1 + 1]? = some (.cells #[.int .i64 d.cols, .int .i64 d.rows, .slice (some ⟨w.heap.size + 3, 0, none⟩) d.R d.R, .int .i64 d.row, .int .i64 d.col, .bool d.late, .slice a5 d.hold.length c5, .slice a6 d.nb c6] 26 (0, 0))) := zh (by rw [zu HZ]; exact (zu HBZ).m)
      have HRz : Hid ((w6.setCell ⟨w.heap.size + 1 + 1, 7, none⟩ (.slice a6 d.nb c6)).heap[w.heap.size + 1]? = some (.cells zS8 26 (0, 0))) := zh (by rw [zu HZ]; exact (zu HBZ).z)
      go_wp2_with (first
        | (refine zl rfl 26 _ rfl (w.heap.size + 1 + 1) rfl _ _ _ _ (zu HM) Tryz.underlying26 rfl zd3 ?_)
        | (refine zi rfl 26 _ _ rfl rfl (w.heap.size + 1) rfl _ _ _ rfl (zu HRz) zd3 rfl (by simp [Value.oneCell']) ?_; intro X HX9 hX9; have HXB := zh HX9; have HXF := zh hX9; clear HX9 hX9))
      have v0 := zg (zu HXB) 0 _ rfl
      have v1 := zg (zu HXB) 1 _ rfl
      have v2 := zg (zu HXB) 2 _ rfl
      have v3 := zg (zu HXB) 3 _ rfl
      have v4 := zg (zu HXB) 4 _ rfl
      have v5 := zg (zu HXB) 5 _ rfl
      have v6 := zg (zu HXB) 6 _ rfl
      have v7 := zg (zu HXB) 7 _ rfl
      have hXF := zu HXF
      rw [zu HZ] at hXF
      have hO := (zu HFin).fr hXF (fun g hg e => by have := ((zu HFin).foot hg).1; omega)
      have hEX := hXF.ext (zu HEZ) (fun q hq => by omega)
      refine bodyPost_ret (v := .agg #[.int .i64 d.cols, .int .i64 d.rows, .slice (some ⟨w.heap.size + 3, 0, none⟩) d.R d.R, .int .i64 d.row, .int .i64 d.col, .bool d.late, .slice a5 d.hold.length c5, .slice a6 d.nb c6]) (by simp [results, Tryz.results44, go_sem, v0, v1, v2, v3, v4, v5, v6, v7]) rfl ⟨_, rv, _, _, rfl, ⟨hO.1.base_le (by omega), zah hO.2.1 (by omega), hO.2.2.mono (by omega)⟩, hEX⟩
def bz : ByteArray := { data := #[] }
theorem zlm : bz.toList = [] := by rw [zbR]; rfl
def za6 (d : SD) (i a b q : Nat) : Bool := (decide (a ≤ q) && decide (q < b)) || (decide (q + 1 = a) && d.hf i a) || (decide (q = b) && decide (b < d.C i) && d.hf i b)
theorem za0 {d : SD} {i a b q : Nat} : za6 d i a b q = true ↔ (a ≤ q ∧ q < b) ∨ (q + 1 = a ∧ d.hf i a = true) ∨ (q = b ∧ b < d.C i ∧ d.hf i b = true) := by
 unfold za6
 simp [or_assoc, and_assoc]
def SD.clr (d : SD) (i a b : Nat) : SD := { d with tx := fun p q => if p = i ∧ za6 d i a b q = true then bz else d.tx p q, hf := fun p q => if p = i ∧ za6 d i a b q = true then false else d.hf p q }
def SD.setT (d : SD) (i j : Nat) (t : ByteArray) : SD := { d with tx := fun p q => if p = i ∧ q = j then t else d.tx p q }
def SD.setH (d : SD) (i j : Nat) : SD := { d with hf := fun p q => if p = i ∧ q = j then true else d.hf p q }
section
variable (tT : (Nat → ByteArray) → (Nat → Bool) → Nat → ByteArray)
def SD.down (d : SD) : SD :=
 if d.row < d.rows - 1 then { d with late := false, row := d.row + 1 }
 else { d with late := false, nb := d.nb + 1, bk := fun k => if k = d.nb then tT (d.tx 0) (d.hf 0) (d.C 0) else d.bk k, C := fun p => if p + 1 < d.R then d.C (p + 1) else d.cols.toNat, tx := fun p q => if p + 1 < d.R then d.tx (p + 1) q else bz, hf := fun p q => if p + 1 < d.R then d.hf (p + 1) q else false }
def SD.wrapL (d : SD) (w : Int) : SD := if d.late = true ∨ (w = 2 ∧ d.col = d.cols - 1) then { d.down tT with col := 0 } else d
def SD.put1 (d : SD) (t : ByteArray) (w : Int) : SD := ((d.clr d.row.toNat d.col.toNat (d.col.toNat + w.toNat)).setT d.row.toNat d.col.toNat t)
def SD.put2 (d : SD) (t : ByteArray) (w : Int) : SD := if w = 2 then (d.put1 t w).setH d.row.toNat (d.col.toNat + 1) else d.put1 t w
def SD.put3 (d : SD) (t : ByteArray) (w : Int) : SD := if d.cols ≤ d.col + w then { d.put2 t w with col := d.cols - 1, late := true } else { d.put2 t w with col := d.col + w }
def SD.put (d : SD) (t : ByteArray) (w : Int) : SD := (d.wrapL tT w).put3 t w
def SD.mkAt (d : SD) : Int := if d.late = true then d.col else d.col - 1
def SD.mkAt2 (d : SD) : Nat := if d.hf d.row.toNat d.mkAt.toNat = true then d.mkAt.toNat - 1 else d.mkAt.toNat
def SD.mark (d : SD) (t : ByteArray) : SD :=
 if d.mkAt < 0 then d
 else if (d.tx d.row.toNat d.mkAt2).toList ≠ [] ∧ (d.tx d.row.toNat d.mkAt2).size ≤ 6000 then d.setT d.row.toNat d.mkAt2 (d.tx d.row.toNat d.mkAt2 ++ t) else d
def SD.shw (d : SD) (r : Int) : SD :=
 if r = 13 then { d with col := 0, late := false }
 else if r = 10 then d.down tT
 else if r < 32 ∨ (127 ≤ r ∧ r ≤ 159) then d
 else if wid r = 0 then d.mark (zo (zac r)) else d.put tT (zo (zac r)) (wid r)
end
def zbE (bs : List Int) : Int := if 4 < bs.length ∨ bs.any (fun b => decide (57 < b)) = true then -1 else bs.foldl (fun n b => n * 10 + (b - 48)) 0
def zdQ (v most : Int) : Int := if v < 0 then 0 else if most < v then most else v
def SD.moveTo (d : SD) (r c : Int) : SD := { d with row := zdQ r (d.rows - 1), col := zdQ c (d.cols - 1), late := false }
def SD.clrRows (d : SD) (i : Nat) : SD := { d with tx := fun p q => if i ≤ p then bz else d.tx p q, hf := fun p q => if i ≤ p then false else d.hf p q }
def SD.oby (d : SD) (bs : List Int) (last : Int) : SD :=
 if zbE bs < 0 then d
 else if last = 75 then (if zbE bs = 0 then d.clr d.row.toNat d.col.toNat d.cols.toNat else d)
 else if last = 74 then (if zbE bs = 0 then (d.clr d.row.toNat d.col.toNat d.cols.toNat).clrRows (d.row.toNat + 1) else d)
 else if last = 65 then d.moveTo (d.row - max (zbE bs) 1) d.col
 else if last = 66 then d.moveTo (d.row + max (zbE bs) 1) d.col
 else if last = 67 then d.moveTo d.row (d.col + max (zbE bs) 1)
 else if last = 68 then d.moveTo d.row (d.col - max (zbE bs) 1)
 else if last = 71 then d.moveTo d.row (max (zbE bs) 1 - 1)
 else d
def SD.act (tT : (Nat → ByteArray) → (Nat → Bool) → Nat → ByteArray) (d : SD) : zby → SD
 | .inl r => d.shw tT r
 | .inr (bs, last) => d.oby bs last
def SD.acts (tT : (Nat → ByteArray) → (Nat → Bool) → Nat → ByteArray) (d : SD) (l : List zby) : SD := l.foldl (SD.act tT) d
theorem zn6 (d : SD) (i a b : Nat) (hab : a < b) (hb : b < d.C i) : (d.clr i a b).clr i b (b + 1) = d.clr i a (b + 1) := by
  have h1 : (d.clr i a b).hf i b = false := by
    show (if i = i ∧ za6 d i a b b = true then false else d.hf i b) = false
    by_cases h : d.hf i b = true
    · rw [if_pos ⟨rfl, za0.2 (.inr (.inr ⟨rfl, hb, h⟩))⟩]
    · split
      · rfl
      · simpa using h
  have h2 : (d.clr i a b).hf i (b + 1) = d.hf i (b + 1) := by
    show (if i = i ∧ za6 d i a b (b + 1) = true then false else d.hf i (b + 1)) = _
    rw [if_neg]
    rintro ⟨_, h⟩
    rcases za0.1 h with h | h | h <;> omega
  have key : ∀ q, (za6 (d.clr i a b) i b (b + 1) q = true ∨ za6 d i a b q = true) ↔ za6 d i a (b + 1) q = true := by
    intro q
    rw [za0, za0, za0, h1, h2, show (d.clr i a b).C i = d.C i from rfl]
    constructor
    · rintro ((h | h | h) | (h | h | h))
      · exact .inl (by omega)
      · exact absurd h.2 (by simp)
      · exact .inr (.inr h)
      · exact .inl (by omega)
      · exact .inr (.inl h)
      · exact .inl (by omega)
    · rintro (h | h | h)
      · by_cases e : q = b
        · exact .inl (.inl (by omega))
        · exact .inr (.inl (by omega))
      · exact .inr (.inr (.inl h))
      · exact .inl (.inr (.inr h))
  have ht : ((d.clr i a b).clr i b (b + 1)).tx = (d.clr i a (b + 1)).tx := by
    funext p q
    show (if p = i ∧ za6 (d.clr i a b) i b (b + 1) q = true then bz else if p = i ∧ za6 d i a b q = true then bz else d.tx p q) = if p = i ∧ za6 d i a (b + 1) q = true then bz else d.tx p q
    have := key q
    by_cases hp : p = i
    · by_cases h3 : za6 (d.clr i a b) i b (b + 1) q = true
      · rw [if_pos ⟨hp, h3⟩, if_pos ⟨hp, this.1 (.inl h3)⟩]
      · rw [if_neg (fun h => h3 h.2)]
        by_cases h4 : za6 d i a b q = true
        · rw [if_pos ⟨hp, h4⟩, if_pos ⟨hp, this.1 (.inr h4)⟩]
        · rw [if_neg (fun h => h4 h.2), if_neg (fun h => (this.2 h.2).elim h3 h4)]
    · rw [if_neg (fun h => hp h.1), if_neg (fun h => hp h.1), if_neg (fun h => hp h.1)]
  have hh : ((d.clr i a b).clr i b (b + 1)).hf = (d.clr i a (b + 1)).hf := by
    funext p q
    show (if p = i ∧ za6 (d.clr i a b) i b (b + 1) q = true then false else if p = i ∧ za6 d i a b q = true then false else d.hf p q) = if p = i ∧ za6 d i a (b + 1) q = true then false else d.hf p q
    have := key q
    by_cases hp : p = i
    · by_cases h3 : za6 (d.clr i a b) i b (b + 1) q = true
      · rw [if_pos ⟨hp, h3⟩, if_pos ⟨hp, this.1 (.inl h3)⟩]
      · rw [if_neg (fun h => h3 h.2)]
        by_cases h4 : za6 d i a b q = true
        · rw [if_pos ⟨hp, h4⟩, if_pos ⟨hp, this.1 (.inr h4)⟩]
        · rw [if_neg (fun h => h4 h.2), if_neg (fun h => (this.2 h.2).elim h3 h4)]
    · rw [if_neg (fun h => hp h.1), if_neg (fun h => hp h.1), if_neg (fun h => hp h.1)]
  calc (d.clr i a b).clr i b (b + 1) = { d with tx := ((d.clr i a b).clr i b (b + 1)).tx, hf := ((d.clr i a b).clr i b (b + 1)).hf } := rfl
    _ = { d with tx := (d.clr i a (b + 1)).tx, hf := (d.clr i a (b + 1)).hf } := by rw [ht, hh]
    _ = d.clr i a (b + 1) := rfl
theorem zom {d : SD} (h : OkP d) {i k : Nat} (hi : i < d.R) (hk : k < d.C i) (hh : d.hf i k = true) : (d.tx i k).toList = [] := (h.half i k hi hk hh).1
theorem zo2 {d : SD} (h : OkP d) (i a b : Nat) (hi : i < d.R) (hab : a < b) (hb : b ≤ d.C i) : OkP (d.clr i a b) := by
 refine ⟨h.size, h.R, h.hold, h.C, fun p k hp hk hh => ?_, h.row, h.col, h.late⟩
 have hh2 : ¬ (p = i ∧ za6 d i a b k = true) := by
  intro e
  have : (if p = i ∧ za6 d i a b k = true then false else d.hf p k) = true := hh
  rw [if_pos e] at this
  cases this
 have hh3 : d.hf p k = true := by
  have : (if p = i ∧ za6 d i a b k = true then false else d.hf p k) = true := hh
  rwa [if_neg hh2] at this
 obtain ⟨e1, e2, e3⟩ := h.half p k hp hk hh3
 have hk1 : k < d.C p := hk
 refine ⟨?_, e2, ?_⟩
 ·show (if p = i ∧ za6 d i a b k = true then bz else d.tx p k).toList = []
  rw [if_neg hh2]
  exact e1
 ·show (if p = i ∧ za6 d i a b (k - 1) = true then bz else d.tx p (k - 1)).toList ≠ []
  rw [if_neg]
  ·exact e3
  ·rintro ⟨rfl, hc⟩
   rcases za0.1 hc with c | ⟨c, c2⟩ | ⟨c, c2, c3⟩
   ·by_cases e : k = b
    ·subst e
     exact hh2 ⟨rfl, za0.2 (.inr (.inr ⟨rfl, hk1, hh3⟩))⟩
    ·exact hh2 ⟨rfl, za0.2 (.inl (by omega))⟩
   ·exact hh2 ⟨rfl, za0.2 (.inl (by omega))⟩
   ·rw [c] at e3
    exact e3 (zom h hp c2 c3)
theorem zae {d : SD} (h : OkP d) : 2 ≤ d.cols ∧ d.cols ≤ 200 ∧ 1 ≤ d.rows ∧ d.rows ≤ 100 := by
 have := h.size
 unfold zbN at this
 simp at this
 omega
theorem zf3 {xs : List Int} (h : xs ≠ []) : (zo xs).toList ≠ [] := by
 intro e
 have h1 : (zo xs).size = 0 := by
  rw [zbR] at e
  have : (zo xs).data.size = 0 := by rw [← Array.length_toList, e]; rfl
  exact this
 rw [zai] at h1
 exact h (List.eq_nil_of_length_eq_zero h1)
theorem zgp {a b : ByteArray} (h : a.toList ≠ []) : (a ++ b).toList ≠ [] := by
 rw [zbR] at h ⊢
 rw [show (a ++ b).data = a.data ++ b.data from ByteArray.data_append]
 simp at h ⊢
 exact fun e => absurd e h
section
variable (tT : (Nat → ByteArray) → (Nat → Bool) → Nat → ByteArray)
theorem zjm {d : SD} (h : OkP d) : OkP (d.down tT) := by
 have hs := zae h
 unfold SD.down
 by_cases hr : d.row < d.rows - 1
 ·rw [if_pos hr]
  exact ⟨h.size, h.R, h.hold, h.C, h.half, ⟨by show 0 ≤ d.row + 1; have := h.row; omega, by show d.row + 1 < d.rows; omega⟩, h.col, fun e => by cases e⟩
 ·rw [if_neg hr]
  refine ⟨h.size, h.R, h.hold, fun i hi => ?_, fun i k hi hk hh => ?_, h.row, h.col, fun e => by cases e⟩
  ·show ((if i + 1 < d.R then d.C (i + 1) else d.cols.toNat : Nat) : Int) = d.cols
   by_cases e : i + 1 < d.R
   ·rw [if_pos e]; exact h.C (i + 1) e
   ·rw [if_neg e]; omega
  ·have hh2 : (if i + 1 < d.R then d.hf (i + 1) k else false) = true := hh
   by_cases e : i + 1 < d.R
   ·rw [if_pos e] at hh2
    have hk2 : k < (if i + 1 < d.R then d.C (i + 1) else d.cols.toNat) := hk
    rw [if_pos e] at hk2
    obtain ⟨e1, e2, e3⟩ := h.half (i + 1) k e hk2 hh2
    refine ⟨?_, e2, ?_⟩
    ·show (if i + 1 < d.R then d.tx (i + 1) k else bz).toList = []
     rw [if_pos e]; exact e1
    ·show (if i + 1 < d.R then d.tx (i + 1) (k - 1) else bz).toList ≠ []
     rw [if_pos e]; exact e3
   ·rw [if_neg e] at hh2; cases hh2
theorem zgg {d : SD} (h : OkP d) : OkP { d with col := 0, late := false } := by
 have hs := zae h
 exact ⟨h.size, h.R, h.hold, h.C, h.half, h.row, ⟨Int.le_refl _, by show (0 : Int) < d.cols; omega⟩, fun e => by cases e⟩
theorem zir (d : SD) : (d.down tT).late = false := by unfold SD.down; split <;> rfl
theorem ze8 {d : SD} (h : OkP d) (w : Int) (hw : w = 1 ∨ w = 2) : OkP (d.wrapL tT w) ∧ (d.wrapL tT w).late = false ∧ (d.wrapL tT w).col + w ≤ (d.wrapL tT w).cols := by
 have hs := zae h
 unfold SD.wrapL
 by_cases hc : d.late = true ∨ (w = 2 ∧ d.col = d.cols - 1)
 ·rw [if_pos hc]
  have h1 := zjm tT h
  have h2 := zae h1
  refine ⟨⟨h1.size, h1.R, h1.hold, h1.C, h1.half, h1.row, ⟨Int.le_refl _, by show (0 : Int) < (d.down tT).cols; omega⟩, fun e => ?_⟩, zir tT d, ?_⟩
  ·have : (d.down tT).late = true := e
   rw [zir] at this
   cases this
  ·show (0 : Int) + w ≤ (d.down tT).cols
   omega
 ·rw [if_neg hc]
  have hcol := h.col
  refine ⟨h, by cases e : d.late; rfl; exact absurd (.inl e) hc, ?_⟩
  rcases hw with rfl | rfl
  ·omega
  ·have : ¬ d.col = d.cols - 1 := fun e => hc (.inr ⟨rfl, e⟩)
   omega
end
theorem zo0 {d : SD} (h : OkP d) : d.row.toNat < d.R ∧ d.col.toNat < d.C d.row.toNat := by
 have h1 := h.row
 have h2 := h.R
 have hr : d.row.toNat < d.R := by omega
 have h3 := h.C _ hr
 have h4 := h.col
 exact ⟨hr, by omega⟩
theorem ok_put2 {d : SD} (h : OkP d) (t : ByteArray) (ht : t.toList ≠ []) (w : Int) (hw : w = 1 ∨ w = 2) (hc : d.col + w ≤ d.cols) : OkP (d.put2 t w) := by
 obtain ⟨hr, hcl⟩ := zo0 h
 have hC := h.C _ hr
 have hcol := h.col
 obtain ⟨i, hi⟩ : ∃ i, i = d.row.toNat := ⟨_, rfl⟩
 obtain ⟨a, ha⟩ : ∃ a, a = d.col.toNat := ⟨_, rfl⟩
 obtain ⟨n, hn⟩ : ∃ n, n = w.toNat := ⟨_, rfl⟩
 have hn2 : (n = 1 ∧ w = 1) ∨ (n = 2 ∧ w = 2) := by omega
 have hb : a + n ≤ d.C i := by rw [hi]; omega
 have hcx := zo2 h i a (a + n) (by rw [hi]; exact hr) (by omega) hb
 have e1 : d.put1 t w = (d.clr i a (a + n)).setT i a t := by unfold SD.put1; rw [← hi, ← ha, ← hn]
 have hcl2 : ∀ q, a ≤ q → q < a + n → (d.clr i a (a + n)).hf i q = false ∧ (d.clr i a (a + n)).tx i q = bz := fun q q1 q2 => by
  have hx : za6 d i a (a + n) q = true := za0.2 (.inl ⟨q1, q2⟩)
  exact ⟨if_pos ⟨rfl, hx⟩, if_pos ⟨rfl, hx⟩⟩
 have hnx : a + n < d.C i → (d.clr i a (a + n)).hf i (a + n) = false := fun hlt => by
  show (if i = i ∧ za6 d i a (a + n) (a + n) = true then false else d.hf i (a + n)) = false
  by_cases e : d.hf i (a + n) = true
  ·rw [if_pos ⟨rfl, za0.2 (.inr (.inr ⟨rfl, hlt, e⟩))⟩]
  ·split
   ·rfl
   ·simpa using e
 have ok1 : OkP ((d.clr i a (a + n)).setT i a t) := by
  refine ⟨hcx.size, hcx.R, hcx.hold, hcx.C, fun p k hp hk hh => ?_, hcx.row, hcx.col, hcx.late⟩
  obtain ⟨q1, q2, q3⟩ := hcx.half p k hp hk hh
  refine ⟨?_, q2, ?_⟩
  ·show (if p = i ∧ k = a then t else (d.clr i a (a + n)).tx p k).toList = []
   rw [if_neg]
   ·exact q1
   ·rintro ⟨rfl, rfl⟩
    have := (hcl2 k (Nat.le_refl _) (by omega)).1
    rw [show ((d.clr p k (k + n)).setT p k t).hf p k = (d.clr p k (k + n)).hf p k from rfl, this] at hh
    cases hh
  ·show (if p = i ∧ k - 1 = a then t else (d.clr i a (a + n)).tx p (k - 1)).toList ≠ []
   split
   ·exact ht
   ·exact q3
 unfold SD.put2
 rw [e1, ← hi, ← ha]
 by_cases h2 : w = 2
 ·rw [if_pos h2]
  have hn3 : n = 2 := by omega
  subst hn3
  refine ⟨ok1.size, ok1.R, ok1.hold, ok1.C, fun p k hp hk hh => ?_, ok1.row, ok1.col, ok1.late⟩
  have hh2 : (if p = i ∧ k = a + 1 then true else (d.clr i a (a + 2)).hf p k) = true := hh
  by_cases e : p = i ∧ k = a + 1
  ·obtain ⟨rfl, rfl⟩ := e
   refine ⟨?_, by omega, ?_⟩
   ·show (if p = p ∧ a + 1 = a then t else (d.clr p a (a + 2)).tx p (a + 1)).toList = []
    rw [if_neg (by omega), (hcl2 (a + 1) (by omega) (by omega)).2]
    exact zlm
   ·show (if p = p ∧ a + 1 - 1 = a then t else (d.clr p a (a + 2)).tx p (a + 1 - 1)).toList ≠ []
    rw [if_pos ⟨rfl, by omega⟩]
    exact ht
  ·rw [if_neg e] at hh2
   exact ok1.half p k hp hk hh2
 ·rw [if_neg h2]
  exact ok1
theorem zfG (d : SD) (t : ByteArray) (w : Int) : (d.put2 t w).cols = d.cols ∧ (d.put2 t w).col = d.col ∧ (d.put2 t w).late = d.late ∧ (d.put2 t w).row = d.row ∧ (d.put2 t w).rows = d.rows := by
 unfold SD.put2
 split <;> exact ⟨rfl, rfl, rfl, rfl, rfl⟩
theorem ok_put3 {d : SD} (h : OkP d) (hlate : d.late = false) (t : ByteArray) (ht : t.toList ≠ []) (w : Int) (hw : w = 1 ∨ w = 2) (hc : d.col + w ≤ d.cols) : OkP (d.put3 t w) := by
 have h2 := ok_put2 h t ht w hw hc
 obtain ⟨r1, r2, r3, r4, r5⟩ := zfG d t w
 have hs := zae h
 have hcol := h.col
 unfold SD.put3
 split
 ·refine ⟨by show zbN (d.put2 t w).cols (d.put2 t w).rows = true; exact h2.size, h2.R, h2.hold, h2.C, h2.half, h2.row, ⟨by show (0 : Int) ≤ d.cols - 1; omega, by show d.cols - 1 < (d.put2 t w).cols; omega⟩, fun _ => by show d.cols - 1 = (d.put2 t w).cols - 1; omega⟩
 ·refine ⟨h2.size, h2.R, h2.hold, h2.C, h2.half, h2.row, ⟨by show (0 : Int) ≤ d.col + w; omega, by show d.col + w < (d.put2 t w).cols; omega⟩, fun e => ?_⟩
  have : (d.put2 t w).late = true := e
  rw [r3, hlate] at this
  cases this
theorem ok_put (tT : (Nat → ByteArray) → (Nat → Bool) → Nat → ByteArray) {d : SD} (h : OkP d) (t : ByteArray) (ht : t.toList ≠ []) (w : Int) (hw : w = 1 ∨ w = 2) : OkP (d.put tT t w) := by
 obtain ⟨h1, h2, h3⟩ := ze8 tT h w hw
 exact ok_put3 h1 h2 t ht w hw h3
theorem ok_mark {d : SD} (h : OkP d) (t : ByteArray) : OkP (d.mark t) := by
 unfold SD.mark
 split
 ·exact h
 ·split
  ·rename_i hx
   refine ⟨h.size, h.R, h.hold, h.C, fun p k hp hk hh => ?_, h.row, h.col, h.late⟩
   obtain ⟨q1, q2, q3⟩ := h.half p k hp hk hh
   refine ⟨?_, q2, ?_⟩
   ·show (if p = d.row.toNat ∧ k = d.mkAt2 then _ else d.tx p k).toList = []
    rw [if_neg]
    ·exact q1
    ·rintro ⟨rfl, rfl⟩
     exact hx.1 q1
   ·show (if p = d.row.toNat ∧ k - 1 = d.mkAt2 then d.tx d.row.toNat d.mkAt2 ++ t else d.tx p (k - 1)).toList ≠ []
    split
    ·exact zgp hx.1
    ·exact q3
  ·exact h
theorem zmK {d : SD} (h : OkP d) (r c : Int) : OkP (d.moveTo r c) := by
 have hs := zae h
 have i1 : 0 ≤ zdQ r (d.rows - 1) ∧ zdQ r (d.rows - 1) < d.rows := by unfold zdQ; (repeat' split) <;> omega
 have i2 : 0 ≤ zdQ c (d.cols - 1) ∧ zdQ c (d.cols - 1) < d.cols := by unfold zdQ; (repeat' split) <;> omega
 exact ⟨h.size, h.R, h.hold, h.C, h.half, i1, i2, fun e => by cases e⟩
theorem zle {d : SD} (h : OkP d) (i : Nat) : OkP (d.clrRows i) := by
 refine ⟨h.size, h.R, h.hold, h.C, fun p k hp hk hh => ?_, h.row, h.col, h.late⟩
 have hh2 : (if i ≤ p then false else d.hf p k) = true := hh
 by_cases e : i ≤ p
 ·rw [if_pos e] at hh2; cases hh2
 ·rw [if_neg e] at hh2
  obtain ⟨q1, q2, q3⟩ := h.half p k hp hk hh2
  refine ⟨?_, q2, ?_⟩
  ·show (if i ≤ p then bz else d.tx p k).toList = []
   rw [if_neg e]; exact q1
  ·show (if i ≤ p then bz else d.tx p (k - 1)).toList ≠ []
   rw [if_neg e]; exact q3
theorem zbM (r : Int) : wid r = 0 ∨ wid r = 1 ∨ wid r = 2 := by
 unfold wid
 (repeat' split) <;> omega
theorem ziZ (r : Int) : zac r ≠ [] := by
 unfold zac
 split
 ·unfold zbd
  (repeat' split) <;> simp
 ·simp
theorem zhx (tT : (Nat → ByteArray) → (Nat → Bool) → Nat → ByteArray) {d : SD} (h : OkP d) (r : Int) : OkP (d.shw tT r) := by
 unfold SD.shw
 split
 ·exact zgg h
 ·split
  ·exact zjm tT h
  ·split
   ·exact h
   ·split
    ·exact ok_mark h _
    ·rename_i hw
     exact ok_put tT h _ (zf3 (ziZ r)) _ ((zbM r).resolve_left hw)
theorem znP {d : SD} (h : OkP d) (bs : List Int) (last : Int) : OkP (d.oby bs last) := by
 obtain ⟨hr, hc⟩ := zo0 h
 have hC := h.C _ hr
 have hc1 : OkP (d.clr d.row.toNat d.col.toNat d.cols.toNat) := zo2 h _ _ _ hr (by have := h.col; omega) (by omega)
 unfold SD.oby
 (repeat' split)
 all_goals first | exact h | exact hc1 | exact zle hc1 _ | exact zmK h _ _
theorem znU (tT : (Nat → ByteArray) → (Nat → Bool) → Nat → ByteArray) {d : SD} (h : OkP d) (a : zby) : OkP (d.act tT a) := by
 cases a with
 | inl r => exact zhx tT h r
 | inr x => obtain ⟨bs, last⟩ := x; exact znP h bs last
theorem zff (tT : (Nat → ByteArray) → (Nat → Bool) → Nat → ByteArray) : ∀ (l : List zby) {d : SD}, OkP d → OkP (d.acts tT l)
 | [], _, h => h
 | a :: l, _, h => zff tT l (znU tT h a)
theorem zcI (tT : (Nat → ByteArray) → (Nat → Bool) → Nat → ByteArray) (d : SD) (l m : List zby) : d.acts tT (l ++ m) = (d.acts tT l).acts tT m := by unfold SD.acts; rw [List.foldl_append]
theorem zhp (f g : Nat → ByteArray) (h : ∀ q, (f q).size ≤ (g q).size) : ∀ n, rsz f n ≤ rsz g n
 | 0 => Nat.le_refl _
 | n + 1 => by
  have := zhp f g h n
  have := h n
  rw [rsz, rsz]
  omega
theorem zek (f g : Nat → ByteArray) : ∀ n, (∀ q, q < n → f q = g q) → rsz f n = rsz g n
 | 0, _ => rfl
 | n + 1, h => by rw [rsz, rsz, zek f g n (fun q hq => h q (by omega)), h n (by omega)]
theorem zl4 (f : Nat → ByteArray) (j : Nat) (t : ByteArray) (m : Nat) (ht : t.size ≤ (f j).size + m) : ∀ n, rsz (fun q => if q = j then t else f q) n ≤ rsz f n + m
 | 0 => Nat.zero_le _
 | n + 1 => by
  have ih := zl4 f j t m ht n
  rw [rsz, rsz]
  by_cases e : n = j
  ·subst e
   rw [if_pos rfl]
   have : rsz (fun q => if q = n then t else f q) n = rsz f n := zek _ _ n (fun q hq => if_neg (by omega))
   omega
  ·rw [if_neg e]
   omega
theorem zk0 : ∀ n, rsz (fun _ => bz) n = n
 | 0 => rfl
 | n + 1 => by rw [rsz, zk0 n]; rfl
def WtB (d : SD) (M : Nat) : Prop := ∀ i, i < d.R → rsz (d.tx i) (d.C i) ≤ M
theorem WtB.mono {d : SD} {M M' : Nat} (h : WtB d M) (hM : M ≤ M') : WtB d M' := fun i hi => Nat.le_trans (h i hi) hM
theorem zoH {d : SD} {M : Nat} (h : WtB d M) (i a b : Nat) : WtB (d.clr i a b) M := fun p hp => by
 refine Nat.le_trans (zhp _ (d.tx p) (fun q => ?_) _) (h p hp)
 show (if p = i ∧ za6 d i a b q = true then bz else d.tx p q).size ≤ _
 split
 ·exact Nat.zero_le _
 ·exact Nat.le_refl _
theorem zmr {d : SD} {M m : Nat} (h : WtB d M) (i j : Nat) (t : ByteArray) (ht : t.size ≤ (d.tx i j).size + m) : WtB (d.setT i j t) (M + m) := fun p hp => by
 by_cases e : p = i
 ·subst e
  have h1 := zl4 (d.tx p) j t m ht (d.C p)
  have h2 := h p hp
  have h3 : rsz ((d.setT p j t).tx p) (d.C p) = rsz (fun q => if q = j then t else d.tx p q) (d.C p) := zek _ _ _ (fun q _ => by
   show (if p = p ∧ q = j then t else d.tx p q) = _
   by_cases e : q = j
   ·rw [if_pos ⟨rfl, e⟩, if_pos e]
   ·rw [if_neg (fun h => e h.2), if_neg e])
  show rsz ((d.setT p j t).tx p) (d.C p) ≤ _
  omega
 ·have h3 : rsz ((d.setT i j t).tx p) (d.C p) = rsz (d.tx p) (d.C p) := zek _ _ _ (fun q _ => by
   show (if p = i ∧ q = j then t else d.tx p q) = _
   rw [if_neg (fun h => e h.1)])
  show rsz ((d.setT i j t).tx p) (d.C p) ≤ _
  have := h p hp
  omega
section
variable (tT : (Nat → ByteArray) → (Nat → Bool) → Nat → ByteArray)
theorem zmh {d : SD} {M : Nat} (hk : OkP d) (h : WtB d M) (hM : 200 ≤ M) : WtB (d.down tT) M := by
 have hs := zae hk
 unfold SD.down
 split
 ·exact h
 ·intro p hp
  have hp2 : p < d.R := hp
  show rsz (fun q => if p + 1 < d.R then d.tx (p + 1) q else bz) (if p + 1 < d.R then d.C (p + 1) else d.cols.toNat) ≤ M
  by_cases e : p + 1 < d.R
  ·rw [if_pos e, zek _ (d.tx (p + 1)) _ (fun q _ => if_pos e)]
   exact h (p + 1) e
  ·rw [if_neg e, zek _ (fun _ => bz) _ (fun q _ => if_neg e), zk0]
   omega
theorem wt_put {d : SD} {M : Nat} (hk : OkP d) (h : WtB d M) (hM : 200 ≤ M) (t : ByteArray) (w : Int) : WtB (d.put tT t w) (M + t.size) := by
 have h1 : WtB (d.wrapL tT w) M := by
  unfold SD.wrapL
  split
  ·exact zmh tT hk h hM
  ·exact h
 have h2 : WtB ((d.wrapL tT w).put1 t w) (M + t.size) := zmr (zoH h1 _ _ _) _ _ _ (by omega)
 have h3 : WtB ((d.wrapL tT w).put2 t w) (M + t.size) := by
  unfold SD.put2
  split
  ·exact h2
  ·exact h2
 unfold SD.put SD.put3
 split
 ·exact h3
 ·exact h3
theorem zoD (a b : ByteArray) : (a ++ b).size = a.size + b.size := ByteArray.size_append
theorem wt_mark {d : SD} {M : Nat} (h : WtB d M) (t : ByteArray) : WtB (d.mark t) (M + t.size) := by
 unfold SD.mark
 split
 ·exact h.mono (by omega)
 ·split
  ·exact zmr h _ _ _ (by rw [zoD]; omega)
  ·exact h.mono (by omega)
theorem wt_act {d : SD} {M : Nat} (hk : OkP d) (h : WtB d M) (hM : 200 ≤ M) (a : zby) : WtB (d.act tT a) (M + 4) := by
 cases a with
 | inl r =>
  have he := zb1 r
  have hz : (zo (zac r)).size ≤ 4 := by rw [zai]; exact he
  show WtB (d.shw tT r) (M + 4)
  unfold SD.shw
  split
  ·exact h.mono (by omega)
  ·split
   ·exact (zmh tT hk h hM).mono (by omega)
   ·split
    ·exact h.mono (by omega)
    ·split
     ·exact (wt_mark h _).mono (by omega)
     ·exact (wt_put tT hk h hM _ _).mono (by omega)
 | inr x =>
  obtain ⟨bs, last⟩ := x
  have hc := (zoH h d.row.toNat d.col.toNat d.cols.toNat).mono (show M ≤ M + 4 by omega)
  have hr : ∀ (e : SD) (i : Nat), WtB e (M + 4) → WtB (e.clrRows i) (M + 4) := fun e i he p hp => by
   refine Nat.le_trans (zhp _ (e.tx p) (fun q => ?_) _) (he p hp)
   show (if i ≤ p then bz else e.tx p q).size ≤ _
   split
   ·exact Nat.zero_le _
   ·exact Nat.le_refl _
  show WtB (d.oby bs last) (M + 4)
  unfold SD.oby
  (repeat' split)
  all_goals first | exact h.mono (by omega) | exact hc | exact hr _ _ hc
theorem nb_act (d : SD) (a : zby) : (d.act tT a).nb ≤ d.nb + 1 := by
 have hd : (d.down tT).nb ≤ d.nb + 1 := by unfold SD.down; split <;> simp
 cases a with
 | inl r =>
  have hw : ∀ w, (d.wrapL tT w).nb ≤ d.nb + 1 := fun w => by
   unfold SD.wrapL
   split
   ·exact hd
   ·omega
  have hp : ∀ t w, (d.put tT t w).nb = (d.wrapL tT w).nb := fun t w => by
   unfold SD.put SD.put3 SD.put2
   (repeat' split) <;> rfl
  show (d.shw tT r).nb ≤ _
  unfold SD.shw
  split
  ·show d.nb ≤ _; omega
  ·split
   ·exact hd
   ·split
    ·omega
    ·split
     ·unfold SD.mark
      split
      ·omega
      ·split
       ·show d.nb ≤ _; omega
       ·omega
     ·rw [hp]; exact hw _
 | inr x =>
  obtain ⟨bs, last⟩ := x
  show (d.oby bs last).nb ≤ _
  unfold SD.oby
  (repeat' split)
  all_goals (first | omega | (show d.nb ≤ d.nb + 1; omega))
theorem zeZ : ∀ (l : List zby) {d : SD} {M : Nat}, OkP d → WtB d M → 200 ≤ M → OkP (d.acts tT l) ∧ WtB (d.acts tT l) (M + 4 * l.length) ∧ (d.acts tT l).nb ≤ d.nb + l.length
 | [], d, M, h1, h2, _ => ⟨h1, h2, Nat.le_refl _⟩
 | a :: l, d, M, h1, h2, h3 => by
  obtain ⟨r1, r2, r3⟩ := zeZ l (znU tT h1 a) (wt_act tT h1 h2 h3 a) (by omega)
  have := nb_act tT d a
  refine ⟨r1, r2.mono (by simp; omega), ?_⟩
  show ((d.act tT a).acts tT l).nb ≤ _
  simp
  omega
end
theorem zkv {α : Type} {st : List Int → Option (List α × Nat)} (hn : ∀ s ks m, st s = some (ks, m) → 0 < m ∧ m ≤ s.length) (hc : ∀ s ks m, st s = some (ks, m) → ks.length ≤ m) : ∀ (f : Nat) (s : List Int), s.length ≤ f → (gR st s).1.length ≤ (gR st s).2 := by
 intro f
 induction f with
 | zero =>
  intro s hf
  cases hst : st s with
  | none => rw [zdB hst]; simp
  | some x => have := hn s x.1 x.2 hst; omega
 | succ f ih =>
  intro s hf
  cases hst : st s with
  | none => rw [zdB hst]; simp
  | some x =>
   obtain ⟨ks, m⟩ := x
   have hm := hn s ks m hst
   have h1 := hc s ks m hst
   rw [zcv hn hst]
   have hd : (s.drop m).length = s.length - m := by simp
   have := ih (s.drop m) (by omega)
   simp only [List.length_append]
   omega
theorem zgF (s : List Int) (ks : List zby) (m : Nat) (h : zar s = some (ks, m)) : ks.length ≤ m := by
 have hm := zaZ s ks m h
 have : ks.length ≤ 1 := by
  unfold zar at h
  (repeat' split at h) <;> simp at h <;> first | (rw [h.1]; simp) | (rw [← h.1]; simp)
 omega
theorem zkl (s : List Int) : (fd s).1.length ≤ s.length := by
 have h1 := zkv zaZ zgF s.length s (Nat.le_refl _)
 have h2 := zg4 zaZ s.length s (Nat.le_refl _)
 exact Nat.le_trans h1 h2
theorem zj8 (s : List Int) : zar (fdH s) = none := gR_rest zaZ s.length s (Nat.le_refl _)
theorem fdH_le (s : List Int) : (fdH s).length ≤ 32 := by
 rcases zkM (zj8 s) with e | e | ⟨ds, e, _, hl⟩ | ⟨_, _, hf⟩
 ·rw [e]; simp
 ·rw [e]; simp
 ·rw [e]; simp; omega
 ·have h1 := ((zcw _).1 hf).1
  have h2 : nB (at0 (fdH s) 0) ≤ 4 := by unfold nB; (repeat' split) <;> omega
  omega
section
variable (tT : (Nat → ByteArray) → (Nat → Bool) → Nat → ByteArray)
theorem zia (d : SD) (h : List Int) : ({ d with hold := h } : SD).down tT = { d.down tT with hold := h } := by
 unfold SD.down
 by_cases e : d.row < d.rows - 1
 ·rw [if_pos e, if_pos e]
 ·rw [if_neg e, if_neg e]
theorem zk3 (d : SD) (h : List Int) (w : Int) : ({ d with hold := h } : SD).wrapL tT w = { d.wrapL tT w with hold := h } := by
 unfold SD.wrapL
 by_cases e : d.late = true ∨ (w = 2 ∧ d.col = d.cols - 1)
 ·rw [if_pos e, if_pos e, zia]
 ·rw [if_neg e, if_neg e]
theorem zmP (d : SD) (h : List Int) (t : ByteArray) (w : Int) : ({ d with hold := h } : SD).put3 t w = { d.put3 t w with hold := h } := by
 unfold SD.put3 SD.put2
 by_cases e : d.cols ≤ d.col + w
 ·rw [if_pos e, if_pos e]
  by_cases e2 : w = 2
  ·rw [if_pos e2, if_pos e2]; rfl
  ·rw [if_neg e2, if_neg e2]; rfl
 ·rw [if_neg e, if_neg e]
  by_cases e2 : w = 2
  ·rw [if_pos e2, if_pos e2]; rfl
  ·rw [if_neg e2, if_neg e2]; rfl
theorem zm7 (d : SD) (h : List Int) (t : ByteArray) : ({ d with hold := h } : SD).mark t = { d.mark t with hold := h } := by
 unfold SD.mark
 have e1 : SD.mkAt ({ d with hold := h } : SD) = d.mkAt := rfl
 have e2 : SD.mkAt2 ({ d with hold := h } : SD) = d.mkAt2 := rfl
 rw [e1, e2]
 by_cases e : d.mkAt < 0
 ·rw [if_pos e, if_pos e]
 ·rw [if_neg e, if_neg e]
  show (if (d.tx d.row.toNat d.mkAt2).toList ≠ [] ∧ (d.tx d.row.toNat d.mkAt2).size ≤ 6000 then _ else _) = _
  by_cases e3 : (d.tx d.row.toNat d.mkAt2).toList ≠ [] ∧ (d.tx d.row.toNat d.mkAt2).size ≤ 6000
  ·rw [if_pos e3, if_pos e3]; rfl
  ·rw [if_neg e3, if_neg e3]
theorem zoB (d : SD) (h : List Int) (a : zby) : ({ d with hold := h } : SD).act tT a = { d.act tT a with hold := h } := by
 cases a with
 | inl r =>
  show ({ d with hold := h } : SD).shw tT r = { d.shw tT r with hold := h }
  unfold SD.shw
  by_cases e1 : r = 13
  ·rw [if_pos e1, if_pos e1]
  ·rw [if_neg e1, if_neg e1]
   by_cases e2 : r = 10
   ·rw [if_pos e2, if_pos e2, zia]
   ·rw [if_neg e2, if_neg e2]
    by_cases e3 : r < 32 ∨ (127 ≤ r ∧ r ≤ 159)
    ·rw [if_pos e3, if_pos e3]
    ·rw [if_neg e3, if_neg e3]
     by_cases e4 : wid r = 0
     ·rw [if_pos e4, if_pos e4, zm7]
     ·rw [if_neg e4, if_neg e4]
      unfold SD.put
      rw [zk3, zmP]
 | inr x =>
  obtain ⟨bs, last⟩ := x
  show ({ d with hold := h } : SD).oby bs last = { d.oby bs last with hold := h }
  unfold SD.oby
  (repeat' split) <;> rfl
theorem zfF (h : List Int) : ∀ (l : List zby) (d : SD), ({ d with hold := h } : SD).acts tT l = { d.acts tT l with hold := h }
 | [], d => rfl
 | a :: l, d => by
  show (({ d with hold := h } : SD).act tT a).acts tT l = _
  rw [zoB, zfF h l]
  rfl
def SD.feed (d : SD) (bs : List Int) : SD := { d.acts tT (fd (d.hold ++ bs)).1 with hold := fdH (d.hold ++ bs) }
theorem ziN {d : SD} (h : OkP d) (bs : List Int) : OkP (d.feed tT bs) := by
 have h1 := zff tT (fd (d.hold ++ bs)).1 h
 exact ⟨h1.size, h1.R, fdH_le _, h1.C, h1.half, h1.row, h1.col, h1.late⟩
theorem zjD (d : SD) (x y : List Int) : (d.feed tT x).feed tT y = d.feed tT (x ++ y) := by
 have e := zfJ zaZ zd0 y (d.hold ++ x).length (d.hold ++ x) (Nat.le_refl _)
 have hl := zg4 zaZ (d.hold ++ x).length (d.hold ++ x) (Nat.le_refl _)
 have e2 : fdH (d.hold ++ (x ++ y)) = fdH (fdH (d.hold ++ x) ++ y) := by
  show (d.hold ++ (x ++ y)).drop (gR zar (d.hold ++ (x ++ y))).2 = _
  rw [← List.append_assoc, e, ← List.drop_drop, List.drop_append_of_le_length hl]
  rfl
 show ({ ({ d.acts tT (fd (d.hold ++ x)).1 with hold := fdH (d.hold ++ x) } : SD).acts tT (fd (fdH (d.hold ++ x) ++ y)).1 with hold := fdH (fdH (d.hold ++ x) ++ y) } : SD) = { d.acts tT (fd (d.hold ++ (x ++ y))).1 with hold := fdH (d.hold ++ (x ++ y)) }
 rw [zfF, e2]
 have e3 : (fd (d.hold ++ (x ++ y))).1 = (fd (d.hold ++ x)).1 ++ (fd (fdH (d.hold ++ x) ++ y)).1 := by
  show (gR zar (d.hold ++ (x ++ y))).1 = _
  rw [← List.append_assoc, e]
 rw [e3, zcI]
end
theorem zbc (r : Int) : Utf8.encode r = zo (zac r) := by
 have key : ∀ c : Nat, (if c < 0x80 then (⟨#[UInt8.ofNat c]⟩ : ByteArray) else if c < 0x800 then ⟨#[UInt8.ofNat (0xC0 + c / 64), UInt8.ofNat (0x80 + c % 64)]⟩ else if c < 0x10000 then ⟨#[UInt8.ofNat (0xE0 + c / 4096), UInt8.ofNat (0x80 + c / 64 % 64), UInt8.ofNat (0x80 + c % 64)]⟩ else ⟨#[UInt8.ofNat (0xF0 + c / 262144), UInt8.ofNat (0x80 + c / 4096 % 64), UInt8.ofNat (0x80 + c / 64 % 64), UInt8.ofNat (0x80 + c % 64)]⟩) = zo (zbd (c : Int)) := by
  intro c
  unfold zbd
  by_cases h1 : c < 128
  ·rw [if_pos h1, if_pos (show (c : Int) < 128 by omega)]
   rfl
  ·rw [if_neg h1, if_neg (show ¬ (c : Int) < 128 by omega)]
   by_cases h2 : c < 2048
   ·rw [if_pos h2, if_pos (show (c : Int) < 2048 by omega)]
    unfold zo
    simp only [List.foldl]
    rw [show ((192 : Int) + c / 64).toNat = 192 + c / 64 by omega, show ((128 : Int) + c % 64).toNat = 128 + c % 64 by omega]
    rfl
   ·rw [if_neg h2, if_neg (show ¬ (c : Int) < 2048 by omega)]
    by_cases h3 : c < 65536
    ·rw [if_pos h3, if_pos (show (c : Int) < 65536 by omega)]
     unfold zo
     simp only [List.foldl]
     rw [show ((224 : Int) + c / 4096).toNat = 224 + c / 4096 by omega, show ((128 : Int) + c / 64 % 64).toNat = 128 + c / 64 % 64 by omega, show ((128 : Int) + c % 64).toNat = 128 + c % 64 by omega]
     rfl
    ·rw [if_neg h3, if_neg (show ¬ (c : Int) < 65536 by omega)]
     unfold zo
     simp only [List.foldl]
     rw [show ((240 : Int) + c / 262144).toNat = 240 + c / 262144 by omega, show ((128 : Int) + c / 4096 % 64).toNat = 128 + c / 4096 % 64 by omega, show ((128 : Int) + c / 64 % 64).toNat = 128 + c / 64 % 64 by omega, show ((128 : Int) + c % 64).toNat = 128 + c % 64 by omega]
     rfl
 unfold Utf8.encode zac
 by_cases hv : Utf8.valid r = true
 ·have h0 : 0 ≤ r := by
   unfold Utf8.valid at hv
   simp at hv
   omega
  rw [if_pos hv, if_pos hv]
  have := key r.toNat
  rw [Int.toNat_of_nonneg h0] at this
  exact this
 ·rw [if_neg hv, if_neg hv]
  rfl
end Go.Proofs.YtinfdhbnljnifaaGreatDoor
