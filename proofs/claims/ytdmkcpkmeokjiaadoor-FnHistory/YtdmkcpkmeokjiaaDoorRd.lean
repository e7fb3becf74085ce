import Derived.Test.YtdmkcpkmeokjiaaDoorSpecClean
import Derived.Test.YtdmkcpkmeokjiaaDoorImplClean
import Derived.Test.YtdmkcpkmeokjiaaDoorClus
import Derived.Test.YtdmkcpkmeokjiaaDoorClsGrow
import Derived.Deep.RegionHeld
namespace Go.Proofs.YtdmkcpkmeokjiaaDoor
open Go.RowKit

theorem cleanR_bd (r : Int) : 0 ≤ cleanR r ∧ cleanR r ≤ 1114111 := by
  unfold cleanR
  split
  · omega
  · exact shownI_bd r
theorem cleanF_all : ∀ (f : Nat) (l : List Int), ∀ x ∈ cleanF f l, 0 ≤ x ∧ x ≤ 1114111
  | 0, l => by simp [cleanF]
  | f + 1, l => by
    intro x hx
    rw [cleanF] at hx
    split at hx
    · simp at hx
    · rcases List.mem_cons.1 hx with rfl | h
      · exact cleanR_bd _
      · exact cleanF_all f _ x h
theorem cleanL_i32 (l : List Int) : I32s (cleanL l) := fun x hx => by
  have := cleanF_all l.length l x hx
  omega
theorem sumR_app (cs : List (List Int × Int)) (c : List Int × Int) : ∀ k, k ≤ cs.length → sumR (cs ++ [c]) k = sumR cs k
  | 0, _ => rfl
  | k + 1, h => by
    rw [sumR, sumR, sumR_app cs c k (by omega), cR_push]
    rw [if_neg (by omega)]
theorem sumR_set (cs : List (List Int × Int)) (c : List Int × Int) (i : Nat) : ∀ k, k ≤ i → sumR (cs.set i c) k = sumR cs k
  | 0, _ => rfl
  | k + 1, h => by
    rw [sumR, sumR, sumR_set cs c i k (by omega)]
    have : cR (cs.set i c) k = cR cs k := by
      unfold cR
      rw [List.getElem?_set_ne (by omega)]
    rw [this]
theorem clF_sum (xs : List Int) : ∀ k, sumR (clF xs k) (clF xs k).length ≤ k + 1
  | 0 => by simp [clF, sumR]
  | k + 1 => by
    have ih := clF_sum xs k
    rw [clF, clStep]
    split
    · rw [List.length_append, show [([shownI (at0 xs k)], wid (shownI (at0 xs k)))].length = 1 from rfl, sumR, sumR_app _ _ _ (Nat.le_refl _), cR_push, if_pos rfl]
      simp; omega
    · split
      · simp [sumR, cR]
      · rename_i h1 h2
        obtain ⟨m, hm⟩ : ∃ m, (clF xs k).length = m + 1 := ⟨(clF xs k).length - 1, by omega⟩
        rw [List.length_set, hm, sumR, show m + 1 - 1 = m by omega, sumR_set _ _ _ _ (Nat.le_refl _), cR_set _ _ _ _ (by omega), if_pos rfl]
        rw [hm, sumR] at ih
        simp; omega
theorem clF_i32 (xs : List Int) : ∀ k j, I32s (cR (clF xs k) j)
  | 0, j => by intro x hx; simp [clF, cR] at hx
  | k + 1, j => by
    have ih := clF_i32 xs k
    have hs := shownI_bd (at0 xs k)
    rw [clF, clStep]
    split
    · rw [cR_push]; split
      · intro x hx; simp at hx; omega
      · exact ih j
    · split
      · rename_i h1 h2
        by_cases hj : j = 0
        · subst hj; intro x hx; simp [cR] at hx; omega
        · intro x hx; simp [cR, List.getElem?_eq_none (show [(([9676, shownI (at0 xs k)] : List Int), (1 : Int))].length ≤ j by simp; omega)] at hx
      · rename_i h1 h2
        rw [cR_set _ _ _ _ (by omega)]
        split
        · intro x hx
          rcases List.mem_append.1 hx with h | h
          · exact ih _ x h
          · simp at h; omega
        · exact ih j
theorem clusC_fit (xs : List Int) (h : xs.length ≤ 8000000) : (clusC xs).length + sumR (clusC xs) (clusC xs).length ≤ 16777216 := by
  have := clF_len xs xs.length
  have := clF_sum xs xs.length
  unfold clusC; omega
/-- The settled text of bytes. -/
def settleL (bs : List Int) : List Int := textC (clusC (cleanL bs))
theorem settleL_len (bs : List Int) : (settleL bs).length ≤ 4 * bs.length + 4 := by
  have h1 := txT_len (clusC (cleanL bs)) (clusC (cleanL bs)).length
  have h2 := clF_sum (cleanL bs) (cleanL bs).length
  have h3 := cleanL_len bs
  unfold settleL textC
  unfold clusC at h1 ⊢
  omega
theorem txR_bytes (xs : List Int) : ∀ k, Bytes (txR xs k)
  | 0 => by intro x hx; simp [txR] at hx
  | k + 1 => by
    intro x hx
    rw [txR] at hx
    rcases List.mem_append.1 hx with h | h
    · exact txR_bytes xs k x h
    · exact encR_bytes _ x h
theorem txT_bytes (cs : List (List Int × Int)) : ∀ k, Bytes (txT cs k)
  | 0 => by intro x hx; simp [txT] at hx
  | k + 1 => by
    intro x hx
    rw [txT] at hx
    rcases List.mem_append.1 hx with h | h
    · exact txT_bytes cs k x h
    · exact txR_bytes _ _ x h
theorem settleL_bytes (bs : List Int) : Bytes (settleL bs) := txT_bytes _ _

theorem run_s2i {P : Program} (w : World) (src dst e : TypeId) (hs : P.underlying src = some .string) (hd : P.underlying dst = some (.slice e)) (he : P.underlying e = some (.int .u8)) (zs : List Int) (hz : Bytes zs) :
    ∃ v W', (convert src dst (.string (toBA zs))).run P w = .ok v W' ∧ IntsAt W' .u8 v zs ∧ Ext w W' := by
  have hr := run_bytes_of_string (P := P) w src dst e (toBA zs) hs hd he
  rw [toBA_size] at hr
  obtain ⟨cap, W', h1, h2, h3, h4⟩ := run_s2b (P := P) w src dst e hs hd he zs hz
  have h5 := h1
  rw [hr] at h5
  injection h5 with h6 h7
  injection h6 with h8 h9 h10
  refine ⟨_, _, h1, ⟨_, _, rfl, ?_, fun hp => ⟨_, _, rfl, fun j hj => ?_⟩⟩, h2⟩
  · rw [← h10]; exact grownCap_ge w zs.length 0 e
  · have h11 := h4 j (.int .u8 (at0 zs j)) (by simp [at0_lt hj])
    rw [Addr.add_lit] at h11
    exact h11

set_option maxRecDepth 10000 in
set_option maxHeartbeats 1000000 in
theorem specSettle_any (bs : List Int) (hb : Bytes bs) (w : World) (hl : bs.length ≤ 8000000) :
    Calls Tryd.prog 26 #[.string (toBA bs)] w fun e w' => e = .returned (.string (toBA (settleL bs))) ∧ Ext w w' := by
  obtain ⟨v0, w0, hrun, h0, E0⟩ := run_s2i (P := Tryd.prog) w _ _ _ Tryd.underlying9 Tryd.underlying22 Tryd.underlying5 bs hb
  have hcl := cleanL_len bs
  have H0 := hide h0
  go_enter Tryd.func26, Tryd.ntmps26
  go_wp2_with fail
  refine (specClean_any bs hb v0 w0 (unhide H0) (by omega)).mono ?_
  rintro e w1 ⟨v1, rfl, o1, E1⟩
  go_wp2_with fail
  refine (specClusters_any v1 (cleanL bs) w1 (ints_of_owns o1) (cleanL_i32 bs) (by omega)).mono ?_
  rintro e w2 ⟨v2, rs2, rfl, o2, E2⟩
  have O2 := hide o2
  clear o1 o2
  go_wp2_with fail
  refine (specTextOf_any v2 (clusC (cleanL bs)) w2 (unhide O2).cls (clusC_fit _ (by omega)) (fun j _ => clF_i32 _ _ j)).mono ?_
  rintro e w3 ⟨rfl, E3⟩
  go_wp2
  go_ret
  exact ⟨rfl, ((E0.trans E1).trans E2).trans E3⟩
end Go.Proofs.YtdmkcpkmeokjiaaDoor

namespace Go.Proofs.YtdmkcpkmeokjiaaDoor
open Go.RowKit

/-- OUTSIDE THE BLOCKS OF S ALL OLD BLOCKS STAND. -/
structure Fr (S : Nat → Prop) (w w' : World) : Prop where
  os : w'.os = w.os
  tape : w'.tape = w.tape
  output : w'.output = w.output
  size : w.heap.size ≤ w'.heap.size
  block : ∀ k, k < w.heap.size → ¬ S k → w'.heap[k]? = w.heap[k]?
theorem Fr.refl (S : Nat → Prop) (w : World) : Fr S w w := ⟨rfl, rfl, rfl, Nat.le_refl _, fun _ _ _ => rfl⟩
theorem Fr.grown {S : Nat → Prop} {w W w3 : World} {row : Option Nat} (h : Fr S w W) (hg : W.grownBy w3 row) (hrow : ∀ k, row = some k → S k) : Fr S w w3 :=
  ⟨hg.os.trans h.os, hg.tape.trans h.tape, hg.output.trans h.output, Nat.le_trans h.size hg.size, fun i hi hn => (hg.block i (Nat.lt_of_lt_of_le hi h.size) (fun e => hn (hrow i e.symm))).trans (h.block i hi hn)⟩
theorem Fr.setCell {S : Nat → Prop} {w W : World} (h : Fr S w W) {a : Addr} (ha : S a.block) (u : Value) : Fr S w (W.setCell a u) :=
  h.grown (row := some a.block) ⟨rfl, rfl, rfl, by simp, fun k _ hk => Below.heap_setCell _ _ _ _ (fun e => hk (by rw [e]))⟩ (fun k hk => by simp at hk; subst hk; exact ha)
theorem Fr.ext {S : Nat → Prop} {w w' : World} (h : Fr S w w') {w0 : World} (h0 : Ext w0 w) (hS : ∀ k, S k → w0.heap.size ≤ k) : Ext w0 w' :=
  ⟨h.os.trans h0.os, h.tape.trans h0.tape, h.output.trans h0.output, Nat.le_trans h0.size h.size, fun i hi hn => (h.block i (Nat.lt_of_lt_of_le hi h0.size) (fun e => by have := hS i e; omega)).trans (h0.block i hi hn)⟩
theorem Fr.owns {S : Nat → Prop} {w w' : World} (h : Fr S w w') {base : Nat} {e : TypeId} {size : Nat} {v : Value} {n : Nat} {xs : List Value} (ho : w.ownsRow base e size v n xs) (hS : ∀ g, v.ownBlock = some g → ¬ S g) : w'.ownsRow base e size v n xs :=
  owns_same ho (fun g hg => h.block g (ho.lt g hg).2 (hS g hg))
theorem Fr.of_ext {S : Nat → Prop} {a b : World} (h : Ext a b) : Fr S a b := ⟨h.os, h.tape, h.output, h.size, fun _ hi _ => h.heap hi⟩
theorem Fr.mono {S S' : Nat → Prop} {a b : World} (h : Fr S a b) (hs : ∀ k, S k → S' k) : Fr S' a b := ⟨h.os, h.tape, h.output, h.size, fun i hi hn => h.block i hi (fun e => hn (hs i e))⟩
/-- The blocks that clusters lie in. -/
def Foot (v : Value) (rs : List Value) (n : Nat) (g : Nat) : Prop := v.ownBlock = some g ∨ ∃ j, j < n ∧ (rV rs j).ownBlock = some g
theorem OwnCls.fr {S : Nat → Prop} {w w' : World} {base : Nat} {v : Value} {rs : List Value} {cs : List (List Int × Int)} (h : OwnCls w base v rs cs) (hf : Fr S w w') (hS : ∀ g, Foot v rs cs.length g → ¬ S g) : OwnCls w' base v rs cs := by
  obtain ⟨h0, ⟨ys, h1, h2⟩, h3, h4⟩ := h
  exact ⟨h0, ⟨ys, hf.owns h1 (fun g hg => hS g (.inl hg)), h2⟩, fun j hj => hf.owns (h3 j hj) (fun g hg => hS g (.inr ⟨j, hj, hg⟩)), h4⟩
theorem OwnCls.foot {w : World} {base : Nat} {v : Value} {rs : List Value} {cs : List (List Int × Int)} (h : OwnCls w base v rs cs) {g : Nat} (hg : Foot v rs cs.length g) : base ≤ g ∧ g < w.heap.size := by
  obtain ⟨h0, ⟨ys, h1, h2⟩, h3, h4⟩ := h
  rcases hg with hg | ⟨j, hj, hg⟩
  · exact h1.lt g hg
  · exact (h3 j hj).lt g hg
/-- One cluster's runes and width written anew. -/
theorem OwnCls.mark {W W1 : World} {base g j cap : Nat} {rs : List Value} {cs : List (List Int × Int)} {zs : List Int} {d : Int}
    (h : OwnCls W base (.slice (some ⟨g, 0, none⟩) cs.length cap) rs cs) (hj : j < cs.length) (hz : zs.length = (cR cs j).length)
    (ho : W1.ownsRow base 21 1 (rV rs j) (cR cs j).length (zs.map (Value.int .i32))) (hg : W.grownBy W1 (rV rs j).ownBlock) :
    OwnCls (W1.setCell ⟨g, j * 2 + 1, none⟩ (.int .i64 d)) base (.slice (some ⟨g, 0, none⟩) cs.length cap) rs (cs.set j (zs, d)) := by
  obtain ⟨h0, ⟨ys, hy, hyy⟩, h3, h4⟩ := h
  have hyl := hy.1
  have hy1 : W1.ownsRow base 70 2 (.slice (some ⟨g, 0, none⟩) cs.length cap) cs.length ys :=
    owns_same hy (fun k hk => hg.block k (hy.lt k hk).2 (fun e => owns_apart hy (h3 j hj) (by decide) hk e.symm))
  have s1 := (hy1.stored (j * 2 + 1) (.int .i64 d)).1
  have ng : ∀ (u : Value) (n : Nat) (zs : List Value), W1.ownsRow base 21 1 u n zs → u.ownBlock ≠ some g := fun u n zs hu e => owns_apart hu hy1 (by decide) e rfl
  have keep : ∀ (u : Value) (n : Nat) (zs : List Value), W1.ownsRow base 21 1 u n zs → (W1.setCell ⟨g, j * 2 + 1, none⟩ (.int .i64 d)).ownsRow base 21 1 u n zs := fun u n zs hu =>
    owns_setCell hu (ng u n zs hu) _
  have old : ∀ i, i < cs.length → i ≠ j → W1.ownsRow base 21 1 (rV rs i) (cR cs i).length ((cR cs i).map (Value.int .i32)) := fun i hi hne =>
    owns_same (h3 i hi) (fun k hk => hg.block k ((h3 i hi).lt k hk).2 (fun e => by
      rcases Nat.lt_or_gt_of_ne hne with h5 | h5
      · exact h4 i j k h5 hj hk e.symm
      · exact h4 j i k h5 hi e.symm hk))
  refine ⟨by simp [h0], ⟨ys.set (j * 2 + 1) (.int .i64 d), by simpa using s1, fun i hi => ?_⟩, fun i hi => ?_, fun i j' k hij hj' hk => h4 i j' k hij (by simpa using hj') hk⟩
  · simp at hi
    rw [cW_set cs j _ i hj]
    by_cases e : i = j
    · subst e
      rw [if_pos rfl]
      exact ⟨by rw [List.getElem?_set_ne (by omega)]; exact (hyy i hi).1, List.getElem?_set_self (by omega)⟩
    · rw [if_neg e, List.getElem?_set_ne (by omega), List.getElem?_set_ne (by omega)]
      exact hyy i hi
  · simp at hi
    rw [cR_set cs j _ i hj]
    by_cases e : i = j
    · subst e
      rw [if_pos rfl]
      exact keep _ _ _ (by simpa [hz] using ho)
    · rw [if_neg e]
      exact keep _ _ _ (old i hi e)

def kkC (k : Int) (cs : List (List Int × Int)) : Nat → Int
  | 0 => k
  | j + 1 => kkC k cs j + ((cR cs j).length : Int) + 1
def mkTo (k : Int) (cs : List (List Int × Int)) : Nat → List (List Int × Int)
  | 0 => cs
  | j + 1 => (mkTo k cs j).set j (mkI32 (kkC k cs j) (cR cs j).length, kkC k cs j + ((cR cs j).length : Int))
/-- What 'mark' makes of clusters. -/
def mkCls (k : Int) (cs : List (List Int × Int)) : List (List Int × Int) := mkTo k cs cs.length
theorem mkTo_len (k : Int) (cs : List (List Int × Int)) : ∀ j, (mkTo k cs j).length = cs.length
  | 0 => rfl
  | j + 1 => by simp [mkTo, mkTo_len k cs j]
theorem mkCls_len (k : Int) (cs : List (List Int × Int)) : (mkCls k cs).length = cs.length := mkTo_len k cs _
theorem mkTo_R (k : Int) (cs : List (List Int × Int)) (i : Nat) : ∀ j, j ≤ cs.length → cR (mkTo k cs j) i = if i < j then mkI32 (kkC k cs i) (cR cs i).length else cR cs i
  | 0, _ => by simp [mkTo]
  | j + 1, h => by
    rw [mkTo, cR_set _ _ _ _ (by rw [mkTo_len]; omega), mkTo_R k cs i j (by omega)]
    by_cases e : i = j
    · subst e; simp
    · rw [if_neg e]
      by_cases h2 : i < j
      · rw [if_pos h2, if_pos (by omega)]
      · rw [if_neg h2, if_neg (by omega)]
theorem mkTo_W (k : Int) (cs : List (List Int × Int)) (i : Nat) : ∀ j, j ≤ cs.length → cW (mkTo k cs j) i = if i < j then kkC k cs i + ((cR cs i).length : Int) else cW cs i
  | 0, _ => by simp [mkTo]
  | j + 1, h => by
    rw [mkTo, cW_set _ _ _ _ (by rw [mkTo_len]; omega), mkTo_W k cs i j (by omega)]
    by_cases e : i = j
    · subst e; simp
    · rw [if_neg e]
      by_cases h2 : i < j
      · rw [if_pos h2, if_pos (by omega)]
      · rw [if_neg h2, if_neg (by omega)]
/-- No more than N is ever counted. -/
def Small (k : Int) (cs : List (List Int × Int)) : Prop := ∀ j, j ≤ cs.length → 0 ≤ kkC k cs j ∧ kkC k cs j ≤ 4398046511104
theorem kkC_bd (k : Int) (cs : List (List Int × Int)) (N : Nat) (hk : 0 ≤ k) (hN : ∀ j, (cR cs j).length ≤ N) : ∀ j, k ≤ kkC k cs j ∧ kkC k cs j ≤ k + (j : Int) * ((N : Int) + 1)
  | 0 => by simp [kkC]
  | j + 1 => by
    have ih := kkC_bd k cs N hk hN j
    have := hN j
    rw [kkC]
    have e : ((j + 1 : Nat) : Int) * ((N : Int) + 1) = (j : Int) * ((N : Int) + 1) + ((N : Int) + 1) := by
      rw [Int.natCast_add, Int.add_mul]; simp
    omega
end Go.Proofs.YtdmkcpkmeokjiaaDoor

namespace Go.Proofs.YtdmkcpkmeokjiaaDoor
open Go.RowKit

/-- A reader of draws at block D: the bytes bs, the place p. -/
def RdAt (w : World) (D : Nat) (v : Value) (bs : List Int) (p : Nat) : Prop :=
  w.cell? ⟨D, 0, none⟩ = some v ∧ w.cell? ⟨D, 1, none⟩ = some (.int .i64 (p : Int)) ∧ w.frozen? ⟨D, 1, none⟩ = false ∧ IntsAt w .u8 v bs ∧ p ≤ bs.length ∧ (0 < bs.length → ∃ b off n c, v = .slice (some ⟨b, off, none⟩) n c ∧ b ≠ D)
theorem RdAt.ext {w w' : World} {D : Nat} {v : Value} {bs : List Int} {p : Nat} (h : RdAt w D v bs p) (he : Ext w w') : RdAt w' D v bs p :=
  ⟨he.cell h.1, he.cell h.2.1, by rw [he.rules.2 _ _ (lt_of_cell h.1)]; exact h.2.2.1, h.2.2.2.1.ext he, h.2.2.2.2⟩
set_option maxHeartbeats 400000 in
theorem l1Open_any (v : Value) (bs : List Int) (w : World) (hv : IntsAt w .u8 v bs) (hl : bs.length ≤ 16777216) :
    Calls Tryd.prog 11 #[v] w fun e w' => e = .returned (.pointer (some ⟨w.heap.size, 0, none⟩)) ∧ (∃ v', RdAt w' w.heap.size v' (bs.take 1000) 0) ∧ Ext w w' := by
  have HV := hide hv
  obtain ⟨ao, cap, rfl, hcap, hx⟩ := hv
  have HX := hide hx
  clear hx
  by_cases h : 1000 < bs.length
  · have h2 : (1000 : Int) < (bs.length : Int) := by omega
    have h3 : (1000 : Int) ≤ (cap : Int) := by omega
    obtain ⟨b, off, rfl, hc⟩ := (unhide HX) (by omega)
    have HC := hide hc
    clear hc
    go_enter Tryd.func11, Tryd.ntmps11
    go_wp2
    go_ret
    refine ⟨rfl, ⟨.slice (some ⟨b, off, none⟩) 1000 cap, by simp [go_sem], by simp [go_sem], by simp [go_sem], ?_, by simp, fun _ => ⟨b, off, _, _, rfl, ?_⟩⟩, (Ext.refl _).alloc _⟩
    rotate_left
    · have := lt_of_cell ((unhide HC) 0 (by omega))
      omega
    have hlen : (bs.take 1000).length = 1000 := by simp; omega
    refine IntsAt.ext (w := w) ⟨some ⟨b, off, none⟩, cap, by rw [hlen], by omega, fun _ => ⟨b, off, rfl, fun j hj => ?_⟩⟩ ((Ext.refl _).alloc _)
    rw [hlen] at hj
    rw [(unhide HC) j (by omega)]
    simp [at0, hj]
  · have h2 : ¬ (1000 : Int) < (bs.length : Int) := by omega
    have ht : bs.take 1000 = bs := List.take_of_length_le (by omega)
    have HT := hide ht
    clear ht
    go_enter Tryd.func11, Tryd.ntmps11
    go_wp2
    go_ret
    refine ⟨rfl, ⟨.slice ao bs.length cap, by simp [go_sem], by simp [go_sem], by simp [go_sem], ?_, by simp, ?_⟩, (Ext.refl _).alloc _⟩
    · rw [unhide HT]
      exact (unhide HV).ext ((Ext.refl _).alloc _)
    · intro hp
      rw [unhide HT] at hp
      obtain ⟨b, off, rfl, hc⟩ := (unhide HX) hp
      have := lt_of_cell (hc 0 hp)
      exact ⟨b, off, _, _, rfl, by omega⟩
theorem RdAt.step {w : World} {D : Nat} {v : Value} {bs : List Int} {p : Nat} (h : RdAt w D v bs p) (hp : p < bs.length) : RdAt (w.setCell ⟨D, 1, none⟩ (.int .i64 ((p : Int) + 1))) D v bs (p + 1) := by
  obtain ⟨h0, h1, h2, h3, h4, h5⟩ := h
  obtain ⟨b, off, n, c, rfl, hbD⟩ := h5 (by omega)
  refine ⟨by simp [go_sem, h0], World.cell?_setCell_same _ _ _ h1, by simpa [go_sem] using h2, ?_, by omega, h5⟩
  obtain ⟨ao', cap', e4, hcap', hx'⟩ := h3
  refine ⟨ao', cap', e4, hcap', fun hp' => ?_⟩
  obtain ⟨b2, off2, e5, hc2⟩ := hx' hp'
  subst e5
  injection e4 with e6
  injection e6 with e7
  injection e7 with e8
  subst e8
  exact ⟨b, off2, rfl, fun j hj => by rw [World.cell?_setCell_far _ _ _ _ (fun e => hbD e.symm)]; exact hc2 j hj⟩
set_option maxHeartbeats 400000 in
theorem next_any (D : Nat) (v : Value) (bs : List Int) (p : Nat) (w : World) (h : RdAt w D v bs p) (hB : Bytes bs) (hl : bs.length ≤ 16777216) :
    Calls Tryd.prog 12 #[.pointer (some ⟨D, 0, none⟩)] w fun e w' => e = .returned (.int .i64 (at0 bs p)) ∧ RdAt w' D v bs (if p < bs.length then p + 1 else p) ∧ Fr (fun k => k = D) w w' := by
  have HR := hide h
  obtain ⟨h0, h1, h2, h3, h4, h5⟩ := h
  obtain ⟨ao, cap, rfl, hcap, hx⟩ := h3
  clear h5
  by_cases hp : p < bs.length
  · rw [if_pos hp]
    obtain ⟨b, off, rfl, hc⟩ := hx (by omega)
    have c0 := hc p hp
    have hb := hB.at0 p
    obtain ⟨x, hx⟩ : ∃ x, x = at0 bs p := ⟨_, rfl⟩
    rw [← hx] at c0 hb ⊢
    have bp : (p : Int) < (bs.length : Int) := by omega
    clear hc hx
    have hw : IntKind.i64.wrap ((p : Int) + 1) = (p : Int) + 1 := by rw [IntKind.wrap_i64]; omega
    have hw2 : IntKind.i64.wrap x = x := by rw [IntKind.wrap_i64]; omega
    have HP := hide hp
    go_enter Tryd.func12, Tryd.ntmps12
    go_wp2
    go_quiet (fail)
    go_wp2
    go_quiet (fail)
    go_wp2
    go_ret
    refine ⟨rfl, RdAt.step ((unhide HR).ext ?_) (unhide HP), (Fr.of_ext (S := fun k => k = D) ?_).setCell (a := ⟨D, 1, none⟩) rfl _⟩
    all_goals repeat' first | exact Ext.refl _ | refine Ext.drewN ?_ _ | refine Ext.drew ?_
  · rw [if_neg hp]
    have ha : Hid (at0 bs p = 0) := by show _ = _; unfold at0; rw [List.getElem?_eq_none (by omega)]; rfl
    have bp : ¬ (p : Int) < (bs.length : Int) := by omega
    go_enter Tryd.func12, Tryd.ntmps12
    go_wp2
    go_quiet (fail)
    go_wp2
    go_ret
    exact ⟨by rw [ha.out]; rfl, (unhide HR).ext ((Ext.refl _).drewN _), Fr.of_ext ((Ext.refl _).drewN _)⟩
end Go.Proofs.YtdmkcpkmeokjiaaDoor
