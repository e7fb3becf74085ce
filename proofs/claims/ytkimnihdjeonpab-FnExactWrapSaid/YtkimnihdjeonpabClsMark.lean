import Derived.Test.YtkimnihdjeonpabClsGrow
namespace Go.Proofs.Ytkimnihdjeonpab
open Go.RowKit
structure Fr (S : Nat → Prop) (w w' : World) : Prop where
  os : w'.os = w.os
  tape : w'.tape = w.tape
  output : w'.output = w.output
  size : w.heap.size ≤ w'.heap.size
  block : ∀ k, k < w.heap.size → ¬ S k → w'.heap[k]? = w.heap[k]?
theorem Fr.refl (S : Nat → Prop) (w : World) : Fr S w w := ⟨rfl, rfl, rfl, Nat.le_refl _, fun _ _ _ => rfl⟩
theorem Fr.grown {S : Nat → Prop} {w W w3 : World} {row : Option Nat} (h : Fr S w W) (hg : W.grownBy w3 row) (hrow : ∀ k, row = some k → S k) : Fr S w w3 :=
  ⟨hg.os.trans h.os, hg.tape.trans h.tape, hg.output.trans h.output, Nat.le_trans h.size hg.size, fun i hi hn => (hg.block i (Nat.lt_of_lt_of_le hi h.size) (fun e => hn (hrow i e.symm))).trans (h.block i hi hn)⟩
theorem Fr.setCell {S : Nat → Prop} {w W : World} (h : Fr S w W) {a : Addr} (ha : S a.block) (u : Value) : Fr S w (W.setCell a u) :=
  h.grown (row := some a.block) ⟨rfl, rfl, rfl, by simp, fun k _ hk => Below.heap_setCell _ _ _ _ (fun e => hk (by rw [e]))⟩ (fun k hk => by simp at hk; subst hk; exact ha)
theorem Fr.ext {S : Nat → Prop} {w w' : World} (h : Fr S w w') {w0 : World} (h0 : Ext w0 w) (hS : ∀ k, S k → w0.heap.size ≤ k) : Ext w0 w' :=
  ⟨h.os.trans h0.os, h.tape.trans h0.tape, h.output.trans h0.output, Nat.le_trans h0.size h.size, fun i hi hn => (h.block i (Nat.lt_of_lt_of_le hi h0.size) (fun e => by have := hS i e; omega)).trans (h0.block i hi hn)⟩
theorem Fr.owns {S : Nat → Prop} {w w' : World} (h : Fr S w w') {base : Nat} {e : TypeId} {size : Nat} {v : Value} {n : Nat} {xs : List Value} (ho : w.ownsRow base e size v n xs) (hS : ∀ g, v.ownBlock = some g → ¬ S g) : w'.ownsRow base e size v n xs :=
  owns_same ho (fun g hg => h.block g (ho.lt g hg).2 (hS g hg))
theorem Fr.mono {S S' : Nat → Prop} {a b : World} (h : Fr S a b) (hs : ∀ k, S k → S' k) : Fr S' a b := ⟨h.os, h.tape, h.output, h.size, fun i hi hn => h.block i hi (fun e => hn (hs i e))⟩
def Foot (v : Value) (rs : List Value) (n : Nat) (g : Nat) : Prop := v.ownBlock = some g ∨ ∃ j, j < n ∧ (rV rs j).ownBlock = some g
theorem OwnCls.fr {S : Nat → Prop} {w w' : World} {base : Nat} {v : Value} {rs : List Value} {cs : List (List Int × Int)} (h : OwnCls w base v rs cs) (hf : Fr S w w') (hS : ∀ g, Foot v rs cs.length g → ¬ S g) : OwnCls w' base v rs cs := by
  obtain ⟨h0, ⟨ys, h1, h2⟩, h3, h4⟩ := h
  exact ⟨h0, ⟨ys, hf.owns h1 (fun g hg => hS g (.inl hg)), h2⟩, fun j hj => hf.owns (h3 j hj) (fun g hg => hS g (.inr ⟨j, hj, hg⟩)), h4⟩
theorem OwnCls.foot {w : World} {base : Nat} {v : Value} {rs : List Value} {cs : List (List Int × Int)} (h : OwnCls w base v rs cs) {g : Nat} (hg : Foot v rs cs.length g) : base ≤ g ∧ g < w.heap.size := by
  obtain ⟨h0, ⟨ys, h1, h2⟩, h3, h4⟩ := h
  rcases hg with hg | ⟨j, hj, hg⟩
  · exact h1.lt g hg
  · exact (h3 j hj).lt g hg
theorem OwnCls.mark {W W1 : World} {base g j cap : Nat} {rs : List Value} {cs : List (List Int × Int)} {zs : List Int} {d : Int}
    (h : OwnCls W base (.slice (some ⟨g, 0, none⟩) cs.length cap) rs cs) (hj : j < cs.length) (hz : zs.length = (cR cs j).length)
    (ho : W1.ownsRow base 21 1 (rV rs j) (cR cs j).length (zs.map (Value.int .i32))) (hg : W.grownBy W1 (rV rs j).ownBlock) :
    OwnCls (W1.setCell ⟨g, j * 2 + 1, none⟩ (.int .i64 d)) base (.slice (some ⟨g, 0, none⟩) cs.length cap) rs (cs.set j (zs, d)) := by
  obtain ⟨h0, ⟨ys, hy, hyy⟩, h3, h4⟩ := h
  have hyl := hy.1
  have hy1 : W1.ownsRow base 57 2 (.slice (some ⟨g, 0, none⟩) cs.length cap) cs.length ys :=
    owns_same hy (fun k hk => hg.block k (hy.lt k hk).2 (fun e => owns_apart hy (h3 j hj) (by decide) hk e.symm))
  have s1 := (hy1.stored (j * 2 + 1) (.int .i64 d)).1
  have ng : ∀ (u : Value) (n : Nat) (zs : List Value), W1.ownsRow base 21 1 u n zs → u.ownBlock ≠ some g := fun u n zs hu e => owns_apart hu hy1 (by decide) e rfl
  have keep : ∀ (u : Value) (n : Nat) (zs : List Value), W1.ownsRow base 21 1 u n zs → (W1.setCell ⟨g, j * 2 + 1, none⟩ (.int .i64 d)).ownsRow base 21 1 u n zs := fun u n zs hu =>
    owns_setCell hu (ng u n zs hu) _
  have old : ∀ i, i < cs.length → i ≠ j → W1.ownsRow base 21 1 (rV rs i) (cR cs i).length ((cR cs i).map (Value.int .i32)) := fun i hi hne =>
    owns_same (h3 i hi) (fun k hk => hg.block k ((h3 i hi).lt k hk).2 (fun e => by
      rcases Nat.lt_or_gt_of_ne hne with h5 | h5
      · exact h4 i j k h5 hj hk e.symm
      · exact h4 j i k h5 hi e.symm hk))
  refine ⟨by simp [h0], ⟨ys.set (j * 2 + 1) (.int .i64 d), by simpa using s1, fun i hi => ?_⟩, fun i hi => ?_, fun i j' k hij hj' hk => h4 i j' k hij (by simpa using hj') hk⟩
  · simp at hi
    rw [cW_set cs j _ i hj]
    by_cases e : i = j
    · subst e
      rw [if_pos rfl]
      exact ⟨by rw [List.getElem?_set_ne (by omega)]; exact (hyy i hi).1, List.getElem?_set_self (by omega)⟩
    · rw [if_neg e, List.getElem?_set_ne (by omega), List.getElem?_set_ne (by omega)]
      exact hyy i hi
  · simp at hi
    rw [cR_set cs j _ i hj]
    by_cases e : i = j
    · subst e
      rw [if_pos rfl]
      exact keep _ _ _ (by simpa [hz] using ho)
    · rw [if_neg e]
      exact keep _ _ _ (old i hi e)
def kkC (k : Int) (cs : List (List Int × Int)) : Nat → Int
  | 0 => k
  | j + 1 => kkC k cs j + ((cR cs j).length : Int) + 1
def mkTo (k : Int) (cs : List (List Int × Int)) : Nat → List (List Int × Int)
  | 0 => cs
  | j + 1 => (mkTo k cs j).set j (mkI32 (kkC k cs j) (cR cs j).length, kkC k cs j + ((cR cs j).length : Int))
def mkCls (k : Int) (cs : List (List Int × Int)) : List (List Int × Int) := mkTo k cs cs.length
theorem mkTo_len (k : Int) (cs : List (List Int × Int)) : ∀ j, (mkTo k cs j).length = cs.length
  | 0 => rfl
  | j + 1 => by simp [mkTo, mkTo_len k cs j]
theorem mkCls_len (k : Int) (cs : List (List Int × Int)) : (mkCls k cs).length = cs.length := mkTo_len k cs _
theorem mkTo_R (k : Int) (cs : List (List Int × Int)) (i : Nat) : ∀ j, j ≤ cs.length → cR (mkTo k cs j) i = if i < j then mkI32 (kkC k cs i) (cR cs i).length else cR cs i
  | 0, _ => by simp [mkTo]
  | j + 1, h => by
    rw [mkTo, cR_set _ _ _ _ (by rw [mkTo_len]; omega), mkTo_R k cs i j (by omega)]
    by_cases e : i = j
    · subst e; simp
    · rw [if_neg e]
      by_cases h2 : i < j
      · rw [if_pos h2, if_pos (by omega)]
      · rw [if_neg h2, if_neg (by omega)]
theorem mkTo_W (k : Int) (cs : List (List Int × Int)) (i : Nat) : ∀ j, j ≤ cs.length → cW (mkTo k cs j) i = if i < j then kkC k cs i + ((cR cs i).length : Int) else cW cs i
  | 0, _ => by simp [mkTo]
  | j + 1, h => by
    rw [mkTo, cW_set _ _ _ _ (by rw [mkTo_len]; omega), mkTo_W k cs i j (by omega)]
    by_cases e : i = j
    · subst e; simp
    · rw [if_neg e]
      by_cases h2 : i < j
      · rw [if_pos h2, if_pos (by omega)]
      · rw [if_neg h2, if_neg (by omega)]
def Small (k : Int) (cs : List (List Int × Int)) : Prop := ∀ j, j ≤ cs.length → 0 ≤ kkC k cs j ∧ kkC k cs j ≤ 4398046511104
set_option maxHeartbeats 1000000 in
theorem markClusterS_any (base : Nat) (v : Value) (rs : List Value) (cs : List (List Int × Int)) (k : Int) (w : World) (hv : OwnCls w base v rs cs) (hn : cs.length ≤ 4398046511104) (hx : ∀ j, j < cs.length → (cR cs j).length ≤ 4398046511104) (hS : Small k cs) :
    Calls Try.prog 12 #[v, .int .i64 k] w fun e w' => e = .returned (.int .i64 (kkC k cs cs.length)) ∧ OwnCls w' base v rs (mkCls k cs) ∧ Fr (Foot v rs cs.length) w w' := by
  have HMK : Hid (mkCls k cs = mkTo k cs cs.length) := rfl
  have HV := hide hv
  have HX := hide hx
  have HSM := hide hS
  obtain ⟨n, hnn⟩ : ∃ n, n = cs.length := ⟨_, rfl⟩
  obtain ⟨_, ⟨ys, hy, _⟩, _, _⟩ := hv
  rcases hy.2 with ⟨rfl, h0⟩ | ⟨g, cap, cur, hval, _⟩
  · have ec : cs = [] := List.eq_nil_of_length_eq_zero h0
    subst ec
    clear hy hx hS hnn
    go_enter Try.func12, Try.ntmps12
    go_wp2
    go_loop [1, 5] (fun a i => a = .int .i64 k ∧ i = .int .i64 0) (fun _ _ => 0)
    case atStart => exact ⟨rfl, rfl⟩
    case round =>
      obtain ⟨rfl, rfl⟩ := hrel
      go_wp2
      go_ret
      exact ⟨rfl, unhide HV, Fr.refl _ _⟩
  · subst hval
    have HN := hide hnn
    rw [← hnn] at hn ⊢
    clear hy hx hS hnn
    go_enter Try.func12, Try.ntmps12
    go_wp2
    go_loopw [1, 5] (fun a i wr => ∃ j : Nat, j ≤ n ∧ a = .int .i64 (kkC k cs j) ∧ i = .int .i64 j ∧ Hid (OwnCls wr base (.slice (some ⟨g, 0, none⟩) cs.length cap) rs (mkTo k cs j)) ∧ Hid (Fr (Foot (.slice (some ⟨g, 0, none⟩) cs.length cap) rs cs.length) w wr)) (fun _ i _ => n - (intOf i).toNat)
    case atStart => exact ⟨0, Nat.zero_le _, rfl, rfl, unhide HV, Fr.refl _ _⟩
    case round =>
      obtain ⟨j, hj, rfl, rfl, HO, HFR⟩ := hrel
      by_cases hlt : j < n
      · have hlc : j < cs.length := by rw [← unhide HN]; exact hlt
        obtain ⟨_, ⟨ys, hy, hyy⟩, h3, _⟩ := (unhide HO)
        rw [mkTo_len] at hy hyy h3
        have hcl : wr.cell? ⟨g, j * 2, none⟩ = some (rV rs j) := by rw [hy.cellAt _ (by omega)]; exact (hyy j hlc).1
        have hrm := h3 j hlc
        rw [mkTo_R k cs j j (by omega), if_neg (by omega)] at hrm
        have hk1 := (unhide HSM) j (by omega)
        have hk2 := (unhide HSM) (j + 1) (by omega)
        have hst : Hid (kkC k cs (j + 1) = kkC k cs j + ((cR cs j).length : Int) + 1) := rfl
        rw [hst.out] at hk2
        have hcon := hide (markInt32S_any base (rV rs j) _ _ (kkC k cs j) wr hrm ((unhide HX) j hlc) hk1.1 hk1.2)
        have bj : (j : Int) < (n : Int) := by omega
        have HY := hide hy
        have HRM := hide hrm
        clear hy hyy h3 hrm
        obtain ⟨K, hK⟩ : ∃ K, K = kkC k cs j := ⟨_, rfl⟩
        have hK2 := hide hK
        rw [← hK] at hcon hst hk1 hk2 ⊢
        clear hK
        obtain ⟨L, hL⟩ : ∃ L, L = (cR cs j).length := ⟨_, rfl⟩
        have hL2 := hide hL
        rw [← hL] at hcon hst hk2
        clear hL
        go_wp2_with fail
        refine (unhide hcon).mono ?_
        rintro e w1 ⟨rfl, hom, hgr⟩
        have hy1 := owns_same (w' := w1) (unhide HY) (fun q hq => hgr.block q ((unhide HY).lt q hq).2 (fun e => owns_apart (unhide HY) (unhide HRM) (by decide) hq e.symm))
        have f0 := hy1.frozenAt (j * 2 + 1)
        obtain ⟨u0, c0⟩ : ∃ u, w1.cell? ⟨g, j * 2 + 1, none⟩ = some u := by
          rw [hy1.cellAt _ (by omega)]; exact ⟨_, List.getElem?_eq_getElem (by have := hy1.1; omega)⟩
        have hO := (unhide HO)
        have e0 := mkTo_len k cs j
        have hO2 : OwnCls (w1.setCell ⟨g, j * 2 + 1, none⟩ (.int .i64 (K + (L : Int)))) base (.slice (some ⟨g, 0, none⟩) cs.length cap) rs (mkTo k cs (j + 1)) := by
          have hO' : OwnCls wr base (.slice (some ⟨g, 0, none⟩) (mkTo k cs j).length cap) rs (mkTo k cs j) := by rw [e0]; exact hO
          have hR : cR (mkTo k cs j) j = cR cs j := by rw [mkTo_R k cs j j (by omega), if_neg (by omega)]
          have := OwnCls.mark (zs := mkI32 K L) (d := K + (L : Int)) hO' (by omega) (by rw [hR, mkI32_len, unhide hL2]) (by rw [hR, ← unhide hL2]; exact hom) hgr
          rw [e0] at this
          rw [mkTo, ← unhide hK2, ← unhide hL2]
          exact this
        have HO2 := hide hO2
        have HF2 := hide (((unhide HFR).grown hgr (fun q hq => .inr ⟨j, hlc, hq⟩)).setCell (a := ⟨g, j * 2 + 1, none⟩) (.inl rfl) (.int .i64 (K + (L : Int))))
        clear hO hO2 hy1 hom hgr
        go_wp2
        go_roundw
        case rel => exact ⟨j + 1, by omega, by rw [hst.out], by go_num, HO2, HF2⟩
        case measure => simp [intOf]; omega
      · obtain rfl : j = n := by omega
        have hfin : OwnCls wr base (.slice (some ⟨g, 0, none⟩) cs.length cap) rs (mkCls k cs) := by
          have h := unhide HO
          rw [unhide HN] at h
          rw [HMK.out]; exact h
        have HFIN := hide hfin
        clear hfin
        go_wp2
        go_ret
        exact ⟨rfl, by simpa [← unhide HN] using unhide HFIN, by simpa [← unhide HN] using unhide HFR⟩
set_option maxHeartbeats 1000000 in
theorem heldClusterS_any (v : Value) (cs : List (List Int × Int)) (k : Int) (w : World) (hv : ClsAt w v (mkCls k cs)) (hn : cs.length ≤ 4398046511104) (hx : ∀ j, j < cs.length → (cR cs j).length ≤ 4398046511104) (hS : Small k cs) :
    Calls Try.prog 32 #[v, .int .i64 k] w fun e w' => e = .returned (.int .i64 (kkC k cs cs.length)) ∧ Ext w w' := by
  obtain ⟨ra, ao, ca, rfl, hca, hra, hxa⟩ := hv
  rw [mkCls_len] at hca hra hxa ⊢
  have hR : ∀ j, j < cs.length → cR (mkCls k cs) j = mkI32 (kkC k cs j) (cR cs j).length := fun j hj => by rw [mkCls, mkTo_R k cs j _ (Nat.le_refl _), if_pos hj]
  have hW : ∀ j, j < cs.length → cW (mkCls k cs) j = kkC k cs j + ((cR cs j).length : Int) := fun j hj => by rw [mkCls, mkTo_W k cs j _ (Nat.le_refl _), if_pos hj]
  have HR := hide hR
  have HW := hide hW
  have HA := hide hra
  have HXA := hide hxa
  have HX := hide hx
  have HSM := hide hS
  obtain ⟨n, hnn⟩ : ∃ n, n = cs.length := ⟨_, rfl⟩
  rw [← hnn] at hca hn HR HW HA HXA HX ⊢
  have HN := hide hnn
  clear hR hW hra hxa hx hS hnn
  by_cases h0 : n = 0
  · subst h0
    have hk0 : Hid (kkC k cs 0 = k) := rfl
    rw [hk0.out]
    go_enter Try.func32, Try.ntmps32
    go_wp2
    go_loop [1, 5] (fun a i => a = .int .i64 k ∧ i = .int .i64 0) (fun _ _ => 0)
    case atStart => exact ⟨rfl, rfl⟩
    case round =>
      obtain ⟨rfl, rfl⟩ := hrel
      go_wp2
      go_ret
      exact ⟨rfl, Ext.refl _⟩
  · obtain ⟨b, off, rfl, hc⟩ := (unhide HXA) (by omega)
    have HC := hide hc
    clear HXA hc
    go_enter Try.func32, Try.ntmps32
    go_wp2
    go_loopw [1, 5] (fun a i wr => ∃ j : Nat, j ≤ n ∧ a = .int .i64 (kkC k cs j) ∧ i = .int .i64 j ∧ Ext w wr) (fun _ i _ => n - (intOf i).toNat)
    case atStart => exact ⟨0, Nat.zero_le _, rfl, rfl, Ext.refl _⟩
    case round =>
      obtain ⟨j, hj, rfl, rfl, hext⟩ := hrel
      by_cases hlt : j < n
      · have hcc := (unhide HC) j hlt
        have g1 := hext.cell hcc.1
        have g2 := hcc.2
        rw [(unhide HW) j hlt] at g2
        have hri := (unhide HA) j hlt
        rw [(unhide HR) j hlt] at hri
        have hk1 := (unhide HSM) j (by rw [← unhide HN]; omega)
        have hk2 := (unhide HSM) (j + 1) (by rw [← unhide HN]; omega)
        have hst : Hid (kkC k cs (j + 1) = kkC k cs j + ((cR cs j).length : Int) + 1) := rfl
        rw [hst.out] at hk2
        have hcon := hide (heldInt32S_any (rV ra j) (cR cs j).length (kkC k cs j) wr (hri.ext hext) ((unhide HX) j hlt) hk1.1 hk1.2)
        have bj : (j : Int) < (n : Int) := by omega
        clear hri hcc
        obtain ⟨K, hK⟩ : ∃ K, K = kkC k cs j := ⟨_, rfl⟩
        rw [← hK] at hcon hst hk1 hk2 g2 ⊢
        clear hK
        obtain ⟨L, hL⟩ : ∃ L, L = (cR cs j).length := ⟨_, rfl⟩
        rw [← hL] at hcon hst hk2 g2
        clear hL
        have hneg : ¬ K + (L : Int) < 0 := by omega
        go_wp2_with fail
        refine (unhide hcon).mono ?_
        rintro e w1 ⟨rfl, he⟩
        have g3 := he.cell (hext.cell g2)
        have E1 := hext.trans he
        go_wp2
        go_roundw
        case rel => exact ⟨j + 1, by omega, by rw [hst.out], by go_num, E1⟩
        case measure => simp [intOf]; omega
      · obtain rfl : j = n := by omega
        go_wp2
        go_ret
        exact ⟨rfl, hext⟩
end Go.Proofs.Ytkimnihdjeonpab
