import Derived.Test.YtkimnihdjeonpabI32s
import Derived.Deep.RegionHeld3
namespace Go.Proofs.Ytkimnihdjeonpab
open Go.RowKit
def rV (rs : List Value) (j : Nat) : Value := rs[j]?.getD (.slice none 0 0)
def cR (cs : List (List Int × Int)) (j : Nat) : List Int := (cs[j]?.getD ([], 0)).1
def cW (cs : List (List Int × Int)) (j : Nat) : Int := (cs[j]?.getD ([], 0)).2
def ClsAt (w : World) (v : Value) (cs : List (List Int × Int)) : Prop :=
  ∃ (rs : List Value) (ao : Option Addr) (cap : Nat), v = .slice ao cs.length cap ∧ cs.length ≤ cap ∧ (∀ j, j < cs.length → IntsAt w .i32 (rV rs j) (cR cs j)) ∧
    (0 < cs.length → ∃ b off, ao = some ⟨b, off, none⟩ ∧ ∀ j, j < cs.length → w.cell? ⟨b, off + j * 2, none⟩ = some (rV rs j) ∧ w.cell? ⟨b, off + j * 2 + 1, none⟩ = some (.int .i64 (cW cs j)))
theorem ClsAt.ext {w w' : World} {v : Value} {cs : List (List Int × Int)} (h : ClsAt w v cs) (he : Ext w w') : ClsAt w' v cs := by
  obtain ⟨rs, ao, cap, e, hc, hr, hx⟩ := h
  exact ⟨rs, ao, cap, e, hc, fun j hj => (hr j hj).ext he, fun hp => by
    obtain ⟨b, off, e2, hcell⟩ := hx hp
    exact ⟨b, off, e2, fun j hj => ⟨he.cell (hcell j hj).1, he.cell (hcell j hj).2⟩⟩⟩
theorem rV_push (rs : List Value) (r : Value) (i : Nat) (h : i < rs.length) : rV (rs ++ [r]) i = rV rs i := by
  unfold rV; rw [List.getElem?_append_left h]
theorem rV_last (rs : List Value) (r : Value) : rV (rs ++ [r]) rs.length = r := by simp [rV]
set_option maxHeartbeats 1000000 in
theorem eqCluster_same (ra rb : Value) (xs : List Int) (d : Int) (w : World) (ha : IntsAt w .i32 ra xs) (hb : IntsAt w .i32 rb xs) (hx : xs.length ≤ 4398046511104) :
    Calls Try.prog 30 #[.agg #[ra, .int .i64 d], .agg #[rb, .int .i64 d]] w fun e w' => e = .returned (.bool true) ∧ Ext w w' := by
  go_enter Try.func30, Try.ntmps30
  go_wp2_with fail
  refine (eqInt32S_same _ _ xs _ (ha.ext (((Ext.refl _).alloc _).alloc _)) (hb.ext (((Ext.refl _).alloc _).alloc _)) hx).mono ?_
  rintro e w1 ⟨rfl, F1⟩
  obtain ⟨hc, hf⟩ := F1.rules
  go_wp2
  go_ret
  exact ⟨rfl, (((Ext.refl _).alloc _).alloc _).trans F1⟩
set_option maxHeartbeats 1000000 in
theorem toCluster_any (r : Value) (xs : List Int) (d : Int) (w : World) (hr : IntsAt w .i32 r xs) (hx : xs.length ≤ 4398046511104) :
    Calls Try.prog 27 #[.agg #[r, .int .i64 d]] w fun e w' => e = .returned (.agg #[.slice (some ⟨w.heap.size + 3, 0, none⟩) xs.length xs.length, .int .i64 d]) ∧
      w'.ownsRow (w.heap.size + 3) 21 1 (.slice (some ⟨w.heap.size + 3, 0, none⟩) xs.length xs.length) xs.length (xs.map (Value.int .i32)) ∧ Ext w w' := by
  go_enter Try.func27, Try.ntmps27
  go_wp2_with fail
  refine (toInt32S_any _ xs _ (hr.ext ((((Ext.refl _).alloc _).alloc _).alloc _)) hx).mono ?_
  rintro e w1 ⟨rfl, o1, F1⟩
  obtain ⟨hc, hf⟩ := F1.rules
  have hz : w.heap.size + 3 < w1.heap.size := by have := (o1.lt _ rfl).2; simpa using this
  have a0 : w1.cell? ⟨w.heap.size + 1, 0, none⟩ = some (.slice none 0 0) := by rw [hc _ _ (by simp)]; simp [go_sem]
  have a1 : w1.cell? ⟨w.heap.size + 1, 1, none⟩ = some (.int .i64 0) := by rw [hc _ _ (by simp)]; simp [go_sem]
  go_wp2
  refine bodyPost_ret (v := .agg #[.slice (some ⟨w.heap.size + 3, 0, none⟩) xs.length xs.length, .int .i64 d]) (by simp [results, Try.results27, go_sem, a0, a1]) rfl ⟨rfl, ?_, ?_⟩
  · repeat (refine owns_setCell ?_ (by simp [Value.ownBlock]) _)
    simpa using o1
  · repeat (refine Ext.setCell ?_ (by dsimp only; omega) _)
    exact ((((Ext.refl _).alloc _).alloc _).alloc _).trans F1
def OwnCls (w : World) (base : Nat) (v : Value) (rs : List Value) (cs : List (List Int × Int)) : Prop :=
  rs.length = cs.length ∧ (∃ ys, w.ownsRow base 57 2 v cs.length ys ∧ ∀ j, j < cs.length → ys[j * 2]? = some (rV rs j) ∧ ys[j * 2 + 1]? = some (.int .i64 (cW cs j))) ∧
  (∀ j, j < cs.length → w.ownsRow base 21 1 (rV rs j) (cR cs j).length ((cR cs j).map (Value.int .i32))) ∧
  (∀ i j g, i < j → j < cs.length → (rV rs i).ownBlock = some g → (rV rs j).ownBlock ≠ some g)
theorem OwnCls.ext {w w' : World} {base : Nat} {v : Value} {rs : List Value} {cs : List (List Int × Int)} (h : OwnCls w base v rs cs) (he : Ext w w') : OwnCls w' base v rs cs := by
  obtain ⟨h0, ⟨ys, h1, h2⟩, h3, h4⟩ := h
  exact ⟨h0, ⟨ys, he.owns h1, h2⟩, fun j hj => he.owns (h3 j hj), h4⟩
theorem OwnCls.cls {w : World} {base : Nat} {v : Value} {rs : List Value} {cs : List (List Int × Int)} (h : OwnCls w base v rs cs) : ClsAt w v cs := by
  obtain ⟨_, ⟨ys, h1, h2⟩, h3, _⟩ := h
  rcases h1.2 with ⟨rfl, h0⟩ | ⟨g, cap, cur, rfl, hb, hg, hn, hm, hs, ht⟩
  · exact ⟨rs, none, 0, by rw [h0], by omega, fun j hj => by omega, fun hp => by omega⟩
  · refine ⟨rs, _, cap, rfl, hn, fun j hj => ints_of_owns (h3 j hj), fun _ => ⟨g, 0, rfl, fun j hj => ?_⟩⟩
    have := h2 j hj
    rw [Nat.zero_add, h1.cellAt _ (by omega), h1.cellAt _ (by omega)]
    exact this
set_option maxHeartbeats 1000000 in
theorem eqClusterS_same (va vb : Value) (cs : List (List Int × Int)) (w : World) (ha : ClsAt w va cs) (hb : ClsAt w vb cs) (hl : cs.length ≤ 4398046511104) (hx : ∀ j, j < cs.length → (cR cs j).length ≤ 4398046511104) :
    Calls Try.prog 11 #[va, vb] w fun e w' => e = .returned (.bool true) ∧ Ext w w' := by
  obtain ⟨ra, ao, ca, rfl, hca, hra, hxa⟩ := ha
  obtain ⟨rb, bo, cb, rfl, hcb, hrb, hxb⟩ := hb
  obtain ⟨n, hn⟩ : ∃ n, n = cs.length := ⟨_, rfl⟩
  rw [← hn] at hca hra hxa hcb hrb hxb hl hx ⊢
  clear hn
  by_cases h0 : n = 0
  · subst h0
    clear hxa hxb hra hrb hx
    go_enter Try.func11, Try.ntmps11
    go_wp2
    go_loop [5] (fun i => i = .int .i64 0) (fun _ => 0)
    case atStart => rfl
    case round =>
      subst hrel
      go_wp2
      go_ret
      exact ⟨rfl, Ext.refl _⟩
  · obtain ⟨b1, o1, rfl, h1⟩ := hxa (by omega)
    obtain ⟨b2, o2, rfl, h2⟩ := hxb (by omega)
    clear hxa hxb
    have H1 := hide h1
    have H2 := hide h2
    have HA := hide hra
    have HB := hide hrb
    have HX := hide hx
    clear h1 h2 hra hrb hx
    go_enter Try.func11, Try.ntmps11
    go_wp2
    go_loopw [5] (fun i w' => ∃ k : Nat, k ≤ n ∧ i = .int .i64 k ∧ Ext w w') (fun i _ => n - (intOf i).toNat)
    case atStart => exact ⟨0, Nat.zero_le _, rfl, Ext.refl _⟩
    case round =>
      obtain ⟨k, hk, rfl, hext⟩ := hrel
      by_cases hlt : k < n
      · have g1 := hext.cell ((unhide H1) k hlt).1
        have g2 := hext.cell ((unhide H1) k hlt).2
        have g3 := hext.cell ((unhide H2) k hlt).1
        have g4 := hext.cell ((unhide H2) k hlt).2
        have bk : (k : Int) < (n : Int) := by omega
        have hc := hide (fun W (hW : Ext wr W) => eqCluster_same (rV ra k) (rV rb k) (cR cs k) (cW cs k) W (((unhide HA) k hlt).ext (hext.trans hW)) (((unhide HB) k hlt).ext (hext.trans hW)) ((unhide HX) k hlt))
        go_wp2
        go_region_held3 (fun W => Ext wr W ∧ W.cell? ⟨b1, o1 + k * 2, none⟩ = some (rV ra k) ∧ W.cell? ⟨b1, o1 + k * 2 + 1, none⟩ = some (.int .i64 (cW cs k)) ∧ W.cell? ⟨b2, o2 + k * 2, none⟩ = some (rV rb k) ∧ W.cell? ⟨b2, o2 + k * 2 + 1, none⟩ = some (.int .i64 (cW cs k))) (first | exact ⟨(Ext.refl wr).drew, g1, g2, g3, g4⟩ | exact ⟨(Ext.refl wr).drew.trans he', he'.cell g1, he'.cell g2, he'.cell g3, he'.cell g4⟩) (first | (go_at_call 30; refine ((unhide hc) _ (Ext.refl wr).drew).mono ?_; rintro e w' ⟨rfl, he'⟩))
        rename_i hS
        have hE := hext.trans hS.1
        clear hS g1 g2 g3 g4
        go_wp2
        go_roundw
        case rel => exact ⟨k + 1, by omega, by go_num, hE⟩
        case measure => simp [intOf]; omega
      · go_wp2
        go_ret
        exact ⟨rfl, hext⟩
theorem infoCl : (Try.prog.info? 57).map (fun i => (i.zero, i.size, i.bytes)) = some (some (.agg #[.slice none 0 0, .int .i64 0]), 2, 32) := by kernel_rfl
def PartCls (w : World) (base : Nat) (v : Value) (n : Nat) (rs : List Value) (cs : List (List Int × Int)) (j : Nat) : Prop :=
  rs.length = j ∧ (∃ ys, w.ownsRow base 57 2 v n ys ∧ ∀ i, i < j → ys[i * 2]? = some (rV rs i) ∧ ys[i * 2 + 1]? = some (.int .i64 (cW cs i))) ∧
  (∀ i, i < j → w.ownsRow (base + 1) 21 1 (rV rs i) (cR cs i).length ((cR cs i).map (Value.int .i32))) ∧
  (∀ i j' g, i < j' → j' < j → (rV rs i).ownBlock = some g → (rV rs j').ownBlock ≠ some g)
theorem PartCls.ext {w w' : World} {base : Nat} {v : Value} {n : Nat} {rs : List Value} {cs : List (List Int × Int)} {j : Nat} (h : PartCls w base v n rs cs j) (he : Ext w w') : PartCls w' base v n rs cs j := by
  obtain ⟨h0, ⟨ys, h1, h2⟩, h3, h4⟩ := h
  exact ⟨h0, ⟨ys, he.owns h1, h2⟩, fun i hi => he.owns (h3 i hi), h4⟩
theorem PartCls.step {w : World} {g n cap : Nat} {rs : List Value} {cs : List (List Int × Int)} {j H : Nat} {r : Value} (h : PartCls w g (.slice (some ⟨g, 0, none⟩) n cap) n rs cs j) (hj : j < n)
    (hr : w.ownsRow H 21 1 r (cR cs j).length ((cR cs j).map (Value.int .i32))) (hH : g < H) (hlt : ∀ i k, i < j → (rV rs i).ownBlock = some k → k < H) :
    PartCls ((w.setCell ⟨g, j * 2, none⟩ r).setCell ⟨g, j * 2 + 1, none⟩ (.int .i64 (cW cs j))) g (.slice (some ⟨g, 0, none⟩) n cap) n (rs ++ [r]) cs (j + 1) := by
  obtain ⟨h0, ⟨ys, h1, h2⟩, h3, h4⟩ := h
  have s1 := (h1.stored (j * 2) r).1
  have s2 := (s1.stored (j * 2 + 1) (.int .i64 (cW cs j))).1
  have hyl := h1.1
  have keep : ∀ (v : Value) (m : Nat) (zs : List Value), v.ownBlock ≠ some g → w.ownsRow (g + 1) 21 1 v m zs → ((w.setCell ⟨g, j * 2, none⟩ r).setCell ⟨g, j * 2 + 1, none⟩ (.int .i64 (cW cs j))).ownsRow (g + 1) 21 1 v m zs :=
    fun v m zs hv ho => owns_setCell (owns_setCell ho hv _) hv _
  refine ⟨by simp [h0], ⟨_, s2, fun i hi => ?_⟩, fun i hi => ?_, fun i j' k hij hj' hk => ?_⟩
  · by_cases e : i = j
    · subst e
      rw [← h0, rV_last, h0]
      constructor
      · rw [List.getElem?_set_ne (by omega), List.getElem?_set_self (by omega)]
      · rw [List.getElem?_set_self (by simp; omega)]
    · rw [rV_push rs r i (by omega), List.getElem?_set_ne (by omega), List.getElem?_set_ne (by omega), List.getElem?_set_ne (by omega), List.getElem?_set_ne (by omega)]
      exact h2 i (by omega)
  · by_cases e : i = j
    · subst e
      rw [← h0, rV_last, h0]
      exact keep _ _ _ (fun hb => by have := (hr.lt g hb).1; omega) (owns_mono hr (by omega))
    · rw [rV_push rs r i (by omega)]
      have := h3 i (by omega)
      exact keep _ _ _ (fun hb => by have := (this.lt g hb).1; omega) this
  · rw [rV_push rs r i (by omega)] at hk
    by_cases e : j' = j
    · subst e
      rw [← h0, rV_last]
      intro hb
      have a := (hr.lt k hb).1
      have b := hlt i k hij hk
      omega
    · rw [rV_push rs r j' (by omega)]
      exact h4 i j' k hij (by omega) hk
theorem PartCls.done {w : World} {base : Nat} {v : Value} {rs : List Value} {cs : List (List Int × Int)} (h : PartCls w base v cs.length rs cs cs.length) : OwnCls w base v rs cs := by
  obtain ⟨h0, h1, h3, h4⟩ := h
  exact ⟨h0, h1, fun j hj => owns_mono (h3 j hj) (by omega), h4⟩
set_option maxHeartbeats 1000000 in
theorem toClusterS_any (v : Value) (cs : List (List Int × Int)) (w : World) (hv : ClsAt w v cs) (hl : cs.length ≤ 4398046511104) (hx : ∀ j, j < cs.length → (cR cs j).length ≤ 4398046511104) :
    Calls Try.prog 8 #[v] w fun e w' => e = .returned (.slice (some ⟨w.heap.size, 0, none⟩) cs.length cs.length) ∧ (∃ rs, OwnCls w' w.heap.size (.slice (some ⟨w.heap.size, 0, none⟩) cs.length cs.length) rs cs) ∧ Ext w w' := by
  obtain ⟨ra, ao, ca, rfl, hca, hra, hxa⟩ := hv
  obtain ⟨i0, hi, hz0, hz1, hz2⟩ := info_parts infoCl
  obtain ⟨n, hn⟩ : ∃ n, n = cs.length := ⟨_, rfl⟩
  have HN := hide hn
  have HX := hide hx
  have HA := hide hra
  have HXA := hide hxa
  rw [← hn] at hca hl HX HA HXA ⊢
  clear hn hx hra hxa
  have fin : ∀ (W : World) (rs : List Value), PartCls W w.heap.size (.slice (some ⟨w.heap.size, 0, none⟩) n n) n rs cs n → OwnCls W w.heap.size (.slice (some ⟨w.heap.size, 0, none⟩) n n) rs cs := by
    intro W rs h
    have e := unhide HN
    rw [e] at h ⊢
    exact h.done
  have HFIN := hide fin
  clear fin
  by_cases h0 : n = 0
  · subst h0
    go_enter Try.func8, Try.ntmps8
    go_wp2_with (at_make; refine wpList_make_full _ rfl _ _ 26 rfl w.heap.size 57 i0 (.agg #[.slice none 0 0, .int .i64 0]) 2 Try.underlying26 hi hz0 hz1 _ _ _ _ 0 rfl rfl (by simp) (by simp) (by simp) (by simp) (Nat.le_refl _) ?_; intro w1 hown hgr)
    go_loop [4] (fun i => i = .int .i64 0) (fun _ => 0)
    case atStart => rfl
    case round =>
      subst hrel
      go_wp2
      go_ret
      exact ⟨rfl, ⟨[], (unhide HFIN) _ [] ⟨rfl, ⟨_, hown, fun i hi => by omega⟩, fun i hi => by omega, fun i j g _ hj => by omega⟩⟩, hgr⟩
  · obtain ⟨b, off, rfl, hc⟩ := (unhide HXA) (by omega)
    have HC := hide hc
    clear HXA hc
    go_enter Try.func8, Try.ntmps8
    go_wp2_with (at_make; refine wpList_make_full _ rfl _ _ 26 rfl w.heap.size 57 i0 (.agg #[.slice none 0 0, .int .i64 0]) 2 Try.underlying26 hi hz0 hz1 _ _ _ _ n rfl rfl rfl rfl (by rw [hz2]; omega) (by unfold maxLen; omega) (Nat.le_refl _) ?_; intro w1 hown hgr)
    go_loopw [4] (fun i wr => ∃ (j : Nat) (rs : List Value), j ≤ n ∧ i = .int .i64 j ∧ Hid (PartCls wr w.heap.size (.slice (some ⟨w.heap.size, 0, none⟩) n n) n rs cs j) ∧ Ext w wr) (fun i _ => n - (intOf i).toNat)
    case atStart => exact ⟨0, [], Nat.zero_le _, rfl, ⟨rfl, ⟨_, hown, fun i hi => by omega⟩, fun i hi => by omega, fun i j g _ hj => by omega⟩, hgr⟩
    case round =>
      clear hown hgr
      obtain ⟨j, rs, hj, rfl, HP, hext⟩ := hrel
      by_cases hlt : j < n
      · have g1 := hext.cell ((unhide HC) j hlt).1
        have g2 := hext.cell ((unhide HC) j hlt).2
        have bj : (j : Int) < (n : Int) := by omega
        have hcon := hide (toCluster_any (rV ra j) (cR cs j) (cW cs j) wr (((unhide HA) j hlt).ext hext) ((unhide HX) j hlt))
        go_wp2_with fail
        refine (unhide hcon).mono ?_
        rintro e w2 ⟨rfl, hr, he⟩
        obtain ⟨_, ⟨ys, hy1, _⟩, hy3, _⟩ := (unhide HP).ext he
        have hyl := hy1.1
        have hy3' := hide hy3
        have f0 := hy1.frozenAt (j * 2)
        have f1 := hy1.frozenAt (j * 2 + 1)
        obtain ⟨u0, c0⟩ : ∃ u, w2.cell? ⟨w.heap.size, j * 2, none⟩ = some u := by
          rw [hy1.cellAt _ (by omega)]; exact ⟨_, List.getElem?_eq_getElem (by omega)⟩
        obtain ⟨u1, c1⟩ : ∃ u, w2.cell? ⟨w.heap.size, j * 2 + 1, none⟩ = some u := by
          rw [hy1.cellAt _ (by omega)]; exact ⟨_, List.getElem?_eq_getElem (by omega)⟩
        have hst := hide (((unhide HP).ext he).step hlt hr (by have := hext.size; omega) (fun i k hi hk => by
          have := (((unhide HP).2.2.1 i hi).lt k hk).2
          omega))
        have hE := (hext.trans he)
        clear hy3 hy1 hyl hr
        go_wp2
        go_roundw
        case rel => exact ⟨j + 1, _, by omega, by go_num, unhide hst, (hE.setCell (Nat.le_refl _) _).setCell (Nat.le_refl _) _⟩
        case measure => simp [intOf]; omega
      · obtain rfl : j = n := by omega
        have hO := hide ((unhide HFIN) _ _ (unhide HP))
        go_wp2
        go_ret
        exact ⟨rfl, ⟨rs, unhide hO⟩, hext⟩
end Go.Proofs.Ytkimnihdjeonpab
