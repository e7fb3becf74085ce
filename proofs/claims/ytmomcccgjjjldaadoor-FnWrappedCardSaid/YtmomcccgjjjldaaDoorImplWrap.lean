import Derived.Test.YtmomcccgjjjldaaDoorSpecWrap
namespace Go.Proofs.YtmomcccgjjjldaaDoor
open Go.RowKit
def wk (cs : List (List Int × Int)) (cols : Int) (k i : Nat) : List (List Int × Int) := (cs.take (at0 ((stF cs cols k).1 ++ [(k : Int)]) (i + 1)).toNat).drop (at0 ((stF cs cols k).1 ++ [(k : Int)]) i).toNat
theorem wk_last (cs : List (List Int × Int)) (cols : Int) (k m : Nat) (hm : (stF cs cols k).1.length = m + 1) : wk cs cols k m = (cs.take k).drop (at0 (stF cs cols k).1 m).toNat := by
  unfold wk
  rw [at0_app (i := m + 1), if_pos (by omega), at0_app (i := m), if_neg (by omega)]
  simp
theorem wk_same (cs : List (List Int × Int)) (cols : Int) (k m : Nat) (hm : (stF cs cols k).1.length = m + 1) (hs : (stF cs cols (k + 1)).1 = (stF cs cols k).1) (hk : k < cs.length) :
    (∀ i, i < m → wk cs cols (k + 1) i = wk cs cols k i) ∧ wk cs cols (k + 1) m = wk cs cols k m ++ [(cR cs k, cW cs k)] := by
  constructor
  · intro i hi
    unfold wk
    rw [hs, at0_app, at0_app, at0_app, at0_app, if_neg (by omega), if_neg (by omega), if_neg (by omega), if_neg (by omega)]
  · have hle := (stF_ok cs cols k).le m (by omega)
    rw [wk_last cs cols k m hm, wk_last cs cols (k + 1) m (by rw [hs]; exact hm), hs, cls_take_succ cs k hk, List.drop_append_of_le_length (by simp; omega)]
theorem wk_new (cs : List (List Int × Int)) (cols : Int) (k m : Nat) (hm : (stF cs cols k).1.length = m + 1) (hs : (stF cs cols (k + 1)).1 = (stF cs cols k).1 ++ [(k : Int)]) (hk : k < cs.length) :
    (∀ i, i < m + 1 → wk cs cols (k + 1) i = wk cs cols k i) ∧ wk cs cols (k + 1) (m + 1) = [(cR cs k, cW cs k)] := by
  constructor
  · intro i hi
    unfold wk
    rw [hs, at0_app (i := i + 1), at0_app (xs := (stF cs cols k).1 ++ [(k : Int)]) (i := i), if_neg (by simp; omega), if_neg (by simp; omega)]
  · rw [wk_last cs cols (k + 1) (m + 1) (by rw [hs]; simp; omega), hs, at0_app, if_pos (by omega), cls_take_succ cs k hk, List.drop_append_of_le_length (by simp; omega)]
    simp
def Wk (w : World) (base : Nat) (v5 v6 : Value) (rv : Nat → Value) (rs : Nat → List Value) (rr : List Value) (cs : List (List Int × Int)) (cols : Int) (k m : Nat) : Prop :=
  OwnCss w base v5 rv rs m (wk cs cols k) ∧ OwnCls w base v6 rr (wk cs cols k m) ∧ ∀ i g, i < m → Foot (rv i) (rs i) (wk cs cols k i).length g → ¬ Foot v6 rr (wk cs cols k m).length g
theorem Wk.ext {w w' : World} {base : Nat} {v5 v6 : Value} {rv : Nat → Value} {rs : Nat → List Value} {rr : List Value} {cs : List (List Int × Int)} {cols : Int} {k m : Nat} (h : Wk w base v5 v6 rv rs rr cs cols k m) (he : Ext w w') : Wk w' base v5 v6 rv rs rr cs cols k m :=
  ⟨h.1.ext he, h.2.1.ext he, h.2.2⟩
theorem Wk.fresh {w : World} {base : Nat} {v5 v6 : Value} {rv : Nat → Value} {rs : Nat → List Value} {rr : List Value} {cs : List (List Int × Int)} {cols : Int} {k m : Nat} (h : Wk w base v5 v6 rv rs rr cs cols k m) {i g : Nat} (hi : i < m) (hg : Foot (rv i) (rs i) (wk cs cols k i).length g) : g < w.heap.size := ((h.1.2.1 i hi).foot hg).2
theorem OwnCss.congrN {w : World} {base : Nat} {v : Value} {rv : Nat → Value} {rs : Nat → List Value} {R : Nat} {cs cs' : Nat → List (List Int × Int)} (h : OwnCss w base v rv rs R cs) (e : ∀ i, i < R → cs' i = cs i) : OwnCss w base v rv rs R cs' := h.congr (fun i hi => (e i hi).symm)
theorem Wk.more {w w5 w6 : World} {base : Nat} {v5 v6 r : Value} {rv : Nat → Value} {rs : Nat → List Value} {rr ys : List Value} {cs : List (List Int × Int)} {cols : Int} {k m g6 cap6 H : Nat} (h : Wk w base v5 v6 rv rs rr cs cols k m) (hb : base ≤ w.heap.size)
    (hm : (stF cs cols k).1.length = m + 1) (hs : (stF cs cols (k + 1)).1 = (stF cs cols k).1) (hk : k < cs.length)
    (E5 : Ext w w5) (hr : w5.ownsRow w.heap.size 21 1 r (cR cs k).length ((cR cs k).map (Value.int .i32)))
    (hy : w.ownsRow base 32 2 v6 (wk cs cols k m).length ys) (hyy : ∀ j, j < (wk cs cols k m).length → ys[j * 2]? = some (rV rr j) ∧ ys[j * 2 + 1]? = some (.int .i64 (cW (wk cs cols k m) j)))
    (o6 : w6.ownsRow base 32 2 (.slice (some ⟨g6, 0, none⟩) ((wk cs cols k m).length + 1) cap6) ((wk cs cols k m).length + 1) (ys ++ [r, .int .i64 (cW cs k)])) (G6 : w5.grownBy w6 v6.ownBlock) (hat : v6.ownBlock = some g6 ∨ g6 = H) (hH : w5.heap.size ≤ H) :
    Wk w6 base v5 (.slice (some ⟨g6, 0, none⟩) ((wk cs cols k m).length + 1) cap6) rv rs (rr ++ [r]) cs cols (k + 1) m := by
  obtain ⟨ws, wl⟩ := wk_same cs cols k m hm hs hk
  have fr : Fr (fun q => v6.ownBlock = some q) w5 w6 := (Fr.refl _ _).grown G6 (fun q hq => hq)
  have h5 := h.ext E5
  have hl6 : (wk cs cols (k + 1) m).length = (wk cs cols k m).length + 1 := by rw [wl]; simp
  refine ⟨(h5.1.fr fr (fun g hg e => ?_)).congrN ws, ?_, fun i g hi hg h2 => ?_⟩
  · rcases hg with hg | ⟨i, hi, hg⟩
    · obtain ⟨zs, h6, _⟩ := h5.1.1
      exact cls_apart h6 h5.2.1 (g := g) (.inl e) hg
    · exact h.2.2 i g hi hg (.inl e)
  · rw [wl]
    exact OwnCls.push h5.2.1 (E5.owns hy) hyy (owns_mono hr hb) (fun j q hj hq e => by
      have h6 := (h.2.1.foot (.inr ⟨j, hj, hq⟩)).2
      have h7 := (hr.lt q e).1
      omega) (by simpa using o6) G6
  · rw [ws i hi] at hg
    rw [hl6] at h2
    have hlt := h.fresh hi hg
    have := E5.size
    rcases h2 with h2 | ⟨j, hj, h2⟩
    · simp [Value.ownBlock] at h2
      subst h2
      rcases hat with e | e
      · exact h.2.2 i _ hi hg (.inl e)
      · omega
    · have hrl : rr.length = (wk cs cols k m).length := h.2.1.1
      by_cases e : j = rr.length
      · subst e
        rw [rV_last] at h2
        have := (hr.lt g h2).1
        omega
      · rw [rV_push _ _ _ (by omega)] at h2
        exact h.2.2 i g hi hg (.inr ⟨j, by omega, h2⟩)
theorem Wk.turn {w w2 w5 w6 : World} {base : Nat} {v5 v6 v5' r : Value} {rv : Nat → Value} {rs : Nat → List Value} {rr ys : List Value} {cs : List (List Int × Int)} {cols : Int} {k m g6 cap6 : Nat} (h : Wk w base v5 v6 rv rs rr cs cols k m)
    (hm : (stF cs cols k).1.length = m + 1) (hs : (stF cs cols (k + 1)).1 = (stF cs cols k).1 ++ [(k : Int)]) (hk : k < cs.length)
    (hy : w.ownsRow base 27 1 v5 m ys) (hyy : ∀ j, j < m → ys[j]? = some (rv j)) (o2 : w2.ownsRow base 27 1 v5' (m + 1) (ys ++ [v6])) (G2 : w.grownBy w2 v5.ownBlock) (hb : base ≤ w2.heap.size)
    (E5 : Ext w2 w5) (hr : w5.ownsRow w2.heap.size 21 1 r (cR cs k).length ((cR cs k).map (Value.int .i32)))
    (o6 : w6.ownsRow base 32 2 (.slice (some ⟨g6, 0, none⟩) 1 cap6) 1 [r, .int .i64 (cW cs k)]) (G6 : w5.grownBy w6 none) (hg6 : w5.heap.size ≤ g6) :
    ∃ rv' rs', Wk w6 base v5' (.slice (some ⟨g6, 0, none⟩) 1 cap6) rv' rs' [r] cs cols (k + 1) (m + 1) := by
  obtain ⟨ws, wl⟩ := wk_new cs cols k m hm hs hk
  have h2 := (OwnCss.push h.1 hy hyy h.2.1 h.2.2 o2 G2).congrN (cs' := wk cs cols (k + 1)) (fun i hi => by
    rw [ws i hi]
    by_cases e : i = m
    · rw [if_pos e, e]
    · rw [if_neg e])
  refine ⟨_, _, h2.ext (E5.trans G6), ?_, fun i g hi hg h3 => ?_⟩
  · rw [wl]
    have := OwnCls.push (W := w5) (W' := w6) (base := base) (v := .slice none 0 0) (v' := .slice (some ⟨g6, 0, none⟩) 1 cap6) (r := r) (rs := []) (cs := []) (xs := cR cs k) (d := cW cs k) (ys := []) (cls_none ⟨by simp, .inl ⟨rfl, rfl⟩⟩) ⟨by simp, .inl ⟨rfl, rfl⟩⟩ (fun j hj => by simp at hj) (owns_mono hr hb) (fun j g hj => by simp at hj) (by simpa using o6) G6
    simpa using this
  · have hlt := ((h2.2.1 i hi).foot hg).2
    have := E5.size
    rw [wl] at h3
    rcases h3 with h3 | ⟨j, hj, h3⟩
    · simp [Value.ownBlock] at h3
      omega
    · simp at hj
      subst hj
      have := (hr.lt g (by simpa [rV] using h3)).1
      omega
set_option maxRecDepth 10000 in
set_option maxHeartbeats 4000000 in
theorem implWrap_any (v : Value) (cs : List (List Int × Int)) (cols : Int) (w : World) (hv : ClsAt w v cs) (hl : cs.length ≤ 4194304) (hx : ∀ j, j < cs.length → (cR cs j).length ≤ 4194304) :
    Calls Tryd.prog 9 #[v, .int .i64 cols] w fun e w' => ∃ v' rv rs, e = .returned v' ∧ OwnCss w' w.heap.size v' rv rs (wrR cs cols) (wrC cs cols) ∧ Ext w w' := by
  obtain ⟨ir, hir, hr0, hr1, hr2⟩ := info_parts infoRw
  obtain ⟨ic, hic, hc0, hc1, hc2⟩ := info_parts infoClw
  obtain ⟨ra, ao, ca, rfl, hca, hra, hxa⟩ := hv
  have HX := hide hx
  have HR := hide hra
  have HXA := hide hxa
  clear hx hra hxa
  by_cases hc : cols < 2
  · have hR : Hid (wrR cs cols = 0) := by show _ = _; rw [wrR, if_pos hc]
    go_enter Tryd.func9, Tryd.ntmps9
    go_wp2
    go_ret
    exact ⟨_, fun _ => .slice none 0 0, fun _ => [], rfl, by rw [hR.out]; exact css_nil ⟨by simp, .inl ⟨rfl, rfl⟩⟩, Ext.refl _⟩
  · have hR : Hid (wrR cs cols = (stF cs cols cs.length).1.length) := by show _ = _; rw [wrR, if_neg hc]
    have HEND : Hid (wk cs cols cs.length = wrC cs cols) := rfl
    have HOK := hide (fun k => stF_ok cs cols k)
    have hst0 : Hid ((stF cs cols 0).1 = [0]) := rfl
    have hw0 : Hid (wk cs cols 0 0 = []) := by show _ = _; rw [wk_last cs cols 0 0 rfl]; simp
    obtain ⟨n, hn⟩ : ∃ n, n = cs.length := ⟨_, rfl⟩
    rw [← hn] at hca hl HX HR HXA hR HEND ⊢
    have HN := hide hn
    clear hn
    go_enter Tryd.func9, Tryd.ntmps9
    go_wp2
    go_loopw [5, 6, 7, 15] (fun o5 o6 u i wr => ∃ (k m : Nat) (rv : Nat → Value) (rs : Nat → List Value) (rr : List Value), k ≤ n ∧ i = .int .i64 k ∧ u = .int .i64 (stF cs cols k).2 ∧ Hid ((stF cs cols k).1.length = m + 1) ∧ Hid (Wk wr w.heap.size o5 o6 rv rs rr cs cols k m) ∧ Ext w wr) (fun _ _ _ i _ => n - (intOf i).toNat)
    case atStart => exact ⟨0, 0, fun _ => .slice none 0 0, fun _ => [], [], Nat.zero_le _, rfl, rfl, hide (by rw [hst0.out]; rfl), hide ⟨css_nil ⟨by simp, .inl ⟨rfl, rfl⟩⟩, by rw [hw0.out]; exact cls_none ⟨by simp, .inl ⟨rfl, rfl⟩⟩, fun i g hi => by omega⟩, Ext.refl _⟩
    case round =>
      obtain ⟨k, m, rv, rs, rr, hk, rfl, rfl, HM, HW, hext⟩ := hrel
      obtain ⟨_, r6, c6, h6, _⟩ := (unhide HW).2.1.cls
      subst h6
      have hok := (unhide HOK) k
      have h3 := hok.u0
      have h4 := hok.u1
      have hmk := hok.len
      rw [unhide HM] at hmk
      have z1 := hext.size
      by_cases hlt : k < n
      · have bk : (k : Int) < (n : Int) := by omega
        have hkc : k < cs.length := by rw [← unhide HN]; exact hlt
        obtain ⟨b, off, rfl, hc⟩ := (unhide HXA) (by omega)
        have g1 := hext.cell (hc k hlt).1
        have g2 := hext.cell (hc k hlt).2
        have HRK := hide (((unhide HR) k hlt).ext hext)
        have HRW := hide ((unhide HR) k hlt)
        have hxk := (unhide HX) k hlt
        clear hc
        obtain ⟨rk, hrk⟩ : ∃ r, r = rV ra k := ⟨_, rfl⟩
        rw [← hrk] at g1 HRK HRW
        clear hrk
        obtain ⟨xa, xc, hrk2, _, _⟩ := unhide HRK
        subst hrk2
        obtain ⟨u, hu⟩ : ∃ u, u = (stF cs cols k).2 := ⟨_, rfl⟩
        have hwd := cWd_bd (cW cs k)
        have hlw : (wk cs cols k m).length = k - (at0 (stF cs cols k).1 m).toNat := by rw [wk_last cs cols k m (unhide HM)]; simp; omega
        have hLb := hok.le m (by rw [unhide HM]; omega)
        have hst : Hid (stF cs cols (k + 1) = if at0 (stF cs cols k).1 m < (k : Int) ∧ cols < u + cWd (cW cs k) then ((stF cs cols k).1 ++ [(k : Int)], cWd (cW cs k)) else ((stF cs cols k).1, u + cWd (cW cs k))) := by
          show _ = _
          rw [hu, stF, unhide HM]
          rfl
        rw [← hu] at h3 h4 ⊢
        clear hu hok
        obtain ⟨L, hL⟩ : ∃ L, L = (wk cs cols k m).length := ⟨_, rfl⟩
        have hLk : 0 < L ↔ at0 (stF cs cols k).1 m < (k : Int) := by omega
        have HL := hide hL
        rw [← hL] at HW ⊢
        clear hlw hLb hL
        have hw2 : IntKind.i64.wrap (u + cWd (cW cs k)) = u + cWd (cW cs k) := by rw [IntKind.wrap_i64]; omega
        go_wp2_with fail
        refine (countedWidth_any _ _ _).mono ?_
        rintro e w1 ⟨rfl, F1⟩
        have bx0 : w1.cell? ⟨wr.heap.size, 0, none⟩ = some (.slice xa (cR cs k).length xc) := F1.cell (by simp [go_sem])
        have bx1 : w1.cell? ⟨wr.heap.size, 1, none⟩ = some (.int .i64 (cW cs k)) := F1.cell (by simp [go_sem])
        have E1 : Ext wr w1 := ((Ext.refl wr).alloc _).trans F1
        have HW1 := hide ((unhide HW).ext E1)
        have X1 := hext.trans E1
        have hwz : wr.heap.size < w1.heap.size := lt_of_cell bx0
        clear F1 g1 g2
        have hcon := hide (fun W (hW : Ext w W) => copyCluster_any (.slice xa (cR cs k).length xc) (cR cs k) (cW cs k) W ((unhide HRW).ext hW) (by omega))
        obtain ⟨_, ⟨ys6, hy6, hyy6⟩, _, _⟩ := (unhide HW1).2.1
        obtain ⟨ys5, hy5, hyy5⟩ := (unhide HW1).1.1
        have HY5 := hide hy5
        have HYY5 := hide hyy5
        have HY6 := hide hy6
        have HYY6 := hide hyy6
        have hu5 : u5.ownBlock ≠ some wr.heap.size := fun e => by have := ((unhide HW).1.1.lt _ e).2; omega
        have HU5 := hide hu5
        have hLb2 : L ≤ k := by have := (unhide HW).2.1.1; have h := unhide HL; rw [wk_last cs cols k m (unhide HM)] at h; simp at h; omega
        clear hy5 hyy5 hy6 hyy6 hu5
        by_cases hA : 0 < L ∧ cols < u + cWd (cW cs k)
        · have hs1 : Hid (stF cs cols (k + 1) = ((stF cs cols k).1 ++ [(k : Int)], cWd (cW cs k))) := by show _ = _; rw [hst.out, if_pos ⟨hLk.1 hA.1, hA.2⟩]
          have hL1 : (0 : Int) < (L : Int) := by omega
          have hov := hA.2
          have EA : Ext w1 (w1.alloc (.cells #[.slice r6 L c6] 27)) := (Ext.refl _).alloc _
          have HYA := hide (EA.owns (unhide HY5))
          go_wp2_with (at_builtin; go_must (refine wpList_append_lies _ rfl _ _ 29 rfl w.heap.size 27 ir _ 1 24 Tryd.underlying29 hir hr0 hr1 hr2 rfl (by decide) u5 m ys5 rfl (unhide HYA) ⟨w1.heap.size, 0, none⟩ 1 1 [.slice r6 L c6] rfl rfl (news_cells (w := w1) [.slice r6 L c6] 27) (by simp [Value.oneCell']) (by omega) (by unfold maxLen; omega) (by omega) (by simp; omega) (w1.heap.size + 1) (by simp) ?_))
          intro g2 cap2 w2 o2 G2 at2 lt2
          have X2 : Ext w w2 := (X1.trans EA).grown G2 (fun q hq => ((unhide HY5).lt q hq).1)
          have q0 : w2.cell? ⟨wr.heap.size, 0, none⟩ = some (.slice xa (cR cs k).length xc) := by rw [G2.cell_far _ (by simp; omega) (fun e => (unhide HU5) e.symm)]; exact EA.cell bx0
          have q1 : w2.cell? ⟨wr.heap.size, 1, none⟩ = some (.int .i64 (cW cs k)) := by rw [G2.cell_far _ (by simp; omega) (fun e => (unhide HU5) e.symm)]; exact EA.cell bx1
          have O2 := hide o2
          have GG2 := hide G2
          have z2 := X2.size
          clear o2 G2 at2 bx0 bx1
          go_wp2_with fail
          refine ((unhide hcon) _ X2).mono ?_
          rintro e w3 ⟨r', rfl, o3, F3⟩
          obtain ⟨r3, c3, hr3, _, _⟩ := ints_of_owns o3
          subst hr3
          have O3 := hide o3
          have z3 := F3.size
          clear o3 q0 q1
          have EB : Ext w3 (w3.alloc (.cells #[.slice r3 (cR cs k).length c3, .int .i64 (cW cs k)] 32)) := (Ext.refl _).alloc _
          go_wp2_with (at_builtin; go_must (refine wpList_append_lies _ rfl _ _ 27 rfl w.heap.size 32 ic _ 2 32 Tryd.underlying27 hic hc0 hc1 hc2 rfl (by decide) (.slice none 0 0) 0 [] rfl ⟨by simp, .inl ⟨rfl, rfl⟩⟩ ⟨w3.heap.size, 0, none⟩ 1 1 [.slice r3 (cR cs k).length c3, .int .i64 (cW cs k)] rfl rfl (news_cells (w := w3) [.slice r3 (cR cs k).length c3, .int .i64 (cW cs k)] 32) (pair_one rfl rfl) (by omega) (by unfold maxLen; omega) (by omega) (by simp; omega) (w3.heap.size + 1) (by simp) ?_))
          intro g6 cap6 w6 o6 G6 at6 lt6
          have hg6 : g6 = w3.heap.size + 1 := at6.elim (fun e => by simp [Value.ownBlock] at e) id
          have E6 : Ext w w6 := ((X2.trans F3).trans EB).trans G6
          have HM' : Hid ((stF cs cols (k + 1)).1.length = m + 1 + 1) := by refine hide ?_; rw [hs1.out, List.length_append, unhide HM]; rfl
          have HW6 : Hid (∃ rv' rs', Wk w6 w.heap.size (.slice (some ⟨g2, 0, none⟩) (m + 1) cap2) (.slice (some ⟨g6, 0, none⟩) 1 cap6) rv' rs' [.slice r3 (cR cs k).length c3] cs cols (k + 1) (m + 1)) := by
            refine hide (Wk.turn (w := w1.alloc (.cells #[.slice r6 L c6] 27)) (w2 := w2) (w5 := w3.alloc (.cells #[.slice r3 (cR cs k).length c3, .int .i64 (cW cs k)] 32)) ((unhide HW1).ext EA) (unhide HM) (by rw [hs1.out]) hkc (unhide HYA) (unhide HYY5) (unhide O2) (unhide GG2) (by omega) (F3.trans EB) (EB.owns (unhide O3)) ?_ G6 (by simp; omega))
            simpa using o6
          obtain ⟨rv', rs', HWW⟩ := unhide HW6
          have HWF := hide HWW
          clear o6 G6 at6 HW6 HWW O2 GG2 O3
          go_wp2
          go_roundw
          case rel => exact ⟨k + 1, m + 1, rv', rs', _, by omega, by go_num, by rw [hs1.out], HM', HWF, E6⟩
          case measure => simp [intOf]; omega
        · have hs1 : Hid (stF cs cols (k + 1) = ((stF cs cols k).1, u + cWd (cW cs k))) := by show _ = _; rw [hst.out, if_neg (fun h => hA ⟨hLk.2 h.1, h.2⟩)]
          have hpick : ((decide (0 < (L : Int))) && decide (cols < u + cWd (cW cs k))) = false := by
            cases h : (decide (0 < (L : Int)) && decide (cols < u + cWd (cW cs k)))
            · rfl
            · simp at h; exact absurd ⟨by omega, h.2⟩ hA
          have hpick2 : (0 : Int) < (L : Int) → ¬ cols < u + cWd (cW cs k) := fun h1 h2 => hA ⟨by omega, h2⟩
          by_cases hL0 : 0 < L
          · have hL1 : (0 : Int) < (L : Int) := by omega
            have hov := hpick2 hL1
            go_wp2_with fail
            refine ((unhide hcon) _ X1).mono ?_
            rintro e w3 ⟨r', rfl, o3, F3⟩
            obtain ⟨r3, c3, hr3, _, _⟩ := ints_of_owns o3
            subst hr3
            have O3 := hide o3
            have z3 := F3.size
            clear o3 bx0 bx1
            have EB : Ext w3 (w3.alloc (.cells #[.slice r3 (cR cs k).length c3, .int .i64 (cW cs k)] 32)) := (Ext.refl _).alloc _
            have HYB : Hid ((w3.alloc (.cells #[.slice r3 (cR cs k).length c3, .int .i64 (cW cs k)] 32)).ownsRow w.heap.size 32 2 (.slice r6 L c6) L ys6) := by
              have := (F3.trans EB).owns (unhide HY6)
              rw [← unhide HL] at this
              exact hide this
            go_wp2_with (at_builtin; go_must (refine wpList_append_lies _ rfl _ _ 27 rfl w.heap.size 32 ic _ 2 32 Tryd.underlying27 hic hc0 hc1 hc2 rfl (by decide) (.slice r6 L c6) L ys6 rfl (unhide HYB) ⟨w3.heap.size, 0, none⟩ 1 1 [.slice r3 (cR cs k).length c3, .int .i64 (cW cs k)] rfl rfl (news_cells (w := w3) [.slice r3 (cR cs k).length c3, .int .i64 (cW cs k)] 32) (pair_one rfl rfl) (by omega) (by unfold maxLen; omega) (by omega) (by simp; omega) (w3.heap.size + 1) (by simp) ?_))
            intro g6 cap6 w6 o6 G6 at6 lt6
            have E6 : Ext w w6 := ((X1.trans F3).trans EB).grown G6 (fun q hq => ((unhide HYB).lt q hq).1)
            have HM' : Hid ((stF cs cols (k + 1)).1.length = m + 1) := by refine hide ?_; rw [hs1.out]; exact unhide HM
            have HW6 : Hid (Wk w6 w.heap.size u5 (.slice (some ⟨g6, 0, none⟩) (L + 1) cap6) rv rs (rr ++ [.slice r3 (cR cs k).length c3]) cs cols (k + 1) m) := by
              have := Wk.more (w := w1) (w5 := w3.alloc (.cells #[.slice r3 (cR cs k).length c3, .int .i64 (cW cs k)] 32)) (w6 := w6) (g6 := g6) (cap6 := cap6) (H := w3.heap.size + 1) (r := .slice r3 (cR cs k).length c3) (unhide HW1) (by omega) (unhide HM) (by rw [hs1.out]) hkc (F3.trans EB) (EB.owns (unhide O3)) (unhide HY6) (unhide HYY6) (by rw [← unhide HL]; exact o6) G6 at6 (by simp)
              rw [← unhide HL] at this
              exact hide this
            clear o6 G6 at6 O3 HYB
            go_wp2
            go_roundw
            case rel => exact ⟨k + 1, m, rv, rs, _, by omega, by go_num, by rw [hs1.out], HM', HW6, E6⟩
            case measure => simp [intOf]; omega
          · obtain rfl : L = 0 := by omega
            go_wp2_with fail
            refine ((unhide hcon) _ X1).mono ?_
            rintro e w3 ⟨r', rfl, o3, F3⟩
            obtain ⟨r3, c3, hr3, _, _⟩ := ints_of_owns o3
            subst hr3
            have O3 := hide o3
            have z3 := F3.size
            clear o3 bx0 bx1
            have EB : Ext w3 (w3.alloc (.cells #[.slice r3 (cR cs k).length c3, .int .i64 (cW cs k)] 32)) := (Ext.refl _).alloc _
            have HYB : Hid ((w3.alloc (.cells #[.slice r3 (cR cs k).length c3, .int .i64 (cW cs k)] 32)).ownsRow w.heap.size 32 2 (.slice r6 0 c6) 0 ys6) := by
              have := (F3.trans EB).owns (unhide HY6)
              rw [← unhide HL] at this
              exact hide this
            go_wp2_with (at_builtin; go_must (refine wpList_append_lies _ rfl _ _ 27 rfl w.heap.size 32 ic _ 2 32 Tryd.underlying27 hic hc0 hc1 hc2 rfl (by decide) (.slice r6 0 c6) 0 ys6 rfl (unhide HYB) ⟨w3.heap.size, 0, none⟩ 1 1 [.slice r3 (cR cs k).length c3, .int .i64 (cW cs k)] rfl rfl (news_cells (w := w3) [.slice r3 (cR cs k).length c3, .int .i64 (cW cs k)] 32) (pair_one rfl rfl) (by omega) (by unfold maxLen; omega) (by omega) (by simp; omega) (w3.heap.size + 1) (by simp) ?_))
            intro g6 cap6 w6 o6 G6 at6 lt6
            have E6 : Ext w w6 := ((X1.trans F3).trans EB).grown G6 (fun q hq => ((unhide HYB).lt q hq).1)
            have HM' : Hid ((stF cs cols (k + 1)).1.length = m + 1) := by refine hide ?_; rw [hs1.out]; exact unhide HM
            have HW6 : Hid (Wk w6 w.heap.size u5 (.slice (some ⟨g6, 0, none⟩) (0 + 1) cap6) rv rs (rr ++ [.slice r3 (cR cs k).length c3]) cs cols (k + 1) m) := by
              have := Wk.more (w := w1) (w5 := w3.alloc (.cells #[.slice r3 (cR cs k).length c3, .int .i64 (cW cs k)] 32)) (w6 := w6) (g6 := g6) (cap6 := cap6) (H := w3.heap.size + 1) (r := .slice r3 (cR cs k).length c3) (unhide HW1) (by omega) (unhide HM) (by rw [hs1.out]) hkc (F3.trans EB) (EB.owns (unhide O3)) (unhide HY6) (unhide HYY6) (by rw [← unhide HL]; exact o6) G6 at6 (by simp)
              rw [← unhide HL] at this
              exact hide this
            clear o6 G6 at6 O3 HYB
            go_wp2
            go_roundw
            case rel => exact ⟨k + 1, m, rv, rs, _, by omega, by go_num, by rw [hs1.out], HM', HW6, E6⟩
            case measure => simp [intOf]; omega
      · obtain rfl : k = n := by omega
        obtain ⟨ys5, hy5, hyy5⟩ := (unhide HW).1.1
        have EA : Ext wr (wr.alloc (.cells #[.slice r6 (wk cs cols k m).length c6] 27)) := (Ext.refl _).alloc _
        have HYA := hide (EA.owns hy5)
        have HYY5 := hide hyy5
        clear hy5 hyy5
        go_wp2_with (at_builtin; go_must (refine wpList_append_lies _ rfl _ _ 29 rfl w.heap.size 27 ir _ 1 24 Tryd.underlying29 hir hr0 hr1 hr2 rfl (by decide) u5 m ys5 rfl (unhide HYA) ⟨wr.heap.size, 0, none⟩ 1 1 [.slice r6 (wk cs cols k m).length c6] rfl rfl (news_cells (w := wr) [.slice r6 (wk cs cols k m).length c6] 27) (by simp [Value.oneCell']) (by omega) (by unfold maxLen; omega) (by omega) (by simp; omega) (wr.heap.size + 1) (by simp) ?_))
        intro g2 cap2 w2 o2 G2 at2 lt2
        have X2 : Ext w w2 := (hext.trans EA).grown G2 (fun q hq => ((unhide HYA).lt q hq).1)
        have HWA := (unhide HW).ext EA
        have h2 := (OwnCss.push HWA.1 (unhide HYA) (unhide HYY5) HWA.2.1 HWA.2.2 o2 G2).congr (cs' := wrC cs cols) (fun i hi => by
          rw [← HEND.out]
          by_cases e : i = m
          · rw [if_pos e, e]
          · rw [if_neg e])
        have hR2 : wrR cs cols = m + 1 := by rw [hR.out]; exact unhide HM
        rw [← hR2] at h2
        have H2 := hide h2
        rw [← hR2]
        clear o2 G2 at2 HWA h2
        go_wp2
        go_ret
        exact ⟨_, _, _, rfl, unhide H2, X2⟩
end Go.Proofs.YtmomcccgjjjldaaDoor
