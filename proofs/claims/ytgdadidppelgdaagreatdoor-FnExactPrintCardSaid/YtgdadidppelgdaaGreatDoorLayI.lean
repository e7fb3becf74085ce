import Derived.Test.YtgdadidppelgdaaGreatDoorSpecWrap
import Derived.Test.YtgdadidppelgdaaGreatDoorRuneCount
import Derived.Test.YtgdadidppelgdaaGreatDoorItemOk
import Derived.Test.YtgdadidppelgdaaGreatDoorWrapC
import Derived.Test.YtgdadidppelgdaaGreatDoorWhole
import Derived.Deep.SlicePairs
import Derived.Test.YtgdadidppelgdaaGreatDoorSesOkI
import Derived.Deep.RegionHeldLaw
namespace Go.Proofs.YtgdadidppelgdaaGreatDoor
open Go.RowKit

/-- Row i after k clusters. -/
def wk (cs : List (List Int × Int)) (cols : Int) (k i : Nat) : List (List Int × Int) := (cs.take (at0 ((stF cs cols k).1 ++ [(k : Int)]) (i + 1)).toNat).drop (at0 ((stF cs cols k).1 ++ [(k : Int)]) i).toNat
theorem wk_end (cs : List (List Int × Int)) (cols : Int) : wk cs cols cs.length = wrC cs cols := rfl
theorem wk_last (cs : List (List Int × Int)) (cols : Int) (k m : Nat) (hm : (stF cs cols k).1.length = m + 1) : wk cs cols k m = (cs.take k).drop (at0 (stF cs cols k).1 m).toNat := by
  unfold wk
  rw [at0_app (i := m + 1), if_pos (by omega), at0_app (i := m), if_neg (by omega)]
  simp
/-- A row that goes on. -/
theorem wk_same (cs : List (List Int × Int)) (cols : Int) (k m : Nat) (hm : (stF cs cols k).1.length = m + 1) (hs : (stF cs cols (k + 1)).1 = (stF cs cols k).1) (hk : k < cs.length) :
    (∀ i, i < m → wk cs cols (k + 1) i = wk cs cols k i) ∧ wk cs cols (k + 1) m = wk cs cols k m ++ [(cR cs k, cW cs k)] := by
  constructor
  · intro i hi
    unfold wk
    rw [hs, at0_app, at0_app, at0_app, at0_app, if_neg (by omega), if_neg (by omega), if_neg (by omega), if_neg (by omega)]
  · have hle := (stF_ok cs cols k).le m (by omega)
    rw [wk_last cs cols k m hm, wk_last cs cols (k + 1) m (by rw [hs]; exact hm), hs, cls_take_succ cs k hk, List.drop_append_of_le_length (by simp; omega)]
/-- A row that begins. -/
theorem wk_new (cs : List (List Int × Int)) (cols : Int) (k m : Nat) (hm : (stF cs cols k).1.length = m + 1) (hs : (stF cs cols (k + 1)).1 = (stF cs cols k).1 ++ [(k : Int)]) (hk : k < cs.length) :
    (∀ i, i < m + 1 → wk cs cols (k + 1) i = wk cs cols k i) ∧ wk cs cols (k + 1) (m + 1) = [(cR cs k, cW cs k)] := by
  constructor
  · intro i hi
    unfold wk
    rw [hs, at0_app (i := i + 1), at0_app (xs := (stF cs cols k).1 ++ [(k : Int)]) (i := i), if_neg (by simp; omega), if_neg (by simp; omega)]
  · rw [wk_last cs cols (k + 1) (m + 1) (by rw [hs]; simp; omega), hs, at0_app, if_pos (by omega), cls_take_succ cs k hk, List.drop_append_of_le_length (by simp; omega)]
    simp
/-- The rows and the row at hand. -/
def Wk (w : World) (base : Nat) (v5 v6 : Value) (rv : Nat → Value) (rs : Nat → List Value) (rr : List Value) (cs : List (List Int × Int)) (cols : Int) (k m : Nat) : Prop :=
  OwnCss w base v5 rv rs m (wk cs cols k) ∧ OwnCls w base v6 rr (wk cs cols k m) ∧ ∀ i g, i < m → Foot (rv i) (rs i) (wk cs cols k i).length g → ¬ Foot v6 rr (wk cs cols k m).length g
theorem Wk.ext {w w' : World} {base : Nat} {v5 v6 : Value} {rv : Nat → Value} {rs : Nat → List Value} {rr : List Value} {cs : List (List Int × Int)} {cols : Int} {k m : Nat} (h : Wk w base v5 v6 rv rs rr cs cols k m) (he : Ext w w') : Wk w' base v5 v6 rv rs rr cs cols k m :=
  ⟨h.1.ext he, h.2.1.ext he, h.2.2⟩
theorem Wk.fresh {w : World} {base : Nat} {v5 v6 : Value} {rv : Nat → Value} {rs : Nat → List Value} {rr : List Value} {cs : List (List Int × Int)} {cols : Int} {k m : Nat} (h : Wk w base v5 v6 rv rs rr cs cols k m) {i g : Nat} (hi : i < m) (hg : Foot (rv i) (rs i) (wk cs cols k i).length g) : g < w.heap.size := ((h.1.2.1 i hi).foot hg).2
theorem OwnCss.congrN {w : World} {base : Nat} {v : Value} {rv : Nat → Value} {rs : Nat → List Value} {R : Nat} {cs cs' : Nat → List (List Int × Int)} (h : OwnCss w base v rv rs R cs) (e : ∀ i, i < R → cs' i = cs i) : OwnCss w base v rv rs R cs' := h.congr (fun i hi => (e i hi).symm)
/-- One cluster more in the row at hand. -/
theorem Wk.more {w w5 w6 : World} {base : Nat} {v5 v6 r : Value} {rv : Nat → Value} {rs : Nat → List Value} {rr ys : List Value} {cs : List (List Int × Int)} {cols : Int} {k m g6 cap6 H : Nat} (h : Wk w base v5 v6 rv rs rr cs cols k m) (hb : base ≤ w.heap.size)
    (hm : (stF cs cols k).1.length = m + 1) (hs : (stF cs cols (k + 1)).1 = (stF cs cols k).1) (hk : k < cs.length)
    (E5 : Ext w w5) (hr : w5.ownsRow w.heap.size 21 1 r (cR cs k).length ((cR cs k).map (Value.int .i32)))
    (hy : w.ownsRow base 139 2 v6 (wk cs cols k m).length ys) (hyy : ∀ j, j < (wk cs cols k m).length → ys[j * 2]? = some (rV rr j) ∧ ys[j * 2 + 1]? = some (.int .i64 (cW (wk cs cols k m) j)))
    (o6 : w6.ownsRow base 139 2 (.slice (some ⟨g6, 0, none⟩) ((wk cs cols k m).length + 1) cap6) ((wk cs cols k m).length + 1) (ys ++ [r, .int .i64 (cW cs k)])) (G6 : w5.grownBy w6 v6.ownBlock) (hat : v6.ownBlock = some g6 ∨ g6 = H) (hH : w5.heap.size ≤ H) :
    Wk w6 base v5 (.slice (some ⟨g6, 0, none⟩) ((wk cs cols k m).length + 1) cap6) rv rs (rr ++ [r]) cs cols (k + 1) m := by
  obtain ⟨ws, wl⟩ := wk_same cs cols k m hm hs hk
  have fr : Fr (fun q => v6.ownBlock = some q) w5 w6 := (Fr.refl _ _).grown G6 (fun q hq => hq)
  have h5 := h.ext E5
  have hl6 : (wk cs cols (k + 1) m).length = (wk cs cols k m).length + 1 := by rw [wl]; simp
  refine ⟨(h5.1.fr fr (fun g hg e => ?_)).congrN ws, ?_, fun i g hi hg h2 => ?_⟩
  · rcases hg with hg | ⟨i, hi, hg⟩
    · obtain ⟨zs, h6, _⟩ := h5.1.1
      exact cls_apart h6 h5.2.1 (g := g) (.inl e) hg
    · exact h.2.2 i g hi hg (.inl e)
  · rw [wl]
    exact OwnCls.push h5.2.1 (E5.owns hy) hyy (owns_mono hr hb) (fun j q hj hq e => by
      have h6 := (h.2.1.foot (.inr ⟨j, hj, hq⟩)).2
      have h7 := (hr.lt q e).1
      omega) (by simpa using o6) G6
  · rw [ws i hi] at hg
    rw [hl6] at h2
    have hlt := h.fresh hi hg
    have := E5.size
    rcases h2 with h2 | ⟨j, hj, h2⟩
    · simp [Value.ownBlock] at h2
      subst h2
      rcases hat with e | e
      · exact h.2.2 i _ hi hg (.inl e)
      · omega
    · have hrl : rr.length = (wk cs cols k m).length := h.2.1.1
      by_cases e : j = rr.length
      · subst e
        rw [rV_last] at h2
        have := (hr.lt g h2).1
        omega
      · rw [rV_push _ _ _ (by omega)] at h2
        exact h.2.2 i g hi hg (.inr ⟨j, by omega, h2⟩)
/-- The row at hand goes to the rows, and another begins. -/
theorem Wk.turn {w w2 w5 w6 : World} {base : Nat} {v5 v6 v5' r : Value} {rv : Nat → Value} {rs : Nat → List Value} {rr ys : List Value} {cs : List (List Int × Int)} {cols : Int} {k m g6 cap6 : Nat} (h : Wk w base v5 v6 rv rs rr cs cols k m)
    (hm : (stF cs cols k).1.length = m + 1) (hs : (stF cs cols (k + 1)).1 = (stF cs cols k).1 ++ [(k : Int)]) (hk : k < cs.length)
    (hy : w.ownsRow base 115 1 v5 m ys) (hyy : ∀ j, j < m → ys[j]? = some (rv j)) (o2 : w2.ownsRow base 115 1 v5' (m + 1) (ys ++ [v6])) (G2 : w.grownBy w2 v5.ownBlock) (hb : base ≤ w2.heap.size)
    (E5 : Ext w2 w5) (hr : w5.ownsRow w2.heap.size 21 1 r (cR cs k).length ((cR cs k).map (Value.int .i32)))
    (o6 : w6.ownsRow base 139 2 (.slice (some ⟨g6, 0, none⟩) 1 cap6) 1 [r, .int .i64 (cW cs k)]) (G6 : w5.grownBy w6 none) (hg6 : w5.heap.size ≤ g6) :
    ∃ rv' rs', Wk w6 base v5' (.slice (some ⟨g6, 0, none⟩) 1 cap6) rv' rs' [r] cs cols (k + 1) (m + 1) := by
  obtain ⟨ws, wl⟩ := wk_new cs cols k m hm hs hk
  have h2 := (OwnCss.push h.1 hy hyy h.2.1 h.2.2 o2 G2).congrN (cs' := wk cs cols (k + 1)) (fun i hi => by
    rw [ws i hi]
    by_cases e : i = m
    · rw [if_pos e, e]
    · rw [if_neg e])
  refine ⟨_, _, h2.ext (E5.trans G6), ?_, fun i g hi hg h3 => ?_⟩
  · rw [wl]
    have := OwnCls.push (W := w5) (W' := w6) (base := base) (v := .slice none 0 0) (v' := .slice (some ⟨g6, 0, none⟩) 1 cap6) (r := r) (rs := []) (cs := []) (xs := cR cs k) (d := cW cs k) (ys := []) (cls_none ⟨by simp, .inl ⟨rfl, rfl⟩⟩) ⟨by simp, .inl ⟨rfl, rfl⟩⟩ (fun j hj => by simp at hj) (owns_mono hr hb) (fun j g hj => by simp at hj) (by simpa using o6) G6
    simpa using this
  · have hlt := ((h2.2.1 i hi).foot hg).2
    have := E5.size
    rw [wl] at h3
    rcases h3 with h3 | ⟨j, hj, h3⟩
    · simp [Value.ownBlock] at h3
      omega
    · simp at hj
      subst hj
      have := (hr.lt g (by simpa [rV] using h3)).1
      omega
set_option maxRecDepth 10000 in
set_option maxHeartbeats 4000000 in
theorem implWrap_any (v : Value) (cs : List (List Int × Int)) (cols : Int) (w : World) (hv : ClsAt w v cs) (hl : cs.length ≤ 4194304) (hx : ∀ j, j < cs.length → (cR cs j).length ≤ 4194304) :
    Calls Tryz.prog 109 #[v, .int .i64 cols] w fun e w' => ∃ v' rv rs, e = .returned v' ∧ OwnCss w' w.heap.size v' rv rs (wrR cs cols) (wrC cs cols) ∧ Ext w w' := by
  obtain ⟨ir, hir, hr0, hr1, hr2⟩ := info_parts infoRw
  obtain ⟨ic, hic, hc0, hc1, hc2⟩ := info_parts infoClw
  obtain ⟨ra, ao, ca, rfl, hca, hra, hxa⟩ := hv
  have HX := hide hx
  have HR := hide hra
  have HXA := hide hxa
  clear hx hra hxa
  by_cases hc : cols < 2
  · have hR : Hid (wrR cs cols = 0) := by show _ = _; rw [wrR, if_pos hc]
    go_enter Tryz.func109, Tryz.ntmps109
    go_wp2
    go_ret
    exact ⟨_, fun _ => .slice none 0 0, fun _ => [], rfl, by rw [hR.out]; exact css_nil ⟨by simp, .inl ⟨rfl, rfl⟩⟩, Ext.refl _⟩
  · have hR : Hid (wrR cs cols = (stF cs cols cs.length).1.length) := by show _ = _; rw [wrR, if_neg hc]
    have HEND : Hid (wk cs cols cs.length = wrC cs cols) := rfl
    have HOK := hide (fun k => stF_ok cs cols k)
    have hst0 : Hid ((stF cs cols 0).1 = [0]) := rfl
    have hw0 : Hid (wk cs cols 0 0 = []) := by show _ = _; rw [wk_last cs cols 0 0 rfl]; simp
    obtain ⟨n, hn⟩ : ∃ n, n = cs.length := ⟨_, rfl⟩
    rw [← hn] at hca hl HX HR HXA hR HEND ⊢
    have HN := hide hn
    clear hn
    go_enter Tryz.func109, Tryz.ntmps109
    go_wp2
    go_loopw [5, 6, 7, 15] (fun o5 o6 u i wr => ∃ (k m : Nat) (rv : Nat → Value) (rs : Nat → List Value) (rr : List Value), k ≤ n ∧ i = .int .i64 k ∧ u = .int .i64 (stF cs cols k).2 ∧ Hid ((stF cs cols k).1.length = m + 1) ∧ Hid (Wk wr w.heap.size o5 o6 rv rs rr cs cols k m) ∧ Ext w wr) (fun _ _ _ i _ => n - (intOf i).toNat)
    case atStart => exact ⟨0, 0, fun _ => .slice none 0 0, fun _ => [], [], Nat.zero_le _, rfl, rfl, hide (by rw [hst0.out]; rfl), hide ⟨css_nil ⟨by simp, .inl ⟨rfl, rfl⟩⟩, by rw [hw0.out]; exact cls_none ⟨by simp, .inl ⟨rfl, rfl⟩⟩, fun i g hi => by omega⟩, Ext.refl _⟩
    case round =>
      obtain ⟨k, m, rv, rs, rr, hk, rfl, rfl, HM, HW, hext⟩ := hrel
      obtain ⟨_, r6, c6, h6, _⟩ := (unhide HW).2.1.cls
      subst h6
      have hok := (unhide HOK) k
      have h3 := hok.u0
      have h4 := hok.u1
      have hmk := hok.len
      rw [unhide HM] at hmk
      have z1 := hext.size
      by_cases hlt : k < n
      · have bk : (k : Int) < (n : Int) := by omega
        have hkc : k < cs.length := by rw [← unhide HN]; exact hlt
        obtain ⟨b, off, rfl, hc⟩ := (unhide HXA) (by omega)
        have g1 := hext.cell (hc k hlt).1
        have g2 := hext.cell (hc k hlt).2
        have HRK := hide (((unhide HR) k hlt).ext hext)
        have HRW := hide ((unhide HR) k hlt)
        have hxk := (unhide HX) k hlt
        clear hc
        obtain ⟨rk, hrk⟩ : ∃ r, r = rV ra k := ⟨_, rfl⟩
        rw [← hrk] at g1 HRK HRW
        clear hrk
        obtain ⟨xa, xc, hrk2, _, _⟩ := unhide HRK
        subst hrk2
        obtain ⟨u, hu⟩ : ∃ u, u = (stF cs cols k).2 := ⟨_, rfl⟩
        have hwd := cWd_bd (cW cs k)
        have hlw : (wk cs cols k m).length = k - (at0 (stF cs cols k).1 m).toNat := by rw [wk_last cs cols k m (unhide HM)]; simp; omega
        have hLb := hok.le m (by rw [unhide HM]; omega)
        have hst : Hid (stF cs cols (k + 1) = if at0 (stF cs cols k).1 m < (k : Int) ∧ cols < u + cWd (cW cs k) then ((stF cs cols k).1 ++ [(k : Int)], cWd (cW cs k)) else ((stF cs cols k).1, u + cWd (cW cs k))) := by
          show _ = _
          rw [hu, stF, unhide HM]
          rfl
        rw [← hu] at h3 h4 ⊢
        clear hu hok
        obtain ⟨L, hL⟩ : ∃ L, L = (wk cs cols k m).length := ⟨_, rfl⟩
        have hLk : 0 < L ↔ at0 (stF cs cols k).1 m < (k : Int) := by omega
        have HL := hide hL
        rw [← hL] at HW ⊢
        clear hlw hLb hL
        have hw2 : IntKind.i64.wrap (u + cWd (cW cs k)) = u + cWd (cW cs k) := by rw [IntKind.wrap_i64]; omega
        go_wp2_with fail
        refine (countedWidth_any _ _ _).mono ?_
        rintro e w1 ⟨rfl, F1⟩
        have bx0 : w1.cell? ⟨wr.heap.size, 0, none⟩ = some (.slice xa (cR cs k).length xc) := F1.cell (by simp [go_sem])
        have bx1 : w1.cell? ⟨wr.heap.size, 1, none⟩ = some (.int .i64 (cW cs k)) := F1.cell (by simp [go_sem])
        have E1 : Ext wr w1 := ((Ext.refl wr).alloc _).trans F1
        have HW1 := hide ((unhide HW).ext E1)
        have X1 := hext.trans E1
        have hwz : wr.heap.size < w1.heap.size := lt_of_cell bx0
        clear F1 g1 g2
        have hcon := hide (fun W (hW : Ext w W) => copyCluster_any (.slice xa (cR cs k).length xc) (cR cs k) (cW cs k) W ((unhide HRW).ext hW) (by omega))
        obtain ⟨_, ⟨ys6, hy6, hyy6⟩, _, _⟩ := (unhide HW1).2.1
        obtain ⟨ys5, hy5, hyy5⟩ := (unhide HW1).1.1
        have HY5 := hide hy5
        have HYY5 := hide hyy5
        have HY6 := hide hy6
        have HYY6 := hide hyy6
        have hu5 : u5.ownBlock ≠ some wr.heap.size := fun e => by have := ((unhide HW).1.1.lt _ e).2; omega
        have HU5 := hide hu5
        have hLb2 : L ≤ k := by have := (unhide HW).2.1.1; have h := unhide HL; rw [wk_last cs cols k m (unhide HM)] at h; simp at h; omega
        clear hy5 hyy5 hy6 hyy6 hu5
        by_cases hA : 0 < L ∧ cols < u + cWd (cW cs k)
        · have hs1 : Hid (stF cs cols (k + 1) = ((stF cs cols k).1 ++ [(k : Int)], cWd (cW cs k))) := by show _ = _; rw [hst.out, if_pos ⟨hLk.1 hA.1, hA.2⟩]
          have hL1 : (0 : Int) < (L : Int) := by omega
          have hov := hA.2
          have EA : Ext w1 (w1.alloc (.cells #[.slice r6 L c6] 115)) := (Ext.refl _).alloc _
          have HYA := hide (EA.owns (unhide HY5))
          go_wp2_with (at_builtin; go_must (refine wpList_append_lies _ rfl _ _ 113 rfl w.heap.size 115 ir _ 1 24 Tryz.underlying113 hir hr0 hr1 hr2 rfl (by decide) u5 m ys5 rfl (unhide HYA) ⟨w1.heap.size, 0, none⟩ 1 1 [.slice r6 L c6] rfl rfl (news_cells (w := w1) [.slice r6 L c6] 115) (by simp [Value.oneCell']) (by omega) (by unfold maxLen; omega) (by omega) (by simp; omega) (w1.heap.size + 1) (by simp) ?_))
          intro g2 cap2 w2 o2 G2 at2 lt2
          have X2 : Ext w w2 := (X1.trans EA).grown G2 (fun q hq => ((unhide HY5).lt q hq).1)
          have q0 : w2.cell? ⟨wr.heap.size, 0, none⟩ = some (.slice xa (cR cs k).length xc) := by rw [G2.cell_far _ (by simp; omega) (fun e => (unhide HU5) e.symm)]; exact EA.cell bx0
          have q1 : w2.cell? ⟨wr.heap.size, 1, none⟩ = some (.int .i64 (cW cs k)) := by rw [G2.cell_far _ (by simp; omega) (fun e => (unhide HU5) e.symm)]; exact EA.cell bx1
          have O2 := hide o2
          have GG2 := hide G2
          have z2 := X2.size
          clear o2 G2 at2 bx0 bx1
          go_wp2_with fail
          refine ((unhide hcon) _ X2).mono ?_
          rintro e w3 ⟨r', rfl, o3, F3⟩
          obtain ⟨r3, c3, hr3, _, _⟩ := ints_of_owns o3
          subst hr3
          have O3 := hide o3
          have z3 := F3.size
          clear o3 q0 q1
          have EB : Ext w3 (w3.alloc (.cells #[.slice r3 (cR cs k).length c3, .int .i64 (cW cs k)] 139)) := (Ext.refl _).alloc _
          go_wp2_with (at_builtin; go_must (refine wpList_append_lies _ rfl _ _ 115 rfl w.heap.size 139 ic _ 2 32 Tryz.underlying115 hic hc0 hc1 hc2 rfl (by decide) (.slice none 0 0) 0 [] rfl ⟨by simp, .inl ⟨rfl, rfl⟩⟩ ⟨w3.heap.size, 0, none⟩ 1 1 [.slice r3 (cR cs k).length c3, .int .i64 (cW cs k)] rfl rfl (news_cells (w := w3) [.slice r3 (cR cs k).length c3, .int .i64 (cW cs k)] 139) (pair_one rfl rfl) (by omega) (by unfold maxLen; omega) (by omega) (by simp; omega) (w3.heap.size + 1) (by simp) ?_))
          intro g6 cap6 w6 o6 G6 at6 lt6
          have hg6 : g6 = w3.heap.size + 1 := at6.elim (fun e => by simp [Value.ownBlock] at e) id
          have E6 : Ext w w6 := ((X2.trans F3).trans EB).trans G6
          have HM' : Hid ((stF cs cols (k + 1)).1.length = m + 1 + 1) := by refine hide ?_; rw [hs1.out, List.length_append, unhide HM]; rfl
          have HW6 : Hid (∃ rv' rs', Wk w6 w.heap.size (.slice (some ⟨g2, 0, none⟩) (m + 1) cap2) (.slice (some ⟨g6, 0, none⟩) 1 cap6) rv' rs' [.slice r3 (cR cs k).length c3] cs cols (k + 1) (m + 1)) := by
            refine hide (Wk.turn (w := w1.alloc (.cells #[.slice r6 L c6] 115)) (w2 := w2) (w5 := w3.alloc (.cells #[.slice r3 (cR cs k).length c3, .int .i64 (cW cs k)] 139)) ((unhide HW1).ext EA) (unhide HM) (by rw [hs1.out]) hkc (unhide HYA) (unhide HYY5) (unhide O2) (unhide GG2) (by omega) (F3.trans EB) (EB.owns (unhide O3)) ?_ G6 (by simp; omega))
            simpa using o6
          obtain ⟨rv', rs', HWW⟩ := unhide HW6
          have HWF := hide HWW
          clear o6 G6 at6 HW6 HWW O2 GG2 O3
          go_wp2
          go_roundw
          case rel => exact ⟨k + 1, m + 1, rv', rs', _, by omega, by go_num, by rw [hs1.out], HM', HWF, E6⟩
          case measure => simp [intOf]; omega
        · have hs1 : Hid (stF cs cols (k + 1) = ((stF cs cols k).1, u + cWd (cW cs k))) := by show _ = _; rw [hst.out, if_neg (fun h => hA ⟨hLk.2 h.1, h.2⟩)]
          have hpick : ((decide (0 < (L : Int))) && decide (cols < u + cWd (cW cs k))) = false := by
            cases h : (decide (0 < (L : Int)) && decide (cols < u + cWd (cW cs k)))
            · rfl
            · simp at h; exact absurd ⟨by omega, h.2⟩ hA
          have hpick2 : (0 : Int) < (L : Int) → ¬ cols < u + cWd (cW cs k) := fun h1 h2 => hA ⟨by omega, h2⟩
          by_cases hL0 : 0 < L
          · have hL1 : (0 : Int) < (L : Int) := by omega
            have hov := hpick2 hL1
            go_wp2_with fail
            refine ((unhide hcon) _ X1).mono ?_
            rintro e w3 ⟨r', rfl, o3, F3⟩
            obtain ⟨r3, c3, hr3, _, _⟩ := ints_of_owns o3
            subst hr3
            have O3 := hide o3
            have z3 := F3.size
            clear o3 bx0 bx1
            have EB : Ext w3 (w3.alloc (.cells #[.slice r3 (cR cs k).length c3, .int .i64 (cW cs k)] 139)) := (Ext.refl _).alloc _
            have HYB : Hid ((w3.alloc (.cells #[.slice r3 (cR cs k).length c3, .int .i64 (cW cs k)] 139)).ownsRow w.heap.size 139 2 (.slice r6 L c6) L ys6) := by
              have := (F3.trans EB).owns (unhide HY6)
              rw [← unhide HL] at this
              exact hide this
            go_wp2_with (at_builtin; go_must (refine wpList_append_lies _ rfl _ _ 115 rfl w.heap.size 139 ic _ 2 32 Tryz.underlying115 hic hc0 hc1 hc2 rfl (by decide) (.slice r6 L c6) L ys6 rfl (unhide HYB) ⟨w3.heap.size, 0, none⟩ 1 1 [.slice r3 (cR cs k).length c3, .int .i64 (cW cs k)] rfl rfl (news_cells (w := w3) [.slice r3 (cR cs k).length c3, .int .i64 (cW cs k)] 139) (pair_one rfl rfl) (by omega) (by unfold maxLen; omega) (by omega) (by simp; omega) (w3.heap.size + 1) (by simp) ?_))
            intro g6 cap6 w6 o6 G6 at6 lt6
            have E6 : Ext w w6 := ((X1.trans F3).trans EB).grown G6 (fun q hq => ((unhide HYB).lt q hq).1)
            have HM' : Hid ((stF cs cols (k + 1)).1.length = m + 1) := by refine hide ?_; rw [hs1.out]; exact unhide HM
            have HW6 : Hid (Wk w6 w.heap.size u5 (.slice (some ⟨g6, 0, none⟩) (L + 1) cap6) rv rs (rr ++ [.slice r3 (cR cs k).length c3]) cs cols (k + 1) m) := by
              have := Wk.more (w := w1) (w5 := w3.alloc (.cells #[.slice r3 (cR cs k).length c3, .int .i64 (cW cs k)] 139)) (w6 := w6) (g6 := g6) (cap6 := cap6) (H := w3.heap.size + 1) (r := .slice r3 (cR cs k).length c3) (unhide HW1) (by omega) (unhide HM) (by rw [hs1.out]) hkc (F3.trans EB) (EB.owns (unhide O3)) (unhide HY6) (unhide HYY6) (by rw [← unhide HL]; exact o6) G6 at6 (by simp)
              rw [← unhide HL] at this
              exact hide this
            clear o6 G6 at6 O3 HYB
            go_wp2
            go_roundw
            case rel => exact ⟨k + 1, m, rv, rs, _, by omega, by go_num, by rw [hs1.out], HM', HW6, E6⟩
            case measure => simp [intOf]; omega
          · obtain rfl : L = 0 := by omega
            go_wp2_with fail
            refine ((unhide hcon) _ X1).mono ?_
            rintro e w3 ⟨r', rfl, o3, F3⟩
            obtain ⟨r3, c3, hr3, _, _⟩ := ints_of_owns o3
            subst hr3
            have O3 := hide o3
            have z3 := F3.size
            clear o3 bx0 bx1
            have EB : Ext w3 (w3.alloc (.cells #[.slice r3 (cR cs k).length c3, .int .i64 (cW cs k)] 139)) := (Ext.refl _).alloc _
            have HYB : Hid ((w3.alloc (.cells #[.slice r3 (cR cs k).length c3, .int .i64 (cW cs k)] 139)).ownsRow w.heap.size 139 2 (.slice r6 0 c6) 0 ys6) := by
              have := (F3.trans EB).owns (unhide HY6)
              rw [← unhide HL] at this
              exact hide this
            go_wp2_with (at_builtin; go_must (refine wpList_append_lies _ rfl _ _ 115 rfl w.heap.size 139 ic _ 2 32 Tryz.underlying115 hic hc0 hc1 hc2 rfl (by decide) (.slice r6 0 c6) 0 ys6 rfl (unhide HYB) ⟨w3.heap.size, 0, none⟩ 1 1 [.slice r3 (cR cs k).length c3, .int .i64 (cW cs k)] rfl rfl (news_cells (w := w3) [.slice r3 (cR cs k).length c3, .int .i64 (cW cs k)] 139) (pair_one rfl rfl) (by omega) (by unfold maxLen; omega) (by omega) (by simp; omega) (w3.heap.size + 1) (by simp) ?_))
            intro g6 cap6 w6 o6 G6 at6 lt6
            have E6 : Ext w w6 := ((X1.trans F3).trans EB).grown G6 (fun q hq => ((unhide HYB).lt q hq).1)
            have HM' : Hid ((stF cs cols (k + 1)).1.length = m + 1) := by refine hide ?_; rw [hs1.out]; exact unhide HM
            have HW6 : Hid (Wk w6 w.heap.size u5 (.slice (some ⟨g6, 0, none⟩) (0 + 1) cap6) rv rs (rr ++ [.slice r3 (cR cs k).length c3]) cs cols (k + 1) m) := by
              have := Wk.more (w := w1) (w5 := w3.alloc (.cells #[.slice r3 (cR cs k).length c3, .int .i64 (cW cs k)] 139)) (w6 := w6) (g6 := g6) (cap6 := cap6) (H := w3.heap.size + 1) (r := .slice r3 (cR cs k).length c3) (unhide HW1) (by omega) (unhide HM) (by rw [hs1.out]) hkc (F3.trans EB) (EB.owns (unhide O3)) (unhide HY6) (unhide HYY6) (by rw [← unhide HL]; exact o6) G6 at6 (by simp)
              rw [← unhide HL] at this
              exact hide this
            clear o6 G6 at6 O3 HYB
            go_wp2
            go_roundw
            case rel => exact ⟨k + 1, m, rv, rs, _, by omega, by go_num, by rw [hs1.out], HM', HW6, E6⟩
            case measure => simp [intOf]; omega
      · obtain rfl : k = n := by omega
        obtain ⟨ys5, hy5, hyy5⟩ := (unhide HW).1.1
        have EA : Ext wr (wr.alloc (.cells #[.slice r6 (wk cs cols k m).length c6] 115)) := (Ext.refl _).alloc _
        have HYA := hide (EA.owns hy5)
        have HYY5 := hide hyy5
        clear hy5 hyy5
        go_wp2_with (at_builtin; go_must (refine wpList_append_lies _ rfl _ _ 113 rfl w.heap.size 115 ir _ 1 24 Tryz.underlying113 hir hr0 hr1 hr2 rfl (by decide) u5 m ys5 rfl (unhide HYA) ⟨wr.heap.size, 0, none⟩ 1 1 [.slice r6 (wk cs cols k m).length c6] rfl rfl (news_cells (w := wr) [.slice r6 (wk cs cols k m).length c6] 115) (by simp [Value.oneCell']) (by omega) (by unfold maxLen; omega) (by omega) (by simp; omega) (wr.heap.size + 1) (by simp) ?_))
        intro g2 cap2 w2 o2 G2 at2 lt2
        have X2 : Ext w w2 := (hext.trans EA).grown G2 (fun q hq => ((unhide HYA).lt q hq).1)
        have HWA := (unhide HW).ext EA
        have h2 := (OwnCss.push HWA.1 (unhide HYA) (unhide HYY5) HWA.2.1 HWA.2.2 o2 G2).congr (cs' := wrC cs cols) (fun i hi => by
          rw [← HEND.out]
          by_cases e : i = m
          · rw [if_pos e, e]
          · rw [if_neg e])
        have hR2 : wrR cs cols = m + 1 := by rw [hR.out]; exact unhide HM
        rw [← hR2] at h2
        have H2 := hide h2
        rw [← hR2]
        clear o2 G2 at2 HWA h2
        go_wp2
        go_ret
        exact ⟨_, _, _, rfl, unhide H2, X2⟩
end Go.Proofs.YtgdadidppelgdaaGreatDoor

namespace Go.Proofs.YtgdadidppelgdaaGreatDoor
open Go.RowKit

/-- The width of the first k clusters. -/
def pw (cs : List (List Int × Int)) : Nat → Int
  | 0 => 0
  | k + 1 => pw cs k + cW cs k
theorem clF_wid (xs : List Int) : ∀ k j, 0 ≤ cW (clF xs k) j ∧ cW (clF xs k) j ≤ 2
  | 0, j => by simp [clF, cW]
  | k + 1, j => by
    have ih := clF_wid xs k
    have hw := wid_bd (shownI (at0 xs k))
    rw [clF, clStep]
    split
    · rw [cW_push]; split
      · exact hw
      · exact ih j
    · split
      · by_cases hj : j = 0
        · subst hj; simp [cW]
        · simp [cW, List.getElem?_eq_none (show [(([9676, shownI (at0 xs k)] : List Int), (1 : Int))].length ≤ j by simp; omega)]
      · rename_i h1 h2
        rw [cW_set _ _ _ _ (by omega)]
        split
        · exact ih _
        · exact ih j
theorem pw_bd (cs : List (List Int × Int)) (h : ∀ j, 0 ≤ cW cs j ∧ cW cs j ≤ 2) : ∀ k, 0 ≤ pw cs k ∧ pw cs k ≤ 2 * (k : Int)
  | 0 => by simp [pw]
  | k + 1 => by have := pw_bd cs h k; have := h k; rw [pw]; omega
theorem pw_mono (cs : List (List Int × Int)) (h : ∀ j, 0 ≤ cW cs j ∧ cW cs j ≤ 2) (s : Nat) : ∀ e, s ≤ e → pw cs s ≤ pw cs e := by
  intro e
  induction e with
  | zero => intro h1; have : s = 0 := by omega
            subst this; exact Int.le_refl _
  | succ e ih =>
    intro h1
    by_cases e1 : s = e + 1
    · subst e1; exact Int.le_refl _
    · have := ih (by omega); have := h e; rw [pw]; omega
structure RowOk (cs : List (List Int × Int)) (cols : Int) (S : List Int) (u : Int) (k : Nat) : Prop where
  eq : u = pw cs k - pw cs (at0 S (S.length - 1)).toNat
  le : u ≤ cols
  rows : ∀ i, i + 1 < S.length → pw cs (at0 S (i + 1)).toNat - pw cs (at0 S i).toNat ≤ cols ∧ cols < pw cs (at0 S (i + 1)).toNat - pw cs (at0 S i).toNat + cW cs (at0 S (i + 1)).toNat ∧ at0 S i < at0 S (i + 1)
  last : 0 < k → at0 S (S.length - 1) < (k : Int)
theorem rowOk (cs : List (List Int × Int)) (cols : Int) (hc : 2 ≤ cols) (h : ∀ j, 0 ≤ cW cs j ∧ cW cs j ≤ 2) : ∀ k, RowOk cs cols (stF cs cols k).1 (stF cs cols k).2 k
  | 0 => ⟨by simp [stF, at0, pw], by simp [stF]; omega, fun i hi => by simp [stF] at hi, fun h => by omega⟩
  | k + 1 => by
    have ih := rowOk cs cols hc h k
    have ok := stF_ok cs cols k
    have hk := h k
    have hd : cWd (cW cs k) = cW cs k := by unfold cWd; rw [if_neg (by omega), if_neg (by omega)]
    have h1 := ok.one
    have hL := ok.le ((stF cs cols k).1.length - 1) (by omega)
    have e1 := ih.eq
    have e2 := ih.le
    rw [stF, hd]
    split
    · rename_i hn
      refine ⟨?_, by dsimp only; omega, fun i hi => ?_, fun _ => ?_⟩
      · dsimp only
        rw [at0_app, if_pos (by simp), pw]
        simp
        omega
      · dsimp only at hi ⊢
        simp at hi
        rw [at0_app (i := i), if_neg (by omega), at0_app (i := i + 1)]
        by_cases e : i + 1 = (stF cs cols k).1.length
        · rw [if_pos e]
          have e3 : (stF cs cols k).1.length - 1 = i := by omega
          rw [e3] at e1 hn
          simp only [Int.toNat_natCast]
          refine ⟨by omega, by omega, hn.1⟩
        · rw [if_neg e]
          exact ih.rows i (by omega)
      · dsimp only
        rw [at0_app, if_pos (by simp)]
        omega
    · rename_i hn
      refine ⟨by dsimp only; rw [pw]; omega, ?_, ih.rows, fun _ => by dsimp only; omega⟩
      dsimp only
      by_cases hlk : at0 (stF cs cols k).1 ((stF cs cols k).1.length - 1) < (k : Int)
      · have := fun h2 => hn ⟨hlk, h2⟩
        omega
      · have hk0 : k = 0 := by
          rcases Nat.eq_zero_or_pos k with e | e
          · exact e
          · exact absurd (ih.last e) hlk
        subst hk0
        have : (stF cs cols 0).2 = 0 := rfl
        omega
/-- What the law asks of the rows. -/
theorem wr_rows (cs : List (List Int × Int)) (cols : Int) (hc : 2 ≤ cols) (h : ∀ j, 0 ≤ cW cs j ∧ cW cs j ≤ 2) (i : Nat) (hi : i < (stF cs cols cs.length).1.length) :
    pw cs (at0 (wrS cs cols) (i + 1)).toNat - pw cs (at0 (wrS cs cols) i).toNat ≤ cols ∧
    (0 < i → (at0 (wrS cs cols) i).toNat < (at0 (wrS cs cols) (i + 1)).toNat ∧ cols < pw cs (at0 (wrS cs cols) i).toNat - pw cs (at0 (wrS cs cols) (i - 1)).toNat + cW cs (at0 (wrS cs cols) i).toNat) := by
  have r := rowOk cs cols hc h cs.length
  have ok := stF_ok cs cols cs.length
  have h1 := ok.one
  have a1 : at0 (wrS cs cols) i = at0 (stF cs cols cs.length).1 i := by unfold wrS; rw [at0_app, if_neg (by omega)]
  have a2 : at0 (wrS cs cols) (i - 1) = at0 (stF cs cols cs.length).1 (i - 1) := by unfold wrS; rw [at0_app, if_neg (by omega)]
  have a3 : at0 (wrS cs cols) (i + 1) = if i + 1 = (stF cs cols cs.length).1.length then (cs.length : Int) else at0 (stF cs cols cs.length).1 (i + 1) := by unfold wrS; rw [at0_app]
  rw [a1, a2, a3]
  have hb := ok.le i hi
  constructor
  · by_cases e : i + 1 = (stF cs cols cs.length).1.length
    · rw [if_pos e]
      have e1 := r.eq
      have e2 := r.le
      rw [show (stF cs cols cs.length).1.length - 1 = i by omega] at e1
      simp only [Int.toNat_natCast]
      omega
    · rw [if_neg e]
      exact (r.rows i (by omega)).1
  · intro h0
    have hr := r.rows (i - 1) (by omega)
    rw [show i - 1 + 1 = i by omega] at hr
    refine ⟨?_, hr.2.1⟩
    by_cases e : i + 1 = (stF cs cols cs.length).1.length
    · rw [if_pos e]
      have hb2 := ok.le (i - 1) (by omega)
      have h2 := r.last (by omega)
      rw [show (stF cs cols cs.length).1.length - 1 = i by omega] at h2
      simp only [Int.toNat_natCast]
      omega
    · rw [if_neg e]
      have := (r.rows i (by omega)).2.2
      omega
theorem textC_app (xs ys : List (List Int × Int)) : textC (xs ++ ys) = textC xs ++ textC ys := by
  rw [textC_flat, textC_flat, textC_flat, flat_app, encA_app]
theorem wr_text (cs : List (List Int × Int)) (cols : Int) (i : Nat) (hi : i < (stF cs cols cs.length).1.length) :
    textC (cs.take (at0 (wrS cs cols) (i + 1)).toNat) = textC (cs.take (at0 (wrS cs cols) i).toNat) ++ textC (wrC cs cols i) := by
  have h := wrS_step cs cols i hi
  rw [wrC, ← textC_app]
  congr 1
  have e : cs.take (at0 (wrS cs cols) i).toNat = (cs.take (at0 (wrS cs cols) (i + 1)).toNat).take (at0 (wrS cs cols) i).toNat := by
    rw [List.take_take, Nat.min_eq_left (by omega)]
  rw [e, List.take_append_drop]
theorem wr_first (cs : List (List Int × Int)) (cols : Int) : (at0 (wrS cs cols) 0).toNat = 0 := by
  have h := stF_ok cs cols cs.length
  have h1 := h.one
  unfold wrS
  rw [at0_app, if_neg (by omega), h.at00]
  rfl
theorem wr_end (cs : List (List Int × Int)) (cols : Int) : (at0 (wrS cs cols) (stF cs cols cs.length).1.length).toNat = cs.length := by
  unfold wrS
  rw [at0_app, if_pos rfl]
  simp
theorem sub_R (cs : List (List Int × Int)) (s e j : Nat) (hj : s + j < e) : cR ((cs.take e).drop s) j = cR cs (s + j) ∧ cW ((cs.take e).drop s) j = cW cs (s + j) := by
  unfold cR cW
  rw [List.getElem?_drop, List.getElem?_take, if_pos hj]
  exact ⟨rfl, rfl⟩
theorem sumR_sub (cs : List (List Int × Int)) (s e : Nat) : ∀ j, s + j ≤ e → sumR ((cs.take e).drop s) j + sumR cs s = sumR cs (s + j)
  | 0, _ => by simp [sumR]
  | j + 1, h => by
    have := sumR_sub cs s e j (by omega)
    rw [sumR, (sub_R cs s e j (by omega)).1, ← Nat.add_assoc, sumR]
    omega
theorem toBA_app2 (xs ys : List Int) : toBA xs ++ toBA ys = toBA (xs ++ ys) := by
  have h : (toBA xs ++ toBA ys).data.toList = (toBA (xs ++ ys)).data.toList := by
    rw [toBA_list, List.map_append, ← toBA_list, ← toBA_list]
    simp
  have h2 := Array.toList_inj.1 h
  cases h3 : toBA xs ++ toBA ys
  cases h4 : toBA (xs ++ ys)
  rw [h3, h4] at h2
  simp at h2
  rw [h2]
end Go.Proofs.YtgdadidppelgdaaGreatDoor

namespace Go.Proofs.YtgdadidppelgdaaGreatDoor
open Go.RowKit

/-- The clusters of a text. -/
def cutC (bs : List Int) : List (List Int × Int) := clusC (cleanL bs)
/-- Every cluster has a width of 1 or 2. -/
def Wides (cs : List (List Int × Int)) : Prop := ∀ j, j < cs.length → 1 ≤ cW cs j ∧ cW cs j ≤ 2
theorem cW_none (cs : List (List Int × Int)) (j : Nat) (h : cs.length ≤ j) : cW cs j = 0 := by simp [cW, List.getElem?_eq_none h]
theorem Wides.all {cs : List (List Int × Int)} (h : Wides cs) (j : Nat) : 0 ≤ cW cs j ∧ cW cs j ≤ 2 := by
  by_cases hj : j < cs.length
  · have := h j hj; omega
  · rw [cW_none cs j (by omega)]; omega
theorem cW_app (xs ys : List (List Int × Int)) (j : Nat) : cW (xs ++ ys) j = if j < xs.length then cW xs j else cW ys (j - xs.length) := by
  unfold cW
  split
  · rename_i h; rw [List.getElem?_append_left h]
  · rename_i h; rw [List.getElem?_append_right (by omega)]
theorem cR_app (xs ys : List (List Int × Int)) (j : Nat) : cR (xs ++ ys) j = if j < xs.length then cR xs j else cR ys (j - xs.length) := by
  unfold cR
  split
  · rename_i h; rw [List.getElem?_append_left h]
  · rename_i h; rw [List.getElem?_append_right (by omega)]
theorem Wides.app {xs ys : List (List Int × Int)} (hx : Wides xs) (hy : Wides ys) : Wides (xs ++ ys) := by
  intro j hj
  rw [cW_app]
  split
  · rename_i h; exact hx j h
  · rename_i h; simp at hj; exact hy _ (by omega)
theorem clF_pos (xs : List Int) : ∀ k j, j < (clF xs k).length → 1 ≤ cW (clF xs k) j
  | 0, j, h => by simp [clF] at h
  | k + 1, j, h => by
    have ih := clF_pos xs k
    rw [clF, clStep] at h ⊢
    split
    · rename_i h1
      rw [if_pos h1] at h
      rw [cW_push]
      split
      · omega
      · rename_i h2; simp at h; exact ih j (by omega)
    · rename_i h1
      rw [if_neg h1] at h
      split
      · rename_i h2
        rw [if_pos h2] at h
        simp at h
        subst h
        simp [cW]
      · rename_i h2
        rw [if_neg h2] at h
        simp at h
        rw [cW_set _ _ _ _ (by omega)]
        split
        · exact ih _ (by omega)
        · exact ih j h
theorem cutC_wides (bs : List Int) : Wides (cutC bs) := fun j hj => ⟨clF_pos _ _ j hj, (clF_wid _ _ j).2⟩
theorem pw_strict {cs : List (List Int × Int)} (h : Wides cs) {s e : Nat} (hse : s < e) (he : e ≤ cs.length) : pw cs s < pw cs e := by
  have h1 := pw_mono cs h.all s (e - 1) (by omega)
  have h2 := h (e - 1) (by omega)
  obtain ⟨k, rfl⟩ : ∃ k, e = k + 1 := ⟨e - 1, by omega⟩
  rw [pw]
  simp at h1 h2
  omega
/-- The row of a place, of the first i starts. -/
def rwF (S : List Int) (p : Int) : Nat → Nat
  | 0 => 0
  | i + 1 => if at0 S i ≤ p then i else rwF S p i
theorem rwF_lt (S : List Int) (p : Int) : ∀ i, 0 < i → rwF S p i < i
  | 0, h => by omega
  | i + 1, _ => by
    rw [rwF]
    split
    · omega
    · by_cases h0 : i = 0
      · subst h0; simp [rwF]
      · have := rwF_lt S p i (by omega); omega
theorem rwF_le (S : List Int) (p : Int) (h0 : at0 S 0 ≤ p) : ∀ i, at0 S (rwF S p i) ≤ p
  | 0 => h0
  | i + 1 => by
    rw [rwF]
    split
    · assumption
    · exact rwF_le S p h0 i
theorem rwF_above (S : List Int) (p : Int) : ∀ i j, rwF S p i < j → j < i → p < at0 S j
  | 0, j, _, h => by omega
  | i + 1, j, h1, h2 => by
    rw [rwF] at h1
    split at h1
    · omega
    · rename_i h
      by_cases e : j = i
      · subst e; omega
      · exact rwF_above S p i j h1 (by omega)
/-- The one row that holds a place. -/
theorem rwF_only {S : List Int} {p : Int} {m i : Nat} (hm : i < m) (h1 : at0 S i ≤ p) (h2 : ∀ j, i < j → j < m → p < at0 S j) (h0 : at0 S 0 ≤ p) : rwF S p m = i := by
  have a := rwF_lt S p m (by omega)
  have b := rwF_le S p h0 m
  by_cases e : rwF S p m < i
  · have := rwF_above S p m i e hm; omega
  · by_cases e2 : i < rwF S p m
    · have := h2 _ e2 a; omega
    · omega
section
variable (cs : List (List Int × Int)) (cols : Nat) (p rows : Nat)
def stS : List Int := (stF cs cols cs.length).1
def layRow0 : Nat := rwF (stS cs cols) p (stS cs cols).length
def layCol0 : Int := pw cs p - pw cs (at0 (stS cs cols) (layRow0 cs cols p)).toNat
/-- The cursor stands behind a full last row. -/
def LayFull : Prop := p = cs.length ∧ layCol0 cs cols p = cols
abbrev layD : Decidable (LayFull cs cols p) := inferInstanceAs (Decidable (p = cs.length ∧ layCol0 cs cols p = cols))
def layS : List Int := @ite _ (LayFull cs cols p) (layD cs cols p) (stS cs cols ++ [(p : Int)]) (stS cs cols)
def layRow : Nat := @ite _ (LayFull cs cols p) (layD cs cols p) (layRow0 cs cols p + 1) (layRow0 cs cols p)
def layCol : Int := @ite _ (LayFull cs cols p) (layD cs cols p) (0) (layCol0 cs cols p)
def layFr : Nat := layRow cs cols p + 1 - rows
def layCnt : Nat := min (layFr cs cols p rows + rows) (layS cs cols p).length - layFr cs cols p rows
/-- The clusters of row i. -/
def layC (i : Nat) : List (List Int × Int) := (cs.take (at0 (layS cs cols p ++ [(cs.length : Int)]) (i + 1)).toNat).drop (at0 (layS cs cols p ++ [(cs.length : Int)]) i).toNat
def layT (i : Nat) : ByteArray := toBA (textC (layC cs cols p (layFr cs cols p rows + i)))
end
variable {cs : List (List Int × Int)} {cols p : Nat}
theorem stS_row (hw : Wides cs) (hc : 2 ≤ cols) : RowOk cs cols (stS cs cols) (stF cs cols cs.length).2 cs.length := rowOk cs cols (by omega) hw.all cs.length
theorem layRow0_lt : layRow0 cs cols p < (stS cs cols).length := rwF_lt _ _ _ (by have := (stF_ok cs cols cs.length).one; exact this)
theorem stS_zero : at0 (stS cs cols) 0 = 0 := (stF_ok cs cols cs.length).at00
theorem layRow0_le : at0 (stS cs cols) (layRow0 cs cols p) ≤ (p : Int) := rwF_le _ _ (by rw [stS_zero]; omega) _
theorem layRow0_above {j : Nat} (h1 : layRow0 cs cols p < j) (h2 : j < (stS cs cols).length) : (p : Int) < at0 (stS cs cols) j := rwF_above _ _ _ _ h1 h2
theorem stS_nonneg {i : Nat} (hi : i < (stS cs cols).length) : 0 ≤ at0 (stS cs cols) i ∧ at0 (stS cs cols) i ≤ (cs.length : Int) := (stF_ok cs cols cs.length).le i hi
/-- The program's test for a full row is the specification's. -/
theorem full_iff (hw : Wides cs) (hc : 2 ≤ cols) (hp : p ≤ cs.length) : LayFull cs cols p ↔ layCol0 cs cols p = cols := by
  refine ⟨fun h => h.2, fun h => ⟨?_, h⟩⟩
  by_cases e : p = cs.length
  · exact e
  exfalso
  have hlt := layRow0_lt (cs := cs) (cols := cols) (p := p)
  have hle := layRow0_le (cs := cs) (cols := cols) (p := p)
  have ok := stS_row hw hc
  have hn := stS_nonneg hlt
  unfold layCol0 at h
  by_cases hl : layRow0 cs cols p + 1 < (stS cs cols).length
  · have h1 := (ok.rows _ hl).1
    have h2 := layRow0_above (cs := cs) (cols := cols) (p := p) (show layRow0 cs cols p < layRow0 cs cols p + 1 by omega) hl
    have h3 := stS_nonneg hl
    have h4 := pw_strict hw (s := p) (e := (at0 (stS cs cols) (layRow0 cs cols p + 1)).toNat) (by omega) (by omega)
    omega
  · have h1 := ok.le
    have h2 := ok.eq
    have h3 : (stS cs cols).length - 1 = layRow0 cs cols p := by omega
    rw [h3] at h2
    have h4 := pw_strict hw (s := p) (e := cs.length) (by omega) (Nat.le_refl _)
    omega
theorem layCol0_bd (hw : Wides cs) (hc : 2 ≤ cols) (hp : p ≤ cs.length) : 0 ≤ layCol0 cs cols p ∧ layCol0 cs cols p ≤ cols := by
  have hlt := layRow0_lt (cs := cs) (cols := cols) (p := p)
  have hle := layRow0_le (cs := cs) (cols := cols) (p := p)
  have ok := stS_row hw hc
  have hn := stS_nonneg hlt
  unfold layCol0
  have h0 := pw_mono cs hw.all (at0 (stS cs cols) (layRow0 cs cols p)).toNat p (by omega)
  refine ⟨by omega, ?_⟩
  by_cases hl : layRow0 cs cols p + 1 < (stS cs cols).length
  · have h1 := (ok.rows _ hl).1
    have h2 := layRow0_above (cs := cs) (cols := cols) (p := p) (show layRow0 cs cols p < layRow0 cs cols p + 1 by omega) hl
    have h3 := stS_nonneg hl
    have h4 := pw_mono cs hw.all p (at0 (stS cs cols) (layRow0 cs cols p + 1)).toNat (by omega)
    omega
  · have h1 := ok.le
    have h2 := ok.eq
    have h3 : (stS cs cols).length - 1 = layRow0 cs cols p := by omega
    rw [h3] at h2
    have h4 := pw_mono cs hw.all p cs.length hp
    omega
theorem layS_len : (layS cs cols p).length ≤ cs.length + 2 := by
  have := (stF_ok cs cols cs.length).len
  unfold layS
  split
  · simp [stS]; omega
  · simp [stS]; omega
theorem layRow_lt : layRow cs cols p < (layS cs cols p).length := by
  have := layRow0_lt (cs := cs) (cols := cols) (p := p)
  unfold layRow layS
  split
  · simp; omega
  · exact this
/-- The width of clusters together. -/
def wsum (cs : List (List Int × Int)) : Int := pw cs cs.length
theorem pw_app (xs ys : List (List Int × Int)) : ∀ k, k ≤ xs.length → pw (xs ++ ys) k = pw xs k
  | 0, _ => rfl
  | k + 1, h => by rw [pw, pw, pw_app xs ys k (by omega), cW_app, if_pos (by omega)]
theorem pw_sub (cs : List (List Int × Int)) (s e : Nat) : ∀ j, s + j ≤ e → pw ((cs.take e).drop s) j = pw cs (s + j) - pw cs s
  | 0, _ => by simp [pw]
  | j + 1, h => by rw [pw, pw_sub cs s e j (by omega), (sub_R cs s e j (by omega)).2, ← Nat.add_assoc, pw]; omega
theorem wsum_sub (cs : List (List Int × Int)) (s e : Nat) (hse : s ≤ e) (he : e ≤ cs.length) : wsum ((cs.take e).drop s) = pw cs e - pw cs s := by
  unfold wsum
  rw [List.length_drop, List.length_take, show min e cs.length - s = e - s by omega, pw_sub cs s e _ (by omega), show s + (e - s) = e by omega]
end Go.Proofs.YtgdadidppelgdaaGreatDoor

namespace Go.Proofs.YtgdadidppelgdaaGreatDoor
open Go.RowKit

theorem cutC_len (bs : List Int) : (cutC bs).length ≤ bs.length := Nat.le_trans (clF_len _ _) (cleanL_len bs)
theorem cutC_fit (bs : List Int) : (cutC bs).length + sumR (cutC bs) (cutC bs).length ≤ 2 * bs.length + 1 := by
  have h1 := clF_sum (cleanL bs) (cleanL bs).length
  have h2 := cleanL_len bs
  have h3 := cutC_len bs
  have h4 : sumR (cutC bs) (cutC bs).length ≤ (cleanL bs).length + 1 := h1
  omega
theorem cutC_runes (bs : List Int) (j : Nat) : (cR (cutC bs) j).length ≤ bs.length + 1 := by
  have h1 := clF_runes (cleanL bs) (cleanL bs).length j
  have h2 := cleanL_len bs
  have h3 : (cR (cutC bs) j).length ≤ (cleanL bs).length + 1 := h1
  omega
theorem cutC_i32 (bs : List Int) (j : Nat) : I32s (cR (cutC bs) j) := clF_i32 _ _ j
theorem sumR_left (xs ys : List (List Int × Int)) : ∀ k, k ≤ xs.length → sumR (xs ++ ys) k = sumR xs k
  | 0, _ => rfl
  | k + 1, h => by rw [sumR, sumR, sumR_left xs ys k (by omega), cR_app, if_pos (by omega)]
theorem sumR_right (xs ys : List (List Int × Int)) : ∀ k, k ≤ ys.length → sumR (xs ++ ys) (xs.length + k) = sumR xs xs.length + sumR ys k
  | 0, _ => by rw [Nat.add_zero, sumR_left xs ys _ (Nat.le_refl _)]; rfl
  | k + 1, h => by
    rw [← Nat.add_assoc, sumR, sumR_right xs ys k (by omega), cR_app, if_neg (by omega), show xs.length + k - xs.length = k by omega, sumR]
    omega
/-- What holds of the clusters of texts. -/
structure Cuts (cs : List (List Int × Int)) (N : Nat) : Prop where
  wide : Wides cs
  len : cs.length ≤ N
  sum : cs.length + sumR cs cs.length ≤ 2 * N + N
  runes : ∀ j, (cR cs j).length ≤ N + 1
  i32 : ∀ j, I32s (cR cs j)
theorem cuts_one (bs : List Int) : Cuts (cutC bs) (bs.length + 1) :=
  ⟨cutC_wides bs, by have := cutC_len bs; omega, by have := cutC_fit bs; omega, fun j => by have := cutC_runes bs j; omega, cutC_i32 bs⟩
theorem Cuts.app {xs ys : List (List Int × Int)} {N M : Nat} (hx : Cuts xs N) (hy : Cuts ys M) : Cuts (xs ++ ys) (N + M) := by
  have h1 := hx.len
  have h2 := hy.len
  have h3 := hx.sum
  have h4 := hy.sum
  refine ⟨hx.wide.app hy.wide, by rw [List.length_append]; omega, ?_, fun j => ?_, fun j => ?_⟩
  · rw [List.length_append, sumR_right xs ys _ (Nat.le_refl _)]
    omega
  · rw [cR_app]
    split
    · have := hx.runes j; omega
    · have := hy.runes (j - xs.length); omega
  · rw [cR_app]
    split
    · exact hx.i32 j
    · exact hy.i32 _
theorem sumR_up (cs : List (List Int × Int)) (k : Nat) : ∀ n, k ≤ n → sumR cs k ≤ sumR cs n := by
  intro n
  induction n with
  | zero => intro h; rw [show k = 0 by omega]; exact Nat.le_refl _
  | succ n ih =>
    intro h
    by_cases e : k = n + 1
    · subst e; exact Nat.le_refl _
    · have := ih (by omega); rw [sumR]; omega
theorem Cuts.part {cs : List (List Int × Int)} {N : Nat} (h : Cuts cs N) (s e : Nat) : ((cs.take e).drop s).length + sumR ((cs.take e).drop s) ((cs.take e).drop s).length ≤ 3 * N ∧ ∀ j, I32s (cR ((cs.take e).drop s) j) := by
  have h1 := h.sum
  have hl : ((cs.take e).drop s).length = min e cs.length - s := by simp
  refine ⟨?_, fun j => ?_⟩
  · by_cases hse : s ≤ min e cs.length
    · have e1 := sumR_sub cs s e (min e cs.length - s) (by omega)
      have e2 := sumR_up cs (s + (min e cs.length - s)) cs.length (by omega)
      rw [hl]
      omega
    · have h0 : (cs.take e).drop s = [] := List.eq_nil_of_length_eq_zero (by omega)
      rw [h0]
      simp [sumR]
  · unfold cR
    cases hj : ((cs.take e).drop s)[j]? with
    | none => intro x hx; cases hx
    | some u =>
      obtain ⟨q, hq⟩ := List.mem_iff_getElem?.1 (List.mem_of_mem_take (List.mem_of_mem_drop (List.mem_of_getElem? hj)))
      have := h.i32 q
      unfold cR at this
      rw [hq] at this
      exact this
set_option maxRecDepth 10000 in
set_option maxHeartbeats 1000000 in
theorem l4Cut_any (bs : List Int) (hb : Bytes bs) (w : World) (hl : bs.length ≤ 8000000) :
    Calls Tryz.prog 78 #[.string (toBA bs)] w fun e w' => ∃ v rs, e = .returned v ∧ OwnCls w' w.heap.size v rs (cutC bs) ∧ Ext w w' := by
  obtain ⟨v0, w0, hrun, h0, E0⟩ := run_s2i (P := Tryz.prog) w _ _ _ Tryz.underlying9 Tryz.underlying25 Tryz.underlying5 bs hb
  have hcl := cleanL_len bs
  have H0 := hide h0
  go_enter Tryz.func78, Tryz.ntmps78
  go_wp2_with fail
  refine (specClean_any bs hb v0 w0 (unhide H0) (by omega)).mono ?_
  rintro e w1 ⟨v1, rfl, o1, E1⟩
  go_wp2_with fail
  refine (specClusters_any v1 (cleanL bs) w1 (ints_of_owns o1) (cleanL_i32 bs) (by omega)).mono ?_
  rintro e w2 ⟨v2, rs2, rfl, o2, E2⟩
  have O2 := hide o2
  clear o1 o2
  go_wp2
  go_ret
  exact ⟨_, _, rfl, OwnCls.mono (unhide O2) (E0.trans E1).size, (E0.trans E1).trans E2⟩
set_option maxRecDepth 10000 in
set_option maxHeartbeats 1000000 in
theorem clustersOf_any (bs : List Int) (hb : Bytes bs) (w : World) (hl : bs.length ≤ 8000000) (hT : Laid w) :
    Calls Tryz.prog 110 #[.string (toBA bs)] w fun e w' => ∃ v rs, e = .returned v ∧ OwnCls w' w.heap.size v rs (cutC bs) ∧ Ext w w' := by
  obtain ⟨v0, w0, hrun, h0, E0⟩ := run_s2i (P := Tryz.prog) w _ _ _ Tryz.underlying9 Tryz.underlying25 Tryz.underlying5 bs hb
  have hcl := cleanL_len bs
  have H0 := hide h0
  have HT := hide hT
  go_enter Tryz.func110, Tryz.ntmps110
  go_wp2_with fail
  refine (implClean_any bs hb v0 w0 (unhide H0) (by omega)).mono ?_
  rintro e w1 ⟨v1, rfl, o1, E1⟩
  have T1 := hide ((unhide HT).below (E0.trans E1).below)
  go_wp2_with fail
  refine (implClusters_any v1 (cleanL bs) w1 (ints_of_owns o1) (cleanL_i32 bs) (by omega) (unhide T1)).mono ?_
  rintro e w2 ⟨v2, rs2, rfl, o2, E2⟩
  have O2 := hide o2
  clear o1 o2
  go_wp2
  go_ret
  exact ⟨_, _, rfl, OwnCls.mono (unhide O2) (E0.trans E1).size, (E0.trans E1).trans E2⟩
/-- The cells of clusters. -/
theorem OwnCls.ys {w : World} {b : Nat} {v : Value} {rs : List Value} {cs : List (List Int × Int)} (h : OwnCls w b v rs cs) : ∃ ys, w.ownsRow b 139 2 v cs.length ys ∧ (∀ j, j < cs.length → ys[j * 2]? = some (rV rs j) ∧ ys[j * 2 + 1]? = some (.int .i64 (cW cs j))) ∧ Src w 2 v cs.length ys := by
  obtain ⟨h0, ⟨ys, h1, h2⟩, h3, h4⟩ := h
  refine ⟨ys, h1, h2, h1.1, fun u hu => ?_, ?_⟩
  · obtain ⟨i, hi⟩ := List.mem_iff_getElem?.1 hu
    have hil : i < cs.length * 2 := by rw [← h1.1]; exact (List.getElem?_eq_some_iff.1 hi).1
    have hj := h2 (i / 2) (by omega)
    rcases Nat.mod_two_eq_zero_or_one i with e | e
    · rw [show i / 2 * 2 = i by omega, hi] at hj
      obtain rfl := Option.some.inj hj.1
      rcases (h3 (i / 2) (by omega)).2 with ⟨e2, _⟩ | ⟨g, cap, cur, e2, _⟩ <;> rw [e2] <;> rfl
    · rw [show i / 2 * 2 + 1 = i by omega, hi] at hj
      obtain rfl := Option.some.inj hj.2
      rfl
  · rcases h1.2 with ⟨rfl, e0⟩ | ⟨g, cap, cur, rfl, _⟩
    · exact .inl ⟨0, rfl, e0⟩
    · exact .inr ⟨_, cap, rfl, h1.cells rfl⟩
/-- Clusters appended to clusters. -/
theorem OwnCls.append {w w' : World} {b b2 : Nat} {v1 v2 v' : Value} {rs1 rs2 : List Value} {cs1 cs2 : List (List Int × Int)} {ys1 ys2 : List Value} (h1 : OwnCls w b v1 rs1 cs1) (h2 : OwnCls w b2 v2 rs2 cs2) (hb : b ≤ b2) (hlt : ∀ g, Foot v1 rs1 cs1.length g → g < b2)
    (o1 : w.ownsRow b 139 2 v1 cs1.length ys1) (k1 : ∀ j, j < cs1.length → ys1[j * 2]? = some (rV rs1 j) ∧ ys1[j * 2 + 1]? = some (.int .i64 (cW cs1 j))) (k2 : ∀ j, j < cs2.length → ys2[j * 2]? = some (rV rs2 j) ∧ ys2[j * 2 + 1]? = some (.int .i64 (cW cs2 j)))
    (o' : w'.ownsRow b 139 2 v' (cs1.length + cs2.length) (ys1 ++ ys2)) (hg : w.grownBy w' v1.ownBlock) : OwnCls w' b v' (rs1 ++ rs2) (cs1 ++ cs2) := by
  have l1 : rs1.length = cs1.length := h1.1
  have l2 : rs2.length = cs2.length := h2.1
  have ly : ys1.length = cs1.length * 2 := o1.1
  have fr : Fr (fun g => v1.ownBlock = some g) w w' := (Fr.refl _ w).grown hg (fun k hk => hk)
  have rv : ∀ j, rV (rs1 ++ rs2) j = if j < cs1.length then rV rs1 j else rV rs2 (j - cs1.length) := by
    intro j
    unfold rV
    split
    · rename_i h; rw [List.getElem?_append_left (by omega)]
    · rename_i h; rw [List.getElem?_append_right (by omega), l1]
  have lt1 : ∀ j g, j < cs1.length → (rV rs1 j).ownBlock = some g → g < b2 := fun j g hj hgg => hlt g (.inr ⟨j, hj, hgg⟩)
  have ge2 : ∀ j g, j < cs2.length → (rV rs2 j).ownBlock = some g → b2 ≤ g := fun j g hj hgg => ((h2.2.2.1 j hj).lt g hgg).1
  refine ⟨by simp [l1, l2], ⟨_, by rw [List.length_append]; exact o', fun j hj => ?_⟩, fun j hj => ?_, fun i j g hij hj => ?_⟩
  · rw [rv, cW_app]
    split
    · rename_i h
      have := k1 j h
      rw [List.getElem?_append_left (by omega), List.getElem?_append_left (by omega)]
      exact this
    · rename_i h
      simp at hj
      have := k2 (j - cs1.length) (by omega)
      rw [List.getElem?_append_right (by omega), List.getElem?_append_right (by omega), ly, show j * 2 - cs1.length * 2 = (j - cs1.length) * 2 by omega, show j * 2 + 1 - cs1.length * 2 = (j - cs1.length) * 2 + 1 by omega]
      exact this
  · rw [rv, cR_app]
    split
    · rename_i h
      exact fr.owns (h1.2.2.1 j h) (fun g hgg e => owns_apart o1 (h1.2.2.1 j h) (by decide) e hgg)
    · rename_i h
      simp at hj
      refine owns_mono (fr.owns (h2.2.2.1 _ (by omega)) (fun g hgg e => ?_)) hb
      have a := ge2 _ g (by omega) hgg
      have c := hlt g (.inl e)
      omega
  · rw [rv, rv]
    simp at hj
    intro hi
    by_cases hi1 : i < cs1.length
    · rw [if_pos hi1] at hi
      by_cases hj1 : j < cs1.length
      · rw [if_pos hj1]
        exact h1.2.2.2 i j g hij hj1 hi
      · rw [if_neg hj1]
        intro e
        have a := lt1 i g hi1 hi
        have c := ge2 _ g (by omega) e
        omega
    · rw [if_neg hi1] at hi
      rw [if_neg (by omega)]
      exact h2.2.2.2 _ _ g (by omega) (by omega) hi
/-- Where clusters lie. -/
theorem OwnCls.lt {w : World} {b : Nat} {v : Value} {rs : List Value} {cs : List (List Int × Int)} (h : OwnCls w b v rs cs) {g : Nat} (hg : Foot v rs cs.length g) : b ≤ g ∧ g < w.heap.size := by
  rcases hg with hg | ⟨j, hj, hg⟩
  · obtain ⟨ys, o, _⟩ := h.2.1
    exact o.lt g hg
  · exact (h.2.2.1 j hj).lt g hg
end Go.Proofs.YtgdadidppelgdaaGreatDoor

namespace Go.Proofs.YtgdadidppelgdaaGreatDoor
open Go.ChangeShapes Go.WideShapes Go.ChangeAt Go.RowKit Go.Deep

/-- A block's value. -/
def blV (v : Value) (row col : Int) : Value := .agg #[v, .int .i64 row, .int .i64 col]
end Go.Proofs.YtgdadidppelgdaaGreatDoor

namespace Go.Proofs.YtgdadidppelgdaaGreatDoor
open Go.RowKit

set_option maxRecDepth 10000 in
set_option maxHeartbeats 1000000 in
theorem widthOf_any (v : Value) (cs : List (List Int × Int)) (w : World) (hv : ClsAt w v cs) (hl : cs.length ≤ 16777216) (hW : ∀ j, 0 ≤ cW cs j ∧ cW cs j ≤ 2) :
    Calls Tryz.prog 172 #[v] w fun e w' => e = .returned (.int .i64 (wsum cs)) ∧ Ext w w' := by
  obtain ⟨ra, ao, ca, rfl, hca, hra, hxa⟩ := hv
  have HF : Hid (wsum cs = pw cs cs.length) := rfl
  obtain ⟨n, hn⟩ : ∃ n, n = cs.length := ⟨_, rfl⟩
  rw [← hn] at hca hra hxa hl HF ⊢
  have HX := hide hxa
  have HR := hide hra
  have HB := hide (pw_bd cs hW)
  have HW := hide hW
  clear hn hxa hra hW
  go_enter Tryz.func172, Tryz.ntmps172
  go_wp2
  go_loopw [3, 8] (fun s i wr => ∃ k : Nat, k ≤ n ∧ i = .int .i64 k ∧ s = .int .i64 (pw cs k) ∧ Ext w wr) (fun _ i _ => n - (intOf i).toNat)
  case atStart => exact ⟨0, Nat.zero_le _, rfl, rfl, Ext.refl _⟩
  case round =>
    obtain ⟨k, hk, rfl, rfl, hext⟩ := hrel
    by_cases hlt : k < n
    · obtain ⟨b, off, hao, hc⟩ := (unhide HX) (by omega)
      subst hao
      have g1 := hext.cell (hc k hlt).1
      have g2 := hext.cell (hc k hlt).2
      obtain ⟨a2, c2, hrv, hc2, hrx⟩ := (unhide HR) k hlt
      rw [hrv] at g1
      clear hc hrx hrv hc2
      have bk : (k : Int) < (n : Int) := by omega
      have b1 := (unhide HB) k
      have b2 := (unhide HW) k
      have hst : Hid (pw cs (k + 1) = pw cs k + cW cs k) := rfl
      go_wp2
      go_roundw
      case rel => exact ⟨k + 1, by omega, by go_num, by rw [unhide hst], hext.alloc _⟩
      case measure => simp [intOf]; omega
    · obtain rfl : k = n := by omega
      have hb9 : ¬ (k : Int) < (k : Int) := by omega
      go_wp2
      go_ret
      exact ⟨ret_int (unhide HF).symm, hext⟩
/-- Rows of clusters, row i of them from place S i on up to S (i + 1). -/
def rowsC (cs : List (List Int × Int)) (S : List Int) (i : Nat) : List (List Int × Int) := (cs.take (at0 S (i + 1)).toNat).drop (at0 S i).toNat
theorem rowsC_len (cs : List (List Int × Int)) (S : List Int) (i : Nat) (h : (at0 S (i + 1)).toNat ≤ cs.length) : (rowsC cs S i).length = (at0 S (i + 1)).toNat - (at0 S i).toNat := by
  unfold rowsC
  rw [List.length_drop, List.length_take]
  omega
theorem ClsAt.take {w : World} {ao : Option Addr} {c n : Nat} {cs : List (List Int × Int)} (h : ClsAt w (.slice ao n c) cs) (x : Nat) (hx : x ≤ cs.length) : ClsAt w (.slice ao x c) (cs.take x) := by
  obtain ⟨rs, ao', cap, e, hc, hr, hcell⟩ := h
  simp only [Value.slice.injEq] at e
  obtain ⟨rfl, rfl, rfl⟩ := e
  have hl : (cs.take x).length = x := by simp; omega
  have hR : ∀ j, j < x → cR (cs.take x) j = cR cs j ∧ cW (cs.take x) j = cW cs j := fun j hj => by
    unfold cR cW
    rw [List.getElem?_take_of_lt hj]
    exact ⟨rfl, rfl⟩
  refine ⟨rs, ao, c, by rw [hl], by omega, fun j hj => ?_, fun hp => ?_⟩
  · rw [(hR j (by omega)).1]
    exact hr j (by omega)
  · obtain ⟨b, off, e2, h2⟩ := hcell (by omega)
    refine ⟨b, off, e2, fun j hj => ?_⟩
    rw [(hR j (by omega)).2]
    exact h2 j (by omega)
theorem wsum_row (cs : List (List Int × Int)) (S : List Int) (i x : Nat) (hx : x ≤ (at0 S (i + 1)).toNat - (at0 S i).toNat) (hle : (at0 S i).toNat ≤ (at0 S (i + 1)).toNat) (hS : (at0 S (i + 1)).toNat ≤ cs.length) : wsum ((rowsC cs S i).take x) = pw cs ((at0 S i).toNat + x) - pw cs (at0 S i).toNat := by
  have e : (rowsC cs S i).take x = (cs.take ((at0 S i).toNat + x)).drop (at0 S i).toNat := by
    unfold rowsC
    rw [List.take_drop, List.take_take]
    congr 2
    omega
  rw [e, wsum_sub cs _ _ (by omega) (by omega)]
theorem pw_take (cs : List (List Int × Int)) (x : Nat) : ∀ j, j ≤ x → pw (cs.take x) j = pw cs j
  | 0, _ => rfl
  | j + 1, h => by
    rw [pw, pw, pw_take cs x j (by omega)]
    unfold cW
    rw [List.getElem?_take_of_lt (by omega)]
/-- The starts and the end. -/
def stE (S : List Int) (cs : List (List Int × Int)) : List Int := S ++ [(cs.length : Int)]
set_option maxRecDepth 10000 in
set_option maxHeartbeats 4000000 in
theorem placeOf_any (v : Value) (cs : List (List Int × Int)) (cols p : Nat) (w : World) (hw : Wides cs) (hc : 2 ≤ cols) (hp : p ≤ cs.length) (hl : cs.length ≤ 16777216)
    (hv : CssAt w v (stS cs cols).length (rowsC cs (stS cs cols ++ [(cs.length : Int)]))) :
    Calls Tryz.prog 138 #[.int .i64 p, v] w fun e w' => e = .returned (.tuple #[.int .i64 (layRow0 cs cols p), .int .i64 (layCol0 cs cols p)]) ∧ Ext w w' := by
  have h1 : 1 ≤ (stS cs cols).length := (stF_ok cs cols cs.length).one
  have hlen : (stS cs cols).length ≤ cs.length + 1 := (stF_ok cs cols cs.length).len
  have atT : ∀ i, i < (stS cs cols).length → at0 (stS cs cols ++ [(cs.length : Int)]) i = at0 (stS cs cols) i := fun i hi => by rw [at0_app, if_neg (by omega)]
  have atE : at0 (stS cs cols ++ [(cs.length : Int)]) (stS cs cols).length = (cs.length : Int) := by rw [at0_app, if_pos rfl]
  have hmono : ∀ i, i + 1 < (stS cs cols).length → at0 (stS cs cols) i < at0 (stS cs cols) (i + 1) := fun i hi => ((stS_row hw hc).rows i hi).2.2
  have hnn := fun i hi => stS_nonneg (cs := cs) (cols := cols) (i := i) hi
  have hrow0 : ∀ i, i < (stS cs cols).length → at0 (stS cs cols) i ≤ (p : Int) → (∀ j, i < j → j < (stS cs cols).length → (p : Int) < at0 (stS cs cols) j) → layRow0 cs cols p = i ∧ layCol0 cs cols p = pw cs p - pw cs (at0 (stS cs cols) i).toNat := by
    intro i hi a b
    have e := rwF_only (S := stS cs cols) (p := p) hi a b (by rw [stS_zero]; omega)
    have e2 : layRow0 cs cols p = i := e
    exact ⟨e2, by unfold layCol0; rw [e2]⟩
  have hmono2 : ∀ d i, i + d < (stS cs cols).length → at0 (stS cs cols) i ≤ at0 (stS cs cols) (i + d) := by
    intro d
    induction d with
    | zero => intro i _; exact Int.le_refl _
    | succ d ih => intro i hi; have a := ih i (by omega); have b := hmono (i + d) (by omega); rw [← Nat.add_assoc]; omega
  obtain ⟨rv, ⟨ao, ca, rfl, hca, hxa⟩, hrw⟩ := hv
  obtain ⟨b, off, rfl, hcell⟩ := hxa (by omega)
  have HC := hide hcell
  have hS0 : at0 (stS cs cols) 0 = 0 := stS_zero
  clear hcell hxa
  generalize hS : stS cs cols = S at h1 hlen atT atE hmono hnn hrow0 hmono2 hca hrw HC hS0 ⊢
  obtain ⟨m, hm⟩ : ∃ m, S.length = m + 1 := ⟨S.length - 1, by omega⟩
  have hshape : ∀ i, i < m + 1 → ∃ ra rc, rv i = .slice ra ((at0 (S ++ [(cs.length : Int)]) (i + 1)).toNat - (at0 S i).toNat) rc ∧ ((at0 (S ++ [(cs.length : Int)]) (i + 1)).toNat - (at0 S i).toNat ≤ rc) ∧ ClsAt w (rv i) (rowsC cs (S ++ [(cs.length : Int)]) i) := by
    intro i hi
    have h := hrw i (by omega)
    obtain ⟨_, ra, rc, e, hc, _⟩ := id h
    have hle : (at0 (S ++ [(cs.length : Int)]) (i + 1)).toNat ≤ cs.length := by
      by_cases e2 : i + 1 < S.length
      · rw [atT _ e2]; have := hnn _ e2; omega
      · rw [show i + 1 = S.length by omega, atE]; simp
    rw [rowsC_len cs _ i hle, atT i (by omega)] at e hc
    exact ⟨ra, rc, e, hc, h⟩
  have hT1 : ∀ i, i < m → at0 (S ++ [(cs.length : Int)]) (i + 1) = at0 S (i + 1) := fun i hi => atT _ (by omega)
  have hwide : ∀ i x j, 0 ≤ cW ((rowsC cs (S ++ [(cs.length : Int)]) i).take x) j ∧ cW ((rowsC cs (S ++ [(cs.length : Int)]) i).take x) j ≤ 2 := by
    intro i x j
    unfold rowsC
    have : ∀ (l : List (List Int × Int)), (∀ u ∈ l, u ∈ cs) → 0 ≤ cW l j ∧ cW l j ≤ 2 := by
      intro l hl
      unfold cW
      cases hj : l[j]? with
      | none => simp
      | some u =>
        obtain ⟨q, hq⟩ := List.mem_iff_getElem?.1 (hl u (List.mem_of_getElem? hj))
        have := hw.all q
        unfold cW at this
        rw [hq] at this
        exact this
    exact this _ (fun u hu => List.mem_of_mem_take (List.mem_of_mem_drop (List.mem_of_mem_take hu)))
  have HSH := hide hshape
  have HWD := hide hwide
  have HMO := hide hmono
  have HM2 := hide hmono2
  have HNN := hide hnn
  have HT1 := hide hT1
  have HR0 := hide hrow0
  have HTE := hide atE
  rw [hm] at hca hlen ⊢
  clear hshape hwide hmono hmono2 hnn hT1 hrow0 atT atE hrw hS
  have hwm : IntKind.i64.wrap (((m + 1 : Nat) : Int) - 1) = (m : Int) := by rw [IntKind.wrap_i64]; omega
  go_enter Tryz.func138, Tryz.ntmps138
  go_wp2
  go_loopw [0, 16] (fun x i wr => ∃ k y : Nat, k ≤ m ∧ i = .int .i64 k ∧ x = .int .i64 y ∧ Hid ((p : Int) = at0 S k + (y : Int)) ∧ wr = w) (fun _ i _ => m - (intOf i).toNat)
  case atStart => exact ⟨0, p, Nat.zero_le _, rfl, rfl, hide (by rw [hS0]; simp), rfl⟩
  case round =>
    obtain ⟨k, y, hk, rfl, rfl, HP, rfl⟩ := hrel
    have h0 := (unhide HNN) k (by omega)
    obtain ⟨ra, rc, he, hrc, hcl⟩ := (unhide HSH) k (by omega)
    have g1 := (unhide HC) k (by omega)
    obtain ⟨s0, hs0⟩ : ∃ s0 : Nat, at0 S k = (s0 : Int) := ⟨(at0 S k).toNat, by omega⟩
    obtain ⟨s1, hs1⟩ : ∃ s1 : Nat, at0 (stE S cs) (k + 1) = (s1 : Int) := by
      by_cases e : k < m
      · have := (unhide HNN) (k + 1) (by omega)
        exact ⟨(at0 S (k + 1)).toNat, by show at0 (S ++ [(cs.length : Int)]) (k + 1) = _; rw [(unhide HT1) k e]; omega⟩
      · have e2 : k + 1 = S.length := by omega
        exact ⟨cs.length, by show at0 (S ++ [(cs.length : Int)]) (k + 1) = _; rw [e2, unhide HTE]⟩
    have hs01 : s0 ≤ s1 ∧ s1 ≤ cs.length := by
      have hq := hs1
      unfold stE at hq
      by_cases e : k < m
      · have a := (unhide HNN) (k + 1) (by omega)
        have b := (unhide HMO) k (by omega)
        rw [(unhide HT1) k e] at hq
        omega
      · rw [show k + 1 = S.length by omega, unhide HTE] at hq
        omega
    obtain ⟨L, hL⟩ : ∃ L, s1 = s0 + L := ⟨s1 - s0, by omega⟩
    have hLe : (at0 (S ++ [(cs.length : Int)]) (k + 1)).toNat - (at0 S k).toNat = L := by
      have hq := hs1
      unfold stE at hq
      rw [hq, hs0]
      omega
    rw [hLe] at he hrc
    rw [he] at g1 hcl
    have hpy : p = s0 + y := by have := unhide HP; omega
    have HCL := hide hcl
    have hrl : (rowsC cs (S ++ [(cs.length : Int)]) k).length = L := by
      have hq := hs1
      unfold stE at hq
      have e1 : at0 (S ++ [(cs.length : Int)]) k = (s0 : Int) := by rw [at0_app, if_neg (by omega), hs0]
      rw [rowsC_len _ _ _ (by rw [hq]; simp; omega), hq, e1]
      simp
      omega
    have hcolv : y ≤ L → wsum ((rowsC cs (S ++ [(cs.length : Int)]) k).take y) = pw cs p - pw cs (at0 S k).toNat := by
      intro hy
      have hq := hs1
      unfold stE at hq
      have e1 : at0 (S ++ [(cs.length : Int)]) k = (s0 : Int) := by rw [at0_app, if_neg (by omega), hs0]
      rw [wsum_row cs _ k y (by rw [hq, e1]; omega) (by rw [hq, e1]; omega) (by rw [hq]; omega), e1, hs0, hpy]
      rfl
    have HCV := hide hcolv
    have HRL := hide hrl
    have HS0 := hide hs0
    have HS1 := hide hs1
    clear hcl he hcolv hrl hLe hs1 hs0 h0
    by_cases hlt : k < m
    · have bk : (k : Int) < (m : Int) := by omega
      by_cases hin : y < L
      · have hfin : Hid (layRow0 cs cols p = k ∧ layCol0 cs cols p = pw cs p - pw cs (at0 S k).toNat) := by
          refine hide ((unhide HR0) k (by omega) (by rw [unhide HS0]; omega) (fun j hj hj2 => ?_))
          have a := (unhide HM2) (j - (k + 1)) (k + 1) (by omega)
          have hq := unhide HS1
          unfold stE at hq
          rw [show k + 1 + (j - (k + 1)) = j by omega, ← (unhide HT1) k hlt, hq] at a
          omega
        have hyL : (y : Int) < (L : Int) := by omega
        have hyc : (y : Int) ≤ (rc : Int) := by omega
        have hcon := hide (widthOf_any (.slice ra y rc) _ wr ((unhide HCL).take y (by rw [unhide HRL]; omega)) (by rw [List.length_take, unhide HRL]; omega) ((unhide HWD) k y))
        obtain ⟨b2, o2, rfl⟩ : ∃ b2 o2, ra = some ⟨b2, o2, none⟩ := by
          obtain ⟨_, ao', _, e, _, _, hx⟩ := unhide HCL
          obtain ⟨b2, o2, e2, _⟩ := hx (by rw [unhide HRL]; omega)
          simp only [Value.slice.injEq] at e
          exact ⟨b2, o2, by rw [e.1, e2]⟩
        go_wp2_with fail
        refine (unhide hcon).mono ?_
        rintro e w2 ⟨rfl, F2⟩
        go_wp2
        go_ret2
        refine ⟨?_, F2⟩
        rw [(unhide HCV) (by omega), (unhide hfin).1, (unhide hfin).2]
        rfl
      · have hyL : ¬ (y : Int) < (L : Int) := by omega
        have hwL : IntKind.i64.wrap ((y : Int) - (L : Int)) = ((y - L : Nat) : Int) := by rw [IntKind.wrap_i64]; omega
        have HP2 : Hid ((p : Int) = at0 S (k + 1) + ((y - L : Nat) : Int)) := by
          have hq := unhide HS1
          unfold stE at hq
          rw [(unhide HT1) k hlt] at hq
          refine hide ?_
          rw [hq]
          omega
        go_wp2
        go_roundw
        case rel => exact ⟨k + 1, y - L, by omega, by go_num, rfl, HP2, trivial⟩
        case measure => simp [intOf]; omega
    · obtain rfl : k = m := by omega
      have hb9 : ¬ (k : Int) < (k : Int) := by omega
      have hs1e : s1 = cs.length := by
        have hq := unhide HS1
        unfold stE at hq
        rw [show k + 1 = S.length by omega, unhide HTE] at hq
        omega
      have hyL : y ≤ L := by omega
      have hfin : Hid (layRow0 cs cols p = k ∧ layCol0 cs cols p = pw cs p - pw cs (at0 S k).toNat) := hide ((unhide HR0) k (by omega) (by rw [unhide HS0]; omega) (fun j hj hj2 => by omega))
      have hyc : (y : Int) ≤ (rc : Int) := by omega
      have hcon := hide (widthOf_any (.slice ra y rc) _ wr ((unhide HCL).take y (by rw [unhide HRL]; omega)) (by rw [List.length_take, unhide HRL]; omega) ((unhide HWD) k y))
      rcases Nat.eq_zero_or_pos L with hL0 | hL0
      · have hy0 : y = 0 := by omega
        subst hy0
        subst hL0
        cases ra
        all_goals
          go_wp2_with fail
          refine (unhide hcon).mono ?_
          rintro e w2 ⟨rfl, F2⟩
          go_wp2
          go_ret2
          refine ⟨?_, F2⟩
          have e9 := (unhide HCV) (by omega)
          rw [List.take_zero] at e9
          rw [e9, (unhide hfin).1, (unhide hfin).2]
          rfl
      · obtain ⟨b2, o2, rfl⟩ : ∃ b2 o2, ra = some ⟨b2, o2, none⟩ := by
          obtain ⟨_, ao', _, e, _, _, hx⟩ := unhide HCL
          obtain ⟨b2, o2, e2, _⟩ := hx (by rw [unhide HRL]; omega)
          simp only [Value.slice.injEq] at e
          exact ⟨b2, o2, by rw [e.1, e2]⟩
        go_wp2_with fail
        refine (unhide hcon).mono ?_
        rintro e w2 ⟨rfl, F2⟩
        go_wp2
        go_ret2
        refine ⟨?_, F2⟩
        rw [(unhide HCV) (by omega), (unhide hfin).1, (unhide hfin).2]
        rfl
set_option maxRecDepth 10000 in
set_option maxHeartbeats 2000000 in
theorem textsOf_any (v : Value) (R : Nat) (C : Nat → List (List Int × Int)) (w : World) (hv : CssAt w v R C) (hR : R ≤ 16777216) (hl : ∀ i, i < R → (C i).length + sumR (C i) (C i).length ≤ 16777216) (hI : ∀ i, i < R → ∀ j, j < (C i).length → I32s (cR (C i) j)) :
    Calls Tryz.prog 108 #[v] w fun e w' => ∃ v', e = .returned v' ∧ Own1 w' w.heap.size 9 v' R (fun i => .string (toBA (textC (C i)))) ∧ Ext w w' := by
  obtain ⟨ic, hic, hc0, hc1, hc2⟩ := info_parts infoStrs
  obtain ⟨rv, ⟨ao, ca, rfl, hca, hxa⟩, hrw⟩ := hv
  have HX := hide hxa
  have HRW := hide hrw
  have HL := hide hl
  have HI := hide hI
  clear hxa hrw hl hI
  go_enter Tryz.func108, Tryz.ntmps108
  go_wp2
  go_loopw [3, 8] (fun o i wr => ∃ k : Nat, k ≤ R ∧ i = .int .i64 k ∧ Hid (wr.ownsRow w.heap.size 9 1 o k (strL (fun i => toBA (textC (C i))) k)) ∧ Ext w wr) (fun _ i _ => R - (intOf i).toNat)
  case atStart => exact ⟨0, Nat.zero_le _, rfl, hide (owns_nil _ _ _ _), Ext.refl _⟩
  case round =>
    obtain ⟨k, hk, rfl, HO, hext⟩ := hrel
    have hsz := hext.size
    by_cases hlt : k < R
    · obtain ⟨b, off, hao, hc⟩ := (unhide HX) (by omega)
      subst hao
      have g1 := hext.cell (hc k hlt)
      clear hc
      have bk : (k : Int) < (R : Int) := by omega
      have hcon := hide (implTextOf_any (rv k) (C k) wr (((unhide HRW) k hlt).ext hext) ((unhide HL) k hlt) ((unhide HI) k hlt))
      have hst : Hid (strL (fun i => toBA (textC (C i))) (k + 1) = strL (fun i => toBA (textC (C i))) k ++ [.string (toBA (textC (C k)))]) := hide (strL_succ _ _)
      go_wp2_with (first
        | (go_at_call 139; refine (unhide hcon).mono ?_; rintro e w4 ⟨rfl, F4⟩; have HO4 := hide (F4.owns (unhide HO)); have E4 := hext.trans F4; have hs4 := E4.size; clear F4)
        | (at_builtin; go_must (refine wpList_app rfl _ _ 28 rfl w.heap.size 9 ic (.string { data := #[] }) 1 16 Tryz.underlying28 hic hc0 hc1 hc2 rfl (by decide) _ _ _ rfl ((unhide HO4).alloc _) _ 1 [.string (toBA (textC (C k)))] rfl (Src.made _ _ _ rfl (by simp [Value.oneCell'])) (by unfold maxLen; omega) (by omega) (by simp; omega) ?_); intro v5 w5 o5 G5 _; rw [← unhide hst] at o5; have HO5 := hide o5; have E5 := hide ((E4.alloc _).grown G5 (fun q hq => ((unhide HO4).lt q hq).1)); clear o5 G5))
      go_roundw
      case rel => exact ⟨k + 1, by omega, by go_num, HO5, unhide E5⟩
      case measure => simp [intOf]; omega
    · obtain rfl : k = R := by omega
      have hb9 : ¬ (k : Int) < (k : Int) := by omega
      go_wp2
      go_ret
      exact ⟨_, rfl, own_strL (unhide HO), hext⟩
end Go.Proofs.YtgdadidppelgdaaGreatDoor
