import Derived.Test.YtopjihagpkempaaDoorWrapL
namespace Go.Proofs.YtopjihagpkempaaDoor
open Go.RowKit

/-- The places at which rows begin, and what the last row takes, after k clusters. -/
def stF (cs : List (List Int × Int)) (cols : Int) : Nat → List Int × Int
  | 0 => ([0], 0)
  | k + 1 => if at0 (stF cs cols k).1 ((stF cs cols k).1.length - 1) < (k : Int) ∧ cols < (stF cs cols k).2 + cWd (cW cs k) then ((stF cs cols k).1 ++ [(k : Int)], cWd (cW cs k)) else ((stF cs cols k).1, (stF cs cols k).2 + cWd (cW cs k))
theorem at0_app {xs : List Int} {x : Int} {i : Nat} : at0 (xs ++ [x]) i = if i = xs.length then x else at0 xs i := by
  unfold at0
  by_cases h : i = xs.length
  · subst h; simp
  · rw [if_neg h]
    by_cases h2 : i < xs.length
    · rw [List.getElem?_append_left h2]
    · rw [List.getElem?_eq_none (by simp; omega), List.getElem?_eq_none (by omega)]
/-- What holds of them. -/
structure StOk (S : List Int) (u : Int) (k : Nat) : Prop where
  one : 1 ≤ S.length
  len : S.length ≤ k + 1
  u0 : 0 ≤ u
  u1 : u ≤ 1000 * (k : Int)
  at00 : at0 S 0 = 0
  le : ∀ i, i < S.length → 0 ≤ at0 S i ∧ at0 S i ≤ (k : Int)
  mono : ∀ i, i + 1 < S.length → at0 S i ≤ at0 S (i + 1)
theorem stF_ok (cs : List (List Int × Int)) (cols : Int) : ∀ k, StOk (stF cs cols k).1 (stF cs cols k).2 k
  | 0 => ⟨by simp [stF], by simp [stF], by simp [stF], by simp [stF], by simp [stF, at0], fun i hi => by
      simp [stF] at hi; subst hi; simp [stF, at0], fun i hi => by simp [stF] at hi⟩
  | k + 1 => by
    have h := stF_ok cs cols k
    have hw := cWd_bd (cW cs k)
    have h1 := h.one
    have h2 := h.len
    have h3 := h.u0
    have h4 := h.u1
    rw [stF]
    split
    · refine ⟨by simp, by simp; omega, by dsimp only; omega, by dsimp only; omega, ?_, fun i hi => ?_, fun i hi => ?_⟩
      · dsimp only; rw [at0_app, if_neg (by omega)]; exact h.at00
      · dsimp only at hi ⊢
        simp at hi
        rw [at0_app]
        split
        · omega
        · have := h.le i (by omega); omega
      · dsimp only at hi ⊢
        simp at hi
        rw [at0_app, at0_app, if_neg (by omega)]
        split
        · have := h.le i (by omega); omega
        · exact h.mono i (by omega)
    · refine ⟨h1, by dsimp only; omega, by dsimp only; omega, by dsimp only; omega, h.at00, fun i hi => ?_, h.mono⟩
      have := h.le i hi
      dsimp only
      omega
theorem infoInt : (Tryd.prog.info? 3).map (fun i => (i.zero, i.size, i.bytes)) = some (some (.int .i64 0), 1, 8) := by kernel_rfl
end Go.Proofs.YtopjihagpkempaaDoor

namespace Go.Proofs.YtopjihagpkempaaDoor
open Go.RowKit

/-- All places at which rows begin, and the end. -/
def wrS (cs : List (List Int × Int)) (cols : Int) : List Int := (stF cs cols cs.length).1 ++ [(cs.length : Int)]
def wrR (cs : List (List Int × Int)) (cols : Int) : Nat := if cols < 2 then 0 else (stF cs cols cs.length).1.length
def wrC (cs : List (List Int × Int)) (cols : Int) (i : Nat) : List (List Int × Int) := (cs.take (at0 (wrS cs cols) (i + 1)).toNat).drop (at0 (wrS cs cols) i).toNat
theorem wrS_step (cs : List (List Int × Int)) (cols : Int) (i : Nat) (h : i < (stF cs cols cs.length).1.length) : 0 ≤ at0 (wrS cs cols) i ∧ at0 (wrS cs cols) i ≤ at0 (wrS cs cols) (i + 1) ∧ at0 (wrS cs cols) (i + 1) ≤ (cs.length : Int) := by
  have hok := stF_ok cs cols cs.length
  unfold wrS
  rw [at0_app, if_neg (by omega), at0_app]
  have h1 := hok.le i h
  split
  · omega
  · have h2 := hok.mono i (by omega)
    have h3 := hok.le (i + 1) (by omega)
    omega
theorem ClsAt.sub {w : World} {b off cap : Nat} {cs : List (List Int × Int)} (h : ClsAt w (.slice (some ⟨b, off, none⟩) cs.length cap) cs) (s e : Nat) (hse : s ≤ e) (he : e ≤ cs.length) (v : Value) (c : Nat) (hv : v = .slice (some ⟨b, off + s * 2, none⟩) (e - s) c) (hc : e - s ≤ c) : ClsAt w v ((cs.take e).drop s) := by
  obtain ⟨rs, ao, ca, e1, hca, hr, hx⟩ := h
  have hlen : ((cs.take e).drop s).length = e - s := by simp; omega
  have hR : ∀ j, j < e - s → cR ((cs.take e).drop s) j = cR cs (s + j) ∧ cW ((cs.take e).drop s) j = cW cs (s + j) := by
    intro j hj
    unfold cR cW
    rw [List.getElem?_drop, List.getElem?_take, if_pos (by omega)]
    exact ⟨rfl, rfl⟩
  refine ⟨rs.drop s, _, c, by rw [hlen]; exact hv, by omega, ?_, ?_⟩
  · intro j hj
    rw [hlen] at hj
    rw [(hR j hj).1]
    have : rV (rs.drop s) j = rV rs (s + j) := by
      unfold rV
      rw [List.getElem?_drop]
    rw [this]
    exact hr (s + j) (by omega)
  · intro hp
    rw [hlen] at hp
    obtain ⟨b', off', e2, hcell⟩ := hx (by omega)
    injection e1 with e3
    rw [e2] at e3
    injection e3 with e4
    injection e4 with e5 e6
    subst e5 e6
    refine ⟨b, off + s * 2, rfl, fun j hj => ?_⟩
    rw [hlen] at hj
    have h5 := hcell (s + j) (by omega)
    have : rV (rs.drop s) j = rV rs (s + j) := by
      unfold rV
      rw [List.getElem?_drop]
    rw [this, (hR j hj).2, show off + s * 2 + j * 2 = off + (s + j) * 2 by omega]
    exact h5
theorem infoRw : (Tryd.prog.info? 73).map (fun i => (i.zero, i.size, i.bytes)) = some (some (.slice none 0 0), 1, 24) := by kernel_rfl
theorem css_nil {W : World} {base : Nat} {v : Value} {rv : Nat → Value} {rs : Nat → List Value} {cs : Nat → List (List Int × Int)} (h : W.ownsRow base 73 1 v 0 []) : OwnCss W base v rv rs 0 cs :=
  ⟨⟨[], h, fun j hj => by omega⟩, fun i hi => by omega, fun i j g _ hj => by omega⟩
end Go.Proofs.YtopjihagpkempaaDoor

namespace Go.Proofs.YtopjihagpkempaaDoor
open Go.RowKit

/-- Row i after k clusters. -/
def wk (cs : List (List Int × Int)) (cols : Int) (k i : Nat) : List (List Int × Int) := (cs.take (at0 ((stF cs cols k).1 ++ [(k : Int)]) (i + 1)).toNat).drop (at0 ((stF cs cols k).1 ++ [(k : Int)]) i).toNat
theorem wk_end (cs : List (List Int × Int)) (cols : Int) : wk cs cols cs.length = wrC cs cols := rfl
theorem wk_last (cs : List (List Int × Int)) (cols : Int) (k m : Nat) (hm : (stF cs cols k).1.length = m + 1) : wk cs cols k m = (cs.take k).drop (at0 (stF cs cols k).1 m).toNat := by
  unfold wk
  rw [at0_app (i := m + 1), if_pos (by omega), at0_app (i := m), if_neg (by omega)]
  simp
/-- A row that goes on. -/
theorem wk_same (cs : List (List Int × Int)) (cols : Int) (k m : Nat) (hm : (stF cs cols k).1.length = m + 1) (hs : (stF cs cols (k + 1)).1 = (stF cs cols k).1) (hk : k < cs.length) :
    (∀ i, i < m → wk cs cols (k + 1) i = wk cs cols k i) ∧ wk cs cols (k + 1) m = wk cs cols k m ++ [(cR cs k, cW cs k)] := by
  constructor
  · intro i hi
    unfold wk
    rw [hs, at0_app, at0_app, at0_app, at0_app, if_neg (by omega), if_neg (by omega), if_neg (by omega), if_neg (by omega)]
  · have hle := (stF_ok cs cols k).le m (by omega)
    rw [wk_last cs cols k m hm, wk_last cs cols (k + 1) m (by rw [hs]; exact hm), hs, cls_take_succ cs k hk, List.drop_append_of_le_length (by simp; omega)]
/-- A row that begins. -/
theorem wk_new (cs : List (List Int × Int)) (cols : Int) (k m : Nat) (hm : (stF cs cols k).1.length = m + 1) (hs : (stF cs cols (k + 1)).1 = (stF cs cols k).1 ++ [(k : Int)]) (hk : k < cs.length) :
    (∀ i, i < m + 1 → wk cs cols (k + 1) i = wk cs cols k i) ∧ wk cs cols (k + 1) (m + 1) = [(cR cs k, cW cs k)] := by
  constructor
  · intro i hi
    unfold wk
    rw [hs, at0_app (i := i + 1), at0_app (xs := (stF cs cols k).1 ++ [(k : Int)]) (i := i), if_neg (by simp; omega), if_neg (by simp; omega)]
  · rw [wk_last cs cols (k + 1) (m + 1) (by rw [hs]; simp; omega), hs, at0_app, if_pos (by omega), cls_take_succ cs k hk, List.drop_append_of_le_length (by simp; omega)]
    simp
/-- The rows and the row at hand. -/
def Wk (w : World) (base : Nat) (v5 v6 : Value) (rv : Nat → Value) (rs : Nat → List Value) (rr : List Value) (cs : List (List Int × Int)) (cols : Int) (k m : Nat) : Prop :=
  OwnCss w base v5 rv rs m (wk cs cols k) ∧ OwnCls w base v6 rr (wk cs cols k m) ∧ ∀ i g, i < m → Foot (rv i) (rs i) (wk cs cols k i).length g → ¬ Foot v6 rr (wk cs cols k m).length g
theorem Wk.ext {w w' : World} {base : Nat} {v5 v6 : Value} {rv : Nat → Value} {rs : Nat → List Value} {rr : List Value} {cs : List (List Int × Int)} {cols : Int} {k m : Nat} (h : Wk w base v5 v6 rv rs rr cs cols k m) (he : Ext w w') : Wk w' base v5 v6 rv rs rr cs cols k m :=
  ⟨h.1.ext he, h.2.1.ext he, h.2.2⟩
theorem Wk.fresh {w : World} {base : Nat} {v5 v6 : Value} {rv : Nat → Value} {rs : Nat → List Value} {rr : List Value} {cs : List (List Int × Int)} {cols : Int} {k m : Nat} (h : Wk w base v5 v6 rv rs rr cs cols k m) {i g : Nat} (hi : i < m) (hg : Foot (rv i) (rs i) (wk cs cols k i).length g) : g < w.heap.size := ((h.1.2.1 i hi).foot hg).2
theorem OwnCss.congrN {w : World} {base : Nat} {v : Value} {rv : Nat → Value} {rs : Nat → List Value} {R : Nat} {cs cs' : Nat → List (List Int × Int)} (h : OwnCss w base v rv rs R cs) (e : ∀ i, i < R → cs' i = cs i) : OwnCss w base v rv rs R cs' := h.congr (fun i hi => (e i hi).symm)
/-- One cluster more in the row at hand. -/
theorem Wk.more {w w5 w6 : World} {base : Nat} {v5 v6 r : Value} {rv : Nat → Value} {rs : Nat → List Value} {rr ys : List Value} {cs : List (List Int × Int)} {cols : Int} {k m g6 cap6 H : Nat} (h : Wk w base v5 v6 rv rs rr cs cols k m) (hb : base ≤ w.heap.size)
    (hm : (stF cs cols k).1.length = m + 1) (hs : (stF cs cols (k + 1)).1 = (stF cs cols k).1) (hk : k < cs.length)
    (E5 : Ext w w5) (hr : w5.ownsRow w.heap.size 21 1 r (cR cs k).length ((cR cs k).map (Value.int .i32)))
    (hy : w.ownsRow base 58 2 v6 (wk cs cols k m).length ys) (hyy : ∀ j, j < (wk cs cols k m).length → ys[j * 2]? = some (rV rr j) ∧ ys[j * 2 + 1]? = some (.int .i64 (cW (wk cs cols k m) j)))
    (o6 : w6.ownsRow base 58 2 (.slice (some ⟨g6, 0, none⟩) ((wk cs cols k m).length + 1) cap6) ((wk cs cols k m).length + 1) (ys ++ [r, .int .i64 (cW cs k)])) (G6 : w5.grownBy w6 v6.ownBlock) (hat : v6.ownBlock = some g6 ∨ g6 = H) (hH : w5.heap.size ≤ H) :
    Wk w6 base v5 (.slice (some ⟨g6, 0, none⟩) ((wk cs cols k m).length + 1) cap6) rv rs (rr ++ [r]) cs cols (k + 1) m := by
  obtain ⟨ws, wl⟩ := wk_same cs cols k m hm hs hk
  have fr : Fr (fun q => v6.ownBlock = some q) w5 w6 := (Fr.refl _ _).grown G6 (fun q hq => hq)
  have h5 := h.ext E5
  have hl6 : (wk cs cols (k + 1) m).length = (wk cs cols k m).length + 1 := by rw [wl]; simp
  refine ⟨(h5.1.fr fr (fun g hg e => ?_)).congrN ws, ?_, fun i g hi hg h2 => ?_⟩
  · rcases hg with hg | ⟨i, hi, hg⟩
    · obtain ⟨zs, h6, _⟩ := h5.1.1
      exact cls_apart h6 h5.2.1 (g := g) (.inl e) hg
    · exact h.2.2 i g hi hg (.inl e)
  · rw [wl]
    exact OwnCls.push h5.2.1 (E5.owns hy) hyy (owns_mono hr hb) (fun j q hj hq e => by
      have h6 := (h.2.1.foot (.inr ⟨j, hj, hq⟩)).2
      have h7 := (hr.lt q e).1
      omega) (by simpa using o6) G6
  · rw [ws i hi] at hg
    rw [hl6] at h2
    have hlt := h.fresh hi hg
    have := E5.size
    rcases h2 with h2 | ⟨j, hj, h2⟩
    · simp [Value.ownBlock] at h2
      subst h2
      rcases hat with e | e
      · exact h.2.2 i _ hi hg (.inl e)
      · omega
    · have hrl : rr.length = (wk cs cols k m).length := h.2.1.1
      by_cases e : j = rr.length
      · subst e
        rw [rV_last] at h2
        have := (hr.lt g h2).1
        omega
      · rw [rV_push _ _ _ (by omega)] at h2
        exact h.2.2 i g hi hg (.inr ⟨j, by omega, h2⟩)
/-- The row at hand goes to the rows, and another begins. -/
theorem Wk.turn {w w2 w5 w6 : World} {base : Nat} {v5 v6 v5' r : Value} {rv : Nat → Value} {rs : Nat → List Value} {rr ys : List Value} {cs : List (List Int × Int)} {cols : Int} {k m g6 cap6 : Nat} (h : Wk w base v5 v6 rv rs rr cs cols k m)
    (hm : (stF cs cols k).1.length = m + 1) (hs : (stF cs cols (k + 1)).1 = (stF cs cols k).1 ++ [(k : Int)]) (hk : k < cs.length)
    (hy : w.ownsRow base 73 1 v5 m ys) (hyy : ∀ j, j < m → ys[j]? = some (rv j)) (o2 : w2.ownsRow base 73 1 v5' (m + 1) (ys ++ [v6])) (G2 : w.grownBy w2 v5.ownBlock) (hb : base ≤ w2.heap.size)
    (E5 : Ext w2 w5) (hr : w5.ownsRow w2.heap.size 21 1 r (cR cs k).length ((cR cs k).map (Value.int .i32)))
    (o6 : w6.ownsRow base 58 2 (.slice (some ⟨g6, 0, none⟩) 1 cap6) 1 [r, .int .i64 (cW cs k)]) (G6 : w5.grownBy w6 none) (hg6 : w5.heap.size ≤ g6) :
    ∃ rv' rs', Wk w6 base v5' (.slice (some ⟨g6, 0, none⟩) 1 cap6) rv' rs' [r] cs cols (k + 1) (m + 1) := by
  obtain ⟨ws, wl⟩ := wk_new cs cols k m hm hs hk
  have h2 := (OwnCss.push h.1 hy hyy h.2.1 h.2.2 o2 G2).congrN (cs' := wk cs cols (k + 1)) (fun i hi => by
    rw [ws i hi]
    by_cases e : i = m
    · rw [if_pos e, e]
    · rw [if_neg e])
  refine ⟨_, _, h2.ext (E5.trans G6), ?_, fun i g hi hg h3 => ?_⟩
  · rw [wl]
    have := OwnCls.push (W := w5) (W' := w6) (base := base) (v := .slice none 0 0) (v' := .slice (some ⟨g6, 0, none⟩) 1 cap6) (r := r) (rs := []) (cs := []) (xs := cR cs k) (d := cW cs k) (ys := []) (cls_none ⟨by simp, .inl ⟨rfl, rfl⟩⟩) ⟨by simp, .inl ⟨rfl, rfl⟩⟩ (fun j hj => by simp at hj) (owns_mono hr hb) (fun j g hj => by simp at hj) (by simpa using o6) G6
    simpa using this
  · have hlt := ((h2.2.1 i hi).foot hg).2
    have := E5.size
    rw [wl] at h3
    rcases h3 with h3 | ⟨j, hj, h3⟩
    · simp [Value.ownBlock] at h3
      omega
    · simp at hj
      subst hj
      have := (hr.lt g (by simpa [rV] using h3)).1
      omega
end Go.Proofs.YtopjihagpkempaaDoor
