import Derived.Test.YtkimnihdjeonpaaClsMark
namespace Go.Proofs.Ytkimnihdjeonpaa
open Go.RowKit
def KysAt (w : World) (v : Value) (cs : List (List Int × Int)) : Prop :=
  ∃ (rs : List Value) (ao : Option Addr) (cap : Nat), v = .slice ao cs.length cap ∧ cs.length ≤ cap ∧ (∀ j, j < cs.length → IntsAt w .i32 (rV rs j) (cR cs j)) ∧
    (0 < cs.length → ∃ b off, ao = some ⟨b, off, none⟩ ∧ ∀ j, j < cs.length → w.cell? ⟨b, off + j * 2 + 1, none⟩ = some (rV rs j) ∧ w.cell? ⟨b, off + j * 2, none⟩ = some (.int .i64 (cW cs j)))
theorem KysAt.ext {w w' : World} {v : Value} {cs : List (List Int × Int)} (h : KysAt w v cs) (he : Ext w w') : KysAt w' v cs := by
  obtain ⟨rs, ao, cap, e, hc, hr, hx⟩ := h
  exact ⟨rs, ao, cap, e, hc, fun j hj => (hr j hj).ext he, fun hp => by
    obtain ⟨b, off, e2, hcell⟩ := hx hp
    exact ⟨b, off, e2, fun j hj => ⟨he.cell (hcell j hj).1, he.cell (hcell j hj).2⟩⟩⟩
set_option maxHeartbeats 1000000 in
theorem eqKey_same (ra rb : Value) (xs : List Int) (d : Int) (w : World) (ha : IntsAt w .i32 ra xs) (hb : IntsAt w .i32 rb xs) (hx : xs.length ≤ 4398046511104) :
    Calls Try.prog 41 #[.agg #[.int .i64 d, ra], .agg #[.int .i64 d, rb]] w fun e w' => e = .returned (.bool true) ∧ Ext w w' := by
  go_enter Try.func41, Try.ntmps41
  go_wp2_with fail
  refine (eqInt32S_same _ _ xs _ (ha.ext (((Ext.refl _).alloc _).alloc _)) (hb.ext (((Ext.refl _).alloc _).alloc _)) hx).mono ?_
  rintro e w1 ⟨rfl, F1⟩
  obtain ⟨hc, hf⟩ := F1.rules
  go_wp2
  go_ret
  exact ⟨rfl, (((Ext.refl _).alloc _).alloc _).trans F1⟩
def OwnKys (w : World) (base : Nat) (v : Value) (rs : List Value) (cs : List (List Int × Int)) : Prop :=
  rs.length = cs.length ∧ (∃ ys, w.ownsRow base 65 2 v cs.length ys ∧ ∀ j, j < cs.length → ys[j * 2 + 1]? = some (rV rs j) ∧ ys[j * 2]? = some (.int .i64 (cW cs j))) ∧
  (∀ j, j < cs.length → w.ownsRow base 21 1 (rV rs j) (cR cs j).length ((cR cs j).map (Value.int .i32))) ∧
  (∀ i j g, i < j → j < cs.length → (rV rs i).ownBlock = some g → (rV rs j).ownBlock ≠ some g)
theorem OwnKys.ext {w w' : World} {base : Nat} {v : Value} {rs : List Value} {cs : List (List Int × Int)} (h : OwnKys w base v rs cs) (he : Ext w w') : OwnKys w' base v rs cs := by
  obtain ⟨h0, ⟨ys, h1, h2⟩, h3, h4⟩ := h
  exact ⟨h0, ⟨ys, he.owns h1, h2⟩, fun j hj => he.owns (h3 j hj), h4⟩
theorem OwnKys.cls {w : World} {base : Nat} {v : Value} {rs : List Value} {cs : List (List Int × Int)} (h : OwnKys w base v rs cs) : KysAt w v cs := by
  obtain ⟨_, ⟨ys, h1, h2⟩, h3, _⟩ := h
  rcases h1.2 with ⟨rfl, h0⟩ | ⟨g, cap, cur, rfl, hb, hg, hn, hm, hs, ht⟩
  · exact ⟨rs, none, 0, by rw [h0], by omega, fun j hj => by omega, fun hp => by omega⟩
  · refine ⟨rs, _, cap, rfl, hn, fun j hj => ints_of_owns (h3 j hj), fun _ => ⟨g, 0, rfl, fun j hj => ?_⟩⟩
    have := h2 j hj
    rw [Nat.zero_add, h1.cellAt _ (by omega), h1.cellAt _ (by omega)]
    exact this
set_option maxHeartbeats 1000000 in
theorem eqKeyS_same (va vb : Value) (cs : List (List Int × Int)) (w : World) (ha : KysAt w va cs) (hb : KysAt w vb cs) (hl : cs.length ≤ 4398046511104) (hx : ∀ j, j < cs.length → (cR cs j).length ≤ 4398046511104) :
    Calls Try.prog 24 #[va, vb] w fun e w' => e = .returned (.bool true) ∧ Ext w w' := by
  obtain ⟨ra, ao, ca, rfl, hca, hra, hxa⟩ := ha
  obtain ⟨rb, bo, cb, rfl, hcb, hrb, hxb⟩ := hb
  obtain ⟨n, hn⟩ : ∃ n, n = cs.length := ⟨_, rfl⟩
  rw [← hn] at hca hra hxa hcb hrb hxb hl hx ⊢
  clear hn
  by_cases h0 : n = 0
  · subst h0
    clear hxa hxb hra hrb hx
    go_enter Try.func24, Try.ntmps24
    go_wp2
    go_loop [5] (fun i => i = .int .i64 0) (fun _ => 0)
    case atStart => rfl
    case round =>
      subst hrel
      go_wp2
      go_ret
      exact ⟨rfl, Ext.refl _⟩
  · obtain ⟨b1, o1, rfl, h1⟩ := hxa (by omega)
    obtain ⟨b2, o2, rfl, h2⟩ := hxb (by omega)
    clear hxa hxb
    have H1 := hide h1
    have H2 := hide h2
    have HA := hide hra
    have HB := hide hrb
    have HX := hide hx
    clear h1 h2 hra hrb hx
    go_enter Try.func24, Try.ntmps24
    go_wp2
    go_loopw [5] (fun i w' => ∃ k : Nat, k ≤ n ∧ i = .int .i64 k ∧ Ext w w') (fun i _ => n - (intOf i).toNat)
    case atStart => exact ⟨0, Nat.zero_le _, rfl, Ext.refl _⟩
    case round =>
      obtain ⟨k, hk, rfl, hext⟩ := hrel
      by_cases hlt : k < n
      · have g1 := hext.cell ((unhide H1) k hlt).1
        have g2 := hext.cell ((unhide H1) k hlt).2
        have g3 := hext.cell ((unhide H2) k hlt).1
        have g4 := hext.cell ((unhide H2) k hlt).2
        have bk : (k : Int) < (n : Int) := by omega
        have hc := hide (fun W (hW : Ext wr W) => eqKey_same (rV ra k) (rV rb k) (cR cs k) (cW cs k) W (((unhide HA) k hlt).ext (hext.trans hW)) (((unhide HB) k hlt).ext (hext.trans hW)) ((unhide HX) k hlt))
        go_wp2
        go_region_held3 (fun W => Ext wr W ∧ W.cell? ⟨b1, o1 + k * 2 + 1, none⟩ = some (rV ra k) ∧ W.cell? ⟨b1, o1 + k * 2, none⟩ = some (.int .i64 (cW cs k)) ∧ W.cell? ⟨b2, o2 + k * 2 + 1, none⟩ = some (rV rb k) ∧ W.cell? ⟨b2, o2 + k * 2, none⟩ = some (.int .i64 (cW cs k))) (first | exact ⟨(Ext.refl wr).drew, g1, g2, g3, g4⟩ | exact ⟨(Ext.refl wr).drew.trans he', he'.cell g1, he'.cell g2, he'.cell g3, he'.cell g4⟩) (first | (go_at_call 41; refine ((unhide hc) _ (Ext.refl wr).drew).mono ?_; rintro e w' ⟨rfl, he'⟩))
        rename_i hS
        have hE := hext.trans hS.1
        clear hS g1 g2 g3 g4
        go_wp2
        go_roundw
        case rel => exact ⟨k + 1, by omega, by go_num, hE⟩
        case measure => simp [intOf]; omega
      · go_wp2
        go_ret
        exact ⟨rfl, hext⟩
theorem OwnKys.push {W W' : World} {base : Nat} {v v' r : Value} {rs : List Value} {cs : List (List Int × Int)} {xs : List Int} {d : Int} {ys : List Value}
    (h : OwnKys W base v rs cs) (hy : W.ownsRow base 65 2 v cs.length ys) (hyy : ∀ j, j < cs.length → ys[j * 2 + 1]? = some (rV rs j) ∧ ys[j * 2]? = some (.int .i64 (cW cs j)))
    (hr : W.ownsRow base 21 1 r xs.length (xs.map (Value.int .i32))) (hfr : ∀ j g, j < cs.length → (rV rs j).ownBlock = some g → r.ownBlock ≠ some g)
    (ho : W'.ownsRow base 65 2 v' (cs.length + 1) (ys ++ [.int .i64 d, r])) (hg : W.grownBy W' v.ownBlock) : OwnKys W' base v' (rs ++ [r]) (cs ++ [(xs, d)]) := by
  obtain ⟨h0, _, h3, h4⟩ := h
  have hyl := hy.1
  have keep : ∀ (u : Value) (m : Nat) (zs : List Value), W.ownsRow base 21 1 u m zs → W'.ownsRow base 21 1 u m zs := fun u m zs hu =>
    owns_same hu (fun g hgu => hg.block g (hu.lt g hgu).2 (fun e => owns_apart hu hy (by decide) hgu e.symm))
  refine ⟨by simp [h0], ⟨_, by simpa using ho, fun j hj => ?_⟩, fun j hj => ?_, fun i j g hij hj hk => ?_⟩
  · simp at hj
    by_cases e : j = cs.length
    · subst e
      rw [← h0, rV_last, h0, cW_push, if_pos rfl]
      constructor
      · rw [List.getElem?_append_right (by omega)]; simp [hyl]
      · rw [List.getElem?_append_right (by omega)]; simp [hyl]
    · rw [rV_push rs r j (by omega), cW_push, if_neg e, List.getElem?_append_left (by omega), List.getElem?_append_left (by omega)]
      exact hyy j (by omega)
  · simp at hj
    rw [cR_push]
    by_cases e : j = cs.length
    · subst e
      rw [← h0, rV_last, h0, if_pos rfl]
      exact keep _ _ _ hr
    · rw [rV_push rs r j (by omega), if_neg e]
      exact keep _ _ _ (h3 j (by omega))
  · simp at hj
    rw [rV_push rs r i (by omega)] at hk
    by_cases e : j = cs.length
    · subst e
      rw [← h0, rV_last]
      exact hfr i g (by omega) hk
    · rw [rV_push rs r j (by omega)]
      exact h4 i j g hij (by omega) hk
theorem OwnKys.fr {S : Nat → Prop} {w w' : World} {base : Nat} {v : Value} {rs : List Value} {cs : List (List Int × Int)} (h : OwnKys w base v rs cs) (hf : Fr S w w') (hS : ∀ g, Foot v rs cs.length g → ¬ S g) : OwnKys w' base v rs cs := by
  obtain ⟨h0, ⟨ys, h1, h2⟩, h3, h4⟩ := h
  exact ⟨h0, ⟨ys, hf.owns h1 (fun g hg => hS g (.inl hg)), h2⟩, fun j hj => hf.owns (h3 j hj) (fun g hg => hS g (.inr ⟨j, hj, hg⟩)), h4⟩
theorem OwnKys.foot {w : World} {base : Nat} {v : Value} {rs : List Value} {cs : List (List Int × Int)} (h : OwnKys w base v rs cs) {g : Nat} (hg : Foot v rs cs.length g) : base ≤ g ∧ g < w.heap.size := by
  obtain ⟨h0, ⟨ys, h1, h2⟩, h3, h4⟩ := h
  rcases hg with hg | ⟨j, hj, hg⟩
  · exact h1.lt g hg
  · exact (h3 j hj).lt g hg
theorem OwnKys.mark {W W1 : World} {base g j cap : Nat} {rs : List Value} {cs : List (List Int × Int)} {zs : List Int} {d : Int}
    (h : OwnKys W base (.slice (some ⟨g, 0, none⟩) cs.length cap) rs cs) (hj : j < cs.length) (hz : zs.length = (cR cs j).length)
    (ho : W1.ownsRow base 21 1 (rV rs j) (cR cs j).length (zs.map (Value.int .i32))) (hg : (W.setCell ⟨g, j * 2, none⟩ (.int .i64 d)).grownBy W1 (rV rs j).ownBlock) :
    OwnKys W1 base (.slice (some ⟨g, 0, none⟩) cs.length cap) rs (cs.set j (zs, d)) := by
  obtain ⟨h0, ⟨ys, hy, hyy⟩, h3, h4⟩ := h
  have hyl := hy.1
  have ng : ∀ (u : Value) (n : Nat) (zs : List Value), W.ownsRow base 21 1 u n zs → u.ownBlock ≠ some g := fun u n zs hu e => owns_apart hu hy (by decide) e rfl
  have s0 := (hy.stored (j * 2) (.int .i64 d)).1
  have s1 : W1.ownsRow base 65 2 (.slice (some ⟨g, 0, none⟩) cs.length cap) cs.length (ys.set (j * 2) (.int .i64 d)) :=
    owns_same s0 (fun k hk => hg.block k (s0.lt k hk).2 (fun e => owns_apart hy (h3 j hj) (by decide) hk e.symm))
  have old : ∀ i, i < cs.length → i ≠ j → W1.ownsRow base 21 1 (rV rs i) (cR cs i).length ((cR cs i).map (Value.int .i32)) := fun i hi hne => by
    have h5 := owns_setCell (a := ⟨g, j * 2, none⟩) (h3 i hi) (ng _ _ _ (h3 i hi)) (.int .i64 d)
    exact owns_same h5 (fun k hk => hg.block k (h5.lt k hk).2 (fun e => by
      rcases Nat.lt_or_gt_of_ne hne with h6 | h6
      · exact h4 i j k h6 hj hk e.symm
      · exact h4 j i k h6 hi e.symm hk))
  refine ⟨by simp [h0], ⟨ys.set (j * 2) (.int .i64 d), by simpa using s1, fun i hi => ?_⟩, fun i hi => ?_, fun i j' k hij hj' hk => h4 i j' k hij (by simpa using hj') hk⟩
  · simp at hi
    rw [cW_set cs j _ i hj]
    by_cases e : i = j
    · subst e
      rw [if_pos rfl]
      exact ⟨by rw [List.getElem?_set_ne (by omega)]; exact (hyy i hi).1, List.getElem?_set_self (by omega)⟩
    · rw [if_neg e, List.getElem?_set_ne (by omega), List.getElem?_set_ne (by omega)]
      exact hyy i hi
  · simp at hi
    rw [cR_set cs j _ i hj]
    by_cases e : i = j
    · subst e
      rw [if_pos rfl]
      simpa [hz] using ho
    · rw [if_neg e]
      exact old i hi e
def kyTo (k : Int) (cs : List (List Int × Int)) : Nat → List (List Int × Int)
  | 0 => cs
  | j + 1 => (kyTo k cs j).set j (mkI32 (kkC k cs j + 1) (cR cs j).length, kkC k cs j)
def mkKys (k : Int) (cs : List (List Int × Int)) : List (List Int × Int) := kyTo k cs cs.length
theorem kyTo_len (k : Int) (cs : List (List Int × Int)) : ∀ j, (kyTo k cs j).length = cs.length
  | 0 => rfl
  | j + 1 => by simp [kyTo, kyTo_len k cs j]
theorem mkKys_len (k : Int) (cs : List (List Int × Int)) : (mkKys k cs).length = cs.length := kyTo_len k cs _
theorem kyTo_R (k : Int) (cs : List (List Int × Int)) (i : Nat) : ∀ j, j ≤ cs.length → cR (kyTo k cs j) i = if i < j then mkI32 (kkC k cs i + 1) (cR cs i).length else cR cs i
  | 0, _ => by simp [kyTo]
  | j + 1, h => by
    rw [kyTo, cR_set _ _ _ _ (by rw [kyTo_len]; omega), kyTo_R k cs i j (by omega)]
    by_cases e : i = j
    · subst e; simp
    · rw [if_neg e]
      by_cases h2 : i < j
      · rw [if_pos h2, if_pos (by omega)]
      · rw [if_neg h2, if_neg (by omega)]
theorem kyTo_W (k : Int) (cs : List (List Int × Int)) (i : Nat) : ∀ j, j ≤ cs.length → cW (kyTo k cs j) i = if i < j then kkC k cs i else cW cs i
  | 0, _ => by simp [kyTo]
  | j + 1, h => by
    rw [kyTo, cW_set _ _ _ _ (by rw [kyTo_len]; omega), kyTo_W k cs i j (by omega)]
    by_cases e : i = j
    · subst e; simp
    · rw [if_neg e]
      by_cases h2 : i < j
      · rw [if_pos h2, if_pos (by omega)]
      · rw [if_neg h2, if_neg (by omega)]
end Go.Proofs.Ytkimnihdjeonpaa
