import Derived.Test.YtkimnihdjeonpaaDoorI32s
import Derived.Deep.RegionHeld3
namespace Go.Proofs.YtkimnihdjeonpaaDoor
open Go.RowKit
def rV (rs : List Value) (j : Nat) : Value := rs[j]?.getD (.slice none 0 0)
def cR (cs : List (List Int × Int)) (j : Nat) : List Int := (cs[j]?.getD ([], 0)).1
def cW (cs : List (List Int × Int)) (j : Nat) : Int := (cs[j]?.getD ([], 0)).2
def ClsAt (w : World) (v : Value) (cs : List (List Int × Int)) : Prop :=
  ∃ (rs : List Value) (ao : Option Addr) (cap : Nat), v = .slice ao cs.length cap ∧ cs.length ≤ cap ∧ (∀ j, j < cs.length → IntsAt w .i32 (rV rs j) (cR cs j)) ∧
    (0 < cs.length → ∃ b off, ao = some ⟨b, off, none⟩ ∧ ∀ j, j < cs.length → w.cell? ⟨b, off + j * 2, none⟩ = some (rV rs j) ∧ w.cell? ⟨b, off + j * 2 + 1, none⟩ = some (.int .i64 (cW cs j)))
theorem ClsAt.ext {w w' : World} {v : Value} {cs : List (List Int × Int)} (h : ClsAt w v cs) (he : Ext w w') : ClsAt w' v cs := by
  obtain ⟨rs, ao, cap, e, hc, hr, hx⟩ := h
  exact ⟨rs, ao, cap, e, hc, fun j hj => (hr j hj).ext he, fun hp => by
    obtain ⟨b, off, e2, hcell⟩ := hx hp
    exact ⟨b, off, e2, fun j hj => ⟨he.cell (hcell j hj).1, he.cell (hcell j hj).2⟩⟩⟩
theorem rV_push (rs : List Value) (r : Value) (i : Nat) (h : i < rs.length) : rV (rs ++ [r]) i = rV rs i := by
  unfold rV; rw [List.getElem?_append_left h]
theorem rV_last (rs : List Value) (r : Value) : rV (rs ++ [r]) rs.length = r := by simp [rV]
set_option maxHeartbeats 1000000 in
theorem eqCluster_same (ra rb : Value) (xs : List Int) (d : Int) (w : World) (ha : IntsAt w .i32 ra xs) (hb : IntsAt w .i32 rb xs) (hx : xs.length ≤ 4398046511104) :
    Calls Tryd.prog 25 #[.agg #[ra, .int .i64 d], .agg #[rb, .int .i64 d]] w fun e w' => e = .returned (.bool true) ∧ Ext w w' := by
  go_enter Tryd.func25, Tryd.ntmps25
  go_wp2_with fail
  refine (eqInt32S_same _ _ xs _ (ha.ext (((Ext.refl _).alloc _).alloc _)) (hb.ext (((Ext.refl _).alloc _).alloc _)) hx).mono ?_
  rintro e w1 ⟨rfl, F1⟩
  obtain ⟨hc, hf⟩ := F1.rules
  go_wp2
  go_ret
  exact ⟨rfl, (((Ext.refl _).alloc _).alloc _).trans F1⟩
def OwnCls (w : World) (base : Nat) (v : Value) (rs : List Value) (cs : List (List Int × Int)) : Prop :=
  rs.length = cs.length ∧ (∃ ys, w.ownsRow base 45 2 v cs.length ys ∧ ∀ j, j < cs.length → ys[j * 2]? = some (rV rs j) ∧ ys[j * 2 + 1]? = some (.int .i64 (cW cs j))) ∧
  (∀ j, j < cs.length → w.ownsRow base 21 1 (rV rs j) (cR cs j).length ((cR cs j).map (Value.int .i32))) ∧
  (∀ i j g, i < j → j < cs.length → (rV rs i).ownBlock = some g → (rV rs j).ownBlock ≠ some g)
theorem OwnCls.ext {w w' : World} {base : Nat} {v : Value} {rs : List Value} {cs : List (List Int × Int)} (h : OwnCls w base v rs cs) (he : Ext w w') : OwnCls w' base v rs cs := by
  obtain ⟨h0, ⟨ys, h1, h2⟩, h3, h4⟩ := h
  exact ⟨h0, ⟨ys, he.owns h1, h2⟩, fun j hj => he.owns (h3 j hj), h4⟩
theorem OwnCls.cls {w : World} {base : Nat} {v : Value} {rs : List Value} {cs : List (List Int × Int)} (h : OwnCls w base v rs cs) : ClsAt w v cs := by
  obtain ⟨_, ⟨ys, h1, h2⟩, h3, _⟩ := h
  rcases h1.2 with ⟨rfl, h0⟩ | ⟨g, cap, cur, rfl, hb, hg, hn, hm, hs, ht⟩
  · exact ⟨rs, none, 0, by rw [h0], by omega, fun j hj => by omega, fun hp => by omega⟩
  · refine ⟨rs, _, cap, rfl, hn, fun j hj => ints_of_owns (h3 j hj), fun _ => ⟨g, 0, rfl, fun j hj => ?_⟩⟩
    have := h2 j hj
    rw [Nat.zero_add, h1.cellAt _ (by omega), h1.cellAt _ (by omega)]
    exact this
set_option maxHeartbeats 1000000 in
theorem eqClusterS_same (va vb : Value) (cs : List (List Int × Int)) (w : World) (ha : ClsAt w va cs) (hb : ClsAt w vb cs) (hl : cs.length ≤ 4398046511104) (hx : ∀ j, j < cs.length → (cR cs j).length ≤ 4398046511104) :
    Calls Tryd.prog 13 #[va, vb] w fun e w' => e = .returned (.bool true) ∧ Ext w w' := by
  obtain ⟨ra, ao, ca, rfl, hca, hra, hxa⟩ := ha
  obtain ⟨rb, bo, cb, rfl, hcb, hrb, hxb⟩ := hb
  obtain ⟨n, hn⟩ : ∃ n, n = cs.length := ⟨_, rfl⟩
  rw [← hn] at hca hra hxa hcb hrb hxb hl hx ⊢
  clear hn
  by_cases h0 : n = 0
  · subst h0
    clear hxa hxb hra hrb hx
    go_enter Tryd.func13, Tryd.ntmps13
    go_wp2
    go_loop [5] (fun i => i = .int .i64 0) (fun _ => 0)
    case atStart => rfl
    case round =>
      subst hrel
      go_wp2
      go_ret
      exact ⟨rfl, Ext.refl _⟩
  · obtain ⟨b1, o1, rfl, h1⟩ := hxa (by omega)
    obtain ⟨b2, o2, rfl, h2⟩ := hxb (by omega)
    clear hxa hxb
    have H1 := hide h1
    have H2 := hide h2
    have HA := hide hra
    have HB := hide hrb
    have HX := hide hx
    clear h1 h2 hra hrb hx
    go_enter Tryd.func13, Tryd.ntmps13
    go_wp2
    go_loopw [5] (fun i w' => ∃ k : Nat, k ≤ n ∧ i = .int .i64 k ∧ Ext w w') (fun i _ => n - (intOf i).toNat)
    case atStart => exact ⟨0, Nat.zero_le _, rfl, Ext.refl _⟩
    case round =>
      obtain ⟨k, hk, rfl, hext⟩ := hrel
      by_cases hlt : k < n
      · have g1 := hext.cell ((unhide H1) k hlt).1
        have g2 := hext.cell ((unhide H1) k hlt).2
        have g3 := hext.cell ((unhide H2) k hlt).1
        have g4 := hext.cell ((unhide H2) k hlt).2
        have bk : (k : Int) < (n : Int) := by omega
        have hc := hide (fun W (hW : Ext wr W) => eqCluster_same (rV ra k) (rV rb k) (cR cs k) (cW cs k) W (((unhide HA) k hlt).ext (hext.trans hW)) (((unhide HB) k hlt).ext (hext.trans hW)) ((unhide HX) k hlt))
        go_wp2
        go_region_held3 (fun W => Ext wr W ∧ W.cell? ⟨b1, o1 + k * 2, none⟩ = some (rV ra k) ∧ W.cell? ⟨b1, o1 + k * 2 + 1, none⟩ = some (.int .i64 (cW cs k)) ∧ W.cell? ⟨b2, o2 + k * 2, none⟩ = some (rV rb k) ∧ W.cell? ⟨b2, o2 + k * 2 + 1, none⟩ = some (.int .i64 (cW cs k))) (first | exact ⟨(Ext.refl wr).drew, g1, g2, g3, g4⟩ | exact ⟨(Ext.refl wr).drew.trans he', he'.cell g1, he'.cell g2, he'.cell g3, he'.cell g4⟩) (first | (go_at_call 25; refine ((unhide hc) _ (Ext.refl wr).drew).mono ?_; rintro e w' ⟨rfl, he'⟩))
        rename_i hS
        have hE := hext.trans hS.1
        clear hS g1 g2 g3 g4
        go_wp2
        go_roundw
        case rel => exact ⟨k + 1, by omega, by go_num, hE⟩
        case measure => simp [intOf]; omega
      · go_wp2
        go_ret
        exact ⟨rfl, hext⟩
end Go.Proofs.YtkimnihdjeonpaaDoor
