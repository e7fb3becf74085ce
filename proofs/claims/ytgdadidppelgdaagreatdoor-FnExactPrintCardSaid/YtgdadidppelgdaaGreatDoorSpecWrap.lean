import Derived.Test.YtgdadidppelgdaaGreatDoorWrapC
namespace Go.Proofs.YtgdadidppelgdaaGreatDoor
open Go.RowKit

theorem infoClw : (Tryz.prog.info? 139).map (fun i => (i.zero, i.size, i.bytes)) = some (some (.agg #[.slice none 0 0, .int .i64 0]), 2, 32) := by kernel_rfl
theorem cls_take_succ (cs : List (List Int × Int)) (k : Nat) (h : k < cs.length) : cs.take (k + 1) = cs.take k ++ [(cR cs k, cW cs k)] := by
  rw [List.take_succ_eq_append_getElem h]
  congr 1
  simp [cR, cW, h]
theorem cls_none {W : World} {base : Nat} {v : Value} (h : W.ownsRow base 139 2 v 0 []) : OwnCls W base v [] [] :=
  ⟨rfl, ⟨[], h, fun j hj => by simp at hj⟩, fun j hj => by simp at hj, fun i j g _ hj => by simp at hj⟩
theorem owns_empty' (w : World) (base : Nat) (t : TypeId) (sz : Nat) (hb : base ≤ w.heap.size) : (w.alloc (.cells #[] t)).ownsRow base t sz (.slice (some ⟨w.heap.size, 0, none⟩) 0 0) 0 [] :=
  ⟨by simp, .inr ⟨w.heap.size, 0, #[], rfl, hb, heap_alloc_new w _, Nat.le_refl _, by unfold maxLen; omega, by simp, by simp⟩⟩
set_option maxHeartbeats 2000000 in
theorem l1Copy_any (v : Value) (cs : List (List Int × Int)) (w : World) (hv : ClsAt w v cs) (hl : cs.length ≤ 16777216) (hx : ∀ j, j < cs.length → (cR cs j).length ≤ 16777216) :
    Calls Tryz.prog 105 #[v] w fun e w' => ∃ v' rs, e = .returned v' ∧ OwnCls w' w.heap.size v' rs cs ∧ Ext w w' := by
  obtain ⟨ic, hic, hc0, hc1, hc2⟩ := info_parts infoClw
  obtain ⟨ii, hii, hi0, hi1, hi2⟩ := info_parts infoI32w
  obtain ⟨ra, ao, ca, rfl, hca, hra, hxa⟩ := hv
  obtain ⟨n, hn⟩ : ∃ n, n = cs.length := ⟨_, rfl⟩
  rw [← hn] at hca hra hxa hl hx ⊢
  have HN := hide hn
  have HR := hide hra
  have HX := hide hx
  have HXA := hide hxa
  clear hn hra hx hxa
  go_enter Tryz.func105, Tryz.ntmps105
  go_wp2
  go_loopw [3, 4] (fun o i wr => ∃ (k : Nat) (rs : List Value), k ≤ n ∧ i = .int .i64 k ∧ Hid (OwnCls wr w.heap.size o rs (cs.take k)) ∧ Ext w wr) (fun _ i _ => n - (intOf i).toNat)
  case atStart => exact ⟨0, [], Nat.zero_le _, rfl, cls_none (owns_empty' w _ _ _ (Nat.le_refl _)), (Ext.refl _).alloc _⟩
  case round =>
    obtain ⟨k, rs, hk, rfl, HO, hext⟩ := hrel
    by_cases hlt : k < n
    · have bk : (k : Int) < (n : Int) := by omega
      obtain ⟨b, off, rfl, hc⟩ := (unhide HXA) (by omega)
      have g1 := hext.cell (hc k hlt).1
      have g2 := hext.cell (hc k hlt).2
      have HRK := hide (((unhide HR) k hlt).ext hext)
      have hxk := (unhide HX) k hlt
      have hlc : k < cs.length := by rw [← unhide HN]; exact hlt
      have hst := hide (cls_take_succ cs k hlc)
      have hlk : (cs.take k).length = k := by simp; omega
      have z2 := hext.size
      obtain ⟨h0', ⟨ys, hy, hyy⟩, h3, h4⟩ := (unhide HO)
      rw [hlk] at hy hyy h3
      have HY := hide hy
      have HYY := hide hyy
      have H3 := hide h3
      clear hc hy hyy h3 h4
      obtain ⟨xs, hxs⟩ : ∃ xs, xs = cR cs k := ⟨_, rfl⟩
      obtain ⟨d, hd⟩ : ∃ d, d = cW cs k := ⟨_, rfl⟩
      rw [← hxs] at HRK hxk hst
      rw [← hd] at g2 hst
      clear hxs hd
      obtain ⟨rk, hrk⟩ : ∃ r, r = rV ra k := ⟨_, rfl⟩
      rw [← hrk] at g1 HRK
      clear hrk
      obtain ⟨xa, xc, rfl, _, _⟩ := unhide HRK
      have E0 : Ext wr (wr.alloc (.cells #[] 21)) := (Ext.refl _).alloc _
      have HE0 := hide (owns_empty' wr (w.heap.size) 21 1 z2)
      have hz0 : (wr.alloc (.cells #[] 21)).heap.size = wr.heap.size + 1 := by simp
      obtain ⟨V, hV⟩ : ∃ V, V = wr.alloc (.cells #[] 21) := ⟨_, rfl⟩
      have HVV := hide hV
      rw [← hV] at E0 HE0 hz0
      have m1 := E0.cell g1
      have m2 := E0.cell g2
      clear hV
      by_cases h0 : 0 < xs.length
      · obtain ⟨b', off', rfl, hn'⟩ := ints_news' ((unhide HRK).ext E0.drew) h0
        have HC := hide hn'
        clear hn'
        go_wp2
        rw [← unhide HVV]
        go_region_law (first
          | (refine step_append_lies _ (by rfl) _ _ _ (by rfl) w.heap.size 21 ii _ 1 4 Tryz.underlying125 hii hi0 hi1 hi2 rfl (by omega) _ 0 [] (by rfl) (unhide HE0).drew ⟨b', off', none⟩ xs.length xc (xs.map (Value.int .i32)) (by rfl) (by simp) (unhide HC) (ints_oneCell _ _) (by omega) (by unfold maxLen; omega) (by omega) (by simp [hz0]; omega) (wr.heap.size + 1) (by simp [hz0]) ?_; intro g5 cap5 w5 o5 G5 at5 lt5
             have E5 : Ext wr w5 := E0.drew.grown G5 (fun q hq => by simp [Value.ownBlock] at hq; omega)
             have n1 := E5.cell g1
             have n2 := E5.cell g2
             have z5 := E5.size
             have hg5 : wr.heap.size ≤ g5 := at5.elim (fun e => by simp [Value.ownBlock] at e; omega) (fun e => by omega)
             have HY5 := hide (E5.owns (unhide HY))
             rw [Nat.zero_add, List.nil_append] at o5
             have O5 := hide o5
             clear o5 G5 at5)
          | (refine step_append_lies _ (by rfl) _ _ _ (by rfl) w.heap.size 139 ic _ 2 32 Tryz.underlying115 hic hc0 hc1 hc2 rfl (by omega) u3 k ys (by rfl) (((Ext.refl w5).alloc _).owns (unhide HY5)) ⟨w5.heap.size, 0, none⟩ 1 1 [.slice (some ⟨g5, 0, none⟩) xs.length cap5, .int .i64 d] (by rfl) (by rfl) (news_cells (w := w5) [.slice (some ⟨g5, 0, none⟩) xs.length cap5, .int .i64 d] 139) (pair_one rfl rfl) (by omega) (by unfold maxLen; omega) (by omega) (by simp; omega) (w5.heap.size + 1) (by simp) ?_
             intro g6 cap6 w6 o6 G6 at6 lt6
             have HO6 := hide (OwnCls.push (r := .slice (some ⟨g5, 0, none⟩) xs.length cap5) (xs := xs) (d := d) (((unhide HO).ext E5).ext ((Ext.refl w5).alloc _)) (by rw [hlk]; exact ((Ext.refl w5).alloc _).owns (unhide HY5)) (by rw [hlk]; exact unhide HYY) (((Ext.refl w5).alloc _).owns (unhide O5)) (fun j q hj hq => by rw [hlk] at hj; have := ((unhide H3) j hj).lt q hq; simp [Value.ownBlock]; omega) (by rw [hlk]; exact o6) G6)
             rw [← unhide hst] at HO6
             have HE6 := hide ((hext.trans (E5.alloc _)).grown G6 (fun q hq => ((unhide HY).lt q hq).1))
             clear o6 G6))
        all_goals
          go_wp2
          go_roundw
          case rel => exact ⟨k + 1, _, by omega, by go_num, HO6, unhide HE6⟩
          case measure => simp [intOf]; omega
      · have e0 : xs = [] := List.eq_nil_of_length_eq_zero (by omega)
        subst e0
        simp only [List.length_nil] at m1 m2 g1 g2
        have E5 : Ext wr V.drew := E0.drew
        have HY5 := hide (E5.owns (unhide HY))
        have O5 : Hid (V.drew.ownsRow w.heap.size 21 1 (.slice (some ⟨wr.heap.size, 0, none⟩) 0 0) 0 []) := hide (unhide HE0).drew
        have fin : ∀ g6 cap6 w6, w6.ownsRow w.heap.size 139 2 (.slice (some ⟨g6, 0, none⟩) (k + 1) cap6) (k + 1) (ys ++ [.slice (some ⟨wr.heap.size, 0, none⟩) 0 0, .int .i64 d]) → (V.drew.alloc (.cells #[.slice (some ⟨wr.heap.size, 0, none⟩) 0 0, .int .i64 d] 139)).grownBy w6 u3.ownBlock → OwnCls w6 w.heap.size (.slice (some ⟨g6, 0, none⟩) (k + 1) cap6) (rs ++ [.slice (some ⟨wr.heap.size, 0, none⟩) 0 0]) (cs.take (k + 1)) ∧ Ext w w6 := by
          intro g6 cap6 w6 o6 G6
          have h1 := OwnCls.push (r := .slice (some ⟨wr.heap.size, 0, none⟩) 0 0) (xs := []) (d := d) (((unhide HO).ext E5).ext ((Ext.refl V.drew).alloc _)) (by rw [hlk]; exact ((Ext.refl V.drew).alloc _).owns (unhide HY5)) (by rw [hlk]; exact unhide HYY) (((Ext.refl V.drew).alloc _).owns (unhide O5)) (fun j q hj hq => by rw [hlk] at hj; have := ((unhide H3) j hj).lt q hq; simp [Value.ownBlock]; omega) (by rw [hlk]; exact o6) G6
          rw [← unhide hst] at h1
          exact ⟨h1, (hext.trans (E5.alloc _)).grown G6 (fun q hq => ((unhide HY).lt q hq).1)⟩
        have FIN := hide fin
        clear fin
        rcases xa with _ | ⟨b', off', sp'⟩
        · go_wp2
          rw [← unhide HVV]
          go_region_law (first
            | (refine step_append_lies _ (by rfl) _ _ _ (by rfl) w.heap.size 139 ic _ 2 32 Tryz.underlying115 hic hc0 hc1 hc2 rfl (by omega) u3 k ys (by rfl) (((Ext.refl V.drew).alloc _).owns (unhide HY5)) ⟨wr.heap.size + 1, 0, none⟩ 1 1 [.slice (some ⟨wr.heap.size, 0, none⟩) 0 0, .int .i64 d] (by rfl) (by rfl) (by have := news_cells (w := V.drew) [.slice (some ⟨wr.heap.size, 0, none⟩) 0 0, .int .i64 d] 139; rw [show V.drew.heap.size = wr.heap.size + 1 from hz0] at this; exact this) (pair_one rfl rfl) (by omega) (by unfold maxLen; omega) (by omega) (by simp [hz0]; omega) (wr.heap.size + 1 + 1) (by simp [hz0]) ?_
               intro g6 cap6 w6 o6 G6 at6 lt6
               have HO6 := hide ((unhide FIN) g6 cap6 w6 o6 G6)
               clear o6 G6))
          all_goals
            go_wp2
            go_roundw
            case rel => exact ⟨k + 1, _, by omega, by go_num, (unhide HO6).1, (unhide HO6).2⟩
            case measure => simp [intOf]; omega
        · go_wp2
          rw [← unhide HVV]
          go_region_law (first
            | (refine step_append_lies _ (by rfl) _ _ _ (by rfl) w.heap.size 139 ic _ 2 32 Tryz.underlying115 hic hc0 hc1 hc2 rfl (by omega) u3 k ys (by rfl) (((Ext.refl V.drew).alloc _).owns (unhide HY5)) ⟨wr.heap.size + 1, 0, none⟩ 1 1 [.slice (some ⟨wr.heap.size, 0, none⟩) 0 0, .int .i64 d] (by rfl) (by rfl) (by have := news_cells (w := V.drew) [.slice (some ⟨wr.heap.size, 0, none⟩) 0 0, .int .i64 d] 139; rw [show V.drew.heap.size = wr.heap.size + 1 from hz0] at this; exact this) (pair_one rfl rfl) (by omega) (by unfold maxLen; omega) (by omega) (by simp [hz0]; omega) (wr.heap.size + 1 + 1) (by simp [hz0]) ?_
               intro g6 cap6 w6 o6 G6 at6 lt6
               have HO6 := hide ((unhide FIN) g6 cap6 w6 o6 G6)
               clear o6 G6))
          all_goals
            go_wp2
            go_roundw
            case rel => exact ⟨k + 1, _, by omega, by go_num, (unhide HO6).1, (unhide HO6).2⟩
            case measure => simp [intOf]; omega
    · obtain rfl : k = n := by omega
      have HF : Hid (OwnCls wr w.heap.size u3 rs cs) := by
        have := unhide HO
        rw [unhide HN, List.take_length] at this
        exact hide this
      go_wp2
      go_ret
      exact ⟨_, rs, rfl, unhide HF, hext⟩
end Go.Proofs.YtgdadidppelgdaaGreatDoor

namespace Go.Proofs.YtgdadidppelgdaaGreatDoor
open Go.RowKit

/-- The places at which rows begin, and what the last row takes, after k clusters. -/
def stF (cs : List (List Int × Int)) (cols : Int) : Nat → List Int × Int
  | 0 => ([0], 0)
  | k + 1 => if at0 (stF cs cols k).1 ((stF cs cols k).1.length - 1) < (k : Int) ∧ cols < (stF cs cols k).2 + cWd (cW cs k) then ((stF cs cols k).1 ++ [(k : Int)], cWd (cW cs k)) else ((stF cs cols k).1, (stF cs cols k).2 + cWd (cW cs k))
theorem at0_app {xs : List Int} {x : Int} {i : Nat} : at0 (xs ++ [x]) i = if i = xs.length then x else at0 xs i := by
  unfold at0
  by_cases h : i = xs.length
  · subst h; simp
  · rw [if_neg h]
    by_cases h2 : i < xs.length
    · rw [List.getElem?_append_left h2]
    · rw [List.getElem?_eq_none (by simp; omega), List.getElem?_eq_none (by omega)]
/-- What holds of them. -/
structure StOk (S : List Int) (u : Int) (k : Nat) : Prop where
  one : 1 ≤ S.length
  len : S.length ≤ k + 1
  u0 : 0 ≤ u
  u1 : u ≤ 1000 * (k : Int)
  at00 : at0 S 0 = 0
  le : ∀ i, i < S.length → 0 ≤ at0 S i ∧ at0 S i ≤ (k : Int)
  mono : ∀ i, i + 1 < S.length → at0 S i ≤ at0 S (i + 1)
theorem stF_ok (cs : List (List Int × Int)) (cols : Int) : ∀ k, StOk (stF cs cols k).1 (stF cs cols k).2 k
  | 0 => ⟨by simp [stF], by simp [stF], by simp [stF], by simp [stF], by simp [stF, at0], fun i hi => by
      simp [stF] at hi; subst hi; simp [stF, at0], fun i hi => by simp [stF] at hi⟩
  | k + 1 => by
    have h := stF_ok cs cols k
    have hw := cWd_bd (cW cs k)
    have h1 := h.one
    have h2 := h.len
    have h3 := h.u0
    have h4 := h.u1
    rw [stF]
    split
    · refine ⟨by simp, by simp; omega, by dsimp only; omega, by dsimp only; omega, ?_, fun i hi => ?_, fun i hi => ?_⟩
      · dsimp only; rw [at0_app, if_neg (by omega)]; exact h.at00
      · dsimp only at hi ⊢
        simp at hi
        rw [at0_app]
        split
        · omega
        · have := h.le i (by omega); omega
      · dsimp only at hi ⊢
        simp at hi
        rw [at0_app, at0_app, if_neg (by omega)]
        split
        · have := h.le i (by omega); omega
        · exact h.mono i (by omega)
    · refine ⟨h1, by dsimp only; omega, by dsimp only; omega, by dsimp only; omega, h.at00, fun i hi => ?_, h.mono⟩
      have := h.le i hi
      dsimp only
      omega
theorem infoInt : (Tryz.prog.info? 3).map (fun i => (i.zero, i.size, i.bytes)) = some (some (.int .i64 0), 1, 8) := by kernel_rfl
set_option maxRecDepth 10000 in
set_option maxHeartbeats 2000000 in
theorem l1Starts_any (v : Value) (cs : List (List Int × Int)) (cols : Int) (w : World) (hv : ClsAt w v cs) (hl : cs.length ≤ 16777216) :
    Calls Tryz.prog 90 #[v, .int .i64 cols] w fun e w' => ∃ v', e = .returned v' ∧ w'.ownsRow w.heap.size 3 1 v' (stF cs cols cs.length).1.length ((stF cs cols cs.length).1.map (Value.int .i64)) ∧ Ext w w' := by
  obtain ⟨ii, hii, hi0, hi1, hi2⟩ := info_parts infoInt
  obtain ⟨ra, ao, ca, rfl, hca, hra, hxa⟩ := hv
  obtain ⟨n, hn⟩ : ∃ n, n = cs.length := ⟨_, rfl⟩
  rw [← hn] at hca hra hxa hl ⊢
  have HXA := hide hxa
  clear hn hra hxa
  have HOK := hide (fun k => stF_ok cs cols k)
  go_enter Tryz.func90, Tryz.ntmps90
  go_wp2
  go_loopw [5, 6, 7] (fun o u i wr => ∃ (k : Nat), k ≤ n ∧ i = .int .i64 k ∧ u = .int .i64 (stF cs cols k).2 ∧ Hid (wr.ownsRow w.heap.size 3 1 o (stF cs cols k).1.length ((stF cs cols k).1.map (Value.int .i64))) ∧ Ext w wr) (fun _ _ i _ => n - (intOf i).toNat)
  case atStart =>
    refine ⟨0, Nat.zero_le _, rfl, rfl, ?_, (Ext.refl _).alloc _⟩
    exact hide (own_lit (w := w) .i64 [0] 3 w.heap.size 1 rfl (Nat.le_refl _) (by unfold maxLen; simp))
  case round =>
    obtain ⟨k, hk, rfl, rfl, HO, hext⟩ := hrel
    obtain ⟨S, hS⟩ : ∃ S, S = (stF cs cols k).1 := ⟨_, rfl⟩
    obtain ⟨u, hu⟩ : ∃ u, u = (stF cs cols k).2 := ⟨_, rfl⟩
    have hok := (unhide HOK) k
    have hst : Hid (stF cs cols (k + 1) = if at0 S (S.length - 1) < (k : Int) ∧ cols < u + cWd (cW cs k) then (S ++ [(k : Int)], cWd (cW cs k)) else (S, u + cWd (cW cs k))) := by
      show _ = _
      rw [hS, hu]; rfl
    rw [← hS] at HO hok
    rw [← hu] at hok ⊢
    have HS := hide hS
    have HU := hide hu
    clear hS hu
    by_cases hlt : k < n
    · have bk : (k : Int) < (n : Int) := by omega
      obtain ⟨b, off, rfl, hc⟩ := (unhide HXA) (by omega)
      have g1 := hext.cell (hc k hlt).1
      have g2 := hext.cell (hc k hlt).2
      have OC := hide (hc k hlt)
      clear hc
      obtain ⟨g, cap, rfl⟩ : ∃ g cap, u5 = .slice (some ⟨g, 0, none⟩) S.length cap := by
        rcases (unhide HO).2 with ⟨_, e⟩ | ⟨g, cap, cur, e, _⟩
        · have := hok.one; omega
        · exact ⟨g, cap, e⟩
      have h1 := hok.one
      have h2 := hok.len
      have h3 := hok.u0
      have h4 := hok.u1
      have hwd := cWd_bd (cW cs k)
      obtain ⟨m, hm⟩ : ∃ m, S.length = m + 1 := ⟨S.length - 1, by omega⟩
      obtain ⟨L, hL⟩ : ∃ L, L = at0 S m := ⟨_, rfl⟩
      have cL : wr.cell? ⟨g, m, none⟩ = some (.int .i64 L) := by
        rw [(unhide HO).cellAt m (by omega), hL]
        simp [at0_lt (show m < S.length by omega)]
      have hb := hok.le m (by omega)
      rw [← hL] at hb
      rw [show S.length - 1 = m by omega, ← hL] at hst
      rw [hm] at HO ⊢
      have hmb : m ≤ k := by omega
      have HLN := hide hm
      clear hL hok hm
      have hw1 : IntKind.i64.wrap (((m + 1 : Nat) : Int) - 1) = (m : Int) := by rw [IntKind.wrap_i64]; omega
      have hw1b : IntKind.i64.wrap ((m : Int) + 1 - 1) = (m : Int) := by rw [IntKind.wrap_i64]; omega
      have hw2 : IntKind.i64.wrap (u + cWd (cW cs k)) = u + cWd (cW cs k) := by rw [IntKind.wrap_i64]; omega
      have hw3 : ((m : Int) + 1 - 1) = (m : Int) := by omega
      have hmm : (m : Int) < (m : Int) + 1 := by omega
      by_cases hlk : L < (k : Int)
      · go_wp2_with fail
        refine (l1Wide_any _ _ _).mono ?_
        rintro e w1 ⟨rfl, F1⟩
        have q1 := F1.cell g1
        have q2 := F1.cell g2
        have E1 := hext.trans F1
        have z1 := E1.size
        by_cases hov : cols < u + cWd (cW cs k)
        · have hs1 : Hid (stF cs cols (k + 1) = (S ++ [(k : Int)], cWd (cW cs k))) := by show _ = _; rw [hst.out, if_pos ⟨hlk, hov⟩]
          have HY := hide (((Ext.refl w1).alloc (.cells #[.int .i64 (k : Int)] 3)).owns (F1.owns (unhide HO)))
          have r1 := fun o => ((Ext.refl w1).alloc o).cell q1
          have r2 := fun o => ((Ext.refl w1).alloc o).cell q2
          go_wp2_with (at_builtin; go_must (refine wpList_append_own _ rfl _ _ 127 rfl w.heap.size 3 ii (.int .i64 0) 1 8 Tryz.underlying127 hii hi0 hi1 hi2 rfl (by decide) _ _ _ rfl (unhide HY) ⟨w1.heap.size, 0, none⟩ 1 1 [.int .i64 (k : Int)] rfl rfl ?_ (by simp [Value.oneCell']) ?_ ?_ ?_ ?_))
          · exact news_cells (w := w1) [.int .i64 (k : Int)] 3
          · unfold maxLen; omega
          · omega
          · simp; omega
          · intro v' w3 hown' hgrow _
            have E3 : Ext w w3 := (E1.alloc _).grown hgrow (fun q hq => ((unhide HY).lt q hq).1)
            have HO3 : Hid (w3.ownsRow w.heap.size 3 1 v' (S ++ [(k : Int)]).length ((S ++ [(k : Int)]).map (Value.int .i64))) := by
              refine hide ?_
              rw [List.length_append, unhide HLN, List.map_append]
              exact hown'
            clear hown' hgrow r1 r2 q1 q2 g1 g2
            have g1 := E3.cell (unhide OC).1
            have g2 := E3.cell (unhide OC).2
            go_wp2_with fail
            refine (l1Wide_any _ _ _).mono ?_
            rintro e w4 ⟨rfl, F4⟩
            have HO4 := hide (F4.owns (unhide HO3))
            go_wp2
            go_roundw
            case rel => exact ⟨k + 1, by omega, by go_num, by rw [hs1.out], by rw [hs1.out]; exact HO4, E3.trans F4⟩
            case measure => simp [intOf]; omega
        · have hs1 : Hid (stF cs cols (k + 1) = (S, u + cWd (cW cs k))) := by show _ = _; rw [hst.out, if_neg (fun h => hov h.2)]
          go_wp2_with fail
          refine (l1Wide_any _ _ _).mono ?_
          rintro e w2 ⟨rfl, F2⟩
          have HO2 := hide ((F1.trans F2).owns (unhide HO))
          go_wp2
          go_roundw
          case rel => exact ⟨k + 1, by omega, by go_num, by rw [hs1.out], by rw [hs1.out, unhide HLN]; exact HO2, E1.trans F2⟩
          case measure => simp [intOf]; omega
      · have hs1 : Hid (stF cs cols (k + 1) = (S, u + cWd (cW cs k))) := by show _ = _; rw [hst.out, if_neg (fun h => hlk h.1)]
        go_wp2_with fail
        refine (l1Wide_any _ _ _).mono ?_
        rintro e w2 ⟨rfl, F2⟩
        have HO2 := hide (F2.owns (unhide HO))
        go_wp2
        go_roundw
        case rel => exact ⟨k + 1, by omega, by go_num, by rw [hs1.out], by rw [hs1.out, unhide HLN]; exact HO2, hext.trans F2⟩
        case measure => simp [intOf]; omega
    · obtain rfl : k = n := by omega
      rw [unhide HS] at HO
      go_wp2
      go_ret
      exact ⟨_, rfl, unhide HO, hext⟩
end Go.Proofs.YtgdadidppelgdaaGreatDoor

namespace Go.Proofs.YtgdadidppelgdaaGreatDoor
open Go.RowKit

/-- All places at which rows begin, and the end. -/
def wrS (cs : List (List Int × Int)) (cols : Int) : List Int := (stF cs cols cs.length).1 ++ [(cs.length : Int)]
def wrR (cs : List (List Int × Int)) (cols : Int) : Nat := if cols < 2 then 0 else (stF cs cols cs.length).1.length
def wrC (cs : List (List Int × Int)) (cols : Int) (i : Nat) : List (List Int × Int) := (cs.take (at0 (wrS cs cols) (i + 1)).toNat).drop (at0 (wrS cs cols) i).toNat
theorem wrS_step (cs : List (List Int × Int)) (cols : Int) (i : Nat) (h : i < (stF cs cols cs.length).1.length) : 0 ≤ at0 (wrS cs cols) i ∧ at0 (wrS cs cols) i ≤ at0 (wrS cs cols) (i + 1) ∧ at0 (wrS cs cols) (i + 1) ≤ (cs.length : Int) := by
  have hok := stF_ok cs cols cs.length
  unfold wrS
  rw [at0_app, if_neg (by omega), at0_app]
  have h1 := hok.le i h
  split
  · omega
  · have h2 := hok.mono i (by omega)
    have h3 := hok.le (i + 1) (by omega)
    omega
theorem ClsAt.sub {w : World} {b off cap : Nat} {cs : List (List Int × Int)} (h : ClsAt w (.slice (some ⟨b, off, none⟩) cs.length cap) cs) (s e : Nat) (hse : s ≤ e) (he : e ≤ cs.length) (v : Value) (c : Nat) (hv : v = .slice (some ⟨b, off + s * 2, none⟩) (e - s) c) (hc : e - s ≤ c) : ClsAt w v ((cs.take e).drop s) := by
  obtain ⟨rs, ao, ca, e1, hca, hr, hx⟩ := h
  have hlen : ((cs.take e).drop s).length = e - s := by simp; omega
  have hR : ∀ j, j < e - s → cR ((cs.take e).drop s) j = cR cs (s + j) ∧ cW ((cs.take e).drop s) j = cW cs (s + j) := by
    intro j hj
    unfold cR cW
    rw [List.getElem?_drop, List.getElem?_take, if_pos (by omega)]
    exact ⟨rfl, rfl⟩
  refine ⟨rs.drop s, _, c, by rw [hlen]; exact hv, by omega, ?_, ?_⟩
  · intro j hj
    rw [hlen] at hj
    rw [(hR j hj).1]
    have : rV (rs.drop s) j = rV rs (s + j) := by
      unfold rV
      rw [List.getElem?_drop]
    rw [this]
    exact hr (s + j) (by omega)
  · intro hp
    rw [hlen] at hp
    obtain ⟨b', off', e2, hcell⟩ := hx (by omega)
    injection e1 with e3
    rw [e2] at e3
    injection e3 with e4
    injection e4 with e5 e6
    subst e5 e6
    refine ⟨b, off + s * 2, rfl, fun j hj => ?_⟩
    rw [hlen] at hj
    have h5 := hcell (s + j) (by omega)
    have : rV (rs.drop s) j = rV rs (s + j) := by
      unfold rV
      rw [List.getElem?_drop]
    rw [this, (hR j hj).2, show off + s * 2 + j * 2 = off + (s + j) * 2 by omega]
    exact h5
theorem infoRw : (Tryz.prog.info? 115).map (fun i => (i.zero, i.size, i.bytes)) = some (some (.slice none 0 0), 1, 24) := by kernel_rfl
theorem css_nil {W : World} {base : Nat} {v : Value} {rv : Nat → Value} {rs : Nat → List Value} {cs : Nat → List (List Int × Int)} (h : W.ownsRow base 115 1 v 0 []) : OwnCss W base v rv rs 0 cs :=
  ⟨⟨[], h, fun j hj => by omega⟩, fun i hi => by omega, fun i j g _ hj => by omega⟩
set_option maxRecDepth 10000 in
set_option maxHeartbeats 2000000 in
theorem specWrap_any (b off cap : Nat) (cs : List (List Int × Int)) (cols : Int) (w : World) (hv : ClsAt w (.slice (some ⟨b, off, none⟩) cs.length cap) cs) (hcap : cs.length ≤ cap) (hl : cs.length ≤ 4194304) (hx : ∀ j, j < cs.length → (cR cs j).length ≤ 4194304) :
    Calls Tryz.prog 77 #[.slice (some ⟨b, off, none⟩) cs.length cap, .int .i64 cols] w fun e w' => ∃ v' rv rs, e = .returned v' ∧ OwnCss w' w.heap.size v' rv rs (wrR cs cols) (wrC cs cols) ∧ Ext w w' := by
  obtain ⟨ii, hii, hi0, hi1, hi2⟩ := info_parts infoInt
  obtain ⟨ir, hir, hr0, hr1, hr2⟩ := info_parts infoRw
  have HV := hide hv
  have HX := hide hx
  have HE0 := hide (owns_empty' w w.heap.size 115 1 (Nat.le_refl _))
  clear hv hx
  by_cases hc : cols < 2
  · have hR : Hid (wrR cs cols = 0) := by show _ = _; rw [wrR, if_pos hc]
    go_enter Tryz.func77, Tryz.ntmps77
    go_wp2
    go_ret
    exact ⟨_, fun _ => .slice none 0 0, fun _ => [], rfl, by rw [hR.out]; exact css_nil (unhide HE0), (Ext.refl _).alloc _⟩
  · have hR : Hid (wrR cs cols = (stF cs cols cs.length).1.length) := by show _ = _; rw [wrR, if_neg hc]
    have hok := hide (stF_ok cs cols cs.length)
    go_enter Tryz.func77, Tryz.ntmps77
    go_wp2_with fail
    refine (l1Starts_any _ cs cols _ ((unhide HV).ext ((Ext.refl _).alloc _)) (by omega)).mono ?_
    rintro e w1 ⟨sv, rfl, os, F1⟩
    have E1 := ((Ext.refl w).alloc _).trans F1
    have hlen1 := (unhide hok).one
    have hlen2 := (unhide hok).len
    have HOS := hide (((Ext.refl w1).alloc (.cells #[.int .i64 (cs.length : Int)] 3)).owns os)
    have HE1 := hide (F1.owns (unhide HE0))
    have z1 := E1.size
    clear os
    have hz0 : ∀ o, (w.alloc o).heap.size = w.heap.size + 1 := fun o => by simp
    rw [hz0] at HOS
    go_wp2_with (at_builtin; go_must (refine wpList_append_own _ rfl _ _ 127 rfl (w.heap.size + 1) 3 ii (.int .i64 0) 1 8 Tryz.underlying127 hii hi0 hi1 hi2 rfl (by decide) _ _ _ rfl (unhide HOS) ⟨w1.heap.size, 0, none⟩ 1 1 [.int .i64 (cs.length : Int)] rfl rfl ?_ (by simp [Value.oneCell']) ?_ ?_ ?_ ?_))
    · exact news_cells (w := w1) [.int .i64 (cs.length : Int)] 3
    · unfold maxLen; omega
    · omega
    · have := F1.size; simp at this ⊢; omega
    · intro sv' w2 hown' hgrow _
      have G2 : Ext (w.alloc (.cells #[] 115)) w2 := Ext.grown (F1.alloc _) hgrow (fun q hq => by have := ((unhide HOS).lt q hq).1; simp; omega)
      have HS2 : Hid (w2.ownsRow (w.heap.size + 1) 3 1 sv' (wrS cs cols).length ((wrS cs cols).map (Value.int .i64))) := by
        unfold wrS
        rw [List.length_append, List.map_append]
        exact hide hown'
      have hsl : Hid ((wrS cs cols).length = (stF cs cols cs.length).1.length + 1) := by show _ = _; simp [wrS]
      obtain ⟨M, hM⟩ : ∃ M, M = (stF cs cols cs.length).1.length := ⟨_, rfl⟩
      rw [← hM] at hR hlen1 hlen2 hsl
      have HST := hide (fun i (h : i < M) => wrS_step cs cols i (by rw [← hM]; exact h))
      rw [hsl.out] at HS2
      have HK2 := hide (G2.owns (unhide HE0))
      clear hown' hgrow hM
      obtain ⟨g, scap, rfl⟩ : ∃ g c, sv' = .slice (some ⟨g, 0, none⟩) (M + 1) c := by
        rcases (unhide HS2).2 with ⟨_, e⟩ | ⟨g, cap, cur, e, _⟩
        · omega
        · exact ⟨g, cap, e⟩
      go_wp2
      go_loopw [5, 7] (fun o i wr => ∃ (k : Nat) (rv : Nat → Value) (rs : Nat → List Value), k ≤ M ∧ i = .int .i64 k ∧ Hid (OwnCss wr w.heap.size o rv rs k (wrC cs cols)) ∧ Hid (wr.ownsRow (w.heap.size + 1) 3 1 (.slice (some ⟨g, 0, none⟩) (M + 1) scap) (M + 1) ((wrS cs cols).map (Value.int .i64))) ∧ Ext w wr) (fun _ i _ => M - (intOf i).toNat)
      case atStart => exact ⟨0, fun _ => .slice none 0 0, fun _ => [], Nat.zero_le _, rfl, css_nil (unhide HK2), HS2, ((Ext.refl _).alloc _).trans G2⟩
      case round =>
        obtain ⟨k, rv, rs, hk, rfl, HO, HSW, hext⟩ := hrel
        by_cases hlt : k < M
        · have bk : (k : Int) + 1 < (M : Int) + 1 := by omega
          have bk2 : (k : Int) < (M : Int) := by omega
          have bk0 : (0 : Int) ≤ (k : Int) + 1 := by omega
          have hst := (unhide HST) k hlt
          have hwl : (wrS cs cols).length = M + 1 := hsl.out
          obtain ⟨s0, hs0⟩ : ∃ s : Nat, at0 (wrS cs cols) k = (s : Int) := ⟨(at0 (wrS cs cols) k).toNat, by omega⟩
          obtain ⟨s1, hs1⟩ : ∃ s : Nat, at0 (wrS cs cols) (k + 1) = (s : Int) := ⟨(at0 (wrS cs cols) (k + 1)).toNat, by omega⟩
          have cA : wr.cell? ⟨g, k, none⟩ = some (.int .i64 (s0 : Int)) := by
            rw [(unhide HSW).cellAt k (by omega), ← hs0]
            simp [at0_lt (show k < (wrS cs cols).length by omega)]
          have cB : wr.cell? ⟨g, k + 1, none⟩ = some (.int .i64 (s1 : Int)) := by
            rw [(unhide HSW).cellAt (k + 1) (by omega), ← hs1]
            simp [at0_lt (show k + 1 < (wrS cs cols).length by omega)]
          rw [hs0, hs1] at hst
          have hC : Hid (wrC cs cols k = (cs.take s1).drop s0) := by show _ = _; rw [wrC, hs0, hs1]; simp
          clear hwl hs0 hs1
          have hs01 : s0 ≤ s1 := by omega
          have hs1n : s1 ≤ cs.length := by omega
          have hw1 : IntKind.i64.wrap ((k : Int) + 1) = (k : Int) + 1 := by rw [IntKind.wrap_i64]; omega
          have bA : (k : Int) < (M : Int) + 1 := by omega
          have bs1 : (s1 : Int) ≤ (cap : Int) := by omega
          have bs01 : (s0 : Int) ≤ (s1 : Int) := by omega
          have hsub : ClsAt wr (.slice (if cap = s0 then some { block := b, off := off } else some { block := b, off := off + s0 * 2 }) (s1 - s0) (cap - s0)) (wrC cs cols k) := by
            rw [hC.out]
            by_cases e : cap = s0
            · rw [if_pos e]
              have e1 : s1 = s0 := by omega
              subst e1
              exact ⟨[], some ⟨b, off, none⟩, cap - s1, by simp, by simp, fun j hj => by simp at hj, fun hp => by simp at hp⟩
            · rw [if_neg e]
              exact ((unhide HV).ext hext).sub s0 s1 hs01 hs1n _ _ rfl (by omega)
          have hCl : (wrC cs cols k).length ≤ 4194304 := by rw [hC.out]; simp; omega
          have hCx : ∀ j, j < (wrC cs cols k).length → (cR (wrC cs cols k) j).length ≤ 16777216 := by
            intro j hj
            rw [hC.out] at hj ⊢
            have hj2 : j < s1 - s0 := by simp at hj; omega
            have : cR ((cs.take s1).drop s0) j = cR cs (s0 + j) := by
              unfold cR
              rw [List.getElem?_drop, List.getElem?_take, if_pos (by omega)]
            rw [this]
            have := (unhide HX) (s0 + j) (by omega)
            omega
          have hcon := hide (l1Copy_any _ _ wr.drew (hsub.ext (Ext.refl wr).drew) (by omega) hCx)
          have z2 := hext.size
          obtain ⟨ys, hy, hyy⟩ := (unhide HO).1
          have HY := hide hy
          have HYY := hide hyy
          clear hsub hCx hy hyy
          have fin : ∀ (w5 : World) (ra : Option Addr) (rc : Nat) (rs5 : List Value), Ext wr w5 → OwnCls w5 wr.heap.size (.slice ra (wrC cs cols k).length rc) rs5 (wrC cs cols k) → ∀ (g6 cap6 : Nat) (w6 : World), w6.ownsRow w.heap.size 115 1 (.slice (some ⟨g6, 0, none⟩) (k + 1) cap6) (k + 1) (ys ++ [.slice ra (wrC cs cols k).length rc]) → (w5.alloc (.cells #[.slice ra (wrC cs cols k).length rc] 115)).grownBy w6 u5.ownBlock →
              OwnCss w6 w.heap.size (.slice (some ⟨g6, 0, none⟩) (k + 1) cap6) (fun i => if i = k then .slice ra (wrC cs cols k).length rc else rv i) (fun i => if i = k then rs5 else rs i) (k + 1) (wrC cs cols) ∧ Ext w w6 ∧ w6.ownsRow (w.heap.size + 1) 3 1 (.slice (some ⟨g, 0, none⟩) (M + 1) scap) (M + 1) ((wrS cs cols).map (Value.int .i64)) := by
            intro w5 ra rc rs5 E5 O5' g6 cap6 w6 o6 G6
            have EA : Ext w5 (w5.alloc (.cells #[.slice ra (wrC cs cols k).length rc] 115)) := (Ext.refl w5).alloc _
            have HYA := (E5.trans EA).owns (unhide HY)
            have HSA := (E5.trans EA).owns (unhide HSW)
            have h1 := OwnCss.push (r := .slice ra (wrC cs cols k).length rc) (rr := rs5) (c := wrC cs cols k) ((unhide HO).ext (E5.trans EA)) HYA (unhide HYY) ((O5'.ext EA).mono (by omega)) (fun i q hi hq h2 => by
              have h3 := ((unhide HO).2.1 i hi).foot hq
              have h4 := (O5'.foot h2).1
              omega) o6 G6
            refine ⟨h1.congr (fun i hi => ?_), (hext.trans (E5.trans EA)).grown G6 (fun q hq => ((unhide HY).lt q hq).1), owns_same HSA (fun q hq => G6.block q (HSA.lt q hq).2 (fun e => owns_apart HSA HYA (by decide) hq e.symm))⟩
            by_cases e : i = k
            · rw [if_pos e, e]
            · rw [if_neg e]
          have FIN := hide fin
          clear fin
          go_wp2
          go_region_law (first
            | (refine step_append_lies _ (by rfl) _ _ _ (by rfl) w.heap.size 115 ir _ 1 24 Tryz.underlying113 hir hr0 hr1 hr2 rfl (by omega) u5 k ys (by rfl) (((Ext.refl w5).alloc _).owns (unhide HY5)) ⟨w5.heap.size, 0, none⟩ 1 1 [.slice ra (wrC cs cols k).length rc] (by rfl) (by rfl) (news_cells (w := w5) [.slice ra (wrC cs cols k).length rc] 115) (by simp [Value.oneCell']) (by omega) (by unfold maxLen; omega) (by omega) (by simp; omega) (w5.heap.size + 1) (by simp) ?_
               intro g6 cap6 w6 o6 G6 at6 lt6
               have HO6 := hide ((unhide FIN) w5 ra rc rs5 E5 (unhide O5') g6 cap6 w6 o6 G6)
               clear o6 G6)
            | (go_simp; go_at_call 105; refine (unhide hcon).mono ?_; rintro e w5 ⟨v5, rs5, rfl, o5, F5⟩
               obtain ⟨_, ra, rc, rfl, _⟩ := o5.cls
               have E5 : Ext wr w5 := (Ext.refl wr).drew.trans F5
               have z5 := E5.size
               have HY5 := hide (E5.owns (unhide HY))
               have O5' : Hid (OwnCls w5 wr.heap.size (.slice ra (wrC cs cols k).length rc) rs5 (wrC cs cols k)) := hide o5
               have O5 : Hid (OwnCls w5 w.heap.size (.slice ra (wrC cs cols k).length rc) rs5 (wrC cs cols k)) := hide ((unhide O5').mono (by omega))
               clear o5))
          all_goals
            go_wp2
            go_roundw
            case rel => exact ⟨k + 1, _, _, by omega, by go_num, (unhide HO6).1, (unhide HO6).2.2, (unhide HO6).2.1⟩
            case measure => simp [intOf]; omega
        · obtain rfl : k = M := by omega
          rw [← hR.out] at HO
          go_wp2
          go_ret
          exact ⟨_, rv, rs, rfl, unhide HO, hext⟩
end Go.Proofs.YtgdadidppelgdaaGreatDoor
