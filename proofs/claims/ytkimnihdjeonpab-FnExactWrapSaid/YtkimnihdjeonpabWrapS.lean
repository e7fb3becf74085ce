import Derived.Test.YtkimnihdjeonpabWrapC
namespace Go.Proofs.Ytkimnihdjeonpab
open Go.RowKit
def stF (cs : List (List Int × Int)) (cols : Int) : Nat → List Int × Int
  | 0 => ([0], 0)
  | k + 1 => if at0 (stF cs cols k).1 ((stF cs cols k).1.length - 1) < (k : Int) ∧ cols < (stF cs cols k).2 + cWd (cW cs k) then ((stF cs cols k).1 ++ [(k : Int)], cWd (cW cs k)) else ((stF cs cols k).1, (stF cs cols k).2 + cWd (cW cs k))
theorem at0_app {xs : List Int} {x : Int} {i : Nat} : at0 (xs ++ [x]) i = if i = xs.length then x else at0 xs i := by
  unfold at0
  by_cases h : i = xs.length
  · subst h; simp
  · rw [if_neg h]
    by_cases h2 : i < xs.length
    · rw [List.getElem?_append_left h2]
    · rw [List.getElem?_eq_none (by simp; omega), List.getElem?_eq_none (by omega)]
structure StOk (S : List Int) (u : Int) (k : Nat) : Prop where
  one : 1 ≤ S.length
  len : S.length ≤ k + 1
  u0 : 0 ≤ u
  u1 : u ≤ 1000 * (k : Int)
  at00 : at0 S 0 = 0
  le : ∀ i, i < S.length → 0 ≤ at0 S i ∧ at0 S i ≤ (k : Int)
  mono : ∀ i, i + 1 < S.length → at0 S i ≤ at0 S (i + 1)
theorem stF_ok (cs : List (List Int × Int)) (cols : Int) : ∀ k, StOk (stF cs cols k).1 (stF cs cols k).2 k
  | 0 => ⟨by simp [stF], by simp [stF], by simp [stF], by simp [stF], by simp [stF, at0], fun i hi => by
      simp [stF] at hi; subst hi; simp [stF, at0], fun i hi => by simp [stF] at hi⟩
  | k + 1 => by
    have h := stF_ok cs cols k
    have hw := cWd_bd (cW cs k)
    have h1 := h.one
    have h2 := h.len
    have h3 := h.u0
    have h4 := h.u1
    rw [stF]
    split
    · refine ⟨by simp, by simp; omega, by dsimp only; omega, by dsimp only; omega, ?_, fun i hi => ?_, fun i hi => ?_⟩
      · dsimp only; rw [at0_app, if_neg (by omega)]; exact h.at00
      · dsimp only at hi ⊢
        simp at hi
        rw [at0_app]
        split
        · omega
        · have := h.le i (by omega); omega
      · dsimp only at hi ⊢
        simp at hi
        rw [at0_app, at0_app, if_neg (by omega)]
        split
        · have := h.le i (by omega); omega
        · exact h.mono i (by omega)
    · refine ⟨h1, by dsimp only; omega, by dsimp only; omega, by dsimp only; omega, h.at00, fun i hi => ?_, h.mono⟩
      have := h.le i hi
      dsimp only
      omega
theorem infoInt : (Try.prog.info? 3).map (fun i => (i.zero, i.size, i.bytes)) = some (some (.int .i64 0), 1, 8) := by kernel_rfl
set_option maxRecDepth 10000 in
set_option maxHeartbeats 2000000 in
theorem l1Starts_any (v : Value) (cs : List (List Int × Int)) (cols : Int) (w : World) (hv : ClsAt w v cs) (hl : cs.length ≤ 16777216) :
    Calls Try.prog 25 #[v, .int .i64 cols] w fun e w' => ∃ v', e = .returned v' ∧ w'.ownsRow w.heap.size 3 1 v' (stF cs cols cs.length).1.length ((stF cs cols cs.length).1.map (Value.int .i64)) ∧ Ext w w' := by
  obtain ⟨ii, hii, hi0, hi1, hi2⟩ := info_parts infoInt
  obtain ⟨ra, ao, ca, rfl, hca, hra, hxa⟩ := hv
  obtain ⟨n, hn⟩ : ∃ n, n = cs.length := ⟨_, rfl⟩
  rw [← hn] at hca hra hxa hl ⊢
  have HXA := hide hxa
  clear hn hra hxa
  have HOK := hide (fun k => stF_ok cs cols k)
  go_enter Try.func25, Try.ntmps25
  go_wp2
  go_loopw [5, 6, 7] (fun o u i wr => ∃ (k : Nat), k ≤ n ∧ i = .int .i64 k ∧ u = .int .i64 (stF cs cols k).2 ∧ Hid (wr.ownsRow w.heap.size 3 1 o (stF cs cols k).1.length ((stF cs cols k).1.map (Value.int .i64))) ∧ Ext w wr) (fun _ _ i _ => n - (intOf i).toNat)
  case atStart =>
    refine ⟨0, Nat.zero_le _, rfl, rfl, ?_, (Ext.refl _).alloc _⟩
    exact hide (own_lit (w := w) .i64 [0] 3 w.heap.size 1 rfl (Nat.le_refl _) (by unfold maxLen; simp))
  case round =>
    obtain ⟨k, hk, rfl, rfl, HO, hext⟩ := hrel
    obtain ⟨S, hS⟩ : ∃ S, S = (stF cs cols k).1 := ⟨_, rfl⟩
    obtain ⟨u, hu⟩ : ∃ u, u = (stF cs cols k).2 := ⟨_, rfl⟩
    have hok := (unhide HOK) k
    have hst : Hid (stF cs cols (k + 1) = if at0 S (S.length - 1) < (k : Int) ∧ cols < u + cWd (cW cs k) then (S ++ [(k : Int)], cWd (cW cs k)) else (S, u + cWd (cW cs k))) := by
      show _ = _
      rw [hS, hu]; rfl
    rw [← hS] at HO hok
    rw [← hu] at hok ⊢
    have HS := hide hS
    have HU := hide hu
    clear hS hu
    by_cases hlt : k < n
    · have bk : (k : Int) < (n : Int) := by omega
      obtain ⟨b, off, rfl, hc⟩ := (unhide HXA) (by omega)
      have g1 := hext.cell (hc k hlt).1
      have g2 := hext.cell (hc k hlt).2
      have OC := hide (hc k hlt)
      clear hc
      obtain ⟨g, cap, rfl⟩ : ∃ g cap, u5 = .slice (some ⟨g, 0, none⟩) S.length cap := by
        rcases (unhide HO).2 with ⟨_, e⟩ | ⟨g, cap, cur, e, _⟩
        · have := hok.one; omega
        · exact ⟨g, cap, e⟩
      have h1 := hok.one
      have h2 := hok.len
      have h3 := hok.u0
      have h4 := hok.u1
      have hwd := cWd_bd (cW cs k)
      obtain ⟨m, hm⟩ : ∃ m, S.length = m + 1 := ⟨S.length - 1, by omega⟩
      obtain ⟨L, hL⟩ : ∃ L, L = at0 S m := ⟨_, rfl⟩
      have cL : wr.cell? ⟨g, m, none⟩ = some (.int .i64 L) := by
        rw [(unhide HO).cellAt m (by omega), hL]
        simp [at0_lt (show m < S.length by omega)]
      have hb := hok.le m (by omega)
      rw [← hL] at hb
      rw [show S.length - 1 = m by omega, ← hL] at hst
      rw [hm] at HO ⊢
      have hmb : m ≤ k := by omega
      have HLN := hide hm
      clear hL hok hm
      have hw1 : IntKind.i64.wrap (((m + 1 : Nat) : Int) - 1) = (m : Int) := by rw [IntKind.wrap_i64]; omega
      have hw1b : IntKind.i64.wrap ((m : Int) + 1 - 1) = (m : Int) := by rw [IntKind.wrap_i64]; omega
      have hw2 : IntKind.i64.wrap (u + cWd (cW cs k)) = u + cWd (cW cs k) := by rw [IntKind.wrap_i64]; omega
      have hw3 : ((m : Int) + 1 - 1) = (m : Int) := by omega
      have hmm : (m : Int) < (m : Int) + 1 := by omega
      by_cases hlk : L < (k : Int)
      · go_wp2_with fail
        refine (l1Wide_any _ _ _).mono ?_
        rintro e w1 ⟨rfl, F1⟩
        have q1 := F1.cell g1
        have q2 := F1.cell g2
        have E1 := hext.trans F1
        have z1 := E1.size
        by_cases hov : cols < u + cWd (cW cs k)
        · have hs1 : Hid (stF cs cols (k + 1) = (S ++ [(k : Int)], cWd (cW cs k))) := by show _ = _; rw [hst.out, if_pos ⟨hlk, hov⟩]
          have HY := hide (((Ext.refl w1).alloc (.cells #[.int .i64 (k : Int)] 3)).owns (F1.owns (unhide HO)))
          have r1 := fun o => ((Ext.refl w1).alloc o).cell q1
          have r2 := fun o => ((Ext.refl w1).alloc o).cell q2
          go_wp2_with (at_builtin; go_must (refine wpList_append_own _ rfl _ _ 54 rfl w.heap.size 3 ii (.int .i64 0) 1 8 Try.underlying54 hii hi0 hi1 hi2 rfl (by decide) _ _ _ rfl (unhide HY) ⟨w1.heap.size, 0, none⟩ 1 1 [.int .i64 (k : Int)] rfl rfl ?_ (by simp [Value.oneCell']) ?_ ?_ ?_ ?_))
          · exact news_cells (w := w1) [.int .i64 (k : Int)] 3
          · unfold maxLen; omega
          · omega
          · simp; omega
          · intro v' w3 hown' hgrow _
            have E3 : Ext w w3 := (E1.alloc _).grown hgrow (fun q hq => ((unhide HY).lt q hq).1)
            have HO3 : Hid (w3.ownsRow w.heap.size 3 1 v' (S ++ [(k : Int)]).length ((S ++ [(k : Int)]).map (Value.int .i64))) := by
              refine hide ?_
              rw [List.length_append, unhide HLN, List.map_append]
              exact hown'
            clear hown' hgrow r1 r2 q1 q2 g1 g2
            have g1 := E3.cell (unhide OC).1
            have g2 := E3.cell (unhide OC).2
            go_wp2_with fail
            refine (l1Wide_any _ _ _).mono ?_
            rintro e w4 ⟨rfl, F4⟩
            have HO4 := hide (F4.owns (unhide HO3))
            go_wp2
            go_roundw
            case rel => exact ⟨k + 1, by omega, by go_num, by rw [hs1.out], by rw [hs1.out]; exact HO4, E3.trans F4⟩
            case measure => simp [intOf]; omega
        · have hs1 : Hid (stF cs cols (k + 1) = (S, u + cWd (cW cs k))) := by show _ = _; rw [hst.out, if_neg (fun h => hov h.2)]
          go_wp2_with fail
          refine (l1Wide_any _ _ _).mono ?_
          rintro e w2 ⟨rfl, F2⟩
          have HO2 := hide ((F1.trans F2).owns (unhide HO))
          go_wp2
          go_roundw
          case rel => exact ⟨k + 1, by omega, by go_num, by rw [hs1.out], by rw [hs1.out, unhide HLN]; exact HO2, E1.trans F2⟩
          case measure => simp [intOf]; omega
      · have hs1 : Hid (stF cs cols (k + 1) = (S, u + cWd (cW cs k))) := by show _ = _; rw [hst.out, if_neg (fun h => hlk h.1)]
        go_wp2_with fail
        refine (l1Wide_any _ _ _).mono ?_
        rintro e w2 ⟨rfl, F2⟩
        have HO2 := hide (F2.owns (unhide HO))
        go_wp2
        go_roundw
        case rel => exact ⟨k + 1, by omega, by go_num, by rw [hs1.out], by rw [hs1.out, unhide HLN]; exact HO2, hext.trans F2⟩
        case measure => simp [intOf]; omega
    · obtain rfl : k = n := by omega
      rw [unhide HS] at HO
      go_wp2
      go_ret
      exact ⟨_, rfl, unhide HO, hext⟩
end Go.Proofs.Ytkimnihdjeonpab
