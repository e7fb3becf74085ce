import Derived.Test.YtkimnihdjeonpabWrapC
namespace Go.Proofs.Ytkimnihdjeonpab
open Go.RowKit
theorem infoClw : (Try.prog.info? 57).map (fun i => (i.zero, i.size, i.bytes)) = some (some (.agg #[.slice none 0 0, .int .i64 0]), 2, 32) := by kernel_rfl
theorem cls_take_succ (cs : List (List Int × Int)) (k : Nat) (h : k < cs.length) : cs.take (k + 1) = cs.take k ++ [(cR cs k, cW cs k)] := by
  rw [List.take_succ_eq_append_getElem h]
  congr 1
  simp [cR, cW, h]
theorem cls_none {W : World} {base : Nat} {v : Value} (h : W.ownsRow base 57 2 v 0 []) : OwnCls W base v [] [] :=
  ⟨rfl, ⟨[], h, fun j hj => by simp at hj⟩, fun j hj => by simp at hj, fun i j g _ hj => by simp at hj⟩
theorem owns_empty' (w : World) (base : Nat) (t : TypeId) (sz : Nat) (hb : base ≤ w.heap.size) : (w.alloc (.cells #[] t)).ownsRow base t sz (.slice (some ⟨w.heap.size, 0, none⟩) 0 0) 0 [] :=
  ⟨by simp, .inr ⟨w.heap.size, 0, #[], rfl, hb, heap_alloc_new w _, Nat.le_refl _, by unfold maxLen; omega, by simp, by simp⟩⟩
set_option maxHeartbeats 2000000 in
theorem l1Copy_any (v : Value) (cs : List (List Int × Int)) (w : World) (hv : ClsAt w v cs) (hl : cs.length ≤ 16777216) (hx : ∀ j, j < cs.length → (cR cs j).length ≤ 16777216) :
    Calls Try.prog 26 #[v] w fun e w' => ∃ v' rs, e = .returned v' ∧ OwnCls w' w.heap.size v' rs cs ∧ Ext w w' := by
  obtain ⟨ic, hic, hc0, hc1, hc2⟩ := info_parts infoClw
  obtain ⟨ii, hii, hi0, hi1, hi2⟩ := info_parts infoI32w
  obtain ⟨ra, ao, ca, rfl, hca, hra, hxa⟩ := hv
  obtain ⟨n, hn⟩ : ∃ n, n = cs.length := ⟨_, rfl⟩
  rw [← hn] at hca hra hxa hl hx ⊢
  have HN := hide hn
  have HR := hide hra
  have HX := hide hx
  have HXA := hide hxa
  clear hn hra hx hxa
  go_enter Try.func26, Try.ntmps26
  go_wp2
  go_loopw [3, 4] (fun o i wr => ∃ (k : Nat) (rs : List Value), k ≤ n ∧ i = .int .i64 k ∧ Hid (OwnCls wr w.heap.size o rs (cs.take k)) ∧ Ext w wr) (fun _ i _ => n - (intOf i).toNat)
  case atStart => exact ⟨0, [], Nat.zero_le _, rfl, cls_none (owns_empty' w _ _ _ (Nat.le_refl _)), (Ext.refl _).alloc _⟩
  case round =>
    obtain ⟨k, rs, hk, rfl, HO, hext⟩ := hrel
    by_cases hlt : k < n
    · have bk : (k : Int) < (n : Int) := by omega
      obtain ⟨b, off, rfl, hc⟩ := (unhide HXA) (by omega)
      have g1 := hext.cell (hc k hlt).1
      have g2 := hext.cell (hc k hlt).2
      have HRK := hide (((unhide HR) k hlt).ext hext)
      have hxk := (unhide HX) k hlt
      have hlc : k < cs.length := by rw [← unhide HN]; exact hlt
      have hst := hide (cls_take_succ cs k hlc)
      have hlk : (cs.take k).length = k := by simp; omega
      have z2 := hext.size
      obtain ⟨h0', ⟨ys, hy, hyy⟩, h3, h4⟩ := (unhide HO)
      rw [hlk] at hy hyy h3
      have HY := hide hy
      have HYY := hide hyy
      have H3 := hide h3
      clear hc hy hyy h3 h4
      obtain ⟨xs, hxs⟩ : ∃ xs, xs = cR cs k := ⟨_, rfl⟩
      obtain ⟨d, hd⟩ : ∃ d, d = cW cs k := ⟨_, rfl⟩
      rw [← hxs] at HRK hxk hst
      rw [← hd] at g2 hst
      clear hxs hd
      obtain ⟨rk, hrk⟩ : ∃ r, r = rV ra k := ⟨_, rfl⟩
      rw [← hrk] at g1 HRK
      clear hrk
      obtain ⟨xa, xc, rfl, _, _⟩ := unhide HRK
      have E0 : Ext wr (wr.alloc (.cells #[] 21)) := (Ext.refl _).alloc _
      have HE0 := hide (owns_empty' wr (w.heap.size) 21 1 z2)
      have hz0 : (wr.alloc (.cells #[] 21)).heap.size = wr.heap.size + 1 := by simp
      obtain ⟨V, hV⟩ : ∃ V, V = wr.alloc (.cells #[] 21) := ⟨_, rfl⟩
      have HVV := hide hV
      rw [← hV] at E0 HE0 hz0
      have m1 := E0.cell g1
      have m2 := E0.cell g2
      clear hV
      by_cases h0 : 0 < xs.length
      · obtain ⟨b', off', rfl, hn'⟩ := ints_news' ((unhide HRK).ext E0.drew) h0
        have HC := hide hn'
        clear hn'
        go_wp2
        rw [← unhide HVV]
        go_region_law (first
          | (refine step_append_lies _ (by rfl) _ _ _ (by rfl) w.heap.size 21 ii _ 1 4 Try.underlying51 hii hi0 hi1 hi2 rfl (by omega) _ 0 [] (by rfl) (unhide HE0).drew ⟨b', off', none⟩ xs.length xc (xs.map (Value.int .i32)) (by rfl) (by simp) (unhide HC) (ints_oneCell _ _) (by omega) (by unfold maxLen; omega) (by omega) (by simp [hz0]; omega) (wr.heap.size + 1) (by simp [hz0]) ?_; intro g5 cap5 w5 o5 G5 at5 lt5
             have E5 : Ext wr w5 := E0.drew.grown G5 (fun q hq => by simp [Value.ownBlock] at hq; omega)
             have n1 := E5.cell g1
             have n2 := E5.cell g2
             have z5 := E5.size
             have hg5 : wr.heap.size ≤ g5 := at5.elim (fun e => by simp [Value.ownBlock] at e; omega) (fun e => by omega)
             have HY5 := hide (E5.owns (unhide HY))
             rw [Nat.zero_add, List.nil_append] at o5
             have O5 := hide o5
             clear o5 G5 at5)
          | (refine step_append_lies _ (by rfl) _ _ _ (by rfl) w.heap.size 57 ic _ 2 32 Try.underlying26 hic hc0 hc1 hc2 rfl (by omega) u3 k ys (by rfl) (((Ext.refl w5).alloc _).owns (unhide HY5)) ⟨w5.heap.size, 0, none⟩ 1 1 [.slice (some ⟨g5, 0, none⟩) xs.length cap5, .int .i64 d] (by rfl) (by rfl) (news_cells (w := w5) [.slice (some ⟨g5, 0, none⟩) xs.length cap5, .int .i64 d] 57) (pair_one rfl rfl) (by omega) (by unfold maxLen; omega) (by omega) (by simp; omega) (w5.heap.size + 1) (by simp) ?_
             intro g6 cap6 w6 o6 G6 at6 lt6
             have HO6 := hide (OwnCls.push (r := .slice (some ⟨g5, 0, none⟩) xs.length cap5) (xs := xs) (d := d) (((unhide HO).ext E5).ext ((Ext.refl w5).alloc _)) (by rw [hlk]; exact ((Ext.refl w5).alloc _).owns (unhide HY5)) (by rw [hlk]; exact unhide HYY) (((Ext.refl w5).alloc _).owns (unhide O5)) (fun j q hj hq => by rw [hlk] at hj; have := ((unhide H3) j hj).lt q hq; simp [Value.ownBlock]; omega) (by rw [hlk]; exact o6) G6)
             rw [← unhide hst] at HO6
             have HE6 := hide ((hext.trans (E5.alloc _)).grown G6 (fun q hq => ((unhide HY).lt q hq).1))
             clear o6 G6))
        all_goals
          go_wp2
          go_roundw
          case rel => exact ⟨k + 1, _, by omega, by go_num, HO6, unhide HE6⟩
          case measure => simp [intOf]; omega
      · have e0 : xs = [] := List.eq_nil_of_length_eq_zero (by omega)
        subst e0
        simp only [List.length_nil] at m1 m2 g1 g2
        have E5 : Ext wr V.drew := E0.drew
        have HY5 := hide (E5.owns (unhide HY))
        have O5 : Hid (V.drew.ownsRow w.heap.size 21 1 (.slice (some ⟨wr.heap.size, 0, none⟩) 0 0) 0 []) := hide (unhide HE0).drew
        have fin : ∀ g6 cap6 w6, w6.ownsRow w.heap.size 57 2 (.slice (some ⟨g6, 0, none⟩) (k + 1) cap6) (k + 1) (ys ++ [.slice (some ⟨wr.heap.size, 0, none⟩) 0 0, .int .i64 d]) → (V.drew.alloc (.cells #[.slice (some ⟨wr.heap.size, 0, none⟩) 0 0, .int .i64 d] 57)).grownBy w6 u3.ownBlock → OwnCls w6 w.heap.size (.slice (some ⟨g6, 0, none⟩) (k + 1) cap6) (rs ++ [.slice (some ⟨wr.heap.size, 0, none⟩) 0 0]) (cs.take (k + 1)) ∧ Ext w w6 := by
          intro g6 cap6 w6 o6 G6
          have h1 := OwnCls.push (r := .slice (some ⟨wr.heap.size, 0, none⟩) 0 0) (xs := []) (d := d) (((unhide HO).ext E5).ext ((Ext.refl V.drew).alloc _)) (by rw [hlk]; exact ((Ext.refl V.drew).alloc _).owns (unhide HY5)) (by rw [hlk]; exact unhide HYY) (((Ext.refl V.drew).alloc _).owns (unhide O5)) (fun j q hj hq => by rw [hlk] at hj; have := ((unhide H3) j hj).lt q hq; simp [Value.ownBlock]; omega) (by rw [hlk]; exact o6) G6
          rw [← unhide hst] at h1
          exact ⟨h1, (hext.trans (E5.alloc _)).grown G6 (fun q hq => ((unhide HY).lt q hq).1)⟩
        have FIN := hide fin
        clear fin
        rcases xa with _ | ⟨b', off', sp'⟩
        · go_wp2
          rw [← unhide HVV]
          go_region_law (first
            | (refine step_append_lies _ (by rfl) _ _ _ (by rfl) w.heap.size 57 ic _ 2 32 Try.underlying26 hic hc0 hc1 hc2 rfl (by omega) u3 k ys (by rfl) (((Ext.refl V.drew).alloc _).owns (unhide HY5)) ⟨wr.heap.size + 1, 0, none⟩ 1 1 [.slice (some ⟨wr.heap.size, 0, none⟩) 0 0, .int .i64 d] (by rfl) (by rfl) (by have := news_cells (w := V.drew) [.slice (some ⟨wr.heap.size, 0, none⟩) 0 0, .int .i64 d] 57; rw [show V.drew.heap.size = wr.heap.size + 1 from hz0] at this; exact this) (pair_one rfl rfl) (by omega) (by unfold maxLen; omega) (by omega) (by simp [hz0]; omega) (wr.heap.size + 1 + 1) (by simp [hz0]) ?_
               intro g6 cap6 w6 o6 G6 at6 lt6
               have HO6 := hide ((unhide FIN) g6 cap6 w6 o6 G6)
               clear o6 G6))
          all_goals
            go_wp2
            go_roundw
            case rel => exact ⟨k + 1, _, by omega, by go_num, (unhide HO6).1, (unhide HO6).2⟩
            case measure => simp [intOf]; omega
        · go_wp2
          rw [← unhide HVV]
          go_region_law (first
            | (refine step_append_lies _ (by rfl) _ _ _ (by rfl) w.heap.size 57 ic _ 2 32 Try.underlying26 hic hc0 hc1 hc2 rfl (by omega) u3 k ys (by rfl) (((Ext.refl V.drew).alloc _).owns (unhide HY5)) ⟨wr.heap.size + 1, 0, none⟩ 1 1 [.slice (some ⟨wr.heap.size, 0, none⟩) 0 0, .int .i64 d] (by rfl) (by rfl) (by have := news_cells (w := V.drew) [.slice (some ⟨wr.heap.size, 0, none⟩) 0 0, .int .i64 d] 57; rw [show V.drew.heap.size = wr.heap.size + 1 from hz0] at this; exact this) (pair_one rfl rfl) (by omega) (by unfold maxLen; omega) (by omega) (by simp [hz0]; omega) (wr.heap.size + 1 + 1) (by simp [hz0]) ?_
               intro g6 cap6 w6 o6 G6 at6 lt6
               have HO6 := hide ((unhide FIN) g6 cap6 w6 o6 G6)
               clear o6 G6))
          all_goals
            go_wp2
            go_roundw
            case rel => exact ⟨k + 1, _, by omega, by go_num, (unhide HO6).1, (unhide HO6).2⟩
            case measure => simp [intOf]; omega
    · obtain rfl : k = n := by omega
      have HF : Hid (OwnCls wr w.heap.size u3 rs cs) := by
        have := unhide HO
        rw [unhide HN, List.take_length] at this
        exact hide this
      go_wp2
      go_ret
      exact ⟨_, rs, rfl, unhide HF, hext⟩
end Go.Proofs.Ytkimnihdjeonpab
