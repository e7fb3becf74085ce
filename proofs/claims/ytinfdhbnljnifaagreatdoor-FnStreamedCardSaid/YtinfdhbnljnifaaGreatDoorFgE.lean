import Derived.Test.YtinfdhbnljnifaaGreatDoorFfC
namespace Go.Proofs.YtinfdhbnljnifaaGreatDoor
open Go.RowKit Go.Deep
set_option maxRecDepth 10000 in
set_option maxHeartbeats 4000000 in
theorem be_over (c : Fc) (b : Int) (h : List Int) (d : SD) (w : World) (k : FW w c h d) (hl : h.length = 32) (h1 : 48 ≤ b) (h2 : b ≤ 63) :
    Calls Tryz.prog 116 #[.int .u8 b, ptr c.q, ptr (c.q + 3), ptr (c.q + 1)] w fun e w' => FStp c [] d w (grF c.q) e w' := by
  have d0 := k.sts.d.cell
  obtain ⟨hv, _, _, _, k0⟩ := k.fk
  obtain ⟨g, cap, rfl, _⟩ := k0.row (by omega)
  have d1 := cells_of k0.blk 0 _ rfl
  have HH := hide (release_fk w k0)
  have HK := hide k
  have HI := hide (isBetween_f b w)
  have HJ := hide (fun W => isLast_f b W)
  have hq : (decide (48 ≤ b) && decide (b ≤ 63)) = true := by simp [h1, h2]
  have hr : (decide (64 ≤ b) && decide (b ≤ 126)) = false := by simp; omega
  rw [hq] at HI
  rw [hr] at HJ
  rw [hl] at d1 HH
  clear k k0 hq hr
  go_enter Tryz.func116, Tryz.ntmps116
  go_wp2_with fail
  refine (unhide HI).mono ?_
  rintro e w0 ⟨rfl, rfl⟩
  go_wp2_with fail
  refine (unhide HH).mono ?_
  rintro e w1 ⟨rfl, _, hd, hf⟩
  have k1 := (unhide HK).go hf ⟨_, _, _, _, hd.unkeep (fun q hq => .inl hq)⟩
  have e1 := k1.sts.gr.cell
  have HK1 := hide k1
  have HF := hide hf
  clear hd hf k1 HH
  go_wp2_with fail
  refine ((unhide HJ) _).mono ?_
  rintro e w4 ⟨rfl, rfl⟩
  go_wp2
  exact bodyPost_ret (v := grF c.q) (by simp [results, Tryz.results116, go_sem]) rfl ⟨rfl, unhide HK1, unhide HF⟩
set_option maxRecDepth 10000 in
set_option maxHeartbeats 4000000 in
theorem be_bad (c : Fc) (b : Int) (h : List Int) (d : SD) (w : World) (k : FW w c h d) (h0 : 0 < h.length) (h1 : ¬ (48 ≤ b ∧ b ≤ 63)) (h2 : ¬ (64 ≤ b ∧ b ≤ 126)) :
    Calls Tryz.prog 116 #[.int .u8 b, ptr c.q, ptr (c.q + 3), ptr (c.q + 1)] w fun e w' => FStp c [] d w (grF c.q) e w' := by
  have d0 := k.sts.d.cell
  obtain ⟨hv, _, _, _, k0⟩ := k.fk
  obtain ⟨g, cap, rfl, _⟩ := k0.row h0
  have HH := hide (release_fk w k0)
  have HK := hide k
  have HI := hide (isBetween_f b w)
  have HJ := hide (fun W => isLast_f b W)
  have hq : (decide (48 ≤ b) && decide (b ≤ 63)) = false := by simp; omega
  have hr : (decide (64 ≤ b) && decide (b ≤ 126)) = false := by simp; omega
  rw [hq] at HI
  rw [hr] at HJ
  clear k k0 hq hr
  go_enter Tryz.func116, Tryz.ntmps116
  go_wp2_with fail
  refine (unhide HI).mono ?_
  rintro e w0 ⟨rfl, rfl⟩
  go_wp2_with fail
  refine (unhide HH).mono ?_
  rintro e w1 ⟨rfl, _, hd, hf⟩
  have k1 := (unhide HK).go hf ⟨_, _, _, _, hd.unkeep (fun q hq => .inl hq)⟩
  have e1 := k1.sts.gr.cell
  have HK1 := hide k1
  have HF := hide hf
  clear hd hf k1 HH
  go_wp2_with fail
  refine ((unhide HJ) _).mono ?_
  rintro e w4 ⟨rfl, rfl⟩
  go_wp2
  exact bodyPost_ret (v := grF c.q) (by simp [results, Tryz.results116, go_sem]) rfl ⟨rfl, unhide HK1, unhide HF⟩
theorem held_cut {w : World} {base g cap n m : Nat} {ds : List Int} (ho : w.ownsRow base 5 1 (.slice (some ⟨g, 0, none⟩) n cap) (27 :: 91 :: ds).length ((27 :: 91 :: ds).map (Value.int .u8))) (hn : n = ds.length + 2) (hm : m = ds.length) (_hcap : n ≤ cap) :
    IntsAt w .u8 (.slice (if cap = 2 then some ⟨g, 0, none⟩ else some ⟨g, 2, none⟩) m (cap - 2)) ds := by
  subst hm
  obtain ⟨ao, cp, e, _, hrr⟩ := ints_of_owns ho
  obtain ⟨b', off, e2, hc⟩ := hrr (by simp)
  simp only [e2, Value.slice.injEq, Option.some.injEq, Addr.mk.injEq] at e
  obtain ⟨⟨e3, e4, _⟩, _, _⟩ := e
  subst e3
  subst e4
  by_cases h2 : cap = 2
  · rw [if_pos h2]
    have : ds = [] := List.eq_nil_of_length_eq_zero (by omega)
    subst this
    exact ⟨_, _, rfl, by simp, fun h => by simp at h⟩
  · rw [if_neg h2]
    have := ints_cut (bs := 27 :: 91 :: ds) (cap := cap - 2) 2 ds.length hc (by simp; omega) (by omega)
    simpa using this
theorem ints_none {w : World} {ds : List Int} (h : ds.length = 0) (ao : Option Addr) (m c : Nat) (hm : m = 0) : IntsAt w .u8 (.slice ao m c) ds := ⟨ao, c, by rw [hm, h], by omega, fun h2 => by omega⟩
theorem be_after {c : Fc} {d d' : SD} {w1 w5 : World} {hv gv : Value} {rv : Nat → Value} {bv : Value} (k1 : FW w1 c [] d) (hd : FkAt w1 { c with keep := fun k => c.keep k ∨ hv.ownBlock = some k } [] d (.slice none 0 0) gv rv bv)
    (s5 : ∃ gv' rv' bv', ScrW w5 c.F c.base (fun k => c.keep k ∨ hv.ownBlock = some k ∨ k = c.D) d' gv' rv' c.hv bv') (f5 : FrW c.F c.base (fun k => c.keep k ∨ hv.ownBlock = some k ∨ k = c.D) w1.drew w5) : FW w5 c [] d' ∧ FrF c w1 w5 := by
  obtain ⟨gv', rv', bv', s5⟩ := s5
  have f6 : FrW c.F c.base (fun k => c.keep k ∨ hv.ownBlock = some k ∨ k = c.D) w1 w5 := Fr.tr (Fr.of_ext (Ext.refl w1).drew) f5
  have hs : ScrW w5 c.F c.base (fun k => c.keep k ∨ k = c.D ∨ Value.ownBlock (.slice none 0 0) = some k) d' gv' rv' c.hv bv' := s5.keepX (fun k hk => by
    rcases hk with hk | hk | hk
    · exact s5.kept k (.inl hk)
    · exact s5.kept k (.inr (.inr hk))
    · simp [Value.ownBlock] at hk)
  have hf : FrW c.F c.base (fun k => c.keep k ∨ k = c.D ∨ Value.ownBlock (.slice none 0 0) = some k) w1 w5 := f6.mono (fun k hk => hk.imp id (fun x => ⟨x.1, fun y => x.2 (by
    rcases y with y | y | y
    · exact .inl y
    · exact .inr (.inr y)
    · simp [Value.ownBlock] at y)⟩))
  have h0 : FkAt w1 c [] d (.slice none 0 0) gv rv bv := hd.unkeep (fun q hq => .inl hq)
  obtain ⟨k9, f9⟩ := h0.scrGo hs hf
  exact ⟨k1.go f9 ⟨_, _, _, _, k9⟩, f9⟩
set_option maxRecDepth 10000 in
set_option maxHeartbeats 4000000 in
theorem be_end (c : Fc) (b : Int) (ds : List Int) (d d' : SD) (w : World) (k : FW w c (27 :: 91 :: ds) d) (h3 : 64 ≤ b ∧ b ≤ 126)
    (hob : ∀ (w1 : World) (X : Nat → Prop) (v gv : Value) (rv : Nat → Value) (bv : Value), ScrW w1 c.F c.base X d gv rv c.hv bv → IntsAt w1 .u8 v ds → Calls Tryz.prog 48 #[ptr c.F, v, .int .u8 b] w1 fun e w' => e = .returned (.tuple #[]) ∧ (∃ gv' rv' bv', ScrW w' c.F c.base X d' gv' rv' c.hv bv') ∧ FrW c.F c.base X w1 w') :
    Calls Tryz.prog 116 #[.int .u8 b, ptr c.q, ptr (c.q + 3), ptr (c.q + 1)] w fun e w' => FStp c [] d' w (grF c.q) e w' := by
  have d0 := k.sts.d.cell
  obtain ⟨hv, _, _, _, k0⟩ := k.fk
  obtain ⟨g, cap, ehv, hcap⟩ := k0.row (by simp)
  obtain ⟨n, hn⟩ : ∃ n, (27 :: 91 :: ds).length = n := ⟨_, rfl⟩
  have hn2 : n = ds.length + 2 := by rw [← hn]; rfl
  rw [hn] at ehv hcap
  subst ehv
  have hb1 : (2 : Int) ≤ (n : Int) := by omega
  have hb2 : 2 ≤ n := by omega
  have hb3 : 2 ≤ cap := by omega
  have HH := hide (release_fk w k0)
  have HK := hide k
  have HI := hide (isBetween_f b w)
  have HJ := hide (fun W => isLast_f b W)
  have hq : (decide (48 ≤ b) && decide (b ≤ 63)) = false := by simp; omega
  have hr : (decide (64 ≤ b) && decide (b ≤ 126)) = true := by simp [h3.1, h3.2]
  rw [hq] at HI
  rw [hr] at HJ
  have HOB := hide hob
  have HN2 := hide hn2
  clear k k0 hq hr hob hn2 hn
  go_enter Tryz.func116, Tryz.ntmps116
  go_wp2_with fail
  refine (unhide HI).mono ?_
  rintro e w0 ⟨rfl, rfl⟩
  go_wp2_with fail
  refine (unhide HH).mono ?_
  rintro e w1 ⟨rfl, ho, hd, hf⟩
  have k1 := ((unhide HK).go hf ⟨_, _, _, _, hd.unkeep (fun q hq => .inl hq)⟩)
  have e0 := k1.sts.d.cell
  have e2 : w1.cell? ⟨c.D, 2, none⟩ = some (.func (.func 48) #[ptr c.F] #[]) := cells_of hd.blk 2 _ rfl
  have HK1 := hide k1
  have HF := hide hf
  have HD := hide hd
  have HO := hide ho
  clear hd hf k1 HH ho
  go_wp2_with fail
  refine ((unhide HJ) _).mono ?_
  rintro e w4 ⟨rfl, rfl⟩
  by_cases hc2 : cap = 2
  · go_wp2_with fail
    go_region_held3 (fun W => W.cell? ⟨c.q, 0, none⟩ = some (ptr c.D) ∧ W.cell? ⟨c.D, 2, none⟩ = some (.func (.func 48) #[ptr c.F] #[])) (first | exact ⟨e0, e2⟩ | exact ⟨g0, g2⟩) (first
      | (go_at_call 48
         refine ((unhide HOB) w4.drew (fun k => c.keep k ∨ Value.ownBlock (.slice (some ⟨g, 0, none⟩) n cap) = some k ∨ k = c.D) _ _ _ _ (((unhide HD).scr.ext (Ext.refl w4).drew).keepX (fun k hk => (unhide HD).scr.kept k (by rcases hk with hk | hk | hk <;> first | exact .inl (.inl hk) | exact .inl (.inr hk) | exact .inr (.inl hk)))) (ints_none (show ds.length = 0 by have := unhide HN2; omega) _ (n - 2) _ (by have := unhide HN2; omega))).mono ?_
         rintro e w5 ⟨rfl, s5, f5⟩
         have F5 := be_after (unhide HK1) (unhide HD) s5 f5
         have g0 := F5.1.sts.d.cell
         have g2 : w5.cell? ⟨c.D, 2, none⟩ = some (.func (.func 48) #[ptr c.F] #[]) := (by obtain ⟨_, _, _, _, k5⟩ := F5.1.fk; exact cells_of k5.blk 2 _ rfl)
         have HF5 := hide F5
         clear s5 f5 F5))
    have g1 := (unhide HF5).1.sts.gr.cell
    go_wp2
    exact bodyPost_ret (v := grF c.q) (by simp [results, Tryz.results116, go_sem]) rfl ⟨rfl, (unhide HF5).1, Fr.tr (unhide HF) (unhide HF5).2⟩
  · go_wp2_with fail
    go_region_held3 (fun W => W.cell? ⟨c.q, 0, none⟩ = some (ptr c.D) ∧ W.cell? ⟨c.D, 2, none⟩ = some (.func (.func 48) #[ptr c.F] #[])) (first | exact ⟨e0, e2⟩ | exact ⟨g0, g2⟩) (first
      | (go_at_call 48
         refine ((unhide HOB) w4.drew (fun k => c.keep k ∨ Value.ownBlock (.slice (some ⟨g, 0, none⟩) n cap) = some k ∨ k = c.D) _ _ _ _ (((unhide HD).scr.ext (Ext.refl w4).drew).keepX (fun k hk => (unhide HD).scr.kept k (by rcases hk with hk | hk | hk <;> first | exact .inl (.inl hk) | exact .inl (.inr hk) | exact .inr (.inl hk)))) (by have h9 := held_cut (m := n - 2) ((Ext.refl w4).drew.owns (unhide HO)) (unhide HN2) (by have := unhide HN2; omega) hcap; rw [if_neg hc2] at h9; exact h9)).mono ?_
         rintro e w5 ⟨rfl, s5, f5⟩
         have F5 := be_after (unhide HK1) (unhide HD) s5 f5
         have g0 := F5.1.sts.d.cell
         have g2 : w5.cell? ⟨c.D, 2, none⟩ = some (.func (.func 48) #[ptr c.F] #[]) := (by obtain ⟨_, _, _, _, k5⟩ := F5.1.fk; exact cells_of k5.blk 2 _ rfl)
         have HF5 := hide F5
         clear s5 f5 F5))
    have g1 := (unhide HF5).1.sts.gr.cell
    go_wp2
    exact bodyPost_ret (v := grF c.q) (by simp [results, Tryz.results116, go_sem]) rfl ⟨rfl, (unhide HF5).1, Fr.tr (unhide HF) (unhide HF5).2⟩
end Go.Proofs.YtinfdhbnljnifaaGreatDoor

namespace Go.Proofs.YtinfdhbnljnifaaGreatDoor
open Go.RowKit Go.Deep
theorem decL_rng0 (l : List Int) (hb : Bytes l) : 0 ≤ (decL l).1 ∧ (decL l).1 ≤ 1114111 := by
  have h0 := hb.at0 0
  unfold decL
  split
  · dsimp only; omega
  · split
    · rename_i h1 h2
      have c1 := cont_len h2.2
      split
      · dsimp only; unfold v2; omega
      · dsimp only; omega
    · split
      · split
        · rename_i h5; exact valid_bd h5.2
        · dsimp only; omega
      · split
        · split
          · rename_i h5; exact valid_bd h5.2
          · dsimp only; omega
        · dsimp only; omega
theorem decL_rng (l : List Int) (hb : Bytes l) : -2147483648 ≤ (decL l).1 ∧ (decL l).1 ≤ 2147483647 := by
  have := decL_rng0 l hb
  omega
set_option maxRecDepth 10000 in
set_option maxHeartbeats 4000000 in
theorem begun_more (c : Fc) (b : Int) (h : List Int) (d : SD) (w : World) (k : FW w c h d) (hl : h.length ≤ 3) (hb : Bytes (h ++ [b])) (hn : fullB (h ++ [b]) = false) :
    Calls Tryz.prog 165 #[.int .u8 b, ptr c.r, ptr (c.r + 3), ptr (c.r + 2), ptr (c.r + 1)] w fun e w' => FStp c (h ++ [b]) d w (bgF c.r) e w' := by
  have d0 := k.sts.h.cell
  obtain ⟨_, _, _, _, k0⟩ := k.fk
  have HH := hide (hold_fk b w k0 (by omega))
  have HK := hide k
  clear k k0
  go_enter Tryz.func165, Tryz.ntmps165
  go_wp2_with fail
  refine (unhide HH).mono ?_
  rintro e w1 ⟨rfl, ⟨hv, hd⟩, hf⟩
  have k1 := (unhide HK).go hf ⟨_, _, _, _, hd⟩
  have e0 := k1.sts.h.cell
  have e1 := cells_of hd.blk 0 _ rfl
  have HFu := hide (fullRune_any (h ++ [b]) hb hv w1 (ints_of_owns hd.held) (by simp) k1.tabs.2)
  rw [hn] at HFu
  have HK1 := hide k1
  have HF := hide hf
  clear hd hf k1 HH
  go_wp2_with fail
  refine (unhide HFu).mono ?_
  rintro e w2 ⟨rfl, E2⟩
  have k2 : FW w2 c (h ++ [b]) d := (unhide HK1).ext E2
  have e3 := k2.sts.b2.cell
  have HK2 := hide k2
  have HF2 : Hid (FrF c w w2) := hide (Fr.tr (unhide HF) (Fr.of_ext E2))
  clear k2 E2 HFu HF HK1
  go_wp2
  exact bodyPost_ret (v := bgF c.r) (by simp [results, Tryz.results165, go_sem]) rfl ⟨rfl, unhide HK2, unhide HF2⟩
set_option maxRecDepth 10000 in
set_option maxHeartbeats 4000000 in
theorem begun_full (c : Fc) (b : Int) (h : List Int) (d : SD) (w : World) (k : FW w c h d) (hl : h.length ≤ 3) (hb : Bytes (h ++ [b])) (hn : fullB (h ++ [b]) = true) (hrm : Room d (h.length + 1))
    (IH : ∀ (c' : Fc) (h' : List Int), h'.length < h.length → fdStep h' = none → StepAt c' h') (t : List Int) (ht : t = (h ++ [b]).drop (decL (h ++ [b])).2) :
    Calls Tryz.prog 165 #[.int .u8 b, ptr c.r, ptr (c.r + 3), ptr (c.r + 2), ptr (c.r + 1)] w fun e w' => FStp c (fdH t) ((d.shw rowT (decL (h ++ [b])).1).acts rowT (fd t).1) w (c.mode (fdH t)) e w' := by
  have d0 := k.sts.h.cell
  obtain ⟨_, _, _, _, k0⟩ := k.fk
  have HH := hide (hold_fk b w k0 (by omega))
  have HKs := hide k.ks
  have HK := hide k
  have HIH := hide IH
  have HRm := hide hrm
  clear k k0 IH hrm
  obtain ⟨s, hs⟩ : ∃ s, s = h ++ [b] := ⟨_, rfl⟩
  have hsl : s.length = h.length + 1 := by rw [hs]; simp
  rw [← hs] at HH hb hn ht ⊢
  have hd1 := decL_len s (by omega)
  have hd2 := decL_pos s
  have hd3 := decL_rng s hb
  obtain ⟨r, hr⟩ : ∃ r, r = (decL s).1 := ⟨_, rfl⟩
  obtain ⟨m, hm⟩ : ∃ m, m = (decL s).2 := ⟨_, rfl⟩
  rw [← hr] at hd3 ⊢
  rw [← hm] at ht hd1 hd2
  have htl : t.length = s.length - m := by rw [ht]; simp
  have hs1 : s.length ≤ h.length + 1 := by omega
  have hs2 : h.length + 1 ≤ s.length := by omega
  have HTL := hide htl
  clear hsl htl
  have HB := hide hb
  have HT := hide ht
  have HN := hide hn
  have HR := hide hr
  have HM := hide hm
  clear hs ht hb hn hr hm
  go_enter Tryz.func165, Tryz.ntmps165
  go_wp2_with fail
  refine (unhide HH).mono ?_
  rintro e w1 ⟨rfl, ⟨hv, hd⟩, hf⟩
  have k1 := (unhide HK).go hf ⟨_, _, _, _, hd⟩
  have e0 := k1.sts.h.cell
  have e1 := cells_of hd.blk 0 _ rfl
  have HFu := hide (fullRune_any s (unhide HB) hv w1 (ints_of_owns hd.held) (by omega) k1.tabs.2)
  rw [unhide HN] at HFu
  have HK1 := hide k1
  have HD1 := hide hd
  have HF := hide hf
  clear hd hf k1 HH HK HN
  go_wp2_with fail
  refine (unhide HFu).mono ?_
  rintro e w2 ⟨rfl, E2⟩
  have k2 : FW w2 c s d := (unhide HK1).ext E2
  have e3 := k2.sts.h.cell
  have HRe := hide (release_fk w2 ((unhide HD1).ext E2))
  have HK2 := hide k2
  have HF2 : Hid (FrF c w w2) := hide (Fr.tr (unhide HF) (Fr.of_ext E2))
  obtain ⟨g, cap, hhv, hcap⟩ := (unhide HD1).row (by omega)
  subst hhv
  clear k2 E2 HFu HF HK1 HD1
  go_wp2_with fail
  refine (unhide HRe).mono ?_
  rintro e w3 ⟨rfl, ho3, hd3', hf3⟩
  clear HRe
  have k3 := ((unhide HK2).go hf3 ⟨_, _, _, _, hd3'.unkeep (fun q hq => .inl hq)⟩).keepY ⟨_, _, _, _, hd3'⟩ (fun q hq => .inl hq)
  have HF3 := hide (Fr.tr (unhide HF2) hf3)
  have HDr := hide (decodeRune_any s (unhide HB) _ w3 (ints_of_owns ho3) (by omega) k3.tabs.2)
  rw [← unhide HR, ← unhide HM] at HDr
  have HK3 := hide k3
  have HO3 := hide ho3
  have HD3 := hide hd3'
  clear hd3' hf3 k3 HK2 HF2 ho3
  go_wp2_with fail
  refine (unhide HDr).mono ?_
  rintro e w4 ⟨rfl, E4⟩
  have k4 := (unhide HK3).ext E4
  have f2 : w4.cell? ⟨c.r + 2, 0, none⟩ = some (.func (.func 47) #[ptr c.F] #[]) := k4.sts.fo.cell
  have hd4 := (unhide HD3).ext E4
  have HPr := hide (show_any w4 ⟨_, _, _, hd4.scr⟩ ((unhide HRm).mono (by omega)) r hd3.1 hd3.2 k4.tabs.1)
  have HK4 := hide k4
  have HD4 := hide hd4
  have HO4 := hide (E4.owns (unhide HO3))
  have HF4 := hide (Fr.tr (unhide HF3) (Fr.of_ext E4))
  clear k4 hd4 E4 HDr HK3 HO3 HF3 e3 HD3
  go_wp2_with fail
  refine (unhide HPr).mono ?_
  rintro e w5 ⟨rfl, ⟨gv5, rv5, bv5, hs5⟩, hf5⟩
  obtain ⟨hd5, hg5⟩ := (unhide HD4).scrGo hs5 hf5
  have k5 := (unhide HK4).go hg5 ⟨_, _, _, _, hd5⟩
  have g5 : w5.cell? ⟨c.r + 1, 0, none⟩ = some (grF c.q) := k5.sts.g2.cell
  have HO5 := hide (hf5.owns (unhide HO4) (fun x hx e => by
    rcases e with e | ⟨_, e⟩
    · exact ((unhide HD4).kp x (.inr hx)).2.1 e
    · exact e (.inl (.inr hx))))
  have HK5 := hide k5
  have HF5 := hide hg5
  have hgF : g ≠ c.D ∧ g ≠ c.F := ⟨(hd5.kp g (.inr rfl)).1, (hd5.kp g (.inr rfl)).2.1⟩
  clear hs5 hd5 hf5 hg5 k5 HPr HK4 HO4 f2 HD4
  have HRd := hide (rd_start (unhide HK5))
  have hmd : Fc.mode { c with keep := fun k => c.keep k ∨ Value.ownBlock (.slice (some ⟨g, 0, none⟩) s.length cap) = some k } [] = grF c.q := by simp [Fc.mode]
  rw [hmd] at HRd
  clear hmd HK5
  obtain ⟨X, hX⟩ : ∃ X : Nat → Prop, X = fun k => c.keep k ∨ Value.ownBlock (.slice (some ⟨g, 0, none⟩) s.length cap) = some k := ⟨_, rfl⟩
  rw [← hX] at HRd HF5
  have hXg : X g := by rw [hX]; exact .inr rfl
  have hXk : ∀ k, c.keep k → X k := fun k hk => by rw [hX]; exact .inl hk
  clear hX
  have hrow : ∀ (wr : World) (k : Nat), FrF { c with keep := X } w5 wr → k < t.length → wr.cell? ⟨g, m + k, none⟩ = some (.int .u8 (at0 t k)) := fun wr k hf hk => by
    have ho := hf.owns (unhide HO5) (fun x hx e => by
      have e2 : g = x := by simpa [Value.ownBlock] using hx
      subst e2
      rcases e with e | e | ⟨_, e⟩
      · exact hgF.1 e
      · exact hgF.2 e
      · exact e hXg)
    obtain ⟨ao, cp, e, _, hrr⟩ := ints_of_owns ho
    obtain ⟨b', off, e2, hc⟩ := hrr (by omega)
    simp only [e2, Value.slice.injEq, Option.some.injEq, Addr.mk.injEq] at e
    obtain ⟨⟨e3, e4, _⟩, _, _⟩ := e
    subst e3
    subst e4
    have htl := unhide HTL
    have := hc (m + k) (by omega)
    rw [Nat.zero_add] at this
    rw [this, unhide HT, at0_drop]
  have HROW := hide hrow
  clear hrow HO5
  have hmt : t.length = 0 ∨ m < cap := by have := unhide HTL; omega
  have HMT := hide hmt
  clear hmt
  have HRm2 : Hid (Room (d.shw rowT r) (h.length)) := hide (Room.act (unhide HRm) (.shw r))
  go_wp2_with fail
  all_goals
    go_loopw [10, 38] (fun v i wr => ∃ k : Nat, k ≤ t.length ∧ i = .int .i64 k ∧ Hid (Rd { c with keep := X } (t.take k) (d.shw rowT r) w5 wr v)) (fun _ i _ => t.length - (intOf i).toNat)
    case atStart => exact ⟨0, Nat.zero_le _, rfl, by rw [List.take_zero]; exact HRd⟩
    case round =>
      obtain ⟨k, hk, rfl, HRk⟩ := hrel
      by_cases hlt : k < t.length
      · have hmt := unhide HMT
        have hmc : m < cap := by omega
        clear hmt
        first
        | (exfalso; omega)
        | (have bkn : k < s.length - m := by have := unhide HTL; omega
           have bk : (k : Int) < ((s.length - m : Nat) : Int) := by omega
           have hcl := (unhide HROW) wr k (unhide HRk).2.2 hlt
           have hbt : Bytes (t.take k ++ [at0 t k]) := by
             rw [← take_at0 t k hlt, unhide HT]
             exact fun n hn => (unhide HB) n (List.mem_of_mem_drop (List.mem_of_mem_take hn))
           obtain ⟨F, caps, rfl, hcf, hcall⟩ := rd_step (unhide HRk) (at0 t k) hbt ((unhide HRm2).mono (by simp; have := unhide HTL; omega)) (fun h' hh hs => (unhide HIH) _ h' (by have := unhide HTL; simp at hh; omega) hs)
           rw [← take_at0 t k hlt] at hcall
           have HCall := hide hcall
           clear hcall hbt
           go_wp2_with fail
           refine (unhide HCall).mono ?_
           rintro e w' ⟨v', rfl, hR'⟩
           have HR' := hide hR'
           clear hR' HCall hcf
           go_wp2
           go_roundw
           case rel => exact ⟨k + 1, by omega, by go_num, HR'⟩
           case measure => simp [intOf]; omega)
      · obtain rfl : k = t.length := by omega
        have bk : ¬ ((t.length : Nat) : Int) < ((s.length - m : Nat) : Int) := by have := unhide HTL; omega
        have bkn : ¬ t.length < s.length - m := by have := unhide HTL; omega
        rw [List.take_length] at HRk
        go_wp2
        obtain ⟨hv, hk, hf⟩ := unhide HRk
        refine bodyPost_ret (v := c.mode (fdH t)) (by rw [hv]; simp [results, Tryz.results165, go_sem]; rfl) rfl ⟨rfl, ?_, Fr.tr (Fr.tr (unhide HF4) (Fr.mono (unhide HF5) (fun k hk => ?_))) (Fr.mono hf (fun k hk => ?_))⟩
        · exact hk.unkeep (unhide HKs) hXk
        · exact hk.imp id (fun h => h.imp id (fun h => ⟨h.1, fun e => h.2 (hXk k e)⟩))
        · exact hk.imp id (fun h => h.imp id (fun h => ⟨h.1, fun e => h.2 (hXk k e)⟩))
end Go.Proofs.YtinfdhbnljnifaaGreatDoor

namespace Go.Proofs.YtinfdhbnljnifaaGreatDoor
open Go.RowKit Go.Deep
section
variable (c : Fc)
theorem fmode_nil : c.mode [] = grF c.q := by simp [Fc.mode]
theorem fmode_esc : c.mode [27] = esF c.q := by simp [Fc.mode, at0]
theorem fmode_br (ds : List Int) : c.mode (27 :: 91 :: ds) = beF c.q := by simp [Fc.mode, at0]
theorem fmode_begun (h : List Int) (h0 : 0 < h.length) (h27 : at0 h 0 ≠ 27) : c.mode h = bgF c.r := by
  have : h ≠ [] := by intro e; subst e; simp at h0
  simp [Fc.mode, this, h27]
end
theorem begun_rune (c : Fc) (b : Int) (h : List Int) (d : SD) (w : World) (k : FW w c h d) (hl : h.length ≤ 3) (hb : Bytes (h ++ [b])) (hrm : Room d (h.length + 1)) (h27 : at0 (h ++ [b]) 0 ≠ 27) (IH : ∀ (c' : Fc) (h' : List Int), h'.length < h.length → fdStep h' = none → StepAt c' h') :
    Calls Tryz.prog 165 #[.int .u8 b, ptr c.r, ptr (c.r + 3), ptr (c.r + 2), ptr (c.r + 1)] w (FStp c (fdH (h ++ [b])) (d.acts rowT (fd (h ++ [b])).1) w (c.mode (fdH (h ++ [b])))) := by
  have hs0 : 0 < (h ++ [b]).length := by simp
  cases hf : fullB (h ++ [b]) with
  | true =>
    obtain ⟨e1, e2⟩ := fd_rune hs0 h27 hf
    have := begun_full c b h d w k hl hb hf hrm IH _ rfl
    rw [e1, e2]
    exact this
  | false =>
    obtain ⟨e1, e2⟩ := fd_begun hs0 h27 hf
    have := begun_more c b h d w k hl hb hf
    rw [e1, e2, fmode_begun c _ hs0 h27]
    exact this
theorem stf_of {v : Value} {b : Int} {w : World} {Q : Ending → World → Prop} (F : FuncId) (caps : List Value) (hv : v = .func (.func F) #[] caps.toArray) (hc : ∀ (args : Array Value) (w : World), (callFunc F args).run Tryz.prog w = .ok (.enter F args) w) (h : Calls Tryz.prog F (Value.int .u8 b :: caps).toArray w Q) : StF v b w Q := ⟨F, caps, hv, hc, h⟩
theorem step_all : ∀ (n : Nat) (c : Fc) (h : List Int), h.length = n → fdStep h = none → StepAt c h := by
  intro n
  induction n using Nat.strongRecOn with
  | ind n ih =>
    intro c h hn hs b d w k hb hrm
    have hbb : Bytes [b] := fun x hx => hb x (List.mem_append_right _ hx)
    rcases fd_shape hs with rfl | rfl | ⟨ds, rfl, hds, hdl⟩ | ⟨h0, h27, hf⟩
    · rw [fmode_nil]
      refine stf_of 111 [ptr c.q, ptr (c.q + 2), ptr (c.q + 4)] rfl (fun _ _ => by kernel_rfl) ?_
      show Calls _ _ _ _ (FStp c (fdH [b]) (d.acts rowT (fd [b]).1) w (c.mode (fdH [b])))
      by_cases e27 : b = 27
      · subst e27
        rw [fd_27.1, fd_27.2, fmode_esc]
        exact gr_27 c d w k
      · exact gr_else c b d w k e27 _ _ _ (begun_rune c b [] d w k (by simp) hbb hrm e27 (fun _ _ hh => by simp at hh))
    · rw [fmode_esc]
      refine stf_of 114 [ptr c.q, ptr (c.q + 1), ptr (c.q + 3)] rfl (fun _ _ => by kernel_rfl) ?_
      show Calls _ _ _ _ (FStp c (fdH [27, b]) (d.acts rowT (fd [27, b]).1) w (c.mode (fdH [27, b])))
      by_cases b91 : b = 91
      · subst b91
        rw [fd_91.1, fd_91.2, fmode_br]
        exact es_91 c d w k
      · rw [(fd_esc b91).1, (fd_esc b91).2, fmode_nil]
        exact es_else c b d w k b91
    · rw [fmode_br]
      refine stf_of 116 [ptr c.q, ptr (c.q + 3), ptr (c.q + 1)] rfl (fun _ _ => by kernel_rfl) ?_
      have eA : 27 :: 91 :: ds ++ [b] = 27 :: 91 :: (ds ++ [b]) := rfl
      have hlen : (27 :: 91 :: ds : List Int).length = ds.length + 2 := by simp
      rw [eA]
      by_cases h1 : 48 ≤ b ∧ b ≤ 63
      · by_cases h30 : ds.length < 30
        · obtain ⟨e1, e2⟩ := fd_btw_more hds h1 h30
          rw [e1, e2, fmode_br]
          exact be_more c b (27 :: 91 :: ds) d w k (by omega) (by omega) h1.1 h1.2
        · obtain ⟨e1, e2⟩ := fd_btw_over hds h1 (by omega)
          rw [e1, e2, fmode_nil]
          exact be_over c b (27 :: 91 :: ds) d w k (by omega) h1.1 h1.2
      · obtain ⟨e1, e2⟩ := fd_btw_end hds h1 hdl
        rw [e1, e2, fmode_nil]
        by_cases h2 : 64 ≤ b ∧ b ≤ 126
        · rw [if_pos h2]
          refine be_end c b ds d _ w k h2 (fun w1 X v gv rv bv hsw hi => ?_)
          exact (obey_any w1 hsw hrm.1 v ds hi hds (by omega) b).mono (fun e w' ⟨x1, x2, x3⟩ => ⟨x1, ⟨_, _, _, x2⟩, x3⟩)
        · rw [if_neg h2]
          exact be_bad c b (27 :: 91 :: ds) d w k (by omega) h1 h2
    · rw [fmode_begun c h h0 h27]
      refine stf_of 165 [ptr c.r, ptr (c.r + 3), ptr (c.r + 2), ptr (c.r + 1)] rfl (fun _ _ => by kernel_rfl) ?_
      have hl3 : h.length ≤ 3 := by
        have h1 := ((full_iffB _).1 hf).1
        have h2 : nB (at0 h 0) ≤ 4 := by unfold nB; (repeat' split) <;> omega
        omega
      have e0 : at0 (h ++ [b]) 0 = at0 h 0 := by
        cases h with
        | nil => simp at h0
        | cons x xs => rfl
      exact begun_rune c b h d w k hl3 hb hrm (by rw [e0]; exact h27) (fun c' h' hh hs' => ih h'.length (by omega) c' h' rfl hs')
def dn (xs ys : List Int) (j : Nat) : List Int := if j = 0 then [] else if j = 1 then xs else xs ++ ys
set_option maxRecDepth 10000 in
set_option maxHeartbeats 4000000 in
theorem readAll_any (c : Fc) (xs ys : List Int) (P : Nat) (T : TypeId) (xv yv : Value) (d : SD) (w : World) (k : FW w c [] d) (hP : w.heap[P]? = some (.cells #[xv, yv] T (0, 0))) (hPk : c.keep P)
    (hx : ∀ w', FrF c w w' → IntsAt w' .u8 xv xs) (hy : ∀ w', FrF c w w' → IntsAt w' .u8 yv ys) (hbx : Bytes xs) (hby : Bytes ys) (hrm : Room d (xs.length + ys.length)) (hl4 : xs.length + ys.length ≤ 4194303) (sv : Value) (hsv : sv = c.mode []) :
    Calls Tryz.prog 49 #[sv, .slice (some ⟨P, 0, none⟩) 2 2] w fun e w' => e = .returned (.tuple #[]) ∧ ∃ v, Rd c (xs ++ ys) d w w' v := by
  obtain ⟨xa, xc, rfl, _, _⟩ := hx w (Fr.refl _ _)
  obtain ⟨ya, yc, rfl, _, _⟩ := hy w (Fr.refl _ _)
  have HRd : Hid (Rd c [] d w w sv) := hide (by rw [hsv]; exact rd_start k)
  have hpc : ∀ (wr : World) (j : Nat), FrF c w wr → j < 2 → ∃ pa pc zs, wr.cell? ⟨P, j, none⟩ = some (.slice pa zs.length pc) ∧ dn xs ys (j + 1) = dn xs ys j ++ zs ∧ (∀ w', FrF c w w' → IntsAt w' .u8 (.slice pa zs.length pc) zs) ∧ Bytes (dn xs ys j ++ zs) ∧ (dn xs ys j).length + zs.length ≤ xs.length + ys.length := fun wr j hf hj => by
    have hb := hf.kept hP (by
      obtain ⟨_, _, _, _, k0⟩ := k.fk
      rintro (e | e | e)
      · exact (k0.kp P hPk).1 e
      · exact (k0.kp P hPk).2.1 e
      · exact e.2 hPk)
    rcases (show j = 0 ∨ j = 1 by omega) with rfl | rfl
    · exact ⟨xa, xc, xs, cells_of hb 0 _ rfl, rfl, hx, hbx, by simp [dn]⟩
    · exact ⟨ya, yc, ys, cells_of hb 1 _ rfl, rfl, hy, fun n hn => (List.mem_append.1 hn).elim (hbx n) (hby n), by simp [dn]⟩
  have HPC := hide hpc
  have HRm := hide hrm
  clear hx hy hbx hby hpc hP k hsv hrm
  go_enter Tryz.func49, Tryz.ntmps49
  go_wp2_with fail
  go_loopw [0, 10] (fun v i wr => ∃ j : Nat, j ≤ 2 ∧ i = .int .i64 j ∧ Hid (Rd c (dn xs ys j) d w wr v)) (fun _ i _ => 2 - (intOf i).toNat)
  case atStart => exact ⟨0, Nat.zero_le _, rfl, HRd⟩
  case round =>
    obtain ⟨j, hj, rfl, HRj⟩ := hrel
    by_cases hlt : j < 2
    · obtain ⟨pa, pc, zs, hcj, hdn, hzs, hbz, hlz⟩ := (unhide HPC) wr j (unhide HRj).2.2 hlt
      have bj : (j : Int) < 2 := by omega
      have HZ := hide hzs
      have HBZ := hide hbz
      have HDN := hide hdn
      clear hzs hbz hdn
      obtain ⟨S, hS⟩ : ∃ S, S = dn xs ys j := ⟨_, rfl⟩
      rw [← hS] at HRj HBZ HDN hlz
      clear hS
      go_wp2_with fail
      go_loopw [0, 16] (fun v i wr => ∃ k : Nat, k ≤ zs.length ∧ i = .int .i64 k ∧ Hid (Rd c (S ++ zs.take k) d w wr v)) (fun _ i _ => zs.length - (intOf i).toNat)
      case atStart => exact ⟨0, Nat.zero_le _, rfl, by rw [List.take_zero, List.append_nil]; exact HRj⟩
      case round =>
        obtain ⟨k, hk, rfl, HRk⟩ := hrel
        by_cases hlt2 : k < zs.length
        · have bk : (k : Int) < (zs.length : Int) := by omega
          obtain ⟨ao, cp, e, _, hrr⟩ := (unhide HZ) wr (unhide HRk).2.2
          obtain ⟨b', off, e2, hc⟩ := hrr (by omega)
          have e3 : pa = some ⟨b', off, none⟩ := by
            simp only [e2, Value.slice.injEq] at e
            exact e.1
          clear e e2
          subst e3
          have hcl := hc k hlt2
          have e9 : S ++ zs.take (k + 1) = S ++ zs.take k ++ [at0 zs k] := by rw [take_at0 zs k hlt2, List.append_assoc]
          have hbt : Bytes (S ++ zs.take k ++ [at0 zs k]) := by
            rw [← e9]
            exact fun n hn => (unhide HBZ) n ((List.mem_append.1 hn).elim (fun h => List.mem_append_left _ h) (fun h => List.mem_append_right _ (List.mem_of_mem_take h)))
          obtain ⟨F, caps, rfl, hcf, hcall⟩ := rd_step (unhide HRk) (at0 zs k) hbt ((unhide HRm).mono (by simp; omega)) (fun h' _ hs => step_all h'.length c h' rfl hs)
          rw [← e9] at hcall
          have HCall := hide hcall
          clear hcall hbt hc e9 hrr
          go_wp2_with fail
          refine (unhide HCall).mono ?_
          rintro e w' ⟨v', rfl, hR'⟩
          have HR' := hide hR'
          clear hR' HCall hcf
          go_wp2
          go_roundw
          case rel => exact ⟨k + 1, by omega, by go_num, HR'⟩
          case measure => simp [intOf]; omega
        · obtain rfl : k = zs.length := by omega
          rw [List.take_length, ← unhide HDN] at HRk
          go_wp2
          go_roundw
          case rel => exact ⟨j + 1, by omega, by go_num, HRk⟩
          case measure => simp [intOf]; omega
    · obtain rfl : j = 2 := by omega
      go_wp2
      go_end0
      exact ⟨rfl, _, unhide HRj⟩
end Go.Proofs.YtinfdhbnljnifaaGreatDoor

namespace Go.Proofs.YtinfdhbnljnifaaGreatDoor
open Go.RowKit Go.Deep Go.Maps
theorem run_store_func {P : Program} {w : World} {a : Addr} {old : Value} (hc : w.cell? a = some old) (hf : w.frozen? a = false) (fn : Fn) (first cap : Array Value) : (store a (.func fn first cap)).run P w = .ok () (w.setCell a (.func fn first cap)) := by
  rw [run_store P w a _ _ rfl, hc]
  simp [hf]
set_option maxRecDepth 10000 in
set_option maxHeartbeats 8000000 in
theorem runeState_any (D : Nat) (gf : FuncId) (gc : Array Value) (ff : FuncId) (f1 : Array Value) (w : World) :
    Calls Tryz.prog 113 #[ptr D, .func (.func gf) #[] gc, .func (.func ff) f1 #[]] w fun e w' => e = .returned (bgF w.heap.size) ∧ Ext w w' ∧ Bx w' w.heap.size 185 (ptr D) ∧ Bx w' (w.heap.size + 1) 79 (.func (.func gf) #[] gc) ∧ Bx w' (w.heap.size + 2) 71 (.func (.func ff) f1 #[]) ∧ Bx w' (w.heap.size + 3) 79 (bgF w.heap.size) := by
  have hmf : ∀ (fn : Fn) (first cap : Array Value) (w : World), (Instr.makeFunc fn first cap).run Tryz.prog w = .ok (.func fn first cap) w := fun _ _ _ _ => rfl
  obtain ⟨V1, hV1⟩ : ∃ V, V = w.alloc (.cells #[(ptr D)] 185) := ⟨_, rfl⟩
  obtain ⟨V2, hV2⟩ : ∃ V, V = V1.alloc (.cells #[(.func (.func gf) #[] gc)] 79) := ⟨_, rfl⟩
  obtain ⟨V3, hV3⟩ : ∃ V, V = V2.alloc (.cells #[(.func (.func ff) f1 #[])] 71) := ⟨_, rfl⟩
  obtain ⟨V4, hV4⟩ : ∃ V, V = V3.alloc (.cells #[.nilFunc] 79) := ⟨_, rfl⟩
  have s1 : V1.heap.size = w.heap.size + 1 := by rw [hV1]; simp
  have s2 : V2.heap.size = w.heap.size + 2 := by rw [hV2]; simp [s1]
  have s3 : V3.heap.size = w.heap.size + 3 := by rw [hV3]; simp [s2]
  have E1 : Ext w V1 := by rw [hV1]; exact (Ext.refl _).alloc _
  have E2 : Ext V1 V2 := by rw [hV2]; exact (Ext.refl _).alloc _
  have E3 : Ext V2 V3 := by rw [hV3]; exact (Ext.refl _).alloc _
  have E4 : Ext V3 V4 := by rw [hV4]; exact (Ext.refl _).alloc _
  have b1 : Bx V1 w.heap.size 185 ((ptr D)) := by rw [hV1]; exact new_block w _
  have b2 : Bx V2 (w.heap.size + 1) 79 ((.func (.func gf) #[] gc)) := by rw [hV2, ← s1]; exact new_block V1 _
  have b3 : Bx V3 (w.heap.size + 2) 71 ((.func (.func ff) f1 #[])) := by rw [hV3, ← s2]; exact new_block V2 _
  have b4 : Bx V4 (w.heap.size + 3) 79 .nilFunc := by rw [hV4, ← s3]; exact new_block V3 _
  have hVV : ((((w.alloc (.cells #[(ptr D)] 185)).alloc (.cells #[(.func (.func gf) #[] gc)] 79)).alloc (.cells #[(.func (.func ff) f1 #[])] 71)).alloc (.cells #[.nilFunc] 79)) = V4 := by rw [hV4, hV3, hV2, hV1]
  have c4 : V4.cell? ⟨w.heap.size + 1 + 1 + 1, 0, none⟩ = some .nilFunc := b4.cell
  have k4 : V4.frozen? ⟨w.heap.size + 1 + 1 + 1, 0, none⟩ = false := Lib.frozen_of_heap b4 0
  have hst := fun fn first cap => run_store_func (P := Tryz.prog) c4 k4 fn first cap
  have HV := hide hVV
  have HE := hide (((E1.trans E2).trans E3).trans E4)
  have HB1 := hide (((b1.ext E2).ext E3).ext E4)
  have HB2 := hide ((b2.ext E3).ext E4)
  have HB3 := hide (b3.ext E4)
  have HB4 := hide b4
  clear hVV b1 b2 b3 b4 E1 E2 E3 E4 hV1 hV2 hV3 hV4 s1 s2 s3 V1 V2 V3
  go_enter Tryz.func113, Tryz.ntmps113
  go_upto_region 2 with fail
  rw [unhide HV]
  clear HV
  go_wp2
  have fs : Fr (fun q => q = w.heap.size + 3) V4 (V4.setCell ⟨w.heap.size + 3, 0, none⟩ (bgF w.heap.size)) := Fr.setCell (S := fun q => q = w.heap.size + 3) (Fr.refl _ _) (a := ⟨w.heap.size + 3, 0, none⟩) rfl _
  exact bodyPost_ret (v := bgF w.heap.size) (by simp [results, Tryz.results113, go_sem, bgF]) rfl ⟨rfl, fs.ext (unhide HE) (fun q hq => by omega), (unhide HB1).fr fs (by omega), (unhide HB2).fr fs (by omega), (unhide HB3).fr fs (by omega), set_blk2 (unhide HB4) rfl⟩
def StartF (w w' : World) (D F : Nat) (e : Ending) : Prop :=
  ∃ q r, e = .returned (grF q) ∧ StsF w' D F q r ∧ w.heap.size ≤ q ∧ q + 4 < r ∧ r + 3 < w'.heap.size
set_option linter.unusedSimpArgs false in
set_option maxRecDepth 10000 in
set_option maxHeartbeats 8000000 in
theorem startF_any (D F : Nat) (hv : Value) (w : World) (hB : w.heap[D]? = some (.cells #[hv, showF F, obeyF F] 76 (0, 0))) :
    Calls Tryz.prog 50 #[ptr D] w fun e w' => StartF w w' D F e ∧ Ext w w' := by
  have hmf : ∀ (fn : Fn) (first cap : Array Value) (w : World), (Instr.makeFunc fn first cap).run Tryz.prog w = .ok (.func fn first cap) w := fun _ _ _ _ => rfl
  have hD := lt_of_block hB
  obtain ⟨V1, hV1⟩ : ∃ V, V = w.alloc (.cells #[ptr D] 133) := ⟨_, rfl⟩
  obtain ⟨V2, hV2⟩ : ∃ V, V = V1.alloc (.cells #[.nilFunc] 79) := ⟨_, rfl⟩
  obtain ⟨V3, hV3⟩ : ∃ V, V = V2.alloc (.cells #[.nilFunc] 79) := ⟨_, rfl⟩
  obtain ⟨V4, hV4⟩ : ∃ V, V = V3.alloc (.cells #[.nilFunc] 79) := ⟨_, rfl⟩
  obtain ⟨V5, hV5⟩ : ∃ V, V = V4.alloc (.cells #[.nilFunc] 79) := ⟨_, rfl⟩
  have s1 : V1.heap.size = w.heap.size + 1 := by rw [hV1]; simp
  have s2 : V2.heap.size = w.heap.size + 2 := by rw [hV2]; simp [s1]
  have s3 : V3.heap.size = w.heap.size + 3 := by rw [hV3]; simp [s2]
  have s4 : V4.heap.size = w.heap.size + 4 := by rw [hV4]; simp [s3]
  have s5 : V5.heap.size = w.heap.size + 5 := by rw [hV5]; simp [s4]
  have E1 : Ext w V1 := by rw [hV1]; exact (Ext.refl _).alloc _
  have E2 : Ext V1 V2 := by rw [hV2]; exact (Ext.refl _).alloc _
  have E3 : Ext V2 V3 := by rw [hV3]; exact (Ext.refl _).alloc _
  have E4 : Ext V3 V4 := by rw [hV4]; exact (Ext.refl _).alloc _
  have E5 : Ext V4 V5 := by rw [hV5]; exact (Ext.refl _).alloc _
  have b1 : Bx V1 w.heap.size 133 (ptr D) := by rw [hV1]; exact new_block w _
  have b2 : Bx V2 (w.heap.size + 1) 79 .nilFunc := by rw [hV2, ← s1]; exact new_block V1 _
  have b3 : Bx V3 (w.heap.size + 2) 79 .nilFunc := by rw [hV3, ← s2]; exact new_block V2 _
  have b4 : Bx V4 (w.heap.size + 3) 79 .nilFunc := by rw [hV4, ← s3]; exact new_block V3 _
  have b5 : Bx V5 (w.heap.size + 4) 79 .nilFunc := by rw [hV5, ← s4]; exact new_block V4 _
  have hVV : ((((w.alloc (.cells #[ptr D] 133)).alloc (.cells #[.nilFunc] 79)).alloc (.cells #[.nilFunc] 79)).alloc (.cells #[.nilFunc] 79)).alloc (.cells #[.nilFunc] 79) = V5 := by rw [hV5, hV4, hV3, hV2, hV1]
  have B1 := (((b1.ext E2).ext E3).ext E4).ext E5
  have B2 := ((b2.ext E3).ext E4).ext E5
  have B3 := (b3.ext E4).ext E5
  have B4 := b4.ext E5
  have HE := hide ((((E1.trans E2).trans E3).trans E4).trans E5)
  have c2 : V5.cell? ⟨w.heap.size + 1, 0, none⟩ = some .nilFunc := B2.cell
  have k2 : V5.frozen? ⟨w.heap.size + 1, 0, none⟩ = false := Lib.frozen_of_heap B2 0
  have hst := fun fn first cap => run_store_func (P := Tryz.prog) c2 k2 fn first cap
  have HV := hide hVV
  obtain ⟨G, hG⟩ : ∃ G, G = grF w.heap.size := ⟨_, rfl⟩
  obtain ⟨U, hU⟩ : ∃ U, U = V5.setCell ⟨w.heap.size + 1, 0, none⟩ G := ⟨_, rfl⟩
  have fs : Fr (fun q => q = w.heap.size + 1) V5 U := by rw [hU]; exact Fr.setCell (S := fun q => q = w.heap.size + 1) (Fr.refl _ _) (a := ⟨w.heap.size + 1, 0, none⟩) rfl _
  have HU := hide (show V5.setCell ⟨w.heap.size + 1, 0, none⟩ (.func (.func 111) #[] #[.pointer (some ⟨w.heap.size, 0, none⟩), .pointer (some ⟨w.heap.size + 1 + 1, 0, none⟩), .pointer (some ⟨w.heap.size + 1 + 1 + 1 + 1, 0, none⟩)]) = U by rw [hU, hG]; rfl)
  have HU1 := hide (B1.fr fs (by omega))
  have HU2 : Hid (Bx U (w.heap.size + 1) 79 G) := hide (by rw [hU]; exact set_blk2 B2 rfl)
  have HU3 := hide (B3.fr fs (by omega))
  have HU4 := hide (B4.fr fs (by omega))
  have HU5 := hide (b5.fr fs (by omega))
  have HUE := hide (fs.ext (unhide HE) (fun q hq => by omega))
  have HB := hide hB
  have zU : w.heap.size + 5 ≤ U.heap.size := by have := fs.size; omega
  clear hVV b1 b2 b3 b4 b5 B1 B2 B3 B4 E1 E2 E3 E4 E5 hV1 hV2 hV3 hV4 hV5 s1 s2 s3 s4 s5 V1 V2 V3 V4 fs hU hB c2 k2 HE
  go_enter Tryz.func50, Tryz.ntmps50
  go_upto_region 2 with fail
  rw [unhide HV]
  clear HV
  go_upto_region 3 with fail
  rw [unhide HU]
  clear HU hst
  subst hG
  have u9 : U.cell? ⟨D, 1, none⟩ = some (.func (.func 47) #[ptr F] #[]) := cells_of ((unhide HUE).kept (unhide HB)) 1 _ rfl
  refine wp_region_held_drew (S := fun W => W.cell? ⟨w.heap.size, 0, none⟩ = some (ptr D) ∧ W.cell? ⟨w.heap.size + 1, 0, none⟩ = some (grF w.heap.size) ∧ W.cell? ⟨D, 1, none⟩ = some (.func (.func 47) #[ptr F] #[])) (by kernel_rfl) ⟨(unhide HU1).cell, (unhide HU2).cell, u9⟩ (fun hHeld => ?_)
  refine wpAnyH_take (i := 0) (v := ?_) rfl (by kernel_rfl) (by kernel_rfl) (by kernel_rfl) (fun _ _ _ h => h) (Or.inl ⟨by rfl, ?_⟩) (by assumption) ?_
  rotate_left
  · intro w' hSw; obtain ⟨e1, e2, e3⟩ := hSw; go_simp <;> with_reducible rfl
  simp only [Act.put, qA, qB, qC, qD, qE, qF]
  refine wpAnyH_take (i := 1) (v := ?_) rfl (by kernel_rfl) (by kernel_rfl) (by kernel_rfl) (fun _ _ _ h => h) (Or.inl ⟨by rfl, ?_⟩) (by assumption) ?_
  rotate_left
  · intro w' hSw; obtain ⟨e1, e2, e3⟩ := hSw; go_simp <;> with_reducible rfl
  simp only [Act.put, qA, qB, qC, qD, qE, qF]
  refine wpAnyH_take (i := 2) (v := ?_) rfl (by kernel_rfl) (by kernel_rfl) (by kernel_rfl) (fun _ _ _ h => h) (Or.inl ⟨by rfl, ?_⟩) (by assumption) ?_
  rotate_left
  · intro w' hSw; obtain ⟨e1, e2, e3⟩ := hSw; go_simp <;> with_reducible rfl
  simp only [Act.put, qA, qB, qC, qD, qE, qF]
  refine wpAnyH_take (i := 3) (v := ?_) rfl (by kernel_rfl) (by kernel_rfl) (by kernel_rfl) (fun _ _ _ h => h) (Or.inl ⟨by rfl, ?_⟩) (by assumption) ?_
  rotate_left
  · intro w' hSw; obtain ⟨e1, e2, e3⟩ := hSw; go_simp <;> with_reducible rfl
  simp only [Act.put, qA, qB, qC, qD, qE, qF]
  refine wpAnyH_take (i := 4) (v := ?_) rfl (by kernel_rfl) (by kernel_rfl) (by kernel_rfl) (fun _ _ _ h => h) (Or.inl ⟨by rfl, ?_⟩) (by assumption) ?_
  rotate_left
  · intro w' hSw; obtain ⟨e1, e2, e3⟩ := hSw; go_simp <;> with_reducible rfl
  simp only [Act.put, qA, qB, qC, qD, qE, qF]
  refine wpAnyH_take (i := 5) (v := ?_) rfl (by kernel_rfl) (by kernel_rfl) (by kernel_rfl) (fun _ _ _ h => h) (Or.inl ⟨by rfl, ?_⟩) (by assumption) ?_
  rotate_left
  · intro w' hSw; obtain ⟨e1, e2, e3⟩ := hSw; go_simp <;> with_reducible rfl
  simp only [Act.put, qA, qB, qC, qD, qE, qF]
  refine wpAnyH_take (i := 6) (v := ?_) rfl (by kernel_rfl) (by kernel_rfl) (by kernel_rfl) (fun _ _ _ h => h) (Or.inl ⟨by rfl, ?_⟩) (by assumption) ?_
  rotate_left
  · intro w' hSw; obtain ⟨e1, e2, e3⟩ := hSw; go_simp <;> with_reducible rfl
  simp only [Act.put, qA, qB, qC, qD, qE, qF]
  refine wpAnyH_take (i := 7) (v := ?_) rfl (by kernel_rfl) (by kernel_rfl) (by kernel_rfl) (fun _ _ _ h => h) (Or.inl ⟨by rfl, ?_⟩) (by assumption) ?_
  rotate_left
  · intro w' hSw; obtain ⟨e1, e2, e3⟩ := hSw; go_simp <;> with_reducible rfl
  simp only [Act.put, qA, qB, qC, qD, qE, qF]
  have GV := (Ext.refl U).drew
  replace HU1 := hide ((unhide HU1).ext GV)
  replace HU2 := hide ((unhide HU2).ext GV)
  replace HU3 := hide ((unhide HU3).ext GV)
  replace HU4 := hide ((unhide HU4).ext GV)
  replace HU5 := hide ((unhide HU5).ext GV)
  replace HUE := hide ((unhide HUE).trans GV)
  have zG := GV.size
  clear GV u9
  generalize U.drew = W0 at *
  refine wpAnyH_ready (rs := [8]) (by kernel_rfl) (by simp) ?_
  refine AllReadyH.cons rfl (fun K hK => ?_) AllReadyH.nil
  go_simp
  refine (runeState_any D _ _ _ _ W0).mono ?_
  rintro e W1 ⟨rfl, F1, r1, r2, r3, r4⟩
  replace HU1 := hide ((unhide HU1).ext F1)
  replace HU2 := hide ((unhide HU2).ext F1)
  replace HU3 := hide ((unhide HU3).ext F1)
  replace HU4 := hide ((unhide HU4).ext F1)
  replace HU5 := hide ((unhide HU5).ext F1)
  replace HUE := hide ((unhide HUE).trans F1)
  have u9 : W1.cell? ⟨D, 1, none⟩ = some (.func (.func 47) #[ptr F] #[]) := cells_of ((unhide HUE).kept (unhide HB)) 1 _ rfl
  have zr := r4.lt
  have HR := hide (And.intro r1 (And.intro r2 (And.intro r3 r4)))
  clear r1 r2 r3 r4 F1
  rw [show bgF W0.heap.size = .func (.func 165) #[] #[ptr W0.heap.size, ptr (W0.heap.size + 3), ptr (W0.heap.size + 2), ptr (W0.heap.size + 1)] from rfl]
  refine hK.out _ _ ⟨(unhide HU1).cell, (unhide HU2).cell, u9⟩ (fun hHeld => ?_)
  clear hK K
  have hst := fun fn first cap => run_store_func (P := Tryz.prog) (a := ⟨w.heap.size + 1 + 1 + 1 + 1, 0, none⟩) (unhide HU5).cell (Lib.frozen_of_heap (unhide HU5) 0) fn first cap
  obtain ⟨X, hX⟩ : ∃ X, X = W1.setCell ⟨w.heap.size + 1 + 1 + 1 + 1, 0, none⟩ (bgF W0.heap.size) := ⟨_, rfl⟩
  have fs : Fr (fun q => q = w.heap.size + 4) W1 X := by rw [hX]; exact Fr.setCell (S := fun q => q = w.heap.size + 4) (Fr.refl _ _) (a := ⟨w.heap.size + 4, 0, none⟩) rfl _
  have HX5 : Hid (Bx X (w.heap.size + 4) 79 (bgF W0.heap.size)) := hide (by rw [hX]; exact set_blk2 (unhide HU5) rfl)
  replace HU1 := hide ((unhide HU1).fr fs (by omega))
  replace HU2 := hide ((unhide HU2).fr fs (by omega))
  replace HU3 := hide ((unhide HU3).fr fs (by omega))
  replace HU4 := hide ((unhide HU4).fr fs (by omega))
  replace HUE := hide (fs.ext (unhide HUE) (fun q hq => by omega))
  replace HR := hide (And.intro ((unhide HR).1.fr fs (by omega)) (And.intro ((unhide HR).2.1.fr fs (by omega)) (And.intro ((unhide HR).2.2.1.fr fs (by omega)) ((unhide HR).2.2.2.fr fs (by omega)))))
  have zX := fs.size
  have u8 : X.cell? ⟨D, 1, none⟩ = some (.func (.func 47) #[ptr F] #[]) := cells_of ((unhide HUE).kept (unhide HB)) 1 _ rfl
  have HXX := hide (show W1.setCell ⟨w.heap.size + 1 + 1 + 1 + 1, 0, none⟩ (.func (.func 165) #[] #[ptr W0.heap.size, ptr (W0.heap.size + 3), ptr (W0.heap.size + 2), ptr (W0.heap.size + 1)]) = X from hX.symm)
  clear fs hX HU5
  refine wpAnyH_ready (rs := [9]) (by kernel_rfl) (by simp) ?_
  refine AllReadyH.cons rfl (fun K hK => ?_) AllReadyH.nil
  go_simp
  rw [unhide HXX]
  refine hK.out _ _ ⟨(unhide HU1).cell, (unhide HU2).cell, u8⟩ (fun hHeld => ?_)
  clear hK K hst HXX u8 u9
  refine wpAnyH_done (by kernel_rfl) ?_ _
  have hst3 := fun fn first cap => run_store_func (P := Tryz.prog) (a := ⟨w.heap.size + 1 + 1, 0, none⟩) (unhide HU3).cell (Lib.frozen_of_heap (unhide HU3) 0) fn first cap
  obtain ⟨Y, hY⟩ : ∃ Y, Y = X.setCell ⟨w.heap.size + 1 + 1, 0, none⟩ (esF w.heap.size) := ⟨_, rfl⟩
  have fs : Fr (fun q => q = w.heap.size + 2) X Y := by rw [hY]; exact Fr.setCell (S := fun q => q = w.heap.size + 2) (Fr.refl _ _) (a := ⟨w.heap.size + 2, 0, none⟩) rfl _
  have HX3 : Hid (Bx Y (w.heap.size + 2) 79 (esF w.heap.size)) := hide (by rw [hY]; exact set_blk2 (unhide HU3) rfl)
  replace HU1 := hide ((unhide HU1).fr fs (by omega))
  replace HU2 := hide ((unhide HU2).fr fs (by omega))
  replace HU4 := hide ((unhide HU4).fr fs (by omega))
  replace HX5 := hide ((unhide HX5).fr fs (by omega))
  replace HUE := hide (fs.ext (unhide HUE) (fun q hq => by omega))
  replace HR := hide (And.intro ((unhide HR).1.fr fs (by omega)) (And.intro ((unhide HR).2.1.fr fs (by omega)) (And.intro ((unhide HR).2.2.1.fr fs (by omega)) ((unhide HR).2.2.2.fr fs (by omega)))))
  have zY := fs.size
  have HYY := hide (show X.setCell ⟨w.heap.size + 1 + 1, 0, none⟩ (.func (.func 114) #[] #[.pointer (some ⟨w.heap.size, 0, none⟩), .pointer (some ⟨w.heap.size + 1, 0, none⟩), .pointer (some ⟨w.heap.size + 1 + 1 + 1, 0, none⟩)]) = Y from hY.symm)
  clear fs hY HU3
  go_upto_region 5 with fail
  rw [unhide HYY]
  clear HYY hst3
  have hst4 := fun fn first cap => run_store_func (P := Tryz.prog) (a := ⟨w.heap.size + 1 + 1 + 1, 0, none⟩) (unhide HU4).cell (Lib.frozen_of_heap (unhide HU4) 0) fn first cap
  obtain ⟨Z, hZ⟩ : ∃ Z, Z = Y.setCell ⟨w.heap.size + 1 + 1 + 1, 0, none⟩ (beF w.heap.size) := ⟨_, rfl⟩
  have fs : Fr (fun q => q = w.heap.size + 3) Y Z := by rw [hZ]; exact Fr.setCell (S := fun q => q = w.heap.size + 3) (Fr.refl _ _) (a := ⟨w.heap.size + 3, 0, none⟩) rfl _
  have HX4 : Hid (Bx Z (w.heap.size + 3) 79 (beF w.heap.size)) := hide (by rw [hZ]; exact set_blk2 (unhide HU4) rfl)
  replace HU1 := hide ((unhide HU1).fr fs (by omega))
  replace HU2 := hide ((unhide HU2).fr fs (by omega))
  replace HX5 := hide ((unhide HX5).fr fs (by omega))
  replace HX3 := hide ((unhide HX3).fr fs (by omega))
  replace HUE := hide (fs.ext (unhide HUE) (fun q hq => by omega))
  replace HR := hide (And.intro ((unhide HR).1.fr fs (by omega)) (And.intro ((unhide HR).2.1.fr fs (by omega)) (And.intro ((unhide HR).2.2.1.fr fs (by omega)) ((unhide HR).2.2.2.fr fs (by omega)))))
  have zZ := fs.size
  have HZZ := hide (show Y.setCell ⟨w.heap.size + 1 + 1 + 1, 0, none⟩ (.func (.func 116) #[] #[.pointer (some ⟨w.heap.size, 0, none⟩), .pointer (some ⟨w.heap.size + 1 + 1 + 1, 0, none⟩), .pointer (some ⟨w.heap.size + 1, 0, none⟩)]) = Z from hZ.symm)
  have d2 := (unhide HU2).cell
  clear fs hZ HU4
  go_upto_region 6 with fail
  rw [unhide HZZ]
  clear HZZ hst4
  go_wp2
  exact bodyPost_ret (v := grF w.heap.size) (by simp [results, Tryz.results50, go_sem]) rfl ⟨⟨w.heap.size, W0.heap.size, rfl, ⟨unhide HU1, unhide HU2, unhide HX3, unhide HX4, unhide HX5, (unhide HR).1, (unhide HR).2.1, (unhide HR).2.2.1, (unhide HR).2.2.2⟩, Nat.le_refl _, by omega, by omega⟩, unhide HUE⟩
end Go.Proofs.YtinfdhbnljnifaaGreatDoor
