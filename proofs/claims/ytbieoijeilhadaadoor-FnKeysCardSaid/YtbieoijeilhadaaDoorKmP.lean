import Derived.Test.YtbieoijeilhadaaDoorPress
import Derived.Test.YtbieoijeilhadaaDoorKmR
import Derived.Test.YtbieoijeilhadaaDoorKmU
namespace Go.Proofs.YtbieoijeilhadaaDoor
open Go.RowKit Go.Deep
def DkAt (w : World) (D base : Nat) (X : Nat → Prop) (h : List Int) (p : Bool) (ks : List (List Int × Int)) (m1 m2 m3 : Value) : Prop :=
  ∃ hv kv rs, w.heap[D]? = some (.cells #[hv, .bool p, kv, m1, m2, m3] 82 (0, 0)) ∧ w.ownsRow base 5 1 hv h.length (h.map (Value.int .u8)) ∧ OwnKys w base kv rs ks ∧ D < base ∧ base ≤ w.heap.size ∧ ∀ k, X k → k < w.heap.size ∧ ¬ hv.ownBlock = some k ∧ ¬ Foot kv rs ks.length k
abbrev FrD (D base : Nat) (X : Nat → Prop) (w w' : World) : Prop := Fr (fun k => k = D ∨ (base ≤ k ∧ ¬ X k)) w w'
theorem foot_push {kv v' r : Value} {rs : List Value} {n : Nat} {Y : Nat → Prop} (h0 : rs.length = n) (hv : ∀ k, v'.ownBlock = some k → kv.ownBlock = some k ∨ Y k) (hr : ∀ k, r.ownBlock = some k → Y k) : ∀ k, Foot v' (rs ++ [r]) (n + 1) k → Foot kv rs n k ∨ Y k := by
  rintro k (hk | ⟨j, hj, hk⟩)
  · exact (hv k hk).imp .inl id
  · by_cases e : j = n
    · subst e
      rw [← h0, rV_last] at hk
      exact .inr (hr k hk)
    · rw [rV_push rs r j (by omega)] at hk
      exact .inl (.inr ⟨j, by omega, hk⟩)
theorem kys_foot_apart {w : World} {base : Nat} {hv kv : Value} {n : Nat} {xs : List Value} {rs : List Value} {ks : List (List Int × Int)} (h : w.ownsRow base 5 1 hv n xs) (k : OwnKys w base kv rs ks) : ∀ g, Foot kv rs ks.length g → ¬ hv.ownBlock = some g := by
  obtain ⟨_, ⟨ys, hy, _⟩, hr, _⟩ := k
  rintro g (hg | ⟨j, hj, hg⟩)
  · exact owns_apart hy h (by decide) hg
  · exact owns_apart (hr j hj) h (by decide) hg
theorem own_at {kv : Value} {g' n c H : Nat} (hA : kv.ownBlock = some g' ∨ H ≤ g') : ∀ k, Value.ownBlock (.slice (some ⟨g', 0, none⟩) n c) = some k → kv.ownBlock = some k ∨ H ≤ k := fun k hk => by
  have e : g' = k := by simpa [Value.ownBlock] using hk
  rw [← e]
  exact hA
set_option maxRecDepth 10000 in
set_option maxHeartbeats 1000000 in
theorem hold_dk (D base : Nat) (X : Nat → Prop) (h : List Int) (p : Bool) (ks : List (List Int × Int)) (m1 m2 m3 : Value) (b : Int) (w : World) (H : DkAt w D base X h p ks m1 m2 m3) (hl : h.length ≤ 4194304) :
    Calls Tryd.prog 73 #[.pointer (some ⟨D, 0, none⟩), .int .u8 b] w fun e w' => e = .returned (.tuple #[]) ∧ DkAt w' D base X (h ++ [b]) p ks m1 m2 m3 ∧ FrD D base X w w' := by
  obtain ⟨i0, hi, hz0, hz1, hz2⟩ := info_parts infoByteA
  obtain ⟨hv, kv, rs, hB, hO, hK, hD, hbz, hX⟩ := H
  have HX := hide hX
  have c0 : w.cell? ⟨D, 0, none⟩ = some hv := cells_of hB 0 _ rfl
  have c0a : ∀ o, (w.alloc o).cell? ⟨D, 0, none⟩ = some hv := fun o => ((Ext.refl w).alloc o).cell c0
  have HB := hide hB
  have HO := hide hO
  have HK := hide hK
  clear hB hO hK hX
  go_enter Tryd.func73, Tryd.ntmps73
  go_wp2_with (at_builtin; go_must (refine wpList_append_lies _ rfl _ _ 22 rfl base 5 i0 (.int .u8 0) 1 1 Tryd.underlying22 hi hz0 hz1 hz2 rfl (by decide) _ _ _ rfl (((Ext.refl w).alloc _).owns (unhide HO)) ⟨w.heap.size, 0, none⟩ 1 1 (([b]).map (Value.int .u8)) rfl rfl (news_cells _ _) (ints_oneCell _ _) (by omega) ?_ ?_ ?_ _ rfl ?_))
  · unfold maxLen; omega
  · omega
  · simp; omega
  · intro g' cap' w3 hown' hgrow hat _
    have hat2 : hv.ownBlock = some g' ∨ w.heap.size ≤ g' := hat.imp id (fun e => by rw [e]; simp)
    have fr3 : Fr (fun k => hv.ownBlock = some k) w w3 := Fr.grown (Fr.of_ext ((Ext.refl w).alloc _)) hgrow (fun k hk => hk)
    have hDv : ¬ hv.ownBlock = some D := fun e => by have := ((unhide HO).lt D e).1; omega
    have b3 := fr3.kept (unhide HB) hDv
    have k3 := OwnKys.fr (unhide HK) fr3 (kys_foot_apart (unhide HO) (unhide HK))
    have k0 : w3.cell? ⟨D, 0, none⟩ = some hv := cells_of b3 0 _ rfl
    have kf : w3.frozen? ⟨D, 0, none⟩ = false := Lib.frozen_of_heap b3 0
    have z3 := fr3.size
    have HB3 := hide b3
    have HK3 := hide k3
    have HO3 := hide hown'
    have FR3 := hide fr3
    have HA3 := hide hat2
    clear hown' hgrow b3 k3 fr3 hat hat2
    go_wp2
    go_end0
    have fs : Fr (fun q => q = D) w3 (w3.setCell ⟨D, 0, none⟩ (.slice (some ⟨g', 0, none⟩) (h.length + 1) cap')) := Fr.setCell (S := fun q => q = D) (Fr.refl _ _) (a := ⟨D, 0, none⟩) rfl _
    have lo : ∀ g, Value.ownBlock (.slice (some ⟨g', 0, none⟩) (h.length + 1) cap') = some g → ¬ g = D := fun g hg e => by have := ((unhide HO3).lt g hg).1; omega
    refine ⟨rfl, ⟨_, kv, rs, set_blk2 (unhide HB3) rfl, ?_, ?_, hD, by have := fs.size; omega, fun k hk => ?_⟩, ?_⟩
    · have := fs.owns (unhide HO3) lo
      simpa using this
    · exact OwnKys.fr (unhide HK3) fs (fun g hg e => by have := ((unhide HK3).foot hg).1; omega)
    · obtain ⟨x1, x2, x3⟩ := (unhide HX) k hk
      refine ⟨by have := fs.size; omega, fun e => ?_, x3⟩
      have e2 : g' = k := by simpa [Value.ownBlock] using e
      rcases unhide HA3 with e3 | e3
      · exact x2 (by rw [e3, e2])
      · omega
    · refine Fr.tr (Fr.mono (unhide FR3) (fun k hk => .inr ⟨((unhide HO).lt k hk).1, fun hx => ((unhide HX) k hx).2.1 hk⟩)) (Fr.mono fs (fun k hk => .inl hk))
set_option maxRecDepth 10000 in
set_option maxHeartbeats 1000000 in
theorem release_dk2 (D base : Nat) (X : Nat → Prop) (h : List Int) (p : Bool) (ks : List (List Int × Int)) (m1 m2 m3 : Value) (w : World) (H : DkAt w D base X h p ks m1 m2 m3) :
    Calls Tryd.prog 99 #[.pointer (some ⟨D, 0, none⟩)] w fun e w' => (∃ hv, e = .returned hv ∧ w'.ownsRow base 5 1 hv h.length (h.map (Value.int .u8)) ∧ DkAt w' D base (fun k => X k ∨ hv.ownBlock = some k) [] p ks m1 m2 m3 ∧ ∀ k, X k → ¬ hv.ownBlock = some k) ∧ FrD D base X w w' := by
  obtain ⟨hv, kv, rs, hB, hO, hK, hD, hbz, hX⟩ := H
  have HX := hide hX
  have c0 : w.cell? ⟨D, 0, none⟩ = some hv := cells_of hB 0 _ rfl
  have cf : w.frozen? ⟨D, 0, none⟩ = false := Lib.frozen_of_heap hB 0
  have HB := hide hB
  have HO := hide hO
  have HK := hide hK
  clear hB hO hK hX
  go_enter Tryd.func99, Tryd.ntmps99
  go_wp2
  go_ret
  have fs : Fr (fun q => q = D) w (w.setCell ⟨D, 0, none⟩ (.slice none 0 0)) := Fr.setCell (S := fun q => q = D) (Fr.refl _ _) (a := ⟨D, 0, none⟩) rfl _
  have hap := kys_foot_apart (unhide HO) (unhide HK)
  have zs := fs.size
  refine ⟨⟨hv, rfl, fs.owns (unhide HO) (fun g hg e => by have := ((unhide HO).lt g hg).1; omega), ?_, fun k hk => ((unhide HX) k hk).2.1⟩, Fr.mono fs (fun k hk => .inl hk)⟩
  have key : ∀ Y : Nat → Prop, (∀ k, Y k → X k ∨ hv.ownBlock = some k) → DkAt (w.setCell ⟨D, 0, none⟩ (.slice none 0 0)) D base Y [] p ks m1 m2 m3 := fun Y hY => ⟨.slice none 0 0, kv, rs, set_blk2 (unhide HB) rfl, ⟨by simp, .inl ⟨rfl, rfl⟩⟩, OwnKys.fr (unhide HK) fs (fun g hg e => by have := ((unhide HK).foot hg).1; omega), hD, by omega, fun k hk => by
    rcases hY k hk with hx | hx
    · exact ⟨by have := ((unhide HX) k hx).1; omega, by simp [Value.ownBlock], ((unhide HX) k hx).2.2⟩
    · exact ⟨by have := ((unhide HO).lt k hx).2; omega, by simp [Value.ownBlock], fun hf => hap k hf hx⟩⟩
  exact key _ (fun k hk => hk)
theorem DkAt.mono {w : World} {D base : Nat} {X Y : Nat → Prop} {h : List Int} {p : Bool} {ks : List (List Int × Int)} {m1 m2 m3 : Value} (H : DkAt w D base X h p ks m1 m2 m3) (hXY : ∀ k, Y k → X k) : DkAt w D base Y h p ks m1 m2 m3 := by
  obtain ⟨hv, kv, rs, hB, hO, hK, hD, hbz, hX⟩ := H
  exact ⟨hv, kv, rs, hB, hO, hK, hD, hbz, fun k hk => hX k (hXY k hk)⟩
theorem release_dk (D base : Nat) (X : Nat → Prop) (h : List Int) (p : Bool) (ks : List (List Int × Int)) (m1 m2 m3 : Value) (w : World) (H : DkAt w D base X h p ks m1 m2 m3) :
    Calls Tryd.prog 99 #[.pointer (some ⟨D, 0, none⟩)] w fun e w' => (∃ hv, e = .returned hv ∧ w'.ownsRow base 5 1 hv h.length (h.map (Value.int .u8))) ∧ DkAt w' D base X [] p ks m1 m2 m3 ∧ FrD D base X w w' := by
  refine (release_dk2 D base X h p ks m1 m2 m3 w H).mono ?_
  rintro e w' ⟨⟨hv, h1, h2, h3, _⟩, h4⟩
  exact ⟨⟨hv, h1, h2⟩, h3.mono (fun k hk => .inl hk), h4⟩
theorem dk_pressed {w w3 : World} {D base : Nat} {hv kv v' : Value} {rs rs' : List Value} {h : List Int} {p : Bool} {ks ks' : List (List Int × Int)} {m1 m2 m3 : Value}
    (hB : w.heap[D]? = some (.cells #[hv, .bool p, kv, m1, m2, m3] 82 (0, 0))) (hO : w.ownsRow base 5 1 hv h.length (h.map (Value.int .u8))) (hK : OwnKys w base kv rs ks) (hD : D < base) (hbz : base ≤ w.heap.size) {X : Nat → Prop} (hX : ∀ k, X k → k < w.heap.size ∧ ¬ hv.ownBlock = some k ∧ ¬ Foot kv rs ks.length k) (hft : ∀ k, Foot v' rs' ks'.length k → Foot kv rs ks.length k ∨ w.heap.size ≤ k)
    (fr3 : Fr (fun k => kv.ownBlock = some k) w w3) (hO3 : OwnKys w3 base v' rs' ks') :
    DkAt (w3.setCell ⟨D, 2, none⟩ v') D base X h p ks' m1 m2 m3 ∧ FrD D base X w (w3.setCell ⟨D, 2, none⟩ v') := by
  obtain ⟨_, ⟨ys, hy, _⟩, _, _⟩ := hK
  have hkD : ¬ kv.ownBlock = some D := fun e => by have := (hy.lt D e).1; omega
  have b3 := fr3.kept hB hkD
  have o3 := fr3.owns hO (fun g hg e => owns_apart hO hy (by decide) hg e)
  have fs : Fr (fun q => q = D) w3 (w3.setCell ⟨D, 2, none⟩ v') := Fr.setCell (S := fun q => q = D) (Fr.refl _ _) (a := ⟨D, 2, none⟩) rfl _
  have z3 := fr3.size
  have z4 := fs.size
  refine ⟨⟨hv, v', rs', set_blk2 b3 rfl, fs.owns o3 (fun g hg e => by have := (o3.lt g hg).1; omega), OwnKys.fr hO3 fs (fun g hg e => by have := (hO3.foot hg).1; omega), hD, by omega, fun k hk => ?_⟩, ?_⟩
  · obtain ⟨x1, x2, x3⟩ := hX k hk
    exact ⟨by omega, x2, fun hf => (hft k hf).elim x3 (fun e => by omega)⟩
  · exact Fr.tr (Fr.mono fr3 (fun k hk => .inr ⟨(hy.lt k hk).1, fun hx => (hX k hx).2.2 (.inl hk)⟩)) (Fr.mono fs (fun k hk => .inl hk))
set_option maxHeartbeats 1000000 in
theorem press_dk (D base : Nat) (X : Nat → Prop) (hs : List Int) (p : Bool) (ks : List (List Int × Int)) (m1 m2 m3 : Value) (kd : Int) (w : World) (H : DkAt w D base X hs p ks m1 m2 m3) (hl : ks.length ≤ 4194304) :
    Calls Tryd.prog 41 #[.pointer (some ⟨D, 0, none⟩), .int .i64 kd] w fun e w' => e = .returned (.tuple #[]) ∧ DkAt w' D base X hs p (ks ++ [([], kd)]) m1 m2 m3 ∧ FrD D base X w w' := by
  obtain ⟨ic, hic, hc0, hc1, hc2⟩ := info_parts infoKey
  obtain ⟨hv, kv, rs, hB, hO, hK, hDb, hb, hX⟩ := H
  have HX := hide hX
  have HB := hide hB
  have HO := hide hO
  have h : DecK w D base kv rs ks := ⟨cells_of hB 2 _ rfl, Lib.frozen_of_heap hB 2, hK, hDb⟩
  clear hB hO hK hX
  obtain ⟨h0, h1, h2, h3⟩ := h
  have hD : D < w.heap.size := lt_of_cell h0
  have H2 := hide h2
  obtain ⟨h0', ⟨ys, hy, hyy⟩, hr, h4⟩ := h2
  have HY := hide hy
  have HYA := hide (((Ext.refl w).alloc (.cells #[.int .i64 kd, .slice none 0 0] 67)).owns hy)
  have HYY := hide hyy
  clear hy hyy hr h4
  go_enter Tryd.func41, Tryd.ntmps41
  go_wp2_with (at_builtin; go_must (refine wpList_append_lies _ rfl _ _ 27 rfl base 67 ic (.agg #[.int .i64 0, .slice none 0 0]) 2 32 Tryd.underlying27 hic hc0 hc1 hc2 rfl (by decide) _ _ _ rfl (unhide HYA) ⟨w.heap.size, 0, none⟩ 1 1 [.int .i64 kd, .slice none 0 0] rfl rfl ?_ (pair_one rfl rfl) (by omega) ?_ ?_ ?_ _ rfl ?_))
  · exact news_cells (w := w) [.int .i64 kd, .slice none 0 0] 67
  · unfold maxLen; omega
  · omega
  · simp; omega
  · intro g' cap' w3 hown' hgrow hat _
    have hat2 : kv.ownBlock = some g' ∨ w.heap.size ≤ g' := hat.imp id (fun e => by rw [e]; simp)
    have fr3 : Fr (fun k => kv.ownBlock = some k) w w3 := Fr.grown (Fr.of_ext ((Ext.refl w).alloc _)) hgrow (fun k hk => hk)
    have hkD : kv.ownBlock ≠ some D := fun e => by have := ((unhide HY).lt D e).1; omega
    have k0 : w3.cell? ⟨D, 2, none⟩ = some kv := by rw [hgrow.cell_far _ (by simp; omega) (by simp; exact fun e => hkD e.symm)]; exact ((Ext.refl w).alloc _).cell h0
    have k1 : w3.frozen? ⟨D, 2, none⟩ = false := by rw [hgrow.frozen_far _ (by simp; omega) (by simp; exact fun e => hkD e.symm), ((Ext.refl w).alloc _).rules.2 _ _ hD]; exact h1
    have hO3 : OwnKys w3 base (.slice (some ⟨g', 0, none⟩) (ks.length + 1) cap') (rs ++ [.slice none 0 0]) (ks ++ [([], kd)]) :=
      OwnKys.push (((unhide H2).ext ((Ext.refl w).alloc _))) (unhide HYA) (unhide HYY) ⟨by simp, .inl ⟨rfl, rfl⟩⟩ (fun j g _ _ => by simp [Value.ownBlock]) hown' hgrow
    have HO3 := hide hO3
    have FR3 := hide fr3
    have KK0 := hide k0
    have KK1 := hide k1
    have HA3 := hide hat2
    clear hown' hgrow hO3 HYA HY fr3 hat hat2
    go_wp2
    go_end0
    refine ⟨rfl, ?_⟩
    exact dk_pressed (unhide HB) (unhide HO) (unhide H2) hDb hb (unhide HX) (by rw [List.length_append]; exact foot_push (unhide H2).1 (own_at (unhide HA3)) (fun k hk => by simp [Value.ownBlock] at hk; try omega)) (unhide FR3) (unhide HO3)
set_option maxRecDepth 10000 in
set_option maxHeartbeats 2000000 in
theorem pressRune_dk (D base : Nat) (X : Nat → Prop) (hs : List Int) (p : Bool) (ks : List (List Int × Int)) (m1 m2 m3 : Value) (x : Int) (w : World) (H : DkAt w D base X hs p ks m1 m2 m3) (hl : ks.length ≤ 4194304) :
    Calls Tryd.prog 40 #[.pointer (some ⟨D, 0, none⟩), .int .i32 x] w fun e w' => e = .returned (.tuple #[]) ∧ DkAt w' D base X hs p (ks ++ [([shownI x], 1)]) m1 m2 m3 ∧ FrD D base X w w' := by
  obtain ⟨ic, hic, hc0, hc1, hc2⟩ := info_parts infoKey
  obtain ⟨hv, kv, rs, hB, hO, hK, hDb, hb, hX⟩ := H
  have HX := hide hX
  have HB := hide hB
  have HO := hide hO
  have h : DecK w D base kv rs ks := ⟨cells_of hB 2 _ rfl, Lib.frozen_of_heap hB 2, hK, hDb⟩
  clear hB hO hK hX
  obtain ⟨h0, h1, h2, h3⟩ := h
  have hD : D < w.heap.size := lt_of_cell h0
  have H2 := hide h2
  obtain ⟨h0', ⟨ys, hy, hyy⟩, hr, h4⟩ := h2
  have HY := hide hy
  have HYY := hide hyy
  have HR := hide hr
  have hkD : kv.ownBlock ≠ some D := fun e => by have := (hy.lt D e).1; omega
  have HKD := hide hkD
  clear hy hyy hr h4 hkD
  go_enter Tryd.func40, Tryd.ntmps40
  go_region_law (first
    | (refine step_append_lies _ (by rfl) _ _ _ (by rfl) base 67 ic _ 2 32 Tryd.underlying27 hic hc0 hc1 hc2 rfl (by omega) kv ks.length ys (by rfl) (by first | exact (((Ext.refl w).drew.alloc _).alloc _).owns (unhide HY) | exact (((Ext.refl w).alloc _).alloc _).drew.owns (unhide HY)) ⟨w.heap.size + 1, 0, none⟩ 1 1 [.int .i64 1, .slice (some ⟨w.heap.size, 0, none⟩) 1 1] (by rfl) (by rfl) (news_two w _ _ _ _) (pair_one rfl rfl) (by omega) (by unfold maxLen; omega) (by omega) (by simp; omega) (w.heap.size + 2) (by simp) ?_
       intro g' cap' w3 hown3 hgrow hat hlt3
       have fr3 : Fr (fun k => kv.ownBlock = some k) w w3 := Fr.grown (Fr.of_ext (((Ext.refl w).alloc _).alloc _).drew) hgrow (fun k hk => hk)
       have k0 : w3.cell? ⟨D, 2, none⟩ = some kv := by rw [hgrow.cell_far _ (by simp; omega) (by simp; exact fun e => (unhide HKD) e.symm)]; exact (((Ext.refl w).alloc _).alloc _).drew.cell h0
       have k1 : w3.frozen? ⟨D, 2, none⟩ = false := by rw [hgrow.frozen_far _ (by simp; omega) (by simp; exact fun e => (unhide HKD) e.symm), (((Ext.refl w).alloc _).alloc _).drew.rules.2 _ _ hD]; exact h1
       have HO3 := hide (OwnKys.push (r := .slice (some ⟨w.heap.size, 0, none⟩) 1 1) (xs := [shownI x]) (d := 1) ((unhide H2).ext (((Ext.refl w).alloc _).alloc _).drew) ((((Ext.refl w).alloc _).alloc _).drew.owns (unhide HY)) (unhide HYY) (((Ext.refl _).alloc _).drew.owns (own_lit .i32 [shownI x] 21 base 1 rfl (by omega) (by unfold maxLen; simp))) (fun j g hj hg => by have := ((unhide HR) j hj).lt g hg; simp [Value.ownBlock]; omega) hown3 hgrow)
       have HA3 := hide (show kv.ownBlock = some g' ∨ w.heap.size ≤ g' from hat.imp id (fun e => by rw [e]; omega))
       have FR3 := hide fr3
       have KK0 := hide k0
       have KK1 := hide k1
       clear hown3 hgrow fr3 hat)
    | (go_simp; go_at_call 78; refine (showable_any _ _).mono ?_; rintro e w' ⟨rfl, rfl⟩))
  all_goals
    go_wp2
    go_end0
    refine ⟨rfl, ?_⟩
    exact dk_pressed (unhide HB) (unhide HO) (unhide H2) hDb hb (unhide HX) (by rw [List.length_append]; exact foot_push (unhide H2).1 (own_at (unhide HA3)) (fun k hk => by simp [Value.ownBlock] at hk; try omega)) (unhide FR3) (unhide HO3)
end Go.Proofs.YtbieoijeilhadaaDoor
