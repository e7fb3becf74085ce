import Derived.Test.YtmomcccgjjjldaaDoorPiece
namespace Go.Proofs.YtmomcccgjjjldaaDoor
open Go.RowKit
theorem cell_heap {w w' : World} {D o : Nat} (h : w'.heap[D]? = w.heap[D]?) : w'.cell? ⟨D, o, none⟩ = w.cell? ⟨D, o, none⟩ := by
  unfold World.cell?
  simp only [h]
theorem frozen_heap {w w' : World} {D o : Nat} (h : w'.heap[D]? = w.heap[D]?) : w'.frozen? ⟨D, o, none⟩ = w.frozen? ⟨D, o, none⟩ := by
  unfold World.frozen?
  simp only [h]
theorem RdAt.keep {w w1 w' : World} {D : Nat} {v : Value} {bs : List Int} {p p' : Nat} (h : RdAt w D v bs p) (h1 : RdAt w1 D v bs p') (hf : Fr (fun k => k = D) w w') (hD : w'.heap[D]? = w1.heap[D]?) : RdAt w' D v bs p' := by
  refine ⟨by rw [cell_heap hD]; exact h1.1, by rw [cell_heap hD]; exact h1.2.1, by rw [frozen_heap hD]; exact h1.2.2.1, ?_, h1.2.2.2.2.1, h.2.2.2.2.2⟩
  obtain ⟨ao, cap, e, hc, hx⟩ := h.2.2.2.1
  refine ⟨ao, cap, e, hc, fun hp => ?_⟩
  obtain ⟨b, off, e2, hcell⟩ := hx hp
  obtain ⟨b', off', n', c', e3, hne⟩ := h.2.2.2.2.2 hp
  rw [e, e2] at e3
  injection e3 with e4
  injection e4 with e5
  injection e5 with e6
  subst e6
  exact ⟨b, off, e2, fun j hj => by rw [cell_heap (hf.block b (lt_of_cell (hcell j hj)) hne)]; exact hcell j hj⟩
set_option maxRecDepth 10000 in
set_option maxHeartbeats 1000000 in
theorem l1Bytes_rd (D : Nat) (v : Value) (bs : List Int) (p0 n : Nat) (w : World) (h : RdAt w D v bs p0) (hB : Bytes bs) (hl : bs.length ≤ 16777216) (hn : n ≤ 1048576) :
    Calls Tryd.prog 15 #[.pointer (some ⟨D, 0, none⟩), .int .i64 (n : Int)] w fun e w' => ∃ v' zs, e = .returned v' ∧ (w'.ownsRow w.heap.size 5 1 v' zs.length (zs.map (Value.int .u8)) ∧ Bytes zs ∧ zs.length ≤ 4 * n) ∧ (∃ p, RdAt w' D v bs p) ∧ Fr (fun k => k = D) w w' := by
  obtain ⟨i0, hi, hz0, hz1, hz2⟩ := info_parts infoByteA
  have HR := hide h
  have hDw : D < w.heap.size := lt_of_cell h.1
  clear h
  go_enter Tryd.func15, Tryd.ntmps15
  go_wp2
  go_loopw [5, 6] (fun o i wr => ∃ (k p : Nat) (zs : List Int), k ≤ n ∧ i = .int .i64 k ∧ Hid (wr.ownsRow w.heap.size 5 1 o zs.length (zs.map (Value.int .u8))) ∧ Hid (Bytes zs) ∧ zs.length ≤ 4 * k ∧ Hid (RdAt wr D v bs p) ∧ Hid (Fr (fun q => q = D) w wr)) (fun _ i _ => n - (intOf i).toNat)
  case atStart => exact ⟨0, p0, [], Nat.zero_le _, rfl, hide (World.ownsRow_made w #[] 0 (Nat.le_refl _) (by unfold maxLen; omega) (by simp)), hide (fun x hx => by simp at hx), by simp, hide ((unhide HR).ext ((Ext.refl _).alloc _)), hide (Fr.of_ext ((Ext.refl _).alloc _))⟩
  case round =>
    obtain ⟨k, p, zs, hk, rfl, HO, HB, hlz, HRD, HF⟩ := hrel
    by_cases hlt : k < n
    · have bk : (k : Int) < (n : Int) := by omega
      have hb := hB.at0 p
      obtain ⟨x, hx⟩ : ∃ x : Nat, at0 bs p = (x : Int) := ⟨(at0 bs p).toNat, by omega⟩
      have hnx := hide (next_any D v bs p wr (unhide HRD) hB hl)
      rw [hx] at hnx
      clear hx hb
      go_wp2_with fail
      refine (unhide hnx).mono ?_
      rintro e w1 ⟨rfl, hr1, fr1⟩
      have HR1 := hide hr1
      have HO1 := hide (fr1.owns (unhide HO) (fun g hg e => by have := ((unhide HO).lt g hg).1; omega))
      have HF1 : Hid (Fr (fun q => q = D) w w1) := by
        have h1 := unhide HF
        exact hide ⟨fr1.os.trans h1.os, fr1.tape.trans h1.tape, fr1.output.trans h1.output, Nat.le_trans h1.size fr1.size, fun q hq hn => (fr1.block q (Nat.lt_of_lt_of_le hq h1.size) hn).trans (h1.block q hq hn)⟩
      clear hr1 fr1
      go_wp2_with fail
      refine (l1Piece_any x w1).mono ?_
      rintro e w2 ⟨⟨ps, rfl, hpb, hp0, hp4⟩, F2⟩
      obtain ⟨capb, w3, hrun, he3, hsz3, hcells⟩ := run_s2b (P := Tryd.prog) w2 _ _ _ Tryd.underlying9 Tryd.underlying22 Tryd.underlying5 ps hpb
      have E3 := F2.trans he3
      have HO3 := hide (E3.owns (unhide HO1))
      have HCE := hide hcells
      have z1 := (unhide HF1).size
      have z3 := E3.size
      clear hcells
      go_wp2_with (at_builtin; go_must (refine wpList_append_own _ rfl _ _ 22 rfl w.heap.size 5 i0 (.int .u8 0) 1 1 Tryd.underlying22 hi hz0 hz1 hz2 rfl (by decide) _ _ _ rfl (unhide HO3) ⟨w2.heap.size, 0, none⟩ ps.length capb (ps.map (Value.int .u8)) rfl (by simp) (unhide HCE) (ints_oneCell _ _) ?_ ?_ ?_ ?_))
      · unfold maxLen; omega
      · omega
      · omega
      · intro v' w4 hown' hgrow _
        have hO4 : Hid (w4.ownsRow w.heap.size 5 1 v' (zs ++ ps).length ((zs ++ ps).map (Value.int .u8))) := by
          refine hide ?_
          rw [List.length_append, List.map_append]
          exact hown'
        have hB4 : Hid (Bytes (zs ++ ps)) := hide (fun y hy => by
          rcases List.mem_append.1 hy with h | h
          · exact (unhide HB) y h
          · exact hpb y h)
        have hrow : ∀ q, u5.ownBlock = some q → w.heap.size ≤ q := fun q hq => ((unhide HO).lt q hq).1
        have E14 : ∀ q, q < w1.heap.size → q < w.heap.size → w4.heap[q]? = w1.heap[q]? := fun q hq hq2 => (hgrow.block q (by omega) (fun e => by have := hrow q e.symm; omega)).trans (E3.heap hq)
        have HF4 : Hid (Fr (fun q => q = D) w w4) := by
          have h1 := unhide HF1
          refine hide ⟨hgrow.os.trans (E3.os.trans h1.os), hgrow.tape.trans (E3.tape.trans h1.tape), hgrow.output.trans (E3.output.trans h1.output), by have := hgrow.size; omega, fun q hq hn => (E14 q (by omega) hq).trans (h1.block q hq hn)⟩
        have HR4 : Hid (RdAt w4 D v bs (if p < bs.length then p + 1 else p)) := by
          exact hide ((unhide HR).keep (unhide HR1) (unhide HF4) (E14 D (by omega) hDw))
        clear hown' hgrow hrun
        go_wp2
        go_roundw
        case rel => exact ⟨k + 1, _, zs ++ ps, by omega, by go_num, hO4, hB4, by simp; omega, HR4, HF4⟩
        case measure => simp [intOf]; omega
    · obtain rfl : k = n := by omega
      go_wp2
      go_ret
      exact ⟨_, zs, rfl, ⟨unhide HO, unhide HB, hlz⟩, ⟨_, unhide HRD⟩, unhide HF⟩
theorem l1Bytes_any (D : Nat) (v : Value) (bs : List Int) (p0 n : Nat) (w : World) (h : RdAt w D v bs p0) (hB : Bytes bs) (hl : bs.length ≤ 16777216) (hn : n ≤ 1048576) :
    Calls Tryd.prog 15 #[.pointer (some ⟨D, 0, none⟩), .int .i64 (n : Int)] w fun e w' => ∃ v' zs, e = .returned v' ∧ (w'.ownsRow w.heap.size 5 1 v' zs.length (zs.map (Value.int .u8)) ∧ Bytes zs ∧ zs.length ≤ 4 * n) ∧ Fr (fun k => k = D) w w' := by
  refine (l1Bytes_rd D v bs p0 n w h hB hl hn).mono ?_
  rintro e w' ⟨v', zs, rfl, h1, _, h2⟩
  exact ⟨v', zs, rfl, h1, h2⟩
set_option maxRecDepth 10000 in
set_option maxHeartbeats 1000000 in
theorem DrawClean_any (v : Value) (code : List Int) (w : World) (hv : IntsAt w .u8 v code) (hB : Bytes code) (hl : code.length ≤ 1048576) :
    Calls Tryd.prog 4 #[v] w fun e w' => ∃ v' zs, e = .returned v' ∧ (w'.ownsRow w.heap.size 5 1 v' zs.length (zs.map (Value.int .u8)) ∧ Bytes zs ∧ zs.length ≤ 1050000) ∧ Ext w w' := by
  obtain ⟨i0, hi, hz0, hz1, hz2⟩ := info_parts infoByteA
  have HV := hide hv
  have hBt : Bytes (code.take 1000) := fun x hx => hB x (List.mem_of_mem_take hx)
  have hlt : (code.take 1000).length ≤ 1000 := by simp; omega
  have hb := hBt.at0 0
  obtain ⟨x, hx⟩ : ∃ x : Nat, at0 (code.take 1000) 0 = (x : Int) := ⟨(at0 (code.take 1000) 0).toNat, by omega⟩
  go_enter Tryd.func4, Tryd.ntmps4
  go_wp2_with fail
  refine (l1Open_any v code w hv (by omega)).mono ?_
  rintro e w1 ⟨rfl, ⟨v1, r1⟩, F1⟩
  have hnx := hide (next_any w.heap.size v1 (code.take 1000) 0 w1 r1 hBt (by omega))
  rw [hx] at hnx
  clear r1
  go_wp2_with fail
  refine (unhide hnx).mono ?_
  rintro e w2 ⟨rfl, r2, fr2⟩
  have R2 := hide r2
  have E2 : Ext w w2 := fr2.ext F1 (fun k hk => by omega)
  obtain ⟨p, hp⟩ : ∃ p, p = (if 0 < (code.take 1000).length then 0 + 1 else 0) := ⟨_, rfl⟩
  rw [← hp] at R2
  clear r2 fr2 hp hnx
  by_cases h3 : x % 4 = 3
  · have h3I : (x : Int) % 4 = 3 := by omega
    have h0 : 0 < code.length := by
      rcases Nat.eq_zero_or_pos code.length with e | e
      · have : code = [] := List.eq_nil_of_length_eq_zero e
        rw [this] at hx
        simp [at0] at hx
        omega
      · exact e
    have HV2 := hide ((unhide HV).ext (E2.alloc (.cells #[] 5)))
    obtain ⟨ao, cap, rfl, _, hxx⟩ := hv
    obtain ⟨b, off, rfl, _⟩ := hxx h0
    have hws : Hid (∀ j u, (code.map (Value.int .u8))[j]? = some u → (w2.alloc (.cells #[] 5)).cell? ((⟨b, off, none⟩ : Addr).add j) = some u) := by
      refine hide fun j u hj => ?_
      obtain ⟨ao', c', e1, _, hx'⟩ := unhide HV2
      obtain ⟨b', off', e2, hc⟩ := hx' h0
      injection e1 with e3
      rw [e2] at e3
      injection e3 with e4
      injection e4 with e5 e6
      subst e5 e6
      have hjl : j < code.length := by
        have := (List.getElem?_eq_some_iff.1 hj).1
        simpa using this
      rw [Addr.add_lit, hc j hjl]
      simp [at0_lt hjl] at hj
      rw [hj]
    have z2 := E2.size
    have HO : Hid ((w2.alloc (.cells #[] 5)).ownsRow w.heap.size 5 1 (.slice (some ⟨w2.heap.size, 0, none⟩) 0 0) 0 []) := hide (World.ownsRow_made w2 #[] 0 z2 (by unfold maxLen; omega) (by simp))
    go_wp2_with (at_builtin; go_must (refine wpList_append_own _ rfl _ _ 22 rfl w.heap.size 5 i0 (.int .u8 0) 1 1 Tryd.underlying22 hi hz0 hz1 hz2 rfl (by decide) _ _ _ rfl (unhide HO) ⟨b, off, none⟩ code.length cap (code.map (Value.int .u8)) rfl (by simp) (unhide hws) (ints_oneCell _ _) ?_ ?_ ?_ ?_))
    · unfold maxLen; omega
    · omega
    · simp; omega
    · intro v' w4 hown' hgrow _
      have E4 : Ext w w4 := (E2.alloc _).grown hgrow (fun q hq => ((unhide HO).lt q hq).1)
      have HO4 : Hid (w4.ownsRow w.heap.size 5 1 v' code.length (code.map (Value.int .u8))) := by simpa using hide hown'
      clear hown' hgrow
      go_wp2
      go_ret
      exact ⟨_, code, rfl, ⟨unhide HO4, hB, by omega⟩, E4⟩
  · have h3I : ¬ (x : Int) % 4 = 3 := by omega
    have hlf := hide (left_any w.heap.size v1 (code.take 1000) p w2 (unhide R2) (by omega))
    have hpl := (unhide R2).2.2.2.2.1
    obtain ⟨q, hq⟩ : ∃ q : Nat, q = (code.take 1000).length - p := ⟨_, rfl⟩
    have hqI : (((code.take 1000).length : Nat) : Int) - (p : Int) = (q : Int) := by omega
    rw [hqI] at hlf
    have hq1 : q ≤ 1000 := by omega
    clear hqI hq hv
    go_wp2_with fail
    refine (unhide hlf).mono ?_
    rintro e w3 ⟨rfl, F3⟩
    have hw2 : IntKind.i64.wrap (2 + (q : Int) / 2) = 2 + (q : Int) / 2 := by rw [IntKind.wrap_i64]; omega
    have hcon := hide (l1Bytes_any w.heap.size v1 (code.take 1000) p (2 + q / 2) w3 ((unhide R2).ext F3) hBt (by omega) (by omega))
    have hc : ((2 + q / 2 : Nat) : Int) = 2 + (q : Int) / 2 := by omega
    rw [hc] at hcon
    clear hc
    have E3 := E2.trans F3
    have z3 := E3.size
    go_wp2_with fail
    refine (unhide hcon).mono ?_
    rintro e w4 ⟨v', zs, rfl, ⟨o4, hb4, hl4⟩, fr4⟩
    have E4 : Ext w w4 := fr4.ext E3 (fun k hk => by omega)
    have HO4 := hide (owns_mono o4 z3)
    clear o4 fr4
    go_wp2
    go_ret
    exact ⟨_, zs, rfl, ⟨unhide HO4, hb4, by omega⟩, E4⟩
end Go.Proofs.YtmomcccgjjjldaaDoor
