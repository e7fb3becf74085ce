import Derived.Test.YtinfdhbnljnifaaGreatDoorFtS
import Derived.Test.YtinfdhbnljnifaaGreatDoorFkD
import Derived.Test.YtinfdhbnljnifaaGreatDoorToScr
import Derived.Test.YtinfdhbnljnifaaGreatDoorFdF
import Derived.Test.YtinfdhbnljnifaaGreatDoorFsZ
namespace Go.Proofs.YtinfdhbnljnifaaGreatDoor
open Go.RowKit
theorem size_nat {c r : Nat} (h1 : 2 ≤ c) (h2 : c ≤ 200) (h3 : 1 ≤ r) (h4 : r ≤ 100) : sizeB (c : Int) (r : Int) = true := by
  unfold sizeB
  have a1 : (2 : Int) ≤ c := by omega
  have a2 : (c : Int) ≤ 200 := by omega
  have a3 : (1 : Int) ≤ r := by omega
  have a4 : (r : Int) ≤ 100 := by omega
  simp only [a1, a2, a3, a4, decide_true, Bool.and_self]
theorem ok_blank {c r : Nat} (h1 : 2 ≤ c) (h2 : c ≤ 200) (h3 : 1 ≤ r) (h4 : r ≤ 100) : OkP (blankSD c r) :=
  ⟨size_nat h1 h2 h3 h4, rfl, by simp [blankSD], fun i hi => rfl, fun i k hi hk h => by simp [blankSD] at h, ⟨by simp [blankSD], by simp [blankSD]; omega⟩, ⟨by simp [blankSD], by simp [blankSD]; omega⟩, fun h => by simp [blankSD] at h⟩
theorem wt_blank {c r : Nat} (h2 : c ≤ 200) : WtB (blankSD c r) 200 := fun i hi => by
  show rsz (fun _ => noB) c ≤ 200
  have : rsz (fun _ => bz) c = c := rsz_bz c
  rw [show (fun _ : Nat => noB) = (fun _ : Nat => bz) from rfl, this]
  exact h2
def drS (bs : List Int) (p : Nat) : SD × Nat :=
  ((blankSD (2 + rdN bs p % 9) (1 + rdN bs p / 9 % 6)).feed rowT (strm bs (rdN bs (nxt bs p) % 30) (nxt bs (nxt bs p))).1, (strm bs (rdN bs (nxt bs p) % 30) (nxt bs (nxt bs p))).2)
theorem drS_ok (bs : List Int) (p : Nat) : OkP (drS bs p).1 := ok_feed rowT (ok_blank (by omega) (by omega) (by omega) (by omega)) _
theorem OwnFS.down {w : World} {base b2 : Nat} {d : SD} {gv : Value} {rv : Nat → Value} {hv bv : Value} (h : OwnFS w base d gv rv hv bv) (hb : b2 ≤ base) : OwnFS w b2 d gv rv hv bv :=
  ⟨⟨h.1.1.mono hb, fun i hi => (h.1.2.1 i hi).mono hb, h.1.2.2⟩, owns_mono h.2.1 hb, h.2.2.mono hb⟩
theorem ints_nil {w w' : World} {k : IntKind} {v : Value} {zs : List Int} (e0 : zs = []) (h : IntsAt w k v zs) : IntsAt w' k v zs := by
  obtain ⟨ao, cap, e, hc, _⟩ := h
  exact ⟨ao, cap, e, hc, fun hp => by rw [e0] at hp; simp at hp⟩
theorem row1_nil {w w' : World} {v : Value} {n : Nat} {A : Nat → Value} (e0 : n = 0) (h : Row1At w v n A) : Row1At w' v n A := by
  obtain ⟨ao, cap, e, hc, _⟩ := h
  exact ⟨ao, cap, e, hc, fun hp => by omega⟩
set_option linter.unusedSimpArgs false in
set_option maxRecDepth 10000 in
set_option maxHeartbeats 2000000 in
theorem l2Draw_is (D : Nat) (v : Value) (bs : List Int) (p0 : Nat) (w : World) (h : RdAt w D v bs p0) (hB : Bytes bs) (hl : bs.length ≤ 16777216) :
    Calls Tryz.prog 86 #[.pointer (some ⟨D, 0, none⟩)] w fun e w' => ∃ gv rv hv bv, e = .returned (scrV (drS bs p0).1 gv hv bv) ∧ OwnFS w' w.heap.size (drS bs p0).1 gv rv hv bv ∧ RdAt w' D v bs (drS bs p0).2 ∧ Fr (fun k => k = D) w w' := by
  have HR := hide h
  have hDw : D < w.heap.size := lt_of_cell h.1
  obtain ⟨hx, hx255⟩ := rdN_is hB p0
  obtain ⟨hy, hy255⟩ := rdN_is hB (nxt bs p0)
  obtain ⟨x, hxx⟩ : ∃ x, x = rdN bs p0 := ⟨_, rfl⟩
  obtain ⟨y, hyy⟩ : ∃ y, y = rdN bs (nxt bs p0) := ⟨_, rfl⟩
  rw [← hxx] at hx hx255
  rw [← hyy] at hy hy255
  obtain ⟨c, hc⟩ : ∃ c, c = 2 + x % 9 := ⟨_, rfl⟩
  obtain ⟨r, hr⟩ : ∃ r, r = 1 + x / 9 % 6 := ⟨_, rfl⟩
  obtain ⟨n, hn⟩ : ∃ n, n = y % 30 := ⟨_, rfl⟩
  obtain ⟨zs, p2, hzp⟩ : ∃ zs p2, strm bs n (nxt bs (nxt bs p0)) = (zs, p2) := ⟨_, _, rfl⟩
  have hD : drS bs p0 = ((blankSD c r).feed rowT zs, p2) := by unfold drS; rw [← hxx, ← hyy, ← hc, ← hr, ← hn, hzp]
  have hzo := strm_ok bs (nxt bs (nxt bs p0)) n
  rw [hzp] at hzo
  have hz2 : zs.length ≤ 8 * n := hzo.2.2
  have HZB := hide hzo.1
  rw [hD]
  obtain ⟨d9, hd9⟩ : ∃ d9, d9 = (blankSD c r).feed rowT zs := ⟨_, rfl⟩
  rw [← hd9]
  show Calls Tryz.prog 86 #[.pointer (some ⟨D, 0, none⟩)] w fun e w' => ∃ gv rv hv bv, e = .returned (scrV d9 gv hv bv) ∧ OwnFS w' w.heap.size d9 gv rv hv bv ∧ RdAt w' D v bs p2 ∧ Fr (fun k => k = D) w w'
  have HD9 := hide hd9
  have HZP := hide hzp
  have HX := hide hx
  have HY := hide hy
  clear h hx hy hxx hyy hD hd9 hzo hzp
  have c2 : 2 ≤ c ∧ c ≤ 10 := by omega
  have r2 : 1 ≤ r ∧ r ≤ 6 := by omega
  have n2 : n < 30 := by omega
  have t1 : (x : Int).tmod 9 = (c : Int) - 2 := by rw [show (x : Int).tmod 9 = _ from tmod_nat x 9]; omega
  obtain ⟨q, hq⟩ : ∃ q, q = x / 9 := ⟨_, rfl⟩
  have d9' : (x : Int).tdiv 9 = (q : Int) := by rw [hq]; exact tdiv_nat x 9
  have t2 : (q : Int).tmod 6 = (r : Int) - 1 := by rw [show (q : Int).tmod 6 = _ from tmod_nat q 6]; omega
  have t3 : (y : Int).tmod 30 = (n : Int) := by rw [hn]; exact tmod_nat y 30
  have wc : IntKind.i64.wrap (2 + ((c : Int) - 2)) = (c : Int) := by rw [IntKind.wrap_i64] <;> omega
  have wr : IntKind.i64.wrap (1 + ((r : Int) - 1)) = (r : Int) := by rw [IntKind.wrap_i64] <;> omega
  have hq28 : q ≤ 28 := by omega
  clear hc hr hn hq
  obtain ⟨V, hV⟩ : ∃ V, V = w.alloc (.cells #[.int .i64 0, .int .i64 0, .slice none 0 0, .int .i64 0, .int .i64 0, .bool false, .slice none 0 0, .slice none 0 0] 26) := ⟨_, rfl⟩
  have HVV := hide hV
  have E0 : Ext w V := by rw [hV]; exact (Ext.refl w).alloc _
  have HN1 := hide (next_any D v bs p0 V ((unhide HR).ext E0) hB hl)
  rw [unhide HX] at HN1
  have HE0 := hide E0
  clear hV E0
  go_enter Tryz.func86, Tryz.ntmps86
  go_wp2_with fail
  rw [← unhide HVV]
  refine (unhide HN1).mono ?_
  rintro e w1 ⟨rfl, hr1, f1⟩
  have hNS := specNewScreen_yes c r w1 (size_nat (by omega) (by omega) (by omega) (by omega)) (by omega) (by omega)
  obtain ⟨d0, hd0⟩ : ∃ d0, d0 = blankSD c r := ⟨_, rfl⟩
  rw [← hd0] at hNS HD9
  have HK0 : Hid (OkP d0 ∧ WtB d0 200 ∧ d0.nb = 0 ∧ d0.hold = [] ∧ d0.Fits) := hide (by
    rw [hd0]
    exact ⟨ok_blank (by omega) (by omega) (by omega) (by omega), wt_blank (by omega), rfl, rfl, ⟨by show r ≤ _; omega, fun i _ => by show c ≤ _; omega, by simp [blankSD], by simp [blankSD]⟩⟩)
  have HD0 := hide hd0
  have HNS := hide hNS
  have HF1 := hide f1
  have HR1 := hide hr1
  rw [show (if p0 < bs.length then p0 + 1 else p0) = nxt bs p0 from rfl] at HR1
  clear hNS hd0 f1 hr1 HN1
  go_wp2_with fail
  refine (unhide HNS).mono ?_
  rintro e w2 ⟨gv, rv, hv, bv, rfl, og, hs, F2⟩
  have hog : OwnGrid w2 w1.heap.size gv rv d0.R d0.C (fun i j => .string (d0.tx i j)) (fun i j => .bool (d0.hf i j)) := by rw [(unhide HD0)]; exact og
  obtain ⟨ga, gc, ha, hc, ba, bc, e1, e2, e3⟩ := hs.forms
  subst e1
  subst e2
  subst e3
  have HS2 := hide hs
  have HF2 := hide F2
  have HOG := hide hog
  clear hs F2 HNS og hog
  unfold scrV
  obtain ⟨V2, hV2⟩ : ∃ V, V = w2.alloc (.cells #[.int .i64 d0.cols, .int .i64 d0.rows, .slice ga d0.R gc, .int .i64 d0.row, .int .i64 d0.col, .bool d0.late, .slice ha d0.hold.length hc, .slice ba d0.nb bc] 26) := ⟨_, rfl⟩
  have EV : Ext w2 V2 := by rw [hV2]; exact (Ext.refl w2).alloc _
  have zV : V2.heap.size = w2.heap.size + 1 := by rw [hV2]; simp
  have HSB : Hid (V2.heap[w2.heap.size]? = some (.cells #[.int .i64 d0.cols, .int .i64 d0.rows, .slice ga d0.R gc, .int .i64 d0.row, .int .i64 d0.col, .bool d0.late, .slice ha d0.hold.length hc, .slice ba d0.nb bc] 26 (0, 0))) := hide (by rw [hV2]; exact new_block w2 _)
  have HV2 := hide hV2
  have zE0 := (unhide HE0).size
  have zF1 := (unhide HF1).size
  have zF2 := (unhide HF2).size
  have zV0 : V.heap.size = w.heap.size + 1 := by rw [unhide HVV]; simp
  have HBZ : Hid (V2.heap[w.heap.size]? = some (.cells #[.int .i64 0, .int .i64 0, .slice none 0 0, .int .i64 0, .int .i64 0, .bool false, .slice none 0 0, .slice none 0 0] 26 (0, 0))) := hide (EV.kept ((unhide HF2).kept ((unhide HF1).kept (by rw [unhide HVV]; exact new_block w _) (by omega))))
  have HFV : Hid (Fr (fun k => k = D) w V2) := hide (Fr.tr (Fr.tr (Fr.of_ext (unhide HE0)) (unhide HF1)) (Fr.of_ext ((unhide HF2).trans EV)))
  have HRV : Hid (RdAt V2 D v bs (nxt bs p0)) := hide ((unhide HR1).ext ((unhide HF2).trans EV))
  have HEV := hide EV
  clear hV2 EV
  go_wp2_with fail
  rw [← unhide HV2]
  refine wp_region_held_drew (S := fun W => W.heap[w2.heap.size]? = some (.cells #[.int .i64 d0.cols, .int .i64 d0.rows, .slice ga d0.R gc, .int .i64 d0.row, .int .i64 d0.col, .bool d0.late, .slice ha d0.hold.length hc, .slice ba d0.nb bc] 26 (0, 0))) (by kernel_rfl) (unhide HSB) (fun hHeld => ?_)
  refine wpAnyH_take (i := 0) (v := .agg #[.int .i64 d0.cols, .int .i64 d0.rows, .slice ga d0.R gc, .int .i64 d0.row, .int .i64 d0.col, .bool d0.late, .slice ha d0.hold.length hc, .slice ba d0.nb bc]) rfl (by kernel_rfl) (by kernel_rfl) (by kernel_rfl) (fun _ _ _ h => h) (Or.inl ⟨by rfl, ?_⟩) (by assumption) ?_
  · intro w' hSw; exact yields_load_blk 26 _ rfl w2.heap.size rfl _ _ _ _ hSw Tryz.underlying26 rfl infoScr8
  simp only [Act.put, qA, qB, qC, qD, qE, qF]
  refine wpAnyH_take (i := 1) (v := ?_) rfl (by kernel_rfl) (by kernel_rfl) (by kernel_rfl) (fun _ _ _ h => h) (Or.inl ⟨by rfl, ?_⟩) (by assumption) ?_
  rotate_left
  · intro w' hSw; go_simp <;> with_reducible rfl
  simp only [Act.put, qA, qB, qC, qD, qE, qF]
  refine wpAnyH_take (i := 2) (v := ?_) rfl (by kernel_rfl) (by kernel_rfl) (by kernel_rfl) (fun _ _ _ h => h) (Or.inl ⟨by rfl, ?_⟩) (by assumption) ?_
  rotate_left
  · intro w' hSw; go_simp <;> with_reducible rfl
  simp only [Act.put, qA, qB, qC, qD, qE, qF]
  have HN2 := hide (next_any D v bs (nxt bs p0) V2.drew ((unhide HRV).ext (Ext.refl V2).drew) hB hl)
  rw [unhide HY] at HN2
  refine wpAnyH_ready (rs := [3]) (by kernel_rfl) (by simp) ?_
  refine AllReadyH.cons rfl (fun K hK => ?_) AllReadyH.nil
  go_simp
  refine (unhide HN2).mono ?_
  rintro e w3 ⟨rfl, hr3, f3⟩
  replace f3 : Fr (fun k => k = D) V2 w3 := Fr.tr (Fr.of_ext (Ext.refl V2).drew) f3
  refine hK.out _ _ (f3.kept (unhide HSB) (by omega)) (fun hHeld => ?_)
  rw [show (if nxt bs p0 < bs.length then nxt bs p0 + 1 else nxt bs p0) = nxt bs (nxt bs p0) from rfl] at hr3
  have HL := hide (l2Stream_is D v bs (nxt bs (nxt bs p0)) n w3 hr3 hB hl (by omega))
  rw [unhide HZP] at HL
  have HF3 := hide f3
  have z3 := f3.size
  clear hK K hr3 f3 HN2
  refine wpAnyH_take (i := 4) (v := ?_) rfl (by kernel_rfl) (by kernel_rfl) (by kernel_rfl) (fun _ _ _ h => h) (Or.inl ⟨by rfl, ?_⟩) (by assumption) ?_
  rotate_left
  · intro w' hSw; go_simp <;> with_reducible rfl
  simp only [Act.put, qA, qB, qC, qD, qE, qF]
  refine wpAnyH_ready (rs := [5]) (by kernel_rfl) (by simp) ?_
  refine AllReadyH.cons rfl (fun K hK => ?_) AllReadyH.nil
  go_simp
  refine (unhide HL).mono ?_
  rintro e w5 ⟨v5, rfl, h5⟩
  have F5 : Fr (fun k => k = D) V2 w5 := Fr.tr (unhide HF3) h5.fr
  have z5 := h5.fr.size
  refine hK.out _ _ (F5.kept (unhide HSB) (by omega)) (fun hHeld => ?_)
  obtain ⟨a5, c5, e5⟩ := owns_ln h5.own
  subst e5
  have hat : ScrAt w5 d0 (.slice ga d0.R gc) (.slice ha d0.hold.length hc) (.slice ba d0.nb bc) := ⟨(((unhide HOG).ext (unhide HEV)).fr F5 (fun g hg e => by have := ((unhide HOG).foot hg).1; omega)).reads, ints_nil (unhide HK0).2.2.2.1 (unhide HS2).2.1, row1_nil (unhide HK0).2.2.1 (unhide HS2).2.2⟩
  have hh0 : d0.hold.length = 0 := by rw [(unhide HK0).2.2.2.1]; rfl
  have HFd := hide (specFeed_yes d0 _ _ _ _ zs w5 hat (unhide HK0).2.2.2.2 (ints_of_owns h5.own) (unhide HK0).1 (by rw [(unhide HK0).2.2.2.1]; exact fun n hn => by simp at hn) (unhide HZB) 200 (unhide HK0).2.1 (by omega) (by omega) (by rw [(unhide HK0).2.2.1]; omega) (by omega))
  rw [← unhide HD9] at HFd
  unfold scrV at HFd
  have H5 := hide h5
  have HF5 := hide F5
  clear hK K HL h5 F5 hat hh0
  refine wpAnyH_ready (rs := [6]) (by kernel_rfl) (by simp) ?_
  refine AllReadyH.cons rfl (fun K hK => ?_) AllReadyH.nil
  go_simp
  refine (unhide HFd).mono ?_
  rintro e w6 ⟨gv6, rv6, hv6, bv6, rfl, o6, E6⟩
  have z6 := E6.size
  refine hK.out _ _ (E6.kept ((unhide HF5).kept (unhide HSB) (by omega))) (fun hHeld => ?_)
  obtain ⟨ga6, gc6, ha6, hc6, ba6, bc6, e1, e2, e3⟩ := o6.reads.forms
  subst e1
  subst e2
  subst e3
  have HO6 := hide o6
  have HE6 := hide E6
  have HZ6 := hide (E6.kept ((unhide HF5).kept (unhide HBZ) (by omega)))
  clear hK K o6 E6 HFd
  refine wpAnyH_ready (rs := [7]) (by kernel_rfl) (by simp) ?_
  refine AllReadyH.cons rfl (fun K hK => ?_) AllReadyH.nil
  refine wp_store_blk 26 _ _ rfl rfl w.heap.size rfl _ _ _ rfl (unhide HZ6) infoScr8 rfl (by simp [Value.oneCell']) ?_
  intro X9 HX9 hX9
  have HXB := hide HX9
  have HXF := hide hX9
  refine hK.out _ _ (hX9.kept ((unhide HE6).kept ((unhide HF5).kept (unhide HSB) (by omega))) (by omega)) (fun hHeld => ?_)
  clear hK K HX9 hX9
  refine wpAnyH_done (by kernel_rfl) ?_ _
  go_wp2
  have v0 := cells_of (unhide HXB) 0 _ rfl
  have v1 := cells_of (unhide HXB) 1 _ rfl
  have v2 := cells_of (unhide HXB) 2 _ rfl
  have v3 := cells_of (unhide HXB) 3 _ rfl
  have v4 := cells_of (unhide HXB) 4 _ rfl
  have v5 := cells_of (unhide HXB) 5 _ rfl
  have v6 := cells_of (unhide HXB) 6 _ rfl
  have v7 := cells_of (unhide HXB) 7 _ rfl
  have f9 : Fr (fun q => q = D) w X9 := by
    have g1 := Fr.tr (unhide HFV) (Fr.tr (unhide HF5) (Fr.of_ext (unhide HE6)))
    have g2 := unhide HXF
    exact ⟨g2.os.trans g1.os, g2.tape.trans g1.tape, g2.output.trans g1.output, Nat.le_trans g1.size g2.size, fun q hq hn => (g2.block q (Nat.lt_of_lt_of_le hq g1.size) (by omega)).trans (g1.block q hq hn)⟩
  have r9 : RdAt X9 D v bs p2 := (unhide HR).keep (unhide H5).rd f9 (by
    rw [(unhide HXF).block D (by omega) (by omega)]
    exact (unhide HE6).heap (by omega))
  have o9 := (unhide HO6).fr (unhide HXF) (fun g hg e => by have := ((unhide HO6).foot hg).1; omega)
  exact bodyPost_ret (v := .agg #[.int .i64 d9.cols, .int .i64 d9.rows, .slice ga6 d9.R gc6, .int .i64 d9.row, .int .i64 d9.col, .bool d9.late, .slice ha6 d9.hold.length hc6, .slice ba6 d9.nb bc6]) (by simp [results, Tryz.results86, go_sem, v0, v1, v2, v3, v4, v5, v6, v7]) rfl ⟨_, rv6, _, _, rfl, o9.down (by omega), r9, f9⟩
end Go.Proofs.YtinfdhbnljnifaaGreatDoor
