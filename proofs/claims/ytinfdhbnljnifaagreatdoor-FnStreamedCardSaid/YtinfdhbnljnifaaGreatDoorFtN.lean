import Derived.Test.YtinfdhbnljnifaaGreatDoorFtP
import Derived.ArgAppend
import Derived.Lib.SlBytesConst
namespace Go.Proofs.YtinfdhbnljnifaaGreatDoor
open Go.RowKit
def drA (bs : List Int) (p : Nat) : SD × Nat :=
  if rdN bs p % 6 = 5 then ((drS bs (nxt bs p)).1.spl (rdN bs (drS bs (nxt bs p)).2) (rdN bs (nxt bs (drS bs (nxt bs p)).2)), nxt bs (nxt bs (drS bs (nxt bs p)).2)) else drS bs (nxt bs p)
set_option linter.unusedSimpArgs false in
set_option maxRecDepth 10000 in
set_option maxHeartbeats 2000000 in
theorem l2DrawAny_is (D : Nat) (v : Value) (bs : List Int) (p0 : Nat) (w : World) (h : RdAt w D v bs p0) (hB : Bytes bs) (hl : bs.length ≤ 16777216) :
    Calls Tryz.prog 34 #[.pointer (some ⟨D, 0, none⟩)] w fun e w' => ∃ gv hv bv, e = .returned (scrV (drA bs p0).1 gv hv bv) ∧ (∀ W, Fr (fun q => q < w.heap.size) w' W → ScrAt W (drA bs p0).1 gv hv bv) ∧ RdAt w' D v bs (drA bs p0).2 ∧ Fr (fun k => k = D) w w' := by
  have HR := hide h
  have hDw : D < w.heap.size := lt_of_cell h.1
  obtain ⟨hx, hx255⟩ := rdN_is hB p0
  obtain ⟨x, hxx⟩ : ∃ x, rdN bs p0 = x := ⟨_, rfl⟩
  obtain ⟨d, p2, hdp⟩ : ∃ d p2, drS bs (nxt bs p0) = (d, p2) := ⟨_, _, rfl⟩
  have hok := drS_ok bs (nxt bs p0)
  rw [hdp] at hok
  have HK : Hid (OkP d) := hide hok
  have HDR : Hid (drA bs p0 = if x % 6 = 5 then (d.spl (rdN bs p2) (rdN bs (nxt bs p2)), nxt bs (nxt bs p2)) else (d, p2)) := hide (by unfold drA; rw [hdp, hxx])
  rw [hxx] at hx hx255
  have HX := hide hx
  have HDP := hide hdp
  clear h hx hxx hdp hok
  obtain ⟨V, hV⟩ : ∃ V, V = w.alloc (.cells #[.int .i64 0, .int .i64 0, .slice none 0 0, .int .i64 0, .int .i64 0, .bool false, .slice none 0 0, .slice none 0 0] 26) := ⟨_, rfl⟩
  have E0 : Ext w V := by rw [hV]; exact (Ext.refl w).alloc _
  have zV : V.heap.size = w.heap.size + 1 := by rw [hV]; simp
  have bz0 : V.heap[w.heap.size]? = some (.cells #[.int .i64 0, .int .i64 0, .slice none 0 0, .int .i64 0, .int .i64 0, .bool false, .slice none 0 0, .slice none 0 0] 26 (0, 0)) := by rw [hV]; exact new_block w _
  have HN1 := hide (next_any D v bs p0 V ((unhide HR).ext E0) hB hl)
  rw [unhide HX] at HN1
  have HVV := hide hV
  have HE0 := hide E0
  have HZ0 := hide bz0
  clear hV E0 bz0
  obtain ⟨m, hm⟩ : ∃ m, m = x % 6 := ⟨_, rfl⟩
  have t6 : (x : Int).tmod 6 = (m : Int) := by rw [hm]; exact tmod_nat x 6
  rw [← hm] at HDR
  have hm6 : m < 6 := by omega
  clear hm
  go_enter Tryz.func34, Tryz.ntmps34
  go_wp2_with fail
  rw [← unhide HVV]
  clear HVV
  refine (unhide HN1).mono ?_
  rintro e w1 ⟨rfl, hr1, f1⟩
  rw [show (if p0 < bs.length then p0 + 1 else p0) = nxt bs p0 from rfl] at hr1
  have HL := hide (l2Draw_is D v bs (nxt bs p0) w1 hr1 hB hl)
  rw [unhide HDP] at HL
  have HF1 := hide f1
  have HR1 := hide hr1
  have z1 := f1.size
  have HZ1 := hide (f1.kept (unhide HZ0) (by omega))
  clear HN1 hr1 f1 HZ0
  unfold scrV at HL
  go_wp2_with fail
  refine (unhide HL).mono ?_
  rintro e w2 ⟨gv, rv, hv, bv, rfl, o2, hr2, f2⟩
  obtain ⟨ga, gc, ha, hc, ba, bc, e1, e2, e3⟩ := o2.reads.forms
  subst e1
  subst e2
  subst e3
  obtain ⟨V2, hV2⟩ : ∃ V, V = w2.alloc (.cells #[.int .i64 d.cols, .int .i64 d.rows, .slice ga d.R gc, .int .i64 d.row, .int .i64 d.col, .bool d.late, .slice ha d.hold.length hc, .slice ba d.nb bc] 26) := ⟨_, rfl⟩
  have EV : Ext w2 V2 := by rw [hV2]; exact (Ext.refl w2).alloc _
  have HSB : Hid (V2.heap[w2.heap.size]? = some (.cells #[.int .i64 d.cols, .int .i64 d.rows, .slice ga d.R gc, .int .i64 d.row, .int .i64 d.col, .bool d.late, .slice ha d.hold.length hc, .slice ba d.nb bc] 26 (0, 0))) := hide (by rw [hV2]; exact new_block w2 _)
  have z2 := f2.size
  have HF2 : Hid (Fr (fun k => k = D) w1 V2) := hide (Fr.tr f2 (Fr.of_ext EV))
  have HO2 : Hid (OwnFS V2 w1.heap.size d (.slice ga d.R gc) rv (.slice ha d.hold.length hc) (.slice ba d.nb bc)) := hide (o2.ext EV)
  have HR2 : Hid (RdAt V2 D v bs p2) := hide (hr2.ext EV)
  have HZ2 := hide ((unhide HF2).kept (unhide HZ1) (by omega))
  have HV2 := hide hV2
  have zV2 := EV.size
  have z9 : w2.heap.size < V2.heap.size := lt_of_block (unhide HSB)
  have HFV : Hid (Fr (fun k => k = D) w V2) := hide (Fr.tr (Fr.tr (Fr.of_ext (unhide HE0)) (unhide HF1)) (unhide HF2))
  clear HL o2 hr2 f2 hV2 EV
  by_cases h5 : m = 5
  · have HDA : Hid (drA bs p0 = (d.spl (rdN bs p2) (rdN bs (nxt bs p2)), nxt bs (nxt bs p2))) := hide (by rw [unhide HDR, if_pos h5])
    subst h5
    have HSp := hide (l2Spoil_is D v bs (nxt bs p0) p2 d _ rv _ _ w1 V2 (unhide HR1) (unhide HR2) (unhide HF2) (unhide HO2) (unhide HK) hB hl)
    obtain ⟨d3, hd3⟩ : ∃ d3, d3 = d.spl (rdN bs p2) (rdN bs (nxt bs p2)) := ⟨_, rfl⟩
    rw [← hd3] at HSp HDA
    unfold scrV at HSp
    clear hd3 HDR
    go_wp2_with (show wpList _ _ _ (List.cons ⟨_, .load _ _, _, _, _, _⟩ _) _ _; rw [← unhide HV2]; refine wpList_load_blk rfl 26 _ rfl w2.heap.size rfl _ _ _ _ (unhide HSB) Tryz.underlying26 rfl infoScr8 ?_)
    refine (unhide HSp).mono ?_
    rintro e w3 ⟨gv3, hv3, bv3, rfl, hat, r3, f3⟩
    obtain ⟨ga3, gc3, ha3, hc3, ba3, bc3, e1, e2, e3⟩ := (hat w3 (Fr.refl _ _)).forms
    subst e1
    subst e2
    subst e3
    have z3 := f3.size
    have HZ3 := hide (f3.kept (unhide HZ1) (by omega))
    have HAT := hide hat
    have HR3 := hide r3
    have HF3 := hide f3
    clear hat r3 f3 HSp
    go_wp2_with (refine wpList_store_blk rfl 26 _ _ rfl rfl w.heap.size rfl _ _ _ rfl (unhide HZ3) infoScr8 rfl (by simp [Value.oneCell']) ?_; intro X HX9 hX9; have HXB := hide HX9; have HXF := hide hX9; clear HX9 hX9)
    have v0 := cells_of (unhide HXB) 0 _ rfl
    have v1 := cells_of (unhide HXB) 1 _ rfl
    have v2 := cells_of (unhide HXB) 2 _ rfl
    have v3 := cells_of (unhide HXB) 3 _ rfl
    have v4 := cells_of (unhide HXB) 4 _ rfl
    have v5 := cells_of (unhide HXB) 5 _ rfl
    have v6 := cells_of (unhide HXB) 6 _ rfl
    have v7 := cells_of (unhide HXB) 7 _ rfl
    have f9 : Fr (fun k => k = D) w X := (unhide HXF).upon2 (Fr.tr (Fr.tr (Fr.of_ext (unhide HE0)) (unhide HF1)) (unhide HF3)) (fun q hq => by omega)
    have r9 : RdAt X D v bs (nxt bs (nxt bs p2)) := (unhide HR).keep (unhide HR3) f9 ((unhide HXF).block D (by omega) (by omega))
    exact bodyPost_ret (v := .agg #[.int .i64 d3.cols, .int .i64 d3.rows, .slice ga3 d3.R gc3, .int .i64 d3.row, .int .i64 d3.col, .bool d3.late, .slice ha3 d3.hold.length hc3, .slice ba3 d3.nb bc3]) (by simp [results, Tryz.results34, go_sem, v0, v1, v2, v3, v4, v5, v6, v7]) rfl ⟨.slice ga3 d3.R gc3, .slice ha3 d3.hold.length hc3, .slice ba3 d3.nb bc3, by rw [unhide HDA]; rfl, fun W hW => by rw [unhide HDA]; exact (unhide HAT) W (Fr.tr ((unhide HXF).mono (fun q hq => by omega)) (hW.mono (fun q hq => by omega))), by rw [unhide HDA]; exact r9, f9⟩
  · have HDA : Hid (drA bs p0 = (d, p2)) := hide (by rw [unhide HDR, if_neg h5])
    have h5b : ((m : Int) == 5) = false := by simp; omega
    clear HDR
    go_wp2_with (first
      | (show wpList _ _ _ (List.cons ⟨_, .load _ _, _, _, _, _⟩ _) _ _; rw [← unhide HV2]; refine wpList_load_blk rfl 26 _ rfl w2.heap.size rfl _ _ _ _ (unhide HSB) Tryz.underlying26 rfl infoScr8 ?_)
      | (refine wpList_store_blk rfl 26 _ _ rfl rfl w.heap.size rfl _ _ _ rfl (unhide HZ2) infoScr8 rfl (by simp [Value.oneCell']) ?_; intro X HX9 hX9; have HXB := hide HX9; have HXF := hide hX9; clear HX9 hX9))
    have v0 := cells_of (unhide HXB) 0 _ rfl
    have v1 := cells_of (unhide HXB) 1 _ rfl
    have v2 := cells_of (unhide HXB) 2 _ rfl
    have v3 := cells_of (unhide HXB) 3 _ rfl
    have v4 := cells_of (unhide HXB) 4 _ rfl
    have v5 := cells_of (unhide HXB) 5 _ rfl
    have v6 := cells_of (unhide HXB) 6 _ rfl
    have v7 := cells_of (unhide HXB) 7 _ rfl
    have f9 : Fr (fun k => k = D) w X := (unhide HXF).upon2 (unhide HFV) (fun q hq => by omega)
    have r9 : RdAt X D v bs p2 := (unhide HR).keep (unhide HR2) f9 ((unhide HXF).block D (by omega) (by omega))
    exact bodyPost_ret (v := .agg #[.int .i64 d.cols, .int .i64 d.rows, .slice ga d.R gc, .int .i64 d.row, .int .i64 d.col, .bool d.late, .slice ha d.hold.length hc, .slice ba d.nb bc]) (by simp [results, Tryz.results34, go_sem, v0, v1, v2, v3, v4, v5, v6, v7]) rfl ⟨.slice ga d.R gc, .slice ha d.hold.length hc, .slice ba d.nb bc, by rw [unhide HDA]; rfl, fun W hW => by rw [unhide HDA]; exact ((unhide HO2).fr (Fr.tr ((unhide HXF).mono (S' := fun q => q < w1.heap.size) (fun q hq => by omega)) (hW.mono (fun q hq => by omega))) (fun g hg e => by have := ((unhide HO2).foot hg).1; omega)).reads, by rw [unhide HDA]; exact r9, f9⟩
end Go.Proofs.YtinfdhbnljnifaaGreatDoor

namespace Go.Proofs.YtinfdhbnljnifaaGreatDoor
open Go.RowKit
def drF (cd : List Int) : SD × List Int :=
  ((drA cd (nxt cd 0)).1, if rdN cd 0 % 32 = 31 then [27, 91] ++ List.replicate (29 + rdN cd 0 / 32) 48 ++ [65, 98] else (strm cd (1 + rdN cd 0 % 24) (drA cd (nxt cd 0)).2).1)
set_option linter.unusedSimpArgs false in
set_option maxRecDepth 10000 in
set_option maxHeartbeats 4000000 in
theorem DrawFeed_is (v : Value) (bs : List Int) (w : World) (hv : IntsAt w .u8 v bs) (hB : Bytes bs) (hl : bs.length ≤ 16777216) :
    Calls Tryz.prog 6 #[v] w fun e w' => ∃ gv hv bv yv, e = .returned (.tuple #[scrV (drF (bs.take 1000)).1 gv hv bv, yv]) ∧ ScrAt w' (drF (bs.take 1000)).1 gv hv bv ∧ IntsAt w' .u8 yv (drF (bs.take 1000)).2 ∧ Ext w w' := by
  obtain ⟨va, vc, hvv, _, _⟩ := id hv
  subst hvv
  obtain ⟨i0, hi0, hq0, hq1, hq2⟩ := info_parts infoByteA
  obtain ⟨cd, hcd⟩ : ∃ cd, cd = bs.take 1000 := ⟨_, rfl⟩
  have hBc : Bytes cd := by rw [hcd]; exact fun n hn => hB n (List.mem_of_mem_take hn)
  have hlc : cd.length ≤ 16777216 := by rw [hcd, List.length_take]; omega
  rw [← hcd]
  obtain ⟨hx, hx255⟩ := rdN_is hBc 0
  obtain ⟨x, hxx⟩ : ∃ x, rdN cd 0 = x := ⟨_, rfl⟩
  obtain ⟨d, p2, hdp⟩ : ∃ d p2, drA cd (nxt cd 0) = (d, p2) := ⟨_, _, rfl⟩
  obtain ⟨n, hn⟩ : ∃ n, n = 1 + x % 24 := ⟨_, rfl⟩
  obtain ⟨zs, p3, hzp⟩ : ∃ zs p3, strm cd n p2 = (zs, p3) := ⟨_, _, rfl⟩
  have HDF : Hid (drF cd = (d, if x % 32 = 31 then [27, 91] ++ List.replicate (29 + x / 32) 48 ++ [65, 98] else zs)) := hide (by unfold drF; rw [hdp, hxx, ← hn, hzp])
  rw [hxx] at hx hx255
  have HX := hide hx
  have HDP := hide hdp
  have HZP := hide hzp
  have HCD := hide hcd
  obtain ⟨V, hV⟩ : ∃ V, V = w.alloc (.cells #[.int .i64 0, .int .i64 0, .slice none 0 0, .int .i64 0, .int .i64 0, .bool false, .slice none 0 0, .slice none 0 0] 26) := ⟨_, rfl⟩
  have E0 : Ext w V := by rw [hV]; exact (Ext.refl w).alloc _
  have zV : V.heap.size = w.heap.size + 1 := by rw [hV]; simp
  have HZ0 : Hid (V.heap[w.heap.size]? = some (.cells #[.int .i64 0, .int .i64 0, .slice none 0 0, .int .i64 0, .int .i64 0, .bool false, .slice none 0 0, .slice none 0 0] 26 (0, 0))) := hide (by rw [hV]; exact new_block w _)
  have HO := hide (l1Open_any _ bs V (hv.ext E0) hl)
  rw [← hcd, zV] at HO
  have HVV := hide hV
  have HE0 := hide E0
  have tn : (x : Int).tmod 24 = (n : Int) - 1 := by rw [show (x : Int).tmod 24 = _ from tmod_nat x 24]; omega
  have wn : IntKind.i64.wrap (1 + ((n : Int) - 1)) = (n : Int) := by rw [IntKind.wrap_i64] <;> omega
  have hn24 : 1 ≤ n ∧ n ≤ 24 := by omega
  obtain ⟨m, hm⟩ : ∃ m, m = x % 32 := ⟨_, rfl⟩
  have t32 : (x : Int).tmod 32 = (m : Int) := by rw [hm]; exact tmod_nat x 32
  obtain ⟨q, hq⟩ : ∃ q, q = x / 32 := ⟨_, rfl⟩
  have d32 : (x : Int).tdiv 32 = (q : Int) := by rw [hq]; exact tdiv_nat x 32
  rw [← hm, ← hq] at HDF
  have hm32 : m < 32 := by omega
  have hq7 : q ≤ 7 := by omega
  clear hx hxx hdp hzp hV E0 hn hm hq hcd hv
  go_enter Tryz.func6, Tryz.ntmps6
  go_wp2_with fail
  rw [← unhide HVV]
  clear HVV
  refine (unhide HO).mono ?_
  rintro e w1 ⟨rfl, ⟨rv, hr1⟩, F1⟩
  have HN1 := hide (next_any (w.heap.size + 1) rv cd 0 w1 hr1 hBc hlc)
  rw [unhide HX] at HN1
  have z1 : w.heap.size + 1 < w1.heap.size := lt_of_cell hr1.1
  have HF1 := hide F1
  have HR1 := hide hr1
  clear HO hr1 F1
  go_wp2_with fail
  refine (unhide HN1).mono ?_
  rintro e w2 ⟨rfl, hr2, f2⟩
  rw [show (if 0 < cd.length then 0 + 1 else 0) = nxt cd 0 from rfl] at hr2
  have HL := hide (l2DrawAny_is (w.heap.size + 1) rv cd (nxt cd 0) w2 hr2 hBc hlc)
  rw [unhide HDP] at HL
  have HE2 : Hid (Ext w w2) := hide (f2.ext ((unhide HE0).trans (unhide HF1)) (fun q hq => by omega))
  have z2 := f2.size
  have HZ2 := hide (f2.kept ((unhide HF1).kept (unhide HZ0)) (by omega))
  clear HN1 hr2 f2 HZ0
  unfold scrV at HL
  go_wp2_with fail
  refine (unhide HL).mono ?_
  rintro e w3 ⟨gv, hv, bv, rfl, hat, hr3, f3⟩
  obtain ⟨ga, gc, ha, hc, ba, bc, e1, e2, e3⟩ := (hat w3 (Fr.refl _ _)).forms
  subst e1
  subst e2
  subst e3
  obtain ⟨V3, hV3⟩ : ∃ V, V = w3.alloc (.cells #[.int .i64 d.cols, .int .i64 d.rows, .slice ga d.R gc, .int .i64 d.row, .int .i64 d.col, .bool d.late, .slice ha d.hold.length hc, .slice ba d.nb bc] 26) := ⟨_, rfl⟩
  have EV : Ext w3 V3 := by rw [hV3]; exact (Ext.refl w3).alloc _
  have HSB : Hid (V3.heap[w3.heap.size]? = some (.cells #[.int .i64 d.cols, .int .i64 d.rows, .slice ga d.R gc, .int .i64 d.row, .int .i64 d.col, .bool d.late, .slice ha d.hold.length hc, .slice ba d.nb bc] 26 (0, 0))) := hide (by rw [hV3]; exact new_block w3 _)
  have z3 := f3.size
  have HE3 : Hid (Ext w V3) := hide ((f3.ext (unhide HE2) (fun q hq => by omega)).trans EV)
  have HZ3 := hide (EV.kept (f3.kept (unhide HZ2) (by omega)))
  have HST := hide (l2Stream_is (w.heap.size + 1) rv cd p2 n V3 (hr3.ext EV) hBc hlc (by omega))
  rw [unhide HZP] at HST
  have HAT := hide hat
  have HV3 := hide hV3
  have HEV := hide EV
  have z3v : w3.heap.size < V3.heap.size := lt_of_block (unhide HSB)
  clear HL hat hr3 f3 hV3 EV HZ2
  go_wp2_with fail
  rw [← unhide HV3]
  refine (unhide HST).mono ?_
  rintro e w4 ⟨y4, rfl, h4⟩
  have HX4 : Hid (Fr (fun q => q < w2.heap.size) w3 w4) := hide (Fr.tr (Fr.of_ext (unhide HEV)) (h4.fr.mono (fun q hq => by omega)))
  have HE4 : Hid (Ext w w4) := hide (h4.fr.ext (unhide HE3) (fun q hq => by omega))
  have HS4 := hide (h4.fr.kept (unhide HSB) (by omega))
  have HZ4 := hide (h4.fr.kept (unhide HZ3) (by omega))
  have HOw4 : Hid (w4.ownsRow V3.heap.size 5 1 y4 zs.length (zs.map (Value.int .u8))) := hide h4.own
  have z4 := h4.fr.size
  obtain ⟨ya, yc, e4⟩ := owns_ln h4.own
  have e4 : y4 = .slice ya zs.length yc := e4
  subst e4
  clear h4 HST HSB HZ3
  by_cases h31 : m = 31
  · subst h31
    have HDA : Hid (drF cd = (d, [27, 91] ++ List.replicate (29 + q) 48 ++ [65, 98])) := hide (by rw [unhide HDF, if_pos rfl])
    clear HDF HOw4
    obtain ⟨N, hN⟩ : ∃ N, N = 29 + q := ⟨_, rfl⟩
    rw [← hN] at HDA
    have wN : IntKind.i64.wrap (29 + (q : Int)) = (N : Int) := by rw [IntKind.wrap_i64] <;> omega
    have hN1 : 1 ≤ N ∧ N ≤ 40 := by omega
    clear hN
    have hcv := Lib.run_convert_bytes_const (P := Tryz.prog) w4 22 5 #[.int .u8 27, .int .u8 91] 2 2 Tryz.underlying22 Tryz.underlying5
    obtain ⟨V5, hV5⟩ : ∃ V, V = w4.alloc (.cells #[.int .u8 27, .int .u8 91] 5 (2, 3)) := ⟨_, rfl⟩
    have E5 : Ext w4 V5 := by rw [hV5]; exact (Ext.refl w4).alloc _
    have HC5 : Hid (V5.heap[w4.heap.size]? = some (.cells #[.int .u8 27, .int .u8 91] 5 (2, 3))) := hide (by rw [hV5]; exact heap_alloc_new w4 _)
    have HV5 := hide hV5
    have HE5 := hide E5
    clear hV5 E5
    go_wp2_with fail
    rw [← unhide HV5]
    clear HV5 hcv
    go_loopw [7, 8] (fun yv iv wr => ∃ (t : Nat), t ≤ N ∧ iv = .int .i64 t ∧ Hid (Ext w4 wr) ∧ Hid ((t = 0 ∧ yv = .slice (some ⟨w4.heap.size, 0, none⟩) 2 2 ∧ wr.heap[w4.heap.size]? = some (.cells #[.int .u8 27, .int .u8 91] 5 (2, 3))) ∨ wr.ownsRow w4.heap.size 5 1 yv (2 + t) (([27, 91] ++ List.replicate t 48 : List Int).map (Value.int .u8)))) (fun _ iv _ => N - (intOf iv).toNat)
    case atStart => exact ⟨0, Nat.zero_le _, rfl, HE5, hide (.inl ⟨rfl, rfl, unhide HC5⟩)⟩
    case round =>
      clear HE5 HC5
      obtain ⟨t, ht, rfl, HEr, HBr⟩ := hrel
      have zr := (unhide HEr).size
      by_cases hlt : t < N
      · have b1 : (t : Int) < (N : Int) := by omega
        have wt : IntKind.i64.wrap ((t : Int) + 1) = (t : Int) + 1 := by rw [IntKind.wrap_i64] <;> omega
        obtain ⟨U1, hU1⟩ : ∃ V, V = wr.alloc (.cells #[.int .u8 48] 5) := ⟨_, rfl⟩
        have EU : Ext wr U1 := by rw [hU1]; exact (Ext.refl _).alloc _
        have HSr : Hid (Src U1 1 (.slice (some ⟨wr.heap.size, 0, none⟩) 1 1) 1 (([48] : List Int).map (Value.int .u8))) := hide (by rw [hU1]; exact Src.made _ _ _ rfl (by simp [Value.oneCell']))
        have hc48 : U1.cell? ⟨wr.heap.size, 0, none⟩ = some (.int .u8 48) := by rw [hU1]; exact cells_of (new_block wr _) 0 _ rfl
        have HU1 := hide hU1
        have HEU := hide EU
        have zU := EU.size
        clear hU1 EU
        have HRep : Hid (([27, 91] ++ List.replicate t 48 : List Int) ++ [48] = [27, 91] ++ List.replicate (t + 1) 48) := hide (by rw [List.append_assoc, List.replicate_succ'])
        rcases unhide HBr with ⟨h0, hyv, hcell⟩ | hown
        · subst h0
          subst hyv
          have HCc := hide ((unhide HEU).kept hcell)
          have HC48 := hide hc48
          clear hcell HBr hc48
          go_wp2_with (at_builtin; refine StopQ.intro ?_)
          show wpList _ _ _ _ _ _
          rw [← unhide HU1]
          refine wpList_append_grows U1 rfl _ _ 22 rfl 5 i0 (.int .u8 0) 1 1 Tryz.underlying22 hi0 hq0 hq1 hq2 rfl (by decide) (some ⟨w4.heap.size, 0, none⟩) 2 2 [.int .u8 27, .int .u8 91] rfl (fun e => by cases e) rfl (fun b hb j u hj => by
              cases hb
              rw [Addr.add_lit, Nat.zero_add]
              exact cells_of (unhide HCc) j u (by simpa using hj)) ⟨wr.heap.size, 0, none⟩ 1 1 [.int .u8 48] rfl rfl (fun j u hj => by
              have hj0 : j = 0 := by
                have := (List.getElem?_eq_some_iff.1 hj).1
                simp at this
                exact this
              subst hj0
              simp at hj
              subst hj
              rw [Addr.add_lit]
              exact unhide HC48) (by simp [Value.oneCell']) (by decide) (by unfold maxLen; omega) (by omega) ?_
          intro v5 w5 o5 G5
          have HE6 : Hid (Ext w4 w5) := hide (Ext.grown ((unhide HEr).trans (unhide HEU)) G5 (fun k hk => by cases hk))
          have HB6 : Hid ((0 + 1 = 0 ∧ v5 = .slice (some ⟨w4.heap.size, 0, none⟩) 2 2 ∧ w5.heap[w4.heap.size]? = some (.cells #[.int .u8 27, .int .u8 91] 5 (2, 3))) ∨ w5.ownsRow w4.heap.size 5 1 v5 (2 + (0 + 1)) (([27, 91] ++ List.replicate (0 + 1) 48 : List Int).map (Value.int .u8))) := hide (.inr (owns_mono o5 (by omega)))
          clear o5 G5 HCc HC48
          go_wp2
          go_roundw
          case rel => exact ⟨0 + 1, by omega, by go_num, HE6, HB6⟩
          case measure => simp [intOf]; omega
        · have HOw := hide hown
          clear hown HBr hc48
          go_wp2_with (at_builtin; refine StopQ.intro ?_)
          show wpList _ _ _ _ _ _
          rw [← unhide HU1]
          refine wpList_app rfl _ _ 22 rfl w4.heap.size 5 i0 (.int .u8 0) 1 1 Tryz.underlying22 hi0 hq0 hq1 hq2 rfl (by decide) _ _ _ rfl ((unhide HEU).owns (unhide HOw)) _ 1 (([48] : List Int).map (Value.int .u8)) rfl (unhide HSr) (by unfold maxLen; omega) (by omega) (by omega) ?_
          intro v5 w5 o5 G5 _
          rw [← List.map_append, unhide HRep] at o5
          have HE6 : Hid (Ext w4 w5) := hide (Ext.grown ((unhide HEr).trans (unhide HEU)) G5 (fun k hk => ((unhide HOw).lt k hk).1))
          have HB6 : Hid ((t + 1 = 0 ∧ v5 = .slice (some ⟨w4.heap.size, 0, none⟩) 2 2 ∧ w5.heap[w4.heap.size]? = some (.cells #[.int .u8 27, .int .u8 91] 5 (2, 3))) ∨ w5.ownsRow w4.heap.size 5 1 v5 (2 + (t + 1)) (([27, 91] ++ List.replicate (t + 1) 48 : List Int).map (Value.int .u8))) := hide (.inr (by rw [show 2 + (t + 1) = 2 + t + 1 by omega]; exact o5))
          clear o5 G5
          go_wp2
          go_roundw
          case rel => exact ⟨t + 1, by omega, by go_num, HE6, HB6⟩
          case measure => simp [intOf]; omega
      · obtain rfl : t = N := by omega
        have b1 : ¬ (t : Int) < (t : Int) := by omega
        have hown : wr.ownsRow w4.heap.size 5 1 u7 (2 + t) (([27, 91] ++ List.replicate t 48 : List Int).map (Value.int .u8)) := by
          rcases unhide HBr with ⟨h0, _⟩ | h
          · omega
          · exact h
        obtain ⟨U1, hU1⟩ : ∃ V, V = wr.alloc (.cells #[.int .u8 65, .int .u8 98] 5) := ⟨_, rfl⟩
        have EU : Ext wr U1 := by rw [hU1]; exact (Ext.refl _).alloc _
        have HSr : Hid (Src U1 1 (.slice (some ⟨wr.heap.size, 0, none⟩) 2 2) 2 (([65, 98] : List Int).map (Value.int .u8))) := hide (by rw [hU1]; exact Src.made _ _ _ rfl (by simp [Value.oneCell']))
        have HU1 := hide hU1
        have HEU := hide EU
        have HOw := hide hown
        have zU := EU.size
        clear hU1 EU hown HBr
        go_wp2_with (at_builtin; refine StopQ.intro ?_)
        show wpList _ _ _ _ _ _
        rw [← unhide HU1]
        refine wpList_app rfl _ _ 22 rfl w4.heap.size 5 i0 (.int .u8 0) 1 1 Tryz.underlying22 hi0 hq0 hq1 hq2 rfl (by decide) _ _ _ rfl ((unhide HEU).owns (unhide HOw)) _ 2 (([65, 98] : List Int).map (Value.int .u8)) rfl (unhide HSr) (by unfold maxLen; omega) (by omega) (by omega) ?_
        intro v5 w5 o5 G5 _
        rw [← List.map_append] at o5
        obtain ⟨a5, c5, rfl⟩ := owns_ln o5
        have E6 : Ext w4 w5 := Ext.grown ((unhide HEr).trans (unhide HEU)) G5 (fun k hk => ((unhide HOw).lt k hk).1)
        have HX5 : Hid (Fr (fun q => q < w2.heap.size) w3 w5) := hide (Fr.tr (unhide HX4) (Fr.of_ext E6))
        have HE5 : Hid (Ext w w5) := hide ((unhide HE4).trans E6)
        have HS5 := hide (E6.kept (unhide HS4))
        have HZ5 := hide (E6.kept (unhide HZ4))
        have HO5 := hide o5
        clear o5 G5 E6 HS4 HZ4
        go_wp2_with (first
          | (refine wpList_load_blk rfl 26 _ rfl w3.heap.size rfl _ _ _ _ (unhide HS5) Tryz.underlying26 rfl infoScr8 ?_)
          | (refine wpList_store_blk rfl 26 _ _ rfl rfl w.heap.size rfl _ _ _ rfl (unhide HZ5) infoScr8 rfl (by simp [Value.oneCell']) ?_; intro X HX9 hX9; have HXB := hide HX9; have HXF := hide hX9; clear HX9 hX9))
        have v0 := cells_of (unhide HXB) 0 _ rfl
        have v1 := cells_of (unhide HXB) 1 _ rfl
        have v2 := cells_of (unhide HXB) 2 _ rfl
        have v3 := cells_of (unhide HXB) 3 _ rfl
        have v4 := cells_of (unhide HXB) 4 _ rfl
        have v5 := cells_of (unhide HXB) 5 _ rfl
        have v6 := cells_of (unhide HXB) 6 _ rfl
        have v7 := cells_of (unhide HXB) 7 _ rfl
        have x9 : Fr (fun q => q < w2.heap.size) w3 X := Fr.tr (unhide HX5) ((unhide HXF).mono (fun q hq => by omega))
        have e9 : Ext w X := (unhide HXF).ext (unhide HE5) (fun q hq => by omega)
        have o9 := (unhide HXF).owns (unhide HO5) (fun g hg e => by have := ((unhide HO5).lt g hg).1; omega)
        have hlen : ([27, 91] ++ List.replicate t 48 ++ [65, 98] : List Int).length = 2 + t + 2 := by simp; omega
        rw [← hlen] at o9
        exact bodyPost_ret (v := .tuple #[.agg #[.int .i64 d.cols, .int .i64 d.rows, .slice ga d.R gc, .int .i64 d.row, .int .i64 d.col, .bool d.late, .slice ha d.hold.length hc, .slice ba d.nb bc], .slice a5 (2 + t + 2) c5]) (by simp [results, Tryz.results6, go_sem, v0, v1, v2, v3, v4, v5, v6, v7]) rfl ⟨.slice ga d.R gc, .slice ha d.hold.length hc, .slice ba d.nb bc, .slice a5 (2 + t + 2) c5, by rw [unhide HDA]; rfl, by rw [unhide HDA]; exact (unhide HAT) X x9, by rw [unhide HDA, ← hlen]; exact ints_of_owns o9, e9⟩
  · have HDA : Hid (drF cd = (d, zs)) := hide (by rw [unhide HDF, if_neg h31])
    have b31 : ((m : Int) == 31) = false := by simp; omega
    clear HDF
    go_wp2_with (first
      | (refine wpList_load_blk rfl 26 _ rfl w3.heap.size rfl _ _ _ _ (unhide HS4) Tryz.underlying26 rfl infoScr8 ?_)
      | (refine wpList_store_blk rfl 26 _ _ rfl rfl w.heap.size rfl _ _ _ rfl (unhide HZ4) infoScr8 rfl (by simp [Value.oneCell']) ?_; intro X HX9 hX9; have HXB := hide HX9; have HXF := hide hX9; clear HX9 hX9))
    have v0 := cells_of (unhide HXB) 0 _ rfl
    have v1 := cells_of (unhide HXB) 1 _ rfl
    have v2 := cells_of (unhide HXB) 2 _ rfl
    have v3 := cells_of (unhide HXB) 3 _ rfl
    have v4 := cells_of (unhide HXB) 4 _ rfl
    have v5 := cells_of (unhide HXB) 5 _ rfl
    have v6 := cells_of (unhide HXB) 6 _ rfl
    have v7 := cells_of (unhide HXB) 7 _ rfl
    have x9 : Fr (fun q => q < w2.heap.size) w3 X := Fr.tr (unhide HX4) ((unhide HXF).mono (fun q hq => by omega))
    have e9 : Ext w X := (unhide HXF).ext (unhide HE4) (fun q hq => by omega)
    have o9 := (unhide HXF).owns (unhide HOw4) (fun g hg e => by have := ((unhide HOw4).lt g hg).1; omega)
    exact bodyPost_ret (v := .tuple #[.agg #[.int .i64 d.cols, .int .i64 d.rows, .slice ga d.R gc, .int .i64 d.row, .int .i64 d.col, .bool d.late, .slice ha d.hold.length hc, .slice ba d.nb bc], .slice ya zs.length yc]) (by simp [results, Tryz.results6, go_sem, v0, v1, v2, v3, v4, v5, v6, v7]) rfl ⟨.slice ga d.R gc, .slice ha d.hold.length hc, .slice ba d.nb bc, .slice ya zs.length yc, by rw [unhide HDA]; rfl, by rw [unhide HDA]; exact (unhide HAT) X x9, by rw [unhide HDA]; exact ints_of_owns o9, e9⟩
end Go.Proofs.YtinfdhbnljnifaaGreatDoor

namespace Go.Proofs.YtinfdhbnljnifaaGreatDoor
open Go.RowKit
def KeepB (d d' : SD) : Prop := d.nb ≤ d'.nb ∧ ∀ j, j < d.nb → d'.bk j = d.bk j
theorem KeepB.refl (d : SD) : KeepB d d := ⟨Nat.le_refl _, fun _ _ => rfl⟩
theorem KeepB.of {d d' : SD} (h1 : d'.nb = d.nb) (h2 : d'.bk = d.bk) : KeepB d d' := ⟨by omega, fun j _ => by rw [h2]⟩
theorem KeepB.trans {a b c : SD} (h : KeepB a b) (k : KeepB b c) : KeepB a c := ⟨Nat.le_trans h.1 k.1, fun j hj => (k.2 j (Nat.lt_of_lt_of_le hj h.1)).trans (h.2 j hj)⟩
section
variable (tT : (Nat → ByteArray) → (Nat → Bool) → Nat → ByteArray)
theorem keep_down (d : SD) : KeepB d (d.down tT) := by
  unfold SD.down
  split
  · exact .of rfl rfl
  · exact ⟨Nat.le_succ _, fun j hj => by show (if j = d.nb then _ else d.bk j) = _; rw [if_neg (by omega)]⟩
theorem keep_put (d : SD) (t : ByteArray) (w : Int) : KeepB d (d.put tT t w) := by
  have h1 : KeepB d (d.wrapL tT w) := by
    unfold SD.wrapL
    split
    · exact (keep_down tT d).trans (.of rfl rfl)
    · exact .refl d
  refine h1.trans ?_
  unfold SD.put SD.put3
  have h2 : ∀ e : SD, (e.put2 t w).nb = e.nb ∧ (e.put2 t w).bk = e.bk := fun e => by
    unfold SD.put2 SD.put1
    split <;> exact ⟨rfl, rfl⟩
  split
  · exact .of (h2 _).1 (h2 _).2
  · exact .of (h2 _).1 (h2 _).2
theorem keep_act (d : SD) (a : FAct) : KeepB d (d.act tT a) := by
  cases a with
  | inl r =>
    show KeepB d (d.shw tT r)
    unfold SD.shw
    split
    · exact .of rfl rfl
    · split
      · exact keep_down tT d
      · split
        · exact .refl d
        · split
          · unfold SD.mark
            split
            · exact .refl d
            · split
              · exact .of rfl rfl
              · exact .refl d
          · exact keep_put tT d _ _
  | inr x =>
    obtain ⟨bs, last⟩ := x
    show KeepB d (d.oby bs last)
    unfold SD.oby
    (repeat' split)
    all_goals first | exact .refl d | exact .of rfl rfl
theorem keep_acts : ∀ (l : List FAct) (d : SD), KeepB d (d.acts tT l)
  | [], d => .refl d
  | a :: l, d => (keep_act tT d a).trans (keep_acts l (d.act tT a))
theorem keep_feed (d : SD) (xs : List Int) : KeepB d (d.feed tT xs) := (keep_acts tT (fd (d.hold ++ xs)).1 d).trans (.of rfl rfl)
end
structure Modest (d : SD) (M N : Nat) : Prop where
  ok : OkP d
  by' : Bytes d.hold
  wt : WtB d M
  nb : d.nb ≤ N
theorem Modest.feed {d : SD} {M N : Nat} (h : Modest d M N) (hM : 200 ≤ M) (xs : List Int) (hx : Bytes xs) (hl : xs.length ≤ 300) : Modest (d.feed rowT xs) (M + 1400) (N + 350) := by
  have hb := acts_bd rowT (fd (d.hold ++ xs)).1 h.ok h.wt hM
  have hc := fd_count (d.hold ++ xs)
  rw [List.length_append] at hc
  have hh := h.ok.hold
  refine ⟨ok_feed rowT h.ok xs, ?_, ?_, ?_⟩
  · intro n hn
    have : n ∈ fdH (d.hold ++ xs) := hn
    have h2 : n ∈ d.hold ++ xs := List.mem_of_mem_drop this
    rcases List.mem_append.1 h2 with h3 | h3
    · exact h.by' n h3
    · exact hx n h3
  · have h2 : WtB (d.acts rowT (fd (d.hold ++ xs)).1) (M + 1400) := hb.2.1.mono (by omega)
    exact h2
  · have h3 := hb.2.2
    have := h.nb
    show (d.acts rowT (fd (d.hold ++ xs)).1).nb ≤ _
    omega
theorem Modest.fits {d : SD} {M N : Nat} (h : Modest d M N) (hN : N ≤ 1048576) : d.Fits := by
  have hs := size_bd h.ok
  have hR := h.ok.R
  have hh := h.ok.hold
  have hn := h.nb
  exact ⟨by omega, fun i hi => by have := h.ok.C i hi; omega, by omega, by omega⟩
theorem Modest.room {d : SD} {M N : Nat} (h : Modest d M N) (hM : 200 ≤ M) (hM2 : M ≤ 100000) (hN : N ≤ 100000) (n : Nat) (hn : n ≤ 1000) : Room d n :=
  ⟨h.ok, ⟨M, h.wt, hM, by omega⟩, by have := h.nb; omega⟩
theorem drS_modest {bs : List Int} (p : Nat) : Modest (drS bs p).1 1600 350 := by
  have h0 : Modest (blankSD (2 + rdN bs p % 9) (1 + rdN bs p / 9 % 6)) 200 0 := ⟨ok_blank (by omega) (by omega) (by omega) (by omega), fun n hn => by simp [blankSD] at hn, wt_blank (by omega), Nat.le_refl _⟩
  have hz := strm_ok bs (nxt bs (nxt bs p)) (rdN bs (nxt bs p) % 30)
  have := h0.feed (by omega) (strm bs (rdN bs (nxt bs p) % 30) (nxt bs (nxt bs p))).1 hz.1 (by omega)
  exact this
structure Drawn (d : SD) : Prop where
  fits : d.Fits
  by' : Bytes d.hold
  nb : d.nb ≤ 350
  modest : OkP d → Modest d 1600 350
theorem drawn_modest {d : SD} (h : Modest d 1600 350) : Drawn d := ⟨h.fits (by omega), h.by', h.nb, fun _ => h⟩
theorem drawn_spl {d : SD} (h : Modest d 1600 350) (k v : Nat) : Drawn (d.spl k v) := by
  have hf := h.fits (by omega)
  have hs := size_bd h.ok
  have hR := h.ok.R
  have hh := h.ok.hold
  have hiR : v % d.R < d.R := Nat.mod_lt _ (by omega)
  unfold SD.spl
  by_cases c0 : k % 8 = 0
  · rw [if_pos c0]
    exact ⟨⟨hf.R, hf.C, hf.hold, hf.nb⟩, h.by', h.nb, fun ho => ⟨ho, h.by', h.wt, h.nb⟩⟩
  rw [if_neg c0]
  by_cases c1 : k % 8 = 1
  · rw [if_pos c1]
    exact ⟨⟨hf.R, hf.C, hf.hold, hf.nb⟩, h.by', h.nb, fun ho => ⟨ho, h.by', h.wt, h.nb⟩⟩
  rw [if_neg c1]
  by_cases c2 : k % 8 = 2
  · rw [if_pos c2]
    exact ⟨⟨hf.R, hf.C, hf.hold, hf.nb⟩, h.by', h.nb, fun ho => ⟨ho, h.by', h.wt, h.nb⟩⟩
  rw [if_neg c2]
  by_cases c3 : k % 8 = 3
  · rw [if_pos c3]
    exact ⟨⟨hf.R, hf.C, hf.hold, hf.nb⟩, h.by', h.nb, fun ho => ⟨ho, h.by', h.wt, h.nb⟩⟩
  rw [if_neg c3]
  by_cases c4 : k % 8 = 4
  · rw [if_pos c4]
    have hC := h.ok.C (v % d.R) hiR
    refine ⟨⟨hf.R, fun i hi => ?_, hf.hold, hf.nb⟩, h.by', h.nb, fun ho => ?_⟩
    · have := hf.C i hi
      show (if i = v % d.R then d.C i - 1 else d.C i) ≤ _
      split <;> omega
    · have h9 : ((if v % d.R = v % d.R then d.C (v % d.R) - 1 else d.C (v % d.R) : Nat) : Int) = d.cols := ho.C (v % d.R) hiR
      rw [if_pos rfl] at h9
      omega
  rw [if_neg c4]
  by_cases c5 : k % 8 = 5
  · rw [if_pos c5]
    exact ⟨⟨hf.R, hf.C, hf.hold, hf.nb⟩, h.by', h.nb, fun ho => ⟨ho, h.by', h.wt, h.nb⟩⟩
  rw [if_neg c5]
  by_cases c6 : k % 8 = 6
  · rw [if_pos c6]
    have hb : Bytes (d.hold ++ List.replicate (32 + v % 2) 48) := by
      intro n hn
      rcases List.mem_append.1 hn with h1 | h1
      · exact h.by' n h1
      · have := List.eq_of_mem_replicate h1
        omega
    refine ⟨⟨hf.R, hf.C, ?_, hf.nb⟩, hb, h.nb, fun ho => ⟨ho, hb, h.wt, h.nb⟩⟩
    show (d.hold ++ List.replicate (32 + v % 2) 48).length ≤ _
    rw [List.length_append, List.length_replicate]
    omega
  rw [if_neg c6]
  have hw : WtB (d.setT (v % d.R) (v / 16 % d.cols.toNat) bz) 1600 := by
    have := wt_setT (m := 0) h.wt (v % d.R) (v / 16 % d.cols.toNat) bz (by show 0 ≤ _; omega)
    exact this
  exact ⟨⟨hf.R, hf.C, hf.hold, hf.nb⟩, h.by', h.nb, fun ho => ⟨ho, h.by', hw, h.nb⟩⟩
theorem drA_drawn (bs : List Int) (p : Nat) : Drawn (drA bs p).1 := by
  unfold drA
  split
  · exact drawn_spl (drS_modest _) _ _
  · exact drawn_modest (drS_modest _)
theorem drF_bytes {cd : List Int} (hB : Bytes cd) : Bytes (drF cd).2 ∧ 0 < (drF cd).2.length ∧ (drF cd).2.length ≤ 300 := by
  unfold drF
  have hx := (rdN_is hB 0).2
  dsimp only
  split
  · refine ⟨?_, by simp, by simp; omega⟩
    intro n hn
    simp only [List.mem_append, List.mem_cons, List.not_mem_nil, or_false] at hn
    rcases hn with ((rfl | rfl) | h) | (rfl | rfl)
    · omega
    · omega
    · have := List.eq_of_mem_replicate h
      omega
    · omega
    · omega
  · have hz := strm_ok cd (drA cd (nxt cd 0)).2 (1 + rdN cd 0 % 24)
    exact ⟨hz.1, by omega, by omega⟩
def after (d : SD) (pss : List (List Int)) (i : Nat) : SD := if i = 0 then d else d.feed rowT (pss.take i).flatten
theorem after_step (d : SD) (pss : List (List Int)) (i : Nat) (hi : i < pss.length) : (after d pss i).feed rowT (pss.getD i []) = after d pss (i + 1) := by
  have e : (pss.take (i + 1)).flatten = (pss.take i).flatten ++ pss.getD i [] := by
    rw [List.take_add_one, List.flatten_append]
    simp [hi]
  unfold after
  rw [if_neg (show ¬ i + 1 = 0 by omega), e]
  by_cases h0 : i = 0
  · subst h0
    simp
  · rw [if_neg h0, feed_app]
theorem flatten_take_le (pss : List (List Int)) (i : Nat) : (pss.take i).flatten.length ≤ pss.flatten.length := by
  conv => rhs; rw [← List.take_append_drop i pss, List.flatten_append, List.length_append]
  omega
theorem after_modest {d : SD} (h : Modest d 1600 350) (pss : List (List Int)) (hb : Bytes pss.flatten) (hl : pss.flatten.length ≤ 300) (i : Nat) : Modest (after d pss i) 3000 700 := by
  unfold after
  split
  · exact ⟨h.ok, h.by', h.wt.mono (by omega), by have := h.nb; omega⟩
  · have hle := flatten_take_le pss i
    have hb2 : Bytes (pss.take i).flatten := by
      intro n hn
      refine hb n ?_
      rw [← List.take_append_drop i pss, List.flatten_append]
      exact List.mem_append_left _ hn
    exact h.feed (by omega) _ hb2 (by omega)
theorem piece_le (pss : List (List Int)) (i : Nat) (hi : i < pss.length) : (pss.getD i []).length ≤ pss.flatten.length ∧ ∀ n ∈ pss.getD i [], n ∈ pss.flatten := by
  have hm : pss.getD i [] ∈ pss := by
    rw [List.getD_eq_getElem?_getD, List.getElem?_eq_getElem hi]
    exact List.getElem_mem hi
  refine ⟨?_, fun n hn => List.mem_flatten.2 ⟨_, hm, hn⟩⟩
  have h1 := flatten_take_le pss (i + 1)
  have e : (pss.take (i + 1)).flatten = (pss.take i).flatten ++ pss.getD i [] := by
    rw [List.take_add_one, List.flatten_append]
    simp [hi]
  rw [e, List.length_append] at h1
  omega
end Go.Proofs.YtinfdhbnljnifaaGreatDoor
