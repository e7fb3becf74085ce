import Derived.Test.YtinfdhbnljnifaaGreatDoorFtD
namespace Go.Proofs.YtinfdhbnljnifaaGreatDoor
open Go.RowKit
theorem Fr.upon2 {S : Nat → Prop} {b : Nat} {w w1 w2 : World} (h2 : Fr (fun q => q = b) w1 w2) (h1 : Fr S w w1) (hb : ∀ q, q = b → w.heap.size ≤ q) : Fr S w w2 :=
  ⟨h2.os.trans h1.os, h2.tape.trans h1.tape, h2.output.trans h1.output, Nat.le_trans h1.size h2.size, fun i hi hS => (h2.block i (Nat.lt_of_lt_of_le hi h1.size) (fun e => by have := hb i e; omega)).trans (h1.block i hi hS)⟩
theorem owns_not_blk {w : World} {base p : Nat} {T T' : TypeId} {size n : Nat} {v : Value} {xs : List Value} {cs : Array Value} {z : Nat × Nat} (h : w.ownsRow base T size v n xs) (hb : w.heap[p]? = some (.cells cs T' z)) (hT : T ≠ T') : v.ownBlock ≠ some p := by
  intro e
  rcases h.2 with ⟨e3, _⟩ | ⟨g2, _, cur2, e3, _, hg2, _⟩
  · rw [e3] at e; simp [Value.ownBlock] at e
  · rw [e3] at e
    have e4 : g2 = p := by simpa [Value.ownBlock] using e
    subst e4
    rw [hb] at hg2
    simp at hg2
    exact hT hg2.2.1.symm
def SD.cutR (d : SD) (i0 : Nat) : SD := { d with C := fun i => if i = i0 then d.C i - 1 else d.C i, tx := fun i j => if i = i0 then d.tx i (j + 1) else d.tx i j, hf := fun i j => if i = i0 then d.hf i (j + 1) else d.hf i j }
def SD.spl (d : SD) (k v : Nat) : SD :=
  if k % 8 = 0 then { d with row := ((v % 9 : Nat) : Int) - 2 }
  else if k % 8 = 1 then { d with col := ((v % 14 : Nat) : Int) - 2 }
  else if k % 8 = 2 then { d with late := !d.late }
  else if k % 8 = 3 then d.setH (v % d.R) (v / 16 % d.cols.toNat)
  else if k % 8 = 4 then d.cutR (v % d.R)
  else if k % 8 = 5 then { d with rows := ((v % 9 : Nat) : Int) - 1 }
  else if k % 8 = 6 then { d with hold := d.hold ++ List.replicate (32 + v % 2) 48 }
  else d.setT (v % d.R) (v / 16 % d.cols.toNat) bz
set_option linter.unusedSimpArgs false in
set_option maxRecDepth 10000 in
set_option maxHeartbeats 4000000 in
theorem l2Spoil_0 (D : Nat) (rv0 : Value) (bs : List Int) (p0 p : Nat) (d : SD) (gv : Value) (rv : Nat → Value) (hv bv : Value) (w0 w : World) (h0 : RdAt w0 D rv0 bs p0) (hr : RdAt w D rv0 bs p) (f0 : Fr (fun k => k = D) w0 w) (ho : OwnFS w w0.heap.size d gv rv hv bv) (hk : OkP d) (hB : Bytes bs) (hl : bs.length ≤ 16777216) (x y : Nat) (hx : rdN bs p = x) (hy : rdN bs (nxt bs p) = y) (hc8 : x % 8 = 0) :
    Calls Tryz.prog 87 #[.pointer (some ⟨D, 0, none⟩), scrV d gv hv bv] w fun e w' => ∃ gv' hv' bv', e = .returned (scrV { d with row := ((y % 9 : Nat) : Int) - 2 } gv' hv' bv') ∧ (∀ W, Fr (fun q => q < w0.heap.size) w' W → ScrAt W { d with row := ((y % 9 : Nat) : Int) - 2 } gv' hv' bv') ∧ RdAt w' D rv0 bs (nxt bs (nxt bs p)) ∧ Fr (fun k => k = D) w0 w' := by
  obtain ⟨z, hz⟩ : ∃ z : Nat, z = y % 9 := ⟨_, rfl⟩
  have tz : (y : Int).tmod 9 = (z : Int) := by rw [hz]; exact tmod_nat y 9
  have hz9 : z ≤ 20 := by omega
  have wz : IntKind.i64.wrap ((z : Int) - 2) = (z : Int) - 2 := by rw [IntKind.wrap_i64] <;> omega
  rw [← hz]
  clear hz
  have hDw0 : D < w0.heap.size := lt_of_cell h0.1
  have hz0 := f0.size
  obtain ⟨gb, gk, gc, _, hgv, _⟩ := id ho.1.1
  obtain ⟨ha, hc, hhv⟩ := owns_ln ho.2.1
  obtain ⟨ba, bc, hbv⟩ : ∃ a c, bv = .slice a d.nb c := by obtain ⟨_, h9, _⟩ := ho.2.2; exact owns_ln h9
  subst hgv
  subst hhv
  subst hbv
  obtain ⟨hxI, hx255⟩ := rdN_is hB p
  obtain ⟨hyI, hy255⟩ := rdN_is hB (nxt bs p)
  rw [hx] at hxI hx255
  rw [hy] at hyI hy255
  have hb0 := sp_alloc w d (.slice (some ⟨gb, gk, none⟩) d.R gc) (.slice ha d.hold.length hc) (.slice ba d.nb bc)
  obtain ⟨V, hV⟩ : ∃ V, V = (w.alloc (.cells #[.int .i64 d.cols, .int .i64 d.rows, .slice (some ⟨gb, gk, none⟩) d.R gc, .int .i64 d.row, .int .i64 d.col, .bool d.late, .slice ha d.hold.length hc, .slice ba d.nb bc] 26)).alloc (.cells #[.int .i64 0, .int .i64 0, .slice none 0 0, .int .i64 0, .int .i64 0, .bool false, .slice none 0 0, .slice none 0 0] 26) := ⟨_, rfl⟩
  rw [← hV] at hb0
  have HN1 := hide (next_any D rv0 bs p V (hr.ext hb0.ext) hB hl)
  rw [hxI] at HN1
  have HVV := hide hV
  have HSP := hide hb0
  have H0 := hide h0
  have HF0 := hide f0
  have HO := hide ho
  have HK := hide hk
  have HYI := hide hyI
  clear h0 hr f0 ho hk hV hb0 hx hy hxI hyI
  unfold scrV
  go_enter Tryz.func87, Tryz.ntmps87
  go_wp2_with fail
  rw [← unhide HVV]
  clear HVV
  refine (unhide HN1).mono ?_
  rintro e w1 ⟨rfl, hr1, f1⟩
  rw [show (if p < bs.length then p + 1 else p) = nxt bs p from rfl] at hr1
  have HN2 := hide (next_any D rv0 bs (nxt bs p) w1 hr1 hB hl)
  rw [unhide HYI] at HN2
  have HF1 := hide f1
  clear HN1 hr1 f1
  go_wp2_with fail
  refine (unhide HN2).mono ?_
  rintro e w2 ⟨rfl, hr2, f2⟩
  rw [show (if nxt bs p < bs.length then nxt bs p + 1 else nxt bs p) = nxt bs (nxt bs p) from rfl] at hr2
  have f3 : Fr (fun k => k = D) V w2 := Fr.tr (unhide HF1) f2
  have hSB := f3.kept (unhide HSP).s (by omega)
  have hSZ := f3.kept (unhide HSP).z (by omega)
  have hF2 : Fr (fun k => k = D) w0 w2 := Fr.tr (unhide HF0) (Fr.tr (Fr.of_ext (unhide HSP).ext) f3)
  have hlow : ∀ g, SFoot d (.slice (some ⟨gb, gk, none⟩) d.R gc) rv (.slice ha d.hold.length hc) (.slice ba d.nb bc) g → w0.heap.size ≤ g ∧ g < w.heap.size := fun g hg => (unhide HO).foot hg
  have hO2 := ((unhide HO).ext (unhide HSP).ext).fr f3 (fun g hg e => by have := (hlow g hg).1; omega)
  have HLOW := hide hlow
  have HR2 := hide hr2
  have HSB := hide hSB
  have HSZ := hide hSZ
  have HF2 := hide hF2
  have HO2 := hide hO2
  have zw2 : w.heap.size + 1 < w2.heap.size := lt_of_block hSZ
  clear HN2 hr2 f2 f3 hSB hSZ hF2 hO2 HF1 HSP hlow
  have t8 : (x : Int).tmod 8 = 0 := by rw [show (x : Int).tmod 8 = _ from tmod_nat x 8, hc8]; rfl
  have c9 : w2.cell? ⟨w.heap.size, 3, none⟩ = some (.int .i64 d.row) := cells_of (unhide HSB) 3 _ rfl
  have c9f : w2.frozen? ⟨w.heap.size, 3, none⟩ = false := Lib.frozen_of_heap (unhide HSB) 3
  have fU : Fr (fun q => q = w.heap.size) w2 (w2.setCell ⟨w.heap.size, 3, none⟩ (.int .i64 ((z : Int) - 2))) := Fr.setCell (S := fun q => q = w.heap.size) (Fr.refl _ _) (a := ⟨w.heap.size, 3, none⟩) rfl _
  have HQB : Hid ((w2.setCell ⟨w.heap.size, 3, none⟩ (.int .i64 ((z : Int) - 2))).heap[w.heap.size]? = some (.cells #[.int .i64 d.cols, .int .i64 d.rows, .slice (some ⟨gb, gk, none⟩) d.R gc, .int .i64 ((z : Int) - 2), .int .i64 d.col, .bool d.late, .slice ha d.hold.length hc, .slice ba d.nb bc] 26 (0, 0))) := hide (set_blk2 (unhide HSB) rfl)
  have HQZ := hide (fU.kept (unhide HSZ) (by omega))
  have HFz : Hid (w0.heap.size ≤ w.heap.size) := hide hz0
  have HFU := hide (fU.upon2 (unhide HF2) (fun q hq => by omega))
  have HRU := hide ((unhide H0).keep (unhide HR2) (unhide HFU) (fU.block D (by omega) (by omega)))
  have HAT : Hid (∀ W, Fr (fun q => q = w.heap.size + 1 ∨ q < w0.heap.size) (w2.setCell ⟨w.heap.size, 3, none⟩ (.int .i64 ((z : Int) - 2))) W → ScrAt W d (.slice (some ⟨gb, gk, none⟩) d.R gc) (.slice ha d.hold.length hc) (.slice ba d.nb bc)) := hide (fun W hW => (((unhide HO2).fr fU (fun g hg e => by have := ((unhide HLOW) g hg).2; omega)).fr hW (fun g hg e => by have := (unhide HLOW) g hg; omega)).reads)
  clear fU
  go_wp2_with (first
    | (refine wpList_load_blk rfl 26 _ rfl w.heap.size rfl _ _ _ _ (unhide HQB) Tryz.underlying26 rfl infoScr8 ?_)
    | (refine wpList_store_blk rfl 26 _ _ rfl rfl (w.heap.size + 1) rfl _ _ _ rfl (unhide HQZ) infoScr8 rfl (by simp [Value.oneCell']) ?_; intro X HX9 hX9; have HXB := hide HX9; have HXF := hide hX9; clear HX9 hX9))
  have v0 := cells_of (unhide HXB) 0 _ rfl
  have v1 := cells_of (unhide HXB) 1 _ rfl
  have v2 := cells_of (unhide HXB) 2 _ rfl
  have v3 := cells_of (unhide HXB) 3 _ rfl
  have v4 := cells_of (unhide HXB) 4 _ rfl
  have v5 := cells_of (unhide HXB) 5 _ rfl
  have v6 := cells_of (unhide HXB) 6 _ rfl
  have v7 := cells_of (unhide HXB) 7 _ rfl
  have hz := unhide HFz
  have f9 : Fr (fun k => k = D) w0 X := (unhide HXF).upon2 (unhide HFU) (fun q hq => by omega)
  have r9 : RdAt X D rv0 bs (nxt bs (nxt bs p)) := (unhide H0).keep (unhide HRU) f9 ((unhide HXF).block D (by have := (unhide HFU).size; omega) (by omega))
  have a9 := fun W hW => (unhide HAT) W (Fr.tr ((unhide HXF).mono (fun q hq => .inl hq)) (Fr.mono hW (fun q hq => .inr hq)))
  exact bodyPost_ret (v := .agg #[.int .i64 d.cols, .int .i64 d.rows, .slice (some ⟨gb, gk, none⟩) d.R gc, .int .i64 ((z : Int) - 2), .int .i64 d.col, .bool d.late, .slice ha d.hold.length hc, .slice ba d.nb bc]) (by simp [results, Tryz.results87, go_sem, v0, v1, v2, v3, v4, v5, v6, v7]) rfl ⟨_, _, _, rfl, a9, r9, f9⟩
set_option linter.unusedSimpArgs false in
set_option maxRecDepth 10000 in
set_option maxHeartbeats 4000000 in
theorem l2Spoil_1 (D : Nat) (rv0 : Value) (bs : List Int) (p0 p : Nat) (d : SD) (gv : Value) (rv : Nat → Value) (hv bv : Value) (w0 w : World) (h0 : RdAt w0 D rv0 bs p0) (hr : RdAt w D rv0 bs p) (f0 : Fr (fun k => k = D) w0 w) (ho : OwnFS w w0.heap.size d gv rv hv bv) (hk : OkP d) (hB : Bytes bs) (hl : bs.length ≤ 16777216) (x y : Nat) (hx : rdN bs p = x) (hy : rdN bs (nxt bs p) = y) (hc8 : x % 8 = 1) :
    Calls Tryz.prog 87 #[.pointer (some ⟨D, 0, none⟩), scrV d gv hv bv] w fun e w' => ∃ gv' hv' bv', e = .returned (scrV { d with col := ((y % 14 : Nat) : Int) - 2 } gv' hv' bv') ∧ (∀ W, Fr (fun q => q < w0.heap.size) w' W → ScrAt W { d with col := ((y % 14 : Nat) : Int) - 2 } gv' hv' bv') ∧ RdAt w' D rv0 bs (nxt bs (nxt bs p)) ∧ Fr (fun k => k = D) w0 w' := by
  obtain ⟨z, hz⟩ : ∃ z : Nat, z = y % 14 := ⟨_, rfl⟩
  have tz : (y : Int).tmod 14 = (z : Int) := by rw [hz]; exact tmod_nat y 14
  have hz9 : z ≤ 20 := by omega
  have wz : IntKind.i64.wrap ((z : Int) - 2) = (z : Int) - 2 := by rw [IntKind.wrap_i64] <;> omega
  rw [← hz]
  clear hz
  have hDw0 : D < w0.heap.size := lt_of_cell h0.1
  have hz0 := f0.size
  obtain ⟨gb, gk, gc, _, hgv, _⟩ := id ho.1.1
  obtain ⟨ha, hc, hhv⟩ := owns_ln ho.2.1
  obtain ⟨ba, bc, hbv⟩ : ∃ a c, bv = .slice a d.nb c := by obtain ⟨_, h9, _⟩ := ho.2.2; exact owns_ln h9
  subst hgv
  subst hhv
  subst hbv
  obtain ⟨hxI, hx255⟩ := rdN_is hB p
  obtain ⟨hyI, hy255⟩ := rdN_is hB (nxt bs p)
  rw [hx] at hxI hx255
  rw [hy] at hyI hy255
  have hb0 := sp_alloc w d (.slice (some ⟨gb, gk, none⟩) d.R gc) (.slice ha d.hold.length hc) (.slice ba d.nb bc)
  obtain ⟨V, hV⟩ : ∃ V, V = (w.alloc (.cells #[.int .i64 d.cols, .int .i64 d.rows, .slice (some ⟨gb, gk, none⟩) d.R gc, .int .i64 d.row, .int .i64 d.col, .bool d.late, .slice ha d.hold.length hc, .slice ba d.nb bc] 26)).alloc (.cells #[.int .i64 0, .int .i64 0, .slice none 0 0, .int .i64 0, .int .i64 0, .bool false, .slice none 0 0, .slice none 0 0] 26) := ⟨_, rfl⟩
  rw [← hV] at hb0
  have HN1 := hide (next_any D rv0 bs p V (hr.ext hb0.ext) hB hl)
  rw [hxI] at HN1
  have HVV := hide hV
  have HSP := hide hb0
  have H0 := hide h0
  have HF0 := hide f0
  have HO := hide ho
  have HK := hide hk
  have HYI := hide hyI
  clear h0 hr f0 ho hk hV hb0 hx hy hxI hyI
  unfold scrV
  go_enter Tryz.func87, Tryz.ntmps87
  go_wp2_with fail
  rw [← unhide HVV]
  clear HVV
  refine (unhide HN1).mono ?_
  rintro e w1 ⟨rfl, hr1, f1⟩
  rw [show (if p < bs.length then p + 1 else p) = nxt bs p from rfl] at hr1
  have HN2 := hide (next_any D rv0 bs (nxt bs p) w1 hr1 hB hl)
  rw [unhide HYI] at HN2
  have HF1 := hide f1
  clear HN1 hr1 f1
  go_wp2_with fail
  refine (unhide HN2).mono ?_
  rintro e w2 ⟨rfl, hr2, f2⟩
  rw [show (if nxt bs p < bs.length then nxt bs p + 1 else nxt bs p) = nxt bs (nxt bs p) from rfl] at hr2
  have f3 : Fr (fun k => k = D) V w2 := Fr.tr (unhide HF1) f2
  have hSB := f3.kept (unhide HSP).s (by omega)
  have hSZ := f3.kept (unhide HSP).z (by omega)
  have hF2 : Fr (fun k => k = D) w0 w2 := Fr.tr (unhide HF0) (Fr.tr (Fr.of_ext (unhide HSP).ext) f3)
  have hlow : ∀ g, SFoot d (.slice (some ⟨gb, gk, none⟩) d.R gc) rv (.slice ha d.hold.length hc) (.slice ba d.nb bc) g → w0.heap.size ≤ g ∧ g < w.heap.size := fun g hg => (unhide HO).foot hg
  have hO2 := ((unhide HO).ext (unhide HSP).ext).fr f3 (fun g hg e => by have := (hlow g hg).1; omega)
  have HLOW := hide hlow
  have HR2 := hide hr2
  have HSB := hide hSB
  have HSZ := hide hSZ
  have HF2 := hide hF2
  have HO2 := hide hO2
  have zw2 : w.heap.size + 1 < w2.heap.size := lt_of_block hSZ
  clear HN2 hr2 f2 f3 hSB hSZ hF2 hO2 HF1 HSP hlow
  have t8 : (x : Int).tmod 8 = 1 := by rw [show (x : Int).tmod 8 = _ from tmod_nat x 8, hc8]; rfl
  have c9 : w2.cell? ⟨w.heap.size, 4, none⟩ = some (.int .i64 d.col) := cells_of (unhide HSB) 4 _ rfl
  have c9f : w2.frozen? ⟨w.heap.size, 4, none⟩ = false := Lib.frozen_of_heap (unhide HSB) 4
  have fU : Fr (fun q => q = w.heap.size) w2 (w2.setCell ⟨w.heap.size, 4, none⟩ (.int .i64 ((z : Int) - 2))) := Fr.setCell (S := fun q => q = w.heap.size) (Fr.refl _ _) (a := ⟨w.heap.size, 4, none⟩) rfl _
  have HQB : Hid ((w2.setCell ⟨w.heap.size, 4, none⟩ (.int .i64 ((z : Int) - 2))).heap[w.heap.size]? = some (.cells #[.int .i64 d.cols, .int .i64 d.rows, .slice (some ⟨gb, gk, none⟩) d.R gc, .int .i64 d.row, .int .i64 ((z : Int) - 2), .bool d.late, .slice ha d.hold.length hc, .slice ba d.nb bc] 26 (0, 0))) := hide (set_blk2 (unhide HSB) rfl)
  have HQZ := hide (fU.kept (unhide HSZ) (by omega))
  have HFz : Hid (w0.heap.size ≤ w.heap.size) := hide hz0
  have HFU := hide (fU.upon2 (unhide HF2) (fun q hq => by omega))
  have HRU := hide ((unhide H0).keep (unhide HR2) (unhide HFU) (fU.block D (by omega) (by omega)))
  have HAT : Hid (∀ W, Fr (fun q => q = w.heap.size + 1 ∨ q < w0.heap.size) (w2.setCell ⟨w.heap.size, 4, none⟩ (.int .i64 ((z : Int) - 2))) W → ScrAt W d (.slice (some ⟨gb, gk, none⟩) d.R gc) (.slice ha d.hold.length hc) (.slice ba d.nb bc)) := hide (fun W hW => (((unhide HO2).fr fU (fun g hg e => by have := ((unhide HLOW) g hg).2; omega)).fr hW (fun g hg e => by have := (unhide HLOW) g hg; omega)).reads)
  clear fU
  go_wp2_with (first
    | (refine wpList_load_blk rfl 26 _ rfl w.heap.size rfl _ _ _ _ (unhide HQB) Tryz.underlying26 rfl infoScr8 ?_)
    | (refine wpList_store_blk rfl 26 _ _ rfl rfl (w.heap.size + 1) rfl _ _ _ rfl (unhide HQZ) infoScr8 rfl (by simp [Value.oneCell']) ?_; intro X HX9 hX9; have HXB := hide HX9; have HXF := hide hX9; clear HX9 hX9))
  have v0 := cells_of (unhide HXB) 0 _ rfl
  have v1 := cells_of (unhide HXB) 1 _ rfl
  have v2 := cells_of (unhide HXB) 2 _ rfl
  have v3 := cells_of (unhide HXB) 3 _ rfl
  have v4 := cells_of (unhide HXB) 4 _ rfl
  have v5 := cells_of (unhide HXB) 5 _ rfl
  have v6 := cells_of (unhide HXB) 6 _ rfl
  have v7 := cells_of (unhide HXB) 7 _ rfl
  have hz := unhide HFz
  have f9 : Fr (fun k => k = D) w0 X := (unhide HXF).upon2 (unhide HFU) (fun q hq => by omega)
  have r9 : RdAt X D rv0 bs (nxt bs (nxt bs p)) := (unhide H0).keep (unhide HRU) f9 ((unhide HXF).block D (by have := (unhide HFU).size; omega) (by omega))
  have a9 := fun W hW => (unhide HAT) W (Fr.tr ((unhide HXF).mono (fun q hq => .inl hq)) (Fr.mono hW (fun q hq => .inr hq)))
  exact bodyPost_ret (v := .agg #[.int .i64 d.cols, .int .i64 d.rows, .slice (some ⟨gb, gk, none⟩) d.R gc, .int .i64 d.row, .int .i64 ((z : Int) - 2), .bool d.late, .slice ha d.hold.length hc, .slice ba d.nb bc]) (by simp [results, Tryz.results87, go_sem, v0, v1, v2, v3, v4, v5, v6, v7]) rfl ⟨_, _, _, rfl, a9, r9, f9⟩
set_option linter.unusedSimpArgs false in
set_option maxRecDepth 10000 in
set_option maxHeartbeats 4000000 in
theorem l2Spoil_2 (D : Nat) (rv0 : Value) (bs : List Int) (p0 p : Nat) (d : SD) (gv : Value) (rv : Nat → Value) (hv bv : Value) (w0 w : World) (h0 : RdAt w0 D rv0 bs p0) (hr : RdAt w D rv0 bs p) (f0 : Fr (fun k => k = D) w0 w) (ho : OwnFS w w0.heap.size d gv rv hv bv) (hk : OkP d) (hB : Bytes bs) (hl : bs.length ≤ 16777216) (x y : Nat) (hx : rdN bs p = x) (hy : rdN bs (nxt bs p) = y) (hc8 : x % 8 = 2) :
    Calls Tryz.prog 87 #[.pointer (some ⟨D, 0, none⟩), scrV d gv hv bv] w fun e w' => ∃ gv' hv' bv', e = .returned (scrV { d with late := !d.late } gv' hv' bv') ∧ (∀ W, Fr (fun q => q < w0.heap.size) w' W → ScrAt W { d with late := !d.late } gv' hv' bv') ∧ RdAt w' D rv0 bs (nxt bs (nxt bs p)) ∧ Fr (fun k => k = D) w0 w' := by
  have hDw0 : D < w0.heap.size := lt_of_cell h0.1
  have hz0 := f0.size
  obtain ⟨gb, gk, gc, _, hgv, _⟩ := id ho.1.1
  obtain ⟨ha, hc, hhv⟩ := owns_ln ho.2.1
  obtain ⟨ba, bc, hbv⟩ : ∃ a c, bv = .slice a d.nb c := by obtain ⟨_, h9, _⟩ := ho.2.2; exact owns_ln h9
  subst hgv
  subst hhv
  subst hbv
  obtain ⟨hxI, hx255⟩ := rdN_is hB p
  obtain ⟨hyI, hy255⟩ := rdN_is hB (nxt bs p)
  rw [hx] at hxI hx255
  rw [hy] at hyI hy255
  have hb0 := sp_alloc w d (.slice (some ⟨gb, gk, none⟩) d.R gc) (.slice ha d.hold.length hc) (.slice ba d.nb bc)
  obtain ⟨V, hV⟩ : ∃ V, V = (w.alloc (.cells #[.int .i64 d.cols, .int .i64 d.rows, .slice (some ⟨gb, gk, none⟩) d.R gc, .int .i64 d.row, .int .i64 d.col, .bool d.late, .slice ha d.hold.length hc, .slice ba d.nb bc] 26)).alloc (.cells #[.int .i64 0, .int .i64 0, .slice none 0 0, .int .i64 0, .int .i64 0, .bool false, .slice none 0 0, .slice none 0 0] 26) := ⟨_, rfl⟩
  rw [← hV] at hb0
  have HN1 := hide (next_any D rv0 bs p V (hr.ext hb0.ext) hB hl)
  rw [hxI] at HN1
  have HVV := hide hV
  have HSP := hide hb0
  have H0 := hide h0
  have HF0 := hide f0
  have HO := hide ho
  have HK := hide hk
  have HYI := hide hyI
  clear h0 hr f0 ho hk hV hb0 hx hy hxI hyI
  unfold scrV
  go_enter Tryz.func87, Tryz.ntmps87
  go_wp2_with fail
  rw [← unhide HVV]
  clear HVV
  refine (unhide HN1).mono ?_
  rintro e w1 ⟨rfl, hr1, f1⟩
  rw [show (if p < bs.length then p + 1 else p) = nxt bs p from rfl] at hr1
  have HN2 := hide (next_any D rv0 bs (nxt bs p) w1 hr1 hB hl)
  rw [unhide HYI] at HN2
  have HF1 := hide f1
  clear HN1 hr1 f1
  go_wp2_with fail
  refine (unhide HN2).mono ?_
  rintro e w2 ⟨rfl, hr2, f2⟩
  rw [show (if nxt bs p < bs.length then nxt bs p + 1 else nxt bs p) = nxt bs (nxt bs p) from rfl] at hr2
  have f3 : Fr (fun k => k = D) V w2 := Fr.tr (unhide HF1) f2
  have hSB := f3.kept (unhide HSP).s (by omega)
  have hSZ := f3.kept (unhide HSP).z (by omega)
  have hF2 : Fr (fun k => k = D) w0 w2 := Fr.tr (unhide HF0) (Fr.tr (Fr.of_ext (unhide HSP).ext) f3)
  have hlow : ∀ g, SFoot d (.slice (some ⟨gb, gk, none⟩) d.R gc) rv (.slice ha d.hold.length hc) (.slice ba d.nb bc) g → w0.heap.size ≤ g ∧ g < w.heap.size := fun g hg => (unhide HO).foot hg
  have hO2 := ((unhide HO).ext (unhide HSP).ext).fr f3 (fun g hg e => by have := (hlow g hg).1; omega)
  have HLOW := hide hlow
  have HR2 := hide hr2
  have HSB := hide hSB
  have HSZ := hide hSZ
  have HF2 := hide hF2
  have HO2 := hide hO2
  have zw2 : w.heap.size + 1 < w2.heap.size := lt_of_block hSZ
  clear HN2 hr2 f2 f3 hSB hSZ hF2 hO2 HF1 HSP hlow
  have t8 : (x : Int).tmod 8 = 2 := by rw [show (x : Int).tmod 8 = _ from tmod_nat x 8, hc8]; rfl
  have c9 : w2.cell? ⟨w.heap.size, 5, none⟩ = some (.bool d.late) := cells_of (unhide HSB) 5 _ rfl
  have c9f : w2.frozen? ⟨w.heap.size, 5, none⟩ = false := Lib.frozen_of_heap (unhide HSB) 5
  have fU : Fr (fun q => q = w.heap.size) w2 (w2.setCell ⟨w.heap.size, 5, none⟩ (.bool (!d.late))) := Fr.setCell (S := fun q => q = w.heap.size) (Fr.refl _ _) (a := ⟨w.heap.size, 5, none⟩) rfl _
  have HQB : Hid ((w2.setCell ⟨w.heap.size, 5, none⟩ (.bool (!d.late))).heap[w.heap.size]? = some (.cells #[.int .i64 d.cols, .int .i64 d.rows, .slice (some ⟨gb, gk, none⟩) d.R gc, .int .i64 d.row, .int .i64 d.col, .bool (!d.late), .slice ha d.hold.length hc, .slice ba d.nb bc] 26 (0, 0))) := hide (set_blk2 (unhide HSB) rfl)
  have HQZ := hide (fU.kept (unhide HSZ) (by omega))
  have HFz : Hid (w0.heap.size ≤ w.heap.size) := hide hz0
  have HFU := hide (fU.upon2 (unhide HF2) (fun q hq => by omega))
  have HRU := hide ((unhide H0).keep (unhide HR2) (unhide HFU) (fU.block D (by omega) (by omega)))
  have HAT : Hid (∀ W, Fr (fun q => q = w.heap.size + 1 ∨ q < w0.heap.size) (w2.setCell ⟨w.heap.size, 5, none⟩ (.bool (!d.late))) W → ScrAt W d (.slice (some ⟨gb, gk, none⟩) d.R gc) (.slice ha d.hold.length hc) (.slice ba d.nb bc)) := hide (fun W hW => (((unhide HO2).fr fU (fun g hg e => by have := ((unhide HLOW) g hg).2; omega)).fr hW (fun g hg e => by have := (unhide HLOW) g hg; omega)).reads)
  clear fU
  go_wp2_with (first
    | (refine wpList_load_blk rfl 26 _ rfl w.heap.size rfl _ _ _ _ (unhide HQB) Tryz.underlying26 rfl infoScr8 ?_)
    | (refine wpList_store_blk rfl 26 _ _ rfl rfl (w.heap.size + 1) rfl _ _ _ rfl (unhide HQZ) infoScr8 rfl (by simp [Value.oneCell']) ?_; intro X HX9 hX9; have HXB := hide HX9; have HXF := hide hX9; clear HX9 hX9))
  have v0 := cells_of (unhide HXB) 0 _ rfl
  have v1 := cells_of (unhide HXB) 1 _ rfl
  have v2 := cells_of (unhide HXB) 2 _ rfl
  have v3 := cells_of (unhide HXB) 3 _ rfl
  have v4 := cells_of (unhide HXB) 4 _ rfl
  have v5 := cells_of (unhide HXB) 5 _ rfl
  have v6 := cells_of (unhide HXB) 6 _ rfl
  have v7 := cells_of (unhide HXB) 7 _ rfl
  have hz := unhide HFz
  have f9 : Fr (fun k => k = D) w0 X := (unhide HXF).upon2 (unhide HFU) (fun q hq => by omega)
  have r9 : RdAt X D rv0 bs (nxt bs (nxt bs p)) := (unhide H0).keep (unhide HRU) f9 ((unhide HXF).block D (by have := (unhide HFU).size; omega) (by omega))
  have a9 := fun W hW => (unhide HAT) W (Fr.tr ((unhide HXF).mono (fun q hq => .inl hq)) (Fr.mono hW (fun q hq => .inr hq)))
  exact bodyPost_ret (v := .agg #[.int .i64 d.cols, .int .i64 d.rows, .slice (some ⟨gb, gk, none⟩) d.R gc, .int .i64 d.row, .int .i64 d.col, .bool (!d.late), .slice ha d.hold.length hc, .slice ba d.nb bc]) (by simp [results, Tryz.results87, go_sem, v0, v1, v2, v3, v4, v5, v6, v7]) rfl ⟨_, _, _, rfl, a9, r9, f9⟩
set_option linter.unusedSimpArgs false in
set_option maxRecDepth 10000 in
set_option maxHeartbeats 4000000 in
theorem l2Spoil_5 (D : Nat) (rv0 : Value) (bs : List Int) (p0 p : Nat) (d : SD) (gv : Value) (rv : Nat → Value) (hv bv : Value) (w0 w : World) (h0 : RdAt w0 D rv0 bs p0) (hr : RdAt w D rv0 bs p) (f0 : Fr (fun k => k = D) w0 w) (ho : OwnFS w w0.heap.size d gv rv hv bv) (hk : OkP d) (hB : Bytes bs) (hl : bs.length ≤ 16777216) (x y : Nat) (hx : rdN bs p = x) (hy : rdN bs (nxt bs p) = y) (hc8 : x % 8 = 5) :
    Calls Tryz.prog 87 #[.pointer (some ⟨D, 0, none⟩), scrV d gv hv bv] w fun e w' => ∃ gv' hv' bv', e = .returned (scrV { d with rows := ((y % 9 : Nat) : Int) - 1 } gv' hv' bv') ∧ (∀ W, Fr (fun q => q < w0.heap.size) w' W → ScrAt W { d with rows := ((y % 9 : Nat) : Int) - 1 } gv' hv' bv') ∧ RdAt w' D rv0 bs (nxt bs (nxt bs p)) ∧ Fr (fun k => k = D) w0 w' := by
  obtain ⟨z, hz⟩ : ∃ z : Nat, z = y % 9 := ⟨_, rfl⟩
  have tz : (y : Int).tmod 9 = (z : Int) := by rw [hz]; exact tmod_nat y 9
  have hz9 : z ≤ 20 := by omega
  have wz : IntKind.i64.wrap ((z : Int) - 1) = (z : Int) - 1 := by rw [IntKind.wrap_i64] <;> omega
  rw [← hz]
  clear hz
  have hDw0 : D < w0.heap.size := lt_of_cell h0.1
  have hz0 := f0.size
  obtain ⟨gb, gk, gc, _, hgv, _⟩ := id ho.1.1
  obtain ⟨ha, hc, hhv⟩ := owns_ln ho.2.1
  obtain ⟨ba, bc, hbv⟩ : ∃ a c, bv = .slice a d.nb c := by obtain ⟨_, h9, _⟩ := ho.2.2; exact owns_ln h9
  subst hgv
  subst hhv
  subst hbv
  obtain ⟨hxI, hx255⟩ := rdN_is hB p
  obtain ⟨hyI, hy255⟩ := rdN_is hB (nxt bs p)
  rw [hx] at hxI hx255
  rw [hy] at hyI hy255
  have hb0 := sp_alloc w d (.slice (some ⟨gb, gk, none⟩) d.R gc) (.slice ha d.hold.length hc) (.slice ba d.nb bc)
  obtain ⟨V, hV⟩ : ∃ V, V = (w.alloc (.cells #[.int .i64 d.cols, .int .i64 d.rows, .slice (some ⟨gb, gk, none⟩) d.R gc, .int .i64 d.row, .int .i64 d.col, .bool d.late, .slice ha d.hold.length hc, .slice ba d.nb bc] 26)).alloc (.cells #[.int .i64 0, .int .i64 0, .slice none 0 0, .int .i64 0, .int .i64 0, .bool false, .slice none 0 0, .slice none 0 0] 26) := ⟨_, rfl⟩
  rw [← hV] at hb0
  have HN1 := hide (next_any D rv0 bs p V (hr.ext hb0.ext) hB hl)
  rw [hxI] at HN1
  have HVV := hide hV
  have HSP := hide hb0
  have H0 := hide h0
  have HF0 := hide f0
  have HO := hide ho
  have HK := hide hk
  have HYI := hide hyI
  clear h0 hr f0 ho hk hV hb0 hx hy hxI hyI
  unfold scrV
  go_enter Tryz.func87, Tryz.ntmps87
  go_wp2_with fail
  rw [← unhide HVV]
  clear HVV
  refine (unhide HN1).mono ?_
  rintro e w1 ⟨rfl, hr1, f1⟩
  rw [show (if p < bs.length then p + 1 else p) = nxt bs p from rfl] at hr1
  have HN2 := hide (next_any D rv0 bs (nxt bs p) w1 hr1 hB hl)
  rw [unhide HYI] at HN2
  have HF1 := hide f1
  clear HN1 hr1 f1
  go_wp2_with fail
  refine (unhide HN2).mono ?_
  rintro e w2 ⟨rfl, hr2, f2⟩
  rw [show (if nxt bs p < bs.length then nxt bs p + 1 else nxt bs p) = nxt bs (nxt bs p) from rfl] at hr2
  have f3 : Fr (fun k => k = D) V w2 := Fr.tr (unhide HF1) f2
  have hSB := f3.kept (unhide HSP).s (by omega)
  have hSZ := f3.kept (unhide HSP).z (by omega)
  have hF2 : Fr (fun k => k = D) w0 w2 := Fr.tr (unhide HF0) (Fr.tr (Fr.of_ext (unhide HSP).ext) f3)
  have hlow : ∀ g, SFoot d (.slice (some ⟨gb, gk, none⟩) d.R gc) rv (.slice ha d.hold.length hc) (.slice ba d.nb bc) g → w0.heap.size ≤ g ∧ g < w.heap.size := fun g hg => (unhide HO).foot hg
  have hO2 := ((unhide HO).ext (unhide HSP).ext).fr f3 (fun g hg e => by have := (hlow g hg).1; omega)
  have HLOW := hide hlow
  have HR2 := hide hr2
  have HSB := hide hSB
  have HSZ := hide hSZ
  have HF2 := hide hF2
  have HO2 := hide hO2
  have zw2 : w.heap.size + 1 < w2.heap.size := lt_of_block hSZ
  clear HN2 hr2 f2 f3 hSB hSZ hF2 hO2 HF1 HSP hlow
  have t8 : (x : Int).tmod 8 = 5 := by rw [show (x : Int).tmod 8 = _ from tmod_nat x 8, hc8]; rfl
  have c9 : w2.cell? ⟨w.heap.size, 1, none⟩ = some (.int .i64 d.rows) := cells_of (unhide HSB) 1 _ rfl
  have c9f : w2.frozen? ⟨w.heap.size, 1, none⟩ = false := Lib.frozen_of_heap (unhide HSB) 1
  have fU : Fr (fun q => q = w.heap.size) w2 (w2.setCell ⟨w.heap.size, 1, none⟩ (.int .i64 ((z : Int) - 1))) := Fr.setCell (S := fun q => q = w.heap.size) (Fr.refl _ _) (a := ⟨w.heap.size, 1, none⟩) rfl _
  have HQB : Hid ((w2.setCell ⟨w.heap.size, 1, none⟩ (.int .i64 ((z : Int) - 1))).heap[w.heap.size]? = some (.cells #[.int .i64 d.cols, .int .i64 ((z : Int) - 1), .slice (some ⟨gb, gk, none⟩) d.R gc, .int .i64 d.row, .int .i64 d.col, .bool d.late, .slice ha d.hold.length hc, .slice ba d.nb bc] 26 (0, 0))) := hide (set_blk2 (unhide HSB) rfl)
  have HQZ := hide (fU.kept (unhide HSZ) (by omega))
  have HFz : Hid (w0.heap.size ≤ w.heap.size) := hide hz0
  have HFU := hide (fU.upon2 (unhide HF2) (fun q hq => by omega))
  have HRU := hide ((unhide H0).keep (unhide HR2) (unhide HFU) (fU.block D (by omega) (by omega)))
  have HAT : Hid (∀ W, Fr (fun q => q = w.heap.size + 1 ∨ q < w0.heap.size) (w2.setCell ⟨w.heap.size, 1, none⟩ (.int .i64 ((z : Int) - 1))) W → ScrAt W d (.slice (some ⟨gb, gk, none⟩) d.R gc) (.slice ha d.hold.length hc) (.slice ba d.nb bc)) := hide (fun W hW => (((unhide HO2).fr fU (fun g hg e => by have := ((unhide HLOW) g hg).2; omega)).fr hW (fun g hg e => by have := (unhide HLOW) g hg; omega)).reads)
  clear fU
  go_wp2_with (first
    | (refine wpList_load_blk rfl 26 _ rfl w.heap.size rfl _ _ _ _ (unhide HQB) Tryz.underlying26 rfl infoScr8 ?_)
    | (refine wpList_store_blk rfl 26 _ _ rfl rfl (w.heap.size + 1) rfl _ _ _ rfl (unhide HQZ) infoScr8 rfl (by simp [Value.oneCell']) ?_; intro X HX9 hX9; have HXB := hide HX9; have HXF := hide hX9; clear HX9 hX9))
  have v0 := cells_of (unhide HXB) 0 _ rfl
  have v1 := cells_of (unhide HXB) 1 _ rfl
  have v2 := cells_of (unhide HXB) 2 _ rfl
  have v3 := cells_of (unhide HXB) 3 _ rfl
  have v4 := cells_of (unhide HXB) 4 _ rfl
  have v5 := cells_of (unhide HXB) 5 _ rfl
  have v6 := cells_of (unhide HXB) 6 _ rfl
  have v7 := cells_of (unhide HXB) 7 _ rfl
  have hz := unhide HFz
  have f9 : Fr (fun k => k = D) w0 X := (unhide HXF).upon2 (unhide HFU) (fun q hq => by omega)
  have r9 : RdAt X D rv0 bs (nxt bs (nxt bs p)) := (unhide H0).keep (unhide HRU) f9 ((unhide HXF).block D (by have := (unhide HFU).size; omega) (by omega))
  have a9 := fun W hW => (unhide HAT) W (Fr.tr ((unhide HXF).mono (fun q hq => .inl hq)) (Fr.mono hW (fun q hq => .inr hq)))
  exact bodyPost_ret (v := .agg #[.int .i64 d.cols, .int .i64 ((z : Int) - 1), .slice (some ⟨gb, gk, none⟩) d.R gc, .int .i64 d.row, .int .i64 d.col, .bool d.late, .slice ha d.hold.length hc, .slice ba d.nb bc]) (by simp [results, Tryz.results87, go_sem, v0, v1, v2, v3, v4, v5, v6, v7]) rfl ⟨_, _, _, rfl, a9, r9, f9⟩
set_option linter.unusedSimpArgs false in
set_option maxRecDepth 10000 in
set_option maxHeartbeats 4000000 in
theorem l2Spoil_3 (D : Nat) (rv0 : Value) (bs : List Int) (p0 p : Nat) (d : SD) (gv : Value) (rv : Nat → Value) (hv bv : Value) (w0 w : World) (h0 : RdAt w0 D rv0 bs p0) (hr : RdAt w D rv0 bs p) (f0 : Fr (fun k => k = D) w0 w) (ho : OwnFS w w0.heap.size d gv rv hv bv) (hk : OkP d) (hB : Bytes bs) (hl : bs.length ≤ 16777216) (x y : Nat) (hx : rdN bs p = x) (hy : rdN bs (nxt bs p) = y) (hc8 : x % 8 = 3) :
    Calls Tryz.prog 87 #[.pointer (some ⟨D, 0, none⟩), scrV d gv hv bv] w fun e w' => ∃ gv' hv' bv', e = .returned (scrV (d.setH (y % d.R) (y / 16 % d.cols.toNat)) gv' hv' bv') ∧ (∀ W, Fr (fun q => q < w0.heap.size) w' W → ScrAt W (d.setH (y % d.R) (y / 16 % d.cols.toNat)) gv' hv' bv') ∧ RdAt w' D rv0 bs (nxt bs (nxt bs p)) ∧ Fr (fun k => k = D) w0 w' := by
  have hsz := size_bd hk
  have hR := hk.R
  obtain ⟨i, hi⟩ : ∃ i : Nat, i = y % d.R := ⟨_, rfl⟩
  obtain ⟨c, ec⟩ : ∃ c : Nat, d.cols = c := ⟨d.cols.toNat, by omega⟩
  obtain ⟨q, hq⟩ : ∃ q : Nat, q = y / 16 := ⟨_, rfl⟩
  obtain ⟨j, hj⟩ : ∃ j : Nat, j = q % c := ⟨_, rfl⟩
  rw [← hi, ← hq, show d.cols.toNat = c by omega, ← hj]
  have hRp : 0 < d.R := by omega
  have hcp : 0 < c := by omega
  have hiR : i < d.R := by rw [hi]; exact Nat.mod_lt _ hRp
  have hjc : j < c := by rw [hj]; exact Nat.mod_lt _ hcp
  have ti : (y : Int).tmod (d.R : Int) = (i : Int) := by rw [hi]; exact tmod_nat y d.R
  have tq : (y : Int).tdiv 16 = (q : Int) := by rw [hq]; exact tdiv_nat y 16
  have tj : (q : Int).tmod (c : Int) = (j : Int) := by rw [hj]; exact tmod_nat q c
  have tj2 : (q : Int) % (c : Int) = (j : Int) := by rw [hj]; rfl
  have tq2 : (y : Int) / 16 = (q : Int) := by omega
  have hCi : d.C i = c := by have := hk.C i hiR; omega
  have hyle : y ≤ 255 := by rw [← hy]; exact (rdN_is hB _).2
  have hq9 : q ≤ 15 := by omega
  have wq : IntKind.i64.wrap (q : Int) = (q : Int) := by rw [IntKind.wrap_i64] <;> omega
  have hc9 : c ≤ 200 := by omega
  have hR9 : d.R ≤ 100 := by omega
  have hER := hide (show d.rows = (d.R : Int) from hR.symm)
  have hEC := hide ec
  clear hi hq hj hR ec hsz
  have hDw0 : D < w0.heap.size := lt_of_cell h0.1
  have hz0 := f0.size
  obtain ⟨gb, gk, gc, _, hgv, _⟩ := id ho.1.1
  obtain ⟨ha, hc, hhv⟩ := owns_ln ho.2.1
  obtain ⟨ba, bc, hbv⟩ : ∃ a c, bv = .slice a d.nb c := by obtain ⟨_, h9, _⟩ := ho.2.2; exact owns_ln h9
  subst hgv
  subst hhv
  subst hbv
  obtain ⟨hxI, hx255⟩ := rdN_is hB p
  obtain ⟨hyI, hy255⟩ := rdN_is hB (nxt bs p)
  rw [hx] at hxI hx255
  rw [hy] at hyI hy255
  have hb0 := sp_alloc w d (.slice (some ⟨gb, gk, none⟩) d.R gc) (.slice ha d.hold.length hc) (.slice ba d.nb bc)
  obtain ⟨V, hV⟩ : ∃ V, V = (w.alloc (.cells #[.int .i64 d.cols, .int .i64 d.rows, .slice (some ⟨gb, gk, none⟩) d.R gc, .int .i64 d.row, .int .i64 d.col, .bool d.late, .slice ha d.hold.length hc, .slice ba d.nb bc] 26)).alloc (.cells #[.int .i64 0, .int .i64 0, .slice none 0 0, .int .i64 0, .int .i64 0, .bool false, .slice none 0 0, .slice none 0 0] 26) := ⟨_, rfl⟩
  rw [← hV] at hb0
  have HN1 := hide (next_any D rv0 bs p V (hr.ext hb0.ext) hB hl)
  rw [hxI] at HN1
  have HVV := hide hV
  have HSP := hide hb0
  have H0 := hide h0
  have HF0 := hide f0
  have HO := hide ho
  have HK := hide hk
  have HYI := hide hyI
  clear h0 hr f0 ho hk hV hb0 hx hy hxI hyI
  unfold scrV
  go_enter Tryz.func87, Tryz.ntmps87
  go_wp2_with fail
  rw [← unhide HVV]
  clear HVV
  refine (unhide HN1).mono ?_
  rintro e w1 ⟨rfl, hr1, f1⟩
  rw [show (if p < bs.length then p + 1 else p) = nxt bs p from rfl] at hr1
  have HN2 := hide (next_any D rv0 bs (nxt bs p) w1 hr1 hB hl)
  rw [unhide HYI] at HN2
  have HF1 := hide f1
  clear HN1 hr1 f1
  go_wp2_with fail
  refine (unhide HN2).mono ?_
  rintro e w2 ⟨rfl, hr2, f2⟩
  rw [show (if nxt bs p < bs.length then nxt bs p + 1 else nxt bs p) = nxt bs (nxt bs p) from rfl] at hr2
  have f3 : Fr (fun k => k = D) V w2 := Fr.tr (unhide HF1) f2
  have hSB := f3.kept (unhide HSP).s (by omega)
  have hSZ := f3.kept (unhide HSP).z (by omega)
  have hF2 : Fr (fun k => k = D) w0 w2 := Fr.tr (unhide HF0) (Fr.tr (Fr.of_ext (unhide HSP).ext) f3)
  have hlow : ∀ g, SFoot d (.slice (some ⟨gb, gk, none⟩) d.R gc) rv (.slice ha d.hold.length hc) (.slice ba d.nb bc) g → w0.heap.size ≤ g ∧ g < w.heap.size := fun g hg => (unhide HO).foot hg
  have hO2 := ((unhide HO).ext (unhide HSP).ext).fr f3 (fun g hg e => by have := (hlow g hg).1; omega)
  have HLOW := hide hlow
  have HR2 := hide hr2
  have HSB := hide hSB
  have HSZ := hide hSZ
  have HF2 := hide hF2
  have HO2 := hide hO2
  have zw2 : w.heap.size + 1 < w2.heap.size := lt_of_block hSZ
  clear HN2 hr2 f2 f3 hSB hSZ hF2 hO2 HF1 HSP hlow
  have t8 : (x : Int).tmod 8 = 3 := by rw [show (x : Int).tmod 8 = _ from tmod_nat x 8, hc8]; rfl
  have hnf : ∀ kk, w.heap.size ≤ kk → ¬ WFoot d (.slice (some ⟨gb, gk, none⟩) d.R gc) rv (.slice ba d.nb bc) kk := fun kk hkk hw => by
    have h9 : kk < w.heap.size := ((unhide HLOW) kk (by
      rcases hw with hw | hw | hw
      · exact .inl (.inl hw)
      · exact .inl (.inr hw)
      · exact .inr (.inr hw))).2
    omega
  have hW : ScrW w2 w.heap.size w0.heap.size (fun kk => kk = w.heap.size + 1) d (.slice (some ⟨gb, gk, none⟩) d.R gc) rv (.slice ha d.hold.length hc) (.slice ba d.nb bc) := ⟨unhide HSB, (unhide HO2).1.1, (unhide HO2).1.2.1, (unhide HO2).1.2.2, (unhide HO2).2.2, ⟨by omega, hnf _ (Nat.le_refl _)⟩, by omega, fun kk hkk => ⟨by omega, hnf kk (by omega)⟩⟩
  obtain ⟨g, cap, hg⟩ : ∃ g cap, rv i = .slice (some ⟨g, 0, none⟩) (d.C i) cap := by
    rcases (hW.row i hiR).form with ⟨_, e⟩ | ⟨g, cap, e⟩
    · omega
    · exact ⟨g, cap, e⟩
  have hjC : j < d.C i := by omega
  have c0 : w2.cell? ⟨w.heap.size, 0, none⟩ = some (.int .i64 (c : Int)) := by rw [← unhide hEC]; exact cells_of hW.box 0 _ rfl
  have c1 : w2.cell? ⟨w.heap.size, 1, none⟩ = some (.int .i64 (d.R : Int)) := by rw [← unhide hER]; exact cells_of hW.box 1 _ rfl
  have c2 : w2.cell? ⟨w.heap.size, 2, none⟩ = some (.slice (some ⟨gb, gk, none⟩) d.R gc) := cells_of hW.box 2 _ rfl
  have cg : w2.cell? ⟨gb, gk + i, none⟩ = some (.slice (some ⟨g, 0, none⟩) c cap) := by rw [← hCi, ← hg]; exact hW.grid.cellF hiR
  have hrow := hW.row i hiR
  rw [hg] at hrow
  have hcc := hrow.cell hjC
  have ch := hcc.2.1
  have chf := hcc.2.2
  have hset := hW.setH1 i j g cap hiR hjC hg
  have hgl : w0.heap.size ≤ g ∧ g < w.heap.size := (unhide HLOW) g (.inl (.inr ⟨i, hiR, by rw [hg]; rfl⟩))
  have fU : Fr (fun kk => kk = g) w2 (w2.setCell ⟨g, j * 2 + 1, none⟩ (.bool true)) := hset.2.mono (fun kk hkk => by rw [hg] at hkk; exact (Option.some.inj hkk).symm)
  have HQB := hide (fU.kept (unhide HSB) (by omega))
  have HQZ := hide (fU.kept (unhide HSZ) (by omega))
  have HFz : Hid (w0.heap.size ≤ w.heap.size) := hide hz0
  have HFU := hide (fU.upon2 (unhide HF2) (fun q hq => by omega))
  have HRU := hide ((unhide H0).keep (unhide HR2) (unhide HFU) (fU.block D (by omega) (by omega)))
  have hhold := fU.owns (unhide HO2).2.1 (fun kk hkk e => by
    have h9 := ((unhide HO2).kinds.1 g (.inr ⟨i, hiR, by rw [hg]; rfl⟩)).1
    exact h9 (by rw [← e]; exact hkk))
  have HAT : Hid (∀ W, Fr (fun q => q = w.heap.size + 1 ∨ q < w0.heap.size) (w2.setCell ⟨g, j * 2 + 1, none⟩ (.bool true)) W → ScrAt W (d.setH i j) (.slice (some ⟨gb, gk, none⟩) d.R gc) (.slice ha d.hold.length hc) (.slice ba d.nb bc)) := hide (fun W hWf => by
    have hV := hset.1.toV.fr hWf (fun kk hkk e => by
      rcases e with e | e
      · exact (hset.1.kept kk e).2 hkk
      · have := (hset.1.foot hkk).1; omega)
    have hh9 := hWf.owns hhold (fun kk hkk e => by have := (unhide HLOW) kk (.inr (.inl hkk)); omega)
    exact ⟨⟨rv, hV.grid.reads, fun q hq => (hV.row q hq).reads⟩, ints_of_owns hh9, hV.back.reads⟩)
  have hnR : ¬ d.R = 0 := by omega
  have hnc : ¬ c = 0 := by omega
  have hiI : (i : Int) < (d.R : Int) := by omega
  have hjI : (j : Int) < (c : Int) := by omega
  have u0 : (w2.setCell ⟨g, j * 2 + 1, none⟩ (.bool true)).cell? ⟨w.heap.size, 0, none⟩ = some (.int .i64 (c : Int)) := by rw [← unhide hEC]; exact cells_of (unhide HQB) 0 _ rfl
  have u1 : (w2.setCell ⟨g, j * 2 + 1, none⟩ (.bool true)).cell? ⟨w.heap.size, 1, none⟩ = some (.int .i64 (d.R : Int)) := by rw [← unhide hER]; exact cells_of (unhide HQB) 1 _ rfl
  have u2 : (w2.setCell ⟨g, j * 2 + 1, none⟩ (.bool true)).cell? ⟨w.heap.size, 2, none⟩ = some (.slice (some ⟨gb, gk, none⟩) d.R gc) := cells_of (unhide HQB) 2 _ rfl
  have ug : (w2.setCell ⟨g, j * 2 + 1, none⟩ (.bool true)).cell? ⟨gb, gk + i, none⟩ = some (.slice (some ⟨g, 0, none⟩) c cap) := by rw [← hCi, ← hg]; exact hset.1.grid.cellF hiR
  have DR := (Ext.refl (w2.setCell ⟨g, j * 2 + 1, none⟩ (.bool true))).drew
  replace HQB := hide (DR.kept (unhide HQB))
  replace HQZ := hide (DR.kept (unhide HQZ))
  replace HFU := hide (Fr.tr (unhide HFU) (Fr.of_ext DR))
  replace HRU := hide ((unhide HRU).ext DR)
  replace HAT : Hid (∀ W, Fr (fun q => q = w.heap.size + 1 ∨ q < w0.heap.size) (w2.setCell ⟨g, j * 2 + 1, none⟩ (.bool true)).drew W → ScrAt W (d.setH i j) (.slice (some ⟨gb, gk, none⟩) d.R gc) (.slice ha d.hold.length hc) (.slice ba d.nb bc)) := hide (fun W hW9 => (unhide HAT) W (Fr.tr (Fr.of_ext DR) hW9))
  clear hnf hW hrow hcc hset fU hhold hg hCi hjC hER hEC hgl DR
  go_wp2_with fail
  go_region_held3 (fun W => W.cell? ⟨w.heap.size, 0, none⟩ = some (.int .i64 (c : Int)) ∧ W.cell? ⟨w.heap.size, 1, none⟩ = some (.int .i64 (d.R : Int)) ∧ W.cell? ⟨w.heap.size, 2, none⟩ = some (.slice (some ⟨gb, gk, none⟩) d.R gc) ∧ W.cell? ⟨gb, gk + i, none⟩ = some (.slice (some ⟨g, 0, none⟩) c cap)) (first | exact ⟨u0, u1, u2, ug⟩ | exact ⟨c0, c1, c2, cg⟩) (first | fail)
  go_wp2_with (first
    | (refine wpList_load_blk rfl 26 _ rfl w.heap.size rfl _ _ _ _ (unhide HQB) Tryz.underlying26 rfl infoScr8 ?_)
    | (refine wpList_store_blk rfl 26 _ _ rfl rfl (w.heap.size + 1) rfl _ _ _ rfl (unhide HQZ) infoScr8 rfl (by simp [Value.oneCell']) ?_; intro X HX9 hX9; have HXB := hide HX9; have HXF := hide hX9; clear HX9 hX9))
  have v0 := cells_of (unhide HXB) 0 _ rfl
  have v1 := cells_of (unhide HXB) 1 _ rfl
  have v2 := cells_of (unhide HXB) 2 _ rfl
  have v3 := cells_of (unhide HXB) 3 _ rfl
  have v4 := cells_of (unhide HXB) 4 _ rfl
  have v5 := cells_of (unhide HXB) 5 _ rfl
  have v6 := cells_of (unhide HXB) 6 _ rfl
  have v7 := cells_of (unhide HXB) 7 _ rfl
  have hz := unhide HFz
  have f9 : Fr (fun k => k = D) w0 X := (unhide HXF).upon2 (unhide HFU) (fun q hq => by omega)
  have r9 : RdAt X D rv0 bs (nxt bs (nxt bs p)) := (unhide H0).keep (unhide HRU) f9 ((unhide HXF).block D (by have := (unhide HFU).size; omega) (by omega))
  have a9 := fun W hW => (unhide HAT) W (Fr.tr ((unhide HXF).mono (fun q hq => .inl hq)) (Fr.mono hW (fun q hq => .inr hq)))
  exact bodyPost_ret (v := .agg #[.int .i64 d.cols, .int .i64 d.rows, .slice (some ⟨gb, gk, none⟩) d.R gc, .int .i64 d.row, .int .i64 d.col, .bool d.late, .slice ha d.hold.length hc, .slice ba d.nb bc]) (by simp [results, Tryz.results87, go_sem, v0, v1, v2, v3, v4, v5, v6, v7]) rfl ⟨_, _, _, rfl, a9, r9, f9⟩
set_option linter.unusedSimpArgs false in
set_option maxRecDepth 10000 in
set_option maxHeartbeats 4000000 in
theorem l2Spoil_7 (D : Nat) (rv0 : Value) (bs : List Int) (p0 p : Nat) (d : SD) (gv : Value) (rv : Nat → Value) (hv bv : Value) (w0 w : World) (h0 : RdAt w0 D rv0 bs p0) (hr : RdAt w D rv0 bs p) (f0 : Fr (fun k => k = D) w0 w) (ho : OwnFS w w0.heap.size d gv rv hv bv) (hk : OkP d) (hB : Bytes bs) (hl : bs.length ≤ 16777216) (x y : Nat) (hx : rdN bs p = x) (hy : rdN bs (nxt bs p) = y) (hc8 : x % 8 = 7) :
    Calls Tryz.prog 87 #[.pointer (some ⟨D, 0, none⟩), scrV d gv hv bv] w fun e w' => ∃ gv' hv' bv', e = .returned (scrV (d.setT (y % d.R) (y / 16 % d.cols.toNat) bz) gv' hv' bv') ∧ (∀ W, Fr (fun q => q < w0.heap.size) w' W → ScrAt W (d.setT (y % d.R) (y / 16 % d.cols.toNat) bz) gv' hv' bv') ∧ RdAt w' D rv0 bs (nxt bs (nxt bs p)) ∧ Fr (fun k => k = D) w0 w' := by
  have hsz := size_bd hk
  have hR := hk.R
  obtain ⟨i, hi⟩ : ∃ i : Nat, i = y % d.R := ⟨_, rfl⟩
  obtain ⟨c, ec⟩ : ∃ c : Nat, d.cols = c := ⟨d.cols.toNat, by omega⟩
  obtain ⟨q, hq⟩ : ∃ q : Nat, q = y / 16 := ⟨_, rfl⟩
  obtain ⟨j, hj⟩ : ∃ j : Nat, j = q % c := ⟨_, rfl⟩
  rw [← hi, ← hq, show d.cols.toNat = c by omega, ← hj]
  have hRp : 0 < d.R := by omega
  have hcp : 0 < c := by omega
  have hiR : i < d.R := by rw [hi]; exact Nat.mod_lt _ hRp
  have hjc : j < c := by rw [hj]; exact Nat.mod_lt _ hcp
  have ti : (y : Int).tmod (d.R : Int) = (i : Int) := by rw [hi]; exact tmod_nat y d.R
  have tq : (y : Int).tdiv 16 = (q : Int) := by rw [hq]; exact tdiv_nat y 16
  have tj : (q : Int).tmod (c : Int) = (j : Int) := by rw [hj]; exact tmod_nat q c
  have tj2 : (q : Int) % (c : Int) = (j : Int) := by rw [hj]; rfl
  have tq2 : (y : Int) / 16 = (q : Int) := by omega
  have hCi : d.C i = c := by have := hk.C i hiR; omega
  have hyle : y ≤ 255 := by rw [← hy]; exact (rdN_is hB _).2
  have hq9 : q ≤ 15 := by omega
  have wq : IntKind.i64.wrap (q : Int) = (q : Int) := by rw [IntKind.wrap_i64] <;> omega
  have hc9 : c ≤ 200 := by omega
  have hR9 : d.R ≤ 100 := by omega
  have hER := hide (show d.rows = (d.R : Int) from hR.symm)
  have hEC := hide ec
  clear hi hq hj hR ec hsz
  have hDw0 : D < w0.heap.size := lt_of_cell h0.1
  have hz0 := f0.size
  obtain ⟨gb, gk, gc, _, hgv, _⟩ := id ho.1.1
  obtain ⟨ha, hc, hhv⟩ := owns_ln ho.2.1
  obtain ⟨ba, bc, hbv⟩ : ∃ a c, bv = .slice a d.nb c := by obtain ⟨_, h9, _⟩ := ho.2.2; exact owns_ln h9
  subst hgv
  subst hhv
  subst hbv
  obtain ⟨hxI, hx255⟩ := rdN_is hB p
  obtain ⟨hyI, hy255⟩ := rdN_is hB (nxt bs p)
  rw [hx] at hxI hx255
  rw [hy] at hyI hy255
  have hb0 := sp_alloc w d (.slice (some ⟨gb, gk, none⟩) d.R gc) (.slice ha d.hold.length hc) (.slice ba d.nb bc)
  obtain ⟨V, hV⟩ : ∃ V, V = (w.alloc (.cells #[.int .i64 d.cols, .int .i64 d.rows, .slice (some ⟨gb, gk, none⟩) d.R gc, .int .i64 d.row, .int .i64 d.col, .bool d.late, .slice ha d.hold.length hc, .slice ba d.nb bc] 26)).alloc (.cells #[.int .i64 0, .int .i64 0, .slice none 0 0, .int .i64 0, .int .i64 0, .bool false, .slice none 0 0, .slice none 0 0] 26) := ⟨_, rfl⟩
  rw [← hV] at hb0
  have HN1 := hide (next_any D rv0 bs p V (hr.ext hb0.ext) hB hl)
  rw [hxI] at HN1
  have HVV := hide hV
  have HSP := hide hb0
  have H0 := hide h0
  have HF0 := hide f0
  have HO := hide ho
  have HK := hide hk
  have HYI := hide hyI
  clear h0 hr f0 ho hk hV hb0 hx hy hxI hyI
  unfold scrV
  go_enter Tryz.func87, Tryz.ntmps87
  go_wp2_with fail
  rw [← unhide HVV]
  clear HVV
  refine (unhide HN1).mono ?_
  rintro e w1 ⟨rfl, hr1, f1⟩
  rw [show (if p < bs.length then p + 1 else p) = nxt bs p from rfl] at hr1
  have HN2 := hide (next_any D rv0 bs (nxt bs p) w1 hr1 hB hl)
  rw [unhide HYI] at HN2
  have HF1 := hide f1
  clear HN1 hr1 f1
  go_wp2_with fail
  refine (unhide HN2).mono ?_
  rintro e w2 ⟨rfl, hr2, f2⟩
  rw [show (if nxt bs p < bs.length then nxt bs p + 1 else nxt bs p) = nxt bs (nxt bs p) from rfl] at hr2
  have f3 : Fr (fun k => k = D) V w2 := Fr.tr (unhide HF1) f2
  have hSB := f3.kept (unhide HSP).s (by omega)
  have hSZ := f3.kept (unhide HSP).z (by omega)
  have hF2 : Fr (fun k => k = D) w0 w2 := Fr.tr (unhide HF0) (Fr.tr (Fr.of_ext (unhide HSP).ext) f3)
  have hlow : ∀ g, SFoot d (.slice (some ⟨gb, gk, none⟩) d.R gc) rv (.slice ha d.hold.length hc) (.slice ba d.nb bc) g → w0.heap.size ≤ g ∧ g < w.heap.size := fun g hg => (unhide HO).foot hg
  have hO2 := ((unhide HO).ext (unhide HSP).ext).fr f3 (fun g hg e => by have := (hlow g hg).1; omega)
  have HLOW := hide hlow
  have HR2 := hide hr2
  have HSB := hide hSB
  have HSZ := hide hSZ
  have HF2 := hide hF2
  have HO2 := hide hO2
  have zw2 : w.heap.size + 1 < w2.heap.size := lt_of_block hSZ
  clear HN2 hr2 f2 f3 hSB hSZ hF2 hO2 HF1 HSP hlow
  have t8 : (x : Int).tmod 8 = 7 := by rw [show (x : Int).tmod 8 = _ from tmod_nat x 8, hc8]; rfl
  have hnf : ∀ kk, w.heap.size ≤ kk → ¬ WFoot d (.slice (some ⟨gb, gk, none⟩) d.R gc) rv (.slice ba d.nb bc) kk := fun kk hkk hw => by
    have h9 : kk < w.heap.size := ((unhide HLOW) kk (by
      rcases hw with hw | hw | hw
      · exact .inl (.inl hw)
      · exact .inl (.inr hw)
      · exact .inr (.inr hw))).2
    omega
  have hW : ScrW w2 w.heap.size w0.heap.size (fun kk => kk = w.heap.size + 1) d (.slice (some ⟨gb, gk, none⟩) d.R gc) rv (.slice ha d.hold.length hc) (.slice ba d.nb bc) := ⟨unhide HSB, (unhide HO2).1.1, (unhide HO2).1.2.1, (unhide HO2).1.2.2, (unhide HO2).2.2, ⟨by omega, hnf _ (Nat.le_refl _)⟩, by omega, fun kk hkk => ⟨by omega, hnf kk (by omega)⟩⟩
  obtain ⟨g, cap, hg⟩ : ∃ g cap, rv i = .slice (some ⟨g, 0, none⟩) (d.C i) cap := by
    rcases (hW.row i hiR).form with ⟨_, e⟩ | ⟨g, cap, e⟩
    · omega
    · exact ⟨g, cap, e⟩
  have hjC : j < d.C i := by omega
  have c0 : w2.cell? ⟨w.heap.size, 0, none⟩ = some (.int .i64 (c : Int)) := by rw [← unhide hEC]; exact cells_of hW.box 0 _ rfl
  have c1 : w2.cell? ⟨w.heap.size, 1, none⟩ = some (.int .i64 (d.R : Int)) := by rw [← unhide hER]; exact cells_of hW.box 1 _ rfl
  have c2 : w2.cell? ⟨w.heap.size, 2, none⟩ = some (.slice (some ⟨gb, gk, none⟩) d.R gc) := cells_of hW.box 2 _ rfl
  have cg : w2.cell? ⟨gb, gk + i, none⟩ = some (.slice (some ⟨g, 0, none⟩) c cap) := by rw [← hCi, ← hg]; exact hW.grid.cellF hiR
  have hrow := hW.row i hiR
  rw [hg] at hrow
  have hcc := hrow.cell hjC
  have ch := hcc.1.1
  have chf := hcc.1.2
  have hset := hW.setT1 i j g cap hiR hjC hg { data := #[] }
  have hgl : w0.heap.size ≤ g ∧ g < w.heap.size := (unhide HLOW) g (.inl (.inr ⟨i, hiR, by rw [hg]; rfl⟩))
  have fU : Fr (fun kk => kk = g) w2 (w2.setCell ⟨g, j * 2, none⟩ (.string { data := #[] })) := hset.2.mono (fun kk hkk => by rw [hg] at hkk; exact (Option.some.inj hkk).symm)
  have HQB := hide (fU.kept (unhide HSB) (by omega))
  have HQZ := hide (fU.kept (unhide HSZ) (by omega))
  have HFz : Hid (w0.heap.size ≤ w.heap.size) := hide hz0
  have HFU := hide (fU.upon2 (unhide HF2) (fun q hq => by omega))
  have HRU := hide ((unhide H0).keep (unhide HR2) (unhide HFU) (fU.block D (by omega) (by omega)))
  have hhold := fU.owns (unhide HO2).2.1 (fun kk hkk e => by
    have h9 := ((unhide HO2).kinds.1 g (.inr ⟨i, hiR, by rw [hg]; rfl⟩)).1
    exact h9 (by rw [← e]; exact hkk))
  have HAT : Hid (∀ W, Fr (fun q => q = w.heap.size + 1 ∨ q < w0.heap.size) (w2.setCell ⟨g, j * 2, none⟩ (.string { data := #[] })) W → ScrAt W (d.setT i j bz) (.slice (some ⟨gb, gk, none⟩) d.R gc) (.slice ha d.hold.length hc) (.slice ba d.nb bc)) := hide (fun W hWf => by
    have hV := hset.1.toV.fr hWf (fun kk hkk e => by
      rcases e with e | e
      · exact (hset.1.kept kk e).2 hkk
      · have := (hset.1.foot hkk).1; omega)
    have hh9 := hWf.owns hhold (fun kk hkk e => by have := (unhide HLOW) kk (.inr (.inl hkk)); omega)
    exact ⟨⟨rv, hV.grid.reads, fun q hq => (hV.row q hq).reads⟩, ints_of_owns hh9, hV.back.reads⟩)
  have hnR : ¬ d.R = 0 := by omega
  have hnc : ¬ c = 0 := by omega
  have hiI : (i : Int) < (d.R : Int) := by omega
  have hjI : (j : Int) < (c : Int) := by omega
  have u0 : (w2.setCell ⟨g, j * 2, none⟩ (.string { data := #[] })).cell? ⟨w.heap.size, 0, none⟩ = some (.int .i64 (c : Int)) := by rw [← unhide hEC]; exact cells_of (unhide HQB) 0 _ rfl
  have u1 : (w2.setCell ⟨g, j * 2, none⟩ (.string { data := #[] })).cell? ⟨w.heap.size, 1, none⟩ = some (.int .i64 (d.R : Int)) := by rw [← unhide hER]; exact cells_of (unhide HQB) 1 _ rfl
  have u2 : (w2.setCell ⟨g, j * 2, none⟩ (.string { data := #[] })).cell? ⟨w.heap.size, 2, none⟩ = some (.slice (some ⟨gb, gk, none⟩) d.R gc) := cells_of (unhide HQB) 2 _ rfl
  have ug : (w2.setCell ⟨g, j * 2, none⟩ (.string { data := #[] })).cell? ⟨gb, gk + i, none⟩ = some (.slice (some ⟨g, 0, none⟩) c cap) := by rw [← hCi, ← hg]; exact hset.1.grid.cellF hiR
  have DR := (Ext.refl (w2.setCell ⟨g, j * 2, none⟩ (.string { data := #[] }))).drew
  replace HQB := hide (DR.kept (unhide HQB))
  replace HQZ := hide (DR.kept (unhide HQZ))
  replace HFU := hide (Fr.tr (unhide HFU) (Fr.of_ext DR))
  replace HRU := hide ((unhide HRU).ext DR)
  replace HAT : Hid (∀ W, Fr (fun q => q = w.heap.size + 1 ∨ q < w0.heap.size) (w2.setCell ⟨g, j * 2, none⟩ (.string { data := #[] })).drew W → ScrAt W (d.setT i j bz) (.slice (some ⟨gb, gk, none⟩) d.R gc) (.slice ha d.hold.length hc) (.slice ba d.nb bc)) := hide (fun W hW9 => (unhide HAT) W (Fr.tr (Fr.of_ext DR) hW9))
  clear hnf hW hrow hcc hset fU hhold hg hCi hjC hER hEC hgl DR
  go_wp2_with fail
  go_region_held3 (fun W => W.cell? ⟨w.heap.size, 0, none⟩ = some (.int .i64 (c : Int)) ∧ W.cell? ⟨w.heap.size, 1, none⟩ = some (.int .i64 (d.R : Int)) ∧ W.cell? ⟨w.heap.size, 2, none⟩ = some (.slice (some ⟨gb, gk, none⟩) d.R gc) ∧ W.cell? ⟨gb, gk + i, none⟩ = some (.slice (some ⟨g, 0, none⟩) c cap)) (first | exact ⟨u0, u1, u2, ug⟩ | exact ⟨c0, c1, c2, cg⟩) (first | fail)
  go_wp2_with (first
    | (refine wpList_load_blk rfl 26 _ rfl w.heap.size rfl _ _ _ _ (unhide HQB) Tryz.underlying26 rfl infoScr8 ?_)
    | (refine wpList_store_blk rfl 26 _ _ rfl rfl (w.heap.size + 1) rfl _ _ _ rfl (unhide HQZ) infoScr8 rfl (by simp [Value.oneCell']) ?_; intro X HX9 hX9; have HXB := hide HX9; have HXF := hide hX9; clear HX9 hX9))
  have v0 := cells_of (unhide HXB) 0 _ rfl
  have v1 := cells_of (unhide HXB) 1 _ rfl
  have v2 := cells_of (unhide HXB) 2 _ rfl
  have v3 := cells_of (unhide HXB) 3 _ rfl
  have v4 := cells_of (unhide HXB) 4 _ rfl
  have v5 := cells_of (unhide HXB) 5 _ rfl
  have v6 := cells_of (unhide HXB) 6 _ rfl
  have v7 := cells_of (unhide HXB) 7 _ rfl
  have hz := unhide HFz
  have f9 : Fr (fun k => k = D) w0 X := (unhide HXF).upon2 (unhide HFU) (fun q hq => by omega)
  have r9 : RdAt X D rv0 bs (nxt bs (nxt bs p)) := (unhide H0).keep (unhide HRU) f9 ((unhide HXF).block D (by have := (unhide HFU).size; omega) (by omega))
  have a9 := fun W hW => (unhide HAT) W (Fr.tr ((unhide HXF).mono (fun q hq => .inl hq)) (Fr.mono hW (fun q hq => .inr hq)))
  exact bodyPost_ret (v := .agg #[.int .i64 d.cols, .int .i64 d.rows, .slice (some ⟨gb, gk, none⟩) d.R gc, .int .i64 d.row, .int .i64 d.col, .bool d.late, .slice ha d.hold.length hc, .slice ba d.nb bc]) (by simp [results, Tryz.results87, go_sem, v0, v1, v2, v3, v4, v5, v6, v7]) rfl ⟨_, _, _, rfl, a9, r9, f9⟩
set_option linter.unusedSimpArgs false in
set_option maxRecDepth 10000 in
set_option maxHeartbeats 4000000 in
theorem l2Spoil_4 (D : Nat) (rv0 : Value) (bs : List Int) (p0 p : Nat) (d : SD) (gv : Value) (rv : Nat → Value) (hv bv : Value) (w0 w : World) (h0 : RdAt w0 D rv0 bs p0) (hr : RdAt w D rv0 bs p) (f0 : Fr (fun k => k = D) w0 w) (ho : OwnFS w w0.heap.size d gv rv hv bv) (hk : OkP d) (hB : Bytes bs) (hl : bs.length ≤ 16777216) (x y : Nat) (hx : rdN bs p = x) (hy : rdN bs (nxt bs p) = y) (hc8 : x % 8 = 4) :
    Calls Tryz.prog 87 #[.pointer (some ⟨D, 0, none⟩), scrV d gv hv bv] w fun e w' => ∃ gv' hv' bv', e = .returned (scrV (d.cutR (y % d.R)) gv' hv' bv') ∧ (∀ W, Fr (fun q => q < w0.heap.size) w' W → ScrAt W (d.cutR (y % d.R)) gv' hv' bv') ∧ RdAt w' D rv0 bs (nxt bs (nxt bs p)) ∧ Fr (fun k => k = D) w0 w' := by
  have hsz := size_bd hk
  have hR := hk.R
  obtain ⟨i, hi⟩ : ∃ i : Nat, i = y % d.R := ⟨_, rfl⟩
  rw [← hi]
  have hRp : 0 < d.R := by omega
  have hiR : i < d.R := by rw [hi]; exact Nat.mod_lt _ hRp
  have ti : (y : Int).tmod (d.R : Int) = (i : Int) := by rw [hi]; exact tmod_nat y d.R
  have hCi := hk.C i hiR
  have hR9 : d.R ≤ 100 := by omega
  have hC9 : 2 ≤ d.C i ∧ d.C i ≤ 200 := by omega
  have hER := hide (show d.rows = (d.R : Int) from hR.symm)
  have hiI : (i : Int) < (d.R : Int) := by omega
  clear hi hR hsz hCi
  have hDw0 : D < w0.heap.size := lt_of_cell h0.1
  have hz0 := f0.size
  obtain ⟨gb, gk, gc, _, hgv, _⟩ := id ho.1.1
  obtain ⟨ha, hc, hhv⟩ := owns_ln ho.2.1
  obtain ⟨ba, bc, hbv⟩ : ∃ a c, bv = .slice a d.nb c := by obtain ⟨_, h9, _⟩ := ho.2.2; exact owns_ln h9
  subst hgv
  subst hhv
  subst hbv
  obtain ⟨hxI, hx255⟩ := rdN_is hB p
  obtain ⟨hyI, hy255⟩ := rdN_is hB (nxt bs p)
  rw [hx] at hxI hx255
  rw [hy] at hyI hy255
  have hb0 := sp_alloc w d (.slice (some ⟨gb, gk, none⟩) d.R gc) (.slice ha d.hold.length hc) (.slice ba d.nb bc)
  obtain ⟨V, hV⟩ : ∃ V, V = (w.alloc (.cells #[.int .i64 d.cols, .int .i64 d.rows, .slice (some ⟨gb, gk, none⟩) d.R gc, .int .i64 d.row, .int .i64 d.col, .bool d.late, .slice ha d.hold.length hc, .slice ba d.nb bc] 26)).alloc (.cells #[.int .i64 0, .int .i64 0, .slice none 0 0, .int .i64 0, .int .i64 0, .bool false, .slice none 0 0, .slice none 0 0] 26) := ⟨_, rfl⟩
  rw [← hV] at hb0
  have HN1 := hide (next_any D rv0 bs p V (hr.ext hb0.ext) hB hl)
  rw [hxI] at HN1
  have HVV := hide hV
  have HSP := hide hb0
  have H0 := hide h0
  have HF0 := hide f0
  have HO := hide ho
  have HK := hide hk
  have HYI := hide hyI
  clear h0 hr f0 ho hk hV hb0 hx hy hxI hyI
  unfold scrV
  go_enter Tryz.func87, Tryz.ntmps87
  go_wp2_with fail
  rw [← unhide HVV]
  clear HVV
  refine (unhide HN1).mono ?_
  rintro e w1 ⟨rfl, hr1, f1⟩
  rw [show (if p < bs.length then p + 1 else p) = nxt bs p from rfl] at hr1
  have HN2 := hide (next_any D rv0 bs (nxt bs p) w1 hr1 hB hl)
  rw [unhide HYI] at HN2
  have HF1 := hide f1
  clear HN1 hr1 f1
  go_wp2_with fail
  refine (unhide HN2).mono ?_
  rintro e w2 ⟨rfl, hr2, f2⟩
  rw [show (if nxt bs p < bs.length then nxt bs p + 1 else nxt bs p) = nxt bs (nxt bs p) from rfl] at hr2
  have f3 : Fr (fun k => k = D) V w2 := Fr.tr (unhide HF1) f2
  have hSB := f3.kept (unhide HSP).s (by omega)
  have hSZ := f3.kept (unhide HSP).z (by omega)
  have hF2 : Fr (fun k => k = D) w0 w2 := Fr.tr (unhide HF0) (Fr.tr (Fr.of_ext (unhide HSP).ext) f3)
  have hlow : ∀ g, SFoot d (.slice (some ⟨gb, gk, none⟩) d.R gc) rv (.slice ha d.hold.length hc) (.slice ba d.nb bc) g → w0.heap.size ≤ g ∧ g < w.heap.size := fun g hg => (unhide HO).foot hg
  have hO2 := ((unhide HO).ext (unhide HSP).ext).fr f3 (fun g hg e => by have := (hlow g hg).1; omega)
  have HLOW := hide hlow
  have HR2 := hide hr2
  have HSB := hide hSB
  have HSZ := hide hSZ
  have HF2 := hide hF2
  have HO2 := hide hO2
  have zw2 : w.heap.size + 1 < w2.heap.size := lt_of_block hSZ
  clear HN2 hr2 f2 f3 hSB hSZ hF2 hO2 HF1 HSP hlow
  have t8 : (x : Int).tmod 8 = 4 := by rw [show (x : Int).tmod 8 = _ from tmod_nat x 8, hc8]; rfl
  obtain ⟨g, cap, hg⟩ : ∃ g cap, rv i = .slice (some ⟨g, 0, none⟩) (d.C i) cap := by
    rcases ((unhide HO2).1.2.1 i hiR).form with ⟨_, e⟩ | ⟨g, cap, e⟩
    · omega
    · exact ⟨g, cap, e⟩
  obtain ⟨c, hcd⟩ : ∃ c, d.C i = c := ⟨_, rfl⟩
  have c1 : w2.cell? ⟨w.heap.size, 1, none⟩ = some (.int .i64 (d.R : Int)) := by rw [← unhide hER]; exact cells_of (unhide HSB) 1 _ rfl
  have c2 : w2.cell? ⟨w.heap.size, 2, none⟩ = some (.slice (some ⟨gb, gk, none⟩) d.R gc) := cells_of (unhide HSB) 2 _ rfl
  have cg : w2.cell? ⟨gb, gk + i, none⟩ = some (.slice (some ⟨g, 0, none⟩) c cap) := by rw [← hcd, ← hg]; exact (unhide HO2).1.1.cellF hiR
  have hcap : c ≤ cap := by
    obtain ⟨_, cc, e9, h9, _⟩ := ((unhide HO2).1.2.1 i hiR).reads
    rw [hg] at e9
    have := (Value.slice.inj e9).2.2
    omega
  rw [hcd] at hC9
  have hnR : ¬ d.R = 0 := by omega
  have k2 : (1 : Int) ≤ (c : Int) := by omega
  have k3 : ¬ cap = 1 := by omega
  have k4 : (c : Int) ≤ (cap : Int) := by omega
  go_wp2_with fail
  refine wp_region_held_drew (S := fun W => W.cell? ⟨w.heap.size, 1, none⟩ = some (.int .i64 (d.R : Int)) ∧ W.cell? ⟨w.heap.size, 2, none⟩ = some (.slice (some ⟨gb, gk, none⟩) d.R gc)) (by kernel_rfl) ⟨c1, c2⟩ (fun hHeld => ?_)
  refine wpAnyH_take (i := 0) (v := ?_) rfl (by kernel_rfl) (by kernel_rfl) (by kernel_rfl) (fun _ _ _ h => h) (Or.inl ⟨by rfl, ?_⟩) (by assumption) ?_
  rotate_left
  · intro w' hSw; obtain ⟨s0, s1⟩ := hSw; go_simp <;> with_reducible rfl
  simp only [Act.put, qA, qB, qC, qD, qE, qF]
  refine wpAnyH_take (i := 1) (v := ?_) rfl (by kernel_rfl) (by kernel_rfl) (by kernel_rfl) (fun _ _ _ h => h) (Or.inl ⟨by rfl, ?_⟩) (by assumption) ?_
  rotate_left
  · intro w' hSw; obtain ⟨s0, s1⟩ := hSw; go_simp <;> with_reducible rfl
  simp only [Act.put, qA, qB, qC, qD, qE, qF]
  refine wpAnyH_take (i := 2) (v := ?_) rfl (by kernel_rfl) (by kernel_rfl) (by kernel_rfl) (fun _ _ _ h => h) (Or.inl ⟨by rfl, ?_⟩) (by assumption) ?_
  rotate_left
  · intro w' hSw; obtain ⟨s0, s1⟩ := hSw; go_simp <;> with_reducible rfl
  simp only [Act.put, qA, qB, qC, qD, qE, qF]
  refine wpAnyH_take (i := 3) (v := ?_) rfl (by kernel_rfl) (by kernel_rfl) (by kernel_rfl) (fun _ _ _ h => h) (Or.inl ⟨by rfl, ?_⟩) (by assumption) ?_
  rotate_left
  · intro w' hSw; obtain ⟨s0, s1⟩ := hSw; go_simp <;> with_reducible rfl
  simp only [Act.put, qA, qB, qC, qD, qE, qF]
  refine wpAnyH_take (i := 4) (v := ?_) rfl (by kernel_rfl) (by kernel_rfl) (by kernel_rfl) (fun _ _ _ h => h) (Or.inl ⟨by rfl, ?_⟩) (by assumption) ?_
  rotate_left
  · intro w' hSw; obtain ⟨s0, s1⟩ := hSw; go_simp <;> with_reducible rfl
  simp only [Act.put, qA, qB, qC, qD, qE, qF]
  refine wpAnyH_take (i := 5) (v := ?_) rfl (by kernel_rfl) (by kernel_rfl) (by kernel_rfl) (fun _ _ _ h => h) (Or.inl ⟨by rfl, ?_⟩) (by assumption) ?_
  rotate_left
  · intro w' hSw; obtain ⟨s0, s1⟩ := hSw; go_simp <;> with_reducible rfl
  simp only [Act.put, qA, qB, qC, qD, qE, qF]
  refine wpAnyH_take (i := 6) (v := ?_) rfl (by kernel_rfl) (by kernel_rfl) (by kernel_rfl) (fun _ _ _ h => h) (Or.inl ⟨by rfl, ?_⟩) (by assumption) ?_
  rotate_left
  · intro w' hSw; obtain ⟨s0, s1⟩ := hSw; go_simp <;> with_reducible rfl
  simp only [Act.put, qA, qB, qC, qD, qE, qF]
  refine wpAnyH_take (i := 7) (v := ?_) rfl (by kernel_rfl) (by kernel_rfl) (by kernel_rfl) (fun _ _ _ h => h) (Or.inl ⟨by rfl, ?_⟩) (by assumption) ?_
  rotate_left
  · intro w' hSw; obtain ⟨s0, s1⟩ := hSw; go_simp <;> with_reducible rfl
  simp only [Act.put, qA, qB, qC, qD, qE, qF]
  refine wpAnyH_take (i := 8) (v := ?_) rfl (by kernel_rfl) (by kernel_rfl) (by kernel_rfl) (fun _ _ _ h => h) (Or.inl ⟨by rfl, ?_⟩) (by assumption) ?_
  rotate_left
  · intro w' hSw; obtain ⟨s0, s1⟩ := hSw; go_simp <;> with_reducible rfl
  simp only [Act.put, qA, qB, qC, qD, qE, qF]
  refine wpAnyH_take (i := 9) (v := ?_) rfl (by kernel_rfl) (by kernel_rfl) (by kernel_rfl) (fun _ _ _ h => h) (Or.inl ⟨by rfl, ?_⟩) (by assumption) ?_
  rotate_left
  · intro w' hSw; obtain ⟨s0, s1⟩ := hSw; go_simp <;> with_reducible rfl
  simp only [Act.put, qA, qB, qC, qD, qE, qF]
  refine wpAnyH_take (i := 10) (v := ?_) rfl (by kernel_rfl) (by kernel_rfl) (by kernel_rfl) (fun _ _ _ h => h) (Or.inl ⟨by rfl, ?_⟩) (by assumption) ?_
  rotate_left
  · intro w' hSw; obtain ⟨s0, s1⟩ := hSw; go_simp <;> with_reducible rfl
  simp only [Act.put, qA, qB, qC, qD, qE, qF]
  refine wpAnyH_take (i := 11) (v := ?_) rfl (by kernel_rfl) (by kernel_rfl) (by kernel_rfl) (fun _ _ _ h => h) (Or.inl ⟨by rfl, ?_⟩) (by assumption) ?_
  rotate_left
  · intro w' hSw; obtain ⟨s0, s1⟩ := hSw; go_simp <;> with_reducible rfl
  simp only [Act.put, qA, qB, qC, qD, qE, qF]
  refine wpAnyH_take (i := 12) (v := ?_) rfl (by kernel_rfl) (by kernel_rfl) (by kernel_rfl) (fun _ _ _ h => h) (Or.inl ⟨by rfl, ?_⟩) (by assumption) ?_
  rotate_left
  · intro w' hSw; obtain ⟨s0, s1⟩ := hSw; go_simp <;> with_reducible rfl
  simp only [Act.put, qA, qB, qC, qD, qE, qF]
  have G := hide ((Ext.refl w2).drew)
  generalize w2.drew = W3 at *
  have cg3 := (unhide G).cell cg
  have cgf : W3.frozen? ⟨gb, gk + i, none⟩ = false := by
    obtain ⟨g', k', c', cur, e, _, hgb, _⟩ := id ((unhide HO2).1.1.ext (unhide G))
    simp only [Value.slice.injEq, Option.some.injEq, Addr.mk.injEq, and_true, true_and] at e
    obtain ⟨⟨rfl, rfl⟩, rfl⟩ := e
    exact Lib.frozen_of_heap hgb (gk + i)
  refine wpAnyH_ready (rs := [13]) (by kernel_rfl) (by simp) ?_
  refine AllReadyH.cons rfl (fun K hK => ?_) AllReadyH.nil
  go_simp
  refine hK.out _ _ (by assumption) (fun hHeld => ?_)
  clear hK K
  refine wpAnyH_take (i := 14) (v := .slice (some ⟨g, 2, none⟩) (c - 1) (cap - 1)) rfl (by kernel_rfl) (by kernel_rfl) (by kernel_rfl) (fun _ _ _ h => h) (Or.inl ⟨by rfl, ?_⟩) (by assumption) ?_
  · intro w' hSw; go_simp
  simp only [Act.put, qA, qB, qC, qD, qE, qF]
  refine wpAnyH_take (i := 15) (v := ?_) rfl (by kernel_rfl) (by kernel_rfl) (by kernel_rfl) (fun _ _ _ h => h) (Or.inl ⟨by rfl, ?_⟩) (by assumption) ?_
  rotate_left
  · intro w' hSw; obtain ⟨s0, s1⟩ := hSw; go_simp <;> with_reducible rfl
  simp only [Act.put, qA, qB, qC, qD, qE, qF]
  refine wpAnyH_ready (rs := [16]) (by kernel_rfl) (by simp) ?_
  refine AllReadyH.cons rfl (fun K hK => ?_) AllReadyH.nil
  go_simp
  obtain ⟨U, hU⟩ : ∃ U, U = W3.setCell ⟨gb, gk + i, none⟩ (.slice (some ⟨g, 2, none⟩) (c - 1) (cap - 1)) := ⟨_, rfl⟩
  rw [← hU]
  have hgl : w0.heap.size ≤ gb ∧ gb < w.heap.size := (unhide HLOW) gb (.inl (.inl rfl))
  have f3 : Fr (fun q => q = gb) w2 U := by rw [hU]; exact Fr.setCell (S := fun q => q = gb) (Fr.of_ext (unhide G)) (a := ⟨gb, gk + i, none⟩) rfl _
  have hQB := f3.kept (unhide HSB) (by omega)
  refine hK.out _ _ ⟨by rw [← unhide hER]; exact cells_of hQB 1 _ rfl, cells_of hQB 2 _ rfl⟩ (fun hHeld => ?_)
  have HQB := hide hQB
  have HQZ := hide (f3.kept (unhide HSZ) (by omega))
  have HFz : Hid (w0.heap.size ≤ w.heap.size) := hide hz0
  have HFU := hide (f3.upon2 (unhide HF2) (fun q hq => by omega))
  have HRU := hide ((unhide H0).keep (unhide HR2) (unhide HFU) (f3.block D (by omega) (by omega)))
  have hgrid := (((unhide HO2).1.1.ext (unhide G)).set i hiR (.slice (some ⟨g, 2, none⟩) (c - 1) (cap - 1)))
  rw [← hU] at hgrid
  have HAT : Hid (∀ W, Fr (fun q => q = w.heap.size + 1 ∨ q < w0.heap.size) U W → ScrAt W (d.cutR i) (.slice (some ⟨gb, gk, none⟩) d.R gc) (.slice ha d.hold.length hc) (.slice ba d.nb bc)) := hide (fun W hWf => by
    have kn := (unhide HO2).kinds
    have hrow : ∀ q, q < d.R → Own2 W w0.heap.size 83 (rv q) (d.C q) (fun j => .string (d.tx q j)) (fun j => .bool (d.hf q j)) := fun q hq => (((unhide HO2).1.2.1 q hq).fr f3 (fun kk hkk e => (unhide HO2).1.apart hq hkk (by rw [e]; rfl))).fr hWf (fun kk hkk e => by have := (unhide HLOW) kk (.inl (.inr ⟨q, hq, hkk⟩)); omega)
    have hg9 := hgrid.fr hWf (fun kk hkk e => by have e9 : gb = kk := Option.some.inj hkk; omega)
    have hh9 := hWf.owns (f3.owns (unhide HO2).2.1 (fun kk hkk e => (kn.1 kk (.inl (by rw [e]; rfl))).1 hkk)) (fun kk hkk e => by have := (unhide HLOW) kk (.inr (.inl hkk)); omega)
    have hb9 := ((unhide HO2).2.2.fr f3 (fun kk hkk e => (kn.1 kk (.inl (by rw [e]; rfl))).2 hkk)).fr hWf (fun kk hkk e => by have := (unhide HLOW) kk (.inr (.inr hkk)); omega)
    refine ⟨⟨_, hg9.reads, fun q hq => ?_⟩, ints_of_owns hh9, hb9.reads⟩
    show Row2At W (if q = i then .slice (some ⟨g, 2, none⟩) (c - 1) (cap - 1) else rv q) (if q = i then d.C q - 1 else d.C q) (fun j => .string (if q = i then d.tx q (j + 1) else d.tx q j)) (fun j => .bool (if q = i then d.hf q (j + 1) else d.hf q j))
    by_cases e : q = i
    · subst e
      simp only [if_true]
      rw [hcd]
      have hr9 := hrow q hq
      rw [hg, hcd] at hr9
      exact ⟨_, _, rfl, by omega, fun _ => ⟨g, 2, rfl, fun j hj => by
        have h9 := hr9.cell (j := j + 1) (by omega)
        rw [show 2 + j * 2 = (j + 1) * 2 by omega]
        exact ⟨h9.1.1, h9.2.1⟩⟩⟩
    · simp only [e, if_false]
      exact (hrow q hq).reads)
  clear hK K hU f3 hQB hgrid hHeld cg3 cgf cg c1 c2 hg hcd
  refine wpAnyH_done (by kernel_rfl) ?_ _
  go_wp2_with (first
    | (refine wpList_load_blk rfl 26 _ rfl w.heap.size rfl _ _ _ _ (unhide HQB) Tryz.underlying26 rfl infoScr8 ?_)
    | (refine wpList_store_blk rfl 26 _ _ rfl rfl (w.heap.size + 1) rfl _ _ _ rfl (unhide HQZ) infoScr8 rfl (by simp [Value.oneCell']) ?_; intro X HX9 hX9; have HXB := hide HX9; have HXF := hide hX9; clear HX9 hX9))
  have v0 := cells_of (unhide HXB) 0 _ rfl
  have v1 := cells_of (unhide HXB) 1 _ rfl
  have v2 := cells_of (unhide HXB) 2 _ rfl
  have v3 := cells_of (unhide HXB) 3 _ rfl
  have v4 := cells_of (unhide HXB) 4 _ rfl
  have v5 := cells_of (unhide HXB) 5 _ rfl
  have v6 := cells_of (unhide HXB) 6 _ rfl
  have v7 := cells_of (unhide HXB) 7 _ rfl
  have hz := unhide HFz
  have f9 : Fr (fun k => k = D) w0 X := (unhide HXF).upon2 (unhide HFU) (fun q hq => by omega)
  have r9 : RdAt X D rv0 bs (nxt bs (nxt bs p)) := (unhide H0).keep (unhide HRU) f9 ((unhide HXF).block D (by have := (unhide HFU).size; omega) (by omega))
  have a9 := fun W hW => (unhide HAT) W (Fr.tr ((unhide HXF).mono (fun q hq => .inl hq)) (Fr.mono hW (fun q hq => .inr hq)))
  exact bodyPost_ret (v := .agg #[.int .i64 d.cols, .int .i64 d.rows, .slice (some ⟨gb, gk, none⟩) d.R gc, .int .i64 d.row, .int .i64 d.col, .bool d.late, .slice ha d.hold.length hc, .slice ba d.nb bc]) (by simp [results, Tryz.results87, go_sem, v0, v1, v2, v3, v4, v5, v6, v7]) rfl ⟨_, _, _, rfl, a9, r9, f9⟩
set_option linter.unusedSimpArgs false in
set_option maxRecDepth 10000 in
set_option maxHeartbeats 4000000 in
theorem l2Spoil_6 (D : Nat) (rv0 : Value) (bs : List Int) (p0 p : Nat) (d : SD) (gv : Value) (rv : Nat → Value) (hv bv : Value) (w0 w : World) (h0 : RdAt w0 D rv0 bs p0) (hr : RdAt w D rv0 bs p) (f0 : Fr (fun k => k = D) w0 w) (ho : OwnFS w w0.heap.size d gv rv hv bv) (hk : OkP d) (hB : Bytes bs) (hl : bs.length ≤ 16777216) (x y : Nat) (hx : rdN bs p = x) (hy : rdN bs (nxt bs p) = y) (hc8 : x % 8 = 6) :
    Calls Tryz.prog 87 #[.pointer (some ⟨D, 0, none⟩), scrV d gv hv bv] w fun e w' => ∃ gv' hv' bv', e = .returned (scrV { d with hold := d.hold ++ List.replicate (32 + y % 2) 48 } gv' hv' bv') ∧ (∀ W, Fr (fun q => q < w0.heap.size) w' W → ScrAt W { d with hold := d.hold ++ List.replicate (32 + y % 2) 48 } gv' hv' bv') ∧ RdAt w' D rv0 bs (nxt bs (nxt bs p)) ∧ Fr (fun k => k = D) w0 w' := by
  obtain ⟨n, hn⟩ : ∃ n : Nat, n = 32 + y % 2 := ⟨_, rfl⟩
  rw [← hn]
  have hn33 : n ≤ 33 := by omega
  have hh32 := hk.hold
  have tn : (y : Int).tmod 2 = (n : Int) - 32 := by rw [show (y : Int).tmod 2 = _ from tmod_nat y 2]; omega
  have wn : IntKind.i64.wrap (32 + ((n : Int) - 32)) = (n : Int) := by rw [IntKind.wrap_i64] <;> omega
  clear hn
  have hDw0 : D < w0.heap.size := lt_of_cell h0.1
  have hz0 := f0.size
  obtain ⟨gb, gk, gc, _, hgv, _⟩ := id ho.1.1
  obtain ⟨ha, hc, hhv⟩ := owns_ln ho.2.1
  obtain ⟨ba, bc, hbv⟩ : ∃ a c, bv = .slice a d.nb c := by obtain ⟨_, h9, _⟩ := ho.2.2; exact owns_ln h9
  subst hgv
  subst hhv
  subst hbv
  obtain ⟨hxI, hx255⟩ := rdN_is hB p
  obtain ⟨hyI, hy255⟩ := rdN_is hB (nxt bs p)
  rw [hx] at hxI hx255
  rw [hy] at hyI hy255
  have hb0 := sp_alloc w d (.slice (some ⟨gb, gk, none⟩) d.R gc) (.slice ha d.hold.length hc) (.slice ba d.nb bc)
  obtain ⟨V, hV⟩ : ∃ V, V = (w.alloc (.cells #[.int .i64 d.cols, .int .i64 d.rows, .slice (some ⟨gb, gk, none⟩) d.R gc, .int .i64 d.row, .int .i64 d.col, .bool d.late, .slice ha d.hold.length hc, .slice ba d.nb bc] 26)).alloc (.cells #[.int .i64 0, .int .i64 0, .slice none 0 0, .int .i64 0, .int .i64 0, .bool false, .slice none 0 0, .slice none 0 0] 26) := ⟨_, rfl⟩
  rw [← hV] at hb0
  have HN1 := hide (next_any D rv0 bs p V (hr.ext hb0.ext) hB hl)
  rw [hxI] at HN1
  have HVV := hide hV
  have HSP := hide hb0
  have H0 := hide h0
  have HF0 := hide f0
  have HO := hide ho
  have HK := hide hk
  have HYI := hide hyI
  clear h0 hr f0 ho hk hV hb0 hx hy hxI hyI
  unfold scrV
  go_enter Tryz.func87, Tryz.ntmps87
  go_wp2_with fail
  rw [← unhide HVV]
  clear HVV
  refine (unhide HN1).mono ?_
  rintro e w1 ⟨rfl, hr1, f1⟩
  rw [show (if p < bs.length then p + 1 else p) = nxt bs p from rfl] at hr1
  have HN2 := hide (next_any D rv0 bs (nxt bs p) w1 hr1 hB hl)
  rw [unhide HYI] at HN2
  have HF1 := hide f1
  clear HN1 hr1 f1
  go_wp2_with fail
  refine (unhide HN2).mono ?_
  rintro e w2 ⟨rfl, hr2, f2⟩
  rw [show (if nxt bs p < bs.length then nxt bs p + 1 else nxt bs p) = nxt bs (nxt bs p) from rfl] at hr2
  have f3 : Fr (fun k => k = D) V w2 := Fr.tr (unhide HF1) f2
  have hSB := f3.kept (unhide HSP).s (by omega)
  have hSZ := f3.kept (unhide HSP).z (by omega)
  have hF2 : Fr (fun k => k = D) w0 w2 := Fr.tr (unhide HF0) (Fr.tr (Fr.of_ext (unhide HSP).ext) f3)
  have hlow : ∀ g, SFoot d (.slice (some ⟨gb, gk, none⟩) d.R gc) rv (.slice ha d.hold.length hc) (.slice ba d.nb bc) g → w0.heap.size ≤ g ∧ g < w.heap.size := fun g hg => (unhide HO).foot hg
  have hO2 := ((unhide HO).ext (unhide HSP).ext).fr f3 (fun g hg e => by have := (hlow g hg).1; omega)
  have HLOW := hide hlow
  have HR2 := hide hr2
  have HSB := hide hSB
  have HSZ := hide hSZ
  have HF2 := hide hF2
  have HO2 := hide hO2
  have zw2 : w.heap.size + 1 < w2.heap.size := lt_of_block hSZ
  clear HN2 hr2 f2 f3 hSB hSZ hF2 hO2 HF1 HSP hlow
  have t8 : (x : Int).tmod 8 = 6 := by rw [show (x : Int).tmod 8 = _ from tmod_nat x 8, hc8]; rfl
  obtain ⟨i0, hi0, hq0, hq1, hq2⟩ := info_parts infoByteA
  go_wp2_with fail
  go_loopw [7] (fun iv wr => ∃ (t : Nat) (a : Option Addr) (cc : Nat), t ≤ n ∧ iv = .int .i64 t ∧ Hid (wr.heap[w.heap.size]? = some (.cells #[.int .i64 d.cols, .int .i64 d.rows, .slice (some ⟨gb, gk, none⟩) d.R gc, .int .i64 d.row, .int .i64 d.col, .bool d.late, .slice a (d.hold.length + t) cc, .slice ba d.nb bc] 26 (0, 0))) ∧ Hid (wr.heap[w.heap.size + 1]? = some (.cells #[.int .i64 0, .int .i64 0, .slice none 0 0, .int .i64 0, .int .i64 0, .bool false, .slice none 0 0, .slice none 0 0] 26 (0, 0))) ∧ Hid (OwnFS wr w0.heap.size { d with hold := d.hold ++ List.replicate t 48 } (.slice (some ⟨gb, gk, none⟩) d.R gc) rv (.slice a (d.hold.length + t) cc) (.slice ba d.nb bc)) ∧ Hid (Fr (fun k => k = D) w0 wr) ∧ Hid (wr.heap[D]? = w2.heap[D]?)) (fun iv _ => n - (intOf iv).toNat)
  case atStart => exact ⟨0, ha, hc, Nat.zero_le _, rfl, by rw [Nat.add_zero]; exact HSB, HSZ, hide (by rw [Nat.add_zero, List.replicate_zero, List.append_nil]; exact unhide HO2), HF2, hide rfl⟩
  case round =>
    obtain ⟨t, a, cc, ht, rfl, HBt, HZt, HOt, HFt, HDt⟩ := hrel
    have c6 : wr.cell? ⟨w.heap.size, 6, none⟩ = some (.slice a (d.hold.length + t) cc) := cells_of (unhide HBt) 6 _ rfl
    have zr := (unhide HFt).size
    have hlt9 : (d.hold ++ List.replicate t 48).length = d.hold.length + t := by simp
    have zb := lt_of_block (unhide HZt)
    by_cases hlt : t < n
    · have b1 : (t : Int) < (n : Int) := by omega
      have wt : IntKind.i64.wrap ((t : Int) + 1) = (t : Int) + 1 := by rw [IntKind.wrap_i64] <;> omega
      have c6a : ∀ o, (wr.alloc o).cell? ⟨w.heap.size, 6, none⟩ = some (.slice a (d.hold.length + t) cc) := fun o => ((Ext.refl wr).alloc o).cell c6
      obtain ⟨U1, hU1⟩ : ∃ V, V = wr.alloc (.cells #[.int .u8 48] 5) := ⟨_, rfl⟩
      have EU : Ext wr U1 := by rw [hU1]; exact (Ext.refl _).alloc _
      have HSr : Hid (Src U1 1 (.slice (some ⟨wr.heap.size, 0, none⟩) 1 1) 1 (([48] : List Int).map (Value.int .u8))) := hide (by rw [hU1]; exact Src.made _ _ _ rfl (by simp [Value.oneCell']))
      have hown : wr.ownsRow w0.heap.size 5 1 (.slice a (d.hold.length + t) cc) (d.hold.length + t) ((d.hold ++ List.replicate t 48).map (Value.int .u8)) := by have h9 : wr.ownsRow w0.heap.size 5 1 (.slice a (d.hold.length + t) cc) (d.hold ++ List.replicate t 48).length ((d.hold ++ List.replicate t 48).map (Value.int .u8)) := (unhide HOt).2.1; rwa [hlt9] at h9
      have HU1 := hide hU1
      have HEU := hide EU
      have HOw := hide hown
      have zU := EU.size
      clear hU1 EU hown
      go_wp2_with (at_builtin; refine StopQ.intro ?_)
      show wpList _ _ _ _ _ _
      rw [← unhide HU1]
      refine wpList_app rfl _ _ 22 rfl w0.heap.size 5 i0 (.int .u8 0) 1 1 Tryz.underlying22 hi0 hq0 hq1 hq2 rfl (by decide) _ _ _ rfl ((unhide HEU).owns (unhide HOw)) _ 1 (([48] : List Int).map (Value.int .u8)) rfl (unhide HSr) (by unfold maxLen; omega) (by omega) (by omega) ?_
      intro v5 w5 o5 G5 _
      obtain ⟨a5, c5, rfl⟩ := owns_ln o5
      have F5 := Fr.grown (S := fun q => Value.ownBlock (.slice a (d.hold.length + t) cc) = some q) (Fr.refl _ U1) G5 (fun q hq => hq)
      have F6 : Fr (fun q => Value.ownBlock (.slice a (d.hold.length + t) cc) = some q) wr w5 := Fr.tr (Fr.of_ext (unhide HEU)) F5
      have nb := owns_not_blk (unhide HOw) (unhide HBt) (by decide)
      have nz := owns_not_blk (unhide HOw) (unhide HZt) (by decide)
      have hb5 := F6.kept (unhide HBt) nb
      have hz5 := F6.kept (unhide HZt) nz
      have m6 : w5.cell? ⟨w.heap.size, 6, none⟩ = some (.slice a (d.hold.length + t) cc) := cells_of hb5 6 _ rfl
      have m6f : w5.frozen? ⟨w.heap.size, 6, none⟩ = false := Lib.frozen_of_heap hb5 6
      have fU : Fr (fun q => q = w.heap.size) w5 (w5.setCell ⟨w.heap.size, 6, none⟩ (.slice a5 (d.hold.length + t + 1) c5)) := Fr.setCell (S := fun q => q = w.heap.size) (Fr.refl _ _) (a := ⟨w.heap.size, 6, none⟩) rfl _
      have kn := (unhide HOt).kinds
      have nfoot : ∀ {w9 : World} {b9 : Nat} {T9 : TypeId} {sz n9 : Nat} {u9 : Value} {xs9 : List Value}, w9.ownsRow b9 T9 sz u9 n9 xs9 → T9 ≠ 26 → w9.heap[w.heap.size]? = some (.cells #[.int .i64 d.cols, .int .i64 d.rows, .slice (some ⟨gb, gk, none⟩) d.R gc, .int .i64 d.row, .int .i64 d.col, .bool d.late, .slice a (d.hold.length + t) cc, .slice ba d.nb bc] 26 (0, 0)) → ∀ g, u9.ownBlock = some g → ¬ g = w.heap.size := fun h9 hT h8 g hg e => owns_not_blk h9 h8 hT (by rw [← e]; exact hg)
      have HBn : Hid ((w5.setCell ⟨w.heap.size, 6, none⟩ (.slice a5 (d.hold.length + t + 1) c5)).heap[w.heap.size]? = some (.cells #[.int .i64 d.cols, .int .i64 d.rows, .slice (some ⟨gb, gk, none⟩) d.R gc, .int .i64 d.row, .int .i64 d.col, .bool d.late, .slice a5 (d.hold.length + t + 1) c5, .slice ba d.nb bc] 26 (0, 0))) := hide (set_blk2 hb5 rfl)
      have HZn := hide (fU.kept hz5 (by omega))
      have gr5 : OwnGF w5 w0.heap.size (.slice (some ⟨gb, gk, none⟩) d.R gc) rv d.R d.C (fun i j => .string (d.tx i j)) (fun i j => .bool (d.hf i j)) := (unhide HOt).1.fr F6 (fun g hg e => (kn.1 g hg).1 e)
      have bk5 : Own1 w5 w0.heap.size 9 (.slice ba d.nb bc) d.nb (fun j => .string (d.bk j)) := (unhide HOt).2.2.fr F6 (fun g hg e => kn.2 g e hg)
      have HOn : Hid (OwnFS (w5.setCell ⟨w.heap.size, 6, none⟩ (.slice a5 (d.hold.length + t + 1) c5)) w0.heap.size { d with hold := d.hold ++ List.replicate (t + 1) 48 } (.slice (some ⟨gb, gk, none⟩) d.R gc) rv (.slice a5 (d.hold.length + t + 1) c5) (.slice ba d.nb bc)) := hide ⟨gr5.fr fU (fun g hg e => by
          rcases hg with hg | ⟨q, hq, hg⟩
          · obtain ⟨g', k', c', cur, e1, _, h8, _⟩ := gr5.1
            rw [e1] at hg
            have e2 : g' = g := Option.some.inj hg
            rw [e2, e, hb5] at h8
            simp at h8
          · obtain ⟨_, h9, _⟩ := gr5.2.1 q hq
            exact nfoot h9 (by decide) hb5 g hg e), by
          have h9 := fU.owns o5 (nfoot o5 (by decide) hb5)
          rw [← List.map_append, List.append_assoc, show List.replicate t 48 ++ ([48] : List Int) = List.replicate (t + 1) 48 from by rw [List.replicate_succ']] at h9
          have e9 : (d.hold ++ List.replicate (t + 1) 48).length = d.hold.length + t + 1 := by simp; omega
          show World.ownsRow _ _ _ _ _ (d.hold ++ List.replicate (t + 1) 48).length _
          rw [e9]
          exact h9, by
          obtain ⟨xs9, h9, h8⟩ := bk5
          exact ⟨xs9, fU.owns h9 (nfoot h9 (by decide) hb5), h8⟩⟩
      have HFn : Hid (Fr (fun k => k = D) w0 (w5.setCell ⟨w.heap.size, 6, none⟩ (.slice a5 (d.hold.length + t + 1) c5))) := hide (fU.upon2 (by
        have g1 := unhide HFt
        exact ⟨F6.os.trans g1.os, F6.tape.trans g1.tape, F6.output.trans g1.output, Nat.le_trans g1.size F6.size, fun q hq hn => (F6.block q (Nat.lt_of_lt_of_le hq g1.size) (fun e => by have := ((unhide HOw).lt q e).1; omega)).trans (g1.block q hq hn)⟩) (fun q hq => by omega))
      have HDn : Hid ((w5.setCell ⟨w.heap.size, 6, none⟩ (.slice a5 (d.hold.length + t + 1) c5)).heap[D]? = w2.heap[D]?) := hide ((fU.block D (by have := F6.size; omega) (by omega)).trans ((F6.block D (by omega) (fun e => by have := ((unhide HOw).lt D e).1; omega)).trans (unhide HDt)))
      clear o5 G5 F5 F6 nb nz hb5 hz5 fU kn nfoot gr5 bk5
      go_wp2
      go_roundw
      case rel => exact ⟨t + 1, a5, c5, by omega, by go_num, HBn, HZn, HOn, HFn, HDn⟩
      case measure => simp [intOf]; omega
    · obtain rfl : t = n := by omega
      have b1 : ¬ (t : Int) < (t : Int) := by omega
      have HQB := HBt
      have HQZ := HZt
      have HFz : Hid (w0.heap.size ≤ w.heap.size) := hide hz0
      have HFU := HFt
      have HRU := hide ((unhide H0).keep (unhide HR2) (unhide HFt) (unhide HDt))
      have HAT : Hid (∀ W, Fr (fun q => q = w.heap.size + 1 ∨ q < w0.heap.size) wr W → ScrAt W { d with hold := d.hold ++ List.replicate t 48 } (.slice (some ⟨gb, gk, none⟩) d.R gc) (.slice a (d.hold.length + t) cc) (.slice ba d.nb bc)) := hide (fun W hW => by
        refine ((unhide HOt).fr hW (fun g hg e => ?_)).reads
        rcases e with e | e
        rotate_left
        · have := ((unhide HOt).foot hg).1; omega
        rcases hg with (hg | ⟨q, hq, hg⟩) | hg | hg
        · obtain ⟨g', k', c', cur, e1, _, h8, _⟩ := (unhide HOt).1.1
          rw [e1] at hg
          have e2 : g' = g := Option.some.inj hg
          rw [e2, e, unhide HZt] at h8
          simp at h8
        · obtain ⟨_, h9, _⟩ := (unhide HOt).1.2.1 q hq
          exact owns_not_blk h9 (unhide HZt) (by decide) (by rw [← e]; exact hg)
        · exact owns_not_blk (unhide HOt).2.1 (unhide HZt) (by decide) (by rw [← e]; exact hg)
        · obtain ⟨_, h9, _⟩ := (unhide HOt).2.2
          exact owns_not_blk h9 (unhide HZt) (by decide) (by rw [← e]; exact hg))
      go_wp2_with (first
        | (refine wpList_load_blk rfl 26 _ rfl w.heap.size rfl _ _ _ _ (unhide HQB) Tryz.underlying26 rfl infoScr8 ?_)
        | (refine wpList_store_blk rfl 26 _ _ rfl rfl (w.heap.size + 1) rfl _ _ _ rfl (unhide HQZ) infoScr8 rfl (by simp [Value.oneCell']) ?_; intro X HX9 hX9; have HXB := hide HX9; have HXF := hide hX9; clear HX9 hX9))
      have v0 := cells_of (unhide HXB) 0 _ rfl
      have v1 := cells_of (unhide HXB) 1 _ rfl
      have v2 := cells_of (unhide HXB) 2 _ rfl
      have v3 := cells_of (unhide HXB) 3 _ rfl
      have v4 := cells_of (unhide HXB) 4 _ rfl
      have v5 := cells_of (unhide HXB) 5 _ rfl
      have v6 := cells_of (unhide HXB) 6 _ rfl
      have v7 := cells_of (unhide HXB) 7 _ rfl
      have hz := unhide HFz
      have f9 : Fr (fun k => k = D) w0 X := (unhide HXF).upon2 (unhide HFU) (fun q hq => by omega)
      have r9 : RdAt X D rv0 bs (nxt bs (nxt bs p)) := (unhide H0).keep (unhide HRU) f9 ((unhide HXF).block D (by have := (unhide HFU).size; omega) (by omega))
      have a9 := fun W hW => (unhide HAT) W (Fr.tr ((unhide HXF).mono (fun q hq => .inl hq)) (Fr.mono hW (fun q hq => .inr hq)))
      exact bodyPost_ret (v := .agg #[.int .i64 d.cols, .int .i64 d.rows, .slice (some ⟨gb, gk, none⟩) d.R gc, .int .i64 d.row, .int .i64 d.col, .bool d.late, .slice a (d.hold.length + t) cc, .slice ba d.nb bc]) (by simp [results, Tryz.results87, go_sem, v0, v1, v2, v3, v4, v5, v6, v7]) rfl ⟨_, _, _, rfl, a9, r9, f9⟩
theorem l2Spoil_is (D : Nat) (rv0 : Value) (bs : List Int) (p0 p : Nat) (d : SD) (gv : Value) (rv : Nat → Value) (hv bv : Value) (w0 w : World) (h0 : RdAt w0 D rv0 bs p0) (hr : RdAt w D rv0 bs p) (f0 : Fr (fun k => k = D) w0 w) (ho : OwnFS w w0.heap.size d gv rv hv bv) (hk : OkP d) (hB : Bytes bs) (hl : bs.length ≤ 16777216) :
    Calls Tryz.prog 87 #[.pointer (some ⟨D, 0, none⟩), scrV d gv hv bv] w fun e w' => ∃ gv' hv' bv', e = .returned (scrV (d.spl (rdN bs p) (rdN bs (nxt bs p))) gv' hv' bv') ∧ (∀ W, Fr (fun q => q < w0.heap.size) w' W → ScrAt W (d.spl (rdN bs p) (rdN bs (nxt bs p))) gv' hv' bv') ∧ RdAt w' D rv0 bs (nxt bs (nxt bs p)) ∧ Fr (fun k => k = D) w0 w' := by
  obtain ⟨x, hx⟩ : ∃ x, rdN bs p = x := ⟨_, rfl⟩
  obtain ⟨y, hy⟩ : ∃ y, rdN bs (nxt bs p) = y := ⟨_, rfl⟩
  have h8 : x % 8 < 8 := Nat.mod_lt _ (by decide)
  rw [hx, hy]
  unfold SD.spl
  by_cases c0 : x % 8 = 0
  · rw [if_pos c0]
    exact l2Spoil_0 D rv0 bs p0 p d gv rv hv bv w0 w h0 hr f0 ho hk hB hl x y hx hy c0
  rw [if_neg c0]
  by_cases c1 : x % 8 = 1
  · rw [if_pos c1]
    exact l2Spoil_1 D rv0 bs p0 p d gv rv hv bv w0 w h0 hr f0 ho hk hB hl x y hx hy c1
  rw [if_neg c1]
  by_cases c2 : x % 8 = 2
  · rw [if_pos c2]
    exact l2Spoil_2 D rv0 bs p0 p d gv rv hv bv w0 w h0 hr f0 ho hk hB hl x y hx hy c2
  rw [if_neg c2]
  by_cases c3 : x % 8 = 3
  · rw [if_pos c3]
    exact l2Spoil_3 D rv0 bs p0 p d gv rv hv bv w0 w h0 hr f0 ho hk hB hl x y hx hy c3
  rw [if_neg c3]
  by_cases c4 : x % 8 = 4
  · rw [if_pos c4]
    exact l2Spoil_4 D rv0 bs p0 p d gv rv hv bv w0 w h0 hr f0 ho hk hB hl x y hx hy c4
  rw [if_neg c4]
  by_cases c5 : x % 8 = 5
  · rw [if_pos c5]
    exact l2Spoil_5 D rv0 bs p0 p d gv rv hv bv w0 w h0 hr f0 ho hk hB hl x y hx hy c5
  rw [if_neg c5]
  by_cases c6 : x % 8 = 6
  · rw [if_pos c6]
    exact l2Spoil_6 D rv0 bs p0 p d gv rv hv bv w0 w h0 hr f0 ho hk hB hl x y hx hy c6
  rw [if_neg c6]
  exact l2Spoil_7 D rv0 bs p0 p d gv rv hv bv w0 w h0 hr f0 ho hk hB hl x y hx hy (by omega)
end Go.Proofs.YtinfdhbnljnifaaGreatDoor
