import Derived.Test.YtmlkpdbfnffoaaaGreatDoorSzSes
import Derived.Test.YtmlkpdbfnffoaaaGreatDoorGap
namespace Go.Proofs.YtmlkpdbfnffoaaaGreatDoor
open Go.RowKit
theorem Calls.named {P : Program} {F : Nat} {a : Array Value} {W : World} {Q : Ending → World → Prop} (h : ∀ X, X = W → Calls P F a X Q) : Calls P F a W Q := h W rfl
theorem Fr.two {S : Nat → Prop} {W W' : World} {p : Nat} {o : Obj} (h : Fr S W W') (hp : W.heap[p]? = some o) (hS : ¬ S p) : W'.heap[p]? = some o := Fr.kept h hp hS
theorem zap : (Tryz.prog.info? 40).map (·.size) = some 17 := by kernel_rfl
theorem zkJ (a b c : ByteArray) (v : Value) (n : Nat) (tx hf : Nat → ByteArray) (w : World) (hv : zaH w v n (fun j => .string (tx j)) (fun j => .string (hf j))) (hn : n ≤ 1048576) :
  Calls Tryz.prog 31 #[.agg #[.string a, .string b, .string c, v]] w fun e w' => ∃ ua uc, e = .returned (.agg #[.string a, .string b, .string c, .slice ua n uc]) ∧ Hid (zaR w' w.heap.size 132 (.slice ua n uc) n (fun j => .string (tx j)) (fun j => .string (hf j))) ∧ Ext w w' := by
 refine (zkC a b c v n tx hf w hv hn).mono ?_
 rintro e w' ⟨rfl, o, F⟩
 refine ⟨_, _, rfl, zi ?_, F⟩
 obtain ⟨ys, h1, h2⟩ := o
 exact ⟨ys, zas h1 (by omega), h2⟩
theorem zgc (h : Value) (bs : List Int) (p : Bool) (w : World) (hr : zag w .u8 h bs) (hx : bs.length ≤ 4398046511104) :
  Calls Tryz.prog 32 #[.agg #[h, .bool p]] w fun e w' => ∃ ua uc, e = .returned (.agg #[.slice ua bs.length uc, .bool p]) ∧ Hid (w'.ownsRow w.heap.size 5 1 (.slice ua bs.length uc) bs.length (bs.map (Value.int .u8))) ∧ Ext w w' := by
 refine (zgl h bs p w hr hx).mono ?_
 rintro e w' ⟨rfl, o, F⟩
 exact ⟨_, _, rfl, zi (zas o (by omega)), F⟩
theorem zdr (v : Value) (n : Nat) (tx : Nat → ByteArray) (w : World) (hv : zah w v n (fun j => .string (tx j))) (hn : n ≤ 1048576) :
  Calls Tryz.prog 33 #[v] w fun e w' => ∃ ua uc, e = .returned (.slice ua n uc) ∧ Hid (zaD w' w.heap.size 9 (.slice ua n uc) n (fun j => .string (tx j))) ∧ Ext w w' := by
 refine (zgB v n tx w hv hn).mono ?_
 rintro e w' ⟨rfl, o, F⟩
 exact ⟨_, _, rfl, zi o, F⟩
set_option maxRecDepth 10000 in
set_option maxHeartbeats 16000000 in
theorem zhB (s : SS) (u h p q l d : Value) (w : World) (hA : zbb w s u h p q l d) (hb : s.bulk ≤ 1048576) :
  Calls Tryz.prog 8 #[zaK s u h p q l d] w fun e w' => ∃ u h p q l d, e = .returned (zaK s u h p q l d) ∧ zax w' w.heap.size s u h p q l d ∧ Ext w w' := by
 unfold SS.bulk at hb
 obtain ⟨ua, uc, ha, hc, pa, pc, qa, qc, la, lc, da, dc, rfl, rfl, rfl, rfl, rfl, rfl⟩ := hA.forms
 have hL := zi (fun W (hW : Ext w W) => zkJ s.la s.lb s.lc _ s.un s.ut s.uh W (hA.un.ext hW) (by omega))
 have hK := zi (fun W (hW : Ext w W) => zgc _ s.kh s.kp W (hA.kh.ext hW) (by omega))
 have hP := zi (fun W (hW : Ext w W) => zdr _ s.pn s.pt W (hA.pa.ext hW) (by omega))
 have hQ := zi (fun W (hW : Ext w W) => zdr _ s.qn s.qt W (hA.qu.ext hW) (by omega))
 have hO := zi (fun W (hW : Ext w W) => zdr _ s.ln s.lt W (hA.lo.ext hW) (by omega))
 have hD := zi (fun W (hW : Ext w W) => zdr _ s.dn s.dt W (hA.dn.ext hW) (by omega))
 clear hA hb
 obtain ⟨V, hV⟩ : ∃ V, V = ((w.alloc (.cells (sC s (.slice ua s.un uc) (.slice ha s.kh.length hc) (.slice pa s.pn pc) (.slice qa s.qn qc) (.slice la s.ln lc) (.slice da s.dn dc)) 30)).alloc (.cells zS7 40)).alloc (.cells #[.string s.pr, .int .i64 s.cols, .int .i64 s.rows, .string { data := #[] }, .string { data := #[] }, .string { data := #[] }, .slice none 0 0, .slice none 0 0, .bool false, .bool false, .slice none 0 0, .int .i64 0, .string { data := #[] }, .bool false, .slice none 0 0, .slice none 0 0, .slice none 0 0] 40) := ⟨_, rfl⟩
 have E0 : Ext w V := by rw [hV]; exact (((Ext.refl w).alloc _).alloc _).alloc _
 have sz0 : w.heap.size + 1 + 1 + 1 = V.heap.size := by rw [hV]; simp
 have HB0 : Hid (V.heap[w.heap.size]? = some (.cells (sC s (.slice ua s.un uc) (.slice ha s.kh.length hc) (.slice pa s.pn pc) (.slice qa s.qn qc) (.slice la s.ln lc) (.slice da s.dn dc)) 30 (0, 0))) := zi (by rw [hV]; exact (((Ext.refl _).alloc _).alloc _).kept (zn w _))
 have HB1 : Hid (V.heap[w.heap.size + 1]? = some (.cells zS7 40 (0, 0))) := zi (by rw [hV]; refine ((Ext.refl _).alloc _).kept ?_; have h := zn (w.alloc (.cells (sC s (.slice ua s.un uc) (.slice ha s.kh.length hc) (.slice pa s.pn pc) (.slice qa s.qn qc) (.slice la s.ln lc) (.slice da s.dn dc)) 30)) (.cells zS7 40); rw [show (w.alloc (.cells (sC s (.slice ua s.un uc) (.slice ha s.kh.length hc) (.slice pa s.pn pc) (.slice qa s.qn qc) (.slice la s.ln lc) (.slice da s.dn dc)) 30)).heap.size = w.heap.size + 1 by simp] at h; exact h)
 have HB2 : Hid (V.heap[w.heap.size + 1 + 1]? = some (.cells #[.string s.pr, .int .i64 s.cols, .int .i64 s.rows, .string { data := #[] }, .string { data := #[] }, .string { data := #[] }, .slice none 0 0, .slice none 0 0, .bool false, .bool false, .slice none 0 0, .int .i64 0, .string { data := #[] }, .bool false, .slice none 0 0, .slice none 0 0, .slice none 0 0] 40 (0, 0))) := zi (by rw [hV]; have h := zn ((w.alloc (.cells (sC s (.slice ua s.un uc) (.slice ha s.kh.length hc) (.slice pa s.pn pc) (.slice qa s.qn qc) (.slice la s.ln lc) (.slice da s.dn dc)) 30)).alloc (.cells zS7 40)) (.cells #[.string s.pr, .int .i64 s.cols, .int .i64 s.rows, .string { data := #[] }, .string { data := #[] }, .string { data := #[] }, .slice none 0 0, .slice none 0 0, .bool false, .bool false, .slice none 0 0, .int .i64 0, .string { data := #[] }, .bool false, .slice none 0 0, .slice none 0 0, .slice none 0 0] 40); rw [show ((w.alloc (.cells (sC s (.slice ua s.un uc) (.slice ha s.kh.length hc) (.slice pa s.pn pc) (.slice qa s.qn qc) (.slice la s.ln lc) (.slice da s.dn dc)) 30)).alloc (.cells zS7 40)).heap.size = w.heap.size + 1 + 1 by simp] at h; exact h)
 have HV := zi hV
 clear hV
 unfold zaK
 go_enter Tryz.func8, Tryz.ntmps8
 go_wp2_with fail
 rw [← zg HV]
 refine Calls.named ?_
 intro X1 hX1
 have FR1 : Fr (fun q => q = w.heap.size + 1 + 1) V X1 := by
  rw [hX1]
  repeat' first | refine Fr.setCell (S := fun q => q = w.heap.size + 1 + 1) ?_ (a := ⟨w.heap.size + 1 + 1, _, none⟩) rfl _ | exact Fr.refl _ _
 have EX1 : Ext w X1 := FR1.ext E0 (fun q hq => by omega)
 have HB2x : Hid (X1.heap[w.heap.size + 1 + 1]? = some (.cells #[.string s.pr, .int .i64 s.cols, .int .i64 s.rows, .string { data := #[] }, .string { data := #[] }, .string { data := #[] }, .slice none 0 0, .slice none 0 0, .bool false, .bool false, .slice none 0 0, .int .i64 0, .string { data := #[] }, .bool false, .slice none 0 0, .slice none 0 0, .slice none 0 0] 40 (0, 0))) := zi (by rw [hX1]; exact (zg HB2))
 replace HB0 := zi (FR1.kept (zg HB0) (by omega))
 replace HB1 := zi (FR1.kept (zg HB1) (by omega))
 replace HB2 := HB2x
 clear HB2x hX1
 refine ((zg hL) _ EX1).mono ?_
 rintro e w1 ⟨u1a, u1c, rfl, O1, F1⟩
 have E1 := EX1.trans F1
 have S1 := zi FR1.size
 have T1 := zi F1.size
 have LT1 := zi (fun g hg => (zg O1).lt g hg)
 have B1 : Hid (w.heap.size + 1 + 1 < X1.heap.size) := zi (zt (zg HB2))
 replace HB0 := F1.hk HB0
 replace HB1 := F1.hk HB1
 replace HB2 := F1.hk HB2
 clear FR1 EX1 F1
 have a1_7 := zk (zg HB0) 7 _ rfl
 have a1_8 := zk (zg HB0) 8 _ rfl
 have f1 : ∀ i, w1.frozen? ⟨w.heap.size + 1 + 1, i, none⟩ = false := fun i => Lib.frozen_of_heap (zg HB2) i
 have o1_3 : w1.cell? ⟨w.heap.size + 1 + 1, 3, none⟩ = some (.string { data := #[] }) := zk (zg HB2) 3 _ rfl
 have o1_4 : w1.cell? ⟨w.heap.size + 1 + 1, 4, none⟩ = some (.string { data := #[] }) := zk (zg HB2) 4 _ rfl
 have o1_5 : w1.cell? ⟨w.heap.size + 1 + 1, 5, none⟩ = some (.string { data := #[] }) := zk (zg HB2) 5 _ rfl
 have o1_6 := zk (zg HB2) 6 _ rfl
 go_wp2_with fail
 clear a1_7 a1_8 f1 o1_3 o1_4 o1_5 o1_6
 refine Calls.named ?_
 intro X2 hX2
 have FR2 : Fr (fun q => q = w.heap.size + 1 + 1) w1 X2 := by
  rw [hX2]
  repeat' first | refine Fr.setCell (S := fun q => q = w.heap.size + 1 + 1) ?_ (a := ⟨w.heap.size + 1 + 1, _, none⟩) rfl _ | exact Fr.refl _ _
 have EX2 : Ext w X2 := FR2.ext E1 (fun q hq => by omega)
 have HB2x : Hid (X2.heap[w.heap.size + 1 + 1]? = some (.cells #[.string s.pr, .int .i64 s.cols, .int .i64 s.rows, .string s.la, .string s.lb, .string s.lc, .slice u1a s.un u1c, .slice none 0 0, .bool false, .bool false, .slice none 0 0, .int .i64 0, .string { data := #[] }, .bool false, .slice none 0 0, .slice none 0 0, .slice none 0 0] 40 (0, 0))) := zi (by rw [hX2]; exact (zaF (i := 6) (v := .slice u1a s.un u1c) (zaF (i := 5) (v := .string s.lc) (zaF (i := 4) (v := .string s.lb) (zaF (i := 3) (v := .string s.la) (zg HB2))))))
 replace HB0 := zi (FR2.kept (zg HB0) (by omega))
 replace HB1 := zi (FR2.kept (zg HB1) (by omega))
 replace HB2 := HB2x
 clear HB2x hX2
 refine ((zg hK) _ EX2).mono ?_
 rintro e w2 ⟨h2a, h2c, rfl, O2, F2⟩
 have E2 := EX2.trans F2
 have S2 := zi FR2.size
 have T2 := zi F2.size
 have LT2 := zi (fun g hg => (zg O2).lt g hg)
 replace O1 := zi (((zg O1).fr FR2 (fun g hg e9 => by have z9 := ((zg O1).lt g hg).1; have s9 := zg B1; omega)).ext F2)
 have B2 : Hid (w.heap.size + 1 + 1 < X2.heap.size) := zi (zt (zg HB2))
 replace HB0 := F2.hk HB0
 replace HB1 := F2.hk HB1
 replace HB2 := F2.hk HB2
 clear FR2 EX2 F2
 have a2_9 := zk (zg HB0) 9 _ rfl
 have a2_10 := zk (zg HB0) 10 _ rfl
 have f2 : ∀ i, w2.frozen? ⟨w.heap.size + 1 + 1, i, none⟩ = false := fun i => Lib.frozen_of_heap (zg HB2) i
 have o2_7 := zk (zg HB2) 7 _ rfl
 have o2_8 := zk (zg HB2) 8 _ rfl
 have o2_9 := zk (zg HB2) 9 _ rfl
 go_wp2_with fail
 clear a2_9 a2_10 f2 o2_7 o2_8 o2_9
 refine Calls.named ?_
 intro X3 hX3
 have FR3 : Fr (fun q => q = w.heap.size + 1 + 1) w2 X3 := by
  rw [hX3]
  repeat' first | refine Fr.setCell (S := fun q => q = w.heap.size + 1 + 1) ?_ (a := ⟨w.heap.size + 1 + 1, _, none⟩) rfl _ | exact Fr.refl _ _
 have EX3 : Ext w X3 := FR3.ext E2 (fun q hq => by omega)
 have HB2x : Hid (X3.heap[w.heap.size + 1 + 1]? = some (.cells #[.string s.pr, .int .i64 s.cols, .int .i64 s.rows, .string s.la, .string s.lb, .string s.lc, .slice u1a s.un u1c, .slice h2a s.kh.length h2c, .bool s.kp, .bool s.nav, .slice none 0 0, .int .i64 0, .string { data := #[] }, .bool false, .slice none 0 0, .slice none 0 0, .slice none 0 0] 40 (0, 0))) := zi (by rw [hX3]; exact (zaF (i := 9) (v := .bool s.nav) (zaF (i := 8) (v := .bool s.kp) (zaF (i := 7) (v := .slice h2a s.kh.length h2c) (zg HB2)))))
 replace HB0 := zi (FR3.kept (zg HB0) (by omega))
 replace HB1 := zi (FR3.kept (zg HB1) (by omega))
 replace HB2 := HB2x
 clear HB2x hX3
 refine ((zg hP) _ EX3).mono ?_
 rintro e w3 ⟨p3a, p3c, rfl, O3, F3⟩
 have E3 := EX3.trans F3
 have S3 := zi FR3.size
 have T3 := zi F3.size
 have LT3 := zi (fun g hg => (zg O3).lt g hg)
 replace O1 := zi (((zg O1).fr FR3 (fun g hg e9 => by have z9 := ((zg O1).lt g hg).1; have s9 := zg B1; omega)).ext F3)
 replace O2 := zi (F3.owns (FR3.owns (zg O2) (fun g hg e9 => by have z9 := ((zg O2).lt g hg).1; have s9 := zg B2; omega)))
 have B3 : Hid (w.heap.size + 1 + 1 < X3.heap.size) := zi (zt (zg HB2))
 replace HB0 := F3.hk HB0
 replace HB1 := F3.hk HB1
 replace HB2 := F3.hk HB2
 clear FR3 EX3 F3
 have a3_11 := zk (zg HB0) 11 _ rfl
 have a3_12 := zk (zg HB0) 12 _ rfl
 have a3_13 := zk (zg HB0) 13 _ rfl
 have a3_14 := zk (zg HB0) 14 _ rfl
 have f3 : ∀ i, w3.frozen? ⟨w.heap.size + 1 + 1, i, none⟩ = false := fun i => Lib.frozen_of_heap (zg HB2) i
 have o3_10 := zk (zg HB2) 10 _ rfl
 have o3_11 := zk (zg HB2) 11 _ rfl
 have o3_12 : w3.cell? ⟨w.heap.size + 1 + 1, 12, none⟩ = some (.string { data := #[] }) := zk (zg HB2) 12 _ rfl
 have o3_13 := zk (zg HB2) 13 _ rfl
 go_wp2_with fail
 clear a3_11 a3_12 a3_13 a3_14 f3 o3_10 o3_11 o3_12 o3_13
 refine Calls.named ?_
 intro X4 hX4
 have FR4 : Fr (fun q => q = w.heap.size + 1 + 1) w3 X4 := by
  rw [hX4]
  repeat' first | refine Fr.setCell (S := fun q => q = w.heap.size + 1 + 1) ?_ (a := ⟨w.heap.size + 1 + 1, _, none⟩) rfl _ | exact Fr.refl _ _
 have EX4 : Ext w X4 := FR4.ext E3 (fun q hq => by omega)
 have HB2x : Hid (X4.heap[w.heap.size + 1 + 1]? = some (.cells (sC s (.slice u1a s.un u1c) (.slice h2a s.kh.length h2c) (.slice p3a s.pn p3c) (.slice none 0 0) (.slice none 0 0) (.slice none 0 0)) 40 (0, 0))) := zi (by rw [hX4]; exact (zaF (i := 13) (v := .bool s.st) (zaF (i := 12) (v := .string s.dr) (zaF (i := 11) (v := .int .i64 s.at9) (zaF (i := 10) (v := .slice p3a s.pn p3c) (zg HB2))))))
 replace HB0 := zi (FR4.kept (zg HB0) (by omega))
 replace HB1 := zi (FR4.kept (zg HB1) (by omega))
 replace HB2 := HB2x
 clear HB2x hX4
 refine ((zg hQ) _ EX4).mono ?_
 rintro e w4 ⟨q4a, q4c, rfl, O4, F4⟩
 have E4 := EX4.trans F4
 have S4 := zi FR4.size
 have T4 := zi F4.size
 have LT4 := zi (fun g hg => (zg O4).lt g hg)
 replace O1 := zi (((zg O1).fr FR4 (fun g hg e9 => by have z9 := ((zg O1).lt g hg).1; have s9 := zg B1; omega)).ext F4)
 replace O2 := zi (F4.owns (FR4.owns (zg O2) (fun g hg e9 => by have z9 := ((zg O2).lt g hg).1; have s9 := zg B2; omega)))
 replace O3 := zi (((zg O3).fr FR4 (fun g hg e9 => by have z9 := ((zg O3).lt g hg).1; have s9 := zg B3; omega)).ext F4)
 have B4 : Hid (w.heap.size + 1 + 1 < X4.heap.size) := zi (zt (zg HB2))
 replace HB0 := F4.hk HB0
 replace HB1 := F4.hk HB1
 replace HB2 := F4.hk HB2
 clear FR4 EX4 F4
 have a4_15 := zk (zg HB0) 15 _ rfl
 have f4 : ∀ i, w4.frozen? ⟨w.heap.size + 1 + 1, i, none⟩ = false := fun i => Lib.frozen_of_heap (zg HB2) i
 have o4_14 := zk (zg HB2) 14 _ rfl
 go_wp2_with fail
 clear a4_15 f4 o4_14
 refine Calls.named ?_
 intro X5 hX5
 have FR5 : Fr (fun q => q = w.heap.size + 1 + 1) w4 X5 := by
  rw [hX5]
  repeat' first | refine Fr.setCell (S := fun q => q = w.heap.size + 1 + 1) ?_ (a := ⟨w.heap.size + 1 + 1, _, none⟩) rfl _ | exact Fr.refl _ _
 have EX5 : Ext w X5 := FR5.ext E4 (fun q hq => by omega)
 have HB2x : Hid (X5.heap[w.heap.size + 1 + 1]? = some (.cells (sC s (.slice u1a s.un u1c) (.slice h2a s.kh.length h2c) (.slice p3a s.pn p3c) (.slice q4a s.qn q4c) (.slice none 0 0) (.slice none 0 0)) 40 (0, 0))) := zi (by rw [hX5]; exact (zaF (i := 14) (v := .slice q4a s.qn q4c) (zg HB2)))
 replace HB0 := zi (FR5.kept (zg HB0) (by omega))
 replace HB1 := zi (FR5.kept (zg HB1) (by omega))
 replace HB2 := HB2x
 clear HB2x hX5
 refine ((zg hO) _ EX5).mono ?_
 rintro e w5 ⟨l5a, l5c, rfl, O5, F5⟩
 have E5 := EX5.trans F5
 have S5 := zi FR5.size
 have T5 := zi F5.size
 have LT5 := zi (fun g hg => (zg O5).lt g hg)
 replace O1 := zi (((zg O1).fr FR5 (fun g hg e9 => by have z9 := ((zg O1).lt g hg).1; have s9 := zg B1; omega)).ext F5)
 replace O2 := zi (F5.owns (FR5.owns (zg O2) (fun g hg e9 => by have z9 := ((zg O2).lt g hg).1; have s9 := zg B2; omega)))
 replace O3 := zi (((zg O3).fr FR5 (fun g hg e9 => by have z9 := ((zg O3).lt g hg).1; have s9 := zg B3; omega)).ext F5)
 replace O4 := zi (((zg O4).fr FR5 (fun g hg e9 => by have z9 := ((zg O4).lt g hg).1; have s9 := zg B4; omega)).ext F5)
 have B5 : Hid (w.heap.size + 1 + 1 < X5.heap.size) := zi (zt (zg HB2))
 replace HB0 := F5.hk HB0
 replace HB1 := F5.hk HB1
 replace HB2 := F5.hk HB2
 clear FR5 EX5 F5
 have a5_16 := zk (zg HB0) 16 _ rfl
 have f5 : ∀ i, w5.frozen? ⟨w.heap.size + 1 + 1, i, none⟩ = false := fun i => Lib.frozen_of_heap (zg HB2) i
 have o5_15 := zk (zg HB2) 15 _ rfl
 go_wp2_with fail
 clear a5_16 f5 o5_15
 refine Calls.named ?_
 intro X6 hX6
 have FR6 : Fr (fun q => q = w.heap.size + 1 + 1) w5 X6 := by
  rw [hX6]
  repeat' first | refine Fr.setCell (S := fun q => q = w.heap.size + 1 + 1) ?_ (a := ⟨w.heap.size + 1 + 1, _, none⟩) rfl _ | exact Fr.refl _ _
 have EX6 : Ext w X6 := FR6.ext E5 (fun q hq => by omega)
 have HB2x : Hid (X6.heap[w.heap.size + 1 + 1]? = some (.cells (sC s (.slice u1a s.un u1c) (.slice h2a s.kh.length h2c) (.slice p3a s.pn p3c) (.slice q4a s.qn q4c) (.slice l5a s.ln l5c) (.slice none 0 0)) 40 (0, 0))) := zi (by rw [hX6]; exact (zaF (i := 15) (v := .slice l5a s.ln l5c) (zg HB2)))
 replace HB0 := zi (FR6.kept (zg HB0) (by omega))
 replace HB1 := zi (FR6.kept (zg HB1) (by omega))
 replace HB2 := HB2x
 clear HB2x hX6
 refine ((zg hD) _ EX6).mono ?_
 rintro e w6 ⟨d6a, d6c, rfl, O6, F6⟩
 have E6 := EX6.trans F6
 have S6 := zi FR6.size
 have T6 := zi F6.size
 have LT6 := zi (fun g hg => (zg O6).lt g hg)
 replace O1 := zi (((zg O1).fr FR6 (fun g hg e9 => by have z9 := ((zg O1).lt g hg).1; have s9 := zg B1; omega)).ext F6)
 replace O2 := zi (F6.owns (FR6.owns (zg O2) (fun g hg e9 => by have z9 := ((zg O2).lt g hg).1; have s9 := zg B2; omega)))
 replace O3 := zi (((zg O3).fr FR6 (fun g hg e9 => by have z9 := ((zg O3).lt g hg).1; have s9 := zg B3; omega)).ext F6)
 replace O4 := zi (((zg O4).fr FR6 (fun g hg e9 => by have z9 := ((zg O4).lt g hg).1; have s9 := zg B4; omega)).ext F6)
 replace O5 := zi (((zg O5).fr FR6 (fun g hg e9 => by have z9 := ((zg O5).lt g hg).1; have s9 := zg B5; omega)).ext F6)
 have B6 : Hid (w.heap.size + 1 + 1 < X6.heap.size) := zi (zt (zg HB2))
 replace HB0 := F6.hk HB0
 replace HB1 := F6.hk HB1
 replace HB2 := F6.hk HB2
 clear FR6 EX6 F6
 have f6 : ∀ i, w6.frozen? ⟨w.heap.size + 1 + 1, i, none⟩ = false := fun i => Lib.frozen_of_heap (zg HB2) i
 have o6_16 := zk (zg HB2) 16 _ rfl
 have HB2s : Hid ((w6.setCell ⟨w.heap.size + 1 + 1, 16, none⟩ (.slice d6a s.dn d6c)).heap[w.heap.size + 1 + 1]? = some (.cells (sC s (.slice u1a s.un u1c) (.slice h2a s.kh.length h2c) (.slice p3a s.pn p3c) (.slice q4a s.qn q4c) (.slice l5a s.ln l5c) (.slice d6a s.dn d6c)) 40 (0, 0))) := zi (zaM (zg HB2) rfl)
 have HB1s : Hid ((w6.setCell ⟨w.heap.size + 1 + 1, 16, none⟩ (.slice d6a s.dn d6c)).heap[w.heap.size + 1]? = some (.cells zS7 40 (0, 0))) := zi (zat (zg HB1) (by omega))
 go_wp2_with (first
  | (refine zm rfl 40 _ rfl (w.heap.size + 1 + 1) rfl _ _ _ _ (zg HB2s) Tryz.underlying40 rfl zap ?_)
  | (refine zy rfl 40 _ _ rfl rfl (w.heap.size + 1) rfl _ _ _ rfl (zg HB1s) zap rfl (by simp [Value.oneCell']) ?_; intro U HB9 hU9; have HU9 := zi hU9; have HB9' := zi HB9; clear hU9 HB9))
 have HB9 := zg HB9'
 have hU : Fr (fun q => q = w.heap.size + 1 ∨ q = w.heap.size + 1 + 1) w6 U := (Fr.setCell (S := fun q => q = w.heap.size + 1 ∨ q = w.heap.size + 1 + 1) (Fr.refl _ _) (a := ⟨w.heap.size + 1 + 1, 16, none⟩) (.inr rfl) _).tr ((zg HU9).mono (fun q hq => .inl hq))
 clear HU9 HB9' f6 o6_16
 have v0 := zk HB9 0 _ rfl
 have v1 := zk HB9 1 _ rfl
 have v2 := zk HB9 2 _ rfl
 have v3 := zk HB9 3 _ rfl
 have v4 := zk HB9 4 _ rfl
 have v5 := zk HB9 5 _ rfl
 have v6 := zk HB9 6 _ rfl
 have v7 := zk HB9 7 _ rfl
 have v8 := zk HB9 8 _ rfl
 have v9 := zk HB9 9 _ rfl
 have v10 := zk HB9 10 _ rfl
 have v11 := zk HB9 11 _ rfl
 have v12 := zk HB9 12 _ rfl
 have v13 := zk HB9 13 _ rfl
 have v14 := zk HB9 14 _ rfl
 have v15 := zk HB9 15 _ rfl
 have v16 := zk HB9 16 _ rfl
 refine bodyPost_ret (v := zaK s (.slice u1a s.un u1c) (.slice h2a s.kh.length h2c) (.slice p3a s.pn p3c) (.slice q4a s.qn q4c) (.slice l5a s.ln l5c) (.slice d6a s.dn d6c)) (by simp [results, Tryz.results8, go_sem, zaK, v0, v1, v2, v3, v4, v5, v6, v7, v8, v9, v10, v11, v12, v13, v14, v15, v16]) rfl ⟨_, _, _, _, _, _, rfl, ?_⟩
 ·have s1 := zg S1
  have s1 := zg S1
  have t1 := zg T1
  have b1 := zg B1
  have s2 := zg S2
  have t2 := zg T2
  have b2 := zg B2
  have s3 := zg S3
  have t3 := zg T3
  have b3 := zg B3
  have s4 := zg S4
  have t4 := zg T4
  have b4 := zg B4
  have s5 := zg S5
  have t5 := zg T5
  have b5 := zg B5
  have s6 := zg S6
  have t6 := zg T6
  have b6 := zg B6
  refine ⟨⟨?_, ?_, ?_, ?_, ?_, ?_, ?_⟩, hU.ext E6 (fun q hq => by omega)⟩
  ·exact ((zg O1).fr hU (fun g hg e9 => by have z9 := ((zg O1).lt g hg).1; omega)).mono (by omega)
  ·exact zas (hU.owns (zg O2) (fun g hg e9 => by have z9 := ((zg O2).lt g hg).1; omega)) (by omega)
  ·exact ((zg O3).fr hU (fun g hg e9 => by have z9 := ((zg O3).lt g hg).1; omega)).mono (by omega)
  ·exact ((zg O4).fr hU (fun g hg e9 => by have z9 := ((zg O4).lt g hg).1; omega)).mono (by omega)
  ·exact ((zg O5).fr hU (fun g hg e9 => by have z9 := ((zg O5).lt g hg).1; omega)).mono (by omega)
  ·exact ((zg O6).fr hU (fun g hg e9 => by have z9 := ((zg O6).lt g hg).1; omega)).mono (by omega)
  ·have a01 : zav (.slice u1a s.un u1c) (.slice h2a s.kh.length h2c) := fun g h1 h2 => by have m1 := (zg LT1) g h1; have m2 := (zg LT2) g h2; omega
   have a02 : zav (.slice u1a s.un u1c) (.slice p3a s.pn p3c) := fun g h1 h2 => by have m1 := (zg LT1) g h1; have m2 := (zg LT3) g h2; omega
   have a03 : zav (.slice u1a s.un u1c) (.slice q4a s.qn q4c) := fun g h1 h2 => by have m1 := (zg LT1) g h1; have m2 := (zg LT4) g h2; omega
   have a04 : zav (.slice u1a s.un u1c) (.slice l5a s.ln l5c) := fun g h1 h2 => by have m1 := (zg LT1) g h1; have m2 := (zg LT5) g h2; omega
   have a05 : zav (.slice u1a s.un u1c) (.slice d6a s.dn d6c) := fun g h1 h2 => by have m1 := (zg LT1) g h1; have m2 := (zg LT6) g h2; omega
   have a12 : zav (.slice h2a s.kh.length h2c) (.slice p3a s.pn p3c) := fun g h1 h2 => by have m1 := (zg LT2) g h1; have m2 := (zg LT3) g h2; omega
   have a13 : zav (.slice h2a s.kh.length h2c) (.slice q4a s.qn q4c) := fun g h1 h2 => by have m1 := (zg LT2) g h1; have m2 := (zg LT4) g h2; omega
   have a14 : zav (.slice h2a s.kh.length h2c) (.slice l5a s.ln l5c) := fun g h1 h2 => by have m1 := (zg LT2) g h1; have m2 := (zg LT5) g h2; omega
   have a15 : zav (.slice h2a s.kh.length h2c) (.slice d6a s.dn d6c) := fun g h1 h2 => by have m1 := (zg LT2) g h1; have m2 := (zg LT6) g h2; omega
   have a23 : zav (.slice p3a s.pn p3c) (.slice q4a s.qn q4c) := fun g h1 h2 => by have m1 := (zg LT3) g h1; have m2 := (zg LT4) g h2; omega
   have a24 : zav (.slice p3a s.pn p3c) (.slice l5a s.ln l5c) := fun g h1 h2 => by have m1 := (zg LT3) g h1; have m2 := (zg LT5) g h2; omega
   have a25 : zav (.slice p3a s.pn p3c) (.slice d6a s.dn d6c) := fun g h1 h2 => by have m1 := (zg LT3) g h1; have m2 := (zg LT6) g h2; omega
   have a34 : zav (.slice q4a s.qn q4c) (.slice l5a s.ln l5c) := fun g h1 h2 => by have m1 := (zg LT4) g h1; have m2 := (zg LT5) g h2; omega
   have a35 : zav (.slice q4a s.qn q4c) (.slice d6a s.dn d6c) := fun g h1 h2 => by have m1 := (zg LT4) g h1; have m2 := (zg LT6) g h2; omega
   have a45 : zav (.slice l5a s.ln l5c) (.slice d6a s.dn d6c) := fun g h1 h2 => by have m1 := (zg LT5) g h1; have m2 := (zg LT6) g h2; omega
   exact (.cons (by intro b hb; simp only [List.mem_cons, List.not_mem_nil, or_false] at hb; rcases hb with rfl | rfl | rfl | rfl | rfl <;> first | exact a01 | exact a02 | exact a03 | exact a04 | exact a05) (.cons (by intro b hb; simp only [List.mem_cons, List.not_mem_nil, or_false] at hb; rcases hb with rfl | rfl | rfl | rfl <;> first | exact a12 | exact a13 | exact a14 | exact a15) (.cons (by intro b hb; simp only [List.mem_cons, List.not_mem_nil, or_false] at hb; rcases hb with rfl | rfl | rfl <;> first | exact a23 | exact a24 | exact a25) (.cons (by intro b hb; simp only [List.mem_cons, List.not_mem_nil, or_false] at hb; rcases hb with rfl | rfl <;> first | exact a34 | exact a35) (.cons (by intro b hb; simp only [List.mem_cons, List.not_mem_nil, or_false] at hb; subst hb; exact a45) (.cons (by intro b hb; cases hb) .nil))))))
end Go.Proofs.YtmlkpdbfnffoaaaGreatDoor
