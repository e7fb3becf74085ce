import Derived.Test.YtgdadidppelgdaaGreatDoorSes
import Derived.Test.YtgdadidppelgdaaGreatDoorWhole
namespace Go.Proofs.YtgdadidppelgdaaGreatDoor
open Go.RowKit

theorem Calls.named {P : Program} {F : Nat} {a : Array Value} {W : World} {Q : Ending → World → Prop} (h : ∀ X, X = W → Calls P F a X Q) : Calls P F a W Q := h W rfl
theorem set_blk {W : World} {b i : Nat} {cs : Array Value} {T : TypeId} {v : Value} (h : W.heap[b]? = some (.cells cs T (0, 0))) : (W.setCell ⟨b, i, none⟩ v).heap[b]? = some (.cells (cs.setIfInBounds i v) T (0, 0)) := heap_setCell_same W b i _ _ _ h
theorem set_blk2 {W : World} {b i : Nat} {cs cs' : Array Value} {T : TypeId} {v : Value} (h : W.heap[b]? = some (.cells cs T (0, 0))) (e : cs.setIfInBounds i v = cs') : (W.setCell ⟨b, i, none⟩ v).heap[b]? = some (.cells cs' T (0, 0)) := by
  rw [set_blk h, e]
theorem bodyPost_named {P : Program} {fn : Func} {R : Ending → World → Prop} {a : Act} {W : World} (h : ∀ U, U = W → bodyPost P fn R .ret a U) : bodyPost P fn R .ret a W := h W rfl
theorem set_else {W : World} {b c i : Nat} {v : Value} {o : Obj} (h : W.heap[b]? = some o) (hne : b ≠ c) : (W.setCell ⟨c, i, none⟩ v).heap[b]? = some o := (Below.heap_setCell W ⟨c, i, none⟩ v b hne).trans h
theorem Fr.two {S : Nat → Prop} {W W' : World} {p : Nat} {o : Obj} (h : Fr S W W') (hp : W.heap[p]? = some o) (hS : ¬ S p) : W'.heap[p]? = some o := Fr.kept h hp hS
theorem infoSes : (Tryz.prog.info? 37).map (·.size) = some 17 := by kernel_rfl
theorem toLine_own (a b c : ByteArray) (v : Value) (n : Nat) (tx hf : Nat → ByteArray) (w : World) (hv : Row2At w v n (fun j => .string (tx j)) (fun j => .string (hf j))) (hn : n ≤ 1048576) :
    Calls Tryz.prog 30 #[.agg #[.string a, .string b, .string c, v]] w fun e w' => ∃ ua uc, e = .returned (.agg #[.string a, .string b, .string c, .slice ua n uc]) ∧ Hid (Own2 w' w.heap.size 123 (.slice ua n uc) n (fun j => .string (tx j)) (fun j => .string (hf j))) ∧ Ext w w' := by
  refine (toLine_any a b c v n tx hf w hv hn).mono ?_
  rintro e w' ⟨rfl, o, F⟩
  refine ⟨_, _, rfl, hide ?_, F⟩
  obtain ⟨ys, h1, h2⟩ := o
  exact ⟨ys, owns_mono h1 (by omega), h2⟩
theorem toKeyReader_own (h : Value) (bs : List Int) (p : Bool) (w : World) (hr : IntsAt w .u8 h bs) (hx : bs.length ≤ 4398046511104) :
    Calls Tryz.prog 31 #[.agg #[h, .bool p]] w fun e w' => ∃ ua uc, e = .returned (.agg #[.slice ua bs.length uc, .bool p]) ∧ Hid (w'.ownsRow w.heap.size 5 1 (.slice ua bs.length uc) bs.length (bs.map (Value.int .u8))) ∧ Ext w w' := by
  refine (toKeyReader_any h bs p w hr hx).mono ?_
  rintro e w' ⟨rfl, o, F⟩
  exact ⟨_, _, rfl, hide (owns_mono o (by omega)), F⟩
theorem toStrs_own (v : Value) (n : Nat) (tx : Nat → ByteArray) (w : World) (hv : Row1At w v n (fun j => .string (tx j))) (hn : n ≤ 1048576) :
    Calls Tryz.prog 32 #[v] w fun e w' => ∃ ua uc, e = .returned (.slice ua n uc) ∧ Hid (Own1 w' w.heap.size 9 (.slice ua n uc) n (fun j => .string (tx j))) ∧ Ext w w' := by
  refine (toStrs_any v n tx w hv hn).mono ?_
  rintro e w' ⟨rfl, o, F⟩
  exact ⟨_, _, rfl, hide o, F⟩
set_option maxRecDepth 10000 in
set_option maxHeartbeats 16000000 in
theorem toSession_any (s : SS) (u h p q l d : Value) (w : World) (hA : SesAt w s u h p q l d) (hb : s.bulk ≤ 1048576) :
    Calls Tryz.prog 8 #[sesV s u h p q l d] w fun e w' => ∃ u h p q l d, e = .returned (sesV s u h p q l d) ∧ OwnSes w' w.heap.size s u h p q l d ∧ Ext w w' := by
  unfold SS.bulk at hb
  obtain ⟨ua, uc, ha, hc, pa, pc, qa, qc, la, lc, da, dc, rfl, rfl, rfl, rfl, rfl, rfl⟩ := hA.forms
  have hL := hide (fun W (hW : Ext w W) => toLine_own s.la s.lb s.lc _ s.un s.ut s.uh W (hA.un.ext hW) (by omega))
  have hK := hide (fun W (hW : Ext w W) => toKeyReader_own _ s.kh s.kp W (hA.kh.ext hW) (by omega))
  have hP := hide (fun W (hW : Ext w W) => toStrs_own _ s.pn s.pt W (hA.pa.ext hW) (by omega))
  have hQ := hide (fun W (hW : Ext w W) => toStrs_own _ s.qn s.qt W (hA.qu.ext hW) (by omega))
  have hO := hide (fun W (hW : Ext w W) => toStrs_own _ s.ln s.lt W (hA.lo.ext hW) (by omega))
  have hD := hide (fun W (hW : Ext w W) => toStrs_own _ s.dn s.dt W (hA.dn.ext hW) (by omega))
  clear hA hb
  obtain ⟨V, hV⟩ : ∃ V, V = ((w.alloc (.cells #[.string s.pr, .int .i64 s.cols, .int .i64 s.rows, .string s.la, .string s.lb, .string s.lc, .slice ua s.un uc, .slice ha s.kh.length hc, .bool s.kp, .bool s.nav, .slice pa s.pn pc, .int .i64 s.at9, .string s.dr, .bool s.st, .slice qa s.qn qc, .slice la s.ln lc, .slice da s.dn dc] 30)).alloc (.cells #[.string { data := #[] }, .int .i64 0, .int .i64 0, .string { data := #[] }, .string { data := #[] }, .string { data := #[] }, .slice none 0 0, .slice none 0 0, .bool false, .bool false, .slice none 0 0, .int .i64 0, .string { data := #[] }, .bool false, .slice none 0 0, .slice none 0 0, .slice none 0 0] 37)).alloc (.cells #[.string s.pr, .int .i64 s.cols, .int .i64 s.rows, .string { data := #[] }, .string { data := #[] }, .string { data := #[] }, .slice none 0 0, .slice none 0 0, .bool false, .bool false, .slice none 0 0, .int .i64 0, .string { data := #[] }, .bool false, .slice none 0 0, .slice none 0 0, .slice none 0 0] 37) := ⟨_, rfl⟩
  have E0 : Ext w V := by rw [hV]; exact (((Ext.refl w).alloc _).alloc _).alloc _
  have sz0 : w.heap.size + 1 + 1 + 1 = V.heap.size := by rw [hV]; simp
  have HB0 : Hid (V.heap[w.heap.size]? = some (.cells #[.string s.pr, .int .i64 s.cols, .int .i64 s.rows, .string s.la, .string s.lb, .string s.lc, .slice ua s.un uc, .slice ha s.kh.length hc, .bool s.kp, .bool s.nav, .slice pa s.pn pc, .int .i64 s.at9, .string s.dr, .bool s.st, .slice qa s.qn qc, .slice la s.ln lc, .slice da s.dn dc] 30 (0, 0))) := hide (by rw [hV]; exact (((Ext.refl _).alloc _).alloc _).kept (new_block w _))
  have HB1 : Hid (V.heap[w.heap.size + 1]? = some (.cells #[.string { data := #[] }, .int .i64 0, .int .i64 0, .string { data := #[] }, .string { data := #[] }, .string { data := #[] }, .slice none 0 0, .slice none 0 0, .bool false, .bool false, .slice none 0 0, .int .i64 0, .string { data := #[] }, .bool false, .slice none 0 0, .slice none 0 0, .slice none 0 0] 37 (0, 0))) := hide (by rw [hV]; refine ((Ext.refl _).alloc _).kept ?_; have h := new_block (w.alloc (.cells #[.string s.pr, .int .i64 s.cols, .int .i64 s.rows, .string s.la, .string s.lb, .string s.lc, .slice ua s.un uc, .slice ha s.kh.length hc, .bool s.kp, .bool s.nav, .slice pa s.pn pc, .int .i64 s.at9, .string s.dr, .bool s.st, .slice qa s.qn qc, .slice la s.ln lc, .slice da s.dn dc] 30)) (.cells #[.string { data := #[] }, .int .i64 0, .int .i64 0, .string { data := #[] }, .string { data := #[] }, .string { data := #[] }, .slice none 0 0, .slice none 0 0, .bool false, .bool false, .slice none 0 0, .int .i64 0, .string { data := #[] }, .bool false, .slice none 0 0, .slice none 0 0, .slice none 0 0] 37); rw [show (w.alloc (.cells #[.string s.pr, .int .i64 s.cols, .int .i64 s.rows, .string s.la, .string s.lb, .string s.lc, .slice ua s.un uc, .slice ha s.kh.length hc, .bool s.kp, .bool s.nav, .slice pa s.pn pc, .int .i64 s.at9, .string s.dr, .bool s.st, .slice qa s.qn qc, .slice la s.ln lc, .slice da s.dn dc] 30)).heap.size = w.heap.size + 1 by simp] at h; exact h)
  have HB2 : Hid (V.heap[w.heap.size + 1 + 1]? = some (.cells #[.string s.pr, .int .i64 s.cols, .int .i64 s.rows, .string { data := #[] }, .string { data := #[] }, .string { data := #[] }, .slice none 0 0, .slice none 0 0, .bool false, .bool false, .slice none 0 0, .int .i64 0, .string { data := #[] }, .bool false, .slice none 0 0, .slice none 0 0, .slice none 0 0] 37 (0, 0))) := hide (by rw [hV]; have h := new_block ((w.alloc (.cells #[.string s.pr, .int .i64 s.cols, .int .i64 s.rows, .string s.la, .string s.lb, .string s.lc, .slice ua s.un uc, .slice ha s.kh.length hc, .bool s.kp, .bool s.nav, .slice pa s.pn pc, .int .i64 s.at9, .string s.dr, .bool s.st, .slice qa s.qn qc, .slice la s.ln lc, .slice da s.dn dc] 30)).alloc (.cells #[.string { data := #[] }, .int .i64 0, .int .i64 0, .string { data := #[] }, .string { data := #[] }, .string { data := #[] }, .slice none 0 0, .slice none 0 0, .bool false, .bool false, .slice none 0 0, .int .i64 0, .string { data := #[] }, .bool false, .slice none 0 0, .slice none 0 0, .slice none 0 0] 37)) (.cells #[.string s.pr, .int .i64 s.cols, .int .i64 s.rows, .string { data := #[] }, .string { data := #[] }, .string { data := #[] }, .slice none 0 0, .slice none 0 0, .bool false, .bool false, .slice none 0 0, .int .i64 0, .string { data := #[] }, .bool false, .slice none 0 0, .slice none 0 0, .slice none 0 0] 37); rw [show ((w.alloc (.cells #[.string s.pr, .int .i64 s.cols, .int .i64 s.rows, .string s.la, .string s.lb, .string s.lc, .slice ua s.un uc, .slice ha s.kh.length hc, .bool s.kp, .bool s.nav, .slice pa s.pn pc, .int .i64 s.at9, .string s.dr, .bool s.st, .slice qa s.qn qc, .slice la s.ln lc, .slice da s.dn dc] 30)).alloc (.cells #[.string { data := #[] }, .int .i64 0, .int .i64 0, .string { data := #[] }, .string { data := #[] }, .string { data := #[] }, .slice none 0 0, .slice none 0 0, .bool false, .bool false, .slice none 0 0, .int .i64 0, .string { data := #[] }, .bool false, .slice none 0 0, .slice none 0 0, .slice none 0 0] 37)).heap.size = w.heap.size + 1 + 1 by simp] at h; exact h)
  have HV := hide hV
  clear hV
  unfold sesV
  go_enter Tryz.func8, Tryz.ntmps8
  go_wp2_with fail
  rw [← unhide HV]
  refine Calls.named ?_
  intro X1 hX1
  have FR1 : Fr (fun q => q = w.heap.size + 1 + 1) V X1 := by
    rw [hX1]
    repeat' first | refine Fr.setCell (S := fun q => q = w.heap.size + 1 + 1) ?_ (a := ⟨w.heap.size + 1 + 1, _, none⟩) rfl _ | exact Fr.refl _ _
  have EX1 : Ext w X1 := FR1.ext E0 (fun q hq => by omega)
  have HB2x : Hid (X1.heap[w.heap.size + 1 + 1]? = some (.cells #[.string s.pr, .int .i64 s.cols, .int .i64 s.rows, .string { data := #[] }, .string { data := #[] }, .string { data := #[] }, .slice none 0 0, .slice none 0 0, .bool false, .bool false, .slice none 0 0, .int .i64 0, .string { data := #[] }, .bool false, .slice none 0 0, .slice none 0 0, .slice none 0 0] 37 (0, 0))) := hide (by rw [hX1]; exact (unhide HB2))
  replace HB0 := hide (FR1.kept (unhide HB0) (by omega))
  replace HB1 := hide (FR1.kept (unhide HB1) (by omega))
  replace HB2 := HB2x
  clear HB2x hX1
  refine ((unhide hL) _ EX1).mono ?_
  rintro e w1 ⟨u1a, u1c, rfl, O1, F1⟩
  have E1 := EX1.trans F1
  have S1 := hide FR1.size
  have T1 := hide F1.size
  have LT1 := hide (fun g hg => (unhide O1).lt g hg)
  have B1 : Hid (w.heap.size + 1 + 1 < X1.heap.size) := hide (lt_of_block (unhide HB2))
  replace HB0 := hide (F1.kept (unhide HB0))
  replace HB1 := hide (F1.kept (unhide HB1))
  replace HB2 := hide (F1.kept (unhide HB2))
  clear FR1 EX1 F1
  have a1_7 : w1.cell? ⟨w.heap.size, 7, none⟩ = some (.slice ha s.kh.length hc) := cells_of (unhide HB0) 7 _ rfl
  have a1_8 : w1.cell? ⟨w.heap.size, 8, none⟩ = some (.bool s.kp) := cells_of (unhide HB0) 8 _ rfl
  have f1 : ∀ i, w1.frozen? ⟨w.heap.size + 1 + 1, i, none⟩ = false := fun i => Lib.frozen_of_heap (unhide HB2) i
  have o1_3 : w1.cell? ⟨w.heap.size + 1 + 1, 3, none⟩ = some (.string { data := #[] }) := cells_of (unhide HB2) 3 _ rfl
  have o1_4 : w1.cell? ⟨w.heap.size + 1 + 1, 4, none⟩ = some (.string { data := #[] }) := cells_of (unhide HB2) 4 _ rfl
  have o1_5 : w1.cell? ⟨w.heap.size + 1 + 1, 5, none⟩ = some (.string { data := #[] }) := cells_of (unhide HB2) 5 _ rfl
  have o1_6 : w1.cell? ⟨w.heap.size + 1 + 1, 6, none⟩ = some (.slice none 0 0) := cells_of (unhide HB2) 6 _ rfl
  go_wp2_with fail
  clear a1_7 a1_8 f1 o1_3 o1_4 o1_5 o1_6
  refine Calls.named ?_
  intro X2 hX2
  have FR2 : Fr (fun q => q = w.heap.size + 1 + 1) w1 X2 := by
    rw [hX2]
    repeat' first | refine Fr.setCell (S := fun q => q = w.heap.size + 1 + 1) ?_ (a := ⟨w.heap.size + 1 + 1, _, none⟩) rfl _ | exact Fr.refl _ _
  have EX2 : Ext w X2 := FR2.ext E1 (fun q hq => by omega)
  have HB2x : Hid (X2.heap[w.heap.size + 1 + 1]? = some (.cells #[.string s.pr, .int .i64 s.cols, .int .i64 s.rows, .string s.la, .string s.lb, .string s.lc, .slice u1a s.un u1c, .slice none 0 0, .bool false, .bool false, .slice none 0 0, .int .i64 0, .string { data := #[] }, .bool false, .slice none 0 0, .slice none 0 0, .slice none 0 0] 37 (0, 0))) := hide (by rw [hX2]; exact (set_blk (i := 6) (v := .slice u1a s.un u1c) (set_blk (i := 5) (v := .string s.lc) (set_blk (i := 4) (v := .string s.lb) (set_blk (i := 3) (v := .string s.la) (unhide HB2))))))
  replace HB0 := hide (FR2.kept (unhide HB0) (by omega))
  replace HB1 := hide (FR2.kept (unhide HB1) (by omega))
  replace HB2 := HB2x
  clear HB2x hX2
  refine ((unhide hK) _ EX2).mono ?_
  rintro e w2 ⟨h2a, h2c, rfl, O2, F2⟩
  have E2 := EX2.trans F2
  have S2 := hide FR2.size
  have T2 := hide F2.size
  have LT2 := hide (fun g hg => (unhide O2).lt g hg)
  replace O1 := hide (((unhide O1).fr FR2 (fun g hg e9 => by have z9 := ((unhide O1).lt g hg).1; have s9 := unhide B1; omega)).ext F2)
  have B2 : Hid (w.heap.size + 1 + 1 < X2.heap.size) := hide (lt_of_block (unhide HB2))
  replace HB0 := hide (F2.kept (unhide HB0))
  replace HB1 := hide (F2.kept (unhide HB1))
  replace HB2 := hide (F2.kept (unhide HB2))
  clear FR2 EX2 F2
  have a2_9 : w2.cell? ⟨w.heap.size, 9, none⟩ = some (.bool s.nav) := cells_of (unhide HB0) 9 _ rfl
  have a2_10 : w2.cell? ⟨w.heap.size, 10, none⟩ = some (.slice pa s.pn pc) := cells_of (unhide HB0) 10 _ rfl
  have f2 : ∀ i, w2.frozen? ⟨w.heap.size + 1 + 1, i, none⟩ = false := fun i => Lib.frozen_of_heap (unhide HB2) i
  have o2_7 : w2.cell? ⟨w.heap.size + 1 + 1, 7, none⟩ = some (.slice none 0 0) := cells_of (unhide HB2) 7 _ rfl
  have o2_8 : w2.cell? ⟨w.heap.size + 1 + 1, 8, none⟩ = some (.bool false) := cells_of (unhide HB2) 8 _ rfl
  have o2_9 : w2.cell? ⟨w.heap.size + 1 + 1, 9, none⟩ = some (.bool false) := cells_of (unhide HB2) 9 _ rfl
  go_wp2_with fail
  clear a2_9 a2_10 f2 o2_7 o2_8 o2_9
  refine Calls.named ?_
  intro X3 hX3
  have FR3 : Fr (fun q => q = w.heap.size + 1 + 1) w2 X3 := by
    rw [hX3]
    repeat' first | refine Fr.setCell (S := fun q => q = w.heap.size + 1 + 1) ?_ (a := ⟨w.heap.size + 1 + 1, _, none⟩) rfl _ | exact Fr.refl _ _
  have EX3 : Ext w X3 := FR3.ext E2 (fun q hq => by omega)
  have HB2x : Hid (X3.heap[w.heap.size + 1 + 1]? = some (.cells #[.string s.pr, .int .i64 s.cols, .int .i64 s.rows, .string s.la, .string s.lb, .string s.lc, .slice u1a s.un u1c, .slice h2a s.kh.length h2c, .bool s.kp, .bool s.nav, .slice none 0 0, .int .i64 0, .string { data := #[] }, .bool false, .slice none 0 0, .slice none 0 0, .slice none 0 0] 37 (0, 0))) := hide (by rw [hX3]; exact (set_blk (i := 9) (v := .bool s.nav) (set_blk (i := 8) (v := .bool s.kp) (set_blk (i := 7) (v := .slice h2a s.kh.length h2c) (unhide HB2)))))
  replace HB0 := hide (FR3.kept (unhide HB0) (by omega))
  replace HB1 := hide (FR3.kept (unhide HB1) (by omega))
  replace HB2 := HB2x
  clear HB2x hX3
  refine ((unhide hP) _ EX3).mono ?_
  rintro e w3 ⟨p3a, p3c, rfl, O3, F3⟩
  have E3 := EX3.trans F3
  have S3 := hide FR3.size
  have T3 := hide F3.size
  have LT3 := hide (fun g hg => (unhide O3).lt g hg)
  replace O1 := hide (((unhide O1).fr FR3 (fun g hg e9 => by have z9 := ((unhide O1).lt g hg).1; have s9 := unhide B1; omega)).ext F3)
  replace O2 := hide (F3.owns (FR3.owns (unhide O2) (fun g hg e9 => by have z9 := ((unhide O2).lt g hg).1; have s9 := unhide B2; omega)))
  have B3 : Hid (w.heap.size + 1 + 1 < X3.heap.size) := hide (lt_of_block (unhide HB2))
  replace HB0 := hide (F3.kept (unhide HB0))
  replace HB1 := hide (F3.kept (unhide HB1))
  replace HB2 := hide (F3.kept (unhide HB2))
  clear FR3 EX3 F3
  have a3_11 : w3.cell? ⟨w.heap.size, 11, none⟩ = some (.int .i64 s.at9) := cells_of (unhide HB0) 11 _ rfl
  have a3_12 : w3.cell? ⟨w.heap.size, 12, none⟩ = some (.string s.dr) := cells_of (unhide HB0) 12 _ rfl
  have a3_13 : w3.cell? ⟨w.heap.size, 13, none⟩ = some (.bool s.st) := cells_of (unhide HB0) 13 _ rfl
  have a3_14 : w3.cell? ⟨w.heap.size, 14, none⟩ = some (.slice qa s.qn qc) := cells_of (unhide HB0) 14 _ rfl
  have f3 : ∀ i, w3.frozen? ⟨w.heap.size + 1 + 1, i, none⟩ = false := fun i => Lib.frozen_of_heap (unhide HB2) i
  have o3_10 : w3.cell? ⟨w.heap.size + 1 + 1, 10, none⟩ = some (.slice none 0 0) := cells_of (unhide HB2) 10 _ rfl
  have o3_11 : w3.cell? ⟨w.heap.size + 1 + 1, 11, none⟩ = some (.int .i64 0) := cells_of (unhide HB2) 11 _ rfl
  have o3_12 : w3.cell? ⟨w.heap.size + 1 + 1, 12, none⟩ = some (.string { data := #[] }) := cells_of (unhide HB2) 12 _ rfl
  have o3_13 : w3.cell? ⟨w.heap.size + 1 + 1, 13, none⟩ = some (.bool false) := cells_of (unhide HB2) 13 _ rfl
  go_wp2_with fail
  clear a3_11 a3_12 a3_13 a3_14 f3 o3_10 o3_11 o3_12 o3_13
  refine Calls.named ?_
  intro X4 hX4
  have FR4 : Fr (fun q => q = w.heap.size + 1 + 1) w3 X4 := by
    rw [hX4]
    repeat' first | refine Fr.setCell (S := fun q => q = w.heap.size + 1 + 1) ?_ (a := ⟨w.heap.size + 1 + 1, _, none⟩) rfl _ | exact Fr.refl _ _
  have EX4 : Ext w X4 := FR4.ext E3 (fun q hq => by omega)
  have HB2x : Hid (X4.heap[w.heap.size + 1 + 1]? = some (.cells #[.string s.pr, .int .i64 s.cols, .int .i64 s.rows, .string s.la, .string s.lb, .string s.lc, .slice u1a s.un u1c, .slice h2a s.kh.length h2c, .bool s.kp, .bool s.nav, .slice p3a s.pn p3c, .int .i64 s.at9, .string s.dr, .bool s.st, .slice none 0 0, .slice none 0 0, .slice none 0 0] 37 (0, 0))) := hide (by rw [hX4]; exact (set_blk (i := 13) (v := .bool s.st) (set_blk (i := 12) (v := .string s.dr) (set_blk (i := 11) (v := .int .i64 s.at9) (set_blk (i := 10) (v := .slice p3a s.pn p3c) (unhide HB2))))))
  replace HB0 := hide (FR4.kept (unhide HB0) (by omega))
  replace HB1 := hide (FR4.kept (unhide HB1) (by omega))
  replace HB2 := HB2x
  clear HB2x hX4
  refine ((unhide hQ) _ EX4).mono ?_
  rintro e w4 ⟨q4a, q4c, rfl, O4, F4⟩
  have E4 := EX4.trans F4
  have S4 := hide FR4.size
  have T4 := hide F4.size
  have LT4 := hide (fun g hg => (unhide O4).lt g hg)
  replace O1 := hide (((unhide O1).fr FR4 (fun g hg e9 => by have z9 := ((unhide O1).lt g hg).1; have s9 := unhide B1; omega)).ext F4)
  replace O2 := hide (F4.owns (FR4.owns (unhide O2) (fun g hg e9 => by have z9 := ((unhide O2).lt g hg).1; have s9 := unhide B2; omega)))
  replace O3 := hide (((unhide O3).fr FR4 (fun g hg e9 => by have z9 := ((unhide O3).lt g hg).1; have s9 := unhide B3; omega)).ext F4)
  have B4 : Hid (w.heap.size + 1 + 1 < X4.heap.size) := hide (lt_of_block (unhide HB2))
  replace HB0 := hide (F4.kept (unhide HB0))
  replace HB1 := hide (F4.kept (unhide HB1))
  replace HB2 := hide (F4.kept (unhide HB2))
  clear FR4 EX4 F4
  have a4_15 : w4.cell? ⟨w.heap.size, 15, none⟩ = some (.slice la s.ln lc) := cells_of (unhide HB0) 15 _ rfl
  have f4 : ∀ i, w4.frozen? ⟨w.heap.size + 1 + 1, i, none⟩ = false := fun i => Lib.frozen_of_heap (unhide HB2) i
  have o4_14 : w4.cell? ⟨w.heap.size + 1 + 1, 14, none⟩ = some (.slice none 0 0) := cells_of (unhide HB2) 14 _ rfl
  go_wp2_with fail
  clear a4_15 f4 o4_14
  refine Calls.named ?_
  intro X5 hX5
  have FR5 : Fr (fun q => q = w.heap.size + 1 + 1) w4 X5 := by
    rw [hX5]
    repeat' first | refine Fr.setCell (S := fun q => q = w.heap.size + 1 + 1) ?_ (a := ⟨w.heap.size + 1 + 1, _, none⟩) rfl _ | exact Fr.refl _ _
  have EX5 : Ext w X5 := FR5.ext E4 (fun q hq => by omega)
  have HB2x : Hid (X5.heap[w.heap.size + 1 + 1]? = some (.cells #[.string s.pr, .int .i64 s.cols, .int .i64 s.rows, .string s.la, .string s.lb, .string s.lc, .slice u1a s.un u1c, .slice h2a s.kh.length h2c, .bool s.kp, .bool s.nav, .slice p3a s.pn p3c, .int .i64 s.at9, .string s.dr, .bool s.st, .slice q4a s.qn q4c, .slice none 0 0, .slice none 0 0] 37 (0, 0))) := hide (by rw [hX5]; exact (set_blk (i := 14) (v := .slice q4a s.qn q4c) (unhide HB2)))
  replace HB0 := hide (FR5.kept (unhide HB0) (by omega))
  replace HB1 := hide (FR5.kept (unhide HB1) (by omega))
  replace HB2 := HB2x
  clear HB2x hX5
  refine ((unhide hO) _ EX5).mono ?_
  rintro e w5 ⟨l5a, l5c, rfl, O5, F5⟩
  have E5 := EX5.trans F5
  have S5 := hide FR5.size
  have T5 := hide F5.size
  have LT5 := hide (fun g hg => (unhide O5).lt g hg)
  replace O1 := hide (((unhide O1).fr FR5 (fun g hg e9 => by have z9 := ((unhide O1).lt g hg).1; have s9 := unhide B1; omega)).ext F5)
  replace O2 := hide (F5.owns (FR5.owns (unhide O2) (fun g hg e9 => by have z9 := ((unhide O2).lt g hg).1; have s9 := unhide B2; omega)))
  replace O3 := hide (((unhide O3).fr FR5 (fun g hg e9 => by have z9 := ((unhide O3).lt g hg).1; have s9 := unhide B3; omega)).ext F5)
  replace O4 := hide (((unhide O4).fr FR5 (fun g hg e9 => by have z9 := ((unhide O4).lt g hg).1; have s9 := unhide B4; omega)).ext F5)
  have B5 : Hid (w.heap.size + 1 + 1 < X5.heap.size) := hide (lt_of_block (unhide HB2))
  replace HB0 := hide (F5.kept (unhide HB0))
  replace HB1 := hide (F5.kept (unhide HB1))
  replace HB2 := hide (F5.kept (unhide HB2))
  clear FR5 EX5 F5
  have a5_16 : w5.cell? ⟨w.heap.size, 16, none⟩ = some (.slice da s.dn dc) := cells_of (unhide HB0) 16 _ rfl
  have f5 : ∀ i, w5.frozen? ⟨w.heap.size + 1 + 1, i, none⟩ = false := fun i => Lib.frozen_of_heap (unhide HB2) i
  have o5_15 : w5.cell? ⟨w.heap.size + 1 + 1, 15, none⟩ = some (.slice none 0 0) := cells_of (unhide HB2) 15 _ rfl
  go_wp2_with fail
  clear a5_16 f5 o5_15
  refine Calls.named ?_
  intro X6 hX6
  have FR6 : Fr (fun q => q = w.heap.size + 1 + 1) w5 X6 := by
    rw [hX6]
    repeat' first | refine Fr.setCell (S := fun q => q = w.heap.size + 1 + 1) ?_ (a := ⟨w.heap.size + 1 + 1, _, none⟩) rfl _ | exact Fr.refl _ _
  have EX6 : Ext w X6 := FR6.ext E5 (fun q hq => by omega)
  have HB2x : Hid (X6.heap[w.heap.size + 1 + 1]? = some (.cells #[.string s.pr, .int .i64 s.cols, .int .i64 s.rows, .string s.la, .string s.lb, .string s.lc, .slice u1a s.un u1c, .slice h2a s.kh.length h2c, .bool s.kp, .bool s.nav, .slice p3a s.pn p3c, .int .i64 s.at9, .string s.dr, .bool s.st, .slice q4a s.qn q4c, .slice l5a s.ln l5c, .slice none 0 0] 37 (0, 0))) := hide (by rw [hX6]; exact (set_blk (i := 15) (v := .slice l5a s.ln l5c) (unhide HB2)))
  replace HB0 := hide (FR6.kept (unhide HB0) (by omega))
  replace HB1 := hide (FR6.kept (unhide HB1) (by omega))
  replace HB2 := HB2x
  clear HB2x hX6
  refine ((unhide hD) _ EX6).mono ?_
  rintro e w6 ⟨d6a, d6c, rfl, O6, F6⟩
  have E6 := EX6.trans F6
  have S6 := hide FR6.size
  have T6 := hide F6.size
  have LT6 := hide (fun g hg => (unhide O6).lt g hg)
  replace O1 := hide (((unhide O1).fr FR6 (fun g hg e9 => by have z9 := ((unhide O1).lt g hg).1; have s9 := unhide B1; omega)).ext F6)
  replace O2 := hide (F6.owns (FR6.owns (unhide O2) (fun g hg e9 => by have z9 := ((unhide O2).lt g hg).1; have s9 := unhide B2; omega)))
  replace O3 := hide (((unhide O3).fr FR6 (fun g hg e9 => by have z9 := ((unhide O3).lt g hg).1; have s9 := unhide B3; omega)).ext F6)
  replace O4 := hide (((unhide O4).fr FR6 (fun g hg e9 => by have z9 := ((unhide O4).lt g hg).1; have s9 := unhide B4; omega)).ext F6)
  replace O5 := hide (((unhide O5).fr FR6 (fun g hg e9 => by have z9 := ((unhide O5).lt g hg).1; have s9 := unhide B5; omega)).ext F6)
  have B6 : Hid (w.heap.size + 1 + 1 < X6.heap.size) := hide (lt_of_block (unhide HB2))
  replace HB0 := hide (F6.kept (unhide HB0))
  replace HB1 := hide (F6.kept (unhide HB1))
  replace HB2 := hide (F6.kept (unhide HB2))
  clear FR6 EX6 F6
  have f6 : ∀ i, w6.frozen? ⟨w.heap.size + 1 + 1, i, none⟩ = false := fun i => Lib.frozen_of_heap (unhide HB2) i
  have o6_16 : w6.cell? ⟨w.heap.size + 1 + 1, 16, none⟩ = some (.slice none 0 0) := cells_of (unhide HB2) 16 _ rfl
  have HB2s : Hid ((w6.setCell ⟨w.heap.size + 1 + 1, 16, none⟩ (.slice d6a s.dn d6c)).heap[w.heap.size + 1 + 1]? = some (.cells #[.string s.pr, .int .i64 s.cols, .int .i64 s.rows, .string s.la, .string s.lb, .string s.lc, .slice u1a s.un u1c, .slice h2a s.kh.length h2c, .bool s.kp, .bool s.nav, .slice p3a s.pn p3c, .int .i64 s.at9, .string s.dr, .bool s.st, .slice q4a s.qn q4c, .slice l5a s.ln l5c, .slice d6a s.dn d6c] 37 (0, 0))) := hide (set_blk2 (unhide HB2) rfl)
  have HB1s : Hid ((w6.setCell ⟨w.heap.size + 1 + 1, 16, none⟩ (.slice d6a s.dn d6c)).heap[w.heap.size + 1]? = some (.cells #[.string { data := #[] }, .int .i64 0, .int .i64 0, .string { data := #[] }, .string { data := #[] }, .string { data := #[] }, .slice none 0 0, .slice none 0 0, .bool false, .bool false, .slice none 0 0, .int .i64 0, .string { data := #[] }, .bool false, .slice none 0 0, .slice none 0 0, .slice none 0 0] 37 (0, 0))) := hide (set_else (unhide HB1) (by omega))
  go_wp2_with (first
    | (refine wpList_load_blk rfl 37 _ rfl (w.heap.size + 1 + 1) rfl _ _ _ _ (unhide HB2s) Tryz.underlying37 rfl infoSes ?_)
    | (refine wpList_store_blk rfl 37 _ _ rfl rfl (w.heap.size + 1) rfl _ _ _ rfl (unhide HB1s) infoSes rfl (by simp [Value.oneCell']) ?_; intro U HB9 hU9; have HU9 := hide hU9; have HB9' := hide HB9; clear hU9 HB9))
  have HB9 := unhide HB9'
  have hU : Fr (fun q => q = w.heap.size + 1 ∨ q = w.heap.size + 1 + 1) w6 U := (Fr.setCell (S := fun q => q = w.heap.size + 1 ∨ q = w.heap.size + 1 + 1) (Fr.refl _ _) (a := ⟨w.heap.size + 1 + 1, 16, none⟩) (.inr rfl) _).tr ((unhide HU9).mono (fun q hq => .inl hq))
  clear HU9 HB9' f6 o6_16
  have v0 : U.cell? ⟨w.heap.size + 1, 0, none⟩ = some (.string s.pr) := cells_of HB9 0 _ rfl
  have v1 : U.cell? ⟨w.heap.size + 1, 1, none⟩ = some (.int .i64 s.cols) := cells_of HB9 1 _ rfl
  have v2 : U.cell? ⟨w.heap.size + 1, 2, none⟩ = some (.int .i64 s.rows) := cells_of HB9 2 _ rfl
  have v3 : U.cell? ⟨w.heap.size + 1, 3, none⟩ = some (.string s.la) := cells_of HB9 3 _ rfl
  have v4 : U.cell? ⟨w.heap.size + 1, 4, none⟩ = some (.string s.lb) := cells_of HB9 4 _ rfl
  have v5 : U.cell? ⟨w.heap.size + 1, 5, none⟩ = some (.string s.lc) := cells_of HB9 5 _ rfl
  have v6 : U.cell? ⟨w.heap.size + 1, 6, none⟩ = some (.slice u1a s.un u1c) := cells_of HB9 6 _ rfl
  have v7 : U.cell? ⟨w.heap.size + 1, 7, none⟩ = some (.slice h2a s.kh.length h2c) := cells_of HB9 7 _ rfl
  have v8 : U.cell? ⟨w.heap.size + 1, 8, none⟩ = some (.bool s.kp) := cells_of HB9 8 _ rfl
  have v9 : U.cell? ⟨w.heap.size + 1, 9, none⟩ = some (.bool s.nav) := cells_of HB9 9 _ rfl
  have v10 : U.cell? ⟨w.heap.size + 1, 10, none⟩ = some (.slice p3a s.pn p3c) := cells_of HB9 10 _ rfl
  have v11 : U.cell? ⟨w.heap.size + 1, 11, none⟩ = some (.int .i64 s.at9) := cells_of HB9 11 _ rfl
  have v12 : U.cell? ⟨w.heap.size + 1, 12, none⟩ = some (.string s.dr) := cells_of HB9 12 _ rfl
  have v13 : U.cell? ⟨w.heap.size + 1, 13, none⟩ = some (.bool s.st) := cells_of HB9 13 _ rfl
  have v14 : U.cell? ⟨w.heap.size + 1, 14, none⟩ = some (.slice q4a s.qn q4c) := cells_of HB9 14 _ rfl
  have v15 : U.cell? ⟨w.heap.size + 1, 15, none⟩ = some (.slice l5a s.ln l5c) := cells_of HB9 15 _ rfl
  have v16 : U.cell? ⟨w.heap.size + 1, 16, none⟩ = some (.slice d6a s.dn d6c) := cells_of HB9 16 _ rfl
  refine bodyPost_ret (v := sesV s (.slice u1a s.un u1c) (.slice h2a s.kh.length h2c) (.slice p3a s.pn p3c) (.slice q4a s.qn q4c) (.slice l5a s.ln l5c) (.slice d6a s.dn d6c)) (by simp [results, Tryz.results8, go_sem, sesV, v0, v1, v2, v3, v4, v5, v6, v7, v8, v9, v10, v11, v12, v13, v14, v15, v16]) rfl ⟨_, _, _, _, _, _, rfl, ?_⟩
  · have s1 := unhide S1
    have s1 := unhide S1
    have t1 := unhide T1
    have b1 := unhide B1
    have s2 := unhide S2
    have t2 := unhide T2
    have b2 := unhide B2
    have s3 := unhide S3
    have t3 := unhide T3
    have b3 := unhide B3
    have s4 := unhide S4
    have t4 := unhide T4
    have b4 := unhide B4
    have s5 := unhide S5
    have t5 := unhide T5
    have b5 := unhide B5
    have s6 := unhide S6
    have t6 := unhide T6
    have b6 := unhide B6
    refine ⟨⟨?_, ?_, ?_, ?_, ?_, ?_, ?_⟩, hU.ext E6 (fun q hq => by omega)⟩
    · exact ((unhide O1).fr hU (fun g hg e9 => by have z9 := ((unhide O1).lt g hg).1; omega)).mono (by omega)
    · exact owns_mono (hU.owns (unhide O2) (fun g hg e9 => by have z9 := ((unhide O2).lt g hg).1; omega)) (by omega)
    · exact ((unhide O3).fr hU (fun g hg e9 => by have z9 := ((unhide O3).lt g hg).1; omega)).mono (by omega)
    · exact ((unhide O4).fr hU (fun g hg e9 => by have z9 := ((unhide O4).lt g hg).1; omega)).mono (by omega)
    · exact ((unhide O5).fr hU (fun g hg e9 => by have z9 := ((unhide O5).lt g hg).1; omega)).mono (by omega)
    · exact ((unhide O6).fr hU (fun g hg e9 => by have z9 := ((unhide O6).lt g hg).1; omega)).mono (by omega)
    · have a01 : Apart (.slice u1a s.un u1c) (.slice h2a s.kh.length h2c) := fun g h1 h2 => by have m1 := (unhide LT1) g h1; have m2 := (unhide LT2) g h2; omega
      have a02 : Apart (.slice u1a s.un u1c) (.slice p3a s.pn p3c) := fun g h1 h2 => by have m1 := (unhide LT1) g h1; have m2 := (unhide LT3) g h2; omega
      have a03 : Apart (.slice u1a s.un u1c) (.slice q4a s.qn q4c) := fun g h1 h2 => by have m1 := (unhide LT1) g h1; have m2 := (unhide LT4) g h2; omega
      have a04 : Apart (.slice u1a s.un u1c) (.slice l5a s.ln l5c) := fun g h1 h2 => by have m1 := (unhide LT1) g h1; have m2 := (unhide LT5) g h2; omega
      have a05 : Apart (.slice u1a s.un u1c) (.slice d6a s.dn d6c) := fun g h1 h2 => by have m1 := (unhide LT1) g h1; have m2 := (unhide LT6) g h2; omega
      have a12 : Apart (.slice h2a s.kh.length h2c) (.slice p3a s.pn p3c) := fun g h1 h2 => by have m1 := (unhide LT2) g h1; have m2 := (unhide LT3) g h2; omega
      have a13 : Apart (.slice h2a s.kh.length h2c) (.slice q4a s.qn q4c) := fun g h1 h2 => by have m1 := (unhide LT2) g h1; have m2 := (unhide LT4) g h2; omega
      have a14 : Apart (.slice h2a s.kh.length h2c) (.slice l5a s.ln l5c) := fun g h1 h2 => by have m1 := (unhide LT2) g h1; have m2 := (unhide LT5) g h2; omega
      have a15 : Apart (.slice h2a s.kh.length h2c) (.slice d6a s.dn d6c) := fun g h1 h2 => by have m1 := (unhide LT2) g h1; have m2 := (unhide LT6) g h2; omega
      have a23 : Apart (.slice p3a s.pn p3c) (.slice q4a s.qn q4c) := fun g h1 h2 => by have m1 := (unhide LT3) g h1; have m2 := (unhide LT4) g h2; omega
      have a24 : Apart (.slice p3a s.pn p3c) (.slice l5a s.ln l5c) := fun g h1 h2 => by have m1 := (unhide LT3) g h1; have m2 := (unhide LT5) g h2; omega
      have a25 : Apart (.slice p3a s.pn p3c) (.slice d6a s.dn d6c) := fun g h1 h2 => by have m1 := (unhide LT3) g h1; have m2 := (unhide LT6) g h2; omega
      have a34 : Apart (.slice q4a s.qn q4c) (.slice l5a s.ln l5c) := fun g h1 h2 => by have m1 := (unhide LT4) g h1; have m2 := (unhide LT5) g h2; omega
      have a35 : Apart (.slice q4a s.qn q4c) (.slice d6a s.dn d6c) := fun g h1 h2 => by have m1 := (unhide LT4) g h1; have m2 := (unhide LT6) g h2; omega
      have a45 : Apart (.slice l5a s.ln l5c) (.slice d6a s.dn d6c) := fun g h1 h2 => by have m1 := (unhide LT5) g h1; have m2 := (unhide LT6) g h2; omega
      exact (.cons (by intro b hb; simp only [List.mem_cons, List.not_mem_nil, or_false] at hb; rcases hb with rfl | rfl | rfl | rfl | rfl <;> first | exact a01 | exact a02 | exact a03 | exact a04 | exact a05) (.cons (by intro b hb; simp only [List.mem_cons, List.not_mem_nil, or_false] at hb; rcases hb with rfl | rfl | rfl | rfl <;> first | exact a12 | exact a13 | exact a14 | exact a15) (.cons (by intro b hb; simp only [List.mem_cons, List.not_mem_nil, or_false] at hb; rcases hb with rfl | rfl | rfl <;> first | exact a23 | exact a24 | exact a25) (.cons (by intro b hb; simp only [List.mem_cons, List.not_mem_nil, or_false] at hb; rcases hb with rfl | rfl <;> first | exact a34 | exact a35) (.cons (by intro b hb; simp only [List.mem_cons, List.not_mem_nil, or_false] at hb; subst hb; exact a45) (.cons (by intro b hb; cases hb) .nil))))))
end Go.Proofs.YtgdadidppelgdaaGreatDoor
