import Derived.Test.YtgdadidppelgdaaGreatDoorSesCopy
import Derived.Test.YtgdadidppelgdaaGreatDoorSesOkI
namespace Go.Proofs.YtgdadidppelgdaaGreatDoor
open Go.RowKit

theorem own_type {w : World} {base : Nat} {T : TypeId} {sz : Nat} {v : Value} {n : Nat} {xs : List Value} (h : w.ownsRow base T sz v n xs) (g : Nat) (hg : v.ownBlock = some g) : ∃ cur, w.heap[g]? = some (.cells cur T (0, 0)) := by
  rcases h.2 with ⟨e, _⟩ | ⟨g', cap, cur, e, _, h4, _⟩
  · rw [e] at hg; cases hg
  · rw [e] at hg
    simp [Value.ownBlock] at hg
    subst hg
    exact ⟨cur, h4⟩
theorem own2_type {w : World} {base : Nat} {T : TypeId} {v : Value} {n : Nat} {A B : Nat → Value} (h : Own2 w base T v n A B) (g : Nat) (hg : v.ownBlock = some g) : ∃ cur, w.heap[g]? = some (.cells cur T (0, 0)) := by
  obtain ⟨ys, h1, _⟩ := h
  exact own_type h1 g hg
set_option maxRecDepth 10000 in
set_option maxHeartbeats 16000000 in
theorem l7Copy_any (s : SS) (u h p q l d : Value) (w : World) (hA : SesAt w s u h p q l d) (hz : s.Sz) :
    Calls Tryz.prog 24 #[sesV s u h p q l d] w fun e w' => ∃ u h p q l d, e = .returned (sesV s u h p q l d) ∧ OwnSes w' w.heap.size s u h p q l d ∧ Ext w w' := by
  obtain ⟨ua, uc, ha, hc, pa, pc, qa, qc, la, lc, da, dc, rfl, rfl, rfl, rfl, rfl, rfl⟩ := hA.forms
  obtain ⟨iu, hiu, hu0, hu1, hu2⟩ := info_parts infoU8
  have hkl := hz.kh
  have hL := hide (fun W (hW : Ext w W) => l4Copy_any s.la s.lb s.lc _ s.un s.ut s.uh W (hA.un.ext hW) hz.un)
  have hK := hide (fun W (hW : Ext w W) => Src.ints (hA.kh.ext hW))
  have hP := hide (fun W (hW : Ext w W) => l5Copy_any _ s.pn s.pt W (hA.pa.ext hW) hz.pn)
  have hQ := hide (fun W (hW : Ext w W) => l5Copy_any _ s.qn s.qt W (hA.qu.ext hW) hz.qn)
  have hO := hide (fun W (hW : Ext w W) => l5Copy_any _ s.ln s.lt W (hA.lo.ext hW) hz.ln)
  have hD := hide (fun W (hW : Ext w W) => l5Copy_any _ s.dn s.dt W (hA.dn.ext hW) hz.dn)
  clear hA hz
  obtain ⟨V0, hV0⟩ : ∃ V, V = (w.alloc (.cells #[.string s.pr, .int .i64 s.cols, .int .i64 s.rows, .string s.la, .string s.lb, .string s.lc, .slice ua s.un uc, .slice ha s.kh.length hc, .bool s.kp, .bool s.nav, .slice pa s.pn pc, .int .i64 s.at9, .string s.dr, .bool s.st, .slice qa s.qn qc, .slice la s.ln lc, .slice da s.dn dc] 37)).alloc (.cells #[.string { data := #[] }, .int .i64 0, .int .i64 0, .string { data := #[] }, .string { data := #[] }, .string { data := #[] }, .slice none 0 0, .slice none 0 0, .bool false, .bool false, .slice none 0 0, .int .i64 0, .string { data := #[] }, .bool false, .slice none 0 0, .slice none 0 0, .slice none 0 0] 37) := ⟨_, rfl⟩
  have sz9 : V0.heap.size = w.heap.size + 1 + 1 := by rw [hV0]; simp
  have HH := hide (owns_empty V0 5 1)
  rw [sz9] at HH
  obtain ⟨V, hV⟩ : ∃ V, V = V0.alloc (.cells #[] 5) := ⟨_, rfl⟩
  rw [← hV] at HH
  have E0 : Ext w V := by rw [hV, hV0]; exact (((Ext.refl w).alloc _).alloc _).alloc _
  have sz0 : w.heap.size + 1 + 1 + 1 = V.heap.size := by rw [hV]; simp [sz9]
  have HB0 : Hid (V.heap[w.heap.size]? = some (.cells #[.string s.pr, .int .i64 s.cols, .int .i64 s.rows, .string s.la, .string s.lb, .string s.lc, .slice ua s.un uc, .slice ha s.kh.length hc, .bool s.kp, .bool s.nav, .slice pa s.pn pc, .int .i64 s.at9, .string s.dr, .bool s.st, .slice qa s.qn qc, .slice la s.ln lc, .slice da s.dn dc] 37 (0, 0))) := hide (by rw [hV, hV0]; exact (((Ext.refl _).alloc _).alloc _).kept (new_block w _))
  have HB1 : Hid (V.heap[w.heap.size + 1]? = some (.cells #[.string { data := #[] }, .int .i64 0, .int .i64 0, .string { data := #[] }, .string { data := #[] }, .string { data := #[] }, .slice none 0 0, .slice none 0 0, .bool false, .bool false, .slice none 0 0, .int .i64 0, .string { data := #[] }, .bool false, .slice none 0 0, .slice none 0 0, .slice none 0 0] 37 (0, 0))) := hide (by rw [hV, hV0]; refine ((Ext.refl _).alloc _).kept ?_; have h := new_block (w.alloc (.cells #[.string s.pr, .int .i64 s.cols, .int .i64 s.rows, .string s.la, .string s.lb, .string s.lc, .slice ua s.un uc, .slice ha s.kh.length hc, .bool s.kp, .bool s.nav, .slice pa s.pn pc, .int .i64 s.at9, .string s.dr, .bool s.st, .slice qa s.qn qc, .slice la s.ln lc, .slice da s.dn dc] 37)) (.cells #[.string { data := #[] }, .int .i64 0, .int .i64 0, .string { data := #[] }, .string { data := #[] }, .string { data := #[] }, .slice none 0 0, .slice none 0 0, .bool false, .bool false, .slice none 0 0, .int .i64 0, .string { data := #[] }, .bool false, .slice none 0 0, .slice none 0 0, .slice none 0 0] 37); rw [show (w.alloc (.cells #[.string s.pr, .int .i64 s.cols, .int .i64 s.rows, .string s.la, .string s.lb, .string s.lc, .slice ua s.un uc, .slice ha s.kh.length hc, .bool s.kp, .bool s.nav, .slice pa s.pn pc, .int .i64 s.at9, .string s.dr, .bool s.st, .slice qa s.qn qc, .slice la s.ln lc, .slice da s.dn dc] 37)).heap.size = w.heap.size + 1 by simp] at h; exact h)
  have HV : Hid (V = ((w.alloc (.cells #[.string s.pr, .int .i64 s.cols, .int .i64 s.rows, .string s.la, .string s.lb, .string s.lc, .slice ua s.un uc, .slice ha s.kh.length hc, .bool s.kp, .bool s.nav, .slice pa s.pn pc, .int .i64 s.at9, .string s.dr, .bool s.st, .slice qa s.qn qc, .slice la s.ln lc, .slice da s.dn dc] 37)).alloc (.cells #[.string { data := #[] }, .int .i64 0, .int .i64 0, .string { data := #[] }, .string { data := #[] }, .string { data := #[] }, .slice none 0 0, .slice none 0 0, .bool false, .bool false, .slice none 0 0, .int .i64 0, .string { data := #[] }, .bool false, .slice none 0 0, .slice none 0 0, .slice none 0 0] 37)).alloc (.cells #[] 5)) := hide (by rw [hV, hV0])
  clear hV hV0 sz9
  unfold sesV
  go_enter Tryz.func24, Tryz.ntmps24
  go_wp2_with fail
  rw [← unhide HV]
  clear HV
  refine Calls.named ?_
  intro X1 hX1
  have FR1 : Fr (fun q => q = w.heap.size) V X1 := by
    rw [hX1]
    repeat' first | refine Fr.setCell (S := fun q => q = w.heap.size) ?_ (a := ⟨w.heap.size, _, none⟩) rfl _ | exact Fr.refl _ _
  have EX1 : Ext w X1 := FR1.ext E0 (fun q hq => by omega)
  have HB0x : Hid (X1.heap[w.heap.size]? = some (.cells #[.string s.pr, .int .i64 s.cols, .int .i64 s.rows, .string s.la, .string s.lb, .string s.lc, .slice ua s.un uc, .slice ha s.kh.length hc, .bool s.kp, .bool s.nav, .slice pa s.pn pc, .int .i64 s.at9, .string s.dr, .bool s.st, .slice qa s.qn qc, .slice la s.ln lc, .slice da s.dn dc] 37 (0, 0))) := hide (by rw [hX1]; exact (unhide HB0))
  replace HB1 := hide (FR1.kept (unhide HB1) (by omega))
  replace HB0 := HB0x
  clear HB0x hX1
  have BX1 : Hid (w.heap.size < X1.heap.size) := hide (lt_of_block (unhide HB0))
  replace HH := hide (FR1.owns (unhide HH) (fun g hg e9 => by have := ((unhide HH).lt g hg).1; omega))
  have S1 := hide FR1.size
  have BB := hide sz0
  refine ((unhide hL) _ EX1).mono ?_
  rintro e w1 ⟨u1a, u1c, rfl, O1, F1⟩
  have E1 := EX1.trans F1
  have T1 := hide F1.size
  have LT1 := hide (fun g hg => (unhide O1).lt g hg)
  replace HH := hide (F1.owns (unhide HH))
  replace HB0 := hide (F1.kept (unhide HB0))
  replace HB1 := hide (F1.kept (unhide HB1))
  clear FR1 EX1 F1
  have o1_3 : w1.cell? ⟨w.heap.size, 3, none⟩ = some (.string s.la) := cells_of (unhide HB0) 3 _ rfl
  have o1_4 : w1.cell? ⟨w.heap.size, 4, none⟩ = some (.string s.lb) := cells_of (unhide HB0) 4 _ rfl
  have o1_5 : w1.cell? ⟨w.heap.size, 5, none⟩ = some (.string s.lc) := cells_of (unhide HB0) 5 _ rfl
  have o1_6 : w1.cell? ⟨w.heap.size, 6, none⟩ = some (.slice ua s.un uc) := cells_of (unhide HB0) 6 _ rfl
  have o1_7 : w1.cell? ⟨w.heap.size, 7, none⟩ = some (.slice ha s.kh.length hc) := cells_of (unhide HB0) 7 _ rfl
  have f1 : ∀ i, w1.frozen? ⟨w.heap.size, i, none⟩ = false := fun i => Lib.frozen_of_heap (unhide HB0) i
  go_wp2_with (at_builtin; refine StopQ.intro ?_)
  show wpList _ _ _ _ _ _
  clear o1_3 o1_4 o1_5 o1_6 o1_7 f1
  refine (fun (X2 : World) (hX2 : X2 = _) => ?_ : ∀ X, X = _ → wpList _ _ _ _ _ X) _ rfl
  have FR2 : Fr (fun q => q = w.heap.size) w1 X2 := by
    rw [hX2]
    repeat' first | refine Fr.setCell (S := fun q => q = w.heap.size) ?_ (a := ⟨w.heap.size, _, none⟩) rfl _ | exact Fr.refl _ _
  have EX2 : Ext w X2 := FR2.ext E1 (fun q hq => by omega)
  have HB0x : Hid (X2.heap[w.heap.size]? = some (.cells #[.string s.pr, .int .i64 s.cols, .int .i64 s.rows, .string s.la, .string s.lb, .string s.lc, .slice u1a s.un u1c, .slice ha s.kh.length hc, .bool s.kp, .bool s.nav, .slice pa s.pn pc, .int .i64 s.at9, .string s.dr, .bool s.st, .slice qa s.qn qc, .slice la s.ln lc, .slice da s.dn dc] 37 (0, 0))) := hide (by rw [hX2]; exact (set_blk (i := 6) (v := .slice u1a s.un u1c) (set_blk (i := 5) (v := .string s.lc) (set_blk (i := 4) (v := .string s.lb) (set_blk (i := 3) (v := .string s.la) (unhide HB0))))))
  replace HB1 := hide (FR2.kept (unhide HB1) (by omega))
  replace HB0 := HB0x
  clear HB0x hX2
  have BX2 : Hid (w.heap.size < X2.heap.size) := hide (lt_of_block (unhide HB0))
  replace O1 := hide ((unhide O1).fr FR2 (fun g hg e9 => by have z9 := ((unhide O1).lt g hg).1; have s9 := unhide BB; have s8 := unhide S1; have s7 := unhide BX1; omega))
  replace HH := hide (FR2.owns (unhide HH) (fun g hg e9 => by have := ((unhide HH).lt g hg).1; omega))
  have S2 := hide FR2.size
  refine wpList_app rfl _ _ 25 rfl (w.heap.size + 1 + 1) 5 iu (.int .u8 0) 1 1 Tryz.underlying25 hiu hu0 hu1 hu2 rfl (by decide) _ 0 [] rfl (unhide HH) _ s.kh.length (s.kh.map (Value.int .u8)) rfl ((unhide hK) _ EX2) (by unfold maxLen; omega) (by omega) (by have := unhide S2; have := unhide S1; have := unhide T1; have := unhide BB; omega) ?_
  intro v9 w2 o9 G9 _
  have F2 := Fr.grown (S := fun q => q = w.heap.size + 1 + 1) (Fr.refl _ X2) G9 (fun q hq => by cases hq; rfl)
  have E2 := F2.ext EX2 (fun q hq => by omega)
  rw [Nat.zero_add, List.nil_append] at o9
  obtain ⟨h2a, h2c, rfl⟩ := owns_slice o9
  have O2 := hide o9
  have T2 := hide F2.size
  have LT2 := hide (fun g hg => (unhide O2).lt g hg)
  replace O1 := hide ((unhide O1).fr F2 (fun g hg e9 => by have z9 := ((unhide O1).lt g hg).1; have s9 := unhide BB; have s8 := unhide S1; omega))
  have A01 : Hid (Apart (.slice u1a s.un u1c) (.slice h2a s.kh.length h2c)) := hide (fun g h1 h2 => by
    obtain ⟨c1, k1⟩ := own2_type (unhide O1) g h1
    obtain ⟨c2, k2⟩ := own_type (unhide O2) g h2
    rw [k1] at k2
    simp at k2)
  replace HB0 := hide (F2.kept (unhide HB0) (by omega))
  replace HB1 := hide (F2.kept (unhide HB1) (by omega))
  clear o9 G9 HH FR2 EX2 F2
  have o2_7 : w2.cell? ⟨w.heap.size, 7, none⟩ = some (.slice ha s.kh.length hc) := cells_of (unhide HB0) 7 _ rfl
  have o2_10 : w2.cell? ⟨w.heap.size, 10, none⟩ = some (.slice pa s.pn pc) := cells_of (unhide HB0) 10 _ rfl
  have f2 : ∀ i, w2.frozen? ⟨w.heap.size, i, none⟩ = false := fun i => Lib.frozen_of_heap (unhide HB0) i
  go_wp2_with fail
  clear o2_7 o2_10 f2
  refine Calls.named ?_
  intro X3 hX3
  have FR3 : Fr (fun q => q = w.heap.size) w2 X3 := by
    rw [hX3]
    repeat' first | refine Fr.setCell (S := fun q => q = w.heap.size) ?_ (a := ⟨w.heap.size, _, none⟩) rfl _ | exact Fr.refl _ _
  have EX3 : Ext w X3 := FR3.ext E2 (fun q hq => by omega)
  have HB0x : Hid (X3.heap[w.heap.size]? = some (.cells #[.string s.pr, .int .i64 s.cols, .int .i64 s.rows, .string s.la, .string s.lb, .string s.lc, .slice u1a s.un u1c, .slice h2a s.kh.length h2c, .bool s.kp, .bool s.nav, .slice pa s.pn pc, .int .i64 s.at9, .string s.dr, .bool s.st, .slice qa s.qn qc, .slice la s.ln lc, .slice da s.dn dc] 37 (0, 0))) := hide (by rw [hX3]; exact (set_blk (i := 7) (v := .slice h2a s.kh.length h2c) (unhide HB0)))
  replace HB1 := hide (FR3.kept (unhide HB1) (by omega))
  replace HB0 := HB0x
  clear HB0x hX3
  have BX3 : Hid (w.heap.size < X3.heap.size) := hide (lt_of_block (unhide HB0))
  replace O1 := hide ((unhide O1).fr FR3 (fun g hg e9 => by have z9 := ((unhide O1).lt g hg).1; have s9 := unhide BB; have s8 := unhide S1; have s7 := unhide BX1; omega))
  replace O2 := hide (FR3.owns (unhide O2) (fun g hg e9 => by have z9 := ((unhide O2).lt g hg).1; have s9 := unhide BB; have s8 := unhide S1; have s7 := unhide BX2; omega))
  have S3 := hide FR3.size
  refine ((unhide hP) _ EX3).mono ?_
  rintro e w3 ⟨p3a, p3c, rfl, O3, F3⟩
  have E3 := EX3.trans F3
  have T3 := hide F3.size
  have LT3 := hide (fun g hg => (unhide O3).lt g hg)
  replace O1 := hide ((unhide O1).ext F3)
  replace O2 := hide (F3.owns (unhide O2))
  replace HB0 := hide (F3.kept (unhide HB0))
  replace HB1 := hide (F3.kept (unhide HB1))
  clear FR3 EX3 F3
  have o3_10 : w3.cell? ⟨w.heap.size, 10, none⟩ = some (.slice pa s.pn pc) := cells_of (unhide HB0) 10 _ rfl
  have o3_14 : w3.cell? ⟨w.heap.size, 14, none⟩ = some (.slice qa s.qn qc) := cells_of (unhide HB0) 14 _ rfl
  have f3 : ∀ i, w3.frozen? ⟨w.heap.size, i, none⟩ = false := fun i => Lib.frozen_of_heap (unhide HB0) i
  go_wp2_with fail
  clear o3_10 o3_14 f3
  refine Calls.named ?_
  intro X4 hX4
  have FR4 : Fr (fun q => q = w.heap.size) w3 X4 := by
    rw [hX4]
    repeat' first | refine Fr.setCell (S := fun q => q = w.heap.size) ?_ (a := ⟨w.heap.size, _, none⟩) rfl _ | exact Fr.refl _ _
  have EX4 : Ext w X4 := FR4.ext E3 (fun q hq => by omega)
  have HB0x : Hid (X4.heap[w.heap.size]? = some (.cells #[.string s.pr, .int .i64 s.cols, .int .i64 s.rows, .string s.la, .string s.lb, .string s.lc, .slice u1a s.un u1c, .slice h2a s.kh.length h2c, .bool s.kp, .bool s.nav, .slice p3a s.pn p3c, .int .i64 s.at9, .string s.dr, .bool s.st, .slice qa s.qn qc, .slice la s.ln lc, .slice da s.dn dc] 37 (0, 0))) := hide (by rw [hX4]; exact (set_blk (i := 10) (v := .slice p3a s.pn p3c) (unhide HB0)))
  replace HB1 := hide (FR4.kept (unhide HB1) (by omega))
  replace HB0 := HB0x
  clear HB0x hX4
  have BX4 : Hid (w.heap.size < X4.heap.size) := hide (lt_of_block (unhide HB0))
  replace O1 := hide ((unhide O1).fr FR4 (fun g hg e9 => by have z9 := ((unhide O1).lt g hg).1; have s9 := unhide BB; have s8 := unhide S1; have s7 := unhide BX1; omega))
  replace O2 := hide (FR4.owns (unhide O2) (fun g hg e9 => by have z9 := ((unhide O2).lt g hg).1; have s9 := unhide BB; have s8 := unhide S1; have s7 := unhide BX2; omega))
  replace O3 := hide ((unhide O3).fr FR4 (fun g hg e9 => by have z9 := ((unhide O3).lt g hg).1; have s9 := unhide BB; have s8 := unhide S1; have s7 := unhide BX3; omega))
  have S4 := hide FR4.size
  refine ((unhide hQ) _ EX4).mono ?_
  rintro e w4 ⟨q4a, q4c, rfl, O4, F4⟩
  have E4 := EX4.trans F4
  have T4 := hide F4.size
  have LT4 := hide (fun g hg => (unhide O4).lt g hg)
  replace O1 := hide ((unhide O1).ext F4)
  replace O2 := hide (F4.owns (unhide O2))
  replace O3 := hide ((unhide O3).ext F4)
  replace HB0 := hide (F4.kept (unhide HB0))
  replace HB1 := hide (F4.kept (unhide HB1))
  clear FR4 EX4 F4
  have o4_14 : w4.cell? ⟨w.heap.size, 14, none⟩ = some (.slice qa s.qn qc) := cells_of (unhide HB0) 14 _ rfl
  have o4_15 : w4.cell? ⟨w.heap.size, 15, none⟩ = some (.slice la s.ln lc) := cells_of (unhide HB0) 15 _ rfl
  have f4 : ∀ i, w4.frozen? ⟨w.heap.size, i, none⟩ = false := fun i => Lib.frozen_of_heap (unhide HB0) i
  go_wp2_with fail
  clear o4_14 o4_15 f4
  refine Calls.named ?_
  intro X5 hX5
  have FR5 : Fr (fun q => q = w.heap.size) w4 X5 := by
    rw [hX5]
    repeat' first | refine Fr.setCell (S := fun q => q = w.heap.size) ?_ (a := ⟨w.heap.size, _, none⟩) rfl _ | exact Fr.refl _ _
  have EX5 : Ext w X5 := FR5.ext E4 (fun q hq => by omega)
  have HB0x : Hid (X5.heap[w.heap.size]? = some (.cells #[.string s.pr, .int .i64 s.cols, .int .i64 s.rows, .string s.la, .string s.lb, .string s.lc, .slice u1a s.un u1c, .slice h2a s.kh.length h2c, .bool s.kp, .bool s.nav, .slice p3a s.pn p3c, .int .i64 s.at9, .string s.dr, .bool s.st, .slice q4a s.qn q4c, .slice la s.ln lc, .slice da s.dn dc] 37 (0, 0))) := hide (by rw [hX5]; exact (set_blk (i := 14) (v := .slice q4a s.qn q4c) (unhide HB0)))
  replace HB1 := hide (FR5.kept (unhide HB1) (by omega))
  replace HB0 := HB0x
  clear HB0x hX5
  have BX5 : Hid (w.heap.size < X5.heap.size) := hide (lt_of_block (unhide HB0))
  replace O1 := hide ((unhide O1).fr FR5 (fun g hg e9 => by have z9 := ((unhide O1).lt g hg).1; have s9 := unhide BB; have s8 := unhide S1; have s7 := unhide BX1; omega))
  replace O2 := hide (FR5.owns (unhide O2) (fun g hg e9 => by have z9 := ((unhide O2).lt g hg).1; have s9 := unhide BB; have s8 := unhide S1; have s7 := unhide BX2; omega))
  replace O3 := hide ((unhide O3).fr FR5 (fun g hg e9 => by have z9 := ((unhide O3).lt g hg).1; have s9 := unhide BB; have s8 := unhide S1; have s7 := unhide BX3; omega))
  replace O4 := hide ((unhide O4).fr FR5 (fun g hg e9 => by have z9 := ((unhide O4).lt g hg).1; have s9 := unhide BB; have s8 := unhide S1; have s7 := unhide BX4; omega))
  have S5 := hide FR5.size
  refine ((unhide hO) _ EX5).mono ?_
  rintro e w5 ⟨l5a, l5c, rfl, O5, F5⟩
  have E5 := EX5.trans F5
  have T5 := hide F5.size
  have LT5 := hide (fun g hg => (unhide O5).lt g hg)
  replace O1 := hide ((unhide O1).ext F5)
  replace O2 := hide (F5.owns (unhide O2))
  replace O3 := hide ((unhide O3).ext F5)
  replace O4 := hide ((unhide O4).ext F5)
  replace HB0 := hide (F5.kept (unhide HB0))
  replace HB1 := hide (F5.kept (unhide HB1))
  clear FR5 EX5 F5
  have o5_15 : w5.cell? ⟨w.heap.size, 15, none⟩ = some (.slice la s.ln lc) := cells_of (unhide HB0) 15 _ rfl
  have o5_16 : w5.cell? ⟨w.heap.size, 16, none⟩ = some (.slice da s.dn dc) := cells_of (unhide HB0) 16 _ rfl
  have f5 : ∀ i, w5.frozen? ⟨w.heap.size, i, none⟩ = false := fun i => Lib.frozen_of_heap (unhide HB0) i
  go_wp2_with fail
  clear o5_15 o5_16 f5
  refine Calls.named ?_
  intro X6 hX6
  have FR6 : Fr (fun q => q = w.heap.size) w5 X6 := by
    rw [hX6]
    repeat' first | refine Fr.setCell (S := fun q => q = w.heap.size) ?_ (a := ⟨w.heap.size, _, none⟩) rfl _ | exact Fr.refl _ _
  have EX6 : Ext w X6 := FR6.ext E5 (fun q hq => by omega)
  have HB0x : Hid (X6.heap[w.heap.size]? = some (.cells #[.string s.pr, .int .i64 s.cols, .int .i64 s.rows, .string s.la, .string s.lb, .string s.lc, .slice u1a s.un u1c, .slice h2a s.kh.length h2c, .bool s.kp, .bool s.nav, .slice p3a s.pn p3c, .int .i64 s.at9, .string s.dr, .bool s.st, .slice q4a s.qn q4c, .slice l5a s.ln l5c, .slice da s.dn dc] 37 (0, 0))) := hide (by rw [hX6]; exact (set_blk (i := 15) (v := .slice l5a s.ln l5c) (unhide HB0)))
  replace HB1 := hide (FR6.kept (unhide HB1) (by omega))
  replace HB0 := HB0x
  clear HB0x hX6
  have BX6 : Hid (w.heap.size < X6.heap.size) := hide (lt_of_block (unhide HB0))
  replace O1 := hide ((unhide O1).fr FR6 (fun g hg e9 => by have z9 := ((unhide O1).lt g hg).1; have s9 := unhide BB; have s8 := unhide S1; have s7 := unhide BX1; omega))
  replace O2 := hide (FR6.owns (unhide O2) (fun g hg e9 => by have z9 := ((unhide O2).lt g hg).1; have s9 := unhide BB; have s8 := unhide S1; have s7 := unhide BX2; omega))
  replace O3 := hide ((unhide O3).fr FR6 (fun g hg e9 => by have z9 := ((unhide O3).lt g hg).1; have s9 := unhide BB; have s8 := unhide S1; have s7 := unhide BX3; omega))
  replace O4 := hide ((unhide O4).fr FR6 (fun g hg e9 => by have z9 := ((unhide O4).lt g hg).1; have s9 := unhide BB; have s8 := unhide S1; have s7 := unhide BX4; omega))
  replace O5 := hide ((unhide O5).fr FR6 (fun g hg e9 => by have z9 := ((unhide O5).lt g hg).1; have s9 := unhide BB; have s8 := unhide S1; have s7 := unhide BX5; omega))
  have S6 := hide FR6.size
  refine ((unhide hD) _ EX6).mono ?_
  rintro e w6 ⟨d6a, d6c, rfl, O6, F6⟩
  have E6 := EX6.trans F6
  have T6 := hide F6.size
  have LT6 := hide (fun g hg => (unhide O6).lt g hg)
  replace O1 := hide ((unhide O1).ext F6)
  replace O2 := hide (F6.owns (unhide O2))
  replace O3 := hide ((unhide O3).ext F6)
  replace O4 := hide ((unhide O4).ext F6)
  replace O5 := hide ((unhide O5).ext F6)
  replace HB0 := hide (F6.kept (unhide HB0))
  replace HB1 := hide (F6.kept (unhide HB1))
  clear FR6 EX6 F6
  have o6_16 : w6.cell? ⟨w.heap.size, 16, none⟩ = some (.slice da s.dn dc) := cells_of (unhide HB0) 16 _ rfl
  have f6 : ∀ i, w6.frozen? ⟨w.heap.size, i, none⟩ = false := fun i => Lib.frozen_of_heap (unhide HB0) i
  have HB0s : Hid ((w6.setCell ⟨w.heap.size, 16, none⟩ (.slice d6a s.dn d6c)).heap[w.heap.size]? = some (.cells #[.string s.pr, .int .i64 s.cols, .int .i64 s.rows, .string s.la, .string s.lb, .string s.lc, .slice u1a s.un u1c, .slice h2a s.kh.length h2c, .bool s.kp, .bool s.nav, .slice p3a s.pn p3c, .int .i64 s.at9, .string s.dr, .bool s.st, .slice q4a s.qn q4c, .slice l5a s.ln l5c, .slice d6a s.dn d6c] 37 (0, 0))) := hide (set_blk2 (unhide HB0) rfl)
  have HB1s : Hid ((w6.setCell ⟨w.heap.size, 16, none⟩ (.slice d6a s.dn d6c)).heap[w.heap.size + 1]? = some (.cells #[.string { data := #[] }, .int .i64 0, .int .i64 0, .string { data := #[] }, .string { data := #[] }, .string { data := #[] }, .slice none 0 0, .slice none 0 0, .bool false, .bool false, .slice none 0 0, .int .i64 0, .string { data := #[] }, .bool false, .slice none 0 0, .slice none 0 0, .slice none 0 0] 37 (0, 0))) := hide (set_else (unhide HB1) (by omega))
  go_wp2_with (first
    | (refine wpList_load_blk rfl 37 _ rfl (w.heap.size) rfl _ _ _ _ (unhide HB0s) Tryz.underlying37 rfl infoSes ?_)
    | (refine wpList_store_blk rfl 37 _ _ rfl rfl (w.heap.size + 1) rfl _ _ _ rfl (unhide HB1s) infoSes rfl (by simp [Value.oneCell']) ?_; intro U HB9 hU9; have HU9 := hide hU9; have HB9' := hide HB9; clear hU9 HB9))
  have HB9 := unhide HB9'
  have hU : Fr (fun q => q = w.heap.size ∨ q = w.heap.size + 1) w6 U := (Fr.setCell (S := fun q => q = w.heap.size ∨ q = w.heap.size + 1) (Fr.refl _ _) (a := ⟨w.heap.size, 16, none⟩) (.inl rfl) _).tr ((unhide HU9).mono (fun q hq => .inr hq))
  clear HU9 HB9' o6_16 f6
  have v0 : U.cell? ⟨w.heap.size + 1, 0, none⟩ = some (.string s.pr) := cells_of HB9 0 _ rfl
  have v1 : U.cell? ⟨w.heap.size + 1, 1, none⟩ = some (.int .i64 s.cols) := cells_of HB9 1 _ rfl
  have v2 : U.cell? ⟨w.heap.size + 1, 2, none⟩ = some (.int .i64 s.rows) := cells_of HB9 2 _ rfl
  have v3 : U.cell? ⟨w.heap.size + 1, 3, none⟩ = some (.string s.la) := cells_of HB9 3 _ rfl
  have v4 : U.cell? ⟨w.heap.size + 1, 4, none⟩ = some (.string s.lb) := cells_of HB9 4 _ rfl
  have v5 : U.cell? ⟨w.heap.size + 1, 5, none⟩ = some (.string s.lc) := cells_of HB9 5 _ rfl
  have v6 : U.cell? ⟨w.heap.size + 1, 6, none⟩ = some (.slice u1a s.un u1c) := cells_of HB9 6 _ rfl
  have v7 : U.cell? ⟨w.heap.size + 1, 7, none⟩ = some (.slice h2a s.kh.length h2c) := cells_of HB9 7 _ rfl
  have v8 : U.cell? ⟨w.heap.size + 1, 8, none⟩ = some (.bool s.kp) := cells_of HB9 8 _ rfl
  have v9 : U.cell? ⟨w.heap.size + 1, 9, none⟩ = some (.bool s.nav) := cells_of HB9 9 _ rfl
  have v10 : U.cell? ⟨w.heap.size + 1, 10, none⟩ = some (.slice p3a s.pn p3c) := cells_of HB9 10 _ rfl
  have v11 : U.cell? ⟨w.heap.size + 1, 11, none⟩ = some (.int .i64 s.at9) := cells_of HB9 11 _ rfl
  have v12 : U.cell? ⟨w.heap.size + 1, 12, none⟩ = some (.string s.dr) := cells_of HB9 12 _ rfl
  have v13 : U.cell? ⟨w.heap.size + 1, 13, none⟩ = some (.bool s.st) := cells_of HB9 13 _ rfl
  have v14 : U.cell? ⟨w.heap.size + 1, 14, none⟩ = some (.slice q4a s.qn q4c) := cells_of HB9 14 _ rfl
  have v15 : U.cell? ⟨w.heap.size + 1, 15, none⟩ = some (.slice l5a s.ln l5c) := cells_of HB9 15 _ rfl
  have v16 : U.cell? ⟨w.heap.size + 1, 16, none⟩ = some (.slice d6a s.dn d6c) := cells_of HB9 16 _ rfl
  refine bodyPost_ret (v := sesV s (.slice u1a s.un u1c) (.slice h2a s.kh.length h2c) (.slice p3a s.pn p3c) (.slice q4a s.qn q4c) (.slice l5a s.ln l5c) (.slice d6a s.dn d6c)) (by simp [results, Tryz.results24, go_sem, sesV, v0, v1, v2, v3, v4, v5, v6, v7, v8, v9, v10, v11, v12, v13, v14, v15, v16]) rfl ⟨_, _, _, _, _, _, rfl, ?_⟩
  have s1 := unhide S1
  have t1 := unhide T1
  have s2 := unhide S2
  have t2 := unhide T2
  have s3 := unhide S3
  have t3 := unhide T3
  have s4 := unhide S4
  have t4 := unhide T4
  have s5 := unhide S5
  have t5 := unhide T5
  have s6 := unhide S6
  have t6 := unhide T6
  have bb := unhide BB
  refine ⟨⟨?_, ?_, ?_, ?_, ?_, ?_, ?_⟩, hU.ext E6 (fun q hq => by omega)⟩
  · exact ((unhide O1).fr hU (fun g hg e9 => by have z9 := ((unhide O1).lt g hg).1; omega)).mono (by omega)
  · exact owns_mono (hU.owns (unhide O2) (fun g hg e9 => by have z9 := ((unhide O2).lt g hg).1; omega)) (by omega)
  · exact ((unhide O3).fr hU (fun g hg e9 => by have z9 := ((unhide O3).lt g hg).1; omega)).mono (by omega)
  · exact ((unhide O4).fr hU (fun g hg e9 => by have z9 := ((unhide O4).lt g hg).1; omega)).mono (by omega)
  · exact ((unhide O5).fr hU (fun g hg e9 => by have z9 := ((unhide O5).lt g hg).1; omega)).mono (by omega)
  · exact ((unhide O6).fr hU (fun g hg e9 => by have z9 := ((unhide O6).lt g hg).1; omega)).mono (by omega)
  · have a01 : Apart (.slice u1a s.un u1c) (.slice h2a s.kh.length h2c) := unhide A01
    have a02 : Apart (.slice u1a s.un u1c) (.slice p3a s.pn p3c) := fun g h1 h2 => by have m1 := (unhide LT1) g h1; have m2 := (unhide LT3) g h2; omega
    have a03 : Apart (.slice u1a s.un u1c) (.slice q4a s.qn q4c) := fun g h1 h2 => by have m1 := (unhide LT1) g h1; have m2 := (unhide LT4) g h2; omega
    have a04 : Apart (.slice u1a s.un u1c) (.slice l5a s.ln l5c) := fun g h1 h2 => by have m1 := (unhide LT1) g h1; have m2 := (unhide LT5) g h2; omega
    have a05 : Apart (.slice u1a s.un u1c) (.slice d6a s.dn d6c) := fun g h1 h2 => by have m1 := (unhide LT1) g h1; have m2 := (unhide LT6) g h2; omega
    have a12 : Apart (.slice h2a s.kh.length h2c) (.slice p3a s.pn p3c) := fun g h1 h2 => by have m1 := (unhide LT2) g h1; have m2 := (unhide LT3) g h2; omega
    have a13 : Apart (.slice h2a s.kh.length h2c) (.slice q4a s.qn q4c) := fun g h1 h2 => by have m1 := (unhide LT2) g h1; have m2 := (unhide LT4) g h2; omega
    have a14 : Apart (.slice h2a s.kh.length h2c) (.slice l5a s.ln l5c) := fun g h1 h2 => by have m1 := (unhide LT2) g h1; have m2 := (unhide LT5) g h2; omega
    have a15 : Apart (.slice h2a s.kh.length h2c) (.slice d6a s.dn d6c) := fun g h1 h2 => by have m1 := (unhide LT2) g h1; have m2 := (unhide LT6) g h2; omega
    have a23 : Apart (.slice p3a s.pn p3c) (.slice q4a s.qn q4c) := fun g h1 h2 => by have m1 := (unhide LT3) g h1; have m2 := (unhide LT4) g h2; omega
    have a24 : Apart (.slice p3a s.pn p3c) (.slice l5a s.ln l5c) := fun g h1 h2 => by have m1 := (unhide LT3) g h1; have m2 := (unhide LT5) g h2; omega
    have a25 : Apart (.slice p3a s.pn p3c) (.slice d6a s.dn d6c) := fun g h1 h2 => by have m1 := (unhide LT3) g h1; have m2 := (unhide LT6) g h2; omega
    have a34 : Apart (.slice q4a s.qn q4c) (.slice l5a s.ln l5c) := fun g h1 h2 => by have m1 := (unhide LT4) g h1; have m2 := (unhide LT5) g h2; omega
    have a35 : Apart (.slice q4a s.qn q4c) (.slice d6a s.dn d6c) := fun g h1 h2 => by have m1 := (unhide LT4) g h1; have m2 := (unhide LT6) g h2; omega
    have a45 : Apart (.slice l5a s.ln l5c) (.slice d6a s.dn d6c) := fun g h1 h2 => by have m1 := (unhide LT5) g h1; have m2 := (unhide LT6) g h2; omega
    exact (.cons (by intro b hb; simp only [List.mem_cons, List.not_mem_nil, or_false] at hb; rcases hb with rfl | rfl | rfl | rfl | rfl <;> first | exact a01 | exact a02 | exact a03 | exact a04 | exact a05) (.cons (by intro b hb; simp only [List.mem_cons, List.not_mem_nil, or_false] at hb; rcases hb with rfl | rfl | rfl | rfl <;> first | exact a12 | exact a13 | exact a14 | exact a15) (.cons (by intro b hb; simp only [List.mem_cons, List.not_mem_nil, or_false] at hb; rcases hb with rfl | rfl | rfl <;> first | exact a23 | exact a24 | exact a25) (.cons (by intro b hb; simp only [List.mem_cons, List.not_mem_nil, or_false] at hb; rcases hb with rfl | rfl <;> first | exact a34 | exact a35) (.cons (by intro b hb; simp only [List.mem_cons, List.not_mem_nil, or_false] at hb; subst hb; exact a45) (.cons (by intro b hb; cases hb) .nil))))))
end Go.Proofs.YtgdadidppelgdaaGreatDoor
