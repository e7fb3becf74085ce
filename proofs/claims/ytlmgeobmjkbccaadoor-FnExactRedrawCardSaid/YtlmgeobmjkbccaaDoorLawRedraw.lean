import Derived.Test.YtlmgeobmjkbccaaDoorFrame
import Derived.Test.YtlmgeobmjkbccaaDoorSpecRedraw
import Derived.Test.YtlmgeobmjkbccaaDoorImplRedraw
import Derived.Test.YtlmgeobmjkbccaaDoorPowLaid
import Derived.Test.YtlmgeobmjkbccaaDoorTie
import Derived.Test.YtlmgeobmjkbccaaDoorCards
import Derived.SevenTiedAt
namespace Go.Proofs.YtlmgeobmjkbccaaDoor
open Go.ChangeShapes Go.WideShapes Go.ChangeAt Go.RowKit Go.Deep
set_option maxRecDepth 10000 in
set_option maxHeartbeats 8000000 in
theorem fnExactRedraw_walk (vA vB : Value) (r1 c1 r2 c2 : Int) (n1 n2 : Nat) (tx ty : Nat → ByteArray) (w : World) (hvA : Row1At w vA n1 (fun j => .string (tx j))) (hvB : Row1At w vB n2 (fun j => .string (ty j))) (hn9 : n1 ≤ maxLen) (hx9 : ∀ j, j < n1 → (tx j).size ≤ maxLen) (hm9 : n2 ≤ maxLen) (hy9 : ∀ j, j < n2 → (ty j).size ≤ maxLen) (hlo : 0 < w.heap.size) (hT : PowT w) :
    Calls Tryd.prog 4 #[blV vA r1 c1, blV vB r2 c2] w fun e w' => e = .returned (.bool true) ∧ Below w.heap.size w w' := by
  obtain ⟨same, hsame⟩ : ∃ b : Bool, b = true ↔ SameR n1 n2 tx ty := by
    by_cases h : SameR n1 n2 tx ty
    · exact ⟨true, by simp [h]⟩
    · exact ⟨false, by simp [h]⟩
  have HSM := hide hsame
  clear hsame
  obtain ⟨ao, cap, hvv, _, _⟩ := id hvA
  subst hvv
  obtain ⟨bo, cbp, hvv, _, _⟩ := id hvB
  subst hvv
  unfold maxLen at hn9 hx9 hm9 hy9
  have hcZA := hide (fun W (hW : Ext w W) => szBlock_any (.slice ao n1 cap) r1 c1 n1 tx 1048576 W (hvA.ext hW) (by omega) (by omega) (by omega) (fun j hj => by have := hx9 j hj; omega))
  have hcZB := hide (fun l W (hW : Ext w W) (hl0 : 0 ≤ l) (hl1 : l ≤ 1048576) => szBlock_any (.slice bo n2 cbp) r2 c2 n2 ty l W (hvB.ext hW) hl0 (by omega) (by omega) (fun j hj => by have := hy9 j hj; omega))
  have hcTA := hide (fun W (hW : Ext w W) (h : n1 ≤ 1048576) => toBlock_any (.slice ao n1 cap) r1 c1 n1 tx W (hvA.ext hW) h)
  have hcTB := hide (fun W (hW : Ext w W) (h : n2 ≤ 1048576) => toBlock_any (.slice bo n2 cbp) r2 c2 n2 ty W (hvB.ext hW) h)
  have HP := hide (fun W (hW : Ext w W) => hT.keep (hW.heap hlo))
  clear hvA hvB hT hx9 hy9
  unfold blV at *
  have e1 := (Ext.refl w).alloc (.cells #[.slice ao n1 cap, .int .i64 r1, .int .i64 c1] 24)
  have x1 := alloc_new w (.cells #[.slice ao n1 cap, .int .i64 r1, .int .i64 c1] 24)
  obtain ⟨U1, hU1⟩ : ∃ U, U = w.alloc (.cells #[.slice ao n1 cap, .int .i64 r1, .int .i64 c1] 24) := ⟨_, rfl⟩
  rw [← hU1] at e1 x1
  have z1 : U1.heap.size = w.heap.size + 1 := by rw [hU1]; simp
  have e2 := (Ext.refl U1).alloc (.cells #[.slice bo n2 cbp, .int .i64 r2, .int .i64 c2] 24)
  have x2 := alloc_new U1 (.cells #[.slice bo n2 cbp, .int .i64 r2, .int .i64 c2] 24)
  obtain ⟨W0, hW0⟩ : ∃ U, U = U1.alloc (.cells #[.slice bo n2 cbp, .int .i64 r2, .int .i64 c2] 24) := ⟨_, rfl⟩
  rw [← hW0] at e2 x2
  rw [z1] at x2
  have y1 := e2.keep' x1
  have E0 := e1.trans e2
  have HU : Hid (W0 = (w.alloc (.cells #[.slice ao n1 cap, .int .i64 r1, .int .i64 c1] 24)).alloc (.cells #[.slice bo n2 cbp, .int .i64 r2, .int .i64 c2] 24)) := by refine hide ?_; rw [hW0, hU1]
  clear hU1 hW0 x1 e1 e2 z1
  have q0 := heap_cell' y1 0 _ rfl
  have q1 := heap_cell' y1 1 _ rfl
  have q2 := heap_cell' y1 2 _ rfl
  have s0 := heap_cell' x2 0 _ rfl
  have s1 := heap_cell' x2 1 _ rfl
  have s2 := heap_cell' x2 2 _ rfl
  clear y1 x2
  go_enter Tryd.func4, Tryd.ntmps4
  go_wp2_with fail
  rw [← unhide HU]
  clear HU
  refine ((unhide hcZA) _ E0).mono ?_
  rintro e w1 ⟨r, rfl, hr, F1⟩
  have hN : 0 ≤ r → n1 + slen tx n1 ≤ 1048576 ∧ r ≤ 1048576 := by rcases hr with ⟨rfl, _⟩ | ⟨h1, h2⟩ <;> omega
  clear hr hcZA
  have d0 := F1.cell s0
  have d1 := F1.cell s1
  have d2 := F1.cell s2
  by_cases hr0 : r < 0
  · go_wp2
    go_ret
    exact ⟨rfl, (E0.trans F1).below⟩
  have hn := hN (by omega)
  clear hN
  have hcZ2 := hide ((unhide hcZB) r w1 (E0.trans F1) (by omega) hn.2)
  go_wp2_with fail
  refine (unhide hcZ2).mono ?_
  rintro e w2 ⟨rr, rfl, hr, F2⟩
  have hM : 0 ≤ rr → n2 + slen ty n2 ≤ 1048576 := by rcases hr with ⟨rfl, _⟩ | ⟨h1, h2⟩ <;> omega
  have X2 := F1.trans F2
  clear hr hcZB hcZ2 d0 d1 d2
  by_cases hr1 : rr < 0
  · have HX := hide (E0.trans X2)
    go_wp2
    go_ret
    exact ⟨rfl, (unhide HX).below⟩
  have hm := hM (by omega)
  have hn := hn.1
  clear hM
  have p0 := X2.cell q0
  have p1 := X2.cell q1
  have p2 := X2.cell q2
  have d0 := X2.cell s0
  have d1 := X2.cell s1
  have d2 := X2.cell s2
  have hTA := hide (fun U (hU : Ext w2 U) => (unhide hcTA) U ((E0.trans X2).trans hU) (by omega))
  have hTB := hide (fun U (hU : Ext w2 U) => (unhide hcTB) U ((E0.trans X2).trans hU) (by omega))
  have tokA : True := trivial
  go_wp2
  go_region_held_law (fun W => W.cell? ⟨w.heap.size, 0, none⟩ = some (.slice ao n1 cap) ∧ W.cell? ⟨w.heap.size, 1, none⟩ = some (.int .i64 r1) ∧ W.cell? ⟨w.heap.size, 2, none⟩ = some (.int .i64 c1) ∧ W.cell? ⟨w.heap.size + 1, 0, none⟩ = some (.slice bo n2 cbp) ∧ W.cell? ⟨w.heap.size + 1, 1, none⟩ = some (.int .i64 r2) ∧ W.cell? ⟨w.heap.size + 1, 2, none⟩ = some (.int .i64 c2))
    (first | exact ⟨p0, p1, p2, d0, d1, d2⟩ | exact ⟨he'.cell p0, he'.cell p1, he'.cell p2, he'.cell d0, he'.cell d1, he'.cell d2⟩)
    (first
      | (go_at_call 7; have _t := tokA; refine ((unhide hTA) _ (Ext.refl w2).drew).mono ?_; rintro e w3 ⟨g3, rfl, o3, F3⟩; have he' := (Ext.refl w2).drew.trans F3; have O3 := hide o3; clear o3 F3 tokA)
      | (go_at_call 7; refine ((unhide hTB) _ he').mono ?_; rintro e w4 ⟨g4, rfl, o4, F4⟩; have hcS := hide (specRedraw_any (.slice (some ⟨g3, 0, none⟩) n1 n1) (.slice (some ⟨g4, 0, none⟩) n2 n2) r1 c1 r2 c2 n1 n2 tx ty same (unhide HSM) w4 ((unhide O3).ext F4).reads o4.reads (by omega) (by omega) (by omega)); have he' := he'.trans F4; unfold blV at hcS; clear o4 F4)
      | (go_at_call 14; refine (unhide hcS).mono ?_; rintro e w5 ⟨us, rfl, os, F5⟩; have he' := he'.trans F5; have OS := hide os; clear F5))
  have X5 := X2.trans he'
  obtain ⟨sa, sc, hus, _⟩ := id os.1
  subst hus
  clear os p0 p1 p2 d0 d1 d2 O3 hcS he' hTA hTB
  have p0 := X5.cell q0
  have p1 := X5.cell q1
  have p2 := X5.cell q2
  go_wp2_with fail
  refine ((unhide hcTA) _ (E0.trans X5) (by omega)).mono ?_
  rintro e w6 ⟨g6, rfl, o6, F6⟩
  have hg6 := (o6.lt g6 rfl)
  have X6 := X5.trans F6
  have OA := hide o6
  have hb6 := fun o => alloc_new w6 o
  have F7 := (Ext.refl w6).alloc (.cells #[.slice (some ⟨g6, 0, none⟩) n1 n1, .int .i64 r1, .int .i64 c1] 28)
  have hb7 := hb6 (.cells #[.slice (some ⟨g6, 0, none⟩) n1 n1, .int .i64 r1, .int .i64 c1] 28)
  have X7 := X6.trans F7
  clear p0 p1 p2 o6 hb6
  have d0 := fun o => (X6.trans ((Ext.refl w6).alloc o)).cell s0
  have d1 := fun o => (X6.trans ((Ext.refl w6).alloc o)).cell s1
  have d2 := fun o => (X6.trans ((Ext.refl w6).alloc o)).cell s2
  go_wp2_with fail
  refine ((unhide hcTB) _ (E0.trans X7) (by omega)).mono ?_
  rintro e w8 ⟨g8, rfl, o8, F8⟩
  have hz7 : (w6.alloc (.cells #[.slice (some ⟨g6, 0, none⟩) n1 n1, .int .i64 r1, .int .i64 c1] 28)).heap.size = w6.heap.size + 1 := by simp
  have hg8 := (o8.lt g8 rfl)
  rw [hz7] at hg8
  have X8 := X7.trans F8
  have Y8 := F7.trans F8
  have hb8 := F8.keep' hb7
  have OB := hide o8
  have F9 := (Ext.refl w8).alloc (.cells #[.slice (some ⟨g8, 0, none⟩) n2 n2, .int .i64 r2, .int .i64 c2] 28)
  have hb9 := F9.keep' hb8
  have hc9 := alloc_new w8 (.cells #[.slice (some ⟨g8, 0, none⟩) n2 n2, .int .i64 r2, .int .i64 c2] 28)
  have hlo8 : 0 < w8.heap.size := Nat.lt_of_lt_of_le hlo (E0.trans X8).size
  have hcI := hide (fun W (hW : Ext w8 W) => implRedraw_any (.slice (some ⟨g6, 0, none⟩) n1 n1) (.slice (some ⟨g8, 0, none⟩) n2 n2) r1 c1 r2 c2 n1 n2 tx ty same (unhide HSM) W ((unhide OA).ext (Y8.trans hW)).reads (o8.ext hW).reads (by omega) (by omega) (by omega) (Nat.lt_of_lt_of_le hlo8 hW.size) ((unhide HP) _ ((E0.trans X8).trans hW)))
  unfold blV at hcI
  have p0 := fun o => heap_cell' (((Ext.refl w8).alloc o).keep' hb8) 0 _ rfl
  have p1 := fun o => heap_cell' (((Ext.refl w8).alloc o).keep' hb8) 1 _ rfl
  have p2 := fun o => heap_cell' (((Ext.refl w8).alloc o).keep' hb8) 2 _ rfl
  clear d0 d1 d2 o8 hz7 hb7
  go_wp2_with fail
  refine ((unhide hcI) _ F9).mono ?_
  rintro e w10 ⟨ug, rfl, og, F10⟩
  have hb10 := F10.keep' hb9
  have hc10 := F10.keep' hc9
  have Y10 := F9.trans F10
  have X10 := X8.trans Y10
  have OG := hide (owns_mono og F9.size)
  obtain ⟨ga, gc, hug, _⟩ := id (ints_of_owns og)
  subst hug
  have hLl : (redrawL n1 r1 c1 n2 ty r2 c2 same).length ≤ 4194304 := by have := redrawL_len n1 r1 c1 n2 ty r2 c2 same (by omega) (by omega); omega
  obtain ⟨L, hL⟩ : ∃ L, L = redrawL n1 r1 c1 n2 ty r2 c2 same := ⟨_, rfl⟩
  rw [← hL] at OS OG hLl
  clear og hb8 hb9 hc9 F9 F10 p0 p1 p2 hcI
  go_wp2_with fail
  rw [← hL]
  have HL := hide hL
  clear hL
  refine (eqByteS_same _ _ L _ (ints_of_owns (unhide OG)) ((unhide OS).1.ext (F6.trans (Y8.trans Y10))) (by omega)).mono ?_
  rintro e w11 ⟨rfl, F11⟩
  have X11 := X10.trans F11
  have Y11 := Y10.trans F11
  have hb11 := F11.keep' hb10
  have hc11 := F11.keep' hc10
  clear hb10 hc10
  have q0' := X11.cell q0
  have q1' := X11.cell q1
  have q2' := X11.cell q2
  have p0 := heap_cell' hb11 0 _ rfl
  have p1 := heap_cell' hb11 1 _ rfl
  have p2 := heap_cell' hb11 2 _ rfl
  have hto := hide (fun U (hU : Ext w11 U) => (unhide hcTA) U ((E0.trans X11).trans hU) (by omega))
  go_wp2
  go_region_held3 (fun W => W.cell? ⟨w.heap.size, 0, none⟩ = some (.slice ao n1 cap) ∧ W.cell? ⟨w.heap.size, 1, none⟩ = some (.int .i64 r1) ∧ W.cell? ⟨w.heap.size, 2, none⟩ = some (.int .i64 c1) ∧ W.cell? ⟨w6.heap.size, 0, none⟩ = some (.slice (some ⟨g6, 0, none⟩) n1 n1) ∧ W.cell? ⟨w6.heap.size, 1, none⟩ = some (.int .i64 r1) ∧ W.cell? ⟨w6.heap.size, 2, none⟩ = some (.int .i64 c1)) (first | exact ⟨q0', q1', q2', p0, p1, p2⟩ | exact ⟨he'.cell q0', he'.cell q1', he'.cell q2', he'.cell p0, he'.cell p1, he'.cell p2⟩)
    (first
      | (go_at_call 7; refine ((unhide hto) _ (Ext.refl w11).drew).mono ?_; rintro e w12 ⟨g12, rfl, o12, F12⟩; have he' := (Ext.refl w11).drew.trans F12; have R12 := hide o12.reads; clear o12 F12)
      | (go_at_call 10; refine (eqBlock_same _ _ r1 c1 n1 tx _ (((unhide OA).ext ((Y8.trans Y11).trans he')).reads) (unhide R12) (by omega)).mono ?_; rintro e w13 ⟨rfl, F13⟩; have he' := he'.trans F13))
  have F13' := he'
  have X13 := X11.trans F13'
  have hb13 := F13'.keep' hb11
  have hc13 := F13'.keep' hc11
  clear hb11 hc11 he' q0' q1' q2' p0 p1 p2 hto R12
  have q0' := X13.cell s0
  have q1' := X13.cell s1
  have q2' := X13.cell s2
  have p0 := heap_cell' hc13 0 _ rfl
  have p1 := heap_cell' hc13 1 _ rfl
  have p2 := heap_cell' hc13 2 _ rfl
  have hto := hide (fun U (hU : Ext w13 U) => (unhide hcTB) U ((E0.trans X13).trans hU) (by omega))
  go_wp2
  go_region_held3 (fun W => W.cell? ⟨w.heap.size + 1, 0, none⟩ = some (.slice bo n2 cbp) ∧ W.cell? ⟨w.heap.size + 1, 1, none⟩ = some (.int .i64 r2) ∧ W.cell? ⟨w.heap.size + 1, 2, none⟩ = some (.int .i64 c2) ∧ W.cell? ⟨w8.heap.size, 0, none⟩ = some (.slice (some ⟨g8, 0, none⟩) n2 n2) ∧ W.cell? ⟨w8.heap.size, 1, none⟩ = some (.int .i64 r2) ∧ W.cell? ⟨w8.heap.size, 2, none⟩ = some (.int .i64 c2)) (first | exact ⟨q0', q1', q2', p0, p1, p2⟩ | exact ⟨he'.cell q0', he'.cell q1', he'.cell q2', he'.cell p0, he'.cell p1, he'.cell p2⟩)
    (first
      | (go_at_call 7; refine ((unhide hto) _ (Ext.refl w13).drew).mono ?_; rintro e w14 ⟨g14, rfl, o14, F14⟩; have he' := (Ext.refl w13).drew.trans F14; have R14 := hide o14.reads; clear o14 F14)
      | (go_at_call 10; refine (eqBlock_same _ _ r2 c2 n2 ty _ (((unhide OB).ext ((Y11.trans F13').trans he')).reads) (unhide R14) (by omega)).mono ?_; rintro e w15 ⟨rfl, F15⟩; have he' := he'.trans F15))
  have X15 := X13.trans he'
  have Y15 := (Y11.trans F13').trans he'
  have hb15 := he'.keep' hb13
  have hc15 := he'.keep' hc13
  have OA15 := hide ((unhide OA).ext (Y8.trans Y15))
  have OB15 := hide ((unhide OB).ext Y15)
  have OG15 := hide (((F11.trans F13').trans he').owns (unhide OG))
  have OS15 := hide ((unhide OS).ext (F6.trans (Y8.trans Y15)))
  have HSS := hide (fun g hg => ((unhide OS).2 g hg).2)
  have t5 := X5.size
  have t6 := F6.size
  have t8 := Y8.size
  have t15 := Y15.size
  clear hb13 hc13 q0' q1' q2' p0 p1 p2 hto R14 he' OA OB OG OS
  have p0 := heap_cell' hb15 0 _ rfl
  have p1 := heap_cell' hb15 1 _ rfl
  have p2 := heap_cell' hb15 2 _ rfl
  have hcM := hide (markBlock_any w5.heap.size (.slice (some ⟨g6, 0, none⟩) n1 n1) r1 c1 n1 _ 1 w15 (unhide OA15) (by omega) (by omega) (by omega))
  unfold blV at hcM
  go_wp2_with fail
  refine (unhide hcM).mono ?_
  rintro e w16 ⟨rfl, fr16⟩
  have hq6 : ∀ g, (Value.slice (some ⟨g6, 0, none⟩) n1 n1).ownBlock = some g → g = g6 := fun g hg => by simp [Value.ownBlock] at hg; exact hg.symm
  have X16 : Ext W0 w16 := fr16.ext X15 (fun k hk => by have := hq6 k hk; omega)
  have OB16 := hide ((unhide OB15).fr fr16 (fun g hg e => by have := hq6 g e; simp [Value.ownBlock] at hg; omega))
  have OG16 := hide (fr16.owns (unhide OG15) (fun g hg e => by have := ((unhide OG15).lt g hg).1; have := hq6 g e; omega))
  have OS16 := hide ((unhide OS15).fr fr16 (fun g hg e => by have := (unhide HSS) g hg; have := hq6 g e; omega))
  have hlt15 : w8.heap.size < w15.heap.size := (Array.getElem?_eq_some_iff.1 hc15).1
  have hc16 := (fr16.block w8.heap.size hlt15 (fun e => by have := hq6 _ e; omega)).trans hc15
  clear fr16 p0 p1 p2 hb15 hc15 OA15 OB15 OG15 OS15 hcM hq6
  have p0 := heap_cell' hc16 0 _ rfl
  have p1 := heap_cell' hc16 1 _ rfl
  have p2 := heap_cell' hc16 2 _ rfl
  have hcM := hide (markBlock_any _ (.slice (some ⟨g8, 0, none⟩) n2 n2) r2 c2 n2 _ (1 + (n1 : Int)) w16 (unhide OB16) (by omega) (by omega) (by omega))
  unfold blV at hcM
  go_wp2_with fail
  refine (unhide hcM).mono ?_
  rintro e w17 ⟨rfl, fr17⟩
  have hq8 : ∀ g, (Value.slice (some ⟨g8, 0, none⟩) n2 n2).ownBlock = some g → g = g8 := fun g hg => by simp [Value.ownBlock] at hg; exact hg.symm
  have X17 : Ext W0 w17 := fr17.ext X16 (fun k hk => by have := hq8 k hk; omega)
  have OG17 := hide (fr17.owns (unhide OG16) (fun g hg e => by have := ((unhide OG16).lt g hg).1; have := hq8 g e; omega))
  have OS17 := hide ((unhide OS16).fr fr17 (fun g hg e => by have := (unhide HSS) g hg; have := hq8 g e; omega))
  clear fr17 p0 p1 p2 hc16 OB16 OG16 OS16 hcM hq8
  have hk2 : ¬ (1 : Int) + (n1 : Int) + (n2 : Int) < 0 := by omega
  go_wp2_with fail
  refine (eqByteS_same _ _ L _ (ints_of_owns (unhide OG17)) (unhide OS17).1 (by omega)).mono ?_
  rintro e w18 ⟨rfl, F18⟩
  have X18 := X17.trans F18
  have OG18 := hide (F18.owns (unhide OG17))
  have OS18 := hide ((unhide OS17).ext F18)
  clear OG17 OS17 F18
  go_wp2_with fail
  refine (markByteS_any w8.heap.size _ L.length _ 1 _ (unhide OG18) (by omega) (by omega) (by omega)).mono ?_
  rintro e w19 ⟨rfl, og19, G19⟩
  have fr19 : Fr (fun k => (Value.slice ga L.length gc).ownBlock = some k) w18 w19 := (Fr.refl _ _).grown G19 (fun k hk => hk)
  have X19 : Ext W0 w19 := fr19.ext X18 (fun k hk => by have := ((unhide OG18).lt k hk).1; omega)
  have OS19 := hide ((unhide OS18).fr fr19 (fun g hg e => by have := (unhide HSS) g hg; have := ((unhide OG18).lt g e).1; omega))
  have RG19 : Hid (IntsAt w19 .u8 (.slice ga L.length gc) (mkU8 1 L.length)) := hide (ints_of_owns (by rw [mkU8_len]; exact og19))
  clear og19 G19 fr19 OG18 OS18
  go_wp2_with fail
  refine (heldByteS_any _ L.length 1 _ (unhide RG19) (by omega) (by omega) (by omega)).mono ?_
  rintro e w20 ⟨rfl, F20⟩
  have X20 := X19.trans F20
  have p0 := X20.cell q0
  have p1 := X20.cell q1
  have p2 := X20.cell q2
  have d0 := X20.cell s0
  have d1 := X20.cell s1
  have d2 := X20.cell s2
  have hk3 : ¬ (1 : Int) + (L.length : Int) < 0 := by omega
  have hTA := hide (fun U (hU : Ext w20 U) => (unhide hcTA) U ((E0.trans X20).trans hU) (by omega))
  have hTB := hide (fun U (hU : Ext w20 U) => (unhide hcTB) U ((E0.trans X20).trans hU) (by omega))
  have hlo20 : 0 < w20.heap.size := Nat.lt_of_lt_of_le hlo (E0.trans X20).size
  have tokA : True := trivial
  go_wp2
  go_region_held_law (fun W => W.cell? ⟨w.heap.size, 0, none⟩ = some (.slice ao n1 cap) ∧ W.cell? ⟨w.heap.size, 1, none⟩ = some (.int .i64 r1) ∧ W.cell? ⟨w.heap.size, 2, none⟩ = some (.int .i64 c1) ∧ W.cell? ⟨w.heap.size + 1, 0, none⟩ = some (.slice bo n2 cbp) ∧ W.cell? ⟨w.heap.size + 1, 1, none⟩ = some (.int .i64 r2) ∧ W.cell? ⟨w.heap.size + 1, 2, none⟩ = some (.int .i64 c2))
    (first | exact ⟨p0, p1, p2, d0, d1, d2⟩ | exact ⟨he'.cell p0, he'.cell p1, he'.cell p2, he'.cell d0, he'.cell d1, he'.cell d2⟩)
    (first
      | (go_at_call 7; have _t := tokA; refine ((unhide hTA) _ (Ext.refl w20).drew).mono ?_; rintro e w21 ⟨g21, rfl, o21, F21⟩; have he' := (Ext.refl w20).drew.trans F21; have O21 := hide o21; clear o21 F21 tokA)
      | (go_at_call 7; refine ((unhide hTB) _ he').mono ?_; rintro e w22 ⟨g22, rfl, o22, F22⟩; have he2 := he'.trans F22; have hcS := hide (implRedraw_any (.slice (some ⟨g21, 0, none⟩) n1 n1) (.slice (some ⟨g22, 0, none⟩) n2 n2) r1 c1 r2 c2 n1 n2 tx ty same (unhide HSM) w22 ((unhide O21).ext F22).reads o22.reads (by omega) (by omega) (by omega) (Nat.lt_of_lt_of_le hlo20 he2.size) ((unhide HP) _ ((E0.trans X20).trans he2))); have he' := he2; unfold blV at hcS; clear o22 F22 he2)
      | (go_at_call 15; refine (unhide hcS).mono ?_; rintro e w23 ⟨uh, rfl, oh, F23⟩; have he' := he'.trans F23; rw [← unhide HL] at oh; have RH := hide (ints_of_owns oh); clear oh F23))
  obtain ⟨ha, hc, huh, _⟩ := id (unhide RH)
  subst huh
  have X23 := X20.trans he'
  have Y23 := F20.trans he'
  clear p0 p1 p2 d0 d1 d2 he'
  go_wp2_with fail
  refine (eqByteS_same _ _ L _ (unhide RH) ((unhide OS19).1.ext Y23) (by omega)).mono ?_
  rintro e w24 ⟨rfl, F24⟩
  go_wp2_with fail
  refine (heldByteS_any _ L.length 1 _ ((unhide RG19).ext (Y23.trans F24)) (by omega) (by omega) (by omega)).mono ?_
  rintro e w25 ⟨rfl, F25⟩
  go_wp2
  go_ret
  exact ⟨rfl, (((E0.trans X23).trans F24).trans F25).below⟩
set_option maxRecDepth 100000 in
theorem fnExactRedraw_lifted (os : Os) (started : os.Started) (H : Type) (enc : TypeId × Value → H) :
    ReturnsInHanded {} Tryd.checked os 4 .any (fun w args => (Rows.fnExactRedrawSpec.pre enc Tryd.prog Tryd.f4 [] false w args ∧ laidMetH Tryd.prog laidP w) ∧ sizedMet enc Tryd.prog Tryd.f4 (OpenSpec.ofChange Rows.fnExactRedrawSpec) false w args)
      (Rows.fnExactRedrawSpec.post enc Tryd.prog Tryd.f4 false true false false) := by
  refine returnsInHanded_of_change_and (C := Tryd.checked) (X := fun w _ => laidMetH Tryd.prog laidP w) (fun _ _ _ hh h => h.of_heap hh) ownP started (by kernel_rfl) Tryd.func4
    (ChangeSpec.witness_shaped (enc := enc) (C := Tryd.checked) (os := os) (X := fun w _ => laidMetH Tryd.prog laidP w) false (World.doorLaid Tryd.prog 400 os) #[.agg #[.slice none 0 0, .int .i64 0, .int .i64 0], .agg #[.slice none 0 0, .int .i64 0, .int .i64 0]] 8 rfl (World.shaped_of_RefB (by kernel_rfl) (by kernel_rfl)) (by kernel_rfl) (by kernel_rfl) (by kernel_rfl) (door_metP os _)) ?_
  intro W base args ds gs before hval0 hW _ _ hL _
  have hval : ∀ (j : Nat) t v, Tryd.f4.params[j]? = some t → args[j]? = some v → Value.okWide Tryd.prog W .any base t v := hval0
  have hW' := hW
  obtain ⟨p, q, hA0, hV, rfl, hfz, hnd⟩ := hW
  have hA : DataW.TrodAll enc Tryd.prog W 0 (fun _ => true) true Tryd.f4.params.toList args.toList ds p := hA0
  rw [Tryd.params4] at hA hval
  obtain ⟨v0, v1, d0, d1, p0, p1, rfl, rfl, rfl, h0, h1⟩ := trodAll_two hA
  obtain ⟨rfl, rfl⟩ := trodVars_none hV
  obtain ⟨u, row, col, n, tx, rfl, k1, k2, k3⟩ := block_came (hval 0 24 v0 rfl rfl) h0
  obtain ⟨u', row', col', n', ty, rfl, k1', k2', k3'⟩ := block_came (hval 1 24 v1 rfl rfl) h1
  clear hA0 hval0
  have hP := pow_of_laid hL
  refine (fnExactRedraw_walk u u' row col row' col' n n' tx ty W k1 k1' k2 k3 k2' k3' (pow_lo hP) hP).mono fun e W' ⟨he, hb⟩ => ?_
  subst he
  exact ⟨_, rfl, post_law laidOutP (by kernel_rfl) (by kernel_rfl) (bt := 4) (by kernel_rfl) Tryd.underlying4 hW' rfl hb⟩
theorem fnExactRedraw_holds : Rows.FnExactRedrawSaid :=
  OpenClaim.holds_of_wide 4 Tryd.f4 rfl rfl rfl rfl rfl rfl rfl ⟨rfl, rfl, rfl, rfl, rfl⟩ rfl rfl rfl rfl rfl (by kernel_rfl) Tryd.func4 (by kernel_rfl)
    (of_decide_eq_true (by kernel_rfl)) (by unfold Func.isWrapper; first | (rw [if_pos (by decide +kernel)]; kernel_rfl) | (rw [if_neg (by decide +kernel)]; exact ⟨rfl, rfl⟩))
    (fun os started H enc _ => fnExactRedraw_lifted os started H enc)
theorem fnExactRedraw_card_holds : Rows.FnExactRedrawCardSaid :=
  Claim7.holds_tied_plain_at .later [] [.data, .data, .data] true Rows.fnExactRedrawCard.stood.harness false
    fnExactRedraw_holds (fun _ h => by cases h) (by kernel_rfl) (fun _ h => by cases h) fnExactRedraw_row_tie rfl ⟨rfl, rfl⟩ (by kernel_rfl) rfl
    (fun f fn hf hfn => by
      obtain rfl : f = 4 := Option.some.inj ((show Tryd.prog.funcNamed Rows.fnExactRedrawRow.func = some 4 by kernel_rfl).symm.trans hf) |>.symm
      obtain rfl : fn = Tryd.f4 := (Option.some.inj (Tryd.func4.symm.trans hfn)).symm
      exact ⟨by kernel_rfl, fun j t ht => by
        rw [Tryd.params4] at ht
        have hm : t ∈ [24, 24] := by simpa using Array.mem_of_getElem? ht
        have hall : ([24, 24].all fun u => !Tryd.prog.wantsStandIn u) = true := by kernel_rfl
        exact (show Tryd.prog.wantsStandIn t = false by simpa using List.all_eq_true.1 hall t hm)⟩)
    (by kernel_rfl)
#print axioms fnExactRedraw_card_holds
end Go.Proofs.YtlmgeobmjkbccaaDoor
