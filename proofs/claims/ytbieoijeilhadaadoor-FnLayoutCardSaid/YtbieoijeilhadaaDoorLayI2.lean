import Derived.Test.YtbieoijeilhadaaDoorLayI
namespace Go.Proofs.YtbieoijeilhadaaDoor
open Go.RowKit
theorem infoClL : (Tryd.prog.info? 58).map (fun i => (i.zero, i.size, i.bytes)) = some (some (.agg #[.slice none 0 0, .int .i64 0]), 2, 32) := by kernel_rfl
theorem infoRwL : (Tryd.prog.info? 53).map (fun i => (i.zero, i.size, i.bytes)) = some (some (.slice none 0 0), 1, 24) := by kernel_rfl
theorem owns_slice {w : World} {b : Nat} {T : TypeId} {sz : Nat} {v : Value} {n : Nat} {xs : List Value} (h : w.ownsRow b T sz v n xs) : ∃ a c, v = .slice a n c := by
  rcases h.2 with ⟨rfl, h0⟩ | ⟨g, c, _, rfl, _⟩
  · exact ⟨none, 0, by rw [h0]⟩
  · exact ⟨_, c, rfl⟩
abbrev lcells (a b c : ByteArray) (ua : Option Addr) (un uc : Nat) : Array Value := #[.string a, .string b, .string c, .slice ua un uc]
abbrev bzero : Array Value := #[.slice none 0 0, .int .i64 0, .int .i64 0]
theorem CssAt.sub {w : World} {g R c : Nat} {C : Nat → List (List Int × Int)} (h : CssAt w (.slice (some ⟨g, 0, none⟩) R c) R C) (f n Z : Nat) (hf : f + n ≤ R) (hZ : n ≤ Z) : CssAt w (.slice (some ⟨g, f, none⟩) n Z) n (fun i => C (f + i)) := by
  obtain ⟨rv, ⟨ao, ca, e, hca, hx⟩, hr⟩ := h
  simp only [Value.slice.injEq] at e
  obtain ⟨rfl, _, rfl⟩ := e
  refine ⟨fun i => rv (f + i), ⟨_, _, rfl, hZ, fun hp => ⟨g, f, rfl, fun j hj => ?_⟩⟩, fun i hi => hr (f + i) (by omega)⟩
  obtain ⟨b, off, e2, h2⟩ := hx (by omega)
  simp only [Option.some.injEq, Addr.mk.injEq] at e2
  obtain ⟨rfl, rfl, _⟩ := e2
  have := h2 (f + j) (by omega)
  rw [Nat.zero_add] at this
  exact this
theorem css_more {w wA : World} {b R : Nat} {v vA : Value} {rv : Nat → Value} {rs : Nat → List Value} {C : Nat → List (List Int × Int)} {ys : List Value} {o : Obj} (h : OwnCss w b v rv rs R C) (oy : w.ownsRow b 53 1 v R ys) (ky : ∀ j, j < R → ys[j]? = some (rv j))
    (oA : wA.ownsRow b 53 1 vA (R + 1) (ys ++ [.slice none 0 0])) (GA : (w.alloc o).grownBy wA v.ownBlock) : ∃ gA cA, vA = .slice (some ⟨gA, 0, none⟩) (R + 1) cA ∧ R + 1 ≤ cA ∧ CssAt wA (.slice (some ⟨gA, 0, none⟩) (R + 1) cA) (R + 1) (fun i => if i < R then C i else []) := by
  have ly : ys.length = R := by have := oy.1; omega
  rcases oA.2 with ⟨_, h0⟩ | ⟨g, cap, cur, rfl, _, _, hn, _⟩
  · omega
  refine ⟨g, cap, rfl, hn, fun i => if i < R then rv i else .slice none 0 0, ⟨_, _, rfl, hn, fun _ => ⟨g, 0, rfl, fun j hj => ?_⟩⟩, fun i hi => ?_⟩
  · rw [Nat.zero_add, oA.cellAt j (by omega)]
    dsimp only
    split
    · rename_i h1
      rw [List.getElem?_append_left (by omega)]
      exact ky j h1
    · rename_i h1
      rw [List.getElem?_append_right (by omega), ly, show j - R = 0 by omega]
      rfl
  · dsimp only
    split
    · rename_i h1
      have fr : Fr (fun k => v.ownBlock = some k) w wA := (Fr.of_ext ((Ext.refl w).alloc o)).grown GA (fun k hk => hk)
      exact ((h.2.1 i h1).fr fr (fun g hg e => h.apart h1 hg e)).cls
    · exact ⟨[], none, 0, rfl, Nat.le_refl _, fun j hj => absurd hj (Nat.not_lt_zero j), fun hp => absurd hp (Nat.lt_irrefl 0)⟩
set_option maxRecDepth 10000 in
set_option maxHeartbeats 4000000 in
theorem implLayout_no (pr a b c : ByteArray) (ua : Option Addr) (un uc : Nat) (cols rows : Int) (w : World) (hs : sizeB cols rows = false) :
    Calls Tryd.prog 26 #[.string pr, .agg (lcells a b c ua un uc), .int .i64 cols, .int .i64 rows] w fun e w' => e = .returned (.agg bzero) ∧ Ext w w' := by
  go_enter Tryd.func26, Tryd.ntmps26
  go_wp2_with fail
  refine (sizeOk_any _ _ _).mono ?_
  rw [hs]
  rintro e w1 ⟨rfl, rfl⟩
  go_wp2
  exact bodyPost_ret (v := .agg bzero) (by simp [results, Tryd.results26, go_sem]) rfl ⟨rfl, ((Ext.refl w).alloc _).alloc _⟩
set_option maxRecDepth 10000 in
set_option maxHeartbeats 4000000 in
theorem implLayout_yes (P A B : List Int) (c : ByteArray) (ua : Option Addr) (un uc : Nat) (cols rows : Nat) (w : World) (hs : sizeB cols rows = true) (hP : Bytes P) (hA : Bytes A) (hB : Bytes B) (lP : P.length ≤ 1048576) (lA : A.length ≤ 1048576) (lB : B.length ≤ 1048576) (hT : Laid w) :
    Calls Tryd.prog 26 #[.string (toBA P), .agg (lcells (toBA A) (toBA B) c ua un uc), .int .i64 cols, .int .i64 rows] w fun e w' => ∃ v, e = .returned (.agg #[v, .int .i64 ((layRow (cutC P ++ cutC A ++ cutC B) cols ((cutC P).length + (cutC A).length) : Int) - (layFr (cutC P ++ cutC A ++ cutC B) cols ((cutC P).length + (cutC A).length) rows : Int)), .int .i64 (layCol (cutC P ++ cutC A ++ cutC B) cols ((cutC P).length + (cutC A).length))]) ∧ Own1 w' w.heap.size 9 v (layCnt (cutC P ++ cutC A ++ cutC B) cols ((cutC P).length + (cutC A).length) rows) (fun i => .string (layT (cutC P ++ cutC A ++ cutC B) cols ((cutC P).length + (cutC A).length) rows i)) ∧ Ext w w' := by
  obtain ⟨ic, hic, hc0, hc1, hc2⟩ := info_parts infoClL
  have hcP := hide (fun U (hU : Ext w U) => clustersOf_any P hP U (by omega) (hT.below hU.below))
  have hcA := hide (fun U (hU : Ext w U) => clustersOf_any A hA U (by omega) (hT.below hU.below))
  have hcB := hide (fun U (hU : Ext w U) => clustersOf_any B hB U (by omega) (hT.below hU.below))
  have kP := cutC_len P
  have kA := cutC_len A
  have kB := cutC_len B
  clear hT
  obtain ⟨D0, hD0⟩ : ∃ D0, D0 = cutC P ++ cutC A ++ cutC B := ⟨_, rfl⟩
  obtain ⟨p0, hp0⟩ : ∃ p0, p0 = (cutC P).length + (cutC A).length := ⟨_, rfl⟩
  rw [← hD0, ← hp0]
  have HD0 := hide hD0
  have HP0 := hide hp0
  clear hD0 hp0
  go_enter Tryd.func26, Tryd.ntmps26
  go_wp2_with fail
  refine (sizeOk_any _ _ _).mono ?_
  rw [hs]
  rintro e w1 ⟨rfl, rfl⟩
  obtain ⟨cn, rn, ec, er, n2, n200, r1, r100⟩ := sizeB_open hs
  obtain rfl : cn = cols := by omega
  obtain rfl : rn = rows := by omega
  clear ec er
  have hb0 := new_block (w.alloc (.cells (lcells (toBA A) (toBA B) c ua un uc) 46)) (.cells bzero 51)
  have hbl := ((Ext.refl _).alloc (.cells bzero 51)).kept (new_block w (.cells (lcells (toBA A) (toBA B) c ua un uc) 46))
  have E0 := ((Ext.refl w).alloc (.cells (lcells (toBA A) (toBA B) c ua un uc) 46)).alloc (.cells bzero 51)
  have hz0 : ((w.alloc (.cells (lcells (toBA A) (toBA B) c ua un uc) 46)).alloc (.cells bzero 51)).heap.size = w.heap.size + 2 := by simp
  obtain ⟨W0, hW0⟩ : ∃ W0, W0 = (w.alloc (.cells (lcells (toBA A) (toBA B) c ua un uc) 46)).alloc (.cells bzero 51) := ⟨_, rfl⟩
  rw [← hW0] at hb0 hbl E0 hz0
  have hz : (w.alloc (.cells (lcells (toBA A) (toBA B) c ua un uc) 46)).heap.size = w.heap.size + 1 := by simp
  rw [hz] at hb0
  have q0 := cells_of hbl 0 _ rfl
  have HW := hide hW0
  have HB0 := hide hb0
  have HBL := hide hbl
  clear hW0 hz hb0 hbl
  go_wp2
  rw [← unhide HW]
  clear HW
  have tokA : True := trivial
  go_region_held_law (fun W => W.cell? ⟨w.heap.size, 0, none⟩ = some (.string (toBA A))) (first | exact q0 | exact d0 | exact f0 | exact k0)
    (first
      | (go_at_call 58; have _t := tokA; refine ((unhide hcP) _ E0.drew).mono ?_; rintro e w2 ⟨v2, rs2, rfl, o2, F2⟩; have E2 := (Ext.refl W0).drew.trans F2; have d0 := E2.cell q0; have O2 := hide o2; have HE2 := hide E2; clear tokA o2 F2 E2)
      | (go_at_call 58; refine ((unhide hcA) _ (E0.trans (unhide HE2))).mono ?_; rintro e w3 ⟨v3, rs3, rfl, o3, F3⟩; have E3 := (unhide HE2).trans F3; have f0 := E3.cell q0; obtain ⟨ys3, oy3, ky3, src3⟩ := o3.ys; obtain ⟨ys2, oy2, ky2, _⟩ := ((unhide O2).ext F3).ys; have O3 := hide o3; have O23 := hide ((unhide O2).ext F3); have LT2 := hide (fun g (hg : Foot v2 rs2 (cutC P).length g) => ((unhide O2).lt hg)); have HE3 := hide E3; have HF3 := hide F3; have OY2 := hide oy2; have KY2 := hide ky2; have KY3 := hide ky3; have SR3 := hide src3; have hsz3 := E3.size; clear o3 E3 F3 oy3 ky3 src3 oy2 ky2)
      | (refine step_app (by rfl) _ _ 53 (by rfl) W0.heap.size 58 ic (.agg #[.slice none 0 0, .int .i64 0]) 2 32 Tryd.underlying53 hic hc0 hc1 hc2 rfl (by decide) _ _ ys2 (by rfl) (unhide OY2) _ _ ys3 (by rfl) (unhide SR3) (by unfold maxLen; omega) (by omega) (by omega) ?_; intro v4 w4 o4 G4 _; have E4 := (unhide HE3).grown G4 (fun q hq => ((unhide OY2).lt q hq).1); have k0 := E4.cell q0; have O4 := hide (OwnCls.append (unhide O23) (unhide O3) (by have := (unhide HE2).size; exact this) (fun g hg => ((unhide LT2) g hg).2) (unhide OY2) (unhide KY2) (unhide KY3) o4 G4); obtain ⟨a4, c4, e4⟩ := owns_slice o4; subst e4; have HE4 := hide E4; clear o4 G4 E4))
  have HCU := hide (((cuts_one P).app (cuts_one A)).app (cuts_one B))
  rw [← List.length_append] at O4 HP0 ⊢
  have kC : (cutC P ++ cutC A).length = (cutC P).length + (cutC A).length := List.length_append
  have hq1 := cells_of ((unhide HE4).kept (unhide HBL)) 1 _ rfl
  have hs4 := (unhide HE4).size
  generalize cutC P ++ cutC A = C1 at *
  have kCB : (C1 ++ cutC B).length = C1.length + (cutC B).length := List.length_append
  generalize hD : C1 ++ cutC B = D at *
  have HD := hide hD
  have kD1 : C1.length ≤ D.length := by omega
  have kD2 : D.length ≤ 3145728 := by omega
  have kD3 : C1.length + (cutC B).length ≤ 3145728 := by omega
  clear hD kCB kC
  have hcW := hide (fun (v : Value) (U : World) (hv : ClsAt U v D) => implWrap_any v D cn U hv (by omega) (fun j _ => by have := (unhide HCU).runes j; omega))
  go_wp2_with (first
    | (go_at_call 58; refine ((unhide hcB) _ (E0.trans (unhide HE4))).mono ?_; rintro e w5 ⟨v5, rs5, rfl, o5, F5⟩; have E5 := (unhide HE4).trans F5; obtain ⟨ys5, oy5, ky5, src5⟩ := o5.ys; obtain ⟨ys4, oy4, ky4, _⟩ := ((unhide O4).ext F5).ys; have O5 := hide o5; have O45 := hide ((unhide O4).ext F5); have LT4 := hide (fun g hg => ((unhide O4).lt (g := g) hg)); have HE5 := hide E5; have OY4 := hide oy4; have KY4 := hide ky4; have KY5 := hide ky5; have SR5 := hide src5; have hsz5 := E5.size; clear o5 E5 F5 oy5 ky5 src5 oy4 ky4)
    | (at_builtin; go_must (refine wpList_app rfl _ _ 53 rfl W0.heap.size 58 ic (.agg #[.slice none 0 0, .int .i64 0]) 2 32 Tryd.underlying53 hic hc0 hc1 hc2 rfl (by decide) _ _ ys4 rfl (unhide OY4) _ _ ys5 rfl (unhide SR5) (by unfold maxLen; omega) (by omega) (by omega) ?_); intro v6 w6 o6 G6 _; have E6 := (unhide HE5).grown G6 (fun q hq => ((unhide OY4).lt q hq).1); have O6 := hide (OwnCls.append (unhide O45) (unhide O5) hs4 (fun g hg => ((unhide LT4) g hg).2) (unhide OY4) (unhide KY4) (unhide KY5) o6 G6); have HE6 := hide E6; have hsz6 := E6.size; clear o6 G6 E6))
  rw [unhide HD] at O6
  refine ((unhide hcW) _ _ (unhide O6).cls).mono ?_
  rintro e w7 ⟨v7, rv7, rs7, rfl, o7, F7⟩
  have hwr : wrR D cn = (stS D cn).length := by unfold wrR; rw [if_neg (by omega)]; rfl
  rw [hwr] at o7
  replace o7 : OwnCss w7 w6.heap.size v7 rv7 rs7 (stS D cn).length (rowsC D (stS D cn ++ [(D.length : Int)])) := o7
  have hm1 : 1 ≤ (stS D cn).length := (stF_ok D cn D.length).one
  have hm2 : (stS D cn).length ≤ D.length + 1 := (stF_ok D cn D.length).len
  obtain ⟨ys7, oy7, ky7⟩ := o7.1
  obtain ⟨g7, c7, rfl, hRc⟩ : ∃ g c, v7 = .slice (some ⟨g, 0, none⟩) (stS D cn).length c ∧ (stS D cn).length ≤ c := by
    rcases oy7.2 with ⟨_, h0⟩ | ⟨g, cap, cur, hv, _, _, hn, _⟩
    · omega
    · exact ⟨g, cap, hv, hn⟩
  have O7 := hide o7
  have OY7 := hide oy7
  have KY7 := hide ky7
  have HE7 := hide ((unhide HE6).trans F7)
  have hs7 := F7.size
  have hcPl := hide (placeOf_any _ D cn C1.length w7 (unhide HCU).wide n2 (by omega) (by omega) o7.reads)
  have hrow0 := hide (layRow0_lt (cs := D) (cols := cn) (p := C1.length))
  have hcol0 := hide (layCol0_bd (p := C1.length) (unhide HCU).wide n2 (by omega))
  have hfull := hide (full_iff (p := C1.length) (unhide HCU).wide n2 (by omega))
  clear o7 oy7 ky7 F7 hwr hcW hcB O6 O4 O45 O5 SR5 KY5 KY4 OY4 LT4 O2 O3 O23 OY2 KY2 KY3 SR3 LT2 HF3 HE2 HE3 HE4 HE5 hq1
  go_wp2_with fail
  refine (unhide hcPl).mono ?_
  rintro e w8 ⟨rfl, F8⟩
  have HE8 := hide ((unhide HE7).trans F8)
  have OY8 := hide (F8.owns (unhide OY7))
  have HC8 := hide ((unhide O7).ext F8).reads
  have hcx := hide (fun (U : World) (v : Value) (f n : Nat) (hv : CssAt U v n (fun i => layC D cn C1.length (f + i))) (hn : n ≤ 1048576) => textsOf_any v n _ U hv (by omega) (fun i _ => by have := ((unhide HCU).part (at0 (layS D cn C1.length ++ [(D.length : Int)]) (f + i)).toNat (at0 (layS D cn C1.length ++ [(D.length : Int)]) (f + i + 1)).toNat).1; exact Nat.le_trans this (by omega)) (fun i _ j _ => ((unhide HCU).part _ _).2 j))
  obtain ⟨hcl0, hcl1⟩ := unhide hcol0
  by_cases hfu : layCol0 D cn C1.length = cn
  · have hLS : layS D cn C1.length = stS D cn ++ [(C1.length : Int)] := by unfold layS; rw [if_pos ((unhide hfull).2 hfu)]
    have hLR : layRow D cn C1.length = layRow0 D cn C1.length + 1 := by unfold layRow; rw [if_pos ((unhide hfull).2 hfu)]
    have hLC : layCol D cn C1.length = 0 := by unfold layCol; rw [if_pos ((unhide hfull).2 hfu)]
    have hpn : C1.length = D.length := ((unhide hfull).2 hfu).1
    have HLS := hide hLS
    have HLR := hide hLR
    have HLC := hide hLC
    have HPN := hide hpn
    have hr0 := unhide hrow0
    clear hLS hLR hLC hpn
    generalize hro : layRow0 D cn C1.length = r0 at *
    generalize hco : layCol0 D cn C1.length = c0 at *
    generalize hRR : (stS D cn).length = R at *
    have HLS' : Hid ((layS D cn C1.length).length = R + 1) := hide (by rw [unhide HLS, List.length_append, hRR]; rfl)
    have HRR := hide hRR
    clear hro hco hRR
    have hz8 := (unhide HE8).size
    obtain ⟨ir, hir, hr0', hr1', hr2'⟩ := info_parts infoRwL
    obtain ⟨f, hf⟩ : ∃ f : Nat, f = r0 + 1 + 1 - rn := ⟨_, rfl⟩
    obtain ⟨n, hn⟩ : ∃ n : Nat, n = min (f + rn) (R + 1) - f := ⟨_, rfl⟩
    have hfin : Hid (layFr D cn C1.length rn = f ∧ layCnt D cn C1.length rn = n ∧ layRow D cn C1.length = r0 + 1 ∧ layCol D cn C1.length = 0) := by
      have e1 : layFr D cn C1.length rn = f := by unfold layFr; rw [unhide HLR, hf]
      refine hide ⟨e1, ?_, unhide HLR, unhide HLC⟩
      unfold layCnt
      rw [e1, unhide HLS', hn]
    have HF := hide hf
    have HN := hide hn
    clear hf hn
    have HLY : Hid (layC D cn C1.length = fun i => if i < R then rowsC D (stS D cn ++ [(D.length : Int)]) i else []) := by
      refine hide ?_
      funext i
      unfold layC rowsC
      rw [unhide HLS]
      have a1 : ∀ q, q < R → at0 (stS D cn ++ [(C1.length : Int)] ++ [(D.length : Int)]) q = at0 (stS D cn ++ [(D.length : Int)]) q := fun q hq => by
        rw [at0_app, if_neg (by rw [List.length_append, unhide HRR]; simp; omega), at0_app, if_neg (by rw [unhide HRR]; omega), at0_app, if_neg (by rw [unhide HRR]; omega)]
      have a2 : at0 (stS D cn ++ [(C1.length : Int)] ++ [(D.length : Int)]) R = (D.length : Int) := by
        rw [at0_app, if_neg (by rw [List.length_append, unhide HRR]; simp), at0_app, if_pos (unhide HRR).symm, unhide HPN]
      have a3 : at0 (stS D cn ++ [(D.length : Int)]) R = (D.length : Int) := by rw [at0_app, if_pos (unhide HRR).symm]
      split
      · rename_i h1
        rw [a1 i h1]
        by_cases e : i + 1 < R
        · rw [a1 _ e]
        · rw [show i + 1 = R by omega, a2, a3]
      · rename_i h1
        by_cases e : i = R
        · subst e
          have a4 : at0 (stS D cn ++ [(C1.length : Int)] ++ [(D.length : Int)]) (i + 1) = (D.length : Int) := by rw [at0_app, if_pos (by rw [List.length_append, unhide HRR]; rfl)]
          rw [a2, a4]
          simp
        · have a5 : at0 (stS D cn ++ [(C1.length : Int)] ++ [(D.length : Int)]) (i + 1) = 0 := by
            unfold at0
            rw [List.getElem?_eq_none (by rw [List.length_append, List.length_append, unhide HRR]; simp; omega)]
            rfl
          rw [a5]
          simp
    subst hfu
    have hcxA := hide (fun (U : World) (gA cA : Nat) (h : CssAt U (.slice (some ⟨gA, 0, none⟩) (R + 1) cA) (R + 1) (fun i => if i < R then rowsC D (stS D cn ++ [(D.length : Int)]) i else [])) (X Y Z : Nat) (e1 : X = f) (e2 : Y = n) (h3 : n ≤ Z) => (by
      subst e1
      subst e2
      rw [← unhide HLY] at h
      exact (unhide hcx) _ _ _ _ (h.sub X Y Z (by have := unhide HF; have := unhide HN; omega) h3) (by have := unhide HF; have := unhide HN; omega) : Calls Tryd.prog 61 #[.slice (some ⟨gA, X, none⟩) Y Z] U fun e w' => ∃ v', e = .returned v' ∧ Own1 w' U.heap.size 9 v' n (fun i => .string (toBA (textC (layC D cn C1.length (f + i))))) ∧ Ext U w'))
    go_wp2_with (first
      | (at_builtin; go_must (refine wpList_app rfl _ _ 98 rfl w6.heap.size 53 ir (.slice none 0 0) 1 24 Tryd.underlying98 hir hr0' hr1' hr2' rfl (by decide) _ _ ys7 rfl ((unhide OY8).alloc _) _ 1 [.slice none 0 0] rfl (Src.made _ _ _ rfl (by simp [Value.oneCell'])) (by unfold maxLen; omega) (by omega) (by simp; have := F8.size; omega) ?_); intro vA wA oA GA _; obtain ⟨gA, cA, eA, hcA, HCA0⟩ := css_more ((unhide O7).ext F8) (unhide OY8) (unhide KY7) oA GA; have HCA := hide HCA0; subst eA; have HEF := hide (((unhide HE8).alloc _).grown GA (fun q hq => by have := ((unhide OY8).lt q hq).1; omega)); have HCS := hide ((unhide hcxA) _ _ _ (unhide HCA)); clear oA GA HCA0))
    all_goals
      refine ((unhide HCS) _ _ _ (by have := unhide HF; omega) (by have := unhide HF; have := unhide HN; omega) (by have := unhide HF; have := unhide HN; omega)).mono ?_
      rintro e w9 ⟨v9, rfl, o9, F9⟩
      obtain ⟨a9, c9, rfl⟩ := o9.slice
      have T9 := (unhide HEF).trans F9
      have O9 := hide o9
      have hb9 := T9.kept (unhide HB0)
      have b0 := cells_of hb9 0 _ rfl
      have b1 := cells_of hb9 1 _ rfl
      have b2 := cells_of hb9 2 _ rfl
      have f1 : ∀ i, w9.frozen? ⟨w.heap.size + 1, i, none⟩ = false := fun i => Lib.frozen_of_heap hb9 i
      have hsF := (unhide HEF).size
      clear o9 hb9
      go_wp2
      refine bodyPost_ret (v := .agg #[.slice a9 n c9, .int .i64 ((r0 : Int) + 1 - (f : Int)), .int .i64 0]) (by simp [results, Tryd.results26, go_sem, b0, b1, b2] <;> (have := unhide HF; omega)) rfl ⟨.slice a9 n c9, ?_, ?_, ?_⟩
      rotate_left
      · obtain ⟨q1, q2, q3, q4⟩ := unhide hfin
        rw [unhide HD0, unhide HP0, q2]
        have hcg : Own1 w9 wA.heap.size 9 (.slice a9 n c9) n (fun i => .string (layT D cn C1.length rn i)) := by
          unfold layT
          rw [q1]
          exact unhide O9
        refine (hcg.fr (S := fun q => q = w.heap.size + 1) ?_ (fun g hg e => by have := hcg.lt g hg; omega)).mono (by omega)
        repeat' first | refine Fr.setCell (S := fun q => q = w.heap.size + 1) ?_ (a := ⟨w.heap.size + 1, _, none⟩) rfl _ | exact Fr.refl _ _
      · refine Fr.ext (S := fun q => q = w.heap.size + 1) (w := w9) ?_ (E0.trans T9) (fun k hk => by omega)
        repeat' first | refine Fr.setCell (S := fun q => q = w.heap.size + 1) ?_ (a := ⟨w.heap.size + 1, _, none⟩) rfl _ | exact Fr.refl _ _
      · obtain ⟨q1, q2, q3, q4⟩ := unhide hfin
        rw [unhide HD0, unhide HP0, q1, q3, q4]
        rw [show ((r0 + 1 : Nat) : Int) = (r0 : Int) + 1 by omega]
  · have hLS : layS D cn C1.length = stS D cn := by unfold layS; rw [if_neg (fun h => hfu ((unhide hfull).1 h))]
    have hLR : layRow D cn C1.length = layRow0 D cn C1.length := by unfold layRow; rw [if_neg (fun h => hfu ((unhide hfull).1 h))]
    have hLC : layCol D cn C1.length = layCol0 D cn C1.length := by unfold layCol; rw [if_neg (fun h => hfu ((unhide hfull).1 h))]
    have HLS := hide hLS
    have HLR := hide hLR
    have HLC := hide hLC
    have hr0 := unhide hrow0
    generalize hro : layRow0 D cn C1.length = r0 at *
    generalize hco : layCol0 D cn C1.length = c0 at *
    generalize hRR : (stS D cn).length = R at *
    clear hLS hLR hLC
    have HLS' : Hid ((layS D cn C1.length).length = R) := hide (by rw [unhide HLS]; exact hRR)
    have HCF : Hid (CssAt w8 (.slice (some ⟨g7, 0, none⟩) R c7) R (layC D cn C1.length)) := by
      refine hide ?_
      have e : layC D cn C1.length = rowsC D (stS D cn ++ [(D.length : Int)]) := by
        funext i
        unfold layC rowsC
        rw [unhide HLS]
      rw [e]
      exact unhide HC8
    have HEF := HE8
    clear hro hco hRR
    obtain ⟨f, hf⟩ : ∃ f : Nat, f = r0 + 1 - rn := ⟨_, rfl⟩
    obtain ⟨n, hn⟩ : ∃ n : Nat, n = min (f + rn) R - f := ⟨_, rfl⟩
    have HCS : Hid (∀ X Y Z : Nat, X = f → Y = n → n ≤ Z → Calls Tryd.prog 61 #[.slice (some ⟨g7, X, none⟩) Y Z] w8 fun e w' => ∃ v', e = .returned v' ∧ Own1 w' w8.heap.size 9 v' n (fun i => .string (toBA (textC (layC D cn C1.length (f + i))))) ∧ Ext w8 w') := by
      refine hide (fun X Y Z e1 e2 h3 => ?_)
      subst e1
      subst e2
      exact (unhide hcx) _ _ _ _ ((unhide HCF).sub _ _ Z (by omega) h3) (by omega)
    have hfin : Hid (layFr D cn C1.length rn = f ∧ layCnt D cn C1.length rn = n ∧ layRow D cn C1.length = r0 ∧ layCol D cn C1.length = c0) := by
      have e1 : layFr D cn C1.length rn = f := by unfold layFr; rw [unhide HLR, hf]
      refine hide ⟨e1, ?_, unhide HLR, unhide HLC⟩
      unfold layCnt
      rw [e1, unhide HLS', hn]
    have HF := hide hf
    have HN := hide hn
    clear hf hn
    go_wp2_with fail
    all_goals
      refine ((unhide HCS) _ _ _ (by have := unhide HF; omega) (by have := unhide HF; have := unhide HN; omega) (by have := unhide HF; have := unhide HN; omega)).mono ?_
      rintro e w9 ⟨v9, rfl, o9, F9⟩
      obtain ⟨a9, c9, rfl⟩ := o9.slice
      have T9 := (unhide HEF).trans F9
      have O9 := hide o9
      have hb9 := T9.kept (unhide HB0)
      have b0 := cells_of hb9 0 _ rfl
      have b1 := cells_of hb9 1 _ rfl
      have b2 := cells_of hb9 2 _ rfl
      have f1 : ∀ i, w9.frozen? ⟨w.heap.size + 1, i, none⟩ = false := fun i => Lib.frozen_of_heap hb9 i
      have hsF := (unhide HEF).size
      clear o9 hb9
      go_wp2
      refine bodyPost_ret (v := .agg #[.slice a9 n c9, .int .i64 ((r0 : Int) - (f : Int)), .int .i64 c0]) (by simp [results, Tryd.results26, go_sem, b0, b1, b2] <;> (have := unhide HF; omega)) rfl ⟨.slice a9 n c9, ?_, ?_, ?_⟩
      rotate_left
      · obtain ⟨q1, q2, q3, q4⟩ := unhide hfin
        rw [unhide HD0, unhide HP0, q2]
        have hcg : Own1 w9 w8.heap.size 9 (.slice a9 n c9) n (fun i => .string (layT D cn C1.length rn i)) := by
          unfold layT
          rw [q1]
          exact unhide O9
        refine (hcg.fr (S := fun q => q = w.heap.size + 1) ?_ (fun g hg e => by have := hcg.lt g hg; omega)).mono (by omega)
        repeat' first | refine Fr.setCell (S := fun q => q = w.heap.size + 1) ?_ (a := ⟨w.heap.size + 1, _, none⟩) rfl _ | exact Fr.refl _ _
      · refine Fr.ext (S := fun q => q = w.heap.size + 1) (w := w9) ?_ (E0.trans T9) (fun k hk => by omega)
        repeat' first | refine Fr.setCell (S := fun q => q = w.heap.size + 1) ?_ (a := ⟨w.heap.size + 1, _, none⟩) rfl _ | exact Fr.refl _ _
      · obtain ⟨q1, q2, q3, q4⟩ := unhide hfin
        rw [unhide HD0, unhide HP0, q1, q3, q4]
end Go.Proofs.YtbieoijeilhadaaDoor
