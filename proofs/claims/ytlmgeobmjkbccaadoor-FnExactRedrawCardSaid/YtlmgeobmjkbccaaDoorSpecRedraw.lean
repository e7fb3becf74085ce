import Derived.Test.YtlmgeobmjkbccaaDoorRedrawM
import Derived.Test.YtlmgeobmjkbccaaDoorSpecPaint
import Derived.Deep.RegionHeldLaw
import Derived.Deep.RegionLawGrows
namespace Go.Proofs.YtlmgeobmjkbccaaDoor
open Go.RowKit
def ConvRow (w : World) (g cap : Nat) (L : List Int) : Prop :=
  ∃ cur : Array Value, w.heap[g]? = some (.cells cur 5 (cur.size, cur.size + 1)) ∧ cur.size = cap ∧ L.length ≤ cap ∧ ∀ j, j < L.length → cur[j]? = some (.int .u8 (at0 L j))
theorem ConvRow.ext {w w' : World} {g cap : Nat} {L : List Int} (h : ConvRow w g cap L) (he : Ext w w') : ConvRow w' g cap L := by
  obtain ⟨cur, h1, h2⟩ := h
  exact ⟨cur, he.keep' h1, h2⟩
theorem ConvRow.cell {w : World} {g cap : Nat} {L : List Int} (h : ConvRow w g cap L) (j : Nat) (hj : j < L.length) : w.cell? ⟨g, j, none⟩ = some (.int .u8 (at0 L j)) := by
  obtain ⟨cur, h1, _, _, h4⟩ := h
  exact heap_cell' h1 j _ (h4 j hj)
theorem ConvRow.spare {w : World} {g cap : Nat} {L : List Int} (h : ConvRow w g cap L) (j : Nat) (hj : j < cap) : (w.cell? ⟨g, j, none⟩).isSome = true ∧ w.frozen? ⟨g, j, none⟩ = false := by
  obtain ⟨cur, h1, h2, _, _⟩ := h
  constructor
  · rw [heap_cell' h1 j _ (Array.getElem?_eq_getElem (by omega))]; rfl
  · simp [World.frozen?, h1]; omega
set_option maxRecDepth 10000 in
theorem s2r (w : World) (L : List Int) (hb : Bytes L) : ∃ cap W', (convert 9 26 (.string (toBA L))).run Tryd.prog w = .ok (.slice (some ⟨w.heap.size, 0, none⟩) L.length cap) W' ∧ ConvRow W' w.heap.size cap L ∧ Ext w W' ∧ w.heap.size < W'.heap.size := by
  have hr := run_bytes_of_string (P := Tryd.prog) w 9 26 5 (toBA L) Tryd.underlying9 Tryd.underlying26 Tryd.underlying5
  rw [toBA_size] at hr
  have hge := grownCap_ge w L.length 0 5
  have hsz : (bytesRow (toBA L) (grownCap w L.length 0 5)).size = grownCap w L.length 0 5 := by
    have h1 : (toBA L).data.size = L.length := toBA_size L
    unfold bytesRow
    rw [Array.size_append, Array.size_map, Array.size_replicate, h1, toBA_size]
    omega
  refine ⟨_, _, hr, ⟨_, alloc_new w.drew _, hsz, hge, fun j hj => ?_⟩, (Ext.refl w).drew.alloc _, by rw [World.size_alloc]; exact Nat.lt_succ_self _⟩
  have hjl : j < (toBA L).data.size := by have : (toBA L).data.size = L.length := toBA_size L; omega
  rw [bytesRow_at _ _ _ hjl]
  have hbb := hb.at0 j
  have e : (toBA L).data[j] = UInt8.ofNat (at0 L j).toNat := by
    have h1 : (toBA L).data.toList[j]? = some ((toBA L).data[j]) := by simp
    rw [toBA_list] at h1
    rw [List.getElem?_map, at0_lt hj] at h1
    simpa using h1.symm
  rw [e]
  congr 2
  simp
  omega
theorem Ext.setCells {w0 : World} (b : Nat) (hb : w0.heap.size ≤ b) : ∀ (vs : List Value) (o : Nat) (w : World), Ext w0 w → Ext w0 (w.setCells b o vs)
  | [], _, _, h => h
  | v :: r, o, _, h => Ext.setCells b hb r (o + 1) _ (h.setCell (a := ⟨b, o, none⟩) hb v)
theorem setCells_size (b : Nat) : ∀ (vs : List Value) (o : Nat) (w : World), (w.setCells b o vs).heap.size = w.heap.size
  | [], _, _ => rfl
  | v :: r, o, w => by rw [World.setCells, setCells_size b r (o + 1) _, World.size_setCell]
theorem at0_app7 (L X : List Int) (j : Nat) : at0 (L ++ X) j = if j < L.length then at0 L j else at0 X (j - L.length) := by
  unfold at0
  by_cases h : j < L.length
  · rw [if_pos h, List.getElem?_append_left h]
  · rw [if_neg h, List.getElem?_append_right (by omega)]
theorem step_append_conv {ops : Array Oper} {o : Oper} {a : Act} {w : World} {K : Act → World → Prop} {Q : Exit → Act → World → Prop} {E : Prop}
    (hgd : o.guard = none) (s x : Operand) (hop : o.op = Op.call { callee := Callee.builtin Builtin.append, args := #[s, x], argTypes := #[26, 26] })
    (g cap : Nat) (L : List Int) (hs : a.eval s = .slice (some ⟨g, 0, none⟩) L.length cap) (hcv : ConvRow w g cap L)
    (ad : Addr) (c : Nat) (X : List Int) (hx : a.eval x = .slice (some ad) X.length c) (hc : ∀ j u, (X.map (Value.int .u8))[j]? = some u → w.cell? (ad.add j) = some u) (hlen : L.length + X.length ≤ 1099511627776)
    (w0 : World) (hE : Ext w0 w) (h0 : w0.heap.size ≤ g) (hg : g < w.heap.size)
    (hK : ∀ ao cap' w', RB w' w0.heap.size (.slice ao (L ++ X).length cap') (L ++ X) → Ext w0 w' → K (a.put o.dst (.slice ao (L ++ X).length cap')) w') :
    if Region.wanted o (yielded ops a.tmps) = true then Oper.wp Tryd.prog o a w K Q else E := by
  obtain ⟨i0, hi, hz0, hz1, hz2⟩ := u8_parts
  have hw0 := hE.size
  by_cases hroom : L.length + X.length ≤ cap
  · refine step_append_room hgd s x 26 hop 5 i0 1 Tryd.underlying26 hi hz1 g 0 L.length cap hs ad X.length c (X.map (Value.int .u8)) hx (by simp) hc (ints_oneCell _ _) hroom (fun j hj => ?_) ?_
    · have hj' : j < X.length := by simpa using hj
      rw [Nat.mul_one, Nat.zero_add]
      exact hcv.spare _ (by omega)
    · rw [Nat.mul_one, Nat.zero_add, show L.length + X.length = (L ++ X).length by simp]
      refine hK _ _ _ ⟨⟨_, _, rfl, by simpa using hroom, fun _ => ⟨_, _, rfl, fun j hj => ?_⟩⟩, fun g' hg' => ?_⟩ (hE.setCells g h0 _ _ _)
      · rw [Nat.zero_add, at0_app7]
        by_cases hjl : j < L.length
        · rw [if_pos hjl, World.cell?_setCells_out g _ _ _ _ (fun _ _ => .inl hjl)]
          exact hcv.cell j hjl
        · rw [if_neg hjl]
          have hj2 : j - L.length < X.length := by simp at hj; omega
          have hin := World.cell?_setCells_in g (X.map (Value.int .u8)) L.length w (fun i hi => (hcv.spare _ (by simp at hi; omega)).1) (j - L.length) (by simpa using hj2)
          rw [show L.length + (j - L.length) = j by omega] at hin
          rw [hin]
          simp [at0, hj2]
      · simp [Value.ownBlock] at hg'
        subst hg'
        rw [setCells_size]
        omega
  · refine step_append_grows hgd s x 26 hop 5 i0 (.int .u8 0) 1 1 Tryd.underlying26 hi hz0 hz1 hz2 rfl (by decide) (some ⟨g, 0, none⟩) L.length cap (L.map (Value.int .u8)) hs (fun e => by cases e) (by simp) (fun b hb j u hu => ?_) ad X.length c (X.map (Value.int .u8)) hx (by simp) hc (ints_oneCell _ _) (by omega) (by unfold maxLen; omega) (by omega) (fun v' w' ho hgr => ?_)
    · obtain rfl := Option.some.inj hb
      have hj : j < L.length := by have := (List.getElem?_eq_some_iff.1 hu).1; simpa using this
      rw [Addr.add_lit, Nat.zero_add, hcv.cell j hj, ← hu]
      simp [at0_lt hj]
    · rw [← List.map_append, show L.length + X.length = (L ++ X).length by simp] at ho
      obtain ⟨ao, cap', hv, _⟩ := id (ints_of_owns ho)
      subst hv
      exact hK _ _ _ ⟨ints_of_owns ho, fun g' hg' => ⟨Nat.le_trans hw0 (ho.lt g' hg').1, (ho.lt g' hg').2⟩⟩ (hE.trans hgr)
set_option maxRecDepth 10000 in
set_option maxHeartbeats 2000000 in
theorem specEraseOk_any (v : Value) (row col : Int) (n : Nat) (tx : Nat → ByteArray) (hok : bOk n row col) (w : World) (hv : Row1At w v n (fun j => .string (tx j))) (hn : n ≤ 1048576) :
    Calls Tryd.prog 6 #[blV v row col] w fun e w' => ∃ g cap, e = .returned (.slice (some ⟨g, 0, none⟩) (eraseL n row col).length cap) ∧ ConvRow w' g cap (eraseL n row col) ∧ w.heap.size ≤ g ∧ g < w'.heap.size ∧ Ext w w' := by
  have hcon := hide (fun W (hW : Ext w W) => l6Ok_any v row col n tx W (hv.ext hW))
  obtain ⟨ao, cap, rfl, _, _⟩ := hv
  unfold blV at *
  go_enter Tryd.func6, Tryd.ntmps6
  go_wp2_with fail
  refine ((unhide hcon) _ ((Ext.refl _).alloc _)).mono ?_
  rintro e w1 ⟨rfl, F1⟩
  have hb1 := F1.keep' (alloc_new w (.cells #[.slice ao n cap, .int .i64 row, .int .i64 col] 28))
  have E1 : Ext w w1 := ((Ext.refl w).alloc _).trans F1
  have hz1 := E1.size
  have q1 := heap_cell' hb1 1 _ rfl
  clear F1 hb1
  rw [bOk_t hok]
  have hgl := goL_len row 65 (by unfold bOk at hok; omega)
  have hcA := hide (fun W => l6Go_any row 65 (by unfold bOk at hok; omega) W)
  have e65 : toBA [65] = { data := #[65] } := rfl
  rw [e65] at hcA
  have e13 : ({ data := #[13] } : ByteArray) = toBA [13] := rfl
  have eJ : ({ data := #[27, 91, 74] } : ByteArray) = toBA [27, 91, 74] := rfl
  have hs1 : (toBA [13]).size + (toBA (goL row 65)).size ≤ 9223372036854775807 := by rw [toBA_size, toBA_size]; simp; omega
  have hadd := fun W => run_string_add_sum (P := Tryd.prog) W _ _ hs1
  obtain ⟨L1, hL1⟩ : ∃ L1, L1 = [13] ++ goL row 65 := ⟨_, rfl⟩
  have hs2 : (toBA L1).size + (toBA [27, 91, 74]).size ≤ 9223372036854775807 := by rw [toBA_size, toBA_size, hL1]; simp; omega
  have hadd2 := fun W => run_string_add_sum (P := Tryd.prog) W _ _ hs2
  rw [toBA_app, ← e13, ← hL1] at hadd
  rw [toBA_app, ← eJ] at hadd2
  obtain ⟨L, hL⟩ : ∃ L, L = L1 ++ [27, 91, 74] := ⟨_, rfl⟩
  rw [← hL] at hadd2
  have hfin : Hid (eraseL n row col = L) := by refine hide ?_; rw [eraseL, if_pos hok, hL, hL1]; simp
  have hLb : Bytes L := by rw [← unhide hfin]; exact eraseL_bytes n row col
  clear hs1 hs2 e65 e13 eJ hL hL1 hok hgl
  go_wp2_with fail
  refine ((unhide hcA) _).mono ?_
  rintro e w2 ⟨rfl, F2⟩
  obtain ⟨cap4, w4, hrun, hcv, E4, hz4⟩ := s2r w2 L hLb
  have HC := hide hcv
  have HE := hide (E1.trans (F2.trans E4))
  have hz2 := F2.size
  have HZ := hide hz4
  clear hcv E4 F2 hz4
  go_wp2
  go_ret
  rw [unhide hfin]
  exact ⟨_, _, rfl, unhide HC, by omega, unhide HZ, unhide HE⟩
set_option maxRecDepth 10000 in
set_option maxHeartbeats 4000000 in
theorem specRedraw_any (v1 v2 : Value) (r1 c1 r2 c2 : Int) (n1 n2 : Nat) (tx ty : Nat → ByteArray) (same : Bool) (hsame : same = true ↔ SameR n1 n2 tx ty) (w : World)
    (hv1 : Row1At w v1 n1 (fun j => .string (tx j))) (hv2 : Row1At w v2 n2 (fun j => .string (ty j))) (hn1 : n1 ≤ 1048576) (hn2 : n2 ≤ 1048576) (hs2 : slen ty n2 ≤ 1048576) :
    Calls Tryd.prog 14 #[blV v1 r1 c1, blV v2 r2 c2] w fun e w' => ∃ u, e = .returned u ∧ RB w' w.heap.size u (redrawL n1 r1 c1 n2 ty r2 c2 same) ∧ Ext w w' := by
  have hcS := hide (fun W (hW : Ext w W) => l6Same_any v1 v2 n1 n2 tx ty W (hv1.ext hW) (hv2.ext hW) hn1 hn2 same hsame)
  have hcO1 := hide (fun W (hW : Ext w W) => l6Ok_any v1 r1 c1 n1 tx W (hv1.ext hW))
  have hcO2 := hide (fun W (hW : Ext w W) => l6Ok_any v2 r2 c2 n2 ty W (hv2.ext hW))
  have hcR := hide (fun W (hW : Ext w W) (ok : bOk n1 r1 c1) => specEraseOk_any v1 r1 c1 n1 tx ok W (hv1.ext hW) hn1)
  have hcP := hide (fun W (hW : Ext w W) => specPaint_any v2 r2 c2 n2 ty W (hv2.ext hW) hn2 (by omega))
  obtain ⟨ao, cap, hvv, _, _⟩ := id hv1
  subst hvv
  obtain ⟨bo, cbp, hvv, _, _⟩ := id hv2
  subst hvv
  clear hv1 hv2 hsame
  unfold blV at *
  have e1 := (Ext.refl w).alloc (.cells #[.slice ao n1 cap, .int .i64 r1, .int .i64 c1] 28)
  have x1 := alloc_new w (.cells #[.slice ao n1 cap, .int .i64 r1, .int .i64 c1] 28)
  obtain ⟨U1, hU1⟩ : ∃ U, U = w.alloc (.cells #[.slice ao n1 cap, .int .i64 r1, .int .i64 c1] 28) := ⟨_, rfl⟩
  rw [← hU1] at e1 x1
  have z1 : U1.heap.size = w.heap.size + 1 := by rw [hU1]; simp
  have e2 := (Ext.refl U1).alloc (.cells #[.slice bo n2 cbp, .int .i64 r2, .int .i64 c2] 28)
  have x2 := alloc_new U1 (.cells #[.slice bo n2 cbp, .int .i64 r2, .int .i64 c2] 28)
  obtain ⟨U2, hU2⟩ : ∃ U, U = U1.alloc (.cells #[.slice bo n2 cbp, .int .i64 r2, .int .i64 c2] 28) := ⟨_, rfl⟩
  rw [← hU2] at e2 x2
  rw [z1] at x2
  have y1 := e2.keep' x1
  have EU := e1.trans e2
  have HU : Hid (U2 = (w.alloc (.cells #[.slice ao n1 cap, .int .i64 r1, .int .i64 c1] 28)).alloc (.cells #[.slice bo n2 cbp, .int .i64 r2, .int .i64 c2] 28)) := by refine hide ?_; rw [hU2, hU1]
  clear hU1 hU2 x1 e1 e2 z1
  have a0 := heap_cell' y1 0 _ rfl
  have a1 := heap_cell' y1 1 _ rfl
  have a2 := heap_cell' y1 2 _ rfl
  have b0 := heap_cell' x2 0 _ rfl
  have b1 := heap_cell' x2 1 _ rfl
  have b2 := heap_cell' x2 2 _ rfl
  have hzU := EU.size
  clear y1 x2
  go_enter Tryd.func14, Tryd.ntmps14
  go_wp2_with fail
  rw [← unhide HU]
  clear HU
  refine ((unhide hcO1) _ EU).mono ?_
  rintro e w2 ⟨rfl, E2⟩
  have d0 := E2.cell b0
  have d1 := E2.cell b1
  have d2 := E2.cell b2
  by_cases ok1 : bOk n1 r1 c1
  · rw [bOk_t ok1]
    go_wp2_with fail
    refine ((unhide hcO2) _ (EU.trans E2)).mono ?_
    rintro e w3 ⟨rfl, E3⟩
    have E23 := E2.trans E3
    have hz3 := E23.size
    clear d0 d1 d2
    by_cases ok2 : bOk n2 r2 c2
    · rw [bOk_t ok2]
      have p0 := E23.cell a0
      have d0 := E23.cell b0
      have ok1' := id ok1
      have ok2' := id ok2
      unfold bOk at ok1' ok2'
      go_wp2_with fail
      refine ((unhide hcS) _ (EU.trans E23)).mono ?_
      rintro e w4 ⟨rfl, E4⟩
      have E24 := E23.trans E4
      have hz4 := E24.size
      clear p0 d0
      have p0 := E24.cell a0
      have p1 := E24.cell a1
      have p2 := E24.cell a2
      have d0 := E24.cell b0
      have d1 := E24.cell b1
      have d2 := E24.cell b2
      cases hsm : same with
      | false =>
        have hp : Hid (redrawL n1 r1 c1 n2 ty r2 c2 false = eraseL n1 r1 c1 ++ paintL n2 ty r2 c2) := by refine hide ?_; rw [redrawL, if_pos ⟨ok1, ok2⟩]; rfl
        have hpl := paintL_len n2 ty r2 c2 hn2
        have hel := eraseL_len n1 r1 c1 hn1
        have hpp : 0 < (paintL n2 ty r2 c2).length := by
          rw [paintL, if_pos ok2, List.length_append, List.length_append]
          unfold goL
          rw [if_neg (show ¬ c2 + 1 ≤ 0 by omega)]
          simp only [List.length_cons]
          omega
        have HW := hide (EU.trans E24)
        go_wp2
        go_region_held_law (fun W => W.cell? ⟨w.heap.size, 0, none⟩ = some (.slice ao n1 cap) ∧ W.cell? ⟨w.heap.size, 1, none⟩ = some (.int .i64 r1) ∧ W.cell? ⟨w.heap.size, 2, none⟩ = some (.int .i64 c1) ∧ W.cell? ⟨w.heap.size + 1, 0, none⟩ = some (.slice bo n2 cbp) ∧ W.cell? ⟨w.heap.size + 1, 1, none⟩ = some (.int .i64 r2) ∧ W.cell? ⟨w.heap.size + 1, 2, none⟩ = some (.int .i64 c2))
          (first | exact ⟨p0, p1, p2, d0, d1, d2⟩ | exact ⟨he'.cell p0, he'.cell p1, he'.cell p2, he'.cell d0, he'.cell d1, he'.cell d2⟩)
          (first
            | (go_at_call 6; refine ((unhide hcR) _ ((unhide HW).trans (Ext.refl w4).drew) ok1).mono ?_; rintro e w5 ⟨g5, cap5, rfl, hcv, hg5, hg5b, F5⟩; have he' := (Ext.refl w4).drew.trans F5; have HC5 := hide hcv; have hg5' : w4.heap.size ≤ g5 := hg5; clear hcv F5 hg5)
            | (go_at_call 26; refine ((unhide hcP) _ ((unhide HW).trans he')).mono ?_; rintro e w6 ⟨u6, rfl, ho6, F6⟩; have HC6 := hide ((unhide HC5).ext F6); have hz56 := F6.size; have he' := he'.trans F6; obtain ⟨ao6, cap6, hu6, _, hx6⟩ := id (ints_of_owns ho6); subst hu6; obtain ⟨b6, o6, hao6, hc6⟩ := hx6 hpp; subst hao6; have hc6' : ∀ j u, ((paintL n2 ty r2 c2).map (Value.int .u8))[j]? = some u → w6.cell? ((⟨b6, o6, none⟩ : Addr).add j) = some u := (fun j u hu => by
                have hj : j < (paintL n2 ty r2 c2).length := by have := (List.getElem?_eq_some_iff.1 hu).1; simpa using this
                rw [Addr.add_lit, hc6 j hj, ← hu]
                simp [at0_lt hj]); have HX6 := hide hc6'; clear ho6 hx6 hc6 hc6' F6)
            | (refine step_append_conv (by rfl) _ _ (by rfl) g5 cap5 (eraseL n1 r1 c1) (by rfl) (unhide HC6) ⟨b6, o6, none⟩ cap6 (paintL n2 ty r2 c2) (by rfl) (unhide HX6) (by omega) w4 he' hg5' (by omega) ?_; intro ao7 cap7 w7 hR7 hE7; have he' := hE7; have HR7 := hide hR7; clear hR7 hE7))
        all_goals
          go_wp2
          refine bodyPost_ret (v := .slice ao7 (eraseL n1 r1 c1 ++ paintL n2 ty r2 c2).length cap7) (by simp [results, Tryd.results14]) rfl ⟨_, rfl, ?_, (unhide HW).trans he'⟩
          rw [unhide hp]
          exact ⟨(unhide HR7).1, fun g hg => ⟨Nat.le_trans (by omega) ((unhide HR7).2 g hg).1, ((unhide HR7).2 g hg).2⟩⟩
      | true =>
        have hp : Hid (redrawL n1 r1 c1 n2 ty r2 c2 true = goL (r1 - r2) 65 ++ (goL (r2 - r1) 66 ++ (if c1 = c2 then [] else goL (c2 + 1) 71))) := by refine hide ?_; rw [redrawL, if_pos ⟨ok1, ok2⟩]; rfl
        have g1 := goL_len (r1 - r2) 65 (by omega)
        have g2 := goL_len (r2 - r1) 66 (by omega)
        have g3 := goL_len (c2 + 1) 71 (by omega)
        have hcA := hide (fun W => l6Go_any (r1 - r2) 65 (by omega) W)
        have hcB := hide (fun W => l6Go_any (r2 - r1) 66 (by omega) W)
        have hcG := hide (fun W => l6Go_any (c2 + 1) 71 (by omega) W)
        have e65 : toBA [65] = { data := #[65] } := rfl
        have e66 : toBA [66] = { data := #[66] } := rfl
        have e71 : toBA [71] = { data := #[71] } := rfl
        rw [e65] at hcA
        rw [e66] at hcB
        rw [e71] at hcG
        have hs1 : (toBA (goL (r1 - r2) 65)).size + (toBA (goL (r2 - r1) 66)).size ≤ 9223372036854775807 := by rw [toBA_size, toBA_size]; omega
        have hadd := fun W => run_string_add_sum (P := Tryd.prog) W _ _ hs1
        obtain ⟨L1, hL1⟩ : ∃ L1, L1 = goL (r1 - r2) 65 ++ goL (r2 - r1) 66 := ⟨_, rfl⟩
        rw [toBA_app, ← hL1] at hadd
        have hL1b : Bytes L1 := by rw [hL1]; exact (goL_bytes _ _ (by omega) (by omega)).app (goL_bytes _ _ (by omega) (by omega))
        have hL1l : L1.length ≤ 22 := by rw [hL1, List.length_append]; omega
        rw [← List.append_assoc, ← hL1] at hp
        have hw1 : IntKind.i64.wrap (r1 - r2) = r1 - r2 := by rw [IntKind.wrap_i64]; omega
        have hw2 : IntKind.i64.wrap (r2 - r1) = r2 - r1 := by rw [IntKind.wrap_i64]; omega
        have tokA : True := trivial
        have HW := hide (EU.trans E24)
        clear hs1 e65 e66 e71 hL1
        go_wp2
        go_region_held_law (fun W => W.cell? ⟨w.heap.size, 1, none⟩ = some (.int .i64 r1) ∧ W.cell? ⟨w.heap.size + 1, 1, none⟩ = some (.int .i64 r2))
          (first | exact ⟨p1, d1⟩ | exact ⟨he'.cell p1, he'.cell d1⟩)
          (first
            | (go_at_call 18; have _t := tokA; refine ((unhide hcA) _).mono ?_; rintro e w5 ⟨rfl, F5⟩; have he' := (Ext.refl w4).drew.trans F5; clear F5 tokA)
            | (go_at_call 18; refine ((unhide hcB) _).mono ?_; rintro e w6 ⟨rfl, F6⟩; have he' := he'.trans F6; clear F6))
        all_goals
          have p2' := he'.cell p2
          have d2' := he'.cell d2
          by_cases hcc : c1 = c2
          · rw [if_pos hcc, List.append_nil] at hp
            subst hcc
            obtain ⟨cap8, w8, hrun, hcv, E8, hz8⟩ := s2r w6 L1 hL1b
            have HC := hide hcv
            have HE8 := hide ((unhide HW).trans (he'.trans E8))
            have hz6 := he'.size
            have HZ := hide hz8
            clear hcv E8 hz8
            go_wp2
            go_ret
            rw [hsm, unhide hp]
            refine ⟨_, rfl, ⟨⟨_, _, rfl, ?_, fun _ => ⟨_, _, rfl, fun j hj => ?_⟩⟩, fun g hg => ?_⟩, unhide HE8⟩
            · obtain ⟨_, _, _, h3, _⟩ := unhide HC
              exact h3
            · rw [Nat.zero_add]; exact (unhide HC).cell j hj
            · simp [Value.ownBlock] at hg
              have := unhide HZ
              omega
          · rw [if_neg hcc] at hp
            have hs2 : (toBA L1).size + (toBA (goL (c2 + 1) 71)).size ≤ 9223372036854775807 := by rw [toBA_size, toBA_size]; omega
            have hadd2 := fun W => run_string_add_sum (P := Tryd.prog) W _ _ hs2
            obtain ⟨L2, hL2⟩ : ∃ L2, L2 = L1 ++ goL (c2 + 1) 71 := ⟨_, rfl⟩
            rw [toBA_app, ← hL2] at hadd2
            rw [← hL2] at hp
            have hL2b : Bytes L2 := by rw [hL2]; exact hL1b.app (goL_bytes _ _ (by omega) (by omega))
            clear hL2 hs2
            go_wp2_with fail
            refine ((unhide hcG) _).mono ?_
            rintro e w7 ⟨rfl, F7⟩
            obtain ⟨cap8, w8, hrun, hcv, E8, hz8⟩ := s2r w7 L2 hL2b
            have HC := hide hcv
            have HE8 := hide ((unhide HW).trans (he'.trans (F7.trans E8)))
            have hz6 := he'.size
            have hz7 := F7.size
            have HZ := hide hz8
            clear hcv E8 hz8 F7
            go_wp2
            go_ret
            rw [hsm, unhide hp]
            refine ⟨_, rfl, ⟨⟨_, _, rfl, ?_, fun _ => ⟨_, _, rfl, fun j hj => ?_⟩⟩, fun g hg => ?_⟩, unhide HE8⟩
            · obtain ⟨_, _, _, h3, _⟩ := unhide HC
              exact h3
            · rw [Nat.zero_add]; exact (unhide HC).cell j hj
            · simp [Value.ownBlock] at hg
              have := unhide HZ
              omega
    · have hp : Hid (redrawL n1 r1 c1 n2 ty r2 c2 same = []) := by refine hide ?_; rw [redrawL, if_neg (fun e => ok2 e.2)]
      rw [bOk_f ok2]
      have HE := hide ((EU.trans E23))
      go_wp2
      go_ret
      rw [unhide hp]
      refine ⟨_, rfl, ⟨⟨_, _, rfl, Nat.le_refl _, fun h => by simp at h⟩, fun g hg => ?_⟩, (unhide HE).alloc _⟩
      simp [Value.ownBlock] at hg
      rw [World.size_alloc]
      omega
  · have hp : Hid (redrawL n1 r1 c1 n2 ty r2 c2 same = []) := by refine hide ?_; rw [redrawL, if_neg (fun e => ok1 e.1)]
    rw [bOk_f ok1]
    have HE := hide ((EU.trans E2))
    have hz2 := E2.size
    go_wp2
    go_ret
    rw [unhide hp]
    refine ⟨_, rfl, ⟨⟨_, _, rfl, Nat.le_refl _, fun h => by simp at h⟩, fun g hg => ?_⟩, (unhide HE).alloc _⟩
    simp [Value.ownBlock] at hg
    rw [World.size_alloc]
    omega
end Go.Proofs.YtlmgeobmjkbccaaDoor
