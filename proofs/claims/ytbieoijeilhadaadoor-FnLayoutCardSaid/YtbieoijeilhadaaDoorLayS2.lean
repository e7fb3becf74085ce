import Derived.Test.YtbieoijeilhadaaDoorLayI
import Derived.Test.YtbieoijeilhadaaDoorGap
import Derived.Test.YtbieoijeilhadaaDoorLayI2
import Derived.Deep.DeepCutAuto
import Derived.Deep.RegionLaw
import Derived.Deep.CutBlock
namespace Go.Proofs.YtbieoijeilhadaaDoor
open Go.RowKit
theorem cut_wide {cs : List (List Int × Int)} (h : Wides cs) (s e j : Nat) : 0 ≤ cW ((cs.take e).drop s) j ∧ cW ((cs.take e).drop s) j ≤ 2 := by
  unfold cW
  cases hj : ((cs.take e).drop s)[j]? with
  | none => simp
  | some u =>
    obtain ⟨q, hq⟩ := List.mem_iff_getElem?.1 (List.mem_of_mem_take (List.mem_of_mem_drop (List.mem_of_getElem? hj)))
    have := h.all q
    unfold cW at this
    rw [hq] at this
    exact this
theorem lay_step {cs : List (List Int × Int)} {cols p i : Nat} (hi : i < (layS cs cols p).length) : 0 ≤ at0 (layS cs cols p) i ∧ at0 (layS cs cols p) i ≤ at0 (layS cs cols p ++ [(cs.length : Int)]) (i + 1) ∧ at0 (layS cs cols p ++ [(cs.length : Int)]) (i + 1) ≤ (cs.length : Int) := by
  have ok := stF_ok cs cols cs.length
  have hS : ∀ j, j < (stS cs cols).length → 0 ≤ at0 (stS cs cols) j ∧ at0 (stS cs cols) j ≤ (cs.length : Int) := ok.le
  have hM : ∀ j, j + 1 < (stS cs cols).length → at0 (stS cs cols) j ≤ at0 (stS cs cols) (j + 1) := ok.mono
  unfold layS at hi ⊢
  split
  · rename_i hL
    rw [if_pos hL] at hi
    simp at hi
    have hpn : p = cs.length := hL.1
    by_cases e1 : i + 1 < (stS cs cols).length
    · rw [at0_app, if_neg (by omega), at0_app, if_neg (by simp; omega), at0_app, if_neg (by omega)]
      have a := hS i (by omega)
      have b := hS (i + 1) e1
      exact ⟨a.1, hM i e1, b.2⟩
    · by_cases e2 : i + 1 = (stS cs cols).length
      · have e3 : at0 (stS cs cols ++ [(p : Int)] ++ [(cs.length : Int)]) (i + 1) = (p : Int) := by rw [at0_app, if_neg (by simp; omega), at0_app, if_pos e2]
        rw [e3, at0_app, if_neg (by omega)]
        have a := hS i (by omega)
        omega
      · have e4 : i = (stS cs cols).length := by omega
        have e3 : at0 (stS cs cols ++ [(p : Int)] ++ [(cs.length : Int)]) (i + 1) = (cs.length : Int) := by rw [at0_app, if_pos (by simp; omega)]
        rw [e3, at0_app, if_pos e4]
        omega
  · rename_i hL
    rw [if_neg hL] at hi
    have a := hS i hi
    rw [at0_app]
    split
    · omega
    · rename_i e
      have b := hS (i + 1) (by omega)
      have c := hM i (by omega)
      omega
set_option maxRecDepth 10000 in
set_option maxHeartbeats 1000000 in
theorem l6Width_any (v : Value) (cs : List (List Int × Int)) (w : World) (hv : ClsAt w v cs) (hl : cs.length ≤ 16777216) (hW : ∀ j, 0 ≤ cW cs j ∧ cW cs j ≤ 2) :
    Calls Tryd.prog 55 #[v] w fun e w' => e = .returned (.int .i64 (wsum cs)) ∧ Ext w w' := by
  obtain ⟨ra, ao, ca, rfl, hca, hra, hxa⟩ := hv
  have HF : Hid (wsum cs = pw cs cs.length) := rfl
  obtain ⟨n, hn⟩ : ∃ n, n = cs.length := ⟨_, rfl⟩
  rw [← hn] at hca hra hxa hl HF ⊢
  have HX := hide hxa
  have HB := hide (pw_bd cs hW)
  have HW := hide hW
  clear hn hxa hra hW
  go_enter Tryd.func55, Tryd.ntmps55
  go_wp2
  go_loopw [3, 4] (fun s i wr => ∃ k : Nat, k ≤ n ∧ i = .int .i64 k ∧ s = .int .i64 (pw cs k) ∧ Ext w wr) (fun _ i _ => n - (intOf i).toNat)
  case atStart => exact ⟨0, Nat.zero_le _, rfl, rfl, Ext.refl _⟩
  case round =>
    obtain ⟨k, hk, rfl, rfl, hext⟩ := hrel
    by_cases hlt : k < n
    · obtain ⟨b, off, hao, hc⟩ := (unhide HX) (by omega)
      subst hao
      have g2 := hext.cell (hc k hlt).2
      clear hc
      have bk : (k : Int) < (n : Int) := by omega
      have b1 := (unhide HB) k
      have b2 := (unhide HW) k
      have hst : Hid (pw cs (k + 1) = pw cs k + cW cs k) := rfl
      go_wp2
      go_roundw
      case rel => exact ⟨k + 1, by omega, by go_num, by rw [unhide hst], hext⟩
      case measure => simp [intOf]; omega
    · obtain rfl : k = n := by omega
      have hb9 : ¬ (k : Int) < (k : Int) := by omega
      go_wp2
      go_ret
      exact ⟨ret_int (unhide HF).symm, hext⟩
set_option maxRecDepth 10000 in
set_option maxHeartbeats 1000000 in
theorem l6Row_any (v : Value) (S : List Int) (p : Nat) (w : World) (hv : IntsAt w .i64 v S) (hl : S.length ≤ 16777216) :
    Calls Tryd.prog 54 #[v, .int .i64 p] w fun e w' => e = .returned (.int .i64 (rwF S p S.length)) ∧ w' = w := by
  obtain ⟨ao, ca, rfl, hca, hxa⟩ := hv
  obtain ⟨n, hn⟩ : ∃ n, n = S.length := ⟨_, rfl⟩
  rw [← hn] at hca hxa hl ⊢
  have HX := hide hxa
  clear hn hxa
  go_enter Tryd.func54, Tryd.ntmps54
  go_wp2
  go_loop [5, 6] (fun r i => ∃ k : Nat, k ≤ n ∧ i = .int .i64 k ∧ r = .int .i64 (rwF S p k : Nat)) (fun _ i => n - (intOf i).toNat)
  case atStart => exact ⟨0, Nat.zero_le _, rfl, rfl⟩
  case round =>
    obtain ⟨k, hk, rfl, rfl⟩ := hrel
    by_cases hlt : k < n
    · obtain ⟨b, off, hao, hc⟩ := (unhide HX) (by omega)
      subst hao
      have g1 := hc k hlt
      clear hc
      have bk : (k : Int) < (n : Int) := by omega
      by_cases hle : at0 S k ≤ (p : Int)
      · have hst : Hid (rwF S p (k + 1) = k) := hide (by rw [rwF, if_pos hle])
        go_wp2
        go_round
        case rel => exact ⟨k + 1, by omega, by go_num, by rw [unhide hst]⟩
        case measure => simp [intOf]; omega
      · have hst : Hid (rwF S p (k + 1) = rwF S p k) := hide (by rw [rwF, if_neg hle])
        go_wp2
        go_round
        case rel => exact ⟨k + 1, by omega, by go_num, by rw [unhide hst]⟩
        case measure => simp [intOf]; omega
    · obtain rfl : k = n := by omega
      have hb9 : ¬ (k : Int) < (k : Int) := by omega
      go_wp2
      go_ret
      exact ⟨rfl, rfl⟩
structure LayB (wr w0 : World) (z ge L : Nat) (S : List Int) (N : Nat) (rv : Value) (m : Nat) (T : Nat → ByteArray) (a b : Int) : Prop where
  box : wr.heap[z + 1]? = some (.cells #[rv, .int .i64 a, .int .i64 b] 51 (0, 0))
  own : wr.ownsRow z 9 1 rv m (strL T m)
  ne1 : rv.ownBlock ≠ some (z + 1)
  ne2 : rv.ownBlock ≠ some ge
  gel : ge < wr.heap.size
  gez : ge ≠ z + 1
  ends : ∀ j, j < L → wr.cell? ⟨ge, j, none⟩ = some (.int .i64 (at0 (S ++ [(N : Int)]) (j + 1)))
  ext : Ext w0 wr
theorem LayB.more {wr w0 w' w2 w3 : World} {z ge L : Nat} {S : List Int} {N : Nat} {rv : Value} {m : Nat} {T : Nat → ByteArray} {a b : Int} {g cap H : Nat} (h : LayB wr w0 z ge L S N rv m T a b) (hz : w0.heap.size = z) (E : Ext wr w') (E2 : Ext w' w2) (hg : w2.grownBy w3 rv.ownBlock)
    (ho : w3.ownsRow z 9 1 (.slice (some ⟨g, 0, none⟩) (m + 1) cap) (m + 1) (strL T m ++ [.string (T m)])) (hat : rv.ownBlock = some g ∨ g = H) (hH : wr.heap.size ≤ H) :
    LayB (w3.setCell ⟨z + 1, 0, none⟩ (.slice (some ⟨g, 0, none⟩) (m + 1) cap)) w0 z ge L S N (.slice (some ⟨g, 0, none⟩) (m + 1) cap) (m + 1) T a b ∧ w3.heap[z + 1]? = some (.cells #[rv, .int .i64 a, .int .i64 b] 51 (0, 0)) := by
  have hb1 : z + 1 < wr.heap.size := (Array.getElem?_eq_some_iff.1 h.box).1
  have s1 := E.size
  have s2 := E2.size
  have s3 := hg.size
  have hgl := h.gel
  have hgz := h.gez
  have hgne : g ≠ z + 1 := by
    rcases hat with e | e
    · intro e2; subst e2; exact h.ne1 e
    · omega
  have hgne2 : g ≠ ge := by
    rcases hat with e | e
    · intro e2; subst e2; exact h.ne2 e
    · omega
  have blk : ∀ k, k < wr.heap.size → rv.ownBlock ≠ some k → w3.heap[k]? = wr.heap[k]? := fun k hk hn => (hg.block k (by omega) (fun e => hn e.symm)).trans ((E2.heap (by omega)).trans (E.heap hk))
  have hbox : w3.heap[z + 1]? = some (.cells #[rv, .int .i64 a, .int .i64 b] 51 (0, 0)) := (blk _ hb1 h.ne1).trans h.box
  have fr : Fr (fun k => k = z + 1) w3 (w3.setCell ⟨z + 1, 0, none⟩ (.slice (some ⟨g, 0, none⟩) (m + 1) cap)) := Fr.setCell (S := fun k => k = z + 1) (Fr.refl _ _) (a := ⟨z + 1, 0, none⟩) rfl _
  refine ⟨⟨?_, ?_, by simp [Value.ownBlock]; exact hgne, by simp [Value.ownBlock]; exact hgne2, by simp; omega, hgz, fun j hj => ?_, ?_⟩, hbox⟩
  · rw [heap_setCell_same w3 (z + 1) 0 _ _ _ hbox]
    rfl
  · rw [strL_succ]
    exact fr.owns ho (fun k hk e => by simp [Value.ownBlock] at hk; omega)
  · have h1 := h.ends j hj
    have e1 : (w3.setCell ⟨z + 1, 0, none⟩ (.slice (some ⟨g, 0, none⟩) (m + 1) cap)).heap[ge]? = w3.heap[ge]? := fr.block ge (by omega) (by omega)
    rw [World.cell?_of_block (a := ⟨ge, j, none⟩) (e1.trans (blk ge h.gel h.ne2))]
    exact h1
  · refine Fr.ext (S := fun k => k = z + 1) fr ?_ (fun k hk => by omega)
    exact ((h.ext.trans E).trans E2).grown hg (fun k hk => by have := (h.own.lt k hk).1; omega)
end Go.Proofs.YtbieoijeilhadaaDoor

namespace Go.Proofs.YtbieoijeilhadaaDoor
open Go.RowKit
theorem infoIntL : (Tryd.prog.info? 3).map (fun i => (i.zero, i.size, i.bytes)) = some (some (.int .i64 0), 1, 8) := by kernel_rfl
theorem ends_own {w V : World} {v : Value} {S : List Int} {n : Nat} (h : w.ownsRow V.heap.size 3 1 v S.length ((S.map (Value.int .i64)).tail ++ [.int .i64 (n : Int)])) (h1 : 1 ≤ S.length) (he : Ext V w) :
    ∃ ge qe, v = .slice (some ⟨ge, 0, none⟩) S.length qe ∧ V.heap.size ≤ ge ∧ ge < w.heap.size ∧ Hid (∀ j, j < S.length → w.cell? ⟨ge, j, none⟩ = some (.int .i64 (at0 (S ++ [(n : Int)]) (j + 1)))) ∧ Ext V w := by
  rcases h.2 with ⟨_, h0⟩ | ⟨g, cap, cur, rfl, _⟩
  · omega
  refine ⟨g, cap, rfl, (h.lt g rfl).1, (h.lt g rfl).2, hide (fun j hj => ?_), he⟩
  rw [h.cellAt j (by omega)]
  by_cases hl : j + 1 < S.length
  · rw [List.getElem?_append_left (by simp; omega), List.getElem?_tail, List.getElem?_map, at0_app, if_neg (by omega), at0_lt hl]
    rfl
  · rw [List.getElem?_append_right (by simp; omega), at0_app, if_pos (by omega)]
    have : j - ((S.map (Value.int .i64)).tail).length = 0 := by simp; omega
    rw [this]
    rfl
set_option maxRecDepth 10000 in
set_option maxHeartbeats 4000000 in
theorem specLayout_no (pr a b c : ByteArray) (ua : Option Addr) (un uc : Nat) (cols rows : Int) (w : World) (hs : sizeB cols rows = false) :
    Calls Tryd.prog 25 #[.string pr, .agg (lcells a b c ua un uc), .int .i64 cols, .int .i64 rows] w fun e w' => e = .returned (.agg bzero) ∧ Ext w w' := by
  go_enter Tryd.func25, Tryd.ntmps25
  go_wp2_with fail
  refine (l2SizeOk_any _ _ _).mono ?_
  rw [hs]
  rintro e w1 ⟨rfl, rfl⟩
  go_wp2
  exact bodyPost_ret (v := .agg bzero) (by simp [results, Tryd.results25, go_sem]) rfl ⟨rfl, ((Ext.refl w).alloc _).alloc _⟩
set_option maxRecDepth 10000 in
set_option maxHeartbeats 4000000 in
theorem specLayout_yes (P A B : List Int) (c : ByteArray) (ua : Option Addr) (un uc : Nat) (cols rows : Nat) (w : World) (hs : sizeB cols rows = true) (hP : Bytes P) (hA : Bytes A) (hB : Bytes B) (lP : P.length ≤ 1048576) (lA : A.length ≤ 1048576) (lB : B.length ≤ 1048576) :
    Calls Tryd.prog 25 #[.string (toBA P), .agg (lcells (toBA A) (toBA B) c ua un uc), .int .i64 cols, .int .i64 rows] w fun e w' => ∃ v, e = .returned (.agg #[v, .int .i64 ((layRow (cutC P ++ cutC A ++ cutC B) cols ((cutC P).length + (cutC A).length) : Int) - (layFr (cutC P ++ cutC A ++ cutC B) cols ((cutC P).length + (cutC A).length) rows : Int)), .int .i64 (layCol (cutC P ++ cutC A ++ cutC B) cols ((cutC P).length + (cutC A).length))]) ∧ Own1 w' w.heap.size 9 v (layCnt (cutC P ++ cutC A ++ cutC B) cols ((cutC P).length + (cutC A).length) rows) (fun i => .string (layT (cutC P ++ cutC A ++ cutC B) cols ((cutC P).length + (cutC A).length) rows i)) ∧ Ext w w' := by
  obtain ⟨ic, hic, hc0, hc1, hc2⟩ := info_parts infoClL
  have hcP := hide (fun U => l4Cut_any P hP U (by omega))
  have hcA := hide (fun U => l4Cut_any A hA U (by omega))
  have hcB := hide (fun U => l4Cut_any B hB U (by omega))
  have kP := cutC_len P
  have kA := cutC_len A
  have kB := cutC_len B
  obtain ⟨D0, hD0⟩ : ∃ D0, D0 = cutC P ++ cutC A ++ cutC B := ⟨_, rfl⟩
  obtain ⟨p0, hp0⟩ : ∃ p0, p0 = (cutC P).length + (cutC A).length := ⟨_, rfl⟩
  rw [← hD0, ← hp0]
  have HD0 := hide hD0
  have HP0 := hide hp0
  clear hD0 hp0
  go_enter Tryd.func25, Tryd.ntmps25
  go_wp2_with fail
  refine (l2SizeOk_any _ _ _).mono ?_
  rw [hs]
  rintro e w1 ⟨rfl, rfl⟩
  obtain ⟨cn, rn, ec, er, n2, n200, r1, r100⟩ := sizeB_open hs
  obtain rfl : cn = cols := by omega
  obtain rfl : rn = rows := by omega
  clear ec er
  have hb0 := new_block (w.alloc (.cells (lcells (toBA A) (toBA B) c ua un uc) 46)) (.cells bzero 51)
  have hbl := ((Ext.refl _).alloc (.cells bzero 51)).kept (new_block w (.cells (lcells (toBA A) (toBA B) c ua un uc) 46))
  have E0 := ((Ext.refl w).alloc (.cells (lcells (toBA A) (toBA B) c ua un uc) 46)).alloc (.cells bzero 51)
  have hz0 : ((w.alloc (.cells (lcells (toBA A) (toBA B) c ua un uc) 46)).alloc (.cells bzero 51)).heap.size = w.heap.size + 2 := by simp
  obtain ⟨W0, hW0⟩ : ∃ W0, W0 = (w.alloc (.cells (lcells (toBA A) (toBA B) c ua un uc) 46)).alloc (.cells bzero 51) := ⟨_, rfl⟩
  rw [← hW0] at hb0 hbl E0 hz0
  have hz : (w.alloc (.cells (lcells (toBA A) (toBA B) c ua un uc) 46)).heap.size = w.heap.size + 1 := by simp
  rw [hz] at hb0
  have q0 := cells_of hbl 0 _ rfl
  have HW := hide hW0
  have HB0 := hide hb0
  have HBL := hide hbl
  clear hW0 hz hb0 hbl
  go_wp2
  rw [← unhide HW]
  clear HW
  have tokA : True := trivial
  go_region_held_law (fun W => W.cell? ⟨w.heap.size, 0, none⟩ = some (.string (toBA A))) (first | exact q0 | exact d0 | exact f0 | exact k0)
    (first
      | (go_at_call 52; have _t := tokA; refine ((unhide hcP) _).mono ?_; rintro e w2 ⟨v2, rs2, rfl, o2, F2⟩; have E2 := (Ext.refl W0).drew.trans F2; have d0 := E2.cell q0; have O2 := hide o2; have HE2 := hide E2; clear tokA o2 F2 E2)
      | (go_at_call 52; refine ((unhide hcA) _).mono ?_; rintro e w3 ⟨v3, rs3, rfl, o3, F3⟩; have E3 := (unhide HE2).trans F3; have f0 := E3.cell q0; obtain ⟨ys3, oy3, ky3, src3⟩ := o3.ys; obtain ⟨ys2, oy2, ky2, _⟩ := ((unhide O2).ext F3).ys; have O3 := hide o3; have O23 := hide ((unhide O2).ext F3); have LT2 := hide (fun g (hg : Foot v2 rs2 (cutC P).length g) => ((unhide O2).lt hg)); have HE3 := hide E3; have HF3 := hide F3; have OY2 := hide oy2; have KY2 := hide ky2; have KY3 := hide ky3; have SR3 := hide src3; have hsz3 := E3.size; clear o3 E3 F3 oy3 ky3 src3 oy2 ky2)
      | (refine step_app (by rfl) _ _ 53 (by rfl) W0.heap.size 58 ic (.agg #[.slice none 0 0, .int .i64 0]) 2 32 Tryd.underlying53 hic hc0 hc1 hc2 rfl (by decide) _ _ ys2 (by rfl) (unhide OY2) _ _ ys3 (by rfl) (unhide SR3) (by unfold maxLen; omega) (by omega) (by omega) ?_; intro v4 w4 o4 G4 _; have E4 := (unhide HE3).grown G4 (fun q hq => ((unhide OY2).lt q hq).1); have k0 := E4.cell q0; have O4 := hide (OwnCls.append (unhide O23) (unhide O3) (by have := (unhide HE2).size; exact this) (fun g hg => ((unhide LT2) g hg).2) (unhide OY2) (unhide KY2) (unhide KY3) o4 G4); obtain ⟨a4, c4, e4⟩ := owns_slice o4; subst e4; have HE4 := hide E4; clear o4 G4 E4))
  have HCU := hide (((cuts_one P).app (cuts_one A)).app (cuts_one B))
  rw [← List.length_append] at O4 HP0 ⊢
  have kC : (cutC P ++ cutC A).length = (cutC P).length + (cutC A).length := List.length_append
  have hq1 := cells_of ((unhide HE4).kept (unhide HBL)) 1 _ rfl
  have hs4 := (unhide HE4).size
  generalize cutC P ++ cutC A = C1 at *
  have kCB : (C1 ++ cutC B).length = C1.length + (cutC B).length := List.length_append
  generalize hD : C1 ++ cutC B = D at *
  have HD := hide hD
  have kD1 : C1.length ≤ D.length := by omega
  have kD2 : D.length ≤ 3145728 := by omega
  have kD3 : C1.length + (cutC B).length ≤ 3145728 := by omega
  have KCB := hide kCB
  clear hD kCB kC
  go_wp2_with (first
    | (go_at_call 52; refine ((unhide hcB) _).mono ?_; rintro e w5 ⟨v5, rs5, rfl, o5, F5⟩; have E5 := (unhide HE4).trans F5; obtain ⟨ys5, oy5, ky5, src5⟩ := o5.ys; obtain ⟨ys4, oy4, ky4, _⟩ := ((unhide O4).ext F5).ys; have O5 := hide o5; have O45 := hide ((unhide O4).ext F5); have LT4 := hide (fun g hg => ((unhide O4).lt (g := g) hg)); have HE5 := hide E5; have OY4 := hide oy4; have KY4 := hide ky4; have KY5 := hide ky5; have SR5 := hide src5; have hsz5 := E5.size; clear o5 E5 F5 oy5 ky5 src5 oy4 ky4)
    | (at_builtin; go_must (refine wpList_app rfl _ _ 53 rfl W0.heap.size 58 ic (.agg #[.slice none 0 0, .int .i64 0]) 2 32 Tryd.underlying53 hic hc0 hc1 hc2 rfl (by decide) _ _ ys4 rfl (unhide OY4) _ _ ys5 rfl (unhide SR5) (by unfold maxLen; omega) (by omega) (by omega) ?_); intro v6 w6 o6 G6 _; have E6 := (unhide HE5).grown G6 (fun q hq => ((unhide OY4).lt q hq).1); have O6 := hide (OwnCls.append (unhide O45) (unhide O5) hs4 (fun g hg => ((unhide LT4) g hg).2) (unhide OY4) (unhide KY4) (unhide KY5) o6 G6); rw [← unhide KCB] at o6; obtain ⟨a6, c6, e6⟩ := owns_slice o6; subst e6; have hDc : Hid (D.length ≤ c6 ∧ (0 < D.length → ∃ g, a6 = some ⟨g, 0, none⟩)) := (by rcases o6.2 with ⟨e, h0⟩ | ⟨g, cap, cur, e, _, _, hn, _⟩ <;> simp only [Value.slice.injEq] at e <;> obtain ⟨rfl, _, rfl⟩ := e; exact ⟨by omega, fun h => by omega⟩; exact ⟨hn, fun _ => ⟨g, rfl⟩⟩); have HE6 := hide E6; have hsz6 := E6.size; clear o6 G6 E6))
  rw [unhide HD] at O6
  have hst := l1Starts_any (.slice a6 D.length c6) D cn w6 (unhide O6).cls (by omega)
  have HST := hide hst
  clear hst
  refine (unhide HST).mono ?_
  rintro e w7 ⟨v7, rfl, o7, F7⟩
  replace o7 : w7.ownsRow w6.heap.size 3 1 v7 (stS D cn).length ((stS D cn).map (Value.int .i64)) := o7
  have hm1 : 1 ≤ (stS D cn).length := (stF_ok D cn D.length).one
  have hm2 : (stS D cn).length ≤ D.length + 1 := (stF_ok D cn D.length).len
  obtain ⟨g7, c7, rfl, hRc⟩ : ∃ g c, v7 = .slice (some ⟨g, 0, none⟩) (stS D cn).length c ∧ (stS D cn).length ≤ c := by
    rcases o7.2 with ⟨_, h0⟩ | ⟨g, cap, cur, hv, _, _, hn, _⟩
    · omega
    · exact ⟨g, cap, hv, hn⟩
  have hI7 := ints_of_owns o7
  have hcR := hide (l6Row_any _ (stS D cn) C1.length w7 hI7 (by omega))
  have hat7 : Hid (∀ j, j < (stS D cn).length → w7.cell? ⟨g7, j, none⟩ = some (.int .i64 (at0 (stS D cn) j))) := hide (fun j hj => by rw [o7.cellAt j (by omega), List.getElem?_map, at0_lt hj]; rfl)
  have O7 := hide o7
  have HE7 := hide ((unhide HE6).trans F7)
  have hs7 := F7.size
  have hr0 := layRow0_lt (cs := D) (cols := cn) (p := C1.length)
  have hle0 := layRow0_le (cs := D) (cols := cn) (p := C1.length)
  have hnn0 := stS_nonneg hr0
  have hcol0 := hide (layCol0_bd (p := C1.length) (unhide HCU).wide n2 (by omega))
  obtain ⟨s0, hs0⟩ : ∃ s0 : Nat, at0 (stS D cn) (layRow0 D cn C1.length) = (s0 : Int) := ⟨(at0 (stS D cn) (layRow0 D cn C1.length)).toNat, by omega⟩
  have hx0 := (unhide hat7) _ hr0
  rw [hs0] at hx0 hle0 hnn0
  have hlc0 : Hid (layCol0 D cn C1.length = pw D C1.length - pw D s0) := hide (by unfold layCol0; rw [hs0]; rfl)
  have hrw : rwF (stS D cn) C1.length (stS D cn).length = layRow0 D cn C1.length := rfl
  rw [hrw] at hcR
  generalize hro : layRow0 D cn C1.length = r0 at *
  clear o7 hI7 hrw hs0 O4 O45 O5 SR5 KY5 KY4 OY4 LT4 O2 O3 O23 OY2 KY2 KY3 SR3 LT2 HF3 HE2 HE3 HE4 HE5 hq1 hcP hcA hcB HST
  have hsp : (s0 : Int) ≤ (C1.length : Int) := hle0
  have hpc : (C1.length : Int) ≤ (c6 : Int) := by have := (unhide hDc).1; omega
  go_wp2_with fail
  refine (unhide hcR).mono ?_
  rintro e w8 ⟨rfl, rfl⟩
  have HCW : Hid (∀ (a' : Option Addr) (Z : Nat), (a' = a6.map (fun x => x.add (s0 * 2)) ∨ C1.length - s0 = 0) → C1.length - s0 ≤ Z → Calls Tryd.prog 55 #[.slice a' (C1.length - s0) Z] w8 fun e w' => e = .returned (.int .i64 (layCol0 D cn C1.length)) ∧ Ext w8 w') := by
    refine hide (fun a' Z h1 h2 => ?_)
    have hh := l6Width_any _ _ w8 (((unhide O6).cls.ext F7).cut s0 C1.length Z (by omega) kD1 h2 a' h1) (by simp; omega) (cut_wide (unhide HCU).wide s0 C1.length)
    rw [wsum_sub D s0 C1.length (by omega) kD1, ← unhide hlc0] at hh
    exact hh
  obtain ⟨hcl0, hcl1⟩ := unhide hcol0
  have hfull := hide (full_iff (p := C1.length) (unhide HCU).wide n2 kD1)
  generalize hco : layCol0 D cn C1.length = c0 at *
  generalize hRR : (stS D cn).length = R at *
  have HRO := hide hro
  have HCO := hide hco
  have HRR := hide hRR
  clear hro hco hRR
  go_upto_region 8 with fail
  go_cut [13] (fun co wc => co = .int .i64 c0 ∧ Ext w8 wc)
  case first =>
    by_cases hsc : s0 = c6
    · subst hsc
      go_wp2_with fail
      refine ((unhide HCW) _ _ (.inr (by have := (unhide hDc).1; omega)) (by omega)).mono ?_
      rintro e w9 ⟨rfl, F9⟩
      go_wp2
      go_meet
      exact ⟨rfl, F9⟩
    · have hsc' : ¬ c6 = s0 := fun e => hsc e.symm
      go_wp2_with fail
      refine ((unhide HCW) _ _ (.inl rfl) (by omega)).mono ?_
      rintro e w9 ⟨rfl, F9⟩
      go_wp2
      go_meet
      exact ⟨rfl, F9⟩
  case rest =>
  obtain ⟨rfl, F9⟩ := hcut
  have HE9 := hide (F7.trans F9)
  have O9 := hide (F9.owns (unhide O7))
  have hs9 := F9.size
  obtain ⟨ii, hii, hi0, hi1, hi2⟩ := info_parts infoIntL
  obtain ⟨S2, hS2⟩ : ∃ S2, S2 = layS D cn C1.length := ⟨_, rfl⟩
  obtain ⟨r2, hr2⟩ : ∃ r2, r2 = layRow D cn C1.length := ⟨_, rfl⟩
  obtain ⟨c2, hc2'⟩ : ∃ c2, c2 = layCol D cn C1.length := ⟨_, rfl⟩
  have HS2 := hide hS2
  have HR2 := hide hr2
  have HC2 := hide hc2'
  clear hS2 hr2 hc2' hx0
  go_upto_region 9 with fail
  go_cut [58] (fun b wq => b = .bool (decide (c0 = cn)) ∧ wq = wc)
  case first =>
    by_cases hfu : c0 = cn
    · have hpb : ((C1.length : Int) == (D.length : Int)) = true := by have := ((unhide hfull).2 hfu).1; simp; omega
      subst hfu
      go_wp2
      go_meet
      exact ⟨by simp, rfl⟩
    · by_cases hpn : (C1.length : Int) = (D.length : Int)
      · have hpb : ((C1.length : Int) == (D.length : Int)) = true := by simpa using hpn
        clear hpn
        go_wp2
        go_meet
        exact ⟨by simp [hfu], rfl⟩
      · go_wp2
        go_meet
        exact ⟨by simp [hfu], rfl⟩
  case rest =>
  obtain ⟨rfl, rfl⟩ := hcut
  go_upto_if 58 with fail
  go_cut [11, 12, 13] (fun st ro co wq => ∃ g q, st = .slice (some ⟨g, 0, none⟩) S2.length q ∧ ro = .int .i64 (r2 : Int) ∧ co = .int .i64 c2 ∧ S2.length ≤ q ∧ Hid (wq.ownsRow w6.heap.size 3 1 (.slice (some ⟨g, 0, none⟩) S2.length q) S2.length (S2.map (Value.int .i64))) ∧ Ext w6 wq)
  case first =>
    by_cases hfu : c0 = cn
    · have hpn : C1.length = D.length := ((unhide hfull).2 hfu).1
      have hL : LayFull D cn C1.length := (unhide hfull).2 hfu
      have e2 : Hid (S2 = stS D cn ++ [(C1.length : Int)]) := hide (by rw [unhide HS2]; unfold layS; rw [if_pos hL])
      have e3 : Hid (r2 = r0 + 1) := hide (by rw [unhide HR2]; unfold layRow; rw [if_pos hL, unhide HRO])
      have e4 : Hid (c2 = 0) := hide (by rw [unhide HC2]; unfold layCol; rw [if_pos hL])
      subst hfu
      clear hpn
      go_wp2_with (at_builtin; go_must (refine wpList_app rfl _ _ 91 rfl w6.heap.size 3 ii (.int .i64 0) 1 8 Tryd.underlying91 hii hi0 hi1 hi2 rfl (by decide) _ _ _ rfl ((unhide O9).alloc _) _ 1 [.int .i64 (C1.length : Int)] rfl (Src.made _ _ _ rfl (by simp [Value.oneCell'])) (by unfold maxLen; omega) (by omega) (by simp; omega) ?_); intro v5 w5 o5 G5 _; have HO5 := hide o5; have HG5 := hide (((unhide HE9).alloc _).grown G5 (fun q hq => ((unhide O9).lt q hq).1)); clear o5 G5)
      go_meet
      have o5 := unhide HO5
      have hl2 : S2.length = R + 1 := by rw [unhide e2, List.length_append, unhide HRR]; rfl
      obtain ⟨g, q, rfl, hq⟩ : ∃ g q, v5 = .slice (some ⟨g, 0, none⟩) (R + 1) q ∧ R + 1 ≤ q := by
        rcases o5.2 with ⟨_, h0⟩ | ⟨g, cap, cur, hv, _, _, hn, _⟩
        · omega
        · exact ⟨g, cap, hv, hn⟩
      refine ⟨g, q, by rw [hl2], by rw [unhide e3]; go_num, by rw [unhide e4], by omega, hide ?_, unhide HG5⟩
      have e5 : S2.map (Value.int .i64) = (stS D cn).map (Value.int .i64) ++ [.int .i64 (C1.length : Int)] := by rw [unhide e2, List.map_append]; rfl
      rw [hl2, e5]
      exact o5
    · have hL : ¬ LayFull D cn C1.length := fun h => hfu ((unhide hfull).1 h)
      have e2 : Hid (S2 = stS D cn) := hide (by rw [unhide HS2]; unfold layS; rw [if_neg hL])
      have e3 : Hid (r2 = r0) := hide (by rw [unhide HR2]; unfold layRow; rw [if_neg hL, unhide HRO])
      have e4 : Hid (c2 = c0) := hide (by rw [unhide HC2]; unfold layCol; rw [if_neg hL, unhide HCO])
      have hdb : decide (c0 = (cn : Int)) = false := by simp [hfu]
      go_wp2
      go_meet
      have hl2 : S2.length = R := by rw [unhide e2, unhide HRR]
      refine ⟨g7, c7, by rw [hl2], by rw [unhide e3], by rw [unhide e4], by omega, hide ?_, unhide HE9⟩
      rw [hl2, unhide e2]
      exact unhide O9
  case rest =>
  obtain ⟨g, q, rfl, rfl, rfl, hq, HOS, EQ⟩ := hcut
  have EQS := hide EQ
  clear EQ
  have hl2 : 1 ≤ S2.length ∧ S2.length ≤ D.length + 2 ∧ r2 < S2.length := by
    rw [unhide HS2, unhide HR2]
    refine ⟨?_, layS_len, layRow_lt⟩
    have := layRow_lt (cs := D) (cols := cn) (p := C1.length)
    omega
  obtain ⟨hl21, hl22, hr2l⟩ := hl2
  obtain ⟨f, hf⟩ : ∃ f : Nat, f = r2 + 1 - rn := ⟨_, rfl⟩
  have HF := hide hf
  clear hf HCW hcR
  go_upto_region 14 with fail
  go_cut [76] (fun b wq => b = .bool (decide ((r2 : Int) - (rn : Int) + 1 < 0 ∨ (S2.length : Int) ≤ (rn : Int))) ∧ wq = wc)
  case first =>
    by_cases h1 : (r2 : Int) - (rn : Int) + 1 < 0
    · go_wp2
      go_meet
      exact ⟨by simp [h1], rfl⟩
    · by_cases h2 : (S2.length : Int) ≤ (rn : Int)
      · go_wp2
        go_meet
        exact ⟨by simp [h2], rfl⟩
      · go_wp2
        go_meet
        exact ⟨congrArg Value.bool (decide_eq_false (by omega)).symm, rfl⟩
  case rest =>
  obtain ⟨rfl, rfl⟩ := hcut
  go_upto_if 76 with fail
  go_cut [14] (fun fv wq => fv = .int .i64 (f : Int) ∧ wq = wc)
  case first =>
    by_cases h1 : (r2 : Int) - (rn : Int) + 1 < 0 ∨ (S2.length : Int) ≤ (rn : Int)
    · have hd : decide ((r2 : Int) - (rn : Int) + 1 < 0 ∨ (S2.length : Int) ≤ (rn : Int)) = true := by simpa using h1
      rw [hd]
      have h9 := hide h1
      clear h1 hd
      go_wp2
      go_meet
      exact ⟨congrArg (Value.int .i64) (by have := unhide HF; have := unhide h9; omega), rfl⟩
    · have hd : decide ((r2 : Int) - (rn : Int) + 1 < 0 ∨ (S2.length : Int) ≤ (rn : Int)) = false := by simpa using h1
      rw [hd]
      have h9 := hide h1
      clear h1 hd
      go_wp2
      go_meet
      exact ⟨congrArg (Value.int .i64) (by have := unhide HF; have := unhide h9; omega), rfl⟩
  case rest =>
  obtain ⟨rfl, rfl⟩ := hcut
  have hfr2 : f ≤ r2 := by have := unhide HF; omega
  have hsl := (unhide EQS).size
  obtain ⟨V6, hV6⟩ : ∃ V6, V6 = (wc.alloc (.cells #[] 9)).alloc (.cells #[.slice (some ⟨wc.heap.size, 0, none⟩) 0 0, .int .i64 ((r2 : Int) - (f : Int)), .int .i64 c2] 51) := ⟨_, rfl⟩
  have HV6 := hide hV6
  have EV6 : Ext wc V6 := by rw [hV6]; exact ((Ext.refl _).alloc _).alloc _
  have hzV : V6.heap.size = wc.heap.size + 2 := by rw [hV6]; simp
  have HZV := hide hzV
  have hzV1 : wc.heap.size + 1 < V6.heap.size := by omega
  clear hV6 hzV
  have hsrc : Hid (∀ W Z X, Ext wc W → (X = 1 ∨ S2.length - 1 = 0) → Src W 1 (.slice (some ⟨g, X, none⟩) (S2.length - 1) Z) (S2.length - 1) ((S2.drop 1).map (Value.int .i64))) := by
    refine hide (fun W Z X hW hX => ⟨by simp, fun u hu => ?_, .inr ⟨_, Z, rfl, fun j u hj => ?_⟩⟩)
    · obtain ⟨x, _, rfl⟩ := List.mem_map.1 hu
      rfl
    · have hjl : j < S2.length - 1 := by have := (List.getElem?_eq_some_iff.1 hj).1; simpa using this
      rcases hX with rfl | hX
      · rw [Addr.add_lit, (hW.owns (unhide HOS)).cellAt (1 + j) (by omega), ← hj]
        rw [List.getElem?_map, List.getElem?_map, List.getElem?_drop]
      · omega
  have HZW := hide (show wc.heap.size = wc.heap.size from rfl)
  have hbV := ((Ext.refl _).alloc (.cells #[.slice (some ⟨wc.heap.size, 0, none⟩) 0 0, .int .i64 ((r2 : Int) - (f : Int)), .int .i64 c2] 51)).owns (owns_empty wc 9 1)
  have hbW := new_block (wc.alloc (.cells #[] 9)) (.cells #[.slice (some ⟨wc.heap.size, 0, none⟩) 0 0, .int .i64 ((r2 : Int) - (f : Int)), .int .i64 c2] 51)
  rw [← unhide HV6] at hbV hbW
  rw [show (wc.alloc (.cells #[] 9)).heap.size = wc.heap.size + 1 by simp] at hbW
  have HBV := hide hbV
  have HBW := hide hbW
  clear hbV hbW
  obtain ⟨wS, hwS⟩ : ∃ wS, wS = wc := ⟨_, rfl⟩
  go_upto_region 17 with fail
  rw [← unhide HV6]
  subst hwS
  go_cut [16] (fun ev wq => ∃ ge qe, ev = .slice (some ⟨ge, 0, none⟩) S2.length qe ∧ V6.heap.size ≤ ge ∧ ge < wq.heap.size ∧ Hid (∀ j, j < S2.length → wq.cell? ⟨ge, j, none⟩ = some (.int .i64 (at0 (S2 ++ [(D.length : Int)]) (j + 1)))) ∧ Ext V6 wq)
  case first =>
    have ho0 := hide (owns_empty V6 3 1)
    have tok1 : True := trivial
    by_cases hq1 : q = 1
    · subst hq1
      obtain ⟨x, hx⟩ : ∃ x, S2 = [x] := by
        cases S2 with
        | nil => simp at hl21
        | cons x r =>
          cases r with
          | nil => exact ⟨x, rfl⟩
          | cons y r => simp at hq
      subst hx
      have hsrc0 : Hid (∀ (W : World) (ad : Addr) (q : Nat), Src W 1 (.slice (some ad) 0 q) 0 []) := hide (fun W ad q => ⟨rfl, fun u hu => (by cases hu), .inr ⟨ad, q, rfl, fun j u hj => (by simp at hj)⟩⟩)
      clear hsrc
      go_wp2_with (at_builtin; go_must (refine wpList_app rfl _ _ 91 rfl V6.heap.size 3 ii (.int .i64 0) 1 8 Tryd.underlying91 hii hi0 hi1 hi2 rfl (by decide) _ 0 [] rfl (unhide ho0) _ 0 [] rfl ((unhide hsrc0) _ _ _) (by unfold maxLen; omega) (by omega) (by simp) ?_))
      intro v5 w5 o5 G5 _
      have HO5 := hide o5
      have HG5 := hide (((Ext.refl V6).alloc _).grown G5 (fun q hq => (by simp [Value.ownBlock] at hq; omega)))
      have hs5 := (unhide HG5).size
      clear o5 G5
      go_wp2_with (at_builtin; go_must (refine wpList_app rfl _ _ 91 rfl V6.heap.size 3 ii (.int .i64 0) 1 8 Tryd.underlying91 hii hi0 hi1 hi2 rfl (by decide) _ _ _ rfl ((unhide HO5).alloc _) _ 1 [.int .i64 (D.length : Int)] rfl (Src.made _ _ _ rfl (by simp [Value.oneCell'])) (by unfold maxLen; omega) (by omega) (by simp; omega) ?_))
      intro v6' w6' o6' G6' _
      have HO6 := hide o6'
      have HG6 := hide (((unhide HG5).alloc _).grown G6' (fun q hq => ((unhide HO5).lt q hq).1))
      clear o6' G6'
      go_wp2
      go_meet
      exact ends_own (S := [x]) (by simpa using unhide HO6) (Nat.le_refl _) (unhide HG6)
    · have hq1' : ¬ 1 = q := fun e => hq1 e.symm
      go_wp2_with (at_builtin; go_must (refine wpList_app rfl _ _ 91 rfl V6.heap.size 3 ii (.int .i64 0) 1 8 Tryd.underlying91 hii hi0 hi1 hi2 rfl (by decide) _ 0 [] rfl (unhide ho0) _ (S2.length - 1) ((S2.drop 1).map (Value.int .i64)) rfl ((unhide hsrc) _ _ _ (EV6.alloc _) (.inl rfl)) (by unfold maxLen; omega) (by omega) (by simp) ?_))
      intro v5 w5 o5 G5 _
      have HO5 := hide o5
      have HG5 := hide (((Ext.refl V6).alloc _).grown G5 (fun q hq => (by simp [Value.ownBlock] at hq; omega)))
      have hs5 := (unhide HG5).size
      clear o5 G5
      go_wp2_with (at_builtin; go_must (refine wpList_app rfl _ _ 91 rfl V6.heap.size 3 ii (.int .i64 0) 1 8 Tryd.underlying91 hii hi0 hi1 hi2 rfl (by decide) _ _ _ rfl ((unhide HO5).alloc _) _ 1 [.int .i64 (D.length : Int)] rfl (Src.made _ _ _ rfl (by simp [Value.oneCell'])) (by unfold maxLen; omega) (by omega) (by simp; omega) ?_))
      intro v6' w6' o6' G6' _
      have HO6 := hide o6'
      have HG6 := hide (((unhide HG5).alloc _).grown G6' (fun q hq => ((unhide HO5).lt q hq).1))
      clear o6' G6'
      go_wp2
      go_meet
      exact ends_own (unhide HO6) hl21 (unhide HG6)
  case rest =>
  obtain ⟨ge, qe, rfl, hge1, hge2, HEN, FE⟩ := hcut
  obtain ⟨n, hn⟩ : ∃ n : Nat, n = min (f + rn) S2.length - f := ⟨_, rfl⟩
  have hn1 : f + n ≤ S2.length := by omega
  have hn2 : n ≤ rn := by omega
  have HN := hide hn
  clear hn
  obtain ⟨ic2, hic2, hd0, hd1, hd2⟩ := info_parts infoStrs
  have HLB : Hid (LayB wc wS wS.heap.size ge S2.length S2 D.length (.slice (some ⟨wS.heap.size, 0, none⟩) 0 0) 0 (fun i => toBA (textC (layC D cn C1.length (f + i)))) ((r2 : Int) - (f : Int)) c2) := by
    have hzv := unhide HZV
    refine hide ⟨FE.kept (unhide HBW), FE.owns (unhide HBV), by simp [Value.ownBlock], by simp [Value.ownBlock]; omega, hge2, by omega, unhide HEN, EV6.trans FE⟩
  have HST2 : Hid (∀ i, i < S2.length → 0 ≤ at0 S2 i ∧ at0 S2 i ≤ at0 (S2 ++ [(D.length : Int)]) (i + 1) ∧ at0 (S2 ++ [(D.length : Int)]) (i + 1) ≤ (D.length : Int)) := by
    refine hide ?_
    rw [unhide HS2]
    exact fun i hi => lay_step hi
  have HCLS := hide ((unhide O6).cls.ext (unhide EQS))
  have HLC2 : Hid (∀ i, layC D cn C1.length i = (D.take (at0 (S2 ++ [(D.length : Int)]) (i + 1)).toNat).drop (at0 (S2 ++ [(D.length : Int)]) i).toNat) := hide (fun i => by rw [unhide HS2]; rfl)
  have EQX : Ext W0 wS := (unhide HE6).trans (unhide EQS)
  clear hsrc HBV HBW HEN FE hge1
  go_upto_block 0 with fail
  go_cut [17] (fun _ wq => ∃ rv : Value, Hid (LayB wq wS wS.heap.size ge S2.length S2 D.length rv n (fun i => toBA (textC (layC D cn C1.length (f + i)))) ((r2 : Int) - (f : Int)) c2))
  case first =>
    go_wp2
    go_loopw [17] (fun iv wr => ∃ (m k : Nat) (rv : Value), m = f + k ∧ k ≤ n ∧ iv = .int .i64 (m : Int) ∧ Hid (LayB wr wS wS.heap.size ge S2.length S2 D.length rv k (fun i => toBA (textC (layC D cn C1.length (f + i)))) ((r2 : Int) - (f : Int)) c2)) (fun iv _ => (f + n) - (intOf iv).toNat)
    case atStart => exact ⟨f, 0, _, rfl, Nat.zero_le _, rfl, HLB⟩
    case round =>
      clear HLB
      obtain ⟨m, k, rv, hmk, hk, rfl, HB⟩ := hrel
      have HM := hide hmk
      have hbx := (unhide HB).box
      obtain ⟨va, vc, rfl⟩ := owns_slice (unhide HB).own
      have y0 : wr.cell? ⟨wS.heap.size + 1, 0, none⟩ = some (.slice va k vc) := cells_of hbx 0 _ rfl
      by_cases hlt : k < n
      · have hkS : m < S2.length := by omega
        have g1 := (unhide HB).ext.cell (a := ⟨g, m, none⟩) (v := .int .i64 (at0 S2 m)) (by rw [(unhide HOS).cellAt m (by omega), List.getElem?_map, at0_lt hkS]; rfl)
        have g2 := (unhide HB).ends m hkS
        obtain ⟨t0, t1, t2⟩ := (unhide HST2) m hkS
        obtain ⟨sk, hsk⟩ : ∃ sk : Nat, at0 S2 m = (sk : Int) := ⟨(at0 S2 m).toNat, by omega⟩
        obtain ⟨ek, hek⟩ : ∃ ek : Nat, at0 (S2 ++ [(D.length : Int)]) (m + 1) = (ek : Int) := ⟨(at0 (S2 ++ [(D.length : Int)]) (m + 1)).toNat, by omega⟩
        have hly : Hid (layC D cn C1.length (f + k) = (D.take ek).drop sk) := hide (by
          rw [← hmk, unhide HLC2, hek, at0_app, if_neg (by omega), hsk]
          rfl)
        rw [hsk] at g1 t0 t1
        rw [hek] at g2 t1 t2
        have hse : sk ≤ ek := by omega
        have hen : ek ≤ D.length := by omega
        have hDc1 := (unhide hDc).1
        obtain ⟨tk, htk⟩ : ∃ tk, tk = toBA (textC (layC D cn C1.length (f + k))) := ⟨_, rfl⟩
        have HTK := hide htk
        have hct : Hid (∀ (W : World) (a' : Option Addr) (Z : Nat), Ext wr W → (a' = a6.map (fun x => x.add (sk * 2)) ∨ ek - sk = 0) → ek - sk ≤ Z → Calls Tryd.prog 56 #[.slice a' (ek - sk) Z] W fun e w' => e = .returned (.string tk) ∧ Ext wr w') := by
          refine hide (fun W a' Z hW h1 h2 => ?_)
          rw [htk, unhide hly]
          have hp := (unhide HCU).part sk ek
          refine (specTextOf_any _ _ W (((unhide HCLS).ext ((unhide HB).ext.trans hW)).cut sk ek Z hse hen h2 a' h1) (Nat.le_trans hp.1 (by omega)) (fun j _ => hp.2 j)).mono ?_
          rintro e w' ⟨rfl, F⟩
          exact ⟨rfl, hW.trans F⟩
        have bI1 : (m : Int) < (S2.length : Int) := by omega
        have bI2 : (m : Int) < (f : Int) + (rn : Int) := by omega
        have hszr : wS.heap.size + 1 < wr.heap.size := lt_of_block hbx
        have seI : (sk : Int) ≤ (ek : Int) := by omega
        have ecI : (ek : Int) ≤ (c6 : Int) := by omega
        have hown : Hid (wr.ownsRow wS.heap.size 9 1 (.slice va k vc) k (strL (fun i => toBA (textC (layC D cn C1.length (f + i)))) k)) := hide (unhide HB).own
        have hkb : k ≤ 100 := by omega
        obtain ⟨xs, hxs⟩ : ∃ xs, xs = strL (fun i => toBA (textC (layC D cn C1.length (f + i)))) k := ⟨_, rfl⟩
        rw [← hxs] at hown
        have HXS := hide hxs
        clear t0 t1 t2 hsk hek htk hxs hbx hmk
        by_cases hsc : sk = c6
        · subst hsc
          have hz9 : ek - sk = 0 := by omega
          have HZ9 := hide hz9
          clear hz9
          go_wp2
          go_region_law (first
            | (refine step_append_lies _ (by rfl) _ _ _ (by rfl) wS.heap.size 9 ic2 _ 1 16 Tryd.underlying49 hic2 hd0 hd1 hd2 rfl (by omega) (.slice va k vc) k xs (by rfl) (by first | exact (E'.owns (unhide hown)).alloc _ | exact ((E'.owns (unhide hown)).alloc _).drew | exact (E'.owns (unhide hown)).drew.alloc _ | exact ((E'.owns (unhide hown)).drew.alloc _).drew)
                ⟨w'.heap.size, 0, none⟩ 1 1 [.string tk] (by rfl) (by rfl) (World.news_of_block (cs := #[.string tk]) (t := 9) (fr := (0, 0)) (heap_alloc_new w' _)) (by simp [Value.oneCell'])
                (by omega) (by unfold maxLen; omega) (by omega) (by simp; omega) (w'.heap.size + 1) (by simp) ?_
               intro gg cap w3 hown3 hgrow hat hlt3
               rw [unhide HXS, unhide HTK] at hown3
               have M := LayB.more (T := fun i => toBA (textC (layC D cn C1.length (f + i)))) (unhide HB) rfl E' (by first | exact (Ext.refl w').alloc _ | exact ((Ext.refl w').alloc _).drew | exact (Ext.refl w').drew.alloc _ | exact ((Ext.refl w').drew.alloc _).drew) hgrow hown3 hat (by have := E'.size; omega)
               have c3 : w3.cell? ⟨wS.heap.size + 1, 0, none⟩ = some (.slice va k vc) := cells_of M.2 0 _ rfl
               have f3 : ∀ i, w3.frozen? ⟨wS.heap.size + 1, i, none⟩ = false := fun i => Lib.frozen_of_heap M.2 i
               have HNEW := hide M.1
               clear hown3 hgrow M)
            | (go_simp; go_at_call 56; refine ((unhide hct) wr.drew _ _ (Ext.refl _).drew (.inr (unhide HZ9)) (by omega)).mono ?_; rintro e w' ⟨rfl, E'⟩; have hsz' := E'.size; have y0' := E'.cell y0; have y0n : ∀ o, (w'.alloc o).cell? ⟨wS.heap.size + 1, 0, none⟩ = some (.slice va k vc) := fun o => ((Ext.refl w').alloc o).cell y0'))
          all_goals
            go_wp2
            go_roundw
            case rel => exact ⟨m + 1, k + 1, _, by have := unhide HM; omega, by omega, by go_num, HNEW⟩
            case measure => have := unhide HM; simp [intOf]; omega
        · have hsc' : ¬ c6 = sk := fun e => hsc e.symm
          go_wp2
          go_region_law (first
            | (refine step_append_lies _ (by rfl) _ _ _ (by rfl) wS.heap.size 9 ic2 _ 1 16 Tryd.underlying49 hic2 hd0 hd1 hd2 rfl (by omega) (.slice va k vc) k xs (by rfl) (by first | exact (E'.owns (unhide hown)).alloc _ | exact ((E'.owns (unhide hown)).alloc _).drew | exact (E'.owns (unhide hown)).drew.alloc _ | exact ((E'.owns (unhide hown)).drew.alloc _).drew)
                ⟨w'.heap.size, 0, none⟩ 1 1 [.string tk] (by rfl) (by rfl) (World.news_of_block (cs := #[.string tk]) (t := 9) (fr := (0, 0)) (heap_alloc_new w' _)) (by simp [Value.oneCell'])
                (by omega) (by unfold maxLen; omega) (by omega) (by simp; omega) (w'.heap.size + 1) (by simp) ?_
               intro gg cap w3 hown3 hgrow hat hlt3
               rw [unhide HXS, unhide HTK] at hown3
               have M := LayB.more (T := fun i => toBA (textC (layC D cn C1.length (f + i)))) (unhide HB) rfl E' (by first | exact (Ext.refl w').alloc _ | exact ((Ext.refl w').alloc _).drew | exact (Ext.refl w').drew.alloc _ | exact ((Ext.refl w').drew.alloc _).drew) hgrow hown3 hat (by have := E'.size; omega)
               have c3 : w3.cell? ⟨wS.heap.size + 1, 0, none⟩ = some (.slice va k vc) := cells_of M.2 0 _ rfl
               have f3 : ∀ i, w3.frozen? ⟨wS.heap.size + 1, i, none⟩ = false := fun i => Lib.frozen_of_heap M.2 i
               have HNEW := hide M.1
               clear hown3 hgrow M)
            | (go_simp; go_at_call 56; refine ((unhide hct) wr.drew _ _ (Ext.refl _).drew (.inl rfl) (by omega)).mono ?_; rintro e w' ⟨rfl, E'⟩; have hsz' := E'.size; have y0' := E'.cell y0; have y0n : ∀ o, (w'.alloc o).cell? ⟨wS.heap.size + 1, 0, none⟩ = some (.slice va k vc) := fun o => ((Ext.refl w').alloc o).cell y0'))
          all_goals
            go_wp2
            go_roundw
            case rel => exact ⟨m + 1, k + 1, _, by have := unhide HM; omega, by omega, by go_num, HNEW⟩
            case measure => have := unhide HM; simp [intOf]; omega
      · obtain rfl : k = n := by omega
        clear HST2 HCLS HLC2 hbx
        by_cases hb1 : m < S2.length
        · have hI1 : (m : Int) < (S2.length : Int) := by omega
          have hI2 : ¬ (m : Int) < (f : Int) + (rn : Int) := by have := unhide HN; omega
          go_wp2
          go_meet
          exact ⟨_, HB⟩
        · have hI1 : ¬ (m : Int) < (S2.length : Int) := by omega
          go_wp2
          go_meet
          exact ⟨_, HB⟩
  case rest =>
  obtain ⟨rv, HB⟩ := hcut
  have hbx := (unhide HB).box
  obtain ⟨va, vc, rfl⟩ := owns_slice (unhide HB).own
  have y0 : wc.cell? ⟨wS.heap.size + 1, 0, none⟩ = some (.slice va n vc) := cells_of hbx 0 _ rfl
  have y1 : wc.cell? ⟨wS.heap.size + 1, 1, none⟩ = some (.int .i64 ((r2 : Int) - (f : Int))) := cells_of hbx 1 _ rfl
  have y2 : wc.cell? ⟨wS.heap.size + 1, 2, none⟩ = some (.int .i64 c2) := cells_of hbx 2 _ rfl
  have hT := (EQX).trans (unhide HB).ext
  have hb9 := hT.kept (unhide HB0)
  have b0 : wc.cell? ⟨w.heap.size + 1, 0, none⟩ = some (.slice none 0 0) := cells_of hb9 0 _ rfl
  have b1 : wc.cell? ⟨w.heap.size + 1, 1, none⟩ = some (.int .i64 0) := cells_of hb9 1 _ rfl
  have b2 : wc.cell? ⟨w.heap.size + 1, 2, none⟩ = some (.int .i64 0) := cells_of hb9 2 _ rfl
  have f1 : ∀ i, wc.frozen? ⟨w.heap.size + 1, i, none⟩ = false := fun i => Lib.frozen_of_heap hb9 i
  have hfin : Hid (layFr D cn C1.length rn = f ∧ layCnt D cn C1.length rn = n ∧ layRow D cn C1.length = r2 ∧ layCol D cn C1.length = c2) := by
    have e1 : layFr D cn C1.length rn = f := by unfold layFr; rw [← unhide HR2, unhide HF]
    refine hide ⟨e1, ?_, (unhide HR2).symm, (unhide HC2).symm⟩
    unfold layCnt
    rw [e1, ← unhide HS2, unhide HN]
  have hsS := (unhide EQS).size
  have hend : ∀ U : World, U = ((wc.setCell ⟨w.heap.size + 1, 0, none⟩ (.slice va n vc)).setCell ⟨w.heap.size + 1, 1, none⟩ (.int .i64 ((r2 : Int) - (f : Int)))).setCell ⟨w.heap.size + 1, 2, none⟩ (.int .i64 c2) → Own1 U w.heap.size 9 (.slice va n vc) (layCnt D0 cn p0 rn) (fun i => .string (layT D0 cn p0 rn i)) ∧ Ext w U := by
    rintro U rfl
    obtain ⟨q1, q2, q3, q4⟩ := unhide hfin
    have fr : Fr (fun q => q = w.heap.size + 1) wc (((wc.setCell ⟨w.heap.size + 1, 0, none⟩ (.slice va n vc)).setCell ⟨w.heap.size + 1, 1, none⟩ (.int .i64 ((r2 : Int) - (f : Int)))).setCell ⟨w.heap.size + 1, 2, none⟩ (.int .i64 c2)) := by
      repeat' first | refine Fr.setCell (S := fun q => q = w.heap.size + 1) ?_ (a := ⟨w.heap.size + 1, _, none⟩) rfl _ | exact Fr.refl _ _
    refine ⟨?_, fr.ext (E0.trans hT) (fun k hk => by omega)⟩
    rw [unhide HD0, unhide HP0, q2]
    have hcg : Own1 wc wS.heap.size 9 (.slice va n vc) n (fun i => .string (layT D cn C1.length rn i)) := by
      unfold layT
      rw [q1]
      exact own_strL (unhide HB).own
    exact (hcg.fr fr (fun g hg e => by have := hcg.lt g hg; omega)).mono (by omega)
  have HEND := hide hend
  clear hend hb9 hbx HLB HST2 HCLS HLC2
  iterate 13 go_step
  show bodyPost Tryd.prog Tryd.f25 _ Exit.ret _ _
  refine bodyPost_ret (v := .agg #[.slice va n vc, .int .i64 ((r2 : Int) - (f : Int)), .int .i64 c2]) (by simp [results, Tryd.results25, go_sem, b0, b1, b2]) rfl ⟨_, ?_, (unhide HEND) _ rfl⟩
  obtain ⟨q1, q2, q3, q4⟩ := unhide hfin
  rw [unhide HD0, unhide HP0, q1, q3, q4]
end Go.Proofs.YtbieoijeilhadaaDoor
