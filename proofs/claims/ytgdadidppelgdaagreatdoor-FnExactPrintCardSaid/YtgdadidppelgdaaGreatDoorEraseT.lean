import Derived.Test.YtgdadidppelgdaaGreatDoorWri
import Derived.Test.YtgdadidppelgdaaGreatDoorTrim
import Derived.Deep.RegionHeldLaw
import Derived.Test.YtgdadidppelgdaaGreatDoorPaintM
namespace Go.Proofs.YtgdadidppelgdaaGreatDoor
open Go.RowKit

set_option maxRecDepth 10000 in
set_option maxHeartbeats 1000000 in
theorem l6Ok_any (v : Value) (row col : Int) (n : Nat) (tx : Nat → ByteArray) (w : World) (hv : Row1At w v n (fun j => .string (tx j))) :
    Calls Tryz.prog 60 #[blV v row col] w fun e w' => e = .returned (.bool (@decide (bOk n row col) (bOkD n row col))) ∧ Ext w w' := by
  obtain ⟨ao, cap, rfl, _, _⟩ := hv
  unfold blV
  by_cases h1 : 0 ≤ row
  · by_cases h2 : row < (n : Int)
    · by_cases h3 : 0 ≤ col
      · by_cases h4 : col < 200
        · have hb : Hid (@decide (bOk n row col) (bOkD n row col) = true) := @decide_eq_true _ (bOkD n row col) ⟨h1, h2, h3, h4⟩
          go_enter Tryz.func60, Tryz.ntmps60
          go_wp2
          go_ret
          exact ⟨ret_bool (unhide hb).symm, (Ext.refl _).alloc _⟩
        · have hb : Hid (@decide (bOk n row col) (bOkD n row col) = false) := @decide_eq_false _ (bOkD n row col) (fun e => h4 e.2.2.2)
          go_enter Tryz.func60, Tryz.ntmps60
          go_wp2
          go_ret
          exact ⟨ret_bool (unhide hb).symm, (Ext.refl _).alloc _⟩
      · have hb : Hid (@decide (bOk n row col) (bOkD n row col) = false) := @decide_eq_false _ (bOkD n row col) (fun e => h3 e.2.2.1)
        go_enter Tryz.func60, Tryz.ntmps60
        go_wp2
        go_ret
        exact ⟨ret_bool (unhide hb).symm, (Ext.refl _).alloc _⟩
    · have hb : Hid (@decide (bOk n row col) (bOkD n row col) = false) := @decide_eq_false _ (bOkD n row col) (fun e => h2 e.2.1)
      go_enter Tryz.func60, Tryz.ntmps60
      go_wp2
      go_ret
      exact ⟨ret_bool (unhide hb).symm, (Ext.refl _).alloc _⟩
  · have hb : Hid (@decide (bOk n row col) (bOkD n row col) = false) := @decide_eq_false _ (bOkD n row col) (fun e => h1 e.1)
    go_enter Tryz.func60, Tryz.ntmps60
    go_wp2
    go_ret
    exact ⟨ret_bool (unhide hb).symm, (Ext.refl _).alloc _⟩
end Go.Proofs.YtgdadidppelgdaaGreatDoor

namespace Go.Proofs.YtgdadidppelgdaaGreatDoor
open Go.RowKit

theorem cvA (z : Int) (W : World) (b : Nat) (h : W.cell? ⟨b, 0, none⟩ = some (.int .u8 z)) : (convert 25 9 (.slice (some ⟨b, 0, none⟩) 1 1)).run Tryz.prog W = .ok (.string (toBA [z])) W :=
  run_b2s _ _ _ _ Tryz.underlying25 Tryz.underlying5 Tryz.underlying9 _ [z] ⟨some ⟨b, 0, none⟩, 1, rfl, by simp, fun _ => ⟨b, 0, rfl, fun j hj => by
    have : j = 0 := by simp at hj; omega
    subst this
    simpa [at0] using h⟩⟩
set_option maxRecDepth 10000 in
set_option maxHeartbeats 4000000 in
theorem l6Dec_any : ∀ (f : Nat) (n : Int), n.toNat ≤ f → 0 < n → n ≤ 99999999 → ∀ w : World, Calls Tryz.prog 89 #[.int .i64 n] w fun e w' => e = .returned (.string (toBA (dg n.toNat))) ∧ Ext w w'
  | 0, n, h, h0, _, _ => by omega
  | f + 1, n, h, h0, h1, w => by
    have hst := dg_step n.toNat (by omega)
    by_cases hm : n < 10
    · have e0 : dg (n.toNat / 10) = [] := by rw [show n.toNat / 10 = 0 by omega]; rfl
      have hfin : Hid (toBA (dg n.toNat) = toBA [48 + n]) := by
        refine hide ?_
        rw [hst, e0, show ((n.toNat % 10 : Nat) : Int) = n by omega]; rfl
      have hc := cvA (48 + n)
      clear hst e0 h
      go_enter Tryz.func89, Tryz.ntmps89
      go_wp2
      go_ret
      exact ⟨ret_str (unhide hfin).symm, (Ext.refl _).alloc _⟩
    · have hb : ¬ n < 10 := by omega
      have hw1 : IntKind.i64.wrap (n.tdiv 10) = n / 10 := by rw [IntKind.wrap_i64, Int.tdiv_eq_ediv_of_nonneg (by omega)]; omega
      have hw2 : n.tmod 10 = n % 10 := Int.tmod_eq_emod_of_nonneg (by omega)
      have hw4 : IntKind.u8.wrap (IntKind.i64.wrap (48 + n.tmod 10)) = 48 + n % 10 := by rw [hw2, IntKind.wrap_i64, IntKind.wrap_u8]; omega
      obtain ⟨z, hz⟩ : ∃ z, z = IntKind.u8.wrap (IntKind.i64.wrap (48 + n.tmod 10)) := ⟨_, rfl⟩
      have hz4 := hz.trans hw4
      have hc := cvA z
      rw [hz] at hc
      have ih := hide (fun w => l6Dec_any f (n / 10) (by omega) (by omega) (by omega) w)
      rw [← hw1] at ih
      have hl := dg_short 8 (n / 10).toNat (by omega)
      have hs1 : (toBA (dg (n / 10).toNat)).size + (toBA [z]).size ≤ 9223372036854775807 := by rw [toBA_size, toBA_size]; simp; omega
      have hadd := fun W => run_string_add_sum (P := Tryz.prog) W _ _ hs1
      rw [toBA_app, ← hw1, hz] at hadd
      have hfin : Hid (toBA (dg n.toNat) = toBA (dg (IntKind.i64.wrap (n.tdiv 10)).toNat ++ [IntKind.u8.wrap (IntKind.i64.wrap (48 + n.tmod 10))])) := by
        refine hide ?_
        rw [hst, hw1, hw4, show n.toNat / 10 = (n / 10).toNat by omega, show ((n.toNat % 10 : Nat) : Int) = n % 10 by omega]
      clear hst hs1 hl h hw1 hw2 hw4 hz4 hz
      go_enter Tryz.func89, Tryz.ntmps89
      go_wp2
      go_region_held_law (fun W => Ext w W) (repeat' first | exact Ext.refl _ | exact hE5 | refine Ext.drew ?_ | refine Ext.alloc ?_ _) (first | (go_at_call 89; refine ((unhide ih) _).mono ?_; rintro e w1 ⟨rfl, hE⟩; obtain ⟨hr1, _⟩ := hE.rules; have hE5 : Ext w w1 := Ext.trans (by repeat' first | exact Ext.refl _ | refine Ext.drew ?_ | refine Ext.alloc ?_ _) hE; clear hE))
      all_goals
        go_wp2
        go_ret
        refine ⟨ret_str (unhide hfin).symm, ?_⟩
        repeat' first | exact Ext.refl _ | exact hE5 | refine Ext.drew ?_ | refine Ext.alloc ?_ _
set_option maxRecDepth 10000 in
set_option maxHeartbeats 1000000 in
theorem l6Go_any (n c : Int) (h1 : n ≤ 99999999) (w : World) :
    Calls Tryz.prog 61 #[.int .i64 n, .string (toBA [c])] w fun e w' => e = .returned (.string (toBA (goL n c))) ∧ Ext w w' := by
  by_cases h0 : n ≤ 0
  · have hfin : Hid (toBA (goL n c) = { data := #[] }) := by refine hide ?_; rw [goL, if_pos h0]; rfl
    go_enter Tryz.func61, Tryz.ntmps61
    go_wp2
    go_ret
    exact ⟨ret_str (unhide hfin).symm, Ext.refl _⟩
  · have hcon := hide (l6Dec_any n.toNat n (Nat.le_refl _) (by omega) h1 w)
    have hl := dg_short 8 n.toNat (by omega)
    have e1 : ({ data := #[27, 91] } : ByteArray) = toBA [27, 91] := rfl
    have hs1 : (toBA [27, 91]).size + (toBA (dg n.toNat)).size ≤ 9223372036854775807 := by rw [toBA_size, toBA_size]; simp; omega
    have hadd := fun W => run_string_add_sum (P := Tryz.prog) W _ _ hs1
    obtain ⟨L1, hL1⟩ : ∃ L1, L1 = [27, 91] ++ dg n.toNat := ⟨_, rfl⟩
    have hs2 : (toBA L1).size + (toBA [c]).size ≤ 9223372036854775807 := by rw [toBA_size, toBA_size, hL1]; simp; omega
    have hadd2 := fun W => run_string_add_sum (P := Tryz.prog) W _ _ hs2
    rw [toBA_app, ← e1, ← hL1] at hadd
    rw [toBA_app] at hadd2
    have hfin : Hid (toBA (goL n c) = toBA (L1 ++ [c])) := by refine hide ?_; rw [goL, if_neg h0, hL1]; rfl
    clear hs1 hs2 hl e1 hL1
    go_enter Tryz.func61, Tryz.ntmps61
    go_wp2_with fail
    refine (unhide hcon).mono ?_
    rintro e w1 ⟨rfl, E1⟩
    go_wp2
    go_ret
    exact ⟨ret_str (unhide hfin).symm, E1⟩
end Go.Proofs.YtgdadidppelgdaaGreatDoor

namespace Go.Proofs.YtgdadidppelgdaaGreatDoor
open Go.RowKit

/-- A row of bytes that reads so, in a block from base on. -/
def RB (w : World) (base : Nat) (v : Value) (L : List Int) : Prop := IntsAt w .u8 v L ∧ ∀ g, v.ownBlock = some g → base ≤ g ∧ g < w.heap.size
theorem RB.of_owns {w : World} {base : Nat} {v : Value} {L : List Int} (h : w.ownsRow base 5 1 v L.length (L.map (Value.int .u8))) : RB w base v L := ⟨ints_of_owns h, h.lt⟩
theorem RB.ext {w w' : World} {base : Nat} {v : Value} {L : List Int} (h : RB w base v L) (he : Ext w w') : RB w' base v L := ⟨h.1.ext he, fun g hg => ⟨(h.2 g hg).1, Nat.lt_of_lt_of_le (h.2 g hg).2 he.size⟩⟩
theorem RB.fr {S : Nat → Prop} {w w' : World} {base : Nat} {v : Value} {L : List Int} (h : RB w base v L) (hf : Fr S w w') (hS : ∀ g, v.ownBlock = some g → ¬ S g) : RB w' base v L := by
  refine ⟨?_, fun g hg => ⟨(h.2 g hg).1, Nat.lt_of_lt_of_le (h.2 g hg).2 hf.size⟩⟩
  obtain ⟨⟨ao, cap, rfl, hc, hx⟩, hl⟩ := h
  refine ⟨ao, cap, rfl, hc, fun hp => ?_⟩
  obtain ⟨b, off, rfl, hcell⟩ := hx hp
  refine ⟨b, off, rfl, fun j hj => ?_⟩
  rw [cell_same (hf.block b (hl b rfl).2 (hS b rfl))]
  exact hcell j hj
end Go.Proofs.YtgdadidppelgdaaGreatDoor

namespace Go.Proofs.YtgdadidppelgdaaGreatDoor
open Go.RowKit

theorem heap_cell' {W : World} {p : Nat} {cs : Array Value} {T : TypeId} {fz : Nat × Nat} (h : W.heap[p]? = some (.cells cs T fz)) (i : Nat) (x : Value) (hx : cs[i]? = some x) : W.cell? ⟨p, i, none⟩ = some x := by simp [World.cell?, h, hx]
theorem WF.keep' {B ob : Nat} {W W' : World} {p : Nat} {cs : Array Value} {T : TypeId} {fz : Nat × Nat} (h : WF B ob W W') (hp : W.heap[p]? = some (.cells cs T fz)) (hne : ob ≠ p) (hT : T ≠ 5) : W'.heap[p]? = some (.cells cs T fz) :=
  h.2 _ _ hp (fun e => hne (Option.some.inj e).symm) (fun c f e => by
    injection e with _ e2 _
    exact hT e2)
theorem Ext.keep' {W W' : World} {p : Nat} {o : Obj} (h : Ext W W') (hp : W.heap[p]? = some o) : W'.heap[p]? = some o := (h.heap (Array.getElem?_eq_some_iff.1 hp).1).trans hp
set_option maxRecDepth 10000 in
set_option maxHeartbeats 2000000 in
theorem eraseM_any (v : Value) (row col : Int) (n : Nat) (tx : Nat → ByteArray) (hok : bOk n row col) (B ob qb nb : Nat) (bs : List Int) (w : World) (h : WrS w B ob qb nb bs) (hv : Row1At w v n (fun j => .string (tx j))) (hn : n ≤ 1048576) (hl : bs.length ≤ 1048576) :
    Calls Tryz.prog 84 #[wrV ob qb nb, blV v row col] w fun e w' => e = .returned (.tuple #[]) ∧ WrS w' B ob qb nb (bs ++ eraseL n row col) ∧ WF B ob w w' := by
  have hgl := goL_len row 65 (by unfold bOk at hok; omega)
  have e13 : toBA [13] = { data := #[13] } := rfl
  have eJ : toBA [27, 91, 74] = { data := #[27, 91, 74] } := rfl
  have hc1 := hide (fun W (hW : WrS W B ob qb nb bs) => text_any [13] (by intro x hx; simp at hx; omega) B ob qb nb bs W hW (by simp; omega))
  have hc2 := hide (fun W (hW : WrS W B ob qb nb (bs ++ [13])) => up_any row (by unfold bOk at hok; omega) B ob qb nb (bs ++ [13]) W hW (by simp; omega))
  have hc3 := hide (fun W (hW : WrS W B ob qb nb (bs ++ [13] ++ goL row 65)) => text_any [27, 91, 74] (by intro x hx; simp at hx; omega) B ob qb nb (bs ++ [13] ++ goL row 65) W hW (by simp; omega))
  rw [e13] at hc1
  rw [eJ] at hc3
  obtain ⟨ao, cap, rfl, _, _⟩ := hv
  have HS := hide h
  have hob : ob < w.heap.size := Nat.lt_of_lt_of_le h.ltb h.le
  have hbx := wbox_new w ob qb nb (.slice ao n cap) row col
  have HE := hide (((Ext.refl w).alloc (.cells (wrV ob qb nb).cells 83)).alloc (.cells (blV (.slice ao n cap) row col).cells 61))
  have hp : Hid (bs ++ eraseL n row col = bs ++ [13] ++ goL row 65 ++ [27, 91, 74]) := by refine hide ?_; rw [eraseL, if_pos hok]; simp
  clear h hok e13 eJ
  unfold wrV blV at *
  go_enter Tryz.func84, Tryz.ntmps84
  simp only [Value.cells] at hbx HE
  go_wp2_with fail
  obtain ⟨W2, hW2⟩ : ∃ W, W = ((w.alloc (Obj.cells #[Value.func (Fn.func 129) #[] #[.pointer (some ⟨ob, 0, none⟩)], .func (.func 130) #[] #[.pointer (some ⟨nb, 0, none⟩)], .func (.func 131) #[] #[.pointer (some ⟨nb, 0, none⟩)], .func (.func 132) #[] #[.pointer (some ⟨qb, 0, none⟩)], .func (.func 133) #[] #[.pointer (some ⟨ob, 0, none⟩)]] 83)).alloc (Obj.cells #[.slice ao n cap, .int .i64 row, .int .i64 col] 61)) := ⟨_, rfl⟩
  rw [← hW2] at hbx HE ⊢
  clear hW2
  refine ((unhide hc1) _ ((unhide HS).on (unhide HE))).mono ?_
  rintro e w4 ⟨rfl, hS4, hF4⟩
  have HS4 := hide hS4
  have HF4 := hide ((WF.of_ext (unhide HE)).tr hF4)
  have hb4 := hbx.wf hF4 hob
  have HB4 := hide hb4
  obtain ⟨⟨a04, a14, a24, a34⟩, b04, b14, b24⟩ := hb4.cells
  clear hS4 hF4 hb4 hbx
  go_wp2_with fail
  refine ((unhide hc2) _ (unhide HS4)).mono ?_
  rintro e w5 ⟨rfl, hS5, hF5⟩
  have HS5 := hide hS5
  have HF5 := hide ((unhide HF4).tr hF5)
  have hb5 := (unhide HB4).wf hF5 hob
  obtain ⟨⟨a05, a15, a25, a35⟩, b05, b15, b25⟩ := hb5.cells
  clear hS5 hF5 hb5
  go_wp2_with fail
  refine ((unhide hc3) _ (unhide HS5)).mono ?_
  rintro e w6 ⟨rfl, hS6, hF6⟩
  have HS6 := hide hS6
  have HF6 := hide ((unhide HF5).tr hF6)
  clear hS6 hF6
  go_wp2
  exact bodyPost_end (v := .tuple #[]) (by simp [results, Tryz.results84, go_sem]) rfl ⟨rfl, by rw [unhide hp]; exact unhide HS6, unhide HF6⟩
set_option maxRecDepth 10000 in
set_option maxHeartbeats 2000000 in
theorem specErase_any (v : Value) (row col : Int) (n : Nat) (tx : Nat → ByteArray) (w : World) (hv : Row1At w v n (fun j => .string (tx j))) (hn : n ≤ 1048576) :
    Calls Tryz.prog 49 #[blV v row col] w fun e w' => ∃ u, e = .returned u ∧ RB w' w.heap.size u (eraseL n row col) ∧ Ext w w' := by
  have hcon := hide (fun W (hW : Ext w W) => l6Ok_any v row col n tx W (hv.ext hW))
  obtain ⟨ao, cap, rfl, _, _⟩ := hv
  unfold blV at *
  go_enter Tryz.func49, Tryz.ntmps49
  go_wp2_with fail
  refine ((unhide hcon) _ ((Ext.refl _).alloc _)).mono ?_
  rintro e w1 ⟨rfl, F1⟩
  have hb1 := F1.keep' (alloc_new w (.cells #[.slice ao n cap, .int .i64 row, .int .i64 col] 61))
  have E1 : Ext w w1 := ((Ext.refl w).alloc _).trans F1
  have hz1 := E1.size
  have q1 := heap_cell' hb1 1 _ rfl
  clear F1 hb1
  by_cases hok : bOk n row col
  · rw [bOk_t hok]
    have hgl := goL_len row 65 (by unfold bOk at hok; omega)
    have hcA := hide (fun W => l6Go_any row 65 (by unfold bOk at hok; omega) W)
    have e65 : toBA [65] = { data := #[65] } := rfl
    rw [e65] at hcA
    have e13 : ({ data := #[13] } : ByteArray) = toBA [13] := rfl
    have eJ : ({ data := #[27, 91, 74] } : ByteArray) = toBA [27, 91, 74] := rfl
    have hs1 : (toBA [13]).size + (toBA (goL row 65)).size ≤ 9223372036854775807 := by rw [toBA_size, toBA_size]; simp; omega
    have hadd := fun W => run_string_add_sum (P := Tryz.prog) W _ _ hs1
    obtain ⟨L1, hL1⟩ : ∃ L1, L1 = [13] ++ goL row 65 := ⟨_, rfl⟩
    have hs2 : (toBA L1).size + (toBA [27, 91, 74]).size ≤ 9223372036854775807 := by rw [toBA_size, toBA_size, hL1]; simp; omega
    have hadd2 := fun W => run_string_add_sum (P := Tryz.prog) W _ _ hs2
    rw [toBA_app, ← e13, ← hL1] at hadd
    rw [toBA_app, ← eJ] at hadd2
    obtain ⟨L, hL⟩ : ∃ L, L = L1 ++ [27, 91, 74] := ⟨_, rfl⟩
    rw [← hL] at hadd2
    have hfin : Hid (eraseL n row col = L) := by refine hide ?_; rw [eraseL, if_pos hok, hL, hL1]; simp
    have hLb : Bytes L := by rw [← unhide hfin]; exact eraseL_bytes n row col
    have hlp : Hid (0 < L.length) := by refine hide ?_; rw [hL]; simp
    clear hs1 hs2 e65 e13 eJ hL hL1 hok hgl
    go_wp2_with fail
    refine ((unhide hcA) _).mono ?_
    rintro e w2 ⟨rfl, F2⟩
    obtain ⟨cap4, w4, hrun, hcells, E4⟩ := s2i w2 (toBA L)
    rw [baL_toBA hLb] at hcells
    rw [toBA_size] at hrun
    have HC := hide hcells
    have HE := hide (E1.trans (F2.trans E4))
    have hz2 := F2.size
    have hz4 : Hid (0 < L.length → w2.heap.size < w4.heap.size) := hide (fun hp => by
      have := hcells 0 (.int .u8 (at0 L 0)) (by simp [at0_lt hp])
      rw [Addr.add_lit] at this
      exact lt_of_cell this)
    have hcap : Hid (L.length ≤ cap4) := by
      have hr := run_bytes_of_string (P := Tryz.prog) w2 9 25 5 (toBA L) Tryz.underlying9 Tryz.underlying25 Tryz.underlying5
      rw [hrun] at hr
      injection hr with h6 _
      injection h6 with _ _ h10
      refine hide ?_
      rw [h10, toBA_size]
      exact grownCap_ge w2 L.length 0 _
    clear hcells E4 F2
    go_wp2
    go_ret
    rw [unhide hfin]
    refine ⟨_, rfl, ⟨⟨_, _, rfl, unhide hcap, fun _ => ⟨_, _, rfl, fun j hj => ?_⟩⟩, fun g hg => ?_⟩, unhide HE⟩
    · have := (unhide HC) j (.int .u8 (at0 L j)) (by simp [at0_lt hj])
      rw [Addr.add_lit] at this
      exact this
    · simp [Value.ownBlock] at hg
      have := (unhide hz4) (unhide hlp)
      omega
  · have hp : Hid (eraseL n row col = []) := by refine hide ?_; rw [eraseL, if_neg hok]
    rw [bOk_f hok]
    go_wp2
    go_ret
    rw [unhide hp]
    refine ⟨_, rfl, ⟨⟨_, _, rfl, Nat.le_refl _, fun h => by simp at h⟩, fun g hg => ?_⟩, E1.alloc _⟩
    simp [Value.ownBlock] at hg
    rw [World.size_alloc]
    omega
end Go.Proofs.YtgdadidppelgdaaGreatDoor
