import Derived.Test.YtjfnieodpdklfaaGreatDoorWri
import Derived.Test.YtjfnieodpdklfaaGreatDoorWriM
import Derived.Test.YtjfnieodpdklfaaGreatDoorBOk
import Derived.Test.YtjfnieodpdklfaaGreatDoorDec
namespace Go.Proofs.YtjfnieodpdklfaaGreatDoor
open Go.RowKit

/-- A row of bytes that reads so, in a block from base on. -/
def RB (w : World) (base : Nat) (v : Value) (L : List Int) : Prop := IntsAt w .u8 v L ∧ ∀ g, v.ownBlock = some g → base ≤ g ∧ g < w.heap.size
theorem RB.of_owns {w : World} {base : Nat} {v : Value} {L : List Int} (h : w.ownsRow base 5 1 v L.length (L.map (Value.int .u8))) : RB w base v L := ⟨ints_of_owns h, h.lt⟩
theorem RB.ext {w w' : World} {base : Nat} {v : Value} {L : List Int} (h : RB w base v L) (he : Ext w w') : RB w' base v L := ⟨h.1.ext he, fun g hg => ⟨(h.2 g hg).1, Nat.lt_of_lt_of_le (h.2 g hg).2 he.size⟩⟩
theorem RB.fr {S : Nat → Prop} {w w' : World} {base : Nat} {v : Value} {L : List Int} (h : RB w base v L) (hf : Fr S w w') (hS : ∀ g, v.ownBlock = some g → ¬ S g) : RB w' base v L := by
  refine ⟨?_, fun g hg => ⟨(h.2 g hg).1, Nat.lt_of_lt_of_le (h.2 g hg).2 hf.size⟩⟩
  obtain ⟨⟨ao, cap, rfl, hc, hx⟩, hl⟩ := h
  refine ⟨ao, cap, rfl, hc, fun hp => ?_⟩
  obtain ⟨b, off, rfl, hcell⟩ := hx hp
  refine ⟨b, off, rfl, fun j hj => ?_⟩
  rw [cell_same (hf.block b (hl b rfl).2 (hS b rfl))]
  exact hcell j hj
end Go.Proofs.YtjfnieodpdklfaaGreatDoor

namespace Go.Proofs.YtjfnieodpdklfaaGreatDoor
open Go.RowKit

theorem heap_cell' {W : World} {p : Nat} {cs : Array Value} {T : TypeId} {fz : Nat × Nat} (h : W.heap[p]? = some (.cells cs T fz)) (i : Nat) (x : Value) (hx : cs[i]? = some x) : W.cell? ⟨p, i, none⟩ = some x := by simp [World.cell?, h, hx]
theorem WF.keep' {B ob : Nat} {W W' : World} {p : Nat} {cs : Array Value} {T : TypeId} {fz : Nat × Nat} (h : WF B ob W W') (hp : W.heap[p]? = some (.cells cs T fz)) (hne : ob ≠ p) (hT : T ≠ 5) : W'.heap[p]? = some (.cells cs T fz) :=
  h.2 _ _ hp (fun e => hne (Option.some.inj e).symm) (fun c f e => by
    injection e with _ e2 _
    exact hT e2)
theorem Ext.keep' {W W' : World} {p : Nat} {o : Obj} (h : Ext W W') (hp : W.heap[p]? = some o) : W'.heap[p]? = some o := (h.heap (Array.getElem?_eq_some_iff.1 hp).1).trans hp
set_option maxRecDepth 10000 in
set_option maxHeartbeats 2000000 in
theorem eraseM_any (v : Value) (row col : Int) (n : Nat) (tx : Nat → ByteArray) (hok : bOk n row col) (B ob qb nb : Nat) (bs : List Int) (w : World) (h : WrS w B ob qb nb bs) (hv : Row1At w v n (fun j => .string (tx j))) (hn : n ≤ 1048576) (hl : bs.length ≤ 1048576) :
    Calls Tryz.prog 77 #[wrV ob qb nb, blV v row col] w fun e w' => e = .returned (.tuple #[]) ∧ WrS w' B ob qb nb (bs ++ eraseL n row col) ∧ WF B ob w w' := by
  have hgl := goL_len row 65 (by unfold bOk at hok; omega)
  have e13 : toBA [13] = { data := #[13] } := rfl
  have eJ : toBA [27, 91, 74] = { data := #[27, 91, 74] } := rfl
  have hc1 := hide (fun W (hW : WrS W B ob qb nb bs) => text_any [13] (by intro x hx; simp at hx; omega) B ob qb nb bs W hW (by simp; omega))
  have hc2 := hide (fun W (hW : WrS W B ob qb nb (bs ++ [13])) => up_any row (by unfold bOk at hok; omega) B ob qb nb (bs ++ [13]) W hW (by simp; omega))
  have hc3 := hide (fun W (hW : WrS W B ob qb nb (bs ++ [13] ++ goL row 65)) => text_any [27, 91, 74] (by intro x hx; simp at hx; omega) B ob qb nb (bs ++ [13] ++ goL row 65) W hW (by simp; omega))
  rw [e13] at hc1
  rw [eJ] at hc3
  obtain ⟨ao, cap, rfl, _, _⟩ := hv
  have HS := hide h
  have hob : ob < w.heap.size := Nat.lt_of_lt_of_le h.ltb h.le
  have hbx := wbox_new w ob qb nb (.slice ao n cap) row col
  have HE := hide (((Ext.refl w).alloc (.cells (wrV ob qb nb).cells 83)).alloc (.cells (blV (.slice ao n cap) row col).cells 53))
  have hp : Hid (bs ++ eraseL n row col = bs ++ [13] ++ goL row 65 ++ [27, 91, 74]) := by refine hide ?_; rw [eraseL, if_pos hok]; simp
  clear h hok e13 eJ
  unfold wrV blV at *
  go_enter Tryz.func77, Tryz.ntmps77
  simp only [Value.cells] at hbx HE
  go_wp2_with fail
  obtain ⟨W2, hW2⟩ : ∃ W, W = ((w.alloc (Obj.cells #[Value.func (Fn.func 97) #[] #[.pointer (some ⟨ob, 0, none⟩)], .func (.func 98) #[] #[.pointer (some ⟨nb, 0, none⟩)], .func (.func 99) #[] #[.pointer (some ⟨nb, 0, none⟩)], .func (.func 100) #[] #[.pointer (some ⟨qb, 0, none⟩)], .func (.func 101) #[] #[.pointer (some ⟨ob, 0, none⟩)]] 83)).alloc (Obj.cells #[.slice ao n cap, .int .i64 row, .int .i64 col] 53)) := ⟨_, rfl⟩
  rw [← hW2] at hbx HE ⊢
  clear hW2
  refine ((unhide hc1) _ ((unhide HS).on (unhide HE))).mono ?_
  rintro e w4 ⟨rfl, hS4, hF4⟩
  have HS4 := hide hS4
  have HF4 := hide ((WF.of_ext (unhide HE)).tr hF4)
  have hb4 := hbx.wf hF4 hob
  have HB4 := hide hb4
  obtain ⟨⟨a04, a14, a24, a34⟩, b04, b14, b24⟩ := hb4.cells
  clear hS4 hF4 hb4 hbx
  go_wp2_with fail
  refine ((unhide hc2) _ (unhide HS4)).mono ?_
  rintro e w5 ⟨rfl, hS5, hF5⟩
  have HS5 := hide hS5
  have HF5 := hide ((unhide HF4).tr hF5)
  have hb5 := (unhide HB4).wf hF5 hob
  obtain ⟨⟨a05, a15, a25, a35⟩, b05, b15, b25⟩ := hb5.cells
  clear hS5 hF5 hb5
  go_wp2_with fail
  refine ((unhide hc3) _ (unhide HS5)).mono ?_
  rintro e w6 ⟨rfl, hS6, hF6⟩
  have HS6 := hide hS6
  have HF6 := hide ((unhide HF5).tr hF6)
  clear hS6 hF6
  go_wp2
  exact bodyPost_end (v := .tuple #[]) (by simp [results, Tryz.results77, go_sem]) rfl ⟨rfl, by rw [unhide hp]; exact unhide HS6, unhide HF6⟩
set_option maxRecDepth 10000 in
set_option maxHeartbeats 2000000 in
theorem specErase_any (v : Value) (row col : Int) (n : Nat) (tx : Nat → ByteArray) (w : World) (hv : Row1At w v n (fun j => .string (tx j))) (hn : n ≤ 1048576) :
    Calls Tryz.prog 36 #[blV v row col] w fun e w' => ∃ u, e = .returned u ∧ RB w' w.heap.size u (eraseL n row col) ∧ Ext w w' := by
  have hcon := hide (fun W (hW : Ext w W) => l6Ok_any v row col n tx W (hv.ext hW))
  obtain ⟨ao, cap, rfl, _, _⟩ := hv
  unfold blV at *
  go_enter Tryz.func36, Tryz.ntmps36
  go_wp2_with fail
  refine ((unhide hcon) _ ((Ext.refl _).alloc _)).mono ?_
  rintro e w1 ⟨rfl, F1⟩
  have hb1 := F1.keep' (alloc_new w (.cells #[.slice ao n cap, .int .i64 row, .int .i64 col] 53))
  have E1 : Ext w w1 := ((Ext.refl w).alloc _).trans F1
  have hz1 := E1.size
  have q1 := heap_cell' hb1 1 _ rfl
  clear F1 hb1
  by_cases hok : bOk n row col
  · rw [bOk_t hok]
    have hgl := goL_len row 65 (by unfold bOk at hok; omega)
    have hcA := hide (fun W => l6Go_any row 65 (by unfold bOk at hok; omega) W)
    have e65 : toBA [65] = { data := #[65] } := rfl
    rw [e65] at hcA
    have e13 : ({ data := #[13] } : ByteArray) = toBA [13] := rfl
    have eJ : ({ data := #[27, 91, 74] } : ByteArray) = toBA [27, 91, 74] := rfl
    have hs1 : (toBA [13]).size + (toBA (goL row 65)).size ≤ 9223372036854775807 := by rw [toBA_size, toBA_size]; simp; omega
    have hadd := fun W => run_string_add_sum (P := Tryz.prog) W _ _ hs1
    obtain ⟨L1, hL1⟩ : ∃ L1, L1 = [13] ++ goL row 65 := ⟨_, rfl⟩
    have hs2 : (toBA L1).size + (toBA [27, 91, 74]).size ≤ 9223372036854775807 := by rw [toBA_size, toBA_size, hL1]; simp; omega
    have hadd2 := fun W => run_string_add_sum (P := Tryz.prog) W _ _ hs2
    rw [toBA_app, ← e13, ← hL1] at hadd
    rw [toBA_app, ← eJ] at hadd2
    obtain ⟨L, hL⟩ : ∃ L, L = L1 ++ [27, 91, 74] := ⟨_, rfl⟩
    rw [← hL] at hadd2
    have hfin : Hid (eraseL n row col = L) := by refine hide ?_; rw [eraseL, if_pos hok, hL, hL1]; simp
    have hLb : Bytes L := by rw [← unhide hfin]; exact eraseL_bytes n row col
    have hlp : Hid (0 < L.length) := by refine hide ?_; rw [hL]; simp
    clear hs1 hs2 e65 e13 eJ hL hL1 hok hgl
    go_wp2_with fail
    refine ((unhide hcA) _).mono ?_
    rintro e w2 ⟨rfl, F2⟩
    obtain ⟨cap4, w4, hrun, hcells, E4⟩ := s2i w2 (toBA L)
    rw [baL_toBA hLb] at hcells
    rw [toBA_size] at hrun
    have HC := hide hcells
    have HE := hide (E1.trans (F2.trans E4))
    have hz2 := F2.size
    have hz4 : Hid (0 < L.length → w2.heap.size < w4.heap.size) := hide (fun hp => by
      have := hcells 0 (.int .u8 (at0 L 0)) (by simp [at0_lt hp])
      rw [Addr.add_lit] at this
      exact lt_of_cell this)
    have hcap : Hid (L.length ≤ cap4) := by
      have hr := run_bytes_of_string (P := Tryz.prog) w2 9 25 5 (toBA L) Tryz.underlying9 Tryz.underlying25 Tryz.underlying5
      rw [hrun] at hr
      injection hr with h6 _
      injection h6 with _ _ h10
      refine hide ?_
      rw [h10, toBA_size]
      exact grownCap_ge w2 L.length 0 _
    clear hcells E4 F2
    go_wp2
    go_ret
    rw [unhide hfin]
    refine ⟨_, rfl, ⟨⟨_, _, rfl, unhide hcap, fun _ => ⟨_, _, rfl, fun j hj => ?_⟩⟩, fun g hg => ?_⟩, unhide HE⟩
    · have := (unhide HC) j (.int .u8 (at0 L j)) (by simp [at0_lt hj])
      rw [Addr.add_lit] at this
      exact this
    · simp [Value.ownBlock] at hg
      have := (unhide hz4) (unhide hlp)
      omega
  · have hp : Hid (eraseL n row col = []) := by refine hide ?_; rw [eraseL, if_neg hok]
    rw [bOk_f hok]
    go_wp2
    go_ret
    rw [unhide hp]
    refine ⟨_, rfl, ⟨⟨_, _, rfl, Nat.le_refl _, fun h => by simp at h⟩, fun g hg => ?_⟩, E1.alloc _⟩
    simp [Value.ownBlock] at hg
    rw [World.size_alloc]
    omega
end Go.Proofs.YtjfnieodpdklfaaGreatDoor
