import Derived.Test.YtjfnieodpdklfaaGreatDoorWriM
import Derived.Test.YtjfnieodpdklfaaGreatDoorWri
namespace Go.Proofs.YtjfnieodpdklfaaGreatDoor
open Go.RowKit

set_option maxRecDepth 10000 in
set_option maxHeartbeats 2000000 in
theorem paintM_any (v : Value) (row col : Int) (n : Nat) (tx : Nat → ByteArray) (hok : bOk n row col) (B ob qb nb : Nat) (bs : List Int) (w : World) (h : WrS w B ob qb nb bs) (hv : Row1At w v n (fun j => .string (tx j))) (hn : n ≤ 1048576) (hs : slen tx n ≤ 274877906944) (hl : bs.length ≤ 1048576) :
    Calls Tryz.prog 62 #[wrV ob qb nb, blV v row col] w fun e w' => e = .returned (.tuple #[]) ∧ WrS w' B ob qb nb (bs ++ paintL n tx row col) ∧ WF B ob w w' := by
  have hlen := rowsL_len tx n
  have hcon := hide (fun W (hW : Ext w W) => join_any v n tx W (hv.ext hW) hn hs)
  have hcon2 := hide (fun W (hW : WrS W B ob qb nb bs) => text_any (rowsL tx n) (rowsL_bytes tx n) B ob qb nb bs W hW (by omega))
  obtain ⟨ao, cap, rfl, _, _⟩ := hv
  have HS := hide h
  have hob : ob < w.heap.size := Nat.lt_of_lt_of_le h.ltb h.le
  have hbx := wbox_new w ob qb nb (.slice ao n cap) row col
  have HE := hide (((Ext.refl w).alloc (.cells (wrV ob qb nb).cells 83)).alloc (.cells (blV (.slice ao n cap) row col).cells 53))
  have hp : Hid (bs ++ paintL n tx row col = bs ++ rowsL tx n ++ goL ((n : Int) - 1 - row) 65 ++ goL (col + 1) 71) := by refine hide ?_; rw [paintL, if_pos hok]; simp
  unfold bOk at hok
  clear h
  unfold wrV blV at *
  go_enter Tryz.func62, Tryz.ntmps62
  go_wp2
  simp only [Value.cells] at hbx HE
  obtain ⟨W2, hW2⟩ : ∃ W, W = ((w.alloc (Obj.cells #[Value.func (Fn.func 97) #[] #[.pointer (some ⟨ob, 0, none⟩)], .func (.func 98) #[] #[.pointer (some ⟨nb, 0, none⟩)], .func (.func 99) #[] #[.pointer (some ⟨nb, 0, none⟩)], .func (.func 100) #[] #[.pointer (some ⟨qb, 0, none⟩)], .func (.func 101) #[] #[.pointer (some ⟨ob, 0, none⟩)]] 83)).alloc (Obj.cells #[.slice ao n cap, .int .i64 row, .int .i64 col] 53)) := ⟨_, rfl⟩
  rw [← hW2] at hbx HE ⊢
  clear hW2
  have HB := hide hbx
  obtain ⟨⟨a0, a1, a2, a3⟩, b0, b1, b2⟩ := hbx.cells
  clear hbx
  go_region_law (first | (go_simp; go_at_call 102; refine ((unhide hcon) _ (unhide HE).drew).mono ?_; rintro e w3 ⟨rfl, hE3⟩; have hE4 := (unhide HE).drew.trans hE3; have HE4 := hide hE4; have hb3 := (unhide HB).ext ((Ext.refl W2).drew.trans hE3); have HB3 := hide hb3; obtain ⟨⟨a03, a13, a23, a33⟩, b03, b13, b23⟩ := hb3.cells; clear hE3 hE4 hb3) | (go_simp; go_at_call 97; refine ((unhide hcon2) _ ((unhide HS).on (unhide HE4))).mono ?_; rintro e w4 ⟨rfl, hS4, hF4⟩; have HS4 := hide hS4; have HF4 := hide ((WF.of_ext (unhide HE4)).tr hF4); have hb4 := (unhide HB3).wf hF4 hob; have HB4 := hide hb4; obtain ⟨⟨a04, a14, a24, a34⟩, b04, b14, b24⟩ := hb4.cells; clear hS4 hF4 hb4))
  all_goals
    have hgl := goL_len ((n : Int) - 1 - row) 65 (by omega)
    have hcon3 := hide (up_any ((n : Int) - 1 - row) (by omega) B ob qb nb _ w4 (unhide HS4) (by rw [List.length_append]; omega))
    go_wp2_with fail
    refine (unhide hcon3).mono ?_
    rintro e w5 ⟨rfl, hS5, hF5⟩
    have HS5 := hide hS5
    have HF5 := hide ((unhide HF4).tr hF5)
    have hb5 := (unhide HB4).wf hF5 hob
    obtain ⟨⟨a05, a15, a25, a35⟩, b05, b15, b25⟩ := hb5.cells
    clear hS5 hF5 hb5
    have hcon4 := hide (column_any col (by omega) (by omega) B ob qb nb _ w5 (unhide HS5) (by simp only [List.length_append]; omega))
    go_wp2_with fail
    refine (unhide hcon4).mono ?_
    rintro e w6 ⟨rfl, hS6, hF6⟩
    have HS6 := hide hS6
    have HF6 := hide ((unhide HF5).tr hF6)
    clear hS6 hF6
    go_wp2
    exact bodyPost_end (v := .tuple #[]) (by simp [results, Tryz.results62, go_sem]) rfl ⟨rfl, by rw [unhide hp]; exact unhide HS6, unhide HF6⟩
end Go.Proofs.YtjfnieodpdklfaaGreatDoor

namespace Go.Proofs.YtjfnieodpdklfaaGreatDoor
open Go.RowKit

set_option maxRecDepth 10000 in
set_option maxHeartbeats 1000000 in
theorem blockOk_any (v : Value) (row col : Int) (n : Nat) (tx : Nat → ByteArray) (w : World) (hv : Row1At w v n (fun j => .string (tx j))) :
    Calls Tryz.prog 61 #[blV v row col] w fun e w' => e = .returned (.bool (@decide (bOk n row col) (bOkD n row col))) ∧ Ext w w' := by
  obtain ⟨ao, cap, rfl, _, _⟩ := hv
  unfold blV
  by_cases h1 : 0 ≤ row
  · by_cases h2 : row < (n : Int)
    · by_cases h3 : 0 ≤ col
      · by_cases h4 : col < 200
        · have hb : Hid (@decide (bOk n row col) (bOkD n row col) = true) := @decide_eq_true _ (bOkD n row col) ⟨h1, h2, h3, h4⟩
          go_enter Tryz.func61, Tryz.ntmps61
          go_wp2
          go_ret
          exact ⟨ret_bool (unhide hb).symm, (Ext.refl _).alloc _⟩
        · have hb : Hid (@decide (bOk n row col) (bOkD n row col) = false) := @decide_eq_false _ (bOkD n row col) (fun e => h4 e.2.2.2)
          go_enter Tryz.func61, Tryz.ntmps61
          go_wp2
          go_ret
          exact ⟨ret_bool (unhide hb).symm, (Ext.refl _).alloc _⟩
      · have hb : Hid (@decide (bOk n row col) (bOkD n row col) = false) := @decide_eq_false _ (bOkD n row col) (fun e => h3 e.2.2.1)
        go_enter Tryz.func61, Tryz.ntmps61
        go_wp2
        go_ret
        exact ⟨ret_bool (unhide hb).symm, (Ext.refl _).alloc _⟩
    · have hb : Hid (@decide (bOk n row col) (bOkD n row col) = false) := @decide_eq_false _ (bOkD n row col) (fun e => h2 e.2.1)
      go_enter Tryz.func61, Tryz.ntmps61
      go_wp2
      go_ret
      exact ⟨ret_bool (unhide hb).symm, (Ext.refl _).alloc _⟩
  · have hb : Hid (@decide (bOk n row col) (bOkD n row col) = false) := @decide_eq_false _ (bOkD n row col) (fun e => h1 e.1)
    go_enter Tryz.func61, Tryz.ntmps61
    go_wp2
    go_ret
    exact ⟨ret_bool (unhide hb).symm, (Ext.refl _).alloc _⟩
set_option maxRecDepth 10000 in
set_option maxHeartbeats 1000000 in
theorem l6Ok_any (v : Value) (row col : Int) (n : Nat) (tx : Nat → ByteArray) (w : World) (hv : Row1At w v n (fun j => .string (tx j))) :
    Calls Tryz.prog 50 #[blV v row col] w fun e w' => e = .returned (.bool (@decide (bOk n row col) (bOkD n row col))) ∧ Ext w w' := by
  obtain ⟨ao, cap, rfl, _, _⟩ := hv
  unfold blV
  by_cases h1 : 0 ≤ row
  · by_cases h2 : row < (n : Int)
    · by_cases h3 : 0 ≤ col
      · by_cases h4 : col < 200
        · have hb : Hid (@decide (bOk n row col) (bOkD n row col) = true) := @decide_eq_true _ (bOkD n row col) ⟨h1, h2, h3, h4⟩
          go_enter Tryz.func50, Tryz.ntmps50
          go_wp2
          go_ret
          exact ⟨ret_bool (unhide hb).symm, (Ext.refl _).alloc _⟩
        · have hb : Hid (@decide (bOk n row col) (bOkD n row col) = false) := @decide_eq_false _ (bOkD n row col) (fun e => h4 e.2.2.2)
          go_enter Tryz.func50, Tryz.ntmps50
          go_wp2
          go_ret
          exact ⟨ret_bool (unhide hb).symm, (Ext.refl _).alloc _⟩
      · have hb : Hid (@decide (bOk n row col) (bOkD n row col) = false) := @decide_eq_false _ (bOkD n row col) (fun e => h3 e.2.2.1)
        go_enter Tryz.func50, Tryz.ntmps50
        go_wp2
        go_ret
        exact ⟨ret_bool (unhide hb).symm, (Ext.refl _).alloc _⟩
    · have hb : Hid (@decide (bOk n row col) (bOkD n row col) = false) := @decide_eq_false _ (bOkD n row col) (fun e => h2 e.2.1)
      go_enter Tryz.func50, Tryz.ntmps50
      go_wp2
      go_ret
      exact ⟨ret_bool (unhide hb).symm, (Ext.refl _).alloc _⟩
  · have hb : Hid (@decide (bOk n row col) (bOkD n row col) = false) := @decide_eq_false _ (bOkD n row col) (fun e => h1 e.1)
    go_enter Tryz.func50, Tryz.ntmps50
    go_wp2
    go_ret
    exact ⟨ret_bool (unhide hb).symm, (Ext.refl _).alloc _⟩
end Go.Proofs.YtjfnieodpdklfaaGreatDoor
