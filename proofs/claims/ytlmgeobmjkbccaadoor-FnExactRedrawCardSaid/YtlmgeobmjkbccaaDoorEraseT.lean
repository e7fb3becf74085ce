import Derived.Test.YtlmgeobmjkbccaaDoorWriM
import Derived.Test.YtlmgeobmjkbccaaDoorBOk
import Derived.Test.YtlmgeobmjkbccaaDoorDec
import Derived.Test.YtlmgeobmjkbccaaDoorRBs
namespace Go.Proofs.YtlmgeobmjkbccaaDoor
open Go.RowKit
theorem heap_cell' {W : World} {p : Nat} {cs : Array Value} {T : TypeId} {fz : Nat × Nat} (h : W.heap[p]? = some (.cells cs T fz)) (i : Nat) (x : Value) (hx : cs[i]? = some x) : W.cell? ⟨p, i, none⟩ = some x := by simp [World.cell?, h, hx]
theorem WF.keep' {B ob : Nat} {W W' : World} {p : Nat} {cs : Array Value} {T : TypeId} {fz : Nat × Nat} (h : WF B ob W W') (hp : W.heap[p]? = some (.cells cs T fz)) (hne : ob ≠ p) (hT : T ≠ 5) : W'.heap[p]? = some (.cells cs T fz) :=
  h.2 _ _ hp (fun e => hne (Option.some.inj e).symm) (fun c f e => by
    injection e with _ e2 _
    exact hT e2)
theorem Ext.keep' {W W' : World} {p : Nat} {o : Obj} (h : Ext W W') (hp : W.heap[p]? = some o) : W'.heap[p]? = some o := (h.heap (Array.getElem?_eq_some_iff.1 hp).1).trans hp
set_option maxRecDepth 10000 in
set_option maxHeartbeats 2000000 in
theorem eraseM_any (v : Value) (row col : Int) (n : Nat) (tx : Nat → ByteArray) (hok : bOk n row col) (B ob qb nb : Nat) (bs : List Int) (w : World) (h : WrS w B ob qb nb bs) (hv : Row1At w v n (fun j => .string (tx j))) (hn : n ≤ 1048576) (hl : bs.length ≤ 1073741824) :
    Calls Tryd.prog 22 #[wrV ob qb nb, blV v row col] w fun e w' => e = .returned (.tuple #[]) ∧ WrS w' B ob qb nb (bs ++ eraseL n row col) ∧ WF B ob w w' := by
  have hgl := goL_len row 65 (by unfold bOk at hok; omega)
  have e13 : toBA [13] = { data := #[13] } := rfl
  have eJ : toBA [27, 91, 74] = { data := #[27, 91, 74] } := rfl
  have hc1 := hide (fun W (hW : WrS W B ob qb nb bs) => text_any [13] (by intro x hx; simp at hx; omega) B ob qb nb bs W hW (by simp; omega))
  have hc2 := hide (fun W (hW : WrS W B ob qb nb (bs ++ [13])) => up_any row (by unfold bOk at hok; omega) B ob qb nb (bs ++ [13]) W hW (by simp; omega))
  have hc3 := hide (fun W (hW : WrS W B ob qb nb (bs ++ [13] ++ goL row 65)) => text_any [27, 91, 74] (by intro x hx; simp at hx; omega) B ob qb nb (bs ++ [13] ++ goL row 65) W hW (by simp; omega))
  rw [e13] at hc1
  rw [eJ] at hc3
  obtain ⟨ao, cap, rfl, _, _⟩ := hv
  have HS := hide h
  have hob : ob < w.heap.size := Nat.lt_of_lt_of_le h.ltb h.le
  have hbx := wbox_new w ob qb nb (.slice ao n cap) row col
  have HE := hide (((Ext.refl w).alloc (.cells (wrV ob qb nb).cells 45)).alloc (.cells (blV (.slice ao n cap) row col).cells 28))
  have hp : Hid (bs ++ eraseL n row col = bs ++ [13] ++ goL row 65 ++ [27, 91, 74]) := by refine hide ?_; rw [eraseL, if_pos hok]; simp
  clear h hok e13 eJ
  unfold wrV blV at *
  go_enter Tryd.func22, Tryd.ntmps22
  simp only [Value.cells] at hbx HE
  go_wp2_with fail
  obtain ⟨W2, hW2⟩ : ∃ W, W = ((w.alloc (Obj.cells #[Value.func (Fn.func 32) #[] #[.pointer (some ⟨ob, 0, none⟩)], .func (.func 33) #[] #[.pointer (some ⟨nb, 0, none⟩)], .func (.func 34) #[] #[.pointer (some ⟨nb, 0, none⟩)], .func (.func 35) #[] #[.pointer (some ⟨qb, 0, none⟩)], .func (.func 36) #[] #[.pointer (some ⟨ob, 0, none⟩)]] 45)).alloc (Obj.cells #[.slice ao n cap, .int .i64 row, .int .i64 col] 28)) := ⟨_, rfl⟩
  rw [← hW2] at hbx HE ⊢
  clear hW2
  refine ((unhide hc1) _ ((unhide HS).on (unhide HE))).mono ?_
  rintro e w4 ⟨rfl, hS4, hF4⟩
  have HS4 := hide hS4
  have HF4 := hide ((WF.of_ext (unhide HE)).tr hF4)
  have hb4 := hbx.wf hF4 hob
  have HB4 := hide hb4
  obtain ⟨⟨a04, a14, a24, a34⟩, b04, b14, b24⟩ := hb4.cells
  clear hS4 hF4 hb4 hbx
  go_wp2_with fail
  refine ((unhide hc2) _ (unhide HS4)).mono ?_
  rintro e w5 ⟨rfl, hS5, hF5⟩
  have HS5 := hide hS5
  have HF5 := hide ((unhide HF4).tr hF5)
  have hb5 := (unhide HB4).wf hF5 hob
  obtain ⟨⟨a05, a15, a25, a35⟩, b05, b15, b25⟩ := hb5.cells
  clear hS5 hF5 hb5
  go_wp2_with fail
  refine ((unhide hc3) _ (unhide HS5)).mono ?_
  rintro e w6 ⟨rfl, hS6, hF6⟩
  have HS6 := hide hS6
  have HF6 := hide ((unhide HF5).tr hF6)
  clear hS6 hF6
  go_wp2
  exact bodyPost_end (v := .tuple #[]) (by simp [results, Tryd.results22, go_sem]) rfl ⟨rfl, by rw [unhide hp]; exact unhide HS6, unhide HF6⟩
end Go.Proofs.YtlmgeobmjkbccaaDoor
