import Derived.Test.YtlmgeobmjkbccaaDoorWri
namespace Go.Proofs.YtlmgeobmjkbccaaDoor
open Go.RowKit
set_option maxRecDepth 10000 in
set_option maxHeartbeats 1000000 in
theorem any_any (n c : Int) (h1 : n ≤ 99999999) (B ob qb nb : Nat) (bs : List Int) (w : World) (h : WrS w B ob qb nb bs) (hl : bs.length ≤ 1099511627776) :
    Calls Tryd.prog 31 #[.int .i64 n, .int .u8 c, .pointer (some ⟨qb, 0, none⟩)] w fun e w' => e = .returned (.tuple #[]) ∧ WrS w' B ob qb nb (bs ++ goL n c) ∧ WF B ob w w' := by
  have HS := hide h
  have hq := h.q
  unfold seqF at hq
  clear h
  by_cases h0 : 0 < n
  · have hcon := hide (seq_any n c h0 h1 B ob qb nb bs w (unhide HS) hl)
    go_enter Tryd.func31, Tryd.ntmps31
    go_wp2_with fail
    refine (unhide hcon).mono ?_
    rintro e w1 ⟨rfl, h1, h2⟩
    have H1 := hide h1
    have H2 := hide h2
    clear h1 h2
    go_wp2
    exact bodyPost_end (v := .tuple #[]) (by simp [results, Tryd.results31, go_sem]) rfl ⟨rfl, unhide H1, unhide H2⟩
  · have hg : Hid (bs ++ goL n c = bs) := by refine hide ?_; rw [goL, if_pos (by omega)]; simp
    go_enter Tryd.func31, Tryd.ntmps31
    go_wp2
    exact bodyPost_end (v := .tuple #[]) (by simp [results, Tryd.results31, go_sem]) rfl ⟨rfl, by rw [unhide hg]; exact unhide HS, WF.refl _ _ _⟩
set_option maxRecDepth 10000 in
set_option maxHeartbeats 1000000 in
theorem up_any (n : Int) (h1 : n ≤ 99999999) (B ob qb nb : Nat) (bs : List Int) (w : World) (h : WrS w B ob qb nb bs) (hl : bs.length ≤ 1099511627776) :
    Calls Tryd.prog 33 #[.int .i64 n, .pointer (some ⟨nb, 0, none⟩)] w fun e w' => e = .returned (.tuple #[]) ∧ WrS w' B ob qb nb (bs ++ goL n 65) ∧ WF B ob w w' := by
  have hcon := hide (any_any n 65 h1 B ob qb nb bs w h hl)
  have hq := h.nn
  unfold anyF at hq
  clear h
  go_enter Tryd.func33, Tryd.ntmps33
  go_wp2_with fail
  refine (unhide hcon).mono ?_
  rintro e w1 ⟨rfl, h1, h2⟩
  have H1 := hide h1
  have H2 := hide h2
  clear h1 h2
  go_wp2
  exact bodyPost_end (v := .tuple #[]) (by simp [results, Tryd.results33, go_sem]) rfl ⟨rfl, unhide H1, unhide H2⟩
set_option maxRecDepth 10000 in
set_option maxHeartbeats 1000000 in
theorem down_any (n : Int) (h1 : n ≤ 99999999) (B ob qb nb : Nat) (bs : List Int) (w : World) (h : WrS w B ob qb nb bs) (hl : bs.length ≤ 1099511627776) :
    Calls Tryd.prog 34 #[.int .i64 n, .pointer (some ⟨nb, 0, none⟩)] w fun e w' => e = .returned (.tuple #[]) ∧ WrS w' B ob qb nb (bs ++ goL n 66) ∧ WF B ob w w' := by
  have hcon := hide (any_any n 66 h1 B ob qb nb bs w h hl)
  have hq := h.nn
  unfold anyF at hq
  clear h
  go_enter Tryd.func34, Tryd.ntmps34
  go_wp2_with fail
  refine (unhide hcon).mono ?_
  rintro e w1 ⟨rfl, h1, h2⟩
  have H1 := hide h1
  have H2 := hide h2
  clear h1 h2
  go_wp2
  exact bodyPost_end (v := .tuple #[]) (by simp [results, Tryd.results34, go_sem]) rfl ⟨rfl, unhide H1, unhide H2⟩
set_option maxRecDepth 10000 in
set_option maxHeartbeats 1000000 in
theorem column_any (n : Int) (h0 : 0 ≤ n) (h1 : n ≤ 9999999) (B ob qb nb : Nat) (bs : List Int) (w : World) (h : WrS w B ob qb nb bs) (hl : bs.length ≤ 1099511627776) :
    Calls Tryd.prog 35 #[.int .i64 n, .pointer (some ⟨qb, 0, none⟩)] w fun e w' => e = .returned (.tuple #[]) ∧ WrS w' B ob qb nb (bs ++ goL (n + 1) 71) ∧ WF B ob w w' := by
  have hcon := hide (seq_any (n + 1) 71 (by omega) (by omega) B ob qb nb bs w h hl)
  have hq := h.q
  unfold seqF at hq
  clear h
  go_enter Tryd.func35, Tryd.ntmps35
  go_wp2_with fail
  refine (unhide hcon).mono ?_
  rintro e w1 ⟨rfl, h1, h2⟩
  have H1 := hide h1
  have H2 := hide h2
  clear h1 h2
  go_wp2
  exact bodyPost_end (v := .tuple #[]) (by simp [results, Tryd.results35, go_sem]) rfl ⟨rfl, unhide H1, unhide H2⟩
set_option maxRecDepth 10000 in
set_option maxHeartbeats 1000000 in
theorem written_any (B ob qb nb : Nat) (bs : List Int) (w : World) (h : WrS w B ob qb nb bs) :
    Calls Tryd.prog 36 #[.pointer (some ⟨ob, 0, none⟩)] w fun e w' => ∃ v, e = .returned v ∧ w.ownsRow B 5 1 v bs.length (bs.map (Value.int .u8)) ∧ w' = w := by
  obtain ⟨v, hc, ho⟩ := h.out
  obtain ⟨ao, cap, hv, _⟩ := id (ints_of_owns ho)
  subst hv
  have HO := hide ho
  clear ho h
  go_enter Tryd.func36, Tryd.ntmps36
  go_wp2
  go_ret
  exact ⟨_, rfl, unhide HO, rfl⟩
theorem map_back (l : List UInt8) : l.map ((fun n : Int => UInt8.ofNat n.toNat) ∘ fun b => ((b.toNat : Nat) : Int)) = l := by
  induction l with
  | nil => rfl
  | cons b l ih => rw [List.map_cons, ih]; simp
theorem join_any (v : Value) (n : Nat) (tx : Nat → ByteArray) (w : World) (hv : Row1At w v n (fun j => .string (tx j))) (hn : n ≤ 1048576) (hs : slen tx n ≤ 274877906944) :
    Calls Tryd.prog 41 #[v, .string ⟨#[13, 10]⟩] w fun e w' => e = .returned (.string (toBA (rowsL tx n))) ∧ Ext w w' := by
  have hj := join_rows tx n
  have hL : (Lib.join (((List.range n).map tx).map (fun x => x.data.toList)) [13, 10]).length = (rowsL tx n).length := by rw [← hj]; simp
  have hlen := rowsL_len tx n
  have hret : toBA (rowsL tx n) = ⟨(Lib.join (((List.range n).map tx).map (fun x => x.data.toList)) [13, 10]).toArray⟩ := by
    apply WideShapes.bytes_inj
    rw [toBA_list, ← hj, List.map_map, map_back]
  obtain ⟨ao, cap, rfl, hcap, hc⟩ := hv
  by_cases h0 : n = 0
  · subst h0
    refine (Any.strings_Join_none Tryd.lays156 Tryd.Builder_Extra_156 ao cap _ w).mono ?_
    rintro e w' ⟨rfl, rfl⟩
    refine ⟨?_, Ext.refl _⟩
    rw [hret]
    rfl
  · obtain ⟨b, o, rfl, hc'⟩ := hc (by omega)
    have hlt := lt_of_cell (hc' 0 (by omega))
    have hJ := Any.strings_Join Tryd.lays156 Tryd.Builder_Extra_156 b o cap ((List.range n).map tx) ⟨#[13, 10]⟩ w (fun j x hx => by
      rw [List.getElem?_map] at hx
      by_cases hjn : j < n
      · rw [List.getElem?_range hjn] at hx
        simp at hx
        subst hx
        exact hc' j hjn
      · rw [List.getElem?_eq_none (by simp; omega)] at hx
        simp at hx) hlt (by simp; omega) (by simp; omega) (by show (Lib.join _ [13, 10]).length ≤ _; rw [hL]; omega)
    rw [List.length_map, List.length_range] at hJ
    refine Calls.mono hJ ?_
    rintro e w' ⟨rfl, hb⟩
    refine ⟨?_, Ext.of_below hb⟩
    rw [hret]
def WBox (W : World) (p ob qb nb : Nat) (v : Value) (row col : Int) : Prop :=
  W.heap[p]? = some (.cells (wrV ob qb nb).cells 45 (0, 0)) ∧ W.heap[p + 1]? = some (.cells (blV v row col).cells 28 (0, 0))
theorem WBox.wf {W W' : World} {p B ob qb nb : Nat} {v : Value} {row col : Int} (h : WBox W p ob qb nb v row col) (hF : WF B ob W W') (hp : ob < p) : WBox W' p ob qb nb v row col :=
  ⟨hF.2 _ _ h.1 (by simp; omega) (fun c fz e => by simp at e), hF.2 _ _ h.2 (by simp; omega) (fun c fz e => by simp at e)⟩
theorem WBox.ext {W W' : World} {p ob qb nb : Nat} {v : Value} {row col : Int} (h : WBox W p ob qb nb v row col) (hE : Ext W W') : WBox W' p ob qb nb v row col :=
  ⟨(hE.heap (Array.getElem?_eq_some_iff.1 h.1).1).trans h.1, (hE.heap (Array.getElem?_eq_some_iff.1 h.2).1).trans h.2⟩
theorem WBox.cells {W : World} {p ob qb nb : Nat} {v : Value} {row col : Int} (h : WBox W p ob qb nb v row col) :
    (W.cell? ⟨p, 0, none⟩ = some (.func (.func 32) #[] #[.pointer (some ⟨ob, 0, none⟩)]) ∧ W.cell? ⟨p, 1, none⟩ = some (.func (.func 33) #[] #[.pointer (some ⟨nb, 0, none⟩)]) ∧ W.cell? ⟨p, 2, none⟩ = some (.func (.func 34) #[] #[.pointer (some ⟨nb, 0, none⟩)]) ∧ W.cell? ⟨p, 3, none⟩ = some (.func (.func 35) #[] #[.pointer (some ⟨qb, 0, none⟩)]))
    ∧ W.cell? ⟨p + 1, 0, none⟩ = some v ∧ W.cell? ⟨p + 1, 1, none⟩ = some (.int .i64 row) ∧ W.cell? ⟨p + 1, 2, none⟩ = some (.int .i64 col) := by
  obtain ⟨h1, h2⟩ := h
  simp [World.cell?, h1, h2, wrV, blV, Value.cells]
theorem alloc_new (w : World) (o : Obj) : (w.alloc o).heap[w.heap.size]? = some o := by unfold World.alloc; simp
theorem wbox_new (w : World) (ob qb nb : Nat) (v : Value) (row col : Int) : WBox ((w.alloc (.cells (wrV ob qb nb).cells 45)).alloc (.cells (blV v row col).cells 28)) w.heap.size ob qb nb v row col := by
  constructor
  · rw [((Ext.refl _).alloc _).heap (by simp)]
    exact alloc_new _ _
  · exact (congrArg (fun k => ((w.alloc (.cells (wrV ob qb nb).cells 45)).alloc (.cells (blV v row col).cells 28)).heap[k]?) (by simp)).trans (alloc_new (w.alloc (.cells (wrV ob qb nb).cells 45)) (.cells (blV v row col).cells 28))
end Go.Proofs.YtlmgeobmjkbccaaDoor
