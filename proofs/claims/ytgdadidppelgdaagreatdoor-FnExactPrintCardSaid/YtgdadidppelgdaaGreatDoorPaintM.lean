import Derived.Test.YtgdadidppelgdaaGreatDoorWri
import Derived.Test.YtgdadidppelgdaaGreatDoorDrawM
import Derived.Test.YtgdadidppelgdaaGreatDoorMu
namespace Go.Proofs.YtgdadidppelgdaaGreatDoor
open Go.RowKit

set_option maxRecDepth 10000 in
set_option maxHeartbeats 1000000 in
theorem any_any (n c : Int) (h1 : n ≤ 99999999) (B ob qb nb : Nat) (bs : List Int) (w : World) (h : WrS w B ob qb nb bs) (hl : bs.length ≤ 1099511627776) :
    Calls Tryz.prog 128 #[.int .i64 n, .int .u8 c, .pointer (some ⟨qb, 0, none⟩)] w fun e w' => e = .returned (.tuple #[]) ∧ WrS w' B ob qb nb (bs ++ goL n c) ∧ WF B ob w w' := by
  have HS := hide h
  have hq := h.q
  unfold seqF at hq
  clear h
  by_cases h0 : 0 < n
  · have hcon := hide (seq_any n c h0 h1 B ob qb nb bs w (unhide HS) hl)
    go_enter Tryz.func128, Tryz.ntmps128
    go_wp2_with fail
    refine (unhide hcon).mono ?_
    rintro e w1 ⟨rfl, h1, h2⟩
    have H1 := hide h1
    have H2 := hide h2
    clear h1 h2
    go_wp2
    exact bodyPost_end (v := .tuple #[]) (by simp [results, Tryz.results128, go_sem]) rfl ⟨rfl, unhide H1, unhide H2⟩
  · have hg : Hid (bs ++ goL n c = bs) := by refine hide ?_; rw [goL, if_pos (by omega)]; simp
    go_enter Tryz.func128, Tryz.ntmps128
    go_wp2
    exact bodyPost_end (v := .tuple #[]) (by simp [results, Tryz.results128, go_sem]) rfl ⟨rfl, by rw [unhide hg]; exact unhide HS, WF.refl _ _ _⟩
set_option maxRecDepth 10000 in
set_option maxHeartbeats 1000000 in
theorem up_any (n : Int) (h1 : n ≤ 99999999) (B ob qb nb : Nat) (bs : List Int) (w : World) (h : WrS w B ob qb nb bs) (hl : bs.length ≤ 1099511627776) :
    Calls Tryz.prog 130 #[.int .i64 n, .pointer (some ⟨nb, 0, none⟩)] w fun e w' => e = .returned (.tuple #[]) ∧ WrS w' B ob qb nb (bs ++ goL n 65) ∧ WF B ob w w' := by
  have hcon := hide (any_any n 65 h1 B ob qb nb bs w h hl)
  have hq := h.nn
  unfold anyF at hq
  clear h
  go_enter Tryz.func130, Tryz.ntmps130
  go_wp2_with fail
  refine (unhide hcon).mono ?_
  rintro e w1 ⟨rfl, h1, h2⟩
  have H1 := hide h1
  have H2 := hide h2
  clear h1 h2
  go_wp2
  exact bodyPost_end (v := .tuple #[]) (by simp [results, Tryz.results130, go_sem]) rfl ⟨rfl, unhide H1, unhide H2⟩
set_option maxRecDepth 10000 in
set_option maxHeartbeats 1000000 in
theorem down_any (n : Int) (h1 : n ≤ 99999999) (B ob qb nb : Nat) (bs : List Int) (w : World) (h : WrS w B ob qb nb bs) (hl : bs.length ≤ 1099511627776) :
    Calls Tryz.prog 131 #[.int .i64 n, .pointer (some ⟨nb, 0, none⟩)] w fun e w' => e = .returned (.tuple #[]) ∧ WrS w' B ob qb nb (bs ++ goL n 66) ∧ WF B ob w w' := by
  have hcon := hide (any_any n 66 h1 B ob qb nb bs w h hl)
  have hq := h.nn
  unfold anyF at hq
  clear h
  go_enter Tryz.func131, Tryz.ntmps131
  go_wp2_with fail
  refine (unhide hcon).mono ?_
  rintro e w1 ⟨rfl, h1, h2⟩
  have H1 := hide h1
  have H2 := hide h2
  clear h1 h2
  go_wp2
  exact bodyPost_end (v := .tuple #[]) (by simp [results, Tryz.results131, go_sem]) rfl ⟨rfl, unhide H1, unhide H2⟩
set_option maxRecDepth 10000 in
set_option maxHeartbeats 1000000 in
theorem column_any (n : Int) (h0 : 0 ≤ n) (h1 : n ≤ 9999999) (B ob qb nb : Nat) (bs : List Int) (w : World) (h : WrS w B ob qb nb bs) (hl : bs.length ≤ 1099511627776) :
    Calls Tryz.prog 132 #[.int .i64 n, .pointer (some ⟨qb, 0, none⟩)] w fun e w' => e = .returned (.tuple #[]) ∧ WrS w' B ob qb nb (bs ++ goL (n + 1) 71) ∧ WF B ob w w' := by
  have hcon := hide (seq_any (n + 1) 71 (by omega) (by omega) B ob qb nb bs w h hl)
  have hq := h.q
  unfold seqF at hq
  clear h
  go_enter Tryz.func132, Tryz.ntmps132
  go_wp2_with fail
  refine (unhide hcon).mono ?_
  rintro e w1 ⟨rfl, h1, h2⟩
  have H1 := hide h1
  have H2 := hide h2
  clear h1 h2
  go_wp2
  exact bodyPost_end (v := .tuple #[]) (by simp [results, Tryz.results132, go_sem]) rfl ⟨rfl, unhide H1, unhide H2⟩
set_option maxRecDepth 10000 in
set_option maxHeartbeats 1000000 in
theorem written_any (B ob qb nb : Nat) (bs : List Int) (w : World) (h : WrS w B ob qb nb bs) :
    Calls Tryz.prog 133 #[.pointer (some ⟨ob, 0, none⟩)] w fun e w' => ∃ v, e = .returned v ∧ w.ownsRow B 5 1 v bs.length (bs.map (Value.int .u8)) ∧ w' = w := by
  obtain ⟨v, hc, ho⟩ := h.out
  obtain ⟨ao, cap, hv, _⟩ := id (ints_of_owns ho)
  subst hv
  have HO := hide ho
  clear ho h
  go_enter Tryz.func133, Tryz.ntmps133
  go_wp2
  go_ret
  exact ⟨_, rfl, unhide HO, rfl⟩
theorem map_back (l : List UInt8) : l.map ((fun n : Int => UInt8.ofNat n.toNat) ∘ fun b => ((b.toNat : Nat) : Int)) = l := by
  induction l with
  | nil => rfl
  | cons b l ih => rw [List.map_cons, ih]; simp
theorem join_any (v : Value) (n : Nat) (tx : Nat → ByteArray) (w : World) (hv : Row1At w v n (fun j => .string (tx j))) (hn : n ≤ 1048576) (hs : slen tx n ≤ 274877906944) :
    Calls Tryz.prog 102 #[v, .string ⟨#[13, 10]⟩] w fun e w' => e = .returned (.string (toBA (rowsL tx n))) ∧ Ext w w' := by
  have hj := join_rows tx n
  have hL : (Lib.join (((List.range n).map tx).map (fun x => x.data.toList)) [13, 10]).length = (rowsL tx n).length := by rw [← hj]; simp
  have hlen := rowsL_len tx n
  have hret : toBA (rowsL tx n) = ⟨(Lib.join (((List.range n).map tx).map (fun x => x.data.toList)) [13, 10]).toArray⟩ := by
    apply WideShapes.bytes_inj
    rw [toBA_list, ← hj, List.map_map, map_back]
  obtain ⟨ao, cap, rfl, hcap, hc⟩ := hv
  by_cases h0 : n = 0
  · subst h0
    refine (Any.strings_Join_none Tryz.lays156 Tryz.Builder_Extra_156 ao cap _ w).mono ?_
    rintro e w' ⟨rfl, rfl⟩
    refine ⟨?_, Ext.refl _⟩
    rw [hret]
    rfl
  · obtain ⟨b, o, rfl, hc'⟩ := hc (by omega)
    have hlt := lt_of_cell (hc' 0 (by omega))
    have hJ := Any.strings_Join Tryz.lays156 Tryz.Builder_Extra_156 b o cap ((List.range n).map tx) ⟨#[13, 10]⟩ w (fun j x hx => by
      rw [List.getElem?_map] at hx
      by_cases hjn : j < n
      · rw [List.getElem?_range hjn] at hx
        simp at hx
        subst hx
        exact hc' j hjn
      · rw [List.getElem?_eq_none (by simp; omega)] at hx
        simp at hx) hlt (by simp; omega) (by simp; omega) (by show (Lib.join _ [13, 10]).length ≤ _; rw [hL]; omega)
    rw [List.length_map, List.length_range] at hJ
    refine Calls.mono hJ ?_
    rintro e w' ⟨rfl, hb⟩
    refine ⟨?_, Ext.of_below hb⟩
    rw [hret]
/-- The boxes of a method of the writers: the receiver and a block. -/
def WBox (W : World) (p ob qb nb : Nat) (v : Value) (row col : Int) : Prop :=
  W.heap[p]? = some (.cells (wrV ob qb nb).cells 83 (0, 0)) ∧ W.heap[p + 1]? = some (.cells (blV v row col).cells 61 (0, 0))
theorem WBox.wf {W W' : World} {p B ob qb nb : Nat} {v : Value} {row col : Int} (h : WBox W p ob qb nb v row col) (hF : WF B ob W W') (hp : ob < p) : WBox W' p ob qb nb v row col :=
  ⟨hF.2 _ _ h.1 (by simp; omega) (fun c fz e => by simp at e), hF.2 _ _ h.2 (by simp; omega) (fun c fz e => by simp at e)⟩
theorem WBox.ext {W W' : World} {p ob qb nb : Nat} {v : Value} {row col : Int} (h : WBox W p ob qb nb v row col) (hE : Ext W W') : WBox W' p ob qb nb v row col :=
  ⟨(hE.heap (Array.getElem?_eq_some_iff.1 h.1).1).trans h.1, (hE.heap (Array.getElem?_eq_some_iff.1 h.2).1).trans h.2⟩
theorem WBox.cells {W : World} {p ob qb nb : Nat} {v : Value} {row col : Int} (h : WBox W p ob qb nb v row col) :
    (W.cell? ⟨p, 0, none⟩ = some (.func (.func 129) #[] #[.pointer (some ⟨ob, 0, none⟩)]) ∧ W.cell? ⟨p, 1, none⟩ = some (.func (.func 130) #[] #[.pointer (some ⟨nb, 0, none⟩)]) ∧ W.cell? ⟨p, 2, none⟩ = some (.func (.func 131) #[] #[.pointer (some ⟨nb, 0, none⟩)]) ∧ W.cell? ⟨p, 3, none⟩ = some (.func (.func 132) #[] #[.pointer (some ⟨qb, 0, none⟩)]))
    ∧ W.cell? ⟨p + 1, 0, none⟩ = some v ∧ W.cell? ⟨p + 1, 1, none⟩ = some (.int .i64 row) ∧ W.cell? ⟨p + 1, 2, none⟩ = some (.int .i64 col) := by
  obtain ⟨h1, h2⟩ := h
  simp [World.cell?, h1, h2, wrV, blV, Value.cells]
theorem alloc_new (w : World) (o : Obj) : (w.alloc o).heap[w.heap.size]? = some o := by unfold World.alloc; simp
theorem wbox_new (w : World) (ob qb nb : Nat) (v : Value) (row col : Int) : WBox ((w.alloc (.cells (wrV ob qb nb).cells 83)).alloc (.cells (blV v row col).cells 61)) w.heap.size ob qb nb v row col := by
  constructor
  · rw [((Ext.refl _).alloc _).heap (by simp)]
    exact alloc_new _ _
  · exact (congrArg (fun k => ((w.alloc (.cells (wrV ob qb nb).cells 83)).alloc (.cells (blV v row col).cells 61)).heap[k]?) (by simp)).trans (alloc_new (w.alloc (.cells (wrV ob qb nb).cells 83)) (.cells (blV v row col).cells 61))
end Go.Proofs.YtgdadidppelgdaaGreatDoor

namespace Go.Proofs.YtgdadidppelgdaaGreatDoor
open Go.RowKit

theorem SS.blk_ok (s : SS) (h : sizeB s.cols s.rows = true) : bOk s.blk.n (s.blk.R : Int) s.blk.C := by
  obtain ⟨cn, rn, e1, e2, h2, h200, _, _⟩ := sizeB_open h
  have hR := (s.blk_lt h).1
  have hw : Wides s.cs := (((cuts_one (baL s.pr)).app (cuts_one (baL s.la))).app (cuts_one (baL s.lb))).wide
  have hc : s.cols.toNat = cn := by omega
  have hp : s.p0 ≤ s.cs.length := by unfold SS.p0 SS.cs; simp only [List.length_append]; omega
  have hb := layCol0_bd (p := s.p0) hw (show 2 ≤ s.cols.toNat by omega) hp
  have hf := full_iff (p := s.p0) hw (show 2 ≤ s.cols.toNat by omega) hp
  refine ⟨by omega, by omega, ?_⟩
  show 0 ≤ layCol s.cs s.cols.toNat s.p0 ∧ layCol s.cs s.cols.toNat s.p0 < 200
  unfold layCol
  split
  · omega
  · rename_i hn
    have h9 : layCol0 s.cs s.cols.toNat s.p0 ≠ s.cols.toNat := fun e => hn (hf.2 e)
    omega
end Go.Proofs.YtgdadidppelgdaaGreatDoor

namespace Go.Proofs.YtgdadidppelgdaaGreatDoor
open Go.RowKit

/-- No slice. -/
abbrev nilV : Value := .slice none 0 0
theorem noXe : (noX : ByteArray) = { data := #[] } := rfl
/-- A new session. -/
def newS (p : ByteArray) (c r : Int) : SS where
  pr := p
  cols := c
  rows := r
  la := noX
  lb := noX
  lc := noX
  un := 0
  ut := fun _ => noX
  uh := fun _ => noX
  kh := []
  kp := false
  nav := false
  pn := 0
  pt := fun _ => noX
  at9 := 0
  dr := noX
  st := false
  qn := 0
  qt := fun _ => noX
  ln := 0
  lt := fun _ => noX
  dn := 0
  dt := fun _ => noX
theorem row1_nil (w : World) (A : Nat → Value) : Row1At w nilV 0 A := ⟨none, 0, rfl, Nat.le_refl _, fun h => by omega⟩
theorem row2_nil (w : World) (A B : Nat → Value) : Row2At w nilV 0 A B := ⟨none, 0, rfl, Nat.le_refl _, fun h => by omega⟩
theorem newS_own (w : World) (b : Nat) (p : ByteArray) (c r : Int) : OwnSes w b (newS p c r) nilV nilV nilV nilV nilV nilV := by
  have h1 (T : TypeId) (A : Nat → Value) : Own1 w b T nilV 0 A := ⟨[], owns_nil w b T 1, fun j hj => by omega⟩
  refine ⟨⟨[], owns_nil w b _ 2, fun j hj => by exact absurd hj (Nat.not_lt_zero _)⟩, owns_nil w b _ 1, h1 _ _, h1 _ _, h1 _ _, h1 _ _, ?_⟩
  have ha : Apart nilV nilV := fun g hg => by simp [Value.ownBlock] at hg
  simp [ha]
theorem newS_at (w : World) (p : ByteArray) (c r : Int) : SesAt w (newS p c r) nilV nilV nilV nilV nilV nilV := (newS_own w 0 p c r).reads
theorem newS_sz (p : ByteArray) (c r : Int) (h : p.size ≤ 1048576) : (newS p c r).Sz := by
  have h0 : noX.size = 0 := rfl
  constructor <;> first | exact h | (show (0 : Nat) ≤ _; omega) | (show noX.size ≤ _; omega) | (intro j hj; exact absurd hj (Nat.not_lt_zero _))
theorem newS_m (p : ByteArray) (c r : Int) : (newS p c r).m = 0 := rfl
theorem slen_bound (tx : Nat → ByteArray) (b : Nat) (h : ∀ i, (tx i).size ≤ b) : ∀ n, slen tx n ≤ n * b
  | 0 => by simp [slen]
  | n + 1 => by have := slen_bound tx b h n; have := h n; rw [slen, Nat.succ_mul]; omega
theorem SS.blk_slen_big (s : SS) (hpr : s.pr.size ≤ 1048576) (hla : s.la.size ≤ 1048576) (hlb : s.lb.size ≤ 1048576) (h : sizeB s.cols s.rows = true) : slen s.blk.tx s.blk.n ≤ 7549747200 := by
  have h1 := slen_bound s.blk.tx 75497472 (s.blk_size_big hpr hla hlb) s.blk.n
  have h2 := (s.blk_lt h).2
  have h3 : s.blk.n * 75497472 ≤ 100 * 75497472 := Nat.mul_le_mul_right _ h2
  omega
theorem SS.blk_slen (s : SS) (hz : s.Sz) (h : sizeB s.cols s.rows = true) : slen s.blk.tx s.blk.n ≤ 7549747200 := s.blk_slen_big hz.pr hz.la hz.lb h
/-- What is painted for a session. -/
def SS.paint (s : SS) : List Int := paintL s.blk.n s.blk.tx (s.blk.R : Int) s.blk.C
theorem SS.paint_len_big (s : SS) (hpr : s.pr.size ≤ 1048576) (hla : s.la.size ≤ 1048576) (hlb : s.lb.size ≤ 1048576) (h : sizeB s.cols s.rows = true) : s.paint.length ≤ 8000000000 := by
  have h1 := paintL_len s.blk.n s.blk.tx (s.blk.R : Int) s.blk.C (by have := (s.blk_lt h).2; omega)
  have h2 := s.blk_slen_big hpr hla hlb h
  have h3 := (s.blk_lt h).2
  unfold SS.paint
  omega
theorem SS.paint_len (s : SS) (hz : s.Sz) (h : sizeB s.cols s.rows = true) : s.paint.length ≤ 8000000000 := s.paint_len_big hz.pr hz.la hz.lb h
end Go.Proofs.YtgdadidppelgdaaGreatDoor

namespace Go.Proofs.YtgdadidppelgdaaGreatDoor
open Go.RowKit

set_option maxRecDepth 10000 in
set_option maxHeartbeats 2000000 in
theorem paintM_any (v : Value) (row col : Int) (n : Nat) (tx : Nat → ByteArray) (hok : bOk n row col) (B ob qb nb : Nat) (bs : List Int) (w : World) (h : WrS w B ob qb nb bs) (hv : Row1At w v n (fun j => .string (tx j))) (hn : n ≤ 1048576) (hs : slen tx n ≤ 274877906944) (hl : bs.length ≤ 1073741824) :
    Calls Tryz.prog 71 #[wrV ob qb nb, blV v row col] w fun e w' => e = .returned (.tuple #[]) ∧ WrS w' B ob qb nb (bs ++ paintL n tx row col) ∧ WF B ob w w' := by
  have hlen := rowsL_len tx n
  have hcon := hide (fun W (hW : Ext w W) => join_any v n tx W (hv.ext hW) hn hs)
  have hcon2 := hide (fun W (hW : WrS W B ob qb nb bs) => text_any (rowsL tx n) (rowsL_bytes tx n) B ob qb nb bs W hW (by omega))
  obtain ⟨ao, cap, rfl, _, _⟩ := hv
  have HS := hide h
  have hob : ob < w.heap.size := Nat.lt_of_lt_of_le h.ltb h.le
  have hbx := wbox_new w ob qb nb (.slice ao n cap) row col
  have HE := hide (((Ext.refl w).alloc (.cells (wrV ob qb nb).cells 83)).alloc (.cells (blV (.slice ao n cap) row col).cells 61))
  have hp : Hid (bs ++ paintL n tx row col = bs ++ rowsL tx n ++ goL ((n : Int) - 1 - row) 65 ++ goL (col + 1) 71) := by refine hide ?_; rw [paintL, if_pos hok]; simp
  unfold bOk at hok
  clear h
  unfold wrV blV at *
  go_enter Tryz.func71, Tryz.ntmps71
  go_wp2
  simp only [Value.cells] at hbx HE
  obtain ⟨W2, hW2⟩ : ∃ W, W = ((w.alloc (Obj.cells #[Value.func (Fn.func 129) #[] #[.pointer (some ⟨ob, 0, none⟩)], .func (.func 130) #[] #[.pointer (some ⟨nb, 0, none⟩)], .func (.func 131) #[] #[.pointer (some ⟨nb, 0, none⟩)], .func (.func 132) #[] #[.pointer (some ⟨qb, 0, none⟩)], .func (.func 133) #[] #[.pointer (some ⟨ob, 0, none⟩)]] 83)).alloc (Obj.cells #[.slice ao n cap, .int .i64 row, .int .i64 col] 61)) := ⟨_, rfl⟩
  rw [← hW2] at hbx HE ⊢
  clear hW2
  have HB := hide hbx
  obtain ⟨⟨a0, a1, a2, a3⟩, b0, b1, b2⟩ := hbx.cells
  clear hbx
  go_region_law (first | (go_simp; go_at_call 102; refine ((unhide hcon) _ (unhide HE).drew).mono ?_; rintro e w3 ⟨rfl, hE3⟩; have hE4 := (unhide HE).drew.trans hE3; have HE4 := hide hE4; have hb3 := (unhide HB).ext ((Ext.refl W2).drew.trans hE3); have HB3 := hide hb3; obtain ⟨⟨a03, a13, a23, a33⟩, b03, b13, b23⟩ := hb3.cells; clear hE3 hE4 hb3) | (go_simp; go_at_call 129; refine ((unhide hcon2) _ ((unhide HS).on (unhide HE4))).mono ?_; rintro e w4 ⟨rfl, hS4, hF4⟩; have HS4 := hide hS4; have HF4 := hide ((WF.of_ext (unhide HE4)).tr hF4); have hb4 := (unhide HB3).wf hF4 hob; have HB4 := hide hb4; obtain ⟨⟨a04, a14, a24, a34⟩, b04, b14, b24⟩ := hb4.cells; clear hS4 hF4 hb4))
  all_goals
    have hgl := goL_len ((n : Int) - 1 - row) 65 (by omega)
    have hcon3 := hide (up_any ((n : Int) - 1 - row) (by omega) B ob qb nb _ w4 (unhide HS4) (by rw [List.length_append]; omega))
    go_wp2_with fail
    refine (unhide hcon3).mono ?_
    rintro e w5 ⟨rfl, hS5, hF5⟩
    have HS5 := hide hS5
    have HF5 := hide ((unhide HF4).tr hF5)
    have hb5 := (unhide HB4).wf hF5 hob
    obtain ⟨⟨a05, a15, a25, a35⟩, b05, b15, b25⟩ := hb5.cells
    clear hS5 hF5 hb5
    have hcon4 := hide (column_any col (by omega) (by omega) B ob qb nb _ w5 (unhide HS5) (by simp only [List.length_append]; omega))
    go_wp2_with fail
    refine (unhide hcon4).mono ?_
    rintro e w6 ⟨rfl, hS6, hF6⟩
    have HS6 := hide hS6
    have HF6 := hide ((unhide HF5).tr hF6)
    clear hS6 hF6
    go_wp2
    exact bodyPost_end (v := .tuple #[]) (by simp [results, Tryz.results71, go_sem]) rfl ⟨rfl, by rw [unhide hp]; exact unhide HS6, unhide HF6⟩
end Go.Proofs.YtgdadidppelgdaaGreatDoor
