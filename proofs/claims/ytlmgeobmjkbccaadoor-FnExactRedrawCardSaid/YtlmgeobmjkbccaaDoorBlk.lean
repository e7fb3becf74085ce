import Derived.Test.YtlmgeobmjkbccaaDoorStrs
import Derived.Deep.SlicePairs
namespace Go.Proofs.YtlmgeobmjkbccaaDoor
open Go.ChangeShapes Go.WideShapes Go.ChangeAt Go.RowKit Go.Deep
def blV (v : Value) (row col : Int) : Value := .agg #[v, .int .i64 row, .int .i64 col]
set_option maxHeartbeats 1000000 in
theorem szBlock_any (v : Value) (row col : Int) (n : Nat) (tx : Nat → ByteArray) (l : Int) (w : World) (hv : Row1At w v n (fun j => .string (tx j))) (h0 : 0 ≤ l) (h1 : l ≤ 4398046511104) (hn : (n : Int) ≤ 9223372036854775807) (hx : ∀ j, j < n → ((tx j).size : Int) ≤ 9223372036854775807) :
    Calls Tryd.prog 5 #[blV v row col, .int .i64 l] w fun e w' => ∃ r : Int, e = .returned (.int .i64 r) ∧ SzR l (n + slen tx n) r ∧ Ext w w' := by
  have hcon := hide (fun W (hW : Ext w W) => szStrs_any v n tx l W (hv.ext hW) h0 h1 hn hx)
  obtain ⟨ao, cap, rfl, _, _⟩ := hv
  unfold blV
  go_enter Tryd.func5, Tryd.ntmps5
  go_wp2_with fail
  refine ((unhide hcon) _ ((Ext.refl _).alloc _)).mono ?_
  rintro e w1 ⟨r, rfl, hr, F1⟩
  have HR := hide hr
  rcases hr with ⟨rfl, _⟩ | ⟨hre, hr0⟩
  · go_wp2
    go_ret
    exact ⟨-1, rfl, unhide HR, ((Ext.refl _).alloc _).trans F1⟩
  · have hrn : ¬ r < 0 := by omega
    clear hre
    go_wp2
    go_ret
    exact ⟨r, rfl, unhide HR, ((Ext.refl _).alloc _).trans F1⟩
set_option maxHeartbeats 1000000 in
theorem toBlock_any (v : Value) (row col : Int) (n : Nat) (tx : Nat → ByteArray) (w : World) (hv : Row1At w v n (fun j => .string (tx j))) (hn : n ≤ 1048576) :
    Calls Tryd.prog 7 #[blV v row col] w fun e w' => ∃ g, e = .returned (blV (.slice (some ⟨g, 0, none⟩) n n) row col) ∧ Own1 w' w.heap.size 9 (.slice (some ⟨g, 0, none⟩) n n) n (fun j => .string (tx j)) ∧ Ext w w' := by
  have HV := hide hv
  obtain ⟨ao, cap, rfl, _, _⟩ := hv
  have hcon := hide (fun W (hW : Ext w W) => toStrs_any (.slice ao n cap) n tx W ((unhide HV).ext hW) hn)
  unfold blV
  go_enter Tryd.func7, Tryd.ntmps7
  go_wp2_with fail
  refine ((unhide hcon) _ (by repeat' first | exact Ext.refl _ | refine Ext.alloc ?_ _ | refine Ext.setCell ?_ (by dsimp only; omega) _)).mono ?_
  rintro e w1 ⟨rfl, o1, F1⟩
  obtain ⟨hc, hf'⟩ := F1.rules
  have hz3 : ∀ o1 o2 o3, (((w.alloc o1).alloc o2).alloc o3).heap.size = w.heap.size + 3 := fun o1 o2 o3 => by simp
  rw [hz3] at o1 ⊢
  have hz : w.heap.size + 3 < w1.heap.size := by
    obtain ⟨ys, h1, _⟩ := o1
    exact (h1.lt _ rfl).2
  have a0 : w1.cell? ⟨w.heap.size + 1, 0, none⟩ = some (.slice none 0 0) := by rw [hc _ _ (by simp)]; simp [go_sem]
  have a1 : w1.cell? ⟨w.heap.size + 1, 1, none⟩ = some (.int .i64 0) := by rw [hc _ _ (by simp)]; simp [go_sem]
  have a2 : w1.cell? ⟨w.heap.size + 1, 2, none⟩ = some (.int .i64 0) := by rw [hc _ _ (by simp)]; simp [go_sem]
  have O1 := hide o1
  have E1 : Ext w w1 := Ext.trans ((((Ext.refl w).alloc _).alloc _).alloc _) F1
  clear o1
  go_wp2
  refine bodyPost_ret (v := .agg #[.slice (some ⟨w.heap.size + 3, 0, none⟩) n n, .int .i64 row, .int .i64 col]) (by simp [results, Tryd.results7, go_sem, a0, a1, a2]) rfl ⟨w.heap.size + 3, rfl, ?_, ?_⟩
  · obtain ⟨ys, h1, h2⟩ := unhide O1
    refine ⟨ys, owns_mono (base := w.heap.size + 3) ?_ (by omega), h2⟩
    repeat (refine owns_setCell ?_ (by simp [Value.ownBlock]) _)
    exact h1
  · repeat (refine Ext.setCell ?_ (by dsimp only; omega) _)
    exact E1
set_option maxHeartbeats 1000000 in
theorem eqBlock_same (va vb : Value) (row col : Int) (n : Nat) (tx : Nat → ByteArray) (w : World) (ha : Row1At w va n (fun j => .string (tx j))) (hb : Row1At w vb n (fun j => .string (tx j))) (hn : n ≤ 4398046511104) :
    Calls Tryd.prog 10 #[blV va row col, blV vb row col] w fun e w' => e = .returned (.bool true) ∧ Ext w w' := by
  have hcon := hide (fun W (hW : Ext w W) => eqStringS_same va vb n tx W (ha.ext hW) (hb.ext hW) hn)
  obtain ⟨ao, cap, rfl, _, _⟩ := ha
  obtain ⟨bo, cbp, rfl, _, _⟩ := hb
  unfold blV
  go_enter Tryd.func10, Tryd.ntmps10
  go_wp2_with fail
  refine ((unhide hcon) _ (((Ext.refl _).alloc _).alloc _)).mono ?_
  rintro e w1 ⟨rfl, F1⟩
  obtain ⟨hc, _⟩ := F1.rules
  go_wp2
  go_ret
  exact ⟨rfl, (((Ext.refl _).alloc _).alloc _).trans F1⟩
set_option maxHeartbeats 1000000 in
theorem markBlock_any (base : Nat) (v : Value) (row col : Int) (n : Nat) (A : Nat → Value) (k : Int) (w : World) (hv : Own1 w base 9 v n A) (hn : n ≤ 1099511627776) (hk : 0 ≤ k) (hk2 : k ≤ 1099511627776) :
    Calls Tryd.prog 11 #[blV v row col, .int .i64 k] w fun e w' => e = .returned (.int .i64 (k + (n : Int))) ∧ Fr (fun g => v.ownBlock = some g) w w' := by
  have hcon := hide (fun W (hW : Ext w W) => markStringS_any base v n A k W (hv.ext hW) hn hk hk2)
  have HF := hide hv.form
  unfold blV
  rcases hv.form with ⟨rfl, h0⟩ | ⟨g, cap, rfl⟩
  all_goals
    go_enter Tryd.func11, Tryd.ntmps11
    go_wp2_with fail
    refine ((unhide hcon) _ ((Ext.refl _).alloc _)).mono ?_
    rintro e w1 ⟨rfl, _, F1⟩
    go_wp2
    go_ret
    exact ⟨ret_int (by omega), Fr.tr (Fr.of_ext ((Ext.refl _).alloc _)) F1⟩
set_option maxRecDepth 10000 in
theorem block_came {H : Type} {enc : TypeId × Value → H} {W : World} {v : Value} {d : DataW H} {p : List MemPlace} {base : Nat} {r : Reach}
    (hv : Value.okWide Tryd.prog W r base 24 v) (h : DataW.Trod enc Tryd.prog W 0 (fun _ => true) true 24 v d p) :
    ∃ (u : Value) (row col : Int) (n : Nat) (tx : Nat → ByteArray), v = blV u row col ∧ Row1At W u n (fun j => .string (tx j)) ∧ n ≤ maxLen ∧ ∀ j, j < n → (tx j).size ≤ maxLen := by
  obtain ⟨cs, rfl, hsz⟩ := okWide_struct Tryd.underlying24 hv
  obtain ⟨fuel, hf⟩ := h
  obtain ⟨xs, n, _, _, _, hlen, hx⟩ := DataW.trod_struct Tryd.underlying24 hf
  have h3 : Tryd.prog.cellsOf 24 = 3 := by kernel_rfl
  rw [h3] at hsz
  obtain ⟨l⟩ := cs
  have ki : Tryd.prog.cellsOf 3 = 1 := by kernel_rfl
  have ku : Tryd.prog.cellsOf 22 = 1 := by kernel_rfl
  match l, hsz, xs, hlen with
  | [c0, c1, c2], _, [x0, x1, x2], _ =>
    have t0 : DataW.trod enc Tryd.prog W 0 (fun _ => true) true n 22 [c0] = some x0 := by
      have := hx 0 _ rfl
      simpa [Value.cells, ku] using this
    have t1 : DataW.trod enc Tryd.prog W 0 (fun _ => true) true n 3 [c1] = some x1 := by
      have := hx 1 _ rfl
      simpa [Value.cells, ki] using this
    have t2 : DataW.trod enc Tryd.prog W 0 (fun _ => true) true n 3 [c2] = some x2 := by
      have := hx 2 _ rfl
      simpa [Value.cells, ki] using this
    obtain ⟨m, tx, g1, g2, g3⟩ := strs_trod Tryd.underlying22 Tryd.underlying9 (by kernel_rfl) t0
    obtain ⟨n1, e1, _, _⟩ := DataW.trod_int Tryd.underlying3 t1
    obtain ⟨n2, e2, _, _⟩ := DataW.trod_int Tryd.underlying3 t2
    simp at e1 e2
    subst e1 e2
    exact ⟨c0, n1, n2, m, tx, rfl, g1, g2, g3⟩
end Go.Proofs.YtlmgeobmjkbccaaDoor
