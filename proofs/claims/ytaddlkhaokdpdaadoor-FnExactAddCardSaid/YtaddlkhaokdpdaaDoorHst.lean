import Derived.Test.YtaddlkhaokdpdaaDoorStrs
import Derived.Deep.SlicePairs
namespace Go.Proofs.YtaddlkhaokdpdaaDoor
open Go.ChangeShapes Go.WideShapes Go.ChangeAt Go.RowKit Go.Deep
set_option maxRecDepth 10000 in
set_option maxHeartbeats 1000000 in
theorem szHistory_any (cap : Int) (v : Value) (n : Nat) (tx : Nat → ByteArray) (l : Int) (w : World) (hv : Row1At w v n (fun j => .string (tx j))) (h0 : 0 ≤ l) (h1 : l ≤ 4398046511104) (hn : (n : Int) ≤ 9223372036854775807) (hx : ∀ j, j < n → ((tx j).size : Int) ≤ 9223372036854775807) :
    Calls Tryd.prog 7 #[.agg #[.int .i64 cap, v], .int .i64 l] w fun e w' => ∃ r : Int, e = .returned (.int .i64 r) ∧ SzR l (n + slen tx n) r ∧ Ext w w' := by
  have hcon := hide (fun W (hW : Ext w W) => szStrs_any v n tx l W (hv.ext hW) h0 h1 hn hx)
  obtain ⟨ao, ca, rfl, _, _⟩ := hv
  go_enter Tryd.func7, Tryd.ntmps7
  go_wp2_with fail
  refine ((unhide hcon) _ ((Ext.refl _).alloc _)).mono ?_
  rintro e w1 ⟨r, rfl, hr, F1⟩
  have HR := hide hr
  rcases hr with ⟨rfl, _⟩ | ⟨hre, hr0⟩
  · go_wp2
    go_ret
    exact ⟨-1, rfl, unhide HR, ((Ext.refl _).alloc _).trans F1⟩
  · have hrn : ¬ r < 0 := by omega
    clear hre
    go_wp2
    go_ret
    exact ⟨r, rfl, unhide HR, ((Ext.refl _).alloc _).trans F1⟩
set_option maxRecDepth 10000 in
set_option maxHeartbeats 1000000 in
theorem toHistory_any (cap : Int) (v : Value) (n : Nat) (tx : Nat → ByteArray) (w : World) (hv : Row1At w v n (fun j => .string (tx j))) (hn : n ≤ 1048576) :
    Calls Tryd.prog 9 #[.agg #[.int .i64 cap, v]] w fun e w' => ∃ g, e = .returned (.agg #[.int .i64 cap, .slice (some ⟨g, 0, none⟩) n n]) ∧ Own1 w' w.heap.size 9 (.slice (some ⟨g, 0, none⟩) n n) n (fun j => .string (tx j)) ∧ Ext w w' := by
  have HV := hide hv
  obtain ⟨ao, ca, rfl, _, _⟩ := hv
  have hcon := hide (fun W (hW : Ext w W) => toStrs_any (.slice ao n ca) n tx W ((unhide HV).ext hW) hn)
  go_enter Tryd.func9, Tryd.ntmps9
  go_wp2_with fail
  refine ((unhide hcon) _ (by repeat' first | exact Ext.refl _ | refine Ext.alloc ?_ _ | refine Ext.setCell ?_ (by dsimp only; omega) _)).mono ?_
  rintro e w1 ⟨rfl, o1, F1⟩
  obtain ⟨hc, hf'⟩ := F1.rules
  have hz3 : ∀ o1 o2 o3, (((w.alloc o1).alloc o2).alloc o3).heap.size = w.heap.size + 3 := fun o1 o2 o3 => by simp
  rw [hz3] at o1 ⊢
  have hz : w.heap.size + 3 < w1.heap.size := by
    obtain ⟨ys, h1, _⟩ := o1
    exact (h1.lt _ rfl).2
  have a0 : ∃ u, w1.cell? ⟨w.heap.size + 1, 0, none⟩ = some u := by rw [hc _ _ (by simp)]; simp [go_sem]
  obtain ⟨u0, a0⟩ := a0
  have a1 : w1.cell? ⟨w.heap.size + 1, 1, none⟩ = some (.slice none 0 0) := by rw [hc _ _ (by simp)]; simp [go_sem]
  have O1 := hide o1
  have E1 : Ext w w1 := Ext.trans ((((Ext.refl w).alloc _).alloc _).alloc _) F1
  clear o1
  go_wp2
  refine bodyPost_ret (v := .agg #[.int .i64 cap, .slice (some ⟨w.heap.size + 3, 0, none⟩) n n]) (by simp [results, Tryd.results9, go_sem, a0, a1]) rfl ⟨w.heap.size + 3, rfl, ?_, ?_⟩
  · obtain ⟨ys, h1, h2⟩ := unhide O1
    refine ⟨ys, owns_mono (base := w.heap.size + 3) ?_ (by omega), h2⟩
    repeat (refine owns_setCell ?_ (by simp [Value.ownBlock]) _)
    exact h1
  · repeat (refine Ext.setCell ?_ (by dsimp only; omega) _)
    exact E1
set_option maxRecDepth 10000 in
set_option maxHeartbeats 1000000 in
theorem eqHistory_same (cap : Int) (va vb : Value) (n : Nat) (tx : Nat → ByteArray) (w : World) (ha : Row1At w va n (fun j => .string (tx j))) (hb : Row1At w vb n (fun j => .string (tx j))) (hn : n ≤ 4398046511104) :
    Calls Tryd.prog 11 #[.agg #[.int .i64 cap, va], .agg #[.int .i64 cap, vb]] w fun e w' => e = .returned (.bool true) ∧ Ext w w' := by
  have hcon := hide (fun W (hW : Ext w W) => eqStringS_same va vb n tx W (ha.ext hW) (hb.ext hW) hn)
  obtain ⟨ao, ca, rfl, _, _⟩ := ha
  obtain ⟨bo, cbp, rfl, _, _⟩ := hb
  go_enter Tryd.func11, Tryd.ntmps11
  go_wp2_with fail
  refine ((unhide hcon) _ (((Ext.refl _).alloc _).alloc _)).mono ?_
  rintro e w1 ⟨rfl, F1⟩
  go_wp2
  go_ret
  exact ⟨rfl, (((Ext.refl _).alloc _).alloc _).trans F1⟩
set_option maxRecDepth 10000 in
theorem history_came {H : Type} {enc : TypeId × Value → H} {W : World} {v : Value} {d : DataW H} {p : List MemPlace} {base : Nat} {r : Reach}
    (hv : Value.okWide Tryd.prog W r base 24 v) (h : DataW.Trod enc Tryd.prog W 0 (fun _ => true) true 24 v d p) :
    ∃ (cap : Int) (u : Value) (n : Nat) (tx : Nat → ByteArray), v = .agg #[.int .i64 cap, u] ∧ Row1At W u n (fun j => .string (tx j)) ∧ n ≤ maxLen ∧ ∀ j, j < n → (tx j).size ≤ maxLen := by
  obtain ⟨cs, rfl, hsz⟩ := okWide_struct Tryd.underlying24 hv
  obtain ⟨fuel, hf⟩ := h
  obtain ⟨xs, n, _, _, _, hlen, hx⟩ := DataW.trod_struct Tryd.underlying24 hf
  have h2 : Tryd.prog.cellsOf 24 = 2 := by kernel_rfl
  rw [h2] at hsz
  obtain ⟨l⟩ := cs
  have ki : Tryd.prog.cellsOf 3 = 1 := by kernel_rfl
  have ku : Tryd.prog.cellsOf 22 = 1 := by kernel_rfl
  match l, hsz, xs, hlen with
  | [c0, c1], _, [x0, x1], _ =>
    have t0 : DataW.trod enc Tryd.prog W 0 (fun _ => true) true n 3 [c0] = some x0 := by
      have := hx 0 _ rfl
      simpa [Value.cells, ki] using this
    have t1 : DataW.trod enc Tryd.prog W 0 (fun _ => true) true n 22 [c1] = some x1 := by
      have := hx 1 _ rfl
      simpa [Value.cells, ku] using this
    obtain ⟨n1, e1, _, _⟩ := DataW.trod_int Tryd.underlying3 t0
    obtain ⟨m, tx, g1, g2, g3⟩ := strs_trod Tryd.underlying22 Tryd.underlying9 (by kernel_rfl) t1
    simp at e1
    subst e1
    exact ⟨n1, c1, m, tx, rfl, g1, g2, g3⟩
end Go.Proofs.YtaddlkhaokdpdaaDoor
