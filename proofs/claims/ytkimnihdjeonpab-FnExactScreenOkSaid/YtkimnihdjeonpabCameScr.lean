import Derived.Test.YtkimnihdjeonpabCame
import Derived.Test.YtkimnihdjeonpabSzScr
import Derived.Deep.SlicePairs
import Derived.Deep.Strs
namespace Go.Proofs.Ytkimnihdjeonpab
open Go.ChangeShapes Go.WideShapes Go.ChangeAt Go.RowKit Go.Deep
theorem cells_trod {H : Type} {enc : TypeId × Value → H} {W : World} {fuel : Nat} {v : Value} {x : DataW H × List MemPlace}
    (h : DataW.trod enc Try.prog W 0 (fun _ => true) true fuel 85 [v] = some x) : ∃ (n : Nat) (tx : Nat → ByteArray) (hf : Nat → Bool), Row2At W v n (fun j => .string (tx j)) (fun j => .bool (hf j)) ∧ n ≤ maxLen ∧ ∀ j, j < n → (tx j).size ≤ maxLen := by
  rcases open_slice_pairs Try.underlying85 Try.underlying91 (by kernel_rfl) rfl rfl (by kernel_rfl) (by kernel_rfl) h with ⟨hcs, _⟩ | ⟨a, len, cap, m, n, V0, V1, D0, D1, P0, P1, hcs, _, hl, hm, hmm, _, hx⟩
  · simp at hcs
    subst hcs
    exact ⟨0, fun _ => { data := #[] }, fun _ => false, ⟨none, 0, rfl, Nat.le_refl _, fun h => by omega⟩, by simp, fun j hj => by omega⟩
  · simp at hcs
    subst hcs
    simp at hmm
    have each : ∀ i, i < len → ∃ q : ByteArray × Bool, V0 i = .string q.1 ∧ V1 i = .bool q.2 ∧ q.1.size ≤ maxLen := by
      intro i hi
      obtain ⟨_, _, t0, t1⟩ := hx i (by omega)
      obtain ⟨s, e0, _, hs⟩ := DataW.trod_string Try.underlying9 t0
      obtain ⟨b, e1, _⟩ := DataW.trod_bool Try.underlying4 t1
      simp at e0 e1
      exact ⟨(s, b), e0, e1, hs⟩
    obtain ⟨q, hq⟩ := choose_lt each
    refine ⟨len, fun i => (q i).1, fun i => (q i).2, ⟨some a, cap, rfl, hl, fun hp => ?_⟩, by omega, fun j hj => (hq j hj).2.2⟩
    have ha := addr_plain (by simpa using (hx 0 (by omega)).1)
    refine ⟨a.block, a.off, by rw [← ha], fun j hj => ?_⟩
    obtain ⟨c0, c1, _, _⟩ := hx j (by omega)
    rw [ha, Addr.add_lit] at c0 c1
    rw [(hq j hj).1] at c0
    rw [(hq j hj).2.1] at c1
    exact ⟨c0, by simpa [Nat.add_assoc] using c1⟩
theorem grid_trod {H : Type} {enc : TypeId × Value → H} {W : World} {fuel : Nat} {v : Value} {x : DataW H × List MemPlace}
    (h : DataW.trod enc Try.prog W 0 (fun _ => true) true fuel 43 [v] = some x) : ∃ (R : Nat) (C : Nat → Nat) (tx : Nat → Nat → ByteArray) (hf : Nat → Nat → Bool), GridAt W v R C (fun i j => .string (tx i j)) (fun i j => .bool (hf i j)) ∧ R ≤ maxLen ∧ ∀ i, i < R → C i ≤ maxLen ∧ ∀ j, j < C i → (tx i j).size ≤ maxLen := by
  rcases open_slice1 Try.underlying43 (by kernel_rfl) h with ⟨hcs, _⟩ | ⟨a, len, cap, m, n, V, D, Pl, hcs, _, hl, hm, hmm, _, hx⟩
  · simp at hcs
    subst hcs
    exact ⟨0, fun _ => 0, fun _ _ => { data := #[] }, fun _ _ => false, ⟨fun _ => .slice none 0 0, ⟨none, 0, rfl, Nat.le_refl _, fun h => by omega⟩, fun i hi => by omega⟩, by simp, fun j hj => by omega⟩
  · simp at hcs
    subst hcs
    simp at hmm
    have each : ∀ i, i < len → ∃ q : Nat × (Nat → ByteArray) × (Nat → Bool), Row2At W (V i) q.1 (fun j => .string (q.2.1 j)) (fun j => .bool (q.2.2 j)) ∧ q.1 ≤ maxLen ∧ ∀ j, j < q.1 → (q.2.1 j).size ≤ maxLen := by
      intro i hi
      obtain ⟨k, tx, hf, h1, h2, h3⟩ := cells_trod (hx i (by omega)).2
      exact ⟨(k, tx, hf), h1, h2, h3⟩
    obtain ⟨q, hq⟩ := choose_lt each
    refine ⟨len, fun i => (q i).1, fun i => (q i).2.1, fun i => (q i).2.2, ⟨V, ⟨some a, cap, rfl, hl, fun hp => ?_⟩, fun i hi => (hq i hi).1⟩, by omega, fun i hi => (hq i hi).2⟩
    have ha := addr_plain (by simpa using (hx 0 (by omega)).1)
    refine ⟨a.block, a.off, by rw [← ha], fun j hj => ?_⟩
    have c0 := (hx j (by omega)).1
    rw [ha, Addr.add_lit] at c0
    exact c0
set_option maxRecDepth 100000 in
theorem scr_came2 {H : Type} {enc : TypeId × Value → H} {W : World} {v : Value} {d : DataW H} {p : List MemPlace} {base : Nat} {r : Reach}
    (hv : Value.okWide Try.prog W r base 45 v) (h : DataW.Trod enc Try.prog W 0 (fun _ => true) true 45 v d p) :
    ∃ (s : SD) (gv hv bv : Value), v = scrV s gv hv bv ∧ ScrAt W s gv hv bv ∧ s.Came ∧ Bytes s.hold := by
  obtain ⟨cs, rfl, hsz⟩ := okWide_struct Try.underlying45 hv
  obtain ⟨fuel, hf⟩ := h
  obtain ⟨xs, n, _, _, _, hlen, hx⟩ := DataW.trod_struct Try.underlying45 hf
  have h8 : Try.prog.cellsOf 45 = 8 := by kernel_rfl
  rw [h8] at hsz
  obtain ⟨l⟩ := cs
  have ki : Try.prog.cellsOf 3 = 1 := by kernel_rfl
  have kg : Try.prog.cellsOf 43 = 1 := by kernel_rfl
  have kb : Try.prog.cellsOf 4 = 1 := by kernel_rfl
  have ku : Try.prog.cellsOf 34 = 1 := by kernel_rfl
  have ks : Try.prog.cellsOf 35 = 1 := by kernel_rfl
  match l, hsz, xs, hlen with
  | [c0, c1, c2, c3, c4, c5, c6, c7], _, [x0, x1, x2, x3, x4, x5, x6, x7], _ =>
    have t0 : DataW.trod enc Try.prog W 0 (fun _ => true) true n 3 [c0] = some x0 := by
      have := hx 0 _ rfl
      simpa [Value.cells, ki] using this
    have t1 : DataW.trod enc Try.prog W 0 (fun _ => true) true n 3 [c1] = some x1 := by
      have := hx 1 _ rfl
      simpa [Value.cells, ki] using this
    have t2 : DataW.trod enc Try.prog W 0 (fun _ => true) true n 43 [c2] = some x2 := by
      have := hx 2 _ rfl
      simpa [Value.cells, kg] using this
    have t3 : DataW.trod enc Try.prog W 0 (fun _ => true) true n 3 [c3] = some x3 := by
      have := hx 3 _ rfl
      simpa [Value.cells, ki] using this
    have t4 : DataW.trod enc Try.prog W 0 (fun _ => true) true n 3 [c4] = some x4 := by
      have := hx 4 _ rfl
      simpa [Value.cells, ki] using this
    have t5 : DataW.trod enc Try.prog W 0 (fun _ => true) true n 4 [c5] = some x5 := by
      have := hx 5 _ rfl
      simpa [Value.cells, kb] using this
    have t6 : DataW.trod enc Try.prog W 0 (fun _ => true) true n 34 [c6] = some x6 := by
      have := hx 6 _ rfl
      simpa [Value.cells, ku] using this
    have t7 : DataW.trod enc Try.prog W 0 (fun _ => true) true n 35 [c7] = some x7 := by
      have := hx 7 _ rfl
      simpa [Value.cells, ks] using this
    obtain ⟨n0, e0, _, _⟩ := DataW.trod_int Try.underlying3 t0
    obtain ⟨n1, e1, _, _⟩ := DataW.trod_int Try.underlying3 t1
    obtain ⟨R, C, tx, hfl, g1, g2, g3⟩ := grid_trod t2
    obtain ⟨n3, e3, _, _⟩ := DataW.trod_int Try.underlying3 t3
    obtain ⟨n4, e4, _, _⟩ := DataW.trod_int Try.underlying3 t4
    obtain ⟨lt, e5, _⟩ := DataW.trod_bool Try.underlying4 t5
    obtain ⟨zs, z1, z2, z3⟩ := bytes_trod Try.underlying34 Try.underlying5 (by kernel_rfl) t6
    obtain ⟨nb, bk, b1, b2, b3⟩ := strs_trod Try.underlying35 Try.underlying9 (by kernel_rfl) t7
    simp at e0 e1 e3 e4 e5
    subst e0 e1 e3 e4 e5
    unfold maxLen at g2 g3 z3 b2 b3
    refine ⟨{ cols := n0, rows := n1, row := n3, col := n4, late := lt, R := R, C := C, tx := tx, hf := hfl, hold := zs, nb := nb, bk := bk }, c2, c6, c7, rfl, ⟨g1, z1, b1⟩, ⟨?_, fun i hi => ⟨?_, fun j hj => ?_⟩, ?_, ?_, fun j hj => ?_⟩, fun n hn => bounds_u8 (z2 n hn)⟩
    · show (R : Int) ≤ _; omega
    · have := (g3 i hi).1; show (C i : Int) ≤ _; omega
    · have := (g3 i hi).2 j hj; show ((tx i j).size : Int) ≤ _; omega
    · show (zs.length : Int) ≤ _; omega
    · show (nb : Int) ≤ _; omega
    · have := b3 j hj; show ((bk j).size : Int) ≤ _; omega
set_option maxRecDepth 100000 in
theorem scr_came {H : Type} {enc : TypeId × Value → H} {W : World} {v : Value} {d : DataW H} {p : List MemPlace} {base : Nat} {r : Reach}
    (hv : Value.okWide Try.prog W r base 45 v) (h : DataW.Trod enc Try.prog W 0 (fun _ => true) true 45 v d p) :
    ∃ (s : SD) (gv hv bv : Value), v = scrV s gv hv bv ∧ ScrAt W s gv hv bv ∧ s.Came := by
  obtain ⟨s, gv, hv, bv, e, h1, h2, _⟩ := scr_came2 hv h
  exact ⟨s, gv, hv, bv, e, h1, h2⟩
end Go.Proofs.Ytkimnihdjeonpab
