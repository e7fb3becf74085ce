import Derived.Test.YtaddlkhaokdpdaaDoorCame
import Derived.Test.YtaddlkhaokdpdaaDoorSnaps
namespace Go.Proofs.YtaddlkhaokdpdaaDoor
open Go.ChangeShapes Go.WideShapes Go.ChangeAt Go.RowKit Go.Deep
set_option maxRecDepth 10000 in
theorem snaps_trod {H : Type} {enc : TypeId × Value → H} {W : World} {fuel : Nat} {v : Value} {x : DataW H × List MemPlace}
    (h : DataW.trod enc Tryd.prog W 0 (fun _ => true) true fuel 31 [v] = some x) : ∃ (n : Nat) (tx hf : Nat → ByteArray), Row2At W v n (fun j => .string (tx j)) (fun j => .string (hf j)) ∧ n ≤ maxLen ∧ ∀ j, j < n → (tx j).size ≤ maxLen ∧ (hf j).size ≤ maxLen := by
  rcases open_slice_pairs Tryd.underlying31 Tryd.underlying71 (by kernel_rfl) rfl rfl (by kernel_rfl) (by kernel_rfl) h with ⟨hcs, _⟩ | ⟨a, len, cap, m, n, V0, V1, D0, D1, P0, P1, hcs, _, hl, hm, hmm, _, hx⟩
  · simp at hcs
    subst hcs
    exact ⟨0, fun _ => { data := #[] }, fun _ => { data := #[] }, ⟨none, 0, rfl, Nat.le_refl _, fun h => by omega⟩, by simp, fun j hj => by omega⟩
  · simp at hcs
    subst hcs
    simp at hmm
    have each : ∀ i, i < len → ∃ q : ByteArray × ByteArray, V0 i = .string q.1 ∧ V1 i = .string q.2 ∧ q.1.size ≤ maxLen ∧ q.2.size ≤ maxLen := by
      intro i hi
      obtain ⟨_, _, t0, t1⟩ := hx i (by omega)
      obtain ⟨s, e0, _, hs⟩ := DataW.trod_string Tryd.underlying9 t0
      obtain ⟨b, e1, _, hb⟩ := DataW.trod_string Tryd.underlying9 t1
      simp at e0 e1
      exact ⟨(s, b), e0, e1, hs, hb⟩
    obtain ⟨q, hq⟩ := choose_lt each
    refine ⟨len, fun i => (q i).1, fun i => (q i).2, ⟨some a, cap, rfl, hl, fun hp => ?_⟩, by omega, fun j hj => (hq j hj).2.2⟩
    have ha := addr_plain (by simpa using (hx 0 (by omega)).1)
    refine ⟨a.block, a.off, by rw [← ha], fun j hj => ?_⟩
    obtain ⟨c0, c1, _, _⟩ := hx j (by omega)
    rw [ha, Addr.add_lit] at c0 c1
    rw [(hq j hj).1] at c0
    rw [(hq j hj).2.1] at c1
    exact ⟨c0, by simpa [Nat.add_assoc] using c1⟩
set_option maxRecDepth 10000 in
theorem line_came {H : Type} {enc : TypeId × Value → H} {W : World} {v : Value} {d : DataW H} {p : List MemPlace} {base : Nat} {r : Reach}
    (hv : Value.okWide Tryd.prog W r base 33 v) (h : DataW.Trod enc Tryd.prog W 0 (fun _ => true) true 33 v d p) :
    ∃ (a b c : ByteArray) (u : Value) (n : Nat) (tx hf : Nat → ByteArray), v = .agg #[.string a, .string b, .string c, u] ∧ Row2At W u n (fun j => .string (tx j)) (fun j => .string (hf j)) ∧ a.size ≤ maxLen ∧ b.size ≤ maxLen ∧ c.size ≤ maxLen ∧ n ≤ maxLen ∧ ∀ j, j < n → (tx j).size ≤ maxLen ∧ (hf j).size ≤ maxLen := by
  obtain ⟨cs, rfl, hsz⟩ := okWide_struct Tryd.underlying33 hv
  obtain ⟨fuel, hf⟩ := h
  obtain ⟨xs, n, _, _, _, hlen, hx⟩ := DataW.trod_struct Tryd.underlying33 hf
  have h4 : Tryd.prog.cellsOf 33 = 4 := by kernel_rfl
  rw [h4] at hsz
  obtain ⟨l⟩ := cs
  have ks : Tryd.prog.cellsOf 9 = 1 := by kernel_rfl
  have ku : Tryd.prog.cellsOf 31 = 1 := by kernel_rfl
  match l, hsz, xs, hlen with
  | [c0, c1, c2, c3], _, [x0, x1, x2, x3], _ =>
    have t0 : DataW.trod enc Tryd.prog W 0 (fun _ => true) true n 9 [c0] = some x0 := by
      have := hx 0 _ rfl
      simpa [Value.cells, ks] using this
    have t1 : DataW.trod enc Tryd.prog W 0 (fun _ => true) true n 9 [c1] = some x1 := by
      have := hx 1 _ rfl
      simpa [Value.cells, ks] using this
    have t2 : DataW.trod enc Tryd.prog W 0 (fun _ => true) true n 9 [c2] = some x2 := by
      have := hx 2 _ rfl
      simpa [Value.cells, ks] using this
    have t3 : DataW.trod enc Tryd.prog W 0 (fun _ => true) true n 31 [c3] = some x3 := by
      have := hx 3 _ rfl
      simpa [Value.cells, ku] using this
    obtain ⟨s0, e0, _, z0⟩ := DataW.trod_string Tryd.underlying9 t0
    obtain ⟨s1, e1, _, z1⟩ := DataW.trod_string Tryd.underlying9 t1
    obtain ⟨s2, e2, _, z2⟩ := DataW.trod_string Tryd.underlying9 t2
    obtain ⟨m, tx, hfl, g1, g2, g3⟩ := snaps_trod t3
    simp at e0 e1 e2
    subst e0 e1 e2
    exact ⟨s0, s1, s2, c3, m, tx, hfl, rfl, g1, z0, z1, z2, g2, g3⟩
end Go.Proofs.YtaddlkhaokdpdaaDoor
