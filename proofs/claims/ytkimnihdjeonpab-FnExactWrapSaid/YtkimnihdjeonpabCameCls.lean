import Derived.Test.YtkimnihdjeonpabFrame
import Derived.Test.YtkimnihdjeonpabUtf
import Derived.Test.YtkimnihdjeonpabProg
import Derived.Test.YtkimnihdjeonpabAppRune
import Derived.Test.YtkimnihdjeonpabCls
import Derived.Test.YtkimnihdjeonpabSzCls
import Derived.Deep.SlicePairs
namespace Go.Proofs.Ytkimnihdjeonpab
open Go.ChangeShapes Go.WideShapes Go.ChangeAt Go.RowKit Go.Deep
theorem ints_trod {H : Type} {enc : TypeId × Value → H} {P : Program} {W : World} {t e : TypeId} {k : IntKind} {fuel : Nat} {v : Value} {x : DataW H × List MemPlace} (ht : P.underlying t = some (.slice e)) (he : P.underlying e = some (.int k)) (hc : P.cellsOf e = 1)
    (h : DataW.trod enc P W 0 (fun _ => true) true fuel t [v] = some x) : ∃ zs, IntsAt W k v zs ∧ (∀ n ∈ zs, (Lit.int k n).wf = true) ∧ zs.length ≤ maxLen := by
  rcases open_ints ht he hc h with ⟨hcs, _⟩ | ⟨a, len', cap', zs, hcs, _, hl, hm, hz, hx, hcell, hwz⟩
  · simp at hcs
    subst hcs
    exact ⟨[], ⟨none, 0, rfl, Nat.le_refl _, fun h => by simp at h⟩, fun n hn => by simp at hn, by simp⟩
  · simp at hcs
    subst hcs
    simp at hz
    have hlen : (zs.take len').length = len' := by simp; omega
    refine ⟨zs.take len', ⟨some a, cap', by rw [hlen], by omega, fun hp => ?_⟩, fun n hn => hwz n (List.mem_of_mem_take hn), by omega⟩
    obtain ⟨b, off, rfl, hc2⟩ := ints_at hcell (by omega)
    refine ⟨b, off, rfl, fun j hj => ?_⟩
    rw [hlen] at hj
    rw [hc2 j (by omega)]
    simp [at0, hj, List.getD]
theorem addr_none {W : World} {a : Addr} {v : Value} (h : W.cell? (a.add 0) = some v) : a = ⟨a.block, a.off, none⟩ := by
  obtain ⟨b, off, spot⟩ := a
  have hspot : spot = none := by simpa [Addr.add] using World.cell?_spot h
  subst hspot
  rfl
set_option maxRecDepth 10000 in
theorem cls_came {H : Type} {enc : TypeId × Value → H} {W : World} {v : Value} {d : DataW H} {p : List MemPlace} {base : Nat} {r : Reach}
    (hv : Value.okWide Try.prog W r base 22 v) (h : DataW.Trod enc Try.prog W 0 (fun _ => true) true 22 v d p) :
    ∃ cs, ClsAt W v cs ∧ (∀ j, j < cs.length → I32s (cR cs j)) ∧ cs.length ≤ maxLen ∧ (∀ j, j < cs.length → (cR cs j).length ≤ maxLen) := by
  obtain ⟨a0, len, cap, rfl⟩ := okWide_slice Try.underlying22 hv
  obtain ⟨fuel, hf⟩ := h
  rcases open_slice_pairs Try.underlying22 Try.underlying53 (by kernel_rfl) rfl rfl (by kernel_rfl) (by kernel_rfl) hf with ⟨hcs, _⟩ | ⟨a, len', cap', m, n, V0, V1, D0, D1, P0, P1, hcs, _, hl, hm, hmm, _, hx⟩
  · simp [Value.cells] at hcs
    obtain ⟨rfl, rfl, rfl⟩ := hcs
    exact ⟨[], ⟨[], none, 0, rfl, Nat.le_refl _, fun j hj => by simp at hj, fun h => by simp at h⟩, fun j hj => by simp at hj, by simp, fun j hj => by simp at hj⟩
  · simp [Value.cells] at hcs
    obtain ⟨rfl, rfl, rfl⟩ := hcs
    simp at hmm
    have each : ∀ i, i < len → ∃ q : List Int × Int, IntsAt W .i32 (V0 i) q.1 ∧ V1 i = .int .i64 q.2 ∧ I32s q.1 ∧ q.1.length ≤ maxLen := by
      intro i hi
      obtain ⟨_, _, t0, t1⟩ := hx i (by omega)
      obtain ⟨zs, z1, z2, z3⟩ := ints_trod Try.underlying51 Try.underlying21 (by kernel_rfl) t0
      obtain ⟨k, e1, _, _⟩ := DataW.trod_int Try.underlying3 t1
      simp at e1
      exact ⟨(zs, k), z1, e1, fun x hx => bounds_i32 (z2 x hx), z3⟩
    obtain ⟨q, hq⟩ := choose_lt each
    have hlen : ((List.range len).map q).length = len := by simp
    have hcr : ∀ j, j < len → cR ((List.range len).map q) j = (q j).1 := fun j hj => by simp [cR, hj]
    have hcw : ∀ j, j < len → cW ((List.range len).map q) j = (q j).2 := fun j hj => by simp [cW, hj]
    have hrv : ∀ j, j < len → rV ((List.range len).map V0) j = V0 j := fun j hj => by simp [rV, hj]
    refine ⟨(List.range len).map q, ⟨(List.range len).map V0, some a, cap, by rw [hlen], by omega, fun j hj => ?_, fun hp => ?_⟩, fun j hj => ?_, by omega, fun j hj => ?_⟩
    · rw [hlen] at hj
      rw [hrv j hj, hcr j hj]; exact (hq j hj).1
    · rw [hlen] at hp
      have ha := addr_none (by simpa using (hx 0 (by omega)).1)
      refine ⟨a.block, a.off, by rw [← ha], fun j hj => ?_⟩
      rw [hlen] at hj
      obtain ⟨c0, c1, _, _⟩ := hx j (by omega)
      rw [ha] at c0 c1
      rw [Addr.add_lit] at c0 c1
      rw [hrv j hj, hcw j hj]
      exact ⟨c0, by rw [← (hq j hj).2.1]; simpa [Nat.add_assoc] using c1⟩
    · rw [hlen] at hj
      rw [hcr j hj]; exact (hq j hj).2.2.1
    · rw [hlen] at hj
      rw [hcr j hj]; exact (hq j hj).2.2.2
end Go.Proofs.Ytkimnihdjeonpab
