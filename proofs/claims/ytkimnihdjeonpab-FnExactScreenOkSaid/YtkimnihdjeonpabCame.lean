import Derived.Test.YtkimnihdjeonpabFrame
import Derived.Test.YtkimnihdjeonpabRows12
import Derived.Deep.SlicePairs
import Derived.Deep.Strs
namespace Go.Proofs.Ytkimnihdjeonpab
open Go.ChangeShapes Go.WideShapes Go.ChangeAt Go.RowKit Go.Deep
theorem addr_plain {W : World} {a : Addr} {v : Value} (h : W.cell? (a.add 0) = some v) : a = ⟨a.block, a.off, none⟩ := by
  obtain ⟨b, off, spot⟩ := a
  have hspot : spot = none := by simpa [Addr.add] using World.cell?_spot h
  subst hspot
  rfl
theorem bytes_trod {H : Type} {enc : TypeId × Value → H} {P : Program} {W : World} {t e : TypeId} {k : IntKind} {fuel : Nat} {v : Value} {x : DataW H × List MemPlace} (ht : P.underlying t = some (.slice e)) (he : P.underlying e = some (.int k)) (hc : P.cellsOf e = 1)
    (h : DataW.trod enc P W 0 (fun _ => true) true fuel t [v] = some x) : ∃ zs, IntsAt W k v zs ∧ (∀ n ∈ zs, (Lit.int k n).wf = true) ∧ zs.length ≤ maxLen := by
  rcases open_ints ht he hc h with ⟨hcs, _⟩ | ⟨a, len', cap', zs, hcs, _, hl, hm, hz, hx, hcell, hwz⟩
  · simp at hcs
    subst hcs
    exact ⟨[], ⟨none, 0, rfl, Nat.le_refl _, fun h => by simp at h⟩, fun n hn => by simp at hn, by simp⟩
  · simp at hcs
    subst hcs
    simp at hz
    have hlen : (zs.take len').length = len' := by simp; omega
    refine ⟨zs.take len', ⟨some a, cap', by rw [hlen], by omega, fun hp => ?_⟩, fun n hn => hwz n (List.mem_of_mem_take hn), by omega⟩
    obtain ⟨b, off, rfl, hc2⟩ := ints_at hcell (by omega)
    refine ⟨b, off, rfl, fun j hj => ?_⟩
    rw [hlen] at hj
    rw [hc2 j (by omega)]
    simp [at0, hj, List.getD]
theorem strs_trod {H : Type} {enc : TypeId × Value → H} {P : Program} {W : World} {t e : TypeId} {fuel : Nat} {v : Value} {x : DataW H × List MemPlace} (ht : P.underlying t = some (.slice e)) (he : P.underlying e = some .string) (hc : P.cellsOf e = 1)
    (h : DataW.trod enc P W 0 (fun _ => true) true fuel t [v] = some x) : ∃ (n : Nat) (tx : Nat → ByteArray), Row1At W v n (fun j => .string (tx j)) ∧ n ≤ maxLen ∧ ∀ j, j < n → (tx j).size ≤ maxLen := by
  rcases open_strs ht he hc h with ⟨hcs, _⟩ | ⟨a, len, cap, m, Sx, hcs, _, hl, hm, hmm, _, hx⟩
  · simp at hcs
    subst hcs
    exact ⟨0, fun _ => { data := #[] }, ⟨none, 0, rfl, Nat.le_refl _, fun h => by omega⟩, by simp, fun j hj => by omega⟩
  · simp at hcs
    subst hcs
    simp at hmm
    refine ⟨len, Sx, ⟨some a, cap, rfl, hl, fun hp => ?_⟩, by omega, fun j hj => (hx j (by omega)).2⟩
    have ha := addr_plain (by simpa using (hx 0 (by omega)).1)
    refine ⟨a.block, a.off, by rw [← ha], fun j hj => ?_⟩
    have c0 := (hx j (by omega)).1
    rw [ha, Addr.add_lit] at c0
    exact c0
end Go.Proofs.Ytkimnihdjeonpab
