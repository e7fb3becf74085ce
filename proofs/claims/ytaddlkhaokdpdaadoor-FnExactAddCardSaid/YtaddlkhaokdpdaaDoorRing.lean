import Derived.Test.YtaddlkhaokdpdaaDoorStrs
import Derived.Test.YtaddlkhaokdpdaaDoorBlocks
import Derived.Deep.RegionHeldLaw
namespace Go.Proofs.YtaddlkhaokdpdaaDoor
open Go.RowKit
def RingAt (w : World) (g : Nat) (tx : Nat → ByteArray) (beg n : Nat) : Prop :=
  (∀ i, i < 100 → w.cell? ⟨g, i, none⟩ = some (.string (tx i)) ∧ w.frozen? ⟨g, i, none⟩ = false) ∧
  (w.cell? ⟨g, 100, none⟩ = some (.int .i64 beg) ∧ w.frozen? ⟨g, 100, none⟩ = false) ∧ w.cell? ⟨g, 101, none⟩ = some (.int .i64 n) ∧ w.frozen? ⟨g, 101, none⟩ = false
theorem RingAt.ext {w w' : World} {g : Nat} {tx : Nat → ByteArray} {beg n : Nat} (h : RingAt w g tx beg n) (he : Ext w w') : RingAt w' g tx beg n := by
  obtain ⟨h1, ⟨h2, h3⟩, h4, h5⟩ := h
  have hg := lt_of_cell h2
  obtain ⟨_, hf⟩ := he.rules
  exact ⟨fun i hi => ⟨he.cell (h1 i hi).1, by rw [hf _ _ hg]; exact (h1 i hi).2⟩, ⟨he.cell h2, by rw [hf _ _ hg]; exact h3⟩, he.cell h4, by rw [hf _ _ hg]; exact h5⟩
theorem rem100 (a b : Nat) (ha : a ≤ 100) (hb : b ≤ 100) : (IntKind.i64.wrap ((a : Int) + (b : Int))).tmod 100 = (((a + b) % 100 : Nat) : Int) := by
  rw [IntKind.wrap_i64]
  have e : ((a : Int) + (b : Int) + 9223372036854775808) % 18446744073709551616 - 9223372036854775808 = ((a + b : Nat) : Int) := by omega
  first
    | rw [e]
    | skip
  rw [Int.tmod_eq_emod_of_nonneg (by omega)]
  omega
theorem RingAt.put {w : World} {g : Nat} {tx : Nat → ByteArray} {beg n : Nat} (h : RingAt w g tx beg n) (q : Nat) (hq : q < 100) (t : ByteArray) : RingAt (w.setCell ⟨g, q, none⟩ (.string t)) g (fun i => if i = q then t else tx i) beg n := by
  obtain ⟨h1, ⟨h2, h3⟩, h4, h5⟩ := h
  refine ⟨fun i hi => ⟨?_, by rw [World.frozen?_setCell]; exact (h1 i hi).2⟩, ⟨?_, by rw [World.frozen?_setCell]; exact h3⟩, ?_, by rw [World.frozen?_setCell]; exact h5⟩
  · by_cases e : i = q
    · subst e
      dsimp only
      rw [if_pos rfl]
      exact World.cell?_setCell_same _ _ _ (h1 i hi).1
    · dsimp only
      rw [if_neg e, World.cell?_setCell_other _ _ _ _ (by simp <;> omega)]
      exact (h1 i hi).1
  · rw [World.cell?_setCell_other _ _ _ _ (by simp <;> omega)]
    exact h2
  · rw [World.cell?_setCell_other _ _ _ _ (by simp <;> omega)]
    exact h4
theorem RingAt.count {w : World} {g : Nat} {tx : Nat → ByteArray} {beg n : Nat} (h : RingAt w g tx beg n) (m : Nat) : RingAt (w.setCell ⟨g, 101, none⟩ (.int .i64 m)) g tx beg m := by
  obtain ⟨h1, ⟨h2, h3⟩, h4, h5⟩ := h
  refine ⟨fun i hi => ⟨?_, by rw [World.frozen?_setCell]; exact (h1 i hi).2⟩, ⟨?_, by rw [World.frozen?_setCell]; exact h3⟩, World.cell?_setCell_same _ _ _ h4, by rw [World.frozen?_setCell]; exact h5⟩
  · rw [World.cell?_setCell_other _ _ _ _ (by simp <;> omega)]
    exact (h1 i hi).1
  · rw [World.cell?_setCell_other _ _ _ _ (by simp)]
    exact h2
theorem RingAt.begin {w : World} {g : Nat} {tx : Nat → ByteArray} {beg n : Nat} (h : RingAt w g tx beg n) (m : Nat) : RingAt (w.setCell ⟨g, 100, none⟩ (.int .i64 m)) g tx m n := by
  obtain ⟨h1, ⟨h2, h3⟩, h4, h5⟩ := h
  refine ⟨fun i hi => ⟨?_, by rw [World.frozen?_setCell]; exact (h1 i hi).2⟩, ⟨World.cell?_setCell_same _ _ _ h2, by rw [World.frozen?_setCell]; exact h3⟩, ?_, by rw [World.frozen?_setCell]; exact h5⟩
  · rw [World.cell?_setCell_other _ _ _ _ (by simp <;> omega)]
    exact (h1 i hi).1
  · rw [World.cell?_setCell_other _ _ _ _ (by simp)]
    exact h4
def Keeps (g : Nat) (w w' : World) : Prop := ∀ w0 : World, w0.heap.size ≤ g → Ext w0 w → Ext w0 w'
theorem ringLen : Tryd.prog.arrayLen 63 = 100 := by kernel_rfl
theorem ringElem : Tryd.prog.elem 63 = 9 := by kernel_rfl
theorem ringUnd : Tryd.prog.underlying 63 = some (.array (Tryd.prog.arrayLen 63) (Tryd.prog.elem 63)) := by kernel_rfl
theorem idx_ring (g q : Nat) (hq : q < 100) (W : World) : (Instr.indexAt 63 (.pointer (some ⟨g, 0, none⟩)) (.int .i64 q)).run Tryd.prog W = .ok (.pointer (some ⟨g, q, none⟩)) W := by
  rw [run_indexAt_array _ _ _ _ _ ringUnd, ringLen, ringElem, if_pos (by omega), Tryd.sizeOf9]
  simp [Addr.add_lit, Result.andThen]
theorem idx_step (g q : Nat) (hq : q < 100) (W : World) : (do let x ← Instr.indexAt 63 (.pointer (some ⟨g, 0, none⟩)) (.int .i64 q); pure (Next.value x) : Sem Next).run Tryd.prog W = .ok (.value (.pointer (some ⟨g, q, none⟩))) W := by
  rw [Sem.run_bind, idx_ring g q hq W]
  rfl
set_option maxRecDepth 10000 in
set_option maxHeartbeats 1000000 in
theorem place_any (g beg i : Nat) (w : World) (hb : beg ≤ 100) (hi : i ≤ 100) (h100 : w.cell? ⟨g, 100, none⟩ = some (.int .i64 beg)) :
    Calls Tryd.prog 53 #[.pointer (some ⟨g, 0, none⟩), .int .i64 i] w fun e w' => e = .returned (.int .i64 (((beg + i) % 100 : Nat) : Int)) ∧ w' = w := by
  have hr := rem100 beg i hb hi
  have hr2 : IntKind.i64.wrap ((((beg + i) % 100 : Nat) : Int)) = (((beg + i) % 100 : Nat) : Int) := by rw [IntKind.wrap_i64]; omega
  go_enter Tryd.func53, Tryd.ntmps53
  go_wp2
  go_ret
  exact ⟨rfl, rfl⟩
set_option linter.unusedSimpArgs false in
set_option maxRecDepth 10000 in
set_option maxHeartbeats 1000000 in
theorem at_any (g beg n i : Nat) (tx : Nat → ByteArray) (w : World) (hb : beg ≤ 100) (hi : i ≤ 100) (hR : RingAt w g tx beg n) :
    Calls Tryd.prog 37 #[.pointer (some ⟨g, 0, none⟩), .int .i64 i] w fun e w' => e = .returned (.string (tx ((beg + i) % 100))) ∧ Ext w w' := by
  have h100 := hR.2.1.1
  have hc := (hR.1 ((beg + i) % 100) (by omega)).1
  have hp := hide (fun W (hW : Ext w W) => place_any g beg i W hb hi (hW.cell h100))
  obtain ⟨q, hq⟩ : ∃ q, q = (beg + i) % 100 := ⟨_, rfl⟩
  have hq1 : q < 100 := by omega
  rw [← hq] at hp hc ⊢
  clear hR hq
  go_enter Tryd.func37, Tryd.ntmps37
  go_wp2
  refine wp_region_held_drew (S := fun W => W.cell? ⟨g, 100, none⟩ = some (.int .i64 beg) ∧ W.cell? ⟨g, q, none⟩ = some (.string (tx q))) (by kernel_rfl) ⟨h100, hc⟩ (fun hHeld => ?_)
  refine wpAnyH_take (i := 0) (v := ?_) rfl (by kernel_rfl) (by kernel_rfl) (by kernel_rfl) (fun _ _ _ h => h) (Or.inl ⟨by rfl, ?_⟩) (by assumption) ?_
  rotate_left
  · intro w' hSw; go_simp <;> with_reducible rfl
  simp only [Act.put, q9]
  refine wpAnyH_take (i := 1) (v := ?_) rfl (by kernel_rfl) (by kernel_rfl) (by kernel_rfl) (fun _ _ _ h => h) (Or.inl ⟨by rfl, ?_⟩) (by assumption) ?_
  rotate_left
  · intro w' hSw; go_simp <;> with_reducible rfl
  simp only [Act.put, q9]
  refine wpAnyH_take (i := 2) (v := ?_) rfl (by kernel_rfl) (by kernel_rfl) (by kernel_rfl) (fun _ _ _ h => h) (Or.inl ⟨by rfl, ?_⟩) (by assumption) ?_
  rotate_left
  · intro w' hSw; go_simp <;> with_reducible rfl
  simp only [Act.put, q9]
  refine wpAnyH_take (i := 4) (v := ?_) rfl (by kernel_rfl) (by kernel_rfl) (by kernel_rfl) (fun _ _ _ h => h) (Or.inl ⟨by rfl, ?_⟩) (by assumption) ?_
  rotate_left
  · intro w' hSw; go_simp <;> with_reducible rfl
  simp only [Act.put, q9]
  refine wpAnyH_take (i := 5) (v := ?_) rfl (by kernel_rfl) (by kernel_rfl) (by kernel_rfl) (fun _ _ _ h => h) (Or.inl ⟨by rfl, ?_⟩) (by assumption) ?_
  rotate_left
  · intro w' hSw; go_simp <;> with_reducible rfl
  simp only [Act.put, q9]
  refine wpAnyH_ready (rs := [3]) (by kernel_rfl) (by simp) ?_
  refine AllReadyH.cons rfl (fun K hK => ?_) AllReadyH.nil
  go_simp
  go_wp2_with (go_at_call 53; refine ((unhide hp) _ (Ext.refl w).drew).mono ?_; rintro e w1 ⟨rfl, rfl⟩)
  refine hK.out _ _ ⟨h100, hc⟩ (fun hHeld => ?_)
  clear hK K
  refine wpAnyH_take (i := 6) (v := .pointer (some ⟨g, q, none⟩)) rfl (by kernel_rfl) (by kernel_rfl) (by kernel_rfl) (fun _ _ _ h => h) (Or.inl ⟨by rfl, fun W _ => idx_step g q hq1 W⟩) (by assumption) ?_
  simp only [Act.put, q9]
  refine wpAnyH_take (i := 7) (v := ?_) rfl (by kernel_rfl) (by kernel_rfl) (by kernel_rfl) (fun _ _ _ h => h) (Or.inl ⟨by rfl, ?_⟩) (by assumption) ?_
  rotate_left
  · intro w' hSw; go_simp <;> with_reducible rfl
  simp only [Act.put, q9]
  refine wpAnyH_take (i := 8) (v := ?_) rfl (by kernel_rfl) (by kernel_rfl) (by kernel_rfl) (fun _ _ _ h => h) (Or.inl ⟨by rfl, ?_⟩) (by assumption) ?_
  rotate_left
  · intro w' hSw; go_simp <;> with_reducible rfl
  simp only [Act.put, q9]
  refine wpAnyH_done (by kernel_rfl) ?_ _
  go_wp2
  go_ret
  exact ⟨rfl, (Ext.refl _).drew⟩
set_option linter.unusedSimpArgs false in
set_option maxRecDepth 10000 in
set_option maxHeartbeats 1000000 in
theorem push_any (g beg n : Nat) (tx : Nat → ByteArray) (t : ByteArray) (w : World) (hb : beg ≤ 100) (hn : n < 100) (hR : RingAt w g tx beg n) :
    Calls Tryd.prog 42 #[.pointer (some ⟨g, 0, none⟩), .string t] w fun e w' => e = .returned (.tuple #[]) ∧ RingAt w' g (fun i => if i = (beg + n) % 100 then t else tx i) beg (n + 1) ∧ Keeps g w w' := by
  have h100 := hR.2.1.1
  have h101 := hR.2.2.1
  have hc := (hR.1 ((beg + n) % 100) (by omega)).1
  have hf := (hR.1 ((beg + n) % 100) (by omega)).2
  have hp := hide (fun W (hW : Ext w W) => place_any g beg n W hb (by omega) (hW.cell h100))
  obtain ⟨q, hq⟩ : ∃ q, q = (beg + n) % 100 := ⟨_, rfl⟩
  have hq1 : q < 100 := by omega
  rw [← hq] at hp hc hf ⊢
  have HR := hide hR
  clear hR hq
  go_enter Tryd.func42, Tryd.ntmps42
  go_wp2
  refine wp_region_held_drew (S := fun W => W.cell? ⟨g, 101, none⟩ = some (.int .i64 n)) (by kernel_rfl) h101 (fun hHeld => ?_)
  refine wpAnyH_take (i := 0) (v := ?_) rfl (by kernel_rfl) (by kernel_rfl) (by kernel_rfl) (fun _ _ _ h => h) (Or.inl ⟨by rfl, ?_⟩) (by assumption) ?_
  rotate_left
  · intro w' hSw; go_simp <;> with_reducible rfl
  simp only [Act.put, q9]
  refine wpAnyH_take (i := 1) (v := ?_) rfl (by kernel_rfl) (by kernel_rfl) (by kernel_rfl) (fun _ _ _ h => h) (Or.inl ⟨by rfl, ?_⟩) (by assumption) ?_
  rotate_left
  · intro w' hSw; go_simp <;> with_reducible rfl
  simp only [Act.put, q9]
  refine wpAnyH_take (i := 2) (v := ?_) rfl (by kernel_rfl) (by kernel_rfl) (by kernel_rfl) (fun _ _ _ h => h) (Or.inl ⟨by rfl, ?_⟩) (by assumption) ?_
  rotate_left
  · intro w' hSw; go_simp <;> with_reducible rfl
  simp only [Act.put, q9]
  refine wpAnyH_take (i := 3) (v := ?_) rfl (by kernel_rfl) (by kernel_rfl) (by kernel_rfl) (fun _ _ _ h => h) (Or.inl ⟨by rfl, ?_⟩) (by assumption) ?_
  rotate_left
  · intro w' hSw; go_simp <;> with_reducible rfl
  simp only [Act.put, q9]
  refine wpAnyH_take (i := 4) (v := ?_) rfl (by kernel_rfl) (by kernel_rfl) (by kernel_rfl) (fun _ _ _ h => h) (Or.inl ⟨by rfl, ?_⟩) (by assumption) ?_
  rotate_left
  · intro w' hSw; go_simp <;> with_reducible rfl
  simp only [Act.put, q9]
  refine wpAnyH_take (i := 5) (v := ?_) rfl (by kernel_rfl) (by kernel_rfl) (by kernel_rfl) (fun _ _ _ h => h) (Or.inl ⟨by rfl, ?_⟩) (by assumption) ?_
  rotate_left
  · intro w' hSw; go_simp <;> with_reducible rfl
  simp only [Act.put, q9]
  refine wpAnyH_take (i := 7) (v := ?_) rfl (by kernel_rfl) (by kernel_rfl) (by kernel_rfl) (fun _ _ _ h => h) (Or.inl ⟨by rfl, ?_⟩) (by assumption) ?_
  rotate_left
  · intro w' hSw; go_simp <;> with_reducible rfl
  simp only [Act.put, q9]
  refine wpAnyH_take (i := 8) (v := ?_) rfl (by kernel_rfl) (by kernel_rfl) (by kernel_rfl) (fun _ _ _ h => h) (Or.inl ⟨by rfl, ?_⟩) (by assumption) ?_
  rotate_left
  · intro w' hSw; go_simp <;> with_reducible rfl
  simp only [Act.put, q9]
  refine wpAnyH_take (i := 9) (v := ?_) rfl (by kernel_rfl) (by kernel_rfl) (by kernel_rfl) (fun _ _ _ h => h) (Or.inl ⟨by rfl, ?_⟩) (by assumption) ?_
  rotate_left
  · intro w' hSw; go_simp <;> with_reducible rfl
  simp only [Act.put, q9]
  refine wpAnyH_ready (rs := [6]) (by kernel_rfl) (by simp) ?_
  refine AllReadyH.cons rfl (fun K hK => ?_) AllReadyH.nil
  go_simp
  go_wp2_with (go_at_call 53; refine ((unhide hp) _ (Ext.refl w).drew).mono ?_; rintro e w1 ⟨rfl, rfl⟩)
  refine hK.out _ _ h101 (fun hHeld => ?_)
  clear hK K
  refine wpAnyH_take (i := 10) (v := .pointer (some ⟨g, q, none⟩)) rfl (by kernel_rfl) (by kernel_rfl) (by kernel_rfl) (fun _ _ _ h => h) (Or.inl ⟨by rfl, fun W _ => idx_step g q hq1 W⟩) (by assumption) ?_
  simp only [Act.put, q9]
  refine wpAnyH_ready (rs := [11]) (by kernel_rfl) (by simp) ?_
  refine AllReadyH.cons rfl (fun K hK => ?_) AllReadyH.nil
  have RU := ((unhide HR).put q hq1 t).ext (Ext.refl _).drew
  go_simp
  refine hK.out _ _ RU.2.2.1 (fun hHeld => ?_)
  clear hK K
  refine wpAnyH_done (by kernel_rfl) ?_ _
  have hK : Keeps g w ((w.setCell ⟨g, q, none⟩ (.string t)).drew) := fun w0 h0 he => (he.setCell h0 _).drew
  obtain ⟨U, hU⟩ : ∃ U, U = (w.setCell ⟨g, q, none⟩ (.string t)).drew := ⟨_, rfl⟩
  rw [← hU] at RU hK ⊢
  have c101 := RU.2.2.1
  have f101 := RU.2.2.2
  have hwn : IntKind.i64.wrap ((n : Int) + 1) = ((n + 1 : Nat) : Int) := by rw [IntKind.wrap_i64]; omega
  have HRU := hide (RU.count (n + 1))
  clear RU hU hHeld
  go_wp2
  refine bodyPost_end (v := .tuple #[]) (by simp [results, Tryd.results42, go_sem]) rfl ⟨rfl, unhide HRU, fun w0 h0 he => (hK w0 h0 he).setCell h0 _⟩
set_option maxRecDepth 10000 in
set_option maxHeartbeats 1000000 in
theorem dropFirst_any (g beg n : Nat) (tx : Nat → ByteArray) (w : World) (hb : beg ≤ 100) (hn : n < 100) (hR : RingAt w g tx beg (n + 1)) :
    Calls Tryd.prog 41 #[.pointer (some ⟨g, 0, none⟩)] w fun e w' => e = .returned (.tuple #[]) ∧ RingAt w' g tx ((beg + 1) % 100) n ∧ Keeps g w w' := by
  have h100 := hR.2.1.1
  have f100 := hR.2.1.2
  have hp := hide (place_any g beg 1 w hb (by omega) h100)
  obtain ⟨q, hq⟩ : ∃ q, q = (beg + 1) % 100 := ⟨_, rfl⟩
  rw [← hq] at hp ⊢
  have RU := hR.begin q
  have c101 := RU.2.2.1
  have f101 := RU.2.2.2
  have HRU := hide (RU.count n)
  have hwn : IntKind.i64.wrap (((n + 1 : Nat) : Int) - 1) = (n : Int) := by rw [IntKind.wrap_i64]; omega
  have hK : Keeps g w (w.setCell ⟨g, 100, none⟩ (.int .i64 (q : Int))) := fun w0 h0 he => he.setCell h0 _
  clear RU hR hq
  go_enter Tryd.func41, Tryd.ntmps41
  go_wp2_with fail
  refine (unhide hp).mono ?_
  rintro e w1 ⟨rfl, rfl⟩
  go_wp2
  refine bodyPost_end (v := .tuple #[]) (by simp [results, Tryd.results41, go_sem]) rfl ⟨rfl, unhide HRU, fun w0 h0 he => (hK w0 h0 he).setCell h0 _⟩
end Go.Proofs.YtaddlkhaokdpdaaDoor
