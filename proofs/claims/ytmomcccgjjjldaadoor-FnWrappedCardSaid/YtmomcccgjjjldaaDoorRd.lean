import Derived.Test.YtmomcccgjjjldaaDoorSettle
import Derived.Test.YtmomcccgjjjldaaDoorClsMark
import Derived.Deep.RegionHeld
namespace Go.Proofs.YtmomcccgjjjldaaDoor
open Go.RowKit
def RdAt (w : World) (D : Nat) (v : Value) (bs : List Int) (p : Nat) : Prop :=
  w.cell? ⟨D, 0, none⟩ = some v ∧ w.cell? ⟨D, 1, none⟩ = some (.int .i64 (p : Int)) ∧ w.frozen? ⟨D, 1, none⟩ = false ∧ IntsAt w .u8 v bs ∧ p ≤ bs.length ∧ (0 < bs.length → ∃ b off n c, v = .slice (some ⟨b, off, none⟩) n c ∧ b ≠ D)
theorem RdAt.ext {w w' : World} {D : Nat} {v : Value} {bs : List Int} {p : Nat} (h : RdAt w D v bs p) (he : Ext w w') : RdAt w' D v bs p :=
  ⟨he.cell h.1, he.cell h.2.1, by rw [he.rules.2 _ _ (lt_of_cell h.1)]; exact h.2.2.1, h.2.2.2.1.ext he, h.2.2.2.2⟩
set_option maxHeartbeats 400000 in
theorem l1Open_any (v : Value) (bs : List Int) (w : World) (hv : IntsAt w .u8 v bs) (hl : bs.length ≤ 16777216) :
    Calls Tryd.prog 13 #[v] w fun e w' => e = .returned (.pointer (some ⟨w.heap.size, 0, none⟩)) ∧ (∃ v', RdAt w' w.heap.size v' (bs.take 1000) 0) ∧ Ext w w' := by
  have HV := hide hv
  obtain ⟨ao, cap, rfl, hcap, hx⟩ := hv
  have HX := hide hx
  clear hx
  by_cases h : 1000 < bs.length
  · have h2 : (1000 : Int) < (bs.length : Int) := by omega
    have h3 : (1000 : Int) ≤ (cap : Int) := by omega
    obtain ⟨b, off, rfl, hc⟩ := (unhide HX) (by omega)
    have HC := hide hc
    clear hc
    go_enter Tryd.func13, Tryd.ntmps13
    go_wp2
    go_ret
    refine ⟨rfl, ⟨.slice (some ⟨b, off, none⟩) 1000 cap, by simp [go_sem], by simp [go_sem], by simp [go_sem], ?_, by simp, fun _ => ⟨b, off, _, _, rfl, ?_⟩⟩, (Ext.refl _).alloc _⟩
    rotate_left
    · have := lt_of_cell ((unhide HC) 0 (by omega))
      omega
    have hlen : (bs.take 1000).length = 1000 := by simp; omega
    refine IntsAt.ext (w := w) ⟨some ⟨b, off, none⟩, cap, by rw [hlen], by omega, fun _ => ⟨b, off, rfl, fun j hj => ?_⟩⟩ ((Ext.refl _).alloc _)
    rw [hlen] at hj
    rw [(unhide HC) j (by omega)]
    simp [at0, hj]
  · have h2 : ¬ (1000 : Int) < (bs.length : Int) := by omega
    have ht : bs.take 1000 = bs := List.take_of_length_le (by omega)
    have HT := hide ht
    clear ht
    go_enter Tryd.func13, Tryd.ntmps13
    go_wp2
    go_ret
    refine ⟨rfl, ⟨.slice ao bs.length cap, by simp [go_sem], by simp [go_sem], by simp [go_sem], ?_, by simp, ?_⟩, (Ext.refl _).alloc _⟩
    · rw [unhide HT]
      exact (unhide HV).ext ((Ext.refl _).alloc _)
    · intro hp
      rw [unhide HT] at hp
      obtain ⟨b, off, rfl, hc⟩ := (unhide HX) hp
      have := lt_of_cell (hc 0 hp)
      exact ⟨b, off, _, _, rfl, by omega⟩
theorem RdAt.step {w : World} {D : Nat} {v : Value} {bs : List Int} {p : Nat} (h : RdAt w D v bs p) (hp : p < bs.length) : RdAt (w.setCell ⟨D, 1, none⟩ (.int .i64 ((p : Int) + 1))) D v bs (p + 1) := by
  obtain ⟨h0, h1, h2, h3, h4, h5⟩ := h
  obtain ⟨b, off, n, c, rfl, hbD⟩ := h5 (by omega)
  refine ⟨by simp [go_sem, h0], World.cell?_setCell_same _ _ _ h1, by simpa [go_sem] using h2, ?_, by omega, h5⟩
  obtain ⟨ao', cap', e4, hcap', hx'⟩ := h3
  refine ⟨ao', cap', e4, hcap', fun hp' => ?_⟩
  obtain ⟨b2, off2, e5, hc2⟩ := hx' hp'
  subst e5
  injection e4 with e6
  injection e6 with e7
  injection e7 with e8
  subst e8
  exact ⟨b, off2, rfl, fun j hj => by rw [World.cell?_setCell_far _ _ _ _ (fun e => hbD e.symm)]; exact hc2 j hj⟩
set_option maxHeartbeats 400000 in
theorem next_any (D : Nat) (v : Value) (bs : List Int) (p : Nat) (w : World) (h : RdAt w D v bs p) (hB : Bytes bs) (hl : bs.length ≤ 16777216) :
    Calls Tryd.prog 14 #[.pointer (some ⟨D, 0, none⟩)] w fun e w' => e = .returned (.int .i64 (at0 bs p)) ∧ RdAt w' D v bs (if p < bs.length then p + 1 else p) ∧ Fr (fun k => k = D) w w' := by
  have HR := hide h
  obtain ⟨h0, h1, h2, h3, h4, h5⟩ := h
  obtain ⟨ao, cap, rfl, hcap, hx⟩ := h3
  clear h5
  by_cases hp : p < bs.length
  · rw [if_pos hp]
    obtain ⟨b, off, rfl, hc⟩ := hx (by omega)
    have c0 := hc p hp
    have hb := hB.at0 p
    obtain ⟨x, hx⟩ : ∃ x, x = at0 bs p := ⟨_, rfl⟩
    rw [← hx] at c0 hb ⊢
    have bp : (p : Int) < (bs.length : Int) := by omega
    clear hc hx
    have hw : IntKind.i64.wrap ((p : Int) + 1) = (p : Int) + 1 := by rw [IntKind.wrap_i64]; omega
    have hw2 : IntKind.i64.wrap x = x := by rw [IntKind.wrap_i64]; omega
    have HP := hide hp
    go_enter Tryd.func14, Tryd.ntmps14
    go_wp2
    go_quiet (fail)
    go_wp2
    go_quiet (fail)
    go_wp2
    go_ret
    refine ⟨rfl, RdAt.step ((unhide HR).ext ?_) (unhide HP), (Fr.of_ext (S := fun k => k = D) ?_).setCell (a := ⟨D, 1, none⟩) rfl _⟩
    all_goals repeat' first | exact Ext.refl _ | refine Ext.drewN ?_ _ | refine Ext.drew ?_
  · rw [if_neg hp]
    have ha : Hid (at0 bs p = 0) := by show _ = _; unfold at0; rw [List.getElem?_eq_none (by omega)]; rfl
    have bp : ¬ (p : Int) < (bs.length : Int) := by omega
    go_enter Tryd.func14, Tryd.ntmps14
    go_wp2
    go_quiet (fail)
    go_wp2
    go_ret
    exact ⟨by rw [ha.out]; rfl, (unhide HR).ext ((Ext.refl _).drewN _), Fr.of_ext ((Ext.refl _).drewN _)⟩
theorem left_any (D : Nat) (v : Value) (bs : List Int) (p : Nat) (w : World) (h : RdAt w D v bs p) (hl : bs.length ≤ 16777216) :
    Calls Tryd.prog 16 #[.pointer (some ⟨D, 0, none⟩)] w fun e w' => e = .returned (.int .i64 ((bs.length : Int) - (p : Int))) ∧ Ext w w' := by
  obtain ⟨h0, h1, h2, h3, h4, h5⟩ := h
  obtain ⟨ao, cap, rfl, hcap, hx⟩ := h3
  have hw : IntKind.i64.wrap ((bs.length : Int) - (p : Int)) = (bs.length : Int) - (p : Int) := by rw [IntKind.wrap_i64]; omega
  go_enter Tryd.func16, Tryd.ntmps16
  go_wp2
  go_quiet (fail)
  go_wp2
  go_ret
  exact ⟨rfl, (Ext.refl _).drewN _⟩
end Go.Proofs.YtmomcccgjjjldaaDoor
