import Derived.Test.YtokjpnlmkecleaaGreatDoorYkP
import Derived.Laws.StructEq
namespace Go.Proofs.YtokjpnlmkecleaaGreatDoor
open Go.RowKit
theorem snap_fields : Tryz.prog.underlying 49 = some (.struct (Tryz.prog.fieldsOf 49)) := by kernel_rfl
theorem snap_held : Tryz.prog.stoodInHeld 49 = false := by kernel_rfl
theorem snap_guard : Tryz.prog.eqGuardType Tryz.prog.depth 49 = false := by kernel_rfl
theorem snap_fs : (Tryz.prog.fieldsOf 49).toList = [⟨ "Left", 9, 0, false, "", "", 0⟩, ⟨ "Right", 9, 1, false, "", "", 16⟩] := by kernel_rfl
theorem snap_neq (s t : ByteArray) (w : World) : (binOp .neq 49 (.agg #[.string s, .string t]) (.agg #[.string s, .string t])).run Tryz.prog w = .ok (.bool false) w := by
  rw [run_neq_struct, run_equalIn_agg w _ _ _ _ snap_fields snap_held, snap_fs]
  simp [go_sem]
theorem snap_gd (s t s' t' : ByteArray) (x y : Operand) (w : World) : (eqGuard .neq 49 x y (.agg #[.string s, .string t]) (.agg #[.string s', .string t'])).run Tryz.prog w = .ok () w := run_eqGuard_agg w _ _ _ _ _ _ snap_guard
theorem neq_op {P : Program} {a : Act} {o : Oper} {w : World} {T T' : TypeId} {x y : Operand} {X Y : Value} (ho : o.op = .binOp .neq T x y T') (hx : a.eval x = X) (hy : a.eval y = Y) (hg : (eqGuard .neq T x y X Y).run P w = .ok () w) (hb : (binOp .neq T X Y).run P w = .ok (.bool false) w) : (execOp a.eval o).run P w = .ok (.value (.bool false)) w := by
  simp [execOp, ho, hx, hy, Sem.run_bind, hg, hb, Result.andThen]
set_option linter.unusedSimpArgs false in
set_option maxRecDepth 10000 in
set_option maxHeartbeats 4000000 in
theorem SameLine_any (a b c : ByteArray) (un : List (ByteArray × ByteArray)) (v v' : Value) (w : World) (hv : LnAt w v un) (hv' : LnAt w v' un) (hn : un.length ≤ 1048576) :
    Calls Tryz.prog 20 #[.agg #[.string a, .string b, .string c, v], .agg #[.string a, .string b, .string c, v']] w fun e w' => e = .returned (.bool true) ∧ Ext w w' := by
  have infoS : (Tryz.prog.info? 49).map (·.size) = some 2 := by kernel_rfl
  obtain ⟨ao, ca, rfl, hca, hxa⟩ := hv
  obtain ⟨bo, cb, rfl, hcb, hxb⟩ := hv'
  have HA := hide hxa
  have HB := hide hxb
  clear hxa hxb
  go_enter Tryz.func20, Tryz.ntmps20
  go_wp2_with fail
  have EW := ((Ext.refl w).alloc (.cells #[.string a, .string b, .string c, .slice ao un.length ca] 25)).alloc (.cells #[.string a, .string b, .string c, .slice bo un.length cb] 25)
  have b0 := ((Ext.refl _).alloc (.cells #[.string a, .string b, .string c, .slice bo un.length cb] 25)).kept (new_block w (.cells #[.string a, .string b, .string c, .slice ao un.length ca] 25))
  have b1 := new_block (w.alloc (.cells #[.string a, .string b, .string c, .slice ao un.length ca] 25)) (.cells #[.string a, .string b, .string c, .slice bo un.length cb] 25)
  have hz : (w.alloc (.cells #[.string a, .string b, .string c, .slice ao un.length ca] 25)).heap.size = w.heap.size + 1 := by simp
  rw [hz] at b1
  clear hz
  generalize (w.alloc (.cells #[.string a, .string b, .string c, .slice ao un.length ca] 25)).alloc (.cells #[.string a, .string b, .string c, .slice bo un.length cb] 25) = W at *
  have p3 := cells_of b0 3 _ rfl
  have q3 := cells_of b1 3 _ rfl
  clear b0 b1
  go_loopw [5] (fun i wr => ∃ k : Nat, k ≤ un.length ∧ i = .int .i64 k ∧ Ext W wr) (fun i _ => un.length - (intOf i).toNat)
  case atStart => exact ⟨0, Nat.zero_le _, rfl, Ext.refl _⟩
  case round =>
    obtain ⟨k, hk, rfl, hE⟩ := hrel
    have p3' := hE.cell p3
    have q3' := hE.cell q3
    by_cases hlt : k < un.length
    · obtain ⟨b1, o1, h1, hc1⟩ := (unhide HA) (by omega)
      obtain ⟨b2, o2, h2, hc2⟩ := (unhide HB) (by omega)
      subst h1
      subst h2
      have g1 := hE.cell (EW.cell (hc1 k hlt).1)
      have g2 := hE.cell (EW.cell (hc1 k hlt).2)
      have g3 := hE.cell (EW.cell (hc2 k hlt).1)
      have g4 := hE.cell (EW.cell (hc2 k hlt).2)
      have bk : (k : Int) < (un.length : Int) := by omega
      have hne := fun X => snap_neq (lnT un k) (lnH un k) X
      have hgd := fun x y X => snap_gd (lnT un k) (lnH un k) (lnT un k) (lnH un k) x y X
      clear hc1 hc2 p3 q3
      go_wp2
      refine wp_region_held_drew (S := fun X => X.cell? ⟨w.heap.size, 3, none⟩ = some (.slice (some ⟨b1, o1, none⟩) un.length ca) ∧ X.cell? ⟨w.heap.size + 1, 3, none⟩ = some (.slice (some ⟨b2, o2, none⟩) un.length cb) ∧ X.cell? ⟨b1, o1 + k * 2, none⟩ = some (.string (lnT un k)) ∧ X.cell? ⟨b1, o1 + k * 2 + 1, none⟩ = some (.string (lnH un k)) ∧ X.cell? ⟨b2, o2 + k * 2, none⟩ = some (.string (lnT un k)) ∧ X.cell? ⟨b2, o2 + k * 2 + 1, none⟩ = some (.string (lnH un k))) (by kernel_rfl) ⟨p3', q3', g1, g2, g3, g4⟩ (fun hHeld => ?_)
      refine wpAnyH_take (i := 0) (v := ?_) rfl (by kernel_rfl) (by kernel_rfl) (by kernel_rfl) (fun _ _ _ h => h) (Or.inl ⟨by rfl, ?_⟩) (by assumption) ?_
      rotate_left
      · intro w' hSw; obtain ⟨s1, s2, s3, s4, s5, s6⟩ := hSw; go_simp <;> with_reducible rfl
      simp only [Act.put, qA, qB, qC, qD, qE, qF]
      refine wpAnyH_take (i := 1) (v := ?_) rfl (by kernel_rfl) (by kernel_rfl) (by kernel_rfl) (fun _ _ _ h => h) (Or.inl ⟨by rfl, ?_⟩) (by assumption) ?_
      rotate_left
      · intro w' hSw; obtain ⟨s1, s2, s3, s4, s5, s6⟩ := hSw; go_simp <;> with_reducible rfl
      simp only [Act.put, qA, qB, qC, qD, qE, qF]
      refine wpAnyH_take (i := 2) (v := ?_) rfl (by kernel_rfl) (by kernel_rfl) (by kernel_rfl) (fun _ _ _ h => h) (Or.inl ⟨by rfl, ?_⟩) (by assumption) ?_
      rotate_left
      · intro w' hSw; obtain ⟨s1, s2, s3, s4, s5, s6⟩ := hSw; go_simp <;> with_reducible rfl
      simp only [Act.put, qA, qB, qC, qD, qE, qF]
      refine wpAnyH_take (i := 3) (v := ?_) rfl (by kernel_rfl) (by kernel_rfl) (by kernel_rfl) (fun _ _ _ h => h) (Or.inl ⟨by rfl, ?_⟩) (by assumption) ?_
      rotate_left
      · intro w' hSw; obtain ⟨s1, s2, s3, s4, s5, s6⟩ := hSw; go_simp <;> with_reducible rfl
      simp only [Act.put, qA, qB, qC, qD, qE, qF]
      refine wpAnyH_take (i := 4) (v := ?_) rfl (by kernel_rfl) (by kernel_rfl) (by kernel_rfl) (fun _ _ _ h => h) (Or.inl ⟨by rfl, ?_⟩) (by assumption) ?_
      rotate_left
      · intro w' hSw; obtain ⟨s1, s2, s3, s4, s5, s6⟩ := hSw; go_simp <;> with_reducible rfl
      simp only [Act.put, qA, qB, qC, qD, qE, qF]
      refine wpAnyH_take (i := 5) (v := ?_) rfl (by kernel_rfl) (by kernel_rfl) (by kernel_rfl) (fun _ _ _ h => h) (Or.inl ⟨by rfl, ?_⟩) (by assumption) ?_
      rotate_left
      · intro w' hSw; obtain ⟨s1, s2, s3, s4, s5, s6⟩ := hSw; go_simp <;> with_reducible rfl
      simp only [Act.put, qA, qB, qC, qD, qE, qF]
      refine wpAnyH_take (i := 6) (v := ?_) rfl (by kernel_rfl) (by kernel_rfl) (by kernel_rfl) (fun _ _ _ h => h) (Or.inl ⟨by rfl, ?_⟩) (by assumption) ?_
      rotate_left
      · intro w' hSw; obtain ⟨s1, s2, s3, s4, s5, s6⟩ := hSw; go_simp <;> with_reducible rfl
      simp only [Act.put, qA, qB, qC, qD, qE, qF]
      refine wpAnyH_take (i := 7) (v := ?_) rfl (by kernel_rfl) (by kernel_rfl) (by kernel_rfl) (fun _ _ _ h => h) (Or.inl ⟨by rfl, ?_⟩) (by assumption) ?_
      rotate_left
      · intro w' hSw; obtain ⟨s1, s2, s3, s4, s5, s6⟩ := hSw; go_simp <;> with_reducible rfl
      simp only [Act.put, qA, qB, qC, qD, qE, qF]
      refine wpAnyH_take (i := 8) (v := ?_) rfl (by kernel_rfl) (by kernel_rfl) (by kernel_rfl) (fun _ _ _ h => h) (Or.inl ⟨by rfl, ?_⟩) (by assumption) ?_
      rotate_left
      · intro w' hSw; obtain ⟨s1, s2, s3, s4, s5, s6⟩ := hSw; go_simp <;> with_reducible rfl
      simp only [Act.put, qA, qB, qC, qD, qE, qF]
      refine wpAnyH_take (i := 9) (v := ?_) rfl (by kernel_rfl) (by kernel_rfl) (by kernel_rfl) (fun _ _ _ h => h) (Or.inl ⟨by rfl, ?_⟩) (by assumption) ?_
      rotate_left
      · intro w' hSw; obtain ⟨s1, s2, s3, s4, s5, s6⟩ := hSw; go_simp <;> with_reducible rfl
      simp only [Act.put, qA, qB, qC, qD, qE, qF]
      refine wpAnyH_take (i := 10) (v := .bool false) rfl (by kernel_rfl) (by kernel_rfl) (by kernel_rfl) (fun _ _ _ h => h) (Or.inl ⟨by rfl, ?_⟩) (by assumption) ?_
      · intro w' hSw; exact neq_op rfl rfl rfl (hgd _ _ _) (hne _)
      simp only [Act.put, qA, qB, qC, qD, qE, qF]
      refine wpAnyH_done (by kernel_rfl) ?_ _
      go_wp2
      go_roundw
      case rel => exact ⟨k + 1, by omega, by go_num, hE.drew⟩
      case measure => simp [intOf]; omega
    · have bk : ¬ (k : Int) < (un.length : Int) := by omega
      go_wp2
      exact bodyPost_ret (v := .bool true) (by simp [results, Tryz.results20, go_sem]) rfl ⟨rfl, EW.trans hE⟩
end Go.Proofs.YtokjpnlmkecleaaGreatDoor

namespace Go.Proofs.YtokjpnlmkecleaaGreatDoor
open Go.RowKit
theorem edA_sm2 {a b c : ByteArray} {un : List (ByteArray × ByteArray)} (h : Sm2 a b c un) (kd : Int) (rs : List Int) : Sm2 (edA a b c un kd rs).a (edA a b c un kd rs).b (edA a b c un kd rs).c (edA a b c un kd rs).un := by
  unfold edA
  split
  · rename_i hP
    exact (okL_sml (edF_ok hP kd rs)).two
  · exact h
theorem str_ne2 {s t : ByteArray} (h : s ≠ t) : (s.toList == t.toList) = false := by
  rw [beq_eq_false_iff_ne, toList_data, toList_data]
  exact fun e => h (WideShapes.bytes_inj e)
end Go.Proofs.YtokjpnlmkecleaaGreatDoor
