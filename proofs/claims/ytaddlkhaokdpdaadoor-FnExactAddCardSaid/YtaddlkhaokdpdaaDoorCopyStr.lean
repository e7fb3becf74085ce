import Derived.Test.YtaddlkhaokdpdaaDoorStrs
import Derived.Test.YtaddlkhaokdpdaaDoorBlocks
import Derived.Deep.AppendLies
import Derived.Deep.RegionHeldLaw
import Derived.Test.YtaddlkhaokdpdaaDoorApp
namespace Go.Proofs.YtaddlkhaokdpdaaDoor
open Go.RowKit
set_option maxRecDepth 10000 in
set_option maxHeartbeats 1000000 in
theorem l5Copy_some (ad : Addr) (n ca : Nat) (tx : Nat → ByteArray) (w : World) (hv : Row1At w (.slice (some ad) n ca) n (fun j => .string (tx j))) (hn : n ≤ 1048576) :
    Calls Tryd.prog 39 #[.slice (some ad) n ca] w fun e w' => ∃ g c, e = .returned (.slice (some ⟨g, 0, none⟩) n c) ∧ Own1 w' w.heap.size 9 (.slice (some ⟨g, 0, none⟩) n c) n (fun j => .string (tx j)) ∧ Ext w w' := by
  obtain ⟨ic, hic, hc0, hc1, hc2⟩ := info_parts infoStrs
  have HN := hide (strL_news (hv.ext ((Ext.refl w).alloc (.cells #[] 9))))
  have HO : Hid ((w.alloc (.cells #[] 9)).ownsRow w.heap.size 9 1 (.slice (some ⟨w.heap.size, 0, none⟩) 0 0) 0 []) := hide ⟨by simp, .inr ⟨w.heap.size, 0, #[], rfl, Nat.le_refl _, new_block w _, Nat.le_refl _, by unfold maxLen; omega, by simp, by simp⟩⟩
  clear hv
  go_enter Tryd.func39, Tryd.ntmps39
  go_wp2_with (at_builtin; go_must (refine wpList_append_own _ rfl _ _ 22 rfl w.heap.size 9 ic (.string { data := #[] }) 1 16 Tryd.underlying22 hic hc0 hc1 hc2 rfl (by decide) _ 0 [] rfl (unhide HO) ad n ca (strL tx n) rfl (strL_len _ _) (unhide HN) strL_one (by unfold maxLen; omega) (by omega) (by simp) ?_))
  intro v2 w2 o2 G2 hnil
  have E2 : Ext w w2 := ((Ext.refl w).alloc _).grown G2 (fun q hq => by simp [Value.ownBlock] at hq; omega)
  have O2 := own_strL o2
  rcases O2.form with ⟨rfl, _⟩ | ⟨g, c, rfl⟩
  · exact absurd rfl hnil
  have HO2 := hide O2
  clear O2 o2 G2 hnil
  go_wp2
  go_ret
  exact ⟨g, c, rfl, unhide HO2, E2⟩
set_option linter.unusedSimpArgs false in
set_option maxRecDepth 10000 in
set_option maxHeartbeats 1000000 in
theorem copyHistory_some (cap : Int) (ad : Addr) (n ca : Nat) (tx : Nat → ByteArray) (w : World) (hv : Row1At w (.slice (some ad) n ca) n (fun j => .string (tx j))) (hn : n ≤ 1048576) :
    Calls Tryd.prog 40 #[.agg #[.int .i64 cap, .slice (some ad) n ca]] w fun e w' => ∃ v, e = .returned (.agg #[.int .i64 cap, v]) ∧ Own1 w' w.heap.size 9 v n (fun j => .string (tx j)) ∧ Ext w w' := by
  obtain ⟨ic, hic, hc0, hc1, hc2⟩ := info_parts infoStrs
  have EU := ((Ext.refl w).alloc (.cells #[.int .i64 cap, .slice (some ad) n ca] 27)).alloc (.cells #[.int .i64 0, .slice none 0 0] 27)
  have p0 : ((w.alloc (.cells #[.int .i64 cap, .slice (some ad) n ca] 27)).alloc (.cells #[.int .i64 0, .slice none 0 0] 27)).cell? ⟨w.heap.size, 0, none⟩ = some (.int .i64 cap) := by simp [go_sem]
  have p1 : ((w.alloc (.cells #[.int .i64 cap, .slice (some ad) n ca] 27)).alloc (.cells #[.int .i64 0, .slice none 0 0] 27)).cell? ⟨w.heap.size, 1, none⟩ = some (.slice (some ad) n ca) := by simp [go_sem]
  have p2 : ((w.alloc (.cells #[.int .i64 cap, .slice (some ad) n ca] 27)).alloc (.cells #[.int .i64 0, .slice none 0 0] 27)).cell? ⟨w.heap.size + 1, 0, none⟩ = some (.int .i64 0) := by simp [go_sem]
  have p3 : ((w.alloc (.cells #[.int .i64 cap, .slice (some ad) n ca] 27)).alloc (.cells #[.int .i64 0, .slice none 0 0] 27)).cell? ⟨w.heap.size + 1, 1, none⟩ = some (.slice none 0 0) := by simp [go_sem]
  have z2 : ((w.alloc (.cells #[.int .i64 cap, .slice (some ad) n ca] 27)).alloc (.cells #[.int .i64 0, .slice none 0 0] 27)).frozen? ⟨w.heap.size + 1, 0, none⟩ = false := by simp [go_sem]
  have z3 : ((w.alloc (.cells #[.int .i64 cap, .slice (some ad) n ca] 27)).alloc (.cells #[.int .i64 0, .slice none 0 0] 27)).frozen? ⟨w.heap.size + 1, 1, none⟩ = false := by simp [go_sem]
  obtain ⟨U, hU⟩ : ∃ U, U = (w.alloc (.cells #[.int .i64 cap, .slice (some ad) n ca] 27)).alloc (.cells #[.int .i64 0, .slice none 0 0] 27) := ⟨_, rfl⟩
  have hz : U.heap.size = w.heap.size + 2 := by rw [hU]; simp
  rw [← hU] at EU p0 p1 p2 p3 z2 z3
  have HU := hide hU
  have HN := hide (strL_news (hv.ext EU.drew))
  clear hv hU
  go_enter Tryd.func40, Tryd.ntmps40
  go_wp2
  rw [← unhide HU]
  clear HU
  refine wp_region_held_drew (S := fun W => W.cell? ⟨w.heap.size, 0, none⟩ = some (.int .i64 cap) ∧ W.cell? ⟨w.heap.size, 1, none⟩ = some (.slice (some ad) n ca)) (by kernel_rfl) ⟨p0, p1⟩ (fun hHeld => ?_)
  refine wpAnyH_take (i := 0) (v := ?_) rfl (by kernel_rfl) (by kernel_rfl) (by kernel_rfl) (fun _ _ _ h => h) (Or.inl ⟨by rfl, ?_⟩) (by assumption) ?_
  rotate_left
  · intro w' hSw; go_simp <;> with_reducible rfl
  simp only [Act.put, q9]
  refine wpAnyH_take (i := 1) (v := ?_) rfl (by kernel_rfl) (by kernel_rfl) (by kernel_rfl) (fun _ _ _ h => h) (Or.inl ⟨by rfl, ?_⟩) (by assumption) ?_
  rotate_left
  · intro w' hSw; go_simp <;> with_reducible rfl
  simp only [Act.put, q9]
  refine wpAnyH_take (i := 2) (v := ?_) rfl (by kernel_rfl) (by kernel_rfl) (by kernel_rfl) (fun _ _ _ h => h) (Or.inl ⟨by rfl, ?_⟩) (by assumption) ?_
  rotate_left
  · intro w' hSw; go_simp <;> with_reducible rfl
  simp only [Act.put, q9]
  refine wpAnyH_take (i := 3) (v := ?_) rfl (by kernel_rfl) (by kernel_rfl) (by kernel_rfl) (fun _ _ _ h => h) (Or.inl ⟨by rfl, ?_⟩) (by assumption) ?_
  rotate_left
  · intro w' hSw; go_simp <;> with_reducible rfl
  simp only [Act.put, q9]
  refine wpAnyH_ready (rs := [4]) (by kernel_rfl) (by simp) ?_
  refine AllReadyH.cons rfl (fun K hK => ?_) AllReadyH.nil
  refine step_append_own rfl _ _ 22 rfl (w.heap.size + 2) 9 ic (.string { data := #[] }) 1 16 Tryd.underlying22 hic hc0 hc1 hc2 rfl (by decide) (.slice none 0 0) 0 [] rfl ⟨rfl, .inl ⟨rfl, rfl⟩⟩ ad n ca (strL tx n) rfl (by simp [strL]) (unhide HN) strL_one (by unfold maxLen; omega) (by omega) (by simp; omega) ?_
  intro v2 w2 o2 G2 _
  have E2 : Ext U w2 := (Ext.refl U).drew.trans G2
  have O2 := own_strL (by simpa using o2)
  obtain ⟨a2, c2, rfl⟩ := O2.slice
  have HO2 := hide O2
  clear o2 O2 G2
  obtain ⟨_, hfz⟩ := E2.rules
  have f2 : w2.frozen? ⟨w.heap.size + 1, 0, none⟩ = false := by rw [hfz _ _ (by omega)]; exact z2
  have f3 : w2.frozen? ⟨w.heap.size + 1, 1, none⟩ = false := by rw [hfz _ _ (by omega)]; exact z3
  have q0 := E2.cell p0
  have q1 := E2.cell p1
  have q2 := E2.cell p2
  have q3 := E2.cell p3
  refine hK.out _ _ ⟨q0, q1⟩ (fun hHeld => ?_)
  clear hK K
  refine wpAnyH_take (i := 5) (v := ?_) rfl (by kernel_rfl) (by kernel_rfl) (by kernel_rfl) (fun _ _ _ h => h) (Or.inl ⟨by rfl, ?_⟩) (by assumption) ?_
  rotate_left
  · intro w' hSw; go_simp <;> with_reducible rfl
  simp only [Act.put, q9]
  refine wpAnyH_ready (rs := [6]) (by kernel_rfl) (by simp) ?_
  refine AllReadyH.cons rfl (fun K hK => ?_) AllReadyH.nil
  go_simp
  have t0 : ((w2.setCell ⟨w.heap.size + 1, 0, none⟩ (.int .i64 cap)).setCell ⟨w.heap.size + 1, 1, none⟩ (.slice a2 n c2)).cell? ⟨w.heap.size, 0, none⟩ = some (.int .i64 cap) := by
    rw [World.cell?_setCell_other _ _ _ _ (by simp), World.cell?_setCell_other _ _ _ _ (by simp)]; exact q0
  have t1 : ((w2.setCell ⟨w.heap.size + 1, 0, none⟩ (.int .i64 cap)).setCell ⟨w.heap.size + 1, 1, none⟩ (.slice a2 n c2)).cell? ⟨w.heap.size, 1, none⟩ = some (.slice (some ad) n ca) := by
    rw [World.cell?_setCell_other _ _ _ _ (by simp), World.cell?_setCell_other _ _ _ _ (by simp)]; exact q1
  refine hK.out _ _ ⟨t0, t1⟩ (fun hHeld => ?_)
  refine wpAnyH_done (by kernel_rfl) ?_ _
  have r1 : ((w2.setCell ⟨w.heap.size + 1, 0, none⟩ (.int .i64 cap)).setCell ⟨w.heap.size + 1, 1, none⟩ (.slice a2 n c2)).cell? ⟨w.heap.size + 1, 1, none⟩ = some (.slice a2 n c2) :=
    World.cell?_setCell_same _ _ _ (by rw [World.cell?_setCell_other _ _ _ _ (by simp)]; exact q3)
  have r0 : ((w2.setCell ⟨w.heap.size + 1, 0, none⟩ (.int .i64 cap)).setCell ⟨w.heap.size + 1, 1, none⟩ (.slice a2 n c2)).cell? ⟨w.heap.size + 1, 0, none⟩ = some (.int .i64 cap) := by
    rw [World.cell?_setCell_other _ _ _ _ (by simp)]; exact World.cell?_setCell_same _ _ _ q2
  have hne : (Value.slice a2 n c2).ownBlock ≠ some (w.heap.size + 1) := by
    intro e
    have := ((unhide HO2).lt _ e).1
    omega
  have HO3 := hide ((((unhide HO2).away ⟨w.heap.size + 1, 0, none⟩ hne (.int .i64 cap))).away ⟨w.heap.size + 1, 1, none⟩ hne (.slice a2 n c2))
  have E3 : Ext w ((w2.setCell ⟨w.heap.size + 1, 0, none⟩ (.int .i64 cap)).setCell ⟨w.heap.size + 1, 1, none⟩ (.slice a2 n c2)) := ((EU.trans E2).setCell (by dsimp only; omega) _).setCell (by dsimp only; omega) _
  clear t0 t1 hHeld
  go_wp2
  refine bodyPost_ret (v := .agg #[.int .i64 cap, .slice a2 n c2]) (by simp [results, Tryd.results40, go_sem, r0, r1]) rfl ⟨_, rfl, (unhide HO3).mono (by omega), E3⟩
end Go.Proofs.YtaddlkhaokdpdaaDoor
