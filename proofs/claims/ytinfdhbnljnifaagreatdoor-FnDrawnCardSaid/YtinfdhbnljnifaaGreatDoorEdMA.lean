import Derived.Test.YtinfdhbnljnifaaGreatDoorWhole
import Derived.Test.YtinfdhbnljnifaaGreatDoorEdU
import Derived.Deep.RegionHeld3
import Derived.Deep.RegionHeldLaw
namespace Go.Proofs.YtinfdhbnljnifaaGreatDoor
open Go.RowKit
theorem ad_eq (g p : Nat) : (some (⟨g, p * 2, none⟩ : Addr)) = Option.map (fun x : Addr => x.add (p * 2)) (some (⟨g, 0, none⟩ : Addr)) := by
 by_cases h : p * 2 = 0 <;> simp [Addr.add, h]
set_option linter.unusedSimpArgs false in
set_option maxRecDepth 10000 in
set_option maxHeartbeats 8000000 in
theorem zhM (a b c : ByteArray) (v : Value) (un : List (ByteArray × ByteArray)) (w : World) (hv : zb3 w v un) (hn : un.length ≤ 50) (za : a.size ≤ 1048576) (zb : b.size ≤ 1048576) (hN : 1 ≤ (zn (baL a)).length ∧ 1 ≤ (zn (baL b)).length) :
  Calls Tryz.prog 141 #[.agg #[.string a, .string b, .string c, v]] w fun e w' => LnO w' w.heap.size (zcp a b c un (zo (zy ((zn (baL a)).take ((zn (baL a)).length - 1)) ++ zy ((zn (baL b)).take 1) ++ zy ((zn (baL a)).drop ((zn (baL a)).length - 1)))) (zo (zy ((zn (baL b)).drop 1)))) e ∧ Ext w w' := by
 have infoL : (Tryz.prog.info? 99).map (·.size) = some 4 := by kernel_rfl
 have hcA := zh (fun W => zan (baL a) (zf a) W (by rw [zw]; omega))
 have hcB := zh (fun W => zan (baL b) (zf b) W (by rw [zw]; omega))
 rw [zat] at hcA hcB
 have HCA := zh (zaE (baL a))
 have HCB := zh (zaE (baL b))
 rw [zw] at HCA HCB
 have lA := zau (baL a)
 have lB := zau (baL b)
 rw [zw] at lA lB
 obtain ⟨ao, ca, rfl, _, _⟩ := id hv
 have HC := zh (fun W (E : Ext w W) => zaq a b c (.slice ao un.length ca) un.length (lnT un) (lnH un) W (zag.ext hv E) (by omega))
 have HS := zh (fun l r W (E : Ext w W) => zaT a b c l r (.slice ao un.length ca) un.length (lnT un) (lnH un) W (zag.ext hv E) hn)
 rw [zb4] at HS
 clear hv
 obtain ⟨A, hA⟩ : ∃ A, A = zn (baL a) := ⟨_, rfl⟩
 obtain ⟨B, hB⟩ : ∃ B, B = zn (baL b) := ⟨_, rfl⟩
 rw [← hA, ← hB] at hN
 rw [← hA] at hcA lA HCA
 rw [← hB] at hcB lB HCB
 obtain ⟨nA, hnA⟩ : ∃ n, A.length = n := ⟨_, rfl⟩
 obtain ⟨nB, hnB⟩ : ∃ n, B.length = n := ⟨_, rfl⟩
 rw [hnA] at lA
 rw [hnB] at lB
 rw [hnA, hnB] at hN
 obtain ⟨h1, h2⟩ := hN
 have HNA := zh hnA
 have HNB := zh hnB
 have HXA := zh hA
 have HXB := zh hB
 clear hA hB hnA hnB
 obtain ⟨V, hV⟩ : ∃ V, V = (w.alloc (.cells #[.string a, .string b, .string c, .slice ao un.length ca] 99)).alloc (.cells zL4 99) := ⟨_, rfl⟩
 have E0 : Ext w V := by rw [hV]; exact ((Ext.refl w).alloc _).alloc _
 have HB0 : Hid (V.heap[w.heap.size]? = some (.cells #[.string a, .string b, .string c, .slice ao un.length ca] 99 (0, 0))) := zh (by rw [hV]; exact ((Ext.refl _).alloc _).kept (zk w _))
 have HB1 : Hid (V.heap[w.heap.size + 1]? = some (.cells zL4 99 (0, 0))) := zh (by rw [hV]; have h := zk (w.alloc (.cells #[.string a, .string b, .string c, .slice ao un.length ca] 99)) (.cells zL4 99); rw [show (w.alloc (.cells #[.string a, .string b, .string c, .slice ao un.length ca] 99)).heap.size = w.heap.size + 1 by simp] at h; exact h)
 have sz0 : w.heap.size + 1 < V.heap.size := zq (zu HB1)
 have HW := zh hV
 have HE0 := zh E0
 clear hV E0
 go_enter Tryz.func141, Tryz.ntmps141
 go_wp2_with fail
 rw [← zu HW]
 clear HW
 refine ((zu hcA) _).mono ?_
 rintro e w2 ⟨v2, rs2, rfl, o2, E2⟩
 obtain ⟨a2, c2, rfl⟩ : ∃ a c, v2 = .slice a A.length c := by
  obtain ⟨_, ao, cc, e, _⟩ := o2.cls
  exact ⟨ao, cc, e⟩
 have H2 := zh o2
 rw [zu HNA] at H2 ⊢
 replace HB0 := E2.hk HB0
 replace HB1 := E2.hk HB1
 replace HE0 := Hid.ht HE0 E2
 have q1 := zg (zu HB0) 1 _ rfl
 have z2 := E2.size
 clear o2 E2 hcA
 go_wp2_with fail
 refine ((zu hcB) _).mono ?_
 rintro e w3 ⟨v3, rs3, rfl, o3, E3⟩
 obtain ⟨a3, c3, rfl⟩ : ∃ a c, v3 = .slice a B.length c := by
  obtain ⟨_, ao, cc, e, _⟩ := o3.cls
  exact ⟨ao, cc, e⟩
 have H3 := zh o3
 rw [zu HNB] at H3 ⊢
 replace H2 := zh ((zu H2).ext E3)
 replace HB0 := E3.hk HB0
 replace HB1 := E3.hk HB1
 replace HE0 := Hid.ht HE0 E3
 have z3 := E3.size
 clear o3 E3 hcB q1
 have hc2 : nA ≤ c2 := by
  obtain ⟨_, _, _, e9, h9, _⟩ := (zu H2).cls
  obtain ⟨_, _, rfl⟩ := Value.slice.inj e9
  rw [zu HNA] at h9
  exact h9
 have hc3 : nB ≤ c3 := by
  obtain ⟨_, _, _, e9, h9, _⟩ := (zu H3).cls
  obtain ⟨_, _, rfl⟩ := Value.slice.inj e9
  rw [zu HNB] at h9
  exact h9
 obtain ⟨p, hp⟩ : ∃ p, nA - 1 = p := ⟨_, rfl⟩
 have hw : IntKind.i64.wrap ((nA : Int) - 1) = (p : Int) := by rw [IntKind.wrap_i64]; omega
 have g1 : (1 : Int) ≤ (nA : Int) := by omega
 have g2 : (1 : Int) ≤ (nB : Int) := by omega
 have g3 : (p : Int) ≤ (c2 : Int) := by omega
 have g4 : (0 : Int) ≤ (p : Int) := by omega
 have g5 : (p : Int) ≤ (nA : Int) := by omega
 have g6 : (nA : Int) ≤ (c2 : Int) := by omega
 have g7 : (1 : Int) ≤ (c3 : Int) := by omega
 have g8 : (nB : Int) ≤ (c3 : Int) := by omega
 have g9 : ¬ c2 = p := by omega
 have g10 : ¬ c3 = 0 := by omega
 obtain ⟨ga, hga⟩ : ∃ g, a2 = some ⟨g, 0, none⟩ := by
  obtain ⟨_, ⟨ys, hy, _⟩, _⟩ := zu H2
  rcases hy.2 with ⟨_, e0⟩ | ⟨g, cc, cur, e0, _⟩
  ·rw [zu HNA] at e0; omega
  ·exact ⟨g, (Value.slice.inj e0).1⟩
 subst hga
 obtain ⟨gb, hgb⟩ : ∃ g, a3 = some ⟨g, 0, none⟩ := by
  obtain ⟨_, ⟨ys, hy, _⟩, _⟩ := zu H3
  rcases hy.2 with ⟨_, e0⟩ | ⟨g, cc, cur, e0, _⟩
  ·rw [zu HNB] at e0; omega
  ·exact ⟨g, (Value.slice.inj e0).1⟩
 subst hgb
 have HX1 := zh (fun v W (hv : zaF W v ((A.take p).drop 0)) => zaf v _ W hv (by have := ((zu HCA).part 0 p).1; omega) (fun j _ => ((zu HCA).part 0 p).2 j))
 obtain ⟨X1, hX1⟩ : ∃ x, x = zo (zy ((A.take p).drop 0)) := ⟨_, rfl⟩
 rw [← hX1] at HX1
 have zX1 : X1.size ≤ 100000000 := by
  rw [hX1, zai]
  have h8 := ((zu HCA).part 0 p).1
  have h9 := zch ((A.take p).drop 0) ((A.take p).drop 0).length
  unfold zy
  omega
 have HX2 := zh (fun v W (hv : zaF W v ((B.take 1).drop 0)) => zaf v _ W hv (by have := ((zu HCB).part 0 1).1; omega) (fun j _ => ((zu HCB).part 0 1).2 j))
 obtain ⟨X2, hX2⟩ : ∃ x, x = zo (zy ((B.take 1).drop 0)) := ⟨_, rfl⟩
 rw [← hX2] at HX2
 have zX2 : X2.size ≤ 100000000 := by
  rw [hX2, zai]
  have h8 := ((zu HCB).part 0 1).1
  have h9 := zch ((B.take 1).drop 0) ((B.take 1).drop 0).length
  unfold zy
  omega
 have HX3 := zh (fun v W (hv : zaF W v ((A.take nA).drop p)) => zaf v _ W hv (by have := ((zu HCA).part p nA).1; omega) (fun j _ => ((zu HCA).part p nA).2 j))
 obtain ⟨X3, hX3⟩ : ∃ x, x = zo (zy ((A.take nA).drop p)) := ⟨_, rfl⟩
 rw [← hX3] at HX3
 have zX3 : X3.size ≤ 100000000 := by
  rw [hX3, zai]
  have h8 := ((zu HCA).part p nA).1
  have h9 := zch ((A.take nA).drop p) ((A.take nA).drop p).length
  unfold zy
  omega
 have HX4 := zh (fun v W (hv : zaF W v ((B.take nB).drop 1)) => zaf v _ W hv (by have := ((zu HCB).part 1 nB).1; omega) (fun j _ => ((zu HCB).part 1 nB).2 j))
 obtain ⟨X4, hX4⟩ : ∃ x, x = zo (zy ((B.take nB).drop 1)) := ⟨_, rfl⟩
 rw [← hX4] at HX4
 have zX4 : X4.size ≤ 100000000 := by
  rw [hX4, zai]
  have h8 := ((zu HCB).part 1 nB).1
  have h9 := zch ((B.take nB).drop 1) ((B.take nB).drop 1).length
  unfold zy
  omega
 have CX1 : Hid (zaF w3 (.slice (some ⟨ga, 0, none⟩) (p - 0) c2) ((A.take p).drop 0)) := zh (by
  have hcl := (zu H2).cls
  rw [← zu HNA] at hcl
  exact hcl.cut 0 p c2 (by omega) (by rw [zu HNA]; omega) (by omega) (some ⟨ga, 0, none⟩) (.inl rfl))
 have CX2 : Hid (zaF w3 (.slice (some ⟨gb, 0, none⟩) (1 - 0) c3) ((B.take 1).drop 0)) := zh (by
  have hcl := (zu H3).cls
  rw [← zu HNB] at hcl
  exact hcl.cut 0 1 c3 (by omega) (by rw [zu HNB]; omega) (by omega) (some ⟨gb, 0, none⟩) (.inl rfl))
 have CX3 : Hid (zaF w3 (.slice (some ⟨ga, p * 2, none⟩) (nA - p) (c2 - p)) ((A.take nA).drop p)) := zh (by
  have hcl := (zu H2).cls
  rw [← zu HNA] at hcl
  exact hcl.cut p nA (c2 - p) (by omega) (by rw [zu HNA]; omega) (by omega) (some ⟨ga, p * 2, none⟩) (.inl (ad_eq _ _)))
 have HXO : Hid (zcp a b c un (zo (zy ((zn (baL a)).take ((zn (baL a)).length - 1)) ++ zy ((zn (baL b)).take 1) ++ zy ((zn (baL a)).drop ((zn (baL a)).length - 1)))) (zo (zy ((zn (baL b)).drop 1))) = ⟨X1 ++ X2 ++ X3, X4, c, zav un (a, b), 1⟩) := zh (by
  rw [hX1, hX2, hX3, hX4, zfk, zfk, ← zu HXA, ← zu HXB, zu HNA, hp, List.drop_zero, List.drop_zero, ← zu HNA, List.take_length, ← zu HNB, List.take_length]
  rfl)
 have s5 : (X1 ++ X2).size = X1.size + X2.size := ByteArray.size_append
 have s6 : ¬ 9223372036854775807 < X1.size + X2.size := by omega
 have s7 : ¬ 9223372036854775807 < X1.size + X2.size + X3.size := by omega
 have s8 : ¬ 9223372036854775807 < (X1 ++ X2).size + X3.size := by omega
 have q0 : w3.cell? ⟨w.heap.size, 0, none⟩ = some (.string a) ∧ w3.cell? ⟨w.heap.size, 1, none⟩ = some (.string b) ∧ w3.cell? ⟨w.heap.size, 2, none⟩ = some (.string c) ∧ w3.cell? ⟨w.heap.size, 3, none⟩ = some (.slice ao un.length ca) := ⟨zg (zu HB0) 0 _ rfl, zg (zu HB0) 1 _ rfl, zg (zu HB0) 2 _ rfl, zg (zu HB0) 3 _ rfl⟩
 clear hX1 hX2 hX3 hX4 hp HC
 by_cases hc1 : c3 = 1
 ·have hnB1 : nB = 1 := by omega
  subst hc1
  subst hnB1
  have CX4 : Hid (zaF w3 (.slice (some ⟨gb, 0, none⟩) 0 0) ((B.take 1).drop 1)) := zh (by
   have hcl := (zu H3).cls
   rw [← zu HNB] at hcl
   have := hcl.cut 1 1 0 (by omega) (by rw [zu HNB]; omega) (by omega) (some ⟨gb, 0, none⟩) (.inr (by omega))
   exact this)
  clear H2 H3
  go_wp2_with fail
  refine wp_region_held_drew (S := fun W => W.cell? ⟨w.heap.size, 0, none⟩ = some (.string a) ∧ W.cell? ⟨w.heap.size, 1, none⟩ = some (.string b) ∧ W.cell? ⟨w.heap.size, 2, none⟩ = some (.string c) ∧ W.cell? ⟨w.heap.size, 3, none⟩ = some (.slice ao un.length ca)) (by kernel_rfl) q0 (fun hHeld => ?_)
  refine tk 0 ?_ rfl (by kernel_rfl) (fun _ _ _ h => h) (by rfl) ?_ (by assumption) ?_
  rotate_left
  ·intro w' hSw; go_simp <;> with_reducible rfl
  simp only [Act.put, qA, qB, qC, qD, qE, qF]
  refine tk 1 ?_ rfl (by kernel_rfl) (fun _ _ _ h => h) (by rfl) ?_ (by assumption) ?_
  rotate_left
  ·intro w' hSw; go_simp <;> with_reducible rfl
  simp only [Act.put, qA, qB, qC, qD, qE, qF]
  refine tk 2 ?_ rfl (by kernel_rfl) (fun _ _ _ h => h) (by rfl) ?_ (by assumption) ?_
  rotate_left
  ·intro w' hSw; go_simp <;> with_reducible rfl
  simp only [Act.put, qA, qB, qC, qD, qE, qF]
  refine tk 3 ?_ rfl (by kernel_rfl) (fun _ _ _ h => h) (by rfl) ?_ (by assumption) ?_
  rotate_left
  ·intro w' hSw; go_simp <;> with_reducible rfl
  simp only [Act.put, qA, qB, qC, qD, qE, qF]
  refine tk 4 ?_ rfl (by kernel_rfl) (fun _ _ _ h => h) (by rfl) ?_ (by assumption) ?_
  rotate_left
  ·intro w' hSw; go_simp <;> with_reducible rfl
  simp only [Act.put, qA, qB, qC, qD, qE, qF]
  refine tk 6 ?_ rfl (by kernel_rfl) (fun _ _ _ h => h) (by rfl) ?_ (by assumption) ?_
  rotate_left
  ·intro w' hSw; go_simp <;> with_reducible rfl
  simp only [Act.put, qA, qB, qC, qD, qE, qF]
  refine tk 7 ?_ rfl (by kernel_rfl) (fun _ _ _ h => h) (by rfl) ?_ (by assumption) ?_
  rotate_left
  ·intro w' hSw; go_simp <;> with_reducible rfl
  simp only [Act.put, qA, qB, qC, qD, qE, qF]
  refine tk 10 ?_ rfl (by kernel_rfl) (fun _ _ _ h => h) (by rfl) ?_ (by assumption) ?_
  rotate_left
  ·intro w' hSw; go_simp <;> with_reducible rfl
  simp only [Act.put, qA, qB, qC, qD, qE, qF]
  refine tk 11 ?_ rfl (by kernel_rfl) (fun _ _ _ h => h) (by rfl) ?_ (by assumption) ?_
  rotate_left
  ·intro w' hSw; go_simp <;> with_reducible rfl
  simp only [Act.put, qA, qB, qC, qD, qE, qF]
  refine tk 12 ?_ rfl (by kernel_rfl) (fun _ _ _ h => h) (by rfl) ?_ (by assumption) ?_
  rotate_left
  ·intro w' hSw; go_simp <;> with_reducible rfl
  simp only [Act.put, qA, qB, qC, qD, qE, qF]
  refine tk 13 ?_ rfl (by kernel_rfl) (fun _ _ _ h => h) (by rfl) ?_ (by assumption) ?_
  rotate_left
  ·intro w' hSw; go_simp <;> with_reducible rfl
  simp only [Act.put, qA, qB, qC, qD, qE, qF]
  refine tk 16 ?_ rfl (by kernel_rfl) (fun _ _ _ h => h) (by rfl) ?_ (by assumption) ?_
  rotate_left
  ·intro w' hSw; go_simp <;> with_reducible rfl
  simp only [Act.put, qA, qB, qC, qD, qE, qF]
  refine tk 17 ?_ rfl (by kernel_rfl) (fun _ _ _ h => h) (by rfl) ?_ (by assumption) ?_
  rotate_left
  ·intro w' hSw; go_simp <;> with_reducible rfl
  simp only [Act.put, qA, qB, qC, qD, qE, qF]
  refine rdy 5 (by kernel_rfl) rfl (fun K hK => ?_)
  go_simp
  go_wp2_with (go_at_call 139; refine ((zu HX1) _ _ ((zu CX1).ext (by first | exact Ext.refl _ | exact (Ext.refl _).drew))).mono ?_; rintro e w4 ⟨rfl, E⟩; have F4 : Ext w3 w4 := (by first | exact E | exact (Ext.refl _).drew.trans E); have dF4 := F4.kept (zu HB0); clear E)
  refine hK.out _ _ ⟨zg dF4 0 _ rfl, zg dF4 1 _ rfl, zg dF4 2 _ rfl, zg dF4 3 _ rfl⟩ (fun hHeld => ?_)
  clear hK K
  refine rdy 8 (by kernel_rfl) rfl (fun K hK => ?_)
  go_simp
  go_wp2_with (go_at_call 139; refine ((zu HX2) _ _ ((zu CX2).ext (by first | exact F4 | exact F4.drew))).mono ?_; rintro e w6 ⟨rfl, E⟩; have F6 : Ext w3 w6 := (by first | exact F4.trans E | exact F4.drew.trans E); have dF6 := F6.kept (zu HB0); clear E)
  refine hK.out _ _ ⟨zg dF6 0 _ rfl, zg dF6 1 _ rfl, zg dF6 2 _ rfl, zg dF6 3 _ rfl⟩ (fun hHeld => ?_)
  clear hK K
  refine tk 9 ?_ rfl (by kernel_rfl) (fun _ _ _ h => h) (by rfl) ?_ (by assumption) ?_
  rotate_left
  ·intro w' hSw; go_simp <;> with_reducible rfl
  simp only [Act.put, qA, qB, qC, qD, qE, qF]
  refine rdy 14 (by kernel_rfl) rfl (fun K hK => ?_)
  go_simp
  go_wp2_with (go_at_call 139; refine ((zu HX3) _ _ ((zu CX3).ext (by first | exact F6 | exact F6.drew))).mono ?_; rintro e w7 ⟨rfl, E⟩; have F7 : Ext w3 w7 := (by first | exact F6.trans E | exact F6.drew.trans E); have dF7 := F7.kept (zu HB0); clear E)
  refine hK.out _ _ ⟨zg dF7 0 _ rfl, zg dF7 1 _ rfl, zg dF7 2 _ rfl, zg dF7 3 _ rfl⟩ (fun hHeld => ?_)
  clear hK K
  refine tk 15 ?_ rfl (by kernel_rfl) (fun _ _ _ h => h) (by rfl) ?_ (by assumption) ?_
  rotate_left
  ·intro w' hSw; go_simp <;> with_reducible rfl
  simp only [Act.put, qA, qB, qC, qD, qE, qF]
  refine rdy 18 (by kernel_rfl) rfl (fun K hK => ?_)
  go_simp
  go_wp2_with (go_at_call 139; refine ((zu HX4) _ _ ((zu CX4).ext (by first | exact F7 | exact F7.drew))).mono ?_; rintro e w8 ⟨rfl, E⟩; have F8 : Ext w3 w8 := (by first | exact F7.trans E | exact F7.drew.trans E); have dF8 := F8.kept (zu HB0); clear E)
  refine hK.out _ _ ⟨zg dF8 0 _ rfl, zg dF8 1 _ rfl, zg dF8 2 _ rfl, zg dF8 3 _ rfl⟩ (fun hHeld => ?_)
  clear hK K
  refine rdy 19 (by kernel_rfl) rfl (fun K hK => ?_)
  go_simp
  go_wp2_with (go_at_call 130; refine ((zu HS) _ _ _ ((zu HE0).trans F8)).mono ?_; rintro e w5 ⟨v5, rfl, hO, E5⟩; obtain ⟨ua, uc, rfl⟩ : ∃ ua uc, v5 = .slice ua (zav un (a, b)).length uc := (by obtain ⟨x, y, e, _⟩ := hO.reads; exact ⟨x, y, e⟩); have HO5 := zh hO; have HB05 := zh (E5.kept (F8.kept (zu HB0))); have HB15 := zh (E5.kept (F8.kept (zu HB1))); have HE5 := zh (((zu HE0).trans F8).trans E5); have s5 := ((zu HE0).trans F8).size; have s6 := F8.size; clear hO E5)
  refine hK.out _ _ ⟨zg (zu HB05) 0 _ rfl, zg (zu HB05) 1 _ rfl, zg (zu HB05) 2 _ rfl, zg (zu HB05) 3 _ rfl⟩ (fun hHeld => ?_)
  clear hK K
  refine rdy 20 (by kernel_rfl) rfl (fun K hK => ?_)
  refine ze 99 _ _ rfl rfl (w.heap.size + 1) rfl _ _ #[.string (X1 ++ X2 ++ X3), .string X4, .string c, .slice ua (zav un (a, b)).length uc] rfl (zu HB15) infoL rfl (by simp [Value.oneCell']) ?_
  intro Z hy hf9
  have hb9 := hf9.kept (zu HB05) (by omega)
  refine hK.out _ _ ⟨zg hb9 0 _ rfl, zg hb9 1 _ rfl, zg hb9 2 _ rfl, zg hb9 3 _ rfl⟩ (fun hHeld => ?_)
  have HY := zh hy
  have FY := zh hf9
  clear hK K hy hf9 hb9
  refine tk 21 ?_ rfl (by kernel_rfl) (fun _ _ _ h => h) (by rfl) ?_ (by assumption) ?_
  rotate_left
  ·intro w' hSw; go_simp <;> with_reducible rfl
  simp only [Act.put, qA, qB, qC, qD, qE, qF]
  refine wpAnyH_done (by kernel_rfl) ?_ _
  go_wp2
  have v0 := zg (zu HY) 0 _ rfl
  have v1 := zg (zu HY) 1 _ rfl
  have v2 := zg (zu HY) 2 _ rfl
  have v3 := zg (zu HY) 3 _ rfl
  exact bodyPost_ret (v := .tuple #[.agg #[.string (X1 ++ X2 ++ X3), .string X4, .string c, .slice ua (zav un (a, b)).length uc], .int .i64 1]) (by simp [results, Tryz.results141, go_sem, v0, v1, v2, v3]) rfl (by rw [zu HXO]; exact ⟨⟨_, rfl, ((zu HO5).fr (zu FY) (fun g hg e9 => by have := ((zu HO5).lt g hg).1; omega)).mono (by omega)⟩, (zu FY).ext (zu HE5) (fun q hq => by omega)⟩)
 ·have CX4 : Hid (zaF w3 (.slice (some ⟨gb, 2, none⟩) (nB - 1) (c3 - 1)) ((B.take nB).drop 1)) := zh (by
   have hcl := (zu H3).cls
   rw [← zu HNB] at hcl
   exact hcl.cut 1 nB (c3 - 1) (by omega) (by rw [zu HNB]; omega) (by omega) _ (.inl rfl))
  clear H2 H3
  go_wp2_with fail
  refine wp_region_held_drew (S := fun W => W.cell? ⟨w.heap.size, 0, none⟩ = some (.string a) ∧ W.cell? ⟨w.heap.size, 1, none⟩ = some (.string b) ∧ W.cell? ⟨w.heap.size, 2, none⟩ = some (.string c) ∧ W.cell? ⟨w.heap.size, 3, none⟩ = some (.slice ao un.length ca)) (by kernel_rfl) q0 (fun hHeld => ?_)
  refine tk 0 ?_ rfl (by kernel_rfl) (fun _ _ _ h => h) (by rfl) ?_ (by assumption) ?_
  rotate_left
  ·intro w' hSw; go_simp <;> with_reducible rfl
  simp only [Act.put, qA, qB, qC, qD, qE, qF]
  refine tk 1 ?_ rfl (by kernel_rfl) (fun _ _ _ h => h) (by rfl) ?_ (by assumption) ?_
  rotate_left
  ·intro w' hSw; go_simp <;> with_reducible rfl
  simp only [Act.put, qA, qB, qC, qD, qE, qF]
  refine tk 2 ?_ rfl (by kernel_rfl) (fun _ _ _ h => h) (by rfl) ?_ (by assumption) ?_
  rotate_left
  ·intro w' hSw; go_simp <;> with_reducible rfl
  simp only [Act.put, qA, qB, qC, qD, qE, qF]
  refine tk 3 ?_ rfl (by kernel_rfl) (fun _ _ _ h => h) (by rfl) ?_ (by assumption) ?_
  rotate_left
  ·intro w' hSw; go_simp <;> with_reducible rfl
  simp only [Act.put, qA, qB, qC, qD, qE, qF]
  refine tk 4 ?_ rfl (by kernel_rfl) (fun _ _ _ h => h) (by rfl) ?_ (by assumption) ?_
  rotate_left
  ·intro w' hSw; go_simp <;> with_reducible rfl
  simp only [Act.put, qA, qB, qC, qD, qE, qF]
  refine tk 6 ?_ rfl (by kernel_rfl) (fun _ _ _ h => h) (by rfl) ?_ (by assumption) ?_
  rotate_left
  ·intro w' hSw; go_simp <;> with_reducible rfl
  simp only [Act.put, qA, qB, qC, qD, qE, qF]
  refine tk 7 ?_ rfl (by kernel_rfl) (fun _ _ _ h => h) (by rfl) ?_ (by assumption) ?_
  rotate_left
  ·intro w' hSw; go_simp <;> with_reducible rfl
  simp only [Act.put, qA, qB, qC, qD, qE, qF]
  refine tk 10 ?_ rfl (by kernel_rfl) (fun _ _ _ h => h) (by rfl) ?_ (by assumption) ?_
  rotate_left
  ·intro w' hSw; go_simp <;> with_reducible rfl
  simp only [Act.put, qA, qB, qC, qD, qE, qF]
  refine tk 11 ?_ rfl (by kernel_rfl) (fun _ _ _ h => h) (by rfl) ?_ (by assumption) ?_
  rotate_left
  ·intro w' hSw; go_simp <;> with_reducible rfl
  simp only [Act.put, qA, qB, qC, qD, qE, qF]
  refine tk 12 ?_ rfl (by kernel_rfl) (fun _ _ _ h => h) (by rfl) ?_ (by assumption) ?_
  rotate_left
  ·intro w' hSw; go_simp <;> with_reducible rfl
  simp only [Act.put, qA, qB, qC, qD, qE, qF]
  refine tk 13 ?_ rfl (by kernel_rfl) (fun _ _ _ h => h) (by rfl) ?_ (by assumption) ?_
  rotate_left
  ·intro w' hSw; go_simp <;> with_reducible rfl
  simp only [Act.put, qA, qB, qC, qD, qE, qF]
  refine tk 16 ?_ rfl (by kernel_rfl) (fun _ _ _ h => h) (by rfl) ?_ (by assumption) ?_
  rotate_left
  ·intro w' hSw; go_simp <;> with_reducible rfl
  simp only [Act.put, qA, qB, qC, qD, qE, qF]
  refine tk 17 ?_ rfl (by kernel_rfl) (fun _ _ _ h => h) (by rfl) ?_ (by assumption) ?_
  rotate_left
  ·intro w' hSw; go_simp <;> with_reducible rfl
  simp only [Act.put, qA, qB, qC, qD, qE, qF]
  refine rdy 5 (by kernel_rfl) rfl (fun K hK => ?_)
  go_simp
  go_wp2_with (go_at_call 139; refine ((zu HX1) _ _ ((zu CX1).ext (by first | exact Ext.refl _ | exact (Ext.refl _).drew))).mono ?_; rintro e w4 ⟨rfl, E⟩; have F4 : Ext w3 w4 := (by first | exact E | exact (Ext.refl _).drew.trans E); have dF4 := F4.kept (zu HB0); clear E)
  refine hK.out _ _ ⟨zg dF4 0 _ rfl, zg dF4 1 _ rfl, zg dF4 2 _ rfl, zg dF4 3 _ rfl⟩ (fun hHeld => ?_)
  clear hK K
  refine rdy 8 (by kernel_rfl) rfl (fun K hK => ?_)
  go_simp
  go_wp2_with (go_at_call 139; refine ((zu HX2) _ _ ((zu CX2).ext (by first | exact F4 | exact F4.drew))).mono ?_; rintro e w6 ⟨rfl, E⟩; have F6 : Ext w3 w6 := (by first | exact F4.trans E | exact F4.drew.trans E); have dF6 := F6.kept (zu HB0); clear E)
  refine hK.out _ _ ⟨zg dF6 0 _ rfl, zg dF6 1 _ rfl, zg dF6 2 _ rfl, zg dF6 3 _ rfl⟩ (fun hHeld => ?_)
  clear hK K
  refine tk 9 ?_ rfl (by kernel_rfl) (fun _ _ _ h => h) (by rfl) ?_ (by assumption) ?_
  rotate_left
  ·intro w' hSw; go_simp <;> with_reducible rfl
  simp only [Act.put, qA, qB, qC, qD, qE, qF]
  refine rdy 14 (by kernel_rfl) rfl (fun K hK => ?_)
  go_simp
  go_wp2_with (go_at_call 139; refine ((zu HX3) _ _ ((zu CX3).ext (by first | exact F6 | exact F6.drew))).mono ?_; rintro e w7 ⟨rfl, E⟩; have F7 : Ext w3 w7 := (by first | exact F6.trans E | exact F6.drew.trans E); have dF7 := F7.kept (zu HB0); clear E)
  refine hK.out _ _ ⟨zg dF7 0 _ rfl, zg dF7 1 _ rfl, zg dF7 2 _ rfl, zg dF7 3 _ rfl⟩ (fun hHeld => ?_)
  clear hK K
  refine tk 15 ?_ rfl (by kernel_rfl) (fun _ _ _ h => h) (by rfl) ?_ (by assumption) ?_
  rotate_left
  ·intro w' hSw; go_simp <;> with_reducible rfl
  simp only [Act.put, qA, qB, qC, qD, qE, qF]
  refine rdy 18 (by kernel_rfl) rfl (fun K hK => ?_)
  go_simp
  go_wp2_with (go_at_call 139; refine ((zu HX4) _ _ ((zu CX4).ext (by first | exact F7 | exact F7.drew))).mono ?_; rintro e w8 ⟨rfl, E⟩; have F8 : Ext w3 w8 := (by first | exact F7.trans E | exact F7.drew.trans E); have dF8 := F8.kept (zu HB0); clear E)
  refine hK.out _ _ ⟨zg dF8 0 _ rfl, zg dF8 1 _ rfl, zg dF8 2 _ rfl, zg dF8 3 _ rfl⟩ (fun hHeld => ?_)
  clear hK K
  refine rdy 19 (by kernel_rfl) rfl (fun K hK => ?_)
  go_simp
  go_wp2_with (go_at_call 130; refine ((zu HS) _ _ _ ((zu HE0).trans F8)).mono ?_; rintro e w5 ⟨v5, rfl, hO, E5⟩; obtain ⟨ua, uc, rfl⟩ : ∃ ua uc, v5 = .slice ua (zav un (a, b)).length uc := (by obtain ⟨x, y, e, _⟩ := hO.reads; exact ⟨x, y, e⟩); have HO5 := zh hO; have HB05 := zh (E5.kept (F8.kept (zu HB0))); have HB15 := zh (E5.kept (F8.kept (zu HB1))); have HE5 := zh (((zu HE0).trans F8).trans E5); have s5 := ((zu HE0).trans F8).size; have s6 := F8.size; clear hO E5)
  refine hK.out _ _ ⟨zg (zu HB05) 0 _ rfl, zg (zu HB05) 1 _ rfl, zg (zu HB05) 2 _ rfl, zg (zu HB05) 3 _ rfl⟩ (fun hHeld => ?_)
  clear hK K
  refine rdy 20 (by kernel_rfl) rfl (fun K hK => ?_)
  refine ze 99 _ _ rfl rfl (w.heap.size + 1) rfl _ _ #[.string (X1 ++ X2 ++ X3), .string X4, .string c, .slice ua (zav un (a, b)).length uc] rfl (zu HB15) infoL rfl (by simp [Value.oneCell']) ?_
  intro Z hy hf9
  have hb9 := hf9.kept (zu HB05) (by omega)
  refine hK.out _ _ ⟨zg hb9 0 _ rfl, zg hb9 1 _ rfl, zg hb9 2 _ rfl, zg hb9 3 _ rfl⟩ (fun hHeld => ?_)
  have HY := zh hy
  have FY := zh hf9
  clear hK K hy hf9 hb9
  refine tk 21 ?_ rfl (by kernel_rfl) (fun _ _ _ h => h) (by rfl) ?_ (by assumption) ?_
  rotate_left
  ·intro w' hSw; go_simp <;> with_reducible rfl
  simp only [Act.put, qA, qB, qC, qD, qE, qF]
  refine wpAnyH_done (by kernel_rfl) ?_ _
  go_wp2
  have v0 := zg (zu HY) 0 _ rfl
  have v1 := zg (zu HY) 1 _ rfl
  have v2 := zg (zu HY) 2 _ rfl
  have v3 := zg (zu HY) 3 _ rfl
  exact bodyPost_ret (v := .tuple #[.agg #[.string (X1 ++ X2 ++ X3), .string X4, .string c, .slice ua (zav un (a, b)).length uc], .int .i64 1]) (by simp [results, Tryz.results141, go_sem, v0, v1, v2, v3]) rfl (by rw [zu HXO]; exact ⟨⟨_, rfl, ((zu HO5).fr (zu FY) (fun g hg e9 => by have := ((zu HO5).lt g hg).1; omega)).mono (by omega)⟩, (zu FY).ext (zu HE5) (fun q hq => by omega)⟩)
theorem zmv {w : World} {base : Nat} {T : TypeId} {g c N : Nat} {A B : Nat → Value} (h : zaG w base T (.slice (some ⟨g, 0, none⟩) N c) N A B) (m : Nat) (hm : m ≤ N) : zaG w base T (.slice (some ⟨g, 0, none⟩) m c) m A B := by
 obtain ⟨ys, ⟨h1, h2⟩, h9⟩ := h
 refine ⟨ys.take (m * 2), ⟨by rw [List.length_take]; omega, ?_⟩, fun j hj => ?_⟩
 ·rcases h2 with ⟨e, _⟩ | ⟨g', cap, cur, e, h3, h4, h5, h6, h7, h8⟩
  ·simp at e
  ·obtain ⟨e1, _, rfl⟩ := Value.slice.inj e
   obtain rfl : g = g' := by simpa using e1
   refine .inr ⟨g, c, cur, rfl, h3, h4, by omega, h6, h7, ?_⟩
   rw [← h8, List.take_take]
   congr 1
   omega
 ·rw [List.getElem?_take, List.getElem?_take, if_pos (by omega), if_pos (by omega)]
  exact h9 j (by omega)
set_option maxRecDepth 10000 in
set_option maxHeartbeats 4000000 in
theorem zi6 (a b c : ByteArray) (v : Value) (un : List (ByteArray × ByteArray)) (w : World) (hv : zb3 w v un) (hn : un.length ≤ 50) (hz : 0 < un.length) :
  Calls Tryz.prog 142 #[.agg #[.string a, .string b, .string c, v]] w fun e w' => LnO w' w.heap.size (zd4 a b c un) e ∧ Ext w w' := by
 have infoL : (Tryz.prog.info? 99).map (·.size) = some 4 := by kernel_rfl
 have HC := zh (fun W (E : Ext w W) => zaq a b c v un.length (lnT un) (lnH un) W (zag.ext hv E) (by omega))
 obtain ⟨ao, ca, rfl, _, _⟩ := hv
 obtain ⟨n, hnn⟩ : ∃ n, un.length = n := ⟨_, rfl⟩
 obtain ⟨p, hp⟩ : ∃ p, n - 1 = p := ⟨_, rfl⟩
 obtain ⟨TA, hTA⟩ : ∃ x, x = lnT un p := ⟨_, rfl⟩
 obtain ⟨TB, hTB⟩ : ∃ x, x = lnH un p := ⟨_, rfl⟩
 have HXO : Hid (zd4 a b c un = ⟨TA, TB, c, un.take p, 1⟩) := zh (by rw [zd4, if_neg (by omega), hnn, hp, hTA, hTB])
 have HUL := zh hnn
 rw [hnn] at HC hn hz
 have HTA := zh hTA
 have HTB := zh hTB
 have HPN : Hid (p + 1 = n) := zh (by omega)
 have hw1 : IntKind.i64.wrap ((n : Int) - 1) = (p : Int) := by rw [IntKind.wrap_i64]; omega
 have hnI : ¬ (n : Int) = 0 := by omega
 have hnB : ((n : Int) == 0) = false := by simp; omega
 have b1 : (p : Int) < (n : Int) := by omega
 have b2 : (0 : Int) ≤ (p : Int) := by omega
 have h50 : n ≤ 50 := hn
 clear hTA hTB hp hn hz
 rw [hnn]
 clear hnn
 obtain ⟨V, hV⟩ : ∃ V, V = (w.alloc (.cells #[.string a, .string b, .string c, .slice ao n ca] 99)).alloc (.cells zL4 99) := ⟨_, rfl⟩
 have E0 : Ext w V := by rw [hV]; exact ((Ext.refl w).alloc _).alloc _
 have HB1 : Hid (V.heap[w.heap.size + 1]? = some (.cells zL4 99 (0, 0))) := zh (by rw [hV]; have h := zk (w.alloc (.cells #[.string a, .string b, .string c, .slice ao n ca] 99)) (.cells zL4 99); rw [show (w.alloc (.cells #[.string a, .string b, .string c, .slice ao n ca] 99)).heap.size = w.heap.size + 1 by simp] at h; exact h)
 have sz0 : w.heap.size + 1 < V.heap.size := zq (zu HB1)
 have HV := zh hV
 have HCc := zh ((zu HC) V E0)
 have HE0 := zh E0
 clear hV E0 HC
 go_enter Tryz.func142, Tryz.ntmps142
 go_wp2_with fail
 rw [← zu HV]
 clear HV
 refine (zu HCc).mono ?_
 rintro e w1 ⟨ua, uc, rfl, HO, E1⟩
 replace HB1 := E1.hk HB1
 have HE := Hid.ht HE0 E1
 have z1 := E1.size
 have hb1 := zq (zu HB1)
 have HN := zh (heap_alloc_new w1 (.cells zL4 99))
 clear HCc HE0 E1
 have hcap : n ≤ uc := by
  obtain ⟨a9, c9, e9, h9, _⟩ := (zu HO).reads
  obtain ⟨_, _, rfl⟩ := Value.slice.inj e9
  exact h9
 obtain ⟨g, rfl⟩ : ∃ g, ua = some ⟨g, 0, none⟩ := by
  rcases (zu HO).form with ⟨_, h3⟩ | ⟨g, c8, e8⟩
  ·have := zu HPN; omega
  ·exact ⟨g, (Value.slice.inj e8).1⟩
 have b3 : (p : Int) ≤ (uc : Int) := by omega
 have hgl := ((zu HO).lt g rfl)
 obtain ⟨G, hG⟩ : ∃ G, G = w1.heap.size := ⟨_, rfl⟩
 have hGw : w.heap.size + 1 < G := by omega
 have HGg : Hid (g ≠ G) := zh (by omega)
 have HG := zh hG
 clear hG hcap
 go_wp2_with (first
  | (refine zi rfl 99 _ _ rfl rfl (w1.heap.size) rfl _ _ _ rfl (zu HN) infoL rfl (by simp [Value.oneCell']) ?_; intro U hB hU; have hU1 := hU.ext ((Ext.refl w1).alloc _) (fun q hq => by omega); rw [← zu HG] at hB; have HEU := zh hU1; have HOU := zh ((zu HO).ext hU1); have HBU := zh hB; have HB1U := hU1.hk HB1; clear hB hU hU1; refine zaS.intro ?_))
 show wpList _ _ _ _ _ _
 rw [← zu HG]
 have u3 := zg (zu HBU) 3 _ rfl
 have u0 := zg (zu HBU) 0 _ rfl
 have fu : ∀ i, U.frozen? ⟨G, i, none⟩ = false := fun i => Lib.frozen_of_heap (zu HBU) i
 have r0 : U.cell? ⟨g, p * 2, none⟩ = some (.string TA) := by rw [zu HTA]; exact ((zu HOU).cell (show p < n by have := zu HPN; omega)).1.1
 go_upto_region 6 with fail
 have F1 : Fr (fun q => q = G) U (U.setCell ⟨G, 0, none⟩ (.string TA)) := Fr.setCell (S := fun q => q = G) (Fr.refl _ U) (a := ⟨G, 0, none⟩) rfl _
 have HB5 := zh (zj (i := 0) (v := .string TA) (cs' := #[.string TA, .string b, .string c, .slice (some ⟨g, 0, none⟩) n uc]) (zu HBU) rfl)
 obtain ⟨X1, hX1⟩ : ∃ X1, X1 = U.setCell ⟨G, 0, none⟩ (.string TA) := ⟨_, rfl⟩
 rw [← hX1] at F1 HB5 ⊢
 have HF1 := zh F1
 have HO1 := zh ((zu HOU).fr F1 (fun q hq e9 => by
  have e : q = g := by simpa [Value.ownBlock] using hq.symm
  exact (zu HGg) (by rw [← e]; exact e9)))
 clear hX1 F1 u0 u3 fu r0
 have u3 := zg (zu HB5) 3 _ rfl
 have u1 := zg (zu HB5) 1 _ rfl
 have fu : ∀ i, X1.frozen? ⟨G, i, none⟩ = false := fun i => Lib.frozen_of_heap (zu HB5) i
 have r1 : X1.cell? ⟨g, p * 2 + 1, none⟩ = some (.string TB) := by rw [zu HTB]; exact ((zu HO1).cell (show p < n by have := zu HPN; omega)).2.1
 go_upto_region 7 with fail
 have F2 : Fr (fun q => q = G) X1 (X1.setCell ⟨G, 1, none⟩ (.string TB)) := Fr.setCell (S := fun q => q = G) (Fr.refl _ X1) (a := ⟨G, 1, none⟩) rfl _
 have HB6 := zh (zj (i := 1) (v := .string TB) (cs' := #[.string TA, .string TB, .string c, .slice (some ⟨g, 0, none⟩) n uc]) (zu HB5) rfl)
 obtain ⟨X2, hX2⟩ : ∃ X2, X2 = X1.setCell ⟨G, 1, none⟩ (.string TB) := ⟨_, rfl⟩
 rw [← hX2] at F2 HB6 ⊢
 have HF2 := zh ((zu HF1).tr F2)
 clear hX2 F2 u1 u3 fu r1
 have u3 := zg (zu HB6) 3 _ rfl
 have fu : ∀ i, X2.frozen? ⟨G, i, none⟩ = false := fun i => Lib.frozen_of_heap (zu HB6) i
 have HBs := zh (zj (i := 3) (v := .slice (some ⟨g, 0, none⟩) p uc) (cs' := #[.string TA, .string TB, .string c, .slice (some ⟨g, 0, none⟩) p uc]) (zu HB6) rfl)
 have F3 := (zu HF2).setCell (a := ⟨G, 3, none⟩) rfl (.slice (some ⟨g, 0, none⟩) p uc)
 have HF3 := zh F3
 have HB1s := zh (F3.kept (zu HB1U) (by omega))
 clear F3
 go_wp2_with (first
  | (refine zl rfl 99 _ rfl G rfl _ _ _ _ (zu HBs) Tryz.underlying99 rfl infoL ?_)
  | (refine zi rfl 99 _ _ rfl rfl (w.heap.size + 1) rfl _ _ _ rfl (zu HB1s) infoL rfl (by simp [Value.oneCell']) ?_; intro Z hy hf9; have HY := zh hy; have FY := zh hf9; clear hy hf9))
 have v0 := zg (zu HY) 0 _ rfl
 have v1 := zg (zu HY) 1 _ rfl
 have v2 := zg (zu HY) 2 _ rfl
 have v3 := zg (zu HY) 3 _ rfl
 have FZ : Fr (fun q => q = G ∨ q = w.heap.size + 1) U Z := ((zu HF3).mono (fun q hq => .inl hq)).tr ((zu FY).mono (fun q hq => .inr hq))
 have hO := (zu HOU).fr FZ (fun q hq e9 => by
  have e : q = g := by simpa [Value.ownBlock] using hq.symm
  rcases e9 with e9 | e9
  ·exact (zu HGg) (by rw [← e]; exact e9)
  ·omega)
 have hpl : (un.take p).length = p := by rw [List.length_take, zu HUL]; have := zu HPN; omega
 have hO2 : zaG Z w.heap.size 201 (.slice (some ⟨g, 0, none⟩) p uc) (un.take p).length (fun j => .string (lnT (un.take p) j)) (fun j => .string (lnH (un.take p) j)) := by
  rw [hpl]
  refine ((zmv hO p (by have := zu HPN; omega)).mono (by omega)).congr (fun j hj => ?_)
  simp [lnT, lnH, hj]
 exact bodyPost_ret (v := .tuple #[.agg #[.string TA, .string TB, .string c, .slice (some ⟨g, 0, none⟩) p uc], .int .i64 1]) (by simp [results, Tryz.results142, go_sem, v0, v1, v2, v3]) rfl (by rw [zu HXO]; exact ⟨⟨_, rfl, hO2⟩, FZ.ext ((zu HE).trans (zu HEU)) (fun q hq => by omega)⟩)
theorem zhd (cs : List (List Int × Int)) (s e : Nat) : (zy ((cs.take e).drop s)).length ≤ (zy cs).length := by
 have h1 := zcA (cs.take e) (cs.drop e)
 have h2 := zcA ((cs.take e).take s) ((cs.take e).drop s)
 rw [List.take_append_drop] at h1 h2
 rw [h1, h2]
 simp
 omega
structure Mvd (a b c : ByteArray) (un : List (ByteArray × ByteArray)) (o : LD) : Prop where
 c : o.c = c
 un : o.un = un
 sz : o.a.size + o.b.size = a.size + b.size
 d : o.d = 1 ∨ o.d = 2
theorem mvd_cut {a b c : ByteArray} {un : List (ByteArray × ByteArray)} (ha : zas (baL a) = baL a) (hb : zas (baL b) = baL b) (p : Nat) : Mvd a b c un ⟨zo (zy ((zn (baL a) ++ zn (baL b)).take p)), zo (zy ((zn (baL a) ++ zn (baL b)).drop p)), c, un, 1⟩ := by
 refine ⟨rfl, rfl, ?_, .inl rfl⟩
 show (zo _).size + (zo _).size = _
 have h1 := zcA ((zn (baL a) ++ zn (baL b)).take p) ((zn (baL a) ++ zn (baL b)).drop p)
 rw [List.take_append_drop, zcA] at h1
 have e1 : zy (zn (baL a)) = baL a := ha
 have e2 : zy (zn (baL b)) = baL b := hb
 have h2 := congrArg List.length h1
 rw [e1, e2, List.length_append, List.length_append, zw, zw] at h2
 rw [zai, zai, h2]
set_option linter.unusedSimpArgs false in
set_option maxRecDepth 10000 in
set_option maxHeartbeats 8000000 in
theorem zlv (a b c : ByteArray) (v : Value) (un : List (ByteArray × ByteArray)) (w : World) (hv : zb3 w v un) (hn : un.length ≤ 50) (za : a.size ≤ 1048576) (zb : b.size ≤ 1048576) (sa : zas (baL a) = baL a) (sb : zas (baL b) = baL b) (N : Int) :
  Calls Tryz.prog 176 #[.agg #[.string a, .string b, .string c, v], .int .i64 N] w fun e w' => (∃ o, Mvd a b c un o ∧ LnO w' w.heap.size o e) ∧ Ext w w' := by
 obtain ⟨ic, hic, hc0, hc1, hc2⟩ := info_parts zmf
 have infoL : (Tryz.prog.info? 99).map (·.size) = some 4 := by kernel_rfl
 have hcA := zh (fun W => zan (baL a) (zf a) W (by rw [zw]; omega))
 have hcB := zh (fun W => zan (baL b) (zf b) W (by rw [zw]; omega))
 rw [zat] at hcA hcB
 have lA := zau (baL a)
 have lB := zau (baL b)
 rw [zw] at lA lB
 obtain ⟨ao, ca, rfl, _, _⟩ := id hv
 have HC := zh (fun W (E : Ext w W) => zaq a b c (.slice ao un.length ca) un.length (lnT un) (lnH un) W (zag.ext hv E) (by omega))
 have HCU := zh ((zaE (baL a)).app (zaE (baL b)))
 rw [zw, zw] at HCU
 clear hv
 obtain ⟨A, hA⟩ : ∃ A, A = zn (baL a) := ⟨_, rfl⟩
 obtain ⟨B, hB⟩ : ∃ B, B = zn (baL b) := ⟨_, rfl⟩
 rw [← hA] at hcA lA HCU
 rw [← hB] at hcB lB HCU
 have HMv := zh (fun p => mvd_cut (c := c) (un := un) sa sb p)
 rw [← hA, ← hB] at HMv
 clear hA hB
 obtain ⟨V, hV⟩ : ∃ V, V = (w.alloc (.cells #[.string a, .string b, .string c, .slice ao un.length ca] 99)).alloc (.cells zL4 99) := ⟨_, rfl⟩
 have E0 : Ext w V := by rw [hV]; exact ((Ext.refl w).alloc _).alloc _
 have HB0 : Hid (V.heap[w.heap.size]? = some (.cells #[.string a, .string b, .string c, .slice ao un.length ca] 99 (0, 0))) := zh (by rw [hV]; exact ((Ext.refl _).alloc _).kept (zk w _))
 have HB1 : Hid (V.heap[w.heap.size + 1]? = some (.cells zL4 99 (0, 0))) := zh (by rw [hV]; have h := zk (w.alloc (.cells #[.string a, .string b, .string c, .slice ao un.length ca] 99)) (.cells zL4 99); rw [show (w.alloc (.cells #[.string a, .string b, .string c, .slice ao un.length ca] 99)).heap.size = w.heap.size + 1 by simp] at h; exact h)
 have sz0 : w.heap.size + 1 < V.heap.size := zq (zu HB1)
 have q0 : V.cell? ⟨w.heap.size, 0, none⟩ = some (.string a) ∧ V.cell? ⟨w.heap.size, 1, none⟩ = some (.string b) := ⟨zg (zu HB0) 0 _ rfl, zg (zu HB0) 1 _ rfl⟩
 have HW := zh hV
 have HE0 := zh E0
 clear hV E0
 go_enter Tryz.func176, Tryz.ntmps176
 go_wp2_with fail
 rw [← zu HW]
 clear HW
 refine wp_region_held_drew (S := fun W => W.cell? ⟨w.heap.size, 0, none⟩ = some (.string a) ∧ W.cell? ⟨w.heap.size, 1, none⟩ = some (.string b)) (by kernel_rfl) q0 (fun hHeld => ?_)
 refine tk 0 ?_ rfl (by kernel_rfl) (fun _ _ _ h => h) (by rfl) ?_ (by assumption) ?_
 rotate_left
 ·intro w' hSw; go_simp <;> with_reducible rfl
 simp only [Act.put, qA, qB, qC, qD, qE, qF]
 refine tk 1 ?_ rfl (by kernel_rfl) (fun _ _ _ h => h) (by rfl) ?_ (by assumption) ?_
 rotate_left
 ·intro w' hSw; go_simp <;> with_reducible rfl
 simp only [Act.put, qA, qB, qC, qD, qE, qF]
 refine tk 3 ?_ rfl (by kernel_rfl) (fun _ _ _ h => h) (by rfl) ?_ (by assumption) ?_
 rotate_left
 ·intro w' hSw; go_simp <;> with_reducible rfl
 simp only [Act.put, qA, qB, qC, qD, qE, qF]
 refine tk 4 ?_ rfl (by kernel_rfl) (fun _ _ _ h => h) (by rfl) ?_ (by assumption) ?_
 rotate_left
 ·intro w' hSw; go_simp <;> with_reducible rfl
 simp only [Act.put, qA, qB, qC, qD, qE, qF]
 refine rdy 2 (by kernel_rfl) rfl (fun K hK => ?_)
 go_simp
 go_wp2_with (go_at_call 137; refine ((zu hcA) _).mono ?_; rintro e w2 ⟨v2, rs2, rfl, o2, F2⟩; have E2 : Ext V w2 := (by first | exact F2 | exact (Ext.refl V).drew.trans F2); have d0 := (show _ ∧ _ from ⟨E2.cell q0.1, E2.cell q0.2⟩); have O2 := zh o2; have HE2 := zh E2; clear o2 F2 E2)
 refine hK.out _ _ d0 (fun hHeld => ?_)
 clear hK K
 refine rdy 5 (by kernel_rfl) rfl (fun K hK => ?_)
 go_simp
 go_wp2_with (go_at_call 137; refine ((zu hcB) _).mono ?_; rintro e w3 ⟨v3, rs3, rfl, o3, F3⟩; have E3 : Ext V w3 := (by first | exact (zu HE2).trans F3 | exact (zu HE2).drew.trans F3); have f0 := (show _ ∧ _ from ⟨E3.cell q0.1, E3.cell q0.2⟩); have O3 := zh o3; have O23 := zh ((zu O2).ext F3); have HE3 := zh E3; have hsz2 := (zu HE2).size; have LT2 := zh (fun g (hg : zdl v2 rs2 A.length g) => ((zu O2).lt hg)); clear o3 F3 E3)
 refine hK.out _ _ f0 (fun hHeld => ?_)
 clear hK K
 obtain ⟨ys3, oy3, ky3, src3⟩ := (zu O3).ys
 obtain ⟨ys2, oy2, ky2, _⟩ := (zu O23).ys
 have hsz3 := (zu HE3).size
 refine rdy 6 (by kernel_rfl) rfl (fun K hK => ?_)
 refine zkW _ _ 157 rfl V.heap.size 205 ic (.agg #[.slice none 0 0, .int .i64 0]) 2 32 Tryz.underlying157 hic hc0 hc1 hc2 rfl (by decide) v2 A.length ys2 rfl oy2 v3 B.length ys3 rfl src3 (by unfold maxLen; omega) (by omega) (by omega) ?_
 intro v4 w4 o4 G4 _
 have E4 := (zu HE3).grown G4 (fun q hq => (oy2.lt q hq).1)
 have k0 : w4.cell? ⟨w.heap.size, 0, none⟩ = some (.string a) ∧ w4.cell? ⟨w.heap.size, 1, none⟩ = some (.string b) := ⟨E4.cell q0.1, E4.cell q0.2⟩
 have O4 := zh (zal.append (zu O23) (zu O3) hsz2 (fun g hg => ((zu LT2) g hg).2) oy2 ky2 ky3 o4 G4)
 obtain ⟨a4, c4, rfl⟩ := zbi o4
 have hc4 : A.length + B.length ≤ c4 := by
  obtain ⟨_, _, _, e9, h9, _⟩ := (zu O4).cls
  obtain ⟨_, _, rfl⟩ := Value.slice.inj e9
  rw [List.length_append] at h9
  exact h9
 have HE4 := zh E4
 refine hK.out _ _ k0 (fun hHeld => ?_)
 clear hK K o4 G4 E4 oy3 ky3 src3 oy2 ky2
 simp only [Act.put, qA, qB, qC, qD, qE, qF]
 refine tk 7 ?_ rfl (by kernel_rfl) (fun _ _ _ h => h) (by rfl) ?_ (by assumption) ?_
 rotate_left
 ·intro w' hSw; go_simp <;> with_reducible rfl
 simp only [Act.put, qA, qB, qC, qD, qE, qF]
 refine wpAnyH_done (by kernel_rfl) ?_ _
 clear HE2 HE3 O2 O3 O23 LT2 d0 f0
 have HB4 := zh ((zu HE4).kept (zu HB0))
 have HB14 := zh ((zu HE4).kept (zu HB1))
 have HEw := zh ((zu HE0).trans (zu HE4))
 have hs4 := (zu HE4).size
 have HCc := zh ((zu HC) w4 (zu HEw))
 clear HB0 HB1 q0 hcB HC
 go_wp2_with (first
  | (refine zl rfl 99 _ rfl (w.heap.size) rfl _ _ _ _ (zu HB4) Tryz.underlying99 rfl infoL ?_))
 refine (zu HCc).mono ?_
 rintro e w5 ⟨ua, uc, rfl, HO, E5⟩
 have HN := zh (heap_alloc_new w5 (.cells zL4 99))
 have hs5 := E5.size
 replace HB4 := E5.hk HB4
 replace HB14 := E5.hk HB14
 have O5 := zh ((zu O4).ext E5)
 have HE5 := Hid.ht HEw E5
 obtain ⟨nA, hnA⟩ : ∃ n, A.length = n := ⟨_, rfl⟩
 obtain ⟨nB, hnB⟩ : ∃ n, B.length = n := ⟨_, rfl⟩
 have HNA := zh hnA
 have HNB := zh hnB
 rw [hnA] at lA hc4 ⊢
 rw [hnB] at lB hc4 ⊢
 rw [hnA, hnB] at O5
 obtain ⟨nAB, hAB⟩ : ∃ n, nA + nB = n := ⟨_, rfl⟩
 rw [hAB] at O5 hc4 ⊢
 have HAB := zh hAB
 have HCC := hcA
 obtain ⟨G, hG⟩ : ∃ G, G = w5.heap.size := ⟨_, rfl⟩
 have HG := zh hG
 clear HCc E5 HE4 HEw hcA O4 hnA hnB hAB k0 hG
 go_wp2_with (first
  | (refine zi rfl 99 _ _ rfl rfl (w5.heap.size) rfl _ _ _ rfl (zu HN) infoL rfl (by simp [Value.oneCell']) ?_; intro U hB hU; have hU1 := hU.ext ((Ext.refl w5).alloc _) (fun q hq => by omega); rw [← zu HG] at hB; have HEU := zh hU1; have HBU := zh hB; have HB1U := hU1.hk HB14; have HB0U := hU1.hk HB4; have c0 := zg (hU1.kept (zu HB4)) 0 _ rfl; have hsU := hU1.size; clear hB hU hU1; refine zaS.intro ?_))
 show wpList _ _ _ _ _ _
 rw [← zu HG]
 have HOU := zh ((zu HO).ext (zu HEU))
 have HEE := zh ((zu HE5).trans (zu HEU))
 have hGw : w.heap.size + 1 < G := by have := zu HG; omega
 have hAB := zu HAB
 by_cases hout : N < 0 ∨ (nAB : Int) < N
 ·rcases hout with h8 | h9
  case' inr =>
   have h8 : ¬ N < 0 := by omega
  all_goals
   have HBs := HBU
   have HB1s := HB1U
   clear hAB
   go_wp2_with (first
    | (refine zl rfl 99 _ rfl G rfl _ _ _ _ (zu HBs) Tryz.underlying99 rfl infoL ?_)
    | (refine zi rfl 99 _ _ rfl rfl (w.heap.size + 1) rfl _ _ _ rfl (zu HB1s) infoL rfl (by simp [Value.oneCell']) ?_; intro Z hy hf9; have HY := zh hy; have FY := zh hf9; clear hy hf9))
   have v0 := zg (zu HY) 0 _ rfl
   have v1 := zg (zu HY) 1 _ rfl
   have v2 := zg (zu HY) 2 _ rfl
   have v3 := zg (zu HY) 3 _ rfl
   exact bodyPost_ret (v := .tuple #[.agg #[.string a, .string b, .string c, .slice ua un.length uc], .int .i64 2]) (by simp [results, Tryz.results176, go_sem, v0, v1, v2, v3]) rfl ⟨⟨⟨a, b, c, un, 2⟩, ⟨rfl, rfl, rfl, .inr rfl⟩, _, rfl, ((zu HOU).fr (zu FY) (fun g hg e9 => by have := ((zu HO).lt g hg).1; omega)).mono (by omega)⟩, (zu FY).ext (zu HEE) (fun q hq => by omega)⟩
 by_cases hnA2 : N = (nA : Int)
 ·subst hnA2
  have h8 : ¬ (nA : Int) < 0 := by omega
  have h9 : ¬ (nAB : Int) < (nA : Int) := by omega
  go_wp2_with fail
  refine ((zu HCC) _).mono ?_
  rintro e w6 ⟨v6, rs6, rfl, o6, E6⟩
  obtain ⟨a6, c6, rfl⟩ : ∃ a c, v6 = .slice a A.length c := by
   obtain ⟨_, ao, cc, e, _⟩ := o6.cls
   exact ⟨ao, cc, e⟩
  rw [zu HNA]
  replace HBU := E6.hk HBU
  replace HB1U := E6.hk HB1U
  replace HOU := zh ((zu HOU).ext E6)
  replace HEE := Hid.ht HEE E6
  clear o6 E6 c0
  have HBs := HBU
  have HB1s := HB1U
  clear hAB
  go_wp2_with (first
   | (refine zl rfl 99 _ rfl G rfl _ _ _ _ (zu HBs) Tryz.underlying99 rfl infoL ?_)
   | (refine zi rfl 99 _ _ rfl rfl (w.heap.size + 1) rfl _ _ _ rfl (zu HB1s) infoL rfl (by simp [Value.oneCell']) ?_; intro Z hy hf9; have HY := zh hy; have FY := zh hf9; clear hy hf9))
  have v0 := zg (zu HY) 0 _ rfl
  have v1 := zg (zu HY) 1 _ rfl
  have v2 := zg (zu HY) 2 _ rfl
  have v3 := zg (zu HY) 3 _ rfl
  exact bodyPost_ret (v := .tuple #[.agg #[.string a, .string b, .string c, .slice ua un.length uc], .int .i64 2]) (by simp [results, Tryz.results176, go_sem, v0, v1, v2, v3]) rfl ⟨⟨⟨a, b, c, un, 2⟩, ⟨rfl, rfl, rfl, .inr rfl⟩, _, rfl, ((zu HOU).fr (zu FY) (fun g hg e9 => by have := ((zu HO).lt g hg).1; omega)).mono (by omega)⟩, (zu FY).ext (zu HEE) (fun q hq => by omega)⟩
 obtain ⟨p, rfl⟩ : ∃ p : Nat, N = (p : Int) := ⟨N.toNat, by omega⟩
 have h8 : ¬ (p : Int) < 0 := by omega
 have h9 : ¬ (nAB : Int) < (p : Int) := by omega
 have h10 : ¬ (p : Int) = (nA : Int) := by omega
 have h11 : ((p : Int) == (nA : Int)) = false := by simp; omega
 have h12 : (p : Int) ≤ (nAB : Int) := by omega
 have h13 : (p : Int) ≤ (c4 : Int) := by omega
 have h14 : (nAB : Int) ≤ (c4 : Int) := by omega
 have hpos : 0 < nAB := by omega
 have hpn : p ≤ nAB := by omega
 have HLen := zh (show (A ++ B).length = nAB by rw [List.length_append, zu HNA, zu HNB]; exact hAB)
 obtain ⟨g4, rfl⟩ : ∃ g, a4 = some ⟨g, 0, none⟩ := by
  obtain ⟨_, ⟨ys, hy, _⟩, _⟩ := zu O5
  rcases hy.2 with ⟨_, e0⟩ | ⟨g, cc, cur, e0, _⟩
  ·rw [zu HLen] at e0; omega
  ·exact ⟨g, (Value.slice.inj e0).1⟩
 have HT1 := zh (fun v W (hv : zaF W v ((A ++ B).take p)) => zaf v _ W hv (by have := ((zu HCU).part 0 p).1; simp at this ⊢; omega) (fun j _ => by have := ((zu HCU).part 0 p).2 j; simpa using this))
 have HT2 := zh (fun v W (hv : zaF W v ((A ++ B).drop p)) => zaf v _ W hv (by have := ((zu HCU).part p (A ++ B).length).1; rw [List.take_length] at this; omega) (fun j _ => by have := ((zu HCU).part p (A ++ B).length).2 j; rw [List.take_length] at this; exact this))
 obtain ⟨TA, hTA⟩ : ∃ x, x = zo (zy ((A ++ B).take p)) := ⟨_, rfl⟩
 obtain ⟨TB, hTB⟩ : ∃ x, x = zo (zy ((A ++ B).drop p)) := ⟨_, rfl⟩
 rw [← hTA] at HT1
 rw [← hTB] at HT2
 have HTA := zh hTA
 have HTB := zh hTB
 have HXO : Hid (Mvd a b c un ⟨TA, TB, c, un, 1⟩) := zh (by rw [hTA, hTB]; exact (zu HMv) p)
 clear hTA hTB
 clear hAB
 go_wp2_with fail
 refine ((zu HCC) _).mono ?_
 rintro e w6 ⟨v6, rs6, rfl, o6, E6⟩
 obtain ⟨a6, c6, rfl⟩ : ∃ a c, v6 = .slice a A.length c := by
  obtain ⟨_, ao, cc, e, _⟩ := o6.cls
  exact ⟨ao, cc, e⟩
 rw [zu HNA]
 replace HBU := E6.hk HBU
 replace HB1U := E6.hk HB1U
 replace HOU := zh ((zu HOU).ext E6)
 replace HEE := Hid.ht HEE E6
 have O6 := zh ((zu O5).ext ((zu HEU).trans E6))
 clear o6 E6 c0
 go_wp2_with fail
 have hcl := (zu O6).cls
 rw [← zu HLen] at hcl
 refine ((zu HT1) _ _ (by have := hcl.cut 0 p c4 (Nat.zero_le _) (by rw [zu HLen]; exact hpn) (by omega) (some ⟨g4, 0, none⟩) (.inl rfl); simpa using this)).mono ?_
 rintro e w7 ⟨rfl, E7⟩
 have hB7 := E7.kept (zu HBU)
 have y0 := zg hB7 0 _ rfl
 have fz : ∀ i, w7.frozen? ⟨G, i, none⟩ = false := fun i => Lib.frozen_of_heap hB7 i
 have O7 := zh ((zu O6).ext E7)
 have HB7 := zh hB7
 replace HB1U := E7.hk HB1U
 replace HOU := zh ((zu HOU).ext E7)
 replace HEE := Hid.ht HEE E7
 have F7 : Fr (fun q => q = G) w7 (w7.setCell ⟨G, 0, none⟩ (.string TA)) := Fr.setCell (S := fun q => q = G) (Fr.refl _ w7) (a := ⟨G, 0, none⟩) rfl _
 have O8 := zh ((zu O7).fr F7 (fun g hg e9 => by
  have h1 := (zu O5).lt hg
  have h2 := zu HG
  omega))
 have HB8 := zh (zj (i := 0) (v := .string TA) (cs' := #[.string TA, .string b, .string c, .slice ua un.length uc]) (zu HB7) rfl)
 have HF7 := zh F7
 clear hcl E7 hB7 HT1 F7
 have HOX := zh ((zu HOU).fr (zu HF7) (fun g hg e9 => by have := ((zu HO).lt g hg).2; have := zu HG; omega))
 have HEX := zh ((zu HF7).ext (zu HEE) (fun q hq => by omega))
 have HB1X := zh (zbl (c := G) (i := 0) (v := .string TA) (zu HB1U) (by omega))
 by_cases hcp : c4 = p
 case' pos =>
  have hpn2 : nAB = p := by omega
  go_wp2_with fail
  have hcl := (zu O8).cls
  rw [← zu HLen] at hcl
  refine ((zu HT2) _ _ (by have := hcl.cut p (A ++ B).length 0 (by rw [zu HLen]; exact hpn) (Nat.le_refl _) (by rw [zu HLen]; omega) (some ⟨g4, 0, none⟩) (.inr (by rw [zu HLen]; omega)); rw [List.take_length, show (A ++ B).length - p = 0 by rw [zu HLen]; omega] at this; exact this)).mono ?_
 case' neg =>
  go_wp2_with fail
  have hcl := (zu O8).cls
  rw [← zu HLen] at hcl
  refine ((zu HT2) _ _ (by have := hcl.cut p (A ++ B).length (c4 - p) (by rw [zu HLen]; exact hpn) (Nat.le_refl _) (by rw [zu HLen]; omega) (some ⟨g4, p * 2, none⟩) (.inl (by simp [Addr.add])); rw [List.take_length, zu HLen] at this; exact this)).mono ?_
 all_goals
  rintro e w9 ⟨rfl, E9⟩
  have hB9 := E9.kept (zu HB8)
  have y1 := zg hB9 1 _ rfl
  have fz9 : ∀ i, w9.frozen? ⟨G, i, none⟩ = false := fun i => Lib.frozen_of_heap hB9 i
  have HBs := zh (zj (i := 1) (v := .string TB) (cs' := #[.string TA, .string TB, .string c, .slice ua un.length uc]) hB9 rfl)
  have HB1s := zh (zbl (c := G) (i := 1) (v := .string TB) (E9.kept (zu HB1X)) (by omega))
  have F9 : Fr (fun q => q = G) w9 (w9.setCell ⟨G, 1, none⟩ (.string TB)) := Fr.setCell (S := fun q => q = G) (Fr.refl _ w9) (a := ⟨G, 1, none⟩) rfl _
  have HO9 := zh (((zu HOX).ext E9).fr F9 (fun g hg e9 => by have := ((zu HO).lt g hg).2; have := zu HG; omega))
  have HE9 := zh (F9.ext ((zu HEX).trans E9) (fun q hq => by omega))
  clear hB9 F9 E9 hcl HT2
  go_wp2_with (first
   | (refine zl rfl 99 _ rfl G rfl _ _ _ _ (zu HBs) Tryz.underlying99 rfl infoL ?_)
   | (refine zi rfl 99 _ _ rfl rfl (w.heap.size + 1) rfl _ _ _ rfl (zu HB1s) infoL rfl (by simp [Value.oneCell']) ?_; intro Z hy hf9; have HY := zh hy; have FY := zh hf9; clear hy hf9))
  have v0 := zg (zu HY) 0 _ rfl
  have v1 := zg (zu HY) 1 _ rfl
  have v2 := zg (zu HY) 2 _ rfl
  have v3 := zg (zu HY) 3 _ rfl
  exact bodyPost_ret (v := .tuple #[.agg #[.string TA, .string TB, .string c, .slice ua un.length uc], .int .i64 1]) (by simp [results, Tryz.results176, go_sem, v0, v1, v2, v3]) rfl ⟨⟨⟨TA, TB, c, un, 1⟩, zu HXO, _, rfl, ((zu HO9).fr (zu FY) (fun g hg e9 => by have := ((zu HO).lt g hg).1; omega)).mono (by omega)⟩, (zu FY).ext (zu HE9) (fun q hq => by omega)⟩
end Go.Proofs.YtinfdhbnljnifaaGreatDoor
