import Derived.Test.YtinfdhbnljnifaaGreatDoorWhole
import Derived.Test.YtinfdhbnljnifaaGreatDoorEdU
import Derived.Deep.RegionHeld3
namespace Go.Proofs.YtinfdhbnljnifaaGreatDoor
open Go.RowKit
theorem zoL (g p : Nat) : (some (⟨g, p * 2, none⟩ : Addr)) = Option.map (fun x : Addr => x.add (p * 2)) (some (⟨g, 0, none⟩ : Addr)) := by
 by_cases h : p * 2 = 0 <;> simp [Addr.add, h]
set_option linter.unusedSimpArgs false in
set_option maxRecDepth 10000 in
set_option maxHeartbeats 8000000 in
theorem zhJ (a b c : ByteArray) (v : Value) (un : List (ByteArray × ByteArray)) (w : World) (hv : zb3 w v un) (hn : un.length ≤ 50) (za : a.size ≤ 1048576) (zb : b.size ≤ 1048576) (hN : 2 ≤ (zn (baL a)).length ∧ (zn (baL b)).length = 0) :
  Calls Tryz.prog 141 #[.agg #[.string a, .string b, .string c, v]] w fun e w' => LnO w' w.heap.size (zcp a b c un (zo (zy ((zn (baL a)).take ((zn (baL a)).length - 2)) ++ zy ((zn (baL a)).drop ((zn (baL a)).length - 1)) ++ zy (((zn (baL a)).take ((zn (baL a)).length - 1)).drop ((zn (baL a)).length - 2)))) noT) e ∧ Ext w w' := by
 have infoL : (Tryz.prog.info? 99).map (·.size) = some 4 := by kernel_rfl
 have hcA := zh (fun W => zan (baL a) (zf a) W (by rw [zw]; omega))
 have hcB := zh (fun W => zan (baL b) (zf b) W (by rw [zw]; omega))
 rw [zat] at hcA hcB
 have HCA := zh (zaE (baL a))
 have HCB := zh (zaE (baL b))
 rw [zw] at HCA HCB
 have lA := zau (baL a)
 have lB := zau (baL b)
 rw [zw] at lA lB
 obtain ⟨ao, ca, rfl, _, _⟩ := id hv
 have HC := zh (fun W (E : Ext w W) => zaq a b c (.slice ao un.length ca) un.length (lnT un) (lnH un) W (zag.ext hv E) (by omega))
 have HS := zh (fun l r W (E : Ext w W) => zaT a b c l r (.slice ao un.length ca) un.length (lnT un) (lnH un) W (zag.ext hv E) hn)
 rw [zb4] at HS
 clear hv
 obtain ⟨A, hA⟩ : ∃ A, A = zn (baL a) := ⟨_, rfl⟩
 obtain ⟨B, hB⟩ : ∃ B, B = zn (baL b) := ⟨_, rfl⟩
 rw [← hA, ← hB] at hN
 rw [← hA] at hcA lA HCA
 rw [← hB] at hcB lB HCB
 obtain ⟨nA, hnA⟩ : ∃ n, A.length = n := ⟨_, rfl⟩
 obtain ⟨nB, hnB⟩ : ∃ n, B.length = n := ⟨_, rfl⟩
 rw [hnA] at lA
 rw [hnB] at lB
 rw [hnA, hnB] at hN
 obtain ⟨h1, h2⟩ := hN
 subst h2
 have HNA := zh hnA
 have HNB := zh hnB
 have HXA := zh hA
 have HXB := zh hB
 clear hA hB hnA hnB
 obtain ⟨V, hV⟩ : ∃ V, V = (w.alloc (.cells #[.string a, .string b, .string c, .slice ao un.length ca] 99)).alloc (.cells zL4 99) := ⟨_, rfl⟩
 have E0 : Ext w V := by rw [hV]; exact ((Ext.refl w).alloc _).alloc _
 have HB0 : Hid (V.heap[w.heap.size]? = some (.cells #[.string a, .string b, .string c, .slice ao un.length ca] 99 (0, 0))) := zh (by rw [hV]; exact ((Ext.refl _).alloc _).kept (zk w _))
 have HB1 : Hid (V.heap[w.heap.size + 1]? = some (.cells zL4 99 (0, 0))) := zh (by rw [hV]; have h := zk (w.alloc (.cells #[.string a, .string b, .string c, .slice ao un.length ca] 99)) (.cells zL4 99); rw [show (w.alloc (.cells #[.string a, .string b, .string c, .slice ao un.length ca] 99)).heap.size = w.heap.size + 1 by simp] at h; exact h)
 have sz0 : w.heap.size + 1 < V.heap.size := zq (zu HB1)
 have HW := zh hV
 have HE0 := zh E0
 clear hV E0
 go_enter Tryz.func141, Tryz.ntmps141
 go_wp2_with fail
 rw [← zu HW]
 clear HW
 refine ((zu hcA) _).mono ?_
 rintro e w2 ⟨v2, rs2, rfl, o2, E2⟩
 obtain ⟨a2, c2, rfl⟩ : ∃ a c, v2 = .slice a A.length c := by
  obtain ⟨_, ao, cc, e, _⟩ := o2.cls
  exact ⟨ao, cc, e⟩
 have H2 := zh o2
 rw [zu HNA] at H2 ⊢
 replace HB0 := E2.hk HB0
 replace HB1 := E2.hk HB1
 replace HE0 := Hid.ht HE0 E2
 have q1 := zg (zu HB0) 1 _ rfl
 have z2 := E2.size
 clear o2 E2 hcA
 go_wp2_with fail
 refine ((zu hcB) _).mono ?_
 rintro e w3 ⟨v3, rs3, rfl, o3, E3⟩
 obtain ⟨a3, c3, rfl⟩ : ∃ a c, v3 = .slice a B.length c := by
  obtain ⟨_, ao, cc, e, _⟩ := o3.cls
  exact ⟨ao, cc, e⟩
 have H3 := zh o3
 rw [zu HNB] at H3 ⊢
 replace H2 := zh ((zu H2).ext E3)
 replace HB0 := E3.hk HB0
 replace HB1 := E3.hk HB1
 replace HE0 := Hid.ht HE0 E3
 have z3 := E3.size
 clear o3 E3 hcB q1
 have hc2 : nA ≤ c2 := by
  obtain ⟨_, _, _, e9, h9, _⟩ := (zu H2).cls
  obtain ⟨_, _, rfl⟩ := Value.slice.inj e9
  rw [zu HNA] at h9
  exact h9
 obtain ⟨p, hp⟩ : ∃ p, nA - 1 = p := ⟨_, rfl⟩
 obtain ⟨r, hr⟩ : ∃ r, nA - 2 = r := ⟨_, rfl⟩
 have hw : IntKind.i64.wrap ((nA : Int) - 1) = (p : Int) := by rw [IntKind.wrap_i64]; omega
 have hw2 : IntKind.i64.wrap ((nA : Int) - 2) = (r : Int) := by rw [IntKind.wrap_i64]; omega
 have g1 : (1 : Int) ≤ (nA : Int) := by omega
 have g2 : (2 : Int) ≤ (nA : Int) := by omega
 have g3 : (p : Int) ≤ (c2 : Int) := by omega
 have g4 : (0 : Int) ≤ (p : Int) := by omega
 have g5 : (p : Int) ≤ (nA : Int) := by omega
 have g6 : (nA : Int) ≤ (c2 : Int) := by omega
 have g7 : (r : Int) ≤ (c2 : Int) := by omega
 have g8 : (0 : Int) ≤ (r : Int) := by omega
 have g9 : ¬ c2 = p := by omega
 have g10 : ¬ c2 = r := by omega
 have g11 : (r : Int) ≤ (p : Int) := by omega
 obtain ⟨ga, hga⟩ : ∃ g, a2 = some ⟨g, 0, none⟩ := by
  obtain ⟨_, ⟨ys, hy, _⟩, _⟩ := zu H2
  rcases hy.2 with ⟨_, e0⟩ | ⟨g, cc, cur, e0, _⟩
  ·rw [zu HNA] at e0; omega
  ·exact ⟨g, (Value.slice.inj e0).1⟩
 subst hga
 have HX1 := zh (fun v W (hv : zaF W v ((A.take r).drop 0)) => zaf v _ W hv (by have := ((zu HCA).part 0 r).1; omega) (fun j _ => ((zu HCA).part 0 r).2 j))
 obtain ⟨X1, hX1⟩ : ∃ x, x = zo (zy ((A.take r).drop 0)) := ⟨_, rfl⟩
 rw [← hX1] at HX1
 have zX1 : X1.size ≤ 100000000 := by
  rw [hX1, zai]
  have h8 := ((zu HCA).part 0 r).1
  have h9 := zch ((A.take r).drop 0) ((A.take r).drop 0).length
  unfold zy
  omega
 have HX2 := zh (fun v W (hv : zaF W v ((A.take nA).drop p)) => zaf v _ W hv (by have := ((zu HCA).part p nA).1; omega) (fun j _ => ((zu HCA).part p nA).2 j))
 obtain ⟨X2, hX2⟩ : ∃ x, x = zo (zy ((A.take nA).drop p)) := ⟨_, rfl⟩
 rw [← hX2] at HX2
 have zX2 : X2.size ≤ 100000000 := by
  rw [hX2, zai]
  have h8 := ((zu HCA).part p nA).1
  have h9 := zch ((A.take nA).drop p) ((A.take nA).drop p).length
  unfold zy
  omega
 have HX3 := zh (fun v W (hv : zaF W v ((A.take p).drop r)) => zaf v _ W hv (by have := ((zu HCA).part r p).1; omega) (fun j _ => ((zu HCA).part r p).2 j))
 obtain ⟨X3, hX3⟩ : ∃ x, x = zo (zy ((A.take p).drop r)) := ⟨_, rfl⟩
 rw [← hX3] at HX3
 have zX3 : X3.size ≤ 100000000 := by
  rw [hX3, zai]
  have h8 := ((zu HCA).part r p).1
  have h9 := zch ((A.take p).drop r) ((A.take p).drop r).length
  unfold zy
  omega
 have CX1 : Hid (zaF w3 (.slice (some ⟨ga, 0, none⟩) (r - 0) c2) ((A.take r).drop 0)) := zh (by
  have hcl := (zu H2).cls
  rw [← zu HNA] at hcl
  exact hcl.cut 0 r c2 (by omega) (by rw [zu HNA]; omega) (by omega) (some ⟨ga, 0, none⟩) (.inl rfl))
 have CX2 : Hid (zaF w3 (.slice (some ⟨ga, p * 2, none⟩) (nA - p) (c2 - p)) ((A.take nA).drop p)) := zh (by
  have hcl := (zu H2).cls
  rw [← zu HNA] at hcl
  exact hcl.cut p nA (c2 - p) (by omega) (by rw [zu HNA]; omega) (by omega) (some ⟨ga, p * 2, none⟩) (.inl (zoL _ _)))
 have CX3 : Hid (zaF w3 (.slice (some ⟨ga, r * 2, none⟩) (p - r) (c2 - r)) ((A.take p).drop r)) := zh (by
  have hcl := (zu H2).cls
  rw [← zu HNA] at hcl
  exact hcl.cut r p (c2 - r) (by omega) (by rw [zu HNA]; omega) (by omega) (some ⟨ga, r * 2, none⟩) (.inl (zoL _ _)))
 have HXO : Hid (zcp a b c un (zo (zy ((zn (baL a)).take ((zn (baL a)).length - 2)) ++ zy ((zn (baL a)).drop ((zn (baL a)).length - 1)) ++ zy (((zn (baL a)).take ((zn (baL a)).length - 1)).drop ((zn (baL a)).length - 2)))) noT = ⟨X1 ++ X2 ++ X3, { data := #[] }, c, zav un (a, b), 1⟩) := zh (by
  rw [hX1, hX2, hX3, zfk, zfk, ← zu HXA, zu HNA, hp, hr, List.drop_zero, ← zu HNA, List.take_length]
  rfl)
 have s5 : (X1 ++ X2).size = X1.size + X2.size := ByteArray.size_append
 have s6 : ¬ 9223372036854775807 < X1.size + X2.size := by omega
 have s7 : ¬ 9223372036854775807 < X1.size + X2.size + X3.size := by omega
 have s8 : ¬ 9223372036854775807 < (X1 ++ X2).size + X3.size := by omega
 have q0 : w3.cell? ⟨w.heap.size, 0, none⟩ = some (.string a) ∧ w3.cell? ⟨w.heap.size, 1, none⟩ = some (.string b) ∧ w3.cell? ⟨w.heap.size, 2, none⟩ = some (.string c) ∧ w3.cell? ⟨w.heap.size, 3, none⟩ = some (.slice ao un.length ca) := ⟨zg (zu HB0) 0 _ rfl, zg (zu HB0) 1 _ rfl, zg (zu HB0) 2 _ rfl, zg (zu HB0) 3 _ rfl⟩
 clear hX1 hX2 hX3 hp hr HC H2 H3
 go_wp2_with fail
 refine wp_region_held_drew (S := fun W => W.cell? ⟨w.heap.size, 0, none⟩ = some (.string a) ∧ W.cell? ⟨w.heap.size, 1, none⟩ = some (.string b) ∧ W.cell? ⟨w.heap.size, 2, none⟩ = some (.string c) ∧ W.cell? ⟨w.heap.size, 3, none⟩ = some (.slice ao un.length ca)) (by kernel_rfl) q0 (fun hHeld => ?_)
 refine tk 0 ?_ rfl (by kernel_rfl) (fun _ _ _ h => h) (by rfl) ?_ (by assumption) ?_
 rotate_left
 ·intro w' hSw; go_simp <;> with_reducible rfl
 simp only [Act.put, qA, qB, qC, qD, qE, qF]
 refine tk 1 ?_ rfl (by kernel_rfl) (fun _ _ _ h => h) (by rfl) ?_ (by assumption) ?_
 rotate_left
 ·intro w' hSw; go_simp <;> with_reducible rfl
 simp only [Act.put, qA, qB, qC, qD, qE, qF]
 refine tk 2 ?_ rfl (by kernel_rfl) (fun _ _ _ h => h) (by rfl) ?_ (by assumption) ?_
 rotate_left
 ·intro w' hSw; go_simp <;> with_reducible rfl
 simp only [Act.put, qA, qB, qC, qD, qE, qF]
 refine tk 3 ?_ rfl (by kernel_rfl) (fun _ _ _ h => h) (by rfl) ?_ (by assumption) ?_
 rotate_left
 ·intro w' hSw; go_simp <;> with_reducible rfl
 simp only [Act.put, qA, qB, qC, qD, qE, qF]
 refine tk 4 ?_ rfl (by kernel_rfl) (fun _ _ _ h => h) (by rfl) ?_ (by assumption) ?_
 rotate_left
 ·intro w' hSw; go_simp <;> with_reducible rfl
 simp only [Act.put, qA, qB, qC, qD, qE, qF]
 refine tk 6 ?_ rfl (by kernel_rfl) (fun _ _ _ h => h) (by rfl) ?_ (by assumption) ?_
 rotate_left
 ·intro w' hSw; go_simp <;> with_reducible rfl
 simp only [Act.put, qA, qB, qC, qD, qE, qF]
 refine tk 7 ?_ rfl (by kernel_rfl) (fun _ _ _ h => h) (by rfl) ?_ (by assumption) ?_
 rotate_left
 ·intro w' hSw; go_simp <;> with_reducible rfl
 simp only [Act.put, qA, qB, qC, qD, qE, qF]
 refine tk 8 ?_ rfl (by kernel_rfl) (fun _ _ _ h => h) (by rfl) ?_ (by assumption) ?_
 rotate_left
 ·intro w' hSw; go_simp <;> with_reducible rfl
 simp only [Act.put, qA, qB, qC, qD, qE, qF]
 refine tk 9 ?_ rfl (by kernel_rfl) (fun _ _ _ h => h) (by rfl) ?_ (by assumption) ?_
 rotate_left
 ·intro w' hSw; go_simp <;> with_reducible rfl
 simp only [Act.put, qA, qB, qC, qD, qE, qF]
 refine tk 12 ?_ rfl (by kernel_rfl) (fun _ _ _ h => h) (by rfl) ?_ (by assumption) ?_
 rotate_left
 ·intro w' hSw; go_simp <;> with_reducible rfl
 simp only [Act.put, qA, qB, qC, qD, qE, qF]
 refine tk 13 ?_ rfl (by kernel_rfl) (fun _ _ _ h => h) (by rfl) ?_ (by assumption) ?_
 rotate_left
 ·intro w' hSw; go_simp <;> with_reducible rfl
 simp only [Act.put, qA, qB, qC, qD, qE, qF]
 refine tk 14 ?_ rfl (by kernel_rfl) (fun _ _ _ h => h) (by rfl) ?_ (by assumption) ?_
 rotate_left
 ·intro w' hSw; go_simp <;> with_reducible rfl
 simp only [Act.put, qA, qB, qC, qD, qE, qF]
 refine tk 15 ?_ rfl (by kernel_rfl) (fun _ _ _ h => h) (by rfl) ?_ (by assumption) ?_
 rotate_left
 ·intro w' hSw; go_simp <;> with_reducible rfl
 simp only [Act.put, qA, qB, qC, qD, qE, qF]
 refine tk 16 ?_ rfl (by kernel_rfl) (fun _ _ _ h => h) (by rfl) ?_ (by assumption) ?_
 rotate_left
 ·intro w' hSw; go_simp <;> with_reducible rfl
 simp only [Act.put, qA, qB, qC, qD, qE, qF]
 refine tk 17 ?_ rfl (by kernel_rfl) (fun _ _ _ h => h) (by rfl) ?_ (by assumption) ?_
 rotate_left
 ·intro w' hSw; go_simp <;> with_reducible rfl
 simp only [Act.put, qA, qB, qC, qD, qE, qF]
 refine rdy 5 (by kernel_rfl) rfl (fun K hK => ?_)
 go_simp
 go_wp2_with (go_at_call 139; refine ((zu HX1) _ _ ((zu CX1).ext (by first | exact Ext.refl _ | exact (Ext.refl _).drew))).mono ?_; rintro e w4 ⟨rfl, E⟩; have F4 : Ext w3 w4 := (by first | exact E | exact (Ext.refl _).drew.trans E); have dF4 := F4.kept (zu HB0); clear E)
 refine hK.out _ _ ⟨zg dF4 0 _ rfl, zg dF4 1 _ rfl, zg dF4 2 _ rfl, zg dF4 3 _ rfl⟩ (fun hHeld => ?_)
 clear hK K
 refine rdy 10 (by kernel_rfl) rfl (fun K hK => ?_)
 go_simp
 go_wp2_with (go_at_call 139; refine ((zu HX2) _ _ ((zu CX2).ext (by first | exact F4 | exact F4.drew))).mono ?_; rintro e w6 ⟨rfl, E⟩; have F6 : Ext w3 w6 := (by first | exact F4.trans E | exact F4.drew.trans E); have dF6 := F6.kept (zu HB0); clear E)
 refine hK.out _ _ ⟨zg dF6 0 _ rfl, zg dF6 1 _ rfl, zg dF6 2 _ rfl, zg dF6 3 _ rfl⟩ (fun hHeld => ?_)
 clear hK K
 refine tk 11 ?_ rfl (by kernel_rfl) (fun _ _ _ h => h) (by rfl) ?_ (by assumption) ?_
 rotate_left
 ·intro w' hSw; go_simp <;> with_reducible rfl
 simp only [Act.put, qA, qB, qC, qD, qE, qF]
 refine rdy 18 (by kernel_rfl) rfl (fun K hK => ?_)
 go_simp
 go_wp2_with (go_at_call 139; refine ((zu HX3) _ _ ((zu CX3).ext (by first | exact F6 | exact F6.drew))).mono ?_; rintro e w7 ⟨rfl, E⟩; have F7 : Ext w3 w7 := (by first | exact F6.trans E | exact F6.drew.trans E); have dF7 := F7.kept (zu HB0); clear E)
 refine hK.out _ _ ⟨zg dF7 0 _ rfl, zg dF7 1 _ rfl, zg dF7 2 _ rfl, zg dF7 3 _ rfl⟩ (fun hHeld => ?_)
 clear hK K
 refine tk 19 ?_ rfl (by kernel_rfl) (fun _ _ _ h => h) (by rfl) ?_ (by assumption) ?_
 rotate_left
 ·intro w' hSw; go_simp <;> with_reducible rfl
 simp only [Act.put, qA, qB, qC, qD, qE, qF]
 refine rdy 20 (by kernel_rfl) rfl (fun K hK => ?_)
 go_simp
 go_wp2_with (go_at_call 130; refine ((zu HS) _ _ _ ((zu HE0).trans F7)).mono ?_; rintro e w5 ⟨v5, rfl, hO, E5⟩; obtain ⟨ua, uc, rfl⟩ : ∃ ua uc, v5 = .slice ua (zav un (a, b)).length uc := (by obtain ⟨x, y, e, _⟩ := hO.reads; exact ⟨x, y, e⟩); have HO5 := zh hO; have HB05 := zh (E5.kept (F7.kept (zu HB0))); have HB15 := zh (E5.kept (F7.kept (zu HB1))); have HE5 := zh (((zu HE0).trans F7).trans E5); have s5 := ((zu HE0).trans F7).size; have s6 := F7.size; clear hO E5)
 refine hK.out _ _ ⟨zg (zu HB05) 0 _ rfl, zg (zu HB05) 1 _ rfl, zg (zu HB05) 2 _ rfl, zg (zu HB05) 3 _ rfl⟩ (fun hHeld => ?_)
 clear hK K
 refine rdy 21 (by kernel_rfl) rfl (fun K hK => ?_)
 refine ze 99 _ _ rfl rfl (w.heap.size + 1) rfl _ _ #[.string (X1 ++ X2 ++ X3), .string { data := #[] }, .string c, .slice ua (zav un (a, b)).length uc] rfl (zu HB15) infoL rfl (by simp [Value.oneCell']) ?_
 intro Z hy hf9
 have hb9 := hf9.kept (zu HB05) (by omega)
 refine hK.out _ _ ⟨zg hb9 0 _ rfl, zg hb9 1 _ rfl, zg hb9 2 _ rfl, zg hb9 3 _ rfl⟩ (fun hHeld => ?_)
 have HY := zh hy
 have FY := zh hf9
 clear hK K hy hf9 hb9
 refine tk 22 ?_ rfl (by kernel_rfl) (fun _ _ _ h => h) (by rfl) ?_ (by assumption) ?_
 rotate_left
 ·intro w' hSw; go_simp <;> with_reducible rfl
 simp only [Act.put, qA, qB, qC, qD, qE, qF]
 refine wpAnyH_done (by kernel_rfl) ?_ _
 go_wp2
 have v0 := zg (zu HY) 0 _ rfl
 have v1 : Z.cell? ⟨w.heap.size + 1, 1, none⟩ = some (.string { data := #[] }) := zg (zu HY) 1 _ rfl
 have v2 := zg (zu HY) 2 _ rfl
 have v3 := zg (zu HY) 3 _ rfl
 exact bodyPost_ret (v := .tuple #[.agg #[.string (X1 ++ X2 ++ X3), .string { data := #[] }, .string c, .slice ua (zav un (a, b)).length uc], .int .i64 1]) (by simp [results, Tryz.results141, go_sem, v0, v1, v2, v3]) rfl (by rw [zu HXO]; exact ⟨⟨_, rfl, ((zu HO5).fr (zu FY) (fun g hg e9 => by have := ((zu HO5).lt g hg).1; omega)).mono (by omega)⟩, (zu FY).ext (zu HE5) (fun q hq => by omega)⟩)
set_option linter.unusedSimpArgs false in
set_option maxRecDepth 10000 in
set_option maxHeartbeats 8000000 in
theorem zkF (a b c : ByteArray) (v : Value) (un : List (ByteArray × ByteArray)) (w : World) (hv : zb3 w v un) (hn : un.length ≤ 50) (za : a.size ≤ 1048576) (zb : b.size ≤ 1048576) (hN : (zn (baL a)).length = 0) :
  Calls Tryz.prog 135 #[.agg #[.string a, .string b, .string c, v], .int .i64 4] w fun e w' => LnO w' w.heap.size ⟨a, b, c, un, 2⟩ e ∧ Ext w w' := by
 have infoL : (Tryz.prog.info? 99).map (·.size) = some 4 := by kernel_rfl
 have hcA := zh (fun W => zan (baL a) (zf a) W (by rw [zw]; omega))
 have hcB := zh (fun W => zan (baL b) (zf b) W (by rw [zw]; omega))
 rw [zat] at hcA hcB
 have HCA := zh (zaE (baL a))
 have HCB := zh (zaE (baL b))
 rw [zw] at HCA HCB
 have lA := zau (baL a)
 have lB := zau (baL b)
 rw [zw] at lA lB
 obtain ⟨ao, ca, rfl, _, _⟩ := id hv
 have HC := zh (fun W (E : Ext w W) => zaq a b c (.slice ao un.length ca) un.length (lnT un) (lnH un) W (zag.ext hv E) (by omega))
 have HS := zh (fun l r W (E : Ext w W) => zaT a b c l r (.slice ao un.length ca) un.length (lnT un) (lnH un) W (zag.ext hv E) hn)
 rw [zb4] at HS
 clear hv
 obtain ⟨A, hA⟩ : ∃ A, A = zn (baL a) := ⟨_, rfl⟩
 obtain ⟨B, hB⟩ : ∃ B, B = zn (baL b) := ⟨_, rfl⟩
 rw [← hA] at hN
 rw [← hA] at hcA lA HCA
 rw [← hB] at hcB lB HCB
 obtain ⟨nA, hnA⟩ : ∃ n, A.length = n := ⟨_, rfl⟩
 obtain ⟨nB, hnB⟩ : ∃ n, B.length = n := ⟨_, rfl⟩
 rw [hnA] at lA
 rw [hnB] at lB
 rw [hnA] at hN
 subst hN
 have HNA := zh hnA
 have HNB := zh hnB
 have HXA := zh hA
 have HXB := zh hB
 clear hA hB hnA hnB
 obtain ⟨V, hV⟩ : ∃ V, V = (w.alloc (.cells #[.string a, .string b, .string c, .slice ao un.length ca] 99)).alloc (.cells zL4 99) := ⟨_, rfl⟩
 have E0 : Ext w V := by rw [hV]; exact ((Ext.refl w).alloc _).alloc _
 have HB0 : Hid (V.heap[w.heap.size]? = some (.cells #[.string a, .string b, .string c, .slice ao un.length ca] 99 (0, 0))) := zh (by rw [hV]; exact ((Ext.refl _).alloc _).kept (zk w _))
 have HB1 : Hid (V.heap[w.heap.size + 1]? = some (.cells zL4 99 (0, 0))) := zh (by rw [hV]; have h := zk (w.alloc (.cells #[.string a, .string b, .string c, .slice ao un.length ca] 99)) (.cells zL4 99); rw [show (w.alloc (.cells #[.string a, .string b, .string c, .slice ao un.length ca] 99)).heap.size = w.heap.size + 1 by simp] at h; exact h)
 have sz0 : w.heap.size + 1 < V.heap.size := zq (zu HB1)
 have HW := zh hV
 have HE0 := zh E0
 clear hV E0
 go_enter Tryz.func135, Tryz.ntmps135
 go_wp2_with fail
 rw [← zu HW]
 clear HW
 refine ((zu hcA) _).mono ?_
 rintro e w2 ⟨v2, rs2, rfl, o2, E2⟩
 obtain ⟨a2, c2, rfl⟩ : ∃ a c, v2 = .slice a A.length c := by
  obtain ⟨_, ao, cc, e, _⟩ := o2.cls
  exact ⟨ao, cc, e⟩
 have H2 := zh o2
 rw [zu HNA] at H2 ⊢
 replace HB0 := E2.hk HB0
 replace HB1 := E2.hk HB1
 replace HE0 := Hid.ht HE0 E2
 have q1 := zg (zu HB0) 1 _ rfl
 have z2 := E2.size
 clear o2 E2 hcA
 go_wp2_with fail
 refine ((zu hcB) _).mono ?_
 rintro e w3 ⟨v3, rs3, rfl, o3, E3⟩
 obtain ⟨a3, c3, rfl⟩ : ∃ a c, v3 = .slice a B.length c := by
  obtain ⟨_, ao, cc, e, _⟩ := o3.cls
  exact ⟨ao, cc, e⟩
 have H3 := zh o3
 rw [zu HNB] at H3 ⊢
 replace H2 := zh ((zu H2).ext E3)
 replace HB0 := E3.hk HB0
 replace HB1 := E3.hk HB1
 replace HE0 := Hid.ht HE0 E3
 have z3 := E3.size
 clear o3 E3 hcB q1
 have HCc := zh ((zu HC) w3 (zu HE0))
 clear HC HS H2 H3 HXA HXB HNA HNB HCA HCB
 go_wp2_with (first
  | (refine zl rfl 99 _ rfl (w.heap.size) rfl _ _ _ _ (zu HB0) Tryz.underlying99 rfl infoL ?_))
 refine (zu HCc).mono ?_
 rintro e w5 ⟨ua, uc, rfl, HO, E5⟩
 replace HB1 := E5.hk HB1
 replace HE0 := Hid.ht HE0 E5
 clear E5 HB0 HCc
 go_wp2_with (first
  | (refine zi rfl 99 _ _ rfl rfl (w.heap.size + 1) rfl _ _ _ rfl (zu HB1) infoL rfl (by simp [Value.oneCell']) ?_; intro Z hy hf9; have HY := zh hy; have FY := zh hf9; clear hy hf9))
 have v0 := zg (zu HY) 0 _ rfl
 have v1 := zg (zu HY) 1 _ rfl
 have v2 := zg (zu HY) 2 _ rfl
 have v3 := zg (zu HY) 3 _ rfl
 exact bodyPost_ret (v := .tuple #[.agg #[.string a, .string b, .string c, .slice ua un.length uc], .int .i64 2]) (by simp [results, Tryz.results135, go_sem, v0, v1, v2, v3]) rfl (⟨⟨_, rfl, ((zu HO).fr (zu FY) (fun g hg e9 => by have := ((zu HO).lt g hg).1; omega)).mono (by omega)⟩, (zu FY).ext (zu HE0) (fun q hq => by omega)⟩)
set_option linter.unusedSimpArgs false in
set_option maxRecDepth 10000 in
set_option maxHeartbeats 8000000 in
theorem ziR (a b c : ByteArray) (v : Value) (un : List (ByteArray × ByteArray)) (w : World) (hv : zb3 w v un) (hn : un.length ≤ 50) (za : a.size ≤ 1048576) (zb : b.size ≤ 1048576) (hN : (zn (baL a)).length = 0 ∧ (zn (baL b)).length = 0) :
  Calls Tryz.prog 135 #[.agg #[.string a, .string b, .string c, v], .int .i64 5] w fun e w' => LnO w' w.heap.size ⟨a, b, c, un, 8⟩ e ∧ Ext w w' := by
 have infoL : (Tryz.prog.info? 99).map (·.size) = some 4 := by kernel_rfl
 have hcA := zh (fun W => zan (baL a) (zf a) W (by rw [zw]; omega))
 have hcB := zh (fun W => zan (baL b) (zf b) W (by rw [zw]; omega))
 rw [zat] at hcA hcB
 have HCA := zh (zaE (baL a))
 have HCB := zh (zaE (baL b))
 rw [zw] at HCA HCB
 have lA := zau (baL a)
 have lB := zau (baL b)
 rw [zw] at lA lB
 obtain ⟨ao, ca, rfl, _, _⟩ := id hv
 have HC := zh (fun W (E : Ext w W) => zaq a b c (.slice ao un.length ca) un.length (lnT un) (lnH un) W (zag.ext hv E) (by omega))
 have HS := zh (fun l r W (E : Ext w W) => zaT a b c l r (.slice ao un.length ca) un.length (lnT un) (lnH un) W (zag.ext hv E) hn)
 rw [zb4] at HS
 clear hv
 obtain ⟨A, hA⟩ : ∃ A, A = zn (baL a) := ⟨_, rfl⟩
 obtain ⟨B, hB⟩ : ∃ B, B = zn (baL b) := ⟨_, rfl⟩
 rw [← hA, ← hB] at hN
 rw [← hA] at hcA lA HCA
 rw [← hB] at hcB lB HCB
 obtain ⟨nA, hnA⟩ : ∃ n, A.length = n := ⟨_, rfl⟩
 obtain ⟨nB, hnB⟩ : ∃ n, B.length = n := ⟨_, rfl⟩
 rw [hnA] at lA
 rw [hnB] at lB
 rw [hnA, hnB] at hN
 obtain ⟨h0, h1⟩ := hN
 subst h0
 subst h1
 have HNA := zh hnA
 have HNB := zh hnB
 have HXA := zh hA
 have HXB := zh hB
 clear hA hB hnA hnB
 obtain ⟨V, hV⟩ : ∃ V, V = (w.alloc (.cells #[.string a, .string b, .string c, .slice ao un.length ca] 99)).alloc (.cells zL4 99) := ⟨_, rfl⟩
 have E0 : Ext w V := by rw [hV]; exact ((Ext.refl w).alloc _).alloc _
 have HB0 : Hid (V.heap[w.heap.size]? = some (.cells #[.string a, .string b, .string c, .slice ao un.length ca] 99 (0, 0))) := zh (by rw [hV]; exact ((Ext.refl _).alloc _).kept (zk w _))
 have HB1 : Hid (V.heap[w.heap.size + 1]? = some (.cells zL4 99 (0, 0))) := zh (by rw [hV]; have h := zk (w.alloc (.cells #[.string a, .string b, .string c, .slice ao un.length ca] 99)) (.cells zL4 99); rw [show (w.alloc (.cells #[.string a, .string b, .string c, .slice ao un.length ca] 99)).heap.size = w.heap.size + 1 by simp] at h; exact h)
 have sz0 : w.heap.size + 1 < V.heap.size := zq (zu HB1)
 have HW := zh hV
 have HE0 := zh E0
 clear hV E0
 go_enter Tryz.func135, Tryz.ntmps135
 go_wp2_with fail
 rw [← zu HW]
 clear HW
 refine ((zu hcA) _).mono ?_
 rintro e w2 ⟨v2, rs2, rfl, o2, E2⟩
 obtain ⟨a2, c2, rfl⟩ : ∃ a c, v2 = .slice a A.length c := by
  obtain ⟨_, ao, cc, e, _⟩ := o2.cls
  exact ⟨ao, cc, e⟩
 have H2 := zh o2
 rw [zu HNA] at H2 ⊢
 replace HB0 := E2.hk HB0
 replace HB1 := E2.hk HB1
 replace HE0 := Hid.ht HE0 E2
 have q1 := zg (zu HB0) 1 _ rfl
 have z2 := E2.size
 clear o2 E2 hcA
 go_wp2_with fail
 refine ((zu hcB) _).mono ?_
 rintro e w3 ⟨v3, rs3, rfl, o3, E3⟩
 obtain ⟨a3, c3, rfl⟩ : ∃ a c, v3 = .slice a B.length c := by
  obtain ⟨_, ao, cc, e, _⟩ := o3.cls
  exact ⟨ao, cc, e⟩
 have H3 := zh o3
 rw [zu HNB] at H3 ⊢
 replace H2 := zh ((zu H2).ext E3)
 replace HB0 := E3.hk HB0
 replace HB1 := E3.hk HB1
 replace HE0 := Hid.ht HE0 E3
 have z3 := E3.size
 clear o3 E3 hcB q1
 have HCc := zh ((zu HC) w3 (zu HE0))
 clear HC HS H2 H3 HXA HXB HNA HNB HCA HCB
 go_wp2_with (first
  | (refine zl rfl 99 _ rfl (w.heap.size) rfl _ _ _ _ (zu HB0) Tryz.underlying99 rfl infoL ?_))
 refine (zu HCc).mono ?_
 rintro e w5 ⟨ua, uc, rfl, HO, E5⟩
 replace HB1 := E5.hk HB1
 replace HE0 := Hid.ht HE0 E5
 clear E5 HB0 HCc
 go_wp2_with (first
  | (refine zi rfl 99 _ _ rfl rfl (w.heap.size + 1) rfl _ _ _ rfl (zu HB1) infoL rfl (by simp [Value.oneCell']) ?_; intro Z hy hf9; have HY := zh hy; have FY := zh hf9; clear hy hf9))
 have v0 := zg (zu HY) 0 _ rfl
 have v1 := zg (zu HY) 1 _ rfl
 have v2 := zg (zu HY) 2 _ rfl
 have v3 := zg (zu HY) 3 _ rfl
 exact bodyPost_ret (v := .tuple #[.agg #[.string a, .string b, .string c, .slice ua un.length uc], .int .i64 8]) (by simp [results, Tryz.results135, go_sem, v0, v1, v2, v3]) rfl (⟨⟨_, rfl, ((zu HO).fr (zu FY) (fun g hg e9 => by have := ((zu HO).lt g hg).1; omega)).mono (by omega)⟩, (zu FY).ext (zu HE0) (fun q hq => by omega)⟩)
set_option linter.unusedSimpArgs false in
set_option maxRecDepth 10000 in
set_option maxHeartbeats 8000000 in
theorem zkr (a b c : ByteArray) (v : Value) (un : List (ByteArray × ByteArray)) (w : World) (hv : zb3 w v un) (hn : un.length ≤ 50) (za : a.size ≤ 1048576) (zb : b.size ≤ 1048576) (hN : 0 < (zn (baL a)).length ∧ (zn (baL b)).length = 0) :
  Calls Tryz.prog 135 #[.agg #[.string a, .string b, .string c, v], .int .i64 5] w fun e w' => LnO w' w.heap.size ⟨a, b, c, un, 2⟩ e ∧ Ext w w' := by
 have infoL : (Tryz.prog.info? 99).map (·.size) = some 4 := by kernel_rfl
 have hcA := zh (fun W => zan (baL a) (zf a) W (by rw [zw]; omega))
 have hcB := zh (fun W => zan (baL b) (zf b) W (by rw [zw]; omega))
 rw [zat] at hcA hcB
 have HCA := zh (zaE (baL a))
 have HCB := zh (zaE (baL b))
 rw [zw] at HCA HCB
 have lA := zau (baL a)
 have lB := zau (baL b)
 rw [zw] at lA lB
 obtain ⟨ao, ca, rfl, _, _⟩ := id hv
 have HC := zh (fun W (E : Ext w W) => zaq a b c (.slice ao un.length ca) un.length (lnT un) (lnH un) W (zag.ext hv E) (by omega))
 have HS := zh (fun l r W (E : Ext w W) => zaT a b c l r (.slice ao un.length ca) un.length (lnT un) (lnH un) W (zag.ext hv E) hn)
 rw [zb4] at HS
 clear hv
 obtain ⟨A, hA⟩ : ∃ A, A = zn (baL a) := ⟨_, rfl⟩
 obtain ⟨B, hB⟩ : ∃ B, B = zn (baL b) := ⟨_, rfl⟩
 rw [← hA, ← hB] at hN
 rw [← hA] at hcA lA HCA
 rw [← hB] at hcB lB HCB
 obtain ⟨nA, hnA⟩ : ∃ n, A.length = n := ⟨_, rfl⟩
 obtain ⟨nB, hnB⟩ : ∃ n, B.length = n := ⟨_, rfl⟩
 rw [hnA] at lA
 rw [hnB] at lB
 rw [hnA, hnB] at hN
 obtain ⟨h0, h1⟩ := hN
 subst h1
 have h2 : ¬ (nA : Int) = 0 := by omega
 have h3 : ¬ nA = 0 := by omega
 have h4 : ((nA : Int) == 0) = false := by simp; omega
 have HNA := zh hnA
 have HNB := zh hnB
 have HXA := zh hA
 have HXB := zh hB
 clear hA hB hnA hnB
 obtain ⟨V, hV⟩ : ∃ V, V = (w.alloc (.cells #[.string a, .string b, .string c, .slice ao un.length ca] 99)).alloc (.cells zL4 99) := ⟨_, rfl⟩
 have E0 : Ext w V := by rw [hV]; exact ((Ext.refl w).alloc _).alloc _
 have HB0 : Hid (V.heap[w.heap.size]? = some (.cells #[.string a, .string b, .string c, .slice ao un.length ca] 99 (0, 0))) := zh (by rw [hV]; exact ((Ext.refl _).alloc _).kept (zk w _))
 have HB1 : Hid (V.heap[w.heap.size + 1]? = some (.cells zL4 99 (0, 0))) := zh (by rw [hV]; have h := zk (w.alloc (.cells #[.string a, .string b, .string c, .slice ao un.length ca] 99)) (.cells zL4 99); rw [show (w.alloc (.cells #[.string a, .string b, .string c, .slice ao un.length ca] 99)).heap.size = w.heap.size + 1 by simp] at h; exact h)
 have sz0 : w.heap.size + 1 < V.heap.size := zq (zu HB1)
 have HW := zh hV
 have HE0 := zh E0
 clear hV E0
 go_enter Tryz.func135, Tryz.ntmps135
 go_wp2_with fail
 rw [← zu HW]
 clear HW
 refine ((zu hcA) _).mono ?_
 rintro e w2 ⟨v2, rs2, rfl, o2, E2⟩
 obtain ⟨a2, c2, rfl⟩ : ∃ a c, v2 = .slice a A.length c := by
  obtain ⟨_, ao, cc, e, _⟩ := o2.cls
  exact ⟨ao, cc, e⟩
 have H2 := zh o2
 rw [zu HNA] at H2 ⊢
 replace HB0 := E2.hk HB0
 replace HB1 := E2.hk HB1
 replace HE0 := Hid.ht HE0 E2
 have q1 := zg (zu HB0) 1 _ rfl
 have z2 := E2.size
 clear o2 E2 hcA
 go_wp2_with fail
 refine ((zu hcB) _).mono ?_
 rintro e w3 ⟨v3, rs3, rfl, o3, E3⟩
 obtain ⟨a3, c3, rfl⟩ : ∃ a c, v3 = .slice a B.length c := by
  obtain ⟨_, ao, cc, e, _⟩ := o3.cls
  exact ⟨ao, cc, e⟩
 have H3 := zh o3
 rw [zu HNB] at H3 ⊢
 replace H2 := zh ((zu H2).ext E3)
 replace HB0 := E3.hk HB0
 replace HB1 := E3.hk HB1
 replace HE0 := Hid.ht HE0 E3
 have z3 := E3.size
 clear o3 E3 hcB q1
 have HCc := zh ((zu HC) w3 (zu HE0))
 clear HC HS H2 H3 HXA HXB HNA HNB HCA HCB
 go_wp2_with (first
  | (refine zl rfl 99 _ rfl (w.heap.size) rfl _ _ _ _ (zu HB0) Tryz.underlying99 rfl infoL ?_))
 refine (zu HCc).mono ?_
 rintro e w5 ⟨ua, uc, rfl, HO, E5⟩
 replace HB1 := E5.hk HB1
 replace HE0 := Hid.ht HE0 E5
 clear E5 HB0 HCc
 go_wp2_with (first
  | (refine zi rfl 99 _ _ rfl rfl (w.heap.size + 1) rfl _ _ _ rfl (zu HB1) infoL rfl (by simp [Value.oneCell']) ?_; intro Z hy hf9; have HY := zh hy; have FY := zh hf9; clear hy hf9))
 have v0 := zg (zu HY) 0 _ rfl
 have v1 := zg (zu HY) 1 _ rfl
 have v2 := zg (zu HY) 2 _ rfl
 have v3 := zg (zu HY) 3 _ rfl
 exact bodyPost_ret (v := .tuple #[.agg #[.string a, .string b, .string c, .slice ua un.length uc], .int .i64 2]) (by simp [results, Tryz.results135, go_sem, v0, v1, v2, v3]) rfl (⟨⟨_, rfl, ((zu HO).fr (zu FY) (fun g hg e9 => by have := ((zu HO).lt g hg).1; omega)).mono (by omega)⟩, (zu FY).ext (zu HE0) (fun q hq => by omega)⟩)
set_option linter.unusedSimpArgs false in
set_option maxRecDepth 10000 in
set_option maxHeartbeats 8000000 in
theorem ziG (a b c : ByteArray) (v : Value) (un : List (ByteArray × ByteArray)) (w : World) (hv : zb3 w v un) (hn : un.length ≤ 50) (za : a.size ≤ 1048576) (zb : b.size ≤ 1048576) (hN : 0 < (zn (baL a)).length) :
  Calls Tryz.prog 135 #[.agg #[.string a, .string b, .string c, v], .int .i64 4] w fun e w' => LnO w' w.heap.size (zcp a b c un (zo (zy ((zn (baL a)).take ((zn (baL a)).length - 1)))) b) e ∧ Ext w w' := by
 have infoL : (Tryz.prog.info? 99).map (·.size) = some 4 := by kernel_rfl
 have hcA := zh (fun W => zan (baL a) (zf a) W (by rw [zw]; omega))
 have hcB := zh (fun W => zan (baL b) (zf b) W (by rw [zw]; omega))
 rw [zat] at hcA hcB
 have HCA := zh (zaE (baL a))
 have HCB := zh (zaE (baL b))
 rw [zw] at HCA HCB
 have lA := zau (baL a)
 have lB := zau (baL b)
 rw [zw] at lA lB
 obtain ⟨ao, ca, rfl, _, _⟩ := id hv
 have HC := zh (fun W (E : Ext w W) => zaq a b c (.slice ao un.length ca) un.length (lnT un) (lnH un) W (zag.ext hv E) (by omega))
 have HS := zh (fun l r W (E : Ext w W) => zaT a b c l r (.slice ao un.length ca) un.length (lnT un) (lnH un) W (zag.ext hv E) hn)
 rw [zb4] at HS
 clear hv
 obtain ⟨A, hA⟩ : ∃ A, A = zn (baL a) := ⟨_, rfl⟩
 obtain ⟨B, hB⟩ : ∃ B, B = zn (baL b) := ⟨_, rfl⟩
 rw [← hA] at hN
 rw [← hA] at hcA lA HCA
 rw [← hB] at hcB lB HCB
 obtain ⟨nA, hnA⟩ : ∃ n, A.length = n := ⟨_, rfl⟩
 obtain ⟨nB, hnB⟩ : ∃ n, B.length = n := ⟨_, rfl⟩
 rw [hnA] at lA
 rw [hnB] at lB
 rw [hnA] at hN
 have HNA := zh hnA
 have HNB := zh hnB
 have HXA := zh hA
 have HXB := zh hB
 clear hA hB hnA hnB
 obtain ⟨V, hV⟩ : ∃ V, V = (w.alloc (.cells #[.string a, .string b, .string c, .slice ao un.length ca] 99)).alloc (.cells zL4 99) := ⟨_, rfl⟩
 have E0 : Ext w V := by rw [hV]; exact ((Ext.refl w).alloc _).alloc _
 have HB0 : Hid (V.heap[w.heap.size]? = some (.cells #[.string a, .string b, .string c, .slice ao un.length ca] 99 (0, 0))) := zh (by rw [hV]; exact ((Ext.refl _).alloc _).kept (zk w _))
 have HB1 : Hid (V.heap[w.heap.size + 1]? = some (.cells zL4 99 (0, 0))) := zh (by rw [hV]; have h := zk (w.alloc (.cells #[.string a, .string b, .string c, .slice ao un.length ca] 99)) (.cells zL4 99); rw [show (w.alloc (.cells #[.string a, .string b, .string c, .slice ao un.length ca] 99)).heap.size = w.heap.size + 1 by simp] at h; exact h)
 have sz0 : w.heap.size + 1 < V.heap.size := zq (zu HB1)
 have HW := zh hV
 have HE0 := zh E0
 clear hV E0
 go_enter Tryz.func135, Tryz.ntmps135
 go_wp2_with fail
 rw [← zu HW]
 clear HW
 refine ((zu hcA) _).mono ?_
 rintro e w2 ⟨v2, rs2, rfl, o2, E2⟩
 obtain ⟨a2, c2, rfl⟩ : ∃ a c, v2 = .slice a A.length c := by
  obtain ⟨_, ao, cc, e, _⟩ := o2.cls
  exact ⟨ao, cc, e⟩
 have H2 := zh o2
 rw [zu HNA] at H2 ⊢
 replace HB0 := E2.hk HB0
 replace HB1 := E2.hk HB1
 replace HE0 := Hid.ht HE0 E2
 have q1 := zg (zu HB0) 1 _ rfl
 have z2 := E2.size
 clear o2 E2 hcA
 go_wp2_with fail
 refine ((zu hcB) _).mono ?_
 rintro e w3 ⟨v3, rs3, rfl, o3, E3⟩
 obtain ⟨a3, c3, rfl⟩ : ∃ a c, v3 = .slice a B.length c := by
  obtain ⟨_, ao, cc, e, _⟩ := o3.cls
  exact ⟨ao, cc, e⟩
 have H3 := zh o3
 rw [zu HNB] at H3 ⊢
 replace H2 := zh ((zu H2).ext E3)
 replace HB0 := E3.hk HB0
 replace HB1 := E3.hk HB1
 replace HE0 := Hid.ht HE0 E3
 have z3 := E3.size
 clear o3 E3 hcB q1
 have h2 : (0 : Int) < (nA : Int) := by omega
 obtain ⟨p, hp⟩ : ∃ p, nA - 1 = p := ⟨_, rfl⟩
 have hw : IntKind.i64.wrap ((nA : Int) - 1) = (p : Int) := by rw [IntKind.wrap_i64]; omega
 have hc2 : nA ≤ c2 := by
  obtain ⟨_, _, _, e9, h9, _⟩ := (zu H2).cls
  obtain ⟨_, _, rfl⟩ := Value.slice.inj e9
  rw [zu HNA] at h9
  exact h9
 have b1 : (p : Int) ≤ (c2 : Int) := by omega
 have b2 : (0 : Int) ≤ (p : Int) := by omega
 obtain ⟨g2, hg2⟩ : ∃ g, a2 = some ⟨g, 0, none⟩ := by
  obtain ⟨_, ⟨ys, hy, _⟩, _⟩ := zu H2
  rcases hy.2 with ⟨_, e0⟩ | ⟨g, cc, cur, e0, _⟩
  ·rw [zu HNA] at e0; omega
  ·exact ⟨g, (Value.slice.inj e0).1⟩
 subst hg2
 have HT := zh (fun v W (hv : zaF W v (A.take p)) => zaf v _ W hv (by have := ((zu HCA).part 0 p).1; simp at this ⊢; omega) (fun j _ => by have := ((zu HCA).part 0 p).2 j; simpa using this))
 obtain ⟨TA, hTA⟩ : ∃ x, x = zo (zy (A.take p)) := ⟨_, rfl⟩
 rw [← hTA] at HT
 have HXO : Hid (zcp a b c un (zo (zy ((zn (baL a)).take ((zn (baL a)).length - 1)))) b = ⟨TA, b, c, zav un (a, b), 1⟩) := zh (by rw [hTA, ← zu HXA, zu HNA, hp]; rfl)
 have HCl : Hid (zaF w3 (.slice (some ⟨g2, 0, none⟩) p c2) (A.take p)) := zh (by
  have hcl := (zu H2).cls
  rw [← zu HNA] at hcl
  have := hcl.cut 0 p c2 (Nat.zero_le _) (by rw [zu HNA]; omega) (by omega) (some ⟨g2, 0, none⟩) (.inl rfl)
  simpa using this)
 have q0 : w3.cell? ⟨w.heap.size, 0, none⟩ = some (.string a) ∧ w3.cell? ⟨w.heap.size, 1, none⟩ = some (.string b) ∧ w3.cell? ⟨w.heap.size, 2, none⟩ = some (.string c) ∧ w3.cell? ⟨w.heap.size, 3, none⟩ = some (.slice ao un.length ca) := ⟨zg (zu HB0) 0 _ rfl, zg (zu HB0) 1 _ rfl, zg (zu HB0) 2 _ rfl, zg (zu HB0) 3 _ rfl⟩
 clear hTA hp H2 H3 HC
 go_wp2_with fail
 refine wp_region_held_drew (S := fun W => W.cell? ⟨w.heap.size, 0, none⟩ = some (.string a) ∧ W.cell? ⟨w.heap.size, 1, none⟩ = some (.string b) ∧ W.cell? ⟨w.heap.size, 2, none⟩ = some (.string c) ∧ W.cell? ⟨w.heap.size, 3, none⟩ = some (.slice ao un.length ca)) (by kernel_rfl) q0 (fun hHeld => ?_)
 refine tk 0 ?_ rfl (by kernel_rfl) (fun _ _ _ h => h) (by rfl) ?_ (by assumption) ?_
 rotate_left
 ·intro w' hSw; go_simp <;> with_reducible rfl
 simp only [Act.put, qA, qB, qC, qD, qE, qF]
 refine tk 1 ?_ rfl (by kernel_rfl) (fun _ _ _ h => h) (by rfl) ?_ (by assumption) ?_
 rotate_left
 ·intro w' hSw; go_simp <;> with_reducible rfl
 simp only [Act.put, qA, qB, qC, qD, qE, qF]
 refine tk 2 ?_ rfl (by kernel_rfl) (fun _ _ _ h => h) (by rfl) ?_ (by assumption) ?_
 rotate_left
 ·intro w' hSw; go_simp <;> with_reducible rfl
 simp only [Act.put, qA, qB, qC, qD, qE, qF]
 refine tk 3 ?_ rfl (by kernel_rfl) (fun _ _ _ h => h) (by rfl) ?_ (by assumption) ?_
 rotate_left
 ·intro w' hSw; go_simp <;> with_reducible rfl
 simp only [Act.put, qA, qB, qC, qD, qE, qF]
 refine tk 4 ?_ rfl (by kernel_rfl) (fun _ _ _ h => h) (by rfl) ?_ (by assumption) ?_
 rotate_left
 ·intro w' hSw; go_simp <;> with_reducible rfl
 simp only [Act.put, qA, qB, qC, qD, qE, qF]
 refine tk 5 ?_ rfl (by kernel_rfl) (fun _ _ _ h => h) (by rfl) ?_ (by assumption) ?_
 rotate_left
 ·intro w' hSw; go_simp <;> with_reducible rfl
 simp only [Act.put, qA, qB, qC, qD, qE, qF]
 refine tk 7 ?_ rfl (by kernel_rfl) (fun _ _ _ h => h) (by rfl) ?_ (by assumption) ?_
 rotate_left
 ·intro w' hSw; go_simp <;> with_reducible rfl
 simp only [Act.put, qA, qB, qC, qD, qE, qF]
 refine tk 8 ?_ rfl (by kernel_rfl) (fun _ _ _ h => h) (by rfl) ?_ (by assumption) ?_
 rotate_left
 ·intro w' hSw; go_simp <;> with_reducible rfl
 simp only [Act.put, qA, qB, qC, qD, qE, qF]
 refine rdy 6 (by kernel_rfl) rfl (fun K hK => ?_)
 go_simp
 go_wp2_with (go_at_call 139; refine ((zu HT) _ _ ((zu HCl).ext (by first | exact Ext.refl _ | exact (Ext.refl _).drew))).mono ?_; rintro e w4 ⟨rfl, E4⟩; have F4 : Ext w3 w4 := (by first | exact E4 | exact (Ext.refl _).drew.trans E4); have d0 := F4.kept (zu HB0); clear E4)
 refine hK.out _ _ ⟨zg d0 0 _ rfl, zg d0 1 _ rfl, zg d0 2 _ rfl, zg d0 3 _ rfl⟩ (fun hHeld => ?_)
 clear hK K
 refine rdy 9 (by kernel_rfl) rfl (fun K hK => ?_)
 go_simp
 go_wp2_with (go_at_call 130; refine ((zu HS) _ _ _ ((zu HE0).trans F4)).mono ?_; rintro e w5 ⟨v5, rfl, hO, E5⟩; obtain ⟨ua, uc, rfl⟩ : ∃ ua uc, v5 = .slice ua (zav un (a, b)).length uc := (by obtain ⟨x, y, e, _⟩ := hO.reads; exact ⟨x, y, e⟩); have HO5 := zh hO; have HB05 := zh (E5.kept (F4.kept (zu HB0))); have HB15 := zh (E5.kept (F4.kept (zu HB1))); have HE5 := zh (((zu HE0).trans F4).trans E5); have s5 := ((zu HE0).trans F4).size; have s6 := F4.size; clear hO E5)
 refine hK.out _ _ ⟨zg (zu HB05) 0 _ rfl, zg (zu HB05) 1 _ rfl, zg (zu HB05) 2 _ rfl, zg (zu HB05) 3 _ rfl⟩ (fun hHeld => ?_)
 clear hK K
 refine rdy 10 (by kernel_rfl) rfl (fun K hK => ?_)
 refine ze 99 _ _ rfl rfl (w.heap.size + 1) rfl _ _ #[.string TA, .string b, .string c, .slice ua (zav un (a, b)).length uc] rfl (zu HB15) infoL rfl (by simp [Value.oneCell']) ?_
 intro Z hy hf9
 have hb9 := hf9.kept (zu HB05) (by omega)
 refine hK.out _ _ ⟨zg hb9 0 _ rfl, zg hb9 1 _ rfl, zg hb9 2 _ rfl, zg hb9 3 _ rfl⟩ (fun hHeld => ?_)
 have HY := zh hy
 have FY := zh hf9
 clear hK K hy hf9 hb9
 refine tk 11 ?_ rfl (by kernel_rfl) (fun _ _ _ h => h) (by rfl) ?_ (by assumption) ?_
 rotate_left
 ·intro w' hSw; go_simp <;> with_reducible rfl
 simp only [Act.put, qA, qB, qC, qD, qE, qF]
 refine wpAnyH_done (by kernel_rfl) ?_ _
 go_wp2
 have v0 := zg (zu HY) 0 _ rfl
 have v1 := zg (zu HY) 1 _ rfl
 have v2 := zg (zu HY) 2 _ rfl
 have v3 := zg (zu HY) 3 _ rfl
 exact bodyPost_ret (v := .tuple #[.agg #[.string TA, .string b, .string c, .slice ua (zav un (a, b)).length uc], .int .i64 1]) (by simp [results, Tryz.results135, go_sem, v0, v1, v2, v3]) rfl (by rw [zu HXO]; exact ⟨⟨_, rfl, ((zu HO5).fr (zu FY) (fun g hg e9 => by have := ((zu HO5).lt g hg).1; omega)).mono (by omega)⟩, (zu FY).ext (zu HE5) (fun q hq => by omega)⟩)
end Go.Proofs.YtinfdhbnljnifaaGreatDoor
