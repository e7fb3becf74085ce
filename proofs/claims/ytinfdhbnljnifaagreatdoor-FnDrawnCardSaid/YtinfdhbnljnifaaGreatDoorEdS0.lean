import Derived.Test.YtinfdhbnljnifaaGreatDoorWhole
import Derived.Test.YtinfdhbnljnifaaGreatDoorEdU
import Derived.Deep.RegionHeld3
namespace Go.Proofs.YtinfdhbnljnifaaGreatDoor
open Go.RowKit
set_option linter.unusedSimpArgs false in
set_option maxRecDepth 10000 in
set_option maxHeartbeats 8000000 in
theorem zi7 (a b c : ByteArray) (v : Value) (un : List (ByteArray × ByteArray)) (w : World) (hv : zb3 w v un) (hn : un.length ≤ 50) (za : a.size ≤ 1048576) (zb : b.size ≤ 1048576) (hN : 0 < (zn (baL b)).length) :
  Calls Tryz.prog 135 #[.agg #[.string a, .string b, .string c, v], .int .i64 5] w fun e w' => LnO w' w.heap.size (zcp a b c un a (zo (zy ((zn (baL b)).drop 1)))) e ∧ Ext w w' := by
 have infoL : (Tryz.prog.info? 99).map (·.size) = some 4 := by kernel_rfl
 have hcA := zh (fun W => zan (baL a) (zf a) W (by rw [zw]; omega))
 have hcB := zh (fun W => zan (baL b) (zf b) W (by rw [zw]; omega))
 rw [zat] at hcA hcB
 have HCA := zh (zaE (baL a))
 have HCB := zh (zaE (baL b))
 rw [zw] at HCA HCB
 have lA := zau (baL a)
 have lB := zau (baL b)
 rw [zw] at lA lB
 obtain ⟨ao, ca, rfl, _, _⟩ := id hv
 have HC := zh (fun W (E : Ext w W) => zaq a b c (.slice ao un.length ca) un.length (lnT un) (lnH un) W (zag.ext hv E) (by omega))
 have HS := zh (fun l r W (E : Ext w W) => zaT a b c l r (.slice ao un.length ca) un.length (lnT un) (lnH un) W (zag.ext hv E) hn)
 rw [zb4] at HS
 clear hv
 obtain ⟨A, hA⟩ : ∃ A, A = zn (baL a) := ⟨_, rfl⟩
 obtain ⟨B, hB⟩ : ∃ B, B = zn (baL b) := ⟨_, rfl⟩
 rw [← hB] at hN
 rw [← hA] at hcA lA HCA
 rw [← hB] at hcB lB HCB
 obtain ⟨nA, hnA⟩ : ∃ n, A.length = n := ⟨_, rfl⟩
 obtain ⟨nB, hnB⟩ : ∃ n, B.length = n := ⟨_, rfl⟩
 rw [hnA] at lA
 rw [hnB] at lB
 rw [hnB] at hN
 have HNA := zh hnA
 have HNB := zh hnB
 have HXA := zh hA
 have HXB := zh hB
 clear hA hB hnA hnB
 obtain ⟨V, hV⟩ : ∃ V, V = (w.alloc (.cells #[.string a, .string b, .string c, .slice ao un.length ca] 99)).alloc (.cells zL4 99) := ⟨_, rfl⟩
 have E0 : Ext w V := by rw [hV]; exact ((Ext.refl w).alloc _).alloc _
 have HB0 : Hid (V.heap[w.heap.size]? = some (.cells #[.string a, .string b, .string c, .slice ao un.length ca] 99 (0, 0))) := zh (by rw [hV]; exact ((Ext.refl _).alloc _).kept (zk w _))
 have HB1 : Hid (V.heap[w.heap.size + 1]? = some (.cells zL4 99 (0, 0))) := zh (by rw [hV]; have h := zk (w.alloc (.cells #[.string a, .string b, .string c, .slice ao un.length ca] 99)) (.cells zL4 99); rw [show (w.alloc (.cells #[.string a, .string b, .string c, .slice ao un.length ca] 99)).heap.size = w.heap.size + 1 by simp] at h; exact h)
 have sz0 : w.heap.size + 1 < V.heap.size := zq (zu HB1)
 have HW := zh hV
 have HE0 := zh E0
 clear hV E0
 go_enter Tryz.func135, Tryz.ntmps135
 go_wp2_with fail
 rw [← zu HW]
 clear HW
 refine ((zu hcA) _).mono ?_
 rintro e w2 ⟨v2, rs2, rfl, o2, E2⟩
 obtain ⟨a2, c2, rfl⟩ : ∃ a c, v2 = .slice a A.length c := by
  obtain ⟨_, ao, cc, e, _⟩ := o2.cls
  exact ⟨ao, cc, e⟩
 have H2 := zh o2
 rw [zu HNA] at H2 ⊢
 replace HB0 := E2.hk HB0
 replace HB1 := E2.hk HB1
 replace HE0 := Hid.ht HE0 E2
 have q1 := zg (zu HB0) 1 _ rfl
 have z2 := E2.size
 clear o2 E2 hcA
 go_wp2_with fail
 refine ((zu hcB) _).mono ?_
 rintro e w3 ⟨v3, rs3, rfl, o3, E3⟩
 obtain ⟨a3, c3, rfl⟩ : ∃ a c, v3 = .slice a B.length c := by
  obtain ⟨_, ao, cc, e, _⟩ := o3.cls
  exact ⟨ao, cc, e⟩
 have H3 := zh o3
 rw [zu HNB] at H3 ⊢
 replace H2 := zh ((zu H2).ext E3)
 replace HB0 := E3.hk HB0
 replace HB1 := E3.hk HB1
 replace HE0 := Hid.ht HE0 E3
 have z3 := E3.size
 clear o3 E3 hcB q1
 have h2 : (0 : Int) < (nB : Int) := by omega
 have hc3 : nB ≤ c3 := by
  obtain ⟨_, _, _, e9, h9, _⟩ := (zu H3).cls
  obtain ⟨_, _, rfl⟩ := Value.slice.inj e9
  rw [zu HNB] at h9
  exact h9
 have b1 : (1 : Int) ≤ (nB : Int) := by omega
 have b2 : (nB : Int) ≤ (c3 : Int) := by omega
 have b3 : ¬ c3 = 0 := by omega
 obtain ⟨g2, hg2⟩ : ∃ g, a3 = some ⟨g, 0, none⟩ := by
  obtain ⟨_, ⟨ys, hy, _⟩, _⟩ := zu H3
  rcases hy.2 with ⟨_, e0⟩ | ⟨g, cc, cur, e0, _⟩
  ·rw [zu HNB] at e0; omega
  ·exact ⟨g, (Value.slice.inj e0).1⟩
 subst hg2
 have HT := zh (fun v W (hv : zaF W v (B.drop 1)) => zaf v _ W hv (by have := ((zu HCB).part 1 B.length).1; rw [List.take_length] at this; omega) (fun j _ => by have := ((zu HCB).part 1 B.length).2 j; rw [List.take_length] at this; exact this))
 obtain ⟨TB, hTB⟩ : ∃ x, x = zo (zy (B.drop 1)) := ⟨_, rfl⟩
 rw [← hTB] at HT
 have HXO : Hid (zcp a b c un a (zo (zy ((zn (baL b)).drop 1))) = ⟨a, TB, c, zav un (a, b), 1⟩) := zh (by rw [hTB, ← zu HXB]; rfl)
 have HCl : Hid (∀ ad Z, (ad = some ⟨g2, 2, none⟩ ∨ nB - 1 = 0) → nB - 1 ≤ Z → zaF w3 (.slice ad (nB - 1) Z) (B.drop 1)) := zh (fun ad Z had hZ => by
  have hcl := (zu H3).cls
  rw [← zu HNB] at hcl
  have := hcl.cut 1 B.length Z (by rw [zu HNB]; omega) (Nat.le_refl _) (by rw [zu HNB]; omega) ad (by rcases had with rfl | h; exact .inl rfl; exact .inr (by rw [zu HNB]; exact h))
  rw [List.take_length, zu HNB] at this
  exact this)
 have q0 : w3.cell? ⟨w.heap.size, 0, none⟩ = some (.string a) ∧ w3.cell? ⟨w.heap.size, 1, none⟩ = some (.string b) ∧ w3.cell? ⟨w.heap.size, 2, none⟩ = some (.string c) ∧ w3.cell? ⟨w.heap.size, 3, none⟩ = some (.slice ao un.length ca) := ⟨zg (zu HB0) 0 _ rfl, zg (zu HB0) 1 _ rfl, zg (zu HB0) 2 _ rfl, zg (zu HB0) 3 _ rfl⟩
 clear hTB H2 H3 HC
 by_cases hc1 : c3 = 1
 ·have hnB1 : nB = 1 := by omega
  have HCl0 : Hid (∀ ad Z, zaF w3 (.slice ad 0 Z) (B.drop 1)) := zh (fun ad Z => by
   have := (zu HCl) ad Z (.inr (by omega)) (by omega)
   rw [show nB - 1 = 0 by omega] at this
   exact this)
  subst hc1
  subst hnB1
  go_wp2_with fail
  refine wp_region_held_drew (S := fun W => W.cell? ⟨w.heap.size, 0, none⟩ = some (.string a) ∧ W.cell? ⟨w.heap.size, 1, none⟩ = some (.string b) ∧ W.cell? ⟨w.heap.size, 2, none⟩ = some (.string c) ∧ W.cell? ⟨w.heap.size, 3, none⟩ = some (.slice ao un.length ca)) (by kernel_rfl) q0 (fun hHeld => ?_)
  refine tk 0 ?_ rfl (by kernel_rfl) (fun _ _ _ h => h) (by rfl) ?_ (by assumption) ?_
  rotate_left
  ·intro w' hSw; go_simp <;> with_reducible rfl
  simp only [Act.put, qA, qB, qC, qD, qE, qF]
  refine tk 1 ?_ rfl (by kernel_rfl) (fun _ _ _ h => h) (by rfl) ?_ (by assumption) ?_
  rotate_left
  ·intro w' hSw; go_simp <;> with_reducible rfl
  simp only [Act.put, qA, qB, qC, qD, qE, qF]
  refine tk 2 ?_ rfl (by kernel_rfl) (fun _ _ _ h => h) (by rfl) ?_ (by assumption) ?_
  rotate_left
  ·intro w' hSw; go_simp <;> with_reducible rfl
  simp only [Act.put, qA, qB, qC, qD, qE, qF]
  refine tk 3 ?_ rfl (by kernel_rfl) (fun _ _ _ h => h) (by rfl) ?_ (by assumption) ?_
  rotate_left
  ·intro w' hSw; go_simp <;> with_reducible rfl
  simp only [Act.put, qA, qB, qC, qD, qE, qF]
  refine tk 4 ?_ rfl (by kernel_rfl) (fun _ _ _ h => h) (by rfl) ?_ (by assumption) ?_
  rotate_left
  ·intro w' hSw; go_simp <;> with_reducible rfl
  simp only [Act.put, qA, qB, qC, qD, qE, qF]
  refine rdy 5 (by kernel_rfl) rfl (fun K hK => ?_)
  go_simp
  go_wp2_with (go_at_call 139; refine ((zu HT) _ _ (((zu HCl0) _ _).ext (by first | exact Ext.refl _ | exact (Ext.refl _).drew))).mono ?_; rintro e w4 ⟨rfl, E4⟩; have F4 : Ext w3 w4 := (by first | exact E4 | exact (Ext.refl _).drew.trans E4); have d0 := F4.kept (zu HB0); clear E4)
  refine hK.out _ _ ⟨zg d0 0 _ rfl, zg d0 1 _ rfl, zg d0 2 _ rfl, zg d0 3 _ rfl⟩ (fun hHeld => ?_)
  clear hK K
  refine rdy 6 (by kernel_rfl) rfl (fun K hK => ?_)
  go_simp
  go_wp2_with (go_at_call 130; refine ((zu HS) _ _ _ ((zu HE0).trans F4)).mono ?_; rintro e w5 ⟨v5, rfl, hO, E5⟩; obtain ⟨ua, uc, rfl⟩ : ∃ ua uc, v5 = .slice ua (zav un (a, b)).length uc := (by obtain ⟨x, y, e, _⟩ := hO.reads; exact ⟨x, y, e⟩); have HO5 := zh hO; have HB05 := zh (E5.kept (F4.kept (zu HB0))); have HB15 := zh (E5.kept (F4.kept (zu HB1))); have HE5 := zh (((zu HE0).trans F4).trans E5); have s5 := ((zu HE0).trans F4).size; have s6 := F4.size; clear hO E5)
  refine hK.out _ _ ⟨zg (zu HB05) 0 _ rfl, zg (zu HB05) 1 _ rfl, zg (zu HB05) 2 _ rfl, zg (zu HB05) 3 _ rfl⟩ (fun hHeld => ?_)
  clear hK K
  refine rdy 7 (by kernel_rfl) rfl (fun K hK => ?_)
  refine ze 99 _ _ rfl rfl (w.heap.size + 1) rfl _ _ #[.string a, .string TB, .string c, .slice ua (zav un (a, b)).length uc] rfl (zu HB15) infoL rfl (by simp [Value.oneCell']) ?_
  intro Z hy hf9
  have hb9 := hf9.kept (zu HB05) (by omega)
  refine hK.out _ _ ⟨zg hb9 0 _ rfl, zg hb9 1 _ rfl, zg hb9 2 _ rfl, zg hb9 3 _ rfl⟩ (fun hHeld => ?_)
  have HY := zh hy
  have FY := zh hf9
  clear hK K hy hf9 hb9
  refine tk 8 ?_ rfl (by kernel_rfl) (fun _ _ _ h => h) (by rfl) ?_ (by assumption) ?_
  rotate_left
  ·intro w' hSw; go_simp <;> with_reducible rfl
  simp only [Act.put, qA, qB, qC, qD, qE, qF]
  refine wpAnyH_done (by kernel_rfl) ?_ _
  go_wp2
  have v0 := zg (zu HY) 0 _ rfl
  have v1 := zg (zu HY) 1 _ rfl
  have v2 := zg (zu HY) 2 _ rfl
  have v3 := zg (zu HY) 3 _ rfl
  exact bodyPost_ret (v := .tuple #[.agg #[.string a, .string TB, .string c, .slice ua (zav un (a, b)).length uc], .int .i64 1]) (by simp [results, Tryz.results135, go_sem, v0, v1, v2, v3]) rfl (by rw [zu HXO]; exact ⟨⟨_, rfl, ((zu HO5).fr (zu FY) (fun g hg e9 => by have := ((zu HO5).lt g hg).1; omega)).mono (by omega)⟩, (zu FY).ext (zu HE5) (fun q hq => by omega)⟩)
 ·go_wp2_with fail
  refine wp_region_held_drew (S := fun W => W.cell? ⟨w.heap.size, 0, none⟩ = some (.string a) ∧ W.cell? ⟨w.heap.size, 1, none⟩ = some (.string b) ∧ W.cell? ⟨w.heap.size, 2, none⟩ = some (.string c) ∧ W.cell? ⟨w.heap.size, 3, none⟩ = some (.slice ao un.length ca)) (by kernel_rfl) q0 (fun hHeld => ?_)
  refine tk 0 ?_ rfl (by kernel_rfl) (fun _ _ _ h => h) (by rfl) ?_ (by assumption) ?_
  rotate_left
  ·intro w' hSw; go_simp <;> with_reducible rfl
  simp only [Act.put, qA, qB, qC, qD, qE, qF]
  refine tk 1 ?_ rfl (by kernel_rfl) (fun _ _ _ h => h) (by rfl) ?_ (by assumption) ?_
  rotate_left
  ·intro w' hSw; go_simp <;> with_reducible rfl
  simp only [Act.put, qA, qB, qC, qD, qE, qF]
  refine tk 2 ?_ rfl (by kernel_rfl) (fun _ _ _ h => h) (by rfl) ?_ (by assumption) ?_
  rotate_left
  ·intro w' hSw; go_simp <;> with_reducible rfl
  simp only [Act.put, qA, qB, qC, qD, qE, qF]
  refine tk 3 ?_ rfl (by kernel_rfl) (fun _ _ _ h => h) (by rfl) ?_ (by assumption) ?_
  rotate_left
  ·intro w' hSw; go_simp <;> with_reducible rfl
  simp only [Act.put, qA, qB, qC, qD, qE, qF]
  refine tk 4 ?_ rfl (by kernel_rfl) (fun _ _ _ h => h) (by rfl) ?_ (by assumption) ?_
  rotate_left
  ·intro w' hSw; go_simp <;> with_reducible rfl
  simp only [Act.put, qA, qB, qC, qD, qE, qF]
  refine rdy 5 (by kernel_rfl) rfl (fun K hK => ?_)
  go_simp
  go_wp2_with (go_at_call 139; refine ((zu HT) _ _ (((zu HCl) _ _ (.inl rfl) (by omega)).ext (by first | exact Ext.refl _ | exact (Ext.refl _).drew))).mono ?_; rintro e w4 ⟨rfl, E4⟩; have F4 : Ext w3 w4 := (by first | exact E4 | exact (Ext.refl _).drew.trans E4); have d0 := F4.kept (zu HB0); clear E4)
  refine hK.out _ _ ⟨zg d0 0 _ rfl, zg d0 1 _ rfl, zg d0 2 _ rfl, zg d0 3 _ rfl⟩ (fun hHeld => ?_)
  clear hK K
  refine rdy 6 (by kernel_rfl) rfl (fun K hK => ?_)
  go_simp
  go_wp2_with (go_at_call 130; refine ((zu HS) _ _ _ ((zu HE0).trans F4)).mono ?_; rintro e w5 ⟨v5, rfl, hO, E5⟩; obtain ⟨ua, uc, rfl⟩ : ∃ ua uc, v5 = .slice ua (zav un (a, b)).length uc := (by obtain ⟨x, y, e, _⟩ := hO.reads; exact ⟨x, y, e⟩); have HO5 := zh hO; have HB05 := zh (E5.kept (F4.kept (zu HB0))); have HB15 := zh (E5.kept (F4.kept (zu HB1))); have HE5 := zh (((zu HE0).trans F4).trans E5); have s5 := ((zu HE0).trans F4).size; have s6 := F4.size; clear hO E5)
  refine hK.out _ _ ⟨zg (zu HB05) 0 _ rfl, zg (zu HB05) 1 _ rfl, zg (zu HB05) 2 _ rfl, zg (zu HB05) 3 _ rfl⟩ (fun hHeld => ?_)
  clear hK K
  refine rdy 7 (by kernel_rfl) rfl (fun K hK => ?_)
  refine ze 99 _ _ rfl rfl (w.heap.size + 1) rfl _ _ #[.string a, .string TB, .string c, .slice ua (zav un (a, b)).length uc] rfl (zu HB15) infoL rfl (by simp [Value.oneCell']) ?_
  intro Z hy hf9
  have hb9 := hf9.kept (zu HB05) (by omega)
  refine hK.out _ _ ⟨zg hb9 0 _ rfl, zg hb9 1 _ rfl, zg hb9 2 _ rfl, zg hb9 3 _ rfl⟩ (fun hHeld => ?_)
  have HY := zh hy
  have FY := zh hf9
  clear hK K hy hf9 hb9
  refine tk 8 ?_ rfl (by kernel_rfl) (fun _ _ _ h => h) (by rfl) ?_ (by assumption) ?_
  rotate_left
  ·intro w' hSw; go_simp <;> with_reducible rfl
  simp only [Act.put, qA, qB, qC, qD, qE, qF]
  refine wpAnyH_done (by kernel_rfl) ?_ _
  go_wp2
  have v0 := zg (zu HY) 0 _ rfl
  have v1 := zg (zu HY) 1 _ rfl
  have v2 := zg (zu HY) 2 _ rfl
  have v3 := zg (zu HY) 3 _ rfl
  exact bodyPost_ret (v := .tuple #[.agg #[.string a, .string TB, .string c, .slice ua (zav un (a, b)).length uc], .int .i64 1]) (by simp [results, Tryz.results135, go_sem, v0, v1, v2, v3]) rfl (by rw [zu HXO]; exact ⟨⟨_, rfl, ((zu HO5).fr (zu FY) (fun g hg e9 => by have := ((zu HO5).lt g hg).1; omega)).mono (by omega)⟩, (zu FY).ext (zu HE5) (fun q hq => by omega)⟩)
set_option linter.unusedSimpArgs false in
set_option maxRecDepth 10000 in
set_option maxHeartbeats 8000000 in
theorem zkb (a b c : ByteArray) (v : Value) (un : List (ByteArray × ByteArray)) (w : World) (hv : zb3 w v un) (hn : un.length ≤ 50) (za : a.size ≤ 1048576) (zb : b.size ≤ 1048576) (hN : (zn (baL a)).length = 0 ∧ 0 ≤ (zn (baL b)).length) :
  Calls Tryz.prog 141 #[.agg #[.string a, .string b, .string c, v]] w fun e w' => LnO w' w.heap.size ⟨a, b, c, un, 2⟩ e ∧ Ext w w' := by
 have infoL : (Tryz.prog.info? 99).map (·.size) = some 4 := by kernel_rfl
 have hcA := zh (fun W => zan (baL a) (zf a) W (by rw [zw]; omega))
 have hcB := zh (fun W => zan (baL b) (zf b) W (by rw [zw]; omega))
 rw [zat] at hcA hcB
 have HCA := zh (zaE (baL a))
 have HCB := zh (zaE (baL b))
 rw [zw] at HCA HCB
 have lA := zau (baL a)
 have lB := zau (baL b)
 rw [zw] at lA lB
 obtain ⟨ao, ca, rfl, _, _⟩ := id hv
 have HC := zh (fun W (E : Ext w W) => zaq a b c (.slice ao un.length ca) un.length (lnT un) (lnH un) W (zag.ext hv E) (by omega))
 have HS := zh (fun l r W (E : Ext w W) => zaT a b c l r (.slice ao un.length ca) un.length (lnT un) (lnH un) W (zag.ext hv E) hn)
 rw [zb4] at HS
 clear hv
 obtain ⟨A, hA⟩ : ∃ A, A = zn (baL a) := ⟨_, rfl⟩
 obtain ⟨B, hB⟩ : ∃ B, B = zn (baL b) := ⟨_, rfl⟩
 rw [← hA, ← hB] at hN
 rw [← hA] at hcA lA HCA
 rw [← hB] at hcB lB HCB
 obtain ⟨nA, hnA⟩ : ∃ n, A.length = n := ⟨_, rfl⟩
 obtain ⟨nB, hnB⟩ : ∃ n, B.length = n := ⟨_, rfl⟩
 rw [hnA] at lA
 rw [hnB] at lB
 rw [hnA, hnB] at hN
 obtain ⟨h1, -⟩ := hN
 subst h1
 have HNA := zh hnA
 have HNB := zh hnB
 have HXA := zh hA
 have HXB := zh hB
 clear hA hB hnA hnB
 obtain ⟨V, hV⟩ : ∃ V, V = (w.alloc (.cells #[.string a, .string b, .string c, .slice ao un.length ca] 99)).alloc (.cells zL4 99) := ⟨_, rfl⟩
 have E0 : Ext w V := by rw [hV]; exact ((Ext.refl w).alloc _).alloc _
 have HB0 : Hid (V.heap[w.heap.size]? = some (.cells #[.string a, .string b, .string c, .slice ao un.length ca] 99 (0, 0))) := zh (by rw [hV]; exact ((Ext.refl _).alloc _).kept (zk w _))
 have HB1 : Hid (V.heap[w.heap.size + 1]? = some (.cells zL4 99 (0, 0))) := zh (by rw [hV]; have h := zk (w.alloc (.cells #[.string a, .string b, .string c, .slice ao un.length ca] 99)) (.cells zL4 99); rw [show (w.alloc (.cells #[.string a, .string b, .string c, .slice ao un.length ca] 99)).heap.size = w.heap.size + 1 by simp] at h; exact h)
 have sz0 : w.heap.size + 1 < V.heap.size := zq (zu HB1)
 have HW := zh hV
 have HE0 := zh E0
 clear hV E0
 go_enter Tryz.func141, Tryz.ntmps141
 go_wp2_with fail
 rw [← zu HW]
 clear HW
 refine ((zu hcA) _).mono ?_
 rintro e w2 ⟨v2, rs2, rfl, o2, E2⟩
 obtain ⟨a2, c2, rfl⟩ : ∃ a c, v2 = .slice a A.length c := by
  obtain ⟨_, ao, cc, e, _⟩ := o2.cls
  exact ⟨ao, cc, e⟩
 have H2 := zh o2
 rw [zu HNA] at H2 ⊢
 replace HB0 := E2.hk HB0
 replace HB1 := E2.hk HB1
 replace HE0 := Hid.ht HE0 E2
 have q1 := zg (zu HB0) 1 _ rfl
 have z2 := E2.size
 clear o2 E2 hcA
 go_wp2_with fail
 refine ((zu hcB) _).mono ?_
 rintro e w3 ⟨v3, rs3, rfl, o3, E3⟩
 obtain ⟨a3, c3, rfl⟩ : ∃ a c, v3 = .slice a B.length c := by
  obtain ⟨_, ao, cc, e, _⟩ := o3.cls
  exact ⟨ao, cc, e⟩
 have H3 := zh o3
 rw [zu HNB] at H3 ⊢
 replace H2 := zh ((zu H2).ext E3)
 replace HB0 := E3.hk HB0
 replace HB1 := E3.hk HB1
 replace HE0 := Hid.ht HE0 E3
 have z3 := E3.size
 clear o3 E3 hcB q1
 have HCc := zh ((zu HC) w3 (zu HE0))
 clear HC HS H2 H3 HXA HXB HNA HNB HCA HCB
 go_wp2_with (first
  | (refine zl rfl 99 _ rfl (w.heap.size) rfl _ _ _ _ (zu HB0) Tryz.underlying99 rfl infoL ?_))
 refine (zu HCc).mono ?_
 rintro e w5 ⟨ua, uc, rfl, HO, E5⟩
 replace HB1 := E5.hk HB1
 replace HE0 := Hid.ht HE0 E5
 clear E5 HB0 HCc
 go_wp2_with (first
  | (refine zi rfl 99 _ _ rfl rfl (w.heap.size + 1) rfl _ _ _ rfl (zu HB1) infoL rfl (by simp [Value.oneCell']) ?_; intro Z hy hf9; have HY := zh hy; have FY := zh hf9; clear hy hf9))
 have v0 := zg (zu HY) 0 _ rfl
 have v1 := zg (zu HY) 1 _ rfl
 have v2 := zg (zu HY) 2 _ rfl
 have v3 := zg (zu HY) 3 _ rfl
 exact bodyPost_ret (v := .tuple #[.agg #[.string a, .string b, .string c, .slice ua un.length uc], .int .i64 2]) (by simp [results, Tryz.results141, go_sem, v0, v1, v2, v3]) rfl (⟨⟨_, rfl, ((zu HO).fr (zu FY) (fun g hg e9 => by have := ((zu HO).lt g hg).1; omega)).mono (by omega)⟩, (zu FY).ext (zu HE0) (fun q hq => by omega)⟩)
set_option linter.unusedSimpArgs false in
set_option maxRecDepth 10000 in
set_option maxHeartbeats 8000000 in
theorem zj9 (a b c : ByteArray) (v : Value) (un : List (ByteArray × ByteArray)) (w : World) (hv : zb3 w v un) (hn : un.length ≤ 50) (za : a.size ≤ 1048576) (zb : b.size ≤ 1048576) (hN : (zn (baL a)).length = 1 ∧ (zn (baL b)).length = 0) :
  Calls Tryz.prog 141 #[.agg #[.string a, .string b, .string c, v]] w fun e w' => LnO w' w.heap.size ⟨a, b, c, un, 2⟩ e ∧ Ext w w' := by
 have infoL : (Tryz.prog.info? 99).map (·.size) = some 4 := by kernel_rfl
 have hcA := zh (fun W => zan (baL a) (zf a) W (by rw [zw]; omega))
 have hcB := zh (fun W => zan (baL b) (zf b) W (by rw [zw]; omega))
 rw [zat] at hcA hcB
 have HCA := zh (zaE (baL a))
 have HCB := zh (zaE (baL b))
 rw [zw] at HCA HCB
 have lA := zau (baL a)
 have lB := zau (baL b)
 rw [zw] at lA lB
 obtain ⟨ao, ca, rfl, _, _⟩ := id hv
 have HC := zh (fun W (E : Ext w W) => zaq a b c (.slice ao un.length ca) un.length (lnT un) (lnH un) W (zag.ext hv E) (by omega))
 have HS := zh (fun l r W (E : Ext w W) => zaT a b c l r (.slice ao un.length ca) un.length (lnT un) (lnH un) W (zag.ext hv E) hn)
 rw [zb4] at HS
 clear hv
 obtain ⟨A, hA⟩ : ∃ A, A = zn (baL a) := ⟨_, rfl⟩
 obtain ⟨B, hB⟩ : ∃ B, B = zn (baL b) := ⟨_, rfl⟩
 rw [← hA, ← hB] at hN
 rw [← hA] at hcA lA HCA
 rw [← hB] at hcB lB HCB
 obtain ⟨nA, hnA⟩ : ∃ n, A.length = n := ⟨_, rfl⟩
 obtain ⟨nB, hnB⟩ : ∃ n, B.length = n := ⟨_, rfl⟩
 rw [hnA] at lA
 rw [hnB] at lB
 rw [hnA, hnB] at hN
 obtain ⟨h1, h2⟩ := hN
 subst h1
 subst h2
 have HNA := zh hnA
 have HNB := zh hnB
 have HXA := zh hA
 have HXB := zh hB
 clear hA hB hnA hnB
 obtain ⟨V, hV⟩ : ∃ V, V = (w.alloc (.cells #[.string a, .string b, .string c, .slice ao un.length ca] 99)).alloc (.cells zL4 99) := ⟨_, rfl⟩
 have E0 : Ext w V := by rw [hV]; exact ((Ext.refl w).alloc _).alloc _
 have HB0 : Hid (V.heap[w.heap.size]? = some (.cells #[.string a, .string b, .string c, .slice ao un.length ca] 99 (0, 0))) := zh (by rw [hV]; exact ((Ext.refl _).alloc _).kept (zk w _))
 have HB1 : Hid (V.heap[w.heap.size + 1]? = some (.cells zL4 99 (0, 0))) := zh (by rw [hV]; have h := zk (w.alloc (.cells #[.string a, .string b, .string c, .slice ao un.length ca] 99)) (.cells zL4 99); rw [show (w.alloc (.cells #[.string a, .string b, .string c, .slice ao un.length ca] 99)).heap.size = w.heap.size + 1 by simp] at h; exact h)
 have sz0 : w.heap.size + 1 < V.heap.size := zq (zu HB1)
 have HW := zh hV
 have HE0 := zh E0
 clear hV E0
 go_enter Tryz.func141, Tryz.ntmps141
 go_wp2_with fail
 rw [← zu HW]
 clear HW
 refine ((zu hcA) _).mono ?_
 rintro e w2 ⟨v2, rs2, rfl, o2, E2⟩
 obtain ⟨a2, c2, rfl⟩ : ∃ a c, v2 = .slice a A.length c := by
  obtain ⟨_, ao, cc, e, _⟩ := o2.cls
  exact ⟨ao, cc, e⟩
 have H2 := zh o2
 rw [zu HNA] at H2 ⊢
 replace HB0 := E2.hk HB0
 replace HB1 := E2.hk HB1
 replace HE0 := Hid.ht HE0 E2
 have q1 := zg (zu HB0) 1 _ rfl
 have z2 := E2.size
 clear o2 E2 hcA
 go_wp2_with fail
 refine ((zu hcB) _).mono ?_
 rintro e w3 ⟨v3, rs3, rfl, o3, E3⟩
 obtain ⟨a3, c3, rfl⟩ : ∃ a c, v3 = .slice a B.length c := by
  obtain ⟨_, ao, cc, e, _⟩ := o3.cls
  exact ⟨ao, cc, e⟩
 have H3 := zh o3
 rw [zu HNB] at H3 ⊢
 replace H2 := zh ((zu H2).ext E3)
 replace HB0 := E3.hk HB0
 replace HB1 := E3.hk HB1
 replace HE0 := Hid.ht HE0 E3
 have z3 := E3.size
 clear o3 E3 hcB q1
 have HCc := zh ((zu HC) w3 (zu HE0))
 clear HC HS H2 H3 HXA HXB HNA HNB HCA HCB
 go_wp2_with (first
  | (refine zl rfl 99 _ rfl (w.heap.size) rfl _ _ _ _ (zu HB0) Tryz.underlying99 rfl infoL ?_))
 refine (zu HCc).mono ?_
 rintro e w5 ⟨ua, uc, rfl, HO, E5⟩
 replace HB1 := E5.hk HB1
 replace HE0 := Hid.ht HE0 E5
 clear E5 HB0 HCc
 go_wp2_with (first
  | (refine zi rfl 99 _ _ rfl rfl (w.heap.size + 1) rfl _ _ _ rfl (zu HB1) infoL rfl (by simp [Value.oneCell']) ?_; intro Z hy hf9; have HY := zh hy; have FY := zh hf9; clear hy hf9))
 have v0 := zg (zu HY) 0 _ rfl
 have v1 := zg (zu HY) 1 _ rfl
 have v2 := zg (zu HY) 2 _ rfl
 have v3 := zg (zu HY) 3 _ rfl
 exact bodyPost_ret (v := .tuple #[.agg #[.string a, .string b, .string c, .slice ua un.length uc], .int .i64 2]) (by simp [results, Tryz.results141, go_sem, v0, v1, v2, v3]) rfl (⟨⟨_, rfl, ((zu HO).fr (zu FY) (fun g hg e9 => by have := ((zu HO).lt g hg).1; omega)).mono (by omega)⟩, (zu FY).ext (zu HE0) (fun q hq => by omega)⟩)
end Go.Proofs.YtinfdhbnljnifaaGreatDoor
