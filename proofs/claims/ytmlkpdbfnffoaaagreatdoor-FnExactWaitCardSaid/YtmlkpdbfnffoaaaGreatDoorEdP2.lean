import Derived.Test.YtmlkpdbfnffoaaaGreatDoorEdH
import Derived.Test.YtmlkpdbfnffoaaaGreatDoorLineS2
set_option maxHeartbeats 8000000
set_option maxRecDepth 10000
set_option linter.unusedSimpArgs false
namespace Go.Proofs.YtmlkpdbfnffoaaaGreatDoor
open Go.RowKit
theorem zkd (a b c : ByteArray) (v : Value) (un : List (ByteArray × ByteArray)) (ra : Option Addr) (rn rc : Nat) (w : World) (hv : zei w v un) (ha : a.size ≤ 1048576) (hb : b.size ≤ 1048576) (hc : c.size ≤ 1048576) (_hn : un.length ≤ 1048576) (hx : ∀ j, j < un.length → (lnT un j).size ≤ 1048576 ∧ (lnH un j).size ≤ 1048576) (hP : zb8 a b c un.length (lnT un) (lnH un)) (o : LD) (HM : ∀ W u, Ext w W → zei W u un → Calls Tryz.prog 117 #[.agg #[.string a, .string b, .string c, u], .int .i64 1] W fun e w' => e = .returned (.tuple #[.agg #[.string a, .string b, .string c, u], .int .i64 (-1)]) ∧ Ext W w') (HF : ∀ W u, Ext w W → zei W u un → Calls Tryz.prog 118 #[.agg #[.string a, .string b, .string c, u], .slice ra rn rc] W fun e w' => LnO w' W.heap.size o e ∧ Ext W w') :
  Calls Tryz.prog 81 #[.agg #[.string a, .string b, .string c, v], .agg #[.int .i64 1, .slice ra rn rc]] w fun e w' => LnO w' w.heap.size o e ∧ Ext w w' := by
 have infoL : (Tryz.prog.info? 37).map (·.size) = some 4 := by kernel_rfl
 obtain ⟨ao, ca, rfl, _, _⟩ := id hv
 have H1 := zi (fun W (E : Ext w W) => zcU a b c ao un.length ca (lnT un) (lnH un) W (zaH.ext hv E) ha hb hc hx true (by simp [hP]))
 have HMv := zi (fun W (E : Ext w W) => HM W _ E (hv.ext E))
 have HFv := zi (fun W (E : Ext w W) => HF W _ E (hv.ext E))
 clear hP hv hx HM HF
 obtain ⟨V, hV⟩ : ∃ V, V = ((w.alloc (.cells #[.string a, .string b, .string c, .slice ao un.length ca] 37)).alloc (.cells #[.int .i64 1, .slice ra rn rc] 102)).alloc (.cells zL4 37) := ⟨_, rfl⟩
 have E0 : Ext w V := by rw [hV]; exact (((Ext.refl w).alloc _).alloc _).alloc _
 have HB0 : Hid (V.heap[w.heap.size]? = some (.cells #[.string a, .string b, .string c, .slice ao un.length ca] 37 (0, 0))) := zi (by rw [hV]; exact (((Ext.refl _).alloc _).alloc _).kept (zn w _))
 have HBK : Hid (V.heap[w.heap.size + 1]? = some (.cells #[.int .i64 1, .slice ra rn rc] 102 (0, 0))) := zi (by rw [hV]; have h := zn (w.alloc (.cells #[.string a, .string b, .string c, .slice ao un.length ca] 37)) (.cells #[.int .i64 1, .slice ra rn rc] 102); rw [show (w.alloc (.cells #[.string a, .string b, .string c, .slice ao un.length ca] 37)).heap.size = w.heap.size + 1 by simp] at h; exact ((Ext.refl _).alloc _).kept h)
 have HB1 : Hid (V.heap[w.heap.size + 2]? = some (.cells zL4 37 (0, 0))) := zi (by rw [hV]; have h := zn ((w.alloc (.cells #[.string a, .string b, .string c, .slice ao un.length ca] 37)).alloc (.cells #[.int .i64 1, .slice ra rn rc] 102)) (.cells zL4 37); rw [show ((w.alloc (.cells #[.string a, .string b, .string c, .slice ao un.length ca] 37)).alloc (.cells #[.int .i64 1, .slice ra rn rc] 102)).heap.size = w.heap.size + 2 by simp] at h; exact h)
 have sz0 : w.heap.size + 2 < V.heap.size := zt (zg HB1)
 have HW := zi hV
 clear hV
 go_enter Tryz.func81, Tryz.ntmps81
 go_wp2_with fail
 rw [← zg HW]
 clear HW
 refine ((zg H1) _ E0).mono ?_
 rintro e w1 ⟨rfl, E1⟩
 have HE0 := zi (E0.trans E1)
 replace HB0 := E1.hk HB0
 replace HBK := E1.hk HBK
 replace HB1 := E1.hk HB1
 have z1 := E1.size
 clear E0 E1 H1
 have HMc := zi ((zg HMv) w1 (zg HE0))
 have k0 := zk (zg HBK) 0 _ rfl
 clear HMv
 go_wp2_with (first
  | (refine zm rfl 37 _ rfl (w.heap.size) rfl _ _ _ _ (zg HB0) Tryz.underlying37 rfl infoL ?_))
 refine (zg HMc).mono ?_
 rintro e w5 ⟨rfl, E5⟩
 replace HB0 := E5.hk HB0
 replace HBK := E5.hk HBK
 replace HB1 := E5.hk HB1
 replace HE0 := Hid.ht HE0 E5
 have HN := zi (heap_alloc_new w5 (.cells zL4 37))
 have hz5 : w.heap.size + 2 < w5.heap.size := zt (zg HB1)
 clear HMc E5 k0
 go_wp2_with (first
  | (refine zy rfl 37 _ _ rfl rfl (w5.heap.size) rfl _ _ _ rfl (zg HN) infoL rfl (by simp [Value.oneCell']) ?_; intro U hB hU; have hU1 := hU.ext ((Ext.refl w5).alloc _) (fun q hq => by omega); replace HB0 := hU1.hk HB0; replace HBK := hU1.hk HBK; replace HB1 := hU1.hk HB1; replace HE0 := Hid.ht HE0 hU1; have c0 : U.cell? ⟨w.heap.size, 0, none⟩ = some (.string a) := zk (zg HB0) 0 _ rfl; have c1 : U.cell? ⟨w.heap.size, 1, none⟩ = some (.string b) := zk (zg HB0) 1 _ rfl; have k0 : U.cell? ⟨w.heap.size + 1, 0, none⟩ = some (.int .i64 1) := zk (zg HBK) 0 _ rfl; have k1 : U.cell? ⟨w.heap.size + 1, 1, none⟩ = some (.slice ra rn rc) := zk (zg HBK) 1 _ rfl; have zU := hU1.size; clear hB hU hU1)
  | (refine zm rfl 37 _ rfl (w.heap.size) rfl _ _ _ _ (zg HB0) Tryz.underlying37 rfl infoL ?_))
 refine ((zg HFv) U (zg HE0)).mono ?_
 rintro e w6 ⟨⟨v6, rfl, hO⟩, E6⟩
 obtain ⟨ua, uc, rfl⟩ : ∃ ua uc, v6 = .slice ua o.un.length uc := by
  obtain ⟨x, y, e, _⟩ := hO.reads
  exact ⟨x, y, e⟩
 have HO := zi hO
 replace HB1 := E6.hk HB1
 replace HE0 := Hid.ht HE0 E6
 clear hO E6 HB0 c0 c1 k0 k1 HFv
 go_wp2_with (first
  | (refine zy rfl 37 _ _ rfl rfl (w.heap.size + 2) rfl _ _ _ rfl (zg HB1) infoL rfl (by simp [Value.oneCell']) ?_; intro Z hy hf9; have HY := zi hy; have FY := zi hf9; clear hy hf9))
 have v0 := zk (zg HY) 0 _ rfl
 have v1 := zk (zg HY) 1 _ rfl
 have v2 := zk (zg HY) 2 _ rfl
 have v3 := zk (zg HY) 3 _ rfl
 exact bodyPost_ret (v := .tuple #[.agg #[.string o.a, .string o.b, .string o.c, .slice ua o.un.length uc], .int .i64 o.d]) (by simp [results, Tryz.results81, go_sem, v0, v1, v2, v3]) rfl ⟨⟨_, rfl, ((zg HO).fr (zg FY) (fun g hg e9 => by have := ((zg HO).lt g hg).1; omega)).mono (by omega)⟩, (zg FY).ext (zg HE0) (fun q hq => by omega)⟩
theorem zg5 (a b c : ByteArray) (v : Value) (un : List (ByteArray × ByteArray)) (ra : Option Addr) (rn rc : Nat) (w : World) (hv : zei w v un) (ha : a.size ≤ 1048576) (hb : b.size ≤ 1048576) (hc : c.size ≤ 1048576) (hn : un.length ≤ 1048576) (hx : ∀ j, j < un.length → (lnT un j).size ≤ 1048576 ∧ (lnH un j).size ≤ 1048576) (kd : Int) (hP : zb8 a b c un.length (lnT un) (lnH un)) (n1 : ¬ kd = 1) (n2 : ¬ kd = 2) (n4 : ¬ kd = 4) (n5 : ¬ kd = 5) (n12 : ¬ kd = 12) (n13 : ¬ kd = 13) (n14 : ¬ kd = 14) (n15 : ¬ kd = 15) (n16 : ¬ kd = 16) (n17 : ¬ kd = 17) (HM : ∀ W u, Ext w W → zei W u un → Calls Tryz.prog 117 #[.agg #[.string a, .string b, .string c, u], .int .i64 kd] W fun e w' => e = .returned (.tuple #[.agg #[.string a, .string b, .string c, u], .int .i64 (-1)]) ∧ Ext W w') (dd : Int) (HF : ∀ W, Calls Tryz.prog 126 #[.int .i64 kd] W fun e w' => e = .returned (.int .i64 dd) ∧ Ext W w') :
  Calls Tryz.prog 81 #[.agg #[.string a, .string b, .string c, v], .agg #[.int .i64 kd, .slice ra rn rc]] w fun e w' => LnO w' w.heap.size ⟨a, b, c, un, dd⟩ e ∧ Ext w w' := by
 have infoL : (Tryz.prog.info? 37).map (·.size) = some 4 := by kernel_rfl
 obtain ⟨ao, ca, rfl, _, _⟩ := id hv
 have H1 := zi (fun W (E : Ext w W) => zcU a b c ao un.length ca (lnT un) (lnH un) W (zaH.ext hv E) ha hb hc hx true (by simp [hP]))
 have HMv := zi (fun W (E : Ext w W) => HM W _ E (hv.ext E))
 have HFv := zi HF
 have HC := zi (fun W (E : Ext w W) => zcm a b c (.slice ao un.length ca) un.length (lnT un) (lnH un) W (zaH.ext hv E) hn)
 clear hP hv hx HM HF
 have m1 : (kd == 1) = false := by simpa using n1
 have m2 : (kd == 2) = false := by simpa using n2
 have m4 : (kd == 4) = false := by simpa using n4
 have m5 : (kd == 5) = false := by simpa using n5
 have m12 : (kd == 12) = false := by simpa using n12
 have m13 : (kd == 13) = false := by simpa using n13
 have m14 : (kd == 14) = false := by simpa using n14
 have m15 : (kd == 15) = false := by simpa using n15
 have m16 : (kd == 16) = false := by simpa using n16
 have m17 : (kd == 17) = false := by simpa using n17
 obtain ⟨V, hV⟩ : ∃ V, V = ((w.alloc (.cells #[.string a, .string b, .string c, .slice ao un.length ca] 37)).alloc (.cells #[.int .i64 kd, .slice ra rn rc] 102)).alloc (.cells zL4 37) := ⟨_, rfl⟩
 have E0 : Ext w V := by rw [hV]; exact (((Ext.refl w).alloc _).alloc _).alloc _
 have HB0 : Hid (V.heap[w.heap.size]? = some (.cells #[.string a, .string b, .string c, .slice ao un.length ca] 37 (0, 0))) := zi (by rw [hV]; exact (((Ext.refl _).alloc _).alloc _).kept (zn w _))
 have HBK : Hid (V.heap[w.heap.size + 1]? = some (.cells #[.int .i64 kd, .slice ra rn rc] 102 (0, 0))) := zi (by rw [hV]; have h := zn (w.alloc (.cells #[.string a, .string b, .string c, .slice ao un.length ca] 37)) (.cells #[.int .i64 kd, .slice ra rn rc] 102); rw [show (w.alloc (.cells #[.string a, .string b, .string c, .slice ao un.length ca] 37)).heap.size = w.heap.size + 1 by simp] at h; exact ((Ext.refl _).alloc _).kept h)
 have HB1 : Hid (V.heap[w.heap.size + 2]? = some (.cells zL4 37 (0, 0))) := zi (by rw [hV]; have h := zn ((w.alloc (.cells #[.string a, .string b, .string c, .slice ao un.length ca] 37)).alloc (.cells #[.int .i64 kd, .slice ra rn rc] 102)) (.cells zL4 37); rw [show ((w.alloc (.cells #[.string a, .string b, .string c, .slice ao un.length ca] 37)).alloc (.cells #[.int .i64 kd, .slice ra rn rc] 102)).heap.size = w.heap.size + 2 by simp] at h; exact h)
 have sz0 : w.heap.size + 2 < V.heap.size := zt (zg HB1)
 have HW := zi hV
 clear hV
 go_enter Tryz.func81, Tryz.ntmps81
 go_wp2_with fail
 rw [← zg HW]
 clear HW
 refine ((zg H1) _ E0).mono ?_
 rintro e w1 ⟨rfl, E1⟩
 have HE0 := zi (E0.trans E1)
 replace HB0 := E1.hk HB0
 replace HBK := E1.hk HBK
 replace HB1 := E1.hk HB1
 have z1 := E1.size
 clear E0 E1 H1
 have HMc := zi ((zg HMv) w1 (zg HE0))
 have k0 := zk (zg HBK) 0 _ rfl
 clear HMv
 go_wp2_with (first
  | (refine zm rfl 37 _ rfl (w.heap.size) rfl _ _ _ _ (zg HB0) Tryz.underlying37 rfl infoL ?_))
 refine (zg HMc).mono ?_
 rintro e w5 ⟨rfl, E5⟩
 replace HB0 := E5.hk HB0
 replace HBK := E5.hk HBK
 replace HB1 := E5.hk HB1
 replace HE0 := Hid.ht HE0 E5
 have HN := zi (heap_alloc_new w5 (.cells zL4 37))
 have hz5 : w.heap.size + 2 < w5.heap.size := zt (zg HB1)
 clear HMc E5 k0
 go_wp2_with (first
  | (refine zy rfl 37 _ _ rfl rfl (w5.heap.size) rfl _ _ _ rfl (zg HN) infoL rfl (by simp [Value.oneCell']) ?_; intro U hB hU; have hU1 := hU.ext ((Ext.refl w5).alloc _) (fun q hq => by omega); replace HB0 := hU1.hk HB0; replace HBK := hU1.hk HBK; replace HB1 := hU1.hk HB1; replace HE0 := Hid.ht HE0 hU1; have c0 : U.cell? ⟨w.heap.size, 0, none⟩ = some (.string a) := zk (zg HB0) 0 _ rfl; have c1 : U.cell? ⟨w.heap.size, 1, none⟩ = some (.string b) := zk (zg HB0) 1 _ rfl; have k0 : U.cell? ⟨w.heap.size + 1, 0, none⟩ = some (.int .i64 kd) := zk (zg HBK) 0 _ rfl; have k1 : U.cell? ⟨w.heap.size + 1, 1, none⟩ = some (.slice ra rn rc) := zk (zg HBK) 1 _ rfl; have zU := hU1.size; clear hB hU hU1)
  | (refine zm rfl 37 _ rfl (w.heap.size) rfl _ _ _ _ (zg HB0) Tryz.underlying37 rfl infoL ?_))
 have q0 : U.cell? ⟨w.heap.size, 0, none⟩ = some (.string a) ∧ U.cell? ⟨w.heap.size, 1, none⟩ = some (.string b) ∧ U.cell? ⟨w.heap.size, 2, none⟩ = some (.string c) ∧ U.cell? ⟨w.heap.size, 3, none⟩ = some (.slice ao un.length ca) ∧ U.cell? ⟨w.heap.size + 1, 0, none⟩ = some (.int .i64 kd) := ⟨zk (zg HB0) 0 _ rfl, zk (zg HB0) 1 _ rfl, zk (zg HB0) 2 _ rfl, zk (zg HB0) 3 _ rfl, zk (zg HBK) 0 _ rfl⟩
 refine wp_region_held_drew (S := fun W => W.cell? ⟨w.heap.size, 0, none⟩ = some (.string a) ∧ W.cell? ⟨w.heap.size, 1, none⟩ = some (.string b) ∧ W.cell? ⟨w.heap.size, 2, none⟩ = some (.string c) ∧ W.cell? ⟨w.heap.size, 3, none⟩ = some (.slice ao un.length ca) ∧ W.cell? ⟨w.heap.size + 1, 0, none⟩ = some (.int .i64 kd)) (by kernel_rfl) q0 (fun hHeld => ?_)
 refine tk 0 ?_ rfl (by kernel_rfl) (fun _ _ _ h => h) (by rfl) ?_ (by assumption) ?_
 rotate_left
 ·intro w' hSw; go_simp <;> with_reducible rfl
 simp only [Act.put, q9]
 refine tk 2 ?_ rfl (by kernel_rfl) (fun _ _ _ h => h) (by rfl) ?_ (by assumption) ?_
 rotate_left
 ·intro w' hSw; go_simp <;> with_reducible rfl
 simp only [Act.put, q9]
 refine tk 3 ?_ rfl (by kernel_rfl) (fun _ _ _ h => h) (by rfl) ?_ (by assumption) ?_
 rotate_left
 ·intro w' hSw; go_simp <;> with_reducible rfl
 simp only [Act.put, q9]
 refine rdy 1 (by kernel_rfl) rfl (fun K hK => ?_)
 go_simp
 go_wp2_with (go_at_call 49; refine ((zg HC) _ (by first | exact zg HE0 | exact (zg HE0).drew)).mono ?_; rintro e w6 ⟨ua, uc, rfl, HO0, E6⟩; have HO := (show Hid (zaR w6 U.heap.size _ _ _ _ _) from HO0); clear HO0; have F6 : Ext U w6 := (by first | exact E6 | exact (Ext.refl _).drew.trans E6); have d0 := F6.kept (zg HB0); have d1 := F6.kept (zg HBK); have z6 := F6.size; clear E6)
 refine hK.out _ _ ⟨zk d0 0 _ rfl, zk d0 1 _ rfl, zk d0 2 _ rfl, zk d0 3 _ rfl, zk d1 0 _ rfl⟩ (fun hHeld => ?_)
 clear hK K
 refine rdy 4 (by kernel_rfl) rfl (fun K hK => ?_)
 go_simp
 go_wp2_with (go_at_call 126; refine ((zg HFv) _).mono ?_; rintro e w7 ⟨rfl, E7⟩; have F7 : Ext w6 w7 := (by first | exact E7 | exact (Ext.refl _).drew.trans E7); have e0 := F7.kept d0; have e1 := F7.kept d1; clear E7)
 refine hK.out _ _ ⟨zk e0 0 _ rfl, zk e0 1 _ rfl, zk e0 2 _ rfl, zk e0 3 _ rfl, zk e1 0 _ rfl⟩ (fun hHeld => ?_)
 clear hK K
 have HB17 := zi ((F6.trans F7).kept (zg HB1))
 have HO7 := zi ((zg HO).ext F7)
 replace HE0 := zi ((zg HE0).trans (F6.trans F7))
 refine rdy 5 (by kernel_rfl) rfl (fun K hK => ?_)
 refine zad 37 _ _ rfl rfl (w.heap.size + 2) rfl _ _ #[.string a, .string b, .string c, .slice ua un.length uc] rfl (zg HB17) infoL rfl (by simp [Value.oneCell']) ?_
 intro Z hy hf9
 have g0 := hf9.kept e0 (by omega)
 have g1 := hf9.kept e1 (by omega)
 refine hK.out _ _ ⟨zk g0 0 _ rfl, zk g0 1 _ rfl, zk g0 2 _ rfl, zk g0 3 _ rfl, zk g1 0 _ rfl⟩ (fun hHeld => ?_)
 have HY := zi hy
 have FY := zi hf9
 clear hK K hy hf9
 refine tk 6 ?_ rfl (by kernel_rfl) (fun _ _ _ h => h) (by rfl) ?_ (by assumption) ?_
 rotate_left
 ·intro w' hSw; go_simp <;> with_reducible rfl
 simp only [Act.put, q9]
 refine wpAnyH_done (by kernel_rfl) ?_ _
 go_wp2
 have v0 := zk (zg HY) 0 _ rfl
 have v1 := zk (zg HY) 1 _ rfl
 have v2 := zk (zg HY) 2 _ rfl
 have v3 := zk (zg HY) 3 _ rfl
 exact bodyPost_ret (v := .tuple #[.agg #[.string a, .string b, .string c, .slice ua un.length uc], .int .i64 dd]) (by simp [results, Tryz.results81, go_sem, v0, v1, v2, v3]) rfl ⟨⟨_, rfl, ((zg HO7).fr (zg FY) (fun g hg e9 => by have := ((zg HO7).lt g hg).1; omega)).mono (by omega)⟩, (zg FY).ext (zg HE0) (fun q hq => by omega)⟩
theorem zkj (a b c : ByteArray) (v : Value) (un : List (ByteArray × ByteArray)) (rv : Value) (rs : List Int) (w : World) (hv : zei w v un) (hn : un.length ≤ 50) (_za : a.size ≤ 1048576) (_zb : b.size ≤ 1048576) (hr : zag w .i32 rv rs) (h0 : rs.length = 0) :
  Calls Tryz.prog 118 #[.agg #[.string a, .string b, .string c, v], rv] w fun e w' => LnO w' w.heap.size ⟨a, b, c, un, 0⟩ e ∧ Ext w w' := by
 have infoL : (Tryz.prog.info? 37).map (·.size) = some 4 := by kernel_rfl
 obtain ⟨ao, ca, rfl, _, _⟩ := id hv
 obtain ⟨ra, rc, rfl, _⟩ := id hr
 have HC := zi (fun W (E : Ext w W) => zcm a b c (.slice ao un.length ca) un.length (lnT un) (lnH un) W (zaH.ext hv E) (by omega))
 clear hv hr
 rw [h0]
 obtain ⟨V, hV⟩ : ∃ V, V = (w.alloc (.cells #[.string a, .string b, .string c, .slice ao un.length ca] 37)).alloc (.cells zL4 37) := ⟨_, rfl⟩
 have E0 : Ext w V := by rw [hV]; exact ((Ext.refl w).alloc _).alloc _
 have HB0 : Hid (V.heap[w.heap.size]? = some (.cells #[.string a, .string b, .string c, .slice ao un.length ca] 37 (0, 0))) := zi (by rw [hV]; exact ((Ext.refl _).alloc _).kept (zn w _))
 have HB1 : Hid (V.heap[w.heap.size + 1]? = some (.cells zL4 37 (0, 0))) := zi (by rw [hV]; have h := zn (w.alloc (.cells #[.string a, .string b, .string c, .slice ao un.length ca] 37)) (.cells zL4 37); rw [show (w.alloc (.cells #[.string a, .string b, .string c, .slice ao un.length ca] 37)).heap.size = w.heap.size + 1 by simp] at h; exact h)
 have sz0 : w.heap.size + 1 < V.heap.size := zt (zg HB1)
 subst hV
 have HE0 := zi E0
 have HCV := zi ((zg HC) _ E0)
 clear E0 HC
 go_enter Tryz.func118, Tryz.ntmps118
 have HCc := HCV
 go_wp2_with (first
  | (refine zm rfl 37 _ rfl (w.heap.size) rfl _ _ _ _ (zg HB0) Tryz.underlying37 rfl infoL ?_))
 refine (zg HCc).mono ?_
 rintro e w5 ⟨ua, uc, rfl, HO, E5⟩
 have z5 := (zg HE0).size
 replace HB1 := E5.hk HB1
 replace HE0 := Hid.ht HE0 E5
 clear E5 HB0 HCc
 go_wp2_with (first
  | (refine zy rfl 37 _ _ rfl rfl (w.heap.size + 1) rfl _ _ _ rfl (zg HB1) infoL rfl (by simp [Value.oneCell']) ?_; intro Z hy hf9; have HY := zi hy; have FY := zi hf9; clear hy hf9))
 have v0 := zk (zg HY) 0 _ rfl
 have v1 := zk (zg HY) 1 _ rfl
 have v2 := zk (zg HY) 2 _ rfl
 have v3 := zk (zg HY) 3 _ rfl
 exact bodyPost_ret (v := .tuple #[.agg #[.string a, .string b, .string c, .slice ua un.length uc], .int .i64 0]) (by simp [results, Tryz.results118, go_sem, v0, v1, v2, v3]) rfl (⟨⟨_, rfl, ((zg HO).fr (zg FY) (fun g hg e9 => by have := ((zg HO).lt g hg).1; omega)).mono (by omega)⟩, (zg FY).ext (zg HE0) (fun q hq => by omega)⟩)
theorem zkh (a b c : ByteArray) (v : Value) (un : List (ByteArray × ByteArray)) (rv : Value) (rs : List Int) (w : World) (hv : zei w v un) (hn : un.length ≤ 50) (za : a.size ≤ 1048576) (zb : b.size ≤ 1048576) (hr : zag w .i32 rv rs) (iR : zbv rs) (h0 : 0 < rs.length ∧ rs.length ≤ 300) (na : (zp (baL a)).length ≤ 300) (hb : 300 < (zaq (zj (zp (baL a) ++ rs))).length + (zp (baL b)).length) :
    Calls Tryz.prog 118 #[.agg #[.string a, .string b, .string c, v], rv] w fun e w' => LnO w' w.heap.size ⟨a, b, c, un, 2⟩ e ∧ Ext w w' := by
  have infoL : (Tryz.prog.info? 37).map (·.size) = some 4 := by kernel_rfl
  obtain ⟨ao, ca, rfl, _, _⟩ := id hv
  obtain ⟨ra, rc, rfl, _⟩ := id hr
  have HC := zi (fun W (E : Ext w W) => zcm a b c (.slice ao un.length ca) un.length (lnT un) (lnH un) W (zaH.ext hv E) (by omega))
  obtain ⟨ic, hic, hc0, hc1, hc2⟩ := info_parts zcW
  have HS := zi (fun l r W (E : Ext w W) => zia a b c l r (.slice ao un.length ca) un.length (lnT un) (lnH un) W (zaH.ext hv E) hn)
  rw [zm6] at HS
  have HSr := zi (fun W (E : Ext w W) => Src.ints (hr.ext E))
  obtain ⟨h0, h1⟩ := h0
  have hN : (zp (baL a) ++ rs).length ≤ 600 := by rw [List.length_append]; omega
  have fl6 : (zaq (zj (zp (baL a) ++ rs))).length ≤ 2000 := by
    rw [zci]
    have := zfc (zp (baL a) ++ rs) (zp (baL a) ++ rs).length
    have h2 := zc2 (zp (baL a) ++ rs) (zp (baL a) ++ rs).length
    unfold zj
    omega
  obtain ⟨X, hX⟩ : ∃ X, X = zv (zac (zj (zp (baL a) ++ rs))) := ⟨_, rfl⟩
  have HK := zi (fun v W (hv : zag W .i32 v (zp (baL a) ++ rs)) => zbJ v _ W hv (fun z hz => (List.mem_append.1 hz).elim (zcK _ z) (iR z)) (by omega))
  have HTx := zi (fun v W (hv : zaI W v (zj (zp (baL a) ++ rs))) => zch v _ W hv (zb7 _ (by omega)) (fun j _ => zdD _ _ j))
  have HCt := zi (fun W => zcx (zac (zj (zp (baL a) ++ rs))) (zd7 _ _) W (by rw [zbu]; have := zeQ (zaq (zj (zp (baL a) ++ rs))); omega))
  rw [zeK] at HCt
  rw [← hX] at HTx HCt
  have HCb := zi (fun W => zdy b W zb)
  obtain ⟨f1, hf1⟩ : ∃ n, (zaq (zj (zp (baL a) ++ rs))).length = n := ⟨_, rfl⟩
  obtain ⟨f2, hf2⟩ : ∃ n, (zp (baL b)).length = n := ⟨_, rfl⟩
  have z2 : f2 ≤ 1048576 := by rw [← hf2]; have := zaN (baL b); rw [zar] at this; omega
  rw [hf1] at HCt fl6 hb
  rw [hf2] at HCb hb
  have hw : IntKind.i64.wrap ((f1 : Int) + (f2 : Int)) = (f1 : Int) + (f2 : Int) := by rw [IntKind.wrap_i64]; omega
  have HXX := zi hX
  have lcl := zaN (baL a)
  rw [zar] at lcl
  have HL : Hid (zp (baL a) = zp (baL a)) := zi rfl
  clear hv hX hf1 hf2
  obtain ⟨m, hm⟩ : ∃ m, rs.length = m := ⟨_, rfl⟩
  have HM := zi hm
  rw [hm] at h0 h1 ⊢
  have g1 : ¬ (m : Int) = 0 := by omega
  have g2 : ¬ m = 0 := by omega
  have g3 : ¬ (300 : Int) < (m : Int) := by omega
  clear hm
  obtain ⟨V, hV⟩ : ∃ V, V = (w.alloc (.cells #[.string a, .string b, .string c, .slice ao un.length ca] 37)).alloc (.cells zL4 37) := ⟨_, rfl⟩
  have E0 : Ext w V := by rw [hV]; exact ((Ext.refl w).alloc _).alloc _
  have HB0 : Hid (V.heap[w.heap.size]? = some (.cells #[.string a, .string b, .string c, .slice ao un.length ca] 37 (0, 0))) := zi (by rw [hV]; exact ((Ext.refl _).alloc _).kept (zn w _))
  have HB1 : Hid (V.heap[w.heap.size + 1]? = some (.cells zL4 37 (0, 0))) := zi (by rw [hV]; have h := zn (w.alloc (.cells #[.string a, .string b, .string c, .slice ao un.length ca] 37)) (.cells zL4 37); rw [show (w.alloc (.cells #[.string a, .string b, .string c, .slice ao un.length ca] 37)).heap.size = w.heap.size + 1 by simp] at h; exact h)
  have sz0 : w.heap.size + 1 < V.heap.size := zt (zg HB1)
  obtain ⟨v0, w0, hrun, i0, E1⟩ := zea (P := Tryz.prog) V _ _ _ Tryz.underlying9 Tryz.underlying25 Tryz.underlying5 (baL a) (zau a)
  rw [zay] at hrun
  have HCl := zi (zbZ (baL a) (zau a) v0 w0 i0 (by rw [zar]; omega))
  have q0 := zk (zg HB0) 0 _ rfl
  rw [hV] at hrun q0
  replace HB0 := E1.hk HB0
  replace HB1 := E1.hk HB1
  have HE0 := zi (E0.trans E1)
  have z0 := E1.size
  have HBz0 := HB0
  have HBz1 := HB1
  have HEz := HE0
  clear hV E0 E1 i0 hr
  go_enter Tryz.func118, Tryz.ntmps118
  go_wp2_with fail
  refine (zg HCl).mono ?_
  rintro e w1 ⟨v1, rfl, o1, E1⟩
  obtain ⟨a1, c1, rfl⟩ := zc8 o1
  replace HB0 := E1.hk HB0
  replace HB1 := E1.hk HB1
  replace HE0 := Hid.ht HE0 E1
  have z1 := E1.size
  have HO1 := zi o1
  have HX1 := zi E1
  clear HCl E1 o1 hrun q0
  go_wp2_with (at_builtin; go_loud (
     refine zao rfl _ _ 100 rfl w0.heap.size 21 ic (.int .i32 0) 1 4 Tryz.underlying100 hic hc0 hc1 hc2 rfl (by decide) (.slice a1 (zp (baL a)).length c1) _ _ rfl (zg HO1) _ _ _ rfl (by have := (zg HSr) w1 (zg HE0); rw [zg HM] at this; exact this) (by unfold maxLen; omega) (by omega) z1 ?_
     intro v3 w3 o3 G3 _
     have E3 : Ext w0 w3 := (by exact Ext.grown (w := w0) (W := w1) (zg HX1) G3 (fun b hb => ((zg HO1).lt b hb).1))
     have i3 : zag w3 .i32 v3 (zp (baL a) ++ rs) := (by
       have e2 : (zp (baL a)).length + m = (zp (baL a) ++ rs).length := (by rw [List.length_append, zg HM])
       rw [← List.map_append, e2] at o3
       exact zaf o3)
     obtain ⟨a3, c3, rfl⟩ := zc8 o3
     have HI3 := zi i3
     have HE3 := zi E3
     clear o3 G3 E3 i3))
  refine ((zg HK) _ w3 (zg HI3)).mono ?_
  rintro e w4 ⟨v4, rs4, rfl, o4, E4⟩
  have HT4 := zi ((zg HTx) _ w4 o4.cls)
  obtain ⟨a4, c4, rfl⟩ : ∃ x y, v4 = .slice x (zj (zp (baL a) ++ rs)).length y := by
    obtain ⟨_, ao, cc, e, _⟩ := o4.cls
    exact ⟨ao, cc, e⟩
  replace HE3 := Hid.ht HE3 E4
  clear HK HI3 E4 o4 HTx
  go_wp2_with fail
  refine (zg HT4).mono ?_
  rintro e w5 ⟨rfl, E5⟩
  replace HE3 := Hid.ht HE3 E5
  replace HB0 := zi ((zg HE3).kept (zg HBz0))
  replace HB1 := zi ((zg HE3).kept (zg HBz1))
  replace HE0 := zi ((zg HEz).trans (zg HE3))
  have z5 := (zg HE3).size
  have q0 : w5.cell? ⟨w.heap.size, 0, none⟩ = some (.string a) ∧ w5.cell? ⟨w.heap.size, 1, none⟩ = some (.string b) ∧ w5.cell? ⟨w.heap.size, 2, none⟩ = some (.string c) ∧ w5.cell? ⟨w.heap.size, 3, none⟩ = some (.slice ao un.length ca) := ⟨zk (zg HB0) 0 _ rfl, zk (zg HB0) 1 _ rfl, zk (zg HB0) 2 _ rfl, zk (zg HB0) 3 _ rfl⟩
  clear HT4 E5 HO1 HSr HE3 HBz0 HBz1 HEz
  go_wp2_with fail
  refine wp_region_held_drew (S := fun W => W.cell? ⟨w.heap.size, 0, none⟩ = some (.string a) ∧ W.cell? ⟨w.heap.size, 1, none⟩ = some (.string b) ∧ W.cell? ⟨w.heap.size, 2, none⟩ = some (.string c) ∧ W.cell? ⟨w.heap.size, 3, none⟩ = some (.slice ao un.length ca)) (by kernel_rfl) q0 (fun hHeld => ?_)
  refine tk 0 ?_ rfl (by kernel_rfl) (fun _ _ _ h => h) (by rfl) ?_ (by assumption) ?_
  rotate_left
  · intro w' hSw; go_simp <;> with_reducible rfl
  simp only [Act.put, q9]
  refine tk 2 ?_ rfl (by kernel_rfl) (fun _ _ _ h => h) (by rfl) ?_ (by assumption) ?_
  rotate_left
  · intro w' hSw; go_simp <;> with_reducible rfl
  simp only [Act.put, q9]
  refine tk 3 ?_ rfl (by kernel_rfl) (fun _ _ _ h => h) (by rfl) ?_ (by assumption) ?_
  rotate_left
  · intro w' hSw; go_simp <;> with_reducible rfl
  simp only [Act.put, q9]
  refine rdy 1 (by kernel_rfl) rfl (fun K hK => ?_)
  go_simp
  go_wp2_with (go_at_call 113; refine ((zg HCt) _).mono ?_; rintro e w6 ⟨rfl, E6⟩; have F6 : Ext w5 w6 := (by first | exact E6 | exact (Ext.refl _).drew.trans E6); have d0 := F6.kept (zg HB0); clear E6)
  refine hK.out _ _ ⟨zk d0 0 _ rfl, zk d0 1 _ rfl, zk d0 2 _ rfl, zk d0 3 _ rfl⟩ (fun hHeld => ?_)
  clear hK K
  refine rdy 4 (by kernel_rfl) rfl (fun K hK => ?_)
  go_simp
  go_wp2_with (go_at_call 113; refine ((zg HCb) _).mono ?_; rintro e w7 ⟨rfl, E7⟩; have F7 : Ext w5 w7 := (by first | exact F6.trans E7 | exact F6.drew.trans E7); have d1 := F7.kept (zg HB0); clear E7)
  refine hK.out _ _ ⟨zk d1 0 _ rfl, zk d1 1 _ rfl, zk d1 2 _ rfl, zk d1 3 _ rfl⟩ (fun hHeld => ?_)
  clear hK K
  refine tk 5 ?_ rfl (by kernel_rfl) (fun _ _ _ h => h) (by rfl) ?_ (by assumption) ?_
  rotate_left
  · intro w' hSw; go_simp <;> with_reducible rfl
  simp only [Act.put, q9]
  refine tk 6 ?_ rfl (by kernel_rfl) (fun _ _ _ h => h) (by rfl) ?_ (by assumption) ?_
  rotate_left
  · intro w' hSw; go_simp <;> with_reducible rfl
  simp only [Act.put, q9]
  refine wpAnyH_done (by kernel_rfl) ?_ _
  replace HB0 := zi d1
  replace HB1 := F7.hk HB1
  replace HE0 := Hid.ht HE0 F7
  have z7 := F7.size
  clear F6 F7 d0 d1 q0
  have hbI : (300 : Int) < (f1 : Int) + (f2 : Int) := by omega
  have HCc := zi ((zg HC) w7 (zg HE0))
  clear HC
  go_wp2_with (first
    | (refine zm rfl 37 _ rfl (w.heap.size) rfl _ _ _ _ (zg HB0) Tryz.underlying37 rfl infoL ?_))
  refine (zg HCc).mono ?_
  rintro e w5 ⟨ua, uc, rfl, HO, E5⟩
  have z5 := (zg HE0).size
  replace HB1 := E5.hk HB1
  replace HE0 := Hid.ht HE0 E5
  clear E5 HB0 HCc
  go_wp2_with (first
    | (refine zy rfl 37 _ _ rfl rfl (w.heap.size + 1) rfl _ _ _ rfl (zg HB1) infoL rfl (by simp [Value.oneCell']) ?_; intro Z hy hf9; have HY := zi hy; have FY := zi hf9; clear hy hf9))
  have v0 := zk (zg HY) 0 _ rfl
  have v1 := zk (zg HY) 1 _ rfl
  have v2 := zk (zg HY) 2 _ rfl
  have v3 := zk (zg HY) 3 _ rfl
  exact bodyPost_ret (v := .tuple #[.agg #[.string a, .string b, .string c, .slice ua un.length uc], .int .i64 2]) (by simp [results, Tryz.results118, go_sem, v0, v1, v2, v3]) rfl (⟨⟨_, rfl, ((zg HO).fr (zg FY) (fun g hg e9 => by have := ((zg HO).lt g hg).1; omega)).mono (by omega)⟩, (zg FY).ext (zg HE0) (fun q hq => by omega)⟩)
theorem zlF (a b c : ByteArray) (v : Value) (un : List (ByteArray × ByteArray)) (rv : Value) (rs : List Int) (w : World) (hv : zei w v un) (hn : un.length ≤ 50) (za : a.size ≤ 1048576) (zb : b.size ≤ 1048576) (hr : zag w .i32 rv rs) (iR : zbv rs) (h0 : 0 < rs.length ∧ rs.length ≤ 300) (na : (zp (baL a)).length ≤ 300) (hb : ¬ 300 < (zaq (zj (zp (baL a) ++ rs))).length + (zp (baL b)).length) :
    Calls Tryz.prog 118 #[.agg #[.string a, .string b, .string c, v], rv] w fun e w' => LnO w' w.heap.size (zer a b c un (zv (zac (zj (zp (baL a) ++ rs)))) b) e ∧ Ext w w' := by
  have infoL : (Tryz.prog.info? 37).map (·.size) = some 4 := by kernel_rfl
  obtain ⟨ao, ca, rfl, _, _⟩ := id hv
  obtain ⟨ra, rc, rfl, _⟩ := id hr
  have HC := zi (fun W (E : Ext w W) => zcm a b c (.slice ao un.length ca) un.length (lnT un) (lnH un) W (zaH.ext hv E) (by omega))
  obtain ⟨ic, hic, hc0, hc1, hc2⟩ := info_parts zcW
  have HS := zi (fun l r W (E : Ext w W) => zia a b c l r (.slice ao un.length ca) un.length (lnT un) (lnH un) W (zaH.ext hv E) hn)
  rw [zm6] at HS
  have HSr := zi (fun W (E : Ext w W) => Src.ints (hr.ext E))
  obtain ⟨h0, h1⟩ := h0
  have hN : (zp (baL a) ++ rs).length ≤ 600 := by rw [List.length_append]; omega
  have fl6 : (zaq (zj (zp (baL a) ++ rs))).length ≤ 2000 := by
    rw [zci]
    have := zfc (zp (baL a) ++ rs) (zp (baL a) ++ rs).length
    have h2 := zc2 (zp (baL a) ++ rs) (zp (baL a) ++ rs).length
    unfold zj
    omega
  obtain ⟨X, hX⟩ : ∃ X, X = zv (zac (zj (zp (baL a) ++ rs))) := ⟨_, rfl⟩
  have HK := zi (fun v W (hv : zag W .i32 v (zp (baL a) ++ rs)) => zbJ v _ W hv (fun z hz => (List.mem_append.1 hz).elim (zcK _ z) (iR z)) (by omega))
  have HTx := zi (fun v W (hv : zaI W v (zj (zp (baL a) ++ rs))) => zch v _ W hv (zb7 _ (by omega)) (fun j _ => zdD _ _ j))
  have HCt := zi (fun W => zcx (zac (zj (zp (baL a) ++ rs))) (zd7 _ _) W (by rw [zbu]; have := zeQ (zaq (zj (zp (baL a) ++ rs))); omega))
  rw [zeK] at HCt
  rw [← hX] at HTx HCt
  have HCb := zi (fun W => zdy b W zb)
  obtain ⟨f1, hf1⟩ : ∃ n, (zaq (zj (zp (baL a) ++ rs))).length = n := ⟨_, rfl⟩
  obtain ⟨f2, hf2⟩ : ∃ n, (zp (baL b)).length = n := ⟨_, rfl⟩
  have z2 : f2 ≤ 1048576 := by rw [← hf2]; have := zaN (baL b); rw [zar] at this; omega
  rw [hf1] at HCt fl6 hb
  rw [hf2] at HCb hb
  have hw : IntKind.i64.wrap ((f1 : Int) + (f2 : Int)) = (f1 : Int) + (f2 : Int) := by rw [IntKind.wrap_i64]; omega
  have HXX := zi hX
  have lcl := zaN (baL a)
  rw [zar] at lcl
  have HL : Hid (zp (baL a) = zp (baL a)) := zi rfl
  clear hv hX hf1 hf2
  obtain ⟨m, hm⟩ : ∃ m, rs.length = m := ⟨_, rfl⟩
  have HM := zi hm
  rw [hm] at h0 h1 ⊢
  have g1 : ¬ (m : Int) = 0 := by omega
  have g2 : ¬ m = 0 := by omega
  have g3 : ¬ (300 : Int) < (m : Int) := by omega
  clear hm
  obtain ⟨V, hV⟩ : ∃ V, V = (w.alloc (.cells #[.string a, .string b, .string c, .slice ao un.length ca] 37)).alloc (.cells zL4 37) := ⟨_, rfl⟩
  have E0 : Ext w V := by rw [hV]; exact ((Ext.refl w).alloc _).alloc _
  have HB0 : Hid (V.heap[w.heap.size]? = some (.cells #[.string a, .string b, .string c, .slice ao un.length ca] 37 (0, 0))) := zi (by rw [hV]; exact ((Ext.refl _).alloc _).kept (zn w _))
  have HB1 : Hid (V.heap[w.heap.size + 1]? = some (.cells zL4 37 (0, 0))) := zi (by rw [hV]; have h := zn (w.alloc (.cells #[.string a, .string b, .string c, .slice ao un.length ca] 37)) (.cells zL4 37); rw [show (w.alloc (.cells #[.string a, .string b, .string c, .slice ao un.length ca] 37)).heap.size = w.heap.size + 1 by simp] at h; exact h)
  have sz0 : w.heap.size + 1 < V.heap.size := zt (zg HB1)
  obtain ⟨v0, w0, hrun, i0, E1⟩ := zea (P := Tryz.prog) V _ _ _ Tryz.underlying9 Tryz.underlying25 Tryz.underlying5 (baL a) (zau a)
  rw [zay] at hrun
  have HCl := zi (zbZ (baL a) (zau a) v0 w0 i0 (by rw [zar]; omega))
  have q0 := zk (zg HB0) 0 _ rfl
  rw [hV] at hrun q0
  replace HB0 := E1.hk HB0
  replace HB1 := E1.hk HB1
  have HE0 := zi (E0.trans E1)
  have z0 := E1.size
  have HBz0 := HB0
  have HBz1 := HB1
  have HEz := HE0
  clear hV E0 E1 i0 hr
  go_enter Tryz.func118, Tryz.ntmps118
  go_wp2_with fail
  refine (zg HCl).mono ?_
  rintro e w1 ⟨v1, rfl, o1, E1⟩
  obtain ⟨a1, c1, rfl⟩ := zc8 o1
  replace HB0 := E1.hk HB0
  replace HB1 := E1.hk HB1
  replace HE0 := Hid.ht HE0 E1
  have z1 := E1.size
  have HO1 := zi o1
  have HX1 := zi E1
  clear HCl E1 o1 hrun q0
  go_wp2_with (at_builtin; go_loud (
     refine zao rfl _ _ 100 rfl w0.heap.size 21 ic (.int .i32 0) 1 4 Tryz.underlying100 hic hc0 hc1 hc2 rfl (by decide) (.slice a1 (zp (baL a)).length c1) _ _ rfl (zg HO1) _ _ _ rfl (by have := (zg HSr) w1 (zg HE0); rw [zg HM] at this; exact this) (by unfold maxLen; omega) (by omega) z1 ?_
     intro v3 w3 o3 G3 _
     have E3 : Ext w0 w3 := (by exact Ext.grown (w := w0) (W := w1) (zg HX1) G3 (fun b hb => ((zg HO1).lt b hb).1))
     have i3 : zag w3 .i32 v3 (zp (baL a) ++ rs) := (by
       have e2 : (zp (baL a)).length + m = (zp (baL a) ++ rs).length := (by rw [List.length_append, zg HM])
       rw [← List.map_append, e2] at o3
       exact zaf o3)
     obtain ⟨a3, c3, rfl⟩ := zc8 o3
     have HI3 := zi i3
     have HE3 := zi E3
     clear o3 G3 E3 i3))
  refine ((zg HK) _ w3 (zg HI3)).mono ?_
  rintro e w4 ⟨v4, rs4, rfl, o4, E4⟩
  have HT4 := zi ((zg HTx) _ w4 o4.cls)
  obtain ⟨a4, c4, rfl⟩ : ∃ x y, v4 = .slice x (zj (zp (baL a) ++ rs)).length y := by
    obtain ⟨_, ao, cc, e, _⟩ := o4.cls
    exact ⟨ao, cc, e⟩
  replace HE3 := Hid.ht HE3 E4
  clear HK HI3 E4 o4 HTx
  go_wp2_with fail
  refine (zg HT4).mono ?_
  rintro e w5 ⟨rfl, E5⟩
  replace HE3 := Hid.ht HE3 E5
  replace HB0 := zi ((zg HE3).kept (zg HBz0))
  replace HB1 := zi ((zg HE3).kept (zg HBz1))
  replace HE0 := zi ((zg HEz).trans (zg HE3))
  have z5 := (zg HE3).size
  have q0 : w5.cell? ⟨w.heap.size, 0, none⟩ = some (.string a) ∧ w5.cell? ⟨w.heap.size, 1, none⟩ = some (.string b) ∧ w5.cell? ⟨w.heap.size, 2, none⟩ = some (.string c) ∧ w5.cell? ⟨w.heap.size, 3, none⟩ = some (.slice ao un.length ca) := ⟨zk (zg HB0) 0 _ rfl, zk (zg HB0) 1 _ rfl, zk (zg HB0) 2 _ rfl, zk (zg HB0) 3 _ rfl⟩
  clear HT4 E5 HO1 HSr HE3 HBz0 HBz1 HEz
  go_wp2_with fail
  refine wp_region_held_drew (S := fun W => W.cell? ⟨w.heap.size, 0, none⟩ = some (.string a) ∧ W.cell? ⟨w.heap.size, 1, none⟩ = some (.string b) ∧ W.cell? ⟨w.heap.size, 2, none⟩ = some (.string c) ∧ W.cell? ⟨w.heap.size, 3, none⟩ = some (.slice ao un.length ca)) (by kernel_rfl) q0 (fun hHeld => ?_)
  refine tk 0 ?_ rfl (by kernel_rfl) (fun _ _ _ h => h) (by rfl) ?_ (by assumption) ?_
  rotate_left
  · intro w' hSw; go_simp <;> with_reducible rfl
  simp only [Act.put, q9]
  refine tk 2 ?_ rfl (by kernel_rfl) (fun _ _ _ h => h) (by rfl) ?_ (by assumption) ?_
  rotate_left
  · intro w' hSw; go_simp <;> with_reducible rfl
  simp only [Act.put, q9]
  refine tk 3 ?_ rfl (by kernel_rfl) (fun _ _ _ h => h) (by rfl) ?_ (by assumption) ?_
  rotate_left
  · intro w' hSw; go_simp <;> with_reducible rfl
  simp only [Act.put, q9]
  refine rdy 1 (by kernel_rfl) rfl (fun K hK => ?_)
  go_simp
  go_wp2_with (go_at_call 113; refine ((zg HCt) _).mono ?_; rintro e w6 ⟨rfl, E6⟩; have F6 : Ext w5 w6 := (by first | exact E6 | exact (Ext.refl _).drew.trans E6); have d0 := F6.kept (zg HB0); clear E6)
  refine hK.out _ _ ⟨zk d0 0 _ rfl, zk d0 1 _ rfl, zk d0 2 _ rfl, zk d0 3 _ rfl⟩ (fun hHeld => ?_)
  clear hK K
  refine rdy 4 (by kernel_rfl) rfl (fun K hK => ?_)
  go_simp
  go_wp2_with (go_at_call 113; refine ((zg HCb) _).mono ?_; rintro e w7 ⟨rfl, E7⟩; have F7 : Ext w5 w7 := (by first | exact F6.trans E7 | exact F6.drew.trans E7); have d1 := F7.kept (zg HB0); clear E7)
  refine hK.out _ _ ⟨zk d1 0 _ rfl, zk d1 1 _ rfl, zk d1 2 _ rfl, zk d1 3 _ rfl⟩ (fun hHeld => ?_)
  clear hK K
  refine tk 5 ?_ rfl (by kernel_rfl) (fun _ _ _ h => h) (by rfl) ?_ (by assumption) ?_
  rotate_left
  · intro w' hSw; go_simp <;> with_reducible rfl
  simp only [Act.put, q9]
  refine tk 6 ?_ rfl (by kernel_rfl) (fun _ _ _ h => h) (by rfl) ?_ (by assumption) ?_
  rotate_left
  · intro w' hSw; go_simp <;> with_reducible rfl
  simp only [Act.put, q9]
  refine wpAnyH_done (by kernel_rfl) ?_ _
  replace HB0 := zi d1
  replace HB1 := F7.hk HB1
  replace HE0 := Hid.ht HE0 F7
  have z7 := F7.size
  clear F6 F7 d0 d1 q0
  have hbI : ¬ (300 : Int) < (f1 : Int) + (f2 : Int) := by omega
  have c0 := zk (zg HB0) 1 _ rfl
  have HSc := zi ((zg HS) X b w7 (zg HE0))
  clear HS HC
  go_wp2_with (first
    | (refine zm rfl 37 _ rfl (w.heap.size) rfl _ _ _ _ (zg HB0) Tryz.underlying37 rfl infoL ?_))
  refine (zg HSc).mono ?_
  rintro e w8 ⟨v8, rfl, hO, E8⟩
  obtain ⟨ua, uc, rfl⟩ : ∃ ua uc, v8 = .slice ua (zbk un (a, b)).length uc := by
    obtain ⟨x, y, e, _⟩ := hO.reads
    exact ⟨x, y, e⟩
  have HO := zi hO
  replace HB1 := E8.hk HB1
  replace HE0 := Hid.ht HE0 E8
  clear E8 HB0 HSc hO c0
  go_wp2_with (first
    | (refine zy rfl 37 _ _ rfl rfl (w.heap.size + 1) rfl _ _ _ rfl (zg HB1) infoL rfl (by simp [Value.oneCell']) ?_; intro Z hy hf9; have HY := zi hy; have FY := zi hf9; clear hy hf9))
  have v0 := zk (zg HY) 0 _ rfl
  have v1 := zk (zg HY) 1 _ rfl
  have v2 := zk (zg HY) 2 _ rfl
  have v3 := zk (zg HY) 3 _ rfl
  exact bodyPost_ret (v := .tuple #[.agg #[.string X, .string b, .string c, .slice ua (zbk un (a, b)).length uc], .int .i64 1]) (by simp [results, Tryz.results118, go_sem, v0, v1, v2, v3]) rfl (by rw [← zg HXX]; exact ⟨⟨_, rfl, ((zg HO).fr (zg FY) (fun g hg e9 => by have := ((zg HO).lt g hg).1; omega)).mono (by omega)⟩, (zg FY).ext (zg HE0) (fun q hq => by omega)⟩)
end Go.Proofs.YtmlkpdbfnffoaaaGreatDoor
