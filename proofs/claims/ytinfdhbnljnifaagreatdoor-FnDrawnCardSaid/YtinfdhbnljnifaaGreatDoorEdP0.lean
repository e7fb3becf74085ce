import Derived.Test.YtinfdhbnljnifaaGreatDoorEdMA
import Derived.Test.YtinfdhbnljnifaaGreatDoorEdW2
import Derived.Test.YtinfdhbnljnifaaGreatDoorWhole
import Derived.Deep.DeepCutAuto
import Derived.Test.YtinfdhbnljnifaaGreatDoorOkImpl
import Derived.Test.YtinfdhbnljnifaaGreatDoorTextOf
import Derived.Test.YtinfdhbnljnifaaGreatDoorKmU
import Derived.Test.YtinfdhbnljnifaaGreatDoorEdN
import Derived.Test.YtinfdhbnljnifaaGreatDoorEdU
import Derived.Test.YtinfdhbnljnifaaGreatDoorLineS2
import Derived.Test.YtinfdhbnljnifaaGreatDoorRd
import Derived.Deep.RegionHeld3
namespace Go.Proofs.YtinfdhbnljnifaaGreatDoor
open Go.RowKit
def MvdR (a b c : ByteArray) (v : Value) (un : List (ByteArray × ByteArray)) (w : World) (base : Nat) (e : Ending) : Prop :=
 e = .returned (.tuple #[.agg #[.string a, .string b, .string c, v], .int .i64 (-1)]) ∨ ∃ o : LD, o.c = c ∧ o.un = un ∧ o.a.size + o.b.size = a.size + b.size ∧ 0 ≤ o.d ∧ LnO w base o e
set_option linter.unusedSimpArgs false in
set_option maxRecDepth 10000 in
set_option maxHeartbeats 8000000 in
theorem zj2 (a b c : ByteArray) (v : Value) (un : List (ByteArray × ByteArray)) (w : World) (hv : zb3 w v un) (hn : un.length ≤ 50) (za : a.size ≤ 1048576) (zb : b.size ≤ 1048576) (sa : zas (baL a) = baL a) (sb : zas (baL b) = baL b) (K : Int) :
  Calls Tryz.prog 133 #[.agg #[.string a, .string b, .string c, v], .int .i64 K] w fun e w' => MvdR a b c v un w' w.heap.size e ∧ Ext w w' := by
 have infoL : (Tryz.prog.info? 99).map (·.size) = some 4 := by kernel_rfl
 have hcA := zh (fun W => zan (baL a) (zf a) W (by rw [zw]; omega))
 have hcB := zh (fun W => zan (baL b) (zf b) W (by rw [zw]; omega))
 rw [zat] at hcA hcB
 have lA := zau (baL a)
 have lB := zau (baL b)
 rw [zw] at lA lB
 obtain ⟨ao, ca, rfl, _, _⟩ := id hv
 have HMv := zh (fun W N (E : Ext w W) => zlv a b c _ un W (hv.ext E) hn za zb sa sb N)
 clear hv
 obtain ⟨A, hA⟩ : ∃ A, A = zn (baL a) := ⟨_, rfl⟩
 obtain ⟨B, hB⟩ : ∃ B, B = zn (baL b) := ⟨_, rfl⟩
 rw [← hA] at hcA lA
 rw [← hB] at hcB lB
 obtain ⟨nA, hnA⟩ : ∃ n, A.length = n := ⟨_, rfl⟩
 obtain ⟨nB, hnB⟩ : ∃ n, B.length = n := ⟨_, rfl⟩
 rw [hnA] at lA
 rw [hnB] at lB
 have HLA := zh (fun W v (h : zaF W v A) => zd1 v A W h (by omega))
 have HLB := zh (fun W v (h : zaF W v B) => zf7 v B W h (by omega))
 have HNA := zh hnA
 have HNB := zh hnB
 clear hA hB hnA hnB
 obtain ⟨V, hV⟩ : ∃ V, V = (w.alloc (.cells #[.string a, .string b, .string c, .slice ao un.length ca] 99)).alloc (.cells zL4 99) := ⟨_, rfl⟩
 have E0 : Ext w V := by rw [hV]; exact ((Ext.refl w).alloc _).alloc _
 have HB0 : Hid (V.heap[w.heap.size]? = some (.cells #[.string a, .string b, .string c, .slice ao un.length ca] 99 (0, 0))) := zh (by rw [hV]; exact ((Ext.refl _).alloc _).kept (zk w _))
 have HB1 : Hid (V.heap[w.heap.size + 1]? = some (.cells zL4 99 (0, 0))) := zh (by rw [hV]; have h := zk (w.alloc (.cells #[.string a, .string b, .string c, .slice ao un.length ca] 99)) (.cells zL4 99); rw [show (w.alloc (.cells #[.string a, .string b, .string c, .slice ao un.length ca] 99)).heap.size = w.heap.size + 1 by simp] at h; exact h)
 have sz0 : w.heap.size + 1 < V.heap.size := zq (zu HB1)
 have HW := zh hV
 have HE0 := zh E0
 clear hV E0
 go_enter Tryz.func133, Tryz.ntmps133
 go_wp2_with fail
 rw [← zu HW]
 clear HW
 refine ((zu hcA) _).mono ?_
 rintro e w2 ⟨v2, rs2, rfl, o2, E2⟩
 obtain ⟨a2, c2, rfl⟩ : ∃ a c, v2 = .slice a A.length c := by
  obtain ⟨_, ao, cc, e, _⟩ := o2.cls
  exact ⟨ao, cc, e⟩
 have H2 := zh o2.cls
 rw [zu HNA] at H2 ⊢
 replace HB0 := E2.hk HB0
 replace HB1 := E2.hk HB1
 replace HE0 := Hid.ht HE0 E2
 have q1 := zg (zu HB0) 1 _ rfl
 have z2 := E2.size
 clear o2 E2 hcA
 go_wp2_with fail
 refine ((zu hcB) _).mono ?_
 rintro e w3 ⟨v3, rs3, rfl, o3, E3⟩
 obtain ⟨a3, c3, rfl⟩ : ∃ a c, v3 = .slice a B.length c := by
  obtain ⟨_, ao, cc, e, _⟩ := o3.cls
  exact ⟨ao, cc, e⟩
 have H3 := zh o3.cls
 rw [zu HNB] at H3 ⊢
 replace H2 := zh ((zu H2).ext E3)
 replace HB0 := E3.hk HB0
 replace HB1 := E3.hk HB1
 replace HE0 := Hid.ht HE0 E3
 have z3 := E3.size
 clear o3 E3 hcB q1
 go_upto_if 21 with fail
 go_cut [9] (fun tv wq => ∃ t : Int, tv = .int .i64 t ∧ Hid (Ext w3 wq))
 case first =>
  by_cases e6 : K = 6
  ·subst e6
   go_wp2
   go_meet
   exact ⟨_, rfl, zh (Ext.refl _)⟩
  by_cases e7 : K = 7
  ·subst e7
   go_wp2
   go_meet
   exact ⟨_, rfl, zh (Ext.refl _)⟩
  by_cases e8 : K = 8
  ·subst e8
   go_wp2
   go_meet
   exact ⟨_, rfl, zh (Ext.refl _)⟩
  by_cases e9 : K = 9
  ·subst e9
   go_wp2
   go_meet
   exact ⟨_, rfl, zh (Ext.refl _)⟩
  by_cases e18 : K = 18
  ·subst e18
   go_wp2_with fail
   refine ((zu HLA) _ _ (zu H2)).mono ?_
   rintro e w4 ⟨r, rfl, _, _, F4⟩
   go_wp2
   go_meet
   exact ⟨_, rfl, zh F4⟩
  by_cases e19 : K = 19
  ·subst e19
   go_wp2_with fail
   refine ((zu HLB) _ _ (zu H3)).mono ?_
   rintro e w4 ⟨r, rfl, _, F4⟩
   go_wp2
   go_meet
   exact ⟨_, rfl, zh F4⟩
  go_wp2
  go_meet
  exact ⟨_, rfl, zh (Ext.refl _)⟩
 case rest =>
 rename World => w4
 obtain ⟨t, rfl, HF4⟩ := hcut
 replace HB0 := zh ((zu HF4).kept (zu HB0))
 replace HB1 := zh ((zu HF4).kept (zu HB1))
 replace HE0 := zh ((zu HE0).trans (zu HF4))
 have z4 := (zu HF4).size
 clear H2 H3 HNA HNB HF4 HLA HLB
 by_cases ht : t = -2
 ·subst ht
  go_wp2_with (first
   | (refine zl rfl 99 _ rfl (w.heap.size) rfl _ _ _ _ (zu HB0) Tryz.underlying99 rfl infoL ?_)
   | (refine zi rfl 99 _ _ rfl rfl (w.heap.size + 1) rfl _ _ _ rfl (zu HB1) infoL rfl (by simp [Value.oneCell']) ?_; intro Z hy hf9; have HY := zh hy; have FY := zh hf9; clear hy hf9))
  have v0 := zg (zu HY) 0 _ rfl
  have v1 := zg (zu HY) 1 _ rfl
  have v2 := zg (zu HY) 2 _ rfl
  have v3 := zg (zu HY) 3 _ rfl
  exact bodyPost_ret (v := .tuple #[.agg #[.string a, .string b, .string c, .slice ao un.length ca], .int .i64 (-1)]) (by simp [results, Tryz.results133, go_sem, v0, v1, v2, v3]) rfl ⟨.inl rfl, (zu FY).ext (zu HE0) (fun q hq => by omega)⟩
 have ht2 : (t == -2) = false := by rw [beq_eq_false_iff_ne]; exact ht
 have HMc := zh ((zu HMv) w4 t (zu HE0))
 clear HMv
 go_wp2_with (first
  | (refine zl rfl 99 _ rfl (w.heap.size) rfl _ _ _ _ (zu HB0) Tryz.underlying99 rfl infoL ?_))
 refine (zu HMc).mono ?_
 rintro e w5 ⟨⟨⟨xa, xb, xc, xu, xd⟩, hm, v5, rfl, hl5⟩, E5⟩
 obtain ⟨m1, m2, m3, m4⟩ := hm
 simp only [] at m1 m2 m3 m4 hl5 ⊢
 subst m1
 subst m2
 obtain ⟨ua, uc, rfl⟩ : ∃ ua uc, v5 = .slice ua xu.length uc := by
  obtain ⟨x, y, e, _⟩ := hl5.reads
  exact ⟨x, y, e⟩
 have HL5 := zh hl5
 replace HB1 := E5.hk HB1
 replace HE0 := Hid.ht HE0 E5
 have HN := zh (heap_alloc_new w5 (.cells zL4 99))
 have hz5 : w.heap.size + 1 < w5.heap.size := zq (zu HB1)
 have z5 := E5.size
 clear HMc E5 hl5 HB0
 go_wp2_with (refine zi rfl 99 _ _ rfl rfl (w5.heap.size) rfl _ _ _ rfl (zu HN) infoL rfl (by simp [Value.oneCell']) ?_; intro U hB hU; have hU1 := hU.ext ((Ext.refl w5).alloc _) (fun q hq => by omega); have HEU := zh hU1; have HBU := zh hB; have HB1s := hU1.hk HB1; clear hB hU hU1; refine zaS.intro ?_)
 show wpList _ _ _ _ _ _
 have HM3 := zh m3
 clear m3
 go_upto_region 20 with fail
 go_cut [64] (fun bv wq => ∃ bb : Bool, bv = .bool bb ∧ wq = U)
 case first =>
  rcases m4 with rfl | rfl
  ·go_wp2
   go_meet
   exact ⟨_, rfl, rfl⟩
  by_cases e8 : K = 8
  ·subst e8
   go_wp2
   go_meet
   exact ⟨_, rfl, rfl⟩
  have f8 : (K == 8) = false := by rw [beq_eq_false_iff_ne]; exact e8
  go_wp2
  go_meet
  exact ⟨_, rfl, rfl⟩
 case rest =>
 rename World => w6
 obtain ⟨bb, rfl, rfl⟩ := hcut
 have hxd : 0 ≤ xd := by omega
 go_upto_if 64 with fail
 go_cut [11] (fun dv wq => ∃ d' : Int, dv = .int .i64 d' ∧ 0 ≤ d' ∧ wq = w6)
 case first =>
  cases bb
  all_goals
   go_wp2
   go_meet
   exact ⟨_, rfl, by first | exact hxd | decide, rfl⟩
 case rest =>
 rename World => w7
 obtain ⟨d', rfl, hd', rfl⟩ := hcut
 go_wp2_with (first
  | (refine zl rfl 99 _ rfl (w5.heap.size) rfl _ _ _ _ (zu HBU) Tryz.underlying99 rfl infoL ?_)
  | (refine zi rfl 99 _ _ rfl rfl (w.heap.size + 1) rfl _ _ _ rfl (zu HB1s) infoL rfl (by simp [Value.oneCell']) ?_; intro Z hy hf9; have HY := zh hy; have FY := zh hf9; clear hy hf9))
 have v0 := zg (zu HY) 0 _ rfl
 have v1 := zg (zu HY) 1 _ rfl
 have v2 := zg (zu HY) 2 _ rfl
 have v3 := zg (zu HY) 3 _ rfl
 exact bodyPost_ret (v := .tuple #[.agg #[.string xa, .string xb, .string xc, .slice ua xu.length uc], .int .i64 d']) (by simp [results, Tryz.results133, go_sem, v0, v1, v2, v3]) rfl ⟨.inr ⟨⟨xa, xb, xc, xu, d'⟩, rfl, rfl, zu HM3, hd', _, rfl, (((zu HL5).ext (zu HEU)).fr (zu FY) (fun g hg e9 => by have := ((zu HL5).lt g hg).1; omega)).mono (by omega)⟩, (zu FY).ext ((zu HE0).trans (zu HEU)) (fun q hq => by omega)⟩
def nxt (bs : List Int) (p : Nat) : Nat := if p < bs.length then p + 1 else p
def rdN (bs : List Int) (p : Nat) : Nat := (at0 bs p).toNat
theorem zor {bs : List Int} (hB : zv bs) (p : Nat) : at0 bs p = (rdN bs p : Int) ∧ rdN bs p ≤ 255 := by
 have := hB.at0 p
 unfold rdN
 omega
structure StI (w wr : World) (D : Nat) (v : Value) (bs : List Int) (o : Value) (zs : List Int) (p : Nat) : Prop where
 own : wr.ownsRow w.heap.size 5 1 o zs.length (zs.map (Value.int .u8))
 rd : zbw wr D v bs p
 fr : Fr (fun q => q = D) w wr
section
variable {w wr w1 : World} {D : Nat} {v o : Value} {bs zs : List Int} {p : Nat}
theorem StI.ext (h : StI w wr D v bs o zs p) (E : Ext wr w1) : StI w w1 D v bs o zs p := ⟨E.owns h.own, h.rd.ext E, Fr.tr h.fr (Fr.of_ext E)⟩
theorem StI.next (h : StI w wr D v bs o zs p) (hD : D < w.heap.size) {p' : Nat} (hr : zbw w1 D v bs p') (f : Fr (fun q => q = D) wr w1) : StI w w1 D v bs o zs p' :=
 ⟨f.owns h.own (fun g hg e => by have := (h.own.lt g hg).1; omega), hr, Fr.tr h.fr f⟩
theorem StI.app (h : StI w wr D v bs o zs p) (hD : D < w.heap.size) {p0 : Nat} (h0 : zbw w D v bs p0) {o' : Value} {ps : List Int} {n : Nat} (hn : ps.length = n) (ho : w1.ownsRow w.heap.size 5 1 o' (zs.length + n) (zs.map (Value.int .u8) ++ ps.map (Value.int .u8))) (hg : wr.grownBy w1 o.ownBlock) : StI w w1 D v bs o' (zs ++ ps) p := by
 have f1 : Fr (fun q => o.ownBlock = some q) wr w1 := Fr.grown (S := fun q => o.ownBlock = some q) (Fr.refl _ wr) hg (fun q hq => hq)
 have hlow : ∀ q, o.ownBlock = some q → w.heap.size ≤ q := fun q hq => (h.own.lt q hq).1
 have hz := h.fr.size
 have f2 : Fr (fun q => q = D) w w1 := by
  refine ⟨f1.os.trans h.fr.os, f1.tape.trans h.fr.tape, f1.output.trans h.fr.output, Nat.le_trans hz f1.size, fun q hq hn => ?_⟩
  rw [f1.block q (by omega) (fun e => by have := hlow q e; omega)]
  exact h.fr.block q hq hn
 refine ⟨by subst hn; rw [List.length_append, List.map_append]; exact ho, h0.keep h.rd f2 (f1.block D (by omega) (fun e => by have := hlow D e; omega)), f2⟩
end
set_option maxRecDepth 10000 in
set_option maxHeartbeats 8000000 in
theorem zjE (a b c : ByteArray) (v : Value) (un : List (ByteArray × ByteArray)) (ra : Option Addr) (rn rc : Nat) (w : World) (hv : zb3 w v un) (ha : a.size ≤ 1048576) (hb : b.size ≤ 1048576) (hc : c.size ≤ 1048576) (hn : un.length ≤ 1048576) (hx : ∀ j, j < un.length → (lnT un j).size ≤ 1048576 ∧ (lnH un j).size ≤ 1048576) (kd : Int) (hP : ¬ zcJ a b c un.length (lnT un) (lnH un)) :
  Calls Tryz.prog 75 #[.agg #[.string a, .string b, .string c, v], .agg #[.int .i64 kd, .slice ra rn rc]] w fun e w' => LnO w' w.heap.size ⟨a, b, c, un, 0⟩ e ∧ Ext w w' := by
 have infoL : (Tryz.prog.info? 99).map (·.size) = some 4 := by kernel_rfl
 obtain ⟨ao, ca, rfl, _, _⟩ := id hv
 have H1 := zh (fun W (E : Ext w W) => zb5 a b c ao un.length ca (lnT un) (lnH un) W (zag.ext hv E) ha hb hc hx false (by simp [hP]))
 have HC := zh (fun W (E : Ext w W) => zaq a b c (.slice ao un.length ca) un.length (lnT un) (lnH un) W (zag.ext hv E) hn)
 clear hP hv hx
 obtain ⟨V, hV⟩ : ∃ V, V = ((w.alloc (.cells #[.string a, .string b, .string c, .slice ao un.length ca] 99)).alloc (.cells #[.int .i64 kd, .slice ra rn rc] 95)).alloc (.cells zL4 99) := ⟨_, rfl⟩
 have E0 : Ext w V := by rw [hV]; exact (((Ext.refl w).alloc _).alloc _).alloc _
 have HB0 : Hid (V.heap[w.heap.size]? = some (.cells #[.string a, .string b, .string c, .slice ao un.length ca] 99 (0, 0))) := zh (by rw [hV]; exact (((Ext.refl _).alloc _).alloc _).kept (zk w _))
 have HBK : Hid (V.heap[w.heap.size + 1]? = some (.cells #[.int .i64 kd, .slice ra rn rc] 95 (0, 0))) := zh (by rw [hV]; have h := zk (w.alloc (.cells #[.string a, .string b, .string c, .slice ao un.length ca] 99)) (.cells #[.int .i64 kd, .slice ra rn rc] 95); rw [show (w.alloc (.cells #[.string a, .string b, .string c, .slice ao un.length ca] 99)).heap.size = w.heap.size + 1 by simp] at h; exact ((Ext.refl _).alloc _).kept h)
 have HB1 : Hid (V.heap[w.heap.size + 2]? = some (.cells zL4 99 (0, 0))) := zh (by rw [hV]; have h := zk ((w.alloc (.cells #[.string a, .string b, .string c, .slice ao un.length ca] 99)).alloc (.cells #[.int .i64 kd, .slice ra rn rc] 95)) (.cells zL4 99); rw [show ((w.alloc (.cells #[.string a, .string b, .string c, .slice ao un.length ca] 99)).alloc (.cells #[.int .i64 kd, .slice ra rn rc] 95)).heap.size = w.heap.size + 2 by simp] at h; exact h)
 have sz0 : w.heap.size + 2 < V.heap.size := zq (zu HB1)
 have HW := zh hV
 clear hV
 go_enter Tryz.func75, Tryz.ntmps75
 go_wp2_with fail
 rw [← zu HW]
 clear HW
 refine ((zu H1) _ E0).mono ?_
 rintro e w1 ⟨rfl, E1⟩
 have HE0 := zh (E0.trans E1)
 replace HB0 := E1.hk HB0
 replace HBK := E1.hk HBK
 replace HB1 := E1.hk HB1
 have z1 := E1.size
 clear E0 E1 H1
 have HCc := zh ((zu HC) w1 (zu HE0))
 clear HC HBK
 go_wp2_with (first
  | (refine zl rfl 99 _ rfl (w.heap.size) rfl _ _ _ _ (zu HB0) Tryz.underlying99 rfl infoL ?_))
 refine (zu HCc).mono ?_
 rintro e w5 ⟨ua, uc, rfl, HO, E5⟩
 replace HB1 := E5.hk HB1
 replace HE0 := Hid.ht HE0 E5
 clear E5 HB0 HCc
 go_wp2_with (first
  | (refine zi rfl 99 _ _ rfl rfl (w.heap.size + 2) rfl _ _ _ rfl (zu HB1) infoL rfl (by simp [Value.oneCell']) ?_; intro Z hy hf9; have HY := zh hy; have FY := zh hf9; clear hy hf9))
 have v0 := zg (zu HY) 0 _ rfl
 have v1 := zg (zu HY) 1 _ rfl
 have v2 := zg (zu HY) 2 _ rfl
 have v3 := zg (zu HY) 3 _ rfl
 exact bodyPost_ret (v := .tuple #[.agg #[.string a, .string b, .string c, .slice ua un.length uc], .int .i64 0]) (by simp [results, Tryz.results75, go_sem, v0, v1, v2, v3]) rfl ⟨⟨_, rfl, ((zu HO).fr (zu FY) (fun g hg e9 => by have := ((zu HO).lt g hg).1; omega)).mono (by omega)⟩, (zu FY).ext (zu HE0) (fun q hq => by omega)⟩
set_option linter.unusedSimpArgs false in
set_option maxRecDepth 10000 in
set_option maxHeartbeats 8000000 in
theorem zlq (a b c : ByteArray) (v : Value) (un : List (ByteArray × ByteArray)) (rv : Value) (rs : List Int) (w : World) (hv : zb3 w v un) (hn : un.length ≤ 50) (_za : a.size ≤ 1048576) (_zb : b.size ≤ 1048576) (hr : zx w .i32 rv rs) (h0 : rs.length = 0) :
  Calls Tryz.prog 134 #[.agg #[.string a, .string b, .string c, v], rv] w fun e w' => LnO w' w.heap.size ⟨a, b, c, un, 0⟩ e ∧ Ext w w' := by
 have infoL : (Tryz.prog.info? 99).map (·.size) = some 4 := by kernel_rfl
 obtain ⟨ao, ca, rfl, _, _⟩ := id hv
 obtain ⟨ra, rc, rfl, _⟩ := id hr
 have HC := zh (fun W (E : Ext w W) => zaq a b c (.slice ao un.length ca) un.length (lnT un) (lnH un) W (zag.ext hv E) (by omega))
 clear hv hr
 rw [h0]
 obtain ⟨V, hV⟩ : ∃ V, V = (w.alloc (.cells #[.string a, .string b, .string c, .slice ao un.length ca] 99)).alloc (.cells zL4 99) := ⟨_, rfl⟩
 have E0 : Ext w V := by rw [hV]; exact ((Ext.refl w).alloc _).alloc _
 have HB0 : Hid (V.heap[w.heap.size]? = some (.cells #[.string a, .string b, .string c, .slice ao un.length ca] 99 (0, 0))) := zh (by rw [hV]; exact ((Ext.refl _).alloc _).kept (zk w _))
 have HB1 : Hid (V.heap[w.heap.size + 1]? = some (.cells zL4 99 (0, 0))) := zh (by rw [hV]; have h := zk (w.alloc (.cells #[.string a, .string b, .string c, .slice ao un.length ca] 99)) (.cells zL4 99); rw [show (w.alloc (.cells #[.string a, .string b, .string c, .slice ao un.length ca] 99)).heap.size = w.heap.size + 1 by simp] at h; exact h)
 have sz0 : w.heap.size + 1 < V.heap.size := zq (zu HB1)
 subst hV
 have HE0 := zh E0
 have HCV := zh ((zu HC) _ E0)
 clear E0 HC
 go_enter Tryz.func134, Tryz.ntmps134
 have HCc := HCV
 go_wp2_with (first
  | (refine zl rfl 99 _ rfl (w.heap.size) rfl _ _ _ _ (zu HB0) Tryz.underlying99 rfl infoL ?_))
 refine (zu HCc).mono ?_
 rintro e w5 ⟨ua, uc, rfl, HO, E5⟩
 have z5 := (zu HE0).size
 replace HB1 := E5.hk HB1
 replace HE0 := Hid.ht HE0 E5
 clear E5 HB0 HCc
 go_wp2_with (first
  | (refine zi rfl 99 _ _ rfl rfl (w.heap.size + 1) rfl _ _ _ rfl (zu HB1) infoL rfl (by simp [Value.oneCell']) ?_; intro Z hy hf9; have HY := zh hy; have FY := zh hf9; clear hy hf9))
 have v0 := zg (zu HY) 0 _ rfl
 have v1 := zg (zu HY) 1 _ rfl
 have v2 := zg (zu HY) 2 _ rfl
 have v3 := zg (zu HY) 3 _ rfl
 exact bodyPost_ret (v := .tuple #[.agg #[.string a, .string b, .string c, .slice ua un.length uc], .int .i64 0]) (by simp [results, Tryz.results134, go_sem, v0, v1, v2, v3]) rfl (⟨⟨_, rfl, ((zu HO).fr (zu FY) (fun g hg e9 => by have := ((zu HO).lt g hg).1; omega)).mono (by omega)⟩, (zu FY).ext (zu HE0) (fun q hq => by omega)⟩)
set_option linter.unusedSimpArgs false in
set_option maxRecDepth 10000 in
set_option maxHeartbeats 8000000 in
theorem zns (a b c : ByteArray) (v : Value) (un : List (ByteArray × ByteArray)) (rv : Value) (rs : List Int) (w : World) (hv : zb3 w v un) (hn : un.length ≤ 50) (_za : a.size ≤ 1048576) (_zb : b.size ≤ 1048576) (hr : zx w .i32 rv rs) (h0 : 300 < rs.length) :
  Calls Tryz.prog 134 #[.agg #[.string a, .string b, .string c, v], rv] w fun e w' => LnO w' w.heap.size ⟨a, b, c, un, 2⟩ e ∧ Ext w w' := by
 have infoL : (Tryz.prog.info? 99).map (·.size) = some 4 := by kernel_rfl
 obtain ⟨ao, ca, rfl, _, _⟩ := id hv
 obtain ⟨ra, rc, rfl, _⟩ := id hr
 have HC := zh (fun W (E : Ext w W) => zaq a b c (.slice ao un.length ca) un.length (lnT un) (lnH un) W (zag.ext hv E) (by omega))
 clear hv hr
 obtain ⟨m, hm⟩ : ∃ m, rs.length = m := ⟨_, rfl⟩
 rw [hm] at h0 ⊢
 have h1 : ¬ (m : Int) = 0 := by omega
 have h2 : ¬ m = 0 := by omega
 have h3 : (300 : Int) < (m : Int) := by omega
 obtain ⟨V, hV⟩ : ∃ V, V = (w.alloc (.cells #[.string a, .string b, .string c, .slice ao un.length ca] 99)).alloc (.cells zL4 99) := ⟨_, rfl⟩
 have E0 : Ext w V := by rw [hV]; exact ((Ext.refl w).alloc _).alloc _
 have HB0 : Hid (V.heap[w.heap.size]? = some (.cells #[.string a, .string b, .string c, .slice ao un.length ca] 99 (0, 0))) := zh (by rw [hV]; exact ((Ext.refl _).alloc _).kept (zk w _))
 have HB1 : Hid (V.heap[w.heap.size + 1]? = some (.cells zL4 99 (0, 0))) := zh (by rw [hV]; have h := zk (w.alloc (.cells #[.string a, .string b, .string c, .slice ao un.length ca] 99)) (.cells zL4 99); rw [show (w.alloc (.cells #[.string a, .string b, .string c, .slice ao un.length ca] 99)).heap.size = w.heap.size + 1 by simp] at h; exact h)
 have sz0 : w.heap.size + 1 < V.heap.size := zq (zu HB1)
 subst hV
 have HE0 := zh E0
 have HCV := zh ((zu HC) _ E0)
 clear E0 HC
 go_enter Tryz.func134, Tryz.ntmps134
 have HCc := HCV
 go_wp2_with (first
  | (refine zl rfl 99 _ rfl (w.heap.size) rfl _ _ _ _ (zu HB0) Tryz.underlying99 rfl infoL ?_))
 refine (zu HCc).mono ?_
 rintro e w5 ⟨ua, uc, rfl, HO, E5⟩
 have z5 := (zu HE0).size
 replace HB1 := E5.hk HB1
 replace HE0 := Hid.ht HE0 E5
 clear E5 HB0 HCc
 go_wp2_with (first
  | (refine zi rfl 99 _ _ rfl rfl (w.heap.size + 1) rfl _ _ _ rfl (zu HB1) infoL rfl (by simp [Value.oneCell']) ?_; intro Z hy hf9; have HY := zh hy; have FY := zh hf9; clear hy hf9))
 have v0 := zg (zu HY) 0 _ rfl
 have v1 := zg (zu HY) 1 _ rfl
 have v2 := zg (zu HY) 2 _ rfl
 have v3 := zg (zu HY) 3 _ rfl
 exact bodyPost_ret (v := .tuple #[.agg #[.string a, .string b, .string c, .slice ua un.length uc], .int .i64 2]) (by simp [results, Tryz.results134, go_sem, v0, v1, v2, v3]) rfl (⟨⟨_, rfl, ((zu HO).fr (zu FY) (fun g hg e9 => by have := ((zu HO).lt g hg).1; omega)).mono (by omega)⟩, (zu FY).ext (zu HE0) (fun q hq => by omega)⟩)
end Go.Proofs.YtinfdhbnljnifaaGreatDoor
