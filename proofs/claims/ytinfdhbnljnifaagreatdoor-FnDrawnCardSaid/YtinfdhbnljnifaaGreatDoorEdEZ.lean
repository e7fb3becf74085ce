import Derived.Test.YtinfdhbnljnifaaGreatDoorEdZs
import Derived.Test.YtinfdhbnljnifaaGreatDoorEdP0
import Derived.Test.YtinfdhbnljnifaaGreatDoorEdU
import Derived.Test.YtinfdhbnljnifaaGreatDoorFdE
import Derived.Deep.RegionHeldLaw
namespace Go.Proofs.YtinfdhbnljnifaaGreatDoor
open Go.RowKit
section
variable {a b c : ByteArray} {un : List (ByteArray × ByteArray)} {w : World}
theorem zoA (hS : Sml a b c un) (W : World) (u : Value) (t l r : ByteArray) (hv : zb3 W u un) (h1 : l.size + r.size ≤ 1400) (h2 : t.size ≤ 1400) :
  Calls Tryz.prog 136 #[.agg #[.string a, .string b, .string c, u], .string t, .string l, .string r] W fun e w' => LnZ w' W.heap.size e ∧ Ext W w' := by
 by_cases ht : baL t = []
 ·obtain rfl := baL_nil ht
  exact (znf W u l r hv hS.2.2.2.1).mono (fun _ _ ⟨h, E⟩ => ⟨h.z hS, E⟩)
 ·refine (zkS W u t l r (ba_ne ht) hv hS.2.2.2.1).mono (fun _ _ ⟨h, E⟩ => ⟨h.z ?_, E⟩)
  obtain ⟨g1, g2, g3, g4, g5⟩ := zfu hS
  exact ⟨h1, by show r.size ≤ 2000; omega, by show t.size ≤ 2000; omega, g4, g5⟩
end
set_option linter.unusedSimpArgs false in
set_option maxRecDepth 10000 in
set_option maxHeartbeats 8000000 in
theorem ziY (a b c : ByteArray) (v : Value) (un : List (ByteArray × ByteArray)) (ra : Option Addr) (rn rc : Nat) (w : World) (hv : zb3 w v un) (kd : Int) (rs : List Int) (hr : zx w .i32 (.slice ra rn rc) rs) (iR : zdv rs) (hP : zcJ a b c un.length (lnT un) (lnH un)) :
  Calls Tryz.prog 75 #[.agg #[.string a, .string b, .string c, v], .agg #[.int .i64 kd, .slice ra rn rc]] w fun e w' => LnZ w' w.heap.size e ∧ Ext w w' := by
 have hS : Sml a b c un := zme (o := ⟨a, b, c, un, 0⟩) hP
 have ok9 := fun k => zme (edF_ok hP k rs)
 have hn : un.length ≤ 50 := hP.1
 have sa : zas (baL a) = baL a := hP.2.1.1
 have sb : zas (baL b) = baL b := hP.2.1.2.1
 have ha : a.size ≤ 1048576 := by have := hS.1; omega
 have hb : b.size ≤ 1048576 := by have := hS.1; omega
 have hc : c.size ≤ 1048576 := by have := hS.2.2.1; omega
 have na : (zm (baL a)).length ≤ 300 := by have := hP.2.1.2.2; omega
 have put : ∀ W u, Ext w W → zb3 W u un → Calls Tryz.prog 134 #[.agg #[.string a, .string b, .string c, u], .slice ra rn rc] W fun e w' => LnZ w' W.heap.size e ∧ Ext W w' := by
  intro W u E hu
  have ok1 := ok9 1
  rw [show edF a b c un 1 rs = zjX a b c un rs by simp [edF]] at ok1
  refine Calls.mono (R := fun e w' => LnO w' W.heap.size (zjX a b c un rs) e ∧ Ext W w') ?_ (fun _ _ ⟨h, E⟩ => ⟨h.z ok1, E⟩)
  unfold zjX
  by_cases h0 : rs.length = 0
  ·rw [if_pos h0]
   exact zlq a b c u un _ rs W hu hn ha hb (hr.ext E) h0
  rw [if_neg h0]
  have hg := flat_ge (zm (baL a) ++ rs)
  rw [List.length_append] at hg
  by_cases h1 : 300 < rs.length
  ·rw [if_pos (by omega)]
   exact zns a b c u un _ rs W hu hn ha hb (hr.ext E) h1
  by_cases h2 : 300 < (zaL (zaB (zm (baL a) ++ rs))).length + (zm (baL b)).length
  ·rw [if_pos h2]
   exact zlp a b c u un _ rs W hu hn ha hb (hr.ext E) iR ⟨by omega, by omega⟩ na h2
  ·rw [if_neg h2]
   exact zmC a b c u un _ rs W hu hn ha hb (hr.ext E) iR ⟨by omega, by omega⟩ na h2
 have gone : ∀ k : Int, (k = 4 ∨ k = 5) → ∀ W u, zb3 W u un → Calls Tryz.prog 135 #[.agg #[.string a, .string b, .string c, u], .int .i64 k] W fun e w' => LnZ w' W.heap.size e ∧ Ext W w' := by
  rintro k (rfl | rfl) W u hu
  ·have ok1 := ok9 4
   rw [show edF a b c un 4 rs = zhq a b c un by simp [edF]] at ok1
   refine Calls.mono (R := fun e w' => LnO w' W.heap.size (zhq a b c un) e ∧ Ext W w') ?_ (fun _ _ ⟨h, E⟩ => ⟨h.z ok1, E⟩)
   unfold zhq
   by_cases h : (zn (baL a)).length = 0
   ·rw [if_pos h]
    exact zkF a b c u un W hu hn ha hb h
   ·rw [if_neg h]
    exact ziG a b c u un W hu hn ha hb (by omega)
  ·have ok1 := ok9 5
   rw [show edF a b c un 5 rs = zkx a b c un by simp [edF]] at ok1
   refine Calls.mono (R := fun e w' => LnO w' W.heap.size (zkx a b c un) e ∧ Ext W w') ?_ (fun _ _ ⟨h, E⟩ => ⟨h.z ok1, E⟩)
   unfold zkx
   by_cases h : (zn (baL b)).length = 0
   ·rw [if_pos h]
    by_cases h9 : (zn (baL a)).length = 0
    ·rw [if_pos h9]
     exact ziR a b c u un W hu hn ha hb ⟨h9, h⟩
    ·rw [if_neg h9]
     exact zkr a b c u un W hu hn ha hb ⟨by omega, h⟩
   ·rw [if_neg h]
    exact zi7 a b c u un W hu hn ha hb (by omega)
 have swap : ∀ W u, zb3 W u un → Calls Tryz.prog 141 #[.agg #[.string a, .string b, .string c, u]] W fun e w' => LnZ w' W.heap.size e ∧ Ext W w' := by
  intro W u hu
  have ok1 := ok9 16
  rw [show edF a b c un 16 rs = zgX a b c un by simp [edF]] at ok1
  refine Calls.mono (R := fun e w' => LnO w' W.heap.size (zgX a b c un) e ∧ Ext W w') ?_ (fun _ _ ⟨h, E⟩ => ⟨h.z ok1, E⟩)
  unfold zgX
  by_cases h : 1 ≤ (zn (baL a)).length ∧ 1 ≤ (zn (baL b)).length
  ·rw [if_pos h]
   exact zhM a b c u un W hu hn ha hb h
  rw [if_neg h]
  by_cases h' : 2 ≤ (zn (baL a)).length ∧ (zn (baL b)).length = 0
  ·rw [if_pos h']
   exact zhJ a b c u un W hu hn ha hb h'
  rw [if_neg h']
  by_cases h0 : (zn (baL a)).length = 0
  ·exact zkb a b c u un W hu hn ha hb ⟨h0, by omega⟩
  ·exact zj9 a b c u un W hu hn ha hb ⟨by omega, by omega⟩
 have undo : ∀ W u, zb3 W u un → Calls Tryz.prog 142 #[.agg #[.string a, .string b, .string c, u]] W fun e w' => LnZ w' W.heap.size e ∧ Ext W w' := by
  intro W u hu
  have ok1 := ok9 17
  rw [show edF a b c un 17 rs = zd4 a b c un by simp [edF]] at ok1
  refine Calls.mono (R := fun e w' => LnO w' W.heap.size (zd4 a b c un) e ∧ Ext W w') ?_ (fun _ _ ⟨h, E⟩ => ⟨h.z ok1, E⟩)
  by_cases h : un.length = 0
  ·rw [zd4, if_pos h]
   refine (zkD a b c u un.length (lnT un) (lnH un) W hu hn h).mono ?_
   rintro e w' ⟨v', rfl, o, E'⟩
   exact ⟨⟨v', rfl, by show zaG w' W.heap.size _ v' un.length _ _; rw [h]; exact o⟩, E'⟩
  ·exact zi6 a b c u un W hu hn (by omega)
 have infoL : (Tryz.prog.info? 99).map (·.size) = some 4 := by kernel_rfl
 obtain ⟨ao, ca, rfl, _, _⟩ := id hv
 have H1 := zh (fun W (E : Ext w W) => zb5 a b c ao un.length ca (lnT un) (lnH un) W (zag.ext hv E) ha hb hc hS.each true (by simp [hP]))
 have HMv := zh (fun W (E : Ext w W) => zj2 a b c _ un W (hv.ext E) hn ha hb sa sb kd)
 have HPut := zh (fun W (E : Ext w W) => put W _ E (hv.ext E))
 have HGo := zh (fun k hk W (E : Ext w W) => gone k hk W _ (hv.ext E))
 have HKl := zh (fun t l r h1 h2 W (E : Ext w W) => zoA hS W _ t l r (hv.ext E) h1 h2)
 have HSw := zh (fun W (E : Ext w W) => swap W _ (hv.ext E))
 have HUn := zh (fun W (E : Ext w W) => undo W _ (hv.ext E))
 have HCp := zh (fun W (E : Ext w W) => zaq a b c (.slice ao un.length ca) un.length (lnT un) (lnH un) W (zag.ext hv E) (by omega))
 have HSt := zh (fun W (E : Ext w W) => zaT a b c (a ++ c) b (.slice ao un.length ca) un.length (lnT un) (lnH un) W (zag.ext hv E) hn)
 rw [zb4] at HSt
 have HCt := zh (fun (t : ByteArray) W (ht : t.size ≤ 1048576) => zcl (baL t) (zf t) W (by rw [zw]; omega))
 have HS := zh hS
 have HP := zh hP
 clear put gone swap undo hv hr iR ok9 hP hS sa sb na
 obtain ⟨V, hV⟩ : ∃ V, V = ((w.alloc (.cells #[.string a, .string b, .string c, .slice ao un.length ca] 99)).alloc (.cells #[.int .i64 kd, .slice ra rn rc] 95)).alloc (.cells zL4 99) := ⟨_, rfl⟩
 have E0 : Ext w V := by rw [hV]; exact (((Ext.refl w).alloc _).alloc _).alloc _
 have HB0 : Hid (V.heap[w.heap.size]? = some (.cells #[.string a, .string b, .string c, .slice ao un.length ca] 99 (0, 0))) := zh (by rw [hV]; exact (((Ext.refl _).alloc _).alloc _).kept (zk w _))
 have HBK : Hid (V.heap[w.heap.size + 1]? = some (.cells #[.int .i64 kd, .slice ra rn rc] 95 (0, 0))) := zh (by rw [hV]; have h := zk (w.alloc (.cells #[.string a, .string b, .string c, .slice ao un.length ca] 99)) (.cells #[.int .i64 kd, .slice ra rn rc] 95); rw [show (w.alloc (.cells #[.string a, .string b, .string c, .slice ao un.length ca] 99)).heap.size = w.heap.size + 1 by simp] at h; exact ((Ext.refl _).alloc _).kept h)
 have HB1 : Hid (V.heap[w.heap.size + 2]? = some (.cells zL4 99 (0, 0))) := zh (by rw [hV]; have h := zk ((w.alloc (.cells #[.string a, .string b, .string c, .slice ao un.length ca] 99)).alloc (.cells #[.int .i64 kd, .slice ra rn rc] 95)) (.cells zL4 99); rw [show ((w.alloc (.cells #[.string a, .string b, .string c, .slice ao un.length ca] 99)).alloc (.cells #[.int .i64 kd, .slice ra rn rc] 95)).heap.size = w.heap.size + 2 by simp] at h; exact h)
 have sz0 : w.heap.size + 2 < V.heap.size := zq (zu HB1)
 have HW := zh hV
 clear hV
 go_enter Tryz.func75, Tryz.ntmps75
 go_wp2_with fail
 rw [← zu HW]
 clear HW
 refine ((zu H1) _ E0).mono ?_
 rintro e w1 ⟨rfl, E1⟩
 have HE0 := zh (E0.trans E1)
 replace HB0 := E1.hk HB0
 replace HBK := E1.hk HBK
 replace HB1 := E1.hk HB1
 have z1 := E1.size
 clear E0 E1 H1
 have HMc := zh ((zu HMv) w1 (zu HE0))
 have k0 := zg (zu HBK) 0 _ rfl
 clear HMv
 go_wp2_with (refine zl rfl 99 _ rfl (w.heap.size) rfl _ _ _ _ (zu HB0) Tryz.underlying99 rfl infoL ?_)
 refine (zu HMc).mono ?_
 rintro e w5 ⟨hM, E5⟩
 replace HB0 := E5.hk HB0
 replace HBK := E5.hk HBK
 replace HB1 := E5.hk HB1
 replace HE0 := Hid.ht HE0 E5
 have HN := zh (heap_alloc_new w5 (.cells zL4 99))
 have hz5 : w.heap.size + 2 < w5.heap.size := zq (zu HB1)
 clear HMc E5 k0
 rcases hM with rfl | ⟨⟨xa, xb, xc, xu, xd⟩, m1, m2, m3, m4, v6, rfl, hO⟩
 rotate_left
 ·simp only [] at m1 m2 m3 m4 hO ⊢
  subst m1
  subst m2
  have HSm : Hid (Sml xa xb xc xu) := zh (by obtain ⟨g1, g2, g3, g4, g5⟩ := zu HS; exact ⟨by omega, by omega, g3, g4, g5⟩)
  obtain ⟨ua, uc, rfl⟩ : ∃ ua uc, v6 = .slice ua xu.length uc := by
   obtain ⟨x, y, e, _⟩ := hO.reads
   exact ⟨x, y, e⟩
  have HO := zh hO
  clear hO m3
  go_wp2_with (first
   | (refine zi rfl 99 _ _ rfl rfl (w5.heap.size) rfl _ _ _ rfl (zu HN) infoL rfl (by simp [Value.oneCell']) ?_; intro U hB hU; have hU1 := hU.ext ((Ext.refl w5).alloc _) (fun q hq => by omega); have HBU := zh hB; replace HB1 := hU1.hk HB1; replace HE0 := Hid.ht HE0 hU1; replace HO := zh ((zu HO).ext hU1); have zU := hU1.size; clear hB hU hU1)
   | (refine zl rfl 99 _ rfl (w5.heap.size) rfl _ _ _ _ (zu HBU) Tryz.underlying99 rfl infoL ?_)
   | (refine zi rfl 99 _ _ rfl rfl (w.heap.size + 2) rfl _ _ _ rfl (zu HB1) infoL rfl (by simp [Value.oneCell']) ?_; intro Z hy hf9; have HY := zh hy; have FY := zh hf9; clear hy hf9))
  have v0 := zg (zu HY) 0 _ rfl
  have v1 := zg (zu HY) 1 _ rfl
  have v2 := zg (zu HY) 2 _ rfl
  have v3 := zg (zu HY) 3 _ rfl
  exact bodyPost_ret (v := .tuple #[.agg #[.string xa, .string xb, .string xc, .slice ua xu.length uc], .int .i64 xd]) (by simp [results, Tryz.results75, go_sem, v0, v1, v2, v3]) rfl ⟨⟨⟨xa, xb, xc, xu, xd⟩, zu HSm, _, rfl, ((zu HO).fr (zu FY) (fun g hg e9 => by have := ((zu HO).lt g hg).1; omega)).mono (by omega)⟩, (zu FY).ext (zu HE0) (fun q hq => by omega)⟩
 go_wp2_with (refine zi rfl 99 _ _ rfl rfl (w5.heap.size) rfl _ _ _ rfl (zu HN) infoL rfl (by simp [Value.oneCell']) ?_; intro U hB hU; have hU1 := hU.ext ((Ext.refl w5).alloc _) (fun q hq => by omega); replace HB0 := hU1.hk HB0; replace HBK := hU1.hk HBK; replace HB1 := hU1.hk HB1; replace HE0 := Hid.ht HE0 hU1; have zU := hU1.size; clear hB hU hU1; refine zaS.intro ?_)
 show wpList _ _ _ _ _ _
 have c0 := zg (zu HB0) 0 _ rfl
 have c1 := zg (zu HB0) 1 _ rfl
 have c2 := zg (zu HB0) 2 _ rfl
 have k0 := zg (zu HBK) 0 _ rfl
 have k1 := zg (zu HBK) 1 _ rfl
 clear HN
 by_cases hsimple : kd = 1 ∨ kd = 2 ∨ kd = 4 ∨ kd = 5 ∨ kd = 12 ∨ kd = 13 ∨ kd = 16 ∨ kd = 17
 ·rcases hsimple with rfl | rfl | rfl | rfl | rfl | rfl | rfl | rfl
  case' inl =>
   go_wp2_with (refine zl rfl 99 _ rfl (w.heap.size) rfl _ _ _ _ (zu HB0) Tryz.underlying99 rfl infoL ?_)
   refine ((zu HPut) U (zu HE0)).mono ?_
  case' inr.inl =>
   go_wp2_with (refine zl rfl 99 _ rfl (w.heap.size) rfl _ _ _ _ (zu HB0) Tryz.underlying99 rfl infoL ?_)
   refine ((zu HPut) U (zu HE0)).mono ?_
  case' inr.inr.inl =>
   go_wp2_with (refine zl rfl 99 _ rfl (w.heap.size) rfl _ _ _ _ (zu HB0) Tryz.underlying99 rfl infoL ?_)
   refine ((zu HGo) 4 (.inl rfl) U (zu HE0)).mono ?_
  case' inr.inr.inr.inl =>
   go_wp2_with (refine zl rfl 99 _ rfl (w.heap.size) rfl _ _ _ _ (zu HB0) Tryz.underlying99 rfl infoL ?_)
   refine ((zu HGo) 5 (.inr rfl) U (zu HE0)).mono ?_
  case' inr.inr.inr.inr.inl =>
   go_wp2_with (refine zl rfl 99 _ rfl (w.heap.size) rfl _ _ _ _ (zu HB0) Tryz.underlying99 rfl infoL ?_)
   refine ((zu HKl) b a { data := #[] } (by have := (zu HS).1; show a.size + 0 ≤ 1400; omega) (by have := (zu HS).1; omega) U (zu HE0)).mono ?_
  case' inr.inr.inr.inr.inr.inl =>
   go_wp2_with (refine zl rfl 99 _ rfl (w.heap.size) rfl _ _ _ _ (zu HB0) Tryz.underlying99 rfl infoL ?_)
   refine ((zu HKl) a { data := #[] } b (by have := (zu HS).1; show 0 + b.size ≤ 1400; omega) (by have := (zu HS).1; omega) U (zu HE0)).mono ?_
  case' inr.inr.inr.inr.inr.inr.inl =>
   go_wp2_with (refine zl rfl 99 _ rfl (w.heap.size) rfl _ _ _ _ (zu HB0) Tryz.underlying99 rfl infoL ?_)
   refine ((zu HSw) U (zu HE0)).mono ?_
  case' inr.inr.inr.inr.inr.inr.inr =>
   go_wp2_with (refine zl rfl 99 _ rfl (w.heap.size) rfl _ _ _ _ (zu HB0) Tryz.underlying99 rfl infoL ?_)
   refine ((zu HUn) U (zu HE0)).mono ?_
  all_goals
   rintro e w6 ⟨⟨⟨xa, xb, xc, xu, xd⟩, hs, v6, rfl, hO⟩, E6⟩
   simp only [] at hs hO ⊢
   obtain ⟨ua, uc, rfl⟩ : ∃ ua uc, v6 = .slice ua xu.length uc := by
    obtain ⟨x, y, e, _⟩ := hO.reads
    exact ⟨x, y, e⟩
   have HO := zh hO
   have HSm := zh hs
   replace HB1 := E6.hk HB1
   replace HE0 := Hid.ht HE0 E6
   have z6 := E6.size
   clear hO hs E6
   go_wp2_with (refine zi rfl 99 _ _ rfl rfl (w.heap.size + 2) rfl _ _ _ rfl (zu HB1) infoL rfl (by simp [Value.oneCell']) ?_; intro Z hy hf9; have HY := zh hy; have FY := zh hf9; clear hy hf9)
   have v0 := zg (zu HY) 0 _ rfl
   have v1 := zg (zu HY) 1 _ rfl
   have v2 := zg (zu HY) 2 _ rfl
   have v3 := zg (zu HY) 3 _ rfl
   exact bodyPost_ret (v := .tuple #[.agg #[.string xa, .string xb, .string xc, .slice ua xu.length uc], .int .i64 xd]) (by simp [results, Tryz.results75, go_sem, v0, v1, v2, v3]) rfl ⟨⟨⟨xa, xb, xc, xu, xd⟩, zu HSm, _, rfl, ((zu HO).fr (zu FY) (fun g hg e9 => by have := ((zu HO).lt g hg).1; omega)).mono (by omega)⟩, (zu FY).ext (zu HE0) (fun q hq => by omega)⟩
 have hq : (kd == 1) = false ∧ (kd == 2) = false ∧ (kd == 4) = false ∧ (kd == 5) = false ∧ (kd == 12) = false ∧ (kd == 13) = false ∧ (kd == 16) = false ∧ (kd == 17) = false := by simp only [beq_eq_false_iff_ne]; omega
 obtain ⟨q1, q2, q4, q5, q12, q13, q16, q17⟩ := hq
 clear hsimple
 by_cases h14 : kd = 14
 ·subst h14
  have hcA := zh (fun W => zan (baL a) (zf a) W (by rw [zw]; omega))
  rw [zat] at hcA
  have lA := zau (baL a)
  rw [zw] at lA
  have HCA := zh (zaE (baL a))
  rw [zw] at HCA
  have HTx : Hid (∀ n m, (zo (zy (((zn (baL a)).take m).drop n))).size ≤ a.size) := zh (fun n m => by
   rw [zai]
   have h1 := zhd (zn (baL a)) n m
   have h2 : zy (zn (baL a)) = baL a := (zu HP).2.1.1
   rw [h2, zw] at h1
   exact h1)
  obtain ⟨A, hA⟩ : ∃ A, A = zn (baL a) := ⟨_, rfl⟩
  have HTk : Hid (∀ r, (zo (zy ((A.take r).drop 0))).size + b.size ≤ 1400) := zh (fun r => by have h1 := (zu HTx) 0 r; have h2 := (zu HS).1; rw [hA]; omega)
  rw [← hA] at hcA lA HCA HTx
  obtain ⟨nA, hnA⟩ : ∃ n, A.length = n := ⟨_, rfl⟩
  rw [hnA] at lA
  have HWl := zh (fun v W (hv : zaF W v A) => zd1 v A W hv (by omega))
  have HNA := zh hnA
  clear hA hnA
  go_wp2_with fail
  refine ((zu hcA) _).mono ?_
  rintro e w6 ⟨v6, rs6, rfl, o6, E6⟩
  obtain ⟨a6, c6, rfl⟩ : ∃ a c, v6 = .slice a A.length c := by
   obtain ⟨_, ao, cc, e, _⟩ := o6.cls
   exact ⟨ao, cc, e⟩
  have H6 := zh o6
  rw [zu HNA] at H6 ⊢
  replace HB0 := E6.hk HB0
  replace HB1 := E6.hk HB1
  replace HE0 := Hid.ht HE0 E6
  have z6 := E6.size
  clear o6 E6 hcA c0 c1 c2 k0 k1 HBK
  go_wp2_with fail
  refine ((zu HWl) _ _ (zu H6).cls).mono ?_
  rintro e w7 ⟨r, rfl, hr, _, E7⟩
  rw [zu HNA] at hr
  replace H6 := zh ((zu H6).ext E7)
  replace HB0 := E7.hk HB0
  replace HB1 := E7.hk HB1
  replace HE0 := Hid.ht HE0 E7
  have z7 := E7.size
  clear E7 HWl
  have hc6 : nA ≤ c6 := by
   obtain ⟨_, _, _, e9, h9, _⟩ := (zu H6).cls
   obtain ⟨_, _, rfl⟩ := Value.slice.inj e9
   rw [zu HNA] at h9
   exact h9
  have g1 : (r : Int) ≤ (nA : Int) := by omega
  have g2 : (nA : Int) ≤ (c6 : Int) := by omega
  have g3 : (r : Int) ≤ (c6 : Int) := by omega
  have g4 : (0 : Int) ≤ (r : Int) := by omega
  have HX2 := zh (fun v W (hv : zaF W v ((A.take r).drop 0)) => zaf v _ W hv (by have := ((zu HCA).part 0 r).1; omega) (fun j _ => ((zu HCA).part 0 r).2 j))
  have HX1 := zh (fun v W (hv : zaF W v ((A.take nA).drop r)) => zaf v _ W hv (by have := ((zu HCA).part r nA).1; omega) (fun j _ => ((zu HCA).part r nA).2 j))
  have HKk := zh (fun W (E : Ext w W) => (zu HKl) (zo (zy ((A.take nA).drop r))) (zo (zy ((A.take r).drop 0))) b ((zu HTk) r) (Nat.le_trans ((zu HTx) r nA) (by have := (zu HS).1; omega)) W E)
  obtain ⟨X2, hX2⟩ : ∃ x, x = zo (zy ((A.take r).drop 0)) := ⟨_, rfl⟩
  obtain ⟨X1, hX1⟩ : ∃ x, x = zo (zy ((A.take nA).drop r)) := ⟨_, rfl⟩
  rw [← hX2] at HX2 HKk
  rw [← hX1] at HX1 HKk
  have HCl : Hid (zaF w7 (.slice a6 r c6) ((A.take r).drop 0)) := zh (by
   have hcl := (zu H6).cls
   rw [← zu HNA] at hcl
   have := hcl.cut 0 r c6 (Nat.zero_le _) (by rw [zu HNA]; exact hr) (by omega) a6 (.inl (by cases a6 <;> simp [Addr.add]))
   rwa [Nat.sub_zero] at this)
  clear hX1 hX2 HTx HTk HKl
  by_cases hcr : c6 = r
  case' pos =>
   have er : nA = r := by omega
   subst er
   subst hcr
   have CX1 : Hid (zaF w7 (.slice a6 0 0) ((A.take c6).drop c6)) := zh (by
    have hcl := (zu H6).cls
    rw [← zu HNA] at hcl
    have := hcl.cut c6 c6 0 (by omega) (by rw [zu HNA]; omega) (by omega) a6 (.inr (by omega))
    rw [Nat.sub_self] at this
    exact this)
  case' neg =>
   obtain ⟨g6, hg6⟩ : ∃ g, a6 = some ⟨g, 0, none⟩ := by
    obtain ⟨_, ⟨ys, hy, _⟩, _⟩ := zu H6
    rcases hy.2 with ⟨e1, e0⟩ | ⟨g, cc, cur, e0, _⟩
    ·have := (Value.slice.inj e1).2.2; omega
    ·exact ⟨g, (Value.slice.inj e0).1⟩
   subst hg6
   have CX1 : Hid (zaF w7 (.slice (some ⟨g6, r * 2, none⟩) (nA - r) (c6 - r)) ((A.take nA).drop r)) := zh (by
    have hcl := (zu H6).cls
    rw [← zu HNA] at hcl
    have := hcl.cut r A.length (c6 - r) (by rw [zu HNA]; exact hr) (Nat.le_refl _) (by rw [zu HNA]; omega) (some ⟨g6, r * 2, none⟩) (.inl (by simp [Addr.add]))
    rw [zu HNA] at this
    exact this)
  all_goals
   clear H6
   go_upto_region 17 with fail
   refine wp_region_held_drew (S := fun W => W.heap[w.heap.size]? = some (.cells #[.string a, .string b, .string c, .slice ao un.length ca] 99 (0, 0))) (by kernel_rfl) (zu HB0) (fun hHeld => ?_)
   refine tk 0 (.agg #[.string a, .string b, .string c, .slice ao un.length ca]) rfl (by kernel_rfl) (fun _ _ _ h => h) (by rfl) ?_ (by assumption) ?_
   ·intro w' hSw; exact zad 99 _ rfl (w.heap.size) rfl _ _ _ _ hSw Tryz.underlying99 rfl infoL
   simp only [Act.put, qA, qB, qC, qD, qE, qF]
   refine tk 1 ?_ rfl (by kernel_rfl) (fun _ _ _ h => h) (by rfl) ?_ (by assumption) ?_
   rotate_left
   ·intro w' hSw; go_simp <;> with_reducible rfl
   simp only [Act.put, qA, qB, qC, qD, qE, qF]
   refine tk 2 ?_ rfl (by kernel_rfl) (fun _ _ _ h => h) (by rfl) ?_ (by assumption) ?_
   rotate_left
   ·intro w' hSw; go_simp <;> with_reducible rfl
   simp only [Act.put, qA, qB, qC, qD, qE, qF]
   refine tk 3 ?_ rfl (by kernel_rfl) (fun _ _ _ h => h) (by rfl) ?_ (by assumption) ?_
   rotate_left
   ·intro w' hSw; go_simp <;> with_reducible rfl
   simp only [Act.put, qA, qB, qC, qD, qE, qF]
   refine tk 5 ?_ rfl (by kernel_rfl) (fun _ _ _ h => h) (by rfl) ?_ (by assumption) ?_
   rotate_left
   ·intro w' hSw; go_simp <;> with_reducible rfl
   simp only [Act.put, qA, qB, qC, qD, qE, qF]
   refine tk 6 ?_ rfl (by kernel_rfl) (fun _ _ _ h => h) (by rfl) ?_ (by assumption) ?_
   rotate_left
   ·intro w' hSw; go_simp <;> with_reducible rfl
   simp only [Act.put, qA, qB, qC, qD, qE, qF]
   refine tk 7 ?_ rfl (by kernel_rfl) (fun _ _ _ h => h) (by rfl) ?_ (by assumption) ?_
   rotate_left
   ·intro w' hSw; go_simp <;> with_reducible rfl
   simp only [Act.put, qA, qB, qC, qD, qE, qF]
   refine tk 9 ?_ rfl (by kernel_rfl) (fun _ _ _ h => h) (by rfl) ?_ (by assumption) ?_
   rotate_left
   ·intro w' hSw; go_simp <;> with_reducible rfl
   simp only [Act.put, qA, qB, qC, qD, qE, qF]
   refine tk 10 ?_ rfl (by kernel_rfl) (fun _ _ _ h => h) (by rfl) ?_ (by assumption) ?_
   rotate_left
   ·intro w' hSw; have h9 := zg hSw 1 _ rfl; go_simp <;> with_reducible rfl
   simp only [Act.put, qA, qB, qC, qD, qE, qF]
   have G := zh ((Ext.refl w7).drew)
   generalize w7.drew = Y0 at *
   refine rdy 4 (by kernel_rfl) rfl (fun K hK => ?_)
   go_simp
   refine ((zu HX1) _ _ ((zu CX1).ext (zu G))).mono ?_
   rintro e Y1 ⟨rfl, f9⟩
   replace G := Hid.ht G f9
   clear f9 hHeld
   refine hK.out _ _ ((zu G).kept (zu HB0)) (fun hHeld => ?_)
   clear hK K
   refine rdy 8 (by kernel_rfl) rfl (fun K hK => ?_)
   go_simp
   refine ((zu HX2) _ _ ((zu HCl).ext (zu G))).mono ?_
   rintro e Y2 ⟨rfl, f9⟩
   replace G := Hid.ht G f9
   clear f9 hHeld
   refine hK.out _ _ ((zu G).kept (zu HB0)) (fun hHeld => ?_)
   clear hK K
   refine rdy 11 (by kernel_rfl) rfl (fun K hK => ?_)
   go_simp
   refine ((zu HKk) _ ((zu HE0).trans (zu G))).mono ?_
   rintro e Y3 ⟨⟨⟨xa, xb, xc, xu, xd⟩, hs, v6, rfl, hO⟩, f9⟩
   simp only [] at hs hO ⊢
   obtain ⟨ua, uc, rfl⟩ : ∃ ua uc, v6 = .slice ua xu.length uc := by
    obtain ⟨x, y, e, _⟩ := hO.reads
    exact ⟨x, y, e⟩
   have HO := zh hO
   have HSm := zh hs
   have yG := (zu G).size
   clear hO hs
   replace G := Hid.ht G f9
   clear f9 hHeld
   refine hK.out _ _ ((zu G).kept (zu HB0)) (fun hHeld => ?_)
   clear hK K
   refine tk 12 ?_ rfl (by kernel_rfl) (fun _ _ _ h => h) (by rfl) ?_ (by assumption) ?_
   rotate_left
   ·intro w' hSw; go_simp <;> with_reducible rfl
   simp only [Act.put, qA, qB, qC, qD, qE, qF]
   refine tk 13 ?_ rfl (by kernel_rfl) (fun _ _ _ h => h) (by rfl) ?_ (by assumption) ?_
   rotate_left
   ·intro w' hSw; go_simp <;> with_reducible rfl
   simp only [Act.put, qA, qB, qC, qD, qE, qF]
   refine rdy 14 (by kernel_rfl) rfl (fun K hK => ?_)
   refine ze 99 _ _ rfl rfl (w.heap.size + 2) rfl _ _ #[.string xa, .string xb, .string xc, .slice ua xu.length uc] rfl ((zu G).kept (zu HB1)) infoL rfl (by simp [Value.oneCell']) ?_
   intro Z hy hf9
   replace HE0 := zh ((zu HE0).trans (zu G))
   clear hHeld
   refine hK.out _ _ (hf9.kept ((zu G).kept (zu HB0)) (by omega)) (fun hHeld => ?_)
   have HY := zh hy
   have FY := zh hf9
   clear hK K hy hf9
   refine tk 15 ?_ rfl (by kernel_rfl) (fun _ _ _ h => h) (by rfl) ?_ (by assumption) ?_
   rotate_left
   ·intro w' hSw; go_simp <;> with_reducible rfl
   simp only [Act.put, qA, qB, qC, qD, qE, qF]
   refine wpAnyH_done (by kernel_rfl) ?_ _
   go_wp2
   have v0 := zg (zu HY) 0 _ rfl
   have v1 := zg (zu HY) 1 _ rfl
   have v2 := zg (zu HY) 2 _ rfl
   have v3 := zg (zu HY) 3 _ rfl
   exact bodyPost_ret (v := .tuple #[.agg #[.string xa, .string xb, .string xc, .slice ua xu.length uc], .int .i64 xd]) (by simp [results, Tryz.results75, go_sem, v0, v1, v2, v3]) rfl ⟨⟨⟨xa, xb, xc, xu, xd⟩, zu HSm, _, rfl, ((zu HO).fr (zu FY) (fun g hg e9 => by have := ((zu HO).lt g hg).1; omega)).mono (by omega)⟩, (zu FY).ext (zu HE0) (fun q hq => by omega)⟩
 by_cases h15 : kd = 15
 ·subst h15
  have hla := zaJ (baL a)
  have hlb := zaJ (baL b)
  have hlc := zaJ (baL c)
  rw [zw] at hla hlb hlc
  have sz9 := zu HS
  have za : a.size ≤ 1400 := by have := sz9.1; omega
  have zb : b.size ≤ 1400 := by have := sz9.1; omega
  have zc : c.size ≤ 2000 := sz9.2.2.1
  have HA := zh ((zu HCt) a)
  have HBc := zh ((zu HCt) b)
  have HC := zh ((zu HCt) c)
  rw [zat] at HA HBc HC
  have HZ : Hid (Int.ofNat (zm (baL a)).length + (zm (baL c)).length + (zm (baL b)).length ≤ 300 → a.size + c.size + b.size ≤ 1400) := zh (fun h => by
   have g1 := za1 (zu HP).2.1.1
   have g2 := za1 (zu HP).2.1.2.1
   have g3 := za1 (zu HP).2.2.1.1
   rw [zw] at g1 g2 g3
   have h9 : ((zm (baL a)).length : Int) + (zm (baL c)).length + (zm (baL b)).length ≤ 300 := h
   omega)
  obtain ⟨nA, hnA⟩ : ∃ n, n = (zm (baL a)).length := ⟨_, rfl⟩
  obtain ⟨nB, hnB⟩ : ∃ n, n = (zm (baL b)).length := ⟨_, rfl⟩
  obtain ⟨nC, hnC⟩ : ∃ n, n = (zm (baL c)).length := ⟨_, rfl⟩
  rw [← hnA] at hla HA HZ
  rw [← hnB] at hlb HBc HZ
  rw [← hnC] at hlc HC HZ
  clear hnA hnB hnC sz9
  have s1 : IntKind.i64.wrap ((nA : Int) + (nC : Int)) = (nA : Int) + (nC : Int) := by rw [IntKind.wrap_i64] <;> omega
  have s2 : IntKind.i64.wrap ((nA : Int) + (nC : Int) + (nB : Int)) = (nA : Int) + (nC : Int) + (nB : Int) := by rw [IntKind.wrap_i64] <;> omega
  go_upto_region 19 with fail
  go_cut [117] (fun bv wq => ∃ bb : Bool, bv = .bool bb ∧ Hid (bb = false → (nA : Int) + nC + nB ≤ 300) ∧ Hid (Ext U wq))
  case first =>
   refine wp_region_held_drew (S := fun W => W.heap[w.heap.size]? = some (.cells #[.string a, .string b, .string c, .slice ao un.length ca] 99 (0, 0))) (by kernel_rfl) (zu HB0) (fun hHeld => ?_)
   by_cases hce : c.toList = []
   ·have hct : c.toList.isEmpty = true := by rw [hce]; rfl
    refine tk 0 ?_ rfl (by kernel_rfl) (fun _ _ _ h => h) (by rfl) ?_ (by assumption) ?_
    rotate_left
    ·intro w' hSw; go_simp <;> with_reducible rfl
    simp only [Act.put, qA, qB, qC, qD, qE, qF]
    refine tk 1 ?_ rfl (by kernel_rfl) (fun _ _ _ h => h) (by rfl) ?_ (by assumption) ?_
    rotate_left
    ·intro w' hSw; have h9 := zg hSw 2 _ rfl; go_simp <;> with_reducible rfl
    simp only [Act.put, qA, qB, qC, qD, qE, qF]
    refine tk 2 ?_ rfl (by kernel_rfl) (fun _ _ _ h => h) (by rfl) ?_ (by assumption) ?_
    rotate_left
    ·intro w' hSw; go_simp <;> with_reducible rfl
    simp only [Act.put, qA, qB, qC, qD, qE, qF]
    refine tk 3 ?_ rfl (by kernel_rfl) (fun _ _ _ h => h) (by rfl) ?_ (by assumption) ?_
    rotate_left
    ·intro w' hSw; go_simp <;> with_reducible rfl
    simp only [Act.put, qA, qB, qC, qD, qE, qF]
    refine wpAnyH_take (i := 4) (v := undef) rfl (by kernel_rfl) (by kernel_rfl) (by kernel_rfl) (fun _ _ _ h => h) (Or.inr ⟨by rfl, rfl⟩) (by assumption) ?_
    simp only [Act.put, qA, qB, qC, qD, qE, qF]
    refine wpAnyH_take (i := 5) (v := undef) rfl (by kernel_rfl) (by kernel_rfl) (by kernel_rfl) (fun _ _ _ h => h) (Or.inr ⟨by rfl, rfl⟩) (by assumption) ?_
    simp only [Act.put, qA, qB, qC, qD, qE, qF]
    refine wpAnyH_take (i := 6) (v := undef) rfl (by kernel_rfl) (by kernel_rfl) (by kernel_rfl) (fun _ _ _ h => h) (Or.inr ⟨by rfl, rfl⟩) (by assumption) ?_
    simp only [Act.put, qA, qB, qC, qD, qE, qF]
    refine wpAnyH_take (i := 7) (v := undef) rfl (by kernel_rfl) (by kernel_rfl) (by kernel_rfl) (fun _ _ _ h => h) (Or.inr ⟨by rfl, rfl⟩) (by assumption) ?_
    simp only [Act.put, qA, qB, qC, qD, qE, qF]
    refine wpAnyH_take (i := 8) (v := undef) rfl (by kernel_rfl) (by kernel_rfl) (by kernel_rfl) (fun _ _ _ h => h) (Or.inr ⟨by rfl, rfl⟩) (by assumption) ?_
    simp only [Act.put, qA, qB, qC, qD, qE, qF]
    refine wpAnyH_take (i := 9) (v := undef) rfl (by kernel_rfl) (by kernel_rfl) (by kernel_rfl) (fun _ _ _ h => h) (Or.inr ⟨by rfl, rfl⟩) (by assumption) ?_
    simp only [Act.put, qA, qB, qC, qD, qE, qF]
    refine wpAnyH_take (i := 10) (v := undef) rfl (by kernel_rfl) (by kernel_rfl) (by kernel_rfl) (fun _ _ _ h => h) (Or.inr ⟨by rfl, rfl⟩) (by assumption) ?_
    simp only [Act.put, qA, qB, qC, qD, qE, qF]
    refine wpAnyH_take (i := 11) (v := undef) rfl (by kernel_rfl) (by kernel_rfl) (by kernel_rfl) (fun _ _ _ h => h) (Or.inr ⟨by rfl, rfl⟩) (by assumption) ?_
    simp only [Act.put, qA, qB, qC, qD, qE, qF]
    refine wpAnyH_take (i := 12) (v := undef) rfl (by kernel_rfl) (by kernel_rfl) (by kernel_rfl) (fun _ _ _ h => h) (Or.inr ⟨by rfl, rfl⟩) (by assumption) ?_
    simp only [Act.put, qA, qB, qC, qD, qE, qF]
    refine wpAnyH_take (i := 13) (v := undef) rfl (by kernel_rfl) (by kernel_rfl) (by kernel_rfl) (fun _ _ _ h => h) (Or.inr ⟨by rfl, rfl⟩) (by assumption) ?_
    simp only [Act.put, qA, qB, qC, qD, qE, qF]
    refine wpAnyH_take (i := 14) (v := undef) rfl (by kernel_rfl) (by kernel_rfl) (by kernel_rfl) (fun _ _ _ h => h) (Or.inr ⟨by rfl, rfl⟩) (by assumption) ?_
    simp only [Act.put, qA, qB, qC, qD, qE, qF]
    refine wpAnyH_take (i := 15) (v := undef) rfl (by kernel_rfl) (by kernel_rfl) (by kernel_rfl) (fun _ _ _ h => h) (Or.inr ⟨by rfl, rfl⟩) (by assumption) ?_
    simp only [Act.put, qA, qB, qC, qD, qE, qF]
    refine tk 16 ?_ rfl (by kernel_rfl) (fun _ _ _ h => h) (by rfl) ?_ (by assumption) ?_
    rotate_left
    ·intro w' hSw; go_simp <;> with_reducible rfl
    simp only [Act.put, qA, qB, qC, qD, qE, qF]
    refine wpAnyH_done (by kernel_rfl) ?_ _
    go_wp2
    go_meet
    exact ⟨true, rfl, zh (fun h => by cases h), zh (Ext.refl U).drew⟩
   have hct : c.toList.isEmpty = false := by cases h9 : c.toList.isEmpty with | false => rfl | true => exact absurd (List.isEmpty_iff.1 h9) hce
   refine tk 0 ?_ rfl (by kernel_rfl) (fun _ _ _ h => h) (by rfl) ?_ (by assumption) ?_
   rotate_left
   ·intro w' hSw; go_simp <;> with_reducible rfl
   simp only [Act.put, qA, qB, qC, qD, qE, qF]
   refine tk 1 ?_ rfl (by kernel_rfl) (fun _ _ _ h => h) (by rfl) ?_ (by assumption) ?_
   rotate_left
   ·intro w' hSw; have h9 := zg hSw 2 _ rfl; go_simp <;> with_reducible rfl
   simp only [Act.put, qA, qB, qC, qD, qE, qF]
   refine tk 2 ?_ rfl (by kernel_rfl) (fun _ _ _ h => h) (by rfl) ?_ (by assumption) ?_
   rotate_left
   ·intro w' hSw; go_simp <;> with_reducible rfl
   simp only [Act.put, qA, qB, qC, qD, qE, qF]
   refine tk 3 ?_ rfl (by kernel_rfl) (fun _ _ _ h => h) (by rfl) ?_ (by assumption) ?_
   rotate_left
   ·intro w' hSw; go_simp <;> with_reducible rfl
   simp only [Act.put, qA, qB, qC, qD, qE, qF]
   refine tk 4 ?_ rfl (by kernel_rfl) (fun _ _ _ h => h) (by rfl) ?_ (by assumption) ?_
   rotate_left
   ·intro w' hSw; go_simp <;> with_reducible rfl
   simp only [Act.put, qA, qB, qC, qD, qE, qF]
   refine tk 5 ?_ rfl (by kernel_rfl) (fun _ _ _ h => h) (by rfl) ?_ (by assumption) ?_
   rotate_left
   ·intro w' hSw; have h9 := zg hSw 0 _ rfl; go_simp <;> with_reducible rfl
   simp only [Act.put, qA, qB, qC, qD, qE, qF]
   refine tk 7 ?_ rfl (by kernel_rfl) (fun _ _ _ h => h) (by rfl) ?_ (by assumption) ?_
   rotate_left
   ·intro w' hSw; go_simp <;> with_reducible rfl
   simp only [Act.put, qA, qB, qC, qD, qE, qF]
   refine tk 8 ?_ rfl (by kernel_rfl) (fun _ _ _ h => h) (by rfl) ?_ (by assumption) ?_
   rotate_left
   ·intro w' hSw; have h9 := zg hSw 2 _ rfl; go_simp <;> with_reducible rfl
   simp only [Act.put, qA, qB, qC, qD, qE, qF]
   refine tk 11 ?_ rfl (by kernel_rfl) (fun _ _ _ h => h) (by rfl) ?_ (by assumption) ?_
   rotate_left
   ·intro w' hSw; go_simp <;> with_reducible rfl
   simp only [Act.put, qA, qB, qC, qD, qE, qF]
   refine tk 12 ?_ rfl (by kernel_rfl) (fun _ _ _ h => h) (by rfl) ?_ (by assumption) ?_
   rotate_left
   ·intro w' hSw; have h9 := zg hSw 1 _ rfl; go_simp <;> with_reducible rfl
   simp only [Act.put, qA, qB, qC, qD, qE, qF]
   have G := zh ((Ext.refl U).drew)
   generalize U.drew = Y0 at *
   refine rdy 6 (by kernel_rfl) rfl (fun K hK => ?_)
   go_simp
   refine ((zu HA) _ (by omega)).mono ?_
   rintro e Y1 ⟨rfl, f9⟩
   replace G := Hid.ht G f9
   clear f9 hHeld
   refine hK.out _ _ ((zu G).kept (zu HB0)) (fun hHeld => ?_)
   clear hK K
   refine rdy 9 (by kernel_rfl) rfl (fun K hK => ?_)
   go_simp
   refine ((zu HC) _ (by omega)).mono ?_
   rintro e Y2 ⟨rfl, f9⟩
   replace G := Hid.ht G f9
   clear f9 hHeld
   refine hK.out _ _ ((zu G).kept (zu HB0)) (fun hHeld => ?_)
   clear hK K
   refine tk 10 ?_ rfl (by kernel_rfl) (fun _ _ _ h => h) (by rfl) ?_ (by assumption) ?_
   rotate_left
   ·intro w' hSw; go_simp <;> with_reducible rfl
   simp only [Act.put, qA, qB, qC, qD, qE, qF]
   refine rdy 13 (by kernel_rfl) rfl (fun K hK => ?_)
   go_simp
   refine ((zu HBc) _ (by omega)).mono ?_
   rintro e Y3 ⟨rfl, f9⟩
   replace G := Hid.ht G f9
   clear f9 hHeld
   refine hK.out _ _ ((zu G).kept (zu HB0)) (fun hHeld => ?_)
   clear hK K
   refine tk 14 ?_ rfl (by kernel_rfl) (fun _ _ _ h => h) (by rfl) ?_ (by assumption) ?_
   rotate_left
   ·intro w' hSw; go_simp <;> with_reducible rfl
   simp only [Act.put, qA, qB, qC, qD, qE, qF]
   refine tk 15 ?_ rfl (by kernel_rfl) (fun _ _ _ h => h) (by rfl) ?_ (by assumption) ?_
   rotate_left
   ·intro w' hSw; go_simp <;> with_reducible rfl
   simp only [Act.put, qA, qB, qC, qD, qE, qF]
   refine tk 16 ?_ rfl (by kernel_rfl) (fun _ _ _ h => h) (by rfl) ?_ (by assumption) ?_
   rotate_left
   ·intro w' hSw; go_simp <;> with_reducible rfl
   simp only [Act.put, qA, qB, qC, qD, qE, qF]
   refine wpAnyH_done (by kernel_rfl) ?_ _
   go_wp2
   go_meet
   exact ⟨decide (300 < (nA : Int) + nC + nB), rfl, zh (fun h => by have := of_decide_eq_false h; omega), G⟩
  case rest =>
  rename World => w7
  obtain ⟨bb, rfl, HT, HF7⟩ := hcut
  replace HB0 := zh ((zu HF7).kept (zu HB0))
  replace HB1 := zh ((zu HF7).kept (zu HB1))
  replace HE0 := zh ((zu HE0).trans (zu HF7))
  have z7 := (zu HF7).size
  clear c0 c1 c2 k0 k1 HF7
  have c0 := zg (zu HB0) 0 _ rfl
  have c1 := zg (zu HB0) 1 _ rfl
  have c2 := zg (zu HB0) 2 _ rfl
  have hcat : ¬ 9223372036854775807 < a.size + c.size := by omega
  cases bb
  ·have hle := (zu HZ) ((zu HT) rfl)
   go_wp2_with (refine zl rfl 99 _ rfl (w.heap.size) rfl _ _ _ _ (zu HB0) Tryz.underlying99 rfl infoL ?_)
   refine ((zu HSt) w7 (zu HE0)).mono ?_
   rintro e w6 ⟨v6, rfl, hO, E6⟩
   have HSm : Hid (Sml (a ++ c) b c (zav un (a, b))) := zh (by
    obtain ⟨g1, g2, g3, g4, g5⟩ := zfu (zu HS)
    exact ⟨by rw [ByteArray.size_append]; omega, g2, g3, g4, g5⟩)
   obtain ⟨uz, huz⟩ : ∃ uz, uz = zav un (a, b) := ⟨_, rfl⟩
   rw [← huz] at hO HSm
   clear huz
   obtain ⟨ua, uc, rfl⟩ : ∃ ua uc, v6 = .slice ua uz.length uc := by
    obtain ⟨x, y, e, _⟩ := hO.reads
    exact ⟨x, y, e⟩
   have HO := zh hO
   clear hO
   replace HB1 := E6.hk HB1
   replace HE0 := Hid.ht HE0 E6
   have z6 := E6.size
   clear E6
   go_wp2_with (refine zi rfl 99 _ _ rfl rfl (w.heap.size + 2) rfl _ _ _ rfl (zu HB1) infoL rfl (by simp [Value.oneCell']) ?_; intro Z hy hf9; have HY := zh hy; have FY := zh hf9; clear hy hf9)
   have v0 := zg (zu HY) 0 _ rfl
   have v1 := zg (zu HY) 1 _ rfl
   have v2 := zg (zu HY) 2 _ rfl
   have v3 := zg (zu HY) 3 _ rfl
   exact bodyPost_ret (v := .tuple #[.agg #[.string (a ++ c), .string b, .string c, .slice ua uz.length uc], .int .i64 1]) (by simp [results, Tryz.results75, go_sem, v0, v1, v2, v3]) rfl ⟨⟨⟨(a ++ c), b, c, uz, 1⟩, zu HSm, _, rfl, ((zu HO).fr (zu FY) (fun g hg e9 => by have := ((zu HO).lt g hg).1; omega)).mono (by omega)⟩, (zu FY).ext (zu HE0) (fun q hq => by omega)⟩
  ·go_wp2_with (refine zl rfl 99 _ rfl (w.heap.size) rfl _ _ _ _ (zu HB0) Tryz.underlying99 rfl infoL ?_)
   refine ((zu HCp) w7 (zu HE0)).mono ?_
   rintro e w6 ⟨ua, uc, rfl, HO, E6⟩
   replace HB1 := E6.hk HB1
   replace HE0 := Hid.ht HE0 E6
   have z6 := E6.size
   clear E6
   go_wp2_with (refine zi rfl 99 _ _ rfl rfl (w.heap.size + 2) rfl _ _ _ rfl (zu HB1) infoL rfl (by simp [Value.oneCell']) ?_; intro Z hy hf9; have HY := zh hy; have FY := zh hf9; clear hy hf9)
   have v0 := zg (zu HY) 0 _ rfl
   have v1 := zg (zu HY) 1 _ rfl
   have v2 := zg (zu HY) 2 _ rfl
   have v3 := zg (zu HY) 3 _ rfl
   exact bodyPost_ret (v := .tuple #[.agg #[.string a, .string b, .string c, .slice ua un.length uc], .int .i64 2]) (by simp [results, Tryz.results75, go_sem, v0, v1, v2, v3]) rfl ⟨⟨⟨a, b, c, un, 2⟩, zu HS, _, rfl, ((zu HO).fr (zu FY) (fun g hg e9 => by have := ((zu HO).lt g hg).1; omega)).mono (by omega)⟩, (zu FY).ext (zu HE0) (fun q hq => by omega)⟩
 have q14 : (kd == 14) = false := by rw [beq_eq_false_iff_ne]; exact h14
 have q15 : (kd == 15) = false := by rw [beq_eq_false_iff_ne]; exact h15
 clear c0 c1 c2 k1
 go_upto_region 26 with fail
 refine wp_region_held_drew (S := fun W => W.heap[w.heap.size]? = some (.cells #[.string a, .string b, .string c, .slice ao un.length ca] 99 (0, 0)) ∧ W.heap[w.heap.size + 1]? = some (.cells #[.int .i64 kd, .slice ra rn rc] 95 (0, 0))) (by kernel_rfl) ⟨zu HB0, zu HBK⟩ (fun hHeld => ?_)
 refine tk 0 (.agg #[.string a, .string b, .string c, .slice ao un.length ca]) rfl (by kernel_rfl) (fun _ _ _ h => h) (by rfl) ?_ (by assumption) ?_
 ·intro w' hSw; exact zad 99 _ rfl (w.heap.size) rfl _ _ _ _ hSw.1 Tryz.underlying99 rfl infoL
 simp only [Act.put, qA, qB, qC, qD, qE, qF]
 refine tk 2 ?_ rfl (by kernel_rfl) (fun _ _ _ h => h) (by rfl) ?_ (by assumption) ?_
 rotate_left
 ·intro w' hSw; go_simp <;> with_reducible rfl
 simp only [Act.put, qA, qB, qC, qD, qE, qF]
 refine tk 3 ?_ rfl (by kernel_rfl) (fun _ _ _ h => h) (by rfl) ?_ (by assumption) ?_
 rotate_left
 ·intro w' hSw; have h9 := zg hSw.2 0 _ rfl; go_simp <;> with_reducible rfl
 simp only [Act.put, qA, qB, qC, qD, qE, qF]
 have G := zh ((Ext.refl U).drew)
 generalize U.drew = Y0 at *
 refine rdy 1 (by kernel_rfl) rfl (fun K hK => ?_)
 go_simp
 refine ((zu HCp) _ ((zu HE0).trans (zu G))).mono ?_
 rintro e Y1 ⟨ua, uc, rfl, HO, f9⟩
 have yG := (zu G).size
 replace G := Hid.ht G f9
 clear f9 hHeld
 refine hK.out _ _ ⟨(zu G).kept (zu HB0), (zu G).kept (zu HBK)⟩ (fun hHeld => ?_)
 clear hK K
 refine rdy 4 (by kernel_rfl) rfl (fun K hK => ?_)
 go_simp
 refine (zji kd _).mono ?_
 rintro e Y2 ⟨rfl, f9⟩
 replace HO := zh ((zu HO).ext f9)
 replace G := Hid.ht G f9
 clear f9 hHeld
 refine hK.out _ _ ⟨(zu G).kept (zu HB0), (zu G).kept (zu HBK)⟩ (fun hHeld => ?_)
 clear hK K
 refine rdy 5 (by kernel_rfl) rfl (fun K hK => ?_)
 have HSm := HS
 refine ze 99 _ _ rfl rfl (w.heap.size + 2) rfl _ _ #[.string a, .string b, .string c, .slice ua un.length uc] rfl ((zu G).kept (zu HB1)) infoL rfl (by simp [Value.oneCell']) ?_
 intro Z hy hf9
 replace HE0 := zh ((zu HE0).trans (zu G))
 clear hHeld
 refine hK.out _ _ ⟨hf9.kept ((zu G).kept (zu HB0)) (by omega), hf9.kept ((zu G).kept (zu HBK)) (by omega)⟩ (fun hHeld => ?_)
 have HY := zh hy
 have FY := zh hf9
 clear hK K hy hf9
 refine tk 6 ?_ rfl (by kernel_rfl) (fun _ _ _ h => h) (by rfl) ?_ (by assumption) ?_
 rotate_left
 ·intro w' hSw; go_simp <;> with_reducible rfl
 simp only [Act.put, qA, qB, qC, qD, qE, qF]
 refine wpAnyH_done (by kernel_rfl) ?_ _
 go_wp2
 have v0 := zg (zu HY) 0 _ rfl
 have v1 := zg (zu HY) 1 _ rfl
 have v2 := zg (zu HY) 2 _ rfl
 have v3 := zg (zu HY) 3 _ rfl
 exact bodyPost_ret (v := .tuple #[.agg #[.string a, .string b, .string c, .slice ua un.length uc], .int .i64 (zkn kd)]) (by simp [results, Tryz.results75, go_sem, v0, v1, v2, v3]) rfl ⟨⟨⟨a, b, c, un, (zkn kd)⟩, zu HSm, _, rfl, ((zu HO).fr (zu FY) (fun g hg e9 => by have := ((zu HO).lt g hg).1; omega)).mono (by omega)⟩, (zu FY).ext (zu HE0) (fun q hq => by omega)⟩
theorem zfc (a b c : ByteArray) (v : Value) (un : List (ByteArray × ByteArray)) (ra : Option Addr) (rn rc : Nat) (w : World) (hv : zb3 w v un) (kd : Int) (rs : List Int) (hr : zx w .i32 (.slice ra rn rc) rs) (iR : zdv rs) (hS : Sml a b c un) :
  Calls Tryz.prog 75 #[.agg #[.string a, .string b, .string c, v], .agg #[.int .i64 kd, .slice ra rn rc]] w fun e w' => LnZ w' w.heap.size e ∧ Ext w w' := by
 by_cases hP : zcJ a b c un.length (lnT un) (lnH un)
 ·exact ziY a b c v un ra rn rc w hv kd rs hr iR hP
 ·refine (zjE a b c v un ra rn rc w hv (by have := hS.1; omega) (by have := hS.1; omega) (by have := hS.2.2.1; omega) (by have := hS.2.2.2.1; omega) hS.each kd hP).mono (fun _ _ ⟨h, E⟩ => ⟨h.z hS, E⟩)
end Go.Proofs.YtinfdhbnljnifaaGreatDoor
