import Derived.Test.YtinfdhbnljnifaaGreatDoorDr6
import Derived.Test.YtinfdhbnljnifaaGreatDoorDwS
import Derived.Test.YtinfdhbnljnifaaGreatDoorLayS2
import Derived.Test.YtinfdhbnljnifaaGreatDoorWhole
import Derived.Test.YtinfdhbnljnifaaGreatDoorDwC
import Derived.Test.YtinfdhbnljnifaaGreatDoorImplPaint
import Derived.Test.YtinfdhbnljnifaaGreatDoorImplRedraw
import Derived.Test.YtinfdhbnljnifaaGreatDoorPowLaid
namespace Go.Proofs.YtinfdhbnljnifaaGreatDoor
open Go.RowKit
theorem zdI (pr a b c : ByteArray) (ua : Option Addr) (un uc : Nat) (cols rows : Nat) (w : World) (h1 : 2 ≤ cols) (h2 : cols ≤ 13) (h3 : 1 ≤ rows) (h4 : rows ≤ 5) (hp : pr.size ≤ 24) (hs : a.size + b.size ≤ 1400) :
  Calls Tryz.prog 76 #[.string pr, .agg #[.string a, .string b, .string c, .slice ua un uc], .int .i64 cols, .int .i64 rows] w fun e w' => ∃ v n tx f R C, e = .returned (.agg #[v, .int .i64 R, .int .i64 C]) ∧ zc6 cols rows n tx f R C ∧ za4 w' w.heap.size 9 v n (fun i => .string (tx i)) ∧ Ext w w' := by
 have hsz : zbN (cols : Int) (rows : Int) = true := by unfold zbN; simp; omega
 have h := zgu (baL pr) (baL a) (baL b) c ua un uc cols rows w hsz (zf _) (zf _) (zf _) (by rw [zw]; omega) (by rw [zw]; omega) (by rw [zw]; omega)
 rw [zat, zat, zat] at h
 refine h.mono ?_
 rintro e w' ⟨v, rfl, o, F⟩
 exact ⟨v, _, _, _, _, _, rfl, zmD (baL pr) (baL a) (baL b) cols rows h1 (by omega) h3 (by simp only [zw]; omega), o, F⟩
def TwB (w : World) (e : Ending) : Prop :=
 ∃ (c r n1 n2 : Nat) (v1 v2 : Value) (tx ty : Nat → ByteArray) (f g : Nat → List Int) (r1 c1 r2 c2 : Int), e = .returned (.tuple #[.int .i64 c, .int .i64 r, .agg #[v1, .int .i64 r1, .int .i64 c1], .agg #[v2, .int .i64 r2, .int .i64 c2]]) ∧ 2 ≤ c ∧ c ≤ 13 ∧ 1 ≤ r ∧ r ≤ 5 ∧ zc6 c r n1 tx f r1 c1 ∧ zc6 c r n2 ty g r2 c2 ∧ zam w v1 n1 (fun j => .string (tx j)) ∧ zam w v2 n2 (fun j => .string (ty j))
set_option linter.unusedSimpArgs false in
set_option maxRecDepth 10000 in
set_option maxHeartbeats 4000000 in
theorem zhU (v : Value) (code : List Int) (w : World) (hv : zx w .u8 v code) (hB : zv code) (hl : code.length ≤ 1048576) :
  Calls Tryz.prog 22 #[v] w fun e w' => TwB w' e ∧ Ext w w' := by
 have HOp := zh (fun W (hW : Ext w W) => zgS v code W (hv.ext hW) (by omega))
 have hBt : zv (code.take 1000) := fun n hn => hB n (List.mem_of_mem_take hn)
 have hlt : (code.take 1000).length ≤ 16777216 := by rw [List.length_take]; omega
 have infoL : (Tryz.prog.info? 99).map (·.size) = some 4 := by kernel_rfl
 have infoK : (Tryz.prog.info? 95).map (·.size) = some 2 := by kernel_rfl
 have infoB : (Tryz.prog.info? 46).map (·.size) = some 3 := by kernel_rfl
 obtain ⟨va, vc, rfl, _⟩ := id hv
 clear hv
 obtain ⟨w0, hw0⟩ : ∃ W, W = (w.alloc (.cells #[.slice none 0 0, .int .i64 0, .int .i64 0] 46)).alloc (.cells #[.slice none 0 0, .int .i64 0, .int .i64 0] 46) := ⟨_, rfl⟩
 have E0 : Ext w w0 := by rw [hw0]; exact ((Ext.refl w).alloc _).alloc _
 have z0 : w0.heap.size = w.heap.size + 2 := by rw [hw0]; simp
 have HB1 : Hid (w0.heap[w.heap.size]? = some (.cells #[.slice none 0 0, .int .i64 0, .int .i64 0] 46 (0, 0))) := zh (by rw [hw0]; exact ((Ext.refl _).alloc _).kept (zk w _))
 have HB2 : Hid (w0.heap[w.heap.size + 1]? = some (.cells #[.slice none 0 0, .int .i64 0, .int .i64 0] 46 (0, 0))) := zh (by rw [hw0]; have h := zk (w.alloc (.cells #[.slice none 0 0, .int .i64 0, .int .i64 0] 46)) (.cells #[.slice none 0 0, .int .i64 0, .int .i64 0] 46); simpa using h)
 have HW0 := zh hw0
 have HE := zh E0
 clear hw0 E0
 go_enter Tryz.func22, Tryz.ntmps22
 go_wp2_with fail
 rw [← zu HW0]
 clear HW0
 refine ((zu HOp) _ (zu HE)).mono ?_
 rintro e w1 ⟨rfl, ⟨u, r1⟩, E1⟩
 obtain ⟨D, hD⟩ : ∃ D, D = w0.heap.size := ⟨_, rfl⟩
 rw [← hD] at r1 ⊢
 have hwD : w.heap.size + 2 = D := by omega
 have hDw1 : D < w1.heap.size := zaj r1.1
 replace HE := Hid.ht HE E1
 replace HB1 := E1.hk HB1
 replace HB2 := E1.hk HB2
 obtain ⟨x, hx, hx2⟩ := bnat hBt 0
 have HN := zh (zb9 D u _ 0 w1 r1 hBt hlt)
 rw [hx] at HN
 clear HOp E1 r1 hx hD z0
 go_wp2_with fail
 refine (zu HN).mono ?_
 rintro e w2 ⟨rfl, r2, f2⟩
 replace HE := zh (f2.ext (zu HE) (fun q hq => by omega))
 replace HB1 := zh (f2.kept (zu HB1) (by omega))
 replace HB2 := zh (f2.kept (zu HB2) (by omega))
 have z2 := f2.size
 have HR := zh r2
 clear HN r2 f2
 go_wp2_with fail
 refine (zmF D u _ _ w2 (zu HR) hBt hlt).mono ?_
 rintro e w3 ⟨⟨cI, rI, rfl, hc1, hc2, hr1, hr2⟩, ⟨p3, r3⟩, f3⟩
 obtain ⟨cn, rfl⟩ : ∃ cn : Nat, cI = (cn : Int) := ⟨cI.toNat, by omega⟩
 obtain ⟨rn, rfl⟩ : ∃ rn : Nat, rI = (rn : Int) := ⟨rI.toNat, by omega⟩
 replace HE := zh (f3.ext (zu HE) (fun q hq => by omega))
 replace HB1 := zh (f3.kept (zu HB1) (by omega))
 replace HB2 := zh (f3.kept (zu HB2) (by omega))
 have z3 := f3.size
 replace HR := zh r3
 clear r3 f3
 go_wp2_with fail
 refine (zj4 D u _ _ w3 (zu HR) hBt hlt).mono ?_
 rintro e w4 ⟨⟨t0, rfl, ht0⟩, ⟨p4, r4⟩, f4⟩
 replace HE := zh (f4.ext (zu HE) (fun q hq => by omega))
 replace HB1 := zh (f4.kept (zu HB1) (by omega))
 replace HB2 := zh (f4.kept (zu HB2) (by omega))
 have z4 := f4.size
 replace HR := zh r4
 clear r4 f4
 go_wp2_with fail
 refine (zmB D u _ _ w4 (zu HR) hBt hlt).mono ?_
 rintro e w5 ⟨⟨kd, kv, rs, rfl, ok, hI, hr⟩, ⟨p5, r5⟩, f5⟩
 obtain ⟨ra, rc, rfl, _⟩ := zz ok
 replace HE := zh (f5.ext (zu HE) (fun q hq => by omega))
 replace HB1 := zh (f5.kept (zu HB1) (by omega))
 replace HB2 := zh (f5.kept (zu HB2) (by omega))
 have z5 := f5.size
 have HOk := zh ok
 have hkL : ∀ g, Value.ownBlock (.slice ra rs.length rc) = some g → w4.heap.size ≤ g := fun g hg => (ok.lt g hg).1
 obtain ⟨V, hV⟩ : ∃ V, V = w5.alloc (.cells #[.int .i64 kd, .slice ra rs.length rc] 95) := ⟨_, rfl⟩
 have EV : Ext w5 V := by rw [hV]; exact (Ext.refl w5).alloc _
 have HBK : Hid (V.heap[w5.heap.size]? = some (.cells #[.int .i64 kd, .slice ra rs.length rc] 95 (0, 0))) := zh (by rw [hV]; exact zk w5 _)
 have zV : V.heap.size = w5.heap.size + 1 := by rw [hV]; simp
 replace HE := Hid.ht HE EV
 replace HB1 := EV.hk HB1
 replace HB2 := EV.hk HB2
 replace HOk := zh (Ext.owns EV (zu HOk))
 replace HR := zh (r5.ext EV)
 have HV := zh hV
 clear ok r5 f5 hV EV
 go_wp2_with fail
 rw [← zu HV]
 clear HV
 refine (zhe D u _ _ V (zu HR) hBt hlt).mono ?_
 rintro e w6 ⟨⟨a, b, c, un, v2, rfl, hS, hO⟩, ⟨p6, r6⟩, f6⟩
 obtain ⟨ua, uc, rfl⟩ : ∃ ua uc, v2 = .slice ua un.length uc := by
  obtain ⟨x, y, e, _⟩ := hO.reads
  exact ⟨x, y, e⟩
 replace HE := zh (f6.ext (zu HE) (fun q hq => by omega))
 replace HB1 := zh (f6.kept (zu HB1) (by omega))
 replace HB2 := zh (f6.kept (zu HB2) (by omega))
 replace HBK := zh (f6.kept (zu HBK) (by omega))
 replace HOk := zh (f6.owns (zu HOk) (fun g hg e9 => by have := hkL g hg; omega))
 have z6 := f6.size
 replace HR := zh r6
 have HS := zh hS
 obtain ⟨V6, hV6⟩ : ∃ X, X = w6.alloc (.cells #[.string a, .string b, .string c, .slice ua un.length uc] 99) := ⟨_, rfl⟩
 have E6 : Ext w6 V6 := by rw [hV6]; exact (Ext.refl w6).alloc _
 have HBL : Hid (V6.heap[w6.heap.size]? = some (.cells #[.string a, .string b, .string c, .slice ua un.length uc] 99 (0, 0))) := zh (by rw [hV6]; exact zk w6 _)
 have zV6 : V6.heap.size = w6.heap.size + 1 := by rw [hV6]; simp
 replace HE := Hid.ht HE E6
 replace HB1 := E6.hk HB1
 replace HB2 := E6.hk HB2
 replace HBK := E6.hk HBK
 replace HOk := zh (Ext.owns E6 (zu HOk))
 replace HR := zh ((zu HR).ext E6)
 have hEd := zfc a b c (.slice ua un.length uc) un ra rs.length rc V6 (hO.ext E6).reads kd rs (zz (zu HOk)) hI hS
 have HEd := zh hEd
 have HV6 := zh hV6
 clear f6 r6 hO hS hV6 E6 hEd
 go_wp2_with (first
  | (show wpList _ _ _ (List.cons ⟨_, .load 99 _, _, _, _, _⟩ _) _ _; rw [← zu HV6]; refine zl rfl 99 _ rfl (w6.heap.size) rfl _ _ _ _ (zu HBL) Tryz.underlying99 rfl infoL ?_)
  | (show wpList _ _ _ (List.cons ⟨_, .load 95 _, _, _, _, _⟩ _) _ _; refine zl rfl 95 _ rfl (w5.heap.size) rfl _ _ _ _ (zu HBK) Tryz.underlying95 rfl infoK ?_))
 refine (zu HEd).mono ?_
 rintro e w7 ⟨⟨⟨na, nb, nc, nun, dd⟩, hSn, v9, rfl, hO9⟩, F7⟩
 have HSn := zh hSn
 clear hSn
 simp only [] at HSn hO9 ⊢
 obtain ⟨va9, vc9, rfl⟩ : ∃ x y, v9 = .slice x nun.length y := by
  obtain ⟨x, y, e, _⟩ := hO9.reads
  exact ⟨x, y, e⟩
 replace HE := Hid.ht HE F7
 replace HB1 := F7.hk HB1
 replace HB2 := F7.hk HB2
 replace HBL := F7.hk HBL
 replace HR := zh ((zu HR).ext F7)
 have z7 := F7.size
 obtain ⟨V7, hV7⟩ : ∃ X, X = w7.alloc (.cells #[.string na, .string nb, .string nc, .slice va9 nun.length vc9] 99) := ⟨_, rfl⟩
 have E7 : Ext w7 V7 := by rw [hV7]; exact (Ext.refl w7).alloc _
 have HBN : Hid (V7.heap[w7.heap.size]? = some (.cells #[.string na, .string nb, .string nc, .slice va9 nun.length vc9] 99 (0, 0))) := zh (by rw [hV7]; exact zk w7 _)
 have zV7 : V7.heap.size = w7.heap.size + 1 := by rw [hV7]; simp
 replace HE := Hid.ht HE E7
 replace HB1 := E7.hk HB1
 replace HB2 := E7.hk HB2
 replace HBL := E7.hk HBL
 replace HR := zh ((zu HR).ext E7)
 have HV7 := zh hV7
 clear HEd HV6 HBK HOk hO9 F7 hV7 E7 hkL
 by_cases h3 : x % 4 = 3
 ·have q3 : ((x : Int) % 4 == 3) = true := by rw [beq_iff_eq]; omega
  go_wp2_with fail
  rw [← zu HV7]
  clear HV7
  refine (zhe D u _ _ V7 (zu HR) hBt hlt).mono ?_
  rintro e w8 ⟨⟨na2, nb2, nc2, nun2, v2, rfl, hS2, hO2⟩, _, f8⟩
  obtain ⟨va2, vc2, rfl⟩ : ∃ x y, v2 = .slice x nun2.length y := by
   obtain ⟨x, y, e, _⟩ := hO2.reads
   exact ⟨x, y, e⟩
  replace HE := zh (f8.ext (zu HE) (fun q hq => by omega))
  replace HB1 := zh (f8.kept (zu HB1) (by omega))
  replace HB2 := zh (f8.kept (zu HB2) (by omega))
  replace HBL := zh (f8.kept (zu HBL) (by omega))
  replace HBN := zh (f8.kept (zu HBN) (by omega))
  have z8 := f8.size
  replace HSn := zh hS2
  clear f8 hO2 hS2
  go_wp2_with (refine zi rfl 99 _ _ rfl rfl (w7.heap.size) rfl _ _ #[.string na2, .string nb2, .string nc2, .slice va2 nun2.length vc2] rfl (zu HBN) infoL rfl (by simp [Value.oneCell']) ?_; intro X hb9 hf9; have HBX := zh hb9; have HfX := zh hf9; clear hb9 hf9; refine zaS.intro ?_)
  show wpList _ _ _ _ _ _
  replace HE := zh ((zu HfX).ext (zu HE) (fun q hq => by omega))
  replace HB1 := zh ((zu HfX).kept (zu HB1) (by omega))
  replace HB2 := zh ((zu HfX).kept (zu HB2) (by omega))
  replace HBL := zh ((zu HfX).kept (zu HBL) (by omega))
  have zX := (zu HfX).size
  clear HfX HBN HR
  go_upto_region 10 with fail
  refine wp_region_held_drew (S := fun W => W.heap[w6.heap.size]? = some (.cells #[.string a, .string b, .string c, .slice ua un.length uc] 99 (0, 0)) ∧ W.heap[w7.heap.size]? = some (.cells #[.string na2, .string nb2, .string nc2, .slice va2 nun2.length vc2] 99 (0, 0))) (by kernel_rfl) ⟨zu HBL, zu HBX⟩ (fun hHeld => ?_)
  refine tk 0 ?_ rfl (by kernel_rfl) (fun _ _ _ h => h) (by rfl) ?_ (by assumption) ?_
  rotate_left
  ·intro w' hSw; go_simp <;> with_reducible rfl
  simp only [Act.put, qA, qB, qC, qD, qE, qF]
  refine tk 1 ?_ rfl (by kernel_rfl) (fun _ _ _ h => h) (by rfl) ?_ (by assumption) ?_
  rotate_left
  ·intro w' hSw; go_simp <;> with_reducible rfl
  simp only [Act.put, qA, qB, qC, qD, qE, qF]
  refine tk 2 ?_ rfl (by kernel_rfl) (fun _ _ _ h => h) (by rfl) ?_ (by assumption) ?_
  rotate_left
  ·intro w' hSw; go_simp <;> with_reducible rfl
  simp only [Act.put, qA, qB, qC, qD, qE, qF]
  refine tk 3 (.agg #[.string a, .string b, .string c, .slice ua un.length uc]) rfl (by kernel_rfl) (fun _ _ _ h => h) (by rfl) ?_ (by assumption) ?_
  ·intro w' hSw; exact zad 99 _ rfl (w6.heap.size) rfl _ _ _ _ hSw.1 Tryz.underlying99 rfl infoL
  simp only [Act.put, qA, qB, qC, qD, qE, qF]
  refine tk 4 ?_ rfl (by kernel_rfl) (fun _ _ _ h => h) (by rfl) ?_ (by assumption) ?_
  rotate_left
  ·intro w' hSw; go_simp <;> with_reducible rfl
  simp only [Act.put, qA, qB, qC, qD, qE, qF]
  refine tk 5 ?_ rfl (by kernel_rfl) (fun _ _ _ h => h) (by rfl) ?_ (by assumption) ?_
  rotate_left
  ·intro w' hSw; go_simp <;> with_reducible rfl
  simp only [Act.put, qA, qB, qC, qD, qE, qF]
  refine tk 7 ?_ rfl (by kernel_rfl) (fun _ _ _ h => h) (by rfl) ?_ (by assumption) ?_
  rotate_left
  ·intro w' hSw; go_simp <;> with_reducible rfl
  simp only [Act.put, qA, qB, qC, qD, qE, qF]
  refine tk 8 (.agg #[.string na2, .string nb2, .string nc2, .slice va2 nun2.length vc2]) rfl (by kernel_rfl) (fun _ _ _ h => h) (by rfl) ?_ (by assumption) ?_
  ·intro w' hSw; exact zad 99 _ rfl (w7.heap.size) rfl _ _ _ _ hSw.2 Tryz.underlying99 rfl infoL
  simp only [Act.put, qA, qB, qC, qD, qE, qF]
  refine tk 9 ?_ rfl (by kernel_rfl) (fun _ _ _ h => h) (by rfl) ?_ (by assumption) ?_
  rotate_left
  ·intro w' hSw; go_simp <;> with_reducible rfl
  simp only [Act.put, qA, qB, qC, qD, qE, qF]
  refine tk 10 ?_ rfl (by kernel_rfl) (fun _ _ _ h => h) (by rfl) ?_ (by assumption) ?_
  rotate_left
  ·intro w' hSw; go_simp <;> with_reducible rfl
  simp only [Act.put, qA, qB, qC, qD, qE, qF]
  have G := zh ((Ext.refl X).drew)
  generalize X.drew = Y0 at *
  refine rdy 6 (by kernel_rfl) rfl (fun K hK => ?_)
  go_simp
  refine (zdI t0 a b c ua un.length uc cn rn Y0 (by omega) (by omega) (by omega) (by omega) ht0 (zu HS).1).mono ?_
  rintro e Y1 ⟨p1, m1, tx, f, R1, C1, rfl, fit1, ow1, f9⟩
  obtain ⟨p1a, p1c, rfl⟩ := ow1.slice
  have HO1 := zh ow1
  have HT1 := zh fit1
  have yG := (zu G).size
  replace G := Hid.ht G f9
  clear f9 ow1 fit1 hHeld
  refine hK.out _ _ ⟨(zu G).kept (zu HBL), (zu G).kept (zu HBX)⟩ (fun hHeld => ?_)
  clear hK K
  refine rdy 11 (by kernel_rfl) rfl (fun K hK => ?_)
  go_simp
  refine (zdI t0 na2 nb2 nc2 va2 nun2.length vc2 cn rn Y1 (by omega) (by omega) (by omega) (by omega) ht0 (zu HSn).1).mono ?_
  rintro e Y2 ⟨p2, m2, ty, g, R2, C2, rfl, fit2, ow2, f9⟩
  obtain ⟨p2a, p2c, rfl⟩ := ow2.slice
  replace HO1 := zh ((zu HO1).ext f9)
  have HO2 := zh ow2
  have HT2 := zh fit2
  have yG1 := (zu G).size
  replace G := Hid.ht G f9
  clear f9 ow2 fit2 hHeld
  refine hK.out _ _ ⟨(zu G).kept (zu HBL), (zu G).kept (zu HBX)⟩ (fun hHeld => ?_)
  clear hK K
  refine tk 12 ?_ rfl (by kernel_rfl) (fun _ _ _ h => h) (by rfl) ?_ (by assumption) ?_
  rotate_left
  ·intro w' hSw; go_simp <;> with_reducible rfl
  simp only [Act.put, qA, qB, qC, qD, qE, qF]
  refine tk 13 ?_ rfl (by kernel_rfl) (fun _ _ _ h => h) (by rfl) ?_ (by assumption) ?_
  rotate_left
  ·intro w' hSw; go_simp <;> with_reducible rfl
  simp only [Act.put, qA, qB, qC, qD, qE, qF]
  refine rdy 14 (by kernel_rfl) rfl (fun K hK => ?_)
  refine ze 46 _ _ rfl rfl (w.heap.size) rfl _ _ #[.slice p1a m1 p1c, .int .i64 R1, .int .i64 C1] rfl ((zu G).kept (zu HB1)) infoB rfl (by simp [Value.oneCell']) ?_
  intro Y3 hy3 hf3
  have HR2b := zh (hf3.kept ((zu G).kept (zu HB2)) (by omega))
  clear hHeld
  refine hK.out _ _ ⟨hf3.kept ((zu G).kept (zu HBL)) (by omega), hf3.kept ((zu G).kept (zu HBX)) (by omega)⟩ (fun hHeld => ?_)
  clear hK K
  refine rdy 15 (by kernel_rfl) rfl (fun K hK => ?_)
  refine ze 46 _ _ rfl rfl (w.heap.size + 1) rfl _ _ #[.slice p2a m2 p2c, .int .i64 R2, .int .i64 C2] rfl (zu HR2b) infoB rfl (by simp [Value.oneCell']) ?_
  intro Y4 hy4 hf4
  refine hK.out _ _ ⟨hf4.kept hHeld.1 (by omega), hf4.kept hHeld.2 (by omega)⟩ (fun hHeld => ?_)
  clear hK K
  refine wpAnyH_done (by kernel_rfl) ?_ _
  have hy3b := hf4.kept hy3 (by omega)
  go_wp2
  have y0 := zg hy3b 0 _ rfl
  have y1 := zg hy3b 1 _ rfl
  have y2 := zg hy3b 2 _ rfl
  have y3 := zg hy4 0 _ rfl
  have y4 := zg hy4 1 _ rfl
  have y5 := zg hy4 2 _ rfl
  have o1 := ((zu HO1).fr hf3 (fun q hq e9 => by have := ((zu HO1).lt q hq).1; omega)).fr hf4 (fun q hq e9 => by have := ((zu HO1).lt q hq).1; omega)
  have o2 := ((zu HO2).fr hf3 (fun q hq e9 => by have := ((zu HO2).lt q hq).1; omega)).fr hf4 (fun q hq e9 => by have := ((zu HO2).lt q hq).1; omega)
  exact bodyPost_ret (v := .tuple #[.int .i64 cn, .int .i64 rn, .agg #[.slice p1a m1 p1c, .int .i64 R1, .int .i64 C1], .agg #[.slice p2a m2 p2c, .int .i64 R2, .int .i64 C2]]) (by simp [results, Tryz.results22, go_sem, y0, y1, y2, y3, y4, y5]) rfl ⟨⟨cn, rn, m1, m2, _, _, tx, ty, f, g, R1, C1, R2, C2, rfl, by omega, by omega, by omega, by omega, zu HT1, zu HT2, o1.reads, o2.reads⟩, hf4.ext (hf3.ext ((zu HE).trans (zu G)) (fun q hq => by omega)) (fun q hq => by omega)⟩
 ·have q3 : ((x : Int) % 4 == 3) = false := by rw [beq_eq_false_iff_ne]; omega
  go_upto_region 10 with fail
  rw [← zu HV7]
  clear HV7 HR
  go_upto_region 10 with fail
  refine wp_region_held_drew (S := fun W => W.heap[w6.heap.size]? = some (.cells #[.string a, .string b, .string c, .slice ua un.length uc] 99 (0, 0)) ∧ W.heap[w7.heap.size]? = some (.cells #[.string na, .string nb, .string nc, .slice va9 nun.length vc9] 99 (0, 0))) (by kernel_rfl) ⟨zu HBL, zu HBN⟩ (fun hHeld => ?_)
  refine tk 0 ?_ rfl (by kernel_rfl) (fun _ _ _ h => h) (by rfl) ?_ (by assumption) ?_
  rotate_left
  ·intro w' hSw; go_simp <;> with_reducible rfl
  simp only [Act.put, qA, qB, qC, qD, qE, qF]
  refine tk 1 ?_ rfl (by kernel_rfl) (fun _ _ _ h => h) (by rfl) ?_ (by assumption) ?_
  rotate_left
  ·intro w' hSw; go_simp <;> with_reducible rfl
  simp only [Act.put, qA, qB, qC, qD, qE, qF]
  refine tk 2 ?_ rfl (by kernel_rfl) (fun _ _ _ h => h) (by rfl) ?_ (by assumption) ?_
  rotate_left
  ·intro w' hSw; go_simp <;> with_reducible rfl
  simp only [Act.put, qA, qB, qC, qD, qE, qF]
  refine tk 3 (.agg #[.string a, .string b, .string c, .slice ua un.length uc]) rfl (by kernel_rfl) (fun _ _ _ h => h) (by rfl) ?_ (by assumption) ?_
  ·intro w' hSw; exact zad 99 _ rfl (w6.heap.size) rfl _ _ _ _ hSw.1 Tryz.underlying99 rfl infoL
  simp only [Act.put, qA, qB, qC, qD, qE, qF]
  refine tk 4 ?_ rfl (by kernel_rfl) (fun _ _ _ h => h) (by rfl) ?_ (by assumption) ?_
  rotate_left
  ·intro w' hSw; go_simp <;> with_reducible rfl
  simp only [Act.put, qA, qB, qC, qD, qE, qF]
  refine tk 5 ?_ rfl (by kernel_rfl) (fun _ _ _ h => h) (by rfl) ?_ (by assumption) ?_
  rotate_left
  ·intro w' hSw; go_simp <;> with_reducible rfl
  simp only [Act.put, qA, qB, qC, qD, qE, qF]
  refine tk 7 ?_ rfl (by kernel_rfl) (fun _ _ _ h => h) (by rfl) ?_ (by assumption) ?_
  rotate_left
  ·intro w' hSw; go_simp <;> with_reducible rfl
  simp only [Act.put, qA, qB, qC, qD, qE, qF]
  refine tk 8 (.agg #[.string na, .string nb, .string nc, .slice va9 nun.length vc9]) rfl (by kernel_rfl) (fun _ _ _ h => h) (by rfl) ?_ (by assumption) ?_
  ·intro w' hSw; exact zad 99 _ rfl (w7.heap.size) rfl _ _ _ _ hSw.2 Tryz.underlying99 rfl infoL
  simp only [Act.put, qA, qB, qC, qD, qE, qF]
  refine tk 9 ?_ rfl (by kernel_rfl) (fun _ _ _ h => h) (by rfl) ?_ (by assumption) ?_
  rotate_left
  ·intro w' hSw; go_simp <;> with_reducible rfl
  simp only [Act.put, qA, qB, qC, qD, qE, qF]
  refine tk 10 ?_ rfl (by kernel_rfl) (fun _ _ _ h => h) (by rfl) ?_ (by assumption) ?_
  rotate_left
  ·intro w' hSw; go_simp <;> with_reducible rfl
  simp only [Act.put, qA, qB, qC, qD, qE, qF]
  have G := zh ((Ext.refl V7).drew)
  generalize V7.drew = Y0 at *
  refine rdy 6 (by kernel_rfl) rfl (fun K hK => ?_)
  go_simp
  refine (zdI t0 a b c ua un.length uc cn rn Y0 (by omega) (by omega) (by omega) (by omega) ht0 (zu HS).1).mono ?_
  rintro e Y1 ⟨p1, m1, tx, f, R1, C1, rfl, fit1, ow1, f9⟩
  obtain ⟨p1a, p1c, rfl⟩ := ow1.slice
  have HO1 := zh ow1
  have HT1 := zh fit1
  have yG := (zu G).size
  replace G := Hid.ht G f9
  clear f9 ow1 fit1 hHeld
  refine hK.out _ _ ⟨(zu G).kept (zu HBL), (zu G).kept (zu HBN)⟩ (fun hHeld => ?_)
  clear hK K
  refine rdy 11 (by kernel_rfl) rfl (fun K hK => ?_)
  go_simp
  refine (zdI t0 na nb nc va9 nun.length vc9 cn rn Y1 (by omega) (by omega) (by omega) (by omega) ht0 (zu HSn).1).mono ?_
  rintro e Y2 ⟨p2, m2, ty, g, R2, C2, rfl, fit2, ow2, f9⟩
  obtain ⟨p2a, p2c, rfl⟩ := ow2.slice
  replace HO1 := zh ((zu HO1).ext f9)
  have HO2 := zh ow2
  have HT2 := zh fit2
  have yG1 := (zu G).size
  replace G := Hid.ht G f9
  clear f9 ow2 fit2 hHeld
  refine hK.out _ _ ⟨(zu G).kept (zu HBL), (zu G).kept (zu HBN)⟩ (fun hHeld => ?_)
  clear hK K
  refine tk 12 ?_ rfl (by kernel_rfl) (fun _ _ _ h => h) (by rfl) ?_ (by assumption) ?_
  rotate_left
  ·intro w' hSw; go_simp <;> with_reducible rfl
  simp only [Act.put, qA, qB, qC, qD, qE, qF]
  refine tk 13 ?_ rfl (by kernel_rfl) (fun _ _ _ h => h) (by rfl) ?_ (by assumption) ?_
  rotate_left
  ·intro w' hSw; go_simp <;> with_reducible rfl
  simp only [Act.put, qA, qB, qC, qD, qE, qF]
  refine rdy 14 (by kernel_rfl) rfl (fun K hK => ?_)
  refine ze 46 _ _ rfl rfl (w.heap.size) rfl _ _ #[.slice p1a m1 p1c, .int .i64 R1, .int .i64 C1] rfl ((zu G).kept (zu HB1)) infoB rfl (by simp [Value.oneCell']) ?_
  intro Y3 hy3 hf3
  have HR2b := zh (hf3.kept ((zu G).kept (zu HB2)) (by omega))
  clear hHeld
  refine hK.out _ _ ⟨hf3.kept ((zu G).kept (zu HBL)) (by omega), hf3.kept ((zu G).kept (zu HBN)) (by omega)⟩ (fun hHeld => ?_)
  clear hK K
  refine rdy 15 (by kernel_rfl) rfl (fun K hK => ?_)
  refine ze 46 _ _ rfl rfl (w.heap.size + 1) rfl _ _ #[.slice p2a m2 p2c, .int .i64 R2, .int .i64 C2] rfl (zu HR2b) infoB rfl (by simp [Value.oneCell']) ?_
  intro Y4 hy4 hf4
  refine hK.out _ _ ⟨hf4.kept hHeld.1 (by omega), hf4.kept hHeld.2 (by omega)⟩ (fun hHeld => ?_)
  clear hK K
  refine wpAnyH_done (by kernel_rfl) ?_ _
  have hy3b := hf4.kept hy3 (by omega)
  go_wp2
  have y0 := zg hy3b 0 _ rfl
  have y1 := zg hy3b 1 _ rfl
  have y2 := zg hy3b 2 _ rfl
  have y3 := zg hy4 0 _ rfl
  have y4 := zg hy4 1 _ rfl
  have y5 := zg hy4 2 _ rfl
  have o1 := ((zu HO1).fr hf3 (fun q hq e9 => by have := ((zu HO1).lt q hq).1; omega)).fr hf4 (fun q hq e9 => by have := ((zu HO1).lt q hq).1; omega)
  have o2 := ((zu HO2).fr hf3 (fun q hq e9 => by have := ((zu HO2).lt q hq).1; omega)).fr hf4 (fun q hq e9 => by have := ((zu HO2).lt q hq).1; omega)
  exact bodyPost_ret (v := .tuple #[.int .i64 cn, .int .i64 rn, .agg #[.slice p1a m1 p1c, .int .i64 R1, .int .i64 C1], .agg #[.slice p2a m2 p2c, .int .i64 R2, .int .i64 C2]]) (by simp [results, Tryz.results22, go_sem, y0, y1, y2, y3, y4, y5]) rfl ⟨⟨cn, rn, m1, m2, _, _, tx, ty, f, g, R1, C1, R2, C2, rfl, by omega, by omega, by omega, by omega, zu HT1, zu HT2, o1.reads, o2.reads⟩, hf4.ext (hf3.ext ((zu HE).trans (zu G)) (fun q hq => by omega)) (fun q hq => by omega)⟩
structure zjQ (d : SD) (n : Nat) (ty : Nat → ByteArray) (row col : Int) : Prop where
 num : zfL d = n
 txt : ∀ j, j < n → zdt d j = ty j
 row : (d.nb : Int) + d.row = row
 col : d.col = col
 late : d.late = false
 hold : d.hold = []
theorem Shn.shows {d : SD} {up B : Nat → ByteArray} {n m r : Nat} {c : Int} (h : Shn d up n B m r c) (hr : r < m) : zjQ d (n + zbz B r m + 1) (fun k => if k < n then up k else B (k - n)) ((n : Int) + (r : Int)) c := by
 have h1 := zd6 (B := B) hr m (Nat.le_refl _)
 have hrw := h.ok.row
 have hrow := h.row
 unfold zbI at hrow
 exact ⟨h.lines hr, fun j hj => h.text (by omega), by omega, h.col, h.late, h.hold⟩
theorem zbr.le {d : SD} {M N M' N' : Nat} (h : zbr d M N) (h1 : M ≤ M') (h2 : N ≤ N') : zbr d M' N' := ⟨h.ok, h.by', h.wt.mono h1, Nat.le_trans h.nb h2⟩
def Md (d : SD) : Prop := zbr d 400000 200000
theorem zeA (n1 : Nat) (r1 c1 : Int) (n2 : Nat) (ty : Nat → ByteArray) (r2 c2 : Int) (same : Bool) : zv (zaV n1 r1 c1 n2 ty r2 c2 same) := by
 have h0 : zv [] := fun n hn => by simp at hn
 unfold zaV
 split
 ·split
  ·refine (zcz _ _ (by omega) (by omega)).app ((zcz _ _ (by omega) (by omega)).app ?_)
   split
   ·exact h0
   ·exact zcz _ _ (by omega) (by omega)
  ·exact (zdJ _ _ _).app (zb8 _ _ _ _)
 ·exact h0
structure DrawnP (N : Nat) (d1 d2 d3 d4 d5 : SD) (n1 : Nat) (tx : Nat → ByteArray) (r1 c1 r2 c2 : Int) : Prop where
 md1 : Md d1
 md2 : Md d2
 md3 : Md d3
 md4 : Md d4
 md5 : Md d5
 lin : zfL d1 = N + 1
 s2 : zjQ d2 (N + zbz (fun i => zaR (tx i)) r1.toNat n1 + 1) (fun k => if k < N then zdt d1 k else zaR (tx (k - N))) ((N : Int) + r1) c1
 s3 : zjQ d3 (N + 1) (zdt d1) (N : Int) 0
 s4 : zjQ d4 (zfL d5) (zdt d5) ((N : Int) + r2) c2
 five : zfL d5 ≤ 1000
theorem zjr {c r : Nat} (h1 : 2 ≤ c) (h2 : c ≤ 13) (h3 : 1 ≤ r) (h4 : r ≤ 5) (bs : List Int) {n1 n2 : Nat} {tx ty : Nat → ByteArray} {f g : Nat → List Int} {r1 c1 r2 c2 : Int} (A : zc6 c r n1 tx f r1 c1) (B : zc6 c r n2 ty g r2 c2) (same : Bool) (hs : same = true ↔ zeV n1 n2 tx ty) :
  DrawnP (zda bs) ((zap c r).feed zp (rab bs (zda bs)).1) (((zap c r).feed zp (rab bs (zda bs)).1).feed zp (zaM n1 tx r1 c1)) ((((zap c r).feed zp (rab bs (zda bs)).1).feed zp (zaM n1 tx r1 c1)).feed zp (zaN n1 r1 c1)) ((((zap c r).feed zp (rab bs (zda bs)).1).feed zp (zaM n1 tx r1 c1)).feed zp (zaV n1 r1 c1 n2 ty r2 c2 same)) (((zap c r).feed zp (rab bs (zda bs)).1).feed zp (zaM n2 ty r2 c2)) n1 tx r1 c1 r2 c2 := by
 have hN : zda bs < 7 := Nat.mod_lt _ (by decide)
 have m0 := zeY (c := c) (r := r) h1 (by omega) h3 (by omega)
 have l0 := zgh bs (zda bs)
 have m1 := m0.feedL (by omega) _ (zfT bs (zda bs)) 30 (by omega)
 obtain ⟨F1, e1, e2⟩ := zh8 h1 (by omega : c ≤ 200) h3 (by omega : r ≤ 100) bs (zda bs)
 obtain ⟨d1, hd1⟩ : ∃ d1, d1 = (zap c r).feed zp (rab bs (zda bs)).1 := ⟨_, rfl⟩
 obtain ⟨N, hNN⟩ : ∃ N, N = zda bs := ⟨_, rfl⟩
 rw [← hNN] at hN F1 m1 e1 e2 l0 hd1 ⊢
 rw [← hd1] at F1 m1 e1 e2 ⊢
 have A1 := A.slen
 have B1 := B.slen
 have A2 := A.le
 have B2 := B.le
 have bA := A.ok
 have bB := B.ok
 unfold bOk at bA bB
 have la := zcG n1 tx r1 c1 (by omega)
 have lb := zcG n2 ty r2 c2 (by omega)
 have le := zdr n1 r1 c1 (by omega)
 have lr := zf4 n1 r1 c1 n2 ty r2 c2 same (by omega) (by omega)
 have m2 := m1.feedL (by omega) _ (zb8 n1 tx r1 c1) 31000 (by omega)
 have m5 := m1.feedL (by omega) _ (zb8 n2 ty r2 c2) 31000 (by omega)
 have m3 := m2.feedL (by omega) _ (zdJ n1 r1 c1) 31000 (by omega)
 have m4 := m2.feedL (by omega) _ (zeA n1 r1 c1 n2 ty r2 c2 same) 31000 (by omega)
 obtain ⟨S2, f1, f2⟩ := zfQ F1 tx f (by rw [e2]; omega) (by rw [e1]; exact A.row) A.ok (by rw [e1]; exact A.col)
 obtain ⟨S5, g1, g2⟩ := zfQ F1 ty g (by rw [e2]; omega) (by rw [e1]; exact B.row) B.ok (by rw [e1]; exact B.col)
 obtain ⟨F3, _, _⟩ := zf0 S2 A.ok
 have S4 := zlo S2 A.ok ty g same (fun h => by have := hs.1 h; exact ⟨this.1.symm, fun i hi => by show zaR (tx i) = _; rw [this.2 i hi]⟩) (by rw [f2, e2]; omega) (by rw [f1, e1]; exact B.row) B.ok (by rw [f1, e1]; exact B.col)
 have s1 := F1.shn.shows (by omega)
 have s3 := F3.shn.shows (by omega)
 have s2 := S2.shows (by omega)
 have s4 := S4.shows (by omega)
 have s5 := S5.shows (by omega)
 have z1 : zbz (fun _ => bz) 0 1 = 0 := by rw [zbz]; split <;> rfl
 rw [z1] at s1 s3
 have hl := zd6 (B := fun i => zaR (ty i)) (r := r2.toNat) (m := n2) (by omega) n2 (Nat.le_refl _)
 refine ⟨m1.le (by omega) (by omega), m2.le (by omega) (by omega), m3.le (by omega) (by omega), m4.le (by omega) (by omega), m5.le (by omega) (by omega), s1.num, ⟨s2.num, fun j hj => ?_, by rw [s2.row]; omega, s2.col, s2.late, s2.hold⟩, ⟨s3.num, fun j hj => ?_, by rw [s3.row]; omega, s3.col, s3.late, s3.hold⟩, ⟨by rw [s4.num, s5.num], fun j hj => ?_, by rw [s4.row]; omega, s4.col, s4.late, s4.hold⟩, by rw [s5.num]; omega⟩
 ·rw [s2.txt j hj]
  by_cases hj2 : j < N
  ·rw [if_pos hj2, if_pos hj2, s1.txt j (by omega), if_pos hj2]
  ·rw [if_neg hj2, if_neg hj2]
 ·rw [s3.txt j (by omega), s1.txt j (by omega)]
 ·rw [s5.num] at hj
  rw [s4.txt j hj, s5.txt j hj]
def zex (w : World) (d : SD) (cs : Array Value) : Prop := ∃ gv hv bv, zbT d gv hv bv = .agg cs ∧ zbY w d gv hv bv
theorem zex.ext {w w' : World} {d : SD} {cs : Array Value} (h : zex w d cs) (E : Ext w w') : zex w' d cs := by
 obtain ⟨g, b, k, e, h⟩ := h
 exact ⟨g, b, k, e, h.ext E⟩
theorem zex.cells {w : World} {d : SD} {cs : Array Value} (h : zex w d cs) : cs.size = 8 ∧ cs.all (·.oneCell') = true := by
 obtain ⟨gv, hv, bv, e, h⟩ := h
 obtain ⟨ga, gc, ha, hc, ba, bc, rfl, rfl, rfl⟩ := h.forms
 unfold zbT at e
 obtain rfl := Value.agg.inj e
 exact ⟨rfl, by simp [Value.oneCell']⟩
theorem Md.feedB {d : SD} (h : Md d) {ys : List Int} (hb : zv ys) (hl : ys.length ≤ 40000) {w : World} (hT : zdd w) (W : World) (cs : Array Value) (yv : Value) (hW : Ext w W) (hat : zex W d cs) (hy : zx W .u8 yv ys) :
  Calls Tryz.prog 8 #[.agg cs, yv] W fun e w' => ∃ cs', e = .returned (.agg cs') ∧ (∀ W', Fr (fun q => q < W.heap.size) w' W' → zex W' (d.feed zp ys) cs') ∧ Ext W w' := by
 obtain ⟨gv, hv, bv, e, hat⟩ := hat
 rw [← e]
 have hh := h.ok.hold
 refine (zi0 d gv hv bv yv ys W hat (h.fits (by omega)) hy h.ok h.by' hb (h.roomL (by omega) (by omega) (by omega) _ (by omega)) (by omega) (hT.ext hW)).mono ?_
 rintro e w' ⟨g, rv, h, b, rfl, o, F⟩
 exact ⟨_, rfl, fun W' hW' => ⟨_, _, _, rfl, (o.toS.fr hW' (fun q hq e => by have := (o.toS.foot hq).1; omega)).reads⟩, F⟩
theorem Md.linesB {d : SD} (h : Md d) (W : World) (cs : Array Value) (hat : zex W d cs) :
  Calls Tryz.prog 25 #[.agg cs] W fun e w' => ∃ a c, e = .returned (.slice a (zfL d) c) ∧ zam w' (.slice a (zfL d) c) (zfL d) (fun j => .string (zdt d j)) ∧ Ext W w' := by
 obtain ⟨gv, hv, bv, e, hat⟩ := hat
 rw [← e]
 refine (zeD d gv hv bv true (by simp [h.ok]) W hat (h.fits (by omega)) (h.texts (by omega))).mono ?_
 rintro e w' ⟨v, rfl, o, F⟩
 rw [if_pos rfl] at o
 obtain ⟨a, c, rfl⟩ := o.slice
 exact ⟨a, c, rfl, o.reads, F⟩
theorem Md.showsB {d : SD} (h : Md d) {n : Nat} {ty : Nat → ByteArray} {row col : Int} (hs : zjQ d n ty row col) (hn : n ≤ 1048576) (W : World) (cs : Array Value) (rv : Value) (hat : zex W d cs) (hr : zam W rv n (fun j => .string (ty j))) :
  Calls Tryz.prog 29 #[.agg cs, rv, .int .i64 row, .int .i64 col] W fun e w' => e = .returned (.bool true) ∧ Ext W w' := by
 obtain ⟨gv, hv, bv, e, hat⟩ := hat
 rw [← e]
 exact zjt d gv hv bv rv n ty row col W hat hr h.ok (h.fits (by omega)) (h.texts (by omega)) hn hs.num hs.txt hs.row hs.col hs.late hs.hold
theorem blankB {c r : Nat} (W : World) (h : zbN c r = true) (hc : c ≤ 200) (hr : r ≤ 100) :
  Calls Tryz.prog 23 #[.int .i64 c, .int .i64 r] W fun e w' => ∃ cs, e = .returned (.tuple #[.agg cs, .bool true]) ∧ zex w' (zap c r) cs ∧ Ext W w' := by
 refine (zeX c r W h hc hr).mono ?_
 rintro e w' ⟨rfl, ⟨rv, o⟩, F⟩
 exact ⟨_, rfl, ⟨_, _, _, rfl, o.reads⟩, F⟩
theorem zhE (ca ma : Option Addr) (cn cc mn mc : Nat) (w : World) (h : ¬ cn ≤ 1048576 ∨ ¬ mn ≤ 1048576) :
  Calls Tryz.prog 5 #[.slice ca cn cc, .slice ma mn mc] w fun e w' => e = .returned (.bool true) ∧ Below w.heap.size w w' := by
 by_cases h1 : cn ≤ 1048576
 ·have b1 : ¬ (1048576 : Int) < (cn : Int) := by omega
  have b2 : (1048576 : Int) < (mn : Int) := by omega
  go_enter Tryz.func5, Tryz.ntmps5
  go_wp2
  go_ret
  exact ⟨rfl, (Ext.refl w).below⟩
 ·have b1 : (1048576 : Int) < (cn : Int) := by omega
  go_enter Tryz.func5, Tryz.ntmps5
  go_wp2
  go_ret
  exact ⟨rfl, (Ext.refl w).below⟩
theorem zep {w' : World} {base : Nat} {T : TypeId} {u : Value} {zs : List Int} (h : w'.ownsRow base T 1 u zs.length (zs.map (Value.int .u8))) : ∃ a k, u = .slice a zs.length k ∧ zx w' .u8 (.slice a zs.length k) zs := by
 have h1 := zz h
 obtain ⟨a, k, rfl, h2⟩ := id h1
 exact ⟨a, k, rfl, h1⟩
theorem zjf (cv mv : Value) (xs ms : List Int) (w : World) (hc : zx w .u8 cv xs) (hm : zx w .u8 mv ms) (hX : zv xs) (hM : zv ms) (hT : zdd w) (hlo : 3 < w.heap.size) (hP : zdK w) :
  Calls Tryz.prog 5 #[cv, mv] w fun e w' => e = .returned (.bool true) ∧ Below w.heap.size w w' := by
 by_cases hl : xs.length ≤ 1048576 ∧ ms.length ≤ 1048576
 ·obtain ⟨hl1, hl2⟩ := hl
  have HC := hc
  obtain ⟨ca, cc, rfl, _, _⟩ := hc
  have HM := hm
  obtain ⟨ma, mc, rfl, _, _⟩ := hm
  refine zkQ ca ma xs.length cc ms.length mc w hl1 hl2 ?_
  refine (zhU _ xs w HC hX hl1).mono ?_
  rintro e w1 ⟨⟨c, r, n1, n2, v1, v2, tx, ty, f, g, r1, c1, r2, c2, rfl, q1, q2, q3, q4, A, B, ha, hb⟩, E1⟩
  obtain ⟨same, hs⟩ : ∃ b : Bool, b = true ↔ zeV n1 n2 tx ty := by
   by_cases h : zeV n1 n2 tx ty
   ·exact ⟨true, by simp [h]⟩
   ·exact ⟨false, by simp [h]⟩
  have D := zjr q1 q2 q3 q4 (ms.take 1000) A B same hs
  have hN : zda (ms.take 1000) < 7 := Nat.mod_lt _ (by decide)
  have l0 := zgh (ms.take 1000) (zda (ms.take 1000))
  have hcnt := zig (ms.take 1000) (zda (ms.take 1000))
  have m0 : Md (zap c r) := (zeY (c := c) (r := r) q1 (by omega) q3 (by omega)).le (by omega) (by omega)
  have hb0 := zfT (ms.take 1000) (zda (ms.take 1000))
  have hba := fun W (hW : Ext w W) => zi4 _ ms W (HM.ext hW) hM (by omega)
  generalize hz1 : (rab (ms.take 1000) (zda (ms.take 1000))).1 = z1 at *
  generalize hNN : zda (ms.take 1000) = N at *
  have A1 := A.slen
  have B1 := B.slen
  have A2 := A.le
  have B2 := B.le
  have bA := A.ok
  have bB := B.ok
  unfold bOk at bA bB
  have la := zcG n1 tx r1 c1 (by omega)
  have lb := zcG n2 ty r2 c2 (by omega)
  have le := zdr n1 r1 c1 (by omega)
  have lr := zf4 n1 r1 c1 n2 ty r2 c2 same (by omega) (by omega)
  obtain ⟨d1, hd1⟩ : ∃ d, d = (zap c r).feed zp z1 := ⟨_, rfl⟩
  obtain ⟨d2, hd2⟩ : ∃ d, d = d1.feed zp (zaM n1 tx r1 c1) := ⟨_, rfl⟩
  obtain ⟨d3, hd3⟩ : ∃ d, d = d2.feed zp (zaN n1 r1 c1) := ⟨_, rfl⟩
  obtain ⟨d4, hd4⟩ : ∃ d, d = d2.feed zp (zaV n1 r1 c1 n2 ty r2 c2 same) := ⟨_, rfl⟩
  obtain ⟨d5, hd5⟩ : ∃ d, d = d1.feed zp (zaM n2 ty r2 c2) := ⟨_, rfl⟩
  rw [← hd1, ← hd2, ← hd3, ← hd4, ← hd5] at D
  obtain ⟨a1, k1, e1, _, _⟩ := id ha
  obtain ⟨a2, k2, e2, _, _⟩ := id hb
  subst e1
  subst e2
  have lo2 : ∀ W, Ext w W → 3 < W.heap.size := fun W hW => Nat.lt_of_lt_of_le hlo hW.size
  have pw2 : ∀ W, Ext w W → zdK W := fun W hW => hP.keep (hW.heap hlo)
  refine ⟨c, r, n1, n2, N, zb0 z1, a1, a2, k1, k2, tx, ty, r1, c1, r2, c2, z1, zaM n1 tx r1 c1, zaN n1 r1 c1, zaV n1 r1 c1 n2 ty r2 c2 same, zaM n2 ty r2 c2, zdt d1, zdt d5, zfL d5, fun i W cs => zex W (match i with | 0 => zap c r | 1 => d1 | 2 => d2 | 3 => d3 | 4 => d4 | _ => d5) cs, fun i w w' cs h E => h.ext E, fun i w cs h => h.cells, rfl, ha, hb, ⟨?_, ?_, ?_, by omega, ⟨by omega, by omega, by omega⟩, ⟨by omega, by omega, by omega, by omega⟩, ?_, ?_, ?_, ?_, ?_, ?_, ?_, ?_, ?_, ?_, ?_⟩, E1⟩
  ·intro W
   exact blankB W (by unfold zbN; simp; omega) (by omega) (by omega)
  ·intro W hW
   refine (hba W hW).mono ?_
   rintro e w' ⟨v', rfl, hv, F⟩
   obtain ⟨a, k, rfl, h2⟩ := id hv
   exact ⟨a, k, rfl, hv, F⟩
  ·intro W v hv
   exact zjn v z1 W hv (by omega)
  ·rintro i j z (⟨rfl, rfl, rfl⟩ | ⟨rfl, rfl, rfl⟩ | ⟨rfl, rfl, rfl⟩ | ⟨rfl, rfl, rfl⟩ | ⟨rfl, rfl, rfl⟩) W cs yv hW hat hy
   ·show Calls _ _ _ _ (fun e w' => ∃ cs', e = .returned (.agg cs') ∧ (∀ W', Fr (fun q => q < W.heap.size) w' W' → zex W' d1 cs') ∧ Ext W w')
    rw [hd1]
    exact m0.feedB hb0 (by omega) hT W cs yv hW hat hy
   ·show Calls _ _ _ _ (fun e w' => ∃ cs', e = .returned (.agg cs') ∧ (∀ W', Fr (fun q => q < W.heap.size) w' W' → zex W' d2 cs') ∧ Ext W w')
    rw [hd2]
    exact D.md1.feedB (zb8 _ _ _ _) (by omega) hT W cs yv hW hat hy
   ·show Calls _ _ _ _ (fun e w' => ∃ cs', e = .returned (.agg cs') ∧ (∀ W', Fr (fun q => q < W.heap.size) w' W' → zex W' d3 cs') ∧ Ext W w')
    rw [hd3]
    exact D.md2.feedB (zdJ _ _ _) (by omega) hT W cs yv hW hat hy
   ·show Calls _ _ _ _ (fun e w' => ∃ cs', e = .returned (.agg cs') ∧ (∀ W', Fr (fun q => q < W.heap.size) w' W' → zex W' d4 cs') ∧ Ext W w')
    rw [hd4]
    exact D.md2.feedB (zeA _ _ _ _ _ _ _ _) (by omega) hT W cs yv hW hat hy
   ·show Calls _ _ _ _ (fun e w' => ∃ cs', e = .returned (.agg cs') ∧ (∀ W', Fr (fun q => q < W.heap.size) w' W' → zex W' d5 cs') ∧ Ext W w')
    rw [hd5]
    exact D.md1.feedB (zb8 _ _ _ _) (by omega) hT W cs yv hW hat hy
  ·intro W cs hat
   have h := D.md1.linesB W cs hat
   rw [D.lin] at h
   exact h
  ·intro W cs hat
   exact D.md5.linesB W cs hat
  ·intro W v hW hv
   refine (zez v r1 c1 n1 tx W hv (by omega) (by omega) (lo2 W hW) (pw2 W hW)).mono ?_
   rintro e w' ⟨u, rfl, o, F⟩
   obtain ⟨a, k, rfl, h2⟩ := zep o
   exact ⟨a, k, rfl, h2, F⟩
  ·intro W v hW hv
   refine (zhB v r1 c1 n1 tx W hv (by omega) (lo2 W hW) (pw2 W hW)).mono ?_
   rintro e w' ⟨u, rfl, o, F⟩
   obtain ⟨a, k, rfl, h2⟩ := zep o
   exact ⟨a, k, rfl, h2, F⟩
  ·intro W v u hW hv hu
   refine (zgU v u r1 c1 r2 c2 n1 n2 tx ty same hs W hv hu (by omega) (by omega) (by omega) (lo2 W hW) (pw2 W hW)).mono ?_
   rintro e w' ⟨u, rfl, o, F⟩
   obtain ⟨a, k, rfl, h2⟩ := zep o
   exact ⟨a, k, rfl, h2, F⟩
  ·intro W v hW hv
   refine (zez v r2 c2 n2 ty W hv (by omega) (by omega) (lo2 W hW) (pw2 W hW)).mono ?_
   rintro e w' ⟨u, rfl, o, F⟩
   obtain ⟨a, k, rfl, h2⟩ := zep o
   exact ⟨a, k, rfl, h2, F⟩
  ·intro W j hj
   exact Trim_is (tx j) W (by have := A.size hj; omega)
  ·intro W cs v hat hv
   exact D.md2.showsB D.s2 (by have := zd6 (B := fun i => zaR (tx i)) (r := r1.toNat) (m := n1) (by omega) n1 (Nat.le_refl _); omega) W cs v hat hv
  ·intro W cs v hat hv
   exact D.md3.showsB D.s3 (by omega) W cs v hat hv
  ·intro W cs v hat hv
   exact D.md4.showsB D.s4 (by have := D.five; omega) W cs v hat hv
 ·obtain ⟨ca, cc, rfl, _, _⟩ := hc
  obtain ⟨ma, mc, rfl, _, _⟩ := hm
  exact zhE _ _ _ _ _ _ w (by omega)
end Go.Proofs.YtinfdhbnljnifaaGreatDoor
