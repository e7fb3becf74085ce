import Derived.Test.YtmlkpdbfnffoaaaGreatDoorSesTo
import Derived.Test.YtmlkpdbfnffoaaaGreatDoorLineS2
import Derived.Test.YtmlkpdbfnffoaaaGreatDoorViewM
set_option maxHeartbeats 16000000
set_option maxRecDepth 10000
namespace Go.Proofs.YtmlkpdbfnffoaaaGreatDoor
open Go.RowKit
theorem zcQ (v : Value) (n : Nat) (tx : Nat → ByteArray) (w : World) (hv : zah w v n (fun j => .string (tx j))) (hn : n ≤ 1048576) :
  Calls Tryz.prog 50 #[v] w fun e w' => ∃ a c, e = .returned (.slice a n c) ∧ Hid (zaD w' w.heap.size 9 (.slice a n c) n (fun j => .string (tx j))) ∧ Ext w w' := by
 obtain ⟨ic, hic, hc0, hc1, hc2⟩ := info_parts zdn
 have HSR := zi (Src.strs (hv.ext ((Ext.refl w).alloc (.cells #[] 9))))
 have HO := zi (zcl w 9 1)
 obtain ⟨ao, ca, rfl, _, _⟩ := hv
 go_enter Tryz.func50, Tryz.ntmps50
 go_wp2_with (at_builtin; refine zcN.intro ?_)
 show wpList _ _ _ _ _ _
 refine zao rfl _ _ 28 rfl w.heap.size 9 ic (.string { data := #[] }) 1 16 Tryz.underlying28 hic hc0 hc1 hc2 rfl (by decide) _ 0 [] rfl (zg HO) _ n (zcw tx n) rfl (zg HSR) (by unfold maxLen; omega) (by omega) (by simp) ?_
 intro v2 w2 o2 G2 _
 have E2 : Ext w w2 := ((Ext.refl w).alloc _).grown G2 (fun q hq => by cases hq; exact Nat.le_refl _)
 rw [Nat.zero_add, List.nil_append] at o2
 obtain ⟨a2, c2, rfl⟩ := zaE o2
 have HO2 := zi (zcu o2)
 clear o2 G2
 go_wp2
 go_ret
 exact ⟨a2, c2, rfl, HO2, E2⟩
theorem zdK (s : SS) (u h p q l d : Value) (w : World) (hA : zbb w s u h p q l d) (hz : s.Sz) :
  Calls Tryz.prog 55 #[zaK s u h p q l d] w fun e w' => ∃ u h p q l d, e = .returned (zaK s u h p q l d) ∧ zax w' w.heap.size s u h p q l d ∧ Ext w w' := by
 obtain ⟨ua, uc, ha, hc, pa, pc, qa, qc, la, lc, da, dc, rfl, rfl, rfl, rfl, rfl, rfl⟩ := hA.forms
 obtain ⟨iu, hiu, hu0, hu1, hu2⟩ := info_parts zgL
 obtain ⟨ic, hic, hc0, hc1, hc2⟩ := info_parts zdn
 have hkl := hz.kh
 have hpl := hz.pn
 have hql := hz.qn
 have hll := hz.ln
 have hdl := hz.dn
 have hL := zi (fun W (hW : Ext w W) => zir s.la s.lb s.lc _ s.un s.ut s.uh W (hA.un.ext hW) hz.un)
 have hK := zi (fun W (hW : Ext w W) => Src.ints (hA.kh.ext hW))
 have hP := zi (fun W (hW : Ext w W) => Src.strs (hA.pa.ext hW))
 have hQ := zi (fun W (hW : Ext w W) => Src.strs (hA.qu.ext hW))
 have hO := zi (fun W (hW : Ext w W) => Src.strs (hA.lo.ext hW))
 have hD := zi (fun W (hW : Ext w W) => Src.strs (hA.dn.ext hW))
 clear hA hz
 have HA0 : Hid (((w.alloc (.cells (sC s (.slice ua s.un uc) (.slice ha s.kh.length hc) (.slice pa s.pn pc) (.slice qa s.qn qc) (.slice la s.ln lc) (.slice da s.dn dc)) 40)).alloc (.cells zS7 40)).heap[w.heap.size]? = some (.cells (sC s (.slice ua s.un uc) (.slice ha s.kh.length hc) (.slice pa s.pn pc) (.slice qa s.qn qc) (.slice la s.ln lc) (.slice da s.dn dc)) 40 (0, 0))) := zi (((Ext.refl _).alloc _).kept (zn w _))
 have HA2 : Hid ((((w.alloc (.cells (sC s (.slice ua s.un uc) (.slice ha s.kh.length hc) (.slice pa s.pn pc) (.slice qa s.qn qc) (.slice la s.ln lc) (.slice da s.dn dc)) 40)).alloc (.cells zS7 40)).alloc (.cells zS7 40)).heap[w.heap.size + 1 + 1]? = some (.cells zS7 40 (0, 0))) := zi (by have h := zn ((w.alloc (.cells (sC s (.slice ua s.un uc) (.slice ha s.kh.length hc) (.slice pa s.pn pc) (.slice qa s.qn qc) (.slice la s.ln lc) (.slice da s.dn dc)) 40)).alloc (.cells zS7 40)) (.cells zS7 40); rw [show ((w.alloc (.cells (sC s (.slice ua s.un uc) (.slice ha s.kh.length hc) (.slice pa s.pn pc) (.slice qa s.qn qc) (.slice la s.ln lc) (.slice da s.dn dc)) 40)).alloc (.cells zS7 40)).heap.size = w.heap.size + 1 + 1 by simp] at h; exact h)
 have HA1 : Hid ((((w.alloc (.cells (sC s (.slice ua s.un uc) (.slice ha s.kh.length hc) (.slice pa s.pn pc) (.slice qa s.qn qc) (.slice la s.ln lc) (.slice da s.dn dc)) 40)).alloc (.cells zS7 40)).alloc (.cells zS7 40)).heap[w.heap.size + 1]? = some (.cells zS7 40 (0, 0))) := zi (by refine ((Ext.refl _).alloc _).kept ?_; have h := zn (w.alloc (.cells (sC s (.slice ua s.un uc) (.slice ha s.kh.length hc) (.slice pa s.pn pc) (.slice qa s.qn qc) (.slice la s.ln lc) (.slice da s.dn dc)) 40)) (.cells zS7 40); rw [show (w.alloc (.cells (sC s (.slice ua s.un uc) (.slice ha s.kh.length hc) (.slice pa s.pn pc) (.slice qa s.qn qc) (.slice la s.ln lc) (.slice da s.dn dc)) 40)).heap.size = w.heap.size + 1 by simp] at h; exact h)
 have HAE : Hid (Ext w (((w.alloc (.cells (sC s (.slice ua s.un uc) (.slice ha s.kh.length hc) (.slice pa s.pn pc) (.slice qa s.qn qc) (.slice la s.ln lc) (.slice da s.dn dc)) 40)).alloc (.cells zS7 40)).alloc (.cells zS7 40))) := zi ((((Ext.refl w).alloc _).alloc _).alloc _)
 have HAs : Hid ((((w.alloc (.cells (sC s (.slice ua s.un uc) (.slice ha s.kh.length hc) (.slice pa s.pn pc) (.slice qa s.qn qc) (.slice la s.ln lc) (.slice da s.dn dc)) 40)).alloc (.cells zS7 40)).alloc (.cells zS7 40)).heap.size = w.heap.size + 1 + 1 + 1) := zi (by simp)
 unfold zaK
 go_enter Tryz.func55, Tryz.ntmps55
 go_wp2_with (first
  | (refine zm rfl 40 _ rfl (w.heap.size) rfl _ _ _ _ (zg HA0) Tryz.underlying40 rfl zap ?_)
  | (refine zy rfl 40 _ _ rfl rfl (w.heap.size + 1 + 1) rfl _ _ _ rfl (zg HA2) zap rfl (by simp [Value.oneCell']) ?_; intro U HB9 hU9; have k3 : U.cell? ⟨w.heap.size, 3, none⟩ = some (.string s.la) := zk (hU9.kept (((Ext.refl _).alloc _).kept (zg HA0)) (by omega)) 3 _ rfl; have k4 : U.cell? ⟨w.heap.size, 4, none⟩ = some (.string s.lb) := zk (hU9.kept (((Ext.refl _).alloc _).kept (zg HA0)) (by omega)) 4 _ rfl; have k5 : U.cell? ⟨w.heap.size, 5, none⟩ = some (.string s.lc) := zk (hU9.kept (((Ext.refl _).alloc _).kept (zg HA0)) (by omega)) 5 _ rfl; have k6 : U.cell? ⟨w.heap.size, 6, none⟩ = some (.slice ua s.un uc) := zk (hU9.kept (((Ext.refl _).alloc _).kept (zg HA0)) (by omega)) 6 _ rfl; have HU9 := zi hU9; have HB2 := zi HB9; clear hU9 HB9)
  | (at_builtin; refine zcN.intro ?_))
 have E0 : Ext w U := (zg HU9).ext (zg HAE) (fun q hq => by omega)
 have zU : w.heap.size + 1 + 1 + 1 ≤ U.heap.size := Nat.le_trans (Nat.le_of_eq (zg HAs).symm) (zg HU9).size
 have HB0 := zi ((zg HU9).kept (((Ext.refl _).alloc _).kept (zg HA0)) (by omega))
 have HB1 := zi ((zg HU9).kept (zg HA1) (by omega))
 have BB := zi zU
 clear HU9 HA0 HA1 HA2 HAE HAs k3 k4 k5 k6 zU
 refine ((zg hL) U E0).mono ?_
 rintro e w1 ⟨u1a, u1c, rfl, O1, F1⟩
 have E1 := E0.trans F1
 have T1 := zi F1.size
 have LT1 := zi (fun g hg => (zg O1).lt g hg)
 replace HB0 := F1.hk HB0
 replace HB1 := F1.hk HB1
 replace HB2 := F1.hk HB2
 clear F1
 have y1_3 := zk (zg HB2) 3 _ rfl
 have y1_4 := zk (zg HB2) 4 _ rfl
 have y1_5 := zk (zg HB2) 5 _ rfl
 have y1_6 := zk (zg HB2) 6 _ rfl
 have o1_7 := zk (zg HB0) 7 _ rfl
 have f1 : ∀ i, w1.frozen? ⟨w.heap.size + 1 + 1, i, none⟩ = false := fun i => Lib.frozen_of_heap (zg HB2) i
 have q1 : ¬ (w.heap.size = w.heap.size + 1 + 1) := by omega
 go_wp2_with (at_builtin; refine zcN.intro ?_)
 show wpList _ _ _ _ _ _
 clear y1_3 y1_4 y1_5 y1_6 o1_7 f1 q1
 refine (fun (X2 : World) (hX2 : X2 = _) => ?_ : ∀ X, X = _ → wpList _ _ _ _ _ X) _ rfl
 have FR2 : Fr (fun q => q = w.heap.size + 1 + 1) w1 X2 := by
  rw [hX2]
  repeat' first | refine Fr.setCell (S := fun q => q = w.heap.size + 1 + 1) ?_ (a := ⟨w.heap.size + 1 + 1, _, none⟩) rfl _ | exact Fr.refl _ _
 have EX2 : Ext w X2 := FR2.ext E1 (fun q hq => by omega)
 have HB2x : Hid (X2.heap[w.heap.size + 1 + 1]? = some (.cells (sC s (.slice u1a s.un u1c) (.slice ha s.kh.length hc) (.slice pa s.pn pc) (.slice qa s.qn qc) (.slice la s.ln lc) (.slice da s.dn dc)) 40 (0, 0))) := zi (by rw [hX2]; exact (zaF (i := 6) (v := .slice u1a s.un u1c) (zaF (i := 5) (v := .string s.lc) (zaF (i := 4) (v := .string s.lb) (zaF (i := 3) (v := .string s.la) (zg HB2))))))
 replace HB0 := zi (FR2.kept (zg HB0) (by omega))
 replace HB1 := zi (FR2.kept (zg HB1) (by omega))
 replace HB2 := HB2x
 clear HB2x hX2
 replace O1 := zi ((zg O1).fr FR2 (fun g hg e9 => by have z9 := ((zg O1).lt g hg).1; have s9 := zg BB; have t1 := zg T1; omega))
 have S2 := zi FR2.size
 refine zao rfl _ _ 25 rfl X2.heap.size 5 iu (.int .u8 0) 1 1 Tryz.underlying25 hiu hu0 hu1 hu2 rfl (by decide) _ 0 [] rfl (zbp _ _ _ _) _ s.kh.length (s.kh.map (Value.int .u8)) rfl ((zg hK) _ EX2) (by unfold maxLen; omega) (by omega) (Nat.le_refl _) ?_
 intro v9 w2 o9 G9 _
 have F2 : Ext X2 w2 := (Ext.refl X2).grown G9 (fun q hq => by cases hq)
 have E2 := EX2.trans F2
 rw [Nat.zero_add, List.nil_append] at o9
 obtain ⟨h2a, h2c, rfl⟩ := zaE o9
 have O2 := zi (o9)
 have T2 := zi F2.size
 have LT2 := zi (fun g hg => (zg O2).lt g hg)
 replace O1 := zi ((zg O1).ext F2)
 replace HB0 := F2.hk HB0
 replace HB1 := F2.hk HB1
 replace HB2 := F2.hk HB2
 clear o9 G9 FR2 EX2 F2
 have y2_7 := zk (zg HB2) 7 _ rfl
 have o2_10 := zk (zg HB0) 10 _ rfl
 have f2 : ∀ i, w2.frozen? ⟨w.heap.size + 1 + 1, i, none⟩ = false := fun i => Lib.frozen_of_heap (zg HB2) i
 have q2 : ¬ (w.heap.size = w.heap.size + 1 + 1) := by omega
 go_wp2_with (at_builtin; refine zcN.intro ?_)
 show wpList _ _ _ _ _ _
 clear y2_7 o2_10 f2 q2
 refine (fun (X3 : World) (hX3 : X3 = _) => ?_ : ∀ X, X = _ → wpList _ _ _ _ _ X) _ rfl
 have FR3 : Fr (fun q => q = w.heap.size + 1 + 1) w2 X3 := by
  rw [hX3]
  repeat' first | refine Fr.setCell (S := fun q => q = w.heap.size + 1 + 1) ?_ (a := ⟨w.heap.size + 1 + 1, _, none⟩) rfl _ | exact Fr.refl _ _
 have EX3 : Ext w X3 := FR3.ext E2 (fun q hq => by omega)
 have HB2x : Hid (X3.heap[w.heap.size + 1 + 1]? = some (.cells (sC s (.slice u1a s.un u1c) (.slice h2a s.kh.length h2c) (.slice pa s.pn pc) (.slice qa s.qn qc) (.slice la s.ln lc) (.slice da s.dn dc)) 40 (0, 0))) := zi (by rw [hX3]; exact (zaF (i := 7) (v := .slice h2a s.kh.length h2c) (zg HB2)))
 replace HB0 := zi (FR3.kept (zg HB0) (by omega))
 replace HB1 := zi (FR3.kept (zg HB1) (by omega))
 replace HB2 := HB2x
 clear HB2x hX3
 replace O1 := zi ((zg O1).fr FR3 (fun g hg e9 => by have z9 := ((zg O1).lt g hg).1; have s9 := zg BB; have t1 := zg T1; have t2 := zg T2; have s2 := zg S2; omega))
 replace O2 := zi (FR3.owns (zg O2) (fun g hg e9 => by have z9 := ((zg O2).lt g hg).1; have s9 := zg BB; have t1 := zg T1; have t2 := zg T2; have s2 := zg S2; omega))
 have S3 := zi FR3.size
 refine zao rfl _ _ 28 rfl X3.heap.size 9 ic (.string { data := #[] }) 1 16 Tryz.underlying28 hic hc0 hc1 hc2 rfl (by decide) _ 0 [] rfl (zbp _ _ _ _) _ s.pn (zcw s.pt s.pn) rfl ((zg hP) _ EX3) (by unfold maxLen; omega) (by omega) (Nat.le_refl _) ?_
 intro v9 w3 o9 G9 _
 have F3 : Ext X3 w3 := (Ext.refl X3).grown G9 (fun q hq => by cases hq)
 have E3 := EX3.trans F3
 rw [Nat.zero_add, List.nil_append] at o9
 obtain ⟨p3a, p3c, rfl⟩ := zaE o9
 have O3 := zi (zcu o9)
 have T3 := zi F3.size
 have LT3 := zi (fun g hg => (zg O3).lt g hg)
 replace O1 := zi ((zg O1).ext F3)
 replace O2 := zi (F3.owns (zg O2))
 replace HB0 := F3.hk HB0
 replace HB1 := F3.hk HB1
 replace HB2 := F3.hk HB2
 clear o9 G9 FR3 EX3 F3
 have y3_10 := zk (zg HB2) 10 _ rfl
 have o3_14 := zk (zg HB0) 14 _ rfl
 have f3 : ∀ i, w3.frozen? ⟨w.heap.size + 1 + 1, i, none⟩ = false := fun i => Lib.frozen_of_heap (zg HB2) i
 have q3 : ¬ (w.heap.size = w.heap.size + 1 + 1) := by omega
 go_wp2_with (at_builtin; refine zcN.intro ?_)
 show wpList _ _ _ _ _ _
 clear y3_10 o3_14 f3 q3
 refine (fun (X4 : World) (hX4 : X4 = _) => ?_ : ∀ X, X = _ → wpList _ _ _ _ _ X) _ rfl
 have FR4 : Fr (fun q => q = w.heap.size + 1 + 1) w3 X4 := by
  rw [hX4]
  repeat' first | refine Fr.setCell (S := fun q => q = w.heap.size + 1 + 1) ?_ (a := ⟨w.heap.size + 1 + 1, _, none⟩) rfl _ | exact Fr.refl _ _
 have EX4 : Ext w X4 := FR4.ext E3 (fun q hq => by omega)
 have HB2x : Hid (X4.heap[w.heap.size + 1 + 1]? = some (.cells (sC s (.slice u1a s.un u1c) (.slice h2a s.kh.length h2c) (.slice p3a s.pn p3c) (.slice qa s.qn qc) (.slice la s.ln lc) (.slice da s.dn dc)) 40 (0, 0))) := zi (by rw [hX4]; exact (zaF (i := 10) (v := .slice p3a s.pn p3c) (zg HB2)))
 replace HB0 := zi (FR4.kept (zg HB0) (by omega))
 replace HB1 := zi (FR4.kept (zg HB1) (by omega))
 replace HB2 := HB2x
 clear HB2x hX4
 replace O1 := zi ((zg O1).fr FR4 (fun g hg e9 => by have z9 := ((zg O1).lt g hg).1; have s9 := zg BB; have t1 := zg T1; have t2 := zg T2; have t3 := zg T3; have s2 := zg S2; have s3 := zg S3; omega))
 replace O2 := zi (FR4.owns (zg O2) (fun g hg e9 => by have z9 := ((zg O2).lt g hg).1; have s9 := zg BB; have t1 := zg T1; have t2 := zg T2; have t3 := zg T3; have s2 := zg S2; have s3 := zg S3; omega))
 replace O3 := zi ((zg O3).fr FR4 (fun g hg e9 => by have z9 := ((zg O3).lt g hg).1; have s9 := zg BB; have t1 := zg T1; have t2 := zg T2; have t3 := zg T3; have s2 := zg S2; have s3 := zg S3; omega))
 have S4 := zi FR4.size
 refine zao rfl _ _ 28 rfl X4.heap.size 9 ic (.string { data := #[] }) 1 16 Tryz.underlying28 hic hc0 hc1 hc2 rfl (by decide) _ 0 [] rfl (zbp _ _ _ _) _ s.qn (zcw s.qt s.qn) rfl ((zg hQ) _ EX4) (by unfold maxLen; omega) (by omega) (Nat.le_refl _) ?_
 intro v9 w4 o9 G9 _
 have F4 : Ext X4 w4 := (Ext.refl X4).grown G9 (fun q hq => by cases hq)
 have E4 := EX4.trans F4
 rw [Nat.zero_add, List.nil_append] at o9
 obtain ⟨q4a, q4c, rfl⟩ := zaE o9
 have O4 := zi (zcu o9)
 have T4 := zi F4.size
 have LT4 := zi (fun g hg => (zg O4).lt g hg)
 replace O1 := zi ((zg O1).ext F4)
 replace O2 := zi (F4.owns (zg O2))
 replace O3 := zi ((zg O3).ext F4)
 replace HB0 := F4.hk HB0
 replace HB1 := F4.hk HB1
 replace HB2 := F4.hk HB2
 clear o9 G9 FR4 EX4 F4
 have y4_14 := zk (zg HB2) 14 _ rfl
 have o4_15 := zk (zg HB0) 15 _ rfl
 have f4 : ∀ i, w4.frozen? ⟨w.heap.size + 1 + 1, i, none⟩ = false := fun i => Lib.frozen_of_heap (zg HB2) i
 have q4 : ¬ (w.heap.size = w.heap.size + 1 + 1) := by omega
 go_wp2_with (at_builtin; refine zcN.intro ?_)
 show wpList _ _ _ _ _ _
 clear y4_14 o4_15 f4 q4
 refine (fun (X5 : World) (hX5 : X5 = _) => ?_ : ∀ X, X = _ → wpList _ _ _ _ _ X) _ rfl
 have FR5 : Fr (fun q => q = w.heap.size + 1 + 1) w4 X5 := by
  rw [hX5]
  repeat' first | refine Fr.setCell (S := fun q => q = w.heap.size + 1 + 1) ?_ (a := ⟨w.heap.size + 1 + 1, _, none⟩) rfl _ | exact Fr.refl _ _
 have EX5 : Ext w X5 := FR5.ext E4 (fun q hq => by omega)
 have HB2x : Hid (X5.heap[w.heap.size + 1 + 1]? = some (.cells (sC s (.slice u1a s.un u1c) (.slice h2a s.kh.length h2c) (.slice p3a s.pn p3c) (.slice q4a s.qn q4c) (.slice la s.ln lc) (.slice da s.dn dc)) 40 (0, 0))) := zi (by rw [hX5]; exact (zaF (i := 14) (v := .slice q4a s.qn q4c) (zg HB2)))
 replace HB0 := zi (FR5.kept (zg HB0) (by omega))
 replace HB1 := zi (FR5.kept (zg HB1) (by omega))
 replace HB2 := HB2x
 clear HB2x hX5
 replace O1 := zi ((zg O1).fr FR5 (fun g hg e9 => by have z9 := ((zg O1).lt g hg).1; have s9 := zg BB; have t1 := zg T1; have t2 := zg T2; have t3 := zg T3; have t4 := zg T4; have s2 := zg S2; have s3 := zg S3; have s4 := zg S4; omega))
 replace O2 := zi (FR5.owns (zg O2) (fun g hg e9 => by have z9 := ((zg O2).lt g hg).1; have s9 := zg BB; have t1 := zg T1; have t2 := zg T2; have t3 := zg T3; have t4 := zg T4; have s2 := zg S2; have s3 := zg S3; have s4 := zg S4; omega))
 replace O3 := zi ((zg O3).fr FR5 (fun g hg e9 => by have z9 := ((zg O3).lt g hg).1; have s9 := zg BB; have t1 := zg T1; have t2 := zg T2; have t3 := zg T3; have t4 := zg T4; have s2 := zg S2; have s3 := zg S3; have s4 := zg S4; omega))
 replace O4 := zi ((zg O4).fr FR5 (fun g hg e9 => by have z9 := ((zg O4).lt g hg).1; have s9 := zg BB; have t1 := zg T1; have t2 := zg T2; have t3 := zg T3; have t4 := zg T4; have s2 := zg S2; have s3 := zg S3; have s4 := zg S4; omega))
 have S5 := zi FR5.size
 refine zao rfl _ _ 28 rfl X5.heap.size 9 ic (.string { data := #[] }) 1 16 Tryz.underlying28 hic hc0 hc1 hc2 rfl (by decide) _ 0 [] rfl (zbp _ _ _ _) _ s.ln (zcw s.lt s.ln) rfl ((zg hO) _ EX5) (by unfold maxLen; omega) (by omega) (Nat.le_refl _) ?_
 intro v9 w5 o9 G9 _
 have F5 : Ext X5 w5 := (Ext.refl X5).grown G9 (fun q hq => by cases hq)
 have E5 := EX5.trans F5
 rw [Nat.zero_add, List.nil_append] at o9
 obtain ⟨l5a, l5c, rfl⟩ := zaE o9
 have O5 := zi (zcu o9)
 have T5 := zi F5.size
 have LT5 := zi (fun g hg => (zg O5).lt g hg)
 replace O1 := zi ((zg O1).ext F5)
 replace O2 := zi (F5.owns (zg O2))
 replace O3 := zi ((zg O3).ext F5)
 replace O4 := zi ((zg O4).ext F5)
 replace HB0 := F5.hk HB0
 replace HB1 := F5.hk HB1
 replace HB2 := F5.hk HB2
 clear o9 G9 FR5 EX5 F5
 have y5_15 := zk (zg HB2) 15 _ rfl
 have o5_16 := zk (zg HB0) 16 _ rfl
 have f5 : ∀ i, w5.frozen? ⟨w.heap.size + 1 + 1, i, none⟩ = false := fun i => Lib.frozen_of_heap (zg HB2) i
 have q5 : ¬ (w.heap.size = w.heap.size + 1 + 1) := by omega
 go_wp2_with (at_builtin; refine zcN.intro ?_)
 show wpList _ _ _ _ _ _
 clear y5_15 o5_16 f5 q5
 refine (fun (X6 : World) (hX6 : X6 = _) => ?_ : ∀ X, X = _ → wpList _ _ _ _ _ X) _ rfl
 have FR6 : Fr (fun q => q = w.heap.size + 1 + 1) w5 X6 := by
  rw [hX6]
  repeat' first | refine Fr.setCell (S := fun q => q = w.heap.size + 1 + 1) ?_ (a := ⟨w.heap.size + 1 + 1, _, none⟩) rfl _ | exact Fr.refl _ _
 have EX6 : Ext w X6 := FR6.ext E5 (fun q hq => by omega)
 have HB2x : Hid (X6.heap[w.heap.size + 1 + 1]? = some (.cells (sC s (.slice u1a s.un u1c) (.slice h2a s.kh.length h2c) (.slice p3a s.pn p3c) (.slice q4a s.qn q4c) (.slice l5a s.ln l5c) (.slice da s.dn dc)) 40 (0, 0))) := zi (by rw [hX6]; exact (zaF (i := 15) (v := .slice l5a s.ln l5c) (zg HB2)))
 replace HB0 := zi (FR6.kept (zg HB0) (by omega))
 replace HB1 := zi (FR6.kept (zg HB1) (by omega))
 replace HB2 := HB2x
 clear HB2x hX6
 replace O1 := zi ((zg O1).fr FR6 (fun g hg e9 => by have z9 := ((zg O1).lt g hg).1; have s9 := zg BB; have t1 := zg T1; have t2 := zg T2; have t3 := zg T3; have t4 := zg T4; have t5 := zg T5; have s2 := zg S2; have s3 := zg S3; have s4 := zg S4; have s5 := zg S5; omega))
 replace O2 := zi (FR6.owns (zg O2) (fun g hg e9 => by have z9 := ((zg O2).lt g hg).1; have s9 := zg BB; have t1 := zg T1; have t2 := zg T2; have t3 := zg T3; have t4 := zg T4; have t5 := zg T5; have s2 := zg S2; have s3 := zg S3; have s4 := zg S4; have s5 := zg S5; omega))
 replace O3 := zi ((zg O3).fr FR6 (fun g hg e9 => by have z9 := ((zg O3).lt g hg).1; have s9 := zg BB; have t1 := zg T1; have t2 := zg T2; have t3 := zg T3; have t4 := zg T4; have t5 := zg T5; have s2 := zg S2; have s3 := zg S3; have s4 := zg S4; have s5 := zg S5; omega))
 replace O4 := zi ((zg O4).fr FR6 (fun g hg e9 => by have z9 := ((zg O4).lt g hg).1; have s9 := zg BB; have t1 := zg T1; have t2 := zg T2; have t3 := zg T3; have t4 := zg T4; have t5 := zg T5; have s2 := zg S2; have s3 := zg S3; have s4 := zg S4; have s5 := zg S5; omega))
 replace O5 := zi ((zg O5).fr FR6 (fun g hg e9 => by have z9 := ((zg O5).lt g hg).1; have s9 := zg BB; have t1 := zg T1; have t2 := zg T2; have t3 := zg T3; have t4 := zg T4; have t5 := zg T5; have s2 := zg S2; have s3 := zg S3; have s4 := zg S4; have s5 := zg S5; omega))
 have S6 := zi FR6.size
 refine zao rfl _ _ 28 rfl X6.heap.size 9 ic (.string { data := #[] }) 1 16 Tryz.underlying28 hic hc0 hc1 hc2 rfl (by decide) _ 0 [] rfl (zbp _ _ _ _) _ s.dn (zcw s.dt s.dn) rfl ((zg hD) _ EX6) (by unfold maxLen; omega) (by omega) (Nat.le_refl _) ?_
 intro v9 w6 o9 G9 _
 have F6 : Ext X6 w6 := (Ext.refl X6).grown G9 (fun q hq => by cases hq)
 have E6 := EX6.trans F6
 rw [Nat.zero_add, List.nil_append] at o9
 obtain ⟨d6a, d6c, rfl⟩ := zaE o9
 have O6 := zi (zcu o9)
 have T6 := zi F6.size
 have LT6 := zi (fun g hg => (zg O6).lt g hg)
 replace O1 := zi ((zg O1).ext F6)
 replace O2 := zi (F6.owns (zg O2))
 replace O3 := zi ((zg O3).ext F6)
 replace O4 := zi ((zg O4).ext F6)
 replace O5 := zi ((zg O5).ext F6)
 replace HB0 := F6.hk HB0
 replace HB1 := F6.hk HB1
 replace HB2 := F6.hk HB2
 clear o9 G9 FR6 EX6 F6
 have y6_16 := zk (zg HB2) 16 _ rfl
 have f6 : ∀ i, w6.frozen? ⟨w.heap.size + 1 + 1, i, none⟩ = false := fun i => Lib.frozen_of_heap (zg HB2) i
 have HB2s : Hid ((w6.setCell ⟨w.heap.size + 1 + 1, 16, none⟩ (.slice d6a s.dn d6c)).heap[w.heap.size + 1 + 1]? = some (.cells (sC s (.slice u1a s.un u1c) (.slice h2a s.kh.length h2c) (.slice p3a s.pn p3c) (.slice q4a s.qn q4c) (.slice l5a s.ln l5c) (.slice d6a s.dn d6c)) 40 (0, 0))) := zi (zaM (zg HB2) rfl)
 have HB1s : Hid ((w6.setCell ⟨w.heap.size + 1 + 1, 16, none⟩ (.slice d6a s.dn d6c)).heap[w.heap.size + 1]? = some (.cells zS7 40 (0, 0))) := zi (zat (zg HB1) (by omega))
 go_wp2_with (first
  | (refine zm rfl 40 _ rfl (w.heap.size + 1 + 1) rfl _ _ _ _ (zg HB2s) Tryz.underlying40 rfl zap ?_)
  | (refine zy rfl 40 _ _ rfl rfl (w.heap.size + 1) rfl _ _ _ rfl (zg HB1s) zap rfl (by simp [Value.oneCell']) ?_; intro Y HB9 hU9; have HU9 := zi hU9; have HB9' := zi HB9; clear hU9 HB9))
 have HB9 := zg HB9'
 have hU : Fr (fun q => q = w.heap.size + 1 + 1 ∨ q = w.heap.size + 1) w6 Y := (Fr.setCell (S := fun q => q = w.heap.size + 1 + 1 ∨ q = w.heap.size + 1) (Fr.refl _ _) (a := ⟨w.heap.size + 1 + 1, 16, none⟩) (.inl rfl) _).tr ((zg HU9).mono (fun q hq => .inr hq))
 clear HU9 HB9' y6_16 f6
 have v0 := zk HB9 0 _ rfl
 have v1 := zk HB9 1 _ rfl
 have v2 := zk HB9 2 _ rfl
 have v3 := zk HB9 3 _ rfl
 have v4 := zk HB9 4 _ rfl
 have v5 := zk HB9 5 _ rfl
 have v6 := zk HB9 6 _ rfl
 have v7 := zk HB9 7 _ rfl
 have v8 := zk HB9 8 _ rfl
 have v9 := zk HB9 9 _ rfl
 have v10 := zk HB9 10 _ rfl
 have v11 := zk HB9 11 _ rfl
 have v12 := zk HB9 12 _ rfl
 have v13 := zk HB9 13 _ rfl
 have v14 := zk HB9 14 _ rfl
 have v15 := zk HB9 15 _ rfl
 have v16 := zk HB9 16 _ rfl
 refine bodyPost_ret (v := zaK s (.slice u1a s.un u1c) (.slice h2a s.kh.length h2c) (.slice p3a s.pn p3c) (.slice q4a s.qn q4c) (.slice l5a s.ln l5c) (.slice d6a s.dn d6c)) (by simp [results, Tryz.results55, go_sem, zaK, v0, v1, v2, v3, v4, v5, v6, v7, v8, v9, v10, v11, v12, v13, v14, v15, v16]) rfl ⟨_, _, _, _, _, _, rfl, ?_⟩
 have t1 := zg T1
 have s2 := zg S2
 have t2 := zg T2
 have s3 := zg S3
 have t3 := zg T3
 have s4 := zg S4
 have t4 := zg T4
 have s5 := zg S5
 have t5 := zg T5
 have s6 := zg S6
 have t6 := zg T6
 have bb := zg BB
 refine ⟨⟨?_, ?_, ?_, ?_, ?_, ?_, ?_⟩, hU.ext E6 (fun q hq => by omega)⟩
 ·exact ((zg O1).fr hU (fun g hg e9 => by have z9 := ((zg O1).lt g hg).1; omega)).mono (by omega)
 ·exact zas (hU.owns (zg O2) (fun g hg e9 => by have z9 := ((zg O2).lt g hg).1; omega)) (by omega)
 ·exact ((zg O3).fr hU (fun g hg e9 => by have z9 := ((zg O3).lt g hg).1; omega)).mono (by omega)
 ·exact ((zg O4).fr hU (fun g hg e9 => by have z9 := ((zg O4).lt g hg).1; omega)).mono (by omega)
 ·exact ((zg O5).fr hU (fun g hg e9 => by have z9 := ((zg O5).lt g hg).1; omega)).mono (by omega)
 ·exact ((zg O6).fr hU (fun g hg e9 => by have z9 := ((zg O6).lt g hg).1; omega)).mono (by omega)
 ·have a01 : zav (.slice u1a s.un u1c) (.slice h2a s.kh.length h2c) := fun g h1 h2 => by have m1 := (zg LT1) g h1; have m2 := (zg LT2) g h2; omega
  have a02 : zav (.slice u1a s.un u1c) (.slice p3a s.pn p3c) := fun g h1 h2 => by have m1 := (zg LT1) g h1; have m2 := (zg LT3) g h2; omega
  have a03 : zav (.slice u1a s.un u1c) (.slice q4a s.qn q4c) := fun g h1 h2 => by have m1 := (zg LT1) g h1; have m2 := (zg LT4) g h2; omega
  have a04 : zav (.slice u1a s.un u1c) (.slice l5a s.ln l5c) := fun g h1 h2 => by have m1 := (zg LT1) g h1; have m2 := (zg LT5) g h2; omega
  have a05 : zav (.slice u1a s.un u1c) (.slice d6a s.dn d6c) := fun g h1 h2 => by have m1 := (zg LT1) g h1; have m2 := (zg LT6) g h2; omega
  have a12 : zav (.slice h2a s.kh.length h2c) (.slice p3a s.pn p3c) := fun g h1 h2 => by have m1 := (zg LT2) g h1; have m2 := (zg LT3) g h2; omega
  have a13 : zav (.slice h2a s.kh.length h2c) (.slice q4a s.qn q4c) := fun g h1 h2 => by have m1 := (zg LT2) g h1; have m2 := (zg LT4) g h2; omega
  have a14 : zav (.slice h2a s.kh.length h2c) (.slice l5a s.ln l5c) := fun g h1 h2 => by have m1 := (zg LT2) g h1; have m2 := (zg LT5) g h2; omega
  have a15 : zav (.slice h2a s.kh.length h2c) (.slice d6a s.dn d6c) := fun g h1 h2 => by have m1 := (zg LT2) g h1; have m2 := (zg LT6) g h2; omega
  have a23 : zav (.slice p3a s.pn p3c) (.slice q4a s.qn q4c) := fun g h1 h2 => by have m1 := (zg LT3) g h1; have m2 := (zg LT4) g h2; omega
  have a24 : zav (.slice p3a s.pn p3c) (.slice l5a s.ln l5c) := fun g h1 h2 => by have m1 := (zg LT3) g h1; have m2 := (zg LT5) g h2; omega
  have a25 : zav (.slice p3a s.pn p3c) (.slice d6a s.dn d6c) := fun g h1 h2 => by have m1 := (zg LT3) g h1; have m2 := (zg LT6) g h2; omega
  have a34 : zav (.slice q4a s.qn q4c) (.slice l5a s.ln l5c) := fun g h1 h2 => by have m1 := (zg LT4) g h1; have m2 := (zg LT5) g h2; omega
  have a35 : zav (.slice q4a s.qn q4c) (.slice d6a s.dn d6c) := fun g h1 h2 => by have m1 := (zg LT4) g h1; have m2 := (zg LT6) g h2; omega
  have a45 : zav (.slice l5a s.ln l5c) (.slice d6a s.dn d6c) := fun g h1 h2 => by have m1 := (zg LT5) g h1; have m2 := (zg LT6) g h2; omega
  exact (.cons (by intro b hb; simp only [List.mem_cons, List.not_mem_nil, or_false] at hb; rcases hb with rfl | rfl | rfl | rfl | rfl <;> first | exact a01 | exact a02 | exact a03 | exact a04 | exact a05) (.cons (by intro b hb; simp only [List.mem_cons, List.not_mem_nil, or_false] at hb; rcases hb with rfl | rfl | rfl | rfl <;> first | exact a12 | exact a13 | exact a14 | exact a15) (.cons (by intro b hb; simp only [List.mem_cons, List.not_mem_nil, or_false] at hb; rcases hb with rfl | rfl | rfl <;> first | exact a23 | exact a24 | exact a25) (.cons (by intro b hb; simp only [List.mem_cons, List.not_mem_nil, or_false] at hb; rcases hb with rfl | rfl <;> first | exact a34 | exact a35) (.cons (by intro b hb; simp only [List.mem_cons, List.not_mem_nil, or_false] at hb; subst hb; exact a45) (.cons (by intro b hb; cases hb) .nil))))))
theorem zjk {w : World} {base : Nat} {T : TypeId} {sz : Nat} {v : Value} {n : Nat} {xs : List Value} (h : w.ownsRow base T sz v n xs) (g : Nat) (hg : v.ownBlock = some g) : ∃ cur, w.heap[g]? = some (.cells cur T (0, 0)) := by
 rcases h.2 with ⟨e, _⟩ | ⟨g', cap, cur, e, _, h4, _⟩
 ·rw [e] at hg; cases hg
 ·rw [e] at hg
  simp [Value.ownBlock] at hg
  subst hg
  exact ⟨cur, h4⟩
theorem zmf {w : World} {base : Nat} {T : TypeId} {v : Value} {n : Nat} {A B : Nat → Value} (h : zaR w base T v n A B) (g : Nat) (hg : v.ownBlock = some g) : ∃ cur, w.heap[g]? = some (.cells cur T (0, 0)) := by
 obtain ⟨ys, h1, _⟩ := h
 exact zjk h1 g hg
theorem zhn (s : SS) (u h p q l d : Value) (w : World) (hA : zbb w s u h p q l d) (hz : s.Sz) :
  Calls Tryz.prog 26 #[zaK s u h p q l d] w fun e w' => ∃ u h p q l d, e = .returned (zaK s u h p q l d) ∧ zax w' w.heap.size s u h p q l d ∧ Ext w w' := by
 obtain ⟨ua, uc, ha, hc, pa, pc, qa, qc, la, lc, da, dc, rfl, rfl, rfl, rfl, rfl, rfl⟩ := hA.forms
 obtain ⟨iu, hiu, hu0, hu1, hu2⟩ := info_parts zgL
 have hkl := hz.kh
 have hL := zi (fun W (hW : Ext w W) => zcm s.la s.lb s.lc _ s.un s.ut s.uh W (hA.un.ext hW) hz.un)
 have hK := zi (fun W (hW : Ext w W) => Src.ints (hA.kh.ext hW))
 have hP := zi (fun W (hW : Ext w W) => zcQ _ s.pn s.pt W (hA.pa.ext hW) hz.pn)
 have hQ := zi (fun W (hW : Ext w W) => zcQ _ s.qn s.qt W (hA.qu.ext hW) hz.qn)
 have hO := zi (fun W (hW : Ext w W) => zcQ _ s.ln s.lt W (hA.lo.ext hW) hz.ln)
 have hD := zi (fun W (hW : Ext w W) => zcQ _ s.dn s.dt W (hA.dn.ext hW) hz.dn)
 clear hA hz
 obtain ⟨V0, hV0⟩ : ∃ V, V = (w.alloc (.cells (sC s (.slice ua s.un uc) (.slice ha s.kh.length hc) (.slice pa s.pn pc) (.slice qa s.qn qc) (.slice la s.ln lc) (.slice da s.dn dc)) 40)).alloc (.cells zS7 40) := ⟨_, rfl⟩
 have sz9 : V0.heap.size = w.heap.size + 1 + 1 := by rw [hV0]; simp
 have HH := zi (zcl V0 5 1)
 rw [sz9] at HH
 obtain ⟨V, hV⟩ : ∃ V, V = V0.alloc (.cells #[] 5) := ⟨_, rfl⟩
 rw [← hV] at HH
 have E0 : Ext w V := by rw [hV, hV0]; exact (((Ext.refl w).alloc _).alloc _).alloc _
 have sz0 : w.heap.size + 1 + 1 + 1 = V.heap.size := by rw [hV]; simp [sz9]
 have HB0 : Hid (V.heap[w.heap.size]? = some (.cells (sC s (.slice ua s.un uc) (.slice ha s.kh.length hc) (.slice pa s.pn pc) (.slice qa s.qn qc) (.slice la s.ln lc) (.slice da s.dn dc)) 40 (0, 0))) := zi (by rw [hV, hV0]; exact (((Ext.refl _).alloc _).alloc _).kept (zn w _))
 have HB1 : Hid (V.heap[w.heap.size + 1]? = some (.cells zS7 40 (0, 0))) := zi (by rw [hV, hV0]; refine ((Ext.refl _).alloc _).kept ?_; have h := zn (w.alloc (.cells (sC s (.slice ua s.un uc) (.slice ha s.kh.length hc) (.slice pa s.pn pc) (.slice qa s.qn qc) (.slice la s.ln lc) (.slice da s.dn dc)) 40)) (.cells zS7 40); rw [show (w.alloc (.cells (sC s (.slice ua s.un uc) (.slice ha s.kh.length hc) (.slice pa s.pn pc) (.slice qa s.qn qc) (.slice la s.ln lc) (.slice da s.dn dc)) 40)).heap.size = w.heap.size + 1 by simp] at h; exact h)
 have HV : Hid (V = ((w.alloc (.cells (sC s (.slice ua s.un uc) (.slice ha s.kh.length hc) (.slice pa s.pn pc) (.slice qa s.qn qc) (.slice la s.ln lc) (.slice da s.dn dc)) 40)).alloc (.cells zS7 40)).alloc (.cells #[] 5)) := zi (by rw [hV, hV0])
 clear hV hV0 sz9
 unfold zaK
 go_enter Tryz.func26, Tryz.ntmps26
 go_wp2_with fail
 rw [← zg HV]
 clear HV
 refine Calls.named ?_
 intro X1 hX1
 have FR1 : Fr (fun q => q = w.heap.size) V X1 := by
  rw [hX1]
  repeat' first | refine Fr.setCell (S := fun q => q = w.heap.size) ?_ (a := ⟨w.heap.size, _, none⟩) rfl _ | exact Fr.refl _ _
 have EX1 : Ext w X1 := FR1.ext E0 (fun q hq => by omega)
 have HB0x : Hid (X1.heap[w.heap.size]? = some (.cells (sC s (.slice ua s.un uc) (.slice ha s.kh.length hc) (.slice pa s.pn pc) (.slice qa s.qn qc) (.slice la s.ln lc) (.slice da s.dn dc)) 40 (0, 0))) := zi (by rw [hX1]; exact (zg HB0))
 replace HB1 := zi (FR1.kept (zg HB1) (by omega))
 replace HB0 := HB0x
 clear HB0x hX1
 have BX1 : Hid (w.heap.size < X1.heap.size) := zi (zt (zg HB0))
 replace HH := zi (FR1.owns (zg HH) (fun g hg e9 => by have := ((zg HH).lt g hg).1; omega))
 have S1 := zi FR1.size
 have BB := zi sz0
 refine ((zg hL) _ EX1).mono ?_
 rintro e w1 ⟨u1a, u1c, rfl, O1, F1⟩
 have E1 := EX1.trans F1
 have T1 := zi F1.size
 have LT1 := zi (fun g hg => (zg O1).lt g hg)
 replace HH := zi (F1.owns (zg HH))
 replace HB0 := F1.hk HB0
 replace HB1 := F1.hk HB1
 clear FR1 EX1 F1
 have o1_3 := zk (zg HB0) 3 _ rfl
 have o1_4 := zk (zg HB0) 4 _ rfl
 have o1_5 := zk (zg HB0) 5 _ rfl
 have o1_6 := zk (zg HB0) 6 _ rfl
 have o1_7 := zk (zg HB0) 7 _ rfl
 have f1 : ∀ i, w1.frozen? ⟨w.heap.size, i, none⟩ = false := fun i => Lib.frozen_of_heap (zg HB0) i
 go_wp2_with (at_builtin; refine zcN.intro ?_)
 show wpList _ _ _ _ _ _
 clear o1_3 o1_4 o1_5 o1_6 o1_7 f1
 refine (fun (X2 : World) (hX2 : X2 = _) => ?_ : ∀ X, X = _ → wpList _ _ _ _ _ X) _ rfl
 have FR2 : Fr (fun q => q = w.heap.size) w1 X2 := by
  rw [hX2]
  repeat' first | refine Fr.setCell (S := fun q => q = w.heap.size) ?_ (a := ⟨w.heap.size, _, none⟩) rfl _ | exact Fr.refl _ _
 have EX2 : Ext w X2 := FR2.ext E1 (fun q hq => by omega)
 have HB0x : Hid (X2.heap[w.heap.size]? = some (.cells (sC s (.slice u1a s.un u1c) (.slice ha s.kh.length hc) (.slice pa s.pn pc) (.slice qa s.qn qc) (.slice la s.ln lc) (.slice da s.dn dc)) 40 (0, 0))) := zi (by rw [hX2]; exact (zaF (i := 6) (v := .slice u1a s.un u1c) (zaF (i := 5) (v := .string s.lc) (zaF (i := 4) (v := .string s.lb) (zaF (i := 3) (v := .string s.la) (zg HB0))))))
 replace HB1 := zi (FR2.kept (zg HB1) (by omega))
 replace HB0 := HB0x
 clear HB0x hX2
 have BX2 : Hid (w.heap.size < X2.heap.size) := zi (zt (zg HB0))
 replace O1 := zi ((zg O1).fr FR2 (fun g hg e9 => by have z9 := ((zg O1).lt g hg).1; have s9 := zg BB; have s8 := zg S1; have s7 := zg BX1; omega))
 replace HH := zi (FR2.owns (zg HH) (fun g hg e9 => by have := ((zg HH).lt g hg).1; omega))
 have S2 := zi FR2.size
 refine zao rfl _ _ 25 rfl (w.heap.size + 1 + 1) 5 iu (.int .u8 0) 1 1 Tryz.underlying25 hiu hu0 hu1 hu2 rfl (by decide) _ 0 [] rfl (zg HH) _ s.kh.length (s.kh.map (Value.int .u8)) rfl ((zg hK) _ EX2) (by unfold maxLen; omega) (by omega) (by have := zg S2; have := zg S1; have := zg T1; have := zg BB; omega) ?_
 intro v9 w2 o9 G9 _
 have F2 := Fr.grown (S := fun q => q = w.heap.size + 1 + 1) (Fr.refl _ X2) G9 (fun q hq => by cases hq; rfl)
 have E2 := F2.ext EX2 (fun q hq => by omega)
 rw [Nat.zero_add, List.nil_append] at o9
 obtain ⟨h2a, h2c, rfl⟩ := zaE o9
 have O2 := zi o9
 have T2 := zi F2.size
 have LT2 := zi (fun g hg => (zg O2).lt g hg)
 replace O1 := zi ((zg O1).fr F2 (fun g hg e9 => by have z9 := ((zg O1).lt g hg).1; have s9 := zg BB; have s8 := zg S1; omega))
 have A01 : Hid (zav (.slice u1a s.un u1c) (.slice h2a s.kh.length h2c)) := zi (fun g h1 h2 => by
  obtain ⟨c1, k1⟩ := zmf (zg O1) g h1
  obtain ⟨c2, k2⟩ := zjk (zg O2) g h2
  rw [k1] at k2
  simp at k2)
 replace HB0 := zi (F2.kept (zg HB0) (by omega))
 replace HB1 := zi (F2.kept (zg HB1) (by omega))
 clear o9 G9 HH FR2 EX2 F2
 have o2_7 := zk (zg HB0) 7 _ rfl
 have o2_10 := zk (zg HB0) 10 _ rfl
 have f2 : ∀ i, w2.frozen? ⟨w.heap.size, i, none⟩ = false := fun i => Lib.frozen_of_heap (zg HB0) i
 go_wp2_with fail
 clear o2_7 o2_10 f2
 refine Calls.named ?_
 intro X3 hX3
 have FR3 : Fr (fun q => q = w.heap.size) w2 X3 := by
  rw [hX3]
  repeat' first | refine Fr.setCell (S := fun q => q = w.heap.size) ?_ (a := ⟨w.heap.size, _, none⟩) rfl _ | exact Fr.refl _ _
 have EX3 : Ext w X3 := FR3.ext E2 (fun q hq => by omega)
 have HB0x : Hid (X3.heap[w.heap.size]? = some (.cells (sC s (.slice u1a s.un u1c) (.slice h2a s.kh.length h2c) (.slice pa s.pn pc) (.slice qa s.qn qc) (.slice la s.ln lc) (.slice da s.dn dc)) 40 (0, 0))) := zi (by rw [hX3]; exact (zaF (i := 7) (v := .slice h2a s.kh.length h2c) (zg HB0)))
 replace HB1 := zi (FR3.kept (zg HB1) (by omega))
 replace HB0 := HB0x
 clear HB0x hX3
 have BX3 : Hid (w.heap.size < X3.heap.size) := zi (zt (zg HB0))
 replace O1 := zi ((zg O1).fr FR3 (fun g hg e9 => by have z9 := ((zg O1).lt g hg).1; have s9 := zg BB; have s8 := zg S1; have s7 := zg BX1; omega))
 replace O2 := zi (FR3.owns (zg O2) (fun g hg e9 => by have z9 := ((zg O2).lt g hg).1; have s9 := zg BB; have s8 := zg S1; have s7 := zg BX2; omega))
 have S3 := zi FR3.size
 refine ((zg hP) _ EX3).mono ?_
 rintro e w3 ⟨p3a, p3c, rfl, O3, F3⟩
 have E3 := EX3.trans F3
 have T3 := zi F3.size
 have LT3 := zi (fun g hg => (zg O3).lt g hg)
 replace O1 := zi ((zg O1).ext F3)
 replace O2 := zi (F3.owns (zg O2))
 replace HB0 := F3.hk HB0
 replace HB1 := F3.hk HB1
 clear FR3 EX3 F3
 have o3_10 := zk (zg HB0) 10 _ rfl
 have o3_14 := zk (zg HB0) 14 _ rfl
 have f3 : ∀ i, w3.frozen? ⟨w.heap.size, i, none⟩ = false := fun i => Lib.frozen_of_heap (zg HB0) i
 go_wp2_with fail
 clear o3_10 o3_14 f3
 refine Calls.named ?_
 intro X4 hX4
 have FR4 : Fr (fun q => q = w.heap.size) w3 X4 := by
  rw [hX4]
  repeat' first | refine Fr.setCell (S := fun q => q = w.heap.size) ?_ (a := ⟨w.heap.size, _, none⟩) rfl _ | exact Fr.refl _ _
 have EX4 : Ext w X4 := FR4.ext E3 (fun q hq => by omega)
 have HB0x : Hid (X4.heap[w.heap.size]? = some (.cells (sC s (.slice u1a s.un u1c) (.slice h2a s.kh.length h2c) (.slice p3a s.pn p3c) (.slice qa s.qn qc) (.slice la s.ln lc) (.slice da s.dn dc)) 40 (0, 0))) := zi (by rw [hX4]; exact (zaF (i := 10) (v := .slice p3a s.pn p3c) (zg HB0)))
 replace HB1 := zi (FR4.kept (zg HB1) (by omega))
 replace HB0 := HB0x
 clear HB0x hX4
 have BX4 : Hid (w.heap.size < X4.heap.size) := zi (zt (zg HB0))
 replace O1 := zi ((zg O1).fr FR4 (fun g hg e9 => by have z9 := ((zg O1).lt g hg).1; have s9 := zg BB; have s8 := zg S1; have s7 := zg BX1; omega))
 replace O2 := zi (FR4.owns (zg O2) (fun g hg e9 => by have z9 := ((zg O2).lt g hg).1; have s9 := zg BB; have s8 := zg S1; have s7 := zg BX2; omega))
 replace O3 := zi ((zg O3).fr FR4 (fun g hg e9 => by have z9 := ((zg O3).lt g hg).1; have s9 := zg BB; have s8 := zg S1; have s7 := zg BX3; omega))
 have S4 := zi FR4.size
 refine ((zg hQ) _ EX4).mono ?_
 rintro e w4 ⟨q4a, q4c, rfl, O4, F4⟩
 have E4 := EX4.trans F4
 have T4 := zi F4.size
 have LT4 := zi (fun g hg => (zg O4).lt g hg)
 replace O1 := zi ((zg O1).ext F4)
 replace O2 := zi (F4.owns (zg O2))
 replace O3 := zi ((zg O3).ext F4)
 replace HB0 := F4.hk HB0
 replace HB1 := F4.hk HB1
 clear FR4 EX4 F4
 have o4_14 := zk (zg HB0) 14 _ rfl
 have o4_15 := zk (zg HB0) 15 _ rfl
 have f4 : ∀ i, w4.frozen? ⟨w.heap.size, i, none⟩ = false := fun i => Lib.frozen_of_heap (zg HB0) i
 go_wp2_with fail
 clear o4_14 o4_15 f4
 refine Calls.named ?_
 intro X5 hX5
 have FR5 : Fr (fun q => q = w.heap.size) w4 X5 := by
  rw [hX5]
  repeat' first | refine Fr.setCell (S := fun q => q = w.heap.size) ?_ (a := ⟨w.heap.size, _, none⟩) rfl _ | exact Fr.refl _ _
 have EX5 : Ext w X5 := FR5.ext E4 (fun q hq => by omega)
 have HB0x : Hid (X5.heap[w.heap.size]? = some (.cells (sC s (.slice u1a s.un u1c) (.slice h2a s.kh.length h2c) (.slice p3a s.pn p3c) (.slice q4a s.qn q4c) (.slice la s.ln lc) (.slice da s.dn dc)) 40 (0, 0))) := zi (by rw [hX5]; exact (zaF (i := 14) (v := .slice q4a s.qn q4c) (zg HB0)))
 replace HB1 := zi (FR5.kept (zg HB1) (by omega))
 replace HB0 := HB0x
 clear HB0x hX5
 have BX5 : Hid (w.heap.size < X5.heap.size) := zi (zt (zg HB0))
 replace O1 := zi ((zg O1).fr FR5 (fun g hg e9 => by have z9 := ((zg O1).lt g hg).1; have s9 := zg BB; have s8 := zg S1; have s7 := zg BX1; omega))
 replace O2 := zi (FR5.owns (zg O2) (fun g hg e9 => by have z9 := ((zg O2).lt g hg).1; have s9 := zg BB; have s8 := zg S1; have s7 := zg BX2; omega))
 replace O3 := zi ((zg O3).fr FR5 (fun g hg e9 => by have z9 := ((zg O3).lt g hg).1; have s9 := zg BB; have s8 := zg S1; have s7 := zg BX3; omega))
 replace O4 := zi ((zg O4).fr FR5 (fun g hg e9 => by have z9 := ((zg O4).lt g hg).1; have s9 := zg BB; have s8 := zg S1; have s7 := zg BX4; omega))
 have S5 := zi FR5.size
 refine ((zg hO) _ EX5).mono ?_
 rintro e w5 ⟨l5a, l5c, rfl, O5, F5⟩
 have E5 := EX5.trans F5
 have T5 := zi F5.size
 have LT5 := zi (fun g hg => (zg O5).lt g hg)
 replace O1 := zi ((zg O1).ext F5)
 replace O2 := zi (F5.owns (zg O2))
 replace O3 := zi ((zg O3).ext F5)
 replace O4 := zi ((zg O4).ext F5)
 replace HB0 := F5.hk HB0
 replace HB1 := F5.hk HB1
 clear FR5 EX5 F5
 have o5_15 := zk (zg HB0) 15 _ rfl
 have o5_16 := zk (zg HB0) 16 _ rfl
 have f5 : ∀ i, w5.frozen? ⟨w.heap.size, i, none⟩ = false := fun i => Lib.frozen_of_heap (zg HB0) i
 go_wp2_with fail
 clear o5_15 o5_16 f5
 refine Calls.named ?_
 intro X6 hX6
 have FR6 : Fr (fun q => q = w.heap.size) w5 X6 := by
  rw [hX6]
  repeat' first | refine Fr.setCell (S := fun q => q = w.heap.size) ?_ (a := ⟨w.heap.size, _, none⟩) rfl _ | exact Fr.refl _ _
 have EX6 : Ext w X6 := FR6.ext E5 (fun q hq => by omega)
 have HB0x : Hid (X6.heap[w.heap.size]? = some (.cells (sC s (.slice u1a s.un u1c) (.slice h2a s.kh.length h2c) (.slice p3a s.pn p3c) (.slice q4a s.qn q4c) (.slice l5a s.ln l5c) (.slice da s.dn dc)) 40 (0, 0))) := zi (by rw [hX6]; exact (zaF (i := 15) (v := .slice l5a s.ln l5c) (zg HB0)))
 replace HB1 := zi (FR6.kept (zg HB1) (by omega))
 replace HB0 := HB0x
 clear HB0x hX6
 have BX6 : Hid (w.heap.size < X6.heap.size) := zi (zt (zg HB0))
 replace O1 := zi ((zg O1).fr FR6 (fun g hg e9 => by have z9 := ((zg O1).lt g hg).1; have s9 := zg BB; have s8 := zg S1; have s7 := zg BX1; omega))
 replace O2 := zi (FR6.owns (zg O2) (fun g hg e9 => by have z9 := ((zg O2).lt g hg).1; have s9 := zg BB; have s8 := zg S1; have s7 := zg BX2; omega))
 replace O3 := zi ((zg O3).fr FR6 (fun g hg e9 => by have z9 := ((zg O3).lt g hg).1; have s9 := zg BB; have s8 := zg S1; have s7 := zg BX3; omega))
 replace O4 := zi ((zg O4).fr FR6 (fun g hg e9 => by have z9 := ((zg O4).lt g hg).1; have s9 := zg BB; have s8 := zg S1; have s7 := zg BX4; omega))
 replace O5 := zi ((zg O5).fr FR6 (fun g hg e9 => by have z9 := ((zg O5).lt g hg).1; have s9 := zg BB; have s8 := zg S1; have s7 := zg BX5; omega))
 have S6 := zi FR6.size
 refine ((zg hD) _ EX6).mono ?_
 rintro e w6 ⟨d6a, d6c, rfl, O6, F6⟩
 have E6 := EX6.trans F6
 have T6 := zi F6.size
 have LT6 := zi (fun g hg => (zg O6).lt g hg)
 replace O1 := zi ((zg O1).ext F6)
 replace O2 := zi (F6.owns (zg O2))
 replace O3 := zi ((zg O3).ext F6)
 replace O4 := zi ((zg O4).ext F6)
 replace O5 := zi ((zg O5).ext F6)
 replace HB0 := F6.hk HB0
 replace HB1 := F6.hk HB1
 clear FR6 EX6 F6
 have o6_16 := zk (zg HB0) 16 _ rfl
 have f6 : ∀ i, w6.frozen? ⟨w.heap.size, i, none⟩ = false := fun i => Lib.frozen_of_heap (zg HB0) i
 have HB0s : Hid ((w6.setCell ⟨w.heap.size, 16, none⟩ (.slice d6a s.dn d6c)).heap[w.heap.size]? = some (.cells (sC s (.slice u1a s.un u1c) (.slice h2a s.kh.length h2c) (.slice p3a s.pn p3c) (.slice q4a s.qn q4c) (.slice l5a s.ln l5c) (.slice d6a s.dn d6c)) 40 (0, 0))) := zi (zaM (zg HB0) rfl)
 have HB1s : Hid ((w6.setCell ⟨w.heap.size, 16, none⟩ (.slice d6a s.dn d6c)).heap[w.heap.size + 1]? = some (.cells zS7 40 (0, 0))) := zi (zat (zg HB1) (by omega))
 go_wp2_with (first
  | (refine zm rfl 40 _ rfl (w.heap.size) rfl _ _ _ _ (zg HB0s) Tryz.underlying40 rfl zap ?_)
  | (refine zy rfl 40 _ _ rfl rfl (w.heap.size + 1) rfl _ _ _ rfl (zg HB1s) zap rfl (by simp [Value.oneCell']) ?_; intro U HB9 hU9; have HU9 := zi hU9; have HB9' := zi HB9; clear hU9 HB9))
 have HB9 := zg HB9'
 have hU : Fr (fun q => q = w.heap.size ∨ q = w.heap.size + 1) w6 U := (Fr.setCell (S := fun q => q = w.heap.size ∨ q = w.heap.size + 1) (Fr.refl _ _) (a := ⟨w.heap.size, 16, none⟩) (.inl rfl) _).tr ((zg HU9).mono (fun q hq => .inr hq))
 clear HU9 HB9' o6_16 f6
 have v0 := zk HB9 0 _ rfl
 have v1 := zk HB9 1 _ rfl
 have v2 := zk HB9 2 _ rfl
 have v3 := zk HB9 3 _ rfl
 have v4 := zk HB9 4 _ rfl
 have v5 := zk HB9 5 _ rfl
 have v6 := zk HB9 6 _ rfl
 have v7 := zk HB9 7 _ rfl
 have v8 := zk HB9 8 _ rfl
 have v9 := zk HB9 9 _ rfl
 have v10 := zk HB9 10 _ rfl
 have v11 := zk HB9 11 _ rfl
 have v12 := zk HB9 12 _ rfl
 have v13 := zk HB9 13 _ rfl
 have v14 := zk HB9 14 _ rfl
 have v15 := zk HB9 15 _ rfl
 have v16 := zk HB9 16 _ rfl
 refine bodyPost_ret (v := zaK s (.slice u1a s.un u1c) (.slice h2a s.kh.length h2c) (.slice p3a s.pn p3c) (.slice q4a s.qn q4c) (.slice l5a s.ln l5c) (.slice d6a s.dn d6c)) (by simp [results, Tryz.results26, go_sem, zaK, v0, v1, v2, v3, v4, v5, v6, v7, v8, v9, v10, v11, v12, v13, v14, v15, v16]) rfl ⟨_, _, _, _, _, _, rfl, ?_⟩
 have s1 := zg S1
 have t1 := zg T1
 have s2 := zg S2
 have t2 := zg T2
 have s3 := zg S3
 have t3 := zg T3
 have s4 := zg S4
 have t4 := zg T4
 have s5 := zg S5
 have t5 := zg T5
 have s6 := zg S6
 have t6 := zg T6
 have bb := zg BB
 refine ⟨⟨?_, ?_, ?_, ?_, ?_, ?_, ?_⟩, hU.ext E6 (fun q hq => by omega)⟩
 ·exact ((zg O1).fr hU (fun g hg e9 => by have z9 := ((zg O1).lt g hg).1; omega)).mono (by omega)
 ·exact zas (hU.owns (zg O2) (fun g hg e9 => by have z9 := ((zg O2).lt g hg).1; omega)) (by omega)
 ·exact ((zg O3).fr hU (fun g hg e9 => by have z9 := ((zg O3).lt g hg).1; omega)).mono (by omega)
 ·exact ((zg O4).fr hU (fun g hg e9 => by have z9 := ((zg O4).lt g hg).1; omega)).mono (by omega)
 ·exact ((zg O5).fr hU (fun g hg e9 => by have z9 := ((zg O5).lt g hg).1; omega)).mono (by omega)
 ·exact ((zg O6).fr hU (fun g hg e9 => by have z9 := ((zg O6).lt g hg).1; omega)).mono (by omega)
 ·have a01 : zav (.slice u1a s.un u1c) (.slice h2a s.kh.length h2c) := zg A01
  have a02 : zav (.slice u1a s.un u1c) (.slice p3a s.pn p3c) := fun g h1 h2 => by have m1 := (zg LT1) g h1; have m2 := (zg LT3) g h2; omega
  have a03 : zav (.slice u1a s.un u1c) (.slice q4a s.qn q4c) := fun g h1 h2 => by have m1 := (zg LT1) g h1; have m2 := (zg LT4) g h2; omega
  have a04 : zav (.slice u1a s.un u1c) (.slice l5a s.ln l5c) := fun g h1 h2 => by have m1 := (zg LT1) g h1; have m2 := (zg LT5) g h2; omega
  have a05 : zav (.slice u1a s.un u1c) (.slice d6a s.dn d6c) := fun g h1 h2 => by have m1 := (zg LT1) g h1; have m2 := (zg LT6) g h2; omega
  have a12 : zav (.slice h2a s.kh.length h2c) (.slice p3a s.pn p3c) := fun g h1 h2 => by have m1 := (zg LT2) g h1; have m2 := (zg LT3) g h2; omega
  have a13 : zav (.slice h2a s.kh.length h2c) (.slice q4a s.qn q4c) := fun g h1 h2 => by have m1 := (zg LT2) g h1; have m2 := (zg LT4) g h2; omega
  have a14 : zav (.slice h2a s.kh.length h2c) (.slice l5a s.ln l5c) := fun g h1 h2 => by have m1 := (zg LT2) g h1; have m2 := (zg LT5) g h2; omega
  have a15 : zav (.slice h2a s.kh.length h2c) (.slice d6a s.dn d6c) := fun g h1 h2 => by have m1 := (zg LT2) g h1; have m2 := (zg LT6) g h2; omega
  have a23 : zav (.slice p3a s.pn p3c) (.slice q4a s.qn q4c) := fun g h1 h2 => by have m1 := (zg LT3) g h1; have m2 := (zg LT4) g h2; omega
  have a24 : zav (.slice p3a s.pn p3c) (.slice l5a s.ln l5c) := fun g h1 h2 => by have m1 := (zg LT3) g h1; have m2 := (zg LT5) g h2; omega
  have a25 : zav (.slice p3a s.pn p3c) (.slice d6a s.dn d6c) := fun g h1 h2 => by have m1 := (zg LT3) g h1; have m2 := (zg LT6) g h2; omega
  have a34 : zav (.slice q4a s.qn q4c) (.slice l5a s.ln l5c) := fun g h1 h2 => by have m1 := (zg LT4) g h1; have m2 := (zg LT5) g h2; omega
  have a35 : zav (.slice q4a s.qn q4c) (.slice d6a s.dn d6c) := fun g h1 h2 => by have m1 := (zg LT4) g h1; have m2 := (zg LT6) g h2; omega
  have a45 : zav (.slice l5a s.ln l5c) (.slice d6a s.dn d6c) := fun g h1 h2 => by have m1 := (zg LT5) g h1; have m2 := (zg LT6) g h2; omega
  exact (.cons (by intro b hb; simp only [List.mem_cons, List.not_mem_nil, or_false] at hb; rcases hb with rfl | rfl | rfl | rfl | rfl <;> first | exact a01 | exact a02 | exact a03 | exact a04 | exact a05) (.cons (by intro b hb; simp only [List.mem_cons, List.not_mem_nil, or_false] at hb; rcases hb with rfl | rfl | rfl | rfl <;> first | exact a12 | exact a13 | exact a14 | exact a15) (.cons (by intro b hb; simp only [List.mem_cons, List.not_mem_nil, or_false] at hb; rcases hb with rfl | rfl | rfl <;> first | exact a23 | exact a24 | exact a25) (.cons (by intro b hb; simp only [List.mem_cons, List.not_mem_nil, or_false] at hb; rcases hb with rfl | rfl <;> first | exact a34 | exact a35) (.cons (by intro b hb; simp only [List.mem_cons, List.not_mem_nil, or_false] at hb; subst hb; exact a45) (.cons (by intro b hb; cases hb) .nil))))))
end Go.Proofs.YtmlkpdbfnffoaaaGreatDoor
