import Derived.Deep.DeepCutAuto
import Derived.Deep.CutBlock
import Derived.Test.YtmlkpdbfnffoaaaGreatDoorGap
set_option maxHeartbeats 8000000
set_option maxRecDepth 10000
namespace Go.Proofs.YtmlkpdbfnffoaaaGreatDoor
open Go.RowKit
theorem zlq {w : World} {base : Nat} {T : TypeId} {v : Value} {un : List (ByteArray × ByteArray)} (h : w.ownsRow base T 2 v un.length (prL un)) : zaR w base T v un.length (fun j => .string (lnT un j)) (fun j => .string (lnH un j)) := zdz h
theorem zm4 {w : World} {base : Nat} {T : TypeId} {un : List (ByteArray × ByteArray)} {g cap : Nat} (h : w.ownsRow base T 2 (.slice (some ⟨g, 0, none⟩) un.length cap) un.length (prL un)) (h0 : 0 < un.length) (hc : un.length ≤ cap) : Src w 2 (.slice (some ⟨g, 2, none⟩) (un.length - 1) (cap - 1)) (un.length - 1) (prL (un.drop 1)) := by
 have hr : zaH w (.slice (some ⟨g, 2, none⟩) (un.length - 1) (cap - 1)) (un.length - 1) (fun j => .string (lnT (un.drop 1) j)) (fun j => .string (lnH (un.drop 1) j)) := by
  refine ⟨_, cap - 1, rfl, by omega, fun _ => ⟨g, 2, rfl, fun j hj => ?_⟩⟩
  obtain ⟨p1, p2⟩ := prL_at un (j + 1) (by omega)
  have c1 := h.cellAt ((j + 1) * 2) (by omega)
  have c2 := h.cellAt ((j + 1) * 2 + 1) (by omega)
  rw [p1] at c1
  rw [p2] at c2
  rw [show 2 + j * 2 = (j + 1) * 2 by omega, c1, c2]
  exact ⟨by rw [← zm8], by rw [← zmD]⟩
 have hs := Src.snaps hr
 have e : prL (un.drop 1) = zaZ (fun j => .string (lnT (un.drop 1) j)) (fun j => .string (lnH (un.drop 1) j)) (un.length - 1) := by unfold prL; rw [List.length_drop]
 rw [e]
 exact hs
theorem zia (a b c l r : ByteArray) (v : Value) (n : Nat) (tx hf : Nat → ByteArray) (w : World) (hv : zaH w v n (fun j => .string (tx j)) (fun j => .string (hf j))) (hn : n ≤ 50) :
  Calls Tryz.prog 123 #[.agg #[.string a, .string b, .string c, v], .string l, .string r] w fun e w' => ∃ v', e = .returned (.agg #[.string l, .string r, .string c, v']) ∧ zaR w' w.heap.size 132 v' (zbk (unL tx hf n) (a, b)).length (fun j => .string (lnT (zbk (unL tx hf n) (a, b)) j)) (fun j => .string (lnH (zbk (unL tx hf n) (a, b)) j)) ∧ Ext w w' := by
 obtain ⟨ic, hic, hc0, hc1, hc2⟩ := info_parts zdi
 have infoL : (Tryz.prog.info? 37).map (·.size) = some 4 := by kernel_rfl
 have HC := zi (fun W (E : Ext w W) => zcm a b c v n tx hf W (hv.ext E) (by omega))
 obtain ⟨ao, ca, rfl, _, _⟩ := hv
 obtain ⟨V, hV⟩ : ∃ V, V = (w.alloc (.cells #[.string a, .string b, .string c, .slice ao n ca] 37)).alloc (.cells zL4 37) := ⟨_, rfl⟩
 have E0 : Ext w V := by rw [hV]; exact ((Ext.refl w).alloc _).alloc _
 have sz0 : V.heap.size = w.heap.size + 1 + 1 := by rw [hV]; simp
 have HB0 : Hid (V.heap[w.heap.size]? = some (.cells #[.string a, .string b, .string c, .slice ao n ca] 37 (0, 0))) := zi (by rw [hV]; exact ((Ext.refl _).alloc _).kept (zn w _))
 have HB1 : Hid (V.heap[w.heap.size + 1]? = some (.cells zL4 37 (0, 0))) := zi (by rw [hV]; have h := zn (w.alloc (.cells #[.string a, .string b, .string c, .slice ao n ca] 37)) (.cells zL4 37); rw [show (w.alloc (.cells #[.string a, .string b, .string c, .slice ao n ca] 37)).heap.size = w.heap.size + 1 by simp] at h; exact h)
 have HV := zi hV
 obtain ⟨un, hun⟩ : ∃ un, un = unL tx hf n := ⟨_, rfl⟩
 have hul : un.length = n := unL_eq tx hf n un hun
 rw [← hun]
 have HUN := zi hun
 obtain ⟨uz, huz⟩ : ∃ uz, uz = zbk un (a, b) := ⟨_, rfl⟩
 rw [← huz]
 have HUZ := zi huz
 clear hV hun huz
 go_enter Tryz.func123, Tryz.ntmps123
 go_wp2_with fail
 rw [← zg HV]
 clear HV
 refine ((zg HC) _ E0).mono ?_
 rintro e w1 ⟨ua, uc, rfl, HO1, E1⟩
 clear HC
 have z1 := E1.size
 replace HB0 := E1.hk HB0
 replace HB1 := E1.hk HB1
 have HE1 := zi (E0.trans E1)
 clear E0 E1
 have HO := zi (zlP (zg HO1))
 clear HO1
 have HN := zi (heap_alloc_new w1 (.cells zL4 37))
 go_wp2_with (first
  | (refine zy rfl 37 _ _ rfl rfl (w1.heap.size) rfl _ _ _ rfl (zg HN) infoL rfl (by simp [Value.oneCell']) ?_; intro U HB hU; have HB9 := zi HB; have EU := hU.ext ((Ext.refl w1).alloc _) (fun q hq => by omega); have HEU := zi EU; have u3 : U.cell? ⟨w1.heap.size, 3, none⟩ = some (.slice ua n uc) := zk HB 3 _ rfl; have u0 : U.cell? ⟨w.heap.size, 0, none⟩ = some (.string a) := zk (EU.kept (zg HB0)) 0 _ rfl; have u1 : U.cell? ⟨w.heap.size, 1, none⟩ = some (.string b) := zk (EU.kept (zg HB0)) 1 _ rfl; clear EU HB hU)
  | (at_builtin; refine zcN.intro ?_))
 show wpList _ _ _ _ _ _
 have HSR := zi (Src.made (w := U) (size := 2) [.string a, .string b] 1 132 rfl (by simp [Value.oneCell']))
 have HOU := zi (((zg HEU).owns (zg HO)).alloc (.cells #[.string a, .string b] 132))
 have zU := (zg HEU).size
 have hgl := zt (zg HB9)
 have hog : ∀ x, (Value.slice ua n uc).ownBlock = some x → V.heap.size ≤ x ∧ x < w1.heap.size := (zg HO).lt
 rw [← prL_un, ← zg HUN] at HOU
 clear HUN HO u3
 refine zao rfl _ _ 35 rfl V.heap.size 132 ic (.agg #[.string noT, .string noT]) 2 32 Tryz.underlying35 hic hc0 hc1 hc2 rfl (by decide) _ n (prL un) rfl (zg HOU) _ 1 [.string a, .string b] rfl (zg HSR) (by unfold maxLen; omega) (by omega) (by simp; omega) ?_
 intro v3 w3 o3 G3 _
 obtain ⟨a3, c3, rfl⟩ := zc8 o3
 have X3 := Fr.grown (S := fun q => (Value.slice ua n uc).ownBlock = some q) (Fr.of_ext ((Ext.refl U).alloc (.cells #[.string a, .string b] 132))) G3 (fun q hq => hq)
 have E3 : Ext w w3 := X3.ext ((zg HE1).trans (zg HEU)) (fun q hq => by have := hog q hq; omega)
 have HB := zi (X3.kept (zg HB9) (fun e => by have := hog _ e; omega))
 replace HB1 := zi (X3.kept ((zg HEU).kept (zg HB1)) (fun e => by have := hog _ e; omega))
 have z3 := X3.size
 have g3 := zk (zg HB) 3 _ rfl
 have f3 : ∀ i, w3.frozen? ⟨w1.heap.size, i, none⟩ = false := fun i => Lib.frozen_of_heap (zg HB) i
 rw [← zi8 un (a, b)] at o3
 have h1 : (un ++ [(a, b)]).length = n + 1 := by simp [hul]
 have HO3 := zi o3
 have HE3 := zi E3
 obtain ⟨w4, hw4⟩ : ∃ w4, w4 = w3.setCell ⟨w1.heap.size, 3, none⟩ (.slice a3 (n + 1) c3) := ⟨_, rfl⟩
 have HB4 : Hid (w4.heap[w1.heap.size]? = some (.cells #[.string a, .string b, .string c, .slice a3 (n + 1) c3] 37 (0, 0))) := zi (by rw [hw4]; exact zaM (zg HB) rfl)
 have HB14 : Hid (w4.heap[w.heap.size + 1]? = some (.cells zL4 37 (0, 0))) := zi (by rw [hw4]; exact zat (zg HB1) (by omega))
 have F4 : Fr (fun q => q = w1.heap.size) w3 w4 := by rw [hw4]; exact Fr.setCell (S := fun q => q = w1.heap.size) (Fr.refl _ w3) (a := ⟨w1.heap.size, 3, none⟩) rfl _
 have HO4 : Hid (w4.ownsRow V.heap.size 132 2 (.slice a3 (n + 1) c3) (n + 1) (prL (un ++ [(a, b)]))) := zi (by
  refine F4.owns o3 (fun g hg e9 => ?_)
  subst e9
  obtain ⟨c9, k9⟩ := zeg o3 hg
  rw [zg HB] at k9
  injection k9 with k9
  injection k9 with _ k9
  exact absurd k9 (by decide))
 have HE4 := zi (F4.ext E3 (fun q hq => by omega))
 have z4 := F4.size
 have HW4 := zi hw4
 have H1 := zi h1
 have HUL := zi hul
 have hVz : w.heap.size + 1 < V.heap.size := by omega
 clear o3 G3 X3 E3 HOU HSR HEU HE1 HB9 u0 u1 HB0 hog F4 hw4 HO3 HE3 h1 hul sz0
 go_upto_region 3 with fail
 rw [← zg HW4]
 have y3 := zk (zg HB4) 3 _ rfl
 have y0 := zk (zg HB4) 0 _ rfl
 have y1 := zk (zg HB4) 1 _ rfl
 have f4 : ∀ i, w4.frozen? ⟨w1.heap.size, i, none⟩ = false := fun i => Lib.frozen_of_heap (zg HB4) i
 clear HW4 HB HB1 g3 f3
 by_cases h50 : n = 50
 ·have HU := zi (show uz = (un ++ [(a, b)]).drop 1 by rw [zg HUZ]; unfold zbk; rw [if_pos (by have := zg HUL; omega)])
  subst h50
  rcases (zg HO4).2 with ⟨e0, _⟩ | ⟨g, cap, cur, e0, hgb, hgh, hcap, _⟩
  ·simp at e0
  obtain ⟨rfl, _, rfl⟩ := Value.slice.inj e0
  have hcap' : 51 ≤ c3 := hcap
  have k1 : ¬ c3 = 1 := by omega
  have k2 : ¬ c3 = 0 := by omega
  have k3 : (1 : Int) ≤ (c3 : Int) := by omega
  have y3n : ∀ o, (w4.alloc o).cell? ⟨w1.heap.size, 3, none⟩ = some (.slice (some ⟨g, 0, none⟩) 51 c3) := fun o => ((Ext.refl w4).alloc o).cell y3
  have HOD := zi (zg HO4)
  rw [← zg H1] at HOD
  have HSR := zi ((zm4 (zg HOD) (by have := zg H1; omega) (by have := zg H1; omega)).ext ((Ext.refl w4).alloc (.cells #[] 132)))
  rw [zg H1] at HSR
  have HOE := zi (zcl w4 132 2)
  clear e0 hcap hgh HOD
  go_wp2_with (at_builtin; refine zcN.intro ?_)
  show wpList _ _ _ _ _ _
  refine zao rfl _ _ 35 rfl w4.heap.size 132 ic (.agg #[.string noT, .string noT]) 2 32 Tryz.underlying35 hic hc0 hc1 hc2 rfl (by decide) _ 0 [] rfl (zg HOE) _ 50 (prL ((un ++ [(a, b)]).drop 1)) rfl (zg HSR) (by unfold maxLen; omega) (by omega) (by simp) ?_
  intro v5 w5 o5 G5 _
  obtain ⟨a5, c5, rfl⟩ := zc8 o5
  rw [Nat.zero_add, List.nil_append] at o5
  have X5 := Fr.grown (S := fun q => q = w4.heap.size) (Fr.of_ext ((Ext.refl w4).alloc (.cells #[] 132))) G5 (fun q hq => by cases hq; rfl)
  have hgl4 := zt (zg HB4)
  have hgl14 := zt (zg HB14)
  have HE5 := zi (X5.ext (zg HE4) (fun q hq => by omega))
  have HB5 := zi (X5.kept (zg HB4) (by omega))
  have HB15 := zi (X5.kept (zg HB14) (by omega))
  have HO5 := zi o5
  have m3 := zk (zg HB5) 3 _ rfl
  have m0 := zk (zg HB5) 0 _ rfl
  have m1 := zk (zg HB5) 1 _ rfl
  have f5 : ∀ i, w5.frozen? ⟨w1.heap.size, i, none⟩ = false := fun i => Lib.frozen_of_heap (zg HB5) i
  clear o5 G5 X5 HSR HOE y3n y3 y0 y1 f4
  rw [Nat.zero_add]
  have HBs : Hid ((((w5.setCell ⟨w1.heap.size, 3, none⟩ (.slice a5 50 c5)).setCell ⟨w1.heap.size, 0, none⟩ (.string l)).setCell ⟨w1.heap.size, 1, none⟩ (.string r)).heap[w1.heap.size]? = some (.cells #[.string l, .string r, .string c, .slice a5 50 c5] 37 (0, 0))) := zi (zaM (zaM (zaM (zg HB5) rfl) rfl) rfl)
  have HB1s : Hid ((((w5.setCell ⟨w1.heap.size, 3, none⟩ (.slice a5 50 c5)).setCell ⟨w1.heap.size, 0, none⟩ (.string l)).setCell ⟨w1.heap.size, 1, none⟩ (.string r)).heap[w.heap.size + 1]? = some (.cells zL4 37 (0, 0))) := zi (zat (zat (zat (zg HB15) (by omega)) (by omega)) (by omega))
  go_wp2_with (first
   | (refine zm rfl 37 _ rfl (w1.heap.size) rfl _ _ _ _ (zg HBs) Tryz.underlying37 rfl infoL ?_)
   | (refine zy rfl 37 _ _ rfl rfl (w.heap.size + 1) rfl _ _ _ rfl (zg HB1s) infoL rfl (by simp [Value.oneCell']) ?_; intro Y hy hf9; have HY := zi hy; have FY := zi hf9; clear hy hf9))
  have FZ : Fr (fun q => q = w1.heap.size ∨ q = w.heap.size + 1) w5 Y := (Fr.setCell (Fr.setCell (Fr.setCell (S := fun q => q = w1.heap.size ∨ q = w.heap.size + 1) (Fr.refl _ w5) (a := ⟨w1.heap.size, 3, none⟩) (.inl rfl) _) (a := ⟨w1.heap.size, 0, none⟩) (.inl rfl) _) (a := ⟨w1.heap.size, 1, none⟩) (.inl rfl) _).tr ((zg FY).mono (fun q hq => .inr hq))
  have v0 := zk (zg HY) 0 _ rfl
  have v1 := zk (zg HY) 1 _ rfl
  have v2 := zk (zg HY) 2 _ rfl
  have v3 := zk (zg HY) 3 _ rfl
  have hl5 : uz.length = 50 := by rw [zg HU, List.length_drop, zg H1]
  have hO : zaR Y w.heap.size 132 (.slice a5 50 c5) uz.length (fun j => .string (lnT uz j)) (fun j => .string (lnH uz j)) := by
   have h := zg HO5
   rw [← zg HU, ← hl5] at h
   rw [← hl5]
   refine ((zlq h).fr FZ (fun g hg e9 => ?_)).mono (by omega)
   have := (h.lt g hg).1
   omega
  exact bodyPost_ret (v := .agg #[.string l, .string r, .string c, .slice a5 50 c5]) (by simp [results, Tryz.results123, go_sem, v0, v1, v2, v3]) rfl ⟨_, rfl, hO, FZ.ext (zg HE5) (fun q hq => by omega)⟩
 ·have HU := zi (show uz = un ++ [(a, b)] by rw [zg HUZ]; unfold zbk; rw [if_neg (by have := zg HUL; omega)])
  have hlt : ¬ (50 : Int) < ((n + 1 : Nat) : Int) := by omega
  have hlt2 : ¬ 50 < n + 1 := by omega
  have HBs : Hid (((w4.setCell ⟨w1.heap.size, 0, none⟩ (.string l)).setCell ⟨w1.heap.size, 1, none⟩ (.string r)).heap[w1.heap.size]? = some (.cells #[.string l, .string r, .string c, .slice a3 (n + 1) c3] 37 (0, 0))) := zi (zaM (zaM (zg HB4) rfl) rfl)
  have HB1s : Hid (((w4.setCell ⟨w1.heap.size, 0, none⟩ (.string l)).setCell ⟨w1.heap.size, 1, none⟩ (.string r)).heap[w.heap.size + 1]? = some (.cells zL4 37 (0, 0))) := zi (zat (zat (zg HB14) (by omega)) (by omega))
  go_wp2_with (first
   | (refine zm rfl 37 _ rfl (w1.heap.size) rfl _ _ _ _ (zg HBs) Tryz.underlying37 rfl infoL ?_)
   | (refine zy rfl 37 _ _ rfl rfl (w.heap.size + 1) rfl _ _ _ rfl (zg HB1s) infoL rfl (by simp [Value.oneCell']) ?_; intro Y hy hf9; have HY := zi hy; have FY := zi hf9; clear hy hf9))
  have FZ : Fr (fun q => q = w1.heap.size ∨ q = w.heap.size + 1) w4 Y := (Fr.setCell (Fr.setCell (S := fun q => q = w1.heap.size ∨ q = w.heap.size + 1) (Fr.refl _ w4) (a := ⟨w1.heap.size, 0, none⟩) (.inl rfl) _) (a := ⟨w1.heap.size, 1, none⟩) (.inl rfl) _).tr ((zg FY).mono (fun q hq => .inr hq))
  have v0 := zk (zg HY) 0 _ rfl
  have v1 := zk (zg HY) 1 _ rfl
  have v2 := zk (zg HY) 2 _ rfl
  have v3 := zk (zg HY) 3 _ rfl
  have hO : zaR Y w.heap.size 132 (.slice a3 (n + 1) c3) uz.length (fun j => .string (lnT uz j)) (fun j => .string (lnH uz j)) := by
   have h := (zg HO4)
   rw [← zg H1, ← zg HU] at h
   rw [← zg H1, ← zg HU]
   refine ((zlq h).fr FZ (fun g hg e9 => ?_)).mono (by omega)
   rcases e9 with e9 | e9
   ·subst e9
    obtain ⟨c9, k9⟩ := zeg h hg
    rw [zg HB4] at k9
    injection k9 with k9
    injection k9 with _ k9
    exact absurd k9 (by decide)
   ·have := (h.lt g hg).1
    omega
  exact bodyPost_ret (v := .agg #[.string l, .string r, .string c, .slice a3 (n + 1) c3]) (by simp [results, Tryz.results123, go_sem, v0, v1, v2, v3]) rfl ⟨_, rfl, hO, FZ.ext (zg HE4) (fun q hq => by omega)⟩
theorem zig (a b c : ByteArray) (v : Value) (un : List (ByteArray × ByteArray)) (w : World) (hv : zei w v un) (za : a.size ≤ 1048576) (zb : b.size ≤ 1048576) (kd : Int) (h6 : ¬ kd = 6) (h7 : ¬ kd = 7) (h8 : ¬ kd = 8) (h9 : ¬ kd = 9) (h18 : ¬ kd = 18) (h19 : ¬ kd = 19) :
  Calls Tryz.prog 117 #[.agg #[.string a, .string b, .string c, v], .int .i64 kd] w fun e w' => e = .returned (.tuple #[.agg #[.string a, .string b, .string c, v], .int .i64 (-1)]) ∧ Ext w w' := by
 have infoL : (Tryz.prog.info? 37).map (·.size) = some 4 := by kernel_rfl
 have hcA := zi (fun W => zdh (baL a) (zau a) W (by rw [zar]; omega))
 have hcB := zi (fun W => zdh (baL b) (zau b) W (by rw [zar]; omega))
 rw [zay] at hcA hcB
 have lA := zbW (baL a)
 have lB := zbW (baL b)
 rw [zar] at lA lB
 obtain ⟨ao, ca, rfl, _, _⟩ := id hv
 clear hv
 obtain ⟨A, hA⟩ : ∃ A, A = zd (baL a) := ⟨_, rfl⟩
 obtain ⟨B, hB⟩ : ∃ B, B = zd (baL b) := ⟨_, rfl⟩
 rw [← hA] at hcA lA
 rw [← hB] at hcB lB
 obtain ⟨nA, hnA⟩ : ∃ n, A.length = n := ⟨_, rfl⟩
 obtain ⟨nB, hnB⟩ : ∃ n, B.length = n := ⟨_, rfl⟩
 have HNA := zi hnA
 have HNB := zi hnB
 clear hA hB hnA hnB
 obtain ⟨V, hV⟩ : ∃ V, V = (w.alloc (.cells #[.string a, .string b, .string c, .slice ao un.length ca] 37)).alloc (.cells zL4 37) := ⟨_, rfl⟩
 have E0 : Ext w V := by rw [hV]; exact ((Ext.refl w).alloc _).alloc _
 have HB0 : Hid (V.heap[w.heap.size]? = some (.cells #[.string a, .string b, .string c, .slice ao un.length ca] 37 (0, 0))) := zi (by rw [hV]; exact ((Ext.refl _).alloc _).kept (zn w _))
 have HB1 : Hid (V.heap[w.heap.size + 1]? = some (.cells zL4 37 (0, 0))) := zi (by rw [hV]; have h := zn (w.alloc (.cells #[.string a, .string b, .string c, .slice ao un.length ca] 37)) (.cells zL4 37); rw [show (w.alloc (.cells #[.string a, .string b, .string c, .slice ao un.length ca] 37)).heap.size = w.heap.size + 1 by simp] at h; exact h)
 have sz0 : w.heap.size + 1 < V.heap.size := zt (zg HB1)
 have HW := zi hV
 have HE0 := zi E0
 clear hV E0
 go_enter Tryz.func117, Tryz.ntmps117
 go_wp2_with fail
 rw [← zg HW]
 clear HW
 refine ((zg hcA) _).mono ?_
 rintro e w2 ⟨v2, rs2, rfl, o2, E2⟩
 obtain ⟨a2, c2, rfl⟩ : ∃ a c, v2 = .slice a A.length c := by
  obtain ⟨_, ao, cc, e, _⟩ := o2.cls
  exact ⟨ao, cc, e⟩
 have H2 := zi o2.cls
 rw [zg HNA] at H2 ⊢
 replace HB0 := E2.hk HB0
 replace HB1 := E2.hk HB1
 replace HE0 := Hid.ht HE0 E2
 have q1 := zk (zg HB0) 1 _ rfl
 have z2 := E2.size
 clear o2 E2 hcA
 go_wp2_with fail
 refine ((zg hcB) _).mono ?_
 rintro e w3 ⟨v3, rs3, rfl, o3, E3⟩
 obtain ⟨a3, c3, rfl⟩ : ∃ a c, v3 = .slice a B.length c := by
  obtain ⟨_, ao, cc, e, _⟩ := o3.cls
  exact ⟨ao, cc, e⟩
 have H3 := zi o3.cls
 rw [zg HNB] at H3 ⊢
 replace H2 := zi ((zg H2).ext E3)
 replace HB0 := E3.hk HB0
 replace HB1 := E3.hk HB1
 replace HE0 := Hid.ht HE0 E3
 have z3 := E3.size
 clear o3 E3 hcB q1
 clear H2 H3 HNA HNB
 go_wp2_with (first
  | (refine zm rfl 37 _ rfl (w.heap.size) rfl _ _ _ _ (zg HB0) Tryz.underlying37 rfl infoL ?_)
  | (refine zy rfl 37 _ _ rfl rfl (w.heap.size + 1) rfl _ _ _ rfl (zg HB1) infoL rfl (by simp [Value.oneCell']) ?_; intro Z hy hf9; have HY := zi hy; have FY := zi hf9; clear hy hf9))
 have v0 := zk (zg HY) 0 _ rfl
 have v1 := zk (zg HY) 1 _ rfl
 have v2 := zk (zg HY) 2 _ rfl
 have v3 := zk (zg HY) 3 _ rfl
 exact bodyPost_ret (v := .tuple #[.agg #[.string a, .string b, .string c, .slice ao un.length ca], .int .i64 (-1)]) (by simp [results, Tryz.results117, go_sem, v0, v1, v2, v3]) rfl ⟨rfl, (zg FY).ext (zg HE0) (fun q hq => by omega)⟩
def zj0 (kd : Int) : Int := if kd = 3 then 3 else if kd = 21 then 4 else if kd = 10 then 5 else if kd = 11 then 6 else if kd = 20 then 7 else 0
theorem zid (kd : Int) (w : World) :
  Calls Tryz.prog 126 #[.int .i64 kd] w fun e w' => e = .returned (.int .i64 (zj0 kd)) ∧ Ext w w' := by
 obtain ⟨V, hV⟩ : ∃ V, V = w.alloc (.cells #[.int .i64 3, .int .i64 21, .int .i64 10, .int .i64 11, .int .i64 20] 3) := ⟨_, rfl⟩
 have E0 : Ext w V := by rw [hV]; exact (Ext.refl w).alloc _
 have hb : V.heap[w.heap.size]? = some (.cells #[.int .i64 3, .int .i64 21, .int .i64 10, .int .i64 11, .int .i64 20] 3 (0, 0)) := by rw [hV]; exact zn w _
 have k0 := zk hb 0 _ rfl
 have k1 := zk hb 1 _ rfl
 have k2 := zk hb 2 _ rfl
 have k3 := zk hb 3 _ rfl
 have k4 := zk hb 4 _ rfl
 have HE := zi E0
 have HV := zi hV
 clear hb hV E0
 go_enter Tryz.func126, Tryz.ntmps126
 go_wp2
 rw [← zg HV]
 clear HV
 go_loopw [4] (fun i wr => ∃ j : Nat, j ≤ 5 ∧ i = .int .i64 j ∧ Hid (wr = V) ∧ Hid ((0 < j → kd ≠ 3) ∧ (1 < j → kd ≠ 21) ∧ (2 < j → kd ≠ 10) ∧ (3 < j → kd ≠ 11) ∧ (4 < j → kd ≠ 20))) (fun i _ => 5 - (intOf i).toNat)
 case atStart => exact ⟨0, Nat.zero_le _, rfl, zi rfl, zi ⟨by omega, by omega, by omega, by omega, by omega⟩⟩
 case round =>
  obtain ⟨j, hj, rfl, HV2, HK⟩ := hrel
  have hV2 := zg HV2
  subst hV2
  clear HV2
  have : j = 0 ∨ j = 1 ∨ j = 2 ∨ j = 3 ∨ j = 4 ∨ j = 5 := by omega
  rcases this with rfl | rfl | rfl | rfl | rfl | rfl
  ·by_cases hk : kd = 3
   ·subst hk
    go_wp2
    exact bodyPost_ret (v := .int .i64 3) (by simp [results, Tryz.results126, go_sem]) rfl ⟨rfl, zg HE⟩
   ·have hk2 : ¬ 3 = kd := fun e => hk e.symm
    have HKs : Hid ((0 < 1 → kd ≠ 3) ∧ (1 < 1 → kd ≠ 21) ∧ (2 < 1 → kd ≠ 10) ∧ (3 < 1 → kd ≠ 11) ∧ (4 < 1 → kd ≠ 20)) := zi (by
     obtain ⟨m0, m1, m2, m3, m4⟩ := zg HK
     exact ⟨fun _ => hk, fun h => absurd h (by omega), fun h => absurd h (by omega), fun h => absurd h (by omega), fun h => absurd h (by omega)⟩)
    clear HK
    go_wp2
    go_roundw
    case rel => exact ⟨1, by omega, by go_num, (by first | exact zi rfl | exact zi trivial), HKs⟩
    case measure => simp [intOf]
  ·by_cases hk : kd = 21
   ·subst hk
    go_wp2
    exact bodyPost_ret (v := .int .i64 4) (by simp [results, Tryz.results126, go_sem]) rfl ⟨rfl, zg HE⟩
   ·have hk2 : ¬ 21 = kd := fun e => hk e.symm
    have HKs : Hid ((0 < 2 → kd ≠ 3) ∧ (1 < 2 → kd ≠ 21) ∧ (2 < 2 → kd ≠ 10) ∧ (3 < 2 → kd ≠ 11) ∧ (4 < 2 → kd ≠ 20)) := zi (by
     obtain ⟨m0, m1, m2, m3, m4⟩ := zg HK
     exact ⟨fun _ => m0 (by omega), fun _ => hk, fun h => absurd h (by omega), fun h => absurd h (by omega), fun h => absurd h (by omega)⟩)
    clear HK
    go_wp2
    go_roundw
    case rel => exact ⟨2, by omega, by go_num, (by first | exact zi rfl | exact zi trivial), HKs⟩
    case measure => simp [intOf]
  ·by_cases hk : kd = 10
   ·subst hk
    go_wp2
    exact bodyPost_ret (v := .int .i64 5) (by simp [results, Tryz.results126, go_sem]) rfl ⟨rfl, zg HE⟩
   ·have hk2 : ¬ 10 = kd := fun e => hk e.symm
    have HKs : Hid ((0 < 3 → kd ≠ 3) ∧ (1 < 3 → kd ≠ 21) ∧ (2 < 3 → kd ≠ 10) ∧ (3 < 3 → kd ≠ 11) ∧ (4 < 3 → kd ≠ 20)) := zi (by
     obtain ⟨m0, m1, m2, m3, m4⟩ := zg HK
     exact ⟨fun _ => m0 (by omega), fun _ => m1 (by omega), fun _ => hk, fun h => absurd h (by omega), fun h => absurd h (by omega)⟩)
    clear HK
    go_wp2
    go_roundw
    case rel => exact ⟨3, by omega, by go_num, (by first | exact zi rfl | exact zi trivial), HKs⟩
    case measure => simp [intOf]
  ·by_cases hk : kd = 11
   ·subst hk
    go_wp2
    exact bodyPost_ret (v := .int .i64 6) (by simp [results, Tryz.results126, go_sem]) rfl ⟨rfl, zg HE⟩
   ·have hk2 : ¬ 11 = kd := fun e => hk e.symm
    have HKs : Hid ((0 < 4 → kd ≠ 3) ∧ (1 < 4 → kd ≠ 21) ∧ (2 < 4 → kd ≠ 10) ∧ (3 < 4 → kd ≠ 11) ∧ (4 < 4 → kd ≠ 20)) := zi (by
     obtain ⟨m0, m1, m2, m3, m4⟩ := zg HK
     exact ⟨fun _ => m0 (by omega), fun _ => m1 (by omega), fun _ => m2 (by omega), fun _ => hk, fun h => absurd h (by omega)⟩)
    clear HK
    go_wp2
    go_roundw
    case rel => exact ⟨4, by omega, by go_num, (by first | exact zi rfl | exact zi trivial), HKs⟩
    case measure => simp [intOf]
  ·by_cases hk : kd = 20
   ·subst hk
    go_wp2
    exact bodyPost_ret (v := .int .i64 7) (by simp [results, Tryz.results126, go_sem]) rfl ⟨rfl, zg HE⟩
   ·have hk2 : ¬ 20 = kd := fun e => hk e.symm
    have HKs : Hid ((0 < 5 → kd ≠ 3) ∧ (1 < 5 → kd ≠ 21) ∧ (2 < 5 → kd ≠ 10) ∧ (3 < 5 → kd ≠ 11) ∧ (4 < 5 → kd ≠ 20)) := zi (by
     obtain ⟨m0, m1, m2, m3, m4⟩ := zg HK
     exact ⟨fun _ => m0 (by omega), fun _ => m1 (by omega), fun _ => m2 (by omega), fun _ => m3 (by omega), fun _ => hk⟩)
    clear HK
    go_wp2
    go_roundw
    case rel => exact ⟨5, by omega, by go_num, (by first | exact zi rfl | exact zi trivial), HKs⟩
    case measure => simp [intOf]
  ·have hh : zj0 kd = 0 := by
    obtain ⟨m0, m1, m2, m3, m4⟩ := zg HK
    simp [zj0, m0 (by omega), m1 (by omega), m2 (by omega), m3 (by omega), m4 (by omega)]
   clear HK
   go_wp2
   exact bodyPost_ret (v := .int .i64 0) (by simp [results, Tryz.results126, go_sem]) rfl ⟨by rw [hh], zg HE⟩
end Go.Proofs.YtmlkpdbfnffoaaaGreatDoor
