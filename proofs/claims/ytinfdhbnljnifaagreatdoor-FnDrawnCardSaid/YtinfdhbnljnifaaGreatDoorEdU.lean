import Derived.Deep.DeepCutAuto
import Derived.Deep.RegionLaw
import Derived.Deep.CutBlock
import Derived.Test.YtinfdhbnljnifaaGreatDoorKmU
import Derived.Test.YtinfdhbnljnifaaGreatDoorEdW2
namespace Go.Proofs.YtinfdhbnljnifaaGreatDoor
open Go.RowKit
theorem zlX {w : World} {base : Nat} {T : TypeId} {v : Value} {un : List (ByteArray × ByteArray)} (h : w.ownsRow base T 2 v un.length (prL un)) : zaG w base T v un.length (fun j => .string (lnT un j)) (fun j => .string (lnH un j)) := zeI h
theorem znT {w : World} {base : Nat} {T : TypeId} {un : List (ByteArray × ByteArray)} {g cap : Nat} (h : w.ownsRow base T 2 (.slice (some ⟨g, 0, none⟩) un.length cap) un.length (prL un)) (h0 : 0 < un.length) (hc : un.length ≤ cap) : Src w 2 (.slice (some ⟨g, 2, none⟩) (un.length - 1) (cap - 1)) (un.length - 1) (prL (un.drop 1)) := by
 have hr : zag w (.slice (some ⟨g, 2, none⟩) (un.length - 1) (cap - 1)) (un.length - 1) (fun j => .string (lnT (un.drop 1) j)) (fun j => .string (lnH (un.drop 1) j)) := by
  refine ⟨_, cap - 1, rfl, by omega, fun _ => ⟨g, 2, rfl, fun j hj => ?_⟩⟩
  obtain ⟨p1, p2⟩ := prL_at un (j + 1) (by omega)
  have c1 := h.cellAt ((j + 1) * 2) (by omega)
  have c2 := h.cellAt ((j + 1) * 2 + 1) (by omega)
  rw [p1] at c1
  rw [p2] at c2
  rw [show 2 + j * 2 = (j + 1) * 2 by omega, c1, c2]
  exact ⟨by rw [← znN], by rw [← zoy]⟩
 have hs := Src.snaps hr
 have e : prL (un.drop 1) = zaK (fun j => .string (lnT (un.drop 1) j)) (fun j => .string (lnH (un.drop 1) j)) (un.length - 1) := by unfold prL; rw [List.length_drop]
 rw [e]
 exact hs
set_option maxRecDepth 10000 in
set_option maxHeartbeats 4000000 in
theorem zaT (a b c l r : ByteArray) (v : Value) (n : Nat) (tx hf : Nat → ByteArray) (w : World) (hv : zag w v n (fun j => .string (tx j)) (fun j => .string (hf j))) (hn : n ≤ 50) :
  Calls Tryz.prog 130 #[.agg #[.string a, .string b, .string c, v], .string l, .string r] w fun e w' => ∃ v', e = .returned (.agg #[.string l, .string r, .string c, v']) ∧ zaG w' w.heap.size 201 v' (zav (unL tx hf n) (a, b)).length (fun j => .string (lnT (zav (unL tx hf n) (a, b)) j)) (fun j => .string (lnH (zav (unL tx hf n) (a, b)) j)) ∧ Ext w w' := by
 obtain ⟨ic, hic, hc0, hc1, hc2⟩ := info_parts zgV
 have infoL : (Tryz.prog.info? 99).map (·.size) = some 4 := by kernel_rfl
 have HC := zh (fun W (E : Ext w W) => zaq a b c v n tx hf W (hv.ext E) (by omega))
 obtain ⟨ao, ca, rfl, _, _⟩ := hv
 obtain ⟨V, hV⟩ : ∃ V, V = (w.alloc (.cells #[.string a, .string b, .string c, .slice ao n ca] 99)).alloc (.cells zL4 99) := ⟨_, rfl⟩
 have E0 : Ext w V := by rw [hV]; exact ((Ext.refl w).alloc _).alloc _
 have sz0 : V.heap.size = w.heap.size + 1 + 1 := by rw [hV]; simp
 have HB0 : Hid (V.heap[w.heap.size]? = some (.cells #[.string a, .string b, .string c, .slice ao n ca] 99 (0, 0))) := zh (by rw [hV]; exact ((Ext.refl _).alloc _).kept (zk w _))
 have HB1 : Hid (V.heap[w.heap.size + 1]? = some (.cells zL4 99 (0, 0))) := zh (by rw [hV]; have h := zk (w.alloc (.cells #[.string a, .string b, .string c, .slice ao n ca] 99)) (.cells zL4 99); rw [show (w.alloc (.cells #[.string a, .string b, .string c, .slice ao n ca] 99)).heap.size = w.heap.size + 1 by simp] at h; exact h)
 have HV := zh hV
 obtain ⟨un, hun⟩ : ∃ un, un = unL tx hf n := ⟨_, rfl⟩
 have hul : un.length = n := unL_eq tx hf n un hun
 rw [← hun]
 have HUN := zh hun
 obtain ⟨uz, huz⟩ : ∃ uz, uz = zav un (a, b) := ⟨_, rfl⟩
 rw [← huz]
 have HUZ := zh huz
 clear hV hun huz
 go_enter Tryz.func130, Tryz.ntmps130
 go_wp2_with fail
 rw [← zu HV]
 clear HV
 refine ((zu HC) _ E0).mono ?_
 rintro e w1 ⟨ua, uc, rfl, HO1, E1⟩
 clear HC
 have z1 := E1.size
 replace HB0 := E1.hk HB0
 replace HB1 := E1.hk HB1
 have HE1 := zh (E0.trans E1)
 clear E0 E1
 have HO := zh (zm5 (zu HO1))
 clear HO1
 have HN := zh (heap_alloc_new w1 (.cells zL4 99))
 go_wp2_with (first
  | (refine zi rfl 99 _ _ rfl rfl (w1.heap.size) rfl _ _ _ rfl (zu HN) infoL rfl (by simp [Value.oneCell']) ?_; intro U HB hU; have HB9 := zh HB; have EU := hU.ext ((Ext.refl w1).alloc _) (fun q hq => by omega); have HEU := zh EU; have u3 : U.cell? ⟨w1.heap.size, 3, none⟩ = some (.slice ua n uc) := zg HB 3 _ rfl; have u0 : U.cell? ⟨w.heap.size, 0, none⟩ = some (.string a) := zg (EU.kept (zu HB0)) 0 _ rfl; have u1 : U.cell? ⟨w.heap.size, 1, none⟩ = some (.string b) := zg (EU.kept (zu HB0)) 1 _ rfl; clear EU HB hU)
  | (at_builtin; refine zaS.intro ?_))
 show wpList _ _ _ _ _ _
 have HSR := zh (Src.made (w := U) (size := 2) [.string a, .string b] 1 201 rfl (by simp [Value.oneCell']))
 have HOU := zh (((zu HEU).owns (zu HO)).alloc (.cells #[.string a, .string b] 201))
 have zU := (zu HEU).size
 have hgl := zq (zu HB9)
 have hog : ∀ x, (Value.slice ua n uc).ownBlock = some x → V.heap.size ≤ x ∧ x < w1.heap.size := (zu HO).lt
 rw [← prL_un, ← zu HUN] at HOU
 clear HUN HO u3
 refine zd rfl _ _ 97 rfl V.heap.size 201 ic (.agg #[.string noT, .string noT]) 2 32 Tryz.underlying97 hic hc0 hc1 hc2 rfl (by decide) _ n (prL un) rfl (zu HOU) _ 1 [.string a, .string b] rfl (zu HSR) (by unfold maxLen; omega) (by omega) (by simp; omega) ?_
 intro v3 w3 o3 G3 _
 obtain ⟨a3, c3, rfl⟩ := zbi o3
 have X3 := Fr.grown (S := fun q => (Value.slice ua n uc).ownBlock = some q) (Fr.of_ext ((Ext.refl U).alloc (.cells #[.string a, .string b] 201))) G3 (fun q hq => hq)
 have E3 : Ext w w3 := X3.ext ((zu HE1).trans (zu HEU)) (fun q hq => by have := hog q hq; omega)
 have HB := zh (X3.kept (zu HB9) (fun e => by have := hog _ e; omega))
 replace HB1 := zh (X3.kept ((zu HEU).kept (zu HB1)) (fun e => by have := hog _ e; omega))
 have z3 := X3.size
 have g3 := zg (zu HB) 3 _ rfl
 have f3 : ∀ i, w3.frozen? ⟨w1.heap.size, i, none⟩ = false := fun i => Lib.frozen_of_heap (zu HB) i
 rw [← zo8 un (a, b)] at o3
 have h1 : (un ++ [(a, b)]).length = n + 1 := by simp [hul]
 have HO3 := zh o3
 have HE3 := zh E3
 obtain ⟨w4, hw4⟩ : ∃ w4, w4 = w3.setCell ⟨w1.heap.size, 3, none⟩ (.slice a3 (n + 1) c3) := ⟨_, rfl⟩
 have HB4 : Hid (w4.heap[w1.heap.size]? = some (.cells #[.string a, .string b, .string c, .slice a3 (n + 1) c3] 99 (0, 0))) := zh (by rw [hw4]; exact zj (zu HB) rfl)
 have HB14 : Hid (w4.heap[w.heap.size + 1]? = some (.cells zL4 99 (0, 0))) := zh (by rw [hw4]; exact zbl (zu HB1) (by omega))
 have F4 : Fr (fun q => q = w1.heap.size) w3 w4 := by rw [hw4]; exact Fr.setCell (S := fun q => q = w1.heap.size) (Fr.refl _ w3) (a := ⟨w1.heap.size, 3, none⟩) rfl _
 have HO4 : Hid (w4.ownsRow V.heap.size 201 2 (.slice a3 (n + 1) c3) (n + 1) (prL (un ++ [(a, b)]))) := zh (by
  refine F4.owns o3 (fun g hg e9 => ?_)
  subst e9
  obtain ⟨c9, k9⟩ := zeh o3 hg
  rw [zu HB] at k9
  injection k9 with k9
  injection k9 with _ k9
  exact absurd k9 (by decide))
 have HE4 := zh (F4.ext E3 (fun q hq => by omega))
 have z4 := F4.size
 have HW4 := zh hw4
 have H1 := zh h1
 have HUL := zh hul
 have hVz : w.heap.size + 1 < V.heap.size := by omega
 clear o3 G3 X3 E3 HOU HSR HEU HE1 HB9 u0 u1 HB0 hog F4 hw4 HO3 HE3 h1 hul sz0
 go_upto_region 3 with fail
 rw [← zu HW4]
 have y3 := zg (zu HB4) 3 _ rfl
 have y0 := zg (zu HB4) 0 _ rfl
 have y1 := zg (zu HB4) 1 _ rfl
 have f4 : ∀ i, w4.frozen? ⟨w1.heap.size, i, none⟩ = false := fun i => Lib.frozen_of_heap (zu HB4) i
 clear HW4 HB HB1 g3 f3
 by_cases h50 : n = 50
 ·have HU := zh (show uz = (un ++ [(a, b)]).drop 1 by rw [zu HUZ]; unfold zav; rw [if_pos (by have := zu HUL; omega)])
  subst h50
  rcases (zu HO4).2 with ⟨e0, _⟩ | ⟨g, cap, cur, e0, hgb, hgh, hcap, _⟩
  ·simp at e0
  obtain ⟨rfl, _, rfl⟩ := Value.slice.inj e0
  have hcap' : 51 ≤ c3 := hcap
  have k1 : ¬ c3 = 1 := by omega
  have k2 : ¬ c3 = 0 := by omega
  have k3 : (1 : Int) ≤ (c3 : Int) := by omega
  have y3n : ∀ o, (w4.alloc o).cell? ⟨w1.heap.size, 3, none⟩ = some (.slice (some ⟨g, 0, none⟩) 51 c3) := fun o => ((Ext.refl w4).alloc o).cell y3
  have HOD := zh (zu HO4)
  rw [← zu H1] at HOD
  have HSR := zh ((znT (zu HOD) (by have := zu H1; omega) (by have := zu H1; omega)).ext ((Ext.refl w4).alloc (.cells #[] 201)))
  rw [zu H1] at HSR
  have HOE := zh (zaD w4 201 2)
  clear e0 hcap hgh HOD
  go_wp2_with (at_builtin; refine zaS.intro ?_)
  show wpList _ _ _ _ _ _
  refine zd rfl _ _ 97 rfl w4.heap.size 201 ic (.agg #[.string noT, .string noT]) 2 32 Tryz.underlying97 hic hc0 hc1 hc2 rfl (by decide) _ 0 [] rfl (zu HOE) _ 50 (prL ((un ++ [(a, b)]).drop 1)) rfl (zu HSR) (by unfold maxLen; omega) (by omega) (by simp) ?_
  intro v5 w5 o5 G5 _
  obtain ⟨a5, c5, rfl⟩ := zbi o5
  rw [Nat.zero_add, List.nil_append] at o5
  have X5 := Fr.grown (S := fun q => q = w4.heap.size) (Fr.of_ext ((Ext.refl w4).alloc (.cells #[] 201))) G5 (fun q hq => by cases hq; rfl)
  have hgl4 := zq (zu HB4)
  have hgl14 := zq (zu HB14)
  have HE5 := zh (X5.ext (zu HE4) (fun q hq => by omega))
  have HB5 := zh (X5.kept (zu HB4) (by omega))
  have HB15 := zh (X5.kept (zu HB14) (by omega))
  have HO5 := zh o5
  have m3 := zg (zu HB5) 3 _ rfl
  have m0 := zg (zu HB5) 0 _ rfl
  have m1 := zg (zu HB5) 1 _ rfl
  have f5 : ∀ i, w5.frozen? ⟨w1.heap.size, i, none⟩ = false := fun i => Lib.frozen_of_heap (zu HB5) i
  clear o5 G5 X5 HSR HOE y3n y3 y0 y1 f4
  rw [Nat.zero_add]
  have HBs : Hid ((((w5.setCell ⟨w1.heap.size, 3, none⟩ (.slice a5 50 c5)).setCell ⟨w1.heap.size, 0, none⟩ (.string l)).setCell ⟨w1.heap.size, 1, none⟩ (.string r)).heap[w1.heap.size]? = some (.cells #[.string l, .string r, .string c, .slice a5 50 c5] 99 (0, 0))) := zh (zj (zj (zj (zu HB5) rfl) rfl) rfl)
  have HB1s : Hid ((((w5.setCell ⟨w1.heap.size, 3, none⟩ (.slice a5 50 c5)).setCell ⟨w1.heap.size, 0, none⟩ (.string l)).setCell ⟨w1.heap.size, 1, none⟩ (.string r)).heap[w.heap.size + 1]? = some (.cells zL4 99 (0, 0))) := zh (zbl (zbl (zbl (zu HB15) (by omega)) (by omega)) (by omega))
  go_wp2_with (first
   | (refine zl rfl 99 _ rfl (w1.heap.size) rfl _ _ _ _ (zu HBs) Tryz.underlying99 rfl infoL ?_)
   | (refine zi rfl 99 _ _ rfl rfl (w.heap.size + 1) rfl _ _ _ rfl (zu HB1s) infoL rfl (by simp [Value.oneCell']) ?_; intro Y hy hf9; have HY := zh hy; have FY := zh hf9; clear hy hf9))
  have FZ : Fr (fun q => q = w1.heap.size ∨ q = w.heap.size + 1) w5 Y := (Fr.setCell (Fr.setCell (Fr.setCell (S := fun q => q = w1.heap.size ∨ q = w.heap.size + 1) (Fr.refl _ w5) (a := ⟨w1.heap.size, 3, none⟩) (.inl rfl) _) (a := ⟨w1.heap.size, 0, none⟩) (.inl rfl) _) (a := ⟨w1.heap.size, 1, none⟩) (.inl rfl) _).tr ((zu FY).mono (fun q hq => .inr hq))
  have v0 := zg (zu HY) 0 _ rfl
  have v1 := zg (zu HY) 1 _ rfl
  have v2 := zg (zu HY) 2 _ rfl
  have v3 := zg (zu HY) 3 _ rfl
  have hl5 : uz.length = 50 := by rw [zu HU, List.length_drop, zu H1]
  have hO : zaG Y w.heap.size 201 (.slice a5 50 c5) uz.length (fun j => .string (lnT uz j)) (fun j => .string (lnH uz j)) := by
   have h := zu HO5
   rw [← zu HU, ← hl5] at h
   rw [← hl5]
   refine ((zlX h).fr FZ (fun g hg e9 => ?_)).mono (by omega)
   have := (h.lt g hg).1
   omega
  exact bodyPost_ret (v := .agg #[.string l, .string r, .string c, .slice a5 50 c5]) (by simp [results, Tryz.results130, go_sem, v0, v1, v2, v3]) rfl ⟨_, rfl, hO, FZ.ext (zu HE5) (fun q hq => by omega)⟩
 ·have HU := zh (show uz = un ++ [(a, b)] by rw [zu HUZ]; unfold zav; rw [if_neg (by have := zu HUL; omega)])
  have hlt : ¬ (50 : Int) < ((n + 1 : Nat) : Int) := by omega
  have hlt2 : ¬ 50 < n + 1 := by omega
  have HBs : Hid (((w4.setCell ⟨w1.heap.size, 0, none⟩ (.string l)).setCell ⟨w1.heap.size, 1, none⟩ (.string r)).heap[w1.heap.size]? = some (.cells #[.string l, .string r, .string c, .slice a3 (n + 1) c3] 99 (0, 0))) := zh (zj (zj (zu HB4) rfl) rfl)
  have HB1s : Hid (((w4.setCell ⟨w1.heap.size, 0, none⟩ (.string l)).setCell ⟨w1.heap.size, 1, none⟩ (.string r)).heap[w.heap.size + 1]? = some (.cells zL4 99 (0, 0))) := zh (zbl (zbl (zu HB14) (by omega)) (by omega))
  go_wp2_with (first
   | (refine zl rfl 99 _ rfl (w1.heap.size) rfl _ _ _ _ (zu HBs) Tryz.underlying99 rfl infoL ?_)
   | (refine zi rfl 99 _ _ rfl rfl (w.heap.size + 1) rfl _ _ _ rfl (zu HB1s) infoL rfl (by simp [Value.oneCell']) ?_; intro Y hy hf9; have HY := zh hy; have FY := zh hf9; clear hy hf9))
  have FZ : Fr (fun q => q = w1.heap.size ∨ q = w.heap.size + 1) w4 Y := (Fr.setCell (Fr.setCell (S := fun q => q = w1.heap.size ∨ q = w.heap.size + 1) (Fr.refl _ w4) (a := ⟨w1.heap.size, 0, none⟩) (.inl rfl) _) (a := ⟨w1.heap.size, 1, none⟩) (.inl rfl) _).tr ((zu FY).mono (fun q hq => .inr hq))
  have v0 := zg (zu HY) 0 _ rfl
  have v1 := zg (zu HY) 1 _ rfl
  have v2 := zg (zu HY) 2 _ rfl
  have v3 := zg (zu HY) 3 _ rfl
  have hO : zaG Y w.heap.size 201 (.slice a3 (n + 1) c3) uz.length (fun j => .string (lnT uz j)) (fun j => .string (lnH uz j)) := by
   have h := (zu HO4)
   rw [← zu H1, ← zu HU] at h
   rw [← zu H1, ← zu HU]
   refine ((zlX h).fr FZ (fun g hg e9 => ?_)).mono (by omega)
   rcases e9 with e9 | e9
   ·subst e9
    obtain ⟨c9, k9⟩ := zeh h hg
    rw [zu HB4] at k9
    injection k9 with k9
    injection k9 with _ k9
    exact absurd k9 (by decide)
   ·have := (h.lt g hg).1
    omega
  exact bodyPost_ret (v := .agg #[.string l, .string r, .string c, .slice a3 (n + 1) c3]) (by simp [results, Tryz.results130, go_sem, v0, v1, v2, v3]) rfl ⟨_, rfl, hO, FZ.ext (zu HE4) (fun q hq => by omega)⟩
set_option maxRecDepth 10000 in
set_option maxHeartbeats 4000000 in
theorem zj1 (a b c l r : ByteArray) (v : Value) (n : Nat) (tx hf : Nat → ByteArray) (w : World) (hv : zag w v n (fun j => .string (tx j)) (fun j => .string (hf j))) (hn : n ≤ 50) :
  Calls Tryz.prog 136 #[.agg #[.string a, .string b, .string c, v], .string { data := #[] }, .string l, .string r] w fun e w' => ∃ v', e = .returned (.tuple #[.agg #[.string a, .string b, .string c, v'], .int .i64 2]) ∧ zaG w' w.heap.size 201 v' n (fun j => .string (tx j)) (fun j => .string (hf j)) ∧ Ext w w' := by
 have infoL : (Tryz.prog.info? 99).map (·.size) = some 4 := by kernel_rfl
 have HC := zh (fun W (E : Ext w W) => zaq a b c v n tx hf W (hv.ext E) (by omega))
 obtain ⟨ao, ca, rfl, _, _⟩ := hv
 obtain ⟨V, hV⟩ : ∃ V, V = (w.alloc (.cells #[.string a, .string b, .string c, .slice ao n ca] 99)).alloc (.cells zL4 99) := ⟨_, rfl⟩
 have E0 : Ext w V := by rw [hV]; exact ((Ext.refl w).alloc _).alloc _
 have HB1 : Hid (V.heap[w.heap.size + 1]? = some (.cells zL4 99 (0, 0))) := zh (by rw [hV]; have h := zk (w.alloc (.cells #[.string a, .string b, .string c, .slice ao n ca] 99)) (.cells zL4 99); rw [show (w.alloc (.cells #[.string a, .string b, .string c, .slice ao n ca] 99)).heap.size = w.heap.size + 1 by simp] at h; exact h)
 have sz0 : w.heap.size + 1 < V.heap.size := zq (zu HB1)
 have HV := zh hV
 clear hV
 go_enter Tryz.func136, Tryz.ntmps136
 go_wp2_with fail
 rw [← zu HV]
 clear HV
 refine ((zu HC) _ E0).mono ?_
 rintro e w1 ⟨ua, uc, rfl, HO, E1⟩
 replace HB1 := E1.hk HB1
 have HE := zh (E0.trans E1)
 clear HC E0 E1
 go_wp2_with (first
  | (refine zi rfl 99 _ _ rfl rfl (w.heap.size + 1) rfl _ _ _ rfl (zu HB1) infoL rfl (by simp [Value.oneCell']) ?_; intro Z hy hf9; have HY := zh hy; have FY := zh hf9; clear hy hf9))
 have v0 := zg (zu HY) 0 _ rfl
 have v1 := zg (zu HY) 1 _ rfl
 have v2 := zg (zu HY) 2 _ rfl
 have v3 := zg (zu HY) 3 _ rfl
 exact bodyPost_ret (v := .tuple #[.agg #[.string a, .string b, .string c, .slice ua n uc], .int .i64 2]) (by simp [results, Tryz.results136, go_sem, v0, v1, v2, v3]) rfl ⟨_, rfl, ((zu HO).fr (zu FY) (fun g hg e9 => by have := ((zu HO).lt g hg).1; omega)).mono (by omega), (zu FY).ext (zu HE) (fun q hq => by omega)⟩
set_option maxRecDepth 10000 in
set_option maxHeartbeats 4000000 in
theorem zjl (a b c t l r : ByteArray) (ht : t.toList ≠ []) (v : Value) (n : Nat) (tx hf : Nat → ByteArray) (w : World) (hv : zag w v n (fun j => .string (tx j)) (fun j => .string (hf j))) (hn : n ≤ 50) :
  Calls Tryz.prog 136 #[.agg #[.string a, .string b, .string c, v], .string t, .string l, .string r] w fun e w' => ∃ v', e = .returned (.tuple #[.agg #[.string l, .string r, .string t, v'], .int .i64 1]) ∧ zaG w' w.heap.size 201 v' (zav (unL tx hf n) (a, b)).length (fun j => .string (lnT (zav (unL tx hf n) (a, b)) j)) (fun j => .string (lnH (zav (unL tx hf n) (a, b)) j)) ∧ Ext w w' := by
 have infoL : (Tryz.prog.info? 99).map (·.size) = some 4 := by kernel_rfl
 have HC := zh (fun W (E : Ext w W) => zaT a b c l r v n tx hf W (hv.ext E) hn)
 obtain ⟨uz, huz⟩ : ∃ uz, uz = zav (unL tx hf n) (a, b) := ⟨_, rfl⟩
 rw [← huz] at HC ⊢
 have ht2 : t.toList.isEmpty = false := by cases h : t.toList with | nil => exact absurd h ht | cons x y => rfl
 clear huz
 obtain ⟨ao, ca, rfl, _, _⟩ := hv
 obtain ⟨V, hV⟩ : ∃ V, V = (w.alloc (.cells #[.string a, .string b, .string c, .slice ao n ca] 99)).alloc (.cells zL4 99) := ⟨_, rfl⟩
 have E0 : Ext w V := by rw [hV]; exact ((Ext.refl w).alloc _).alloc _
 have HB1 : Hid (V.heap[w.heap.size + 1]? = some (.cells zL4 99 (0, 0))) := zh (by rw [hV]; have h := zk (w.alloc (.cells #[.string a, .string b, .string c, .slice ao n ca] 99)) (.cells zL4 99); rw [show (w.alloc (.cells #[.string a, .string b, .string c, .slice ao n ca] 99)).heap.size = w.heap.size + 1 by simp] at h; exact h)
 have sz0 : w.heap.size + 1 < V.heap.size := zq (zu HB1)
 have HV := zh hV
 clear hV
 go_enter Tryz.func136, Tryz.ntmps136
 go_wp2_with fail
 rw [← zu HV]
 clear HV
 refine ((zu HC) _ E0).mono ?_
 rintro e w1 ⟨v1, rfl, hO, E1⟩
 obtain ⟨ua, un, uc, rfl⟩ : ∃ ua un uc, v1 = .slice ua un uc := by
  obtain ⟨g1, g2, e1, _⟩ := hO.reads
  exact ⟨_, _, _, e1⟩
 have HO := zh hO
 replace HB1 := E1.hk HB1
 have HE := zh (E0.trans E1)
 have z1 := E1.size
 have hb1 := zq (zu HB1)
 have HN := zh (heap_alloc_new w1 (.cells zL4 99))
 clear HC E0 E1 hO
 go_wp2_with (first
  | (refine zi rfl 99 _ _ rfl rfl (w1.heap.size) rfl _ _ _ rfl (zu HN) infoL rfl (by simp [Value.oneCell']) ?_; intro U hB hU; have hU1 := hU.ext ((Ext.refl w1).alloc _) (fun q hq => by omega); have HEU := zh hU1; have HBU := zh hB; have u2 : U.cell? ⟨w1.heap.size, 2, none⟩ = some (.string c) := zg hB 2 _ rfl; have fu : ∀ i, U.frozen? ⟨w1.heap.size, i, none⟩ = false := fun i => Lib.frozen_of_heap hB i; have HBs := zh (zj (i := 2) (v := .string t) (cs' := #[.string l, .string r, .string t, .slice ua un uc]) hB rfl); have HB1s := zh (zbl (c := w1.heap.size) (i := 2) (v := .string t) (hU1.kept (zu HB1)) (by omega)); clear hB hU hU1)
  | (refine zl rfl 99 _ rfl (w1.heap.size) rfl _ _ _ _ (zu HBs) Tryz.underlying99 rfl infoL ?_)
  | (refine zi rfl 99 _ _ rfl rfl (w.heap.size + 1) rfl _ _ _ rfl (zu HB1s) infoL rfl (by simp [Value.oneCell']) ?_; intro Z hy hf9; have HY := zh hy; have FY := zh hf9; clear hy hf9))
 have v0 := zg (zu HY) 0 _ rfl
 have v1 := zg (zu HY) 1 _ rfl
 have v2 := zg (zu HY) 2 _ rfl
 have v3 := zg (zu HY) 3 _ rfl
 have FZ : Fr (fun q => q = w1.heap.size ∨ q = w.heap.size + 1) U Z := (Fr.setCell (S := fun q => q = w1.heap.size ∨ q = w.heap.size + 1) (Fr.refl _ U) (a := ⟨w1.heap.size, 2, none⟩) (.inl rfl) _).tr ((zu FY).mono (fun q hq => .inr hq))
 exact bodyPost_ret (v := .tuple #[.agg #[.string l, .string r, .string t, .slice ua un uc], .int .i64 1]) (by simp [results, Tryz.results136, go_sem, v0, v1, v2, v3]) rfl ⟨_, rfl, (((zu HO).ext (zu HEU)).fr FZ (fun g hg e9 => by have := (zu HO).lt g hg; omega)).mono (by omega), FZ.ext ((zu HE).trans (zu HEU)) (fun q hq => by omega)⟩
set_option maxRecDepth 10000 in
set_option maxHeartbeats 4000000 in
theorem zkD (a b c : ByteArray) (v : Value) (n : Nat) (tx hf : Nat → ByteArray) (w : World) (hv : zag w v n (fun j => .string (tx j)) (fun j => .string (hf j))) (hn : n ≤ 50) (hz : n = 0) :
  Calls Tryz.prog 142 #[.agg #[.string a, .string b, .string c, v]] w fun e w' => ∃ v', e = .returned (.tuple #[.agg #[.string a, .string b, .string c, v'], .int .i64 2]) ∧ zaG w' w.heap.size 201 v' 0 (fun j => .string (tx j)) (fun j => .string (hf j)) ∧ Ext w w' := by
 have HZ := zh hz
 clear hz
 have infoL : (Tryz.prog.info? 99).map (·.size) = some 4 := by kernel_rfl
 have HC := zh (fun W (E : Ext w W) => zaq a b c v n tx hf W (hv.ext E) (by omega))
 obtain ⟨ao, ca, rfl, _, _⟩ := hv
 obtain ⟨V, hV⟩ : ∃ V, V = (w.alloc (.cells #[.string a, .string b, .string c, .slice ao n ca] 99)).alloc (.cells zL4 99) := ⟨_, rfl⟩
 have E0 : Ext w V := by rw [hV]; exact ((Ext.refl w).alloc _).alloc _
 have HB1 : Hid (V.heap[w.heap.size + 1]? = some (.cells zL4 99 (0, 0))) := zh (by rw [hV]; have h := zk (w.alloc (.cells #[.string a, .string b, .string c, .slice ao n ca] 99)) (.cells zL4 99); rw [show (w.alloc (.cells #[.string a, .string b, .string c, .slice ao n ca] 99)).heap.size = w.heap.size + 1 by simp] at h; exact h)
 have sz0 : w.heap.size + 1 < V.heap.size := zq (zu HB1)
 have HV := zh hV
 clear hV
 go_enter Tryz.func142, Tryz.ntmps142
 go_wp2_with fail
 rw [← zu HV]
 clear HV
 refine ((zu HC) _ E0).mono ?_
 rintro e w1 ⟨ua, uc, rfl, HO, E1⟩
 replace HB1 := E1.hk HB1
 have HE := zh (E0.trans E1)
 have z1 := E1.size
 have hb1 := zq (zu HB1)
 have HN := zh (heap_alloc_new w1 (.cells zL4 99))
 clear HC E0 E1
 have hz := zu HZ
 subst hz
 go_wp2_with (first
  | (refine zi rfl 99 _ _ rfl rfl (w1.heap.size) rfl _ _ _ rfl (zu HN) infoL rfl (by simp [Value.oneCell']) ?_; intro U hB hU; have hU1 := hU.ext ((Ext.refl w1).alloc _) (fun q hq => by omega); have HEU := zh hU1; have HBU := zh hB; have u3 : U.cell? ⟨w1.heap.size, 3, none⟩ = some (.slice ua 0 uc) := zg hB 3 _ rfl; have HB1s := hU1.hk HB1; clear hB hU hU1)
  | (refine zl rfl 99 _ rfl (w1.heap.size) rfl _ _ _ _ (zu HBU) Tryz.underlying99 rfl infoL ?_)
  | (refine zi rfl 99 _ _ rfl rfl (w.heap.size + 1) rfl _ _ _ rfl (zu HB1s) infoL rfl (by simp [Value.oneCell']) ?_; intro Z hy hf9; have HY := zh hy; have FY := zh hf9; clear hy hf9))
 have v0 := zg (zu HY) 0 _ rfl
 have v1 := zg (zu HY) 1 _ rfl
 have v2 := zg (zu HY) 2 _ rfl
 have v3 := zg (zu HY) 3 _ rfl
 exact bodyPost_ret (v := .tuple #[.agg #[.string a, .string b, .string c, .slice ua 0 uc], .int .i64 2]) (by simp [results, Tryz.results142, go_sem, v0, v1, v2, v3]) rfl ⟨_, rfl, (((zu HO).ext (zu HEU)).fr (zu FY) (fun g hg e9 => by have := (zu HO).lt g hg; omega)).mono (by omega), (zu FY).ext ((zu HE).trans (zu HEU)) (fun q hq => by omega)⟩
end Go.Proofs.YtinfdhbnljnifaaGreatDoor
