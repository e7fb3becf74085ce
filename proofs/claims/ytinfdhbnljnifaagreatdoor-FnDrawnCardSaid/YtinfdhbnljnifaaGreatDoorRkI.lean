import Derived.Test.YtinfdhbnljnifaaGreatDoorFdB
import Derived.Test.YtinfdhbnljnifaaGreatDoorKys
import Derived.Test.YtinfdhbnljnifaaGreatDoorKmU
import Derived.Test.YtinfdhbnljnifaaGreatDoorSpecClean
namespace Go.Proofs.YtinfdhbnljnifaaGreatDoor
open Go.RowKit
def RkOut (base : Nat) (w : World) (A : List Int) (R : List (List Int × Int) × Nat × Bool) (e : Ending) : Prop :=
 ∃ (hv kv : Value) (rs : List Value), e = .returned (.tuple #[.agg #[hv, .bool R.2.2], kv]) ∧ w.ownsRow base 5 1 hv (A.drop R.2.1).length ((A.drop R.2.1).map (Value.int .u8)) ∧ zaA w base kv rs R.1
theorem zaA.down {w : World} {base base' : Nat} {v : Value} {rs : List Value} {cs : List (List Int × Int)} (h : zaA w base v rs cs) (hb : base' ≤ base) : zaA w base' v rs cs := by
 obtain ⟨h0, ⟨ys, h1, h2⟩, h3, h4⟩ := h
 exact ⟨h0, ⟨ys, zah h1 hb, h2⟩, fun j hj => zah (h3 j hj) hb, h4⟩
theorem zo1 : (Tryz.prog.info? 95).map (fun i => (i.zero, i.size, i.bytes)) = some (some (.agg #[.int .i64 0, .slice none 0 0]), 2, 32) := by kernel_rfl
theorem znn {w : World} {base : Nat} {v : Value} (h : w.ownsRow base 95 2 v 0 []) : zaA w base v [] [] :=
 ⟨rfl, ⟨[], h, fun j hj => by simp at hj⟩, fun j hj => by simp at hj, fun i j g _ hj _ => by simp at hj⟩
theorem zaA.slice {w : World} {base : Nat} {v : Value} {rs : List Value} {cs : List (List Int × Int)} (h : zaA w base v rs cs) : ∃ a c, v = .slice a cs.length c := by
 obtain ⟨_, ⟨ys, h1, _⟩, _⟩ := h
 rcases h1.2 with ⟨e, h0⟩ | ⟨g, cap9, cur, e, _⟩
 ·exact ⟨none, 0, by rw [h0]; exact e⟩
 ·exact ⟨_, _, e⟩
theorem zkt (w : World) (size : Nat) (a : Option Addr) (c : Nat) : Src w size (.slice a 0 c) 0 [] := by
 refine ⟨by simp, fun u hu => by simp at hu, ?_⟩
 cases a with
 | none => exact .inl ⟨c, rfl, rfl⟩
 | some ad => exact .inr ⟨ad, c, rfl, fun j u hj => by simp at hj⟩
theorem zmt (w : World) (x : Int) : (w.alloc (.cells #[.int .i32 x] 21)).ownsRow w.heap.size 21 1 (.slice (some ⟨w.heap.size, 0, none⟩) 1 1) [x].length ([x].map (Value.int .i32)) :=
 ⟨by simp, .inr ⟨w.heap.size, 1, #[.int .i32 x], rfl, Nat.le_refl _, zk w _, Nat.le_refl _, by unfold maxLen; simp, by simp, by simp⟩⟩
theorem znF (l : List Int) (n j : Nat) (h : j < n) : at0 (l.take n) j = at0 l j := by simp [at0, h]
theorem zeL {W W' : World} {base : Nat} {v u : Value} {n m : Nat} {xs ys : List Value} (h : W.ownsRow base 5 1 u m xs) (hy : W.ownsRow base 95 2 v n ys) (hg : W.grownBy W' v.ownBlock) : W'.ownsRow base 5 1 u m xs :=
 za8 h (fun g hgu => hg.block g (h.lt g hgu).2 (fun e => zaw h hy (by decide) hgu e.symm))
theorem zer {w : World} {base : Nat} {a : Option Addr} {c : Nat} {A : List Int} (h : w.ownsRow base 5 1 (.slice a A.length c) A.length (A.map (Value.int .u8))) (i : Nat) (hi : i < A.length) : ∃ g, a = some ⟨g, 0, none⟩ ∧ A.length ≤ c ∧ zx w .u8 (.slice (some ⟨g, i, none⟩) (A.length - i) (c - i)) (A.drop i) := by
 rcases h.2 with ⟨_, e0⟩ | ⟨g, cc, cur, e0, hg, hb, hcc, _, _, ht⟩
 ·omega
 ·obtain ⟨e1, _, e2⟩ := Value.slice.inj e0
  subst e1
  subst e2
  refine ⟨g, rfl, hcc, ⟨some ⟨g, i, none⟩, c - i, by rw [List.length_drop], by rw [List.length_drop]; omega, fun _ => ⟨g, i, rfl, fun j hj => ?_⟩⟩⟩
  obtain ⟨_, cap9, h9, _, h8⟩ := zz h
  obtain ⟨b9, o9, e9, hc9⟩ := h8 (by omega)
  obtain ⟨rfl, rfl⟩ : b9 = g ∧ o9 = 0 := by
   have := (Value.slice.inj h9).1
   rw [e9] at this
   simpa using (Option.some.inj this).symm
  have := hc9 (i + j) (by simp at hj; omega)
  rw [zaQ]
  simpa using this
set_option maxRecDepth 10000 in
set_option maxHeartbeats 4000000 in
theorem zfU (ha : Option Addr) (hc : Nat) (hs bs : List Int) (p : Bool) (v : Value) (w : World) (hh : zx w .u8 (.slice ha hs.length hc) hs) (hv : zx w .u8 v bs) (hB : zv hs) (hB2 : zv bs) (hl : hs.length + bs.length ≤ 8000000) :
  Calls Tryz.prog 126 #[.agg #[.slice ha hs.length hc, .bool p], v] w fun e w' => RkOut w.heap.size w' (hs ++ bs) (rk (hs ++ bs) p) e ∧ Ext w w' := by
 obtain ⟨va, vc, rfl, _⟩ := id hv
 obtain ⟨A, hA⟩ : ∃ A, A = hs ++ bs := ⟨_, rfl⟩
 rw [← hA]
 obtain ⟨R, hR⟩ : ∃ R, R = rk A p := ⟨_, rfl⟩
 rw [← hR]
 have HR := zh hR
 clear hR
 obtain ⟨ic, hic, hc0, hc1, hc2⟩ := info_parts zo1
 have infoT : (Tryz.prog.info? 197).map (·.size) = some 4 := by kernel_rfl
 have infoKR : (Tryz.prog.info? 145).map (·.size) = some 2 := by kernel_rfl
 obtain ⟨i0, hi0, hz0, hz1, hz2⟩ := info_parts zbP
 obtain ⟨V, hV⟩ : ∃ V, V = (w.alloc (.cells #[.slice ha hs.length hc, .bool p] 145)).alloc (.cells #[.slice none 0 0, .bool false] 145) := ⟨_, rfl⟩
 have E0 : Ext w V := by rw [hV]; exact ((Ext.refl w).alloc _).alloc _
 have zV : V.heap.size = w.heap.size + 1 + 1 := by rw [hV]; simp
 have HB0 : Hid (V.heap[w.heap.size]? = some (.cells #[.slice ha hs.length hc, .bool p] 145 (0, 0))) := zh (by rw [hV]; exact ((Ext.refl _).alloc _).kept (zk w _))
 have HB1 : Hid (V.heap[w.heap.size + 1]? = some (.cells #[.slice none 0 0, .bool false] 145 (0, 0))) := zh (by rw [hV]; have h := zk (w.alloc (.cells #[.slice ha hs.length hc, .bool p] 145)) (.cells #[.slice none 0 0, .bool false] 145); rw [show (w.alloc (.cells #[.slice ha hs.length hc, .bool p] 145)).heap.size = w.heap.size + 1 by simp] at h; exact h)
 obtain ⟨V2, hV2⟩ : ∃ V2, V2 = V.alloc (.cells #[] 5) := ⟨_, rfl⟩
 have EV : Ext V V2 := by rw [hV2]; exact (Ext.refl V).alloc _
 have zV2 : V2.heap.size = w.heap.size + 1 + 1 + 1 := by rw [hV2]; simp [zV]
 have HOe : Hid (V2.ownsRow (w.heap.size + 1 + 1) 5 1 (.slice (some ⟨w.heap.size + 1 + 1, 0, none⟩) 0 0) 0 []) := zh (by have h := zaD V 5 1; rw [← hV2, zV] at h; exact h)
 have HVV : Hid (V2 = ((w.alloc (.cells #[.slice ha hs.length hc, .bool p] 145)).alloc (.cells #[.slice none 0 0, .bool false] 145)).alloc (.cells #[] 5)) := zh (by rw [hV2, hV])
 have HSh := zh (Src.ints (hh.ext (E0.trans EV)))
 replace HB0 := EV.hk HB0
 replace HB1 := EV.hk HB1
 have HE2 := zh (E0.trans EV)
 have HV := zh hv
 clear hh hv hV hV2 E0 EV zV
 go_enter Tryz.func126, Tryz.ntmps126
 go_wp2_with (at_builtin; refine zaS.intro ?_)
 show wpList _ _ _ _ _ _
 rw [← zu HVV]
 clear HVV
 refine zd rfl _ _ 22 rfl (w.heap.size + 1 + 1) 5 i0 (.int .u8 0) 1 1 Tryz.underlying22 hi0 hz0 hz1 hz2 rfl (by decide) _ 0 [] rfl (zu HOe) _ hs.length (hs.map (Value.int .u8)) rfl (zu HSh) (by unfold maxLen; omega) (by omega) (by omega) ?_
 intro v2 w2 o2 G2 _
 rw [Nat.zero_add, List.nil_append] at o2
 obtain ⟨a2, c2, rfl⟩ : ∃ a c, v2 = .slice a hs.length c := by
  rcases o2.2 with ⟨e, h0⟩ | ⟨g, cap9, cur, e, _⟩
  ·exact ⟨none, 0, by rw [h0]; exact e⟩
  ·exact ⟨_, _, e⟩
 have X2 := Fr.grown (S := fun q => q = w.heap.size + 1 + 1) (Fr.refl _ V2) G2 (fun q hq => by cases hq; rfl)
 replace HB0 := zh (X2.kept (zu HB0) (by omega))
 replace HB1 := zh (X2.kept (zu HB1) (by omega))
 replace HE2 := zh (X2.ext (zu HE2) (fun q hq => by omega))
 have HO2 := zh o2
 have HSb := zh (Src.ints ((zu HV).ext (zu HE2)))
 have z2 := X2.size
 clear G2 X2 o2 HOe HSh
 go_wp2_with (at_builtin; refine zaS.intro ?_)
 show wpList _ _ _ _ _ _
 refine zd rfl _ _ 22 rfl (w.heap.size + 1 + 1) 5 i0 (.int .u8 0) 1 1 Tryz.underlying22 hi0 hz0 hz1 hz2 rfl (by decide) _ hs.length _ rfl (zu HO2) _ bs.length (bs.map (Value.int .u8)) rfl (zu HSb) (by unfold maxLen; omega) (by omega) (by omega) ?_
 intro v3 w3 o3 G3 _
 have hAl : A.length = hs.length + bs.length := by rw [hA]; simp
 have hAB : zv A := by
  rw [hA]
  intro n hn
  rcases List.mem_append.1 hn with h | h
  ·exact hB n h
  ·exact hB2 n h
 rw [← List.map_append, ← hA, ← hAl] at o3
 obtain ⟨a3, c3, rfl⟩ : ∃ a c, v3 = .slice a A.length c := by
  rcases o3.2 with ⟨e, h0⟩ | ⟨g, cap9, cur, e, _⟩
  ·exact ⟨none, 0, by rw [h0]; exact e⟩
  ·exact ⟨_, _, e⟩
 have X3 := Fr.grown (S := fun q => w.heap.size + 1 + 1 ≤ q) (Fr.refl _ w2) G3 (fun q hq => ((zu HO2).lt q hq).1)
 replace HB0 := zh (X3.kept (zu HB0) (by omega))
 replace HB1 := zh (X3.kept (zu HB1) (by omega))
 replace HE2 := zh (X3.ext (zu HE2) (fun q hq => by omega))
 have HO3 := zh o3
 have z3 := X3.size
 have HAL := zh hAl
 have HAB := zh hAB
 have q1 := zg (zu HB0) 1 _ rfl
 have q1a : ∀ o, (w3.alloc o).cell? ⟨w.heap.size, 1, none⟩ = some (.bool p) := fun o => ((Ext.refl w3).alloc o).cell q1
 have hA8 : A.length ≤ 8000000 := by omega
 clear G3 X3 o3 HO2 HSb hAl hAB hA q1
 have HKe := zh (zaD w3 95 2)
 have HE3 := zh ((zu HE2).alloc (.cells #[] 95))
 have HA3 := zh (((Ext.refl w3).alloc (.cells #[] 95)).owns (zu HO3))
 have HB13 := zh (((Ext.refl w3).alloc (.cells #[] 95)).kept (zu HB1))
 have hz3 : w.heap.size + 1 + 1 ≤ w3.heap.size := by omega
 clear HE2 HO3 HB0 HB1
 go_wp2_with fail
 go_loopw [7, 8, 9] (fun kv pv iv wr => ∃ (i : Nat) (q : Bool) (ks : List (List Int × Int)) (rs : List Value), i ≤ A.length ∧ pv = .bool q ∧ iv = .int .i64 i ∧ Hid (zaA wr (w.heap.size + 1 + 1) kv rs ks) ∧ Hid (ks.length ≤ i) ∧ Hid (wr.ownsRow (w.heap.size + 1 + 1) 5 1 (.slice a3 A.length c3) A.length (A.map (Value.int .u8))) ∧ Hid (R = (ks ++ (rk (A.drop i) q).1, i + (rk (A.drop i) q).2.1, (rk (A.drop i) q).2.2)) ∧ Hid (wr.heap[w.heap.size + 1]? = some (.cells #[.slice none 0 0, .bool false] 145 (0, 0))) ∧ Hid (Ext w wr) ∧ (w.heap.size + 1 + 1) ≤ wr.heap.size) (fun _ _ iv _ => A.length - (intOf iv).toNat)
 case atStart => exact ⟨0, p, [], [], Nat.zero_le _, rfl, rfl, zh (znn (zah (zu HKe) hz3)), zh (Nat.le_refl _), HA3, zh (by rw [zu HR]; simp), HB13, HE3, by simp; omega⟩
 case round =>
  obtain ⟨i, q, ks, rs, hi, rfl, rfl, HK, HKL, HA, HQ, HB, HE, hz⟩ := hrel
  obtain ⟨ka, kc, hkv⟩ := (zu HK).slice
  subst hkv
  have hc3 : A.length ≤ c3 := by
   rcases (zu HA).2 with ⟨e9, e0⟩ | ⟨g, cc, cur, e0, _, _, h9, _⟩
   ·omega
   ·have := (Value.slice.inj e0).2.2; omega
  by_cases hlt : i < A.length
  ·have hltI : (i : Int) < (A.length : Int) := by omega
   obtain ⟨g3, hg3⟩ : ∃ g, a3 = some ⟨g, 0, none⟩ := by
    obtain ⟨g, e, _⟩ := zer (zu HA) i hlt
    exact ⟨g, e⟩
   subst hg3
   have hci : (i : Int) ≤ (A.length : Int) := by omega
   have hcA : (A.length : Int) ≤ (c3 : Int) := by omega
   have hcm : ¬ c3 = i := by omega
   have HDr := zh (List.length_drop (i := i) (l := A))
   cases q
   ·have hOn := zh (fun W (hW : Ext wr W) => znt A (zu HAB) _ i W ((zz (zu HA)).ext hW) hlt (by omega))
    obtain ⟨t, ht⟩ : ∃ t, t = zdc (A.drop i) := ⟨_, rfl⟩
    have htn := zn1 (A.drop i) (by rw [zu HDr]; omega)
    have htr := zoX (A.drop i)
    rw [← ht] at hOn htn htr
    rw [zu HDr] at htn
    have HTT := zh ht
    clear ht
    obtain ⟨tn, tk, tr, tp⟩ := t
    simp only [] at htn htr
    go_wp2_with fail
    refine ((zu hOn) wr (Ext.refl _)).mono ?_
    rintro e w4 ⟨he, E4⟩
    simp only [tkV] at he
    subst he
    have HKf : Hid (∀ g, (Value.slice ka ks.length kc).ownBlock = some g → g < wr.heap.size) := zh (fun g hg => ((zu HK).foot (.inl hg)).2)
    have HOld := zh (fun g (hg : zdl (.slice ka ks.length kc) rs ks.length g) => ((zu HK).foot hg).2)
    have z4 := E4.size
    replace HK := zh ((zu HK).ext E4)
    replace HA := zh ((E4).owns (zu HA))
    replace HB := zh ((E4).kept (zu HB))
    replace HE := Hid.ht HE E4
    clear E4 hOn
    have HN4 := zh (heap_alloc_new w4 (.cells #[.int .i64 0, .int .i64 0, .int .i64 0, .bool false] 197))
    go_wp2_with (first | (refine zi rfl 197 _ _ rfl rfl (w4.heap.size) rfl _ _ #[.int .i64 (tn : Int), .int .i64 tk, .int .i64 tr, .bool tp] rfl (zu HN4) infoT rfl (by simp [Value.oneCell']) ?_; intro U hb9 hf9; have HTb := zh hb9; have HEU := zh (hf9.ext ((Ext.refl w4).alloc _) (fun q hq => by omega)); clear hb9 hf9; refine zaS.intro ?_))
    show wpList _ _ _ _ _ _
    have EU := zu HEU
    have zU := EU.size
    replace HK := zh ((zu HK).ext EU)
    replace HA := zh ((EU).owns (zu HA))
    replace HB := zh ((EU).kept (zu HB))
    replace HE := Hid.ht HE EU
    clear EU HEU HN4
    have hzU : (w.heap.size + 1 + 1) ≤ U.heap.size := by omega
    have t0 := zg (zu HTb) 0 _ rfl
    have t1 := zg (zu HTb) 1 _ rfl
    by_cases hn0 : tn = 0
    ·subst hn0
     have HF : Hid (R = (ks, i, false)) := zh (by rw [zu HQ, ziD (by unfold zbB; rw [if_neg (by rw [zu HDr]; omega), if_neg (by simp), ← zu HTT, if_pos rfl])]; simp)
     clear HQ HTT
     replace hz : (w.heap.size + 1 + 1) ≤ U.heap.size := hzU
     have HSrc : Hid (Src (U.alloc (.cells #[] 5)) 1 (.slice (some ⟨g3, i, none⟩) (A.length - i) (c3 - i)) (A.length - i) ((A.drop i).map (Value.int .u8))) := zh (by
      obtain ⟨g, e, _, h9⟩ := zer (zu HA) i hlt
      obtain rfl : g3 = g := by simpa using congrArg (fun o : Option Addr => o.map (·.block)) e
      have h8 := Src.ints (h9.ext ((Ext.refl U).alloc (.cells #[] 5)))
      rwa [List.length_drop] at h8)
     have HOn := zh (zaD U 5 1)
     go_wp2_with (at_builtin; refine zaS.intro ?_)
     show wpList _ _ _ _ _ _
     refine zd rfl _ _ 22 rfl U.heap.size 5 i0 (.int .u8 0) 1 1 Tryz.underlying22 hi0 hz0 hz1 hz2 rfl (by decide) _ 0 [] rfl (zu HOn) _ (A.length - i) ((A.drop i).map (Value.int .u8)) rfl (zu HSrc) (by unfold maxLen; omega) (by omega) (by simp) ?_
     intro v9 w9 o9 G9 _
     rw [Nat.zero_add, List.nil_append] at o9
     obtain ⟨a9, c9, rfl⟩ : ∃ a c, v9 = .slice a ((A.length - i)) c := by
      rcases o9.2 with ⟨e, h0⟩ | ⟨g, cap9, cur, e, _⟩
      ·exact ⟨none, 0, by rw [h0]; exact e⟩
      ·exact ⟨_, _, e⟩
     have X9 := Fr.grown (S := fun q => q = U.heap.size) (Fr.refl _ (U.alloc (.cells #[] 5))) G9 (fun q hq => by cases hq; rfl)
     have HK9 := zh (((zu HK).ext ((Ext.refl U).alloc (.cells #[] 5))).fr X9 (fun g hg e9 => by have := ((zu HK).foot hg).2; omega))
     have HB9 := zh (X9.kept (((Ext.refl U).alloc (.cells #[] 5)).kept (zu HB)) (by omega))
     have HE9 := zh (X9.ext ((zu HE).alloc (.cells #[] 5)) (fun q hq => by omega))
     have HO9 : Hid (w9.ownsRow U.heap.size 5 1 (.slice a9 ((A.length - i)) c9) (A.drop (i)).length ((A.drop (i)).map (Value.int .u8))) := zh (by rw [List.length_drop]; exact o9)
     have z9 := X9.size
     clear o9 G9 X9 HOn
     go_wp2_with (refine zi rfl 145 _ _ rfl rfl (w.heap.size + 1) rfl _ _ #[.slice a9 ((A.length - i)) c9, .bool false] rfl (zu HB9) infoKR rfl (by simp [Value.oneCell']) ?_; intro Z hy hf9; have HY := zh hy; have FY := zh hf9; clear hy hf9)
     have v0 := zg (zu HY) 0 _ rfl
     have v1 := zg (zu HY) 1 _ rfl
     exact bodyPost_ret (v := .tuple #[.agg #[.slice a9 ((A.length - i)) c9, .bool false], .slice ka ks.length kc]) (by simp [results, Tryz.results126, go_sem, v0, v1]) rfl (by rw [zu HF]; exact ⟨⟨_, _, rs, rfl, zah ((zu FY).owns (zu HO9) (fun g hg e9 => by have := ((zu HO9).lt g hg).1; omega)) (by omega), zaA.down (zaA.fr (zu HK9) (zu FY) (fun g hg e9 => by have := ((zu HK9).foot hg).1; omega)) (by omega)⟩, (zu FY).ext (zu HE9) (fun q hq => by omega)⟩)
    have hnb : ((tn : Int) == 0) = false := by simp; omega
    have hwn : IntKind.i64.wrap ((i : Int) + (tn : Int)) = ((i + tn : Nat) : Int) := by rw [IntKind.wrap_i64]; omega
    have t2 := zg (zu HTb) 2 _ rfl
    have HQ1 : Hid (∀ kk, keyT ⟨tn, tk, tr, tp⟩ = kk → R = (ks ++ kk ++ (rk (A.drop (i + tn)) tp).1, i + tn + (rk (A.drop (i + tn)) tp).2.1, (rk (A.drop (i + tn)) tp).2.2)) := zh (fun kk hkk => by
     rw [zu HQ, zmm (ks := kk) (m := tn) (q := tp) (by unfold zbB; rw [if_neg (by rw [zu HDr]; omega), if_neg (by simp), ← zu HTT, if_neg hn0, hkk])]
     rw [List.drop_drop]
     exact Prod.ext (by simp) (Prod.ext (by simp; omega) rfl))
    clear HQ HTT
    by_cases hk1 : tk = 1
    ·subst hk1
     have HQ2 := zh ((zu HQ1) [([tr], 1)] rfl)
     clear HQ1
     have hwr : IntKind.i32.wrap tr = tr := by rw [IntKind.wrap_i32]; omega
     obtain ⟨X1, hX1⟩ : ∃ X, X = U.alloc (.cells #[.int .i32 tr] 21) := ⟨_, rfl⟩
     have EX1 : Ext U X1 := by rw [hX1]; exact (Ext.refl U).alloc _
     have zX1 : X1.heap.size = U.heap.size + 1 := by rw [hX1]; simp
     obtain ⟨X, hX⟩ : ∃ X, X = X1.alloc (.cells #[.int .i64 1, .slice (some ⟨U.heap.size, 0, none⟩) 1 1] 95) := ⟨_, rfl⟩
     have EX : Ext X1 X := by rw [hX]; exact (Ext.refl X1).alloc _
     have HrX : Hid (X.ownsRow (w.heap.size + 1 + 1) 21 1 (.slice (some ⟨U.heap.size, 0, none⟩) 1 1) [tr].length ([tr].map (Value.int .i32))) := zh (EX.owns (by rw [hX1]; exact zah (base' := (w.heap.size + 1 + 1)) (zmt U tr) (by omega)))
     have HfX : Hid (∀ j g, j < ks.length → (rV rs j).ownBlock = some g → (Value.slice (some ⟨U.heap.size, 0, none⟩) 1 1).ownBlock ≠ some g) := zh (fun j g hj hg h9 => by
      have h1 := (zu HOld) g (.inr ⟨j, hj, hg⟩)
      have h2 : U.heap.size = g := Option.some.inj h9
      omega)
     have HSrc : Hid (Src X 2 (.slice (some ⟨U.heap.size + 1, 0, none⟩) 1 1) 1 [.int .i64 1, .slice (some ⟨U.heap.size, 0, none⟩) 1 1]) := zh (by rw [hX, ← zX1]; exact Src.made _ _ _ rfl (by simp [Value.oneCell']))
     replace EX := EX1.trans EX
     replace HK := zh ((zu HK).ext EX)
     replace HA := zh ((EX).owns (zu HA))
     replace HB := zh ((EX).kept (zu HB))
     replace HE := Hid.ht HE EX
     replace HTb := EX.hk HTb
     have HzX : Hid ((w.heap.size + 1 + 1) ≤ X.heap.size) := zh (by have := EX.size; omega)
     have HXX : Hid (X = (U.alloc (.cells #[.int .i32 tr] 21)).alloc (.cells #[.int .i64 1, .slice (some ⟨U.heap.size, 0, none⟩) 1 1] 95)) := zh (by rw [hX, hX1])
     clear EX EX1 hX hX1 zX1 HOld hz hzU zU
     go_wp2_with (at_builtin; refine zaS.intro ?_)
     show wpList _ _ _ _ _ _
     rw [← zu HXX]
     clear HXX t0 t1 t2
     obtain ⟨ys, hy, hyy⟩ := (zu HK).2.1
     have HY := zh hy
     have HYY := zh hyy
     clear hy hyy
     refine zd rfl _ _ 146 rfl (w.heap.size + 1 + 1) 95 ic (.agg #[.int .i64 0, .slice none 0 0]) 2 32 Tryz.underlying146 hic hc0 hc1 hc2 rfl (by decide) _ _ _ rfl (zu HY) _ 1 [.int .i64 1, (.slice (some ⟨U.heap.size, 0, none⟩) 1 1)] rfl (zu HSrc) (by have := zu HKL; unfold maxLen; omega) (by have := zu HKL; omega) (zu HzX) ?_
     intro v9 w9 o9 G9 _
     have HK9 := zh (zaA.push (d := 1) (xs := [tr]) (zu HK) (zu HY) (zu HYY) (zu HrX) (zu HfX) o9 G9)
     have HA9 := zh (zeL (zu HA) (zu HY) G9)
     have X9 := Fr.grown (S := fun q => (w.heap.size + 1 + 1) ≤ q) (Fr.refl _ X) G9 (fun q hq => ((zu HY).lt q hq).1)
     have HB9 := zh (X9.kept (zu HB) (by omega))
     have HE9 := zh (X9.ext (zu HE) (fun q hq => by omega))
     have hz9 : (w.heap.size + 1 + 1) ≤ w9.heap.size := Nat.le_trans (zu HzX) X9.size
     have HT9 := zh ((G9.block _ (zq (zu HTb)) (fun e9 => by have h1 := ((zu HKf) _ e9.symm); omega)).trans (zu HTb))
     have t0 := zg (zu HT9) 0 _ rfl
     have t3 := zg (zu HT9) 3 _ rfl
     clear o9 G9 X9 HSrc HrX HfX HY HYY HK HA HB HE HzX
     go_wp2
     go_roundw
     case rel => exact ⟨i + tn, tp, _, _, by omega, rfl, by go_num, HK9, zh (by have := zu HKL; simp; omega), HA9, HQ2, HB9, HE9, hz9⟩
     case measure => simp [intOf]; omega
    have hkb : (tk == 1) = false := by simpa using hk1
    by_cases hk0 : 0 < tk
    ·have HQ2 := zh ((zu HQ1) [([], tk)] (by unfold keyT; rw [if_neg hk1, if_pos hk0]))
     clear HQ1
     obtain ⟨X1, hX1⟩ : ∃ X, X = U.alloc (.cells #[] 21) := ⟨_, rfl⟩
     have EX1 : Ext U X1 := by rw [hX1]; exact (Ext.refl U).alloc _
     have zX1 : X1.heap.size = U.heap.size + 1 := by rw [hX1]; simp
     obtain ⟨X, hX⟩ : ∃ X, X = X1.alloc (.cells #[.int .i64 tk, .slice (some ⟨U.heap.size, 0, none⟩) 0 0] 95) := ⟨_, rfl⟩
     have EX : Ext X1 X := by rw [hX]; exact (Ext.refl X1).alloc _
     have HrX : Hid (X.ownsRow (w.heap.size + 1 + 1) 21 1 (.slice (some ⟨U.heap.size, 0, none⟩) 0 0) ([] : List Int).length (([] : List Int).map (Value.int .i32))) := zh (EX.owns (by rw [hX1]; exact zah (base' := (w.heap.size + 1 + 1)) (by have h9 := zaD U 21 1; exact h9) (by omega)))
     have HfX : Hid (∀ j g, j < ks.length → (rV rs j).ownBlock = some g → (Value.slice (some ⟨U.heap.size, 0, none⟩) 0 0).ownBlock ≠ some g) := zh (fun j g hj hg h9 => by
      have h1 := (zu HOld) g (.inr ⟨j, hj, hg⟩)
      have h2 : U.heap.size = g := Option.some.inj h9
      omega)
     have HSrc : Hid (Src X 2 (.slice (some ⟨U.heap.size + 1, 0, none⟩) 1 1) 1 [.int .i64 tk, .slice (some ⟨U.heap.size, 0, none⟩) 0 0]) := zh (by rw [hX, ← zX1]; exact Src.made _ _ _ rfl (by simp [Value.oneCell']))
     replace EX := EX1.trans EX
     replace HK := zh ((zu HK).ext EX)
     replace HA := zh ((EX).owns (zu HA))
     replace HB := zh ((EX).kept (zu HB))
     replace HE := Hid.ht HE EX
     replace HTb := EX.hk HTb
     have HzX : Hid ((w.heap.size + 1 + 1) ≤ X.heap.size) := zh (by have := EX.size; omega)
     have HXX : Hid (X = (U.alloc (.cells #[] 21)).alloc (.cells #[.int .i64 tk, .slice (some ⟨U.heap.size, 0, none⟩) 0 0] 95)) := zh (by rw [hX, hX1])
     clear EX EX1 hX hX1 zX1 HOld hz hzU zU
     go_wp2_with (at_builtin; refine zaS.intro ?_)
     show wpList _ _ _ _ _ _
     rw [← zu HXX]
     clear HXX t0 t1 t2
     obtain ⟨ys, hy, hyy⟩ := (zu HK).2.1
     have HY := zh hy
     have HYY := zh hyy
     clear hy hyy
     refine zd rfl _ _ 146 rfl (w.heap.size + 1 + 1) 95 ic (.agg #[.int .i64 0, .slice none 0 0]) 2 32 Tryz.underlying146 hic hc0 hc1 hc2 rfl (by decide) _ _ _ rfl (zu HY) _ 1 [.int .i64 tk, (.slice (some ⟨U.heap.size, 0, none⟩) 0 0)] rfl (zu HSrc) (by have := zu HKL; unfold maxLen; omega) (by have := zu HKL; omega) (zu HzX) ?_
     intro v9 w9 o9 G9 _
     have HK9 := zh (zaA.push (d := tk) (xs := ([] : List Int)) (zu HK) (zu HY) (zu HYY) (zu HrX) (zu HfX) o9 G9)
     have HA9 := zh (zeL (zu HA) (zu HY) G9)
     have X9 := Fr.grown (S := fun q => (w.heap.size + 1 + 1) ≤ q) (Fr.refl _ X) G9 (fun q hq => ((zu HY).lt q hq).1)
     have HB9 := zh (X9.kept (zu HB) (by omega))
     have HE9 := zh (X9.ext (zu HE) (fun q hq => by omega))
     have hz9 : (w.heap.size + 1 + 1) ≤ w9.heap.size := Nat.le_trans (zu HzX) X9.size
     have HT9 := zh ((G9.block _ (zq (zu HTb)) (fun e9 => by have h1 := ((zu HKf) _ e9.symm); omega)).trans (zu HTb))
     have t0 := zg (zu HT9) 0 _ rfl
     have t3 := zg (zu HT9) 3 _ rfl
     clear o9 G9 X9 HSrc HrX HfX HY HYY HK HA HB HE HzX
     go_wp2
     go_roundw
     case rel => exact ⟨i + tn, tp, _, _, by omega, rfl, by go_num, HK9, zh (by have := zu HKL; simp; omega), HA9, HQ2, HB9, HE9, hz9⟩
     case measure => simp [intOf]; omega
    ·have HQ2 := zh ((zu HQ1) [] (by unfold keyT; rw [if_neg hk1, if_neg hk0]))
     rw [List.append_nil] at HQ2
     clear HQ1
     have t3 := zg (zu HTb) 3 _ rfl
     go_wp2
     go_roundw
     case rel => exact ⟨i + tn, tp, ks, rs, by omega, rfl, by go_num, HK, zh (by have := zu HKL; omega), HA, HQ2, HB, HE, hzU⟩
     case measure => simp [intOf]; omega
   ·have hEn := zh (zna A (zu HAB) _ i wr (zz (zu HA)) hlt (by omega))
    cases he : zfr (A.drop i) with
    | none =>
     have hI : zdO i (A.drop i) = -1 := by unfold zdO; rw [he]
     rw [hI] at hEn
     have HF : Hid (R = (ks, i, true)) := zh (by rw [zu HQ, ziD (by unfold zbB; rw [if_neg (by rw [zu HDr]; omega), if_pos rfl, he])]; simp)
     clear HQ he hI
     go_wp2_with fail
     refine (zu hEn).mono ?_
     rintro e w4 ⟨rfl, E4⟩
     replace HK := zh ((zu HK).ext E4)
     replace HA := zh ((E4).owns (zu HA))
     replace HB := zh ((E4).kept (zu HB))
     replace HE := Hid.ht HE E4
     have z4 := E4.size
     replace hz : (w.heap.size + 1 + 1) ≤ w4.heap.size := by omega
     clear hEn E4
     have HSrc : Hid (Src (w4.alloc (.cells #[] 5)) 1 (.slice (some ⟨g3, i, none⟩) (A.length - i) (c3 - i)) (A.length - i) ((A.drop i).map (Value.int .u8))) := zh (by
      obtain ⟨g, e, _, h9⟩ := zer (zu HA) i hlt
      obtain rfl : g3 = g := by simpa using congrArg (fun o : Option Addr => o.map (·.block)) e
      have h8 := Src.ints (h9.ext ((Ext.refl w4).alloc (.cells #[] 5)))
      rwa [List.length_drop] at h8)
     have HOn := zh (zaD w4 5 1)
     go_wp2_with (at_builtin; refine zaS.intro ?_)
     show wpList _ _ _ _ _ _
     refine zd rfl _ _ 22 rfl w4.heap.size 5 i0 (.int .u8 0) 1 1 Tryz.underlying22 hi0 hz0 hz1 hz2 rfl (by decide) _ 0 [] rfl (zu HOn) _ (A.length - i) ((A.drop i).map (Value.int .u8)) rfl (zu HSrc) (by unfold maxLen; omega) (by omega) (by simp) ?_
     intro v9 w9 o9 G9 _
     rw [Nat.zero_add, List.nil_append] at o9
     obtain ⟨a9, c9, rfl⟩ : ∃ a c, v9 = .slice a ((A.length - i)) c := by
      rcases o9.2 with ⟨e, h0⟩ | ⟨g, cap9, cur, e, _⟩
      ·exact ⟨none, 0, by rw [h0]; exact e⟩
      ·exact ⟨_, _, e⟩
     have X9 := Fr.grown (S := fun q => q = w4.heap.size) (Fr.refl _ (w4.alloc (.cells #[] 5))) G9 (fun q hq => by cases hq; rfl)
     have HK9 := zh (((zu HK).ext ((Ext.refl w4).alloc (.cells #[] 5))).fr X9 (fun g hg e9 => by have := ((zu HK).foot hg).2; omega))
     have HB9 := zh (X9.kept (((Ext.refl w4).alloc (.cells #[] 5)).kept (zu HB)) (by omega))
     have HE9 := zh (X9.ext ((zu HE).alloc (.cells #[] 5)) (fun q hq => by omega))
     have HO9 : Hid (w9.ownsRow w4.heap.size 5 1 (.slice a9 ((A.length - i)) c9) (A.drop (i)).length ((A.drop (i)).map (Value.int .u8))) := zh (by rw [List.length_drop]; exact o9)
     have z9 := X9.size
     clear o9 G9 X9 HOn
     go_wp2_with (refine zi rfl 145 _ _ rfl rfl (w.heap.size + 1) rfl _ _ #[.slice a9 ((A.length - i)) c9, .bool true] rfl (zu HB9) infoKR rfl (by simp [Value.oneCell']) ?_; intro Z hy hf9; have HY := zh hy; have FY := zh hf9; clear hy hf9)
     have v0 := zg (zu HY) 0 _ rfl
     have v1 := zg (zu HY) 1 _ rfl
     exact bodyPost_ret (v := .tuple #[.agg #[.slice a9 ((A.length - i)) c9, .bool true], .slice ka ks.length kc]) (by simp [results, Tryz.results126, go_sem, v0, v1]) rfl (by rw [zu HF]; exact ⟨⟨_, _, rs, rfl, zah ((zu FY).owns (zu HO9) (fun g hg e9 => by have := ((zu HO9).lt g hg).1; omega)) (by omega), zaA.down (zaA.fr (zu HK9) (zu FY) (fun g hg e9 => by have := ((zu HK9).foot hg).1; omega)) (by omega)⟩, (zu FY).ext (zu HE9) (fun q hq => by omega)⟩)
    | some k =>
     have hI : zdO i (A.drop i) = (i : Int) + (k : Int) := by unfold zdO; rw [he]
     rw [hI] at hEn
     have hk6 := ziK _ _ he
     rw [zu HDr] at hk6
     have hneg : ¬ (i : Int) + (k : Int) < 0 := by omega
     have hkc : (i : Int) + (k : Int) ≤ (c3 : Int) := by omega
     have hki : (i : Int) ≤ (i : Int) + (k : Int) := by omega
     have hkw : IntKind.i64.wrap ((i : Int) + (k : Int) + 6) = ((i + (k + 6) : Nat) : Int) := by rw [IntKind.wrap_i64]; omega
     have HQ2 : Hid (R = (ks ++ [(zm ((A.drop i).take k), 2)] ++ (rk (A.drop (i + (k + 6))) false).1, i + (k + 6) + (rk (A.drop (i + (k + 6))) false).2.1, (rk (A.drop (i + (k + 6))) false).2.2)) := zh (by
      rw [zu HQ, zmm (ks := [(zm ((A.drop i).take k), 2)]) (m := k + 6) (q := false) (by unfold zbB; rw [if_neg (by rw [zu HDr]; omega), if_pos rfl, he])]
      rw [List.drop_drop]
      exact Prod.ext (by simp) (Prod.ext (by simp; omega) rfl))
     clear HQ he hI
     go_wp2_with fail
     refine (zu hEn).mono ?_
     rintro e w4 ⟨rfl, E4⟩
     replace HK := zh ((zu HK).ext E4)
     replace HA := zh ((E4).owns (zu HA))
     replace HB := zh ((E4).kept (zu HB))
     replace HE := Hid.ht HE E4
     have z4 := E4.size
     clear hEn E4
     have hCl := zh (zbn ((A.drop i).take k) (fun n hn => (zu HAB) n (List.mem_of_mem_drop (List.mem_of_mem_take hn))) (.slice (some ⟨g3, i, none⟩) k (c3 - i)) w4 (by
      obtain ⟨g, e, _, _, cap9, e9, _, h8⟩ := zer (zu HA) i hlt
      obtain rfl : g3 = g := by simpa using congrArg (fun o : Option Addr => o.map (·.block)) e
      refine ⟨_, _, by rw [List.length_take, zu HDr, Nat.min_eq_left (by omega)], by rw [List.length_take, zu HDr]; omega, fun hp => ?_⟩
      obtain ⟨b9, o9, e8, h7⟩ := h8 (by rw [zu HDr]; omega)
      have e10 := (Value.slice.inj e9).1
      rw [e8] at e10
      obtain ⟨rfl, rfl⟩ : g3 = b9 ∧ i = o9 := by simpa using e10
      refine ⟨g3, i, rfl, fun j hj => ?_⟩
      rw [List.length_take, zu HDr] at hj
      rw [h7 j (by rw [zu HDr]; omega)]
      rw [znF _ _ _ (by omega)]) (by rw [List.length_take, zu HDr]; omega))
     obtain ⟨C, hC⟩ : ∃ C, C = zm ((A.drop i).take k) := ⟨_, rfl⟩
     rw [← hC] at hCl HQ2
     clear hC
     go_wp2_with fail
     refine (zu hCl).mono ?_
     rintro e w5 ⟨r5, rfl, o5, E5⟩
     obtain ⟨ra, rc, rfl⟩ : ∃ a c, r5 = .slice a C.length c := by
      rcases o5.2 with ⟨e, h0⟩ | ⟨g, cap9, cur, e, _⟩
      ·exact ⟨none, 0, by rw [h0]; exact e⟩
      ·exact ⟨_, _, e⟩
     have HOld := zh (fun g (hg : zdl (.slice ka ks.length kc) rs ks.length g) => ((zu HK).foot hg).2)
     replace HK := zh ((zu HK).ext E5)
     replace HA := zh ((E5).owns (zu HA))
     replace HB := zh ((E5).kept (zu HB))
     replace HE := Hid.ht HE E5
     obtain ⟨X, hX⟩ : ∃ X, X = w5.alloc (.cells #[.int .i64 2, .slice ra C.length rc] 95) := ⟨_, rfl⟩
     have EX : Ext w5 X := by rw [hX]; exact (Ext.refl w5).alloc _
     have HrX := zh (zah (base' := (w.heap.size + 1 + 1)) (EX.owns o5) (by omega))
     have HfX : Hid (∀ j g, j < ks.length → (rV rs j).ownBlock = some g → (Value.slice ra C.length rc).ownBlock ≠ some g) := zh (fun j g hj hg h9 => by
      have h1 := (zu HOld) g (.inr ⟨j, hj, hg⟩)
      have h2 := (o5.lt g h9).1
      omega)
     have HSrc : Hid (Src X 2 (.slice (some ⟨w5.heap.size, 0, none⟩) 1 1) 1 [.int .i64 2, .slice ra C.length rc]) := zh (by rw [hX]; exact Src.made _ _ _ rfl (by simp [Value.oneCell']))
     replace HK := zh ((zu HK).ext EX)
     replace HA := zh ((EX).owns (zu HA))
     replace HB := zh ((EX).kept (zu HB))
     replace HE := Hid.ht HE EX
     have HzX : Hid ((w.heap.size + 1 + 1) ≤ X.heap.size) := zh (by have := E5.size; have := EX.size; omega)
     have HXX := zh hX
     clear hCl o5 E5 EX hX HOld
     go_wp2_with (at_builtin; refine zaS.intro ?_)
     show wpList _ _ _ _ _ _
     rw [← zu HXX]
     clear HXX
     obtain ⟨ys, hy, hyy⟩ := (zu HK).2.1
     have HY := zh hy
     have HYY := zh hyy
     clear hy hyy
     refine zd rfl _ _ 146 rfl (w.heap.size + 1 + 1) 95 ic (.agg #[.int .i64 0, .slice none 0 0]) 2 32 Tryz.underlying146 hic hc0 hc1 hc2 rfl (by decide) _ _ _ rfl (zu HY) _ 1 [.int .i64 2, (.slice ra C.length rc)] rfl (zu HSrc) (by have := zu HKL; unfold maxLen; omega) (by have := zu HKL; omega) (zu HzX) ?_
     intro v9 w9 o9 G9 _
     have HK9 := zh (zaA.push (d := 2) (xs := C) (zu HK) (zu HY) (zu HYY) (zu HrX) (zu HfX) o9 G9)
     have HA9 := zh (zeL (zu HA) (zu HY) G9)
     have X9 := Fr.grown (S := fun q => (w.heap.size + 1 + 1) ≤ q) (Fr.refl _ X) G9 (fun q hq => ((zu HY).lt q hq).1)
     have HB9 := zh (X9.kept (zu HB) (by omega))
     have HE9 := zh (X9.ext (zu HE) (fun q hq => by omega))
     have hz9 : (w.heap.size + 1 + 1) ≤ w9.heap.size := Nat.le_trans (zu HzX) X9.size
     clear o9 G9 X9 HSrc HrX HfX HY HYY HK HA HB HE HzX
     go_wp2
     go_roundw
     case rel => exact ⟨i + (k + 6), false, _, _, by omega, rfl, by go_num, HK9, zh (by have := zu HKL; simp; omega), HA9, HQ2, HB9, HE9, hz9⟩
     case measure => simp [intOf]; omega
  ·obtain rfl : i = A.length := by omega
   have hni : ¬ ((A.length : Nat) : Int) < (A.length : Int) := by omega
   have HF : Hid (R = (ks, A.length, q)) := zh (by rw [zu HQ, List.drop_length, ziD (by simp [zbB])]; simp)
   clear HQ
   have hci : (A.length : Int) ≤ (c3 : Int) := by omega
   by_cases hcc : c3 = A.length
   ·subst hcc
    have HOn := zh (zaD wr 5 1)
    go_wp2_with (at_builtin; refine zaS.intro ?_)
    show wpList _ _ _ _ _ _
    refine zd rfl _ _ 22 rfl wr.heap.size 5 i0 (.int .u8 0) 1 1 Tryz.underlying22 hi0 hz0 hz1 hz2 rfl (by decide) _ 0 [] rfl (zu HOn) _ 0 [] rfl (zkt _ _ _ _) (by unfold maxLen; omega) (by omega) (by simp) ?_
    intro v9 w9 o9 G9 _
    rw [Nat.zero_add, List.nil_append] at o9
    obtain ⟨a9, c9, rfl⟩ : ∃ a c, v9 = .slice a (0) c := by
     rcases o9.2 with ⟨e, h0⟩ | ⟨g, cap9, cur, e, _⟩
     ·exact ⟨none, 0, by rw [h0]; exact e⟩
     ·exact ⟨_, _, e⟩
    have X9 := Fr.grown (S := fun q => q = wr.heap.size) (Fr.refl _ (wr.alloc (.cells #[] 5))) G9 (fun q hq => by cases hq; rfl)
    have HK9 := zh (((zu HK).ext ((Ext.refl wr).alloc (.cells #[] 5))).fr X9 (fun g hg e9 => by have := ((zu HK).foot hg).2; omega))
    have HB9 := zh (X9.kept (((Ext.refl wr).alloc (.cells #[] 5)).kept (zu HB)) (by omega))
    have HE9 := zh (X9.ext ((zu HE).alloc (.cells #[] 5)) (fun q hq => by omega))
    have HO9 : Hid (w9.ownsRow wr.heap.size 5 1 (.slice a9 (0) c9) (A.drop (A.length)).length ((A.drop (A.length)).map (Value.int .u8))) := zh (by rw [List.drop_length]; exact o9)
    have z9 := X9.size
    clear o9 G9 X9 HOn
    go_wp2_with (refine zi rfl 145 _ _ rfl rfl (w.heap.size + 1) rfl _ _ #[.slice a9 (0) c9, .bool q] rfl (zu HB9) infoKR rfl (by simp [Value.oneCell']) ?_; intro Z hy hf9; have HY := zh hy; have FY := zh hf9; clear hy hf9)
    have v0 := zg (zu HY) 0 _ rfl
    have v1 := zg (zu HY) 1 _ rfl
    exact bodyPost_ret (v := .tuple #[.agg #[.slice a9 (0) c9, .bool q], .slice ka ks.length kc]) (by simp [results, Tryz.results126, go_sem, v0, v1]) rfl (by rw [zu HF]; exact ⟨⟨_, _, rs, rfl, zah ((zu FY).owns (zu HO9) (fun g hg e9 => by have := ((zu HO9).lt g hg).1; omega)) (by omega), zaA.down (zaA.fr (zu HK9) (zu FY) (fun g hg e9 => by have := ((zu HK9).foot hg).1; omega)) (by omega)⟩, (zu FY).ext (zu HE9) (fun q hq => by omega)⟩)
   ·have hcd : ¬ A.length = c3 := fun e => hcc e.symm
    have HOn := zh (zaD wr 5 1)
    go_wp2_with (at_builtin; refine zaS.intro ?_)
    show wpList _ _ _ _ _ _
    refine zd rfl _ _ 22 rfl wr.heap.size 5 i0 (.int .u8 0) 1 1 Tryz.underlying22 hi0 hz0 hz1 hz2 rfl (by decide) _ 0 [] rfl (zu HOn) _ 0 [] rfl (zkt _ _ _ _) (by unfold maxLen; omega) (by omega) (by simp) ?_
    intro v9 w9 o9 G9 _
    rw [Nat.zero_add, List.nil_append] at o9
    obtain ⟨a9, c9, rfl⟩ : ∃ a c, v9 = .slice a (0) c := by
     rcases o9.2 with ⟨e, h0⟩ | ⟨g, cap9, cur, e, _⟩
     ·exact ⟨none, 0, by rw [h0]; exact e⟩
     ·exact ⟨_, _, e⟩
    have X9 := Fr.grown (S := fun q => q = wr.heap.size) (Fr.refl _ (wr.alloc (.cells #[] 5))) G9 (fun q hq => by cases hq; rfl)
    have HK9 := zh (((zu HK).ext ((Ext.refl wr).alloc (.cells #[] 5))).fr X9 (fun g hg e9 => by have := ((zu HK).foot hg).2; omega))
    have HB9 := zh (X9.kept (((Ext.refl wr).alloc (.cells #[] 5)).kept (zu HB)) (by omega))
    have HE9 := zh (X9.ext ((zu HE).alloc (.cells #[] 5)) (fun q hq => by omega))
    have HO9 : Hid (w9.ownsRow wr.heap.size 5 1 (.slice a9 (0) c9) (A.drop (A.length)).length ((A.drop (A.length)).map (Value.int .u8))) := zh (by rw [List.drop_length]; exact o9)
    have z9 := X9.size
    clear o9 G9 X9 HOn
    go_wp2_with (refine zi rfl 145 _ _ rfl rfl (w.heap.size + 1) rfl _ _ #[.slice a9 (0) c9, .bool q] rfl (zu HB9) infoKR rfl (by simp [Value.oneCell']) ?_; intro Z hy hf9; have HY := zh hy; have FY := zh hf9; clear hy hf9)
    have v0 := zg (zu HY) 0 _ rfl
    have v1 := zg (zu HY) 1 _ rfl
    exact bodyPost_ret (v := .tuple #[.agg #[.slice a9 (0) c9, .bool q], .slice ka ks.length kc]) (by simp [results, Tryz.results126, go_sem, v0, v1]) rfl (by rw [zu HF]; exact ⟨⟨_, _, rs, rfl, zah ((zu FY).owns (zu HO9) (fun g hg e9 => by have := ((zu HO9).lt g hg).1; omega)) (by omega), zaA.down (zaA.fr (zu HK9) (zu FY) (fun g hg e9 => by have := ((zu HK9).foot hg).1; omega)) (by omega)⟩, (zu FY).ext (zu HE9) (fun q hq => by omega)⟩)
end Go.Proofs.YtinfdhbnljnifaaGreatDoor
