import Derived.Test.YtbieoijeilhadaaDoorRkP
import Derived.Test.YtbieoijeilhadaaDoorKys
import Derived.Test.YtbieoijeilhadaaDoorGap
import Derived.Test.YtbieoijeilhadaaDoorRwImpl
namespace Go.Proofs.YtbieoijeilhadaaDoor
open Go.RowKit
def RkOut (base : Nat) (w : World) (A : List Int) (R : List (List Int × Int) × Nat × Bool) (e : Ending) : Prop :=
  ∃ (hv kv : Value) (rs : List Value), e = .returned (.tuple #[.agg #[hv, .bool R.2.2], kv]) ∧ w.ownsRow base 5 1 hv (A.drop R.2.1).length ((A.drop R.2.1).map (Value.int .u8)) ∧ OwnKys w base kv rs R.1
theorem OwnKys.down {w : World} {base base' : Nat} {v : Value} {rs : List Value} {cs : List (List Int × Int)} (h : OwnKys w base v rs cs) (hb : base' ≤ base) : OwnKys w base' v rs cs := by
  obtain ⟨h0, ⟨ys, h1, h2⟩, h3, h4⟩ := h
  exact ⟨h0, ⟨ys, owns_mono h1 hb, h2⟩, fun j hj => owns_mono (h3 j hj) hb, h4⟩
theorem infoKeyR : (Tryd.prog.info? 67).map (fun i => (i.zero, i.size, i.bytes)) = some (some (.agg #[.int .i64 0, .slice none 0 0]), 2, 32) := by kernel_rfl
theorem kys_empty {w : World} {base : Nat} {v : Value} (h : w.ownsRow base 67 2 v 0 []) : OwnKys w base v [] [] :=
  ⟨rfl, ⟨[], h, fun j hj => by simp at hj⟩, fun j hj => by simp at hj, fun i j g _ hj _ => by simp at hj⟩
theorem OwnKys.slice {w : World} {base : Nat} {v : Value} {rs : List Value} {cs : List (List Int × Int)} (h : OwnKys w base v rs cs) : ∃ a c, v = .slice a cs.length c := by
  obtain ⟨_, ⟨ys, h1, _⟩, _⟩ := h
  rcases h1.2 with ⟨e, h0⟩ | ⟨g, cap9, cur, e, _⟩
  · exact ⟨none, 0, by rw [h0]; exact e⟩
  · exact ⟨_, _, e⟩
theorem src_zero (w : World) (size : Nat) (a : Option Addr) (c : Nat) : Src w size (.slice a 0 c) 0 [] := by
  refine ⟨by simp, fun u hu => by simp at hu, ?_⟩
  cases a with
  | none => exact .inl ⟨c, rfl, rfl⟩
  | some ad => exact .inr ⟨ad, c, rfl, fun j u hj => by simp at hj⟩
theorem owns_lit1 (w : World) (x : Int) : (w.alloc (.cells #[.int .i32 x] 21)).ownsRow w.heap.size 21 1 (.slice (some ⟨w.heap.size, 0, none⟩) 1 1) [x].length ([x].map (Value.int .i32)) :=
  ⟨by simp, .inr ⟨w.heap.size, 1, #[.int .i32 x], rfl, Nat.le_refl _, new_block w _, Nat.le_refl _, by unfold maxLen; simp, by simp, by simp⟩⟩
theorem at0_take (l : List Int) (n j : Nat) (h : j < n) : at0 (l.take n) j = at0 l j := by simp [at0, h]
theorem bytes_keep {W W' : World} {base : Nat} {v u : Value} {n m : Nat} {xs ys : List Value} (h : W.ownsRow base 5 1 u m xs) (hy : W.ownsRow base 67 2 v n ys) (hg : W.grownBy W' v.ownBlock) : W'.ownsRow base 5 1 u m xs :=
  owns_same h (fun g hgu => hg.block g (h.lt g hgu).2 (fun e => owns_apart h hy (by decide) hgu e.symm))
theorem ints_from {w : World} {base : Nat} {a : Option Addr} {c : Nat} {A : List Int} (h : w.ownsRow base 5 1 (.slice a A.length c) A.length (A.map (Value.int .u8))) (i : Nat) (hi : i < A.length) : ∃ g, a = some ⟨g, 0, none⟩ ∧ A.length ≤ c ∧ IntsAt w .u8 (.slice (some ⟨g, i, none⟩) (A.length - i) (c - i)) (A.drop i) := by
  rcases h.2 with ⟨_, e0⟩ | ⟨g, cc, cur, e0, hg, hb, hcc, _, _, ht⟩
  · omega
  · obtain ⟨e1, _, e2⟩ := Value.slice.inj e0
    subst e1
    subst e2
    refine ⟨g, rfl, hcc, ⟨some ⟨g, i, none⟩, c - i, by rw [List.length_drop], by rw [List.length_drop]; omega, fun _ => ⟨g, i, rfl, fun j hj => ?_⟩⟩⟩
    obtain ⟨_, cap9, h9, _, h8⟩ := ints_of_owns h
    obtain ⟨b9, o9, e9, hc9⟩ := h8 (by omega)
    obtain ⟨rfl, rfl⟩ : b9 = g ∧ o9 = 0 := by
      have := (Value.slice.inj h9).1
      rw [e9] at this
      simpa using (Option.some.inj this).symm
    have := hc9 (i + j) (by simp at hj; omega)
    rw [at0_drop]
    simpa using this
set_option maxRecDepth 10000 in
set_option maxHeartbeats 4000000 in
theorem specReadKeys_any (ha : Option Addr) (hc : Nat) (hs bs : List Int) (p : Bool) (v : Value) (w : World) (hh : IntsAt w .u8 (.slice ha hs.length hc) hs) (hv : IntsAt w .u8 v bs) (hB : Bytes hs) (hB2 : Bytes bs) (hl : hs.length + bs.length ≤ 8000000) :
    Calls Tryd.prog 7 #[.agg #[.slice ha hs.length hc, .bool p], v] w fun e w' => RkOut w.heap.size w' (hs ++ bs) (rk (hs ++ bs) p) e ∧ Ext w w' := by
  obtain ⟨va, vc, rfl, _⟩ := id hv
  obtain ⟨A, hA⟩ : ∃ A, A = hs ++ bs := ⟨_, rfl⟩
  rw [← hA]
  obtain ⟨R, hR⟩ : ∃ R, R = rk A p := ⟨_, rfl⟩
  rw [← hR]
  have HR := hide hR
  clear hR
  obtain ⟨ic, hic, hc0, hc1, hc2⟩ := info_parts infoKeyR
  have infoT : (Tryd.prog.info? 69).map (·.size) = some 4 := by kernel_rfl
  have infoKR : (Tryd.prog.info? 24).map (·.size) = some 2 := by kernel_rfl
  obtain ⟨i0, hi0, hz0, hz1, hz2⟩ := info_parts infoByteA
  obtain ⟨V, hV⟩ : ∃ V, V = (w.alloc (.cells #[.slice ha hs.length hc, .bool p] 24)).alloc (.cells #[.slice none 0 0, .bool false] 24) := ⟨_, rfl⟩
  have E0 : Ext w V := by rw [hV]; exact ((Ext.refl w).alloc _).alloc _
  have zV : V.heap.size = w.heap.size + 1 + 1 := by rw [hV]; simp
  have HB0 : Hid (V.heap[w.heap.size]? = some (.cells #[.slice ha hs.length hc, .bool p] 24 (0, 0))) := hide (by rw [hV]; exact ((Ext.refl _).alloc _).kept (new_block w _))
  have HB1 : Hid (V.heap[w.heap.size + 1]? = some (.cells #[.slice none 0 0, .bool false] 24 (0, 0))) := hide (by rw [hV]; have h := new_block (w.alloc (.cells #[.slice ha hs.length hc, .bool p] 24)) (.cells #[.slice none 0 0, .bool false] 24); rw [show (w.alloc (.cells #[.slice ha hs.length hc, .bool p] 24)).heap.size = w.heap.size + 1 by simp] at h; exact h)
  obtain ⟨V2, hV2⟩ : ∃ V2, V2 = V.alloc (.cells #[] 5) := ⟨_, rfl⟩
  have EV : Ext V V2 := by rw [hV2]; exact (Ext.refl V).alloc _
  have zV2 : V2.heap.size = w.heap.size + 1 + 1 + 1 := by rw [hV2]; simp [zV]
  have HOe : Hid (V2.ownsRow (w.heap.size + 1 + 1) 5 1 (.slice (some ⟨w.heap.size + 1 + 1, 0, none⟩) 0 0) 0 []) := hide (by have h := owns_empty V 5 1; rw [← hV2, zV] at h; exact h)
  have HVV : Hid (V2 = ((w.alloc (.cells #[.slice ha hs.length hc, .bool p] 24)).alloc (.cells #[.slice none 0 0, .bool false] 24)).alloc (.cells #[] 5)) := hide (by rw [hV2, hV])
  have HSh := hide (Src.ints (hh.ext (E0.trans EV)))
  replace HB0 := hide (EV.kept (unhide HB0))
  replace HB1 := hide (EV.kept (unhide HB1))
  have HE2 := hide (E0.trans EV)
  have HV := hide hv
  clear hh hv hV hV2 E0 EV zV
  go_enter Tryd.func7, Tryd.ntmps7
  go_wp2_with (at_builtin; refine StopQ.intro ?_)
  show wpList _ _ _ _ _ _
  rw [← unhide HVV]
  clear HVV
  refine wpList_app rfl _ _ 22 rfl (w.heap.size + 1 + 1) 5 i0 (.int .u8 0) 1 1 Tryd.underlying22 hi0 hz0 hz1 hz2 rfl (by decide) _ 0 [] rfl (unhide HOe) _ hs.length (hs.map (Value.int .u8)) rfl (unhide HSh) (by unfold maxLen; omega) (by omega) (by omega) ?_
  intro v2 w2 o2 G2 _
  rw [Nat.zero_add, List.nil_append] at o2
  obtain ⟨a2, c2, rfl⟩ : ∃ a c, v2 = .slice a hs.length c := by
    rcases o2.2 with ⟨e, h0⟩ | ⟨g, cap9, cur, e, _⟩
    · exact ⟨none, 0, by rw [h0]; exact e⟩
    · exact ⟨_, _, e⟩
  have X2 := Fr.grown (S := fun q => q = w.heap.size + 1 + 1) (Fr.refl _ V2) G2 (fun q hq => by cases hq; rfl)
  replace HB0 := hide (X2.kept (unhide HB0) (by omega))
  replace HB1 := hide (X2.kept (unhide HB1) (by omega))
  replace HE2 := hide (X2.ext (unhide HE2) (fun q hq => by omega))
  have HO2 := hide o2
  have HSb := hide (Src.ints ((unhide HV).ext (unhide HE2)))
  have z2 := X2.size
  clear G2 X2 o2 HOe HSh
  go_wp2_with (at_builtin; refine StopQ.intro ?_)
  show wpList _ _ _ _ _ _
  refine wpList_app rfl _ _ 22 rfl (w.heap.size + 1 + 1) 5 i0 (.int .u8 0) 1 1 Tryd.underlying22 hi0 hz0 hz1 hz2 rfl (by decide) _ hs.length _ rfl (unhide HO2) _ bs.length (bs.map (Value.int .u8)) rfl (unhide HSb) (by unfold maxLen; omega) (by omega) (by omega) ?_
  intro v3 w3 o3 G3 _
  have hAl : A.length = hs.length + bs.length := by rw [hA]; simp
  have hAB : Bytes A := by
    rw [hA]
    intro n hn
    rcases List.mem_append.1 hn with h | h
    · exact hB n h
    · exact hB2 n h
  rw [← List.map_append, ← hA, ← hAl] at o3
  obtain ⟨a3, c3, rfl⟩ : ∃ a c, v3 = .slice a A.length c := by
    rcases o3.2 with ⟨e, h0⟩ | ⟨g, cap9, cur, e, _⟩
    · exact ⟨none, 0, by rw [h0]; exact e⟩
    · exact ⟨_, _, e⟩
  have X3 := Fr.grown (S := fun q => w.heap.size + 1 + 1 ≤ q) (Fr.refl _ w2) G3 (fun q hq => ((unhide HO2).lt q hq).1)
  replace HB0 := hide (X3.kept (unhide HB0) (by omega))
  replace HB1 := hide (X3.kept (unhide HB1) (by omega))
  replace HE2 := hide (X3.ext (unhide HE2) (fun q hq => by omega))
  have HO3 := hide o3
  have z3 := X3.size
  have HAL := hide hAl
  have HAB := hide hAB
  have q1 : w3.cell? ⟨w.heap.size, 1, none⟩ = some (.bool p) := cells_of (unhide HB0) 1 _ rfl
  have q1a : ∀ o, (w3.alloc o).cell? ⟨w.heap.size, 1, none⟩ = some (.bool p) := fun o => ((Ext.refl w3).alloc o).cell q1
  have hA8 : A.length ≤ 8000000 := by omega
  clear G3 X3 o3 HO2 HSb hAl hAB hA q1
  have HKe := hide (owns_empty w3 67 2)
  have HE3 := hide ((unhide HE2).alloc (.cells #[] 67))
  have HA3 := hide (((Ext.refl w3).alloc (.cells #[] 67)).owns (unhide HO3))
  have HB13 := hide (((Ext.refl w3).alloc (.cells #[] 67)).kept (unhide HB1))
  have hz3 : w.heap.size + 1 + 1 ≤ w3.heap.size := by omega
  clear HE2 HO3 HB0 HB1
  go_wp2_with fail
  go_loopw [7, 8, 9] (fun kv pv iv wr => ∃ (i : Nat) (q : Bool) (ks : List (List Int × Int)) (rs : List Value), i ≤ A.length ∧ pv = .bool q ∧ iv = .int .i64 i ∧ Hid (OwnKys wr (w.heap.size + 1 + 1) kv rs ks) ∧ Hid (ks.length ≤ i) ∧ Hid (wr.ownsRow (w.heap.size + 1 + 1) 5 1 (.slice a3 A.length c3) A.length (A.map (Value.int .u8))) ∧ Hid (R = (ks ++ (rk (A.drop i) q).1, i + (rk (A.drop i) q).2.1, (rk (A.drop i) q).2.2)) ∧ Hid (wr.heap[w.heap.size + 1]? = some (.cells #[.slice none 0 0, .bool false] 24 (0, 0))) ∧ Hid (Ext w wr) ∧ (w.heap.size + 1 + 1) ≤ wr.heap.size) (fun _ _ iv _ => A.length - (intOf iv).toNat)
  case atStart => exact ⟨0, p, [], [], Nat.zero_le _, rfl, rfl, hide (kys_empty (owns_mono (unhide HKe) hz3)), hide (Nat.le_refl _), HA3, hide (by rw [unhide HR]; simp), HB13, HE3, by simp; omega⟩
  case round =>
    obtain ⟨i, q, ks, rs, hi, rfl, rfl, HK, HKL, HA, HQ, HB, HE, hz⟩ := hrel
    obtain ⟨ka, kc, hkv⟩ := (unhide HK).slice
    subst hkv
    have hc3 : A.length ≤ c3 := by
      rcases (unhide HA).2 with ⟨e9, e0⟩ | ⟨g, cc, cur, e0, _, _, h9, _⟩
      · omega
      · have := (Value.slice.inj e0).2.2; omega
    by_cases hlt : i < A.length
    · have hltI : (i : Int) < (A.length : Int) := by omega
      obtain ⟨g3, hg3⟩ : ∃ g, a3 = some ⟨g, 0, none⟩ := by
        obtain ⟨g, e, _⟩ := ints_from (unhide HA) i hlt
        exact ⟨g, e⟩
      subst hg3
      have hci : (i : Int) ≤ (A.length : Int) := by omega
      have hcA : (A.length : Int) ≤ (c3 : Int) := by omega
      have hcm : ¬ c3 = i := by omega
      have HDr := hide (List.length_drop (i := i) (l := A))
      cases q
      · have hOn := hide (fun W (hW : Ext wr W) => l3One_any A (unhide HAB) _ i W ((ints_of_owns (unhide HA)).ext hW) hlt (by omega))
        obtain ⟨t, ht⟩ : ∃ t, t = oneF (A.drop i) := ⟨_, rfl⟩
        have htn := oneF_n (A.drop i) (by rw [unhide HDr]; omega)
        have htr := oneF_r (A.drop i)
        rw [← ht] at hOn htn htr
        rw [unhide HDr] at htn
        have HTT := hide ht
        clear ht
        obtain ⟨tn, tk, tr, tp⟩ := t
        simp only [] at htn htr
        go_wp2_with fail
        refine ((unhide hOn) wr (Ext.refl _)).mono ?_
        rintro e w4 ⟨he, E4⟩
        simp only [tkV] at he
        subst he
        have HKf : Hid (∀ g, (Value.slice ka ks.length kc).ownBlock = some g → g < wr.heap.size) := hide (fun g hg => ((unhide HK).foot (.inl hg)).2)
        have HOld := hide (fun g (hg : Foot (.slice ka ks.length kc) rs ks.length g) => ((unhide HK).foot hg).2)
        have z4 := E4.size
        replace HK := hide ((unhide HK).ext E4)
        replace HA := hide ((E4).owns (unhide HA))
        replace HB := hide ((E4).kept (unhide HB))
        replace HE := hide ((unhide HE).trans E4)
        clear E4 hOn
        have HN4 := hide (heap_alloc_new w4 (.cells #[.int .i64 0, .int .i64 0, .int .i64 0, .bool false] 69))
        go_wp2_with (first | (refine wpList_store_blk rfl 69 _ _ rfl rfl (w4.heap.size) rfl _ _ #[.int .i64 (tn : Int), .int .i64 tk, .int .i64 tr, .bool tp] rfl (unhide HN4) infoT rfl (by simp [Value.oneCell']) ?_; intro U hb9 hf9; have HTb := hide hb9; have HEU := hide (hf9.ext ((Ext.refl w4).alloc _) (fun q hq => by omega)); clear hb9 hf9; refine StopQ.intro ?_))
        show wpList _ _ _ _ _ _
        have EU := unhide HEU
        have zU := EU.size
        replace HK := hide ((unhide HK).ext EU)
        replace HA := hide ((EU).owns (unhide HA))
        replace HB := hide ((EU).kept (unhide HB))
        replace HE := hide ((unhide HE).trans EU)
        clear EU HEU HN4
        have hzU : (w.heap.size + 1 + 1) ≤ U.heap.size := by omega
        have t0 : U.cell? ⟨w4.heap.size, 0, none⟩ = some (.int .i64 (tn : Int)) := cells_of (unhide HTb) 0 _ rfl
        have t1 : U.cell? ⟨w4.heap.size, 1, none⟩ = some (.int .i64 tk) := cells_of (unhide HTb) 1 _ rfl
        by_cases hn0 : tn = 0
        · subst hn0
          have HF : Hid (R = (ks, i, false)) := hide (by rw [unhide HQ, rk_none (by unfold rkStep; rw [if_neg (by rw [unhide HDr]; omega), if_neg (by simp), ← unhide HTT, if_pos rfl])]; simp)
          clear HQ HTT
          replace hz : (w.heap.size + 1 + 1) ≤ U.heap.size := hzU
          have HSrc : Hid (Src (U.alloc (.cells #[] 5)) 1 (.slice (some ⟨g3, i, none⟩) (A.length - i) (c3 - i)) (A.length - i) ((A.drop i).map (Value.int .u8))) := hide (by
            obtain ⟨g, e, _, h9⟩ := ints_from (unhide HA) i hlt
            obtain rfl : g3 = g := by simpa using congrArg (fun o : Option Addr => o.map (·.block)) e
            have h8 := Src.ints (h9.ext ((Ext.refl U).alloc (.cells #[] 5)))
            rwa [List.length_drop] at h8)
          have HOn := hide (owns_empty U 5 1)
          go_wp2_with (at_builtin; refine StopQ.intro ?_)
          show wpList _ _ _ _ _ _
          refine wpList_app rfl _ _ 22 rfl U.heap.size 5 i0 (.int .u8 0) 1 1 Tryd.underlying22 hi0 hz0 hz1 hz2 rfl (by decide) _ 0 [] rfl (unhide HOn) _ (A.length - i) ((A.drop i).map (Value.int .u8)) rfl (unhide HSrc) (by unfold maxLen; omega) (by omega) (by simp) ?_
          intro v9 w9 o9 G9 _
          rw [Nat.zero_add, List.nil_append] at o9
          obtain ⟨a9, c9, rfl⟩ : ∃ a c, v9 = .slice a ((A.length - i)) c := by
            rcases o9.2 with ⟨e, h0⟩ | ⟨g, cap9, cur, e, _⟩
            · exact ⟨none, 0, by rw [h0]; exact e⟩
            · exact ⟨_, _, e⟩
          have X9 := Fr.grown (S := fun q => q = U.heap.size) (Fr.refl _ (U.alloc (.cells #[] 5))) G9 (fun q hq => by cases hq; rfl)
          have HK9 := hide (((unhide HK).ext ((Ext.refl U).alloc (.cells #[] 5))).fr X9 (fun g hg e9 => by have := ((unhide HK).foot hg).2; omega))
          have HB9 := hide (X9.kept (((Ext.refl U).alloc (.cells #[] 5)).kept (unhide HB)) (by omega))
          have HE9 := hide (X9.ext ((unhide HE).alloc (.cells #[] 5)) (fun q hq => by omega))
          have HO9 : Hid (w9.ownsRow U.heap.size 5 1 (.slice a9 ((A.length - i)) c9) (A.drop (i)).length ((A.drop (i)).map (Value.int .u8))) := hide (by rw [List.length_drop]; exact o9)
          have z9 := X9.size
          clear o9 G9 X9 HOn
          go_wp2_with (refine wpList_store_blk rfl 24 _ _ rfl rfl (w.heap.size + 1) rfl _ _ #[.slice a9 ((A.length - i)) c9, .bool false] rfl (unhide HB9) infoKR rfl (by simp [Value.oneCell']) ?_; intro Z hy hf9; have HY := hide hy; have FY := hide hf9; clear hy hf9)
          have v0 : Z.cell? ⟨w.heap.size + 1, 0, none⟩ = some (.slice a9 ((A.length - i)) c9) := cells_of (unhide HY) 0 _ rfl
          have v1 : Z.cell? ⟨w.heap.size + 1, 1, none⟩ = some (.bool false) := cells_of (unhide HY) 1 _ rfl
          exact bodyPost_ret (v := .tuple #[.agg #[.slice a9 ((A.length - i)) c9, .bool false], .slice ka ks.length kc]) (by simp [results, Tryd.results7, go_sem, v0, v1]) rfl (by rw [unhide HF]; exact ⟨⟨_, _, rs, rfl, owns_mono ((unhide FY).owns (unhide HO9) (fun g hg e9 => by have := ((unhide HO9).lt g hg).1; omega)) (by omega), OwnKys.down (OwnKys.fr (unhide HK9) (unhide FY) (fun g hg e9 => by have := ((unhide HK9).foot hg).1; omega)) (by omega)⟩, (unhide FY).ext (unhide HE9) (fun q hq => by omega)⟩)
        have hnb : ((tn : Int) == 0) = false := by simp; omega
        have hwn : IntKind.i64.wrap ((i : Int) + (tn : Int)) = ((i + tn : Nat) : Int) := by rw [IntKind.wrap_i64]; omega
        have t2 : U.cell? ⟨w4.heap.size, 2, none⟩ = some (.int .i64 tr) := cells_of (unhide HTb) 2 _ rfl
        have HQ1 : Hid (∀ kk, keyT ⟨tn, tk, tr, tp⟩ = kk → R = (ks ++ kk ++ (rk (A.drop (i + tn)) tp).1, i + tn + (rk (A.drop (i + tn)) tp).2.1, (rk (A.drop (i + tn)) tp).2.2)) := hide (fun kk hkk => by
          rw [unhide HQ, rk_some (ks := kk) (m := tn) (q := tp) (by unfold rkStep; rw [if_neg (by rw [unhide HDr]; omega), if_neg (by simp), ← unhide HTT, if_neg hn0, hkk])]
          rw [List.drop_drop]
          exact Prod.ext (by simp) (Prod.ext (by simp; omega) rfl))
        clear HQ HTT
        by_cases hk1 : tk = 1
        · subst hk1
          have HQ2 := hide ((unhide HQ1) [([tr], 1)] rfl)
          clear HQ1
          have hwr : IntKind.i32.wrap tr = tr := by rw [IntKind.wrap_i32]; omega
          obtain ⟨X1, hX1⟩ : ∃ X, X = U.alloc (.cells #[.int .i32 tr] 21) := ⟨_, rfl⟩
          have EX1 : Ext U X1 := by rw [hX1]; exact (Ext.refl U).alloc _
          have zX1 : X1.heap.size = U.heap.size + 1 := by rw [hX1]; simp
          obtain ⟨X, hX⟩ : ∃ X, X = X1.alloc (.cells #[.int .i64 1, .slice (some ⟨U.heap.size, 0, none⟩) 1 1] 67) := ⟨_, rfl⟩
          have EX : Ext X1 X := by rw [hX]; exact (Ext.refl X1).alloc _
          have HrX : Hid (X.ownsRow (w.heap.size + 1 + 1) 21 1 (.slice (some ⟨U.heap.size, 0, none⟩) 1 1) [tr].length ([tr].map (Value.int .i32))) := hide (EX.owns (by rw [hX1]; exact owns_mono (base' := (w.heap.size + 1 + 1)) (owns_lit1 U tr) (by omega)))
          have HfX : Hid (∀ j g, j < ks.length → (rV rs j).ownBlock = some g → (Value.slice (some ⟨U.heap.size, 0, none⟩) 1 1).ownBlock ≠ some g) := hide (fun j g hj hg h9 => by
            have h1 := (unhide HOld) g (.inr ⟨j, hj, hg⟩)
            have h2 : U.heap.size = g := Option.some.inj h9
            omega)
          have HSrc : Hid (Src X 2 (.slice (some ⟨U.heap.size + 1, 0, none⟩) 1 1) 1 [.int .i64 1, .slice (some ⟨U.heap.size, 0, none⟩) 1 1]) := hide (by rw [hX, ← zX1]; exact Src.made _ _ _ rfl (by simp [Value.oneCell']))
          replace EX := EX1.trans EX
          replace HK := hide ((unhide HK).ext EX)
          replace HA := hide ((EX).owns (unhide HA))
          replace HB := hide ((EX).kept (unhide HB))
          replace HE := hide ((unhide HE).trans EX)
          replace HTb := hide (EX.kept (unhide HTb))
          have HzX : Hid ((w.heap.size + 1 + 1) ≤ X.heap.size) := hide (by have := EX.size; omega)
          have HXX : Hid (X = (U.alloc (.cells #[.int .i32 tr] 21)).alloc (.cells #[.int .i64 1, .slice (some ⟨U.heap.size, 0, none⟩) 1 1] 67)) := hide (by rw [hX, hX1])
          clear EX EX1 hX hX1 zX1 HOld hz hzU zU
          go_wp2_with (at_builtin; refine StopQ.intro ?_)
          show wpList _ _ _ _ _ _
          rw [← unhide HXX]
          clear HXX t0 t1 t2
          obtain ⟨ys, hy, hyy⟩ := (unhide HK).2.1
          have HY := hide hy
          have HYY := hide hyy
          clear hy hyy
          refine wpList_app rfl _ _ 27 rfl (w.heap.size + 1 + 1) 67 ic (.agg #[.int .i64 0, .slice none 0 0]) 2 32 Tryd.underlying27 hic hc0 hc1 hc2 rfl (by decide) _ _ _ rfl (unhide HY) _ 1 [.int .i64 1, (.slice (some ⟨U.heap.size, 0, none⟩) 1 1)] rfl (unhide HSrc) (by have := unhide HKL; unfold maxLen; omega) (by have := unhide HKL; omega) (unhide HzX) ?_
          intro v9 w9 o9 G9 _
          have HK9 := hide (OwnKys.push (d := 1) (xs := [tr]) (unhide HK) (unhide HY) (unhide HYY) (unhide HrX) (unhide HfX) o9 G9)
          have HA9 := hide (bytes_keep (unhide HA) (unhide HY) G9)
          have X9 := Fr.grown (S := fun q => (w.heap.size + 1 + 1) ≤ q) (Fr.refl _ X) G9 (fun q hq => ((unhide HY).lt q hq).1)
          have HB9 := hide (X9.kept (unhide HB) (by omega))
          have HE9 := hide (X9.ext (unhide HE) (fun q hq => by omega))
          have hz9 : (w.heap.size + 1 + 1) ≤ w9.heap.size := Nat.le_trans (unhide HzX) X9.size
          have HT9 := hide ((G9.block _ (lt_of_block (unhide HTb)) (fun e9 => by have h1 := ((unhide HKf) _ e9.symm); omega)).trans (unhide HTb))
          have t0 : w9.cell? ⟨w4.heap.size, 0, none⟩ = some (.int .i64 (tn : Int)) := cells_of (unhide HT9) 0 _ rfl
          have t3 : w9.cell? ⟨w4.heap.size, 3, none⟩ = some (.bool tp) := cells_of (unhide HT9) 3 _ rfl
          clear o9 G9 X9 HSrc HrX HfX HY HYY HK HA HB HE HzX
          go_wp2
          go_roundw
          case rel => exact ⟨i + tn, tp, _, _, by omega, rfl, by go_num, HK9, hide (by have := unhide HKL; simp; omega), HA9, HQ2, HB9, HE9, hz9⟩
          case measure => simp [intOf]; omega
        have hkb : (tk == 1) = false := by simpa using hk1
        by_cases hk0 : 0 < tk
        · have HQ2 := hide ((unhide HQ1) [([], tk)] (by unfold keyT; rw [if_neg hk1, if_pos hk0]))
          clear HQ1
          obtain ⟨X1, hX1⟩ : ∃ X, X = U.alloc (.cells #[] 21) := ⟨_, rfl⟩
          have EX1 : Ext U X1 := by rw [hX1]; exact (Ext.refl U).alloc _
          have zX1 : X1.heap.size = U.heap.size + 1 := by rw [hX1]; simp
          obtain ⟨X, hX⟩ : ∃ X, X = X1.alloc (.cells #[.int .i64 tk, .slice (some ⟨U.heap.size, 0, none⟩) 0 0] 67) := ⟨_, rfl⟩
          have EX : Ext X1 X := by rw [hX]; exact (Ext.refl X1).alloc _
          have HrX : Hid (X.ownsRow (w.heap.size + 1 + 1) 21 1 (.slice (some ⟨U.heap.size, 0, none⟩) 0 0) ([] : List Int).length (([] : List Int).map (Value.int .i32))) := hide (EX.owns (by rw [hX1]; exact owns_mono (base' := (w.heap.size + 1 + 1)) (by have h9 := owns_empty U 21 1; exact h9) (by omega)))
          have HfX : Hid (∀ j g, j < ks.length → (rV rs j).ownBlock = some g → (Value.slice (some ⟨U.heap.size, 0, none⟩) 0 0).ownBlock ≠ some g) := hide (fun j g hj hg h9 => by
            have h1 := (unhide HOld) g (.inr ⟨j, hj, hg⟩)
            have h2 : U.heap.size = g := Option.some.inj h9
            omega)
          have HSrc : Hid (Src X 2 (.slice (some ⟨U.heap.size + 1, 0, none⟩) 1 1) 1 [.int .i64 tk, .slice (some ⟨U.heap.size, 0, none⟩) 0 0]) := hide (by rw [hX, ← zX1]; exact Src.made _ _ _ rfl (by simp [Value.oneCell']))
          replace EX := EX1.trans EX
          replace HK := hide ((unhide HK).ext EX)
          replace HA := hide ((EX).owns (unhide HA))
          replace HB := hide ((EX).kept (unhide HB))
          replace HE := hide ((unhide HE).trans EX)
          replace HTb := hide (EX.kept (unhide HTb))
          have HzX : Hid ((w.heap.size + 1 + 1) ≤ X.heap.size) := hide (by have := EX.size; omega)
          have HXX : Hid (X = (U.alloc (.cells #[] 21)).alloc (.cells #[.int .i64 tk, .slice (some ⟨U.heap.size, 0, none⟩) 0 0] 67)) := hide (by rw [hX, hX1])
          clear EX EX1 hX hX1 zX1 HOld hz hzU zU
          go_wp2_with (at_builtin; refine StopQ.intro ?_)
          show wpList _ _ _ _ _ _
          rw [← unhide HXX]
          clear HXX t0 t1 t2
          obtain ⟨ys, hy, hyy⟩ := (unhide HK).2.1
          have HY := hide hy
          have HYY := hide hyy
          clear hy hyy
          refine wpList_app rfl _ _ 27 rfl (w.heap.size + 1 + 1) 67 ic (.agg #[.int .i64 0, .slice none 0 0]) 2 32 Tryd.underlying27 hic hc0 hc1 hc2 rfl (by decide) _ _ _ rfl (unhide HY) _ 1 [.int .i64 tk, (.slice (some ⟨U.heap.size, 0, none⟩) 0 0)] rfl (unhide HSrc) (by have := unhide HKL; unfold maxLen; omega) (by have := unhide HKL; omega) (unhide HzX) ?_
          intro v9 w9 o9 G9 _
          have HK9 := hide (OwnKys.push (d := tk) (xs := ([] : List Int)) (unhide HK) (unhide HY) (unhide HYY) (unhide HrX) (unhide HfX) o9 G9)
          have HA9 := hide (bytes_keep (unhide HA) (unhide HY) G9)
          have X9 := Fr.grown (S := fun q => (w.heap.size + 1 + 1) ≤ q) (Fr.refl _ X) G9 (fun q hq => ((unhide HY).lt q hq).1)
          have HB9 := hide (X9.kept (unhide HB) (by omega))
          have HE9 := hide (X9.ext (unhide HE) (fun q hq => by omega))
          have hz9 : (w.heap.size + 1 + 1) ≤ w9.heap.size := Nat.le_trans (unhide HzX) X9.size
          have HT9 := hide ((G9.block _ (lt_of_block (unhide HTb)) (fun e9 => by have h1 := ((unhide HKf) _ e9.symm); omega)).trans (unhide HTb))
          have t0 : w9.cell? ⟨w4.heap.size, 0, none⟩ = some (.int .i64 (tn : Int)) := cells_of (unhide HT9) 0 _ rfl
          have t3 : w9.cell? ⟨w4.heap.size, 3, none⟩ = some (.bool tp) := cells_of (unhide HT9) 3 _ rfl
          clear o9 G9 X9 HSrc HrX HfX HY HYY HK HA HB HE HzX
          go_wp2
          go_roundw
          case rel => exact ⟨i + tn, tp, _, _, by omega, rfl, by go_num, HK9, hide (by have := unhide HKL; simp; omega), HA9, HQ2, HB9, HE9, hz9⟩
          case measure => simp [intOf]; omega
        · have HQ2 := hide ((unhide HQ1) [] (by unfold keyT; rw [if_neg hk1, if_neg hk0]))
          rw [List.append_nil] at HQ2
          clear HQ1
          have t3 : U.cell? ⟨w4.heap.size, 3, none⟩ = some (.bool tp) := cells_of (unhide HTb) 3 _ rfl
          go_wp2
          go_roundw
          case rel => exact ⟨i + tn, tp, ks, rs, by omega, rfl, by go_num, HK, hide (by have := unhide HKL; omega), HA, HQ2, HB, HE, hzU⟩
          case measure => simp [intOf]; omega
      · have hEn := hide (l3End_any A (unhide HAB) _ i wr (ints_of_owns (unhide HA)) hlt (by omega))
        cases he : endF (A.drop i) with
        | none =>
          have hI : endI i (A.drop i) = -1 := by unfold endI; rw [he]
          rw [hI] at hEn
          have HF : Hid (R = (ks, i, true)) := hide (by rw [unhide HQ, rk_none (by unfold rkStep; rw [if_neg (by rw [unhide HDr]; omega), if_pos rfl, he])]; simp)
          clear HQ he hI
          go_wp2_with fail
          refine (unhide hEn).mono ?_
          rintro e w4 ⟨rfl, E4⟩
          replace HK := hide ((unhide HK).ext E4)
          replace HA := hide ((E4).owns (unhide HA))
          replace HB := hide ((E4).kept (unhide HB))
          replace HE := hide ((unhide HE).trans E4)
          have z4 := E4.size
          replace hz : (w.heap.size + 1 + 1) ≤ w4.heap.size := by omega
          clear hEn E4
          have HSrc : Hid (Src (w4.alloc (.cells #[] 5)) 1 (.slice (some ⟨g3, i, none⟩) (A.length - i) (c3 - i)) (A.length - i) ((A.drop i).map (Value.int .u8))) := hide (by
            obtain ⟨g, e, _, h9⟩ := ints_from (unhide HA) i hlt
            obtain rfl : g3 = g := by simpa using congrArg (fun o : Option Addr => o.map (·.block)) e
            have h8 := Src.ints (h9.ext ((Ext.refl w4).alloc (.cells #[] 5)))
            rwa [List.length_drop] at h8)
          have HOn := hide (owns_empty w4 5 1)
          go_wp2_with (at_builtin; refine StopQ.intro ?_)
          show wpList _ _ _ _ _ _
          refine wpList_app rfl _ _ 22 rfl w4.heap.size 5 i0 (.int .u8 0) 1 1 Tryd.underlying22 hi0 hz0 hz1 hz2 rfl (by decide) _ 0 [] rfl (unhide HOn) _ (A.length - i) ((A.drop i).map (Value.int .u8)) rfl (unhide HSrc) (by unfold maxLen; omega) (by omega) (by simp) ?_
          intro v9 w9 o9 G9 _
          rw [Nat.zero_add, List.nil_append] at o9
          obtain ⟨a9, c9, rfl⟩ : ∃ a c, v9 = .slice a ((A.length - i)) c := by
            rcases o9.2 with ⟨e, h0⟩ | ⟨g, cap9, cur, e, _⟩
            · exact ⟨none, 0, by rw [h0]; exact e⟩
            · exact ⟨_, _, e⟩
          have X9 := Fr.grown (S := fun q => q = w4.heap.size) (Fr.refl _ (w4.alloc (.cells #[] 5))) G9 (fun q hq => by cases hq; rfl)
          have HK9 := hide (((unhide HK).ext ((Ext.refl w4).alloc (.cells #[] 5))).fr X9 (fun g hg e9 => by have := ((unhide HK).foot hg).2; omega))
          have HB9 := hide (X9.kept (((Ext.refl w4).alloc (.cells #[] 5)).kept (unhide HB)) (by omega))
          have HE9 := hide (X9.ext ((unhide HE).alloc (.cells #[] 5)) (fun q hq => by omega))
          have HO9 : Hid (w9.ownsRow w4.heap.size 5 1 (.slice a9 ((A.length - i)) c9) (A.drop (i)).length ((A.drop (i)).map (Value.int .u8))) := hide (by rw [List.length_drop]; exact o9)
          have z9 := X9.size
          clear o9 G9 X9 HOn
          go_wp2_with (refine wpList_store_blk rfl 24 _ _ rfl rfl (w.heap.size + 1) rfl _ _ #[.slice a9 ((A.length - i)) c9, .bool true] rfl (unhide HB9) infoKR rfl (by simp [Value.oneCell']) ?_; intro Z hy hf9; have HY := hide hy; have FY := hide hf9; clear hy hf9)
          have v0 : Z.cell? ⟨w.heap.size + 1, 0, none⟩ = some (.slice a9 ((A.length - i)) c9) := cells_of (unhide HY) 0 _ rfl
          have v1 : Z.cell? ⟨w.heap.size + 1, 1, none⟩ = some (.bool true) := cells_of (unhide HY) 1 _ rfl
          exact bodyPost_ret (v := .tuple #[.agg #[.slice a9 ((A.length - i)) c9, .bool true], .slice ka ks.length kc]) (by simp [results, Tryd.results7, go_sem, v0, v1]) rfl (by rw [unhide HF]; exact ⟨⟨_, _, rs, rfl, owns_mono ((unhide FY).owns (unhide HO9) (fun g hg e9 => by have := ((unhide HO9).lt g hg).1; omega)) (by omega), OwnKys.down (OwnKys.fr (unhide HK9) (unhide FY) (fun g hg e9 => by have := ((unhide HK9).foot hg).1; omega)) (by omega)⟩, (unhide FY).ext (unhide HE9) (fun q hq => by omega)⟩)
        | some k =>
          have hI : endI i (A.drop i) = (i : Int) + (k : Int) := by unfold endI; rw [he]
          rw [hI] at hEn
          have hk6 := endF_le _ _ he
          rw [unhide HDr] at hk6
          have hneg : ¬ (i : Int) + (k : Int) < 0 := by omega
          have hkc : (i : Int) + (k : Int) ≤ (c3 : Int) := by omega
          have hki : (i : Int) ≤ (i : Int) + (k : Int) := by omega
          have hkw : IntKind.i64.wrap ((i : Int) + (k : Int) + 6) = ((i + (k + 6) : Nat) : Int) := by rw [IntKind.wrap_i64]; omega
          have HQ2 : Hid (R = (ks ++ [(cleanL ((A.drop i).take k), 2)] ++ (rk (A.drop (i + (k + 6))) false).1, i + (k + 6) + (rk (A.drop (i + (k + 6))) false).2.1, (rk (A.drop (i + (k + 6))) false).2.2)) := hide (by
            rw [unhide HQ, rk_some (ks := [(cleanL ((A.drop i).take k), 2)]) (m := k + 6) (q := false) (by unfold rkStep; rw [if_neg (by rw [unhide HDr]; omega), if_pos rfl, he])]
            rw [List.drop_drop]
            exact Prod.ext (by simp) (Prod.ext (by simp; omega) rfl))
          clear HQ he hI
          go_wp2_with fail
          refine (unhide hEn).mono ?_
          rintro e w4 ⟨rfl, E4⟩
          replace HK := hide ((unhide HK).ext E4)
          replace HA := hide ((E4).owns (unhide HA))
          replace HB := hide ((E4).kept (unhide HB))
          replace HE := hide ((unhide HE).trans E4)
          have z4 := E4.size
          clear hEn E4
          have hCl := hide (specClean_any ((A.drop i).take k) (fun n hn => (unhide HAB) n (List.mem_of_mem_drop (List.mem_of_mem_take hn))) (.slice (some ⟨g3, i, none⟩) k (c3 - i)) w4 (by
            obtain ⟨g, e, _, _, cap9, e9, _, h8⟩ := ints_from (unhide HA) i hlt
            obtain rfl : g3 = g := by simpa using congrArg (fun o : Option Addr => o.map (·.block)) e
            refine ⟨_, _, by rw [List.length_take, unhide HDr, Nat.min_eq_left (by omega)], by rw [List.length_take, unhide HDr]; omega, fun hp => ?_⟩
            obtain ⟨b9, o9, e8, h7⟩ := h8 (by rw [unhide HDr]; omega)
            have e10 := (Value.slice.inj e9).1
            rw [e8] at e10
            obtain ⟨rfl, rfl⟩ : g3 = b9 ∧ i = o9 := by simpa using e10
            refine ⟨g3, i, rfl, fun j hj => ?_⟩
            rw [List.length_take, unhide HDr] at hj
            rw [h7 j (by rw [unhide HDr]; omega)]
            rw [at0_take _ _ _ (by omega)]) (by rw [List.length_take, unhide HDr]; omega))
          obtain ⟨C, hC⟩ : ∃ C, C = cleanL ((A.drop i).take k) := ⟨_, rfl⟩
          rw [← hC] at hCl HQ2
          clear hC
          go_wp2_with fail
          refine (unhide hCl).mono ?_
          rintro e w5 ⟨r5, rfl, o5, E5⟩
          obtain ⟨ra, rc, rfl⟩ : ∃ a c, r5 = .slice a C.length c := by
            rcases o5.2 with ⟨e, h0⟩ | ⟨g, cap9, cur, e, _⟩
            · exact ⟨none, 0, by rw [h0]; exact e⟩
            · exact ⟨_, _, e⟩
          have HOld := hide (fun g (hg : Foot (.slice ka ks.length kc) rs ks.length g) => ((unhide HK).foot hg).2)
          replace HK := hide ((unhide HK).ext E5)
          replace HA := hide ((E5).owns (unhide HA))
          replace HB := hide ((E5).kept (unhide HB))
          replace HE := hide ((unhide HE).trans E5)
          obtain ⟨X, hX⟩ : ∃ X, X = w5.alloc (.cells #[.int .i64 2, .slice ra C.length rc] 67) := ⟨_, rfl⟩
          have EX : Ext w5 X := by rw [hX]; exact (Ext.refl w5).alloc _
          have HrX := hide (owns_mono (base' := (w.heap.size + 1 + 1)) (EX.owns o5) (by omega))
          have HfX : Hid (∀ j g, j < ks.length → (rV rs j).ownBlock = some g → (Value.slice ra C.length rc).ownBlock ≠ some g) := hide (fun j g hj hg h9 => by
            have h1 := (unhide HOld) g (.inr ⟨j, hj, hg⟩)
            have h2 := (o5.lt g h9).1
            omega)
          have HSrc : Hid (Src X 2 (.slice (some ⟨w5.heap.size, 0, none⟩) 1 1) 1 [.int .i64 2, .slice ra C.length rc]) := hide (by rw [hX]; exact Src.made _ _ _ rfl (by simp [Value.oneCell']))
          replace HK := hide ((unhide HK).ext EX)
          replace HA := hide ((EX).owns (unhide HA))
          replace HB := hide ((EX).kept (unhide HB))
          replace HE := hide ((unhide HE).trans EX)
          have HzX : Hid ((w.heap.size + 1 + 1) ≤ X.heap.size) := hide (by have := E5.size; have := EX.size; omega)
          have HXX := hide hX
          clear hCl o5 E5 EX hX HOld
          go_wp2_with (at_builtin; refine StopQ.intro ?_)
          show wpList _ _ _ _ _ _
          rw [← unhide HXX]
          clear HXX
          obtain ⟨ys, hy, hyy⟩ := (unhide HK).2.1
          have HY := hide hy
          have HYY := hide hyy
          clear hy hyy
          refine wpList_app rfl _ _ 27 rfl (w.heap.size + 1 + 1) 67 ic (.agg #[.int .i64 0, .slice none 0 0]) 2 32 Tryd.underlying27 hic hc0 hc1 hc2 rfl (by decide) _ _ _ rfl (unhide HY) _ 1 [.int .i64 2, (.slice ra C.length rc)] rfl (unhide HSrc) (by have := unhide HKL; unfold maxLen; omega) (by have := unhide HKL; omega) (unhide HzX) ?_
          intro v9 w9 o9 G9 _
          have HK9 := hide (OwnKys.push (d := 2) (xs := C) (unhide HK) (unhide HY) (unhide HYY) (unhide HrX) (unhide HfX) o9 G9)
          have HA9 := hide (bytes_keep (unhide HA) (unhide HY) G9)
          have X9 := Fr.grown (S := fun q => (w.heap.size + 1 + 1) ≤ q) (Fr.refl _ X) G9 (fun q hq => ((unhide HY).lt q hq).1)
          have HB9 := hide (X9.kept (unhide HB) (by omega))
          have HE9 := hide (X9.ext (unhide HE) (fun q hq => by omega))
          have hz9 : (w.heap.size + 1 + 1) ≤ w9.heap.size := Nat.le_trans (unhide HzX) X9.size
          clear o9 G9 X9 HSrc HrX HfX HY HYY HK HA HB HE HzX
          go_wp2
          go_roundw
          case rel => exact ⟨i + (k + 6), false, _, _, by omega, rfl, by go_num, HK9, hide (by have := unhide HKL; simp; omega), HA9, HQ2, HB9, HE9, hz9⟩
          case measure => simp [intOf]; omega
    · obtain rfl : i = A.length := by omega
      have hni : ¬ ((A.length : Nat) : Int) < (A.length : Int) := by omega
      have HF : Hid (R = (ks, A.length, q)) := hide (by rw [unhide HQ, List.drop_length, rk_none (by simp [rkStep])]; simp)
      clear HQ
      have hci : (A.length : Int) ≤ (c3 : Int) := by omega
      by_cases hcc : c3 = A.length
      · subst hcc
        have HOn := hide (owns_empty wr 5 1)
        go_wp2_with (at_builtin; refine StopQ.intro ?_)
        show wpList _ _ _ _ _ _
        refine wpList_app rfl _ _ 22 rfl wr.heap.size 5 i0 (.int .u8 0) 1 1 Tryd.underlying22 hi0 hz0 hz1 hz2 rfl (by decide) _ 0 [] rfl (unhide HOn) _ 0 [] rfl (src_zero _ _ _ _) (by unfold maxLen; omega) (by omega) (by simp) ?_
        intro v9 w9 o9 G9 _
        rw [Nat.zero_add, List.nil_append] at o9
        obtain ⟨a9, c9, rfl⟩ : ∃ a c, v9 = .slice a (0) c := by
          rcases o9.2 with ⟨e, h0⟩ | ⟨g, cap9, cur, e, _⟩
          · exact ⟨none, 0, by rw [h0]; exact e⟩
          · exact ⟨_, _, e⟩
        have X9 := Fr.grown (S := fun q => q = wr.heap.size) (Fr.refl _ (wr.alloc (.cells #[] 5))) G9 (fun q hq => by cases hq; rfl)
        have HK9 := hide (((unhide HK).ext ((Ext.refl wr).alloc (.cells #[] 5))).fr X9 (fun g hg e9 => by have := ((unhide HK).foot hg).2; omega))
        have HB9 := hide (X9.kept (((Ext.refl wr).alloc (.cells #[] 5)).kept (unhide HB)) (by omega))
        have HE9 := hide (X9.ext ((unhide HE).alloc (.cells #[] 5)) (fun q hq => by omega))
        have HO9 : Hid (w9.ownsRow wr.heap.size 5 1 (.slice a9 (0) c9) (A.drop (A.length)).length ((A.drop (A.length)).map (Value.int .u8))) := hide (by rw [List.drop_length]; exact o9)
        have z9 := X9.size
        clear o9 G9 X9 HOn
        go_wp2_with (refine wpList_store_blk rfl 24 _ _ rfl rfl (w.heap.size + 1) rfl _ _ #[.slice a9 (0) c9, .bool q] rfl (unhide HB9) infoKR rfl (by simp [Value.oneCell']) ?_; intro Z hy hf9; have HY := hide hy; have FY := hide hf9; clear hy hf9)
        have v0 : Z.cell? ⟨w.heap.size + 1, 0, none⟩ = some (.slice a9 (0) c9) := cells_of (unhide HY) 0 _ rfl
        have v1 : Z.cell? ⟨w.heap.size + 1, 1, none⟩ = some (.bool q) := cells_of (unhide HY) 1 _ rfl
        exact bodyPost_ret (v := .tuple #[.agg #[.slice a9 (0) c9, .bool q], .slice ka ks.length kc]) (by simp [results, Tryd.results7, go_sem, v0, v1]) rfl (by rw [unhide HF]; exact ⟨⟨_, _, rs, rfl, owns_mono ((unhide FY).owns (unhide HO9) (fun g hg e9 => by have := ((unhide HO9).lt g hg).1; omega)) (by omega), OwnKys.down (OwnKys.fr (unhide HK9) (unhide FY) (fun g hg e9 => by have := ((unhide HK9).foot hg).1; omega)) (by omega)⟩, (unhide FY).ext (unhide HE9) (fun q hq => by omega)⟩)
      · have hcd : ¬ A.length = c3 := fun e => hcc e.symm
        have HOn := hide (owns_empty wr 5 1)
        go_wp2_with (at_builtin; refine StopQ.intro ?_)
        show wpList _ _ _ _ _ _
        refine wpList_app rfl _ _ 22 rfl wr.heap.size 5 i0 (.int .u8 0) 1 1 Tryd.underlying22 hi0 hz0 hz1 hz2 rfl (by decide) _ 0 [] rfl (unhide HOn) _ 0 [] rfl (src_zero _ _ _ _) (by unfold maxLen; omega) (by omega) (by simp) ?_
        intro v9 w9 o9 G9 _
        rw [Nat.zero_add, List.nil_append] at o9
        obtain ⟨a9, c9, rfl⟩ : ∃ a c, v9 = .slice a (0) c := by
          rcases o9.2 with ⟨e, h0⟩ | ⟨g, cap9, cur, e, _⟩
          · exact ⟨none, 0, by rw [h0]; exact e⟩
          · exact ⟨_, _, e⟩
        have X9 := Fr.grown (S := fun q => q = wr.heap.size) (Fr.refl _ (wr.alloc (.cells #[] 5))) G9 (fun q hq => by cases hq; rfl)
        have HK9 := hide (((unhide HK).ext ((Ext.refl wr).alloc (.cells #[] 5))).fr X9 (fun g hg e9 => by have := ((unhide HK).foot hg).2; omega))
        have HB9 := hide (X9.kept (((Ext.refl wr).alloc (.cells #[] 5)).kept (unhide HB)) (by omega))
        have HE9 := hide (X9.ext ((unhide HE).alloc (.cells #[] 5)) (fun q hq => by omega))
        have HO9 : Hid (w9.ownsRow wr.heap.size 5 1 (.slice a9 (0) c9) (A.drop (A.length)).length ((A.drop (A.length)).map (Value.int .u8))) := hide (by rw [List.drop_length]; exact o9)
        have z9 := X9.size
        clear o9 G9 X9 HOn
        go_wp2_with (refine wpList_store_blk rfl 24 _ _ rfl rfl (w.heap.size + 1) rfl _ _ #[.slice a9 (0) c9, .bool q] rfl (unhide HB9) infoKR rfl (by simp [Value.oneCell']) ?_; intro Z hy hf9; have HY := hide hy; have FY := hide hf9; clear hy hf9)
        have v0 : Z.cell? ⟨w.heap.size + 1, 0, none⟩ = some (.slice a9 (0) c9) := cells_of (unhide HY) 0 _ rfl
        have v1 : Z.cell? ⟨w.heap.size + 1, 1, none⟩ = some (.bool q) := cells_of (unhide HY) 1 _ rfl
        exact bodyPost_ret (v := .tuple #[.agg #[.slice a9 (0) c9, .bool q], .slice ka ks.length kc]) (by simp [results, Tryd.results7, go_sem, v0, v1]) rfl (by rw [unhide HF]; exact ⟨⟨_, _, rs, rfl, owns_mono ((unhide FY).owns (unhide HO9) (fun g hg e9 => by have := ((unhide HO9).lt g hg).1; omega)) (by omega), OwnKys.down (OwnKys.fr (unhide HK9) (unhide FY) (fun g hg e9 => by have := ((unhide HK9).foot hg).1; omega)) (by omega)⟩, (unhide FY).ext (unhide HE9) (fun q hq => by omega)⟩)
end Go.Proofs.YtbieoijeilhadaaDoor
