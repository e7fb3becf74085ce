import Derived.Test.YtmlkpdbfnffoaaaGreatDoorEdPs
set_option maxHeartbeats 8000000
set_option maxRecDepth 10000
namespace Go.Proofs.YtmlkpdbfnffoaaaGreatDoor
open Go.RowKit
section
variable {P base : Nat} {W : World} {k : ByteArray} {u : Value} {qs : List Nat} {un : List (ByteArray × ByteArray)} {cl rl rr : List Value}
set_option linter.unusedSimpArgs false in
theorem put_Z {B : List (List Int × Int)} (rv : Value) (rs : List Int) (hr : zag W .i32 rv rs) (iR : zbv rs) (zR : rs.length ≤ 1048576) (hN : rs.length ≤ 8000000) (hT : ∀ W', Fr (fun x => x = P ∨ base ≤ x) W W' → zcB W') (hfit : (zaq (zj rs)).length + (zaq B).length ≤ 300 → (zj rs).length + B.length ≤ 300) (h : Ed0 P base W k u qs un [] B cl rl rr) :
    Calls Tryz.prog 297 #[.pointer (some ⟨P, 0, none⟩), rv] W fun e w' => (300 < (zaq (zj rs)).length + (zaq B).length ∧ EdR P base W w' k un [] B 2 e) ∨ ((zaq (zj rs)).length + (zaq B).length ≤ 300 ∧ EdR P base W w' k (zbk un (zv (zac []), zv (zac B))) (zj rs) B 1 e) := by
  obtain ⟨ic, hic, hc0, hc1, hc2⟩ := info_parts zcW
  have hg := h.now
  have hl := h.len
  have hPl : P < W.heap.size := zt h.blk
  have hfb := h.fit
  have H1 := zi (zjc h.two)
  have HR := zi (fun w (E : Ext W w) => zic (h.ext E).two)
  have HCh := zi (fun w (E : Ext W w) => zh8 h E)
  have H0 := zi (fun w (E : Ext W w) => h.same E 2)
  have HTk := zi (fun w u' un' (g : Ed2 P base W w k u' un' ([] ++ []) B cl rl rr) => zk4 g)
  have HC2 : Hid (∀ w, Ext W w → ∀ c, zaI w (.slice (some ⟨P, 0, none⟩) 0 c) []) := zi (fun w _ c => ⟨[], _, c, rfl, Nat.zero_le _, fun j hj => absurd hj (Nat.not_lt_zero _), fun hp => absurd hp (Nat.not_lt_zero _)⟩)
  have HC1 := HC2
  have cB := h.cb
  have cA := h.ca
  have HR2 := zi (fun v w (hv : zaI w v []) => zbs v [] w hv (by decide))
  have HR1 := zi (fun v w (hv : zaI w v []) => zbs v [] w hv (by decide))
  have HRN := zi (fun v w (hv : zaI w v (zj rs)) => zbs v (zj rs) w hv (zb7 _ hN))
  have HRB := zi (fun v w (hv : zaI w v B) => zbs v B w hv cB.1)
  have HK := zi (fun v w (E : Ext W w) (hv : zag w .i32 v rs) => zcp v rs w hv iR (by omega) (hT w (Fr.of_ext E)))
  have HSr := zi (fun w (E : Ext W w) => Src.ints (hr.ext E))
  obtain ⟨ra, rc, rfl, _⟩ := id hr
  have hub : ∀ b, u.ownBlock = some b → b < W.heap.size := fun b hb => (h.bk.2.1.lt b hb).2
  have HUB := zi hub
  obtain ⟨fN, hfN⟩ : ∃ n, (zaq (zj rs)).length = n := ⟨_, rfl⟩
  obtain ⟨fB, hfB⟩ : ∃ n, (zaq B).length = n := ⟨_, rfl⟩
  have zfN : fN ≤ 16777216 := by rw [← hfN, zci]; have := zb7 _ hN; omega
  have zfB : fB ≤ 16777216 := by rw [← hfB, zci]; have := cB.1; omega
  have HFN := zi hfN
  have HFB := zi hfB
  obtain ⟨fA, hfA⟩ : ∃ n, (zaq ([] : List (List Int × Int))).length = n := ⟨_, rfl⟩
  have hfA0 : fA = 0 := hfA.symm
  have zfA : fA ≤ 16777216 := by omega
  have HFA := zi hfA
  have HFA0 := zi hfA0
  rw [hfN, hfB] at hfit ⊢
  have HFit := zi hfit
  have hwS : IntKind.i64.wrap ((fA : Int) + (fN : Int)) = (fA : Int) + (fN : Int) := by rw [IntKind.wrap_i64]; omega
  have hwT : IntKind.i64.wrap ((fA : Int) + (fN : Int) + (fB : Int)) = (fA : Int) + (fN : Int) + (fB : Int) := by rw [IntKind.wrap_i64]; omega
  clear h hg hfit hr hT iR cB cA hub hfN hfB hfA hfA0
  go_enter Tryz.func297, Tryz.ntmps297
  go_wp2_with fail
  refine (zg H1).mono ?_
  rintro e w1 ⟨rfl, -, E1⟩
  have HE1 := zi E1
  clear H1 E1
  go_wp2_with fail
  refine ((zg HR2) _ w1 ((zg HC2) w1 (zg HE1) _)).mono ?_
  rintro e w2 ⟨v2, rfl, o2, E2⟩
  obtain ⟨a2, c2, rfl⟩ := zcb o2
  have HO2 := zi o2
  have hf2 : (zaq []).length ≤ 8000000 := by decide
  obtain ⟨L2, hL2⟩ : ∃ n, (zaq []).length = n := ⟨_, rfl⟩
  rw [hL2] at HO2 hf2 ⊢
  have HL2 := zi hL2
  have HE2 := Hid.ht HE1 E2
  have zw2 := E2.size
  clear HR2 HC2 E2 o2 hL2
  go_wp2_with (at_builtin; go_loud (
     refine zao rfl _ _ 100 rfl w1.heap.size 21 ic (.int .i32 0) 1 4 Tryz.underlying100 hic hc0 hc1 hc2 rfl (by decide) (.slice a2 L2 c2) _ _ rfl (zg HO2) _ _ _ rfl ((zg HSr) w2 (zg HE2)) (by unfold maxLen; omega) (by omega) zw2 ?_
     intro v3 w3 o3 G3 _
     have E3 : Ext W w3 := (zg HE2).grown G3 (fun b hb => Nat.le_trans (zg HE1).size ((zg HO2).lt b hb).1)
     have i3 : zag w3 .i32 v3 rs := (by
       have e : (zaq []).map (Value.int .i32) ++ rs.map (Value.int .i32) = rs.map (Value.int .i32) := (by simp [zaq])
       have e2 : L2 + rs.length = rs.length := (by rw [← zg HL2]; simp [zaq])
       rw [e, e2] at o3
       exact zaf o3)
     obtain ⟨a3, c3, rfl⟩ := zcb o3
     have HE3 := zi E3
     have HI3 := zi i3
     clear o3 G3 E3 i3))
  refine ((zg HK) _ w3 (zg HE3) (zg HI3)).mono ?_
  rintro e w4 ⟨v4, rs4, rfl, o4, E4⟩
  obtain ⟨a4, c4, rfl⟩ : ∃ a c, v4 = .slice a (zj rs).length c := by
    obtain ⟨_, ao, ca, e, _⟩ := o4.cls
    exact ⟨ao, ca, e⟩
  have HO4 := zi o4
  have HE4 := Hid.ht HE3 E4
  have hz3 := (zg HE3).size
  obtain ⟨nN, hnN⟩ : ∃ n, (zj rs).length = n := ⟨_, rfl⟩
  have HNN := zi hnN
  rw [hnN] at HO4 ⊢
  clear HK HI3 HSr HO2 HL2 E4 o4 hnN
  go_wp2_with fail
  refine wp_region_held_drew (S := fun W9 => Ext w4 W9) (by kernel_rfl) (by first | exact Ext.refl w4 | exact (Ext.refl w4).drew) (fun hHeld => ?_)
  refine tk 0 ?_ rfl (by kernel_rfl) (fun _ _ _ h => h) (by rfl) ?_ (by assumption) ?_
  rotate_left
  · intro w' hSw; go_simp <;> with_reducible rfl
  simp only [Act.put, q9]
  refine tk 1 ?_ rfl (by kernel_rfl) (fun _ _ _ h => h) (by rfl) ?_ (by assumption) ?_
  rotate_left
  · intro w' hSw; go_simp <;> with_reducible rfl
  simp only [Act.put, q9]
  refine tk 2 ?_ rfl (by kernel_rfl) (fun _ _ _ h => h) (by rfl) ?_ (by assumption) ?_
  rotate_left
  · intro w' hSw; go_simp <;> with_reducible rfl
  simp only [Act.put, q9]
  refine tk 5 ?_ rfl (by kernel_rfl) (fun _ _ _ h => h) (by rfl) ?_ (by assumption) ?_
  rotate_left
  · intro w' hSw; go_simp <;> with_reducible rfl
  simp only [Act.put, q9]
  refine tk 9 ?_ rfl (by kernel_rfl) (fun _ _ _ h => h) (by rfl) ?_ (by assumption) ?_
  rotate_left
  · intro w' hSw; go_simp <;> with_reducible rfl
  simp only [Act.put, q9]
  refine tk 10 ?_ rfl (by kernel_rfl) (fun _ _ _ h => h) (by rfl) ?_ (by assumption) ?_
  rotate_left
  · intro w' hSw; go_simp <;> with_reducible rfl
  simp only [Act.put, q9]
  refine tk 11 ?_ rfl (by kernel_rfl) (fun _ _ _ h => h) (by rfl) ?_ (by assumption) ?_
  rotate_left
  · intro w' hSw; go_simp <;> with_reducible rfl
  simp only [Act.put, q9]
  refine rdy 3 (by kernel_rfl) rfl (fun K hK => ?_)
  go_simp
  go_wp2_with (go_at_call 324; refine ((zg HR1) _ _ ((zg HC1) _ (by first | exact zg HE4 | exact (zg HE4).drew) _)).mono ?_; rintro e w5 ⟨v5, rfl, o5, E5⟩; rw [zg HFA] at o5; obtain ⟨a5, c5, rfl⟩ := zcb o5; have F5 : Ext w4 w5 := (by first | exact E5 | exact (Ext.refl _).drew.trans E5); clear o5 E5)
  refine hK.out _ _ F5 (fun hHeld => ?_)
  clear hK K
  refine tk 4 ?_ rfl (by kernel_rfl) (fun _ _ _ h => h) (by rfl) ?_ (by assumption) ?_
  rotate_left
  · intro w' hSw; go_simp <;> with_reducible rfl
  simp only [Act.put, q9]
  refine rdy 6 (by kernel_rfl) rfl (fun K hK => ?_)
  go_simp
  go_wp2_with (go_at_call 324; refine ((zg HRN) _ _ ((zg HO4).cls.ext (by first | exact F5 | exact F5.drew))).mono ?_; rintro e w6 ⟨v6, rfl, o6, E6⟩; rw [zg HFN] at o6; obtain ⟨a6, c6, rfl⟩ := zcb o6; have F6 : Ext w4 w6 := (by first | exact F5.trans E6 | exact F5.drew.trans E6); clear o6 E6)
  refine hK.out _ _ F6 (fun hHeld => ?_)
  clear hK K
  refine tk 7 ?_ rfl (by kernel_rfl) (fun _ _ _ h => h) (by rfl) ?_ (by assumption) ?_
  rotate_left
  · intro w' hSw; go_simp <;> with_reducible rfl
  simp only [Act.put, q9]
  refine tk 8 ?_ rfl (by kernel_rfl) (fun _ _ _ h => h) (by rfl) ?_ (by assumption) ?_
  rotate_left
  · intro w' hSw; go_simp <;> with_reducible rfl
  simp only [Act.put, q9]
  refine rdy 12 (by kernel_rfl) rfl (fun K hK => ?_)
  go_simp
  go_wp2_with (go_at_call 276; refine ((zg HR) _ (by first | exact (zg HE4).trans F6 | exact (zg HE4).trans F6.drew)).mono ?_; rintro e w7 ⟨a7, c7, rfl, hcB, E7⟩; have F7 : Ext w4 w7 := (by first | exact F6.trans E7 | exact F6.drew.trans E7); clear E7)
  refine hK.out _ _ F7 (fun hHeld => ?_)
  clear hK K
  refine rdy 13 (by kernel_rfl) rfl (fun K hK => ?_)
  go_simp
  go_wp2_with (go_at_call 324; refine ((zg HRB) _ _ (hcB.ext (by first | exact Ext.refl _ | exact (Ext.refl _).drew))).mono ?_; rintro e w8 ⟨v8, rfl, o8, E8⟩; rw [zg HFB] at o8; obtain ⟨a8, c8, rfl⟩ := zcb o8; have F8 : Ext w4 w8 := (by first | exact F7.trans E8 | exact F7.drew.trans E8); clear o8 E8)
  refine hK.out _ _ F8 (fun hHeld => ?_)
  clear hK K
  refine tk 14 ?_ rfl (by kernel_rfl) (fun _ _ _ h => h) (by rfl) ?_ (by assumption) ?_
  rotate_left
  · intro w' hSw; go_simp <;> with_reducible rfl
  simp only [Act.put, q9]
  refine tk 15 ?_ rfl (by kernel_rfl) (fun _ _ _ h => h) (by rfl) ?_ (by assumption) ?_
  rotate_left
  · intro w' hSw; go_simp <;> with_reducible rfl
  simp only [Act.put, q9]
  refine tk 16 ?_ rfl (by kernel_rfl) (fun _ _ _ h => h) (by rfl) ?_ (by assumption) ?_
  rotate_left
  · intro w' hSw; go_simp <;> with_reducible rfl
  simp only [Act.put, q9]
  refine wpAnyH_done (by kernel_rfl) ?_ _
  have EW8 := (zg HE4).trans F8
  by_cases hb : 300 < fA + fN + fB
  · have hbI : (300 : Int) < (fA : Int) + (fN : Int) + (fB : Int) := by omega
    have H3 := zi ((zg H0) w8 EW8)
    clear EW8 HCh HTk HO4
    go_wp2
    exact bodyPost_ret (v := .int .i64 2) (by simp [results, Tryz.results297, go_sem]) rfl (Or.inl ⟨by have := zg HFA0; omega, zg H3⟩)
  · have hbI : ¬ (300 : Int) < (fA : Int) + (fN : Int) + (fB : Int) := by omega
    have HCh' := zi ((zg HCh) w8 EW8)
    have HO8 := zi ((zg HO4).ext F8)
    have HB := zi hb
    have hfit := (zg HFit) (by have := zg HFA0; omega)
    have HFi := zi hfit
    have HP3 : Hid (P < w3.heap.size) := zi (by omega)
    clear EW8 HCh HO4 HR1 HRN HRB HR HC1 H0 hb hfit F5 F6 F7 F8 hcB
    go_wp2_with fail
    refine (zg HCh').mono ?_
    rintro e w9 ⟨u9, rfl, g9, f9⟩
    have HO9 := zi ((zg HO8).fr f9 (fun g hg e9 => by
      have h1 := (zg HO8).foot hg
      rcases e9 with e9 | e9
      · omega
      · have := (zg HUB) g e9
        omega))
    have HTk' := zi ((zg HTk) w9 u9 _ g9)
    clear HCh' HO8 g9 f9 HTk
    go_wp2_with fail
    refine (zg HTk').mono ?_
    rintro e w10 ⟨v10, rl10, rfl, g10, f10⟩
    have HO10 := zi ((zg HO9).fr f10 (fun g hg e9 => by
      have h1 := (zg HO9).foot hg
      omega))
    have HIn : Hid (Calls Tryz.prog 256 #[.pointer (some ⟨P, 0, none⟩), .slice a4 nN c4] w10 fun e w' => ∃ cl' rl', e = .returned (.tuple #[]) ∧ Ed2 P base W w' k u9 _ ([] ++ (zj rs)) B cl' rl' rr) := zi (by
      obtain ⟨ao, cap, ev, hrs, hr, h1, hx⟩ := (zg HO10).gap (zg HP3)
      refine (zdG P cl rl10 rr [] B (zj rs) _ rfl k u9 _ rs4 w10 g10.blk g10.gap hrs (by simp; exact zg HFi) hr h1 ao cap ev hx).mono ?_
      rintro e w' ⟨cl', rfl, b', G', F'⟩
      exact ⟨cl', _, rfl, g10.step b' G' F'⟩)
    clear HTk' HO9 HO10 g10 f10
    go_wp2_with fail
    refine (zg HIn).mono ?_
    rintro e w11 ⟨cl11, rl11, rfl, g11⟩
    have H9 := zi (g11.end 1)
    clear HIn g11
    go_wp2
    exact bodyPost_ret (v := .int .i64 1) (by simp [results, Tryz.results297, go_sem]) rfl (Or.inr ⟨by have := zg HB; have := zg HFA0; omega, zg H9⟩)
end
theorem zd0 : ∀ {X : List (List Int × Int)}, (∀ c ∈ X, zbD c) → X.length ≤ (zaq X).length
 | [], _ => Nat.zero_le _
 | c :: cs, h => by
  have h1 := zmR (h c (by simp))
  have h2 := zd0 (X := cs) (fun d hd => h d (by simp [hd]))
  have h3 : 0 < c.1.length := List.length_pos_iff.2 h1
  simp [zaq]
  omega
section
variable {P base : Nat} {W : World} {k : ByteArray} {u : Value} {qs : List Nat} {un : List (ByteArray × ByteArray)} {cl rl rr : List Value}
theorem put_any (xs ys : List Int) (hx : xs.length ≤ 1048576) (rv : Value) (rs : List Int) (hr : zag W .i32 rv rs) (iR : zbv rs) (zR : rs.length ≤ 1048576) (hT : ∀ W', Fr (fun x => x = P ∨ base ≤ x) W W' → zcB W') (h : Ed0 P base W k u qs un (zj xs) (zj ys) cl rl rr) :
  Calls Tryz.prog 297 #[.pointer (some ⟨P, 0, none⟩), rv] W fun e w' => (300 < (zaq (zj (xs ++ rs))).length + (zaq (zj ys)).length ∧ EdR P base W w' k un (zj xs) (zj ys) 2 e) ∨ ((zaq (zj (xs ++ rs))).length + (zaq (zj ys)).length ≤ 300 ∧ EdR P base W w' k (zbk un (zv (zac (zj xs)), zv (zac (zj ys)))) (zj (xs ++ rs)) (zj ys) 1 e) := by
 have gB := zd0 (zco ys)
 have gN := zd0 (zco (xs ++ rs))
 rcases List.eq_nil_or_concat (zj xs) with e | ⟨A1, x, e⟩
 ·obtain rfl := zmk xs e
  have e2 : zj [] = [] := rfl
  rw [List.nil_append] at gN ⊢
  rw [e2] at h ⊢
  exact put_Z rv rs hr iR zR (by omega) hT (fun _ => by omega) h
 ·rw [List.concat_eq_append] at e
  have hm := zl2 xs rs A1 x e
  have gA : ∀ c ∈ A1, zbD c := fun c hc => zco xs c (by rw [e]; simp [hc])
  have gx : x.1.length ≤ xs.length + 1 := by
   have := zcJ xs xs.length A1.length
   have e3 : cR (clF xs xs.length) A1.length = x.1 := by
    rw [show clF xs xs.length = A1 ++ [x] from e]
    have := (zgr A1 [x] 0).1
    rw [Nat.add_zero] at this
    exact this
   rw [e3] at this
   exact this
  rw [hm] at gN ⊢
  rw [zbV, List.length_append]
  rw [e] at h ⊢
  rw [List.length_append, zbV, List.length_append] at gN
  have gA2 := zd0 gA
  have gN2 := zd0 (zco (x.1 ++ rs))
  exact put_S rv rs hr iR zR (by rw [List.length_append]; omega) hT (fun _ => by omega) h
theorem zkq {A B : List (List Int × Int)} (kd : Int) (ra : Option Addr) (rc : Nat) (h : Ed0 P base W k u qs un A B cl rl rr) :
  Calls Tryz.prog 259 #[.pointer (some ⟨P, 0, none⟩), .agg #[.int .i64 kd, .slice ra 0 rc]] W fun e w' => EdR P base W w' k un A B 0 e := by
 have H0 := zi (h.same ((Ext.refl W).alloc (.cells #[.int .i64 kd, .slice ra 0 rc] 102)) 0)
 clear h
 go_enter Tryz.func259, Tryz.ntmps259
 go_wp2
 exact bodyPost_ret (v := .int .i64 0) (by simp [results, Tryz.results259, go_sem]) rfl (zg H0)
theorem zi1 (xs ys : List Int) (hx : xs.length ≤ 1048576) (kd : Int) (rv : Value) (rs : List Int) (h0 : 0 < rs.length) (hr : zag W .i32 rv rs) (iR : zbv rs) (zR : rs.length ≤ 1048576) (hT : ∀ W', Fr (fun x => x = P ∨ base ≤ x) W W' → zcB W') (h : Ed0 P base W k u qs un (zj xs) (zj ys) cl rl rr) :
  Calls Tryz.prog 259 #[.pointer (some ⟨P, 0, none⟩), .agg #[.int .i64 kd, rv]] W fun e w' => (300 < (zaq (zj (xs ++ rs))).length + (zaq (zj ys)).length ∧ EdR P base W w' k un (zj xs) (zj ys) 2 e) ∨ ((zaq (zj (xs ++ rs))).length + (zaq (zj ys)).length ≤ 300 ∧ EdR P base W w' k (zbk un (zv (zac (zj xs)), zv (zac (zj ys)))) (zj (xs ++ rs)) (zj ys) 1 e) := by
 have HP := zi (put_any xs ys hx rv rs (hr.ext ((Ext.refl W).alloc (.cells #[.int .i64 kd, rv] 102))) iR zR (fun W' f => hT W' ((Fr.of_ext ((Ext.refl W).alloc (.cells #[.int .i64 kd, rv] 102))).tr f)) (h.ext ((Ext.refl W).alloc (.cells #[.int .i64 kd, rv] 102))))
 obtain ⟨ra, rc, rfl, _⟩ := id hr
 clear h hr iR zR hT hx
 obtain ⟨c1, hc1⟩ : ∃ c : Prop, c = (300 < (zaq (zj (xs ++ rs))).length + (zaq (zj ys)).length) := ⟨_, rfl⟩
 obtain ⟨c2, hc2⟩ : ∃ c : Prop, c = ((zaq (zj (xs ++ rs))).length + (zaq (zj ys)).length ≤ 300) := ⟨_, rfl⟩
 rw [← hc1, ← hc2] at HP ⊢
 clear hc1 hc2
 obtain ⟨n, hn⟩ : ∃ n, rs.length = n := ⟨_, rfl⟩
 rw [hn] at HP h0 ⊢
 have hI : ¬ (n : Int) = 0 := by omega
 have hN : ¬ n = 0 := by omega
 clear hn
 go_enter Tryz.func259, Tryz.ntmps259
 go_wp2_with fail
 refine (zg HP).mono ?_
 rintro e w1 (⟨h1, rfl, h2⟩ | ⟨h1, rfl, h2⟩)
 ·have H2 := zi h2
  clear h2 HP
  go_wp2
  exact bodyPost_ret (v := .int .i64 2) (by simp [results, Tryz.results259, go_sem]) rfl (Or.inl ⟨h1, EdR.pre ⟨rfl, zg H2⟩ ((Ext.refl W).alloc _)⟩)
 ·have H2 := zi h2
  clear h2 HP
  go_wp2
  exact bodyPost_ret (v := .int .i64 1) (by simp [results, Tryz.results259, go_sem]) rfl (Or.inr ⟨h1, EdR.pre ⟨rfl, zg H2⟩ ((Ext.refl W).alloc _)⟩)
end
end Go.Proofs.YtmlkpdbfnffoaaaGreatDoor
