import Derived.Test.YtmlkpdbfnffoaaaGreatDoorEdN
namespace Go.Proofs.YtmlkpdbfnffoaaaGreatDoor
open Go.RowKit
section
variable {P base : Nat} {W : World} {k : ByteArray} {u : Value} {un : List (ByteArray × ByteArray)} {cl rl rr : List Value}
theorem zk4 {W0 : World} {A1 A2 B : List (List Int × Int)} (h : Ed2 P base W0 W k u un (A1 ++ A2) B cl rl rr) :
  Calls Tryz.prog 299 #[.pointer (some ⟨P, 0, none⟩), .int .i64 (A2.length : Int)] W fun e w' => ∃ v rl', e = .returned v ∧ Ed2 P base W0 w' k u un A1 B cl rl' rr ∧ Fr (fun q => q = P) W w' := by
 obtain ⟨hb, hg, hk, hf⟩ := id h
 obtain ⟨r1, r2, rfl, h1, h2⟩ := zjL (by rw [hg.na, List.length_append] : rl.length = A1.length + A2.length)
 rw [List.length_append] at hb
 refine (zik P cl r1 r2 rr A1 A2 B _ k u W hb hg h1).mono ?_
 rintro e w' ⟨v, rfl, b', g', c', f'⟩
 exact ⟨v, r1, rfl, h.step b' g' f', f'⟩
end
section
variable {P base : Nat} {W : World} {k : ByteArray} {u : Value} {qs : List Nat} {un : List (ByteArray × ByteArray)} {cl rl rr : List Value}
set_option linter.unusedSimpArgs false in
set_option maxRecDepth 10000 in
set_option maxHeartbeats 8000000 in
theorem put_S {A1 B : List (List Int × Int)} {x : List Int × Int} (rv : Value) (rs : List Int) (hr : zag W .i32 rv rs) (iR : zbv rs) (zR : rs.length ≤ 1048576) (hN : (x.1 ++ rs).length ≤ 8000000) (hT : ∀ W', Fr (fun x => x = P ∨ base ≤ x) W W' → zcB W') (hfit : (zaq A1).length + (zaq (zj (x.1 ++ rs))).length + (zaq B).length ≤ 300 → A1.length + (zj (x.1 ++ rs)).length + B.length ≤ 300) (h : Ed0 P base W k u qs un (A1 ++ [x]) B cl rl rr) :
    Calls Tryz.prog 297 #[.pointer (some ⟨P, 0, none⟩), rv] W fun e w' => (300 < (zaq A1).length + (zaq (zj (x.1 ++ rs))).length + (zaq B).length ∧ EdR P base W w' k un (A1 ++ [x]) B 2 e) ∨ ((zaq A1).length + (zaq (zj (x.1 ++ rs))).length + (zaq B).length ≤ 300 ∧ EdR P base W w' k (zbk un (zv (zac (A1 ++ [x])), zv (zac B))) (A1 ++ (zj (x.1 ++ rs))) B 1 e) := by
  obtain ⟨ic, hic, hc0, hc1, hc2⟩ := info_parts zcW
  have hg := h.now
  have hl := h.len
  have hPl : P < W.heap.size := zt h.blk
  have hfb := h.fit
  have H1 := zi (zjc h.two)
  have HR := zi (fun w (E : Ext W w) => zic (h.ext E).two)
  have HCh := zi (fun w (E : Ext W w) => zh8 h E)
  have H0 := zi (fun w (E : Ext W w) => h.same E 2)
  have HTk := zi (fun w u' un' (g : Ed2 P base W w k u' un' (A1 ++ [x]) B cl rl rr) => zk4 g)
  have hna := hg.na
  rw [List.length_append] at hna hfb
  obtain ⟨r1, r2, rfl, h1, h2⟩ := zjL hna
  have HC2 : Hid (∀ w, Ext W w → ∀ c, 1 ≤ c → zaI w (.slice (some ⟨P, A1.length * 2, none⟩) 1 c) [x]) := zi (fun w E c hc => (hg.tookL h1 h.blk c hc).ext E)
  have HC1 : Hid (∀ w, Ext W w → zaI w (.slice (some ⟨P, 0, none⟩) A1.length 300) A1) := zi (fun w E => ((hg.takeL h1).left h.blk 300 (by omega)).ext E)
  have cB := h.cb
  have cA := h.ca
  have sA : zaL A1 A1.length ≤ zaL (A1 ++ [x]) (A1 ++ [x]).length := by
    rw [← zfH A1 [x] A1.length (Nat.le_refl _)]
    exact zk3 _ _ _ (by simp)
  have cA1 : A1.length + zaL A1 A1.length ≤ 16777216 := by have := cA.1; rw [List.length_append] at this sA; omega
  have ix : zbv x.1 := by
    have := cA.2 A1.length (by simp)
    have e := (zgr A1 [x] 0).1
    rw [Nat.add_zero] at e
    rw [e] at this
    exact this
  have zx : x.1.length ≤ 8000000 := by rw [List.length_append] at hN; omega
  have HR2 := zi (fun v w (hv : zaI w v [x]) => zbs v [x] w hv (by simp [zaL, cR]; omega))
  have HR1 := zi (fun v w (hv : zaI w v A1) => zbs v A1 w hv cA1)
  have HRN := zi (fun v w (hv : zaI w v (zj (x.1 ++ rs))) => zbs v (zj (x.1 ++ rs)) w hv (zb7 _ hN))
  have HRB := zi (fun v w (hv : zaI w v B) => zbs v B w hv cB.1)
  have HK := zi (fun v w (E : Ext W w) (hv : zag w .i32 v (x.1 ++ rs)) => zcp v (x.1 ++ rs) w hv (fun z hz => (List.mem_append.1 hz).elim (ix z) (iR z)) (by omega) (hT w (Fr.of_ext E)))
  have HSr := zi (fun w (E : Ext W w) => Src.ints (hr.ext E))
  obtain ⟨ra, rc, rfl, _⟩ := id hr
  have hub : ∀ b, u.ownBlock = some b → b < W.heap.size := fun b hb => (h.bk.2.1.lt b hb).2
  have HUB := zi hub
  obtain ⟨fN, hfN⟩ : ∃ n, (zaq (zj (x.1 ++ rs))).length = n := ⟨_, rfl⟩
  obtain ⟨fB, hfB⟩ : ∃ n, (zaq B).length = n := ⟨_, rfl⟩
  have zfN : fN ≤ 16777216 := by rw [← hfN, zci]; have := zb7 _ hN; omega
  have zfB : fB ≤ 16777216 := by rw [← hfB, zci]; have := cB.1; omega
  have HFN := zi hfN
  have HFB := zi hfB
  obtain ⟨fA, hfA⟩ : ∃ n, (zaq A1).length = n := ⟨_, rfl⟩
  have zfA : fA ≤ 16777216 := by rw [← hfA, zci]; omega
  have HFA := zi hfA
  rw [hfN, hfB, hfA] at hfit ⊢
  have HFit := zi hfit
  obtain ⟨q, hq⟩ : ∃ q, A1.length = q := ⟨_, rfl⟩
  have hn1 : (A1 ++ [x]).length = q + 1 := by rw [List.length_append, hq]; rfl
  rw [hn1] at H1
  rw [hq] at HC1 HC2 hfb
  have hq300 : q + 1 ≤ 300 := by simp at hfb; omega
  obtain ⟨n, hn⟩ : ∃ n, q + 1 = n := ⟨_, rfl⟩
  rw [hn] at H1 hq300
  have hw1 : IntKind.i64.wrap ((n : Int) - 1) = (q : Int) := by rw [IntKind.wrap_i64]; omega
  have b1 : (q : Int) ≤ (n : Int) := by omega
  have b2 : (n : Int) ≤ 300 := by omega
  have b3 : ¬ 300 = q := by omega
  have b4 : n - q = 1 := by omega
  have b5 : (q : Int) ≤ 300 := by omega
  have b6 : ¬ (q : Int) < 0 := by omega
  have b7 : (0 : Int) ≤ (q : Int) := by omega
  have HQ := zi hq
  have hw9 : IntKind.i64.wrap ((n : Int) - (q : Int)) = 1 := by rw [IntKind.wrap_i64]; omega
  have hwS : IntKind.i64.wrap ((fA : Int) + (fN : Int)) = (fA : Int) + (fN : Int) := by rw [IntKind.wrap_i64]; omega
  have hwT : IntKind.i64.wrap ((fA : Int) + (fN : Int) + (fB : Int)) = (fA : Int) + (fN : Int) + (fB : Int) := by rw [IntKind.wrap_i64]; omega
  clear h hg hfit hr hT iR cB cA hub hfN hfB hfA hna h1 h2 sA cA1 ix hfb hn1 hn hq
  go_enter Tryz.func297, Tryz.ntmps297
  go_wp2_with fail
  refine (zg H1).mono ?_
  rintro e w1 ⟨rfl, -, E1⟩
  have HE1 := zi E1
  clear H1 E1
  go_wp2_with fail
  refine ((zg HR2) _ w1 ((zg HC2) w1 (zg HE1) _ (by omega))).mono ?_
  rintro e w2 ⟨v2, rfl, o2, E2⟩
  obtain ⟨a2, c2, rfl⟩ := zcb o2
  have HO2 := zi o2
  have hf2 : (zaq [x]).length ≤ 8000000 := by simp [zaq]; omega
  obtain ⟨L2, hL2⟩ : ∃ n, (zaq [x]).length = n := ⟨_, rfl⟩
  rw [hL2] at HO2 hf2 ⊢
  have HL2 := zi hL2
  have HE2 := Hid.ht HE1 E2
  have zw2 := E2.size
  clear HR2 HC2 E2 o2 hL2
  go_wp2_with (at_builtin; go_loud (
     refine zao rfl _ _ 100 rfl w1.heap.size 21 ic (.int .i32 0) 1 4 Tryz.underlying100 hic hc0 hc1 hc2 rfl (by decide) (.slice a2 L2 c2) _ _ rfl (zg HO2) _ _ _ rfl ((zg HSr) w2 (zg HE2)) (by unfold maxLen; omega) (by omega) zw2 ?_
     intro v3 w3 o3 G3 _
     have E3 : Ext W w3 := (zg HE2).grown G3 (fun b hb => Nat.le_trans (zg HE1).size ((zg HO2).lt b hb).1)
     have i3 : zag w3 .i32 v3 (x.1 ++ rs) := (by
       have e : (zaq [x]).map (Value.int .i32) ++ rs.map (Value.int .i32) = (x.1 ++ rs).map (Value.int .i32) := (by simp [zaq])
       have e2 : L2 + rs.length = (x.1 ++ rs).length := (by rw [← zg HL2]; simp [zaq])
       rw [e, e2] at o3
       exact zaf o3)
     obtain ⟨a3, c3, rfl⟩ := zcb o3
     have HE3 := zi E3
     have HI3 := zi i3
     clear o3 G3 E3 i3))
  refine ((zg HK) _ w3 (zg HE3) (zg HI3)).mono ?_
  rintro e w4 ⟨v4, rs4, rfl, o4, E4⟩
  obtain ⟨a4, c4, rfl⟩ : ∃ a c, v4 = .slice a (zj (x.1 ++ rs)).length c := by
    obtain ⟨_, ao, ca, e, _⟩ := o4.cls
    exact ⟨ao, ca, e⟩
  have HO4 := zi o4
  have HE4 := Hid.ht HE3 E4
  have hz3 := (zg HE3).size
  obtain ⟨nN, hnN⟩ : ∃ n, (zj (x.1 ++ rs)).length = n := ⟨_, rfl⟩
  have HNN := zi hnN
  rw [hnN] at HO4 ⊢
  clear HK HI3 HSr HO2 HL2 E4 o4 hnN
  go_wp2_with fail
  refine wp_region_held_drew (S := fun W9 => Ext w4 W9) (by kernel_rfl) (by first | exact Ext.refl w4 | exact (Ext.refl w4).drew) (fun hHeld => ?_)
  refine tk 0 ?_ rfl (by kernel_rfl) (fun _ _ _ h => h) (by rfl) ?_ (by assumption) ?_
  rotate_left
  · intro w' hSw; go_simp <;> with_reducible rfl
  simp only [Act.put, q9]
  refine tk 1 ?_ rfl (by kernel_rfl) (fun _ _ _ h => h) (by rfl) ?_ (by assumption) ?_
  rotate_left
  · intro w' hSw; go_simp <;> with_reducible rfl
  simp only [Act.put, q9]
  refine tk 2 ?_ rfl (by kernel_rfl) (fun _ _ _ h => h) (by rfl) ?_ (by assumption) ?_
  rotate_left
  · intro w' hSw; go_simp <;> with_reducible rfl
  simp only [Act.put, q9]
  refine tk 5 ?_ rfl (by kernel_rfl) (fun _ _ _ h => h) (by rfl) ?_ (by assumption) ?_
  rotate_left
  · intro w' hSw; go_simp <;> with_reducible rfl
  simp only [Act.put, q9]
  refine tk 9 ?_ rfl (by kernel_rfl) (fun _ _ _ h => h) (by rfl) ?_ (by assumption) ?_
  rotate_left
  · intro w' hSw; go_simp <;> with_reducible rfl
  simp only [Act.put, q9]
  refine tk 10 ?_ rfl (by kernel_rfl) (fun _ _ _ h => h) (by rfl) ?_ (by assumption) ?_
  rotate_left
  · intro w' hSw; go_simp <;> with_reducible rfl
  simp only [Act.put, q9]
  refine tk 11 ?_ rfl (by kernel_rfl) (fun _ _ _ h => h) (by rfl) ?_ (by assumption) ?_
  rotate_left
  · intro w' hSw; go_simp <;> with_reducible rfl
  simp only [Act.put, q9]
  refine rdy 3 (by kernel_rfl) rfl (fun K hK => ?_)
  go_simp
  go_wp2_with (go_at_call 324; refine ((zg HR1) _ _ ((zg HC1) _ (by first | exact zg HE4 | exact (zg HE4).drew))).mono ?_; rintro e w5 ⟨v5, rfl, o5, E5⟩; rw [zg HFA] at o5; obtain ⟨a5, c5, rfl⟩ := zcb o5; have F5 : Ext w4 w5 := (by first | exact E5 | exact (Ext.refl _).drew.trans E5); clear o5 E5)
  refine hK.out _ _ F5 (fun hHeld => ?_)
  clear hK K
  refine tk 4 ?_ rfl (by kernel_rfl) (fun _ _ _ h => h) (by rfl) ?_ (by assumption) ?_
  rotate_left
  · intro w' hSw; go_simp <;> with_reducible rfl
  simp only [Act.put, q9]
  refine rdy 6 (by kernel_rfl) rfl (fun K hK => ?_)
  go_simp
  go_wp2_with (go_at_call 324; refine ((zg HRN) _ _ ((zg HO4).cls.ext (by first | exact F5 | exact F5.drew))).mono ?_; rintro e w6 ⟨v6, rfl, o6, E6⟩; rw [zg HFN] at o6; obtain ⟨a6, c6, rfl⟩ := zcb o6; have F6 : Ext w4 w6 := (by first | exact F5.trans E6 | exact F5.drew.trans E6); clear o6 E6)
  refine hK.out _ _ F6 (fun hHeld => ?_)
  clear hK K
  refine tk 7 ?_ rfl (by kernel_rfl) (fun _ _ _ h => h) (by rfl) ?_ (by assumption) ?_
  rotate_left
  · intro w' hSw; go_simp <;> with_reducible rfl
  simp only [Act.put, q9]
  refine tk 8 ?_ rfl (by kernel_rfl) (fun _ _ _ h => h) (by rfl) ?_ (by assumption) ?_
  rotate_left
  · intro w' hSw; go_simp <;> with_reducible rfl
  simp only [Act.put, q9]
  refine rdy 12 (by kernel_rfl) rfl (fun K hK => ?_)
  go_simp
  go_wp2_with (go_at_call 276; refine ((zg HR) _ (by first | exact (zg HE4).trans F6 | exact (zg HE4).trans F6.drew)).mono ?_; rintro e w7 ⟨a7, c7, rfl, hcB, E7⟩; have F7 : Ext w4 w7 := (by first | exact F6.trans E7 | exact F6.drew.trans E7); clear E7)
  refine hK.out _ _ F7 (fun hHeld => ?_)
  clear hK K
  refine rdy 13 (by kernel_rfl) rfl (fun K hK => ?_)
  go_simp
  go_wp2_with (go_at_call 324; refine ((zg HRB) _ _ (hcB.ext (by first | exact Ext.refl _ | exact (Ext.refl _).drew))).mono ?_; rintro e w8 ⟨v8, rfl, o8, E8⟩; rw [zg HFB] at o8; obtain ⟨a8, c8, rfl⟩ := zcb o8; have F8 : Ext w4 w8 := (by first | exact F7.trans E8 | exact F7.drew.trans E8); clear o8 E8)
  refine hK.out _ _ F8 (fun hHeld => ?_)
  clear hK K
  refine tk 14 ?_ rfl (by kernel_rfl) (fun _ _ _ h => h) (by rfl) ?_ (by assumption) ?_
  rotate_left
  · intro w' hSw; go_simp <;> with_reducible rfl
  simp only [Act.put, q9]
  refine tk 15 ?_ rfl (by kernel_rfl) (fun _ _ _ h => h) (by rfl) ?_ (by assumption) ?_
  rotate_left
  · intro w' hSw; go_simp <;> with_reducible rfl
  simp only [Act.put, q9]
  refine tk 16 ?_ rfl (by kernel_rfl) (fun _ _ _ h => h) (by rfl) ?_ (by assumption) ?_
  rotate_left
  · intro w' hSw; go_simp <;> with_reducible rfl
  simp only [Act.put, q9]
  refine wpAnyH_done (by kernel_rfl) ?_ _
  have EW8 := (zg HE4).trans F8
  by_cases hb : 300 < fA + fN + fB
  · have hbI : (300 : Int) < (fA : Int) + (fN : Int) + (fB : Int) := by omega
    have H3 := zi ((zg H0) w8 EW8)
    clear EW8 HCh HTk HO4
    go_wp2
    exact bodyPost_ret (v := .int .i64 2) (by simp [results, Tryz.results297, go_sem]) rfl (Or.inl ⟨hb, zg H3⟩)
  · have hbI : ¬ (300 : Int) < (fA : Int) + (fN : Int) + (fB : Int) := by omega
    have HCh' := zi ((zg HCh) w8 EW8)
    have HO8 := zi ((zg HO4).ext F8)
    have HB := zi hb
    have hfit := (zg HFit) (by omega)
    have HFi := zi hfit
    have HP3 : Hid (P < w3.heap.size) := zi (by omega)
    clear EW8 HCh HO4 HR1 HRN HRB HR HC1 H0 hb hfit F5 F6 F7 F8 hcB
    go_wp2_with fail
    refine (zg HCh').mono ?_
    rintro e w9 ⟨u9, rfl, g9, f9⟩
    have HO9 := zi ((zg HO8).fr f9 (fun g hg e9 => by
      have h1 := (zg HO8).foot hg
      rcases e9 with e9 | e9
      · omega
      · have := (zg HUB) g e9
        omega))
    have HTk' := zi ((zg HTk) w9 u9 _ g9)
    clear HCh' HO8 g9 f9 HTk
    go_wp2_with fail
    refine (zg HTk').mono ?_
    rintro e w10 ⟨v10, rl10, rfl, g10, f10⟩
    have HO10 := zi ((zg HO9).fr f10 (fun g hg e9 => by
      have h1 := (zg HO9).foot hg
      omega))
    have HIn : Hid (Calls Tryz.prog 256 #[.pointer (some ⟨P, 0, none⟩), .slice a4 nN c4] w10 fun e w' => ∃ cl' rl', e = .returned (.tuple #[]) ∧ Ed2 P base W w' k u9 _ (A1 ++ (zj (x.1 ++ rs))) B cl' rl' rr) := zi (by
      obtain ⟨ao, cap, ev, hrs, hr, h1, hx⟩ := (zg HO10).gap (zg HP3)
      refine (zdG P cl rl10 rr A1 B (zj (x.1 ++ rs)) _ rfl k u9 _ rs4 w10 g10.blk g10.gap hrs (by exact zg HFi) hr h1 ao cap ev hx).mono ?_
      rintro e w' ⟨cl', rfl, b', G', F'⟩
      exact ⟨cl', _, rfl, g10.step b' G' F'⟩)
    clear HTk' HO9 HO10 g10 f10
    go_wp2_with fail
    refine (zg HIn).mono ?_
    rintro e w11 ⟨cl11, rl11, rfl, g11⟩
    have H9 := zi (g11.end 1)
    clear HIn g11
    go_wp2
    exact bodyPost_ret (v := .int .i64 1) (by simp [results, Tryz.results297, go_sem]) rfl (Or.inr ⟨by have := zg HB; omega, zg H9⟩)
end
end Go.Proofs.YtmlkpdbfnffoaaaGreatDoor
