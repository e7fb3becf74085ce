import Derived.Test.YtinfdhbnljnifaaGreatDoorRd
import Derived.Test.YtinfdhbnljnifaaGreatDoorWhole
import Derived.Test.YtinfdhbnljnifaaGreatDoorEdW2
import Derived.Test.YtinfdhbnljnifaaGreatDoorKmU
import Derived.Test.YtinfdhbnljnifaaGreatDoorShF
import Derived.Deep.DeepCutAuto
import Derived.Deep.RegionHeldLaw
namespace Go.Proofs.YtinfdhbnljnifaaGreatDoor
open Go.RowKit
theorem zay : (Tryz.prog.info? 26).map (·.size) = some 8 := by kernel_rfl
theorem zhy {w : World} {b o n k : Nat} {A : Nat → Value} (h : zam w (.slice (some ⟨b, o, none⟩) n k) n A) : n ≤ k ∧ ∀ j, j < n → w.cell? ⟨b, o + j, none⟩ = some (A j) := by
 obtain ⟨ao9, c9, e9, h9, hx9⟩ := h
 obtain ⟨g1, _, g3⟩ := Value.slice.inj e9
 refine ⟨by omega, fun j hj => ?_⟩
 obtain ⟨b8, o8, e8, hc⟩ := hx9 (by omega)
 rw [← g1] at e8
 injection e8 with e8
 injection e8 with e7 e6
 subst e7
 subst e6
 exact hc j hj
theorem zoK : (Tryz.prog.info? 9).map (fun i => (i.zero, i.size, i.bytes)) = some (some (.string { data := #[] }), 1, 16) := by kernel_rfl
theorem zdV : (Tryz.prog.info? 46).map (·.size) = some 3 := by kernel_rfl
structure DrC (w : World) (mv : Value) (c r n1 n2 N ot : Nat) (tx ty : Nat → ByteArray) (r1 c1 r2 c2 : Int) (SB : Nat → World → Array Value → Prop) (z1 z2 z3 z4 z5 : List Int) (T1 T5 : Nat → ByteArray) (L5 : Nat) : Prop where
 new : ∀ W, Calls Tryz.prog 23 #[.int .i64 c, .int .i64 r] W fun e w' => ∃ cs, e = .returned (.tuple #[.agg cs, .bool true]) ∧ SB 0 w' cs ∧ Ext W w'
 above : ∀ W, Ext w W → Calls Tryz.prog 24 #[mv] W fun e w' => ∃ a k, e = .returned (.slice a z1.length k) ∧ zx w' .u8 (.slice a z1.length k) z1 ∧ Ext W w'
 others : ∀ W v, zx W .u8 v z1 → Calls Tryz.prog 26 #[v] W fun e w' => e = .returned (.int .i64 ot) ∧ Ext W w'
 count : z1.length = N + ot
 small : z1.length ≤ 1000 ∧ n1 ≤ 100 ∧ N ≤ 100
 pos : 0 ≤ r1 ∧ r1 < n1 ∧ 0 ≤ r2 ∧ r2 < 100
 feed : ∀ i j z, (i = 0 ∧ j = 1 ∧ z = z1 ∨ i = 1 ∧ j = 2 ∧ z = z2 ∨ i = 2 ∧ j = 3 ∧ z = z3 ∨ i = 2 ∧ j = 4 ∧ z = z4 ∨ i = 1 ∧ j = 5 ∧ z = z5) → ∀ W cs yv, Ext w W → SB i W cs → zx W .u8 yv z → Calls Tryz.prog 8 #[.agg cs, yv] W fun e w' => ∃ cs', e = .returned (.agg cs') ∧ (∀ W', Fr (fun q => q < W.heap.size) w' W' → SB j W' cs') ∧ Ext W w'
 lines1 : ∀ W cs, SB 1 W cs → Calls Tryz.prog 25 #[.agg cs] W fun e w' => ∃ a k, e = .returned (.slice a (N + 1) k) ∧ zam w' (.slice a (N + 1) k) (N + 1) (fun j => .string (T1 j)) ∧ Ext W w'
 lines5 : ∀ W cs, SB 5 W cs → Calls Tryz.prog 25 #[.agg cs] W fun e w' => ∃ a k, e = .returned (.slice a L5 k) ∧ zam w' (.slice a L5 k) L5 (fun j => .string (T5 j)) ∧ Ext W w'
 paint1 : ∀ W v, Ext w W → zam W v n1 (fun j => .string (tx j)) → Calls Tryz.prog 27 #[.agg #[v, .int .i64 r1, .int .i64 c1]] W fun e w' => ∃ a k, e = .returned (.slice a z2.length k) ∧ zx w' .u8 (.slice a z2.length k) z2 ∧ Ext W w'
 erase : ∀ W v, Ext w W → zam W v n1 (fun j => .string (tx j)) → Calls Tryz.prog 30 #[.agg #[v, .int .i64 r1, .int .i64 c1]] W fun e w' => ∃ a k, e = .returned (.slice a z3.length k) ∧ zx w' .u8 (.slice a z3.length k) z3 ∧ Ext W w'
 redraw : ∀ W v u, Ext w W → zam W v n1 (fun j => .string (tx j)) → zam W u n2 (fun j => .string (ty j)) → Calls Tryz.prog 31 #[.agg #[v, .int .i64 r1, .int .i64 c1], .agg #[u, .int .i64 r2, .int .i64 c2]] W fun e w' => ∃ a k, e = .returned (.slice a z4.length k) ∧ zx w' .u8 (.slice a z4.length k) z4 ∧ Ext W w'
 paint2 : ∀ W v, Ext w W → zam W v n2 (fun j => .string (ty j)) → Calls Tryz.prog 27 #[.agg #[v, .int .i64 r2, .int .i64 c2]] W fun e w' => ∃ a k, e = .returned (.slice a z5.length k) ∧ zx w' .u8 (.slice a z5.length k) z5 ∧ Ext W w'
 trim : ∀ W j, j < n1 → Calls Tryz.prog 28 #[.string (tx j)] W fun e w' => e = .returned (.string (zaR (tx j))) ∧ w' = W
 shows2 : ∀ W cs v, SB 2 W cs → zam W v (N + zbz (fun i => zaR (tx i)) r1.toNat n1 + 1) (fun k => .string (if k < N then T1 k else zaR (tx (k - N)))) → Calls Tryz.prog 29 #[.agg cs, v, .int .i64 ((N : Int) + r1), .int .i64 c1] W fun e w' => e = .returned (.bool true) ∧ Ext W w'
 shows3 : ∀ W cs v, SB 3 W cs → zam W v (N + 1) (fun k => .string (T1 k)) → Calls Tryz.prog 29 #[.agg cs, v, .int .i64 (N : Int), .int .i64 0] W fun e w' => e = .returned (.bool true) ∧ Ext W w'
 shows4 : ∀ W cs v, SB 4 W cs → zam W v L5 (fun k => .string (T5 k)) → Calls Tryz.prog 29 #[.agg cs, v, .int .i64 ((N : Int) + r2), .int .i64 c2] W fun e w' => e = .returned (.bool true) ∧ Ext W w'
set_option linter.unusedSimpArgs false in
set_option maxRecDepth 20000 in
set_option maxHeartbeats 8000000 in
theorem zkQ (ca ma : Option Addr) (cl cc ml mc : Nat) (w : World) (hl1 : cl ≤ 1048576) (hl2 : ml ≤ 1048576)
  (hTw : Calls Tryz.prog 22 #[.slice ca cl cc] w fun e w' => ∃ (c r n1 n2 N ot : Nat) (a1 a2 : Option Addr) (k1 k2 : Nat) (tx ty : Nat → ByteArray) (r1 c1 r2 c2 : Int) (z1 z2 z3 z4 z5 : List Int) (T1 T5 : Nat → ByteArray) (L5 : Nat) (SB : Nat → World → Array Value → Prop), (∀ i w w' cs, SB i w cs → Ext w w' → SB i w' cs) ∧ (∀ i w cs, SB i w cs → cs.size = 8 ∧ cs.all (·.oneCell') = true) ∧ e = .returned (.tuple #[.int .i64 c, .int .i64 r, .agg #[.slice a1 n1 k1, .int .i64 r1, .int .i64 c1], .agg #[.slice a2 n2 k2, .int .i64 r2, .int .i64 c2]]) ∧ zam w' (.slice a1 n1 k1) n1 (fun j => .string (tx j)) ∧ zam w' (.slice a2 n2 k2) n2 (fun j => .string (ty j)) ∧ DrC w (.slice ma ml mc) c r n1 n2 N ot tx ty r1 c1 r2 c2 SB z1 z2 z3 z4 z5 T1 T5 L5 ∧ Ext w w') :
  Calls Tryz.prog 5 #[.slice ca cl cc, .slice ma ml mc] w fun e w' => e = .returned (.bool true) ∧ Below w.heap.size w w' := by
 have b1 : ¬ (1048576 : Int) < (cl : Int) := by omega
 have b2 : ¬ (1048576 : Int) < (ml : Int) := by omega
 have HTw := zh hTw
 clear hTw
 go_enter Tryz.func5, Tryz.ntmps5
 go_wp2_with fail
 refine (zu HTw).mono ?_
 rintro e w1 ⟨c, r, n1, n2, N, ot, a1, a2, k1, k2, tx, ty, r1, c1, r2, c2, z1, z2, z3, z4, z5, T1, T5, L5, SB, hext, hcells, rfl, ha, hb, D, E1⟩
 obtain ⟨ab, ao, rfl⟩ : ∃ b o, a1 = some ⟨b, o, none⟩ := by
  obtain ⟨ao9, c9, e9, _, hx9⟩ := id ha
  obtain ⟨b8, o8, e8, _⟩ := hx9 (by have := D.pos; omega)
  exact ⟨b8, o8, (Value.slice.inj e9).1.trans e8⟩
 obtain ⟨rn, rfl⟩ : ∃ rn : Nat, r1 = (rn : Int) := ⟨r1.toNat, by have h1 := D.pos; omega⟩
 have HD := zh D
 have HA := zh ha
 have HBb := zh hb
 have HE := zh E1
 clear HTw ha hb D E1
 have HN0 := zh (heap_alloc_new w1 (.cells #[.slice none 0 0, .int .i64 0, .int .i64 0] 46))
 have HN1 := zh (heap_alloc_new (w1.alloc (.cells #[.slice none 0 0, .int .i64 0, .int .i64 0] 46)) (.cells #[.slice none 0 0, .int .i64 0, .int .i64 0] 46))
 obtain ⟨V, hV⟩ : ∃ V, V = (w1.alloc (.cells #[.slice (some ⟨ab, ao, none⟩) n1 k1, .int .i64 (rn : Int), .int .i64 c1] 46)).alloc (.cells #[.slice a2 n2 k2, .int .i64 r2, .int .i64 c2] 46) := ⟨_, rfl⟩
 have HBA : Hid (V.heap[w1.heap.size]? = some (.cells #[.slice (some ⟨ab, ao, none⟩) n1 k1, .int .i64 (rn : Int), .int .i64 c1] 46 (0, 0))) := zh (by rw [hV]; exact ((Ext.refl _).alloc _).kept (zk w1 _))
 have HBB : Hid (V.heap[w1.heap.size + 1]? = some (.cells #[.slice a2 n2 k2, .int .i64 r2, .int .i64 c2] 46 (0, 0))) := zh (by rw [hV]; have h := zk (w1.alloc (.cells #[.slice (some ⟨ab, ao, none⟩) n1 k1, .int .i64 (rn : Int), .int .i64 c1] 46)) (.cells #[.slice a2 n2 k2, .int .i64 r2, .int .i64 c2] 46); simpa using h)
 have EV : Ext w1 V := by rw [hV]; exact ((Ext.refl _).alloc _).alloc _
 replace HE := Hid.ht HE EV
 replace HA := zh ((zu HA).ext EV)
 replace HBb := zh ((zu HBb).ext EV)
 have HV := zh hV
 have zV : w1.heap.size + 2 = V.heap.size := by rw [hV]; simp
 clear hV EV HN0 HN1
 go_wp2_with fail
 rw [← zu HV]
 clear HV
 refine ((zu HD).new _).mono ?_
 rintro e w2 ⟨c0, rfl, hs0, F2⟩
 have HF2 := zh F2
 have HS0 := zh hs0
 have HN2 := zh (heap_alloc_new w2 (.cells zS8 26))
 have HC_c0 := zh (hcells _ _ _ hs0)
 have y2 := F2.size
 clear hs0 F2
 go_wp2_with (refine zi rfl 26 _ _ rfl rfl (w2.heap.size) rfl _ _ c0 rfl (zu HN2) (by rw [(zu HC_c0).1]; exact zay) (by rw [(zu HC_c0).1]; rfl) (zu HC_c0).2 ?_; intro U hb9 hf9; have HBS0 := zh hb9; have HEU := zh (hf9.ext ((Ext.refl w2).alloc _) (fun q hq => by omega)); clear hb9 hf9; refine zaS.intro ?_)
 show wpList _ _ _ _ _ _
 replace HS0 := zh (hext _ _ _ _ (zu HS0) (zu HEU))
 have HEU2 := zh ((zu HF2).trans (zu HEU))
 have zU := (zu HEU).size
 have hPU := zq (zu HBS0)
 clear HF2 HN2 HEU
 have HAb := zh (fun W (hW : Ext U W) => (zu HD).above W ((zu HE).trans ((zu HEU2).trans hW)))
 have HFd := zh (fun W yv (hW : Ext U W) (hy : zx W .u8 yv z1) => (zu HD).feed 0 1 z1 (.inl ⟨rfl, rfl, rfl⟩) W c0 yv ((zu HE).trans ((zu HEU2).trans hW)) (hext _ _ _ _ (zu HS0) hW) hy)
 go_upto_region 7 with fail
 go_cut [9] (fun v0 wq => ∃ (cS1 : Array Value), v0 = .pointer (some ⟨w2.heap.size, 0, none⟩) ∧ Hid (wq.heap[w2.heap.size]? = some (.cells cS1 26 (0, 0))) ∧ Hid (SB 1 wq cS1) ∧ Hid (Ext V wq))
 case first =>
  refine wp_region_held_drew (S := fun _ => True) (by kernel_rfl) trivial (fun hHeld => ?_)
  have G := zh ((Ext.refl U).drew)
  generalize U.drew = Wr0 at *
  refine tk 1 ?_ rfl (by kernel_rfl) (fun _ _ _ h => h) (by rfl) ?_ (by assumption) ?_
  rotate_left
  ·intro w' hSw; go_simp <;> with_reducible rfl
  simp only [Act.put, qA, qB, qC, qD, qE, qF]
  refine wpAnyH_ready (rs := [0, 2]) (by kernel_rfl) (by simp) ?_
  refine (AllReadyH.cons rfl (fun K hK => ?_) (AllReadyH.cons rfl (fun K hK => ?_) AllReadyH.nil))
  ·refine zc8 rfl 26 _ rfl (w2.heap.size) rfl _ _ _ _ ((zu G).kept (zu HBS0)) Tryz.underlying26 rfl (by rw [(zu HC_c0).1]; exact zay) ?_
   refine hK.out _ _ trivial (fun hHeld => ?_)
   clear hK K
   simp only [Act.put, qA, qB, qC, qD, qE, qF]
   refine rdy 2 (by kernel_rfl) rfl (fun K hK => ?_)
   go_simp
   refine ((zu HAb) _ (zu G)).mono ?_
   rintro e Wr1 ⟨ya, yc, rfl, hy9, f9⟩
   have HY := zh hy9
   replace G := Hid.ht G f9
   clear hy9 f9
   refine hK.out _ _ trivial (fun hHeld => ?_)
   clear hK K
   refine rdy 3 (by kernel_rfl) rfl (fun K hK => ?_)
   go_simp
   have zG := (zu G).size
   refine ((zu HFd) _ _ (zu G) (zu HY)).mono ?_
   rintro e Wr2 ⟨cN, rfl, hs9, f9⟩
   have HSN := zh hs9
   replace G := Hid.ht G f9
   clear hs9 f9
   refine hK.out _ _ trivial (fun hHeld => ?_)
   clear hK K
   refine rdy 4 (by kernel_rfl) rfl (fun K hK => ?_)
   have hcN := hcells _ _ _ ((zu HSN) _ (Fr.refl _ _))
   refine ze 26 _ _ rfl rfl (w2.heap.size) rfl _ _ cN rfl ((zu G).kept (zu HBS0)) (by rw [hcN.1]; exact zay) (by rw [hcN.1, (zu HC_c0).1]) hcN.2 ?_
   intro Wr3 hb9 hf9
   have HSU := zh ((zu HSN) _ (hf9.mono (fun q hq => by omega)))
   have HEV := zh (hf9.ext ((zu HEU2).trans (zu G)) (fun q9 h9 => by omega))
   refine hK.out _ _ trivial (fun hHeld => ?_)
   clear hK K
   refine wpAnyH_done (by kernel_rfl) ?_ _
   go_wp2
   go_meet
   exact ⟨_, rfl, zh hb9, HSU, HEV⟩
  ·go_simp
   refine ((zu HAb) _ (zu G)).mono ?_
   rintro e Wr4 ⟨ya, yc, rfl, hy9, f9⟩
   have HY := zh hy9
   replace G := Hid.ht G f9
   clear hy9 f9
   refine hK.out _ _ trivial (fun hHeld => ?_)
   clear hK K
   refine rdy 0 (by kernel_rfl) rfl (fun K hK => ?_)
   refine zc8 rfl 26 _ rfl (w2.heap.size) rfl _ _ _ _ ((zu G).kept (zu HBS0)) Tryz.underlying26 rfl (by rw [(zu HC_c0).1]; exact zay) ?_
   refine hK.out _ _ trivial (fun hHeld => ?_)
   clear hK K
   simp only [Act.put, qA, qB, qC, qD, qE, qF]
   refine rdy 3 (by kernel_rfl) rfl (fun K hK => ?_)
   go_simp
   have zG := (zu G).size
   refine ((zu HFd) _ _ (zu G) (zu HY)).mono ?_
   rintro e Wr5 ⟨cN, rfl, hs9, f9⟩
   have HSN := zh hs9
   replace G := Hid.ht G f9
   clear hs9 f9
   refine hK.out _ _ trivial (fun hHeld => ?_)
   clear hK K
   refine rdy 4 (by kernel_rfl) rfl (fun K hK => ?_)
   have hcN := hcells _ _ _ ((zu HSN) _ (Fr.refl _ _))
   refine ze 26 _ _ rfl rfl (w2.heap.size) rfl _ _ cN rfl ((zu G).kept (zu HBS0)) (by rw [hcN.1]; exact zay) (by rw [hcN.1, (zu HC_c0).1]) hcN.2 ?_
   intro Wr6 hb9 hf9
   have HSU := zh ((zu HSN) _ (hf9.mono (fun q hq => by omega)))
   have HEV := zh (hf9.ext ((zu HEU2).trans (zu G)) (fun q9 h9 => by omega))
   refine hK.out _ _ trivial (fun hHeld => ?_)
   clear hK K
   refine wpAnyH_done (by kernel_rfl) ?_ _
   go_wp2
   go_meet
   exact ⟨_, rfl, zh hb9, HSU, HEV⟩
 case rest =>
 rename World => w3
 obtain ⟨cS1, rfl, HBS, HS1, HX⟩ := hcut
 have HC_cS1 := zh (hcells _ _ _ (zu HS1))
 clear HAb HFd HBS0 HS0 HC_c0 HEU2 zU hPU
 obtain ⟨hz1s, hn1s, hNs⟩ := (zu HD).small
 have hNw : IntKind.i64.wrap (((N + 1 : Nat) : Int) - 1) = (N : Int) := by rw [IntKind.wrap_i64] <;> omega
 have y3 := (zu HX).size
 have hPS := zq (zu HBS)
 go_wp2_with (show wpList _ _ _ (List.cons ⟨_, .load _ _, _, _, _, _⟩ _) _ _; refine zl rfl 26 _ rfl (w2.heap.size) rfl _ _ _ _ (zu HBS) Tryz.underlying26 rfl (by rw [(zu HC_cS1).1]; exact zay) ?_)
 refine ((zu HD).lines1 _ _ (zu HS1)).mono ?_
 rintro e w4 ⟨la, lk, rfl, hL, F4⟩
 have HL := zh hL
 replace HX := Hid.ht HX F4
 replace HBS := F4.hk HBS
 replace HS1 := zh (hext _ _ _ _ (zu HS1) F4)
 clear hL F4
 go_wp2_with fail
 refine ((zu HD).above _ ((zu HE).trans (zu HX))).mono ?_
 rintro e w5 ⟨ya, yc, rfl, _, F5⟩
 replace HX := Hid.ht HX F5
 replace HBS := F5.hk HBS
 replace HS1 := zh (hext _ _ _ _ (zu HS1) F5)
 replace HL := zh ((zu HL).ext F5)
 clear F5
 go_wp2_with fail
 refine ((zu HD).above _ ((zu HE).trans (zu HX))).mono ?_
 rintro e w6 ⟨ya6, yc6, rfl, hy6, F6⟩
 replace HX := Hid.ht HX F6
 replace HBS := F6.hk HBS
 replace HS1 := zh (hext _ _ _ _ (zu HS1) F6)
 replace HL := zh ((zu HL).ext F6)
 have HY6 := zh hy6
 clear F6 hy6
 go_wp2_with fail
 refine ((zu HD).others _ _ (zu HY6)).mono ?_
 rintro e w7 ⟨rfl, F7⟩
 replace HX := Hid.ht HX F7
 replace HBS := F7.hk HBS
 replace HS1 := zh (hext _ _ _ _ (zu HS1) F7)
 replace HL := zh ((zu HL).ext F7)
 clear F7 HY6
 have hcnt : IntKind.i64.wrap ((z1.length : Int) - (ot : Int)) = (N : Int) := by have h1 := (zu HD).count; have h2 := (zu HD).small; rw [IntKind.wrap_i64] <;> omega
 have hn10 : ((n1 : Int) == 0) = false := by have h1 := (zu HD).pos; rw [beq_eq_false_iff_ne]; omega
 have ka0 := zg ((zu HX).kept (zu HBA)) 0 _ rfl
 have HPt := zh (fun W (hW : Ext w7 W) => (zu HD).paint1 W _ ((zu HE).trans ((zu HX).trans hW)) ((zu HA).ext ((zu HX).trans hW)))
 have HFd := zh (fun W yv (hW : Ext w7 W) (hy : zx W .u8 yv z2) => (zu HD).feed 1 2 z2 (.inr (.inl ⟨rfl, rfl, rfl⟩)) W cS1 yv ((zu HE).trans ((zu HX).trans hW)) (hext _ _ _ _ (zu HS1) hW) hy)
 have HBA7 := zh ((zu HX).kept (zu HBA))
 go_upto_region 12 with fail
 go_cut [13] (fun v0 wq => ∃ (bS2 : Nat) (cS2 : Array Value), v0 = .pointer (some ⟨bS2, 0, none⟩) ∧ w7.heap.size ≤ bS2 ∧ Hid (wq.heap[bS2]? = some (.cells cS2 26 (0, 0))) ∧ Hid (SB 2 wq cS2) ∧ Hid (Ext w7 wq))
 case first =>
  refine wp_region_held_drew (S := fun W => W.heap[w2.heap.size]? = some (.cells cS1 26 (0, 0)) ∧ W.heap[w1.heap.size]? = some (.cells #[.slice (some ⟨ab, ao, none⟩) n1 k1, .int .i64 (rn : Int), .int .i64 c1] 46 (0, 0))) (by kernel_rfl) ⟨(Ext.refl w7).kept (zu HBS), (Ext.refl w7).kept (zu HBA7)⟩ (fun hHeld => ?_)
  refine tk 0 (.agg cS1) rfl (by kernel_rfl) (fun _ _ _ h => h) (by rfl) ?_ (by assumption) ?_
  ·intro w' hSw; exact zad 26 _ rfl (w2.heap.size) rfl _ _ _ _ hSw.1 Tryz.underlying26 rfl (by rw [(zu HC_cS1).1]; exact zay)
  simp only [Act.put, qA, qB, qC, qD, qE, qF]
  refine tk 1 (.agg #[.slice (some ⟨ab, ao, none⟩) n1 k1, .int .i64 (rn : Int), .int .i64 c1]) rfl (by kernel_rfl) (fun _ _ _ h => h) (by rfl) ?_ (by assumption) ?_
  ·intro w' hSw; exact zad 46 _ rfl (w1.heap.size) rfl _ _ _ _ hSw.2 Tryz.underlying46 rfl zdV
  simp only [Act.put, qA, qB, qC, qD, qE, qF]
  have G := zh ((Ext.refl w7).drew)
  generalize w7.drew = Wr0 at *
  refine wpAnyH_ready (rs := [2, 4]) (by kernel_rfl) (by simp) ?_
  refine (AllReadyH.cons rfl (fun K hK => ?_) (AllReadyH.cons rfl (fun K hK => ?_) AllReadyH.nil))
  ·go_simp
   refine ((zu HPt) _ (zu G)).mono ?_
   rintro e Wr7 ⟨ya, yc, rfl, hy9, f9⟩
   have HY := zh hy9
   replace G := Hid.ht G f9
   clear hy9 f9
   clear hHeld
   refine hK.out _ _ ⟨(zu G).kept (zu HBS), (zu G).kept (zu HBA7)⟩ (fun hHeld => ?_)
   clear hK K
   refine wpAnyH_ready (rs := [3, 4]) (by kernel_rfl) (by simp) ?_
   refine (AllReadyH.cons rfl (fun K hK => ?_) (AllReadyH.cons rfl (fun K hK => ?_) AllReadyH.nil))
   ·go_simp
    refine ((zu HFd) _ _ (zu G) (zu HY)).mono ?_
    rintro e Wr8 ⟨cN, rfl, hs9, f9⟩
    have HSN := zh hs9
    replace G := Hid.ht G f9
    clear hs9 f9
    clear hHeld
    refine hK.out _ _ ⟨(zu G).kept (zu HBS), (zu G).kept (zu HBA7)⟩ (fun hHeld => ?_)
    clear hK K
    refine rdy 4 (by kernel_rfl) rfl (fun K hK => ?_)
    go_simp
    have n9 := zk Wr8 (.cells zS8 26)
    have f9 := (Ext.refl Wr8).alloc (.cells zS8 26)
    have LG : Hid (w7.heap.size ≤ Wr8.heap.size) := zh (zu G).size
    obtain ⟨AB, hAB⟩ : ∃ x, x = Wr8.heap.size := ⟨_, rfl⟩
    have z9 : AB < (Wr8.alloc (.cells zS8 26)).heap.size := by rw [hAB]; simp
    rw [← hAB] at n9 LG ⊢
    have HF9 := zh (fun U (hU : Fr (fun q => q = AB) (Wr8.alloc (.cells zS8 26)) U) => hU.ext f9 (fun q hq => by omega))
    generalize Wr8.alloc (.cells zS8 26) = Wr9 at *
    have HM := zh n9
    have LM := zh z9
    replace G := Hid.ht G f9
    have HSX : Hid (∀ U, Fr (fun q => q = AB) Wr9 U → SB 2 U cN) := zh (fun U hU => hext _ _ _ _ ((zu HSN) _ (Fr.refl _ _)) ((zu HF9) U hU))
    replace HSN : Hid (∀ U, Fr (fun q => q < 0) Wr9 U → SB 2 U cN) := zh (fun U hU => hext _ _ _ _ ((zu HSN) _ (Fr.refl _ _)) (hU.ext f9 (fun q hq => by omega)))
    clear HF9
    clear n9 f9 z9 hAB
    clear hHeld
    refine hK.out _ _ ⟨(zu G).kept (zu HBS), (zu G).kept (zu HBA7)⟩ (fun hHeld => ?_)
    clear hK K
    refine rdy 5 (by kernel_rfl) rfl (fun K hK => ?_)
    have hcN := hcells _ _ _ ((zu HSN) _ (Fr.refl _ _))
    refine ze 26 _ _ rfl rfl AB rfl _ _ cN rfl (zu HM) (by rw [hcN.1]; exact zay) (by rw [hcN.1]; rfl) hcN.2 ?_
    intro Wr10 hb9 hf9
    have HSU := zh ((zu HSX) _ hf9)
    replace G := zh (hf9.ext (zu G) (fun q9 h9 => by have h1 := zu LG; omega))
    clear hHeld
    refine hK.out _ _ ⟨(zu G).kept (zu HBS), (zu G).kept (zu HBA7)⟩ (fun hHeld => ?_)
    clear hK K
    refine wpAnyH_done (by kernel_rfl) ?_ _
    go_wp2
    go_meet
    exact ⟨_, _, rfl, zu LG, zh hb9, HSU, G⟩
   ·go_simp
    have n9 := zk Wr7 (.cells zS8 26)
    have f9 := (Ext.refl Wr7).alloc (.cells zS8 26)
    have LG : Hid (w7.heap.size ≤ Wr7.heap.size) := zh (zu G).size
    obtain ⟨AB, hAB⟩ : ∃ x, x = Wr7.heap.size := ⟨_, rfl⟩
    have z9 : AB < (Wr7.alloc (.cells zS8 26)).heap.size := by rw [hAB]; simp
    rw [← hAB] at n9 LG ⊢
    generalize Wr7.alloc (.cells zS8 26) = Wr11 at *
    have HM := zh n9
    have LM := zh z9
    replace G := Hid.ht G f9
    replace HY := zh ((zu HY).ext f9)
    clear n9 f9 z9 hAB
    clear hHeld
    refine hK.out _ _ ⟨(zu G).kept (zu HBS), (zu G).kept (zu HBA7)⟩ (fun hHeld => ?_)
    clear hK K
    refine rdy 3 (by kernel_rfl) rfl (fun K hK => ?_)
    go_simp
    refine ((zu HFd) _ _ (zu G) (zu HY)).mono ?_
    rintro e Wr12 ⟨cN, rfl, hs9, f9⟩
    have HSN := zh hs9
    replace G := Hid.ht G f9
    replace HM := f9.hk HM
    have HSX : Hid (∀ U, Fr (fun q => q = AB) Wr12 U → SB 2 U cN) := zh (fun U hU => hs9 U (hU.mono (fun q hq => by have h1 := zu LM; omega)))
    clear hs9 f9
    clear hHeld
    refine hK.out _ _ ⟨(zu G).kept (zu HBS), (zu G).kept (zu HBA7)⟩ (fun hHeld => ?_)
    clear hK K
    refine rdy 5 (by kernel_rfl) rfl (fun K hK => ?_)
    have hcN := hcells _ _ _ ((zu HSN) _ (Fr.refl _ _))
    refine ze 26 _ _ rfl rfl AB rfl _ _ cN rfl (zu HM) (by rw [hcN.1]; exact zay) (by rw [hcN.1]; rfl) hcN.2 ?_
    intro Wr13 hb9 hf9
    have HSU := zh ((zu HSX) _ hf9)
    replace G := zh (hf9.ext (zu G) (fun q9 h9 => by have h1 := zu LG; omega))
    clear hHeld
    refine hK.out _ _ ⟨(zu G).kept (zu HBS), (zu G).kept (zu HBA7)⟩ (fun hHeld => ?_)
    clear hK K
    refine wpAnyH_done (by kernel_rfl) ?_ _
    go_wp2
    go_meet
    exact ⟨_, _, rfl, zu LG, zh hb9, HSU, G⟩
  ·go_simp
   have n9 := zk Wr0 (.cells zS8 26)
   have f9 := (Ext.refl Wr0).alloc (.cells zS8 26)
   have LG : Hid (w7.heap.size ≤ Wr0.heap.size) := zh (zu G).size
   obtain ⟨AB, hAB⟩ : ∃ x, x = Wr0.heap.size := ⟨_, rfl⟩
   have z9 : AB < (Wr0.alloc (.cells zS8 26)).heap.size := by rw [hAB]; simp
   rw [← hAB] at n9 LG ⊢
   generalize Wr0.alloc (.cells zS8 26) = Wr14 at *
   have HM := zh n9
   have LM := zh z9
   replace G := Hid.ht G f9
   clear n9 f9 z9 hAB
   clear hHeld
   refine hK.out _ _ ⟨(zu G).kept (zu HBS), (zu G).kept (zu HBA7)⟩ (fun hHeld => ?_)
   clear hK K
   refine rdy 2 (by kernel_rfl) rfl (fun K hK => ?_)
   go_simp
   refine ((zu HPt) _ (zu G)).mono ?_
   rintro e Wr15 ⟨ya, yc, rfl, hy9, f9⟩
   have HY := zh hy9
   replace G := Hid.ht G f9
   replace HM := f9.hk HM
   replace LM := zh (Nat.lt_of_lt_of_le (zu LM) f9.size)
   clear hy9 f9
   clear hHeld
   refine hK.out _ _ ⟨(zu G).kept (zu HBS), (zu G).kept (zu HBA7)⟩ (fun hHeld => ?_)
   clear hK K
   refine rdy 3 (by kernel_rfl) rfl (fun K hK => ?_)
   go_simp
   refine ((zu HFd) _ _ (zu G) (zu HY)).mono ?_
   rintro e Wr16 ⟨cN, rfl, hs9, f9⟩
   have HSN := zh hs9
   replace G := Hid.ht G f9
   replace HM := f9.hk HM
   have HSX : Hid (∀ U, Fr (fun q => q = AB) Wr16 U → SB 2 U cN) := zh (fun U hU => hs9 U (hU.mono (fun q hq => by have h1 := zu LM; omega)))
   clear hs9 f9
   clear hHeld
   refine hK.out _ _ ⟨(zu G).kept (zu HBS), (zu G).kept (zu HBA7)⟩ (fun hHeld => ?_)
   clear hK K
   refine rdy 5 (by kernel_rfl) rfl (fun K hK => ?_)
   have hcN := hcells _ _ _ ((zu HSN) _ (Fr.refl _ _))
   refine ze 26 _ _ rfl rfl AB rfl _ _ cN rfl (zu HM) (by rw [hcN.1]; exact zay) (by rw [hcN.1]; rfl) hcN.2 ?_
   intro Wr17 hb9 hf9
   have HSU := zh ((zu HSX) _ hf9)
   replace G := zh (hf9.ext (zu G) (fun q9 h9 => by have h1 := zu LG; omega))
   clear hHeld
   refine hK.out _ _ ⟨(zu G).kept (zu HBS), (zu G).kept (zu HBA7)⟩ (fun hHeld => ?_)
   clear hK K
   refine wpAnyH_done (by kernel_rfl) ?_ _
   go_wp2
   go_meet
   exact ⟨_, _, rfl, zu LG, zh hb9, HSU, G⟩
 case rest =>
 rename World => w8
 obtain ⟨bS2, cS2, rfl, hbS2, HBS2, HS2, HX8⟩ := hcut
 have HC_cS2 := zh (hcells _ _ _ (zu HS2))
 have HX7 := HX
 replace HX := zh ((zu HX).trans (zu HX8))
 replace HBS := zh ((zu HX8).kept (zu HBS))
 replace HS1 := zh (hext _ _ _ _ (zu HS1) (zu HX8))
 replace HL := zh ((zu HL).ext (zu HX8))
 clear HPt HFd HBA7 ka0 hcnt hn10 HX8 HX7
 have y8 := (zu HX).size
 have hPS2 := zq (zu HBS2)
 obtain ⟨ic, hic, hc0, hc1, hc2⟩ := info_parts zoK
 obtain ⟨_, _, hLe, hlk, _⟩ := id (zu HL)
 obtain ⟨e1, e2, e3⟩ := Value.slice.inj hLe
 subst e1
 subst e3
 clear hLe e2
 have hlkI : (N : Int) ≤ (lk : Int) := by omega
 have hLn : zam w8 (.slice la N lk) N (fun j => .string (T1 j)) := by
  obtain ⟨ao9, cc9, e9, h9, hx9⟩ := zu HL
  obtain ⟨g1, g2, g3⟩ := Value.slice.inj e9
  subst g1
  subst g3
  refine ⟨_, _, rfl, by omega, fun hp => ?_⟩
  obtain ⟨b8, o8, e8, h8⟩ := hx9 (by omega)
  exact ⟨b8, o8, e8, fun j hj => h8 j (by omega)⟩
 have HLn := zh hLn
 clear hLn
 obtain ⟨V8, hV8⟩ : ∃ X, X = w8.alloc (.cells #[] 9) := ⟨_, rfl⟩
 have EV8 : Ext w8 V8 := by rw [hV8]; exact (Ext.refl _).alloc _
 have HO8 : Hid (V8.ownsRow w8.heap.size 9 1 (.slice (some ⟨w8.heap.size, 0, none⟩) 0 0) 0 []) := zh (by rw [hV8]; exact zaD w8 9 1)
 have HSr8 : Hid (Src V8 1 (.slice la N lk) N (zbC T1 N)) := zh (Src.strs ((zu HLn).ext EV8))
 have HV8 := zh hV8
 have HE8 := zh EV8
 clear hV8 EV8
 go_wp2_with (at_builtin; refine zaS.intro ?_)
 show wpList _ _ _ _ _ _
 rw [← zu HV8]
 clear HV8
 refine zd rfl _ _ 24 rfl w8.heap.size 9 ic (.string { data := #[] }) 1 16 Tryz.underlying24 hic hc0 hc1 hc2 rfl (by decide) _ _ _ rfl (zu HO8) _ N (zbC T1 N) rfl (zu HSr8) (by unfold maxLen; omega) (by omega) (by have := (zu HE8).size; omega) ?_
 intro v9 w9 o9 G9 _
 rw [List.nil_append, Nat.zero_add] at o9
 have HO9 := zh o9
 have HE9 := zh ((zu HE8).grown G9 (fun q hq => ((zu HO8).lt q hq).1))
 obtain ⟨wa, wk, rfl⟩ := (zdg o9).slice
 clear o9 G9 HO8 HE8 HSr8 HLn
 have HX8 := HX
 replace HX := zh ((zu HX).trans (zu HE9))
 have ka1 := zg ((zu HX).kept (zu HBA)) 1 _ rfl
 have ka0 := zg ((zu HX).kept (zu HBA)) 0 _ rfl
 have hrn1 : rn < n1 := by have h1 := (zu HD).pos; omega
 obtain ⟨B, hB⟩ : ∃ B : Nat → ByteArray, B = fun i => zaR (tx i) := ⟨_, rfl⟩
 have HB := zh hB
 have HlB : Hid (∀ k, k ≤ n1 → zbz B rn k < n1) := zh (fun k hk => zd6 (B := B) hrn1 k hk)
 clear hB
 go_wp2_with fail
 go_loopw [15, 16] (fun lv iv wr => ∃ (k : Nat), k ≤ n1 ∧ iv = .int .i64 k ∧ lv = .int .i64 (zbz B rn k : Int) ∧ wr = w9) (fun _ iv _ => n1 - (intOf iv).toNat)
 case atStart => exact ⟨0, Nat.zero_le _, rfl, rfl, rfl⟩
 case round =>
  obtain ⟨k, hk, rfl, rfl, rfl⟩ := hrel
  obtain ⟨lB, hlB⟩ : ∃ x, x = zbz B rn k := ⟨_, rfl⟩
  have HLB : Hid (zbz B rn (k + 1) = if (B k).toList ≠ [] ∧ lB < k then k else lB) := zh (by rw [hlB]; rfl)
  have hlb2 : lB < n1 := by rw [hlB]; exact (zu HlB) k hk
  rw [← hlB]
  have HLBk := zh hlB
  clear hlB
  by_cases hlt : k < n1
  ·have bk : (k : Int) < (n1 : Int) := by omega
   have wk9 : IntKind.i64.wrap ((k : Int) + 1) = (k : Int) + 1 := by rw [IntKind.wrap_i64] <;> omega
   have ck := (zhy ((zu HA).ext (zu HX))).2 k hlt
   by_cases hgt : lB < k
   ·have bg : (lB : Int) < (k : Int) := by omega
    go_wp2_with fail
    refine ((zu HD).trim wr k hlt).mono ?_
    rintro e w' ⟨rfl, hw'⟩
    subst hw'
    by_cases ht : (zaR (tx k)).toList = []
    ·have HR : Hid (zbz B rn (k + 1) = lB) := zh (by rw [zu HLB, if_neg (fun e => e.1 (by rw [zu HB]; exact ht))])
     have ht2 : (zaR (tx k)).toList.isEmpty = true := by rw [ht]; rfl
     go_wp2
     go_roundw
     case rel => exact ⟨k + 1, by omega, by go_num, by rw [zu HR], by first | rfl | trivial⟩
     case measure => simp [intOf]; omega
    ·have HR : Hid (zbz B rn (k + 1) = k) := zh (by rw [zu HLB, if_pos ⟨by rw [zu HB]; exact ht, hgt⟩])
     have ht2 : (zaR (tx k)).toList.isEmpty = false := by cases h9 : (zaR (tx k)).toList.isEmpty with | false => rfl | true => exact absurd (List.isEmpty_iff.1 h9) ht
     go_wp2
     go_roundw
     case rel => exact ⟨k + 1, by omega, by go_num, by rw [zu HR], by first | rfl | trivial⟩
     case measure => simp [intOf]; omega
   ·have bg : ¬ (lB : Int) < (k : Int) := by omega
    have HR : Hid (zbz B rn (k + 1) = lB) := zh (by rw [zu HLB, if_neg (fun e => hgt e.2)])
    go_wp2
    go_roundw
    case rel => exact ⟨k + 1, by omega, by go_num, by rw [zu HR], by first | rfl | trivial⟩
    case measure => simp [intOf]; omega
  ·have hkn : n1 = k := by omega
   subst hkn
   have bk : ¬ (n1 : Int) < (n1 : Int) := by omega
   obtain ⟨tz, htz⟩ : ∃ tz : Nat → ByteArray, tz = fun j => if j < N then T1 j else zaR (tx (j - N)) := ⟨_, rfl⟩
   have HTZ := zh htz
   replace HO9 : Hid (wr.ownsRow w8.heap.size 9 1 (.slice wa N wk) N (zbC tz N)) := zh (by rw [zhk (tx := tz) (ty := T1) (fun j hj => by rw [htz]; exact if_pos hj)]; exact zu HO9)
   have HTk : Hid (∀ k, zbC tz (N + (k + 1)) = zbC tz (N + k) ++ [.string (zaR (tx k))]) := zh (fun k => by
    rw [← Nat.add_assoc, zfz, htz]
    show _ ++ [Value.string (if N + k < N then T1 (N + k) else zaR (tx (N + k - N)))] = _
    rw [if_neg (by omega), Nat.add_sub_cancel_left])
   have hlI : ((lB : Nat) : Int) ≤ 100 := by omega
   have HLBn : Hid (lB = zbz B rn n1) := HLBk
   clear htz HLB
   go_wp2_with fail
   go_loopw [14, 17] (fun wv iv wr2 => ∃ (k : Nat) (xa : Option Addr) (xk : Nat), k ≤ lB + 1 ∧ iv = .int .i64 k ∧ wv = .slice xa (N + k) xk ∧ Hid (wr2.ownsRow w8.heap.size 9 1 (.slice xa (N + k) xk) (N + k) (zbC tz (N + k))) ∧ Hid (Ext w8 wr2)) (fun _ iv _ => lB + 1 - (intOf iv).toNat)
   case atStart => exact ⟨0, _, _, Nat.zero_le _, rfl, rfl, HO9, HE9⟩
   case round =>
    clear HO9 HE9 ka0 ka1
    rename World => wr2
    obtain ⟨k, xa, xk, hk2, rfl, rfl, HO, HE2⟩ := hrel
    have HX2 := zh ((zu HX8).trans (zu HE2))
    have ka0 := zg ((zu HX2).kept (zu HBA)) 0 _ rfl
    have y9 := (zu HE2).size
    by_cases hlt2 : k ≤ lB
    ·have bk2 : (k : Int) ≤ (lB : Int) := by omega
     have wk9 : IntKind.i64.wrap ((k : Int) + 1) = (k : Int) + 1 := by rw [IntKind.wrap_i64] <;> omega
     have hkn1 : k < n1 := by omega
     have hkI : (k : Int) < (n1 : Int) := by omega
     have ck := (zhy ((zu HA).ext (zu HX2))).2 k hkn1
     go_wp2_with fail
     refine ((zu HD).trim wr2 k hkn1).mono ?_
     rintro e w' ⟨rfl, hw'⟩
     subst hw'
     go_wp2_with (at_builtin; refine zaS.intro ?_)
     show wpList _ _ _ _ _ _
     refine zd rfl _ _ 24 rfl w8.heap.size 9 ic (.string { data := #[] }) 1 16 Tryz.underlying24 hic hc0 hc1 hc2 rfl (by decide) _ _ _ rfl ((zu HO).alloc _) _ 1 [.string (zaR (tx k))] rfl (Src.made _ _ _ rfl (by simp [Value.oneCell'])) (by unfold maxLen; omega) (by omega) (by simp; omega) ?_
     intro v5 w5 o5 G5 _
     rw [← (zu HTk) k] at o5
     have HO5 := zh o5
     have HE5 := zh (((zu HE2).alloc _).grown G5 (fun q hq => ((zu HO).lt q hq).1))
     obtain ⟨xa5, xk5, rfl⟩ := (zdg o5).slice
     clear o5 G5 HO
     go_wp2
     go_roundw
     case rel => exact ⟨k + 1, _, _, by omega, by go_num, rfl, HO5, HE5⟩
     case measure => simp [intOf]; omega
    ·have hk3 : lB + 1 = k := by omega
     subst hk3
     have bk2 : ¬ (((lB + 1 : Nat) : Int) ≤ (lB : Int)) := by omega
     have HRow : Hid (zam wr2 (.slice xa (N + (lB + 1)) xk) (N + (lB + 1)) (fun j => .string (tz j))) := zh (zdg (zu HO)).reads
     replace HBS := zh ((zu HE2).kept (zu HBS))
     replace HBS2 := zh ((zu HE2).kept (zu HBS2))
     replace HS1 := zh (hext _ _ _ _ (zu HS1) (zu HE2))
     replace HS2 := zh (hext _ _ _ _ (zu HS2) (zu HE2))
     replace HL := zh ((zu HL).ext (zu HE2))
     have ka1 := zg ((zu HX2).kept (zu HBA)) 1 _ rfl
     have ka2 := zg ((zu HX2).kept (zu HBA)) 2 _ rfl
     have hw25 : IntKind.i64.wrap ((N : Int) + (rn : Int)) = (N : Int) + (rn : Int) := by rw [IntKind.wrap_i64] <;> omega
     have hSh := (zu HD).shows2 wr2 cS2 (.slice xa (N + (lB + 1)) xk) (zu HS2) (by
      rw [Int.toNat_natCast, ← zu HB, ← zu HLBn]
      have h9 := zu HRow
      rw [zu HTZ] at h9
      exact h9)
     have HSh := zh hSh
     clear hSh HO HRow HTZ HTk HX HX8 HE2 ka0
     go_wp2_with (show wpList _ _ _ (List.cons ⟨_, .load _ _, _, _, _, _⟩ _) _ _; refine zl rfl 26 _ rfl (bS2) rfl _ _ _ _ (zu HBS2) Tryz.underlying26 rfl (by rw [(zu HC_cS2).1]; exact zay) ?_)
     refine (zu HSh).mono ?_
     rintro e w10 ⟨rfl, F10⟩
     replace HX2 := Hid.ht HX2 F10
     replace HBS := F10.hk HBS
     replace HBS2 := F10.hk HBS2
     replace HS1 := zh (hext _ _ _ _ (zu HS1) F10)
     replace HS2 := zh (hext _ _ _ _ (zu HS2) F10)
     replace HL := zh ((zu HL).ext F10)
     clear HSh F10 ka1 ka2 hw25
     have HBA2 := zh ((zu HX2).kept (zu HBA))
     have HPt := zh (fun W (hW : Ext w10 W) => (zu HD).erase W _ ((zu HE).trans ((zu HX2).trans hW)) ((zu HA).ext ((zu HX2).trans hW)))
     have HFd := zh (fun W yv (hW : Ext w10 W) (hy : zx W .u8 yv z3) => (zu HD).feed 2 3 z3 (.inr (.inr (.inl ⟨rfl, rfl, rfl⟩))) W cS2 yv ((zu HE).trans ((zu HX2).trans hW)) (hext _ _ _ _ (zu HS2) hW) hy)
     have y10 := (zu HX2).size
     go_upto_region 27 with fail
     go_cut [18] (fun v0 wq => ∃ (bS3 : Nat) (cS3 : Array Value), v0 = .pointer (some ⟨bS3, 0, none⟩) ∧ w10.heap.size ≤ bS3 ∧ Hid (wq.heap[bS3]? = some (.cells cS3 26 (0, 0))) ∧ Hid (SB 3 wq cS3) ∧ Hid (Ext w10 wq))
     case first =>
      refine wp_region_held_drew (S := fun W => W.heap[bS2]? = some (.cells cS2 26 (0, 0)) ∧ W.heap[w1.heap.size]? = some (.cells #[.slice (some ⟨ab, ao, none⟩) n1 k1, .int .i64 (rn : Int), .int .i64 c1] 46 (0, 0))) (by kernel_rfl) ⟨(Ext.refl w10).kept (zu HBS2), (Ext.refl w10).kept (zu HBA2)⟩ (fun hHeld => ?_)
      refine tk 0 (.agg cS2) rfl (by kernel_rfl) (fun _ _ _ h => h) (by rfl) ?_ (by assumption) ?_
      ·intro w' hSw; exact zad 26 _ rfl (bS2) rfl _ _ _ _ hSw.1 Tryz.underlying26 rfl (by rw [(zu HC_cS2).1]; exact zay)
      simp only [Act.put, qA, qB, qC, qD, qE, qF]
      refine tk 1 (.agg #[.slice (some ⟨ab, ao, none⟩) n1 k1, .int .i64 (rn : Int), .int .i64 c1]) rfl (by kernel_rfl) (fun _ _ _ h => h) (by rfl) ?_ (by assumption) ?_
      ·intro w' hSw; exact zad 46 _ rfl (w1.heap.size) rfl _ _ _ _ hSw.2 Tryz.underlying46 rfl zdV
      simp only [Act.put, qA, qB, qC, qD, qE, qF]
      have G := zh ((Ext.refl w10).drew)
      generalize w10.drew = Wr0 at *
      refine wpAnyH_ready (rs := [2, 4]) (by kernel_rfl) (by simp) ?_
      refine (AllReadyH.cons rfl (fun K hK => ?_) (AllReadyH.cons rfl (fun K hK => ?_) AllReadyH.nil))
      ·go_simp
       refine ((zu HPt) _ (zu G)).mono ?_
       rintro e Wr18 ⟨ya, yc, rfl, hy9, f9⟩
       have HY := zh hy9
       replace G := Hid.ht G f9
       clear hy9 f9
       clear hHeld
       refine hK.out _ _ ⟨(zu G).kept (zu HBS2), (zu G).kept (zu HBA2)⟩ (fun hHeld => ?_)
       clear hK K
       refine wpAnyH_ready (rs := [3, 4]) (by kernel_rfl) (by simp) ?_
       refine (AllReadyH.cons rfl (fun K hK => ?_) (AllReadyH.cons rfl (fun K hK => ?_) AllReadyH.nil))
       ·go_simp
        refine ((zu HFd) _ _ (zu G) (zu HY)).mono ?_
        rintro e Wr19 ⟨cN, rfl, hs9, f9⟩
        have HSN := zh hs9
        replace G := Hid.ht G f9
        clear hs9 f9
        clear hHeld
        refine hK.out _ _ ⟨(zu G).kept (zu HBS2), (zu G).kept (zu HBA2)⟩ (fun hHeld => ?_)
        clear hK K
        refine rdy 4 (by kernel_rfl) rfl (fun K hK => ?_)
        go_simp
        have n9 := zk Wr19 (.cells zS8 26)
        have f9 := (Ext.refl Wr19).alloc (.cells zS8 26)
        have LG : Hid (w10.heap.size ≤ Wr19.heap.size) := zh (zu G).size
        obtain ⟨AB, hAB⟩ : ∃ x, x = Wr19.heap.size := ⟨_, rfl⟩
        have z9 : AB < (Wr19.alloc (.cells zS8 26)).heap.size := by rw [hAB]; simp
        rw [← hAB] at n9 LG ⊢
        have HF9 := zh (fun U (hU : Fr (fun q => q = AB) (Wr19.alloc (.cells zS8 26)) U) => hU.ext f9 (fun q hq => by omega))
        generalize Wr19.alloc (.cells zS8 26) = Wr20 at *
        have HM := zh n9
        have LM := zh z9
        replace G := Hid.ht G f9
        have HSX : Hid (∀ U, Fr (fun q => q = AB) Wr20 U → SB 3 U cN) := zh (fun U hU => hext _ _ _ _ ((zu HSN) _ (Fr.refl _ _)) ((zu HF9) U hU))
        replace HSN : Hid (∀ U, Fr (fun q => q < 0) Wr20 U → SB 3 U cN) := zh (fun U hU => hext _ _ _ _ ((zu HSN) _ (Fr.refl _ _)) (hU.ext f9 (fun q hq => by omega)))
        clear HF9
        clear n9 f9 z9 hAB
        clear hHeld
        refine hK.out _ _ ⟨(zu G).kept (zu HBS2), (zu G).kept (zu HBA2)⟩ (fun hHeld => ?_)
        clear hK K
        refine rdy 5 (by kernel_rfl) rfl (fun K hK => ?_)
        have hcN := hcells _ _ _ ((zu HSN) _ (Fr.refl _ _))
        refine ze 26 _ _ rfl rfl AB rfl _ _ cN rfl (zu HM) (by rw [hcN.1]; exact zay) (by rw [hcN.1]; rfl) hcN.2 ?_
        intro Wr21 hb9 hf9
        have HSU := zh ((zu HSX) _ hf9)
        replace G := zh (hf9.ext (zu G) (fun q9 h9 => by have h1 := zu LG; omega))
        clear hHeld
        refine hK.out _ _ ⟨(zu G).kept (zu HBS2), (zu G).kept (zu HBA2)⟩ (fun hHeld => ?_)
        clear hK K
        refine wpAnyH_done (by kernel_rfl) ?_ _
        go_wp2
        go_meet
        exact ⟨_, _, rfl, zu LG, zh hb9, HSU, G⟩
       ·go_simp
        have n9 := zk Wr18 (.cells zS8 26)
        have f9 := (Ext.refl Wr18).alloc (.cells zS8 26)
        have LG : Hid (w10.heap.size ≤ Wr18.heap.size) := zh (zu G).size
        obtain ⟨AB, hAB⟩ : ∃ x, x = Wr18.heap.size := ⟨_, rfl⟩
        have z9 : AB < (Wr18.alloc (.cells zS8 26)).heap.size := by rw [hAB]; simp
        rw [← hAB] at n9 LG ⊢
        generalize Wr18.alloc (.cells zS8 26) = Wr22 at *
        have HM := zh n9
        have LM := zh z9
        replace G := Hid.ht G f9
        replace HY := zh ((zu HY).ext f9)
        clear n9 f9 z9 hAB
        clear hHeld
        refine hK.out _ _ ⟨(zu G).kept (zu HBS2), (zu G).kept (zu HBA2)⟩ (fun hHeld => ?_)
        clear hK K
        refine rdy 3 (by kernel_rfl) rfl (fun K hK => ?_)
        go_simp
        refine ((zu HFd) _ _ (zu G) (zu HY)).mono ?_
        rintro e Wr23 ⟨cN, rfl, hs9, f9⟩
        have HSN := zh hs9
        replace G := Hid.ht G f9
        replace HM := f9.hk HM
        have HSX : Hid (∀ U, Fr (fun q => q = AB) Wr23 U → SB 3 U cN) := zh (fun U hU => hs9 U (hU.mono (fun q hq => by have h1 := zu LM; omega)))
        clear hs9 f9
        clear hHeld
        refine hK.out _ _ ⟨(zu G).kept (zu HBS2), (zu G).kept (zu HBA2)⟩ (fun hHeld => ?_)
        clear hK K
        refine rdy 5 (by kernel_rfl) rfl (fun K hK => ?_)
        have hcN := hcells _ _ _ ((zu HSN) _ (Fr.refl _ _))
        refine ze 26 _ _ rfl rfl AB rfl _ _ cN rfl (zu HM) (by rw [hcN.1]; exact zay) (by rw [hcN.1]; rfl) hcN.2 ?_
        intro Wr24 hb9 hf9
        have HSU := zh ((zu HSX) _ hf9)
        replace G := zh (hf9.ext (zu G) (fun q9 h9 => by have h1 := zu LG; omega))
        clear hHeld
        refine hK.out _ _ ⟨(zu G).kept (zu HBS2), (zu G).kept (zu HBA2)⟩ (fun hHeld => ?_)
        clear hK K
        refine wpAnyH_done (by kernel_rfl) ?_ _
        go_wp2
        go_meet
        exact ⟨_, _, rfl, zu LG, zh hb9, HSU, G⟩
      ·go_simp
       have n9 := zk Wr0 (.cells zS8 26)
       have f9 := (Ext.refl Wr0).alloc (.cells zS8 26)
       have LG : Hid (w10.heap.size ≤ Wr0.heap.size) := zh (zu G).size
       obtain ⟨AB, hAB⟩ : ∃ x, x = Wr0.heap.size := ⟨_, rfl⟩
       have z9 : AB < (Wr0.alloc (.cells zS8 26)).heap.size := by rw [hAB]; simp
       rw [← hAB] at n9 LG ⊢
       generalize Wr0.alloc (.cells zS8 26) = Wr25 at *
       have HM := zh n9
       have LM := zh z9
       replace G := Hid.ht G f9
       clear n9 f9 z9 hAB
       clear hHeld
       refine hK.out _ _ ⟨(zu G).kept (zu HBS2), (zu G).kept (zu HBA2)⟩ (fun hHeld => ?_)
       clear hK K
       refine rdy 2 (by kernel_rfl) rfl (fun K hK => ?_)
       go_simp
       refine ((zu HPt) _ (zu G)).mono ?_
       rintro e Wr26 ⟨ya, yc, rfl, hy9, f9⟩
       have HY := zh hy9
       replace G := Hid.ht G f9
       replace HM := f9.hk HM
       replace LM := zh (Nat.lt_of_lt_of_le (zu LM) f9.size)
       clear hy9 f9
       clear hHeld
       refine hK.out _ _ ⟨(zu G).kept (zu HBS2), (zu G).kept (zu HBA2)⟩ (fun hHeld => ?_)
       clear hK K
       refine rdy 3 (by kernel_rfl) rfl (fun K hK => ?_)
       go_simp
       refine ((zu HFd) _ _ (zu G) (zu HY)).mono ?_
       rintro e Wr27 ⟨cN, rfl, hs9, f9⟩
       have HSN := zh hs9
       replace G := Hid.ht G f9
       replace HM := f9.hk HM
       have HSX : Hid (∀ U, Fr (fun q => q = AB) Wr27 U → SB 3 U cN) := zh (fun U hU => hs9 U (hU.mono (fun q hq => by have h1 := zu LM; omega)))
       clear hs9 f9
       clear hHeld
       refine hK.out _ _ ⟨(zu G).kept (zu HBS2), (zu G).kept (zu HBA2)⟩ (fun hHeld => ?_)
       clear hK K
       refine rdy 5 (by kernel_rfl) rfl (fun K hK => ?_)
       have hcN := hcells _ _ _ ((zu HSN) _ (Fr.refl _ _))
       refine ze 26 _ _ rfl rfl AB rfl _ _ cN rfl (zu HM) (by rw [hcN.1]; exact zay) (by rw [hcN.1]; rfl) hcN.2 ?_
       intro Wr28 hb9 hf9
       have HSU := zh ((zu HSX) _ hf9)
       replace G := zh (hf9.ext (zu G) (fun q9 h9 => by have h1 := zu LG; omega))
       clear hHeld
       refine hK.out _ _ ⟨(zu G).kept (zu HBS2), (zu G).kept (zu HBA2)⟩ (fun hHeld => ?_)
       clear hK K
       refine wpAnyH_done (by kernel_rfl) ?_ _
       go_wp2
       go_meet
       exact ⟨_, _, rfl, zu LG, zh hb9, HSU, G⟩
     case rest =>
     rename World => w11
     obtain ⟨bS3, cS3, rfl, hbS3, HBS3, HS3, HXn⟩ := hcut
     have HC_cS3 := zh (hcells _ _ _ (zu HS3))
     replace HX2 := zh ((zu HX2).trans (zu HXn))
     replace HBS := zh ((zu HXn).kept (zu HBS))
     replace HBS2 := zh ((zu HXn).kept (zu HBS2))
     replace HS1 := zh (hext _ _ _ _ (zu HS1) (zu HXn))
     replace HS2 := zh (hext _ _ _ _ (zu HS2) (zu HXn))
     replace HL := zh ((zu HL).ext (zu HXn))
     clear HPt HFd HBA2 HXn
     have HSh := zh ((zu HD).shows3 w11 cS3 (.slice la (N + 1) lk) (zu HS3) (zu HL))
     go_wp2_with (show wpList _ _ _ (List.cons ⟨_, .load _ _, _, _, _, _⟩ _) _ _; refine zl rfl 26 _ rfl (bS3) rfl _ _ _ _ (zu HBS3) Tryz.underlying26 rfl (by rw [(zu HC_cS3).1]; exact zay) ?_)
     refine (zu HSh).mono ?_
     rintro e w12 ⟨rfl, F12⟩
     replace HX2 := Hid.ht HX2 F12
     replace HBS := F12.hk HBS
     replace HBS2 := F12.hk HBS2
     replace HS1 := zh (hext _ _ _ _ (zu HS1) F12)
     replace HS2 := zh (hext _ _ _ _ (zu HS2) F12)
     clear HSh F12 HBS3 HS3 HC_cS3 HL
     have HBA2 := zh ((zu HX2).kept (zu HBA))
     have HBB2 := zh ((zu HX2).kept (zu HBB))
     have HPt := zh (fun W (hW : Ext w12 W) => (zu HD).redraw W _ _ ((zu HE).trans ((zu HX2).trans hW)) ((zu HA).ext ((zu HX2).trans hW)) ((zu HBb).ext ((zu HX2).trans hW)))
     have HFd := zh (fun W yv (hW : Ext w12 W) (hy : zx W .u8 yv z4) => (zu HD).feed 2 4 z4 (.inr (.inr (.inr (.inl ⟨rfl, rfl, rfl⟩)))) W cS2 yv ((zu HE).trans ((zu HX2).trans hW)) (hext _ _ _ _ (zu HS2) hW) hy)
     have y12 := (zu HX2).size
     go_upto_region 30 with fail
     go_cut [19] (fun v0 wq => ∃ (bS4 : Nat) (cS4 : Array Value), v0 = .pointer (some ⟨bS4, 0, none⟩) ∧ w12.heap.size ≤ bS4 ∧ Hid (wq.heap[bS4]? = some (.cells cS4 26 (0, 0))) ∧ Hid (SB 4 wq cS4) ∧ Hid (Ext w12 wq))
     case first =>
      refine wp_region_held_drew (S := fun W => W.heap[bS2]? = some (.cells cS2 26 (0, 0)) ∧ W.heap[w1.heap.size]? = some (.cells #[.slice (some ⟨ab, ao, none⟩) n1 k1, .int .i64 (rn : Int), .int .i64 c1] 46 (0, 0)) ∧ W.heap[w1.heap.size + 1]? = some (.cells #[.slice a2 n2 k2, .int .i64 r2, .int .i64 c2] 46 (0, 0))) (by kernel_rfl) ⟨(Ext.refl w12).kept (zu HBS2), (Ext.refl w12).kept (zu HBA2), (Ext.refl w12).kept (zu HBB2)⟩ (fun hHeld => ?_)
      refine tk 0 (.agg cS2) rfl (by kernel_rfl) (fun _ _ _ h => h) (by rfl) ?_ (by assumption) ?_
      ·intro w' hSw; exact zad 26 _ rfl (bS2) rfl _ _ _ _ hSw.1 Tryz.underlying26 rfl (by rw [(zu HC_cS2).1]; exact zay)
      simp only [Act.put, qA, qB, qC, qD, qE, qF]
      refine tk 1 (.agg #[.slice (some ⟨ab, ao, none⟩) n1 k1, .int .i64 (rn : Int), .int .i64 c1]) rfl (by kernel_rfl) (fun _ _ _ h => h) (by rfl) ?_ (by assumption) ?_
      ·intro w' hSw; exact zad 46 _ rfl (w1.heap.size) rfl _ _ _ _ hSw.2.1 Tryz.underlying46 rfl zdV
      simp only [Act.put, qA, qB, qC, qD, qE, qF]
      refine tk 2 (.agg #[.slice a2 n2 k2, .int .i64 r2, .int .i64 c2]) rfl (by kernel_rfl) (fun _ _ _ h => h) (by rfl) ?_ (by assumption) ?_
      ·intro w' hSw; exact zad 46 _ rfl (w1.heap.size + 1) rfl _ _ _ _ hSw.2.2 Tryz.underlying46 rfl zdV
      simp only [Act.put, qA, qB, qC, qD, qE, qF]
      have G := zh ((Ext.refl w12).drew)
      generalize w12.drew = Wr0 at *
      refine wpAnyH_ready (rs := [3, 5]) (by kernel_rfl) (by simp) ?_
      refine (AllReadyH.cons rfl (fun K hK => ?_) (AllReadyH.cons rfl (fun K hK => ?_) AllReadyH.nil))
      ·go_simp
       refine ((zu HPt) _ (zu G)).mono ?_
       rintro e Wr29 ⟨ya, yc, rfl, hy9, f9⟩
       have HY := zh hy9
       replace G := Hid.ht G f9
       clear hy9 f9
       clear hHeld
       refine hK.out _ _ ⟨(zu G).kept (zu HBS2), (zu G).kept (zu HBA2), (zu G).kept (zu HBB2)⟩ (fun hHeld => ?_)
       clear hK K
       refine wpAnyH_ready (rs := [4, 5]) (by kernel_rfl) (by simp) ?_
       refine (AllReadyH.cons rfl (fun K hK => ?_) (AllReadyH.cons rfl (fun K hK => ?_) AllReadyH.nil))
       ·go_simp
        refine ((zu HFd) _ _ (zu G) (zu HY)).mono ?_
        rintro e Wr30 ⟨cN, rfl, hs9, f9⟩
        have HSN := zh hs9
        replace G := Hid.ht G f9
        clear hs9 f9
        clear hHeld
        refine hK.out _ _ ⟨(zu G).kept (zu HBS2), (zu G).kept (zu HBA2), (zu G).kept (zu HBB2)⟩ (fun hHeld => ?_)
        clear hK K
        refine rdy 5 (by kernel_rfl) rfl (fun K hK => ?_)
        go_simp
        have n9 := zk Wr30 (.cells zS8 26)
        have f9 := (Ext.refl Wr30).alloc (.cells zS8 26)
        have LG : Hid (w12.heap.size ≤ Wr30.heap.size) := zh (zu G).size
        obtain ⟨AB, hAB⟩ : ∃ x, x = Wr30.heap.size := ⟨_, rfl⟩
        have z9 : AB < (Wr30.alloc (.cells zS8 26)).heap.size := by rw [hAB]; simp
        rw [← hAB] at n9 LG ⊢
        have HF9 := zh (fun U (hU : Fr (fun q => q = AB) (Wr30.alloc (.cells zS8 26)) U) => hU.ext f9 (fun q hq => by omega))
        generalize Wr30.alloc (.cells zS8 26) = Wr31 at *
        have HM := zh n9
        have LM := zh z9
        replace G := Hid.ht G f9
        have HSX : Hid (∀ U, Fr (fun q => q = AB) Wr31 U → SB 4 U cN) := zh (fun U hU => hext _ _ _ _ ((zu HSN) _ (Fr.refl _ _)) ((zu HF9) U hU))
        replace HSN : Hid (∀ U, Fr (fun q => q < 0) Wr31 U → SB 4 U cN) := zh (fun U hU => hext _ _ _ _ ((zu HSN) _ (Fr.refl _ _)) (hU.ext f9 (fun q hq => by omega)))
        clear HF9
        clear n9 f9 z9 hAB
        clear hHeld
        refine hK.out _ _ ⟨(zu G).kept (zu HBS2), (zu G).kept (zu HBA2), (zu G).kept (zu HBB2)⟩ (fun hHeld => ?_)
        clear hK K
        refine rdy 6 (by kernel_rfl) rfl (fun K hK => ?_)
        have hcN := hcells _ _ _ ((zu HSN) _ (Fr.refl _ _))
        refine ze 26 _ _ rfl rfl AB rfl _ _ cN rfl (zu HM) (by rw [hcN.1]; exact zay) (by rw [hcN.1]; rfl) hcN.2 ?_
        intro Wr32 hb9 hf9
        have HSU := zh ((zu HSX) _ hf9)
        replace G := zh (hf9.ext (zu G) (fun q9 h9 => by have h1 := zu LG; omega))
        clear hHeld
        refine hK.out _ _ ⟨(zu G).kept (zu HBS2), (zu G).kept (zu HBA2), (zu G).kept (zu HBB2)⟩ (fun hHeld => ?_)
        clear hK K
        refine wpAnyH_done (by kernel_rfl) ?_ _
        go_wp2
        go_meet
        exact ⟨_, _, rfl, zu LG, zh hb9, HSU, G⟩
       ·go_simp
        have n9 := zk Wr29 (.cells zS8 26)
        have f9 := (Ext.refl Wr29).alloc (.cells zS8 26)
        have LG : Hid (w12.heap.size ≤ Wr29.heap.size) := zh (zu G).size
        obtain ⟨AB, hAB⟩ : ∃ x, x = Wr29.heap.size := ⟨_, rfl⟩
        have z9 : AB < (Wr29.alloc (.cells zS8 26)).heap.size := by rw [hAB]; simp
        rw [← hAB] at n9 LG ⊢
        generalize Wr29.alloc (.cells zS8 26) = Wr33 at *
        have HM := zh n9
        have LM := zh z9
        replace G := Hid.ht G f9
        replace HY := zh ((zu HY).ext f9)
        clear n9 f9 z9 hAB
        clear hHeld
        refine hK.out _ _ ⟨(zu G).kept (zu HBS2), (zu G).kept (zu HBA2), (zu G).kept (zu HBB2)⟩ (fun hHeld => ?_)
        clear hK K
        refine rdy 4 (by kernel_rfl) rfl (fun K hK => ?_)
        go_simp
        refine ((zu HFd) _ _ (zu G) (zu HY)).mono ?_
        rintro e Wr34 ⟨cN, rfl, hs9, f9⟩
        have HSN := zh hs9
        replace G := Hid.ht G f9
        replace HM := f9.hk HM
        have HSX : Hid (∀ U, Fr (fun q => q = AB) Wr34 U → SB 4 U cN) := zh (fun U hU => hs9 U (hU.mono (fun q hq => by have h1 := zu LM; omega)))
        clear hs9 f9
        clear hHeld
        refine hK.out _ _ ⟨(zu G).kept (zu HBS2), (zu G).kept (zu HBA2), (zu G).kept (zu HBB2)⟩ (fun hHeld => ?_)
        clear hK K
        refine rdy 6 (by kernel_rfl) rfl (fun K hK => ?_)
        have hcN := hcells _ _ _ ((zu HSN) _ (Fr.refl _ _))
        refine ze 26 _ _ rfl rfl AB rfl _ _ cN rfl (zu HM) (by rw [hcN.1]; exact zay) (by rw [hcN.1]; rfl) hcN.2 ?_
        intro Wr35 hb9 hf9
        have HSU := zh ((zu HSX) _ hf9)
        replace G := zh (hf9.ext (zu G) (fun q9 h9 => by have h1 := zu LG; omega))
        clear hHeld
        refine hK.out _ _ ⟨(zu G).kept (zu HBS2), (zu G).kept (zu HBA2), (zu G).kept (zu HBB2)⟩ (fun hHeld => ?_)
        clear hK K
        refine wpAnyH_done (by kernel_rfl) ?_ _
        go_wp2
        go_meet
        exact ⟨_, _, rfl, zu LG, zh hb9, HSU, G⟩
      ·go_simp
       have n9 := zk Wr0 (.cells zS8 26)
       have f9 := (Ext.refl Wr0).alloc (.cells zS8 26)
       have LG : Hid (w12.heap.size ≤ Wr0.heap.size) := zh (zu G).size
       obtain ⟨AB, hAB⟩ : ∃ x, x = Wr0.heap.size := ⟨_, rfl⟩
       have z9 : AB < (Wr0.alloc (.cells zS8 26)).heap.size := by rw [hAB]; simp
       rw [← hAB] at n9 LG ⊢
       generalize Wr0.alloc (.cells zS8 26) = Wr36 at *
       have HM := zh n9
       have LM := zh z9
       replace G := Hid.ht G f9
       clear n9 f9 z9 hAB
       clear hHeld
       refine hK.out _ _ ⟨(zu G).kept (zu HBS2), (zu G).kept (zu HBA2), (zu G).kept (zu HBB2)⟩ (fun hHeld => ?_)
       clear hK K
       refine rdy 3 (by kernel_rfl) rfl (fun K hK => ?_)
       go_simp
       refine ((zu HPt) _ (zu G)).mono ?_
       rintro e Wr37 ⟨ya, yc, rfl, hy9, f9⟩
       have HY := zh hy9
       replace G := Hid.ht G f9
       replace HM := f9.hk HM
       replace LM := zh (Nat.lt_of_lt_of_le (zu LM) f9.size)
       clear hy9 f9
       clear hHeld
       refine hK.out _ _ ⟨(zu G).kept (zu HBS2), (zu G).kept (zu HBA2), (zu G).kept (zu HBB2)⟩ (fun hHeld => ?_)
       clear hK K
       refine rdy 4 (by kernel_rfl) rfl (fun K hK => ?_)
       go_simp
       refine ((zu HFd) _ _ (zu G) (zu HY)).mono ?_
       rintro e Wr38 ⟨cN, rfl, hs9, f9⟩
       have HSN := zh hs9
       replace G := Hid.ht G f9
       replace HM := f9.hk HM
       have HSX : Hid (∀ U, Fr (fun q => q = AB) Wr38 U → SB 4 U cN) := zh (fun U hU => hs9 U (hU.mono (fun q hq => by have h1 := zu LM; omega)))
       clear hs9 f9
       clear hHeld
       refine hK.out _ _ ⟨(zu G).kept (zu HBS2), (zu G).kept (zu HBA2), (zu G).kept (zu HBB2)⟩ (fun hHeld => ?_)
       clear hK K
       refine rdy 6 (by kernel_rfl) rfl (fun K hK => ?_)
       have hcN := hcells _ _ _ ((zu HSN) _ (Fr.refl _ _))
       refine ze 26 _ _ rfl rfl AB rfl _ _ cN rfl (zu HM) (by rw [hcN.1]; exact zay) (by rw [hcN.1]; rfl) hcN.2 ?_
       intro Wr39 hb9 hf9
       have HSU := zh ((zu HSX) _ hf9)
       replace G := zh (hf9.ext (zu G) (fun q9 h9 => by have h1 := zu LG; omega))
       clear hHeld
       refine hK.out _ _ ⟨(zu G).kept (zu HBS2), (zu G).kept (zu HBA2), (zu G).kept (zu HBB2)⟩ (fun hHeld => ?_)
       clear hK K
       refine wpAnyH_done (by kernel_rfl) ?_ _
       go_wp2
       go_meet
       exact ⟨_, _, rfl, zu LG, zh hb9, HSU, G⟩
     case rest =>
     rename World => w13
     obtain ⟨bS4, cS4, rfl, hbS4, HBS4, HS4, HXn⟩ := hcut
     have HC_cS4 := zh (hcells _ _ _ (zu HS4))
     replace HX2 := zh ((zu HX2).trans (zu HXn))
     replace HBS := zh ((zu HXn).kept (zu HBS))
     replace HS1 := zh (hext _ _ _ _ (zu HS1) (zu HXn))
     clear HPt HFd HBA2 HXn
     clear HBB2 HBS2 HS2 HC_cS2
     have HBA2 := zh ((zu HX2).kept (zu HBB))
     have HPt := zh (fun W (hW : Ext w13 W) => (zu HD).paint2 W _ ((zu HE).trans ((zu HX2).trans hW)) ((zu HBb).ext ((zu HX2).trans hW)))
     have HFd := zh (fun W yv (hW : Ext w13 W) (hy : zx W .u8 yv z5) => (zu HD).feed 1 5 z5 (.inr (.inr (.inr (.inr ⟨rfl, rfl, rfl⟩)))) W cS1 yv ((zu HE).trans ((zu HX2).trans hW)) (hext _ _ _ _ (zu HS1) hW) hy)
     have y13 := (zu HX2).size
     go_upto_region 31 with fail
     go_cut [20] (fun v0 wq => ∃ (bS5 : Nat) (cS5 : Array Value), v0 = .pointer (some ⟨bS5, 0, none⟩) ∧ w13.heap.size ≤ bS5 ∧ Hid (wq.heap[bS5]? = some (.cells cS5 26 (0, 0))) ∧ Hid (SB 5 wq cS5) ∧ Hid (Ext w13 wq))
     case first =>
      refine wp_region_held_drew (S := fun W => W.heap[w2.heap.size]? = some (.cells cS1 26 (0, 0)) ∧ W.heap[w1.heap.size + 1]? = some (.cells #[.slice a2 n2 k2, .int .i64 r2, .int .i64 c2] 46 (0, 0))) (by kernel_rfl) ⟨(Ext.refl w13).kept (zu HBS), (Ext.refl w13).kept (zu HBA2)⟩ (fun hHeld => ?_)
      refine tk 0 (.agg cS1) rfl (by kernel_rfl) (fun _ _ _ h => h) (by rfl) ?_ (by assumption) ?_
      ·intro w' hSw; exact zad 26 _ rfl (w2.heap.size) rfl _ _ _ _ hSw.1 Tryz.underlying26 rfl (by rw [(zu HC_cS1).1]; exact zay)
      simp only [Act.put, qA, qB, qC, qD, qE, qF]
      refine tk 1 (.agg #[.slice a2 n2 k2, .int .i64 r2, .int .i64 c2]) rfl (by kernel_rfl) (fun _ _ _ h => h) (by rfl) ?_ (by assumption) ?_
      ·intro w' hSw; exact zad 46 _ rfl (w1.heap.size + 1) rfl _ _ _ _ hSw.2 Tryz.underlying46 rfl zdV
      simp only [Act.put, qA, qB, qC, qD, qE, qF]
      have G := zh ((Ext.refl w13).drew)
      generalize w13.drew = Wr0 at *
      refine wpAnyH_ready (rs := [2, 4]) (by kernel_rfl) (by simp) ?_
      refine (AllReadyH.cons rfl (fun K hK => ?_) (AllReadyH.cons rfl (fun K hK => ?_) AllReadyH.nil))
      ·go_simp
       refine ((zu HPt) _ (zu G)).mono ?_
       rintro e Wr40 ⟨ya, yc, rfl, hy9, f9⟩
       have HY := zh hy9
       replace G := Hid.ht G f9
       clear hy9 f9
       clear hHeld
       refine hK.out _ _ ⟨(zu G).kept (zu HBS), (zu G).kept (zu HBA2)⟩ (fun hHeld => ?_)
       clear hK K
       refine wpAnyH_ready (rs := [3, 4]) (by kernel_rfl) (by simp) ?_
       refine (AllReadyH.cons rfl (fun K hK => ?_) (AllReadyH.cons rfl (fun K hK => ?_) AllReadyH.nil))
       ·go_simp
        refine ((zu HFd) _ _ (zu G) (zu HY)).mono ?_
        rintro e Wr41 ⟨cN, rfl, hs9, f9⟩
        have HSN := zh hs9
        replace G := Hid.ht G f9
        clear hs9 f9
        clear hHeld
        refine hK.out _ _ ⟨(zu G).kept (zu HBS), (zu G).kept (zu HBA2)⟩ (fun hHeld => ?_)
        clear hK K
        refine rdy 4 (by kernel_rfl) rfl (fun K hK => ?_)
        go_simp
        have n9 := zk Wr41 (.cells zS8 26)
        have f9 := (Ext.refl Wr41).alloc (.cells zS8 26)
        have LG : Hid (w13.heap.size ≤ Wr41.heap.size) := zh (zu G).size
        obtain ⟨AB, hAB⟩ : ∃ x, x = Wr41.heap.size := ⟨_, rfl⟩
        have z9 : AB < (Wr41.alloc (.cells zS8 26)).heap.size := by rw [hAB]; simp
        rw [← hAB] at n9 LG ⊢
        have HF9 := zh (fun U (hU : Fr (fun q => q = AB) (Wr41.alloc (.cells zS8 26)) U) => hU.ext f9 (fun q hq => by omega))
        generalize Wr41.alloc (.cells zS8 26) = Wr42 at *
        have HM := zh n9
        have LM := zh z9
        replace G := Hid.ht G f9
        have HSX : Hid (∀ U, Fr (fun q => q = AB) Wr42 U → SB 5 U cN) := zh (fun U hU => hext _ _ _ _ ((zu HSN) _ (Fr.refl _ _)) ((zu HF9) U hU))
        replace HSN : Hid (∀ U, Fr (fun q => q < 0) Wr42 U → SB 5 U cN) := zh (fun U hU => hext _ _ _ _ ((zu HSN) _ (Fr.refl _ _)) (hU.ext f9 (fun q hq => by omega)))
        clear HF9
        clear n9 f9 z9 hAB
        clear hHeld
        refine hK.out _ _ ⟨(zu G).kept (zu HBS), (zu G).kept (zu HBA2)⟩ (fun hHeld => ?_)
        clear hK K
        refine rdy 5 (by kernel_rfl) rfl (fun K hK => ?_)
        have hcN := hcells _ _ _ ((zu HSN) _ (Fr.refl _ _))
        refine ze 26 _ _ rfl rfl AB rfl _ _ cN rfl (zu HM) (by rw [hcN.1]; exact zay) (by rw [hcN.1]; rfl) hcN.2 ?_
        intro Wr43 hb9 hf9
        have HSU := zh ((zu HSX) _ hf9)
        replace G := zh (hf9.ext (zu G) (fun q9 h9 => by have h1 := zu LG; omega))
        clear hHeld
        refine hK.out _ _ ⟨(zu G).kept (zu HBS), (zu G).kept (zu HBA2)⟩ (fun hHeld => ?_)
        clear hK K
        refine wpAnyH_done (by kernel_rfl) ?_ _
        go_wp2
        go_meet
        exact ⟨_, _, rfl, zu LG, zh hb9, HSU, G⟩
       ·go_simp
        have n9 := zk Wr40 (.cells zS8 26)
        have f9 := (Ext.refl Wr40).alloc (.cells zS8 26)
        have LG : Hid (w13.heap.size ≤ Wr40.heap.size) := zh (zu G).size
        obtain ⟨AB, hAB⟩ : ∃ x, x = Wr40.heap.size := ⟨_, rfl⟩
        have z9 : AB < (Wr40.alloc (.cells zS8 26)).heap.size := by rw [hAB]; simp
        rw [← hAB] at n9 LG ⊢
        generalize Wr40.alloc (.cells zS8 26) = Wr44 at *
        have HM := zh n9
        have LM := zh z9
        replace G := Hid.ht G f9
        replace HY := zh ((zu HY).ext f9)
        clear n9 f9 z9 hAB
        clear hHeld
        refine hK.out _ _ ⟨(zu G).kept (zu HBS), (zu G).kept (zu HBA2)⟩ (fun hHeld => ?_)
        clear hK K
        refine rdy 3 (by kernel_rfl) rfl (fun K hK => ?_)
        go_simp
        refine ((zu HFd) _ _ (zu G) (zu HY)).mono ?_
        rintro e Wr45 ⟨cN, rfl, hs9, f9⟩
        have HSN := zh hs9
        replace G := Hid.ht G f9
        replace HM := f9.hk HM
        have HSX : Hid (∀ U, Fr (fun q => q = AB) Wr45 U → SB 5 U cN) := zh (fun U hU => hs9 U (hU.mono (fun q hq => by have h1 := zu LM; omega)))
        clear hs9 f9
        clear hHeld
        refine hK.out _ _ ⟨(zu G).kept (zu HBS), (zu G).kept (zu HBA2)⟩ (fun hHeld => ?_)
        clear hK K
        refine rdy 5 (by kernel_rfl) rfl (fun K hK => ?_)
        have hcN := hcells _ _ _ ((zu HSN) _ (Fr.refl _ _))
        refine ze 26 _ _ rfl rfl AB rfl _ _ cN rfl (zu HM) (by rw [hcN.1]; exact zay) (by rw [hcN.1]; rfl) hcN.2 ?_
        intro Wr46 hb9 hf9
        have HSU := zh ((zu HSX) _ hf9)
        replace G := zh (hf9.ext (zu G) (fun q9 h9 => by have h1 := zu LG; omega))
        clear hHeld
        refine hK.out _ _ ⟨(zu G).kept (zu HBS), (zu G).kept (zu HBA2)⟩ (fun hHeld => ?_)
        clear hK K
        refine wpAnyH_done (by kernel_rfl) ?_ _
        go_wp2
        go_meet
        exact ⟨_, _, rfl, zu LG, zh hb9, HSU, G⟩
      ·go_simp
       have n9 := zk Wr0 (.cells zS8 26)
       have f9 := (Ext.refl Wr0).alloc (.cells zS8 26)
       have LG : Hid (w13.heap.size ≤ Wr0.heap.size) := zh (zu G).size
       obtain ⟨AB, hAB⟩ : ∃ x, x = Wr0.heap.size := ⟨_, rfl⟩
       have z9 : AB < (Wr0.alloc (.cells zS8 26)).heap.size := by rw [hAB]; simp
       rw [← hAB] at n9 LG ⊢
       generalize Wr0.alloc (.cells zS8 26) = Wr47 at *
       have HM := zh n9
       have LM := zh z9
       replace G := Hid.ht G f9
       clear n9 f9 z9 hAB
       clear hHeld
       refine hK.out _ _ ⟨(zu G).kept (zu HBS), (zu G).kept (zu HBA2)⟩ (fun hHeld => ?_)
       clear hK K
       refine rdy 2 (by kernel_rfl) rfl (fun K hK => ?_)
       go_simp
       refine ((zu HPt) _ (zu G)).mono ?_
       rintro e Wr48 ⟨ya, yc, rfl, hy9, f9⟩
       have HY := zh hy9
       replace G := Hid.ht G f9
       replace HM := f9.hk HM
       replace LM := zh (Nat.lt_of_lt_of_le (zu LM) f9.size)
       clear hy9 f9
       clear hHeld
       refine hK.out _ _ ⟨(zu G).kept (zu HBS), (zu G).kept (zu HBA2)⟩ (fun hHeld => ?_)
       clear hK K
       refine rdy 3 (by kernel_rfl) rfl (fun K hK => ?_)
       go_simp
       refine ((zu HFd) _ _ (zu G) (zu HY)).mono ?_
       rintro e Wr49 ⟨cN, rfl, hs9, f9⟩
       have HSN := zh hs9
       replace G := Hid.ht G f9
       replace HM := f9.hk HM
       have HSX : Hid (∀ U, Fr (fun q => q = AB) Wr49 U → SB 5 U cN) := zh (fun U hU => hs9 U (hU.mono (fun q hq => by have h1 := zu LM; omega)))
       clear hs9 f9
       clear hHeld
       refine hK.out _ _ ⟨(zu G).kept (zu HBS), (zu G).kept (zu HBA2)⟩ (fun hHeld => ?_)
       clear hK K
       refine rdy 5 (by kernel_rfl) rfl (fun K hK => ?_)
       have hcN := hcells _ _ _ ((zu HSN) _ (Fr.refl _ _))
       refine ze 26 _ _ rfl rfl AB rfl _ _ cN rfl (zu HM) (by rw [hcN.1]; exact zay) (by rw [hcN.1]; rfl) hcN.2 ?_
       intro Wr50 hb9 hf9
       have HSU := zh ((zu HSX) _ hf9)
       replace G := zh (hf9.ext (zu G) (fun q9 h9 => by have h1 := zu LG; omega))
       clear hHeld
       refine hK.out _ _ ⟨(zu G).kept (zu HBS), (zu G).kept (zu HBA2)⟩ (fun hHeld => ?_)
       clear hK K
       refine wpAnyH_done (by kernel_rfl) ?_ _
       go_wp2
       go_meet
       exact ⟨_, _, rfl, zu LG, zh hb9, HSU, G⟩
     case rest =>
     rename World => w14
     obtain ⟨bS5, cS5, rfl, hbS5, HBS5, HS5, HXn⟩ := hcut
     have HC_cS5 := zh (hcells _ _ _ (zu HS5))
     replace HX2 := zh ((zu HX2).trans (zu HXn))
     replace HBS4 := zh ((zu HXn).kept (zu HBS4))
     replace HS4 := zh (hext _ _ _ _ (zu HS4) (zu HXn))
     clear HPt HFd HBA2 HXn
     clear HBS HS1
     have HBB2 := zh ((zu HX2).kept (zu HBB))
     have hr2 := (zu HD).pos
     have hw32 : IntKind.i64.wrap ((N : Int) + r2) = (N : Int) + r2 := by rw [IntKind.wrap_i64] <;> omega
     go_upto_region 32 with fail
     refine wp_region_held_drew (S := fun W => W.heap[bS4]? = some (.cells cS4 26 (0, 0)) ∧ W.heap[bS5]? = some (.cells cS5 26 (0, 0)) ∧ W.heap[w1.heap.size + 1]? = some (.cells #[.slice a2 n2 k2, .int .i64 r2, .int .i64 c2] 46 (0, 0))) (by kernel_rfl) ⟨zu HBS4, zu HBS5, zu HBB2⟩ (fun hHeld => ?_)
     refine tk 0 (.agg cS4) rfl (by kernel_rfl) (fun _ _ _ h => h) (by rfl) ?_ (by assumption) ?_
     ·intro w' hSw; exact zad 26 _ rfl (bS4) rfl _ _ _ _ hSw.1 Tryz.underlying26 rfl (by rw [(zu HC_cS4).1]; exact zay)
     simp only [Act.put, qA, qB, qC, qD, qE, qF]
     refine tk 1 (.agg cS5) rfl (by kernel_rfl) (fun _ _ _ h => h) (by rfl) ?_ (by assumption) ?_
     ·intro w' hSw; exact zad 26 _ rfl (bS5) rfl _ _ _ _ hSw.2.1 Tryz.underlying26 rfl (by rw [(zu HC_cS5).1]; exact zay)
     simp only [Act.put, qA, qB, qC, qD, qE, qF]
     refine tk 3 ?_ rfl (by kernel_rfl) (fun _ _ _ h => h) (by rfl) ?_ (by assumption) ?_
     rotate_left
     ·intro w' hSw; go_simp <;> with_reducible rfl
     simp only [Act.put, qA, qB, qC, qD, qE, qF]
     refine tk 4 ?_ rfl (by kernel_rfl) (fun _ _ _ h => h) (by rfl) ?_ (by assumption) ?_
     rotate_left
     ·intro w' hSw; go_simp <;> with_reducible rfl
     simp only [Act.put, qA, qB, qC, qD, qE, qF]
     refine tk 5 ?_ rfl (by kernel_rfl) (fun _ _ _ h => h) (by rfl) ?_ (by assumption) ?_
     rotate_left
     ·intro w' hSw; have h9 := zg hSw.2.2 1 _ rfl; go_simp <;> with_reducible rfl
     simp only [Act.put, qA, qB, qC, qD, qE, qF]
     refine tk 6 ?_ rfl (by kernel_rfl) (fun _ _ _ h => h) (by rfl) ?_ (by assumption) ?_
     rotate_left
     ·intro w' hSw; go_simp <;> with_reducible rfl
     simp only [Act.put, qA, qB, qC, qD, qE, qF]
     refine tk 7 ?_ rfl (by kernel_rfl) (fun _ _ _ h => h) (by rfl) ?_ (by assumption) ?_
     rotate_left
     ·intro w' hSw; go_simp <;> with_reducible rfl
     simp only [Act.put, qA, qB, qC, qD, qE, qF]
     refine tk 8 ?_ rfl (by kernel_rfl) (fun _ _ _ h => h) (by rfl) ?_ (by assumption) ?_
     rotate_left
     ·intro w' hSw; have h9 := zg hSw.2.2 2 _ rfl; go_simp <;> with_reducible rfl
     simp only [Act.put, qA, qB, qC, qD, qE, qF]
     have G := zh ((Ext.refl w14).drew)
     generalize w14.drew = Wq0 at *
     refine rdy 2 (by kernel_rfl) rfl (fun K hK => ?_)
     go_simp
     refine ((zu HD).lines5 _ _ (hext _ _ _ _ (zu HS5) (zu G))).mono ?_
     rintro e Wq1 ⟨xa5, xk5, rfl, hR5, f9⟩
     have HR5 := zh hR5
     replace G := Hid.ht G f9
     clear hR5 f9
     clear hHeld
     refine hK.out _ _ ⟨(zu G).kept (zu HBS4), (zu G).kept (zu HBS5), (zu G).kept (zu HBB2)⟩ (fun hHeld => ?_)
     clear hK K
     refine rdy 9 (by kernel_rfl) rfl (fun K hK => ?_)
     go_simp
     refine ((zu HD).shows4 _ _ _ (hext _ _ _ _ (zu HS4) (zu G)) (zu HR5)).mono ?_
     rintro e Wq2 ⟨rfl, f9⟩
     replace G := Hid.ht G f9
     clear f9
     clear hHeld
     refine hK.out _ _ ⟨(zu G).kept (zu HBS4), (zu G).kept (zu HBS5), (zu G).kept (zu HBB2)⟩ (fun hHeld => ?_)
     clear hK K
     refine tk 10 ?_ rfl (by kernel_rfl) (fun _ _ _ h => h) (by rfl) ?_ (by assumption) ?_
     rotate_left
     ·intro w' hSw; go_simp <;> with_reducible rfl
     simp only [Act.put, qA, qB, qC, qD, qE, qF]
     refine wpAnyH_done (by kernel_rfl) ?_ _
     go_wp2
     go_ret
     exact ⟨rfl, ((zu HE).trans ((zu HX2).trans (zu G))).below⟩
end Go.Proofs.YtinfdhbnljnifaaGreatDoor
