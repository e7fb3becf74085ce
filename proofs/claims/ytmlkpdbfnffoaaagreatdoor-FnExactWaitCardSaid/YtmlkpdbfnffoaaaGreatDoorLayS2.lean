import Derived.Test.YtmlkpdbfnffoaaaGreatDoorViewM
import Derived.Deep.DeepCutAuto
import Derived.Deep.CutBlock
namespace Go.Proofs.YtmlkpdbfnffoaaaGreatDoor
open Go.RowKit
theorem zm2 : (Tryz.prog.info? 3).map (fun i => (i.zero, i.size, i.bytes)) = some (some (.int .i64 0), 1, 8) := by kernel_rfl
theorem zjE {w V : World} {v : Value} {S : List Int} {n : Nat} (h : w.ownsRow V.heap.size 3 1 v S.length ((S.map (Value.int .i64)).tail ++ [.int .i64 (n : Int)])) (h1 : 1 ≤ S.length) (he : Ext V w) :
  ∃ ge qe, v = .slice (some ⟨ge, 0, none⟩) S.length qe ∧ V.heap.size ≤ ge ∧ ge < w.heap.size ∧ Hid (∀ j, j < S.length → w.cell? ⟨ge, j, none⟩ = some (.int .i64 (at0 (S ++ [(n : Int)]) (j + 1)))) ∧ Ext V w := by
 rcases h.2 with ⟨_, h0⟩ | ⟨g, cap, cur, rfl, _⟩
 ·omega
 refine ⟨g, cap, rfl, (h.lt g rfl).1, (h.lt g rfl).2, zi (fun j hj => ?_), he⟩
 rw [h.cellAt j (by omega)]
 by_cases hl : j + 1 < S.length
 ·rw [List.getElem?_append_left (by simp; omega), List.getElem?_tail, List.getElem?_map, zaw, if_neg (by omega), zb1 hl]
  rfl
 ·rw [List.getElem?_append_right (by simp; omega), zaw, if_pos (by omega)]
  have : j - ((S.map (Value.int .i64)).tail).length = 0 := by simp; omega
  rw [this]
  rfl
set_option maxRecDepth 10000 in
set_option maxHeartbeats 4000000 in
theorem zhe (P A B : List Int) (c : ByteArray) (ua : Option Addr) (un uc : Nat) (cols rows : Nat) (w : World) (hs : zbl cols rows = true) (hP : zaj P) (hA : zaj A) (hB : zaj B) (lP : P.length ≤ 1048576) (lA : A.length ≤ 1048576) (lB : B.length ≤ 1048576) :
    Calls Tryz.prog 116 #[.string (zv P), .agg (zcd (zv A) (zv B) c ua un uc), .int .i64 cols, .int .i64 rows] w fun e w' => ∃ v, e = .returned (.agg #[v, .int .i64 ((zbA (zd P ++ zd A ++ zd B) cols ((zd P).length + (zd A).length) : Int) - (zb6 (zd P ++ zd A ++ zd B) cols ((zd P).length + (zd A).length) rows : Int)), .int .i64 (zbR (zd P ++ zd A ++ zd B) cols ((zd P).length + (zd A).length))]) ∧ zaD w' w.heap.size 9 v (zcg (zd P ++ zd A ++ zd B) cols ((zd P).length + (zd A).length) rows) (fun i => .string (zgb (zd P ++ zd A ++ zd B) cols ((zd P).length + (zd A).length) rows i)) ∧ Ext w w' := by
  obtain ⟨ic, hic, hc0, hc1, hc2⟩ := info_parts zln
  have hcP := zi (fun U => zdh P hP U (by omega))
  have hcA := zi (fun U => zdh A hA U (by omega))
  have hcB := zi (fun U => zdh B hB U (by omega))
  have kP := zbW P
  have kA := zbW A
  have kB := zbW B
  obtain ⟨D0, hD0⟩ : ∃ D0, D0 = zd P ++ zd A ++ zd B := ⟨_, rfl⟩
  obtain ⟨p0, hp0⟩ : ∃ p0, p0 = (zd P).length + (zd A).length := ⟨_, rfl⟩
  rw [← hD0, ← hp0]
  have HD0 := zi hD0
  have HP0 := zi hp0
  clear hD0 hp0
  go_enter Tryz.func116, Tryz.ntmps116
  go_wp2_with fail
  refine (zfp _ _ _).mono ?_
  rw [hs]
  rintro e w1 ⟨rfl, rfl⟩
  obtain ⟨cn, rn, ec, er, n2, n200, r1, r100⟩ := zcn hs
  obtain rfl : cn = cols := by omega
  obtain rfl : rn = rows := by omega
  clear ec er
  have hb0 := zn (w.alloc (.cells (zcd (zv A) (zv B) c ua un uc) 37)) (.cells zek 86)
  have hbl := ((Ext.refl _).alloc (.cells zek 86)).kept (zn w (.cells (zcd (zv A) (zv B) c ua un uc) 37))
  have E0 := ((Ext.refl w).alloc (.cells (zcd (zv A) (zv B) c ua un uc) 37)).alloc (.cells zek 86)
  have hz0 : ((w.alloc (.cells (zcd (zv A) (zv B) c ua un uc) 37)).alloc (.cells zek 86)).heap.size = w.heap.size + 2 := by simp
  obtain ⟨W0, hW0⟩ : ∃ W0, W0 = (w.alloc (.cells (zcd (zv A) (zv B) c ua un uc) 37)).alloc (.cells zek 86) := ⟨_, rfl⟩
  rw [← hW0] at hb0 hbl E0 hz0
  have hz : (w.alloc (.cells (zcd (zv A) (zv B) c ua un uc) 37)).heap.size = w.heap.size + 1 := by simp
  rw [hz] at hb0
  have q0 := zk hbl 0 _ rfl
  have HW := zi hW0
  have HB0 := zi hb0
  have HBL := zi hbl
  clear hW0 hz hb0 hbl
  go_wp2
  rw [← zg HW]
  clear HW
  have tokA : True := trivial
  go_region_held_law (fun W => W.cell? ⟨w.heap.size, 0, none⟩ = some (.string (zv A))) (first | exact q0 | exact d0 | exact f0 | exact k0)
    (first
      | (go_at_call 121; have _t := tokA; refine ((zg hcP) _).mono ?_; rintro e w2 ⟨v2, rs2, rfl, o2, F2⟩; have E2 := (Ext.refl W0).drew.trans F2; have d0 := E2.cell q0; have O2 := zi o2; have HE2 := zi E2; clear tokA o2 F2 E2)
      | (go_at_call 121; refine ((zg hcA) _).mono ?_; rintro e w3 ⟨v3, rs3, rfl, o3, F3⟩; have E3 := (zg HE2).trans F3; have f0 := E3.cell q0; obtain ⟨ys3, oy3, ky3, src3⟩ := o3.ys; obtain ⟨ys2, oy2, ky2, _⟩ := ((zg O2).ext F3).ys; have O3 := zi o3; have O23 := zi ((zg O2).ext F3); have LT2 := zi (fun g (hg : zdN v2 rs2 (zd P).length g) => ((zg O2).lt hg)); have HE3 := zi E3; have HF3 := zi F3; have OY2 := zi oy2; have KY2 := zi ky2; have KY3 := zi ky3; have SR3 := zi src3; have hsz3 := E3.size; clear o3 E3 F3 oy3 ky3 src3 oy2 ky2)
      | (refine zgN (by rfl) _ _ 160 (by rfl) W0.heap.size 203 ic (.agg #[.slice none 0 0, .int .i64 0]) 2 32 Tryz.underlying160 hic hc0 hc1 hc2 rfl (by decide) _ _ ys2 (by rfl) (zg OY2) _ _ ys3 (by rfl) (zg SR3) (by unfold maxLen; omega) (by omega) (by omega) ?_; intro v4 w4 o4 G4 _; have E4 := (zg HE3).grown G4 (fun q hq => ((zg OY2).lt q hq).1); have k0 := E4.cell q0; have O4 := zi (zak.append (zg O23) (zg O3) (by have := (zg HE2).size; exact this) (fun g hg => ((zg LT2) g hg).2) (zg OY2) (zg KY2) (zg KY3) o4 G4); obtain ⟨a4, c4, e4⟩ := zaE o4; subst e4; have HE4 := zi E4; clear o4 G4 E4))
  have HCU := zi (((zce P).app (zce A)).app (zce B))
  rw [← List.length_append] at O4 HP0 ⊢
  have kC : (zd P ++ zd A).length = (zd P).length + (zd A).length := List.length_append
  have hq1 := zk ((zg HE4).kept (zg HBL)) 1 _ rfl
  have hs4 := (zg HE4).size
  generalize zd P ++ zd A = C1 at *
  have kCB : (C1 ++ zd B).length = C1.length + (zd B).length := List.length_append
  generalize hD : C1 ++ zd B = D at *
  have HD := zi hD
  have kD1 : C1.length ≤ D.length := by omega
  have kD2 : D.length ≤ 3145728 := by omega
  have kD3 : C1.length + (zd B).length ≤ 3145728 := by omega
  have KCB := zi kCB
  clear hD kCB kC
  go_wp2_with (first
    | (go_at_call 121; refine ((zg hcB) _).mono ?_; rintro e w5 ⟨v5, rs5, rfl, o5, F5⟩; have E5 := (zg HE4).trans F5; obtain ⟨ys5, oy5, ky5, src5⟩ := o5.ys; obtain ⟨ys4, oy4, ky4, _⟩ := ((zg O4).ext F5).ys; have O5 := zi o5; have O45 := zi ((zg O4).ext F5); have LT4 := zi (fun g hg => ((zg O4).lt (g := g) hg)); have HE5 := zi E5; have OY4 := zi oy4; have KY4 := zi ky4; have KY5 := zi ky5; have SR5 := zi src5; have hsz5 := E5.size; clear o5 E5 F5 oy5 ky5 src5 oy4 ky4)
    | (at_builtin; go_must (refine zao rfl _ _ 160 rfl W0.heap.size 203 ic (.agg #[.slice none 0 0, .int .i64 0]) 2 32 Tryz.underlying160 hic hc0 hc1 hc2 rfl (by decide) _ _ ys4 rfl (zg OY4) _ _ ys5 rfl (zg SR5) (by unfold maxLen; omega) (by omega) (by omega) ?_); intro v6 w6 o6 G6 _; have E6 := (zg HE5).grown G6 (fun q hq => ((zg OY4).lt q hq).1); have O6 := zi (zak.append (zg O45) (zg O5) hs4 (fun g hg => ((zg LT4) g hg).2) (zg OY4) (zg KY4) (zg KY5) o6 G6); rw [← zg KCB] at o6; obtain ⟨a6, c6, e6⟩ := zaE o6; subst e6; have hDc : Hid (D.length ≤ c6 ∧ (0 < D.length → ∃ g, a6 = some ⟨g, 0, none⟩)) := (by rcases o6.2 with ⟨e, h0⟩ | ⟨g, cap, cur, e, _, _, hn, _⟩ <;> simp only [Value.slice.injEq] at e <;> obtain ⟨rfl, _, rfl⟩ := e; exact ⟨by omega, fun h => by omega⟩; exact ⟨hn, fun _ => ⟨g, rfl⟩⟩); have HE6 := zi E6; have hsz6 := E6.size; clear o6 G6 E6))
  rw [zg HD] at O6
  have hst := ziG (.slice a6 D.length c6) D cn w6 (zg O6).cls (by omega)
  have HST := zi hst
  clear hst
  refine (zg HST).mono ?_
  rintro e w7 ⟨v7, rfl, o7, F7⟩
  replace o7 : w7.ownsRow w6.heap.size 3 1 v7 (stS D cn).length ((stS D cn).map (Value.int .i64)) := o7
  have hm1 : 1 ≤ (stS D cn).length := (zbS D cn D.length).one
  have hm2 : (stS D cn).length ≤ D.length + 1 := (zbS D cn D.length).len
  obtain ⟨g7, c7, rfl, hRc⟩ : ∃ g c, v7 = .slice (some ⟨g, 0, none⟩) (stS D cn).length c ∧ (stS D cn).length ≤ c := by
    rcases o7.2 with ⟨_, h0⟩ | ⟨g, cap, cur, hv, _, _, hn, _⟩
    · omega
    · exact ⟨g, cap, hv, hn⟩
  have hI7 := zaf o7
  have hcR := zi (zlW _ (stS D cn) C1.length w7 hI7 (by omega))
  have hat7 : Hid (∀ j, j < (stS D cn).length → w7.cell? ⟨g7, j, none⟩ = some (.int .i64 (at0 (stS D cn) j))) := zi (fun j hj => by rw [o7.cellAt j (by omega), List.getElem?_map, zb1 hj]; rfl)
  have O7 := zi o7
  have HE7 := Hid.ht HE6 F7
  have hs7 := F7.size
  have hr0 := zcR (cs := D) (cols := cn) (p := C1.length)
  have hle0 := zeN (cs := D) (cols := cn) (p := C1.length)
  have hnn0 := zcq hr0
  have hcol0 := zi (zeH (p := C1.length) (zg HCU).wide n2 (by omega))
  obtain ⟨s0, hs0⟩ : ∃ s0 : Nat, at0 (stS D cn) (zaG D cn C1.length) = (s0 : Int) := ⟨(at0 (stS D cn) (zaG D cn C1.length)).toNat, by omega⟩
  have hx0 := (zg hat7) _ hr0
  rw [hs0] at hx0 hle0 hnn0
  have hlc0 : Hid (za5 D cn C1.length = pw D C1.length - pw D s0) := zi (by unfold za5; rw [hs0]; rfl)
  have hrw : rwF (stS D cn) C1.length (stS D cn).length = zaG D cn C1.length := rfl
  rw [hrw] at hcR
  generalize hro : zaG D cn C1.length = r0 at *
  clear o7 hI7 hrw hs0 O4 O45 O5 SR5 KY5 KY4 OY4 LT4 O2 O3 O23 OY2 KY2 KY3 SR3 LT2 HF3 HE2 HE3 HE4 HE5 hq1 hcP hcA hcB HST
  have hsp : (s0 : Int) ≤ (C1.length : Int) := hle0
  have hpc : (C1.length : Int) ≤ (c6 : Int) := by have := (zg hDc).1; omega
  go_wp2_with fail
  refine (zg hcR).mono ?_
  rintro e w8 ⟨rfl, rfl⟩
  have HCW : Hid (∀ (a' : Option Addr) (Z : Nat), (a' = a6.map (fun x => x.add (s0 * 2)) ∨ C1.length - s0 = 0) → C1.length - s0 ≤ Z → Calls Tryz.prog 183 #[.slice a' (C1.length - s0) Z] w8 fun e w' => e = .returned (.int .i64 (za5 D cn C1.length)) ∧ Ext w8 w') := by
    refine zi (fun a' Z h1 h2 => ?_)
    have hh := zjq _ _ w8 (((zg O6).cls.ext F7).cut s0 C1.length Z (by omega) kD1 h2 a' h1) (by simp; omega) (zmm (zg HCU).wide s0 C1.length)
    rw [zjX D s0 C1.length (by omega) kD1, ← zg hlc0] at hh
    exact hh
  obtain ⟨hcl0, hcl1⟩ := zg hcol0
  have hfull := zi (zhc (p := C1.length) (zg HCU).wide n2 kD1)
  generalize hco : za5 D cn C1.length = c0 at *
  generalize hRR : (stS D cn).length = R at *
  have HRO := zi hro
  have HCO := zi hco
  have HRR := zi hRR
  clear hro hco hRR
  go_upto_region 8 with fail
  go_cut [13] (fun co wc => co = .int .i64 c0 ∧ Ext w8 wc)
  case first =>
    by_cases hsc : s0 = c6
    · subst hsc
      go_wp2_with fail
      refine ((zg HCW) _ _ (.inr (by have := (zg hDc).1; omega)) (by omega)).mono ?_
      rintro e w9 ⟨rfl, F9⟩
      go_wp2
      go_meet
      exact ⟨rfl, F9⟩
    · have hsc' : ¬ c6 = s0 := fun e => hsc e.symm
      go_wp2_with fail
      refine ((zg HCW) _ _ (.inl rfl) (by omega)).mono ?_
      rintro e w9 ⟨rfl, F9⟩
      go_wp2
      go_meet
      exact ⟨rfl, F9⟩
  case rest =>
  obtain ⟨rfl, F9⟩ := hcut
  have HE9 := zi (F7.trans F9)
  have O9 := zi (F9.owns (zg O7))
  have hs9 := F9.size
  obtain ⟨ii, hii, hi0, hi1, hi2⟩ := info_parts zm2
  obtain ⟨S2, hS2⟩ : ∃ S2, S2 = zcs D cn C1.length := ⟨_, rfl⟩
  obtain ⟨r2, hr2⟩ : ∃ r2, r2 = zbA D cn C1.length := ⟨_, rfl⟩
  obtain ⟨c2, hc2'⟩ : ∃ c2, c2 = zbR D cn C1.length := ⟨_, rfl⟩
  have HS2 := zi hS2
  have HR2 := zi hr2
  have HC2 := zi hc2'
  clear hS2 hr2 hc2' hx0
  go_upto_region 9 with fail
  go_cut [58] (fun b wq => b = .bool (decide (c0 = cn)) ∧ wq = wc)
  case first =>
    by_cases hfu : c0 = cn
    · have hpb : ((C1.length : Int) == (D.length : Int)) = true := by have := ((zg hfull).2 hfu).1; simp; omega
      subst hfu
      go_wp2
      go_meet
      exact ⟨by simp, rfl⟩
    · by_cases hpn : (C1.length : Int) = (D.length : Int)
      · have hpb : ((C1.length : Int) == (D.length : Int)) = true := by simpa using hpn
        clear hpn
        go_wp2
        go_meet
        exact ⟨by simp [hfu], rfl⟩
      · go_wp2
        go_meet
        exact ⟨by simp [hfu], rfl⟩
  case rest =>
  obtain ⟨rfl, rfl⟩ := hcut
  go_upto_if 58 with fail
  go_cut [11, 12, 13] (fun st ro co wq => ∃ g q, st = .slice (some ⟨g, 0, none⟩) S2.length q ∧ ro = .int .i64 (r2 : Int) ∧ co = .int .i64 c2 ∧ S2.length ≤ q ∧ Hid (wq.ownsRow w6.heap.size 3 1 (.slice (some ⟨g, 0, none⟩) S2.length q) S2.length (S2.map (Value.int .i64))) ∧ Ext w6 wq)
  case first =>
    by_cases hfu : c0 = cn
    · have hpn : C1.length = D.length := ((zg hfull).2 hfu).1
      have hL : zee D cn C1.length := (zg hfull).2 hfu
      have e2 : Hid (S2 = stS D cn ++ [(C1.length : Int)]) := zi (by rw [zg HS2]; unfold zcs; rw [if_pos hL])
      have e3 : Hid (r2 = r0 + 1) := zi (by rw [zg HR2]; unfold zbA; rw [if_pos hL, zg HRO])
      have e4 : Hid (c2 = 0) := zi (by rw [zg HC2]; unfold zbR; rw [if_pos hL])
      subst hfu
      clear hpn
      go_wp2_with (at_builtin; go_must (refine zao rfl _ _ 193 rfl w6.heap.size 3 ii (.int .i64 0) 1 8 Tryz.underlying193 hii hi0 hi1 hi2 rfl (by decide) _ _ _ rfl ((zg O9).alloc _) _ 1 [.int .i64 (C1.length : Int)] rfl (Src.made _ _ _ rfl (by simp [Value.oneCell'])) (by unfold maxLen; omega) (by omega) (by simp; omega) ?_); intro v5 w5 o5 G5 _; have HO5 := zi o5; have HG5 := zi (((zg HE9).alloc _).grown G5 (fun q hq => ((zg O9).lt q hq).1)); clear o5 G5)
      go_meet
      have o5 := zg HO5
      have hl2 : S2.length = R + 1 := by rw [zg e2, List.length_append, zg HRR]; rfl
      obtain ⟨g, q, rfl, hq⟩ : ∃ g q, v5 = .slice (some ⟨g, 0, none⟩) (R + 1) q ∧ R + 1 ≤ q := by
        rcases o5.2 with ⟨_, h0⟩ | ⟨g, cap, cur, hv, _, _, hn, _⟩
        · omega
        · exact ⟨g, cap, hv, hn⟩
      refine ⟨g, q, by rw [hl2], by rw [zg e3]; go_num, by rw [zg e4], by omega, zi ?_, zg HG5⟩
      have e5 : S2.map (Value.int .i64) = (stS D cn).map (Value.int .i64) ++ [.int .i64 (C1.length : Int)] := by rw [zg e2, List.map_append]; rfl
      rw [hl2, e5]
      exact o5
    · have hL : ¬ zee D cn C1.length := fun h => hfu ((zg hfull).1 h)
      have e2 : Hid (S2 = stS D cn) := zi (by rw [zg HS2]; unfold zcs; rw [if_neg hL])
      have e3 : Hid (r2 = r0) := zi (by rw [zg HR2]; unfold zbA; rw [if_neg hL, zg HRO])
      have e4 : Hid (c2 = c0) := zi (by rw [zg HC2]; unfold zbR; rw [if_neg hL, zg HCO])
      have hdb : decide (c0 = (cn : Int)) = false := by simp [hfu]
      go_wp2
      go_meet
      have hl2 : S2.length = R := by rw [zg e2, zg HRR]
      refine ⟨g7, c7, by rw [hl2], by rw [zg e3], by rw [zg e4], by omega, zi ?_, zg HE9⟩
      rw [hl2, zg e2]
      exact zg O9
  case rest =>
  obtain ⟨g, q, rfl, rfl, rfl, hq, HOS, EQ⟩ := hcut
  have EQS := zi EQ
  clear EQ
  have hl2 : 1 ≤ S2.length ∧ S2.length ≤ D.length + 2 ∧ r2 < S2.length := by
    rw [zg HS2, zg HR2]
    refine ⟨?_, zmH, zfM⟩
    have := zfM (cs := D) (cols := cn) (p := C1.length)
    omega
  obtain ⟨hl21, hl22, hr2l⟩ := hl2
  obtain ⟨f, hf⟩ : ∃ f : Nat, f = r2 + 1 - rn := ⟨_, rfl⟩
  have HF := zi hf
  clear hf HCW hcR
  go_upto_region 14 with fail
  go_cut [76] (fun b wq => b = .bool (decide ((r2 : Int) - (rn : Int) + 1 < 0 ∨ (S2.length : Int) ≤ (rn : Int))) ∧ wq = wc)
  case first =>
    by_cases h1 : (r2 : Int) - (rn : Int) + 1 < 0
    · go_wp2
      go_meet
      exact ⟨by simp [h1], rfl⟩
    · by_cases h2 : (S2.length : Int) ≤ (rn : Int)
      · go_wp2
        go_meet
        exact ⟨by simp [h2], rfl⟩
      · go_wp2
        go_meet
        exact ⟨congrArg Value.bool (decide_eq_false (by omega)).symm, rfl⟩
  case rest =>
  obtain ⟨rfl, rfl⟩ := hcut
  go_upto_if 76 with fail
  go_cut [14] (fun fv wq => fv = .int .i64 (f : Int) ∧ wq = wc)
  case first =>
    by_cases h1 : (r2 : Int) - (rn : Int) + 1 < 0 ∨ (S2.length : Int) ≤ (rn : Int)
    · have hd : decide ((r2 : Int) - (rn : Int) + 1 < 0 ∨ (S2.length : Int) ≤ (rn : Int)) = true := by simpa using h1
      rw [hd]
      have h9 := zi h1
      clear h1 hd
      go_wp2
      go_meet
      exact ⟨congrArg (Value.int .i64) (by have := zg HF; have := zg h9; omega), rfl⟩
    · have hd : decide ((r2 : Int) - (rn : Int) + 1 < 0 ∨ (S2.length : Int) ≤ (rn : Int)) = false := by simpa using h1
      rw [hd]
      have h9 := zi h1
      clear h1 hd
      go_wp2
      go_meet
      exact ⟨congrArg (Value.int .i64) (by have := zg HF; have := zg h9; omega), rfl⟩
  case rest =>
  obtain ⟨rfl, rfl⟩ := hcut
  have hfr2 : f ≤ r2 := by have := zg HF; omega
  have hsl := (zg EQS).size
  obtain ⟨V6, hV6⟩ : ∃ V6, V6 = (wc.alloc (.cells #[] 9)).alloc (.cells #[.slice (some ⟨wc.heap.size, 0, none⟩) 0 0, .int .i64 ((r2 : Int) - (f : Int)), .int .i64 c2] 86) := ⟨_, rfl⟩
  have HV6 := zi hV6
  have EV6 : Ext wc V6 := by rw [hV6]; exact ((Ext.refl _).alloc _).alloc _
  have hzV : V6.heap.size = wc.heap.size + 2 := by rw [hV6]; simp
  have HZV := zi hzV
  have hzV1 : wc.heap.size + 1 < V6.heap.size := by omega
  clear hV6 hzV
  have hsrc : Hid (∀ W Z X, Ext wc W → (X = 1 ∨ S2.length - 1 = 0) → Src W 1 (.slice (some ⟨g, X, none⟩) (S2.length - 1) Z) (S2.length - 1) ((S2.drop 1).map (Value.int .i64))) := by
    refine zi (fun W Z X hW hX => ⟨by simp, fun u hu => ?_, .inr ⟨_, Z, rfl, fun j u hj => ?_⟩⟩)
    · obtain ⟨x, _, rfl⟩ := List.mem_map.1 hu
      rfl
    · have hjl : j < S2.length - 1 := by have := (List.getElem?_eq_some_iff.1 hj).1; simpa using this
      rcases hX with rfl | hX
      · rw [Addr.add_lit, (hW.owns (zg HOS)).cellAt (1 + j) (by omega), ← hj]
        rw [List.getElem?_map, List.getElem?_map, List.getElem?_drop]
      · omega
  have HZW := zi (show wc.heap.size = wc.heap.size from rfl)
  have hbV := ((Ext.refl _).alloc (.cells #[.slice (some ⟨wc.heap.size, 0, none⟩) 0 0, .int .i64 ((r2 : Int) - (f : Int)), .int .i64 c2] 86)).owns (zcl wc 9 1)
  have hbW := zn (wc.alloc (.cells #[] 9)) (.cells #[.slice (some ⟨wc.heap.size, 0, none⟩) 0 0, .int .i64 ((r2 : Int) - (f : Int)), .int .i64 c2] 86)
  rw [← zg HV6] at hbV hbW
  rw [show (wc.alloc (.cells #[] 9)).heap.size = wc.heap.size + 1 by simp] at hbW
  have HBV := zi hbV
  have HBW := zi hbW
  clear hbV hbW
  obtain ⟨wS, hwS⟩ : ∃ wS, wS = wc := ⟨_, rfl⟩
  go_upto_region 17 with fail
  rw [← zg HV6]
  subst hwS
  go_cut [16] (fun ev wq => ∃ ge qe, ev = .slice (some ⟨ge, 0, none⟩) S2.length qe ∧ V6.heap.size ≤ ge ∧ ge < wq.heap.size ∧ Hid (∀ j, j < S2.length → wq.cell? ⟨ge, j, none⟩ = some (.int .i64 (at0 (S2 ++ [(D.length : Int)]) (j + 1)))) ∧ Ext V6 wq)
  case first =>
    have ho0 := zi (zcl V6 3 1)
    have tok1 : True := trivial
    by_cases hq1 : q = 1
    · subst hq1
      obtain ⟨x, hx⟩ : ∃ x, S2 = [x] := by
        cases S2 with
        | nil => simp at hl21
        | cons x r =>
          cases r with
          | nil => exact ⟨x, rfl⟩
          | cons y r => simp at hq
      subst hx
      have hsrc0 : Hid (∀ (W : World) (ad : Addr) (q : Nat), Src W 1 (.slice (some ad) 0 q) 0 []) := zi (fun W ad q => ⟨rfl, fun u hu => (by cases hu), .inr ⟨ad, q, rfl, fun j u hj => (by simp at hj)⟩⟩)
      clear hsrc
      go_wp2_with (at_builtin; go_must (refine zao rfl _ _ 193 rfl V6.heap.size 3 ii (.int .i64 0) 1 8 Tryz.underlying193 hii hi0 hi1 hi2 rfl (by decide) _ 0 [] rfl (zg ho0) _ 0 [] rfl ((zg hsrc0) _ _ _) (by unfold maxLen; omega) (by omega) (by simp) ?_))
      intro v5 w5 o5 G5 _
      have HO5 := zi o5
      have HG5 := zi (((Ext.refl V6).alloc _).grown G5 (fun q hq => (by simp [Value.ownBlock] at hq; omega)))
      have hs5 := (zg HG5).size
      clear o5 G5
      go_wp2_with (at_builtin; go_must (refine zao rfl _ _ 193 rfl V6.heap.size 3 ii (.int .i64 0) 1 8 Tryz.underlying193 hii hi0 hi1 hi2 rfl (by decide) _ _ _ rfl ((zg HO5).alloc _) _ 1 [.int .i64 (D.length : Int)] rfl (Src.made _ _ _ rfl (by simp [Value.oneCell'])) (by unfold maxLen; omega) (by omega) (by simp; omega) ?_))
      intro v6' w6' o6' G6' _
      have HO6 := zi o6'
      have HG6 := zi (((zg HG5).alloc _).grown G6' (fun q hq => ((zg HO5).lt q hq).1))
      clear o6' G6'
      go_wp2
      go_meet
      exact zjE (S := [x]) (by simpa using zg HO6) (Nat.le_refl _) (zg HG6)
    · have hq1' : ¬ 1 = q := fun e => hq1 e.symm
      go_wp2_with (at_builtin; go_must (refine zao rfl _ _ 193 rfl V6.heap.size 3 ii (.int .i64 0) 1 8 Tryz.underlying193 hii hi0 hi1 hi2 rfl (by decide) _ 0 [] rfl (zg ho0) _ (S2.length - 1) ((S2.drop 1).map (Value.int .i64)) rfl ((zg hsrc) _ _ _ (EV6.alloc _) (.inl rfl)) (by unfold maxLen; omega) (by omega) (by simp) ?_))
      intro v5 w5 o5 G5 _
      have HO5 := zi o5
      have HG5 := zi (((Ext.refl V6).alloc _).grown G5 (fun q hq => (by simp [Value.ownBlock] at hq; omega)))
      have hs5 := (zg HG5).size
      clear o5 G5
      go_wp2_with (at_builtin; go_must (refine zao rfl _ _ 193 rfl V6.heap.size 3 ii (.int .i64 0) 1 8 Tryz.underlying193 hii hi0 hi1 hi2 rfl (by decide) _ _ _ rfl ((zg HO5).alloc _) _ 1 [.int .i64 (D.length : Int)] rfl (Src.made _ _ _ rfl (by simp [Value.oneCell'])) (by unfold maxLen; omega) (by omega) (by simp; omega) ?_))
      intro v6' w6' o6' G6' _
      have HO6 := zi o6'
      have HG6 := zi (((zg HG5).alloc _).grown G6' (fun q hq => ((zg HO5).lt q hq).1))
      clear o6' G6'
      go_wp2
      go_meet
      exact zjE (zg HO6) hl21 (zg HG6)
  case rest =>
  obtain ⟨ge, qe, rfl, hge1, hge2, HEN, FE⟩ := hcut
  obtain ⟨n, hn⟩ : ∃ n : Nat, n = min (f + rn) S2.length - f := ⟨_, rfl⟩
  have hn1 : f + n ≤ S2.length := by omega
  have hn2 : n ≤ rn := by omega
  have HN := zi hn
  clear hn
  obtain ⟨ic2, hic2, hd0, hd1, hd2⟩ := info_parts zdn
  have HLB : Hid (zjS wc wS wS.heap.size ge S2.length S2 D.length (.slice (some ⟨wS.heap.size, 0, none⟩) 0 0) 0 (fun i => zv (zac (zdm D cn C1.length (f + i)))) ((r2 : Int) - (f : Int)) c2) := by
    have hzv := zg HZV
    refine zi ⟨FE.kept (zg HBW), FE.owns (zg HBV), by simp [Value.ownBlock], by simp [Value.ownBlock]; omega, hge2, by omega, zg HEN, EV6.trans FE⟩
  have HST2 : Hid (∀ i, i < S2.length → 0 ≤ at0 S2 i ∧ at0 S2 i ≤ at0 (S2 ++ [(D.length : Int)]) (i + 1) ∧ at0 (S2 ++ [(D.length : Int)]) (i + 1) ≤ (D.length : Int)) := by
    refine zi ?_
    rw [zg HS2]
    exact fun i hi => zna hi
  have HCLS := zi ((zg O6).cls.ext (zg EQS))
  have HLC2 : Hid (∀ i, zdm D cn C1.length i = (D.take (at0 (S2 ++ [(D.length : Int)]) (i + 1)).toNat).drop (at0 (S2 ++ [(D.length : Int)]) i).toNat) := zi (fun i => by rw [zg HS2]; rfl)
  have EQX : Ext W0 wS := (zg HE6).trans (zg EQS)
  clear hsrc HBV HBW HEN FE hge1
  go_upto_block 0 with fail
  go_cut [17] (fun _ wq => ∃ rv : Value, Hid (zjS wq wS wS.heap.size ge S2.length S2 D.length rv n (fun i => zv (zac (zdm D cn C1.length (f + i)))) ((r2 : Int) - (f : Int)) c2))
  case first =>
    go_wp2
    go_loopw [17] (fun iv wr => ∃ (m k : Nat) (rv : Value), m = f + k ∧ k ≤ n ∧ iv = .int .i64 (m : Int) ∧ Hid (zjS wr wS wS.heap.size ge S2.length S2 D.length rv k (fun i => zv (zac (zdm D cn C1.length (f + i)))) ((r2 : Int) - (f : Int)) c2)) (fun iv _ => (f + n) - (intOf iv).toNat)
    case atStart => exact ⟨f, 0, _, rfl, Nat.zero_le _, rfl, HLB⟩
    case round =>
      clear HLB
      obtain ⟨m, k, rv, hmk, hk, rfl, HB⟩ := hrel
      have HM := zi hmk
      have hbx := (zg HB).box
      obtain ⟨va, vc, rfl⟩ := zaE (zg HB).own
      have y0 := zk hbx 0 _ rfl
      by_cases hlt : k < n
      · have hkS : m < S2.length := by omega
        have g1 := (zg HB).ext.cell (a := ⟨g, m, none⟩) (v := .int .i64 (at0 S2 m)) (by rw [(zg HOS).cellAt m (by omega), List.getElem?_map, zb1 hkS]; rfl)
        have g2 := (zg HB).ends m hkS
        obtain ⟨t0, t1, t2⟩ := (zg HST2) m hkS
        obtain ⟨sk, hsk⟩ : ∃ sk : Nat, at0 S2 m = (sk : Int) := ⟨(at0 S2 m).toNat, by omega⟩
        obtain ⟨ek, hek⟩ : ∃ ek : Nat, at0 (S2 ++ [(D.length : Int)]) (m + 1) = (ek : Int) := ⟨(at0 (S2 ++ [(D.length : Int)]) (m + 1)).toNat, by omega⟩
        have hly : Hid (zdm D cn C1.length (f + k) = (D.take ek).drop sk) := zi (by
          rw [← hmk, zg HLC2, hek, zaw, if_neg (by omega), hsk]
          rfl)
        rw [hsk] at g1 t0 t1
        rw [hek] at g2 t1 t2
        have hse : sk ≤ ek := by omega
        have hen : ek ≤ D.length := by omega
        have hDc1 := (zg hDc).1
        obtain ⟨tk, htk⟩ : ∃ tk, tk = zv (zac (zdm D cn C1.length (f + k))) := ⟨_, rfl⟩
        have HTK := zi htk
        have hct : Hid (∀ (W : World) (a' : Option Addr) (Z : Nat), Ext wr W → (a' = a6.map (fun x => x.add (sk * 2)) ∨ ek - sk = 0) → ek - sk ≤ Z → Calls Tryz.prog 114 #[.slice a' (ek - sk) Z] W fun e w' => e = .returned (.string tk) ∧ Ext wr w') := by
          refine zi (fun W a' Z hW h1 h2 => ?_)
          rw [htk, zg hly]
          have hp := (zg HCU).part sk ek
          refine (zch _ _ W (((zg HCLS).ext ((zg HB).ext.trans hW)).cut sk ek Z hse hen h2 a' h1) (Nat.le_trans hp.1 (by omega)) (fun j _ => hp.2 j)).mono ?_
          rintro e w' ⟨rfl, F⟩
          exact ⟨rfl, hW.trans F⟩
        have bI1 : (m : Int) < (S2.length : Int) := by omega
        have bI2 : (m : Int) < (f : Int) + (rn : Int) := by omega
        have hszr : wS.heap.size + 1 < wr.heap.size := zt hbx
        have seI : (sk : Int) ≤ (ek : Int) := by omega
        have ecI : (ek : Int) ≤ (c6 : Int) := by omega
        have hown : Hid (wr.ownsRow wS.heap.size 9 1 (.slice va k vc) k (zcw (fun i => zv (zac (zdm D cn C1.length (f + i)))) k)) := zi (zg HB).own
        have hkb : k ≤ 100 := by omega
        obtain ⟨xs, hxs⟩ : ∃ xs, xs = zcw (fun i => zv (zac (zdm D cn C1.length (f + i)))) k := ⟨_, rfl⟩
        rw [← hxs] at hown
        have HXS := zi hxs
        clear t0 t1 t2 hsk hek htk hxs hbx hmk
        by_cases hsc : sk = c6
        · subst hsc
          have hz9 : ek - sk = 0 := by omega
          have HZ9 := zi hz9
          clear hz9
          go_wp2
          go_region_law (first
            | (refine step_append_lies _ (by rfl) _ _ _ (by rfl) wS.heap.size 9 ic2 _ 1 16 Tryz.underlying28 hic2 hd0 hd1 hd2 rfl (by omega) (.slice va k vc) k xs (by rfl) (by first | exact (E'.owns (zg hown)).alloc _ | exact ((E'.owns (zg hown)).alloc _).drew | exact (E'.owns (zg hown)).drew.alloc _ | exact ((E'.owns (zg hown)).drew.alloc _).drew)
                ⟨w'.heap.size, 0, none⟩ 1 1 [.string tk] (by rfl) (by rfl) (World.news_of_block (cs := #[.string tk]) (t := 9) (fr := (0, 0)) (heap_alloc_new w' _)) (by simp [Value.oneCell'])
                (by omega) (by unfold maxLen; omega) (by omega) (by simp; omega) (w'.heap.size + 1) (by simp) ?_
               intro gg cap w3 hown3 hgrow hat hlt3
               rw [zg HXS, zg HTK] at hown3
               have M := zjS.more (T := fun i => zv (zac (zdm D cn C1.length (f + i)))) (zg HB) rfl E' (by first | exact (Ext.refl w').alloc _ | exact ((Ext.refl w').alloc _).drew | exact (Ext.refl w').drew.alloc _ | exact ((Ext.refl w').drew.alloc _).drew) hgrow hown3 hat (by have := E'.size; omega)
               have c3 := zk M.2 0 _ rfl
               have f3 : ∀ i, w3.frozen? ⟨wS.heap.size + 1, i, none⟩ = false := fun i => Lib.frozen_of_heap M.2 i
               have HNEW := zi M.1
               clear hown3 hgrow M)
            | (go_simp; go_at_call 114; refine ((zg hct) wr.drew _ _ (Ext.refl _).drew (.inr (zg HZ9)) (by omega)).mono ?_; rintro e w' ⟨rfl, E'⟩; have hsz' := E'.size; have y0' := E'.cell y0; have y0n : ∀ o, (w'.alloc o).cell? ⟨wS.heap.size + 1, 0, none⟩ = some (.slice va k vc) := fun o => ((Ext.refl w').alloc o).cell y0'))
          all_goals
            go_wp2
            go_roundw
            case rel => exact ⟨m + 1, k + 1, _, by have := zg HM; omega, by omega, by go_num, HNEW⟩
            case measure => have := zg HM; simp [intOf]; omega
        · have hsc' : ¬ c6 = sk := fun e => hsc e.symm
          go_wp2
          go_region_law (first
            | (refine step_append_lies _ (by rfl) _ _ _ (by rfl) wS.heap.size 9 ic2 _ 1 16 Tryz.underlying28 hic2 hd0 hd1 hd2 rfl (by omega) (.slice va k vc) k xs (by rfl) (by first | exact (E'.owns (zg hown)).alloc _ | exact ((E'.owns (zg hown)).alloc _).drew | exact (E'.owns (zg hown)).drew.alloc _ | exact ((E'.owns (zg hown)).drew.alloc _).drew)
                ⟨w'.heap.size, 0, none⟩ 1 1 [.string tk] (by rfl) (by rfl) (World.news_of_block (cs := #[.string tk]) (t := 9) (fr := (0, 0)) (heap_alloc_new w' _)) (by simp [Value.oneCell'])
                (by omega) (by unfold maxLen; omega) (by omega) (by simp; omega) (w'.heap.size + 1) (by simp) ?_
               intro gg cap w3 hown3 hgrow hat hlt3
               rw [zg HXS, zg HTK] at hown3
               have M := zjS.more (T := fun i => zv (zac (zdm D cn C1.length (f + i)))) (zg HB) rfl E' (by first | exact (Ext.refl w').alloc _ | exact ((Ext.refl w').alloc _).drew | exact (Ext.refl w').drew.alloc _ | exact ((Ext.refl w').drew.alloc _).drew) hgrow hown3 hat (by have := E'.size; omega)
               have c3 := zk M.2 0 _ rfl
               have f3 : ∀ i, w3.frozen? ⟨wS.heap.size + 1, i, none⟩ = false := fun i => Lib.frozen_of_heap M.2 i
               have HNEW := zi M.1
               clear hown3 hgrow M)
            | (go_simp; go_at_call 114; refine ((zg hct) wr.drew _ _ (Ext.refl _).drew (.inl rfl) (by omega)).mono ?_; rintro e w' ⟨rfl, E'⟩; have hsz' := E'.size; have y0' := E'.cell y0; have y0n : ∀ o, (w'.alloc o).cell? ⟨wS.heap.size + 1, 0, none⟩ = some (.slice va k vc) := fun o => ((Ext.refl w').alloc o).cell y0'))
          all_goals
            go_wp2
            go_roundw
            case rel => exact ⟨m + 1, k + 1, _, by have := zg HM; omega, by omega, by go_num, HNEW⟩
            case measure => have := zg HM; simp [intOf]; omega
      · obtain rfl : k = n := by omega
        clear HST2 HCLS HLC2 hbx
        by_cases hb1 : m < S2.length
        · have hI1 : (m : Int) < (S2.length : Int) := by omega
          have hI2 : ¬ (m : Int) < (f : Int) + (rn : Int) := by have := zg HN; omega
          go_wp2
          go_meet
          exact ⟨_, HB⟩
        · have hI1 : ¬ (m : Int) < (S2.length : Int) := by omega
          go_wp2
          go_meet
          exact ⟨_, HB⟩
  case rest =>
  obtain ⟨rv, HB⟩ := hcut
  have hbx := (zg HB).box
  obtain ⟨va, vc, rfl⟩ := zaE (zg HB).own
  have y0 := zk hbx 0 _ rfl
  have y1 := zk hbx 1 _ rfl
  have y2 := zk hbx 2 _ rfl
  have hT := (EQX).trans (zg HB).ext
  have hb9 := hT.kept (zg HB0)
  have b0 := zk hb9 0 _ rfl
  have b1 := zk hb9 1 _ rfl
  have b2 := zk hb9 2 _ rfl
  have f1 : ∀ i, wc.frozen? ⟨w.heap.size + 1, i, none⟩ = false := fun i => Lib.frozen_of_heap hb9 i
  have hfin : Hid (zb6 D cn C1.length rn = f ∧ zcg D cn C1.length rn = n ∧ zbA D cn C1.length = r2 ∧ zbR D cn C1.length = c2) := by
    have e1 : zb6 D cn C1.length rn = f := by unfold zb6; rw [← zg HR2, zg HF]
    refine zi ⟨e1, ?_, (zg HR2).symm, (zg HC2).symm⟩
    unfold zcg
    rw [e1, ← zg HS2, zg HN]
  have hsS := (zg EQS).size
  have hend : ∀ U : World, U = ((wc.setCell ⟨w.heap.size + 1, 0, none⟩ (.slice va n vc)).setCell ⟨w.heap.size + 1, 1, none⟩ (.int .i64 ((r2 : Int) - (f : Int)))).setCell ⟨w.heap.size + 1, 2, none⟩ (.int .i64 c2) → zaD U w.heap.size 9 (.slice va n vc) (zcg D0 cn p0 rn) (fun i => .string (zgb D0 cn p0 rn i)) ∧ Ext w U := by
    rintro U rfl
    obtain ⟨q1, q2, q3, q4⟩ := zg hfin
    have fr : Fr (fun q => q = w.heap.size + 1) wc (((wc.setCell ⟨w.heap.size + 1, 0, none⟩ (.slice va n vc)).setCell ⟨w.heap.size + 1, 1, none⟩ (.int .i64 ((r2 : Int) - (f : Int)))).setCell ⟨w.heap.size + 1, 2, none⟩ (.int .i64 c2)) := by
      repeat' first | refine Fr.setCell (S := fun q => q = w.heap.size + 1) ?_ (a := ⟨w.heap.size + 1, _, none⟩) rfl _ | exact Fr.refl _ _
    refine ⟨?_, fr.ext (E0.trans hT) (fun k hk => by omega)⟩
    rw [zg HD0, zg HP0, q2]
    have hcg : zaD wc wS.heap.size 9 (.slice va n vc) n (fun i => .string (zgb D cn C1.length rn i)) := by
      unfold zgb
      rw [q1]
      exact zcu (zg HB).own
    exact (hcg.fr fr (fun g hg e => by have := hcg.lt g hg; omega)).mono (by omega)
  have HEND := zi hend
  clear hend hb9 hbx HLB HST2 HCLS HLC2
  iterate 13 go_step
  show bodyPost Tryz.prog Tryz.f116 _ Exit.ret _ _
  refine bodyPost_ret (v := .agg #[.slice va n vc, .int .i64 ((r2 : Int) - (f : Int)), .int .i64 c2]) (by simp [results, Tryz.results116, go_sem, b0, b1, b2]) rfl ⟨_, ?_, (zg HEND) _ rfl⟩
  obtain ⟨q1, q2, q3, q4⟩ := zg hfin
  rw [zg HD0, zg HP0, q1, q3, q4]
end Go.Proofs.YtmlkpdbfnffoaaaGreatDoor
