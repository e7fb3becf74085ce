import Derived.Test.YtinfdhbnljnifaaGreatDoorKmU
import Derived.Deep.DeepCutAuto
import Derived.Deep.RegionLaw
import Derived.Deep.CutBlock
namespace Go.Proofs.YtinfdhbnljnifaaGreatDoor
open Go.RowKit
theorem zoT : (Tryz.prog.info? 3).map (fun i => (i.zero, i.size, i.bytes)) = some (some (.int .i64 0), 1, 8) := by kernel_rfl
theorem zki {w V : World} {v : Value} {S : List Int} {n : Nat} (h : w.ownsRow V.heap.size 3 1 v S.length ((S.map (Value.int .i64)).tail ++ [.int .i64 (n : Int)])) (h1 : 1 ≤ S.length) (he : Ext V w) :
  ∃ ge qe, v = .slice (some ⟨ge, 0, none⟩) S.length qe ∧ V.heap.size ≤ ge ∧ ge < w.heap.size ∧ Hid (∀ j, j < S.length → w.cell? ⟨ge, j, none⟩ = some (.int .i64 (at0 (S ++ [(n : Int)]) (j + 1)))) ∧ Ext V w := by
 rcases h.2 with ⟨_, h0⟩ | ⟨g, cap, cur, rfl, _⟩
 ·omega
 refine ⟨g, cap, rfl, (h.lt g rfl).1, (h.lt g rfl).2, zh (fun j hj => ?_), he⟩
 rw [h.cellAt j (by omega)]
 by_cases hl : j + 1 < S.length
 ·rw [List.getElem?_append_left (by simp; omega), List.getElem?_tail, List.getElem?_map, zaX, if_neg (by omega), zfN hl]
  rfl
 ·rw [List.getElem?_append_right (by simp; omega), zaX, if_pos (by omega)]
  have : j - ((S.map (Value.int .i64)).tail).length = 0 := by simp; omega
  rw [this]
  rfl
set_option maxRecDepth 10000 in
set_option maxHeartbeats 4000000 in
theorem zgu (P A B : List Int) (c : ByteArray) (ua : Option Addr) (un uc : Nat) (cols rows : Nat) (w : World) (hs : zbN cols rows = true) (hP : zv P) (hA : zv A) (hB : zv B) (lP : P.length ≤ 1048576) (lA : A.length ≤ 1048576) (lB : B.length ≤ 1048576) :
    Calls Tryz.prog 76 #[.string (zo P), .agg (zeP (zo A) (zo B) c ua un uc), .int .i64 cols, .int .i64 rows] w fun e w' => ∃ v, e = .returned (.agg #[v, .int .i64 ((zcN (zn P ++ zn A ++ zn B) cols ((zn P).length + (zn A).length) : Int) - (zcB (zn P ++ zn A ++ zn B) cols ((zn P).length + (zn A).length) rows : Int)), .int .i64 (zdG (zn P ++ zn A ++ zn B) cols ((zn P).length + (zn A).length))]) ∧ za4 w' w.heap.size 9 v (zc7 (zn P ++ zn A ++ zn B) cols ((zn P).length + (zn A).length) rows) (fun i => .string (layT (zn P ++ zn A ++ zn B) cols ((zn P).length + (zn A).length) rows i)) ∧ Ext w w' := by
  obtain ⟨ic, hic, hc0, hc1, hc2⟩ := info_parts infoClL
  have hcP := zh (fun U => zan P hP U (by omega))
  have hcA := zh (fun U => zan A hA U (by omega))
  have hcB := zh (fun U => zan B hB U (by omega))
  have kP := zau P
  have kA := zau A
  have kB := zau B
  obtain ⟨D0, hD0⟩ : ∃ D0, D0 = zn P ++ zn A ++ zn B := ⟨_, rfl⟩
  obtain ⟨p0, hp0⟩ : ∃ p0, p0 = (zn P).length + (zn A).length := ⟨_, rfl⟩
  rw [← hD0, ← hp0]
  have HD0 := zh hD0
  have HP0 := zh hp0
  clear hD0 hp0
  go_enter Tryz.func76, Tryz.ntmps76
  go_wp2_with fail
  refine (zjh _ _ _).mono ?_
  rw [hs]
  rintro e w1 ⟨rfl, rfl⟩
  obtain ⟨cn, rn, ec, er, n2, n200, r1, r100⟩ := zds hs
  obtain rfl : cn = cols := by omega
  obtain rfl : rn = rows := by omega
  clear ec er
  have hb0 := zk (w.alloc (.cells (zeP (zo A) (zo B) c ua un uc) 99)) (.cells zkK 46)
  have hbl := ((Ext.refl _).alloc (.cells zkK 46)).kept (zk w (.cells (zeP (zo A) (zo B) c ua un uc) 99))
  have E0 := ((Ext.refl w).alloc (.cells (zeP (zo A) (zo B) c ua un uc) 99)).alloc (.cells zkK 46)
  have hz0 : ((w.alloc (.cells (zeP (zo A) (zo B) c ua un uc) 99)).alloc (.cells zkK 46)).heap.size = w.heap.size + 2 := by simp
  obtain ⟨W0, hW0⟩ : ∃ W0, W0 = (w.alloc (.cells (zeP (zo A) (zo B) c ua un uc) 99)).alloc (.cells zkK 46) := ⟨_, rfl⟩
  rw [← hW0] at hb0 hbl E0 hz0
  have hz : (w.alloc (.cells (zeP (zo A) (zo B) c ua un uc) 99)).heap.size = w.heap.size + 1 := by simp
  rw [hz] at hb0
  have q0 := zg hbl 0 _ rfl
  have HW := zh hW0
  have HB0 := zh hb0
  have HBL := zh hbl
  clear hW0 hz hb0 hbl
  go_wp2
  rw [← zu HW]
  clear HW
  have tokA : True := trivial
  go_region_held_law (fun W => W.cell? ⟨w.heap.size, 0, none⟩ = some (.string (zo A))) (first | exact q0 | exact d0 | exact f0 | exact k0)
    (first
      | (go_at_call 137; have _t := tokA; refine ((zu hcP) _).mono ?_; rintro e w2 ⟨v2, rs2, rfl, o2, F2⟩; have E2 := (Ext.refl W0).drew.trans F2; have d0 := E2.cell q0; have O2 := zh o2; have HE2 := zh E2; clear tokA o2 F2 E2)
      | (go_at_call 137; refine ((zu hcA) _).mono ?_; rintro e w3 ⟨v3, rs3, rfl, o3, F3⟩; have E3 := (zu HE2).trans F3; have f0 := E3.cell q0; obtain ⟨ys3, oy3, ky3, src3⟩ := o3.ys; obtain ⟨ys2, oy2, ky2, _⟩ := ((zu O2).ext F3).ys; have O3 := zh o3; have O23 := zh ((zu O2).ext F3); have LT2 := zh (fun g (hg : zdl v2 rs2 (zn P).length g) => ((zu O2).lt hg)); have HE3 := zh E3; have HF3 := zh F3; have OY2 := zh oy2; have KY2 := zh ky2; have KY3 := zh ky3; have SR3 := zh src3; have hsz3 := E3.size; clear o3 E3 F3 oy3 ky3 src3 oy2 ky2)
      | (refine zjC (by rfl) _ _ 157 (by rfl) W0.heap.size 205 ic (.agg #[.slice none 0 0, .int .i64 0]) 2 32 Tryz.underlying157 hic hc0 hc1 hc2 rfl (by decide) _ _ ys2 (by rfl) (zu OY2) _ _ ys3 (by rfl) (zu SR3) (by unfold maxLen; omega) (by omega) (by omega) ?_; intro v4 w4 o4 G4 _; have E4 := (zu HE3).grown G4 (fun q hq => ((zu OY2).lt q hq).1); have k0 := E4.cell q0; have O4 := zh (zal.append (zu O23) (zu O3) (by have := (zu HE2).size; exact this) (fun g hg => ((zu LT2) g hg).2) (zu OY2) (zu KY2) (zu KY3) o4 G4); obtain ⟨a4, c4, e4⟩ := zdH o4; subst e4; have HE4 := zh E4; clear o4 G4 E4))
  have HCU := zh (((zaE P).app (zaE A)).app (zaE B))
  rw [← List.length_append] at O4 HP0 ⊢
  have kC : (zn P ++ zn A).length = (zn P).length + (zn A).length := List.length_append
  have hq1 := zg ((zu HE4).kept (zu HBL)) 1 _ rfl
  have hs4 := (zu HE4).size
  generalize zn P ++ zn A = C1 at *
  have kCB : (C1 ++ zn B).length = C1.length + (zn B).length := List.length_append
  generalize hD : C1 ++ zn B = D at *
  have HD := zh hD
  have kD1 : C1.length ≤ D.length := by omega
  have kD2 : D.length ≤ 3145728 := by omega
  have kD3 : C1.length + (zn B).length ≤ 3145728 := by omega
  have KCB := zh kCB
  clear hD kCB kC
  go_wp2_with (first
    | (go_at_call 137; refine ((zu hcB) _).mono ?_; rintro e w5 ⟨v5, rs5, rfl, o5, F5⟩; have E5 := (zu HE4).trans F5; obtain ⟨ys5, oy5, ky5, src5⟩ := o5.ys; obtain ⟨ys4, oy4, ky4, _⟩ := ((zu O4).ext F5).ys; have O5 := zh o5; have O45 := zh ((zu O4).ext F5); have LT4 := zh (fun g hg => ((zu O4).lt (g := g) hg)); have HE5 := zh E5; have OY4 := zh oy4; have KY4 := zh ky4; have KY5 := zh ky5; have SR5 := zh src5; have hsz5 := E5.size; clear o5 E5 F5 oy5 ky5 src5 oy4 ky4)
    | (at_builtin; go_must (refine zd rfl _ _ 157 rfl W0.heap.size 205 ic (.agg #[.slice none 0 0, .int .i64 0]) 2 32 Tryz.underlying157 hic hc0 hc1 hc2 rfl (by decide) _ _ ys4 rfl (zu OY4) _ _ ys5 rfl (zu SR5) (by unfold maxLen; omega) (by omega) (by omega) ?_); intro v6 w6 o6 G6 _; have E6 := (zu HE5).grown G6 (fun q hq => ((zu OY4).lt q hq).1); have O6 := zh (zal.append (zu O45) (zu O5) hs4 (fun g hg => ((zu LT4) g hg).2) (zu OY4) (zu KY4) (zu KY5) o6 G6); rw [← zu KCB] at o6; obtain ⟨a6, c6, e6⟩ := zdH o6; subst e6; have hDc : Hid (D.length ≤ c6 ∧ (0 < D.length → ∃ g, a6 = some ⟨g, 0, none⟩)) := (by rcases o6.2 with ⟨e, h0⟩ | ⟨g, cap, cur, e, _, _, hn, _⟩ <;> simp only [Value.slice.injEq] at e <;> obtain ⟨rfl, _, rfl⟩ := e; exact ⟨by omega, fun h => by omega⟩; exact ⟨hn, fun _ => ⟨g, rfl⟩⟩); have HE6 := zh E6; have hsz6 := E6.size; clear o6 G6 E6))
  rw [zu HD] at O6
  have hst := zi8 (.slice a6 D.length c6) D cn w6 (zu O6).cls (by omega)
  have HST := zh hst
  clear hst
  refine (zu HST).mono ?_
  rintro e w7 ⟨v7, rfl, o7, F7⟩
  replace o7 : w7.ownsRow w6.heap.size 3 1 v7 (stS D cn).length ((stS D cn).map (Value.int .i64)) := o7
  have hm1 : 1 ≤ (stS D cn).length := (zcP D cn D.length).one
  have hm2 : (stS D cn).length ≤ D.length + 1 := (zcP D cn D.length).len
  obtain ⟨g7, c7, rfl, hRc⟩ : ∃ g c, v7 = .slice (some ⟨g, 0, none⟩) (stS D cn).length c ∧ (stS D cn).length ≤ c := by
    rcases o7.2 with ⟨_, h0⟩ | ⟨g, cap, cur, hv, _, _, hn, _⟩
    · omega
    · exact ⟨g, cap, hv, hn⟩
  have hI7 := zz o7
  have hcR := zh (znk _ (stS D cn) C1.length w7 hI7 (by omega))
  have hat7 : Hid (∀ j, j < (stS D cn).length → w7.cell? ⟨g7, j, none⟩ = some (.int .i64 (at0 (stS D cn) j))) := zh (fun j hj => by rw [o7.cellAt j (by omega), List.getElem?_map, zfN hj]; rfl)
  have O7 := zh o7
  have HE7 := Hid.ht HE6 F7
  have hs7 := F7.size
  have hr0 := zdA (cs := D) (cols := cn) (p := C1.length)
  have hle0 := zeH (cs := D) (cols := cn) (p := C1.length)
  have hnn0 := zbu hr0
  have hcol0 := zh (zhi (p := C1.length) (zu HCU).wide n2 (by omega))
  obtain ⟨s0, hs0⟩ : ∃ s0 : Nat, at0 (stS D cn) (zaU D cn C1.length) = (s0 : Int) := ⟨(at0 (stS D cn) (zaU D cn C1.length)).toNat, by omega⟩
  have hx0 := (zu hat7) _ hr0
  rw [hs0] at hx0 hle0 hnn0
  have hlc0 : Hid (zbX D cn C1.length = pw D C1.length - pw D s0) := zh (by unfold zbX; rw [hs0]; rfl)
  have hrw : rwF (stS D cn) C1.length (stS D cn).length = zaU D cn C1.length := rfl
  rw [hrw] at hcR
  generalize hro : zaU D cn C1.length = r0 at *
  clear o7 hI7 hrw hs0 O4 O45 O5 SR5 KY5 KY4 OY4 LT4 O2 O3 O23 OY2 KY2 KY3 SR3 LT2 HF3 HE2 HE3 HE4 HE5 hq1 hcP hcA hcB HST
  have hsp : (s0 : Int) ≤ (C1.length : Int) := hle0
  have hpc : (C1.length : Int) ≤ (c6 : Int) := by have := (zu hDc).1; omega
  go_wp2_with fail
  refine (zu hcR).mono ?_
  rintro e w8 ⟨rfl, rfl⟩
  have HCW : Hid (∀ (a' : Option Addr) (Z : Nat), (a' = a6.map (fun x => x.add (s0 * 2)) ∨ C1.length - s0 = 0) → C1.length - s0 ≤ Z → Calls Tryz.prog 146 #[.slice a' (C1.length - s0) Z] w8 fun e w' => e = .returned (.int .i64 (zbX D cn C1.length)) ∧ Ext w8 w') := by
    refine zh (fun a' Z h1 h2 => ?_)
    have hh := zkH _ _ w8 (((zu O6).cls.ext F7).cut s0 C1.length Z (by omega) kD1 h2 a' h1) (by simp; omega) (znK (zu HCU).wide s0 C1.length)
    rw [zjF D s0 C1.length (by omega) kD1, ← zu hlc0] at hh
    exact hh
  obtain ⟨hcl0, hcl1⟩ := zu hcol0
  have hfull := zh (zjU (p := C1.length) (zu HCU).wide n2 kD1)
  generalize hco : zbX D cn C1.length = c0 at *
  generalize hRR : (stS D cn).length = R at *
  have HRO := zh hro
  have HCO := zh hco
  have HRR := zh hRR
  clear hro hco hRR
  go_upto_region 8 with fail
  go_cut [13] (fun co wc => co = .int .i64 c0 ∧ Ext w8 wc)
  case first =>
    by_cases hsc : s0 = c6
    · subst hsc
      go_wp2_with fail
      refine ((zu HCW) _ _ (.inr (by have := (zu hDc).1; omega)) (by omega)).mono ?_
      rintro e w9 ⟨rfl, F9⟩
      go_wp2
      go_meet
      exact ⟨rfl, F9⟩
    · have hsc' : ¬ c6 = s0 := fun e => hsc e.symm
      go_wp2_with fail
      refine ((zu HCW) _ _ (.inl rfl) (by omega)).mono ?_
      rintro e w9 ⟨rfl, F9⟩
      go_wp2
      go_meet
      exact ⟨rfl, F9⟩
  case rest =>
  obtain ⟨rfl, F9⟩ := hcut
  have HE9 := zh (F7.trans F9)
  have O9 := zh (F9.owns (zu O7))
  have hs9 := F9.size
  obtain ⟨ii, hii, hi0, hi1, hi2⟩ := info_parts zoT
  obtain ⟨S2, hS2⟩ : ∃ S2, S2 = zbk D cn C1.length := ⟨_, rfl⟩
  obtain ⟨r2, hr2⟩ : ∃ r2, r2 = zcN D cn C1.length := ⟨_, rfl⟩
  obtain ⟨c2, hc2'⟩ : ∃ c2, c2 = zdG D cn C1.length := ⟨_, rfl⟩
  have HS2 := zh hS2
  have HR2 := zh hr2
  have HC2 := zh hc2'
  clear hS2 hr2 hc2' hx0
  go_upto_region 9 with fail
  go_cut [58] (fun b wq => b = .bool (decide (c0 = cn)) ∧ wq = wc)
  case first =>
    by_cases hfu : c0 = cn
    · have hpb : ((C1.length : Int) == (D.length : Int)) = true := by have := ((zu hfull).2 hfu).1; simp; omega
      subst hfu
      go_wp2
      go_meet
      exact ⟨by simp, rfl⟩
    · by_cases hpn : (C1.length : Int) = (D.length : Int)
      · have hpb : ((C1.length : Int) == (D.length : Int)) = true := by simpa using hpn
        clear hpn
        go_wp2
        go_meet
        exact ⟨by simp [hfu], rfl⟩
      · go_wp2
        go_meet
        exact ⟨by simp [hfu], rfl⟩
  case rest =>
  obtain ⟨rfl, rfl⟩ := hcut
  go_upto_if 58 with fail
  go_cut [11, 12, 13] (fun st ro co wq => ∃ g q, st = .slice (some ⟨g, 0, none⟩) S2.length q ∧ ro = .int .i64 (r2 : Int) ∧ co = .int .i64 c2 ∧ S2.length ≤ q ∧ Hid (wq.ownsRow w6.heap.size 3 1 (.slice (some ⟨g, 0, none⟩) S2.length q) S2.length (S2.map (Value.int .i64))) ∧ Ext w6 wq)
  case first =>
    by_cases hfu : c0 = cn
    · have hpn : C1.length = D.length := ((zu hfull).2 hfu).1
      have hL : zcX D cn C1.length := (zu hfull).2 hfu
      have e2 : Hid (S2 = stS D cn ++ [(C1.length : Int)]) := zh (by rw [zu HS2]; unfold zbk; rw [if_pos hL])
      have e3 : Hid (r2 = r0 + 1) := zh (by rw [zu HR2]; unfold zcN; rw [if_pos hL, zu HRO])
      have e4 : Hid (c2 = 0) := zh (by rw [zu HC2]; unfold zdG; rw [if_pos hL])
      subst hfu
      clear hpn
      go_wp2_with (at_builtin; go_must (refine zd rfl _ _ 164 rfl w6.heap.size 3 ii (.int .i64 0) 1 8 Tryz.underlying164 hii hi0 hi1 hi2 rfl (by decide) _ _ _ rfl ((zu O9).alloc _) _ 1 [.int .i64 (C1.length : Int)] rfl (Src.made _ _ _ rfl (by simp [Value.oneCell'])) (by unfold maxLen; omega) (by omega) (by simp; omega) ?_); intro v5 w5 o5 G5 _; have HO5 := zh o5; have HG5 := zh (((zu HE9).alloc _).grown G5 (fun q hq => ((zu O9).lt q hq).1)); clear o5 G5)
      go_meet
      have o5 := zu HO5
      have hl2 : S2.length = R + 1 := by rw [zu e2, List.length_append, zu HRR]; rfl
      obtain ⟨g, q, rfl, hq⟩ : ∃ g q, v5 = .slice (some ⟨g, 0, none⟩) (R + 1) q ∧ R + 1 ≤ q := by
        rcases o5.2 with ⟨_, h0⟩ | ⟨g, cap, cur, hv, _, _, hn, _⟩
        · omega
        · exact ⟨g, cap, hv, hn⟩
      refine ⟨g, q, by rw [hl2], by rw [zu e3]; go_num, by rw [zu e4], by omega, zh ?_, zu HG5⟩
      have e5 : S2.map (Value.int .i64) = (stS D cn).map (Value.int .i64) ++ [.int .i64 (C1.length : Int)] := by rw [zu e2, List.map_append]; rfl
      rw [hl2, e5]
      exact o5
    · have hL : ¬ zcX D cn C1.length := fun h => hfu ((zu hfull).1 h)
      have e2 : Hid (S2 = stS D cn) := zh (by rw [zu HS2]; unfold zbk; rw [if_neg hL])
      have e3 : Hid (r2 = r0) := zh (by rw [zu HR2]; unfold zcN; rw [if_neg hL, zu HRO])
      have e4 : Hid (c2 = c0) := zh (by rw [zu HC2]; unfold zdG; rw [if_neg hL, zu HCO])
      have hdb : decide (c0 = (cn : Int)) = false := by simp [hfu]
      go_wp2
      go_meet
      have hl2 : S2.length = R := by rw [zu e2, zu HRR]
      refine ⟨g7, c7, by rw [hl2], by rw [zu e3], by rw [zu e4], by omega, zh ?_, zu HE9⟩
      rw [hl2, zu e2]
      exact zu O9
  case rest =>
  obtain ⟨g, q, rfl, rfl, rfl, hq, HOS, EQ⟩ := hcut
  have EQS := zh EQ
  clear EQ
  have hl2 : 1 ≤ S2.length ∧ S2.length ≤ D.length + 2 ∧ r2 < S2.length := by
    rw [zu HS2, zu HR2]
    refine ⟨?_, zoE, zfx⟩
    have := zfx (cs := D) (cols := cn) (p := C1.length)
    omega
  obtain ⟨hl21, hl22, hr2l⟩ := hl2
  obtain ⟨f, hf⟩ : ∃ f : Nat, f = r2 + 1 - rn := ⟨_, rfl⟩
  have HF := zh hf
  clear hf HCW hcR
  go_upto_region 14 with fail
  go_cut [76] (fun b wq => b = .bool (decide ((r2 : Int) - (rn : Int) + 1 < 0 ∨ (S2.length : Int) ≤ (rn : Int))) ∧ wq = wc)
  case first =>
    by_cases h1 : (r2 : Int) - (rn : Int) + 1 < 0
    · go_wp2
      go_meet
      exact ⟨by simp [h1], rfl⟩
    · by_cases h2 : (S2.length : Int) ≤ (rn : Int)
      · go_wp2
        go_meet
        exact ⟨by simp [h2], rfl⟩
      · go_wp2
        go_meet
        exact ⟨congrArg Value.bool (decide_eq_false (by omega)).symm, rfl⟩
  case rest =>
  obtain ⟨rfl, rfl⟩ := hcut
  go_upto_if 76 with fail
  go_cut [14] (fun fv wq => fv = .int .i64 (f : Int) ∧ wq = wc)
  case first =>
    by_cases h1 : (r2 : Int) - (rn : Int) + 1 < 0 ∨ (S2.length : Int) ≤ (rn : Int)
    · have hd : decide ((r2 : Int) - (rn : Int) + 1 < 0 ∨ (S2.length : Int) ≤ (rn : Int)) = true := by simpa using h1
      rw [hd]
      have h9 := zh h1
      clear h1 hd
      go_wp2
      go_meet
      exact ⟨congrArg (Value.int .i64) (by have := zu HF; have := zu h9; omega), rfl⟩
    · have hd : decide ((r2 : Int) - (rn : Int) + 1 < 0 ∨ (S2.length : Int) ≤ (rn : Int)) = false := by simpa using h1
      rw [hd]
      have h9 := zh h1
      clear h1 hd
      go_wp2
      go_meet
      exact ⟨congrArg (Value.int .i64) (by have := zu HF; have := zu h9; omega), rfl⟩
  case rest =>
  obtain ⟨rfl, rfl⟩ := hcut
  have hfr2 : f ≤ r2 := by have := zu HF; omega
  have hsl := (zu EQS).size
  obtain ⟨V6, hV6⟩ : ∃ V6, V6 = (wc.alloc (.cells #[] 9)).alloc (.cells #[.slice (some ⟨wc.heap.size, 0, none⟩) 0 0, .int .i64 ((r2 : Int) - (f : Int)), .int .i64 c2] 46) := ⟨_, rfl⟩
  have HV6 := zh hV6
  have EV6 : Ext wc V6 := by rw [hV6]; exact ((Ext.refl _).alloc _).alloc _
  have hzV : V6.heap.size = wc.heap.size + 2 := by rw [hV6]; simp
  have HZV := zh hzV
  have hzV1 : wc.heap.size + 1 < V6.heap.size := by omega
  clear hV6 hzV
  have hsrc : Hid (∀ W Z X, Ext wc W → (X = 1 ∨ S2.length - 1 = 0) → Src W 1 (.slice (some ⟨g, X, none⟩) (S2.length - 1) Z) (S2.length - 1) ((S2.drop 1).map (Value.int .i64))) := by
    refine zh (fun W Z X hW hX => ⟨by simp, fun u hu => ?_, .inr ⟨_, Z, rfl, fun j u hj => ?_⟩⟩)
    · obtain ⟨x, _, rfl⟩ := List.mem_map.1 hu
      rfl
    · have hjl : j < S2.length - 1 := by have := (List.getElem?_eq_some_iff.1 hj).1; simpa using this
      rcases hX with rfl | hX
      · rw [Addr.add_lit, (hW.owns (zu HOS)).cellAt (1 + j) (by omega), ← hj]
        rw [List.getElem?_map, List.getElem?_map, List.getElem?_drop]
      · omega
  have HZW := zh (show wc.heap.size = wc.heap.size from rfl)
  have hbV := ((Ext.refl _).alloc (.cells #[.slice (some ⟨wc.heap.size, 0, none⟩) 0 0, .int .i64 ((r2 : Int) - (f : Int)), .int .i64 c2] 46)).owns (zaD wc 9 1)
  have hbW := zk (wc.alloc (.cells #[] 9)) (.cells #[.slice (some ⟨wc.heap.size, 0, none⟩) 0 0, .int .i64 ((r2 : Int) - (f : Int)), .int .i64 c2] 46)
  rw [← zu HV6] at hbV hbW
  rw [show (wc.alloc (.cells #[] 9)).heap.size = wc.heap.size + 1 by simp] at hbW
  have HBV := zh hbV
  have HBW := zh hbW
  clear hbV hbW
  obtain ⟨wS, hwS⟩ : ∃ wS, wS = wc := ⟨_, rfl⟩
  go_upto_region 17 with fail
  rw [← zu HV6]
  subst hwS
  go_cut [16] (fun ev wq => ∃ ge qe, ev = .slice (some ⟨ge, 0, none⟩) S2.length qe ∧ V6.heap.size ≤ ge ∧ ge < wq.heap.size ∧ Hid (∀ j, j < S2.length → wq.cell? ⟨ge, j, none⟩ = some (.int .i64 (at0 (S2 ++ [(D.length : Int)]) (j + 1)))) ∧ Ext V6 wq)
  case first =>
    have ho0 := zh (zaD V6 3 1)
    have tok1 : True := trivial
    by_cases hq1 : q = 1
    · subst hq1
      obtain ⟨x, hx⟩ : ∃ x, S2 = [x] := by
        cases S2 with
        | nil => simp at hl21
        | cons x r =>
          cases r with
          | nil => exact ⟨x, rfl⟩
          | cons y r => simp at hq
      subst hx
      have hsrc0 : Hid (∀ (W : World) (ad : Addr) (q : Nat), Src W 1 (.slice (some ad) 0 q) 0 []) := zh (fun W ad q => ⟨rfl, fun u hu => (by cases hu), .inr ⟨ad, q, rfl, fun j u hj => (by simp at hj)⟩⟩)
      clear hsrc
      go_wp2_with (at_builtin; go_must (refine zd rfl _ _ 164 rfl V6.heap.size 3 ii (.int .i64 0) 1 8 Tryz.underlying164 hii hi0 hi1 hi2 rfl (by decide) _ 0 [] rfl (zu ho0) _ 0 [] rfl ((zu hsrc0) _ _ _) (by unfold maxLen; omega) (by omega) (by simp) ?_))
      intro v5 w5 o5 G5 _
      have HO5 := zh o5
      have HG5 := zh (((Ext.refl V6).alloc _).grown G5 (fun q hq => (by simp [Value.ownBlock] at hq; omega)))
      have hs5 := (zu HG5).size
      clear o5 G5
      go_wp2_with (at_builtin; go_must (refine zd rfl _ _ 164 rfl V6.heap.size 3 ii (.int .i64 0) 1 8 Tryz.underlying164 hii hi0 hi1 hi2 rfl (by decide) _ _ _ rfl ((zu HO5).alloc _) _ 1 [.int .i64 (D.length : Int)] rfl (Src.made _ _ _ rfl (by simp [Value.oneCell'])) (by unfold maxLen; omega) (by omega) (by simp; omega) ?_))
      intro v6' w6' o6' G6' _
      have HO6 := zh o6'
      have HG6 := zh (((zu HG5).alloc _).grown G6' (fun q hq => ((zu HO5).lt q hq).1))
      clear o6' G6'
      go_wp2
      go_meet
      exact zki (S := [x]) (by simpa using zu HO6) (Nat.le_refl _) (zu HG6)
    · have hq1' : ¬ 1 = q := fun e => hq1 e.symm
      go_wp2_with (at_builtin; go_must (refine zd rfl _ _ 164 rfl V6.heap.size 3 ii (.int .i64 0) 1 8 Tryz.underlying164 hii hi0 hi1 hi2 rfl (by decide) _ 0 [] rfl (zu ho0) _ (S2.length - 1) ((S2.drop 1).map (Value.int .i64)) rfl ((zu hsrc) _ _ _ (EV6.alloc _) (.inl rfl)) (by unfold maxLen; omega) (by omega) (by simp) ?_))
      intro v5 w5 o5 G5 _
      have HO5 := zh o5
      have HG5 := zh (((Ext.refl V6).alloc _).grown G5 (fun q hq => (by simp [Value.ownBlock] at hq; omega)))
      have hs5 := (zu HG5).size
      clear o5 G5
      go_wp2_with (at_builtin; go_must (refine zd rfl _ _ 164 rfl V6.heap.size 3 ii (.int .i64 0) 1 8 Tryz.underlying164 hii hi0 hi1 hi2 rfl (by decide) _ _ _ rfl ((zu HO5).alloc _) _ 1 [.int .i64 (D.length : Int)] rfl (Src.made _ _ _ rfl (by simp [Value.oneCell'])) (by unfold maxLen; omega) (by omega) (by simp; omega) ?_))
      intro v6' w6' o6' G6' _
      have HO6 := zh o6'
      have HG6 := zh (((zu HG5).alloc _).grown G6' (fun q hq => ((zu HO5).lt q hq).1))
      clear o6' G6'
      go_wp2
      go_meet
      exact zki (zu HO6) hl21 (zu HG6)
  case rest =>
  obtain ⟨ge, qe, rfl, hge1, hge2, HEN, FE⟩ := hcut
  obtain ⟨n, hn⟩ : ∃ n : Nat, n = min (f + rn) S2.length - f := ⟨_, rfl⟩
  have hn1 : f + n ≤ S2.length := by omega
  have hn2 : n ≤ rn := by omega
  have HN := zh hn
  clear hn
  obtain ⟨ic2, hic2, hd0, hd1, hd2⟩ := info_parts zfa
  have HLB : Hid (zju wc wS wS.heap.size ge S2.length S2 D.length (.slice (some ⟨wS.heap.size, 0, none⟩) 0 0) 0 (fun i => zo (zy (zew D cn C1.length (f + i)))) ((r2 : Int) - (f : Int)) c2) := by
    have hzv := zu HZV
    refine zh ⟨FE.kept (zu HBW), FE.owns (zu HBV), by simp [Value.ownBlock], by simp [Value.ownBlock]; omega, hge2, by omega, zu HEN, EV6.trans FE⟩
  have HST2 : Hid (∀ i, i < S2.length → 0 ≤ at0 S2 i ∧ at0 S2 i ≤ at0 (S2 ++ [(D.length : Int)]) (i + 1) ∧ at0 (S2 ++ [(D.length : Int)]) (i + 1) ≤ (D.length : Int)) := by
    refine zh ?_
    rw [zu HS2]
    exact fun i hi => zok hi
  have HCLS := zh ((zu O6).cls.ext (zu EQS))
  have HLC2 : Hid (∀ i, zew D cn C1.length i = (D.take (at0 (S2 ++ [(D.length : Int)]) (i + 1)).toNat).drop (at0 (S2 ++ [(D.length : Int)]) i).toNat) := zh (fun i => by rw [zu HS2]; rfl)
  have EQX : Ext W0 wS := (zu HE6).trans (zu EQS)
  clear hsrc HBV HBW HEN FE hge1
  go_upto_block 0 with fail
  go_cut [17] (fun _ wq => ∃ rv : Value, Hid (zju wq wS wS.heap.size ge S2.length S2 D.length rv n (fun i => zo (zy (zew D cn C1.length (f + i)))) ((r2 : Int) - (f : Int)) c2))
  case first =>
    go_wp2
    go_loopw [17] (fun iv wr => ∃ (m k : Nat) (rv : Value), m = f + k ∧ k ≤ n ∧ iv = .int .i64 (m : Int) ∧ Hid (zju wr wS wS.heap.size ge S2.length S2 D.length rv k (fun i => zo (zy (zew D cn C1.length (f + i)))) ((r2 : Int) - (f : Int)) c2)) (fun iv _ => (f + n) - (intOf iv).toNat)
    case atStart => exact ⟨f, 0, _, rfl, Nat.zero_le _, rfl, HLB⟩
    case round =>
      clear HLB
      obtain ⟨m, k, rv, hmk, hk, rfl, HB⟩ := hrel
      have HM := zh hmk
      have hbx := (zu HB).box
      obtain ⟨va, vc, rfl⟩ := zdH (zu HB).own
      have y0 := zg hbx 0 _ rfl
      by_cases hlt : k < n
      · have hkS : m < S2.length := by omega
        have g1 := (zu HB).ext.cell (a := ⟨g, m, none⟩) (v := .int .i64 (at0 S2 m)) (by rw [(zu HOS).cellAt m (by omega), List.getElem?_map, zfN hkS]; rfl)
        have g2 := (zu HB).ends m hkS
        obtain ⟨t0, t1, t2⟩ := (zu HST2) m hkS
        obtain ⟨sk, hsk⟩ : ∃ sk : Nat, at0 S2 m = (sk : Int) := ⟨(at0 S2 m).toNat, by omega⟩
        obtain ⟨ek, hek⟩ : ∃ ek : Nat, at0 (S2 ++ [(D.length : Int)]) (m + 1) = (ek : Int) := ⟨(at0 (S2 ++ [(D.length : Int)]) (m + 1)).toNat, by omega⟩
        have hly : Hid (zew D cn C1.length (f + k) = (D.take ek).drop sk) := zh (by
          rw [← hmk, zu HLC2, hek, zaX, if_neg (by omega), hsk]
          rfl)
        rw [hsk] at g1 t0 t1
        rw [hek] at g2 t1 t2
        have hse : sk ≤ ek := by omega
        have hen : ek ≤ D.length := by omega
        have hDc1 := (zu hDc).1
        obtain ⟨tk, htk⟩ : ∃ tk, tk = zo (zy (zew D cn C1.length (f + k))) := ⟨_, rfl⟩
        have HTK := zh htk
        have hct : Hid (∀ (W : World) (a' : Option Addr) (Z : Nat), Ext wr W → (a' = a6.map (fun x => x.add (sk * 2)) ∨ ek - sk = 0) → ek - sk ≤ Z → Calls Tryz.prog 139 #[.slice a' (ek - sk) Z] W fun e w' => e = .returned (.string tk) ∧ Ext wr w') := by
          refine zh (fun W a' Z hW h1 h2 => ?_)
          rw [htk, zu hly]
          have hp := (zu HCU).part sk ek
          refine (zaf _ _ W (((zu HCLS).ext ((zu HB).ext.trans hW)).cut sk ek Z hse hen h2 a' h1) (Nat.le_trans hp.1 (by omega)) (fun j _ => hp.2 j)).mono ?_
          rintro e w' ⟨rfl, F⟩
          exact ⟨rfl, hW.trans F⟩
        have bI1 : (m : Int) < (S2.length : Int) := by omega
        have bI2 : (m : Int) < (f : Int) + (rn : Int) := by omega
        have hszr : wS.heap.size + 1 < wr.heap.size := zq hbx
        have seI : (sk : Int) ≤ (ek : Int) := by omega
        have ecI : (ek : Int) ≤ (c6 : Int) := by omega
        have hown : Hid (wr.ownsRow wS.heap.size 9 1 (.slice va k vc) k (zbC (fun i => zo (zy (zew D cn C1.length (f + i)))) k)) := zh (zu HB).own
        have hkb : k ≤ 100 := by omega
        obtain ⟨xs, hxs⟩ : ∃ xs, xs = zbC (fun i => zo (zy (zew D cn C1.length (f + i)))) k := ⟨_, rfl⟩
        rw [← hxs] at hown
        have HXS := zh hxs
        clear t0 t1 t2 hsk hek htk hxs hbx hmk
        by_cases hsc : sk = c6
        · subst hsc
          have hz9 : ek - sk = 0 := by omega
          have HZ9 := zh hz9
          clear hz9
          go_wp2
          go_region_law (first
            | (refine step_append_lies _ (by rfl) _ _ _ (by rfl) wS.heap.size 9 ic2 _ 1 16 Tryz.underlying24 hic2 hd0 hd1 hd2 rfl (by omega) (.slice va k vc) k xs (by rfl) (by first | exact (E'.owns (zu hown)).alloc _ | exact ((E'.owns (zu hown)).alloc _).drew | exact (E'.owns (zu hown)).drew.alloc _ | exact ((E'.owns (zu hown)).drew.alloc _).drew)
                ⟨w'.heap.size, 0, none⟩ 1 1 [.string tk] (by rfl) (by rfl) (World.news_of_block (cs := #[.string tk]) (t := 9) (fr := (0, 0)) (heap_alloc_new w' _)) (by simp [Value.oneCell'])
                (by omega) (by unfold maxLen; omega) (by omega) (by simp; omega) (w'.heap.size + 1) (by simp) ?_
               intro gg cap w3 hown3 hgrow hat hlt3
               rw [zu HXS, zu HTK] at hown3
               have M := zju.more (T := fun i => zo (zy (zew D cn C1.length (f + i)))) (zu HB) rfl E' (by first | exact (Ext.refl w').alloc _ | exact ((Ext.refl w').alloc _).drew | exact (Ext.refl w').drew.alloc _ | exact ((Ext.refl w').drew.alloc _).drew) hgrow hown3 hat (by have := E'.size; omega)
               have c3 := zg M.2 0 _ rfl
               have f3 : ∀ i, w3.frozen? ⟨wS.heap.size + 1, i, none⟩ = false := fun i => Lib.frozen_of_heap M.2 i
               have HNEW := zh M.1
               clear hown3 hgrow M)
            | (go_simp; go_at_call 139; refine ((zu hct) wr.drew _ _ (Ext.refl _).drew (.inr (zu HZ9)) (by omega)).mono ?_; rintro e w' ⟨rfl, E'⟩; have hsz' := E'.size; have y0' := E'.cell y0; have y0n : ∀ o, (w'.alloc o).cell? ⟨wS.heap.size + 1, 0, none⟩ = some (.slice va k vc) := fun o => ((Ext.refl w').alloc o).cell y0'))
          all_goals
            go_wp2
            go_roundw
            case rel => exact ⟨m + 1, k + 1, _, by have := zu HM; omega, by omega, by go_num, HNEW⟩
            case measure => have := zu HM; simp [intOf]; omega
        · have hsc' : ¬ c6 = sk := fun e => hsc e.symm
          go_wp2
          go_region_law (first
            | (refine step_append_lies _ (by rfl) _ _ _ (by rfl) wS.heap.size 9 ic2 _ 1 16 Tryz.underlying24 hic2 hd0 hd1 hd2 rfl (by omega) (.slice va k vc) k xs (by rfl) (by first | exact (E'.owns (zu hown)).alloc _ | exact ((E'.owns (zu hown)).alloc _).drew | exact (E'.owns (zu hown)).drew.alloc _ | exact ((E'.owns (zu hown)).drew.alloc _).drew)
                ⟨w'.heap.size, 0, none⟩ 1 1 [.string tk] (by rfl) (by rfl) (World.news_of_block (cs := #[.string tk]) (t := 9) (fr := (0, 0)) (heap_alloc_new w' _)) (by simp [Value.oneCell'])
                (by omega) (by unfold maxLen; omega) (by omega) (by simp; omega) (w'.heap.size + 1) (by simp) ?_
               intro gg cap w3 hown3 hgrow hat hlt3
               rw [zu HXS, zu HTK] at hown3
               have M := zju.more (T := fun i => zo (zy (zew D cn C1.length (f + i)))) (zu HB) rfl E' (by first | exact (Ext.refl w').alloc _ | exact ((Ext.refl w').alloc _).drew | exact (Ext.refl w').drew.alloc _ | exact ((Ext.refl w').drew.alloc _).drew) hgrow hown3 hat (by have := E'.size; omega)
               have c3 := zg M.2 0 _ rfl
               have f3 : ∀ i, w3.frozen? ⟨wS.heap.size + 1, i, none⟩ = false := fun i => Lib.frozen_of_heap M.2 i
               have HNEW := zh M.1
               clear hown3 hgrow M)
            | (go_simp; go_at_call 139; refine ((zu hct) wr.drew _ _ (Ext.refl _).drew (.inl rfl) (by omega)).mono ?_; rintro e w' ⟨rfl, E'⟩; have hsz' := E'.size; have y0' := E'.cell y0; have y0n : ∀ o, (w'.alloc o).cell? ⟨wS.heap.size + 1, 0, none⟩ = some (.slice va k vc) := fun o => ((Ext.refl w').alloc o).cell y0'))
          all_goals
            go_wp2
            go_roundw
            case rel => exact ⟨m + 1, k + 1, _, by have := zu HM; omega, by omega, by go_num, HNEW⟩
            case measure => have := zu HM; simp [intOf]; omega
      · obtain rfl : k = n := by omega
        clear HST2 HCLS HLC2 hbx
        by_cases hb1 : m < S2.length
        · have hI1 : (m : Int) < (S2.length : Int) := by omega
          have hI2 : ¬ (m : Int) < (f : Int) + (rn : Int) := by have := zu HN; omega
          go_wp2
          go_meet
          exact ⟨_, HB⟩
        · have hI1 : ¬ (m : Int) < (S2.length : Int) := by omega
          go_wp2
          go_meet
          exact ⟨_, HB⟩
  case rest =>
  obtain ⟨rv, HB⟩ := hcut
  have hbx := (zu HB).box
  obtain ⟨va, vc, rfl⟩ := zdH (zu HB).own
  have y0 := zg hbx 0 _ rfl
  have y1 := zg hbx 1 _ rfl
  have y2 := zg hbx 2 _ rfl
  have hT := (EQX).trans (zu HB).ext
  have hb9 := hT.kept (zu HB0)
  have b0 := zg hb9 0 _ rfl
  have b1 := zg hb9 1 _ rfl
  have b2 := zg hb9 2 _ rfl
  have f1 : ∀ i, wc.frozen? ⟨w.heap.size + 1, i, none⟩ = false := fun i => Lib.frozen_of_heap hb9 i
  have hfin : Hid (zcB D cn C1.length rn = f ∧ zc7 D cn C1.length rn = n ∧ zcN D cn C1.length = r2 ∧ zdG D cn C1.length = c2) := by
    have e1 : zcB D cn C1.length rn = f := by unfold zcB; rw [← zu HR2, zu HF]
    refine zh ⟨e1, ?_, (zu HR2).symm, (zu HC2).symm⟩
    unfold zc7
    rw [e1, ← zu HS2, zu HN]
  have hsS := (zu EQS).size
  have hend : ∀ U : World, U = ((wc.setCell ⟨w.heap.size + 1, 0, none⟩ (.slice va n vc)).setCell ⟨w.heap.size + 1, 1, none⟩ (.int .i64 ((r2 : Int) - (f : Int)))).setCell ⟨w.heap.size + 1, 2, none⟩ (.int .i64 c2) → za4 U w.heap.size 9 (.slice va n vc) (zc7 D0 cn p0 rn) (fun i => .string (layT D0 cn p0 rn i)) ∧ Ext w U := by
    rintro U rfl
    obtain ⟨q1, q2, q3, q4⟩ := zu hfin
    have fr : Fr (fun q => q = w.heap.size + 1) wc (((wc.setCell ⟨w.heap.size + 1, 0, none⟩ (.slice va n vc)).setCell ⟨w.heap.size + 1, 1, none⟩ (.int .i64 ((r2 : Int) - (f : Int)))).setCell ⟨w.heap.size + 1, 2, none⟩ (.int .i64 c2)) := by
      repeat' first | refine Fr.setCell (S := fun q => q = w.heap.size + 1) ?_ (a := ⟨w.heap.size + 1, _, none⟩) rfl _ | exact Fr.refl _ _
    refine ⟨?_, fr.ext (E0.trans hT) (fun k hk => by omega)⟩
    rw [zu HD0, zu HP0, q2]
    have hcg : za4 wc wS.heap.size 9 (.slice va n vc) n (fun i => .string (layT D cn C1.length rn i)) := by
      unfold layT
      rw [q1]
      exact zdg (zu HB).own
    exact (hcg.fr fr (fun g hg e => by have := hcg.lt g hg; omega)).mono (by omega)
  have HEND := zh hend
  clear hend hb9 hbx HLB HST2 HCLS HLC2
  iterate 13 go_step
  show bodyPost Tryz.prog Tryz.f76 _ Exit.ret _ _
  refine bodyPost_ret (v := .agg #[.slice va n vc, .int .i64 ((r2 : Int) - (f : Int)), .int .i64 c2]) (by simp [results, Tryz.results76, go_sem, b0, b1, b2]) rfl ⟨_, ?_, (zu HEND) _ rfl⟩
  obtain ⟨q1, q2, q3, q4⟩ := zu hfin
  rw [zu HD0, zu HP0, q1, q3, q4]
end Go.Proofs.YtinfdhbnljnifaaGreatDoor
