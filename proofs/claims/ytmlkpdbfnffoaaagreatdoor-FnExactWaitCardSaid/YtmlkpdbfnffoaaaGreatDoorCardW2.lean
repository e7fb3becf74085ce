import Derived.Test.YtmlkpdbfnffoaaaGreatDoorGenWait
import Derived.Test.YtmlkpdbfnffoaaaGreatDoorWsW
import Derived.Test.YtmlkpdbfnffoaaaGreatDoorWtK
import Derived.Test.YtmlkpdbfnffoaaaGreatDoorPowLaid
import Derived.Test.YtmlkpdbfnffoaaaGreatDoorCardW0
namespace Go.Proofs.YtmlkpdbfnffoaaaGreatDoor
open Go.RowKit
def atR (l : List ByteArray) (i : Nat) : ByteArray := l.getD i { data := #[] }
def SS.keep (s : SS) (R : List ByteArray) : SS := { s with ln := s.ln + R.length, lt := fun i => if i < s.ln then s.lt i else trimS (atR R (i - s.ln)) }
theorem zjB {s : SS} {W : World} {u : Value} (h : (zeU s).R W u) : ∃ x : Array Value, u = .agg x ∧ x.size = 17 ∧ x.all (·.oneCell') = true := by
 obtain ⟨u1, h1, p1, q1, l1, d1, rfl, hA⟩ := h
 obtain ⟨ua, uc, ha, hc, pa, pc, qa, qc, la, lc, da, dc, rfl, rfl, rfl, rfl, rfl, rfl⟩ := hA.forms
 exact ⟨_, rfl, rfl, by simp [Value.oneCell']⟩
theorem SS.mM_le {s : SS} (hz : s.SzM) : s.m ≤ 17179869184 := by
 have z0 := hz.un
 have z1 := hz.kh
 have z2 := hz.pn
 have z3 := hz.qn
 have z4 := hz.ln
 have z5 := hz.dn
 unfold SS.m
 omega
end Go.Proofs.YtmlkpdbfnffoaaaGreatDoor

namespace Go.Proofs.YtmlkpdbfnffoaaaGreatDoor
open Go.ChangeShapes Go.WideShapes Go.ChangeAt Go.RowKit Go.Deep
theorem znf (t h : Nat → ByteArray) (B : Nat) : ∀ n, (∀ j, j < n → (t j).size ≤ B ∧ (h j).size ≤ B) → tl2 t h n ≤ n * (B + B)
 | 0, _ => Nat.zero_le _
 | n + 1, hx => by
  have h1 := znf t h B n (fun j hj => hx j (by omega))
  have h2 := hx n (by omega)
  rw [tl2, Nat.succ_mul]
  omega
theorem zh2 (tx : Nat → ByteArray) : ∀ n j, j < n → (tx j).size ≤ za4 tx n
 | n + 1, j, h => by
  rw [za4]
  by_cases e : j = n
  ·subst e; omega
  ·have := zh2 tx n j (by omega); omega
theorem zmg (s : SS) (hok : zcv s) : s.wtS.bulk ≤ s.bulk + 130000 := by
 have L := SS.kyS_like s.wtK s.wt0 s.wtK.length
 have hl : s.wtS.LnP := SS.kyS_ln s.wtK s.wt0 hok.2.2.1 (fun j hj => (zdT s.kh s.kp j hj).1) _ (Nat.le_refl _)
 obtain ⟨h1, h2, h3, h4, h5⟩ := hl.sz
 have h6 := znf s.wtS.ut s.wtS.uh 1200 s.wtS.un h5
 have h7 : s.wtS.un * (1200 + 1200) ≤ 50 * 2400 := Nat.mul_le_mul_right _ h4
 have hk : (zaV s.kh s.kp).length ≤ s.kh.length := by unfold zaV; split <;> simp
 have e1 : s.wtS.pr = s.pr := L.pr
 have e2 : s.wtS.kh = zaV s.kh s.kp := L.kh
 have e3 : s.wtS.pn = s.pn := L.pn
 have e4 : s.wtS.pt = s.pt := L.pt
 have e5 : s.wtS.dr = s.dr := L.dr
 have e6 : s.wtS.qn = s.qn := L.qn
 have e7 : s.wtS.qt = s.qt := L.qt
 have e8 : s.wtS.ln = s.ln := L.ln
 have e9 : s.wtS.lt = s.lt := L.lt
 have e10 : s.wtS.dn = s.dn := L.dn
 have e11 : s.wtS.dt = s.dt := L.dt
 unfold SS.bulk
 rw [e1, e2, e3, e4, e5, e6, e7, e8, e9, e10, e11]
 omega
theorem zc7 {s s' : SS} {cap : Int} {n : Nat} {tx : Nat → ByteArray} {zs : List Int} {cd : Int} (h : zgK s cap n tx s' zs cd) (hb : s.bulk ≤ 1048576) : s'.SzM ∧ zs.length ≤ 9000000000 ∧ s'.bulk ≤ 4398046511104 := by
 have hz := SS.Sz.of_bulk hb
 have m := hz.toM
 rcases h with ⟨k1, k2, k3, rfl, rfl, rfl⟩ | ⟨k1, k2, k3, rfl, rfl, rfl⟩ | ⟨k1, rfl, rfl, rfl⟩
 ·have h1 := zmg s k1
  have hl : s.wtS.LnP := SS.kyS_ln s.wtK s.wt0 k1.2.2.1 (fun j hj => (zdT s.kh s.kp j hj).1) _ (Nat.le_refl _)
  have L := SS.kyS_like s.wtK s.wt0 s.wtK.length
  have hk : (zaV s.kh s.kp).length ≤ s.kh.length := by unfold zaV; split <;> simp
  refine ⟨⟨by have := hl.sz.2.2.2.1; omega, ?_, ?_, ?_, ?_, ?_⟩, ?_, by omega⟩
  ·rw [show s.wtS.kh = zaV s.kh s.kp from L.kh]; have := m.kh; omega
  ·rw [show s.wtS.pn = s.pn from L.pn]; exact m.pn
  ·rw [show s.wtS.qn = s.qn from L.qn]; exact m.qn
  ·rw [show s.wtS.ln = s.ln from L.ln]; exact m.ln
  ·rw [show s.wtS.dn = s.dn from L.dn]; exact m.dn
  ·have h2 := SS.kyB_len s.wtK s.wt0 k1.1.1 k1.1.2 k1.2.2.1 k1.2.1 (fun j hj => (zdT s.kh s.kp j hj).1) s.wtK.length (Nat.le_refl _)
   have h3 := zfG s.kh s.kp
   have h4 := k1.2.2.2.1
   have h5 : s.wtK.length * 140000 ≤ 2000 * 140000 := Nat.mul_le_mul_right _ (show (zaS s.kh s.kp).length ≤ 2000 by omega)
   show (SS.kyB s.wtK s.wt0 s.wtK.length).length ≤ _
   omega
 ·exact ⟨m, by simp, by omega⟩
 ·exact ⟨m, by simp, by omega⟩
theorem znk (s : SS) (cap : Int) (n : Nat) (tx : Nat → ByteArray) : ∃ s' zs cd, zgK s cap n tx s' zs cd := by
 by_cases h : zcv s ∧ zbY cap n tx
 ·cases hst : s.st with
  | false => exact ⟨_, _, _, .inl ⟨h.1, h.2, hst, rfl, rfl, rfl⟩⟩
  | true => exact ⟨_, _, _, .inr (.inl ⟨h.1, h.2, hst, rfl, rfl, rfl⟩)⟩
 ·exact ⟨_, _, _, .inr (.inr ⟨h, rfl, rfl, rfl⟩)⟩
theorem zft (s : SS) (u h p q l d : Value) (cap : Int) (hv : Value) (n : Nat) (tx : Nat → ByteArray) (w : World) (hA : zbb w s u h p q l d) (hC : s.Came) (hH : zah w hv n (fun j => .string (tx j))) (hn9 : n ≤ maxLen) (hx9 : ∀ j, j < n → (tx j).size ≤ maxLen) (hT : zbf w) (hlo : 3 < w.heap.size) (hPw : zdP w) :
  Calls Tryz.prog 3 #[zaK s u h p q l d, .agg #[.int .i64 cap, hv]] w fun e w' => e = .returned (.bool true) ∧ Below w.heap.size w w' := by
 obtain ⟨s', zs, cd, hR⟩ := znk s cap n tx
 have HH := zi hH
 obtain ⟨ha, hc, rfl, _, _⟩ := id hH
 have hxs : n + za4 tx n ≤ 1048576 → ∀ j, j < n → (tx j).size ≤ 1048576 := fun h j hj => by have := zh2 tx n j hj; omega
 refine zmC (ze s u h p q l d) cap ha n hc cd w (zi rfl) (zeU s) (fun k => zeU (mkSS k s)) s.m (ze3 cap n (fun j => .string (tx j))) (fun k => ze3 cap n (mkS k)) n (zeU s') (fun k => zeU (mkSS k s')) s'.m (ze3 cap n (fun j => .string (tx j))) (fun k => ze3 cap n (mkS k)) n (zcz zs) (fun k => zcz (zcy k zs.length)) zs.length (s.bulk ≤ 1048576) (n + za4 tx n ≤ 1048576) ?_ ?_ ?_ ?_ ?_ ?_ ?_ ?_ ?_ ?_ ?_ ?_ ?_ ?_ ?_ ?_ ?_ ?_ ?_ ?_ ?_ ?_ ?_ ?_
 ·refine zi (fun W L hW h0 h1 => (zix s _ _ _ _ _ _ L W (hA.ext hW) hC h0 (by omega)).mono ?_)
  rintro e w' ⟨r, rfl, hr, F⟩
  refine ⟨r, rfl, ?_, fun h0 => by have := hr h0; omega, F⟩
  by_cases h9 : 0 ≤ r
  ·exact (hr h9).2
  ·omega
 ·refine zi (fun W L hW h0 h1 => (zhy cap _ n tx L W ((zg HH).ext hW) h0 (by omega) (by unfold maxLen at hn9; omega) (fun j hj => by have := hx9 j hj; unfold maxLen at this; omega)).mono ?_)
  rintro e w' ⟨r, rfl, hr, F⟩
  rcases hr with ⟨rfl, h9⟩ | ⟨h9, h8⟩
  ·exact ⟨-1, rfl, by omega, fun h => by omega, F⟩
  ·exact ⟨r, rfl, by omega, fun _ => by omega, F⟩
 ·refine zi (fun hb W hW => (zhB s _ _ _ _ _ _ W (hA.ext hW) hb.1).mono ?_)
  rintro e w' ⟨u, h, p, q, l, d, rfl, o, F⟩
  exact ⟨_, _, rfl, ze8 o, F⟩
 ·exact zi (fun W u hu => zjB hu)
 ·exact zi (fun hb => zlk s (by have := hb.1; omega))
 ·exact zi (fun hb => ⟨zh5 s (SS.Sz.of_bulk hb.1).toM, SS.mM_le (SS.Sz.of_bulk hb.1).toM⟩)
 ·refine zi (fun hb W hW => (zhq cap _ n tx W ((zg HH).ext hW) (by have := hb.2; omega)).mono ?_)
  rintro e w' ⟨g, rfl, o, F⟩
  exact ⟨_, _, rfl, ze9 o, F⟩
 ·exact zi (fun W u hu => by
   obtain ⟨a, c, e⟩ := zgY hu
   exact ⟨_, _, _, _, e⟩)
 ·exact zi (fun hb => zlj cap n tx (by have := hb.2; omega))
 ·exact zi (fun hb => ⟨zh4 cap n _ (by have := hb.2; omega), by have := hb.2; omega⟩)
 ·refine zi (fun hb W v v1 hW hv hv1 => ?_)
  obtain ⟨u, h, p, q, l, d, rfl, o⟩ := hv
  obtain ⟨x, rfl, hx⟩ := hv1
  exact ziz s s' cap n tx zs cd hR u h p q l d x W o hx (by have := hb.2; omega) (hxs hb.2) (SS.Sz.of_bulk hb.1) hC.by_
 ·refine zi (fun hb W v v1 hW hv hv1 => ?_)
  obtain ⟨u, h, p, q, l, d, rfl, o⟩ := hv
  obtain ⟨x, rfl, hx⟩ := hv1
  exact ziK s s' cap n tx zs cd hR u h p q l d x W o hx (by have := hb.2; omega) (hxs hb.2) (SS.Sz.of_bulk hb.1) hC.by_ (hT.ext hW) (Nat.lt_of_lt_of_le hlo hW.size) (hPw.keep (hW.heap hlo))
 ·exact zi (fun W u hu => zjB hu)
 ·exact zi (fun hb => zlk s' (zc7 hR hb.1).2.2)
 ·exact zi (fun hb => ⟨zh5 s' (zc7 hR hb.1).1, SS.mM_le (zc7 hR hb.1).1⟩)
 ·exact zi (fun hb => zl0 s' (zc7 hR hb.1).1)
 ·exact zi (fun W u hu => by
   obtain ⟨a, c, e⟩ := zgY hu
   exact ⟨_, _, _, _, e⟩)
 ·exact zi (fun hb => zlj cap n tx (by have := hb.2; omega))
 ·exact zi (fun hb => ⟨zh4 cap n _ (by have := hb.2; omega), by have := hb.2; omega⟩)
 ·exact zi (fun hb => zlV cap n (by have := hb.2; omega))
 ·exact zi (fun W u hu => by
   obtain ⟨a, c, e⟩ := zil hu
   exact ⟨_, _, _, e⟩)
 ·exact zi (fun hb => zlG zs (by have := (zc7 hR hb.1).2.1; omega))
 ·exact zi (fun hb => ⟨zjp zs (by have := (zc7 hR hb.1).2.1; omega), by have := (zc7 hR hb.1).2.1; omega⟩)
 ·exact zi (fun hb => zi6 zs.length (by have := (zc7 hR hb.1).2.1; omega))
set_option maxRecDepth 100000 in
theorem zey (os : Os) (started : os.Started) (H : Type) (enc : TypeId × Value → H) :
  ReturnsInHanded {} Tryz.checked os 3 .any (fun w args => (Rows.fnExactWaitSpec.pre enc Tryz.prog Tryz.f3 [] false w args ∧ laidMetH Tryz.prog Rows.fnExactWaitRow.laid w) ∧ sizedMet enc Tryz.prog Tryz.f3 (OpenSpec.ofChange Rows.fnExactWaitSpec) false w args)
   (Rows.fnExactWaitSpec.post enc Tryz.prog Tryz.f3 false true false false) := by
 have own : ownKnob Tryz.prog.godebug = none := by kernel_rfl
 refine returnsInHanded_of_change_and (C := Tryz.checked) (X := fun w _ => laidMetH Tryz.prog Rows.fnExactWaitRow.laid w) (fun _ _ _ hh h => h.of_heap hh) own started (by kernel_rfl) Tryz.func3
  (ChangeSpec.witness_shaped (enc := enc) (C := Tryz.checked) (os := os) (X := fun w _ => laidMetH Tryz.prog Rows.fnExactWaitRow.laid w) false (World.laidAll Tryz.prog os Rows.fnExactWaitRow.laid) #[.agg #[.string noT, .int .i64 0, .int .i64 0, .string noT, .string noT, .string noT, .slice none 0 0, .slice none 0 0, .bool false, .bool false, .slice none 0 0, .int .i64 0, .string noT, .bool false, .slice none 0 0, .slice none 0 0, .slice none 0 0], .agg zH2] 8 (World.laidAll_os _ _ _)
   (World.shaped_of_ZipB (by kernel_rfl) (by kernel_rfl)) (by kernel_rfl) (by kernel_rfl) (by kernel_rfl)
   (by rw [MakeChecks.laidMetH_plain _ _ _ (by kernel_rfl)]; exact laidMet_laidAll _ (by kernel_rfl) (by kernel_rfl))) ?_
 intro W base args ds gs before hval0 hW _ _ hL _
 have hval : ∀ (j : Nat) t v, Tryz.f3.params[j]? = some t → args[j]? = some v → Value.okWide Tryz.prog W .any base t v := hval0
 have hW' := hW
 obtain ⟨p, q, hA0, hV0, rfl, hfz, hnd⟩ := hW
 have hV : DataW.TrodVars enc Tryz.prog W (fun _ => true) [Rows.fnExactWaitSpec.vars.headD ""] gs q := hV0
 have hA : DataW.TrodAll enc Tryz.prog W 0 (fun _ => true) true Tryz.f3.params.toList args.toList ds p := hA0
 rw [Tryz.params3] at hA hval
 obtain ⟨v0, v1, d0, d1, p0, p1, rfl, rfl, rfl, h0, h1⟩ := trodAll_two hA
 obtain ⟨g, t, cs, fuel, d, p', rfl, _, _, _, _, _⟩ := trodVars_one hV
 obtain ⟨s, u, h, p, q, l, d, rfl, c1, c2⟩ := zih (hval 0 30 v0 rfl rfl) h0
 obtain ⟨cap, hv, n, tx, rfl, k1, k2, k3⟩ := zij (hval 1 32 v1 rfl rfl) h1
 clear hA0 hval0
 have hP := zjj hL
 refine (zft s u h p q l d cap hv n tx W c1 c2 k1 k2 k3 (zhp hL) (pow_lo hP) hP).mono fun e W' ⟨he, hb⟩ => ?_
 subst he
 exact ⟨_, rfl, zmY (by kernel_rfl) (by kernel_rfl) (by kernel_rfl) (bt := 4) (by kernel_rfl) Tryz.underlying4 hW' rfl hb⟩
theorem zeR : Rows.FnExactWaitSaid :=
 OpenClaim.holds_of_wide 3 Tryz.f3 rfl rfl rfl rfl rfl rfl rfl ⟨rfl, rfl, rfl, rfl, rfl⟩ rfl rfl rfl rfl rfl (by kernel_rfl) Tryz.func3 zeT
  (of_decide_eq_true (by kernel_rfl)) (by unfold Func.isWrapper; first | (rw [if_pos (by decide +kernel)]; kernel_rfl) | (rw [if_neg (by decide +kernel)]; exact ⟨rfl, rfl⟩))
  (fun os started H enc _ => zey os started H enc)
end Go.Proofs.YtmlkpdbfnffoaaaGreatDoor
