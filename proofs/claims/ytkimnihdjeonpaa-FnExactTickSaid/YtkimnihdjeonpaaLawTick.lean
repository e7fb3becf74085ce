import Derived.Test.YtkimnihdjeonpaaTickI
import Derived.Test.YtkimnihdjeonpaaRows
namespace Go.Proofs.Ytkimnihdjeonpaa
open Go.ChangeShapes Go.WideShapes Go.ChangeAt Go.RowKit
def KBox (w : World) (B : Nat) (hv : Value) (p : Bool) : Prop := w.cell? ⟨B, 0, none⟩ = some hv ∧ w.cell? ⟨B, 1, none⟩ = some (.bool p)
theorem KBox.ext {w w' : World} {B : Nat} {hv : Value} {p : Bool} (h : KBox w B hv p) (he : Ext w w') : KBox w' B hv p := ⟨he.cell h.1, he.cell h.2⟩
theorem KBox.fr {S : Nat → Prop} {w w' : World} {B : Nat} {hv : Value} {p : Bool} (h : KBox w B hv p) (hf : Fr S w w') (hn : ¬ S B) : KBox w' B hv p := by
  have hlt := lt_of_cell h.1
  have hb := hf.block B hlt hn
  unfold KBox at h ⊢
  unfold World.cell? at h ⊢
  simp only [hb]
  exact h
theorem KBox.new (w : World) (hv : Value) (p : Bool) (t : TypeId) : KBox (w.alloc (.cells #[hv, .bool p] t)) w.heap.size hv p := by
  unfold KBox; simp [go_sem]
set_option maxRecDepth 10000 in
set_option maxHeartbeats 4000000 in
theorem fnExactTick_walk (ha : Option Addr) (hc : Nat) (bs : List Int) (p : Bool) (w : World) (hv : IntsAt w .u8 (.slice ha bs.length hc) bs) (hB : Bytes bs) (hlen : (bs.length : Int) ≤ 9223372036854775807) :
    Calls Try.prog 5 #[.agg #[.slice ha bs.length hc, .bool p]] w fun e w' => e = .returned (.bool true) ∧ Below w.heap.size w w' := by
  have HV := hide hv
  clear hv
  have HN := hide (KBox.new w (.slice ha bs.length hc) p 39)
  go_enter Try.func5, Try.ntmps5
  go_wp2_with fail
  refine (szKeyReader_any ha bs.length hc p 1048576 _ (by omega) (by omega) hlen).mono ?_
  rintro e w1 ⟨r, rfl, hr, F1⟩
  have B1 := hide ((unhide HN).ext F1)
  have E1 := ((Ext.refl w).alloc _).trans F1
  clear HN F1
  rcases hr with ⟨rfl, _⟩ | ⟨hr, hr0⟩
  · go_wp2
    go_ret
    exact ⟨rfl, E1.below⟩
  have hneg : ¬ r < 0 := by omega
  have hl : bs.length ≤ 1048576 := by omega
  have HKF := hide (tickK_fit bs p hl)
  have hKl := (unhide HKF).1
  have hHl := tickH_fit bs p
  clear hr
  have HTO := hide (fun W (h : Ext w1 W) => toKeyReader_any (.slice ha bs.length hc) bs p W ((unhide HV).ext (E1.trans h)) (by omega))
  have p0 := (unhide B1).1
  have p1 := (unhide B1).2
  go_wp2_with fail
  refine ((unhide HTO) _ (Ext.refl _)).mono ?_
  rintro e w2 ⟨rfl, o2, F2⟩
  clear p0 p1
  have hcon := hide (specTick_any _ 0 _ bs p w2 (ints_of_owns o2) hB hl)
  clear o2
  go_wp2_with fail
  refine (unhide hcon).mono ?_
  rintro e w3 ⟨hs, ks, rs, rfl, os, oks, F3⟩
  have X3 := F2.trans F3
  have OS := hide os
  have OKS := hide oks
  obtain ⟨sa, sc, rfl, _, _⟩ := ints_of_owns os
  clear os oks F2 F3 hcon
  have N3 := hide (KBox.new w3 (.slice sa (tickH bs p).length sc) p 41)
  have p0 := fun o => (((unhide B1).ext X3).ext ((Ext.refl w3).alloc o)).1
  have p1 := fun o => (((unhide B1).ext X3).ext ((Ext.refl w3).alloc o)).2
  go_wp2_with fail
  refine ((unhide HTO) _ (X3.trans ((Ext.refl w3).alloc _))).mono ?_
  rintro e w4 ⟨rfl, o4, F4⟩
  have hz3 : ∀ o, (w3.alloc o).heap.size = w3.heap.size + 1 := fun o => by simp
  rw [hz3] at o4 ⊢
  clear p0 p1
  have X4 := (X3.alloc _).trans F4
  have Y4 := ((Ext.refl w3).alloc _).trans F4
  have Q4 := hide ((unhide N3).ext F4)
  have hcon := hide (fun U (hU : Ext w4 U) => implTick_any _ 0 _ bs p U ((ints_of_owns o4).ext hU) hB hl)
  have OX := hide o4
  have hx4 := (o4.lt _ rfl).2
  have N4 := hide (KBox.new w4 (.slice (some ⟨w3.heap.size + 1 + 3, 0, none⟩) bs.length bs.length) p 41)
  clear o4 F4 N3 hz3
  go_wp2_with fail
  refine ((unhide hcon) _ ((Ext.refl _).alloc _)).mono ?_
  rintro e w5 ⟨hg, kg, rg, rfl, og, okg, F5⟩
  have hz4 : ∀ o, (w4.alloc o).heap.size = w4.heap.size + 1 := fun o => by simp
  rw [hz4] at og okg
  have OG := hide og
  have OKG := hide okg
  obtain ⟨ga, gc, rfl, _, _⟩ := ints_of_owns og
  have Y5 := ((Ext.refl w4).alloc _).trans F5
  have X5 := X4.trans Y5
  have N6 := hide ((unhide N4).ext F5)
  have Q5 := hide ((unhide Q4).ext Y5)
  have N5 := hide (KBox.new w5 (.slice ga (tickH bs p).length gc) p 41)
  have p0 := fun o => ((unhide Q5).ext ((Ext.refl w5).alloc o)).1
  have p1 := fun o => ((unhide Q5).ext ((Ext.refl w5).alloc o)).2
  clear og okg hz4 hcon N4 F5
  go_wp2_with fail
  refine (eqKeyReader_same _ _ (tickH bs p) p _ ((ints_of_owns (unhide OG)).ext ((Ext.refl _).alloc _)) ((ints_of_owns (unhide OS)).ext ((Y4.trans Y5).alloc _)) (by omega)).mono ?_
  rintro e w6 ⟨rfl, F6⟩
  clear p0 p1
  have Y6 := ((Ext.refl w5).alloc _).trans F6
  have X6 := X5.trans Y6
  have N7 := hide ((unhide N5).ext F6)
  clear F6 N5
  go_wp2_with fail
  refine (eqKeyS_same _ _ (tickK bs p) _ ((unhide OKG).cls.ext Y6) ((unhide OKS).cls.ext ((Y4.trans Y5).trans Y6)) (by omega) (fun j _ => by have := (unhide HKF).2 j; omega)).mono ?_
  rintro e w7 ⟨rfl, F7⟩
  have Y7 := Y6.trans F7
  have X7 := X6.trans F7
  have B7 := hide ((unhide B1).ext X7)
  have C7 := hide ((unhide N6).ext Y7)
  have q0 := (unhide B7).1
  have q1 := (unhide B7).2
  have q2 := (unhide C7).1
  have q3 := (unhide C7).2
  have hto := hide (fun U (hU : Ext w7 U) => (unhide HTO) U (X7.trans hU))
  go_wp2
  go_region_held3 (fun W => W.cell? ⟨w.heap.size, 0, none⟩ = some (.slice ha bs.length hc) ∧ W.cell? ⟨w.heap.size, 1, none⟩ = some (.bool p) ∧ W.cell? ⟨w4.heap.size, 0, none⟩ = some (.slice (some ⟨w3.heap.size + 1 + 3, 0, none⟩) bs.length bs.length) ∧ W.cell? ⟨w4.heap.size, 1, none⟩ = some (.bool p)) (first | exact ⟨q0, q1, q2, q3⟩ | exact ⟨he'.cell q0, he'.cell q1, he'.cell q2, he'.cell q3⟩ | go_keep)
    (first
      | (go_at_call 21; refine ((unhide hto) _ (Ext.refl w7).drew).mono ?_; rintro e w8 ⟨rfl, o8, F8⟩; have he' := (Ext.refl w7).drew.trans F8; have R8 := hide (ints_of_owns o8); clear o8)
      | (go_at_call 23; refine (eqKeyReader_same _ _ bs p _ ((ints_of_owns (unhide OX)).ext ((Y5.trans Y7).trans he')) (unhide R8) (by omega)).mono ?_; rintro e w9 ⟨rfl, F9⟩; have he' := he'.trans F9))
  have Y9 := Y7.trans he'
  have X9 := X7.trans he'
  have Z9 := (Y4.trans Y5).trans Y9
  have C9 := hide ((unhide C7).ext he')
  have N9 := hide ((unhide N7).ext (F7.trans he'))
  have Q9 := hide ((unhide Q5).ext Y9)
  have B9 := hide ((unhide B1).ext X9)
  have OX9 := (Y5.trans Y9).owns (unhide OX)
  have OG9 := hide (Y9.owns (unhide OG))
  have OS9 := hide (Z9.owns (unhide OS))
  have OKG9 := hide ((unhide OKG).ext Y9)
  have OKS9 := hide ((unhide OKS).ext Z9)
  have s1 := X3.size
  have s2 := Y4.size
  have s3 := Y5.size
  clear q0 q1 q2 q3 B7 C7 N7 N6 Q5 R8 he' F7
  have q2 := (unhide C9).1
  have q3 := (unhide C9).2
  go_wp2_with fail
  refine (markKeyReader_any (w3.heap.size + 1 + 3) _ bs.length _ p 1 _ OX9 (by omega) (by omega) (by omega)).mono ?_
  rintro e w10 ⟨rfl, -, G10⟩
  have fr10 : Fr (fun k => k = w3.heap.size + 1 + 3) w9 w10 := (Fr.refl _ _).grown G10 (fun k hk => by simp [Value.ownBlock] at hk; exact hk.symm)
  have X10 : Ext w1 w10 := fr10.ext X9 (fun k hk => by omega)
  have OG10 := hide (fr10.owns (unhide OG9) (fun g hg e => by have := ((unhide OG).lt g hg).1; omega))
  have OS10 := hide (fr10.owns (unhide OS9) (fun g hg e => by have := ((unhide OS).lt g hg).2; omega))
  have OKG10 := hide ((unhide OKG9).fr fr10 (fun g hg e => by have := ((unhide OKG).foot hg).1; omega))
  have OKS10 := hide ((unhide OKS9).fr fr10 (fun g hg e => by have := ((unhide OKS).foot hg).2; omega))
  have N10 := hide ((unhide N9).fr fr10 (by omega))
  have Q10 := hide ((unhide Q9).fr fr10 (by omega))
  clear G10 fr10 OX9 q2 q3 OG9 OS9 OKG9 OKS9 N9 Q9 C9
  have hk2 : ¬ (1 : Int) + (bs.length : Int) < 0 := by omega
  have q0 := (unhide N10).1
  have q1 := (unhide N10).2
  have q2 := (unhide Q10).1
  have q3 := (unhide Q10).2
  go_wp2_with fail
  refine (eqKeyReader_same _ _ (tickH bs p) p _ (ints_of_owns (unhide OG10)) (ints_of_owns (unhide OS10)) (by omega)).mono ?_
  rintro e w11 ⟨rfl, F11⟩
  clear q0 q1 q2 q3
  go_wp2_with fail
  refine (eqKeyS_same _ _ (tickK bs p) _ ((unhide OKG10).cls.ext F11) ((unhide OKS10).cls.ext F11) (by omega) (fun j _ => by have := (unhide HKF).2 j; omega)).mono ?_
  rintro e w12 ⟨rfl, F12⟩
  have Y12 := F11.trans F12
  have X12 := X10.trans Y12
  have N12 := hide ((unhide N10).ext Y12)
  have Q12 := hide ((unhide Q10).ext Y12)
  have OG12 := Y12.owns (unhide OG10)
  have OS12 := hide (Y12.owns (unhide OS10))
  have OKG12 := hide ((unhide OKG10).ext Y12)
  have OKS12 := hide ((unhide OKS10).ext Y12)
  have q0 := (unhide N12).1
  have q1 := (unhide N12).2
  clear F11 F12 N10 Q10 OG10 OS10 OKG10 OKS10
  go_wp2_with fail
  refine (markKeyReader_any (w4.heap.size + 1) _ (tickH bs p).length _ p 1 _ OG12 (by omega) (by omega) (by omega)).mono ?_
  rintro e w13 ⟨rfl, og13, G13⟩
  have fr13 : Fr (fun k => (Value.slice ga (tickH bs p).length gc).ownBlock = some k) w12 w13 := (Fr.refl _ _).grown G13 (fun k hk => hk)
  have hapG : ∀ g, Foot kg rg (tickK bs p).length g → ¬ (Value.slice ga (tickH bs p).length gc).ownBlock = some g := by
    intro g hg e
    obtain ⟨_, ⟨ys, h1, _⟩, h3, _⟩ := unhide OKG12
    rcases hg with hg | ⟨j, hj, hg⟩
    · exact owns_apart h1 OG12 (by decide) hg e
    · exact owns_apart (h3 j hj) OG12 (by decide) hg e
  have HAP := hide hapG
  have X13 : Ext w1 w13 := fr13.ext X12 (fun k hk => by have := (OG12.lt k hk).1; omega)
  have OKG13 := hide ((unhide OKG12).fr fr13 hapG)
  have OS13 := hide (fr13.owns (unhide OS12) (fun g hg e => by have := ((unhide OS).lt g hg).2; have := (OG12.lt g e).1; omega))
  have OKS13 := hide ((unhide OKS12).fr fr13 (fun g hg e => by have := ((unhide OKS).foot hg).2; have := (OG12.lt g e).1; omega))
  have N13 := hide ((unhide N12).fr fr13 (fun e => by have := ((unhide OG).lt _ e).2; omega))
  have Q13 := hide ((unhide Q12).fr fr13 (fun e => by have := (OG12.lt _ e).1; omega))
  have OG13 := hide og13
  clear og13 G13 fr13 hapG q0 q1 OG12 OKG12 OS12 OKS12 N12 Q12 Y12
  obtain ⟨K0, hK0⟩ : ∃ K : Int, K = 1 + ((tickH bs p).length : Int) := ⟨_, rfl⟩
  rw [← hK0]
  have hK0b : 1 ≤ K0 ∧ K0 ≤ 1048577 := by omega
  have HK0 := hide hK0
  clear hK0
  have hSm : Small K0 (tickK bs p) := by
    intro j hj
    have h2 := kkC_bd K0 (tickK bs p) 1 (by omega) (fun i => (unhide HKF).2 i) j
    have h4 : (j : Int) * (((1 : Nat) : Int) + 1) ≤ 1048576 * (1 + 1) := Int.mul_le_mul (by omega) (by omega) (by omega) (by omega)
    omega
  have HSM := hide hSm
  clear hSm
  go_wp2_with fail
  refine (markKeyS_any (w4.heap.size + 1) _ _ _ K0 _ (unhide OKG13) (by omega) (fun j _ => by have := (unhide HKF).2 j; omega) (unhide HSM)).mono ?_
  rintro e w14 ⟨rfl, om14, fr14⟩
  have X14 : Ext w1 w14 := fr14.ext X13 (fun k hk => by have := ((unhide OKG).foot hk).1; omega)
  have OG14 := hide (fr14.owns (unhide OG13) (fun g hg e => (unhide HAP) g e hg))
  have OS14 := hide (fr14.owns (unhide OS13) (fun g hg e => by have := ((unhide OS).lt g hg).2; have := ((unhide OKG).foot e).1; omega))
  have OKS14 := hide ((unhide OKS13).fr fr14 (fun g hg e => by have := ((unhide OKS).foot hg).2; have := ((unhide OKG).foot e).1; omega))
  have N14 := hide ((unhide N13).fr fr14 (fun e => by have := ((unhide OKG).foot e).2; omega))
  have Q14 := hide ((unhide Q13).fr fr14 (fun e => by have := ((unhide OKG).foot e).1; omega))
  have OM14 := hide om14
  clear om14 fr14 OG13 OS13 OKS13 OKG13 N13 Q13
  obtain ⟨K, hK⟩ : ∃ K, K = kkC K0 (tickK bs p) (tickK bs p).length := ⟨_, rfl⟩
  have hKp := ((unhide HSM) _ (Nat.le_refl _)).1
  have HH := hide (fun W (h : KysAt W kg (mkKys K0 (tickK bs p))) => heldKeyS_any kg (tickK bs p) K0 W h (by omega) (fun j _ => by have := (unhide HKF).2 j; omega) (unhide HSM))
  have HR := hide (fun W (h : IntsAt W .u8 (.slice ga (tickH bs p).length gc) (mkU8 1 (tickH bs p).length)) => heldKeyReader_any (.slice ga (tickH bs p).length gc) (tickH bs p).length p 1 W h (by omega) (by omega) (by omega))
  have HI14 : Hid (IntsAt w14 .u8 (.slice ga (tickH bs p).length gc) (mkU8 1 (tickH bs p).length)) := by
    have := unhide OG14
    have e0 : (tickH bs p).length = (mkU8 1 (tickH bs p).length).length := (mkU8_len _ _).symm
    refine hide (ints_of_owns (base := w4.heap.size + 1) (e := 5) ?_)
    rw [← e0]
    exact this
  rw [← unhide HK0] at HR
  rw [← hK] at hKp HH ⊢
  clear hK
  have hK0n : ¬ K0 < 0 := by omega
  have hKn : ¬ K < 0 := by omega
  have q0 := (unhide N14).1
  have q1 := (unhide N14).2
  go_wp2_with fail
  refine ((unhide HR) _ (unhide HI14)).mono ?_
  rintro e w15 ⟨rfl, F15⟩
  clear q0 q1
  go_wp2_with fail
  refine ((unhide HH) _ ((unhide OM14).cls.ext F15)).mono ?_
  rintro e w16 ⟨rfl, F16⟩
  have Y16 := F15.trans F16
  have X16 := X14.trans Y16
  have q0 := ((unhide B1).ext X16).1
  have q1 := ((unhide B1).ext X16).2
  clear F15 F16
  go_wp2_with fail
  refine ((unhide HTO) _ X16).mono ?_
  rintro e w17 ⟨rfl, o17, F17⟩
  clear q0 q1
  have hcon := hide (implTick_any _ 0 _ bs p w17 (ints_of_owns o17) hB hl)
  clear o17
  go_wp2_with fail
  refine (unhide hcon).mono ?_
  rintro e w18 ⟨hh, kh, rh, rfl, oh, okh, F18⟩
  have OH := hide oh
  have OKH := hide okh
  obtain ⟨xa, xc, rfl, _, _⟩ := ints_of_owns oh
  have Y18 := (Y16.trans F17).trans F18
  have X18 := X14.trans Y18
  have q2 := fun o => ((unhide Q14).ext (Y18.alloc o)).1
  have q3 := fun o => ((unhide Q14).ext (Y18.alloc o)).2
  clear oh okh F17 F18 Y16 hcon
  go_wp2_with fail
  refine (eqKeyReader_same _ _ (tickH bs p) p _ ((ints_of_owns (unhide OH)).ext ((Ext.refl _).alloc _)) ((ints_of_owns (unhide OS14)).ext (Y18.alloc _)) (by omega)).mono ?_
  rintro e w19 ⟨rfl, F19⟩
  clear q2 q3
  have Y19 := ((Ext.refl w18).alloc _).trans F19
  go_wp2_with fail
  refine (eqKeyS_same _ _ (tickK bs p) _ ((unhide OKH).cls.ext Y19) ((unhide OKS14).cls.ext (Y18.trans Y19)) (by omega) (fun j _ => by have := (unhide HKF).2 j; omega)).mono ?_
  rintro e w20 ⟨rfl, F20⟩
  have Y20 := (Y18.trans Y19).trans F20
  have q0 := ((unhide N14).ext Y20).1
  have q1 := ((unhide N14).ext Y20).2
  go_wp2_with fail
  refine ((unhide HR) _ ((unhide HI14).ext Y20)).mono ?_
  rintro e w21 ⟨rfl, F21⟩
  clear q0 q1
  have Y21 := Y20.trans F21
  go_wp2_with fail
  refine ((unhide HH) _ ((unhide OM14).cls.ext Y21)).mono ?_
  rintro e w22 ⟨rfl, F22⟩
  go_wp2
  go_ret
  exact ⟨rfl, (((E1.trans X14).trans Y21).trans F22).below⟩
set_option maxRecDepth 100000 in
theorem fnExactTick_lifted (os : Os) (started : os.Started) (H : Type) (enc : TypeId × Value → H) :
    ReturnsInHanded {} Try.checked os 5 .any (Rows.fnExactTickSpec.pre6 enc Try.prog Try.f5 Rows.fnExactTickRow.domain false) (Rows.fnExactTickSpec.post enc Try.prog Try.f5 false true false false) := by
  have own : ownKnob Try.prog.godebug = none := by kernel_rfl
  refine returnsInHanded_of_change (C := Try.checked) own started (by kernel_rfl) Try.func5
    (ChangeSpec.witness6 (enc := enc) (C := Try.checked) false ⟨#[], #[.agg #[.slice none 0 0, .bool false]], []⟩ 8 (by kernel_rfl) (by kernel_rfl) (by kernel_rfl) (by kernel_rfl)) ?_
  intro W base args ds gs before hval0 hW hcnd _
  have hval : ∀ (j : Nat) t v, Try.f5.params[j]? = some t → args[j]? = some v → Value.okWide Try.prog W .any base t v := hval0
  have hW' := hW
  obtain ⟨p, q, hA0, hV, rfl, hfz, hnd⟩ := hW
  have hA : DataW.TrodAll enc Try.prog W 0 (fun _ => true) true Try.f5.params.toList args.toList ds p := hA0
  rw [Try.params5] at hA hval
  obtain ⟨v0, d0, rfl, rfl, h0⟩ := trodAll_one hA
  obtain ⟨rfl, rfl⟩ := trodVars_none hV
  obtain ⟨bs, ha, hc, b, rfl, c1, c2, c3⟩ := kr_came (hval 0 39 v0 rfl rfl) h0
  clear hA0 hval0
  refine (fnExactTick_walk ha hc bs b W c1 c2 c3).mono fun e W' ⟨he, hb⟩ => ?_
  subst he
  exact ⟨_, rfl, post_law (by kernel_rfl) (by kernel_rfl) (by kernel_rfl) (bt := 4) (by kernel_rfl) Try.underlying4 hW' rfl hb⟩
theorem fnExactTick_holds : Rows.FnExactTickSaid :=
  OpenClaim.holds_of_wide 5 Try.f5 rfl rfl rfl rfl rfl rfl rfl ⟨rfl, rfl, rfl, rfl, rfl⟩ rfl rfl rfl rfl rfl (by kernel_rfl) Try.func5 (by kernel_rfl)
    (of_decide_eq_true (by kernel_rfl)) (by unfold Func.isWrapper; first | (rw [if_pos (by decide +kernel)]; kernel_rfl) | (rw [if_neg (by decide +kernel)]; exact ⟨rfl, rfl⟩))
    (fun os started H enc _ => fnExactTick_lifted os started H enc)
#print axioms fnExactTick_holds
end Go.Proofs.Ytkimnihdjeonpaa
