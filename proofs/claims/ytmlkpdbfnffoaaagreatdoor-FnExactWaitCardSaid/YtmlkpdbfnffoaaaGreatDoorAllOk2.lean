import Derived.Test.YtmlkpdbfnffoaaaGreatDoorGap
import Derived.Lib.ValidLaws
import Derived.Lib.LaidU8
import Derived.Test.YtmlkpdbfnffoaaaGreatDoorShelfV
import Derived.Laws.EntriesVeiled
set_option maxHeartbeats 4000000
set_option maxRecDepth 10000
namespace Go.Proofs.YtmlkpdbfnffoaaaGreatDoor
open Go.RowKit
theorem split2 {bs : List Int} (h : 1 < bs.length) : bs = at0 bs 0 :: at0 bs 1 :: bs.drop 2 := by
 match bs, h with
 | a :: b :: r, _ => rfl
theorem split3 {bs : List Int} (h : 2 < bs.length) : bs = at0 bs 0 :: at0 bs 1 :: at0 bs 2 :: bs.drop 3 := by
 match bs, h with
 | a :: b :: c :: r, _ => rfl
theorem split4 {bs : List Int} (h : 3 < bs.length) : bs = at0 bs 0 :: at0 bs 1 :: at0 bs 2 :: at0 bs 3 :: bs.drop 4 := by
 match bs, h with
 | a :: b :: c :: d :: r, _ => rfl
theorem zd9 {l : List Int} {k : Nat} (h : zaP l k = true) : k < l.length ∧ 128 ≤ at0 l k ∧ at0 l k ≤ 191 := by
 unfold zaP at h
 simp at h
 exact ⟨h.1.1, h.1.2, h.2⟩
theorem enc_dec (bs : List Int) (hb : zaj bs) (h0 : 0 < bs.length) (hv : ¬ ((za1 bs).1 = 65533 ∧ (za1 bs).2 = 1)) : za9 (za1 bs).1 ++ bs.drop (za1 bs).2 = bs := by
 have b0 := hb.at0 0
 unfold za1 at hv ⊢
 by_cases h1 : at0 bs 0 < 128
 ·rw [if_pos h1]
  have hval : Utf8.valid (at0 bs 0) = true := by unfold Utf8.valid; simp; omega
  show za9 (at0 bs 0) ++ bs.drop 1 = bs
  rw [za9, if_pos hval, zbm, if_pos (by omega)]
  match bs, h0 with
  | a :: r, _ => rfl
 rw [if_neg h1] at hv ⊢
 by_cases h2 : (192 ≤ at0 bs 0 ∧ at0 bs 0 < 224) ∧ zaP bs 1 = true
 ·rw [if_pos h2] at hv ⊢
  obtain ⟨hl, k1, k2⟩ := zd9 h2.2
  by_cases h3 : 128 ≤ v2 bs
  ·rw [if_pos h3]
   show za9 (v2 bs) ++ bs.drop 2 = bs
   have hval : Utf8.valid (v2 bs) = true := by unfold v2 at h3 ⊢; unfold Utf8.valid; simp; omega
   rw [za9, if_pos hval]
   conv => rhs; rw [split2 hl]
   have e : zbm (v2 bs) = [at0 bs 0, at0 bs 1] := by
    unfold zbm v2 at *
    rw [if_neg (by omega), if_pos (by omega)]
    have : (at0 bs 0 % 32 * 64 + at0 bs 1 - 128) / 64 = at0 bs 0 - 192 := by omega
    have : (at0 bs 0 % 32 * 64 + at0 bs 1 - 128) % 64 = at0 bs 1 - 128 := by omega
    simp
    omega
   rw [e]; rfl
  ·rw [if_neg h3] at hv
   exact absurd ⟨rfl, rfl⟩ hv
 rw [if_neg h2] at hv ⊢
 by_cases h4 : (224 ≤ at0 bs 0 ∧ at0 bs 0 < 240) ∧ zaP bs 1 = true ∧ zaP bs 2 = true
 ·rw [if_pos h4] at hv ⊢
  obtain ⟨_, k1, k2⟩ := zd9 h4.2.1
  obtain ⟨hl, k3, k4⟩ := zd9 h4.2.2
  by_cases h3 : 2048 ≤ v3 bs ∧ Utf8.valid (v3 bs) = true
  ·rw [if_pos h3]
   show za9 (v3 bs) ++ bs.drop 3 = bs
   rw [za9, if_pos h3.2]
   conv => rhs; rw [split3 hl]
   have e : zbm (v3 bs) = [at0 bs 0, at0 bs 1, at0 bs 2] := by
    have h3' := h3.1
    unfold zbm v3 at *
    rw [if_neg (by omega), if_neg (by omega), if_pos (by omega)]
    simp
    omega
   rw [e]; rfl
  ·rw [if_neg h3] at hv
   exact absurd ⟨rfl, rfl⟩ hv
 rw [if_neg h4] at hv ⊢
 by_cases h5 : (240 ≤ at0 bs 0 ∧ at0 bs 0 < 248) ∧ zaP bs 1 = true ∧ zaP bs 2 = true ∧ zaP bs 3 = true
 ·rw [if_pos h5] at hv ⊢
  obtain ⟨_, k1, k2⟩ := zd9 h5.2.1
  obtain ⟨_, k3, k4⟩ := zd9 h5.2.2.1
  obtain ⟨hl, k5, k6⟩ := zd9 h5.2.2.2
  by_cases h3 : 65536 ≤ v4 bs ∧ Utf8.valid (v4 bs) = true
  ·rw [if_pos h3]
   show za9 (v4 bs) ++ bs.drop 4 = bs
   rw [za9, if_pos h3.2]
   conv => rhs; rw [split4 hl]
   have e : zbm (v4 bs) = [at0 bs 0, at0 bs 1, at0 bs 2, at0 bs 3] := by
    have h3' := h3.1
    unfold zbm v4 at *
    rw [if_neg (by omega), if_neg (by omega), if_neg (by omega)]
    simp
    omega
   rw [e]; rfl
  ·rw [if_neg h3] at hv
   exact absurd ⟨rfl, rfl⟩ hv
 ·rw [if_neg h5] at hv
  exact absurd ⟨rfl, rfl⟩ hv
theorem zma (bs : List Int) (m : Nat) : (zv bs).data.toList.drop m = (zv (bs.drop m)).data.toList := by
 rw [zbq, zbq, List.map_drop]
theorem zkT (bs : List Int) (hb : zaj bs) : (((Lib.decodeL (zv bs).data.toList).1 : Int), (Lib.decodeL (zv bs).data.toList).2) = za1 bs := by
 have h := zeb bs hb 0
 rw [List.drop_zero] at h
 exact h
theorem zj6 : ∀ (f : Nat) (bs : List Int), bs.length ≤ f → zaj bs → (Lib.validD (zv bs).data.toList = true ↔ zdA bs) := by
 intro f
 induction f with
 | zero =>
  intro bs h hb
  have : bs = [] := List.eq_nil_of_length_eq_zero (by omega)
  subst this
  exact ⟨fun _ => rfl, fun _ => rfl⟩
 | succ f ih =>
  intro bs h hb
  by_cases h0 : bs.length = 0
  ·have : bs = [] := List.eq_nil_of_length_eq_zero h0
   subst this
   exact ⟨fun _ => rfl, fun _ => rfl⟩
  have hne : (zv bs).data.toList ≠ [] := by
   intro e
   have := congrArg List.length e
   rw [zbq, List.length_map] at this
   exact h0 this
  have hd := zkT bs hb
  have hp := zbE bs
  have e1 : ((Lib.decodeL (zv bs).data.toList).1 : Int) = (za1 bs).1 := congrArg Prod.fst hd
  have e2 : (Lib.decodeL (zv bs).data.toList).2 = (za1 bs).2 := congrArg Prod.snd hd
  rw [Lib.validD_step _ hne, e2, zma]
  have hiff : ((Lib.decodeL (zv bs).data.toList).1 = 65533 ∧ (za1 bs).2 = 1) ↔ ((za1 bs).1 = 65533 ∧ (za1 bs).2 = 1) := by rw [← e1]; omega
  unfold zdA
  rw [zd2 bs (by omega), zcj]
  by_cases hv : (za1 bs).1 = 65533 ∧ (za1 bs).2 = 1
  ·rw [if_pos (hiff.2 hv)]
   refine ⟨fun e => (by cases e), fun e => ?_⟩
   rw [hv.1] at e
   have h3 := zit 65533 (by decide) (zcj (za7 (bs.drop (za1 bs).2)))
   rw [e] at h3
   have h5 : (za1 bs).2 = (za9 65533).length := congrArg Prod.snd h3
   have h4 : (za9 65533).length = 3 := by decide
   omega
  ·rw [if_neg (fun e => hv (hiff.1 e)), ih (bs.drop (za1 bs).2) (by simp; omega) (hb.drop _)]
   have hed := enc_dec bs hb (by omega) hv
   unfold zdA
   constructor
   ·intro e; rw [e]; exact hed
   ·intro e
    have := e.trans hed.symm
    exact List.append_cancel_left this
def zbf (w : World) : Prop := zcB w ∧ Lib.Utf8Tabs 0 1 w
theorem zbf.ext {w w' : World} (h : zbf w) (he : Ext w w') : zbf w' :=
 ⟨h.1.below he.below, fun c hc => he.cell (h.2.1 c hc), fun i hi => ⟨he.cell (h.2.2 i hi).1, he.cell (h.2.2 i hi).2⟩⟩
theorem zgm (bs : List Int) (hb : zaj bs) (w : World) (hl : bs.length ≤ 16777216) (hT : zbf w) (vb : Bool) (hvb : vb = true ↔ zdA bs) :
  Calls Tryz.prog 247 #[.string (zv bs)] w fun e w' => e = .returned (.bool vb) ∧ Ext w w' := by
 have hc := Any.utf8_ValidString Tryz.lays196 (zv bs) w (by rw [zai]; omega) hT.2
 refine Calls.mono hc ?_
 rintro e w' ⟨rfl, hb'⟩
 refine ⟨zw ?_, Ext.of_below hb'⟩
 have := zj6 _ bs (Nat.le_refl _) hb
 rw [Bool.eq_iff_iff, this, hvb]
theorem zcf (bs : List Int) (hb : zaj bs) (w : World) (hl : bs.length ≤ 16777216) (hT : zbf w) (ok : Bool) (hok : ok = true ↔ zaC bs = bs) :
  Calls Tryz.prog 197 #[.string (zv bs)] w fun e w' => e = .returned (.bool ok) ∧ Ext w w' := by
 obtain ⟨vb, hvb⟩ : ∃ vb : Bool, vb = true ↔ zdA bs := by
  by_cases h : zdA bs
  ·exact ⟨true, by simp [h]⟩
  ·exact ⟨false, by simp [h]⟩
 exact zjK bs hb w hl hT.1 vb hvb (fun W hW => zgm bs hb W hl (hT.ext hW) vb hvb) ok hok
def zbQ (a b : List Int) : Prop := zaC a = a ∧ zaC b = b ∧ (zp a).length + (zp b).length ≤ 300
theorem zgH (a b : List Int) (ha : zaj a) (hb : zaj b) (w : World) (hla : a.length ≤ 16777216) (hlb : b.length ≤ 16777216) (hT : zbf w) (ok : Bool) (hok : ok = true ↔ zbQ a b) :
  Calls Tryz.prog 199 #[.agg #[.string (zv a), .string (zv b)]] w fun e w' => e = .returned (.bool ok) ∧ Ext w w' := by
 have hkA := zaN a
 have hkB := zaN b
 have q0 : ∀ o, (w.alloc (.cells #[.string (zv a), .string (zv b)] o)).cell? ⟨w.heap.size, 0, none⟩ = some (.string (zv a)) := fun o => by simp [go_sem]
 have q1 : ∀ o, (w.alloc (.cells #[.string (zv a), .string (zv b)] o)).cell? ⟨w.heap.size, 1, none⟩ = some (.string (zv b)) := fun o => by simp [go_sem]
 have EA := (Ext.refl w).alloc (.cells #[.string (zv a), .string (zv b)] 132)
 obtain ⟨U, hU⟩ : ∃ U, U = w.alloc (.cells #[.string (zv a), .string (zv b)] 132) := ⟨_, rfl⟩
 have p0 := q0 132
 have p1 := q1 132
 rw [← hU] at p0 p1 EA
 have HU := zi hU
 clear hU q0 q1
 by_cases hsa : zaC a = a
 ·have hcA := zi (fun W (hW : Ext w W) => zcf a ha W hla (hT.ext hW) true (by simp [hsa]))
  by_cases hsb : zaC b = b
  ·have hcB := zi (fun W (hW : Ext w W) => zcf b hb W hlb (hT.ext hW) true (by simp [hsb]))
   have hrA := zi (fun W => zdd a ha W hla)
   have hrB := zi (fun W => zdd b hb W hlb)
   have hw : IntKind.i64.wrap (((zp a).length : Int) + ((zp b).length : Int)) = ((zp a).length : Int) + ((zp b).length : Int) := by rw [IntKind.wrap_i64]; omega
   have tokA : True := trivial
   have tokB : True := trivial
   by_cases hle : ((zp a).length : Int) + ((zp b).length : Int) ≤ 300
   ·have hfin : Hid (ok = true) := zi (hok.2 ⟨hsa, hsb, by omega⟩)
    clear hok hT hsa hsb
    go_enter Tryz.func199, Tryz.ntmps199
    go_wp2
    rw [← zg HU]
    clear HU
    go_region_held_law (fun W => W.cell? ⟨w.heap.size, 0, none⟩ = some (.string (zv a)) ∧ W.cell? ⟨w.heap.size, 1, none⟩ = some (.string (zv b)))
     (first | exact ⟨p0, p1⟩ | exact ⟨he'.cell p0, he'.cell p1⟩)
     (first
      | (go_at_call 197; have _t := tokA; refine ((zg hcA) _ EA.drew).mono ?_; rintro e w1 ⟨rfl, F1⟩; have he' := (Ext.refl U).drew.trans F1; clear tokA F1)
      | (go_at_call 197; refine ((zg hcB) _ (EA.trans he')).mono ?_; rintro e w2 ⟨rfl, F2⟩; have he' := he'.trans F2; clear F2)
      | (go_at_call 198; have _t := tokB; refine ((zg hrA) _).mono ?_; rintro e w3 ⟨rfl, F3⟩; have he' := he'.trans F3; clear tokB F3)
      | (go_at_call 198; refine ((zg hrB) _).mono ?_; rintro e w4 ⟨rfl, F4⟩; have he' := he'.trans F4; clear F4))
    all_goals
     go_wp2
     go_ret
     exact ⟨zw (by first | exact (zg hfin).symm | exact (decide_eq_false (by omega)).trans (zg hfin).symm), EA.trans he'⟩
   ·have hfin : Hid (ok = false) := by
     refine zi ?_
     cases hc : ok with
     | false => rfl
     | true => exact absurd (hok.1 hc).2.2 (by omega)
    clear hok hT hsa hsb
    go_enter Tryz.func199, Tryz.ntmps199
    go_wp2
    rw [← zg HU]
    clear HU
    go_region_held_law (fun W => W.cell? ⟨w.heap.size, 0, none⟩ = some (.string (zv a)) ∧ W.cell? ⟨w.heap.size, 1, none⟩ = some (.string (zv b)))
     (first | exact ⟨p0, p1⟩ | exact ⟨he'.cell p0, he'.cell p1⟩)
     (first
      | (go_at_call 197; have _t := tokA; refine ((zg hcA) _ EA.drew).mono ?_; rintro e w1 ⟨rfl, F1⟩; have he' := (Ext.refl U).drew.trans F1; clear tokA F1)
      | (go_at_call 197; refine ((zg hcB) _ (EA.trans he')).mono ?_; rintro e w2 ⟨rfl, F2⟩; have he' := he'.trans F2; clear F2)
      | (go_at_call 198; have _t := tokB; refine ((zg hrA) _).mono ?_; rintro e w3 ⟨rfl, F3⟩; have he' := he'.trans F3; clear tokB F3)
      | (go_at_call 198; refine ((zg hrB) _).mono ?_; rintro e w4 ⟨rfl, F4⟩; have he' := he'.trans F4; clear F4))
    all_goals
     go_wp2
     go_ret
     exact ⟨zw (by first | exact (zg hfin).symm | exact (decide_eq_false (by omega)).trans (zg hfin).symm), EA.trans he'⟩
  ·have hcB := zi (fun W (hW : Ext w W) => zcf b hb W hlb (hT.ext hW) false (by simp [hsb]))
   have hfin : Hid (ok = false) := by
    refine zi ?_
    cases hc : ok with
    | false => rfl
    | true => exact absurd (hok.1 hc).2.1 hsb
   have tokA : True := trivial
   clear hok hT hsa hsb
   go_enter Tryz.func199, Tryz.ntmps199
   go_wp2
   rw [← zg HU]
   clear HU
   first
    | (go_region_law (first
     | (go_simp; go_at_call 197; have _t := tokA; refine ((zg hcA) _ EA.drew).mono ?_; rintro e w1 ⟨rfl, F1⟩; have he' := (Ext.refl U).drew.trans F1; have p0' := he'.cell p0; have p1' := he'.cell p1; clear tokA F1)
     | (go_simp; go_at_call 197; refine ((zg hcB) _ (EA.trans he')).mono ?_; rintro e w2 ⟨rfl, F2⟩; have he' := he'.trans F2; clear F2)))
    | fail
   all_goals
    go_wp2
    go_ret
    exact ⟨zw (by first | exact (zg hfin).symm | exact (decide_eq_false (by omega)).trans (zg hfin).symm), EA.trans he'⟩
 ·have hcA := zi (fun W (hW : Ext w W) => zcf a ha W hla (hT.ext hW) false (by simp [hsa]))
  have hfin : Hid (ok = false) := by
   refine zi ?_
   cases hc : ok with
   | false => rfl
   | true => exact absurd (hok.1 hc).1 hsa
  clear hok hT hsa
  go_enter Tryz.func199, Tryz.ntmps199
  go_wp2
  rw [← zg HU]
  clear HU
  first
   | (go_region_law (first
    | (go_simp; go_at_call 197; refine ((zg hcA) _ EA.drew).mono ?_; rintro e w1 ⟨rfl, F1⟩; have he' := (Ext.refl U).drew.trans F1; clear F1)))
   | fail
  all_goals
   go_wp2
   go_ret
   exact ⟨zw (by first | exact (zg hfin).symm | exact (decide_eq_false (by omega)).trans (zg hfin).symm), EA.trans he'⟩
theorem zgM : zv [] = { data := #[] } := rfl
def zbe (bs : List Int) : Prop := zaC bs = bs ∧ (zp bs).length ≤ 300
theorem zeD (bs : List Int) : zbe bs ↔ zbQ bs [] := by
 unfold zbe zbQ
 have e1 : zaC [] = [] := rfl
 have e2 : zp [] = [] := rfl
 simp [e1, e2]
theorem zgS (bs : List Int) (hb : zaj bs) (w : World) (hl : bs.length ≤ 16777216) (hT : zbf w) (ok : Bool) (hok : ok = true ↔ zbe bs) :
  Calls Tryz.prog 155 #[.string (zv bs)] w fun e w' => e = .returned (.bool ok) ∧ Ext w w' := by
 have hs := fun W (hW : Ext w W) => zgH bs [] hb (fun x hx => by simp at hx) W hl (by simp) (hT.ext hW) ok (by rw [hok, zeD])
 rw [zgM] at hs
 have HS := zi hs
 clear hs hok
 go_enter Tryz.func155, Tryz.ntmps155
 go_wp2_with fail
 refine ((zg HS) _ (Ext.refl _)).mono ?_
 rintro e w1 ⟨rfl, F1⟩
 go_wp2
 go_ret
 exact ⟨rfl, F1⟩
def zb8 (a b c : ByteArray) (n : Nat) (tx hf : Nat → ByteArray) : Prop := n ≤ 50 ∧ zbQ (baL a) (baL b) ∧ zbe (baL c) ∧ ∀ j, j < n → zbQ (baL (tx j)) (baL (hf j))
abbrev snapD (x y : List Int) : Decidable (zbQ x y) := inferInstanceAs (Decidable (zaC x = x ∧ zaC y = y ∧ (zp x).length + (zp y).length ≤ 300))
abbrev lineD (a b c : ByteArray) (n : Nat) (tx hf : Nat → ByteArray) : Decidable (zb8 a b c n tx hf) := @instDecidableAnd _ _ _ (@instDecidableAnd _ _ (snapD _ _) (@instDecidableAnd _ _ (inferInstanceAs (Decidable (zaC (baL c) = baL c ∧ (zp (baL c)).length ≤ 300))) (@Nat.decidableBallLT n _ (fun j _ => snapD (baL (tx j)) (baL (hf j))))))
theorem za2 (p : Prop) : ∃ b : Bool, b = true ↔ p := by
 by_cases h : p
 ·exact ⟨true, by simp [h]⟩
 ·exact ⟨false, by simp [h]⟩
theorem zaz {ok : Bool} {p : Prop} (h : ok = true ↔ p) (hn : ¬ p) : ok = false := by
 cases hc : ok with
 | false => rfl
 | true => exact absurd (h.1 hc) hn
theorem zh6 (a b : ByteArray) (w : World) (hla : a.size ≤ 1048576) (hlb : b.size ≤ 1048576) (hT : zbf w) (ok : Bool) (hok : ok = true ↔ zbQ (baL a) (baL b)) :
  Calls Tryz.prog 199 #[.agg #[.string a, .string b]] w fun e w' => e = .returned (.bool ok) ∧ Ext w w' := by
 have h := zgH (baL a) (baL b) (zau a) (zau b) w (by rw [zar]; omega) (by rw [zar]; omega) hT ok hok
 rwa [zay, zay] at h
theorem zfQ (a : ByteArray) (w : World) (hla : a.size ≤ 1048576) (hT : zbf w) (ok : Bool) (hok : ok = true ↔ zbe (baL a)) :
  Calls Tryz.prog 155 #[.string a] w fun e w' => e = .returned (.bool ok) ∧ Ext w w' := by
 have h := zgS (baL a) (zau a) w (by rw [zar]; omega) hT ok hok
 rwa [zay] at h
theorem zd3 (a b c : ByteArray) (v : Value) (n : Nat) (tx hf : Nat → ByteArray) (w : World) (hv : zaH w v n (fun j => .string (tx j)) (fun j => .string (hf j))) (ha : a.size ≤ 1048576) (hb : b.size ≤ 1048576) (hc : c.size ≤ 1048576) (hn : n ≤ 1048576) (hx : ∀ j, j < n → (tx j).size ≤ 1048576 ∧ (hf j).size ≤ 1048576) (hT : zbf w) (ok : Bool) (hok : ok = true ↔ zb8 a b c n tx hf) :
  Calls Tryz.prog 141 #[.agg #[.string a, .string b, .string c, v]] w fun e w' => e = .returned (.bool ok) ∧ Ext w w' := by
 obtain ⟨ao, ca, rfl, hca, hxa⟩ := hv
 have HX := zi hxa
 have HZ := zi hx
 have HT := zi hT
 have HK := zi hok
 clear hxa hx hT hok
 have EW := (Ext.refl w).alloc (.cells #[.string a, .string b, .string c, .slice ao n ca] 37)
 have hbk := zn w (.cells #[.string a, .string b, .string c, .slice ao n ca] 37)
 obtain ⟨W1, hW1⟩ : ∃ W1, W1 = w.alloc (.cells #[.string a, .string b, .string c, .slice ao n ca] 37) := ⟨_, rfl⟩
 rw [← hW1] at EW hbk
 have p0 := zk hbk 0 _ rfl
 have p1 := zk hbk 1 _ rfl
 have p2 := zk hbk 2 _ rfl
 have p3 := zk hbk 3 _ rfl
 have HW := zi hW1
 clear hW1 hbk
 obtain ⟨bs, hbs⟩ := za2 (zbQ (baL a) (baL b))
 have hcS := zi (fun W (hW : Ext w W) => zh6 a b W ha hb ((zg HT).ext hW) bs hbs)
 have HBS := zi hbs
 clear hbs
 obtain ⟨bt, hbt⟩ := za2 (zbe (baL c))
 have hcT := zi (fun W (hW : Ext w W) => zfQ c W hc ((zg HT).ext hW) bt hbt)
 have HBT := zi hbt
 clear hbt
 go_enter Tryz.func141, Tryz.ntmps141
 go_wp2_with fail
 rw [← zg HW]
 refine ((zg hcS) _ EW).mono ?_
 rintro e w1 ⟨rfl, F1⟩
 have p2' := F1.cell p2
 have p3' := F1.cell p3
 by_cases h1 : zbQ (baL a) (baL b)
 ·obtain rfl : bs = true := (zg HBS).2 h1
  have H1 := zi h1
  clear h1
  go_wp2_with fail
  refine ((zg hcT) _ (EW.trans F1)).mono ?_
  rintro e w2 ⟨rfl, F2⟩
  have p3' := F2.cell p3'
  have E2 := F1.trans F2
  by_cases h2 : zbe (baL c)
  ·obtain rfl : bt = true := (zg HBT).2 h2
   by_cases h3 : n ≤ 50
   ·have HP := zi (And.intro (zg H1) h2)
    have h3I : (n : Int) ≤ 50 := by omega
    clear h2
    go_wp2
    go_loopw [27] (fun i wr => ∃ k : Nat, k ≤ n ∧ i = .int .i64 k ∧ Hid (∀ j, j < k → zbQ (baL (tx j)) (baL (hf j))) ∧ Ext W1 wr) (fun i _ => n - (intOf i).toNat)
    case atStart => exact ⟨0, Nat.zero_le _, rfl, zi (fun j hj => by omega), E2⟩
    case round =>
     obtain ⟨k, hk, rfl, HJ, hext⟩ := hrel
     by_cases hlt : k < n
     ·obtain ⟨bb, off, hao, hcc⟩ := (zg HX) (by omega)
      subst hao
      have hE := EW.trans hext
      have g1 := hE.cell (hcc k hlt).1
      have g2 := hE.cell (hcc k hlt).2
      have bk : (k : Int) < (n : Int) := by omega
      have hsz := (zg HZ) k hlt
      obtain ⟨bj, hbj⟩ := za2 (zbQ (baL (tx k)) (baL (hf k)))
      have HBJ := zi hbj
      have hcJ := zi (fun W (hW : Ext w W) => zh6 (tx k) (hf k) W hsz.1 hsz.2 ((zg HT).ext hW) bj hbj)
      clear hbj
      go_wp2_with fail
      refine ((zg hcJ) _ (by repeat' first | exact hE | refine Ext.alloc ?_ _ | refine Ext.setCell ?_ (by have := hE.size; dsimp only; omega) _)).mono ?_
      rintro e w3 ⟨rfl, F3⟩
      have hE3 : Ext W1 w3 := Ext.trans (by repeat' first | exact hext | refine Ext.alloc ?_ _ | refine Ext.setCell ?_ (by have := hext.size; dsimp only; omega) _) F3
      by_cases hs : zbQ (baL (tx k)) (baL (hf k))
      ·obtain rfl : bj = true := (zg HBJ).2 hs
       have HJ2 : Hid (∀ j, j < k + 1 → zbQ (baL (tx j)) (baL (hf j))) := zi (fun j hj => by
        by_cases e : j = k
        ·subst e; exact hs
        ·exact (zg HJ) j (by omega))
       clear hs
       go_wp2
       go_roundw
       case rel => exact ⟨k + 1, by omega, by go_num, HJ2, hE3⟩
       case measure => simp [intOf]; omega
      ·obtain rfl : bj = false := zaz (zg HBJ) hs
       have hfin : Hid (ok = false) := zi (zaz (zg HK) (fun h => hs (h.2.2.2 k hlt)))
       clear hs
       go_wp2
       go_ret
       exact ⟨zw (zg hfin).symm, EW.trans hE3⟩
     ·obtain rfl : k = n := by omega
      have hfin : Hid (ok = true) := zi ((zg HK).2 ⟨h3, (zg HP).1, (zg HP).2, zg HJ⟩)
      go_wp2
      go_ret
      exact ⟨zw (zg hfin).symm, EW.trans hext⟩
   ·have h3I : ¬ (n : Int) ≤ 50 := by omega
    have hfin : Hid (ok = false) := zi (zaz (zg HK) (fun h => h3 h.1))
    clear h2
    go_wp2
    go_ret
    exact ⟨zw (zg hfin).symm, EW.trans E2⟩
  ·obtain rfl : bt = false := zaz (zg HBT) h2
   have hfin : Hid (ok = false) := zi (zaz (zg HK) (fun h => h2 h.2.2.1))
   clear h2
   go_wp2
   go_ret
   exact ⟨zw (zg hfin).symm, EW.trans E2⟩
 ·obtain rfl : bs = false := zaz (zg HBS) h1
  have hfin : Hid (ok = false) := zi (zaz (zg HK) (fun h => h1 h.2.1))
  clear h1
  go_wp2
  go_ret
  exact ⟨zw (zg hfin).symm, EW.trans F1⟩
theorem zhE (v : Value) (n : Nat) (tx : Nat → ByteArray) (p : Nat → Bool) (q : Addr) (w : World) (hv : zah w v n (fun j => .string (tx j))) (hn : n ≤ 1099511627776)
  (hp : ∀ j, j < n → ∀ W, Ext w W → Calls Tryz.prog 248 #[.string (tx j), .pointer (some q)] W fun e W' => e = .returned (.bool (p j)) ∧ Ext W W') :
  Calls Tryz.prog 201 #[v, .func (.func 248) #[] #[.pointer (some q)]] w fun e w' => ∃ r : Int, e = .returned (.int .i64 r) ∧ (0 ≤ r ↔ ∃ j, j < n ∧ p j = true) ∧ Ext w w' := by
 obtain ⟨ao, ca, rfl, hca, hxa⟩ := hv
 have HX := zi hxa
 have HP := zi hp
 clear hxa hp
 go_enter Tryz.func201, Tryz.ntmps201
 go_wp2
 go_loopw [8] (fun i wr => ∃ k : Nat, k ≤ n ∧ i = .int .i64 k ∧ Hid (∀ j, j < k → p j = false) ∧ Ext w wr) (fun i _ => n - (intOf i).toNat)
 case atStart => exact ⟨0, Nat.zero_le _, rfl, zi (fun j hj => by omega), Ext.refl _⟩
 case round =>
  obtain ⟨k, hk, rfl, HJ, hext⟩ := hrel
  by_cases hlt : k < n
  ·obtain ⟨b, off, hao, hc⟩ := (zg HX) (by omega)
   subst hao
   have g1 := hext.cell (hc k hlt)
   have bk : (k : Int) < (n : Int) := by omega
   have hcon := zi ((zg HP) k hlt wr hext)
   clear hc
   go_wp2_with fail
   refine (zg hcon).mono ?_
   rintro e w2 ⟨rfl, F2⟩
   cases hb : p k with
   | true =>
    have hfin : Hid ((0 : Int) ≤ (k : Int) ↔ ∃ j, j < n ∧ p j = true) := zi ⟨fun _ => ⟨k, hlt, hb⟩, fun _ => by omega⟩
    go_wp2
    go_ret
    exact ⟨_, rfl, zg hfin, hext.trans F2⟩
   | false =>
    have HJ2 : Hid (∀ j, j < k + 1 → p j = false) := zi (fun j hj => by
     by_cases e : j = k
     ·subst e; exact hb
     ·exact (zg HJ) j (by omega))
    have hE := hext.trans F2
    go_wp2
    go_roundw
    case rel => exact ⟨k + 1, by omega, by go_num, HJ2, hE⟩
    case measure => simp [intOf]; omega
  ·obtain rfl : k = n := by omega
   have hfin : Hid ((0 : Int) ≤ -1 ↔ ∃ j, j < k ∧ p j = true) := zi ⟨fun h => by omega, fun ⟨j, h1, h2⟩ => by rw [(zg HJ) j h1] at h2; cases h2⟩
   go_wp2
   go_ret
   exact ⟨_, rfl, zg hfin, hext⟩
theorem zdl (v : Value) (n : Nat) (tx : Nat → ByteArray) (p : Nat → Bool) (q : Addr) (w : World) (hv : zah w v n (fun j => .string (tx j))) (hn : n ≤ 1099511627776)
  (hp : ∀ j, j < n → ∀ W, Ext w W → Calls Tryz.prog 248 #[.string (tx j), .pointer (some q)] W fun e W' => e = .returned (.bool (p j)) ∧ Ext W W') (ok : Bool) (hok : ok = true ↔ ∃ j, j < n ∧ p j = true) :
  Calls Tryz.prog 144 #[v, .func (.func 248) #[] #[.pointer (some q)]] w fun e w' => e = .returned (.bool ok) ∧ Ext w w' := by
 have hcon := zi (zhE v n tx p q w hv hn hp)
 obtain ⟨ao, ca, rfl, hca, hxa⟩ := hv
 have HK := zi hok
 clear hxa hp hok
 go_enter Tryz.func144, Tryz.ntmps144
 go_wp2_with fail
 refine (zg hcon).mono ?_
 rintro e w1 ⟨r, rfl, hr, F1⟩
 have hfin : Hid (decide ((0 : Int) ≤ r) = ok) := zi (by rw [Bool.eq_iff_iff, decide_eq_true_iff, hr, ← zg HK])
 clear hr
 go_wp2
 go_ret
 exact ⟨zw (zg hfin), F1⟩
theorem zhx (v : Value) (n : Nat) (tx : Nat → ByteArray) (p : Nat → Bool) (w : World) (hv : zah w v n (fun j => .string (tx j))) (hn : n ≤ 1099511627776)
  (hp : ∀ j, j < n → ∀ W, Ext w W → Calls Tryz.prog 145 #[.string (tx j)] W fun e W' => e = .returned (.bool (p j)) ∧ Ext W W') :
  Calls Tryz.prog 201 #[v, .func (.func 145) #[] #[]] w fun e w' => ∃ r : Int, e = .returned (.int .i64 r) ∧ (0 ≤ r ↔ ∃ j, j < n ∧ p j = true) ∧ Ext w w' := by
 obtain ⟨ao, ca, rfl, hca, hxa⟩ := hv
 have HX := zi hxa
 have HP := zi hp
 clear hxa hp
 go_enter Tryz.func201, Tryz.ntmps201
 go_wp2
 go_loopw [8] (fun i wr => ∃ k : Nat, k ≤ n ∧ i = .int .i64 k ∧ Hid (∀ j, j < k → p j = false) ∧ Ext w wr) (fun i _ => n - (intOf i).toNat)
 case atStart => exact ⟨0, Nat.zero_le _, rfl, zi (fun j hj => by omega), Ext.refl _⟩
 case round =>
  obtain ⟨k, hk, rfl, HJ, hext⟩ := hrel
  by_cases hlt : k < n
  ·obtain ⟨b, off, hao, hc⟩ := (zg HX) (by omega)
   subst hao
   have g1 := hext.cell (hc k hlt)
   have bk : (k : Int) < (n : Int) := by omega
   have hcon := zi ((zg HP) k hlt wr hext)
   clear hc
   go_wp2_with fail
   refine (zg hcon).mono ?_
   rintro e w2 ⟨rfl, F2⟩
   cases hb : p k with
   | true =>
    have hfin : Hid ((0 : Int) ≤ (k : Int) ↔ ∃ j, j < n ∧ p j = true) := zi ⟨fun _ => ⟨k, hlt, hb⟩, fun _ => by omega⟩
    go_wp2
    go_ret
    exact ⟨_, rfl, zg hfin, hext.trans F2⟩
   | false =>
    have HJ2 : Hid (∀ j, j < k + 1 → p j = false) := zi (fun j hj => by
     by_cases e : j = k
     ·subst e; exact hb
     ·exact (zg HJ) j (by omega))
    have hE := hext.trans F2
    go_wp2
    go_roundw
    case rel => exact ⟨k + 1, by omega, by go_num, HJ2, hE⟩
    case measure => simp [intOf]; omega
  ·obtain rfl : k = n := by omega
   have hfin : Hid ((0 : Int) ≤ -1 ↔ ∃ j, j < k ∧ p j = true) := zi ⟨fun h => by omega, fun ⟨j, h1, h2⟩ => by rw [(zg HJ) j h1] at h2; cases h2⟩
   go_wp2
   go_ret
   exact ⟨_, rfl, zg hfin, hext⟩
theorem zfD (v : Value) (n : Nat) (tx : Nat → ByteArray) (p : Nat → Bool) (w : World) (hv : zah w v n (fun j => .string (tx j))) (hn : n ≤ 1099511627776)
  (hp : ∀ j, j < n → ∀ W, Ext w W → Calls Tryz.prog 145 #[.string (tx j)] W fun e W' => e = .returned (.bool (p j)) ∧ Ext W W') (ok : Bool) (hok : ok = true ↔ ∃ j, j < n ∧ p j = true) :
  Calls Tryz.prog 144 #[v, .func (.func 145) #[] #[]] w fun e w' => e = .returned (.bool ok) ∧ Ext w w' := by
 have hcon := zi (zhx v n tx p w hv hn hp)
 obtain ⟨ao, ca, rfl, hca, hxa⟩ := hv
 have HK := zi hok
 clear hxa hp hok
 go_enter Tryz.func144, Tryz.ntmps144
 go_wp2_with fail
 refine (zg hcon).mono ?_
 rintro e w1 ⟨r, rfl, hr, F1⟩
 have hfin : Hid (decide ((0 : Int) ≤ r) = ok) := zi (by rw [Bool.eq_iff_iff, decide_eq_true_iff, hr, ← zg HK])
 clear hr
 go_wp2
 go_ret
 exact ⟨zw (zg hfin), F1⟩
def zbT (bs : List Int) : Prop := zaC bs = bs
theorem zeM (a : ByteArray) (w : World) (hla : a.size ≤ 1048576) (hT : zbf w) (ok : Bool) (hok : ok = true ↔ zbT (baL a)) :
  Calls Tryz.prog 197 #[.string a] w fun e w' => e = .returned (.bool ok) ∧ Ext w w' := by
 have h := zcf (baL a) (zau a) w (by rw [zar]; omega) hT ok hok
 rwa [zay] at h
theorem zjn (x : ByteArray) (B : Nat) (w : World) (hx : x.size ≤ 1048576) (hT : zbf w) (hq : w.cell? ⟨B, 0, none⟩ = some (.func (.func 155) #[] #[])) (ok : Bool) (hok : ok = true ↔ zbe (baL x)) :
  Calls Tryz.prog 248 #[.string x, .pointer (some ⟨B, 0, none⟩)] w fun e w' => e = .returned (.bool (!ok)) ∧ Ext w w' := by
 have hcon := zi (zfQ x w hx hT ok hok)
 clear hok hT
 go_enter Tryz.func248, Tryz.ntmps248
 go_wp2_with fail
 refine (zg hcon).mono ?_
 rintro e w1 ⟨rfl, F1⟩
 go_wp2
 go_ret
 exact ⟨rfl, F1⟩
theorem zkp (v : Value) (n : Nat) (tx : Nat → ByteArray) (w : World) (hv : zah w v n (fun j => .string (tx j))) (hn : n ≤ 1048576) (hx : ∀ j, j < n → (tx j).size ≤ 1048576) (hT : zbf w) (ok : Bool) (hok : ok = true ↔ ∀ j, j < n → zbe (baL (tx j))) :
  Calls Tryz.prog 200 #[v, .func (.func 155) #[] #[]] w fun e w' => e = .returned (.bool ok) ∧ Ext w w' := by
 have each : ∀ j, ∃ b : Bool, b = true ↔ zbe (baL (tx j)) := fun j => by
  by_cases h : zbe (baL (tx j))
  ·exact ⟨true, by simp [h]⟩
  ·exact ⟨false, by simp [h]⟩
 obtain ⟨b, hb⟩ := Classical.axiomOfChoice each
 have E0 := (Ext.refl w).alloc (.cells #[.func (.func 155) #[] #[]] 123)
 have c0 := zk (zn w (.cells #[.func (.func 155) #[] #[]] 123)) 0 _ rfl
 obtain ⟨V, hV⟩ : ∃ V, V = w.alloc (.cells #[.func (.func 155) #[] #[]] 123) := ⟨_, rfl⟩
 rw [← hV] at E0 c0
 have HV := zi hV
 have hcon := zi (zdl v n tx (fun j => !b j) ⟨w.heap.size, 0, none⟩ V (hv.ext E0) (by omega) (fun j hj W hW => zjn (tx j) w.heap.size W (hx j hj) (hT.ext (E0.trans hW)) (hW.cell c0) (b j) (hb j)) (!ok) (by
  rw [Bool.not_eq_true', ← Bool.not_eq_true, hok]
  constructor
  ·intro h
   refine Classical.byContradiction fun h2 => h fun j hj => (hb j).1 ?_
   cases e : b j with
   | true => rfl
   | false => exact absurd ⟨j, hj, by simp [e]⟩ h2
  ·rintro ⟨j, hj, h⟩ h2
   rw [(hb j).2 (h2 j hj)] at h
   cases h))
 obtain ⟨ao, ca, rfl, _, _⟩ := hv
 clear hV hok hb hT hx each
 go_enter Tryz.func200, Tryz.ntmps200
 go_wp2_with fail
 rw [← zg HV]
 refine (zg hcon).mono ?_
 rintro e w1 ⟨rfl, F1⟩
 go_wp2
 go_ret
 exact ⟨zw (by simp), E0.trans F1⟩
theorem zkf (x : ByteArray) (B : Nat) (w : World) (hx : x.size ≤ 1048576) (hT : zbf w) (hq : w.cell? ⟨B, 0, none⟩ = some (.func (.func 197) #[] #[])) (ok : Bool) (hok : ok = true ↔ zbT (baL x)) :
  Calls Tryz.prog 248 #[.string x, .pointer (some ⟨B, 0, none⟩)] w fun e w' => e = .returned (.bool (!ok)) ∧ Ext w w' := by
 have hcon := zi (zeM x w hx hT ok hok)
 clear hok hT
 go_enter Tryz.func248, Tryz.ntmps248
 go_wp2_with fail
 refine (zg hcon).mono ?_
 rintro e w1 ⟨rfl, F1⟩
 go_wp2
 go_ret
 exact ⟨rfl, F1⟩
theorem zl7 (v : Value) (n : Nat) (tx : Nat → ByteArray) (w : World) (hv : zah w v n (fun j => .string (tx j))) (hn : n ≤ 1048576) (hx : ∀ j, j < n → (tx j).size ≤ 1048576) (hT : zbf w) (ok : Bool) (hok : ok = true ↔ ∀ j, j < n → zbT (baL (tx j))) :
  Calls Tryz.prog 200 #[v, .func (.func 197) #[] #[]] w fun e w' => e = .returned (.bool ok) ∧ Ext w w' := by
 have each : ∀ j, ∃ b : Bool, b = true ↔ zbT (baL (tx j)) := fun j => by
  by_cases h : zbT (baL (tx j))
  ·exact ⟨true, by simp [h]⟩
  ·exact ⟨false, by simp [h]⟩
 obtain ⟨b, hb⟩ := Classical.axiomOfChoice each
 have E0 := (Ext.refl w).alloc (.cells #[.func (.func 197) #[] #[]] 123)
 have c0 := zk (zn w (.cells #[.func (.func 197) #[] #[]] 123)) 0 _ rfl
 obtain ⟨V, hV⟩ : ∃ V, V = w.alloc (.cells #[.func (.func 197) #[] #[]] 123) := ⟨_, rfl⟩
 rw [← hV] at E0 c0
 have HV := zi hV
 have hcon := zi (zdl v n tx (fun j => !b j) ⟨w.heap.size, 0, none⟩ V (hv.ext E0) (by omega) (fun j hj W hW => zkf (tx j) w.heap.size W (hx j hj) (hT.ext (E0.trans hW)) (hW.cell c0) (b j) (hb j)) (!ok) (by
  rw [Bool.not_eq_true', ← Bool.not_eq_true, hok]
  constructor
  ·intro h
   refine Classical.byContradiction fun h2 => h fun j hj => (hb j).1 ?_
   cases e : b j with
   | true => rfl
   | false => exact absurd ⟨j, hj, by simp [e]⟩ h2
  ·rintro ⟨j, hj, h⟩ h2
   rw [(hb j).2 (h2 j hj)] at h
   cases h))
 obtain ⟨ao, ca, rfl, _, _⟩ := hv
 clear hV hok hb hT hx each
 go_enter Tryz.func200, Tryz.ntmps200
 go_wp2_with fail
 rw [← zg HV]
 refine (zg hcon).mono ?_
 rintro e w1 ⟨rfl, F1⟩
 go_wp2
 go_ret
 exact ⟨zw (by simp), E0.trans F1⟩
theorem ziN (x : ByteArray) (w : World) (hx : x.size ≤ 1048576) (hT : zbf w) (ok : Bool) (hok : ok = true ↔ zbT (baL x) ∧ (zp (baL x)).length ≤ 40) :
  Calls Tryz.prog 139 #[.string x] w fun e w' => e = .returned (.bool ok) ∧ Ext w w' := by
 have hk := zaN (baL x)
 rw [zar] at hk
 have hrc : ∀ W, Calls Tryz.prog 198 #[.string x] W fun e w' => e = .returned (.int .i64 ((zp (baL x)).length : Int)) ∧ Ext W w' := fun W => by
  have h := zdd (baL x) (zau x) W (by rw [zar]; omega)
  rwa [zay] at h
 have HRC := zi hrc
 have HK := zi hok
 clear hrc hok
 by_cases hs : zbT (baL x)
 ·have hcon := zi (zeM x w hx hT true (by simp [hs]))
  by_cases hl : ((zp (baL x)).length : Int) ≤ 40
  ·have hfin : Hid (ok = true) := zi ((zg HK).2 ⟨hs, by omega⟩)
   clear hs hT
   go_enter Tryz.func139, Tryz.ntmps139
   go_wp2_with fail
   refine (zg hcon).mono ?_
   rintro e w1 ⟨rfl, F1⟩
   go_wp2_with fail
   refine ((zg HRC) w1).mono ?_
   rintro e w2 ⟨rfl, F2⟩
   go_wp2
   go_ret
   exact ⟨zw (zg hfin).symm, F1.trans F2⟩
  ·have hfin : Hid (ok = false) := by
    refine zi ?_
    cases hc : ok with
    | false => rfl
    | true => exact absurd ((zg HK).1 hc).2 (by omega)
   clear hs hT
   go_enter Tryz.func139, Tryz.ntmps139
   go_wp2_with fail
   refine (zg hcon).mono ?_
   rintro e w1 ⟨rfl, F1⟩
   go_wp2_with fail
   refine ((zg HRC) w1).mono ?_
   rintro e w2 ⟨rfl, F2⟩
   go_wp2
   go_ret
   exact ⟨zw (by rw [zg hfin]; exact decide_eq_false (by omega)), F1.trans F2⟩
 ·have hcon := zi (zeM x w hx hT false (by simp [hs]))
  have hfin : Hid (ok = false) := by
   refine zi ?_
   cases hc : ok with
   | false => rfl
   | true => exact absurd ((zg HK).1 hc).1 hs
  clear hs hT
  go_enter Tryz.func139, Tryz.ntmps139
  go_wp2_with fail
  refine (zg hcon).mono ?_
  rintro e w1 ⟨rfl, F1⟩
  go_wp2
  go_ret
  exact ⟨zw (zg hfin).symm, F1⟩
end Go.Proofs.YtmlkpdbfnffoaaaGreatDoor
