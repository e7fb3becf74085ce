import Derived.Test.YtmlkpdbfnffoaaaGreatDoorHistS
namespace Go.Proofs.YtmlkpdbfnffoaaaGreatDoor
open Go.RowKit
set_option linter.unusedSimpArgs false in
set_option maxRecDepth 10000 in
set_option maxHeartbeats 8000000 in
theorem zcU (a b c : ByteArray) (ao : Option Addr) (n ca : Nat) (tx hf : Nat → ByteArray) (w : World) (hv : zaH w (.slice ao n ca) n (fun j => .string (tx j)) (fun j => .string (hf j))) (ha : a.size ≤ 1048576) (hb : b.size ≤ 1048576) (hc : c.size ≤ 1048576) (hx : ∀ j, j < n → (tx j).size ≤ 1048576 ∧ (hf j).size ≤ 1048576) (ok : Bool) (hok : ok = true ↔ zb8 a b c n tx hf) :
  Calls Tryz.prog 75 #[.agg #[.string a, .string b, .string c, .slice ao n ca]] w fun e w' => e = .returned (.bool ok) ∧ Ext w w' := by
 obtain ⟨ic, hic, hc0, hc1, hc2⟩ := info_parts zdi
 have HX := zi hx
 rw [zl6] at hok
 by_cases hn : n ≤ 50
 ·have hnI : (n : Int) ≤ 50 := by omega
  have hxa := hv
  obtain ⟨ao2, ca', hvv, hca, hxb⟩ := id hv
  have HK := zi hok
  have HV := zi hv
  clear hok hv hx hxa hxb hca
  have EW := ((Ext.refl w).alloc (.cells #[.string a, .string b, .string c, .slice ao n ca] 37)).alloc (.cells #[.string a, .string b, .string c, .string noT] 132)
  obtain ⟨U0, hU0⟩ : ∃ U0, U0 = w.alloc (.cells #[.string a, .string b, .string c, .slice ao n ca] 37) := ⟨_, rfl⟩
  have hz0 : U0.heap.size = w.heap.size + 1 := by rw [hU0]; simp
  rw [← hU0] at EW
  have OW := zi (zmO U0 #[.string a, .string b, .string c, .string noT] 132 2 2 w.heap.size (by omega) rfl (by unfold maxLen; omega))
  rw [hz0] at OW
  obtain ⟨W1, hW1⟩ : ∃ W1, W1 = U0.alloc (.cells #[.string a, .string b, .string c, .string noT] 132) := ⟨_, rfl⟩
  have hz1 : W1.heap.size = w.heap.size + 2 := by rw [hW1]; simp [hz0]
  rw [← hW1] at EW OW
  rw [hU0] at hW1
  have HW := zi hW1
  have HN : Hid (Src W1 2 (.slice ao n ca) n (zaZ (fun j => .string (tx j)) (fun j => .string (hf j)) n)) := by
   refine zi ⟨zdH _ _ _, zgw, ?_⟩
   obtain ⟨ao', ca', hvv, hca, hxb⟩ := ((zg HV).ext EW)
   simp only [Value.slice.injEq] at hvv
   obtain ⟨rfl, -, rfl⟩ := hvv
   by_cases h0 : n = 0
   ·subst h0
    cases ao with
    | none => exact .inl ⟨ca, rfl, rfl⟩
    | some ad => exact .inr ⟨ad, ca, rfl, fun j u hu => by simp [zaZ] at hu⟩
   ·obtain ⟨bb, off, e, hcc⟩ := hxb (by omega)
    subst e
    exact .inr ⟨_, ca, rfl, zf9 hcc⟩
  clear hU0 hz0 hW1 hvv
  go_enter Tryz.func75, Tryz.ntmps75
  go_wp2_with (at_builtin; rw [← zg HW]; go_must (refine zao rfl _ _ 35 rfl w.heap.size 132 ic (.agg #[.string noT, .string noT]) 2 32 Tryz.underlying35 hic hc0 hc1 hc2 rfl (by decide) _ 2 [.string a, .string b, .string c, .string noT] rfl (zg OW) _ n (zaZ (fun j => .string (tx j)) (fun j => .string (hf j)) n) rfl (zg HN) (by unfold maxLen; omega) (by omega) (by omega) ?_))
  intro v2 w2 o2 G2 _
  have E2 : Ext w w2 := EW.grown G2 (fun q hq => by simp [Value.ownBlock] at hq; omega)
  have o2' := sn_own o2
  obtain ⟨a2, c2, rfl, hc2', hx2⟩ := o2'.reads
  have H2 := zi hx2
  clear o2 o2' hx2 G2 HN OW HV
  go_wp2
  go_loopw [4] (fun i wr => ∃ k : Nat, k ≤ 2 + n ∧ i = .int .i64 k ∧ Hid (∀ j, j < k → zbQ (baL (snT a c tx j)) (baL (snH b hf j))) ∧ Ext w2 wr) (fun i _ => 2 + n - (intOf i).toNat)
  case atStart => exact ⟨0, Nat.zero_le _, rfl, zi (fun j hj => by omega), Ext.refl _⟩
  case round =>
   obtain ⟨k, hk, rfl, HJ, hext⟩ := hrel
   by_cases hlt : k < 2 + n
   ·obtain ⟨bb, off, hao, hcc⟩ := (zg H2) (by omega)
    subst hao
    have g1 := hext.cell (hcc k hlt).1
    have g2 := hext.cell (hcc k hlt).2
    have bk : (k : Int) < 2 + (n : Int) := by omega
    have hsT := znb (n := n) ha hc (fun j hj => ((zg HX) j hj).1) k (by omega)
    have hsH := zmV (n := n) hb (fun j hj => ((zg HX) j hj).2) k (by omega)
    have HS2 := zi (fun (h : zbQ (baL (snT a c tx k)) (baL (snH b hf k))) j (hj : j < k + 1) => show zbQ (baL (snT a c tx j)) (baL (snH b hf j)) by
     by_cases e : j = k
     ·subst e; exact h
     ·exact (zg HJ) j (by omega))
    have HF := zi (fun (h : ¬ zbQ (baL (snT a c tx k)) (baL (snH b hf k))) => zaz (zg HK) (fun hh => h (hh.2 k (by omega))))
    obtain ⟨T, hT⟩ : ∃ T, T = snT a c tx k := ⟨_, rfl⟩
    obtain ⟨H, hH⟩ : ∃ H, H = snH b hf k := ⟨_, rfl⟩
    rw [← hT] at g1 hsT HS2 HF
    rw [← hH] at g2 hsH HS2 HF
    clear hT hH hcc
    have hbU := zn wr (.cells #[.string T, .string H] 132)
    have EU := hext.alloc (.cells #[.string T, .string H] 132)
    obtain ⟨U, hU⟩ : ∃ U, U = wr.alloc (.cells #[.string T, .string H] 132) := ⟨_, rfl⟩
    rw [← hU] at hbU EU
    have p0 := zk hbU 0 _ rfl
    have p1 := zk hbU 1 _ rfl
    have HU := zi hU
    clear hU hbU
    by_cases hTP : zbe (baL T)
    ·have hcT := zi (fun W => zb4 T W hsT true (by simp [hTP]))
     by_cases hHP : zbe (baL H)
     ·have hcH := zi (fun W => zb4 H W hsH true (by simp [hHP]))
      have hrT := zi (fun W => zdy T W hsT)
      have hrH := zi (fun W => zdy H W hsH)
      have hkA := zaN (baL T)
      have hkB := zaN (baL H)
      rw [zar] at hkA hkB
      have hw : IntKind.i64.wrap (((zp (baL T)).length : Int) + ((zp (baL H)).length : Int)) = ((zp (baL T)).length : Int) + ((zp (baL H)).length : Int) := by rw [IntKind.wrap_i64]; omega
      have tokA : True := trivial
      have tokB : True := trivial
      by_cases hle : ((zp (baL T)).length : Int) + ((zp (baL H)).length : Int) ≤ 300
      ·have HJ2 := zi ((zg HS2) ⟨hTP.1, hHP.1, by omega⟩)
       clear HS2 HF hTP hHP
       go_wp2
       rw [← zg HU]
       clear HU
       first
        | (go_region_held_law (fun W => W.cell? ⟨wr.heap.size, 0, none⟩ = some (.string T) ∧ W.cell? ⟨wr.heap.size, 1, none⟩ = some (.string H)) (first | exact ⟨p0, p1⟩ | exact ⟨he'.cell p0, he'.cell p1⟩)
          (first
           | (go_at_call 73; have _t := tokA; refine ((zg hcT) _).mono ?_; rintro e w5 ⟨rfl, F5⟩; have he' := (Ext.refl U).drew.trans F5; clear tokA F5)
           | (go_at_call 73; refine ((zg hcH) _).mono ?_; rintro e w6 ⟨rfl, F6⟩; have he' := he'.trans F6; clear F6)
           | (go_at_call 113; have _t := tokB; refine ((zg hrT) _).mono ?_; rintro e w7 ⟨rfl, F7⟩; have he' := he'.trans F7; clear tokB F7)
           | (go_at_call 113; refine ((zg hrH) _).mono ?_; rintro e w8 ⟨rfl, F8⟩; have he' := he'.trans F8; clear F8)))
        | fail
       all_goals
        have hE2 := EU.trans he'
        go_wp2
        go_roundw
        case rel => exact ⟨k + 1, by omega, by go_num, HJ2, hE2⟩
        case measure => simp [intOf]; omega
      ·have hfin := zi ((zg HF) (fun h => hle (by have := h.2.2; omega)))
       clear HS2 HF hTP hHP
       go_wp2
       rw [← zg HU]
       clear HU
       first
        | (go_region_held_law (fun W => W.cell? ⟨wr.heap.size, 0, none⟩ = some (.string T) ∧ W.cell? ⟨wr.heap.size, 1, none⟩ = some (.string H)) (first | exact ⟨p0, p1⟩ | exact ⟨he'.cell p0, he'.cell p1⟩)
          (first
           | (go_at_call 73; have _t := tokA; refine ((zg hcT) _).mono ?_; rintro e w5 ⟨rfl, F5⟩; have he' := (Ext.refl U).drew.trans F5; clear tokA F5)
           | (go_at_call 73; refine ((zg hcH) _).mono ?_; rintro e w6 ⟨rfl, F6⟩; have he' := he'.trans F6; clear F6)
           | (go_at_call 113; have _t := tokB; refine ((zg hrT) _).mono ?_; rintro e w7 ⟨rfl, F7⟩; have he' := he'.trans F7; clear tokB F7)
           | (go_at_call 113; refine ((zg hrH) _).mono ?_; rintro e w8 ⟨rfl, F8⟩; have he' := he'.trans F8; clear F8)))
        | fail
       all_goals
        go_wp2
        go_ret
        exact ⟨zw (zg hfin).symm, E2.trans (EU.trans he')⟩
     ·have hcH := zi (fun W => zb4 H W hsH false (by simp [hHP]))
      have hfin := zi ((zg HF) (fun h => hHP ⟨h.2.1, by have := h.2.2; omega⟩))
      clear HS2 HF hTP hHP
      go_wp2
      rw [← zg HU]
      clear HU
      refine wp_region_held_drew (S := fun W => W.cell? ⟨wr.heap.size, 0, none⟩ = some (.string T) ∧ W.cell? ⟨wr.heap.size, 1, none⟩ = some (.string H)) (by kernel_rfl) ⟨p0, p1⟩ (fun hHeld => ?_)
      refine tk 0 ?_ rfl (by kernel_rfl) (fun _ _ _ h => h) (by rfl) ?_ (by assumption) ?_
      rotate_left
      ·intro w' hSw; go_simp <;> with_reducible rfl
      simp only [Act.put, q9]
      refine tk 1 ?_ rfl (by kernel_rfl) (fun _ _ _ h => h) (by rfl) ?_ (by assumption) ?_
      rotate_left
      ·intro w' hSw; go_simp <;> with_reducible rfl
      simp only [Act.put, q9]
      refine rdy 2 (by kernel_rfl) rfl (fun K hK => ?_)
      go_simp
      go_wp2_with (go_at_call 73; refine ((zg hcT) _).mono ?_; rintro e w5 ⟨rfl, F5⟩; have he' := (Ext.refl U).drew.trans F5; clear F5)
      refine hK.out _ _ ⟨he'.cell p0, he'.cell p1⟩ (fun hHeld => ?_)
      clear hK K
      refine tk 3 ?_ rfl (by kernel_rfl) (fun _ _ _ h => h) (by rfl) ?_ (by assumption) ?_
      rotate_left
      ·intro w' hSw; go_simp <;> with_reducible rfl
      simp only [Act.put, q9]
      refine tk 4 ?_ rfl (by kernel_rfl) (fun _ _ _ h => h) (by rfl) ?_ (by assumption) ?_
      rotate_left
      ·intro w' hSw; go_simp <;> with_reducible rfl
      simp only [Act.put, q9]
      refine tk 5 ?_ rfl (by kernel_rfl) (fun _ _ _ h => h) (by rfl) ?_ (by assumption) ?_
      rotate_left
      ·intro w' hSw; go_simp <;> with_reducible rfl
      simp only [Act.put, q9]
      refine tk 6 ?_ rfl (by kernel_rfl) (fun _ _ _ h => h) (by rfl) ?_ (by assumption) ?_
      rotate_left
      ·intro w' hSw; go_simp <;> with_reducible rfl
      simp only [Act.put, q9]
      refine rdy 7 (by kernel_rfl) rfl (fun K hK => ?_)
      go_simp
      go_wp2_with (go_at_call 73; refine ((zg hcH) _).mono ?_; rintro e w6 ⟨rfl, F6⟩; have he' := he'.trans F6; clear F6)
      refine hK.out _ _ ⟨he'.cell p0, he'.cell p1⟩ (fun hHeld => ?_)
      clear hK K
      refine tk 8 ?_ rfl (by kernel_rfl) (fun _ _ _ h => h) (by rfl) ?_ (by assumption) ?_
      rotate_left
      ·intro w' hSw; go_simp <;> with_reducible rfl
      simp only [Act.put, q9]
      refine tk 9 ?_ rfl (by kernel_rfl) (fun _ _ _ h => h) (by rfl) ?_ (by assumption) ?_
      rotate_left
      ·intro w' hSw; go_simp <;> with_reducible rfl
      simp only [Act.put, q9]
      refine tk 10 ?_ rfl (by kernel_rfl) (fun _ _ _ h => h) (by rfl) ?_ (by assumption) ?_
      rotate_left
      ·intro w' hSw; go_simp <;> with_reducible rfl
      simp only [Act.put, q9]
      refine wpAnyH_take (i := 11) (v := undef) rfl (by kernel_rfl) (by kernel_rfl) (by kernel_rfl) (fun _ _ _ h => h) (Or.inr ⟨by rfl, rfl⟩) (by assumption) ?_
      simp only [Act.put, q9]
      refine wpAnyH_take (i := 12) (v := undef) rfl (by kernel_rfl) (by kernel_rfl) (by kernel_rfl) (fun _ _ _ h => h) (Or.inr ⟨by rfl, rfl⟩) (by assumption) ?_
      simp only [Act.put, q9]
      refine wpAnyH_take (i := 13) (v := undef) rfl (by kernel_rfl) (by kernel_rfl) (by kernel_rfl) (fun _ _ _ h => h) (Or.inr ⟨by rfl, rfl⟩) (by assumption) ?_
      simp only [Act.put, q9]
      refine wpAnyH_take (i := 14) (v := undef) rfl (by kernel_rfl) (by kernel_rfl) (by kernel_rfl) (fun _ _ _ h => h) (Or.inr ⟨by rfl, rfl⟩) (by assumption) ?_
      simp only [Act.put, q9]
      refine wpAnyH_take (i := 15) (v := undef) rfl (by kernel_rfl) (by kernel_rfl) (by kernel_rfl) (fun _ _ _ h => h) (Or.inr ⟨by rfl, rfl⟩) (by assumption) ?_
      simp only [Act.put, q9]
      refine wpAnyH_take (i := 16) (v := undef) rfl (by kernel_rfl) (by kernel_rfl) (by kernel_rfl) (fun _ _ _ h => h) (Or.inr ⟨by rfl, rfl⟩) (by assumption) ?_
      simp only [Act.put, q9]
      refine wpAnyH_take (i := 17) (v := undef) rfl (by kernel_rfl) (by kernel_rfl) (by kernel_rfl) (fun _ _ _ h => h) (Or.inr ⟨by rfl, rfl⟩) (by assumption) ?_
      simp only [Act.put, q9]
      refine wpAnyH_take (i := 18) (v := undef) rfl (by kernel_rfl) (by kernel_rfl) (by kernel_rfl) (fun _ _ _ h => h) (Or.inr ⟨by rfl, rfl⟩) (by assumption) ?_
      simp only [Act.put, q9]
      refine tk 19 ?_ rfl (by kernel_rfl) (fun _ _ _ h => h) (by rfl) ?_ (by assumption) ?_
      rotate_left
      ·intro w' hSw; go_simp <;> with_reducible rfl
      simp only [Act.put, q9]
      refine wpAnyH_done (by kernel_rfl) ?_ _
      go_wp2
      go_ret
      exact ⟨zw (zg hfin).symm, E2.trans (EU.trans he')⟩
    ·have hcT := zi (fun W => zb4 T W hsT false (by simp [hTP]))
     have hfin := zi ((zg HF) (fun h => hTP ⟨h.1, by have := h.2.2; omega⟩))
     clear HS2 HF hTP
     go_wp2
     rw [← zg HU]
     clear HU
     refine wp_region_held_drew (S := fun W => W.cell? ⟨wr.heap.size, 0, none⟩ = some (.string T) ∧ W.cell? ⟨wr.heap.size, 1, none⟩ = some (.string H)) (by kernel_rfl) ⟨p0, p1⟩ (fun hHeld => ?_)
     refine tk 0 ?_ rfl (by kernel_rfl) (fun _ _ _ h => h) (by rfl) ?_ (by assumption) ?_
     rotate_left
     ·intro w' hSw; go_simp <;> with_reducible rfl
     simp only [Act.put, q9]
     refine tk 1 ?_ rfl (by kernel_rfl) (fun _ _ _ h => h) (by rfl) ?_ (by assumption) ?_
     rotate_left
     ·intro w' hSw; go_simp <;> with_reducible rfl
     simp only [Act.put, q9]
     refine rdy 2 (by kernel_rfl) rfl (fun K hK => ?_)
     go_simp
     go_wp2_with (go_at_call 73; refine ((zg hcT) _).mono ?_; rintro e w5 ⟨rfl, F5⟩; have he' := (Ext.refl U).drew.trans F5; clear F5)
     refine hK.out _ _ ⟨he'.cell p0, he'.cell p1⟩ (fun hHeld => ?_)
     clear hK K
     refine tk 3 ?_ rfl (by kernel_rfl) (fun _ _ _ h => h) (by rfl) ?_ (by assumption) ?_
     rotate_left
     ·intro w' hSw; go_simp <;> with_reducible rfl
     simp only [Act.put, q9]
     refine tk 4 ?_ rfl (by kernel_rfl) (fun _ _ _ h => h) (by rfl) ?_ (by assumption) ?_
     rotate_left
     ·intro w' hSw; go_simp <;> with_reducible rfl
     simp only [Act.put, q9]
     refine wpAnyH_take (i := 5) (v := undef) rfl (by kernel_rfl) (by kernel_rfl) (by kernel_rfl) (fun _ _ _ h => h) (Or.inr ⟨by rfl, rfl⟩) (by assumption) ?_
     simp only [Act.put, q9]
     refine wpAnyH_take (i := 6) (v := undef) rfl (by kernel_rfl) (by kernel_rfl) (by kernel_rfl) (fun _ _ _ h => h) (Or.inr ⟨by rfl, rfl⟩) (by assumption) ?_
     simp only [Act.put, q9]
     refine wpAnyH_take (i := 7) (v := undef) rfl (by kernel_rfl) (by kernel_rfl) (by kernel_rfl) (fun _ _ _ h => h) (Or.inr ⟨by rfl, rfl⟩) (by assumption) ?_
     simp only [Act.put, q9]
     refine wpAnyH_take (i := 8) (v := undef) rfl (by kernel_rfl) (by kernel_rfl) (by kernel_rfl) (fun _ _ _ h => h) (Or.inr ⟨by rfl, rfl⟩) (by assumption) ?_
     simp only [Act.put, q9]
     refine tk 9 ?_ rfl (by kernel_rfl) (fun _ _ _ h => h) (by rfl) ?_ (by assumption) ?_
     rotate_left
     ·intro w' hSw; go_simp <;> with_reducible rfl
     simp only [Act.put, q9]
     refine tk 10 ?_ rfl (by kernel_rfl) (fun _ _ _ h => h) (by rfl) ?_ (by assumption) ?_
     rotate_left
     ·intro w' hSw; go_simp <;> with_reducible rfl
     simp only [Act.put, q9]
     refine wpAnyH_take (i := 11) (v := undef) rfl (by kernel_rfl) (by kernel_rfl) (by kernel_rfl) (fun _ _ _ h => h) (Or.inr ⟨by rfl, rfl⟩) (by assumption) ?_
     simp only [Act.put, q9]
     refine wpAnyH_take (i := 12) (v := undef) rfl (by kernel_rfl) (by kernel_rfl) (by kernel_rfl) (fun _ _ _ h => h) (Or.inr ⟨by rfl, rfl⟩) (by assumption) ?_
     simp only [Act.put, q9]
     refine wpAnyH_take (i := 13) (v := undef) rfl (by kernel_rfl) (by kernel_rfl) (by kernel_rfl) (fun _ _ _ h => h) (Or.inr ⟨by rfl, rfl⟩) (by assumption) ?_
     simp only [Act.put, q9]
     refine wpAnyH_take (i := 14) (v := undef) rfl (by kernel_rfl) (by kernel_rfl) (by kernel_rfl) (fun _ _ _ h => h) (Or.inr ⟨by rfl, rfl⟩) (by assumption) ?_
     simp only [Act.put, q9]
     refine wpAnyH_take (i := 15) (v := undef) rfl (by kernel_rfl) (by kernel_rfl) (by kernel_rfl) (fun _ _ _ h => h) (Or.inr ⟨by rfl, rfl⟩) (by assumption) ?_
     simp only [Act.put, q9]
     refine wpAnyH_take (i := 16) (v := undef) rfl (by kernel_rfl) (by kernel_rfl) (by kernel_rfl) (fun _ _ _ h => h) (Or.inr ⟨by rfl, rfl⟩) (by assumption) ?_
     simp only [Act.put, q9]
     refine wpAnyH_take (i := 17) (v := undef) rfl (by kernel_rfl) (by kernel_rfl) (by kernel_rfl) (fun _ _ _ h => h) (Or.inr ⟨by rfl, rfl⟩) (by assumption) ?_
     simp only [Act.put, q9]
     refine wpAnyH_take (i := 18) (v := undef) rfl (by kernel_rfl) (by kernel_rfl) (by kernel_rfl) (fun _ _ _ h => h) (Or.inr ⟨by rfl, rfl⟩) (by assumption) ?_
     simp only [Act.put, q9]
     refine tk 19 ?_ rfl (by kernel_rfl) (fun _ _ _ h => h) (by rfl) ?_ (by assumption) ?_
     rotate_left
     ·intro w' hSw; go_simp <;> with_reducible rfl
     simp only [Act.put, q9]
     refine wpAnyH_done (by kernel_rfl) ?_ _
     go_wp2
     go_ret
     exact ⟨zw (zg hfin).symm, E2.trans (EU.trans he')⟩
   ·obtain rfl : k = 2 + n := by omega
    have hfin : Hid (ok = true) := zi ((zg HK).2 ⟨hn, fun j hj => (zg HJ) j (by omega)⟩)
    go_wp2
    go_ret
    exact ⟨zw (zg hfin).symm, E2.trans hext⟩
 ·have hnI : ¬ (n : Int) ≤ 50 := by omega
  have hfin : Hid (ok = false) := zi (zaz hok (fun h => hn h.1))
  clear hok hv hx HX
  go_enter Tryz.func75, Tryz.ntmps75
  go_wp2
  go_ret
  exact ⟨zw (zg hfin).symm, (Ext.refl _).alloc _⟩
end Go.Proofs.YtmlkpdbfnffoaaaGreatDoor
