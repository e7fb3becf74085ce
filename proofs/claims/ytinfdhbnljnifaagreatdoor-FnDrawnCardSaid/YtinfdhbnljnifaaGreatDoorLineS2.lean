import Derived.Test.YtinfdhbnljnifaaGreatDoorWhole
import Derived.Test.YtinfdhbnljnifaaGreatDoorKys
import Derived.Test.YtinfdhbnljnifaaGreatDoorEdW2
import Derived.Deep.RegionHeldLaw
namespace Go.Proofs.YtinfdhbnljnifaaGreatDoor
open Go.RowKit
theorem ze1 : ∀ xs : List Int, (zaO xs).length ≤ 4 * xs.length
 | [] => by simp [zaO]
 | x :: xs => by
  have := ze1 xs
  have h2 : (zac x).length ≤ 4 := by
   unfold zac zbd
   repeat' split
   all_goals simp
  simp only [zaO, List.length_append, List.length_cons]
  omega
theorem zhI (bs : List Int) (h : zas bs = bs) : bs.length ≤ 4 * (zm bs).length := by
 have hv := ((zjG bs).1 h).2.2
 have h1 := ze1 (zbJ bs)
 rw [hv] at h1
 rw [zf6, List.length_map]
 exact h1
theorem zng {bs : List Int} (h : bs ≠ []) : (zo bs).toList.isEmpty = false := by
 rw [zbR, za9]
 cases bs with
 | nil => exact absurd rfl h
 | cons a r => rfl
def snT (a c : ByteArray) (tx : Nat → ByteArray) : Nat → ByteArray
 | 0 => a
 | 1 => c
 | j + 2 => tx j
def snH (b : ByteArray) (hf : Nat → ByteArray) : Nat → ByteArray
 | 0 => b
 | 1 => noT
 | j + 2 => hf j
theorem zmR (a b c : ByteArray) (n : Nat) (tx hf : Nat → ByteArray) : zcJ a b c n tx hf ↔ n ≤ 50 ∧ ∀ j, j < n + 2 → zb7 (baL (snT a c tx j)) (baL (snH b hf j)) := by
 unfold zcJ
 constructor
 ·rintro ⟨h1, h2, h3, h4⟩
  refine ⟨h1, fun j hj => ?_⟩
  match j, hj with
  | 0, _ => exact h2
  | 1, _ => exact (zgq _).1 h3
  | j + 2, hj => exact h4 j (by omega)
 ·rintro ⟨h1, h2⟩
  exact ⟨h1, h2 0 (by omega), (zgq _).2 (h2 1 (by omega)), fun j hj => h2 (j + 2) (by omega)⟩
theorem zbL (a : ByteArray) (w : World) (hla : a.size ≤ 1048576) (ok : Bool) (hok : ok = true ↔ zc1 (baL a)) :
  Calls Tryz.prog 174 #[.string a, .int .i64 300] w fun e w' => e = .returned (.bool ok) ∧ Ext w w' := by
 have h := ziF (baL a) (zf a) w (by rw [zw]; omega) ok (by
  rw [hok]
  unfold zc1
  constructor
  ·rintro ⟨h1, h2⟩
   have := zhI _ h1
   exact ⟨by omega, h2, h1⟩
  ·rintro ⟨_, h1, h2⟩
   exact ⟨h2, h1⟩)
 rwa [zat] at h
theorem zdD (a : ByteArray) (w : World) (hla : a.size ≤ 1048576) :
  Calls Tryz.prog 140 #[.string a] w fun e w' => e = .returned (.int .i64 ((zm (baL a)).length : Int)) ∧ Ext w w' := by
 have h := zcl (baL a) (zf a) w (by rw [zw]; omega)
 rwa [zat] at h
theorem znS {a c : ByteArray} {tx : Nat → ByteArray} {n : Nat} (ha : a.size ≤ 1048576) (hc : c.size ≤ 1048576) (hx : ∀ j, j < n → (tx j).size ≤ 1048576) : ∀ j, j < n + 2 → (snT a c tx j).size ≤ 1048576
 | 0, _ => ha
 | 1, _ => hc
 | j + 2, hj => hx j (by omega)
theorem zoj {b : ByteArray} {hf : Nat → ByteArray} {n : Nat} (hb : b.size ≤ 1048576) (hx : ∀ j, j < n → (hf j).size ≤ 1048576) : ∀ j, j < n + 2 → (snH b hf j).size ≤ 1048576
 | 0, _ => hb
 | 1, _ => by show noT.size ≤ _; decide
 | j + 2, hj => hx j (by omega)
theorem zof (w : World) (cs : Array Value) (t : TypeId) (n size base : Nat) (hb : base ≤ w.heap.size) (hs : cs.size = n * size) (hn : n ≤ maxLen) : (w.alloc (.cells cs t)).ownsRow base t size (.slice (some ⟨w.heap.size, 0, none⟩) n n) n cs.toList :=
 ⟨by simpa using hs, .inr ⟨w.heap.size, n, cs, rfl, hb, zk w _, Nat.le_refl _, hn, hs, by rw [← hs, ← Array.length_toList, List.take_length]⟩⟩
theorem sn_own {w : World} {a b c : ByteArray} {n : Nat} {tx hf : Nat → ByteArray} {base : Nat} {v : Value} {T : TypeId}
  (h : w.ownsRow base T 2 v (2 + n) ([.string a, .string b, .string c, .string noT] ++ zaK (fun j => .string (tx j)) (fun j => .string (hf j)) n)) :
  zaG w base T v (2 + n) (fun j => .string (snT a c tx j)) (fun j => .string (snH b hf j)) := by
 refine ⟨_, h, fun j hj => ?_⟩
 match j, hj with
 | 0, _ => exact ⟨rfl, rfl⟩
 | 1, _ => exact ⟨rfl, rfl⟩
 | j + 2, hj =>
  obtain ⟨h1, h2⟩ := zdm (fun j => .string (tx j)) (fun j => .string (hf j)) n j (by omega)
  constructor
  ·rw [List.getElem?_append_right (by simp; omega)]
   have e : (j + 2) * 2 - 4 = j * 2 := by omega
   simpa [e, snT] using h1
  ·rw [List.getElem?_append_right (by simp; omega)]
   have e : (j + 2) * 2 + 1 - 4 = j * 2 + 1 := by omega
   simpa [e, snH] using h2
set_option linter.unusedSimpArgs false in
set_option maxRecDepth 10000 in
set_option maxHeartbeats 8000000 in
theorem zb5 (a b c : ByteArray) (ao : Option Addr) (n ca : Nat) (tx hf : Nat → ByteArray) (w : World) (hv : zag w (.slice ao n ca) n (fun j => .string (tx j)) (fun j => .string (hf j))) (ha : a.size ≤ 1048576) (hb : b.size ≤ 1048576) (hc : c.size ≤ 1048576) (hx : ∀ j, j < n → (tx j).size ≤ 1048576 ∧ (hf j).size ≤ 1048576) (ok : Bool) (hok : ok = true ↔ zcJ a b c n tx hf) :
  Calls Tryz.prog 131 #[.agg #[.string a, .string b, .string c, .slice ao n ca]] w fun e w' => e = .returned (.bool ok) ∧ Ext w w' := by
 obtain ⟨ic, hic, hc0, hc1, hc2⟩ := info_parts zgV
 have HX := zh hx
 rw [zmR] at hok
 by_cases hn : n ≤ 50
 ·have hnI : (n : Int) ≤ 50 := by omega
  have hxa := hv
  obtain ⟨ao2, ca', hvv, hca, hxb⟩ := id hv
  have HK := zh hok
  have HV := zh hv
  clear hok hv hx hxa hxb hca
  have EW := ((Ext.refl w).alloc (.cells #[.string a, .string b, .string c, .slice ao n ca] 99)).alloc (.cells #[.string a, .string b, .string c, .string noT] 201)
  obtain ⟨U0, hU0⟩ : ∃ U0, U0 = w.alloc (.cells #[.string a, .string b, .string c, .slice ao n ca] 99) := ⟨_, rfl⟩
  have hz0 : U0.heap.size = w.heap.size + 1 := by rw [hU0]; simp
  rw [← hU0] at EW
  have OW := zh (zof U0 #[.string a, .string b, .string c, .string noT] 201 2 2 w.heap.size (by omega) rfl (by unfold maxLen; omega))
  rw [hz0] at OW
  obtain ⟨W1, hW1⟩ : ∃ W1, W1 = U0.alloc (.cells #[.string a, .string b, .string c, .string noT] 201) := ⟨_, rfl⟩
  have hz1 : W1.heap.size = w.heap.size + 2 := by rw [hW1]; simp [hz0]
  rw [← hW1] at EW OW
  rw [hU0] at hW1
  have HW := zh hW1
  have HN : Hid (Src W1 2 (.slice ao n ca) n (zaK (fun j => .string (tx j)) (fun j => .string (hf j)) n)) := by
   refine zh ⟨zcD _ _ _, zhc, ?_⟩
   obtain ⟨ao', ca', hvv, hca, hxb⟩ := ((zu HV).ext EW)
   simp only [Value.slice.injEq] at hvv
   obtain ⟨rfl, -, rfl⟩ := hvv
   by_cases h0 : n = 0
   ·subst h0
    cases ao with
    | none => exact .inl ⟨ca, rfl, rfl⟩
    | some ad => exact .inr ⟨ad, ca, rfl, fun j u hu => by simp [zaK] at hu⟩
   ·obtain ⟨bb, off, e, hcc⟩ := hxb (by omega)
    subst e
    exact .inr ⟨_, ca, rfl, zd2 hcc⟩
  clear hU0 hz0 hW1 hvv
  go_enter Tryz.func131, Tryz.ntmps131
  go_wp2_with (at_builtin; rw [← zu HW]; go_must (refine zd rfl _ _ 97 rfl w.heap.size 201 ic (.agg #[.string noT, .string noT]) 2 32 Tryz.underlying97 hic hc0 hc1 hc2 rfl (by decide) _ 2 [.string a, .string b, .string c, .string noT] rfl (zu OW) _ n (zaK (fun j => .string (tx j)) (fun j => .string (hf j)) n) rfl (zu HN) (by unfold maxLen; omega) (by omega) (by omega) ?_))
  intro v2 w2 o2 G2 _
  have E2 : Ext w w2 := EW.grown G2 (fun q hq => by simp [Value.ownBlock] at hq; omega)
  have o2' := sn_own o2
  obtain ⟨a2, c2, rfl, hc2', hx2⟩ := o2'.reads
  have H2 := zh hx2
  clear o2 o2' hx2 G2 HN OW HV
  go_wp2
  go_loopw [4] (fun i wr => ∃ k : Nat, k ≤ 2 + n ∧ i = .int .i64 k ∧ Hid (∀ j, j < k → zb7 (baL (snT a c tx j)) (baL (snH b hf j))) ∧ Ext w2 wr) (fun i _ => 2 + n - (intOf i).toNat)
  case atStart => exact ⟨0, Nat.zero_le _, rfl, zh (fun j hj => by omega), Ext.refl _⟩
  case round =>
   obtain ⟨k, hk, rfl, HJ, hext⟩ := hrel
   by_cases hlt : k < 2 + n
   ·obtain ⟨bb, off, hao, hcc⟩ := (zu H2) (by omega)
    subst hao
    have g1 := hext.cell (hcc k hlt).1
    have g2 := hext.cell (hcc k hlt).2
    have bk : (k : Int) < 2 + (n : Int) := by omega
    have hsT := znS (n := n) ha hc (fun j hj => ((zu HX) j hj).1) k (by omega)
    have hsH := zoj (n := n) hb (fun j hj => ((zu HX) j hj).2) k (by omega)
    have HS2 := zh (fun (h : zb7 (baL (snT a c tx k)) (baL (snH b hf k))) j (hj : j < k + 1) => show zb7 (baL (snT a c tx j)) (baL (snH b hf j)) by
     by_cases e : j = k
     ·subst e; exact h
     ·exact (zu HJ) j (by omega))
    have HF := zh (fun (h : ¬ zb7 (baL (snT a c tx k)) (baL (snH b hf k))) => zla (zu HK) (fun hh => h (hh.2 k (by omega))))
    obtain ⟨T, hT⟩ : ∃ T, T = snT a c tx k := ⟨_, rfl⟩
    obtain ⟨H, hH⟩ : ∃ H, H = snH b hf k := ⟨_, rfl⟩
    rw [← hT] at g1 hsT HS2 HF
    rw [← hH] at g2 hsH HS2 HF
    clear hT hH hcc
    have hbU := zk wr (.cells #[.string T, .string H] 201)
    have EU := hext.alloc (.cells #[.string T, .string H] 201)
    obtain ⟨U, hU⟩ : ∃ U, U = wr.alloc (.cells #[.string T, .string H] 201) := ⟨_, rfl⟩
    rw [← hU] at hbU EU
    have p0 := zg hbU 0 _ rfl
    have p1 := zg hbU 1 _ rfl
    have HU := zh hU
    clear hU hbU
    by_cases hTP : zc1 (baL T)
    ·have hcT := zh (fun W => zbL T W hsT true (by simp [hTP]))
     by_cases hHP : zc1 (baL H)
     ·have hcH := zh (fun W => zbL H W hsH true (by simp [hHP]))
      have hrT := zh (fun W => zdD T W hsT)
      have hrH := zh (fun W => zdD H W hsH)
      have hkA := zaJ (baL T)
      have hkB := zaJ (baL H)
      rw [zw] at hkA hkB
      have hw : IntKind.i64.wrap (((zm (baL T)).length : Int) + ((zm (baL H)).length : Int)) = ((zm (baL T)).length : Int) + ((zm (baL H)).length : Int) := by rw [IntKind.wrap_i64]; omega
      have tokA : True := trivial
      have tokB : True := trivial
      by_cases hle : ((zm (baL T)).length : Int) + ((zm (baL H)).length : Int) ≤ 300
      ·have HJ2 := zh ((zu HS2) ⟨hTP.1, hHP.1, by omega⟩)
       clear HS2 HF hTP hHP
       go_wp2
       rw [← zu HU]
       clear HU
       first
        | (go_region_held_law (fun W => W.cell? ⟨wr.heap.size, 0, none⟩ = some (.string T) ∧ W.cell? ⟨wr.heap.size, 1, none⟩ = some (.string H)) (first | exact ⟨p0, p1⟩ | exact ⟨he'.cell p0, he'.cell p1⟩)
          (first
           | (go_at_call 174; have _t := tokA; refine ((zu hcT) _).mono ?_; rintro e w5 ⟨rfl, F5⟩; have he' := (Ext.refl U).drew.trans F5; clear tokA F5)
           | (go_at_call 174; refine ((zu hcH) _).mono ?_; rintro e w6 ⟨rfl, F6⟩; have he' := he'.trans F6; clear F6)
           | (go_at_call 140; have _t := tokB; refine ((zu hrT) _).mono ?_; rintro e w7 ⟨rfl, F7⟩; have he' := he'.trans F7; clear tokB F7)
           | (go_at_call 140; refine ((zu hrH) _).mono ?_; rintro e w8 ⟨rfl, F8⟩; have he' := he'.trans F8; clear F8)))
        | fail
       all_goals
        have hE2 := EU.trans he'
        go_wp2
        go_roundw
        case rel => exact ⟨k + 1, by omega, by go_num, HJ2, hE2⟩
        case measure => simp [intOf]; omega
      ·have hfin := zh ((zu HF) (fun h => hle (by have := h.2.2; omega)))
       clear HS2 HF hTP hHP
       go_wp2
       rw [← zu HU]
       clear HU
       first
        | (go_region_held_law (fun W => W.cell? ⟨wr.heap.size, 0, none⟩ = some (.string T) ∧ W.cell? ⟨wr.heap.size, 1, none⟩ = some (.string H)) (first | exact ⟨p0, p1⟩ | exact ⟨he'.cell p0, he'.cell p1⟩)
          (first
           | (go_at_call 174; have _t := tokA; refine ((zu hcT) _).mono ?_; rintro e w5 ⟨rfl, F5⟩; have he' := (Ext.refl U).drew.trans F5; clear tokA F5)
           | (go_at_call 174; refine ((zu hcH) _).mono ?_; rintro e w6 ⟨rfl, F6⟩; have he' := he'.trans F6; clear F6)
           | (go_at_call 140; have _t := tokB; refine ((zu hrT) _).mono ?_; rintro e w7 ⟨rfl, F7⟩; have he' := he'.trans F7; clear tokB F7)
           | (go_at_call 140; refine ((zu hrH) _).mono ?_; rintro e w8 ⟨rfl, F8⟩; have he' := he'.trans F8; clear F8)))
        | fail
       all_goals
        go_wp2
        go_ret
        exact ⟨zaH (zu hfin).symm, E2.trans (EU.trans he')⟩
     ·have hcH := zh (fun W => zbL H W hsH false (by simp [hHP]))
      have hfin := zh ((zu HF) (fun h => hHP ⟨h.2.1, by have := h.2.2; omega⟩))
      clear HS2 HF hTP hHP
      go_wp2
      rw [← zu HU]
      clear HU
      refine wp_region_held_drew (S := fun W => W.cell? ⟨wr.heap.size, 0, none⟩ = some (.string T) ∧ W.cell? ⟨wr.heap.size, 1, none⟩ = some (.string H)) (by kernel_rfl) ⟨p0, p1⟩ (fun hHeld => ?_)
      refine tk 0 ?_ rfl (by kernel_rfl) (fun _ _ _ h => h) (by rfl) ?_ (by assumption) ?_
      rotate_left
      ·intro w' hSw; go_simp <;> with_reducible rfl
      simp only [Act.put, qA, qB, qC, qD, qE, qF]
      refine tk 1 ?_ rfl (by kernel_rfl) (fun _ _ _ h => h) (by rfl) ?_ (by assumption) ?_
      rotate_left
      ·intro w' hSw; go_simp <;> with_reducible rfl
      simp only [Act.put, qA, qB, qC, qD, qE, qF]
      refine rdy 2 (by kernel_rfl) rfl (fun K hK => ?_)
      go_simp
      go_wp2_with (go_at_call 174; refine ((zu hcT) _).mono ?_; rintro e w5 ⟨rfl, F5⟩; have he' := (Ext.refl U).drew.trans F5; clear F5)
      refine hK.out _ _ ⟨he'.cell p0, he'.cell p1⟩ (fun hHeld => ?_)
      clear hK K
      refine tk 3 ?_ rfl (by kernel_rfl) (fun _ _ _ h => h) (by rfl) ?_ (by assumption) ?_
      rotate_left
      ·intro w' hSw; go_simp <;> with_reducible rfl
      simp only [Act.put, qA, qB, qC, qD, qE, qF]
      refine tk 4 ?_ rfl (by kernel_rfl) (fun _ _ _ h => h) (by rfl) ?_ (by assumption) ?_
      rotate_left
      ·intro w' hSw; go_simp <;> with_reducible rfl
      simp only [Act.put, qA, qB, qC, qD, qE, qF]
      refine tk 5 ?_ rfl (by kernel_rfl) (fun _ _ _ h => h) (by rfl) ?_ (by assumption) ?_
      rotate_left
      ·intro w' hSw; go_simp <;> with_reducible rfl
      simp only [Act.put, qA, qB, qC, qD, qE, qF]
      refine tk 6 ?_ rfl (by kernel_rfl) (fun _ _ _ h => h) (by rfl) ?_ (by assumption) ?_
      rotate_left
      ·intro w' hSw; go_simp <;> with_reducible rfl
      simp only [Act.put, qA, qB, qC, qD, qE, qF]
      refine rdy 7 (by kernel_rfl) rfl (fun K hK => ?_)
      go_simp
      go_wp2_with (go_at_call 174; refine ((zu hcH) _).mono ?_; rintro e w6 ⟨rfl, F6⟩; have he' := he'.trans F6; clear F6)
      refine hK.out _ _ ⟨he'.cell p0, he'.cell p1⟩ (fun hHeld => ?_)
      clear hK K
      refine tk 8 ?_ rfl (by kernel_rfl) (fun _ _ _ h => h) (by rfl) ?_ (by assumption) ?_
      rotate_left
      ·intro w' hSw; go_simp <;> with_reducible rfl
      simp only [Act.put, qA, qB, qC, qD, qE, qF]
      refine tk 9 ?_ rfl (by kernel_rfl) (fun _ _ _ h => h) (by rfl) ?_ (by assumption) ?_
      rotate_left
      ·intro w' hSw; go_simp <;> with_reducible rfl
      simp only [Act.put, qA, qB, qC, qD, qE, qF]
      refine tk 10 ?_ rfl (by kernel_rfl) (fun _ _ _ h => h) (by rfl) ?_ (by assumption) ?_
      rotate_left
      ·intro w' hSw; go_simp <;> with_reducible rfl
      simp only [Act.put, qA, qB, qC, qD, qE, qF]
      refine wpAnyH_take (i := 11) (v := undef) rfl (by kernel_rfl) (by kernel_rfl) (by kernel_rfl) (fun _ _ _ h => h) (Or.inr ⟨by rfl, rfl⟩) (by assumption) ?_
      simp only [Act.put, qA, qB, qC, qD, qE, qF]
      refine wpAnyH_take (i := 12) (v := undef) rfl (by kernel_rfl) (by kernel_rfl) (by kernel_rfl) (fun _ _ _ h => h) (Or.inr ⟨by rfl, rfl⟩) (by assumption) ?_
      simp only [Act.put, qA, qB, qC, qD, qE, qF]
      refine wpAnyH_take (i := 13) (v := undef) rfl (by kernel_rfl) (by kernel_rfl) (by kernel_rfl) (fun _ _ _ h => h) (Or.inr ⟨by rfl, rfl⟩) (by assumption) ?_
      simp only [Act.put, qA, qB, qC, qD, qE, qF]
      refine wpAnyH_take (i := 14) (v := undef) rfl (by kernel_rfl) (by kernel_rfl) (by kernel_rfl) (fun _ _ _ h => h) (Or.inr ⟨by rfl, rfl⟩) (by assumption) ?_
      simp only [Act.put, qA, qB, qC, qD, qE, qF]
      refine wpAnyH_take (i := 15) (v := undef) rfl (by kernel_rfl) (by kernel_rfl) (by kernel_rfl) (fun _ _ _ h => h) (Or.inr ⟨by rfl, rfl⟩) (by assumption) ?_
      simp only [Act.put, qA, qB, qC, qD, qE, qF]
      refine wpAnyH_take (i := 16) (v := undef) rfl (by kernel_rfl) (by kernel_rfl) (by kernel_rfl) (fun _ _ _ h => h) (Or.inr ⟨by rfl, rfl⟩) (by assumption) ?_
      simp only [Act.put, qA, qB, qC, qD, qE, qF]
      refine wpAnyH_take (i := 17) (v := undef) rfl (by kernel_rfl) (by kernel_rfl) (by kernel_rfl) (fun _ _ _ h => h) (Or.inr ⟨by rfl, rfl⟩) (by assumption) ?_
      simp only [Act.put, qA, qB, qC, qD, qE, qF]
      refine wpAnyH_take (i := 18) (v := undef) rfl (by kernel_rfl) (by kernel_rfl) (by kernel_rfl) (fun _ _ _ h => h) (Or.inr ⟨by rfl, rfl⟩) (by assumption) ?_
      simp only [Act.put, qA, qB, qC, qD, qE, qF]
      refine tk 19 ?_ rfl (by kernel_rfl) (fun _ _ _ h => h) (by rfl) ?_ (by assumption) ?_
      rotate_left
      ·intro w' hSw; go_simp <;> with_reducible rfl
      simp only [Act.put, qA, qB, qC, qD, qE, qF]
      refine wpAnyH_done (by kernel_rfl) ?_ _
      go_wp2
      go_ret
      exact ⟨zaH (zu hfin).symm, E2.trans (EU.trans he')⟩
    ·have hcT := zh (fun W => zbL T W hsT false (by simp [hTP]))
     have hfin := zh ((zu HF) (fun h => hTP ⟨h.1, by have := h.2.2; omega⟩))
     clear HS2 HF hTP
     go_wp2
     rw [← zu HU]
     clear HU
     refine wp_region_held_drew (S := fun W => W.cell? ⟨wr.heap.size, 0, none⟩ = some (.string T) ∧ W.cell? ⟨wr.heap.size, 1, none⟩ = some (.string H)) (by kernel_rfl) ⟨p0, p1⟩ (fun hHeld => ?_)
     refine tk 0 ?_ rfl (by kernel_rfl) (fun _ _ _ h => h) (by rfl) ?_ (by assumption) ?_
     rotate_left
     ·intro w' hSw; go_simp <;> with_reducible rfl
     simp only [Act.put, qA, qB, qC, qD, qE, qF]
     refine tk 1 ?_ rfl (by kernel_rfl) (fun _ _ _ h => h) (by rfl) ?_ (by assumption) ?_
     rotate_left
     ·intro w' hSw; go_simp <;> with_reducible rfl
     simp only [Act.put, qA, qB, qC, qD, qE, qF]
     refine rdy 2 (by kernel_rfl) rfl (fun K hK => ?_)
     go_simp
     go_wp2_with (go_at_call 174; refine ((zu hcT) _).mono ?_; rintro e w5 ⟨rfl, F5⟩; have he' := (Ext.refl U).drew.trans F5; clear F5)
     refine hK.out _ _ ⟨he'.cell p0, he'.cell p1⟩ (fun hHeld => ?_)
     clear hK K
     refine tk 3 ?_ rfl (by kernel_rfl) (fun _ _ _ h => h) (by rfl) ?_ (by assumption) ?_
     rotate_left
     ·intro w' hSw; go_simp <;> with_reducible rfl
     simp only [Act.put, qA, qB, qC, qD, qE, qF]
     refine tk 4 ?_ rfl (by kernel_rfl) (fun _ _ _ h => h) (by rfl) ?_ (by assumption) ?_
     rotate_left
     ·intro w' hSw; go_simp <;> with_reducible rfl
     simp only [Act.put, qA, qB, qC, qD, qE, qF]
     refine wpAnyH_take (i := 5) (v := undef) rfl (by kernel_rfl) (by kernel_rfl) (by kernel_rfl) (fun _ _ _ h => h) (Or.inr ⟨by rfl, rfl⟩) (by assumption) ?_
     simp only [Act.put, qA, qB, qC, qD, qE, qF]
     refine wpAnyH_take (i := 6) (v := undef) rfl (by kernel_rfl) (by kernel_rfl) (by kernel_rfl) (fun _ _ _ h => h) (Or.inr ⟨by rfl, rfl⟩) (by assumption) ?_
     simp only [Act.put, qA, qB, qC, qD, qE, qF]
     refine wpAnyH_take (i := 7) (v := undef) rfl (by kernel_rfl) (by kernel_rfl) (by kernel_rfl) (fun _ _ _ h => h) (Or.inr ⟨by rfl, rfl⟩) (by assumption) ?_
     simp only [Act.put, qA, qB, qC, qD, qE, qF]
     refine wpAnyH_take (i := 8) (v := undef) rfl (by kernel_rfl) (by kernel_rfl) (by kernel_rfl) (fun _ _ _ h => h) (Or.inr ⟨by rfl, rfl⟩) (by assumption) ?_
     simp only [Act.put, qA, qB, qC, qD, qE, qF]
     refine tk 9 ?_ rfl (by kernel_rfl) (fun _ _ _ h => h) (by rfl) ?_ (by assumption) ?_
     rotate_left
     ·intro w' hSw; go_simp <;> with_reducible rfl
     simp only [Act.put, qA, qB, qC, qD, qE, qF]
     refine tk 10 ?_ rfl (by kernel_rfl) (fun _ _ _ h => h) (by rfl) ?_ (by assumption) ?_
     rotate_left
     ·intro w' hSw; go_simp <;> with_reducible rfl
     simp only [Act.put, qA, qB, qC, qD, qE, qF]
     refine wpAnyH_take (i := 11) (v := undef) rfl (by kernel_rfl) (by kernel_rfl) (by kernel_rfl) (fun _ _ _ h => h) (Or.inr ⟨by rfl, rfl⟩) (by assumption) ?_
     simp only [Act.put, qA, qB, qC, qD, qE, qF]
     refine wpAnyH_take (i := 12) (v := undef) rfl (by kernel_rfl) (by kernel_rfl) (by kernel_rfl) (fun _ _ _ h => h) (Or.inr ⟨by rfl, rfl⟩) (by assumption) ?_
     simp only [Act.put, qA, qB, qC, qD, qE, qF]
     refine wpAnyH_take (i := 13) (v := undef) rfl (by kernel_rfl) (by kernel_rfl) (by kernel_rfl) (fun _ _ _ h => h) (Or.inr ⟨by rfl, rfl⟩) (by assumption) ?_
     simp only [Act.put, qA, qB, qC, qD, qE, qF]
     refine wpAnyH_take (i := 14) (v := undef) rfl (by kernel_rfl) (by kernel_rfl) (by kernel_rfl) (fun _ _ _ h => h) (Or.inr ⟨by rfl, rfl⟩) (by assumption) ?_
     simp only [Act.put, qA, qB, qC, qD, qE, qF]
     refine wpAnyH_take (i := 15) (v := undef) rfl (by kernel_rfl) (by kernel_rfl) (by kernel_rfl) (fun _ _ _ h => h) (Or.inr ⟨by rfl, rfl⟩) (by assumption) ?_
     simp only [Act.put, qA, qB, qC, qD, qE, qF]
     refine wpAnyH_take (i := 16) (v := undef) rfl (by kernel_rfl) (by kernel_rfl) (by kernel_rfl) (fun _ _ _ h => h) (Or.inr ⟨by rfl, rfl⟩) (by assumption) ?_
     simp only [Act.put, qA, qB, qC, qD, qE, qF]
     refine wpAnyH_take (i := 17) (v := undef) rfl (by kernel_rfl) (by kernel_rfl) (by kernel_rfl) (fun _ _ _ h => h) (Or.inr ⟨by rfl, rfl⟩) (by assumption) ?_
     simp only [Act.put, qA, qB, qC, qD, qE, qF]
     refine wpAnyH_take (i := 18) (v := undef) rfl (by kernel_rfl) (by kernel_rfl) (by kernel_rfl) (fun _ _ _ h => h) (Or.inr ⟨by rfl, rfl⟩) (by assumption) ?_
     simp only [Act.put, qA, qB, qC, qD, qE, qF]
     refine tk 19 ?_ rfl (by kernel_rfl) (fun _ _ _ h => h) (by rfl) ?_ (by assumption) ?_
     rotate_left
     ·intro w' hSw; go_simp <;> with_reducible rfl
     simp only [Act.put, qA, qB, qC, qD, qE, qF]
     refine wpAnyH_done (by kernel_rfl) ?_ _
     go_wp2
     go_ret
     exact ⟨zaH (zu hfin).symm, E2.trans (EU.trans he')⟩
   ·obtain rfl : k = 2 + n := by omega
    have hfin : Hid (ok = true) := zh ((zu HK).2 ⟨hn, fun j hj => (zu HJ) j (by omega)⟩)
    go_wp2
    go_ret
    exact ⟨zaH (zu hfin).symm, E2.trans hext⟩
 ·have hnI : ¬ (n : Int) ≤ 50 := by omega
  have hfin : Hid (ok = false) := zh (zla hok (fun h => hn h.1))
  clear hok hv hx HX
  go_enter Tryz.func131, Tryz.ntmps131
  go_wp2
  go_ret
  exact ⟨zaH (zu hfin).symm, (Ext.refl _).alloc _⟩
end Go.Proofs.YtinfdhbnljnifaaGreatDoor
