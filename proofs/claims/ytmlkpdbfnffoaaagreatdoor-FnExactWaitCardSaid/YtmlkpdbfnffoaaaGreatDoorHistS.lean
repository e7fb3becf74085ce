import Derived.Test.YtmlkpdbfnffoaaaGreatDoorAllOk2
set_option maxHeartbeats 4000000
set_option maxRecDepth 10000
namespace Go.Proofs.YtmlkpdbfnffoaaaGreatDoor
open Go.RowKit
def zdq (bs : List Int) : Prop := bs ≠ [] ∧ zaC bs = bs ∧ (zp bs).length ≤ 300
theorem zeQ : ∀ xs : List Int, (zcj xs).length ≤ 4 * xs.length
 | [] => by simp [zcj]
 | x :: xs => by
  have := zeQ xs
  have h2 : (za9 x).length ≤ 4 := by
   unfold za9 zbm
   repeat' split
   all_goals simp
  simp only [zcj, List.length_append, List.length_cons]
  omega
theorem zdf (bs : List Int) (h : zaC bs = bs) : bs.length ≤ 4 * (zp bs).length := by
 have hv := ((zf4 bs).1 h).2.2
 have h1 := zeQ (za7 bs)
 rw [hv] at h1
 rw [zfT, List.length_map]
 exact h1
theorem zh7 {bs : List Int} (h : bs ≠ []) : (zv bs).toList.isEmpty = false := by
 rw [zbg, zbq]
 cases bs with
 | nil => exact absurd rfl h
 | cons a r => rfl
theorem zg3 (bs : List Int) (hb : zaj bs) (w : World) (hl : bs.length ≤ 16777216) (hT : zbf w) (ok : Bool) (hok : ok = true ↔ zdq bs) :
  Calls Tryz.prog 97 #[.string (zv bs)] w fun e w' => e = .returned (.bool ok) ∧ Ext w w' := by
 by_cases h0 : bs = []
 ·have hfin : Hid (ok = false) := by
   refine zi ?_
   cases hc : ok with
   | false => rfl
   | true => exact absurd h0 (hok.1 hc).1
  subst h0
  rw [zgM]
  go_enter Tryz.func97, Tryz.ntmps97
  go_wp2
  go_ret
  exact ⟨zw (zg hfin).symm, Ext.refl _⟩
 ·have hs := zgS bs hb w hl hT ok (by
   rw [hok]
   unfold zdq zbe
   simp [h0])
  have HS := zi hs
  have hne := zh7 h0
  clear hs hok
  go_enter Tryz.func97, Tryz.ntmps97
  go_wp2_with fail
  refine (zg HS).mono ?_
  rintro e w1 ⟨rfl, F1⟩
  go_wp2
  go_ret
  exact ⟨rfl, F1⟩
theorem zfl (bs : List Int) (hb : zaj bs) (w : World) (hl : bs.length ≤ 4194304) (ok : Bool) (hok : ok = true ↔ zdq bs) :
  Calls Tryz.prog 79 #[.string (zv bs)] w fun e w' => e = .returned (.bool ok) ∧ Ext w w' := by
 by_cases h0 : bs = []
 ·have hfin : Hid (ok = false) := by
   refine zi ?_
   cases hc : ok with
   | false => rfl
   | true => exact absurd h0 (hok.1 hc).1
  subst h0
  rw [zgM]
  go_enter Tryz.func79, Tryz.ntmps79
  go_wp2
  go_ret
  exact ⟨zw (zg hfin).symm, Ext.refl _⟩
 ·have hs := zfi bs hb w hl ok (by
   rw [hok]
   unfold zdq
   constructor
   ·rintro ⟨_, h1, h2⟩
    have := zdf bs h1
    exact ⟨by omega, h2, h1⟩
   ·rintro ⟨_, h1, h2⟩
    exact ⟨h0, h2, h1⟩)
  have HS := zi hs
  have hne := zh7 h0
  clear hs hok
  go_enter Tryz.func79, Tryz.ntmps79
  go_wp2_with fail
  refine (zg HS).mono ?_
  rintro e w1 ⟨rfl, F1⟩
  go_wp2
  go_ret
  exact ⟨rfl, F1⟩
def snT (a c : ByteArray) (tx : Nat → ByteArray) : Nat → ByteArray
 | 0 => a
 | 1 => c
 | j + 2 => tx j
def snH (b : ByteArray) (hf : Nat → ByteArray) : Nat → ByteArray
 | 0 => b
 | 1 => noT
 | j + 2 => hf j
theorem zl6 (a b c : ByteArray) (n : Nat) (tx hf : Nat → ByteArray) : zb8 a b c n tx hf ↔ n ≤ 50 ∧ ∀ j, j < n + 2 → zbQ (baL (snT a c tx j)) (baL (snH b hf j)) := by
 unfold zb8
 constructor
 ·rintro ⟨h1, h2, h3, h4⟩
  refine ⟨h1, fun j hj => ?_⟩
  match j, hj with
  | 0, _ => exact h2
  | 1, _ => exact (zeD _).1 h3
  | j + 2, hj => exact h4 j (by omega)
 ·rintro ⟨h1, h2⟩
  exact ⟨h1, h2 0 (by omega), (zeD _).2 (h2 1 (by omega)), fun j hj => h2 (j + 2) (by omega)⟩
theorem zb4 (a : ByteArray) (w : World) (hla : a.size ≤ 1048576) (ok : Bool) (hok : ok = true ↔ zbe (baL a)) :
  Calls Tryz.prog 73 #[.string a, .int .i64 300] w fun e w' => e = .returned (.bool ok) ∧ Ext w w' := by
 have h := zfi (baL a) (zau a) w (by rw [zar]; omega) ok (by
  rw [hok]
  unfold zbe
  constructor
  ·rintro ⟨h1, h2⟩
   have := zdf _ h1
   exact ⟨by omega, h2, h1⟩
  ·rintro ⟨_, h1, h2⟩
   exact ⟨h2, h1⟩)
 rwa [zay] at h
theorem zdy (a : ByteArray) (w : World) (hla : a.size ≤ 1048576) :
  Calls Tryz.prog 113 #[.string a] w fun e w' => e = .returned (.int .i64 ((zp (baL a)).length : Int)) ∧ Ext w w' := by
 have h := zcx (baL a) (zau a) w (by rw [zar]; omega)
 rwa [zay] at h
theorem znb {a c : ByteArray} {tx : Nat → ByteArray} {n : Nat} (ha : a.size ≤ 1048576) (hc : c.size ≤ 1048576) (hx : ∀ j, j < n → (tx j).size ≤ 1048576) : ∀ j, j < n + 2 → (snT a c tx j).size ≤ 1048576
 | 0, _ => ha
 | 1, _ => hc
 | j + 2, hj => hx j (by omega)
theorem zmV {b : ByteArray} {hf : Nat → ByteArray} {n : Nat} (hb : b.size ≤ 1048576) (hx : ∀ j, j < n → (hf j).size ≤ 1048576) : ∀ j, j < n + 2 → (snH b hf j).size ≤ 1048576
 | 0, _ => hb
 | 1, _ => by show noT.size ≤ _; decide
 | j + 2, hj => hx j (by omega)
theorem zmO (w : World) (cs : Array Value) (t : TypeId) (n size base : Nat) (hb : base ≤ w.heap.size) (hs : cs.size = n * size) (hn : n ≤ maxLen) : (w.alloc (.cells cs t)).ownsRow base t size (.slice (some ⟨w.heap.size, 0, none⟩) n n) n cs.toList :=
 ⟨by simpa using hs, .inr ⟨w.heap.size, n, cs, rfl, hb, zn w _, Nat.le_refl _, hn, hs, by rw [← hs, ← Array.length_toList, List.take_length]⟩⟩
theorem sn_own {w : World} {a b c : ByteArray} {n : Nat} {tx hf : Nat → ByteArray} {base : Nat} {v : Value} {T : TypeId}
  (h : w.ownsRow base T 2 v (2 + n) ([.string a, .string b, .string c, .string noT] ++ zaZ (fun j => .string (tx j)) (fun j => .string (hf j)) n)) :
  zaR w base T v (2 + n) (fun j => .string (snT a c tx j)) (fun j => .string (snH b hf j)) := by
 refine ⟨_, h, fun j hj => ?_⟩
 match j, hj with
 | 0, _ => exact ⟨rfl, rfl⟩
 | 1, _ => exact ⟨rfl, rfl⟩
 | j + 2, hj =>
  obtain ⟨h1, h2⟩ := zdp (fun j => .string (tx j)) (fun j => .string (hf j)) n j (by omega)
  constructor
  ·rw [List.getElem?_append_right (by simp; omega)]
   have e : (j + 2) * 2 - 4 = j * 2 := by omega
   simpa [e, snT] using h1
  ·rw [List.getElem?_append_right (by simp; omega)]
   have e : (j + 2) * 2 + 1 - 4 = j * 2 + 1 := by omega
   simpa [e, snH] using h2
def zbY (cap : Int) (n : Nat) (tx : Nat → ByteArray) : Prop := 1 ≤ cap ∧ cap ≤ 100 ∧ (n : Int) ≤ cap ∧ ∀ j, j < n → zdq (baL (tx j)) ∧ (0 < j → tx j ≠ tx (j - 1))
theorem zne {s t : ByteArray} (h : s ≠ t) : (s.toList == t.toList) = false := by
 rw [beq_eq_false_iff_ne, zbg, zbg]
 exact fun e => h (WideShapes.bytes_inj e)
theorem zfq (cap : Int) (v : Value) (n : Nat) (tx : Nat → ByteArray) (w : World) (hv : zah w v n (fun j => .string (tx j))) (hn : n ≤ 1048576) (hx : ∀ j, j < n → (tx j).size ≤ 1048576) (hT : zbf w) (ok : Bool) (hok : ok = true ↔ zbY cap n tx) :
  Calls Tryz.prog 60 #[.agg #[.int .i64 cap, v]] w fun e w' => e = .returned (.bool ok) ∧ Ext w w' := by
 obtain ⟨ao, ca, rfl, hca, hxa⟩ := hv
 have HX := zi hxa
 have HZ := zi hx
 have HT := zi hT
 have HK := zi hok
 clear hxa hx hT hok
 by_cases h1 : cap < 1
 ·have hfin : Hid (ok = false) := by
   refine zi ?_
   cases hc : ok with
   | false => rfl
   | true => have := ((zg HK).1 hc).1; omega
  go_enter Tryz.func60, Tryz.ntmps60
  go_wp2
  go_ret
  exact ⟨zw (zg hfin).symm, (Ext.refl _).alloc _⟩
 by_cases h2 : 100 < cap
 ·have hfin : Hid (ok = false) := by
   refine zi ?_
   cases hc : ok with
   | false => rfl
   | true => have := ((zg HK).1 hc).2.1; omega
  go_enter Tryz.func60, Tryz.ntmps60
  go_wp2
  go_ret
  exact ⟨zw (zg hfin).symm, (Ext.refl _).alloc _⟩
 by_cases h3 : cap < (n : Int)
 ·have hfin : Hid (ok = false) := by
   refine zi ?_
   cases hc : ok with
   | false => rfl
   | true => have := ((zg HK).1 hc).2.2.1; omega
  go_enter Tryz.func60, Tryz.ntmps60
  go_wp2
  go_ret
  exact ⟨zw (zg hfin).symm, (Ext.refl _).alloc _⟩
 have EW := (Ext.refl w).alloc (.cells #[.int .i64 cap, .slice ao n ca] 41)
 have q1 : (w.alloc (.cells #[.int .i64 cap, .slice ao n ca] 41)).cell? ⟨w.heap.size, 1, none⟩ = some (.slice ao n ca) := by simp [go_sem]
 obtain ⟨W1, hW1⟩ : ∃ W1, W1 = w.alloc (.cells #[.int .i64 cap, .slice ao n ca] 41) := ⟨_, rfl⟩
 rw [← hW1] at EW q1
 have HW := zi hW1
 clear hW1
 go_enter Tryz.func60, Tryz.ntmps60
 go_wp2
 go_loopw [24] (fun i wr => ∃ k : Nat, k ≤ n ∧ i = .int .i64 k ∧ Hid (∀ j, j < k → zdq (baL (tx j)) ∧ (0 < j → tx j ≠ tx (j - 1))) ∧ Ext W1 wr) (fun i _ => n - (intOf i).toNat)
 case atStart => exact ⟨0, Nat.zero_le _, rfl, zi (fun j hj => by omega), by rw [zg HW]; exact Ext.refl _⟩
 case round =>
  obtain ⟨k, hk, rfl, HJ, hext⟩ := hrel
  by_cases hlt : k < n
  ·obtain ⟨b, off, hao, hc⟩ := (zg HX) (by omega)
   subst hao
   have hE := EW.trans hext
   have g1 := hE.cell (hc k hlt)
   have bk : (k : Int) < (n : Int) := by omega
   have hsz := (zg HZ) k hlt
   by_cases hit : zdq (baL (tx k))
   ·have hcon := zg3 (baL (tx k)) (zau _) wr (by rw [zar]; omega) ((zg HT).ext hE) true (by simp [hit])
    rw [zay] at hcon
    have HC := zi hcon
    clear hcon
    go_wp2_with fail
    refine (zg HC).mono ?_
    rintro e w2 ⟨rfl, F2⟩
    have hE2 := hext.trans F2
    have c1 := hE2.cell q1
    by_cases k0 : k = 0
    ·subst k0
     have HJ2 : Hid (∀ j, j < 0 + 1 → zdq (baL (tx j)) ∧ (0 < j → tx j ≠ tx (j - 1))) := zi (fun j hj => by
      obtain rfl : j = 0 := by omega
      exact ⟨hit, fun h => by omega⟩)
     go_wp2
     go_roundw
     case rel => exact ⟨0 + 1, by omega, by go_num, HJ2, hE2⟩
     case measure => simp [intOf]; omega
    ·have kp : (0 : Int) < (k : Int) := by omega
     have g2 := (EW.trans hE2).cell (hc (k - 1) (by omega))
     have hw9 : IntKind.i64.wrap ((k : Int) - 1) = ((k - 1 : Nat) : Int) := by rw [IntKind.wrap_i64]; omega
     have b9 : (0 : Int) ≤ ((k - 1 : Nat) : Int) := by omega
     have b10 : ((k - 1 : Nat) : Int) < (n : Int) := by omega
     by_cases hs : tx k = tx (k - 1)
     ·have hfin : Hid (ok = false) := by
       refine zi ?_
       cases hc' : ok with
       | false => rfl
       | true => exact absurd hs ((((zg HK).1 hc').2.2.2 k hlt).2 (by omega))
      rw [← hs] at g2
      go_wp2
      go_ret
      exact ⟨zw (zg hfin).symm, EW.trans hE2⟩
     ·have HJ2 : Hid (∀ j, j < k + 1 → zdq (baL (tx j)) ∧ (0 < j → tx j ≠ tx (j - 1))) := zi (fun j hj => by
       by_cases e : j = k
       ·subst e; exact ⟨hit, fun _ => hs⟩
       ·exact (zg HJ) j (by omega))
      have hne := zne hs
      clear hs
      go_wp2
      go_roundw
      case rel => exact ⟨k + 1, by omega, by go_num, HJ2, hE2⟩
      case measure => simp [intOf]; omega
   ·have hfin : Hid (ok = false) := by
     refine zi ?_
     cases hc' : ok with
     | false => rfl
     | true => exact absurd (((zg HK).1 hc').2.2.2 k hlt).1 hit
    have hcon := zg3 (baL (tx k)) (zau _) wr (by rw [zar]; omega) ((zg HT).ext hE) false (by simp [hit])
    rw [zay] at hcon
    have HC := zi hcon
    clear hcon
    go_wp2_with fail
    refine (zg HC).mono ?_
    rintro e w2 ⟨rfl, F2⟩
    go_wp2
    go_ret
    exact ⟨zw (zg hfin).symm, hE.trans F2⟩
  ·obtain rfl : k = n := by omega
   have hfin : Hid (ok = true) := zi ((zg HK).2 ⟨by omega, by omega, by omega, zg HJ⟩)
   have hE := EW.trans hext
   go_wp2
   go_ret
   exact ⟨zw (zg hfin).symm, hE⟩
set_option linter.unusedSimpArgs false in
theorem zeY (cap : Int) (v : Value) (n : Nat) (tx : Nat → ByteArray) (w : World) (hv : zah w v n (fun j => .string (tx j))) (hn : n ≤ 1048576) (hx : ∀ j, j < n → (tx j).size ≤ 1048576) (ok : Bool) (hok : ok = true ↔ zbY cap n tx) :
  Calls Tryz.prog 52 #[.agg #[.int .i64 cap, v]] w fun e w' => e = .returned (.bool ok) ∧ Ext w w' := by
 obtain ⟨ao, ca, rfl, hca, hxa⟩ := hv
 have HX := zi hxa
 have HZ := zi hx
 have HK := zi hok
 clear hxa hx hok
 by_cases h1 : cap < 1
 ·have hfin : Hid (ok = false) := by
   refine zi ?_
   cases hc : ok with
   | false => rfl
   | true => have := ((zg HK).1 hc).1; omega
  go_enter Tryz.func52, Tryz.ntmps52
  go_wp2
  go_ret
  exact ⟨zw (zg hfin).symm, (Ext.refl _).alloc _⟩
 by_cases h2 : 100 < cap
 ·have hfin : Hid (ok = false) := by
   refine zi ?_
   cases hc : ok with
   | false => rfl
   | true => have := ((zg HK).1 hc).2.1; omega
  go_enter Tryz.func52, Tryz.ntmps52
  go_wp2
  go_ret
  exact ⟨zw (zg hfin).symm, (Ext.refl _).alloc _⟩
 by_cases h3 : cap < (n : Int)
 ·have hfin : Hid (ok = false) := by
   refine zi ?_
   cases hc : ok with
   | false => rfl
   | true => have := ((zg HK).1 hc).2.2.1; omega
  go_enter Tryz.func52, Tryz.ntmps52
  go_wp2
  go_ret
  exact ⟨zw (zg hfin).symm, (Ext.refl _).alloc _⟩
 have EW := (Ext.refl w).alloc (.cells #[.int .i64 cap, .slice ao n ca] 41)
 have q1 : (w.alloc (.cells #[.int .i64 cap, .slice ao n ca] 41)).cell? ⟨w.heap.size, 1, none⟩ = some (.slice ao n ca) := by simp [go_sem]
 obtain ⟨W1, hW1⟩ : ∃ W1, W1 = w.alloc (.cells #[.int .i64 cap, .slice ao n ca] 41) := ⟨_, rfl⟩
 rw [← hW1] at EW q1
 have HW := zi hW1
 clear hW1
 go_enter Tryz.func52, Tryz.ntmps52
 go_wp2
 go_loopw [3] (fun i wr => ∃ k : Nat, k ≤ n ∧ i = .int .i64 k ∧ Hid (∀ j, j < k → zdq (baL (tx j)) ∧ (0 < j → tx j ≠ tx (j - 1))) ∧ Ext W1 wr) (fun i _ => n - (intOf i).toNat)
 case atStart => exact ⟨0, Nat.zero_le _, rfl, zi (fun j hj => by omega), by rw [zg HW]; exact Ext.refl _⟩
 case round =>
  obtain ⟨k, hk, rfl, HJ, hext⟩ := hrel
  by_cases hlt : k < n
  ·obtain ⟨b, off, hao, hc⟩ := (zg HX) (by omega)
   subst hao
   have hE := EW.trans hext
   have g1 := hE.cell (hc k hlt)
   have bk : (k : Int) < (n : Int) := by omega
   have hsz := (zg HZ) k hlt
   by_cases hit : zdq (baL (tx k))
   ·have hcon := (fun W => zfl (baL (tx k)) (zau _) W (by rw [zar]; omega) true (by simp [hit]))
    rw [zay] at hcon
    have HC := zi hcon
    clear hcon
    have c1 := hext.cell q1
    by_cases k0 : k = 0
    ·subst k0
     have HJ2 : Hid (∀ j, j < 0 + 1 → zdq (baL (tx j)) ∧ (0 < j → tx j ≠ tx (j - 1))) := zi (fun j hj => by
      obtain rfl : j = 0 := by omega
      exact ⟨hit, fun h => by omega⟩)
     rw [Nat.add_zero] at g1
     go_wp2
     refine wp_region_held_drew (S := fun W => W.cell? ⟨w.heap.size, 1, none⟩ = some (.slice (some ⟨b, off, none⟩) n ca) ∧ W.cell? ⟨b, off, none⟩ = some (.string (tx 0))) (by kernel_rfl) ⟨c1, g1⟩ (fun hHeld => ?_)
     refine tk 0 ?_ rfl (by kernel_rfl) (fun _ _ _ h => h) (by rfl) ?_ (by assumption) ?_
     rotate_left
     ·intro w' hSw; go_simp <;> with_reducible rfl
     simp only [Act.put, q9]
     refine tk 1 ?_ rfl (by kernel_rfl) (fun _ _ _ h => h) (by rfl) ?_ (by assumption) ?_
     rotate_left
     ·intro w' hSw; go_simp <;> with_reducible rfl
     simp only [Act.put, q9]
     refine tk 2 ?_ rfl (by kernel_rfl) (fun _ _ _ h => h) (by rfl) ?_ (by assumption) ?_
     rotate_left
     ·intro w' hSw; go_simp <;> with_reducible rfl
     simp only [Act.put, q9]
     refine tk 3 ?_ rfl (by kernel_rfl) (fun _ _ _ h => h) (by rfl) ?_ (by assumption) ?_
     rotate_left
     ·intro w' hSw; go_simp <;> with_reducible rfl
     simp only [Act.put, q9]
     refine tk 4 ?_ rfl (by kernel_rfl) (fun _ _ _ h => h) (by rfl) ?_ (by assumption) ?_
     rotate_left
     ·intro w' hSw; go_simp <;> with_reducible rfl
     simp only [Act.put, q9]
     refine rdy 5 (by kernel_rfl) rfl (fun K hK => ?_)
     go_simp
     go_wp2_with (go_at_call 79; refine ((zg HC) _).mono ?_; rintro e w2 ⟨rfl, F2⟩; have he' := (Ext.refl wr).drew.trans F2; clear F2)
     refine hK.out _ _ ⟨he'.cell c1, he'.cell g1⟩ (fun hHeld => ?_)
     clear hK K
     refine tk 6 ?_ rfl (by kernel_rfl) (fun _ _ _ h => h) (by rfl) ?_ (by assumption) ?_
     rotate_left
     ·intro w' hSw; go_simp <;> with_reducible rfl
     simp only [Act.put, q9]
     refine tk 7 ?_ rfl (by kernel_rfl) (fun _ _ _ h => h) (by rfl) ?_ (by assumption) ?_
     rotate_left
     ·intro w' hSw; go_simp <;> with_reducible rfl
     simp only [Act.put, q9]
     refine tk 8 ?_ rfl (by kernel_rfl) (fun _ _ _ h => h) (by rfl) ?_ (by assumption) ?_
     rotate_left
     ·intro w' hSw; go_simp <;> with_reducible rfl
     simp only [Act.put, q9]
     refine tk 9 ?_ rfl (by kernel_rfl) (fun _ _ _ h => h) (by rfl) ?_ (by assumption) ?_
     rotate_left
     ·intro w' hSw; go_simp <;> with_reducible rfl
     simp only [Act.put, q9]
     refine tk 10 ?_ rfl (by kernel_rfl) (fun _ _ _ h => h) (by rfl) ?_ (by assumption) ?_
     rotate_left
     ·intro w' hSw; go_simp <;> with_reducible rfl
     simp only [Act.put, q9]
     refine wpAnyH_take (i := 11) (v := undef) rfl (by kernel_rfl) (by kernel_rfl) (by kernel_rfl) (fun _ _ _ h => h) (Or.inr ⟨by rfl, rfl⟩) (by assumption) ?_
     simp only [Act.put, q9]
     refine wpAnyH_take (i := 12) (v := undef) rfl (by kernel_rfl) (by kernel_rfl) (by kernel_rfl) (fun _ _ _ h => h) (Or.inr ⟨by rfl, rfl⟩) (by assumption) ?_
     simp only [Act.put, q9]
     refine wpAnyH_take (i := 13) (v := undef) rfl (by kernel_rfl) (by kernel_rfl) (by kernel_rfl) (fun _ _ _ h => h) (Or.inr ⟨by rfl, rfl⟩) (by assumption) ?_
     simp only [Act.put, q9]
     refine wpAnyH_take (i := 14) (v := undef) rfl (by kernel_rfl) (by kernel_rfl) (by kernel_rfl) (fun _ _ _ h => h) (Or.inr ⟨by rfl, rfl⟩) (by assumption) ?_
     simp only [Act.put, q9]
     refine wpAnyH_take (i := 15) (v := undef) rfl (by kernel_rfl) (by kernel_rfl) (by kernel_rfl) (fun _ _ _ h => h) (Or.inr ⟨by rfl, rfl⟩) (by assumption) ?_
     simp only [Act.put, q9]
     refine wpAnyH_take (i := 16) (v := undef) rfl (by kernel_rfl) (by kernel_rfl) (by kernel_rfl) (fun _ _ _ h => h) (Or.inr ⟨by rfl, rfl⟩) (by assumption) ?_
     simp only [Act.put, q9]
     refine wpAnyH_take (i := 17) (v := undef) rfl (by kernel_rfl) (by kernel_rfl) (by kernel_rfl) (fun _ _ _ h => h) (Or.inr ⟨by rfl, rfl⟩) (by assumption) ?_
     simp only [Act.put, q9]
     refine wpAnyH_take (i := 18) (v := undef) rfl (by kernel_rfl) (by kernel_rfl) (by kernel_rfl) (fun _ _ _ h => h) (Or.inr ⟨by rfl, rfl⟩) (by assumption) ?_
     simp only [Act.put, q9]
     refine wpAnyH_take (i := 19) (v := undef) rfl (by kernel_rfl) (by kernel_rfl) (by kernel_rfl) (fun _ _ _ h => h) (Or.inr ⟨by rfl, rfl⟩) (by assumption) ?_
     simp only [Act.put, q9]
     refine wpAnyH_take (i := 20) (v := undef) rfl (by kernel_rfl) (by kernel_rfl) (by kernel_rfl) (fun _ _ _ h => h) (Or.inr ⟨by rfl, rfl⟩) (by assumption) ?_
     simp only [Act.put, q9]
     refine wpAnyH_take (i := 21) (v := undef) rfl (by kernel_rfl) (by kernel_rfl) (by kernel_rfl) (fun _ _ _ h => h) (Or.inr ⟨by rfl, rfl⟩) (by assumption) ?_
     simp only [Act.put, q9]
     refine wpAnyH_take (i := 22) (v := undef) rfl (by kernel_rfl) (by kernel_rfl) (by kernel_rfl) (fun _ _ _ h => h) (Or.inr ⟨by rfl, rfl⟩) (by assumption) ?_
     simp only [Act.put, q9]
     refine tk 23 ?_ rfl (by kernel_rfl) (fun _ _ _ h => h) (by rfl) ?_ (by assumption) ?_
     rotate_left
     ·intro w' hSw; go_simp <;> with_reducible rfl
     simp only [Act.put, q9]
     refine tk 24 ?_ rfl (by kernel_rfl) (fun _ _ _ h => h) (by rfl) ?_ (by assumption) ?_
     rotate_left
     ·intro w' hSw; go_simp <;> with_reducible rfl
     simp only [Act.put, q9]
     refine wpAnyH_done (by kernel_rfl) ?_ _
     have hE2 := hext.trans he'
     go_wp2
     go_roundw
     case rel => exact ⟨0 + 1, by omega, by go_num, HJ2, hE2⟩
     case measure => simp [intOf]; omega
    ·have kp : (0 : Int) < (k : Int) := by omega
     have g2 := hE.cell (hc (k - 1) (by omega))
     have hw9 : IntKind.i64.wrap ((k : Int) - 1) = ((k - 1 : Nat) : Int) := by rw [IntKind.wrap_i64]; omega
     have b9 : (0 : Int) ≤ ((k - 1 : Nat) : Int) := by omega
     have b10 : ((k - 1 : Nat) : Int) < (n : Int) := by omega
     by_cases hs : tx k = tx (k - 1)
     ·have hfin : Hid (ok = false) := by
       refine zi ?_
       cases hc' : ok with
       | false => rfl
       | true => exact absurd hs ((((zg HK).1 hc').2.2.2 k hlt).2 (by omega))
      rw [← hs] at g2
      clear hs
      go_wp2
      first
       | (go_region_held_law (fun W => W.cell? ⟨w.heap.size, 1, none⟩ = some (.slice (some ⟨b, off, none⟩) n ca) ∧ W.cell? ⟨b, off + k, none⟩ = some (.string (tx k)) ∧ W.cell? ⟨b, off + (k - 1), none⟩ = some (.string (tx k))) (first | exact ⟨c1, g1, g2⟩ | exact ⟨he'.cell c1, he'.cell g1, he'.cell g2⟩) (first | (go_at_call 79; refine ((zg HC) _).mono ?_; rintro e w2 ⟨rfl, F2⟩; have he' := (Ext.refl wr).drew.trans F2; clear F2)))
       | fail
      all_goals
       go_wp2
       go_ret
       exact ⟨zw (zg hfin).symm, EW.trans (hext.trans he')⟩
     ·have HJ2 : Hid (∀ j, j < k + 1 → zdq (baL (tx j)) ∧ (0 < j → tx j ≠ tx (j - 1))) := zi (fun j hj => by
       by_cases e : j = k
       ·subst e; exact ⟨hit, fun _ => hs⟩
       ·exact (zg HJ) j (by omega))
      have hne := zne hs
      clear hs
      go_wp2
      first
       | (go_region_held_law (fun W => W.cell? ⟨w.heap.size, 1, none⟩ = some (.slice (some ⟨b, off, none⟩) n ca) ∧ W.cell? ⟨b, off + k, none⟩ = some (.string (tx k)) ∧ W.cell? ⟨b, off + (k - 1), none⟩ = some (.string (tx (k - 1)))) (first | exact ⟨c1, g1, g2⟩ | exact ⟨he'.cell c1, he'.cell g1, he'.cell g2⟩) (first | (go_at_call 79; refine ((zg HC) _).mono ?_; rintro e w2 ⟨rfl, F2⟩; have he' := (Ext.refl wr).drew.trans F2; clear F2)))
       | fail
      all_goals
       have hE2 := hext.trans he'
       go_wp2
       go_roundw
       case rel => exact ⟨k + 1, by omega, by go_num, HJ2, hE2⟩
       case measure => simp [intOf]; omega
   ·have hfin : Hid (ok = false) := by
     refine zi ?_
     cases hc' : ok with
     | false => rfl
     | true => exact absurd (((zg HK).1 hc').2.2.2 k hlt).1 hit
    have hcon := (fun W => zfl (baL (tx k)) (zau _) W (by rw [zar]; omega) false (by simp [hit]))
    rw [zay] at hcon
    have HC := zi hcon
    clear hcon
    have c1 := hext.cell q1
    go_wp2
    refine wp_region_held_drew (S := fun W => W.cell? ⟨w.heap.size, 1, none⟩ = some (.slice (some ⟨b, off, none⟩) n ca) ∧ W.cell? ⟨b, off + k, none⟩ = some (.string (tx k))) (by kernel_rfl) ⟨c1, g1⟩ (fun hHeld => ?_)
    refine tk 0 ?_ rfl (by kernel_rfl) (fun _ _ _ h => h) (by rfl) ?_ (by assumption) ?_
    rotate_left
    ·intro w' hSw; go_simp <;> with_reducible rfl
    simp only [Act.put, q9]
    refine tk 1 ?_ rfl (by kernel_rfl) (fun _ _ _ h => h) (by rfl) ?_ (by assumption) ?_
    rotate_left
    ·intro w' hSw; go_simp <;> with_reducible rfl
    simp only [Act.put, q9]
    refine tk 2 ?_ rfl (by kernel_rfl) (fun _ _ _ h => h) (by rfl) ?_ (by assumption) ?_
    rotate_left
    ·intro w' hSw; go_simp <;> with_reducible rfl
    simp only [Act.put, q9]
    refine tk 3 ?_ rfl (by kernel_rfl) (fun _ _ _ h => h) (by rfl) ?_ (by assumption) ?_
    rotate_left
    ·intro w' hSw; go_simp <;> with_reducible rfl
    simp only [Act.put, q9]
    refine tk 4 ?_ rfl (by kernel_rfl) (fun _ _ _ h => h) (by rfl) ?_ (by assumption) ?_
    rotate_left
    ·intro w' hSw; go_simp <;> with_reducible rfl
    simp only [Act.put, q9]
    refine rdy 5 (by kernel_rfl) rfl (fun K hK => ?_)
    go_simp
    go_wp2_with (go_at_call 79; refine ((zg HC) _).mono ?_; rintro e w2 ⟨rfl, F2⟩; have he' := (Ext.refl wr).drew.trans F2; clear F2)
    refine hK.out _ _ ⟨he'.cell c1, he'.cell g1⟩ (fun hHeld => ?_)
    clear hK K
    refine tk 6 ?_ rfl (by kernel_rfl) (fun _ _ _ h => h) (by rfl) ?_ (by assumption) ?_
    rotate_left
    ·intro w' hSw; go_simp <;> with_reducible rfl
    simp only [Act.put, q9]
    refine tk 7 ?_ rfl (by kernel_rfl) (fun _ _ _ h => h) (by rfl) ?_ (by assumption) ?_
    rotate_left
    ·intro w' hSw; go_simp <;> with_reducible rfl
    simp only [Act.put, q9]
    refine wpAnyH_take (i := 8) (v := undef) rfl (by kernel_rfl) (by kernel_rfl) (by kernel_rfl) (fun _ _ _ h => h) (Or.inr ⟨by rfl, rfl⟩) (by assumption) ?_
    simp only [Act.put, q9]
    refine wpAnyH_take (i := 9) (v := undef) rfl (by kernel_rfl) (by kernel_rfl) (by kernel_rfl) (fun _ _ _ h => h) (Or.inr ⟨by rfl, rfl⟩) (by assumption) ?_
    simp only [Act.put, q9]
    refine wpAnyH_take (i := 10) (v := undef) rfl (by kernel_rfl) (by kernel_rfl) (by kernel_rfl) (fun _ _ _ h => h) (Or.inr ⟨by rfl, rfl⟩) (by assumption) ?_
    simp only [Act.put, q9]
    refine wpAnyH_take (i := 11) (v := undef) rfl (by kernel_rfl) (by kernel_rfl) (by kernel_rfl) (fun _ _ _ h => h) (Or.inr ⟨by rfl, rfl⟩) (by assumption) ?_
    simp only [Act.put, q9]
    refine wpAnyH_take (i := 12) (v := undef) rfl (by kernel_rfl) (by kernel_rfl) (by kernel_rfl) (fun _ _ _ h => h) (Or.inr ⟨by rfl, rfl⟩) (by assumption) ?_
    simp only [Act.put, q9]
    refine wpAnyH_take (i := 13) (v := undef) rfl (by kernel_rfl) (by kernel_rfl) (by kernel_rfl) (fun _ _ _ h => h) (Or.inr ⟨by rfl, rfl⟩) (by assumption) ?_
    simp only [Act.put, q9]
    refine wpAnyH_take (i := 14) (v := undef) rfl (by kernel_rfl) (by kernel_rfl) (by kernel_rfl) (fun _ _ _ h => h) (Or.inr ⟨by rfl, rfl⟩) (by assumption) ?_
    simp only [Act.put, q9]
    refine wpAnyH_take (i := 15) (v := undef) rfl (by kernel_rfl) (by kernel_rfl) (by kernel_rfl) (fun _ _ _ h => h) (Or.inr ⟨by rfl, rfl⟩) (by assumption) ?_
    simp only [Act.put, q9]
    refine wpAnyH_take (i := 16) (v := undef) rfl (by kernel_rfl) (by kernel_rfl) (by kernel_rfl) (fun _ _ _ h => h) (Or.inr ⟨by rfl, rfl⟩) (by assumption) ?_
    simp only [Act.put, q9]
    refine wpAnyH_take (i := 17) (v := undef) rfl (by kernel_rfl) (by kernel_rfl) (by kernel_rfl) (fun _ _ _ h => h) (Or.inr ⟨by rfl, rfl⟩) (by assumption) ?_
    simp only [Act.put, q9]
    refine wpAnyH_take (i := 18) (v := undef) rfl (by kernel_rfl) (by kernel_rfl) (by kernel_rfl) (fun _ _ _ h => h) (Or.inr ⟨by rfl, rfl⟩) (by assumption) ?_
    simp only [Act.put, q9]
    refine wpAnyH_take (i := 19) (v := undef) rfl (by kernel_rfl) (by kernel_rfl) (by kernel_rfl) (fun _ _ _ h => h) (Or.inr ⟨by rfl, rfl⟩) (by assumption) ?_
    simp only [Act.put, q9]
    refine wpAnyH_take (i := 20) (v := undef) rfl (by kernel_rfl) (by kernel_rfl) (by kernel_rfl) (fun _ _ _ h => h) (Or.inr ⟨by rfl, rfl⟩) (by assumption) ?_
    simp only [Act.put, q9]
    refine wpAnyH_take (i := 21) (v := undef) rfl (by kernel_rfl) (by kernel_rfl) (by kernel_rfl) (fun _ _ _ h => h) (Or.inr ⟨by rfl, rfl⟩) (by assumption) ?_
    simp only [Act.put, q9]
    refine wpAnyH_take (i := 22) (v := undef) rfl (by kernel_rfl) (by kernel_rfl) (by kernel_rfl) (fun _ _ _ h => h) (Or.inr ⟨by rfl, rfl⟩) (by assumption) ?_
    simp only [Act.put, q9]
    refine wpAnyH_take (i := 23) (v := undef) rfl (by kernel_rfl) (by kernel_rfl) (by kernel_rfl) (fun _ _ _ h => h) (Or.inr ⟨by rfl, rfl⟩) (by assumption) ?_
    simp only [Act.put, q9]
    refine tk 24 ?_ rfl (by kernel_rfl) (fun _ _ _ h => h) (by rfl) ?_ (by assumption) ?_
    rotate_left
    ·intro w' hSw; go_simp <;> with_reducible rfl
    simp only [Act.put, q9]
    refine wpAnyH_done (by kernel_rfl) ?_ _
    go_wp2
    go_ret
    exact ⟨zw (zg hfin).symm, hE.trans he'⟩
  ·obtain rfl : k = n := by omega
   have c1 := hext.cell q1
   have hfin : Hid (ok = true) := zi ((zg HK).2 ⟨by omega, by omega, by omega, zg HJ⟩)
   have hE := EW.trans hext
   go_wp2
   go_ret
   exact ⟨zw (zg hfin).symm, hE⟩
end Go.Proofs.YtmlkpdbfnffoaaaGreatDoor
