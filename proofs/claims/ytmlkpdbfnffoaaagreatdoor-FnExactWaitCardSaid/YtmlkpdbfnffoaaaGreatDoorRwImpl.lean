import Derived.Test.YtmlkpdbfnffoaaaGreatDoorSpecRune2
import Derived.Lib.OthersKept
set_option maxHeartbeats 1000000
set_option maxRecDepth 10000
namespace Go.Proofs.YtmlkpdbfnffoaaaGreatDoor
open Go.RowKit
theorem zju : (Tryz.prog.info? 21).map (fun i => (i.zero, i.size, i.bytes)) = some (some (.int .i32 0), 1, 4) := by kernel_rfl
theorem zib (r : Int) : zbd r = zaa (if r = 9 then 32 else r) := by
 unfold zbd
 split
 ·decide
 ·rfl
def Mid (bs : List Int) (i : Nat) (acc : List Int) : Prop := acc ++ zp (bs.drop i) = zp bs ∧ acc.length ≤ i
theorem Mid.step {bs : List Int} {i : Nat} {acc : List Int} (h : Mid bs i acc) (hi : i < bs.length) : Mid bs (i + (za1 (bs.drop i)).2) (acc ++ [zbd (za1 (bs.drop i)).1]) := by
 have hp := zbE (bs.drop i)
 refine ⟨?_, by have := h.2; simp; omega⟩
 rw [← h.1, zf5 (bs.drop i) (by simp; omega), List.drop_drop]
 simp
theorem Mid.done {bs : List Int} {i : Nat} {acc : List Int} (h : Mid bs i acc) (hi : bs.length ≤ i) : acc = zp bs := by
 have := h.1
 rw [List.drop_of_length_le hi, zhg [] rfl] at this
 simpa using this
theorem zbZ (bs : List Int) (hb : zaj bs) (v : Value) (w : World) (hv : zag w .u8 v bs) (hl : bs.length ≤ 16777216) :
  Calls Tryz.prog 68 #[v] w fun e w' => ∃ v', e = .returned v' ∧ w'.ownsRow w.heap.size 21 1 v' (zp bs).length ((zp bs).map (Value.int .i32)) ∧ Ext w w' := by
 obtain ⟨i0, hi, hz0, hz1, hz2⟩ := info_parts zju
 have hv0 := hv
 obtain ⟨ao, cap, rfl, hcap, hr⟩ := hv
 clear hr
 go_enter Tryz.func68, Tryz.ntmps68
 go_wp2
 go_loopw [3, 4] (fun o i wr => ∃ (k : Nat) (acc : List Int), k ≤ bs.length ∧ i = .int .i64 k ∧ Hid (Mid bs k acc) ∧ wr.ownsRow w.heap.size 21 1 o acc.length (acc.map (Value.int .i32)) ∧ Ext w wr) (fun _ i _ => bs.length - (intOf i).toNat)
 case atStart => exact ⟨0, [], Nat.zero_le _, rfl, ⟨by simp, by simp⟩, World.ownsRow_made w #[] 0 (Nat.le_refl _) (by unfold maxLen; omega) (by simp), (Ext.refl _).alloc _⟩
 case round =>
  obtain ⟨k, acc, hk, rfl, HM, hown, hext⟩ := hrel
  by_cases hlt : k < bs.length
  ·obtain ⟨r, m, hd⟩ : ∃ r m, za1 (bs.drop k) = (r, m) := ⟨_, _, rfl⟩
   have hp := zbE (bs.drop k)
   have hq := zfa (bs.drop k) (by simp; omega)
   have HM2 : Hid (Mid bs (k + m) (acc ++ [zbd r])) := by
    have := HM.out.step hlt
    rw [hd] at this
    exact this
   have hcr : Hid (zbd r = zaa (if r = 9 then 32 else r)) := zib r
   have hrune := zkv bs hb _ k _ (hv0.ext hext) hlt (by omega)
   rw [hd] at hp hq hrune
   simp only [List.length_drop] at hp hq
   have HR := zi hrune
   have hal := HM.out.2
   clear hrune hd
   have hm2 : k + m ≤ bs.length := by omega
   obtain ⟨r9, hr9⟩ : ∃ r9, r9 = if r = 9 then (32 : Int) else r := ⟨_, rfl⟩
   have hsb := zcH r9
   have HC : Hid (zbd r = zaa r9) := by rw [hr9]; exact hcr
   have h9 : (r = 9 ∧ r9 = 32) ∨ ((r == 9) = false ∧ r9 = r) := by
    by_cases h : r = 9
    ·exact .inl ⟨h, by rw [hr9, if_pos h]⟩
    ·exact .inr ⟨by simp [h], by rw [hr9, if_neg h]⟩
   clear hcr hr9
   rcases h9 with ⟨rfl, rfl⟩ | ⟨hr9, rfl⟩
   ·go_wp2_with fail
    refine (zg HR).mono ?_
    rintro e w1 ⟨rfl, he1⟩
    go_wp2_with fail
    refine (zdO _ _).mono ?_
    rintro e w2 ⟨rfl, rfl⟩
    have hown1 := he1.owns hown
    have hsz := he1.size
    have hsz2 := hext.size
    go_wp2_with (at_builtin; go_must (refine wpList_append_own _ rfl _ _ 100 rfl w.heap.size 21 i0 (.int .i32 0) 1 4 Tryz.underlying100 hi hz0 hz1 hz2 rfl (by decide) _ _ _ rfl (hown1.alloc _) ⟨w2.heap.size, 0, none⟩ 1 1 [.int .i32 (zaa 32)] rfl rfl ?_ ?_ ?_ ?_ ?_ ?_))
    ·intro j u hj
     match j, hj with
     | 0, hj => simp at hj; subst hj; simp [Addr.add]
    ·intro u hu; simp at hu; subst hu; rfl
    ·unfold maxLen; omega
    ·omega
    ·simp; omega
    ·intro v' w3 hown' hgrow _
     have hE : Ext w w3 := ((hext.trans he1).alloc _).grown hgrow (fun k hk => (hown1.lt k hk).1)
     have hO : w3.ownsRow w.heap.size 21 1 v' (acc ++ [zaa 32]).length ((acc ++ [zaa 32]).map (Value.int .i32)) := by simpa using hown'
     rw [← HC.out] at hO
     clear hown' hgrow hown1 hown
     go_wp2
     go_roundw
     case rel => exact ⟨k + m, _, hm2, by go_num, HM2, hO, hE⟩
     case measure => simp [intOf]; omega
   ·go_wp2_with fail
    refine (zg HR).mono ?_
    rintro e w1 ⟨rfl, he1⟩
    go_wp2_with fail
    refine (zdO _ _).mono ?_
    rintro e w2 ⟨rfl, rfl⟩
    have hown1 := he1.owns hown
    have hsz := he1.size
    have hsz2 := hext.size
    go_wp2_with (at_builtin; go_must (refine wpList_append_own _ rfl _ _ 100 rfl w.heap.size 21 i0 (.int .i32 0) 1 4 Tryz.underlying100 hi hz0 hz1 hz2 rfl (by decide) _ _ _ rfl (hown1.alloc _) ⟨w2.heap.size, 0, none⟩ 1 1 [.int .i32 (zaa r9)] rfl rfl ?_ ?_ ?_ ?_ ?_ ?_))
    ·intro j u hj
     match j, hj with
     | 0, hj => simp at hj; subst hj; simp [Addr.add]
    ·intro u hu; simp at hu; subst hu; rfl
    ·unfold maxLen; omega
    ·omega
    ·simp; omega
    ·intro v' w3 hown' hgrow _
     have hE : Ext w w3 := ((hext.trans he1).alloc _).grown hgrow (fun k hk => (hown1.lt k hk).1)
     have hO : w3.ownsRow w.heap.size 21 1 v' (acc ++ [zaa r9]).length ((acc ++ [zaa r9]).map (Value.int .i32)) := by simpa using hown'
     rw [← HC.out] at hO
     clear hown' hgrow hown1 hown
     go_wp2
     go_roundw
     case rel => exact ⟨k + m, _, hm2, by go_num, HM2, hO, hE⟩
     case measure => simp [intOf]; omega
  ·have HE : Hid (acc = zp bs) := HM.out.done (by omega)
   go_wp2
   go_ret
   rw [← HE.out]
   exact ⟨_, rfl, hown, hext⟩
def zfZ (r : Int) : Bool := decide (r < 32) || (decide (127 ≤ r) && decide (r ≤ 159))
theorem zda (r : Int) (w : World) : Calls Tryz.prog 222 #[.int .i32 r] w fun e w' => e = .returned (.bool (zfZ r)) ∧ w' = w := by
 go_enter Tryz.func222, Tryz.ntmps222
 go_wp2
 all_goals
  go_ret
  refine ⟨zw ?_, rfl⟩
  unfold zfZ
  rw [Bool.eq_iff_iff]
  simp
  omega
theorem zdg (r : Int) (w : World) : Calls Tryz.prog 223 #[.int .i32 r] w fun e w' => e = .returned (.bool (Utf8.valid r)) ∧ w' = w := by
 go_enter Tryz.func223, Tryz.ntmps223
 go_wp2
 all_goals
  go_ret
  refine ⟨zw ?_, rfl⟩
  rw [Bool.eq_iff_iff]
  simp [Utf8.valid]
  omega
theorem zlT (r : Int) (h : zfZ r = true) : zaa r = 65533 := by
 unfold zaa
 rw [if_pos (.inr (by simpa [zfZ] using h))]
theorem zlO (r : Int) (h : Utf8.valid r = false) : zaa r = 65533 := by
 unfold zaa
 rw [if_pos (.inl h)]
theorem zmq (r : Int) (h : zfZ r = false) (h2 : Utf8.valid r = true) : zaa r = r := by
 unfold zaa
 rw [if_neg]
 rintro (h3 | h3)
 ·rw [h2] at h3; cases h3
 ·have : zfZ r = true := by simpa [zfZ] using h3
  rw [h] at this; cases this
theorem zbw (r : Int) (w : World) : Calls Tryz.prog 165 #[.int .i32 r] w fun e w' => e = .returned (.int .i32 (zaa r)) ∧ w' = w := by
 cases h1 : zfZ r
 ·cases h2 : Utf8.valid r
  ·have H := zi (zlO r h2)
   go_enter Tryz.func165, Tryz.ntmps165
   go_wp2_with (first | (go_at_call 222; refine (zda _ _).mono ?_; rintro e w' ⟨rfl, rfl⟩) | (go_at_call 223; refine (zdg _ _).mono ?_; rintro e w' ⟨rfl, rfl⟩))
   go_ret
   exact ⟨za6 (zg H).symm, rfl⟩
  ·have H := zi (zmq r h1 h2)
   go_enter Tryz.func165, Tryz.ntmps165
   go_wp2_with (first | (go_at_call 222; refine (zda _ _).mono ?_; rintro e w' ⟨rfl, rfl⟩) | (go_at_call 223; refine (zdg _ _).mono ?_; rintro e w' ⟨rfl, rfl⟩))
   go_ret
   exact ⟨za6 (zg H).symm, rfl⟩
 ·have H := zi (zlT r h1)
  go_enter Tryz.func165, Tryz.ntmps165
  go_wp2_with (first | (go_at_call 222; refine (zda _ _).mono ?_; rintro e w' ⟨rfl, rfl⟩) | (go_at_call 223; refine (zdg _ _).mono ?_; rintro e w' ⟨rfl, rfl⟩))
  go_ret
  exact ⟨za6 (zg H).symm, rfl⟩
theorem zcD (w : World) (k : Nat) (s : ByteArray) (p : Nat) : w.grownBy (w.iterAt k s p) (some k) :=
 ⟨rfl, rfl, rfl, by rw [Lib.iterAt_size]; exact Nat.le_refl _, fun i _ hn => Lib.iterAt_other w k i s p (fun e => hn (by rw [e]))⟩
theorem zhH (bs : List Int) (hb : zaj bs) (v : Value) (w : World) (hv : zag w .u8 v bs) (hl : bs.length ≤ 16777216) :
  Calls Tryz.prog 231 #[v] w fun e w' => ∃ v', e = .returned v' ∧ w'.ownsRow w.heap.size 21 1 v' (zp bs).length ((zp bs).map (Value.int .i32)) ∧ Ext w w' := by
 obtain ⟨i0, hi, hz0, hz1, hz2⟩ := info_parts zju
 have hcv := zdF (P := Tryz.prog) w _ _ _ Tryz.underlying25 Tryz.underlying5 Tryz.underlying9 _ _ hv
 obtain ⟨S, hS⟩ : ∃ S, S = zv bs := ⟨_, rfl⟩
 have hss : S.size = bs.length := by rw [hS, zai]
 have hsl : S.size ≤ 16777216 := by omega
 have HS := zi hS
 have HSS := zi hss
 rw [← hS] at hcv
 clear hS hss
 go_enter Tryz.func231, Tryz.ntmps231
 go_wp2
 go_loopw [3] (fun o wr => ∃ (k : Nat) (acc : List Int), k ≤ bs.length ∧ Hid (Mid bs k acc) ∧ wr.heap[w.heap.size]? = some (.stringIter S k) ∧ wr.ownsRow (w.heap.size + 1) 21 1 o acc.length (acc.map (Value.int .i32)) ∧ Ext w wr) (fun _ wr => bs.length - wr.iterPos w.heap.size)
 case atStart => exact ⟨0, [], Nat.zero_le _, ⟨by simp, by simp⟩, World.iter_heap w S 0, World.ownsRow_nil _ _ _ _, (Ext.refl _).alloc _⟩
 case round =>
  obtain ⟨k, acc, hk, HM, hit, hown, hext⟩ := hrel
  have hszr : w.heap.size < wr.heap.size := (Array.getElem?_eq_some_iff.1 hit).1
  by_cases hlt : k < bs.length
  ·obtain ⟨r, m, hd⟩ : ∃ r m, za1 (bs.drop k) = (r, m) := ⟨_, _, rfl⟩
   have hp := zbE (bs.drop k)
   have hq := zfa (bs.drop k) (by simp; omega)
   have HM2 : Hid (Mid bs (k + m) (acc ++ [zbd r])) := by
    have := HM.out.step hlt
    rw [hd] at this
    exact this
   have hcr : Hid (zbd r = zaa (if r = 9 then 32 else r)) := zib r
   have hdec := zeb bs hb k
   rw [hd] at hp hq hdec
   rw [← HS.out] at hdec
   simp only [Prod.mk.injEq] at hdec
   have hnx := fun ty => Lib.run_next_any_at (P := Tryz.prog) wr w.heap.size S k ty hit (by rw [HSS.out]; exact hlt)
   rw [hdec.1, hdec.2] at hnx
   simp only [List.length_drop] at hp hq
   have hal := HM.out.2
   have hm2 : k + m ≤ bs.length := by omega
   have hit1 := Lib.iterAt_heap wr w.heap.size S k (k + m) hit
   have hown1 : (wr.iterAt w.heap.size S (k + m)).ownsRow (w.heap.size + 1) 21 1 u3 acc.length (acc.map (Value.int .i32)) := hown.kept (zcD _ _ _ _) (by
    cases hob : u3.ownBlock with
    | none => exact .inl rfl
    | some g => right; have := (hown.lt g hob).1; simp; omega)
   have hext1 : Ext w (wr.iterAt w.heap.size S (k + m)) := hext.grown (zcD _ _ _ _) (fun k hk => by simp at hk; omega)
   have hszs := Lib.iterAt_size wr w.heap.size S (k + m)
   obtain ⟨r9, hr9⟩ : ∃ r9, r9 = if r = 9 then (32 : Int) else r := ⟨_, rfl⟩
   have hsb := zcH r9
   have HC : Hid (zbd r = zaa r9) := by rw [hr9]; exact hcr
   have h9 : (r = 9 ∧ r9 = 32) ∨ ((r == 9) = false ∧ r9 = r) := by
    by_cases h : r = 9
    ·exact .inl ⟨h, by rw [hr9, if_pos h]⟩
    ·exact .inr ⟨by simp [h], by rw [hr9, if_neg h]⟩
   clear hcr hr9 hdec hd
   rcases h9 with ⟨rfl, rfl⟩ | ⟨hr9, rfl⟩
   ·go_wp2_with fail
    refine (zbw _ _).mono ?_
    rintro e w2 ⟨rfl, rfl⟩
    have hsz2 := hext1.size
    go_wp2_with (at_builtin; go_must (refine wpList_append_own _ rfl _ _ 100 rfl (w.heap.size + 1) 21 i0 (.int .i32 0) 1 4 Tryz.underlying100 hi hz0 hz1 hz2 rfl (by decide) _ _ _ rfl (hown1.alloc _) ⟨wr.heap.size, 0, none⟩ 1 1 [.int .i32 (zaa 32)] rfl rfl ?_ ?_ ?_ ?_ ?_ ?_))
    ·intro j u hj
     match j, hj with
     | 0, hj => simp at hj; subst hj; rw [Addr.add_lit, World.cell?_alloc_at _ _ _ _ (by rw [hszs])]; rfl
    ·intro u hu; simp at hu; subst hu; rfl
    ·unfold maxLen; omega
    ·omega
    ·simp; omega
    ·intro v' w3 hown' hgrow _
     have hE : Ext w w3 := (hext1.alloc _).grown hgrow (fun k hk => by have := (hown1.lt k hk).1; omega)
     have hO : w3.ownsRow (w.heap.size + 1) 21 1 v' (acc ++ [zaa 32]).length ((acc ++ [zaa 32]).map (Value.int .i32)) := by simpa using hown'
     have hI : w3.heap[w.heap.size]? = some (.stringIter S (k + m)) := by
      rw [hgrow.block w.heap.size (by simp; omega) (fun e => by have := (hown1.lt _ e.symm).1; omega)]
      exact (Below.heap_alloc _ _ _ (by rw [hszs]; exact hszr)).trans hit1
     have hP : bs.length - w3.iterPos w.heap.size < bs.length - wr.iterPos w.heap.size := by
      simp only [World.iterPos, hI, hit]; omega
     have HP := zi hP
     rw [← HC.out] at hO
     clear hown' hgrow hown1 hown hP
     go_wp2
     go_roundw
     case rel => exact ⟨k + m, _, hm2, HM2, hI, hO, hE⟩
     case measure => exact zg HP
   ·go_wp2_with fail
    refine (zbw _ _).mono ?_
    rintro e w2 ⟨rfl, rfl⟩
    have hsz2 := hext1.size
    go_wp2_with (at_builtin; go_must (refine wpList_append_own _ rfl _ _ 100 rfl (w.heap.size + 1) 21 i0 (.int .i32 0) 1 4 Tryz.underlying100 hi hz0 hz1 hz2 rfl (by decide) _ _ _ rfl (hown1.alloc _) ⟨wr.heap.size, 0, none⟩ 1 1 [.int .i32 (zaa r9)] rfl rfl ?_ ?_ ?_ ?_ ?_ ?_))
    ·intro j u hj
     match j, hj with
     | 0, hj => simp at hj; subst hj; rw [Addr.add_lit, World.cell?_alloc_at _ _ _ _ (by rw [hszs])]; rfl
    ·intro u hu; simp at hu; subst hu; rfl
    ·unfold maxLen; omega
    ·omega
    ·simp; omega
    ·intro v' w3 hown' hgrow _
     have hE : Ext w w3 := (hext1.alloc _).grown hgrow (fun k hk => by have := (hown1.lt k hk).1; omega)
     have hO : w3.ownsRow (w.heap.size + 1) 21 1 v' (acc ++ [zaa r9]).length ((acc ++ [zaa r9]).map (Value.int .i32)) := by simpa using hown'
     have hI : w3.heap[w.heap.size]? = some (.stringIter S (k + m)) := by
      rw [hgrow.block w.heap.size (by simp; omega) (fun e => by have := (hown1.lt _ e.symm).1; omega)]
      exact (Below.heap_alloc _ _ _ (by rw [hszs]; exact hszr)).trans hit1
     have hP : bs.length - w3.iterPos w.heap.size < bs.length - wr.iterPos w.heap.size := by
      simp only [World.iterPos, hI, hit]; omega
     have HP := zi hP
     rw [← HC.out] at hO
     clear hown' hgrow hown1 hown hP
     go_wp2
     go_roundw
     case rel => exact ⟨k + m, _, hm2, HM2, hI, hO, hE⟩
     case measure => exact zg HP
  ·have HE : Hid (acc = zp bs) := HM.out.done (by omega)
   have hnx := fun ty => Lib.run_next_end_at (P := Tryz.prog) wr w.heap.size S k ty hit (by rw [HSS.out]; omega)
   go_wp2
   go_ret
   rw [← HE.out]
   exact ⟨_, rfl, zas hown (by omega), hext⟩
def inR (r : Int) : List Int → Bool
 | a :: b :: t => (decide (a ≤ r) && decide (r ≤ b)) || inR r t
 | _ => false
theorem znc (r : Int) (xs : List Int) (k : Nat) (h : k + 1 < xs.length) :
  inR r (xs.drop k) = ((decide (at0 xs k ≤ r) && decide (r ≤ at0 xs (k + 1))) || inR r (xs.drop (k + 2))) := by
 rw [List.drop_eq_getElem_cons (by omega), List.drop_eq_getElem_cons (by omega), inR]
 simp [at0, List.getElem?_eq_getElem (show k < xs.length by omega), List.getElem?_eq_getElem h]
theorem zlK (r : Int) (xs : List Int) (k : Nat) (h : xs.length ≤ k + 1) : inR r (xs.drop k) = false := by
 have : (xs.drop k).length ≤ 1 := by simp; omega
 match hx : xs.drop k, this with
 | [], _ => rfl
 | [a], _ => rfl
theorem zjm (r : Int) (b : Nat) (xs : List Int) (c : Nat) (w : World) (hl : xs.length < 1000)
  (hc : ∀ i : Nat, i < xs.length → w.cell? ⟨b, i, none⟩ = some (.int .i64 (at0 xs i))) :
  Calls Tryz.prog 237 #[.int .i64 r, .slice (some ⟨b, 0, none⟩) xs.length c] w fun e w' => e = .returned (.bool (inR r xs)) ∧ w' = w := by
 go_enter Tryz.func237, Tryz.ntmps237
 go_wp2
 go_loop [5] (fun i => ∃ k : Nat, k ≤ xs.length + 1 ∧ i = .int .i64 k ∧ inR r (xs.drop k) = inR r xs) (fun i => xs.length + 1 - (intOf i).toNat)
 case atStart => exact ⟨0, Nat.zero_le _, rfl, rfl⟩
 case round =>
  obtain ⟨k, hk, rfl, hin0⟩ := hrel
  have hin : Hid (inR r (xs.drop k) = inR r xs) := hin0
  by_cases hlt : k + 1 < xs.length
  ·have h1 := hc k (by omega)
   have h2 := hc (k+1) (by omega)
   have hd : Hid (inR r (xs.drop k) = ((decide (at0 xs k ≤ r) && decide (r ≤ at0 xs (k + 1))) || inR r (xs.drop (k + 2)))) := znc r xs k hlt
   clear hin0
   go_wp2
   ·go_ret
    exact ⟨zw (by rw [← hin.out, hd.out]; simp [*]), rfl⟩
   all_goals
    go_round
    case rel => exact ⟨k + 2, by omega, by go_num, by rw [← hin.out, hd.out]; simp only [Bool.eq_or_self]; intro hh; simp at hh; omega⟩
    case measure => simp [intOf]; omega
  ·clear hin0
   have hs : Hid (inR r (xs.drop k) = false) := zlK r xs k (by omega)
   go_wp2
   go_ret
   exact ⟨zw (by rw [← hin.out, hs.out]), rfl⟩
def zeo : List Int := [768, 879, 1155, 1161, 1425, 1469, 8203, 8207, 8400, 8432, 65024, 65039, 65056, 65071]
def zfx : List Int := [4352, 4447, 11904, 12350, 12353, 19903, 19968, 42191, 44032, 55203, 63744, 64255, 65072, 65135, 65280, 65376, 65504, 65510, 127744, 128591, 129280, 129535, 131072, 262141]
def wid (r : Int) : Int := if inR r zeo then 0 else if inR r zfx then 2 else 1
def zc6 (l : List Int) : Array Value := (l.map (Value.int .i64)).toArray
theorem zgX (l : List Int) (i : Nat) (h : i < l.length) : (zc6 l)[i]? = some (.int .i64 (at0 l i)) := by
 simp [zc6, at0, h]
theorem zg8 (r : Int) (w : World) (t : Nat) (o : Obj) : Calls Tryz.prog 237 #[.int .i64 r, .slice (some ⟨w.heap.size, 0, none⟩) 14 14] ((w.alloc (.cells (zc6 zeo) t)).alloc o) fun e w' => e = .returned (.bool (inR r zeo)) ∧ w' = ((w.alloc (.cells (zc6 zeo) t)).alloc o) := by
 refine zjm r w.heap.size zeo 14 _ (by decide) ?_
 intro i hi
 rw [World.cell?_alloc_past _ _ _ (by simp), World.cell?_alloc_at _ _ _ _ rfl]
 exact zgX _ i hi
theorem zlH (r : Int) (w : World) (t : Nat) : Calls Tryz.prog 237 #[.int .i64 r, .slice (some ⟨w.heap.size, 0, none⟩) 24 24] (w.alloc (.cells (zc6 zfx) t)) fun e w' => e = .returned (.bool (inR r zfx)) ∧ w' = (w.alloc (.cells (zc6 zfx) t)) := by
 refine zjm r w.heap.size zfx 24 _ (by decide) ?_
 intro i hi
 rw [World.cell?_alloc_at _ _ _ _ rfl]
 exact zgX _ i hi
theorem l1In_twos' (r : Int) (w : World) (o : Obj) (t : Nat) : Calls Tryz.prog 237 #[.int .i64 r, .slice (some ⟨w.heap.size + 1, 0, none⟩) 24 24] ((w.alloc o).alloc (.cells (zc6 zfx) t)) fun e w' => e = .returned (.bool (inR r zfx)) ∧ w' = ((w.alloc o).alloc (.cells (zc6 zfx) t)) := by
 have h := zlH r (w.alloc o) t
 simpa using h
theorem zkR (r : Int) (w : World) (h0 : -2147483648 ≤ r) (h1 : r ≤ 2147483647) :
  Calls Tryz.prog 180 #[.int .i32 r] w fun e w' => e = .returned (.int .i64 (wid r)) ∧ Below w.heap.size w w' := by
 cases hz : inR r zeo
 ·cases ht : inR r zfx
  all_goals
   have hw : Hid (wid r = if inR r zeo then 0 else if inR r zfx then 2 else 1) := rfl
   go_enter Tryz.func180, Tryz.ntmps180
   go_wp2_with fail
   refine (zg8 r w 3 _).mono ?_
   rintro e w' ⟨rfl, rfl⟩
   go_wp2_with fail
   refine (l1In_twos' r w _ 3).mono ?_
   rintro e w' ⟨rfl, rfl⟩
   go_wp2
   go_ret
   refine ⟨?_, by go_grown⟩
   rw [hw.out]; simp [hz, ht]
 ·have hw : Hid (wid r = if inR r zeo then 0 else if inR r zfx then 2 else 1) := rfl
  go_enter Tryz.func180, Tryz.ntmps180
  go_wp2_with fail
  refine (zg8 r w 3 _).mono ?_
  rintro e w' ⟨rfl, rfl⟩
  go_wp2
  go_ret
  refine ⟨?_, by go_grown⟩
  rw [hw.out]; simp [hz]
def zcY : List Int := [768, 1155, 1425, 4352, 8203, 8400, 11904, 12353, 19968, 44032, 63744, 65024, 65056, 65072, 65280, 65504, 127744, 129280, 131072]
def zdY : List Int := [879, 1161, 1469, 4447, 8207, 8432, 12350, 19903, 42191, 55203, 64255, 65039, 65071, 65135, 65376, 65510, 128591, 129535, 262141]
def zkQ : List Int := [0, 0, 0, 2, 0, 0, 2, 2, 2, 2, 2, 0, 0, 2, 2, 2, 2, 2, 2]
theorem zlz : ∀ j : Fin 19, ∀ i : Fin 19, i.val ≤ j.val → at0 zcY i.val ≤ at0 zcY j.val := by decide +kernel
theorem zmB : ∀ j : Fin 19, ∀ i : Fin 19, i.val ≤ j.val → at0 zdY i.val ≤ at0 zdY j.val := by decide +kernel
theorem zjY (r : Int) : wid r = if ((768 ≤ r ∧ r ≤ 879) ∨ (1155 ≤ r ∧ r ≤ 1161) ∨ (1425 ≤ r ∧ r ≤ 1469) ∨ (8203 ≤ r ∧ r ≤ 8207) ∨ (8400 ≤ r ∧ r ≤ 8432) ∨ (65024 ≤ r ∧ r ≤ 65039) ∨ (65056 ≤ r ∧ r ≤ 65071)) then 0
  else if ((4352 ≤ r ∧ r ≤ 4447) ∨ (11904 ≤ r ∧ r ≤ 12350) ∨ (12353 ≤ r ∧ r ≤ 19903) ∨ (19968 ≤ r ∧ r ≤ 42191) ∨ (44032 ≤ r ∧ r ≤ 55203) ∨ (63744 ≤ r ∧ r ≤ 64255) ∨ (65072 ≤ r ∧ r ≤ 65135) ∨ (65280 ≤ r ∧ r ≤ 65376) ∨ (65504 ≤ r ∧ r ≤ 65510) ∨ (127744 ≤ r ∧ r ≤ 128591) ∨ (129280 ≤ r ∧ r ≤ 129535) ∨ (131072 ≤ r ∧ r ≤ 262141)) then 2 else 1 := by
 unfold wid
 have e1 : (inR r zeo = true) = ((768 ≤ r ∧ r ≤ 879) ∨ (1155 ≤ r ∧ r ≤ 1161) ∨ (1425 ≤ r ∧ r ≤ 1469) ∨ (8203 ≤ r ∧ r ≤ 8207) ∨ (8400 ≤ r ∧ r ≤ 8432) ∨ (65024 ≤ r ∧ r ≤ 65039) ∨ (65056 ≤ r ∧ r ≤ 65071)) := by
  simp [inR, zeo]
 have e2 : (inR r zfx = true) = ((4352 ≤ r ∧ r ≤ 4447) ∨ (11904 ≤ r ∧ r ≤ 12350) ∨ (12353 ≤ r ∧ r ≤ 19903) ∨ (19968 ≤ r ∧ r ≤ 42191) ∨ (44032 ≤ r ∧ r ≤ 55203) ∨ (63744 ≤ r ∧ r ≤ 64255) ∨ (65072 ≤ r ∧ r ≤ 65135) ∨ (65280 ≤ r ∧ r ≤ 65376) ∨ (65504 ≤ r ∧ r ≤ 65510) ∨ (127744 ≤ r ∧ r ≤ 128591) ∨ (129280 ≤ r ∧ r ≤ 129535) ∨ (131072 ≤ r ∧ r ≤ 262141)) := by
  simp [inR, zfx]
 simp only [e1, e2]
theorem wid_hit (r : Int) (m : Nat) (hm : m < 19) (h1 : at0 zcY m ≤ r) (h2 : r ≤ at0 zdY m) : wid r = at0 zkQ m := by
 rw [zjY]
 match m, hm with
 | 0, _ | 1, _ | 2, _ | 3, _ | 4, _ | 5, _ | 6, _ | 7, _ | 8, _ | 9, _ | 10, _ | 11, _ | 12, _ | 13, _ | 14, _ | 15, _ | 16, _ | 17, _ | 18, _ =>
  simp [at0, zcY, zdY] at h1 h2
  first
   | (rw [if_pos (by omega)]; rfl)
   | (rw [if_neg (by omega), if_pos (by omega)]; rfl)
 | n + 19, h => omega
theorem zmU (r : Int) (l : Nat) (hl : l ≤ 19) (h1 : ∀ i, i < l → at0 zdY i < r) (h2 : ∀ i, l ≤ i → i < 19 → r < at0 zcY i) : wid r = 1 := by
 rw [zjY]
 have a := h1 (l - 1)
 have b := h2 l (Nat.le_refl _)
 clear h1 h2
 match l, hl with
 | 0, _ | 1, _ | 2, _ | 3, _ | 4, _ | 5, _ | 6, _ | 7, _ | 8, _ | 9, _ | 10, _ | 11, _ | 12, _ | 13, _ | 14, _ | 15, _ | 16, _ | 17, _ | 18, _ | 19, _ =>
  simp [at0, zcY, zdY] at a b
  rw [if_neg (by omega), if_neg (by omega)]
 | n + 20, h => omega
theorem lo_step (r : Int) (m : Nat) (hm : m < 19) (h : at0 zdY m < r) : ∀ i, i < m + 1 → at0 zdY i < r := by
 intro i hi
 have := zmB ⟨m, hm⟩ ⟨i, by omega⟩ (by simp; omega)
 simp at this
 omega
theorem hi_step (r : Int) (m : Nat) (hm : m < 19) (h : r < at0 zcY m) : ∀ i, m ≤ i → i < 19 → r < at0 zcY i := by
 intro i hi hi2
 have := zlz ⟨i, hi2⟩ ⟨m, hm⟩ (by simp; omega)
 simp at this
 omega
def zcB (w : World) : Prop := ∀ m : Nat, m < 19 → w.cell? ⟨2, m * 3, none⟩ = some (.int .i32 (at0 zcY m)) ∧ w.cell? ⟨2, m * 3 + 1, none⟩ = some (.int .i32 (at0 zdY m)) ∧ w.cell? ⟨2, m * 3 + 2, none⟩ = some (.int .i64 (at0 zkQ m))
theorem zcB.pos {w : World} (h : zcB w) : 2 < w.heap.size := zb2 (h 0 (by omega)).1
theorem zcB.below {w w' : World} (h : zcB w) (hb : Below w.heap.size w w') : zcB w' := fun m hm => by
 have p := h.pos
 obtain ⟨a, b, c⟩ := h m hm
 exact ⟨(hb.cell (p := ⟨2, m * 3, none⟩) p).trans a, (hb.cell (p := ⟨2, m * 3 + 1, none⟩) p).trans b, (hb.cell (p := ⟨2, m * 3 + 2, none⟩) p).trans c⟩
theorem zeI (r : Int) (w : World) (_h0 : -2147483648 ≤ r) (_h1 : r ≤ 2147483647) (hT : zcB w) :
  Calls Tryz.prog 246 #[.int .i32 r] w fun e w' => e = .returned (.int .i64 (wid r)) ∧ Below w.heap.size w w' := by
 go_enter Tryz.func246, Tryz.ntmps246
 go_wp2
 go_loopw [3, 4] (fun a b w' => ∃ l h : Nat, l ≤ h ∧ h ≤ 19 ∧ a = .int .i64 l ∧ b = .int .i64 h ∧ Hid ((∀ i, i < l → at0 zdY i < r) ∧ (∀ i, h ≤ i → i < 19 → r < at0 zcY i)) ∧ Below w.heap.size w w') (fun a b _ => (intOf b).toNat - (intOf a).toNat)
 case atStart => exact ⟨0, 19, by omega, by omega, rfl, rfl, ⟨by intros; omega, by intros; omega⟩, Below.refl _ _⟩
 case round =>
  obtain ⟨l, h, hlh, hh, rfl, rfl, HI, hb⟩ := hrel
  by_cases hlt : l < h
  ·have hm0 : (l + h) / 2 < 19 := by omega
   have hm1 : l ≤ (l + h) / 2 := by omega
   have hm2 : (l + h) / 2 < h := by omega
   obtain ⟨c0, c1, c2⟩ := (hT.below hb) ((l + h)/2) hm0
   have hsz := hb.size
   go_wp2
   ·go_roundw
    case rel => exact ⟨l, (l + h) / 2, by omega, by omega, by go_num, by go_num, ⟨HI.out.1, hi_step r _ hm0 (by assumption)⟩, by go_grown⟩
    case measure => simp [intOf]; omega
   ·go_roundw
    case rel => exact ⟨(l + h) / 2 + 1, h, by omega, by omega, by go_num, by go_num, ⟨lo_step r _ hm0 (by assumption), HI.out.2⟩, by go_grown⟩
    case measure => simp [intOf]; omega
   ·go_ret
    exact ⟨za6 (wid_hit r _ hm0 (by omega) (by omega)).symm, by go_grown⟩
  ·have e : l = h := by omega
   have hw : Hid (wid r = 1) := zmU r l (by omega) HI.out.1 (by rw [e]; exact HI.out.2)
   clear e
   go_wp2
   go_ret
   exact ⟨za6 hw.out.symm, hb⟩
end Go.Proofs.YtmlkpdbfnffoaaaGreatDoor
