import Derived.Test.YtokjpnlmkecleaaGreatDoorWrapW
import Derived.Lib.ValidLaws
import Derived.Test.YtokjpnlmkecleaaGreatDoorImplClean
import Derived.Test.YtokjpnlmkecleaaGreatDoorRwImpl
import Derived.Test.YtokjpnlmkecleaaGreatDoorWhole
import Derived.Lib.LaidU8
namespace Go.Proofs.YtokjpnlmkecleaaGreatDoor
open Go.RowKit

/-- The runes of bytes as 'range' gives them. -/
def runesF : Nat → List Int → List Int
  | 0, _ => []
  | f + 1, l => if l.length = 0 then [] else (decL l).1 :: runesF f (l.drop (decL l).2)
def runesL (l : List Int) : List Int := runesF l.length l
theorem runesF_fuel : ∀ (f g : Nat) (l : List Int), l.length ≤ f → l.length ≤ g → runesF f l = runesF g l
  | 0, 0, _, _, _ => rfl
  | 0, g + 1, l, h, _ => by simp [runesF]; exact List.eq_nil_of_length_eq_zero (by omega)
  | f + 1, 0, l, _, h => by simp [runesF]; exact List.eq_nil_of_length_eq_zero (by omega)
  | f + 1, g + 1, l, h1, h2 => by
    simp only [runesF]
    split
    · rfl
    · have hp := decL_pos l
      rw [runesF_fuel f g _ (by simp; omega) (by simp; omega)]
theorem runesL_step (l : List Int) (h : 0 < l.length) : runesL l = (decL l).1 :: runesL (l.drop (decL l).2) := by
  unfold runesL
  obtain ⟨m, hm⟩ : ∃ m, l.length = m + 1 := ⟨l.length - 1, by omega⟩
  have hp := decL_pos l
  rw [hm]
  simp only [runesF]
  rw [if_neg (by omega), runesF_fuel m _ _ (by simp; omega) (Nat.le_refl _)]
theorem clean_runes (l : List Int) : cleanL l = (runesL l).map cleanR := by
  have : ∀ f (l : List Int), cleanF f l = (runesF f l).map cleanR := by
    intro f
    induction f with
    | zero => intro l; rfl
    | succ f ih =>
      intro l
      simp only [cleanF, runesF]
      split
      · rfl
      · rw [ih]; rfl
  exact this _ _
theorem runes_enc : ∀ (xs : List Int), (∀ x ∈ xs, Utf8.valid x = true) → runesL (encA xs) = xs
  | [], _ => rfl
  | x :: xs, h => by
    have hp := encR_pos x
    rw [encA, runesL_step _ (by simp; omega), dec_enc x (h x (by simp))]
    simp only
    rw [List.drop_left, runes_enc xs (fun y hy => h y (by simp [hy]))]
/-- Bytes that are their runes' UTF-8. -/
def ValidL (l : List Int) : Prop := encA (runesL l) = l
/-- What 'settled' looks for. -/
theorem settled_iff (l : List Int) : settleL l = l ↔ (∀ r ∈ runesL l, shownI r = r) ∧ (runesL l ≠ [] → 0 < wid (at0 (runesL l) 0)) ∧ ValidL l := by
  constructor
  · intro h
    have hc := fl_clean _ (cleanL_mem l)
    have he : runesL l = fl (cleanL l) := by
      have := runes_enc (fl (cleanL l)) (fun x hx => (hc x hx).1)
      rw [← settleL_enc, h] at this
      exact this
    refine ⟨fun r hr => ?_, fun hne => ?_, ?_⟩
    · rw [he] at hr
      exact (hc r hr).shown
    · rw [he] at hne ⊢
      unfold fl at hne ⊢
      split
      · rename_i e; rw [if_pos e] at hne; exact absurd rfl hne
      · split
        · assumption
        · show 0 < wid 9676
          decide
    · unfold ValidL
      rw [he, ← settleL_enc, h]
  · rintro ⟨h1, h2, h3⟩
    have hm : cleanL l = runesL l := by
      rw [clean_runes]
      conv => rhs; rw [← List.map_id (runesL l)]
      refine List.map_congr_left fun r hr => ?_
      have := h1 r hr
      unfold cleanR
      split
      · rename_i e
        subst e
        exact absurd this (by decide)
      · exact this
    rw [settleL_enc, hm]
    have hf : fl (runesL l) = runesL l := by
      unfold fl
      split
      · rename_i e; exact e.symm
      · rename_i e
        rw [if_pos (h2 e)]
    rw [hf]
    exact h3
end Go.Proofs.YtokjpnlmkecleaaGreatDoor

namespace Go.Proofs.YtokjpnlmkecleaaGreatDoor
open Go.RowKit

theorem split2 {bs : List Int} (h : 1 < bs.length) : bs = at0 bs 0 :: at0 bs 1 :: bs.drop 2 := by
  match bs, h with
  | a :: b :: r, _ => rfl
theorem split3 {bs : List Int} (h : 2 < bs.length) : bs = at0 bs 0 :: at0 bs 1 :: at0 bs 2 :: bs.drop 3 := by
  match bs, h with
  | a :: b :: c :: r, _ => rfl
theorem split4 {bs : List Int} (h : 3 < bs.length) : bs = at0 bs 0 :: at0 bs 1 :: at0 bs 2 :: at0 bs 3 :: bs.drop 4 := by
  match bs, h with
  | a :: b :: c :: d :: r, _ => rfl
theorem cont_bd {l : List Int} {k : Nat} (h : cont l k = true) : k < l.length ∧ 128 ≤ at0 l k ∧ at0 l k ≤ 191 := by
  unfold cont at h
  simp at h
  exact ⟨h.1.1, h.1.2, h.2⟩
/-- What was decoded, and is no mark of an error, encodes to the bytes that it was decoded from. -/
theorem enc_dec (bs : List Int) (hb : Bytes bs) (h0 : 0 < bs.length) (hv : ¬ ((decL bs).1 = 65533 ∧ (decL bs).2 = 1)) : encR (decL bs).1 ++ bs.drop (decL bs).2 = bs := by
  have b0 := hb.at0 0
  unfold decL at hv ⊢
  by_cases h1 : at0 bs 0 < 128
  · rw [if_pos h1]
    have hval : Utf8.valid (at0 bs 0) = true := by unfold Utf8.valid; simp; omega
    show encR (at0 bs 0) ++ bs.drop 1 = bs
    rw [encR, if_pos hval, encL, if_pos (by omega)]
    match bs, h0 with
    | a :: r, _ => rfl
  rw [if_neg h1] at hv ⊢
  by_cases h2 : (192 ≤ at0 bs 0 ∧ at0 bs 0 < 224) ∧ cont bs 1 = true
  · rw [if_pos h2] at hv ⊢
    obtain ⟨hl, k1, k2⟩ := cont_bd h2.2
    by_cases h3 : 128 ≤ v2 bs
    · rw [if_pos h3]
      show encR (v2 bs) ++ bs.drop 2 = bs
      have hval : Utf8.valid (v2 bs) = true := by unfold v2 at h3 ⊢; unfold Utf8.valid; simp; omega
      rw [encR, if_pos hval]
      conv => rhs; rw [split2 hl]
      have e : encL (v2 bs) = [at0 bs 0, at0 bs 1] := by
        unfold encL v2 at *
        rw [if_neg (by omega), if_pos (by omega)]
        have : (at0 bs 0 % 32 * 64 + at0 bs 1 - 128) / 64 = at0 bs 0 - 192 := by omega
        have : (at0 bs 0 % 32 * 64 + at0 bs 1 - 128) % 64 = at0 bs 1 - 128 := by omega
        simp
        omega
      rw [e]; rfl
    · rw [if_neg h3] at hv
      exact absurd ⟨rfl, rfl⟩ hv
  rw [if_neg h2] at hv ⊢
  by_cases h4 : (224 ≤ at0 bs 0 ∧ at0 bs 0 < 240) ∧ cont bs 1 = true ∧ cont bs 2 = true
  · rw [if_pos h4] at hv ⊢
    obtain ⟨_, k1, k2⟩ := cont_bd h4.2.1
    obtain ⟨hl, k3, k4⟩ := cont_bd h4.2.2
    by_cases h3 : 2048 ≤ v3 bs ∧ Utf8.valid (v3 bs) = true
    · rw [if_pos h3]
      show encR (v3 bs) ++ bs.drop 3 = bs
      rw [encR, if_pos h3.2]
      conv => rhs; rw [split3 hl]
      have e : encL (v3 bs) = [at0 bs 0, at0 bs 1, at0 bs 2] := by
        have h3' := h3.1
        unfold encL v3 at *
        rw [if_neg (by omega), if_neg (by omega), if_pos (by omega)]
        simp
        omega
      rw [e]; rfl
    · rw [if_neg h3] at hv
      exact absurd ⟨rfl, rfl⟩ hv
  rw [if_neg h4] at hv ⊢
  by_cases h5 : (240 ≤ at0 bs 0 ∧ at0 bs 0 < 248) ∧ cont bs 1 = true ∧ cont bs 2 = true ∧ cont bs 3 = true
  · rw [if_pos h5] at hv ⊢
    obtain ⟨_, k1, k2⟩ := cont_bd h5.2.1
    obtain ⟨_, k3, k4⟩ := cont_bd h5.2.2.1
    obtain ⟨hl, k5, k6⟩ := cont_bd h5.2.2.2
    by_cases h3 : 65536 ≤ v4 bs ∧ Utf8.valid (v4 bs) = true
    · rw [if_pos h3]
      show encR (v4 bs) ++ bs.drop 4 = bs
      rw [encR, if_pos h3.2]
      conv => rhs; rw [split4 hl]
      have e : encL (v4 bs) = [at0 bs 0, at0 bs 1, at0 bs 2, at0 bs 3] := by
        have h3' := h3.1
        unfold encL v4 at *
        rw [if_neg (by omega), if_neg (by omega), if_neg (by omega)]
        simp
        omega
      rw [e]; rfl
    · rw [if_neg h3] at hv
      exact absurd ⟨rfl, rfl⟩ hv
  · rw [if_neg h5] at hv
    exact absurd ⟨rfl, rfl⟩ hv
theorem toBA_drop (bs : List Int) (m : Nat) : (toBA bs).data.toList.drop m = (toBA (bs.drop m)).data.toList := by
  rw [toBA_list, toBA_list, List.map_drop]
theorem decodeL_is (bs : List Int) (hb : Bytes bs) : (((Lib.decodeL (toBA bs).data.toList).1 : Int), (Lib.decodeL (toBA bs).data.toList).2) = decL bs := by
  have h := decode_is bs hb 0
  rw [List.drop_zero] at h
  exact h
theorem valid_iff : ∀ (f : Nat) (bs : List Int), bs.length ≤ f → Bytes bs → (Lib.validD (toBA bs).data.toList = true ↔ ValidL bs) := by
  intro f
  induction f with
  | zero =>
    intro bs h hb
    have : bs = [] := List.eq_nil_of_length_eq_zero (by omega)
    subst this
    exact ⟨fun _ => rfl, fun _ => rfl⟩
  | succ f ih =>
    intro bs h hb
    by_cases h0 : bs.length = 0
    · have : bs = [] := List.eq_nil_of_length_eq_zero h0
      subst this
      exact ⟨fun _ => rfl, fun _ => rfl⟩
    have hne : (toBA bs).data.toList ≠ [] := by
      intro e
      have := congrArg List.length e
      rw [toBA_list, List.length_map] at this
      exact h0 this
    have hd := decodeL_is bs hb
    have hp := decL_pos bs
    have e1 : ((Lib.decodeL (toBA bs).data.toList).1 : Int) = (decL bs).1 := congrArg Prod.fst hd
    have e2 : (Lib.decodeL (toBA bs).data.toList).2 = (decL bs).2 := congrArg Prod.snd hd
    rw [Lib.validD_step _ hne, e2, toBA_drop]
    have hiff : ((Lib.decodeL (toBA bs).data.toList).1 = 65533 ∧ (decL bs).2 = 1) ↔ ((decL bs).1 = 65533 ∧ (decL bs).2 = 1) := by rw [← e1]; omega
    unfold ValidL
    rw [runesL_step bs (by omega), encA]
    by_cases hv : (decL bs).1 = 65533 ∧ (decL bs).2 = 1
    · rw [if_pos (hiff.2 hv)]
      refine ⟨fun e => (by cases e), fun e => ?_⟩
      rw [hv.1] at e
      have h3 := dec_enc 65533 (by decide) (encA (runesL (bs.drop (decL bs).2)))
      rw [e] at h3
      have h5 : (decL bs).2 = (encR 65533).length := congrArg Prod.snd h3
      have h4 : (encR 65533).length = 3 := by decide
      omega
    · rw [if_neg (fun e => hv (hiff.1 e)), ih (bs.drop (decL bs).2) (by simp; omega) (hb.drop _)]
      have hed := enc_dec bs hb (by omega) hv
      unfold ValidL
      constructor
      · intro e; rw [e]; exact hed
      · intro e
        have := e.trans hed.symm
        exact List.append_cancel_left this
end Go.Proofs.YtokjpnlmkecleaaGreatDoor

namespace Go.Proofs.YtokjpnlmkecleaaGreatDoor
open Go.RowKit

set_option maxRecDepth 10000 in
set_option maxHeartbeats 1000000 in
theorem runeCount_any (bs : List Int) (hb : Bytes bs) (w : World) (hl : bs.length ≤ 16777216) :
    Calls Tryz.prog 75 #[.string (toBA bs)] w fun e w' => e = .returned (.int .i64 ((cleanL bs).length : Int)) ∧ Ext w w' := by
  obtain ⟨S, hS⟩ : ∃ S, S = toBA bs := ⟨_, rfl⟩
  have hss : S.size = bs.length := by rw [hS, toBA_size]
  have HS := hide hS
  have HSS := hide hss
  rw [← hS]
  clear hS hss
  go_enter Tryz.func75, Tryz.ntmps75
  go_wp2
  go_loopw [2] (fun o wr => ∃ (k : Nat) (acc : List Int), k ≤ bs.length ∧ Hid (Mid bs k acc) ∧ wr.heap[w.heap.size]? = some (.stringIter S k) ∧ o = .int .i64 (acc.length : Int) ∧ Ext w wr) (fun _ wr => bs.length - wr.iterPos w.heap.size)
  case atStart => exact ⟨0, [], Nat.zero_le _, ⟨by simp, by simp⟩, World.iter_heap w S 0, rfl, (Ext.refl _).alloc _⟩
  case round =>
    obtain ⟨k, acc, hk, HM, hit, rfl, hext⟩ := hrel
    have hszr : w.heap.size < wr.heap.size := (Array.getElem?_eq_some_iff.1 hit).1
    by_cases hlt : k < bs.length
    · obtain ⟨r, m, hd⟩ : ∃ r m, decL (bs.drop k) = (r, m) := ⟨_, _, rfl⟩
      have hp := decL_pos (bs.drop k)
      have hq := decL_len (bs.drop k) (by simp; omega)
      have HM2 : Hid (Mid bs (k + m) (acc ++ [cleanR r])) := by
        have := HM.out.step hlt
        rw [hd] at this
        exact this
      have hdec := decode_is bs hb k
      rw [hd] at hp hq hdec
      rw [← HS.out] at hdec
      simp only [Prod.mk.injEq] at hdec
      have hnx := fun ty => Lib.run_next_any_at (P := Tryz.prog) wr w.heap.size S k ty hit (by rw [HSS.out]; exact hlt)
      rw [hdec.1, hdec.2] at hnx
      simp only [List.length_drop] at hp hq
      have hal := HM.out.2
      have hm2 : k + m ≤ bs.length := by omega
      have hit1 := Lib.iterAt_heap wr w.heap.size S k (k + m) hit
      have hext1 : Ext w (wr.iterAt w.heap.size S (k + m)) := hext.grown (grown_iterAt _ _ _ _) (fun k hk => by simp at hk; omega)
      have hP : bs.length - (wr.iterAt w.heap.size S (k + m)).iterPos w.heap.size < bs.length - wr.iterPos w.heap.size := by
        simp only [World.iterPos, hit1, hit]; omega
      have HP := hide hP
      have HI := hide hit1
      have hw : IntKind.i64.wrap ((acc.length : Int) + 1) = (acc.length : Int) + 1 := by rw [IntKind.wrap_i64]; omega
      have hlen : Hid (((acc ++ [cleanR r]).length : Int) = (acc.length : Int) + 1) := by show _ = _; simp
      clear hdec hd hP hit1
      go_wp2
      go_roundw
      case rel => exact ⟨k + m, _, hm2, HM2, unhide HI, by rw [hlen.out], hext1⟩
      case measure => exact unhide HP
    · have HE : Hid (acc = cleanL bs) := HM.out.done (by omega)
      have hnx := fun ty => Lib.run_next_end_at (P := Tryz.prog) wr w.heap.size S k ty hit (by rw [HSS.out]; omega)
      go_wp2
      go_ret
      rw [← HE.out]
      exact ⟨rfl, hext⟩
end Go.Proofs.YtokjpnlmkecleaaGreatDoor

namespace Go.Proofs.YtokjpnlmkecleaaGreatDoor
open Go.RowKit

theorem decL_bd (l : List Int) (hb : Bytes l) : 0 ≤ (decL l).1 ∧ (decL l).1 ≤ 1114111 := by
  have h0 := hb.at0 0
  unfold decL
  split
  · dsimp only; omega
  · split
    · rename_i h1 h2
      have c1 := cont_len h2.2
      split
      · dsimp only; unfold v2; omega
      · dsimp only; omega
    · split
      · split
        · rename_i h5; exact valid_bd h5.2
        · dsimp only; omega
      · split
        · split
          · rename_i h5; exact valid_bd h5.2
          · dsimp only; omega
        · dsimp only; omega
theorem wid_bd' (r : Int) : 0 ≤ wid r ∧ wid r ≤ 2 := by
  unfold wid
  repeat' split
  all_goals omega
set_option maxRecDepth 10000 in
set_option maxHeartbeats 1000000 in
theorem settled_any (bs : List Int) (hb : Bytes bs) (w : World) (hl : bs.length ≤ 16777216) (hT : Laid w) (vb : Bool) (hvb : vb = true ↔ ValidL bs)
    (hval : ∀ W, Ext w W → Calls Tryz.prog 109 #[.string (toBA bs)] W fun e w' => e = .returned (.bool vb) ∧ Ext W w')
    (ok : Bool) (hok : ok = true ↔ settleL bs = bs) :
    Calls Tryz.prog 74 #[.string (toBA bs)] w fun e w' => e = .returned (.bool ok) ∧ Ext w w' := by
  rw [settled_iff] at hok
  obtain ⟨S, hS⟩ : ∃ S, S = toBA bs := ⟨_, rfl⟩
  have hss : S.size = bs.length := by rw [hS, toBA_size]
  have HS := hide hS
  have HSS := hide hss
  rw [← hS] at hval ⊢
  have HVAL := hide hval
  have HT := hide hT
  have HOK := hide hok
  have HVB := hide hvb
  clear hS hss hval hT hok hvb
  go_enter Tryz.func74, Tryz.ntmps74
  go_wp2
  go_loopw [] (fun wr => ∃ (k : Nat) (acc : List Int), k ≤ bs.length ∧ Hid (runesL bs = acc ++ runesL (bs.drop k) ∧ (∀ r ∈ acc, shownI r = r) ∧ (0 < k → acc ≠ [] ∧ 0 < wid (at0 acc 0)) ∧ (k = 0 → acc = [])) ∧ wr.heap[w.heap.size]? = some (.stringIter S k) ∧ Ext w wr) (fun wr => bs.length - wr.iterPos w.heap.size)
  case atStart => exact ⟨0, [], Nat.zero_le _, hide ⟨by simp, by simp, by simp, by simp⟩, World.iter_heap w S 0, (Ext.refl _).alloc _⟩
  case round =>
    obtain ⟨k, acc, hk, HM, hit, hext⟩ := hrel
    have hszr : w.heap.size < wr.heap.size := (Array.getElem?_eq_some_iff.1 hit).1
    by_cases hlt : k < bs.length
    · obtain ⟨r, m, hd⟩ : ∃ r m, decL (bs.drop k) = (r, m) := ⟨_, _, rfl⟩
      have hp := decL_pos (bs.drop k)
      have hq := decL_len (bs.drop k) (by simp; omega)
      have hrb := decL_bd (bs.drop k) (hb.drop k)
      have hstep := runesL_step (bs.drop k) (by simp; omega)
      have hdec := decode_is bs hb k
      rw [hd] at hp hq hdec hrb hstep
      rw [← HS.out] at hdec
      simp only [Prod.mk.injEq] at hdec
      simp only [List.drop_drop] at hstep
      have hnx := fun ty => Lib.run_next_any_at (P := Tryz.prog) wr w.heap.size S k ty hit (by rw [HSS.out]; exact hlt)
      rw [hdec.1, hdec.2] at hnx
      simp only [List.length_drop] at hp hq
      have hm2 : k + m ≤ bs.length := by omega
      have hit1 := Lib.iterAt_heap wr w.heap.size S k (k + m) hit
      have hext1 : Ext w (wr.iterAt w.heap.size S (k + m)) := hext.grown (grown_iterAt _ _ _ _) (fun k hk => by simp at hk; omega)
      have hP : bs.length - (wr.iterAt w.heap.size S (k + m)).iterPos w.heap.size < bs.length - wr.iterPos w.heap.size := by
        simp only [World.iterPos, hit1, hit]; omega
      have HP := hide hP
      have HI := hide hit1
      have hrun : Hid (runesL bs = (acc ++ [r]) ++ runesL (bs.drop (k + m))) := by
        refine hide ?_
        rw [(unhide HM).1, hstep]
        simp
      have HX1 := hide hext1
      clear hdec hd hP hit1 hstep hext1
      by_cases hsr : shownI r = r
      · by_cases hk0 : k = 0
        · subst hk0
          have hacc : acc = [] := (unhide HM).2.2.2 rfl
          subst hacc
          simp only [Nat.zero_add] at HX1 HI hrun hm2 HP hnx
          have T1 := hide ((unhide HT).below (unhide HX1).below)
          have hwb := wid_bd' r
          go_wp2_with fail
          refine (showable_any _ _).mono ?_
          rintro e w2 ⟨rfl, rfl⟩
          rw [hsr]
          go_wp2_with fail
          refine (implRW_any r _ (by omega) (by omega) (unhide T1)).mono ?_
          rintro e w3 ⟨rfl, hb3⟩
          have F3 := Ext.of_below hb3
          have X3 := (unhide HX1).trans F3
          have hI3 : w3.heap[w.heap.size]? = some (.stringIter S m) := by
            rw [F3.heap (by rw [Lib.iterAt_size]; exact hszr)]
            exact unhide HI
          have HI3 := hide hI3
          have HP3 : Hid (bs.length - w3.iterPos w.heap.size < bs.length - wr.iterPos w.heap.size) := by
            refine hide ?_
            simp only [World.iterPos, hI3, hit]; omega
          clear hb3 hI3
          by_cases hw0 : wid r = 0
          · have hno : Hid (ok = false) := by
              refine hide ?_
              cases ok
              · rfl
              · exfalso
                have h1 := ((unhide HOK).1 rfl).2.1 (by rw [unhide hrun]; simp)
                rw [unhide hrun] at h1
                simp [at0] at h1
                omega
            go_wp2
            go_ret
            exact ⟨by rw [hno.out]; rfl, X3⟩
          · have hwp : 0 < wid r := by omega
            have HM' : Hid (runesL bs = ([] ++ [r]) ++ runesL (bs.drop m) ∧ (∀ x ∈ [] ++ [r], shownI x = x) ∧ (0 < m → [] ++ [r] ≠ [] ∧ 0 < wid (at0 ([] ++ [r]) 0)) ∧ (m = 0 → ([] : List Int) ++ [r] = [])) :=
              hide ⟨unhide hrun, by simpa using hsr, fun _ => ⟨by simp, by simpa [at0] using hwp⟩, fun h => by omega⟩
            go_wp2
            go_roundw
            case rel => exact ⟨m, [] ++ [r], hm2, HM', unhide HI3, X3⟩
            case measure => exact unhide HP3
        · have HM' : Hid (runesL bs = (acc ++ [r]) ++ runesL (bs.drop (k + m)) ∧ (∀ x ∈ acc ++ [r], shownI x = x) ∧ (0 < k + m → acc ++ [r] ≠ [] ∧ 0 < wid (at0 (acc ++ [r]) 0)) ∧ (k + m = 0 → acc ++ [r] = [])) := by
            have h1 := unhide HM
            have h2 := h1.2.2.1 (by omega)
            have hal : 0 < acc.length := List.length_pos_iff.2 h2.1
            refine hide ⟨unhide hrun, fun x hx => ?_, fun _ => ⟨by simp, ?_⟩, fun h => by omega⟩
            · rcases List.mem_append.1 hx with h | h
              · exact h1.2.1 x h
              · simp at h; rw [h]; exact hsr
            · have : at0 (acc ++ [r]) 0 = at0 acc 0 := by unfold at0; rw [List.getElem?_append_left hal]
              rw [this]; exact h2.2
          have hkI : ((k : Int) == 0) = false := by rw [beq_eq_false_iff_ne]; omega
          have hkI2 : ¬ ((k : Int) = 0) := by omega
          go_wp2_with fail
          refine (showable_any _ _).mono ?_
          rintro e w2 ⟨rfl, rfl⟩
          rw [hsr]
          go_wp2
          go_roundw
          case rel => exact ⟨k + m, acc ++ [r], hm2, HM', unhide HI, unhide HX1⟩
          case measure => exact unhide HP
      · have hno : Hid (ok = false) := by
          refine hide ?_
          cases ok
          · rfl
          · exact absurd (((unhide HOK).1 rfl).1 r (by rw [unhide hrun]; simp)) hsr
        go_wp2_with fail
        refine (showable_any _ _).mono ?_
        rintro e w2 ⟨rfl, rfl⟩
        go_wp2
        go_ret
        exact ⟨by rw [hno.out]; rfl, unhide HX1⟩
    · obtain rfl : k = bs.length := by omega
      have hre : runesL bs = acc := by
        have h1 := (unhide HM).1
        rw [List.drop_length] at h1
        rw [h1, show runesL ([] : List Int) = [] from rfl, List.append_nil]
      have hov : Hid (ok = vb) := by
        refine hide ?_
        have h1 := (unhide HM).2.1
        have h2 := (unhide HM).2.2.1
        have h3 := (unhide HM).2.2.2
        have e : ok = true ↔ vb = true := by
          rw [(unhide HOK), (unhide HVB), hre]
          refine ⟨fun h => h.2.2, fun h => ⟨h1, fun hne => ?_, h⟩⟩
          rcases Nat.eq_zero_or_pos bs.length with e0 | e0
          · exact absurd (h3 e0) hne
          · exact (h2 e0).2
        cases ok <;> cases vb <;> simp_all
      have hnx := fun ty => Lib.run_next_end_at (P := Tryz.prog) wr w.heap.size S bs.length ty hit (by rw [HSS.out]; omega)
      clear hre
      go_wp2_with fail
      refine ((unhide HVAL) _ hext).mono ?_
      rintro e w2 ⟨rfl, F2⟩
      go_wp2
      go_ret
      exact ⟨by rw [hov.out]; rfl, hext.trans F2⟩
end Go.Proofs.YtokjpnlmkecleaaGreatDoor

namespace Go.Proofs.YtokjpnlmkecleaaGreatDoor
open Go.RowKit

theorem toBA_ne {xs ys : List Int} (hx : Bytes xs) (hy : Bytes ys) (h : xs ≠ ys) : ((toBA xs).toList == (toBA ys).toList) = false := by
  rw [beq_eq_false_iff_ne, toList_data, toList_data]
  intro e
  exact h (toBA_inj hx hy (WideShapes.bytes_inj e))
set_option maxRecDepth 10000 in
set_option maxHeartbeats 400000 in
theorem l4Count_any (bs : List Int) (hb : Bytes bs) (w : World) (hl : bs.length ≤ 8000000) :
    Calls Tryz.prog 25 #[.string (toBA bs)] w fun e w' => e = .returned (.int .i64 ((cleanL bs).length : Int)) ∧ Ext w w' := by
  obtain ⟨v0, w0, hrun, h0, E0⟩ := run_s2i (P := Tryz.prog) w _ _ _ Tryz.underlying9 Tryz.underlying22 Tryz.underlying5 bs hb
  have H0 := hide h0
  clear h0
  go_enter Tryz.func25, Tryz.ntmps25
  go_wp2_with fail
  refine (specClean_any bs hb v0 w0 (unhide H0) (by omega)).mono ?_
  rintro e w1 ⟨v1, rfl, o1, F1⟩
  obtain ⟨ao, cap, hv1, _, _⟩ := ints_of_owns o1
  subst hv1
  clear o1
  go_wp2
  go_ret
  exact ⟨rfl, E0.trans F1⟩
set_option maxRecDepth 10000 in
set_option maxHeartbeats 1000000 in
theorem l4TextOk_any (bs : List Int) (hb : Bytes bs) (w : World) (hl : bs.length ≤ 4194304) (ok : Bool) (hok : ok = true ↔ (bs.length ≤ 1200 ∧ (cleanL bs).length ≤ 300 ∧ settleL bs = bs)) :
    Calls Tryz.prog 24 #[.string (toBA bs), .int .i64 300] w fun e w' => e = .returned (.bool ok) ∧ Ext w w' := by
  have hsz := toBA_size bs
  have HOK := hide hok
  clear hok
  by_cases h1 : bs.length ≤ 1200
  · have h1I : (bs.length : Int) ≤ 1200 := by omega
    go_enter Tryz.func24, Tryz.ntmps24
    go_wp2_with fail
    refine (l4Count_any bs hb w (by omega)).mono ?_
    rintro e w1 ⟨rfl, F1⟩
    by_cases h2 : (cleanL bs).length ≤ 300
    · have h2I : ((cleanL bs).length : Int) ≤ 300 := by omega
      go_wp2_with fail
      refine (specSettle_any bs hb w1 (by omega)).mono ?_
      rintro e w2 ⟨rfl, F2⟩
      by_cases h3 : settleL bs = bs
      · have ht : ok = true := (unhide HOK).2 ⟨h1, h2, h3⟩
        subst ht
        rw [h3]
        go_wp2
        go_ret
        exact ⟨rfl, F1.trans F2⟩
      · have hf : ok = false := by
          cases ok
          · rfl
          · exact absurd ((unhide HOK).1 rfl).2.2 h3
        subst hf
        have hneb := toBA_ne (settleL_bytes bs) hb h3
        go_wp2
        go_ret
        exact ⟨rfl, F1.trans F2⟩
    · have h2I : ¬ ((cleanL bs).length : Int) ≤ 300 := by omega
      have hf : ok = false := by
        cases ok
        · rfl
        · exact absurd ((unhide HOK).1 rfl).2.1 h2
      subst hf
      go_wp2
      go_ret
      exact ⟨rfl, F1⟩
  · have h1I : ¬ (bs.length : Int) ≤ 1200 := by omega
    have hf : ok = false := by
      cases ok
      · rfl
      · exact absurd ((unhide HOK).1 rfl).1 h1
    subst hf
    go_enter Tryz.func24, Tryz.ntmps24
    go_wp2
    go_ret
    exact ⟨rfl, Ext.refl _⟩
end Go.Proofs.YtokjpnlmkecleaaGreatDoor

namespace Go.Proofs.YtokjpnlmkecleaaGreatDoor
open Go.RowKit

/-- The three tables lie in memory. -/
def Tabs3 (w : World) : Prop := Laid w ∧ Lib.Utf8Tabs 1 2 w
theorem Tabs3.ext {w w' : World} (h : Tabs3 w) (he : Ext w w') : Tabs3 w' :=
  ⟨h.1.below he.below, fun c hc => he.cell (h.2.1 c hc), fun i hi => ⟨he.cell (h.2.2 i hi).1, he.cell (h.2.2 i hi).2⟩⟩
end Go.Proofs.YtokjpnlmkecleaaGreatDoor
