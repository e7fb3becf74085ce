import Derived.Test.YtinfdhbnljnifaaGreatDoorApp
import Derived.Test.YtinfdhbnljnifaaGreatDoorWhole
import Derived.Test.YtinfdhbnljnifaaGreatDoorRkM
import Derived.Test.YtinfdhbnljnifaaGreatDoorAppRune
import Derived.Test.YtinfdhbnljnifaaGreatDoorSnapMark
import Derived.Deep.AppendSrc
namespace Go.Proofs.YtinfdhbnljnifaaGreatDoor
open Go.RowKit
theorem set_blk {W : World} {b i : Nat} {cs : Array Value} {T : TypeId} {v : Value} (h : W.heap[b]? = some (.cells cs T (0, 0))) : (W.setCell ⟨b, i, none⟩ v).heap[b]? = some (.cells (cs.setIfInBounds i v) T (0, 0)) := heap_setCell_same W b i _ _ _ h
theorem set_blk2 {W : World} {b i : Nat} {cs cs' : Array Value} {T : TypeId} {v : Value} (h : W.heap[b]? = some (.cells cs T (0, 0))) (e : cs.setIfInBounds i v = cs') : (W.setCell ⟨b, i, none⟩ v).heap[b]? = some (.cells cs' T (0, 0)) := by
  rw [set_blk h, e]
theorem set_else {W : World} {b c i : Nat} {v : Value} {o : Obj} (h : W.heap[b]? = some o) (hne : b ≠ c) : (W.setCell ⟨c, i, none⟩ v).heap[b]? = some o := (Below.heap_setCell W ⟨c, i, none⟩ v b hne).trans h
def StopQ (p : Prop) : Prop := p
theorem StopQ.intro {p : Prop} (h : StopQ p) : p := h
theorem own2_pairs {w : World} {base : Nat} {T : TypeId} {v : Value} {n : Nat} {A B : Nat → Value} (h : w.ownsRow base T 2 v n (pairsL A B n)) : Own2 w base T v n A B := ⟨_, h, fun j hj => pairsL_at A B n j hj⟩
theorem owns_ln {w : World} {b : Nat} {T : TypeId} {sz : Nat} {v : Value} {n : Nat} {xs : List Value} (h : w.ownsRow b T sz v n xs) : ∃ a c, v = .slice a n c := by
  rcases h.2 with ⟨rfl, h0⟩ | ⟨g, c, _, rfl, _⟩
  · exact ⟨none, 0, by rw [h0]⟩
  · exact ⟨_, c, rfl⟩
end Go.Proofs.YtinfdhbnljnifaaGreatDoor

namespace Go.Proofs.YtinfdhbnljnifaaGreatDoor
open Go.RowKit
def fillB (s : List Int) (c : Int) : List Int := s ++ List.replicate (need (at0 s 0) - s.length) c
def begB (s : List Int) : Bool := decide (s.length < need (at0 s 0)) && (decide ((decL (fillB s 128)).2 = (need (at0 s 0) : Int)) || decide ((decL (fillB s 191)).2 = (need (at0 s 0) : Int)))
set_option maxRecDepth 10000 in
set_option maxHeartbeats 4000000 in
theorem l1Begun_any (bs : List Int) (hb : Bytes bs) (v : Value) (i : Nat) (w : World) (hv : IntsAt w .u8 v bs) (hi : i < bs.length) (hl : bs.length ≤ 4398046511104) :
    Calls Tryz.prog 41 #[v, .int .i64 i] w fun e w' => e = .returned (.bool (begB (bs.drop i))) ∧ Ext w w' := by
  obtain ⟨ao, cap, rfl, hcap, hr⟩ := hv
  obtain ⟨b, off, rfl, hc⟩ := hr (by omega)
  have HC := hide hc
  have g1 := hc i hi
  have hbs := hide (fun n hn => hb n (List.mem_of_mem_drop hn) : Bytes (bs.drop i))
  clear hr hc hb
  have hat : at0 (bs.drop i) 0 = at0 bs i := by rw [at0_drop]; rfl
  obtain ⟨s, hs⟩ : ∃ s, s = bs.drop i := ⟨_, rfl⟩
  have hsl : s.length = bs.length - i := by rw [hs]; simp
  rw [← hs] at hbs hat ⊢
  obtain ⟨n, hn⟩ : ∃ n, n = need (at0 bs i) := ⟨_, rfl⟩
  have h4 : n ≤ 4 := by rw [hn]; unfold need; (repeat' split) <;> omega
  have HN : Hid (need (at0 s 0) = n) := hide (by rw [hat, hn])
  have HNN := hide hn
  have hwI : IntKind.i64.wrap ((bs.length : Int) - (i : Int)) = (s.length : Int) := by rw [IntKind.wrap_i64]; omega
  have hSrc : Hid (IntsAt w .u8 (.slice (some ⟨b, off + i, none⟩) s.length (cap - i)) s) := hide ⟨_, _, rfl, by omega, fun _ => ⟨b, off + i, rfl, fun j hj => by
    have h9 := (unhide HC) (i + j) (by omega)
    rw [hs, at0_drop]
    rw [show off + i + j = off + (i + j) by omega]
    exact h9⟩⟩
  have HSL := hide hsl
  clear hn hat hs
  by_cases hA : n = 0
  · subst hA
    have HF := hide (show begB s = false by unfold begB; rw [unhide HN]; simp)
    clear hwI hsl
    go_enter Tryz.func41, Tryz.ntmps41
    go_wp2_with fail
    refine (l1Need_any _ _).mono ?_
    rw [← unhide HNN]
    rintro e w1 ⟨rfl, rfl⟩
    go_wp2
    exact bodyPost_ret (v := .bool false) (by simp [results, Tryz.results41, go_sem]) rfl ⟨by rw [unhide HF], Ext.refl _⟩
  have hz : ((n : Int) == 0) = false := by simp; omega
  by_cases hB : n ≤ s.length
  · have HF := hide (show begB s = false by unfold begB; rw [unhide HN]; simp; omega)
    have hBI : (n : Int) ≤ (s.length : Int) := by omega
    clear hsl
    go_enter Tryz.func41, Tryz.ntmps41
    go_wp2_with fail
    refine (l1Need_any _ _).mono ?_
    rw [← unhide HNN]
    rintro e w1 ⟨rfl, rfl⟩
    go_wp2
    exact bodyPost_ret (v := .bool false) (by simp [results, Tryz.results41, go_sem]) rfl ⟨by rw [unhide HF], Ext.refl _⟩
  have hBI : ¬ (n : Int) ≤ (s.length : Int) := by omega
  have hs1 : 1 ≤ s.length := by omega
  have hcm : ¬ cap = i := by omega
  have hci : (i : Int) ≤ (bs.length : Int) := by omega
  have hcj : (bs.length : Int) ≤ (cap : Int) := by omega
  obtain ⟨i0, hi0, hz0, hz1, hz2⟩ := info_parts infoByteA
  have HR := hide (fun (L : Int) (hL : 0 ≤ L ∧ L ≤ 255) v W (hv : IntsAt W .u8 v (fillB s L)) => l1Rune_any (fillB s L) (fun x hx => by
    unfold fillB at hx
    rcases List.mem_append.1 hx with h9 | h9
    · exact (unhide hbs) x h9
    · have := List.eq_of_mem_replicate h9; rw [this]; exact hL) v 0 W hv (by unfold fillB; rw [List.length_append]; omega) (by unfold fillB; rw [List.length_append, List.length_replicate, unhide HN]; omega))
  have HBF := hide (show begB s = (decide ((decL (fillB s 128)).2 = (n : Int)) || decide ((decL (fillB s 191)).2 = (n : Int))) by unfold begB; rw [unhide HN]; simp; omega)
  have hsd : bs.length - i = s.length := hsl.symm
  clear hsl
  go_enter Tryz.func41, Tryz.ntmps41
  go_wp2_with fail
  refine (l1Need_any _ _).mono ?_
  rw [← unhide HNN]
  rintro e w1 ⟨rfl, rfl⟩
  go_wp2
  go_loopw [7] (fun l9 wr => ∃ L : Int, l9 = .int .i64 L ∧ (L = 128 ∨ L = 191 ∨ L = 254) ∧ Hid ((128 < L → (decL (fillB s 128)).2 ≠ (n : Int)) ∧ (191 < L → (decL (fillB s 191)).2 ≠ (n : Int))) ∧ Ext w1 wr) (fun l9 _ => 300 - (intOf l9).toNat)
  case atStart => exact ⟨128, rfl, .inl rfl, hide ⟨fun h => absurd h (by omega), fun h => absurd h (by omega)⟩, Ext.refl _⟩
  case round =>
    rename World => wo
    obtain ⟨L, rfl, hL, HQ, hext⟩ := hrel
    by_cases hLe : L = 254
    · subst hLe
      have HF := hide (show begB s = false by
        rw [unhide HBF]
        have h9 := unhide HQ
        simp [h9.1 (by omega), h9.2 (by omega)])
      clear HQ
      go_wp2
      exact bodyPost_ret (v := .bool false) (by simp [results, Tryz.results41, go_sem]) rfl ⟨by rw [unhide HF], hext⟩
    have hL1 : L < 192 := by omega
    have hL0 : 0 ≤ L ∧ L ≤ 255 := by omega
    have hwL : IntKind.u8.wrap L = L := by rw [IntKind.wrap_u8]; omega
    have HE0 := hide (hext.alloc (.cells #[] 5))
    have HSr := hide (Src.ints ((unhide hSrc).ext (unhide HE0)))
    have HOe := hide (owns_empty wo 5 1)
    go_wp2_with (at_builtin; refine StopQ.intro ?_)
    show wpList _ _ _ _ _ _
    refine wpList_app rfl _ _ 22 rfl wo.heap.size 5 i0 (.int .u8 0) 1 1 Tryz.underlying22 hi0 hz0 hz1 hz2 rfl (by decide) _ _ _ rfl (unhide HOe) _ s.length (s.map (Value.int .u8)) rfl (unhide HSr) (by unfold maxLen; omega) (by omega) (by simp) ?_
    intro v5 w5 o5 G5 _
    rw [Nat.zero_add, List.nil_append] at o5
    obtain ⟨a5, c5, rfl⟩ : ∃ a c, v5 = .slice a s.length c := by
      rcases o5.2 with ⟨e, h0⟩ | ⟨g, cap9, cur, e, _⟩
      · exact ⟨none, 0, by rw [e]; omega⟩
      · exact ⟨_, _, e⟩
    have HO5 := hide o5
    have E5 := hide ((unhide HE0).grown G5 (fun q hq => by have h9 : wo.heap.size = q := Option.some.inj hq; have := hext.size; omega))
    clear o5 G5 HOe HSr HE0
    go_wp2_with fail
    go_loopw [8] (fun a9 wi => ∃ (k : Nat) (ai : Option Addr) (ci : Nat), s.length + k ≤ n ∧ a9 = .slice ai (s.length + k) ci ∧ Hid (wi.ownsRow wo.heap.size 5 1 (.slice ai (s.length + k) ci) (s.length + k) ((s ++ List.replicate k L).map (Value.int .u8))) ∧ Ext w1 wi) (fun a9 _ => n - (match a9 with | .slice _ l _ => l | _ => 0))
    case atStart => exact ⟨0, a5, c5, by omega, by simp, by simpa using HO5, unhide E5⟩
    case round =>
      rename World => wi
      obtain ⟨k, ai, ci, hk, rfl, HOi, hexi⟩ := hrel
      have hkk : IntKind.i64.wrap ((s.length : Int) + (k : Int)) = (s.length : Int) + (k : Int) := by rw [IntKind.wrap_i64]; omega
      by_cases hlt : s.length + k < n
      · have hltI : (s.length : Int) + (k : Int) < (n : Int) := by omega
        have HO6 := hide ((unhide HOi).alloc (.cells #[.int .u8 L] 5))
        have HS6 := hide (Src.made (w := wi) (size := 1) [.int .u8 L] 1 5 rfl (by simp [Value.oneCell']))
        have HE6 := hide (hexi.alloc (.cells #[.int .u8 L] 5))
        have hbi : wo.heap.size ≤ (wi.alloc (.cells #[.int .u8 L] 5)).heap.size := by
          rcases (unhide HOi).2 with ⟨_, e0⟩ | ⟨g, cc, cur, e0, hg, hb9, _⟩
          · omega
          · have := (Array.getElem?_eq_some_iff.1 hb9).1
            simp
            omega
        have Hbi := hide hbi
        clear hbi
        go_wp2_with (at_builtin; refine StopQ.intro ?_)
        show wpList _ _ _ _ _ _
        refine wpList_app rfl _ _ 22 rfl wo.heap.size 5 i0 (.int .u8 0) 1 1 Tryz.underlying22 hi0 hz0 hz1 hz2 rfl (by decide) _ _ _ rfl (unhide HO6) _ 1 [.int .u8 L] rfl (unhide HS6) (by unfold maxLen; omega) (by omega) (unhide Hbi) ?_
        intro v7 w7 o7 G7 _
        obtain ⟨a7, c7, rfl⟩ : ∃ a c, v7 = .slice a (s.length + (k + 1)) c := by
          rcases o7.2 with ⟨e, h0⟩ | ⟨g, cap9, cur, e, _⟩
          · omega
          · exact ⟨_, _, e⟩
        have HO7 : Hid (w7.ownsRow wo.heap.size 5 1 (.slice a7 (s.length + (k + 1)) c7) (s.length + (k + 1)) ((s ++ List.replicate (k + 1) L).map (Value.int .u8))) := hide (by
          rw [List.replicate_succ', ← List.append_assoc, List.map_append]
          exact o7)
        have HE7 := hide ((unhide HE6).grown G7 (fun q hq => by have := ((unhide HOi).lt q hq).1; have := hext.size; omega))
        clear o7 G7 HO6 HS6 HE6 Hbi
        go_wp2
        go_roundw
        case rel => exact ⟨k + 1, a7, c7, by omega, rfl, HO7, unhide HE7⟩
        case measure => simp; omega
      · have hnl : ¬ (s.length : Int) + (k : Int) < (n : Int) := by omega
        have HNK : Hid (n = s.length + k) := hide (by omega)
        have hfill : s ++ List.replicate k L = fillB s L := by unfold fillB; rw [unhide HN, unhide HNK, Nat.add_sub_cancel_left]
        rw [hfill] at HOi
        have hfl : (fillB s L).length = s.length + k := by rw [← hfill]; simp
        have hRc := hide ((unhide HR) L hL0 (.slice ai (s.length + k) ci) wi (by rw [← hfl]; exact ints_of_owns (by rw [hfl]; exact unhide HOi)))
        obtain ⟨D, hD⟩ : ∃ D, decL (fillB s L) = D := ⟨_, rfl⟩
        rw [List.drop_zero, hD] at hRc
        clear hfill hfl HOi
        go_wp2_with fail
        refine (unhide hRc).mono ?_
        rintro e w8 ⟨rfl, E8⟩
        have HE8 := hide (hexi.trans E8)
        clear E8 hRc
        by_cases hy : ((D.2 : Nat) : Int) = (n : Int)
        · have hyb : (((D.2 : Nat) : Int) == (n : Int)) = true := by simpa using hy
          have HF := hide (show begB s = true by
            rw [unhide HBF]
            rcases hL with rfl | rfl | rfl
            · rw [hD]; simp [hy]
            · rw [hD]; simp [hy]
            · omega)
          clear HQ HBF hD
          go_wp2
          exact bodyPost_ret (v := .bool true) (by simp [results, Tryz.results41, go_sem]) rfl ⟨by rw [unhide HF], unhide HE8⟩
        · have hyb : (((D.2 : Nat) : Int) == (n : Int)) = false := by simpa using hy
          have HQ2 : Hid ((128 < L + 63 → (decL (fillB s 128)).2 ≠ (n : Int)) ∧ (191 < L + 63 → (decL (fillB s 191)).2 ≠ (n : Int))) := hide (by
            rcases hL with rfl | rfl | rfl
            · rw [hD]; exact ⟨fun _ => hy, fun h => absurd h (by omega)⟩
            · rw [hD]; exact ⟨fun _ => (unhide HQ).1 (by omega), fun _ => hy⟩
            · omega)
          clear HQ hD
          go_wp2
          go_roundw
          case rel => exact ⟨L + 63, by go_num, by omega, HQ2, unhide HE8⟩
          case measure => simp [intOf]; omega
end Go.Proofs.YtinfdhbnljnifaaGreatDoor

namespace Go.Proofs.YtinfdhbnljnifaaGreatDoor
open Go.RowKit
def loB (c : Int) : Int := if c = 224 then 160 else if c = 240 then 144 else 128
def hiB (c : Int) : Int := if c = 237 then 159 else if c = 244 then 143 else 191
def nB (c : Int) : Nat := if c < 194 then 1 else if c < 224 then 2 else if c < 240 then 3 else if c < 245 then 4 else 1
def fullB (s : List Int) : Bool :=
  decide (nB (at0 s 0) ≤ s.length) || (decide (1 < s.length) && (decide (at0 s 1 < loB (at0 s 0)) || decide (hiB (at0 s 0) < at0 s 1))) || (decide (2 < s.length) && (decide (at0 s 2 < 128) || decide (191 < at0 s 2)))
theorem valid_iff (v : Int) : Utf8.valid v = true ↔ (0 ≤ v ∧ v < 55296) ∨ (57343 < v ∧ v ≤ 1114111) := by
  unfold Utf8.valid
  simp
  omega
theorem cont_one (a b : Int) (l : List Int) : cont (a :: b :: l) 1 = true ↔ 128 ≤ b ∧ b ≤ 191 := by simp [cont, at0]
theorem cont_two (a b c : Int) (l : List Int) : cont (a :: b :: c :: l) 2 = true ↔ 128 ≤ c ∧ c ≤ 191 := by simp [cont, at0]
theorem cont_three (a b c d : Int) (l : List Int) : cont (a :: b :: c :: d :: l) 3 = true ↔ 128 ≤ d ∧ d ≤ 191 := by simp [cont, at0]
theorem dec2 (a b : Int) (l : List Int) (h : 192 ≤ a ∧ a < 224) : (decL (a :: b :: l)).2 = 2 ↔ 194 ≤ a ∧ 128 ≤ b ∧ b ≤ 191 := by
  unfold decL
  have e0 : at0 (a :: b :: l) 0 = a := rfl
  have e1 : at0 (a :: b :: l) 1 = b := rfl
  simp only [e0, cont_one, v2, e1]
  rw [if_neg (by omega)]
  by_cases h1 : 128 ≤ b ∧ b ≤ 191
  · rw [if_pos ⟨h, h1⟩]
    split
    · simp; omega
    · simp; omega
  · rw [if_neg (fun x => h1 x.2), if_neg (by omega), if_neg (by omega)]
    simp
    omega
theorem dec3 (a b c : Int) (l : List Int) (h : 224 ≤ a ∧ a < 240) : (decL (a :: b :: c :: l)).2 = 3 ↔ loB a ≤ b ∧ b ≤ hiB a ∧ 128 ≤ c ∧ c ≤ 191 := by
  unfold decL
  have e0 : at0 (a :: b :: c :: l) 0 = a := rfl
  have e1 : at0 (a :: b :: c :: l) 1 = b := rfl
  have e2 : at0 (a :: b :: c :: l) 2 = c := rfl
  simp only [e0, cont_one, cont_two, v3, e1, e2, valid_iff]
  unfold loB hiB
  rw [if_neg (by omega), if_neg (by omega)]
  by_cases h1 : (128 ≤ b ∧ b ≤ 191) ∧ 128 ≤ c ∧ c ≤ 191
  · rw [if_pos ⟨h, h1⟩]
    split
    · simp; (repeat' split) <;> omega
    · simp; (repeat' split) <;> omega
  · rw [if_neg (fun x => h1 x.2), if_neg (by omega)]
    simp
    (repeat' split) <;> omega
theorem dec4 (a b c d : Int) (l : List Int) (h : 240 ≤ a ∧ a < 248) : (decL (a :: b :: c :: d :: l)).2 = 4 ↔ a < 245 ∧ loB a ≤ b ∧ b ≤ hiB a ∧ (128 ≤ c ∧ c ≤ 191) ∧ 128 ≤ d ∧ d ≤ 191 := by
  unfold decL
  have e0 : at0 (a :: b :: c :: d :: l) 0 = a := rfl
  have e1 : at0 (a :: b :: c :: d :: l) 1 = b := rfl
  have e2 : at0 (a :: b :: c :: d :: l) 2 = c := rfl
  have e3 : at0 (a :: b :: c :: d :: l) 3 = d := rfl
  simp only [e0, cont_one, cont_two, cont_three, v4, e1, e2, e3, valid_iff]
  unfold loB hiB
  rw [if_neg (by omega), if_neg (by omega), if_neg (by omega)]
  by_cases h1 : (128 ≤ b ∧ b ≤ 191) ∧ (128 ≤ c ∧ c ≤ 191) ∧ 128 ≤ d ∧ d ≤ 191
  · rw [if_pos ⟨h, h1⟩]
    split
    · simp; (repeat' split) <;> omega
    · simp; (repeat' split) <;> omega
  · rw [if_neg (fun x => h1 x.2)]
    simp
    (repeat' split) <;> omega
theorem need_class (a : Int) : (a < 128 ∧ need a = 1) ∨ ((128 ≤ a ∧ a < 192 ∨ 248 ≤ a) ∧ need a = 0) ∨ ((192 ≤ a ∧ a < 224) ∧ need a = 2) ∨ ((224 ≤ a ∧ a < 240) ∧ need a = 3) ∨ ((240 ≤ a ∧ a < 248) ∧ need a = 4) := by
  unfold need
  (repeat' split) <;> omega
theorem nB_class (a : Int) : (a < 194 ∧ nB a = 1) ∨ ((194 ≤ a ∧ a < 224) ∧ nB a = 2) ∨ ((224 ≤ a ∧ a < 240) ∧ nB a = 3) ∨ ((240 ≤ a ∧ a < 245) ∧ nB a = 4) ∨ (245 ≤ a ∧ nB a = 1) := by
  unfold nB
  (repeat' split) <;> omega
theorem lo_hi (a : Int) : 128 ≤ loB a ∧ loB a ≤ 160 ∧ 143 ≤ hiB a ∧ hiB a ≤ 191 ∧ loB a ≤ hiB a ∧ (hiB a < 191 → loB a = 128) := by
  unfold loB hiB
  (repeat' split) <;> omega
theorem beg_iff (s : List Int) : begB s = true ↔ s.length < need (at0 s 0) ∧ ((decL (fillB s 128)).2 = need (at0 s 0) ∨ (decL (fillB s 191)).2 = need (at0 s 0)) := by
  unfold begB
  simp only [Bool.and_eq_true, Bool.or_eq_true, decide_eq_true_eq]
  constructor
  · rintro ⟨h1, h2⟩; exact ⟨h1, by omega⟩
  · rintro ⟨h1, h2⟩; exact ⟨h1, by omega⟩
theorem full_iffB (s : List Int) : fullB s = false ↔ s.length < nB (at0 s 0) ∧ (1 < s.length → loB (at0 s 0) ≤ at0 s 1 ∧ at0 s 1 ≤ hiB (at0 s 0)) ∧ (2 < s.length → 128 ≤ at0 s 2 ∧ at0 s 2 ≤ 191) := by
  unfold fullB
  simp only [Bool.or_eq_false_iff, Bool.and_eq_false_iff, decide_eq_false_iff_not]
  omega
theorem beg_full1 (a : Int) : begB [a] = true ↔ fullB [a] = false := by
  rw [beg_iff, full_iffB]
  have e0 : at0 [a] 0 = a := rfl
  rw [e0]
  have hl := lo_hi a
  simp only [List.length_cons, List.length_nil]
  unfold fillB
  rw [e0]
  rcases need_class a with ⟨h, hn⟩ | ⟨h, hn⟩ | ⟨h, hn⟩ | ⟨h, hn⟩ | ⟨h, hn⟩ <;> rcases nB_class a with ⟨k, hm⟩ | ⟨k, hm⟩ | ⟨k, hm⟩ | ⟨k, hm⟩ | ⟨k, hm⟩ <;> rw [hn, hm] <;> try omega
  · show _ ∧ ((decL [a, 128]).2 = 2 ∨ (decL [a, 191]).2 = 2) ↔ _
    rw [dec2 a 128 [] h, dec2 a 191 [] h]; omega
  · show _ ∧ ((decL [a, 128]).2 = 2 ∨ (decL [a, 191]).2 = 2) ↔ _
    rw [dec2 a 128 [] h, dec2 a 191 [] h]; omega
  · show _ ∧ ((decL [a, 128, 128]).2 = 3 ∨ (decL [a, 191, 191]).2 = 3) ↔ _
    rw [dec3 a 128 128 [] h, dec3 a 191 191 [] h]; omega
  · show _ ∧ ((decL [a, 128, 128, 128]).2 = 4 ∨ (decL [a, 191, 191, 191]).2 = 4) ↔ _
    rw [dec4 a 128 128 128 [] h, dec4 a 191 191 191 [] h]; omega
  · show _ ∧ ((decL [a, 128, 128, 128]).2 = 4 ∨ (decL [a, 191, 191, 191]).2 = 4) ↔ _
    rw [dec4 a 128 128 128 [] h, dec4 a 191 191 191 [] h]; omega
theorem beg_full2 (a b : Int) : begB [a, b] = true ↔ fullB [a, b] = false := by
  rw [beg_iff, full_iffB]
  have e0 : at0 [a, b] 0 = a := rfl
  have e1 : at0 [a, b] 1 = b := rfl
  rw [e0, e1]
  have hl := lo_hi a
  simp only [List.length_cons, List.length_nil]
  unfold fillB
  rw [e0]
  rcases need_class a with ⟨h, hn⟩ | ⟨h, hn⟩ | ⟨h, hn⟩ | ⟨h, hn⟩ | ⟨h, hn⟩ <;> rcases nB_class a with ⟨k, hm⟩ | ⟨k, hm⟩ | ⟨k, hm⟩ | ⟨k, hm⟩ | ⟨k, hm⟩ <;> rw [hn, hm] <;> try omega
  · show _ ∧ ((decL [a, b, 128]).2 = 3 ∨ (decL [a, b, 191]).2 = 3) ↔ _
    rw [dec3 a b 128 [] h, dec3 a b 191 [] h]; omega
  · show _ ∧ ((decL [a, b, 128, 128]).2 = 4 ∨ (decL [a, b, 191, 191]).2 = 4) ↔ _
    rw [dec4 a b 128 128 [] h, dec4 a b 191 191 [] h]; omega
  · show _ ∧ ((decL [a, b, 128, 128]).2 = 4 ∨ (decL [a, b, 191, 191]).2 = 4) ↔ _
    rw [dec4 a b 128 128 [] h, dec4 a b 191 191 [] h]; omega
theorem beg_full3 (a b c : Int) : begB [a, b, c] = true ↔ fullB [a, b, c] = false := by
  rw [beg_iff, full_iffB]
  have e0 : at0 [a, b, c] 0 = a := rfl
  have e1 : at0 [a, b, c] 1 = b := rfl
  have e2 : at0 [a, b, c] 2 = c := rfl
  rw [e0, e1, e2]
  have hl := lo_hi a
  simp only [List.length_cons, List.length_nil]
  unfold fillB
  rw [e0]
  rcases need_class a with ⟨h, hn⟩ | ⟨h, hn⟩ | ⟨h, hn⟩ | ⟨h, hn⟩ | ⟨h, hn⟩ <;> rcases nB_class a with ⟨k, hm⟩ | ⟨k, hm⟩ | ⟨k, hm⟩ | ⟨k, hm⟩ | ⟨k, hm⟩ <;> rw [hn, hm] <;> try omega
  · show _ ∧ ((decL [a, b, c, 128]).2 = 4 ∨ (decL [a, b, c, 191]).2 = 4) ↔ _
    rw [dec4 a b c 128 [] h, dec4 a b c 191 [] h]; omega
  · show _ ∧ ((decL [a, b, c, 128]).2 = 4 ∨ (decL [a, b, c, 191]).2 = 4) ↔ _
    rw [dec4 a b c 128 [] h, dec4 a b c 191 [] h]; omega
theorem beg_full : ∀ s : List Int, 0 < s.length → begB s = !fullB s
  | [], h => by simp at h
  | [a], _ => by have := beg_full1 a; cases h1 : begB [a] <;> cases h2 : fullB [a] <;> simp_all
  | [a, b], _ => by have := beg_full2 a b; cases h1 : begB [a, b] <;> cases h2 : fullB [a, b] <;> simp_all
  | [a, b, c], _ => by have := beg_full3 a b c; cases h1 : begB [a, b, c] <;> cases h2 : fullB [a, b, c] <;> simp_all
  | a :: b :: c :: d :: l, _ => by
    have h1 : ¬ begB (a :: b :: c :: d :: l) = true := by
      rw [beg_iff]
      rintro ⟨h1, _⟩
      simp only [List.length_cons] at h1
      rcases need_class (at0 (a :: b :: c :: d :: l) 0) with ⟨h, hn⟩ | ⟨h, hn⟩ | ⟨h, hn⟩ | ⟨h, hn⟩ | ⟨h, hn⟩ <;> omega
    have h2 : ¬ fullB (a :: b :: c :: d :: l) = false := by
      rw [full_iffB]
      rintro ⟨h1, _⟩
      simp only [List.length_cons] at h1
      rcases nB_class (at0 (a :: b :: c :: d :: l) 0) with ⟨h, hn⟩ | ⟨h, hn⟩ | ⟨h, hn⟩ | ⟨h, hn⟩ | ⟨h, hn⟩ <;> omega
    cases h3 : begB (a :: b :: c :: d :: l) <;> cases h4 : fullB (a :: b :: c :: d :: l) <;> simp_all
end Go.Proofs.YtinfdhbnljnifaaGreatDoor

namespace Go.Proofs.YtinfdhbnljnifaaGreatDoor
open Go.RowKit
def OwnO (w : World) (base : Nat) (T : TypeId) (v : Value) (n : Nat) (A : Nat → Value) : Prop :=
  ∃ g k cap cur, v = .slice (some ⟨g, k, none⟩) n cap ∧ base ≤ g ∧ w.heap[g]? = some (.cells cur T (0, 0)) ∧ k + cap ≤ cur.size ∧ n ≤ cap ∧ cap ≤ maxLen ∧ ∀ j, j < n → cur[k + j]? = some (A j)
section
variable {w w' : World} {base : Nat} {T : TypeId} {v : Value} {n : Nat} {A B : Nat → Value}
theorem OwnO.reads (h : OwnO w base T v n A) : Row1At w v n A := by
  obtain ⟨g, k, cap, cur, rfl, hb, hg, hk, hn, hm, hA⟩ := h
  exact ⟨_, cap, rfl, hn, fun _ => ⟨g, k, rfl, fun j hj => cells_of hg (k + j) _ (hA j hj)⟩⟩
theorem OwnO.lt (h : OwnO w base T v n A) : ∀ g, v.ownBlock = some g → base ≤ g ∧ g < w.heap.size := by
  obtain ⟨g, k, cap, cur, rfl, hb, hg, _⟩ := h
  intro g' e
  have e2 : g = g' := by simpa [Value.ownBlock] using e
  subst e2
  exact ⟨hb, (Array.getElem?_eq_some_iff.1 hg).1⟩
theorem OwnO.fr {S : Nat → Prop} (h : OwnO w base T v n A) (hf : Fr S w w') (hS : ∀ g, v.ownBlock = some g → ¬ S g) : OwnO w' base T v n A := by
  obtain ⟨g, k, cap, cur, rfl, hb, hg, h2⟩ := h
  exact ⟨g, k, cap, cur, rfl, hb, hf.kept hg (hS g rfl), h2⟩
theorem OwnO.ext (h : OwnO w base T v n A) (he : Ext w w') : OwnO w' base T v n A := h.fr (S := fun _ => False) (Fr.of_ext he) (fun _ _ e => e)
theorem OwnO.congr (h : OwnO w base T v n A) (e : ∀ j, j < n → A j = B j) : OwnO w base T v n B := by
  obtain ⟨g, k, cap, cur, h1, h2, h3, h4, h5, h6, h7⟩ := h
  exact ⟨g, k, cap, cur, h1, h2, h3, h4, h5, h6, fun j hj => by rw [← e j hj]; exact h7 j hj⟩
theorem OwnO.mono {b2 : Nat} (h : OwnO w base T v n A) (hb : b2 ≤ base) : OwnO w b2 T v n A := by
  obtain ⟨g, k, cap, cur, h1, h2, h3⟩ := h
  exact ⟨g, k, cap, cur, h1, Nat.le_trans hb h2, h3⟩
theorem Own1.toO (h : Own1 w base T v n A) (hn : 0 < n) : OwnO w base T v n A := by
  obtain ⟨ys, ⟨hl, h1⟩, h2⟩ := h
  rcases h1 with ⟨_, e⟩ | ⟨g, cap, cur, rfl, hb, hg, hnc, hm, hs, ht⟩
  · omega
  · refine ⟨g, 0, cap, cur, rfl, hb, hg, by omega, hnc, hm, fun j hj => ?_⟩
    have := h2 j hj
    rw [← ht, List.getElem?_take] at this
    rw [if_pos (by omega)] at this
    rw [Nat.zero_add, ← Array.getElem?_toList]
    exact this
theorem OwnO.tail {g k cap : Nat} (h : OwnO w base T (.slice (some ⟨g, k, none⟩) (n + 1) cap) (n + 1) A) : OwnO w base T (.slice (if cap = 1 then some ⟨g, k, none⟩ else some ⟨g, k + 1, none⟩) n (cap - 1)) n (fun j => A (j + 1)) := by
  obtain ⟨g', k', cap', cur, e, hb, hg, hk, hn, hm, hA⟩ := h
  simp only [Value.slice.injEq, Option.some.injEq, Addr.mk.injEq, and_true, true_and] at e
  obtain ⟨⟨rfl, rfl⟩, rfl⟩ := e
  by_cases hc : cap = 1
  · rw [if_pos hc]
    exact ⟨g, k, cap - 1, cur, rfl, hb, hg, by omega, by omega, by omega, fun j hj => by omega⟩
  · rw [if_neg hc]
    exact ⟨g, k + 1, cap - 1, cur, rfl, hb, hg, by omega, by omega, by omega, fun j hj => by rw [Nat.add_assoc, Nat.add_comm 1 j]; exact hA (j + 1) (by omega)⟩
theorem OwnO.set {g k cap : Nat} (h : OwnO w base T (.slice (some ⟨g, k, none⟩) n cap) n A) (i : Nat) (hi : i < n) (u : Value) : OwnO (w.setCell ⟨g, k + i, none⟩ u) base T (.slice (some ⟨g, k, none⟩) n cap) n (fun j => if j = i then u else A j) := by
  obtain ⟨g', k', cap', cur, e, hb, hg, hk, hn, hm, hA⟩ := h
  simp only [Value.slice.injEq, Option.some.injEq, Addr.mk.injEq, and_true, true_and] at e
  obtain ⟨⟨rfl, rfl⟩, rfl⟩ := e
  refine ⟨g, k, cap, _, rfl, hb, set_blk hg, by simpa using hk, hn, hm, fun j hj => ?_⟩
  show _ = some (if j = i then u else A j)
  by_cases e : j = i
  · subst e
    rw [if_pos rfl, Array.getElem?_setIfInBounds_self_of_lt (by omega)]
  · rw [if_neg e, Array.getElem?_setIfInBounds_ne (by omega)]
    exact hA j hj
end
theorem run_appO {P : Program} {w : World} {base : Nat} {T : TypeId} {v : Value} {n : Nat} {A : Nat → Value} (h : OwnO w base T v n A) (t ty : TypeId) (i : TypeInfo) (z : Value) (bytes : Nat) (ht : P.underlying t = some (.slice T)) (hi : P.info? T = some i) (hz : i.zero = some z) (hsize : i.size = 1) (hby : i.bytes = bytes) (hzs : z.cells.size = 1)
    (ad : Addr) (c : Nat) (r : Value) (hr : w.cell? ad = some r) (hr1 : r.oneCell' = true) (hbase : base ≤ w.heap.size) (hn : n ≤ 200) (hbt : bytes ≤ 64) :
    ∃ v' w', (Builtin.append_ #[t, t] ty #[v, .slice (some ad) 1 c]).run P w = .ok v' w' ∧ OwnO w' base T v' (n + 1) (fun j => if j < n then A j else r) ∧ Fr (fun q => v.ownBlock = some q) w w' ∧ (v'.ownBlock = v.ownBlock ∨ v'.ownBlock = some w.heap.size) := by
  obtain ⟨g, k, cap, cur, rfl, hb, hg, hk, hnc, hm, hA⟩ := h
  have hsrc : Go.Src P i.size t (.slice (some ad) 1 c) 1 [r] w := Go.Src.ofSlice w ht ad 1 c [r] (by rw [hsize]; rfl) (fun j u hj => by
    cases j with
    | zero =>
      simp at hj
      subst hj
      have : ad.add 0 = ad := by unfold Addr.add; split <;> simp_all
      rw [this]
      exact hr
    | succ j => simp at hj) (fun u hu => by simp at hu; subst hu; exact hr1)
  by_cases hroom : n + 1 ≤ cap
  · have hlt : k + n < cur.size := by omega
    have hrun := run_append_room_src (P := P) w t t ty T i ht hi g k n cap (.slice (some ad) 1 c) 1 [r] hsrc hroom
      (fun j hj => by
        have e : j = 0 := by simpa using hj
        subst e
        rw [hsize, Nat.mul_one, Nat.add_zero, cells_of hg (k + n) cur[k + n] (by simp [hlt])]
        rfl)
      (fun j hj => by
        have e : j = 0 := by simpa using hj
        subst e
        exact Lib.frozen_of_heap hg _)
    rw [hsize, Nat.mul_one] at hrun
    refine ⟨_, _, hrun, ⟨g, k, cap, cur.setIfInBounds (k + n) r, rfl, hb, ?_, ?_, hroom, hm, fun j hj => ?_⟩, ?_, .inl rfl⟩
    · show (w.setCell ⟨g, k + n, none⟩ r).heap[g]? = _
      exact set_blk hg
    · simpa using hk
    · show _ = some (if j < n then A j else r)
      by_cases e : j < n
      · rw [if_pos e, Array.getElem?_setIfInBounds_ne (by omega)]
        exact hA j e
      · have e2 : j = n := by omega
        subst e2
        rw [if_neg (by omega), Array.getElem?_setIfInBounds_self_of_lt hlt]
    · show Fr _ w (w.setCell ⟨g, k + n, none⟩ r)
      exact Fr.setCell (S := fun q => Value.ownBlock (.slice (some ⟨g, k, none⟩) n cap) = some q) (Fr.refl _ w) (a := ⟨g, k + n, none⟩) rfl r
  · have holds : ∀ W : World, (∀ a, W.cell? a = w.cell? a) → (Builtin.firstCells i.size n (.slice (some ⟨g, k, none⟩) n cap)).run P W = .ok ((List.range n).map A).toArray W := fun W hW => by
      refine run_firstCells_some W i.size n ⟨g, k, none⟩ n cap _ (by rw [hsize]; simp) (fun j u hj => ?_)
      have hjn : j < n := by
        have := (List.getElem?_eq_some_iff.1 hj).1
        simpa using this
      rw [Addr.add_lit, hW, cells_of hg (k + j) _ (hA j hjn)]
      simpa [hjn] using hj
    have hcapn : cap = n := by omega
    have hnx : Builtin.nextslicecap (n + 1) cap * i.bytes ≤ 281474976710656 := by
      have h1 : Builtin.nextslicecap (n + 1) cap ≤ 1000 := by
        unfold Builtin.nextslicecap
        split
        · omega
        · rw [if_pos (by omega)]
          omega
      rw [hby]
      have := Nat.mul_le_mul h1 hbt
      omega
    have hrun := run_append_grow_src (P := P) w t t ty T i z ht hi hz (some ⟨g, k, none⟩) n cap ((List.range n).map A) (holds w.drew (fun _ => rfl)) (.slice (some ad) 1 c) 1 [r] hsrc (by omega) (by omega) hnx
    have hge := grownCap_ge w (n + 1) cap T
    have hcm := grownCap_le_maxLen w (n + 1) cap T (by unfold maxLen; omega)
    refine ⟨_, _, hrun, ⟨w.heap.size, 0, _, _, rfl, hbase, new_block w.drew _, ?_, hge, hcm, fun j hj => ?_⟩, Fr.of_ext ((Ext.refl w).drew.alloc _), .inr rfl⟩
    · simp only [Array.size_append, List.size_toArray, size_zeroCells, hzs, List.length_append, List.length_map, List.length_range, List.length_singleton]
      omega
    · show _ = some (if j < n then A j else r)
      rw [Nat.zero_add, Array.getElem?_append_left (by simp; omega), List.getElem?_toArray]
      by_cases e : j < n
      · rw [if_pos e, List.getElem?_append_left (by simpa using e)]
        simp [e]
      · have e2 : j = n := by omega
        subst e2
        rw [if_neg (by omega), List.getElem?_append_right (by simp)]
        simp
theorem wp_appO {P : Program} {w : World} {o : Oper} {a : Act} {K : Act → World → Prop} {Q : Exit → Act → World → Prop} (s x : Operand) (t : TypeId) (ho : o.op = .call { callee := .builtin .append, args := #[s, x], argTypes := #[t, t] })
    {base : Nat} {T : TypeId} {v : Value} {n : Nat} {A : Nat → Value} (h : OwnO w base T v n A) (i : TypeInfo) (z : Value) (bytes : Nat) (ht : P.underlying t = some (.slice T)) (hi : P.info? T = some i) (hz : i.zero = some z) (hsize : i.size = 1) (hby : i.bytes = bytes) (hzs : z.cells.size = 1)
    (hs : a.eval s = v) (ad : Addr) (c : Nat) (r : Value) (hx : a.eval x = .slice (some ad) 1 c) (hr : w.cell? ad = some r) (hr1 : r.oneCell' = true) (hbase : base ≤ w.heap.size) (hn : n ≤ 200) (hbt : bytes ≤ 64)
    (hK : ∀ v' w', OwnO w' base T v' (n + 1) (fun j => if j < n then A j else r) → Fr (fun q => v.ownBlock = some q) w w' → (v'.ownBlock = v.ownBlock ∨ v'.ownBlock = some w.heap.size) → K (a.put o.dst v') w') : o.wp P a w K Q := by
  obtain ⟨v', w', hrun, h1, h2, h3⟩ := run_appO (P := P) h t o.type i z bytes ht hi hz hsize hby hzs ad c r hr hr1 hbase hn hbt
  unfold Oper.wp execOp
  simp only [ho, resolve, invoke, builtin, Sem.run_bind, Sem.run_pure, Result.andThen_ok, List.map_toArray, List.map_cons, List.map_nil, hs, hx, hrun]
  exact hK v' w' h1 h2 h3
end Go.Proofs.YtinfdhbnljnifaaGreatDoor
