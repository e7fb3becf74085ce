import Derived.Test.YtgdadidppelgdaaGreatDoorSpecWrap
import Derived.Test.YtgdadidppelgdaaGreatDoorEraseT
import Derived.Test.YtgdadidppelgdaaGreatDoorItemOk
import Derived.Test.YtgdadidppelgdaaGreatDoorDrawM
import Derived.Test.YtgdadidppelgdaaGreatDoorLayI
import Derived.Test.YtgdadidppelgdaaGreatDoorSpecRune2
import Derived.Test.YtgdadidppelgdaaGreatDoorWhole
namespace Go.Proofs.YtgdadidppelgdaaGreatDoor
open Go.RowKit

set_option maxRecDepth 10000 in
set_option maxHeartbeats 2000000 in
theorem specWrap_nil (cs : List (List Int × Int)) (cols : Int) (w : World) (hcs : cs.length = 0) (hv : ClsAt w (.slice none cs.length 0) cs) (hl : cs.length ≤ 4194304) :
    Calls Tryz.prog 77 #[.slice none cs.length 0, .int .i64 cols] w fun e w' => ∃ v' rv rs, e = .returned v' ∧ OwnCss w' w.heap.size v' rv rs (wrR cs cols) (wrC cs cols) ∧ Ext w w' := by
  obtain ⟨ii, hii, hi0, hi1, hi2⟩ := info_parts infoInt
  obtain ⟨ir, hir, hr0, hr1, hr2⟩ := info_parts infoRw
  have HCS := hide hcs
  clear hcs
  have HV := hide hv
  have HE0 := hide (owns_empty' w w.heap.size 115 1 (Nat.le_refl _))
  clear hv
  by_cases hc : cols < 2
  · have hR : Hid (wrR cs cols = 0) := by show _ = _; rw [wrR, if_pos hc]
    go_enter Tryz.func77, Tryz.ntmps77
    go_wp2
    go_ret
    exact ⟨_, fun _ => .slice none 0 0, fun _ => [], rfl, by rw [hR.out]; exact css_nil (unhide HE0), (Ext.refl _).alloc _⟩
  · have hR : Hid (wrR cs cols = (stF cs cols cs.length).1.length) := by show _ = _; rw [wrR, if_neg hc]
    have hok := hide (stF_ok cs cols cs.length)
    go_enter Tryz.func77, Tryz.ntmps77
    go_wp2_with fail
    refine (l1Starts_any _ cs cols _ ((unhide HV).ext ((Ext.refl _).alloc _)) (by omega)).mono ?_
    rintro e w1 ⟨sv, rfl, os, F1⟩
    have E1 := ((Ext.refl w).alloc _).trans F1
    have hlen1 := (unhide hok).one
    have hlen2 := (unhide hok).len
    have HOS := hide (((Ext.refl w1).alloc (.cells #[.int .i64 (cs.length : Int)] 3)).owns os)
    have HE1 := hide (F1.owns (unhide HE0))
    have z1 := E1.size
    clear os
    have hz0 : ∀ o, (w.alloc o).heap.size = w.heap.size + 1 := fun o => by simp
    rw [hz0] at HOS
    go_wp2_with (at_builtin; go_must (refine wpList_append_own _ rfl _ _ 127 rfl (w.heap.size + 1) 3 ii (.int .i64 0) 1 8 Tryz.underlying127 hii hi0 hi1 hi2 rfl (by decide) _ _ _ rfl (unhide HOS) ⟨w1.heap.size, 0, none⟩ 1 1 [.int .i64 (cs.length : Int)] rfl rfl ?_ (by simp [Value.oneCell']) ?_ ?_ ?_ ?_))
    · exact news_cells (w := w1) [.int .i64 (cs.length : Int)] 3
    · unfold maxLen; omega
    · omega
    · have := F1.size; simp at this ⊢; omega
    · intro sv' w2 hown' hgrow _
      have G2 : Ext (w.alloc (.cells #[] 115)) w2 := Ext.grown (F1.alloc _) hgrow (fun q hq => by have := ((unhide HOS).lt q hq).1; simp; omega)
      have HS2 : Hid (w2.ownsRow (w.heap.size + 1) 3 1 sv' (wrS cs cols).length ((wrS cs cols).map (Value.int .i64))) := by
        unfold wrS
        rw [List.length_append, List.map_append]
        exact hide hown'
      have hsl : Hid ((wrS cs cols).length = (stF cs cols cs.length).1.length + 1) := by show _ = _; simp [wrS]
      obtain ⟨M, hM⟩ : ∃ M, M = (stF cs cols cs.length).1.length := ⟨_, rfl⟩
      rw [← hM] at hR hlen1 hlen2 hsl
      have HST := hide (fun i (h : i < M) => wrS_step cs cols i (by rw [← hM]; exact h))
      rw [hsl.out] at HS2
      have HK2 := hide (G2.owns (unhide HE0))
      clear hown' hgrow hM
      obtain ⟨g, scap, rfl⟩ : ∃ g c, sv' = .slice (some ⟨g, 0, none⟩) (M + 1) c := by
        rcases (unhide HS2).2 with ⟨_, e⟩ | ⟨g, cap, cur, e, _⟩
        · omega
        · exact ⟨g, cap, e⟩
      go_wp2
      go_loopw [5, 7] (fun o i wr => ∃ (k : Nat) (rv : Nat → Value) (rs : Nat → List Value), k ≤ M ∧ i = .int .i64 k ∧ Hid (OwnCss wr w.heap.size o rv rs k (wrC cs cols)) ∧ Hid (wr.ownsRow (w.heap.size + 1) 3 1 (.slice (some ⟨g, 0, none⟩) (M + 1) scap) (M + 1) ((wrS cs cols).map (Value.int .i64))) ∧ Ext w wr) (fun _ i _ => M - (intOf i).toNat)
      case atStart => exact ⟨0, fun _ => .slice none 0 0, fun _ => [], Nat.zero_le _, rfl, css_nil (unhide HK2), HS2, ((Ext.refl _).alloc _).trans G2⟩
      case round =>
        obtain ⟨k, rv, rs, hk, rfl, HO, HSW, hext⟩ := hrel
        by_cases hlt : k < M
        · have bk : (k : Int) + 1 < (M : Int) + 1 := by omega
          have bk2 : (k : Int) < (M : Int) := by omega
          have bk0 : (0 : Int) ≤ (k : Int) + 1 := by omega
          have hst := (unhide HST) k hlt
          have hwl : (wrS cs cols).length = M + 1 := hsl.out
          obtain ⟨s0, hs0⟩ : ∃ s : Nat, at0 (wrS cs cols) k = (s : Int) := ⟨(at0 (wrS cs cols) k).toNat, by omega⟩
          obtain ⟨s1, hs1⟩ : ∃ s : Nat, at0 (wrS cs cols) (k + 1) = (s : Int) := ⟨(at0 (wrS cs cols) (k + 1)).toNat, by omega⟩
          have cA : wr.cell? ⟨g, k, none⟩ = some (.int .i64 (s0 : Int)) := by
            rw [(unhide HSW).cellAt k (by omega), ← hs0]
            simp [at0_lt (show k < (wrS cs cols).length by omega)]
          have cB : wr.cell? ⟨g, k + 1, none⟩ = some (.int .i64 (s1 : Int)) := by
            rw [(unhide HSW).cellAt (k + 1) (by omega), ← hs1]
            simp [at0_lt (show k + 1 < (wrS cs cols).length by omega)]
          rw [hs0, hs1] at hst
          have hC : Hid (wrC cs cols k = (cs.take s1).drop s0) := by show _ = _; rw [wrC, hs0, hs1]; simp
          clear hwl hs0 hs1
          have hs01 : s0 ≤ s1 := by omega
          have hs1n : s1 ≤ cs.length := by omega
          have hw1 : IntKind.i64.wrap ((k : Int) + 1) = (k : Int) + 1 := by rw [IntKind.wrap_i64]; omega
          have bA : (k : Int) < (M : Int) + 1 := by omega
          obtain rfl : s1 = 0 := by have := unhide HCS; omega
          obtain rfl : s0 = 0 := by omega
          have cA0 : wr.cell? ⟨g, k, none⟩ = some (.int .i64 0) := cA
          have cB0 : wr.cell? ⟨g, k + 1, none⟩ = some (.int .i64 0) := cB
          clear cA cB
          have hsub : ClsAt wr (.slice none 0 0) (wrC cs cols k) := by
            rw [hC.out]
            have e1 : (cs.take 0).drop 0 = [] := by simp
            rw [e1]
            exact ⟨[], none, 0, by simp, by simp, fun j hj => by simp at hj, fun hp => by simp at hp⟩
          have hCl : (wrC cs cols k).length ≤ 4194304 := by rw [hC.out]; simp
          have hCx : ∀ j, j < (wrC cs cols k).length → (cR (wrC cs cols k) j).length ≤ 16777216 := by
            intro j hj
            rw [hC.out] at hj
            simp at hj
          have hcon := hide (l1Copy_any _ _ wr.drew (hsub.ext (Ext.refl wr).drew) (by omega) hCx)
          have z2 := hext.size
          obtain ⟨ys, hy, hyy⟩ := (unhide HO).1
          have HY := hide hy
          have HYY := hide hyy
          clear hsub hCx hy hyy
          have fin : ∀ (w5 : World) (ra : Option Addr) (rc : Nat) (rs5 : List Value), Ext wr w5 → OwnCls w5 wr.heap.size (.slice ra (wrC cs cols k).length rc) rs5 (wrC cs cols k) → ∀ (g6 cap6 : Nat) (w6 : World), w6.ownsRow w.heap.size 115 1 (.slice (some ⟨g6, 0, none⟩) (k + 1) cap6) (k + 1) (ys ++ [.slice ra (wrC cs cols k).length rc]) → (w5.alloc (.cells #[.slice ra (wrC cs cols k).length rc] 115)).grownBy w6 u5.ownBlock →
              OwnCss w6 w.heap.size (.slice (some ⟨g6, 0, none⟩) (k + 1) cap6) (fun i => if i = k then .slice ra (wrC cs cols k).length rc else rv i) (fun i => if i = k then rs5 else rs i) (k + 1) (wrC cs cols) ∧ Ext w w6 ∧ w6.ownsRow (w.heap.size + 1) 3 1 (.slice (some ⟨g, 0, none⟩) (M + 1) scap) (M + 1) ((wrS cs cols).map (Value.int .i64)) := by
            intro w5 ra rc rs5 E5 O5' g6 cap6 w6 o6 G6
            have EA : Ext w5 (w5.alloc (.cells #[.slice ra (wrC cs cols k).length rc] 115)) := (Ext.refl w5).alloc _
            have HYA := (E5.trans EA).owns (unhide HY)
            have HSA := (E5.trans EA).owns (unhide HSW)
            have h1 := OwnCss.push (r := .slice ra (wrC cs cols k).length rc) (rr := rs5) (c := wrC cs cols k) ((unhide HO).ext (E5.trans EA)) HYA (unhide HYY) ((O5'.ext EA).mono (by omega)) (fun i q hi hq h2 => by
              have h3 := ((unhide HO).2.1 i hi).foot hq
              have h4 := (O5'.foot h2).1
              omega) o6 G6
            refine ⟨h1.congr (fun i hi => ?_), (hext.trans (E5.trans EA)).grown G6 (fun q hq => ((unhide HY).lt q hq).1), owns_same HSA (fun q hq => G6.block q (HSA.lt q hq).2 (fun e => owns_apart HSA HYA (by decide) hq e.symm))⟩
            by_cases e : i = k
            · rw [if_pos e, e]
            · rw [if_neg e]
          have FIN := hide fin
          clear fin
          go_wp2
          go_region_law (first
            | (refine step_append_lies _ (by rfl) _ _ _ (by rfl) w.heap.size 115 ir _ 1 24 Tryz.underlying113 hir hr0 hr1 hr2 rfl (by omega) u5 k ys (by rfl) (((Ext.refl w5).alloc _).owns (unhide HY5)) ⟨w5.heap.size, 0, none⟩ 1 1 [.slice ra (wrC cs cols k).length rc] (by rfl) (by rfl) (news_cells (w := w5) [.slice ra (wrC cs cols k).length rc] 115) (by simp [Value.oneCell']) (by omega) (by unfold maxLen; omega) (by omega) (by simp; omega) (w5.heap.size + 1) (by simp) ?_
               intro g6 cap6 w6 o6 G6 at6 lt6
               have HO6 := hide ((unhide FIN) w5 ra rc rs5 E5 (unhide O5') g6 cap6 w6 o6 G6)
               clear o6 G6)
            | (go_simp; go_at_call 105; refine (unhide hcon).mono ?_; rintro e w5 ⟨v5, rs5, rfl, o5, F5⟩
               obtain ⟨_, ra, rc, rfl, _⟩ := o5.cls
               have E5 : Ext wr w5 := (Ext.refl wr).drew.trans F5
               have z5 := E5.size
               have HY5 := hide (E5.owns (unhide HY))
               have O5' : Hid (OwnCls w5 wr.heap.size (.slice ra (wrC cs cols k).length rc) rs5 (wrC cs cols k)) := hide o5
               have O5 : Hid (OwnCls w5 w.heap.size (.slice ra (wrC cs cols k).length rc) rs5 (wrC cs cols k)) := hide ((unhide O5').mono (by omega))
               clear o5))
          all_goals
            go_wp2
            go_roundw
            case rel => exact ⟨k + 1, _, _, by omega, by go_num, (unhide HO6).1, (unhide HO6).2.2, (unhide HO6).2.1⟩
            case measure => simp [intOf]; omega
        · obtain rfl : k = M := by omega
          rw [← hR.out] at HO
          go_wp2
          go_ret
          exact ⟨_, rv, rs, rfl, unhide HO, hext⟩
end Go.Proofs.YtgdadidppelgdaaGreatDoor

namespace Go.Proofs.YtgdadidppelgdaaGreatDoor
open Go.RowKit

/-- Rows, each with CR LF behind it. -/
def outL (tx : Nat → ByteArray) : Nat → List Int
  | 0 => []
  | n + 1 => outL tx n ++ baL (tx n) ++ [13, 10]
theorem outL_len (tx : Nat → ByteArray) : ∀ n, (outL tx n).length = slen tx n + 2 * n
  | 0 => rfl
  | n + 1 => by rw [outL, List.length_append, List.length_append, outL_len tx n, slen, baL_len]; simp; omega
set_option maxRecDepth 10000 in
set_option maxHeartbeats 2000000 in
theorem l7Out_any (v : Value) (n : Nat) (tx : Nat → ByteArray) (w : World) (hv : Row1At w v n (fun j => .string (tx j))) (hn : n ≤ 1073741824) (hs : slen tx n ≤ 274877906944) :
    Calls Tryz.prog 46 #[v] w fun e w' => ∃ u, e = .returned u ∧ w'.ownsRow w.heap.size 5 1 u (outL tx n).length ((outL tx n).map (Value.int .u8)) ∧ Ext w w' := by
  obtain ⟨i0, hi, hz0, hz1, hz2⟩ := u8_parts
  obtain ⟨ao, cap, rfl, _, hxa⟩ := hv
  have HX := hide hxa
  clear hxa
  have HO0 := hide (owns_empty w 5 1)
  go_enter Tryz.func46, Tryz.ntmps46
  go_wp2
  go_loopw [3, 4] (fun o i wr => ∃ k : Nat, k ≤ n ∧ i = .int .i64 k ∧ Hid (wr.ownsRow w.heap.size 5 1 o (outL tx k).length ((outL tx k).map (Value.int .u8))) ∧ Ext w wr) (fun _ i _ => n - (intOf i).toNat)
  case atStart => exact ⟨0, Nat.zero_le _, rfl, HO0, (Ext.refl w).alloc _⟩
  case round =>
    obtain ⟨k, hk, rfl, HO, hext⟩ := hrel
    have hsz := hext.size
    by_cases hlt : k < n
    · obtain ⟨b, off, hao, hc⟩ := (unhide HX) (by omega)
      subst hao
      have g1 := hext.cell (hc k hlt)
      have bk : (k : Int) < (n : Int) := by omega
      have hl1 := outL_len tx k
      have hl2 := slen_le tx n (k + 1) (by omega)
      rw [slen] at hl2
      have hstep : Hid (outL tx (k + 1) = outL tx k ++ baL (tx k) ++ [13, 10]) := rfl
      obtain ⟨L, hL⟩ : ∃ L, L = outL tx k := ⟨_, rfl⟩
      rw [← hL] at HO hl1 hstep
      clear hL hc
      obtain ⟨cap0, w2, hrun, hcells, E2⟩ := s2i wr (tx k)
      have HC := hide hcells
      have hsz2 := E2.size
      have hO2 := hide (E2.owns (unhide HO))
      clear hcells
      have tok1 : True := trivial
      go_wp2_with (first
        | (at_builtin; have _t := tok1; go_must (refine wpList_append_own _ rfl _ _ 25 rfl w.heap.size 5 i0 (.int .u8 0) 1 1 Tryz.underlying25 hi hz0 hz1 hz2 rfl (by decide) _ _ _ rfl (unhide hO2) ⟨wr.heap.size, 0, none⟩ (tx k).size cap0 ((baL (tx k)).map (Value.int .u8)) rfl (by simp [baL_len]) (unhide HC) (ints_oneCell _ _) (by unfold maxLen; omega) (by omega) (by omega) ?_); intro v3 w3 o3 G3 _; rw [← List.map_append, ← baL_len, ← List.length_append] at o3; have HO3 := hide o3; have HG3 := hide ((hext.trans E2).grown G3 (fun q hq => ((unhide hO2).lt q hq).1)); have hsz3 := G3.size; clear o3 G3 tok1)
        | (at_builtin; go_must (refine wpList_append_own _ rfl _ _ 25 rfl w.heap.size 5 i0 (.int .u8 0) 1 1 Tryz.underlying25 hi hz0 hz1 hz2 rfl (by decide) _ _ _ rfl ((unhide HO3).alloc _) ⟨w3.heap.size, 0, none⟩ 2 2 (([13, 10] : List Int).map (Value.int .u8)) rfl rfl (news_cells _ _) (ints_oneCell _ _) (by unfold maxLen; simp [baL_len]; omega) (by simp [baL_len]; omega) (by simp; omega) ?_); intro v4 w4 o4 G4 _; rw [← List.map_append, show (L ++ baL (tx k)).length + 2 = (L ++ baL (tx k) ++ [13, 10]).length by (simp; omega), ← unhide hstep] at o4; have HO4 := hide o4; have HG4 := hide (((unhide HG3).alloc _).grown G4 (fun q hq => ((unhide HO3).lt q hq).1)); clear o4 G4))
      go_roundw
      case rel => exact ⟨k + 1, by omega, by go_num, HO4, unhide HG4⟩
      case measure => simp [intOf]; omega
    · obtain rfl : k = n := by omega
      have hb9 : ¬ (k : Int) < (k : Int) := by omega
      go_wp2
      go_ret
      exact ⟨_, rfl, unhide HO, hext⟩
end Go.Proofs.YtgdadidppelgdaaGreatDoor

namespace Go.Proofs.YtgdadidppelgdaaGreatDoor
open Go.RowKit

/-- The rows of a line, as texts. -/
def lineN (cols : Int) (x : ByteArray) : Nat := wrR (cutC (baL x)) cols
def lineT (cols : Int) (x : ByteArray) (i : Nat) : ByteArray := toBA (textC (wrC (cutC (baL x)) cols i))
def lineR (cols : Int) (x : ByteArray) : List ByteArray := (List.range (lineN cols x)).map (lineT cols x)
/-- The rows of lines. -/
def linesR (cols : Int) (tx : Nat → ByteArray) : Nat → List ByteArray
  | 0 => []
  | n + 1 => linesR cols tx n ++ lineR cols (tx n)
def atR (l : List ByteArray) (i : Nat) : ByteArray := l.getD i { data := #[] }
def lsz : List ByteArray → Nat
  | [] => 0
  | x :: l => x.size + lsz l
theorem lsz_app (a b : List ByteArray) : lsz (a ++ b) = lsz a + lsz b := by
  induction a with
  | nil => simp [lsz]
  | cons x a ih => simp only [List.cons_append, lsz, ih]; omega
theorem lineR_len (cols : Int) (x : ByteArray) : (lineR cols x).length = lineN cols x := by simp [lineR]
theorem atR_at (l : List ByteArray) (i : Nat) (h : i < l.length) : l[i]? = some (atR l i) := by
  unfold atR
  rw [List.getD_eq_getElem?_getD, List.getElem?_eq_getElem h]
  rfl
theorem strL_atR (l : List ByteArray) : strL (atR l) l.length = l.map Value.string := by
  apply List.ext_getElem?
  intro j
  by_cases h : j < l.length
  · rw [strL_at _ _ _ h, List.getElem?_map, atR_at l j h]
    rfl
  · rw [List.getElem?_eq_none (by rw [strL_len]; omega), List.getElem?_eq_none (by simp; omega)]
theorem own_list {w : World} {base : Nat} {v : Value} {l : List ByteArray} (h : w.ownsRow base 9 1 v l.length (l.map Value.string)) : Own1 w base 9 v l.length (fun j => .string (atR l j)) := own_strL (by rw [strL_atR]; exact h)
theorem slen_atR (l : List ByteArray) : ∀ k, k ≤ l.length → slen (atR l) k = lsz (l.take k)
  | 0, _ => by simp [slen, lsz]
  | k + 1, h => by
    rw [slen, slen_atR l k (by omega), List.take_add_one, lsz_app, atR_at l k (by omega)]
    simp [lsz]
theorem slen_lsz (l : List ByteArray) : slen (atR l) l.length = lsz l := by rw [slen_atR l _ (Nat.le_refl _), List.take_length]
theorem lsz_at (l : List ByteArray) (i : Nat) (h : i < l.length) : (atR l i).size ≤ lsz l := by
  have := slen_le (atR l) l.length (i + 1) (by omega)
  rw [slen, slen_lsz] at this
  omega
/-- The bytes of rows. -/
def outR (l : List ByteArray) : List Int := outL (atR l) l.length
theorem outL_congr {a b : Nat → ByteArray} : ∀ n, (∀ j, j < n → a j = b j) → outL a n = outL b n
  | 0, _ => rfl
  | n + 1, h => by rw [outL, outL, outL_congr n (fun j hj => h j (by omega)), h n (by omega)]
theorem atR_app (l r : List ByteArray) (j : Nat) (h : j < l.length) : atR (l ++ r) j = atR l j := by
  unfold atR
  rw [List.getD_eq_getElem?_getD, List.getD_eq_getElem?_getD, List.getElem?_append_left h]
theorem outR_snoc (l : List ByteArray) (x : ByteArray) : outR (l ++ [x]) = outR l ++ (baL x ++ [13, 10]) := by
  unfold outR
  rw [List.length_append, List.length_singleton, outL, outL_congr l.length (fun j hj => atR_app l [x] j hj), List.append_assoc]
  congr 2
  unfold atR
  simp
theorem outR_len (l : List ByteArray) : (outR l).length = lsz l + 2 * l.length := by rw [outR, outL_len, slen_lsz]
theorem lineT_lsz (cols : Int) (x : ByteArray) : ∀ i, i ≤ (stF (cutC (baL x)) cols (cutC (baL x)).length).1.length → lsz ((List.range i).map (lineT cols x)) = (textC ((cutC (baL x)).take (at0 (wrS (cutC (baL x)) cols) i).toNat)).length
  | 0, _ => by rw [wr_first]; simp [lsz, textC, txT]
  | i + 1, h => by
    rw [List.range_succ, List.map_append, lsz_app, lineT_lsz cols x i (by omega), wr_text _ cols i (by omega), List.length_append]
    simp [lsz, lineT, toBA_size]
theorem lineR_bd (cols : Int) (x : ByteArray) : lsz (lineR cols x) ≤ 8 * x.size + 4 ∧ (lineR cols x).length ≤ x.size + 1 := by
  have h1 := (stF_ok (cutC (baL x)) cols (cutC (baL x)).length).len
  have h2 := cutC_len (baL x)
  have h3 := cutC_fit (baL x)
  rw [baL_len] at h2 h3
  unfold lineR lineN wrR
  split
  · simp [lsz]
  · refine ⟨?_, by simp; omega⟩
    rw [lineT_lsz cols x _ (Nat.le_refl _), wr_end, List.take_length]
    have h4 := txT_len (cutC (baL x)) (cutC (baL x)).length
    unfold textC
    omega
theorem linesR_bd (cols : Int) (tx : Nat → ByteArray) : ∀ n, lsz (linesR cols tx n) ≤ 8 * slen tx n + 4 * n ∧ (linesR cols tx n).length ≤ slen tx n + n
  | 0 => by simp [linesR, lsz]
  | n + 1 => by
    have h := linesR_bd cols tx n
    have k := lineR_bd cols (tx n)
    rw [linesR, lsz_app, List.length_append, slen]
    omega
theorem lineR_take (cols : Int) (x : ByteArray) (k : Nat) (h : k < lineN cols x) : (lineR cols x).take (k + 1) = (lineR cols x).take k ++ [lineT cols x k] := by
  rw [List.take_add_one]
  congr 1
  unfold lineR
  rw [List.getElem?_map, List.getElem?_range h]
  rfl
theorem lineR_all (cols : Int) (x : ByteArray) : (lineR cols x).take (lineN cols x) = lineR cols x := by rw [← lineR_len, List.take_length]
end Go.Proofs.YtgdadidppelgdaaGreatDoor

namespace Go.Proofs.YtgdadidppelgdaaGreatDoor
open Go.RowKit

theorem lineC_fit (cols : Int) (x : ByteArray) (hx : x.size ≤ 1048576) (i : Nat) : (wrC (cutC (baL x)) cols i).length + sumR (wrC (cutC (baL x)) cols i) (wrC (cutC (baL x)) cols i).length ≤ 16777216 ∧ ∀ j, I32s (cR (wrC (cutC (baL x)) cols i) j) := by
  have h := (cuts_one (baL x)).part (at0 (wrS (cutC (baL x)) cols) i).toNat (at0 (wrS (cutC (baL x)) cols) (i + 1)).toNat
  rw [baL_len] at h
  exact ⟨by have := h.1; unfold wrC; omega, h.2⟩
theorem cut_small (x : ByteArray) (hx : x.size ≤ 1048576) : (cutC (baL x)).length ≤ 4194304 ∧ ∀ j, j < (cutC (baL x)).length → (cR (cutC (baL x)) j).length ≤ 4194304 := by
  have h1 := cutC_len (baL x)
  have h2 := cutC_runes (baL x)
  rw [baL_len] at h1 h2
  exact ⟨by omega, fun j _ => by have := h2 j; omega⟩
theorem lineT_at (cols : Int) (x : ByteArray) (k : Nat) (h : k < lineN cols x) : atR (lineR cols x) k = lineT cols x k := by
  unfold atR lineR
  simp [h]
theorem Fr.of_grown9 {W W' : World} {row : Option Nat} (G : W.grownBy W' row) : Fr (fun g => row = some g) W W' := (Fr.refl _ W).grown G (fun _ h => h)
theorem css_apart {w : World} {base base' n : Nat} {v o : Value} {rv : Nat → Value} {rs : Nat → List Value} {R : Nat} {cs : Nat → List (List Int × Int)} {xs : List Value} (h : OwnCss w base v rv rs R cs) (ho : w.ownsRow base' 9 1 o n xs) {g : Nat} (hg : CFoot v rv rs R cs g) : o.ownBlock ≠ some g := by
  rcases hg with hg | ⟨i, hi, hg⟩
  · obtain ⟨ys, h1, _⟩ := h.1
    exact owns_apart h1 ho (by decide) hg
  · obtain ⟨_, ⟨ys, h3, _⟩, h4, _⟩ := h.2.1 i hi
    rcases hg with hg | ⟨j, hj, hg⟩
    · exact owns_apart h3 ho (by decide) hg
    · exact owns_apart (h4 j hj) ho (by decide) hg
theorem specWrap_own {b : Nat} {v : Value} {rs : List Value} {cs : List (List Int × Int)} (cols : Int) {w : World} (h : OwnCls w b v rs cs) (hl : cs.length ≤ 4194304) (hx : ∀ j, j < cs.length → (cR cs j).length ≤ 4194304) :
    Calls Tryz.prog 77 #[v, .int .i64 cols] w fun e w' => ∃ v' rv rs, e = .returned v' ∧ OwnCss w' w.heap.size v' rv rs (wrR cs cols) (wrC cs cols) ∧ Ext w w' := by
  have hcl := h.cls
  obtain ⟨_, ⟨ys, ho, _⟩, _, _⟩ := h
  rcases ho.2 with ⟨rfl, e⟩ | ⟨g, cap, cur, rfl, _, _, hc, _⟩
  · have e0 : cs = [] := by
      obtain ⟨ra, ao, c, e1, _⟩ := hcl
      injection e1 with _ e2 _
      exact List.eq_nil_of_length_eq_zero e2.symm
    subst e0
    exact specWrap_nil [] cols w rfl hcl hl
  · exact specWrap_any g 0 cap cs cols w hcl hc hl hx
set_option maxRecDepth 10000 in
set_option maxHeartbeats 2000000 in
theorem l7Rows_any (v : Value) (n : Nat) (tx : Nat → ByteArray) (cols : Int) (w : World) (hv : Row1At w v n (fun j => .string (tx j))) (hn : n ≤ 1048576) (hx : ∀ j, j < n → (tx j).size ≤ 1048576) (hs : slen tx n ≤ 1073741824) :
    Calls Tryz.prog 44 #[v, .int .i64 cols] w fun e w' => ∃ u, e = .returned u ∧ Own1 w' w.heap.size 9 u (linesR cols tx n).length (fun j => .string (atR (linesR cols tx n) j)) ∧ Ext w w' := by
  obtain ⟨ic, hic, hc0, hc1, hc2⟩ := info_parts infoStrs
  obtain ⟨ao, ca, rfl, hca, hxa⟩ := hv
  have HX := hide hxa
  have HZ := hide hx
  have HO0 := hide (owns_empty w 9 1)
  clear hxa hx
  go_enter Tryz.func44, Tryz.ntmps44
  go_wp2
  go_loopw [5, 6] (fun o i wr => ∃ k : Nat, k ≤ n ∧ i = .int .i64 k ∧ Hid (wr.ownsRow w.heap.size 9 1 o (linesR cols tx k).length ((linesR cols tx k).map Value.string)) ∧ Ext w wr) (fun _ i _ => n - (intOf i).toNat)
  case atStart => exact ⟨0, Nat.zero_le _, rfl, HO0, (Ext.refl w).alloc _⟩
  case round =>
    obtain ⟨k, hk, rfl, HO, hext⟩ := hrel
    have hsz := hext.size
    by_cases hlt : k < n
    · obtain ⟨b, off, hao, hc⟩ := (unhide HX) (by omega)
      subst hao
      have g1 := hext.cell (hc k hlt)
      clear hc
      have bk : (k : Int) < (n : Int) := by omega
      have hxk := (unhide HZ) k hlt
      have hcC := hide (l4Cut_any (baL (tx k)) (baL_bytes _) wr (by rw [baL_len]; omega))
      rw [toBA_baL] at hcC
      have hbd := linesR_bd cols tx k
      have hbs := slen_le tx n (k + 1) (by omega)
      rw [slen] at hbs
      have hbl := (lineR_bd cols (tx k)).2
      rw [lineR_len] at hbl
      have hnext : Hid (linesR cols tx (k + 1) = linesR cols tx k ++ lineR cols (tx k)) := rfl
      obtain ⟨M, hM⟩ : ∃ M, M = lineN cols (tx k) := ⟨_, rfl⟩
      rw [← hM] at hbl
      have HFIT := hide (fun i (_ : i < M) => lineC_fit cols (tx k) hxk i)
      have HTK := hide (fun i (hi : i < M) => lineR_take cols (tx k) i (by rw [← hM]; exact hi))
      have HAL : Hid ((lineR cols (tx k)).take M = lineR cols (tx k)) := hide (by rw [hM]; exact lineR_all _ _)
      have HLT : Hid (∀ i, (lineT cols (tx k) i) = toBA (textC (wrC (cutC (baL (tx k))) cols i))) := fun _ => rfl
      have HML : Hid (∀ q, q ≤ M → ((lineR cols (tx k)).take q).length = q) := hide (fun q hq => by rw [List.length_take, lineR_len, ← hM]; omega)
      obtain ⟨L, hL⟩ : ∃ L, L = linesR cols tx k := ⟨_, rfl⟩
      have hLl : L.length ≤ 1074790400 := by rw [hL]; omega
      rw [← hL] at HO hnext
      clear hL hbd
      have hsm := cut_small (tx k) hxk
      go_wp2_with fail
      refine (unhide hcC).mono ?_
      rintro e w1 ⟨v1, rs1, rfl, o1, F1⟩
      have hcW := hide (specWrap_own cols o1 hsm.1 hsm.2)
      have E1 := hext.trans F1
      replace HO := hide (F1.owns (unhide HO))
      clear o1 F1 hsm hcC
      go_wp2_with fail
      refine (unhide hcW).mono ?_
      rintro e w2 ⟨v2, rv2, rs2, rfl, o2, F2⟩
      have E2 := E1.trans F2
      replace HO := hide (F2.owns (unhide HO))
      have HM2 : Hid (wrR (cutC (baL (tx k))) cols = M) := hide hM.symm
      rw [unhide HM2] at o2
      obtain ⟨ao2, ca2, rfl⟩ := o2.1.slice
      have HC2 := hide o2
      clear o2 F2 hcW hM
      go_wp2
      go_loopw [5, 8] (fun o i wr2 => ∃ q : Nat, q ≤ M ∧ i = .int .i64 q ∧ Hid (wr2.ownsRow w.heap.size 9 1 o (L ++ (lineR cols (tx k)).take q).length ((L ++ (lineR cols (tx k)).take q).map Value.string)) ∧ Hid (OwnCss wr2 w1.heap.size (.slice ao2 M ca2) rv2 rs2 M (wrC (cutC (baL (tx k))) cols)) ∧ Ext w wr2) (fun _ i _ => M - (intOf i).toNat)
      case atStart => exact ⟨0, Nat.zero_le _, rfl, by simpa using HO, HC2, E2⟩
      case round =>
        clear HC2 HO
        obtain ⟨q, hq, rfl, HQ, HC2, hext2⟩ := hrel
        have hs2 := hext2.size
        by_cases hlq : q < M
        · obtain ⟨ao3, ca3, e3, _, hx3⟩ := (unhide HC2).1.reads
          obtain ⟨rfl, _, rfl⟩ := Value.slice.inj e3
          obtain ⟨b3, o3, ha3, hc3⟩ := hx3 (by omega)
          subst ha3
          have g3 := hc3 q hlq
          clear hc3 hx3 e3
          have bq : (q : Int) < (M : Int) := by omega
          have hf := (unhide HFIT) q hlq
          have hcT := hide (specTextOf_any (rv2 q) (wrC (cutC (baL (tx k))) cols q) wr ((unhide HC2).2.1 q hlq).cls hf.1 (fun j _ => hf.2 j))
          rw [← (unhide HLT) q] at hcT
          have hst : Hid (L ++ (lineR cols (tx k)).take (q + 1) = (L ++ (lineR cols (tx k)).take q) ++ [lineT cols (tx k) q]) := hide (by rw [(unhide HTK) q hlq, List.append_assoc])
          have hll : (L ++ (lineR cols (tx k)).take q).length = L.length + q := by rw [List.length_append, (unhide HML) q hq]
          obtain ⟨L2, hL2⟩ : ∃ L2, L2 = L ++ (lineR cols (tx k)).take q := ⟨_, rfl⟩
          rw [← hL2] at HQ hst hll
          clear hL2 hf
          go_wp2_with (first
            | (go_at_call 79; refine (unhide hcT).mono ?_; rintro e w4 ⟨rfl, F4⟩; have HO4 := hide (F4.owns (unhide HQ)); have HC4 := hide ((unhide HC2).ext F4); have E4 := hext2.trans F4; have hs4 := E4.size; clear F4)
            | (at_builtin; go_must (refine wpList_app rfl _ _ 28 rfl w.heap.size 9 ic (.string { data := #[] }) 1 16 Tryz.underlying28 hic hc0 hc1 hc2 rfl (by decide) _ _ _ rfl ((unhide HO4).alloc _) _ 1 [.string (lineT cols (tx k) q)] rfl (Src.made _ _ _ rfl (by simp [Value.oneCell'])) (by unfold maxLen; omega) (by omega) (by simp; omega) ?_); intro v5 w5 o5 G5 _; rw [show L2.map Value.string ++ [Value.string (lineT cols (tx k) q)] = (L2 ++ [lineT cols (tx k) q]).map Value.string by simp, show L2.length + 1 = (L2 ++ [lineT cols (tx k) q]).length by simp, ← unhide hst] at o5; have HO5 := hide o5; have HC5 : Hid (OwnCss w5 w1.heap.size (.slice (some ⟨b3, o3, none⟩) M ca2) rv2 rs2 M (wrC (cutC (baL (tx k))) cols)) := (by have h8 := Fr.of_grown9 G5; have h9 := OwnCss.fr ((unhide HC4).ext ((Ext.refl w4).alloc (Obj.cells #[Value.string (lineT cols (tx k) q)] 9))) h8 (fun p hp => css_apart ((unhide HC4).ext ((Ext.refl w4).alloc (Obj.cells #[Value.string (lineT cols (tx k) q)] 9))) ((unhide HO4).alloc (Obj.cells #[Value.string (lineT cols (tx k) q)] 9)) hp); exact hide h9); have E5 := hide ((E4.alloc _).grown G5 (fun p hp => ((unhide HO4).lt p hp).1)); clear o5 G5))
          go_roundw
          case rel => exact ⟨q + 1, by omega, by go_num, HO5, HC5, unhide E5⟩
          case measure => simp [intOf]; omega
        · obtain rfl : q = M := by omega
          have hb9 : ¬ (q : Int) < (q : Int) := by omega
          go_wp2
          go_roundw
          case rel => exact ⟨k + 1, by omega, by go_num, by rw [unhide hnext, ← unhide HAL]; exact HQ, hext2⟩
          case measure => simp [intOf]; omega
    · obtain rfl : k = n := by omega
      have hb9 : ¬ (k : Int) < (k : Int) := by omega
      go_wp2
      go_ret
      exact ⟨_, rfl, own_list (unhide HO), hext⟩
end Go.Proofs.YtgdadidppelgdaaGreatDoor
