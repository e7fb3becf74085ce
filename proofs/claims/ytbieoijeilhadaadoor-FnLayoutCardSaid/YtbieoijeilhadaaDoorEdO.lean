import Derived.Test.YtbieoijeilhadaaDoorEdE3
import Derived.Test.YtbieoijeilhadaaDoorEdE5
import Derived.Test.YtbieoijeilhadaaDoorSetS
import Derived.Test.YtbieoijeilhadaaDoorEdQ0
import Derived.Maps.Own
import Derived.Test.YtbieoijeilhadaaDoorKys
import Derived.Test.YtbieoijeilhadaaDoorBlocks
import Derived.Test.YtbieoijeilhadaaDoorGap
import Derived.Deep.RegionLaw
import Derived.Deep.DeepCutAuto
import Derived.Deep.RegionHeld3
import Derived.Test.YtbieoijeilhadaaDoorEdD18
import Derived.Test.YtbieoijeilhadaaDoorEdG4
import Derived.Test.YtbieoijeilhadaaDoorEdS1
import Derived.Test.YtbieoijeilhadaaDoorEdU2
import Derived.Test.YtbieoijeilhadaaDoorEdH
import Derived.Test.YtbieoijeilhadaaDoorEdK
namespace Go.Proofs.YtbieoijeilhadaaDoor
open Go.RowKit
theorem wdL_le (cs : List (List Int × Int)) : wdL cs ≤ cs.length := (wd_ex (fun j => spB (cR cs (cs.length - 1 - j))) cs.length).le
theorem wdR_le (cs : List (List Int × Int)) : wdR cs ≤ cs.length := (wd_ex (fun j => spB (cR cs j)) cs.length).le
theorem flat_ge (xs : List Int) : xs.length ≤ (flat (clusC xs)).length := by
  rw [flat_clus, fl]
  by_cases h : xs.map shownI = []
  · rw [if_pos h]
    have := congrArg List.length h
    simp at this
    simp [this]
  · rw [if_neg h]
    by_cases h2 : 0 < wid (at0 (xs.map shownI) 0)
    · rw [if_pos h2]; simp
    · rw [if_neg h2]; simp
theorem baL_nil {b : ByteArray} (h : baL b = []) : b = { data := #[] } := by
  rw [← toBA_baL b, h]
  rfl
section
variable {a b c : ByteArray} {un : List (ByteArray × ByteArray)} {w : World}
theorem killed_no (W : World) (u : Value) (l r : ByteArray) (hv : LnAt W u un) (hn : un.length ≤ 50) :
    Calls Tryd.prog 127 #[.agg #[.string a, .string b, .string c, u], .string { data := #[] }, .string l, .string r] W fun e w' => LnO w' W.heap.size ⟨a, b, c, un, 2⟩ e ∧ Ext W w' := by
  refine (l4Killed_no a b c l r u un.length (lnT un) (lnH un) W hv hn).mono ?_
  rintro e w' ⟨v', rfl, o, E⟩
  exact ⟨⟨v', rfl, o⟩, E⟩
theorem killed_yes (W : World) (u : Value) (t l r : ByteArray) (ht : t.toList ≠ []) (hv : LnAt W u un) (hn : un.length ≤ 50) :
    Calls Tryd.prog 127 #[.agg #[.string a, .string b, .string c, u], .string t, .string l, .string r] W fun e w' => LnO w' W.heap.size ⟨l, r, t, undoN un (a, b), 1⟩ e ∧ Ext W w' := by
  have h := l4Killed_yes a b c t l r ht u un.length (lnT un) (lnH un) W hv hn
  rw [unL_ln] at h
  refine h.mono ?_
  rintro e w' ⟨v', rfl, o, E⟩
  exact ⟨⟨v', rfl, o⟩, E⟩
theorem ba_ne {t : ByteArray} (h : baL t ≠ []) : t.toList ≠ [] := by
  intro e
  have h8 := toBA_some h
  rw [toBA_baL, e] at h8
  simp at h8
end
set_option maxHeartbeats 1000000 in
theorem specEdit_yes (a b c : ByteArray) (v : Value) (un : List (ByteArray × ByteArray)) (ra : Option Addr) (rn rc : Nat) (w : World) (hv : LnAt w v un) (ha : a.size ≤ 1048576) (hb : b.size ≤ 1048576) (hc : c.size ≤ 1048576) (hx : ∀ j, j < un.length → (lnT un j).size ≤ 1048576 ∧ (lnH un j).size ≤ 1048576) (kd : Int) (rs : List Int) (hr : IntsAt w .i32 (.slice ra rn rc) rs) (iR : I32s rs) (hP : LineP a b c un.length (lnT un) (lnH un)) :
    Calls Tryd.prog 111 #[.agg #[.string a, .string b, .string c, v], .agg #[.int .i64 kd, .slice ra rn rc]] w fun e w' => LnO w' w.heap.size (edF a b c un kd rs) e ∧ Ext w w' := by
  have hn : un.length ≤ 50 := hP.1
  have hn2 : un.length ≤ 1048576 := by omega
  have sa : settleL (baL a) = baL a := hP.2.1.1
  have sb : settleL (baL b) = baL b := hP.2.1.2.1
  have cA := cut_nil sa
  have cB := cut_nil sb
  have lA := cutC_len (baL a)
  have lB := cutC_len (baL b)
  rw [baL_len] at lA lB
  have na : (cleanL (baL a)).length ≤ 300 := by have := hP.2.1.2.2; omega
  have put : ∀ W u, Ext w W → LnAt W u un → Calls Tryd.prog 125 #[.agg #[.string a, .string b, .string c, u], .slice ra rn rc] W fun e w' => LnO w' W.heap.size (edPut a b c un rs) e ∧ Ext W w' := by
    intro W u E hu
    unfold edPut
    by_cases h0 : rs.length = 0
    · rw [if_pos h0]
      exact l4Put_zero a b c u un _ rs W hu hn ha hb (hr.ext E) h0
    rw [if_neg h0]
    have hg := flat_ge (cleanL (baL a) ++ rs)
    rw [List.length_append] at hg
    by_cases h1 : 300 < rs.length
    · rw [if_pos (by omega)]
      exact l4Put_big a b c u un _ rs W hu hn ha hb (hr.ext E) h1
    by_cases h2 : 300 < (flat (clusC (cleanL (baL a) ++ rs))).length + (cleanL (baL b)).length
    · rw [if_pos h2]
      exact l4Put_bell a b c u un _ rs W hu hn ha hb (hr.ext E) iR ⟨by omega, by omega⟩ na h2
    · rw [if_neg h2]
      exact l4Put_yes a b c u un _ rs W hu hn ha hb (hr.ext E) iR ⟨by omega, by omega⟩ na h2
  have none : ∀ k : Int, ¬ k = 6 → ¬ k = 7 → ¬ k = 8 → ¬ k = 9 → ¬ k = 18 → ¬ k = 19 → ∀ W u, Ext w W → LnAt W u un → Calls Tryd.prog 124 #[.agg #[.string a, .string b, .string c, u], .int .i64 k] W fun e w' => e = .returned (.tuple #[.agg #[.string a, .string b, .string c, u], .int .i64 (-1)]) ∧ Ext W w' :=
    fun k h6 h7 h8 h9 h18 h19 W u _ hu => l4Moved_none a b c u un W hu ha hb k h6 h7 h8 h9 h18 h19
  by_cases h1 : kd = 1
  · subst h1
    rw [show edF a b c un 1 rs = edPut a b c un rs by simp [edF]]
    exact specEdit_1 a b c v un ra rn rc w hv ha hb hc hn2 hx hP _ (none 1 (by omega) (by omega) (by omega) (by omega) (by omega) (by omega)) put
  by_cases h2 : kd = 2
  · subst h2
    rw [show edF a b c un 2 rs = edPut a b c un rs by simp [edF]]
    exact specEdit_2 a b c v un ra rn rc w hv ha hb hc hn2 hx hP _ (none 2 (by omega) (by omega) (by omega) (by omega) (by omega) (by omega)) put
  by_cases h4 : kd = 4
  · subst h4
    rw [show edF a b c un 4 rs = edBack a b c un by simp [edF]]
    refine specEdit_4 a b c v un ra rn rc w hv ha hb hc hn2 hx hP _ (none 4 (by omega) (by omega) (by omega) (by omega) (by omega) (by omega)) (fun W u E hu => ?_)
    unfold edBack
    by_cases h : (cutC (baL a)).length = 0
    · rw [if_pos h]
      exact l4Gone_4_no a b c u un W hu hn ha hb h
    · rw [if_neg h]
      exact l4Gone_4_yes a b c u un W hu hn ha hb (by omega)
  by_cases h5 : kd = 5
  · subst h5
    rw [show edF a b c un 5 rs = edDel a b c un by simp [edF]]
    refine specEdit_5 a b c v un ra rn rc w hv ha hb hc hn2 hx hP _ (none 5 (by omega) (by omega) (by omega) (by omega) (by omega) (by omega)) (fun W u E hu => ?_)
    unfold edDel
    by_cases h : (cutC (baL b)).length = 0
    · rw [if_pos h]
      by_cases h9 : (cutC (baL a)).length = 0
      · rw [if_pos h9]
        exact l4Gone_5_end a b c u un W hu hn ha hb ⟨h9, h⟩
      · rw [if_neg h9]
        exact l4Gone_5_no a b c u un W hu hn ha hb ⟨by omega, h⟩
    · rw [if_neg h]
      exact l4Gone_5_yes a b c u un W hu hn ha hb (by omega)
  by_cases h6 : kd = 6
  · subst h6
    rw [show edF a b c un 6 rs = edLeft a b c un by simp [edF]]
    unfold edLeft
    by_cases h : (cutC (baL a)).length = 0
    · rw [if_pos h]
      refine specEdit_moved a b c v un ra rn rc w hv ha hb hc hn2 hx 6 hP _ (by show (0 : Int) ≤ 2; decide) (fun W u E hu => ?_)
      exact l4Moved_6_no a b c u un W hu ha hb a b (-1) ⟨by rw [h]; rfl, by decide⟩ (fun W2 u2 E2 hu2 => l4Move_out a b c u2 un W2 hu2 hn ha hb _ (.inl (by decide)))
    · rw [if_neg h]
      refine specEdit_moved a b c v un ra rn rc w hv ha hb hc hn2 hx 6 hP _ (by show (0 : Int) ≤ 1; decide) (fun W u E hu => ?_)
      exact l4Moved_6_yes a b c u un W hu ha hb _ _ (((cutC (baL a)).length - 1 : Nat) : Int) ⟨by rw [IntKind.wrap_i64]; omega, by omega⟩ (fun W2 u2 E2 hu2 => l4Move_go a b c u2 un W2 hu2 hn ha hb _ _ ⟨rfl, by omega, by omega⟩)
  by_cases h7 : kd = 7
  · subst h7
    rw [show edF a b c un 7 rs = edRight a b c un by simp [edF]]
    unfold edRight
    by_cases h : (cutC (baL b)).length = 0
    · rw [if_pos h]
      refine specEdit_moved a b c v un ra rn rc w hv ha hb hc hn2 hx 7 hP _ (by show (0 : Int) ≤ 2; decide) (fun W u E hu => ?_)
      exact l4Moved_7_no a b c u un W hu ha hb a b (((cutC (baL a)).length + 1 : Nat) : Int) ⟨by rw [IntKind.wrap_i64]; omega, by omega⟩ (fun W2 u2 E2 hu2 => l4Move_out a b c u2 un W2 hu2 hn ha hb _ (.inr (by omega)))
    · rw [if_neg h]
      refine specEdit_moved a b c v un ra rn rc w hv ha hb hc hn2 hx 7 hP _ (by show (0 : Int) ≤ 1; decide) (fun W u E hu => ?_)
      exact l4Moved_7_yes a b c u un W hu ha hb _ _ (((cutC (baL a)).length + 1 : Nat) : Int) ⟨by rw [IntKind.wrap_i64]; omega, by omega⟩ (fun W2 u2 E2 hu2 => l4Move_go a b c u2 un W2 hu2 hn ha hb _ _ ⟨rfl, by omega, by omega⟩)
  by_cases h8 : kd = 8
  · subst h8
    rw [show edF a b c un 8 rs = edHome a b c un by simp [edF]]
    unfold edHome
    by_cases h : (cutC (baL a)).length = 0
    · rw [if_pos h]
      refine specEdit_moved a b c v un ra rn rc w hv ha hb hc hn2 hx 8 hP _ (by show (0 : Int) ≤ 0; decide) (fun W u E hu => ?_)
      exact l4Moved_8_no a b c u un W hu ha hb a b (fun W2 u2 E2 hu2 => l4Move_stay a b c u2 un W2 hu2 hn ha hb _ ⟨by rw [h]; rfl, by omega⟩)
    · rw [if_neg h]
      refine specEdit_moved a b c v un ra rn rc w hv ha hb hc hn2 hx 8 hP _ (by show (0 : Int) ≤ 1; decide) (fun W u E hu => ?_)
      exact l4Moved_8_yes a b c u un W hu ha hb _ _ (fun W2 u2 E2 hu2 => l4Move_go a b c u2 un W2 hu2 hn ha hb _ 0 ⟨rfl, by omega, by omega⟩)
  by_cases h9 : kd = 9
  · subst h9
    rw [show edF a b c un 9 rs = edEnd a b c un by simp [edF]]
    unfold edEnd
    by_cases h : (cutC (baL b)).length = 0
    · rw [if_pos h]
      refine specEdit_moved a b c v un ra rn rc w hv ha hb hc hn2 hx 9 hP _ (by show (0 : Int) ≤ 0; decide) (fun W u E hu => ?_)
      exact l4Moved_9_no a b c u un W hu ha hb a b (((cutC (baL a)).length : Nat) : Int) ⟨by rw [h, IntKind.wrap_i64]; omega, by omega⟩ (fun W2 u2 E2 hu2 => l4Move_stay a b c u2 un W2 hu2 hn ha hb _ ⟨rfl, by omega⟩)
    · rw [if_neg h]
      refine specEdit_moved a b c v un ra rn rc w hv ha hb hc hn2 hx 9 hP _ (by show (0 : Int) ≤ 1; decide) (fun W u E hu => ?_)
      exact l4Moved_9_yes a b c u un W hu ha hb _ _ (((cutC (baL a)).length + (cutC (baL b)).length : Nat) : Int) ⟨by rw [IntKind.wrap_i64]; omega, by omega⟩ (fun W2 u2 E2 hu2 => l4Move_go a b c u2 un W2 hu2 hn ha hb _ _ ⟨rfl, by omega, by omega⟩)
  by_cases h18 : kd = 18
  · subst h18
    rw [show edF a b c un 18 rs = edWl a b c un by simp [edF]]
    unfold edWl
    have hw := wdL_le (cutC (baL a))
    by_cases h : wdL (cutC (baL a)) = 0
    · rw [if_pos h]
      refine specEdit_moved a b c v un ra rn rc w hv ha hb hc hn2 hx 18 hP _ (by show (0 : Int) ≤ 2; decide) (fun W u E hu => ?_)
      exact l4Moved_18_no a b c u un W hu ha hb a b _ ⟨rfl, by omega⟩ (fun W2 u2 E2 hu2 => l4Move_stay a b c u2 un W2 hu2 hn ha hb _ ⟨by rw [h]; rfl, by omega⟩)
    · rw [if_neg h]
      refine specEdit_moved a b c v un ra rn rc w hv ha hb hc hn2 hx 18 hP _ (by show (0 : Int) ≤ 1; decide) (fun W u E hu => ?_)
      exact l4Moved_18_yes a b c u un W hu ha hb _ _ _ ⟨rfl, by omega⟩ (fun W2 u2 E2 hu2 => l4Move_go a b c u2 un W2 hu2 hn ha hb _ _ ⟨rfl, by omega, by omega⟩)
  by_cases h19 : kd = 19
  · subst h19
    rw [show edF a b c un 19 rs = edWr a b c un by simp [edF]]
    unfold edWr
    have hw := wdR_le (cutC (baL b))
    by_cases h : wdR (cutC (baL b)) = 0
    · rw [if_pos h]
      refine specEdit_moved a b c v un ra rn rc w hv ha hb hc hn2 hx 19 hP _ (by show (0 : Int) ≤ 2; decide) (fun W u E hu => ?_)
      exact l4Moved_19_no a b c u un W hu ha hb a b (((cutC (baL a)).length : Nat) : Int) ⟨by rw [h, IntKind.wrap_i64]; omega, by omega⟩ (fun W2 u2 E2 hu2 => l4Move_stay a b c u2 un W2 hu2 hn ha hb _ ⟨rfl, by omega⟩)
    · rw [if_neg h]
      refine specEdit_moved a b c v un ra rn rc w hv ha hb hc hn2 hx 19 hP _ (by show (0 : Int) ≤ 1; decide) (fun W u E hu => ?_)
      exact l4Moved_19_yes a b c u un W hu ha hb _ _ (((cutC (baL a)).length + wdR (cutC (baL b)) : Nat) : Int) ⟨by rw [IntKind.wrap_i64]; omega, by omega⟩ (fun W2 u2 E2 hu2 => l4Move_go a b c u2 un W2 hu2 hn ha hb _ _ ⟨rfl, by omega, by omega⟩)
  by_cases h12 : kd = 12
  · subst h12
    rw [show edF a b c un 12 rs = edKe a b c un by simp [edF]]
    refine specEdit_12 a b c v un ra rn rc w hv ha hb hc hn2 hx hP _ (none 12 (by omega) (by omega) (by omega) (by omega) (by omega) (by omega)) (fun W u E hu => ?_)
    unfold edKe
    by_cases h : (cutC (baL b)).length = 0
    · rw [if_pos h]
      obtain rfl := baL_nil (cB.1 h)
      exact killed_no W u _ _ hu hn
    · rw [if_neg h]
      exact killed_yes W u _ _ _ (ba_ne (fun e => h (cB.2 e))) hu hn
  by_cases h13 : kd = 13
  · subst h13
    rw [show edF a b c un 13 rs = edKs a b c un by simp [edF]]
    refine specEdit_13 a b c v un ra rn rc w hv ha hb hc hn2 hx hP _ (none 13 (by omega) (by omega) (by omega) (by omega) (by omega) (by omega)) (fun W u E hu => ?_)
    unfold edKs
    by_cases h : (cutC (baL a)).length = 0
    · rw [if_pos h]
      obtain rfl := baL_nil (cA.1 h)
      exact killed_no W u _ _ hu hn
    · rw [if_neg h]
      exact killed_yes W u _ _ _ (ba_ne (fun e => h (cA.2 e))) hu hn
  by_cases h14 : kd = 14
  · subst h14
    rw [show edF a b c un 14 rs = edKw a b c un by simp [edF]]
    exact specEdit_14 a b c v un ra rn rc w hv ha hb hc hn2 hx hP (none 14 (by omega) (by omega) (by omega) (by omega) (by omega) (by omega)) hn
  by_cases h15 : kd = 15
  · subst h15
    rw [show edF a b c un 15 rs = edYank a b c un by simp [edF]]
    by_cases h : (baL c).length = 0
    · obtain rfl := baL_nil (List.eq_nil_of_length_eq_zero h)
      exact specEdit_15z a b v un ra rn rc w hv ha hb hn2 hx hP (none 15 (by omega) (by omega) (by omega) (by omega) (by omega) (by omega)) hn
    by_cases hl : 300 < (cleanL (baL a)).length + (cleanL (baL c)).length + (cleanL (baL b)).length
    · exact specEdit_15b a b c v un ra rn rc w hv ha hb hc hn2 hx hP (none 15 (by omega) (by omega) (by omega) (by omega) (by omega) (by omega)) hn h hl
    · exact specEdit_15y a b c v un ra rn rc w hv ha hb hc hn2 hx hP (none 15 (by omega) (by omega) (by omega) (by omega) (by omega) (by omega)) hn h hl
  by_cases h16 : kd = 16
  · subst h16
    rw [show edF a b c un 16 rs = edSwap a b c un by simp [edF]]
    refine specEdit_16 a b c v un ra rn rc w hv ha hb hc hn2 hx hP _ (none 16 (by omega) (by omega) (by omega) (by omega) (by omega) (by omega)) (fun W u E hu => ?_)
    unfold edSwap
    by_cases h : 1 ≤ (cutC (baL a)).length ∧ 1 ≤ (cutC (baL b)).length
    · rw [if_pos h]
      exact l4Swapped_mid a b c u un W hu hn ha hb h
    rw [if_neg h]
    by_cases h' : 2 ≤ (cutC (baL a)).length ∧ (cutC (baL b)).length = 0
    · rw [if_pos h']
      exact l4Swapped_end a b c u un W hu hn ha hb h'
    rw [if_neg h']
    by_cases h0 : (cutC (baL a)).length = 0
    · exact l4Swapped_z a b c u un W hu hn ha hb ⟨h0, by omega⟩
    · exact l4Swapped_o a b c u un W hu hn ha hb ⟨by omega, by omega⟩
  by_cases h17 : kd = 17
  · subst h17
    rw [show edF a b c un 17 rs = edUndo a b c un by simp [edF]]
    refine specEdit_17 a b c v un ra rn rc w hv ha hb hc hn2 hx hP _ (none 17 (by omega) (by omega) (by omega) (by omega) (by omega) (by omega)) (fun W u E hu => ?_)
    by_cases h : un.length = 0
    · rw [edUndo, if_pos h]
      refine (l4Undone_no a b c u un.length (lnT un) (lnH un) W hu hn h).mono ?_
      rintro e w' ⟨v', rfl, o, E'⟩
      exact ⟨⟨v', rfl, by show Own2 w' W.heap.size _ v' un.length _ _; rw [h]; exact o⟩, E'⟩
    · exact l4Undone_yes a b c u un W hu hn (by omega)
  have ef : edF a b c un kd rs = ⟨a, b, c, un, handF kd⟩ := by simp [edF, handF, h1, h2, h4, h5, h6, h7, h8, h9, h12, h13, h14, h15, h16, h17, h18, h19]
  rw [ef]
  exact specEdit_other a b c v un ra rn rc w hv ha hb hc hn2 hx kd hP h1 h2 h4 h5 h12 h13 h14 h15 h16 h17 (none kd h6 h7 h8 h9 h18 h19) _ (fun W => l4Handed_any kd W)
end Go.Proofs.YtbieoijeilhadaaDoor

namespace Go.Proofs.YtbieoijeilhadaaDoor
open Go.RowKit
theorem good_fl {c : List Int × Int} (h : GoodC c) : fl c.1 = c.1 ∧ ∀ x ∈ c.1, CleanR x := by
  have h1 : clusC c.1 = [c] := by rw [clus_fold]; exact h
  have h2 := flat_clus c.1
  have h3 := flat_clean c.1
  rw [h1] at h2 h3
  simp only [flat, List.append_nil] at h2 h3
  have hm : c.1.map shownI = c.1 := by
    conv => rhs; rw [← List.map_id c.1]
    exact List.map_congr_left (fun x hx => (h3 x hx).shown)
  rw [hm] at h2
  exact ⟨h2.symm, h3⟩
theorem goods_fl : ∀ (X : List (List Int × Int)), (∀ c ∈ X, GoodC c) → fl (flat X) = flat X ∧ ∀ x ∈ flat X, CleanR x
  | [], _ => ⟨rfl, fun x hx => by simp [flat] at hx⟩
  | c :: cs, h => by
    obtain ⟨h1, h2⟩ := good_fl (h c (by simp))
    obtain ⟨h3, h4⟩ := goods_fl cs (fun d hd => h d (by simp [hd]))
    refine ⟨fl_app h1 h3, fun x hx => ?_⟩
    rw [flat] at hx
    exact (List.mem_append.1 hx).elim (h2 x) (h4 x)
theorem goods_text {X : List (List Int × Int)} (h : ∀ c ∈ X, GoodC c) : settleL (textC X) = textC X ∧ cleanL (textC X) = flat X := by
  obtain ⟨h1, h2⟩ := goods_fl X h
  have h3 : cleanL (textC X) = flat X := by rw [textC_flat, clean_enc _ h2]
  refine ⟨?_, h3⟩
  rw [settleL_enc, h3, h1, textC_flat]
theorem encA_le4 : ∀ xs : List Int, (encA xs).length ≤ 4 * xs.length
  | [] => Nat.le_refl _
  | x :: xs => by
    rw [encA, List.length_append]
    have h1 := encR_len x
    have h2 := encA_le4 xs
    simp
    omega
theorem settled_bytes {L : List Int} (h : settleL L = L) : L.length ≤ 4 * (cleanL L).length := by
  have := encA_le4 (cleanL L)
  rwa [settled_enc h] at this
theorem bytes_enc : ∀ xs : List Int, Bytes (encA xs)
  | [] => fun n hn => by simp [encA] at hn
  | x :: xs => fun n hn => by
    rw [encA] at hn
    rcases List.mem_append.1 hn with h | h
    · exact encR_bytes x n h
    · exact bytes_enc xs n h
theorem bytes_text (X : List (List Int × Int)) : Bytes (textC X) := by rw [textC_flat]; exact bytes_enc _
theorem baL_text (X : List (List Int × Int)) : baL (toBA (textC X)) = textC X := baL_toBA (bytes_text X)
theorem snap_goods {X Y : List (List Int × Int)} (hx : ∀ c ∈ X, GoodC c) (hy : ∀ c ∈ Y, GoodC c) (hn : (flat X).length + (flat Y).length ≤ 300) : SnapP (baL (toBA (textC X))) (baL (toBA (textC Y))) := by
  rw [baL_text, baL_text]
  exact ⟨(goods_text hx).1, (goods_text hy).1, by rw [(goods_text hx).2, (goods_text hy).2]; exact hn⟩
def OkL (o : LD) : Prop := LineP o.a o.b o.c o.un.length (lnT o.un) (lnH o.un)
theorem ln_mem {un : List (ByteArray × ByteArray)} {j : Nat} (hj : j < un.length) : (lnT un j, lnH un j) ∈ un := by
  have h : un[j]? = some un[j] := List.getElem?_eq_getElem hj
  rw [lnT_at h, lnH_at h]
  exact List.getElem_mem hj
theorem lineP_mk {a b c : ByteArray} {un : List (ByteArray × ByteArray)} (hn : un.length ≤ 50) (h1 : SnapP (baL a) (baL b)) (h2 : TextP (baL c)) (h3 : ∀ s ∈ un, SnapP (baL s.1) (baL s.2)) : LineP a b c un.length (lnT un) (lnH un) :=
  ⟨hn, h1, h2, fun _ hj => h3 _ (ln_mem hj)⟩
theorem lineP_mem {a b c : ByteArray} {un : List (ByteArray × ByteArray)} (h : LineP a b c un.length (lnT un) (lnH un)) : ∀ s ∈ un, SnapP (baL s.1) (baL s.2) := by
  intro s hs
  obtain ⟨j, hj, e⟩ := List.getElem_of_mem hs
  have h9 : un[j]? = some s := by rw [List.getElem?_eq_getElem hj, e]
  have := h.2.2.2 j hj
  rwa [lnT_at h9, lnH_at h9] at this
theorem undoN_mem {un : List (ByteArray × ByteArray)} {s t : ByteArray × ByteArray} (h : t ∈ undoN un s) : t ∈ un ∨ t = s := by
  unfold undoN at h
  split at h
  · have := List.mem_of_mem_drop h
    simpa using this
  · simpa using h
theorem flat_td (X : List (List Int × Int)) (n : Nat) : (flat (X.take n)).length + (flat (X.drop n)).length = (flat X).length := by
  conv => rhs; rw [← List.take_append_drop n X, flat_app, List.length_append]
section
variable {a b c : ByteArray} {un : List (ByteArray × ByteArray)}
theorem okSet (h : LineP a b c un.length (lnT un) (lnH un)) {l r : ByteArray} (hs : SnapP (baL l) (baL r)) : OkL (edSet a b c un l r) := by
  refine lineP_mk (undoN_len un _ h.1) hs h.2.2.1 (fun s hs => ?_)
  rcases undoN_mem hs with h1 | rfl
  · exact lineP_mem h s h1
  · exact h.2.1
theorem snap_nil {L : List Int} (h : settleL L = L) (hn : (cleanL L).length ≤ 300) : SnapP L (baL noT) ∧ SnapP (baL noT) L := by
  have e : baL noT = [] := rfl
  have s0 : settleL ([] : List Int) = [] := rfl
  have c0 : cleanL ([] : List Int) = [] := rfl
  rw [e]
  exact ⟨⟨h, s0, by rw [c0]; simpa using hn⟩, ⟨s0, h, by rw [c0]; simpa using hn⟩⟩
theorem edF_ok (h : LineP a b c un.length (lnT un) (lnH un)) (kd : Int) (rs : List Int) : OkL (edF a b c un kd rs) := by
  obtain ⟨hn, ⟨sa, sb, nab⟩, ⟨sc, nc⟩, hu⟩ := id h
  have same : ∀ d, OkL ⟨a, b, c, un, d⟩ := fun d => h
  have gA := cut_good (baL a)
  have gB := cut_good (baL b)
  have fA := settled_flat sa
  have fB := settled_flat sb
  have gAB : ∀ x ∈ cutC (baL a) ++ cutC (baL b), GoodC x := fun x hx => (List.mem_append.1 hx).elim (gA x) (gB x)
  have tk : ∀ (X : List (List Int × Int)) (n : Nat), (∀ x ∈ X, GoodC x) → ∀ x ∈ X.take n, GoodC x := fun X n hX x hx => hX x (List.mem_of_mem_take hx)
  have dr : ∀ (X : List (List Int × Int)) (n : Nat), (∀ x ∈ X, GoodC x) → ∀ x ∈ X.drop n, GoodC x := fun X n hX x hx => hX x (List.mem_of_mem_drop hx)
  have mv : ∀ n, OkL (edMv a b c un n) := fun n => lineP_mk hn (snap_goods (tk _ n gAB) (dr _ n gAB) (by rw [flat_td, flat_app, List.length_append, fA, fB]; exact nab)) ⟨sc, nc⟩ (lineP_mem h)
  have tB : textC (cutC (baL b)) = baL b := sb
  have tA : textC (cutC (baL a)) = baL a := sa
  have eA : toBA (textC (cutC (baL a))) = a := by rw [tA, toBA_baL]
  have eB : toBA (textC (cutC (baL b))) = b := by rw [tB, toBA_baL]
  have undo : ∀ {l r k : ByteArray} (d : Int), SnapP (baL l) (baL r) → TextP (baL k) → OkL ⟨l, r, k, undoN un (a, b), d⟩ := by
    intro l r k d h1 h2
    refine lineP_mk (undoN_len un _ hn) h1 h2 (fun s hs => ?_)
    rcases undoN_mem hs with h3 | rfl
    · exact lineP_mem h s h3
    · exact h.2.1
  have pick : ∀ (p : Prop) [Decidable p] (x y : LD), (p → OkL x) → (¬ p → OkL y) → OkL (if p then x else y) := by
    intro p _ x y hx hy
    by_cases hp : p
    · rw [if_pos hp]; exact hx hp
    · rw [if_neg hp]; exact hy hp
  unfold edF
  refine pick _ _ _ (fun _ => ?_) (fun _ => pick _ _ _ (fun _ => ?_) (fun _ => pick _ _ _ (fun _ => ?_) (fun _ => pick _ _ _ (fun _ => ?_) (fun _ => pick _ _ _ (fun _ => ?_) (fun _ => pick _ _ _ (fun _ => ?_) (fun _ => pick _ _ _ (fun _ => ?_) (fun _ => pick _ _ _ (fun _ => ?_) (fun _ => pick _ _ _ (fun _ => ?_) (fun _ => pick _ _ _ (fun _ => ?_) (fun _ => pick _ _ _ (fun _ => ?_) (fun _ => pick _ _ _ (fun _ => ?_) (fun _ => pick _ _ _ (fun _ => ?_) (fun _ => pick _ _ _ (fun _ => ?_) (fun _ => pick _ _ _ (fun _ => ?_) (fun _ => same _)))))))))))))))
  · -- put
    unfold edPut
    refine pick _ _ _ (fun _ => same _) (fun _ => pick _ _ _ (fun _ => same _) (fun h3 => okSet h ?_))
    have := snap_goods (clus_good (cleanL (baL a) ++ rs)) gB (by rw [fB]; omega)
    rwa [eB] at this
  · unfold edBack
    refine pick _ _ _ (fun _ => same _) (fun _ => okSet h ?_)
    have := snap_goods (tk _ ((cutC (baL a)).length - 1) gA) gB (by have := flat_td (cutC (baL a)) ((cutC (baL a)).length - 1); rw [fA] at this; rw [fB]; omega)
    rwa [eB] at this
  · unfold edDel
    refine pick _ _ _ (fun _ => pick _ _ _ (fun _ => same _) (fun _ => same _)) (fun _ => okSet h ?_)
    have := snap_goods gA (dr _ 1 gB) (by have := flat_td (cutC (baL b)) 1; rw [fB] at this; rw [fA]; omega)
    rwa [eA] at this
  · unfold edLeft; exact pick _ _ _ (fun _ => same _) (fun _ => mv _)
  · unfold edRight; exact pick _ _ _ (fun _ => same _) (fun _ => mv _)
  · unfold edHome; exact pick _ _ _ (fun _ => same _) (fun _ => mv _)
  · unfold edEnd; exact pick _ _ _ (fun _ => same _) (fun _ => mv _)
  · unfold edWl; exact pick _ _ _ (fun _ => same _) (fun _ => mv _)
  · unfold edWr; exact pick _ _ _ (fun _ => same _) (fun _ => mv _)
  · unfold edKe
    exact pick _ _ _ (fun _ => same _) (fun _ => undo 1 (snap_nil sa (by omega)).1 ⟨sb, by omega⟩)
  · unfold edKs
    exact pick _ _ _ (fun _ => same _) (fun _ => undo 1 (snap_nil sb (by omega)).2 ⟨sa, by omega⟩)
  · unfold edKw
    refine pick _ _ _ (fun _ => same _) (fun _ => ?_)
    have ht := flat_td (cutC (baL a)) ((cutC (baL a)).length - wdL (cutC (baL a)))
    rw [fA] at ht
    have h1 := snap_goods (tk _ ((cutC (baL a)).length - wdL (cutC (baL a))) gA) gB (by rw [fB]; omega)
    rw [eB] at h1
    refine undo 1 h1 ?_
    have h2 := goods_text (dr _ ((cutC (baL a)).length - wdL (cutC (baL a))) gA)
    rw [baL_text]
    exact ⟨h2.1, by rw [h2.2]; omega⟩
  · unfold edYank
    refine pick _ _ _ (fun _ => same _) (fun _ => pick _ _ _ (fun _ => same _) (fun h3 => okSet h ?_))
    obtain ⟨y1, y2⟩ := yank_text sa sc
    have g := clus_good (cleanL (baL a) ++ cleanL (baL c))
    have := snap_goods g gB (by rw [fB, y2, List.length_append]; omega)
    rwa [eB, y1] at this
  · unfold edSwap
    have f3 : ∀ (X Y Z : List (List Int × Int)), textC X ++ textC Y ++ textC Z = textC (X ++ Y ++ Z) := fun X Y Z => by rw [textC_flat, textC_flat, textC_flat, textC_flat, flat_app, flat_app, encA_app, encA_app]
    refine pick _ _ _ (fun h1 => okSet h ?_) (fun _ => pick _ _ _ (fun h2 => okSet h ?_) (fun _ => same _))
    · rw [f3]
      have ht := flat_td (cutC (baL a)) ((cutC (baL a)).length - 1)
      have hu := flat_td (cutC (baL b)) 1
      rw [fA] at ht
      rw [fB] at hu
      refine snap_goods (fun x hx => ?_) (dr _ 1 gB) (by rw [flat_app, flat_app, List.length_append, List.length_append]; omega)
      rcases List.mem_append.1 hx with hx | hx
      · rcases List.mem_append.1 hx with hx | hx
        · exact tk _ _ gA x hx
        · exact tk _ _ gB x hx
      · exact dr _ _ gA x hx
    · rw [f3]
      have hg : ∀ x ∈ (cutC (baL a)).take ((cutC (baL a)).length - 2) ++ (cutC (baL a)).drop ((cutC (baL a)).length - 1) ++ ((cutC (baL a)).take ((cutC (baL a)).length - 1)).drop ((cutC (baL a)).length - 2), GoodC x := fun x hx => by
        rcases List.mem_append.1 hx with hx | hx
        · rcases List.mem_append.1 hx with hx | hx
          · exact tk _ _ gA x hx
          · exact dr _ _ gA x hx
        · exact dr _ _ (tk _ _ gA) x hx
      have ht := flat_td (cutC (baL a)) ((cutC (baL a)).length - 1)
      have hu := flat_td ((cutC (baL a)).take ((cutC (baL a)).length - 1)) ((cutC (baL a)).length - 2)
      rw [List.take_take, Nat.min_eq_left (by omega)] at hu
      rw [fA] at ht
      have := snap_goods hg (Y := []) (fun x hx => by simp at hx) (by rw [flat_app, flat_app, List.length_append, List.length_append]; simp [flat]; omega)
      exact this
  · unfold edUndo
    refine pick _ _ _ (fun _ => same _) (fun h1 => ?_)
    refine lineP_mk (by rw [List.length_take]; omega) (hu _ (by omega)) ⟨sc, nc⟩ (fun s hs => lineP_mem h s (List.mem_of_mem_take hs))
end
theorem snap_sz {a b : ByteArray} (h : SnapP (baL a) (baL b)) : a.size ≤ 1200 ∧ b.size ≤ 1200 := by
  have h1 := settled_bytes h.1
  have h2 := settled_bytes h.2.1
  rw [baL_len] at h1 h2
  have := h.2.2
  omega
theorem text_sz {a : ByteArray} (h : TextP (baL a)) : a.size ≤ 1200 := by
  have h1 := settled_bytes h.1
  rw [baL_len] at h1
  have := h.2
  omega
end Go.Proofs.YtbieoijeilhadaaDoor
