import Derived.Test.YtbieoijeilhadaaDoorBlocks
import Derived.Test.YtbieoijeilhadaaDoorChecked
import Derived.Test.YtbieoijeilhadaaDoorGap
import Derived.Test.YtbieoijeilhadaaDoorKys
import Derived.Deep.SlicePairs
import Derived.Deep.RegionHeldLaw
namespace Go.Proofs.YtbieoijeilhadaaDoor
open Go.RowKit
def sizeB (c r : Int) : Bool := decide (2 ≤ c) && decide (c ≤ 200) && decide (1 ≤ r) && decide (r ≤ 100)
theorem sizeB_open {c r : Int} (h : sizeB c r = true) : ∃ cn rn : Nat, c = cn ∧ r = rn ∧ 2 ≤ cn ∧ cn ≤ 200 ∧ 1 ≤ rn ∧ rn ≤ 100 := by
  simp [sizeB] at h
  exact ⟨c.toNat, r.toNat, by omega, by omega, by omega, by omega, by omega, by omega⟩
theorem sizeOk_any (c r : Int) (w : World) : Calls Tryd.prog 57 #[.int .i64 c, .int .i64 r] w fun e w' => e = .returned (.bool (sizeB c r)) ∧ w' = w := by
  go_enter Tryd.func57, Tryd.ntmps57
  go_wp2
  all_goals
    go_ret
    refine ⟨ret_bool ?_, rfl⟩
    unfold sizeB
    rw [Bool.eq_iff_iff]
    simp
    omega
theorem l2SizeOk_any (c r : Int) (w : World) : Calls Tryd.prog 51 #[.int .i64 c, .int .i64 r] w fun e w' => e = .returned (.bool (sizeB c r)) ∧ w' = w := by
  go_enter Tryd.func51, Tryd.ntmps51
  go_wp2
  all_goals
    go_ret
    refine ⟨ret_bool ?_, rfl⟩
    unfold sizeB
    rw [Bool.eq_iff_iff]
    simp
    omega
end Go.Proofs.YtbieoijeilhadaaDoor

namespace Go.Proofs.YtbieoijeilhadaaDoor
open Go.RowKit
set_option maxRecDepth 10000 in
set_option maxHeartbeats 1000000 in
theorem widthOf_any (v : Value) (cs : List (List Int × Int)) (w : World) (hv : ClsAt w v cs) (hl : cs.length ≤ 16777216) (hW : ∀ j, 0 ≤ cW cs j ∧ cW cs j ≤ 2) :
    Calls Tryd.prog 90 #[v] w fun e w' => e = .returned (.int .i64 (wsum cs)) ∧ Ext w w' := by
  obtain ⟨ra, ao, ca, rfl, hca, hra, hxa⟩ := hv
  have HF : Hid (wsum cs = pw cs cs.length) := rfl
  obtain ⟨n, hn⟩ : ∃ n, n = cs.length := ⟨_, rfl⟩
  rw [← hn] at hca hra hxa hl HF ⊢
  have HX := hide hxa
  have HR := hide hra
  have HB := hide (pw_bd cs hW)
  have HW := hide hW
  clear hn hxa hra hW
  go_enter Tryd.func90, Tryd.ntmps90
  go_wp2
  go_loopw [3, 8] (fun s i wr => ∃ k : Nat, k ≤ n ∧ i = .int .i64 k ∧ s = .int .i64 (pw cs k) ∧ Ext w wr) (fun _ i _ => n - (intOf i).toNat)
  case atStart => exact ⟨0, Nat.zero_le _, rfl, rfl, Ext.refl _⟩
  case round =>
    obtain ⟨k, hk, rfl, rfl, hext⟩ := hrel
    by_cases hlt : k < n
    · obtain ⟨b, off, hao, hc⟩ := (unhide HX) (by omega)
      subst hao
      have g1 := hext.cell (hc k hlt).1
      have g2 := hext.cell (hc k hlt).2
      obtain ⟨a2, c2, hrv, hc2, hrx⟩ := (unhide HR) k hlt
      rw [hrv] at g1
      clear hc hrx hrv hc2
      have bk : (k : Int) < (n : Int) := by omega
      have b1 := (unhide HB) k
      have b2 := (unhide HW) k
      have hst : Hid (pw cs (k + 1) = pw cs k + cW cs k) := rfl
      go_wp2
      go_roundw
      case rel => exact ⟨k + 1, by omega, by go_num, by rw [unhide hst], hext.alloc _⟩
      case measure => simp [intOf]; omega
    · obtain rfl : k = n := by omega
      have hb9 : ¬ (k : Int) < (k : Int) := by omega
      go_wp2
      go_ret
      exact ⟨ret_int (unhide HF).symm, hext⟩
def rowsC (cs : List (List Int × Int)) (S : List Int) (i : Nat) : List (List Int × Int) := (cs.take (at0 S (i + 1)).toNat).drop (at0 S i).toNat
theorem rowsC_len (cs : List (List Int × Int)) (S : List Int) (i : Nat) (h : (at0 S (i + 1)).toNat ≤ cs.length) : (rowsC cs S i).length = (at0 S (i + 1)).toNat - (at0 S i).toNat := by
  unfold rowsC
  rw [List.length_drop, List.length_take]
  omega
theorem ClsAt.take {w : World} {ao : Option Addr} {c n : Nat} {cs : List (List Int × Int)} (h : ClsAt w (.slice ao n c) cs) (x : Nat) (hx : x ≤ cs.length) : ClsAt w (.slice ao x c) (cs.take x) := by
  obtain ⟨rs, ao', cap, e, hc, hr, hcell⟩ := h
  simp only [Value.slice.injEq] at e
  obtain ⟨rfl, rfl, rfl⟩ := e
  have hl : (cs.take x).length = x := by simp; omega
  have hR : ∀ j, j < x → cR (cs.take x) j = cR cs j ∧ cW (cs.take x) j = cW cs j := fun j hj => by
    unfold cR cW
    rw [List.getElem?_take_of_lt hj]
    exact ⟨rfl, rfl⟩
  refine ⟨rs, ao, c, by rw [hl], by omega, fun j hj => ?_, fun hp => ?_⟩
  · rw [(hR j (by omega)).1]
    exact hr j (by omega)
  · obtain ⟨b, off, e2, h2⟩ := hcell (by omega)
    refine ⟨b, off, e2, fun j hj => ?_⟩
    rw [(hR j (by omega)).2]
    exact h2 j (by omega)
theorem wsum_row (cs : List (List Int × Int)) (S : List Int) (i x : Nat) (hx : x ≤ (at0 S (i + 1)).toNat - (at0 S i).toNat) (hle : (at0 S i).toNat ≤ (at0 S (i + 1)).toNat) (hS : (at0 S (i + 1)).toNat ≤ cs.length) : wsum ((rowsC cs S i).take x) = pw cs ((at0 S i).toNat + x) - pw cs (at0 S i).toNat := by
  have e : (rowsC cs S i).take x = (cs.take ((at0 S i).toNat + x)).drop (at0 S i).toNat := by
    unfold rowsC
    rw [List.take_drop, List.take_take]
    congr 2
    omega
  rw [e, wsum_sub cs _ _ (by omega) (by omega)]
def stE (S : List Int) (cs : List (List Int × Int)) : List Int := S ++ [(cs.length : Int)]
set_option maxRecDepth 10000 in
set_option maxHeartbeats 4000000 in
theorem placeOf_any (v : Value) (cs : List (List Int × Int)) (cols p : Nat) (w : World) (hw : Wides cs) (hc : 2 ≤ cols) (hp : p ≤ cs.length) (hl : cs.length ≤ 16777216)
    (hv : CssAt w v (stS cs cols).length (rowsC cs (stS cs cols ++ [(cs.length : Int)]))) :
    Calls Tryd.prog 60 #[.int .i64 p, v] w fun e w' => e = .returned (.tuple #[.int .i64 (layRow0 cs cols p), .int .i64 (layCol0 cs cols p)]) ∧ Ext w w' := by
  have h1 : 1 ≤ (stS cs cols).length := (stF_ok cs cols cs.length).one
  have hlen : (stS cs cols).length ≤ cs.length + 1 := (stF_ok cs cols cs.length).len
  have atT : ∀ i, i < (stS cs cols).length → at0 (stS cs cols ++ [(cs.length : Int)]) i = at0 (stS cs cols) i := fun i hi => by rw [at0_app, if_neg (by omega)]
  have atE : at0 (stS cs cols ++ [(cs.length : Int)]) (stS cs cols).length = (cs.length : Int) := by rw [at0_app, if_pos rfl]
  have hmono : ∀ i, i + 1 < (stS cs cols).length → at0 (stS cs cols) i < at0 (stS cs cols) (i + 1) := fun i hi => ((stS_row hw hc).rows i hi).2.2
  have hnn := fun i hi => stS_nonneg (cs := cs) (cols := cols) (i := i) hi
  have hrow0 : ∀ i, i < (stS cs cols).length → at0 (stS cs cols) i ≤ (p : Int) → (∀ j, i < j → j < (stS cs cols).length → (p : Int) < at0 (stS cs cols) j) → layRow0 cs cols p = i ∧ layCol0 cs cols p = pw cs p - pw cs (at0 (stS cs cols) i).toNat := by
    intro i hi a b
    have e := rwF_only (S := stS cs cols) (p := p) hi a b (by rw [stS_zero]; omega)
    have e2 : layRow0 cs cols p = i := e
    exact ⟨e2, by unfold layCol0; rw [e2]⟩
  have hmono2 : ∀ d i, i + d < (stS cs cols).length → at0 (stS cs cols) i ≤ at0 (stS cs cols) (i + d) := by
    intro d
    induction d with
    | zero => intro i _; exact Int.le_refl _
    | succ d ih => intro i hi; have a := ih i (by omega); have b := hmono (i + d) (by omega); rw [← Nat.add_assoc]; omega
  obtain ⟨rv, ⟨ao, ca, rfl, hca, hxa⟩, hrw⟩ := hv
  obtain ⟨b, off, rfl, hcell⟩ := hxa (by omega)
  have HC := hide hcell
  have hS0 : at0 (stS cs cols) 0 = 0 := stS_zero
  clear hcell hxa
  generalize hS : stS cs cols = S at h1 hlen atT atE hmono hnn hrow0 hmono2 hca hrw HC hS0 ⊢
  obtain ⟨m, hm⟩ : ∃ m, S.length = m + 1 := ⟨S.length - 1, by omega⟩
  have hshape : ∀ i, i < m + 1 → ∃ ra rc, rv i = .slice ra ((at0 (S ++ [(cs.length : Int)]) (i + 1)).toNat - (at0 S i).toNat) rc ∧ ((at0 (S ++ [(cs.length : Int)]) (i + 1)).toNat - (at0 S i).toNat ≤ rc) ∧ ClsAt w (rv i) (rowsC cs (S ++ [(cs.length : Int)]) i) := by
    intro i hi
    have h := hrw i (by omega)
    obtain ⟨_, ra, rc, e, hc, _⟩ := id h
    have hle : (at0 (S ++ [(cs.length : Int)]) (i + 1)).toNat ≤ cs.length := by
      by_cases e2 : i + 1 < S.length
      · rw [atT _ e2]; have := hnn _ e2; omega
      · rw [show i + 1 = S.length by omega, atE]; simp
    rw [rowsC_len cs _ i hle, atT i (by omega)] at e hc
    exact ⟨ra, rc, e, hc, h⟩
  have hT1 : ∀ i, i < m → at0 (S ++ [(cs.length : Int)]) (i + 1) = at0 S (i + 1) := fun i hi => atT _ (by omega)
  have hwide : ∀ i x j, 0 ≤ cW ((rowsC cs (S ++ [(cs.length : Int)]) i).take x) j ∧ cW ((rowsC cs (S ++ [(cs.length : Int)]) i).take x) j ≤ 2 := by
    intro i x j
    unfold rowsC
    have : ∀ (l : List (List Int × Int)), (∀ u ∈ l, u ∈ cs) → 0 ≤ cW l j ∧ cW l j ≤ 2 := by
      intro l hl
      unfold cW
      cases hj : l[j]? with
      | none => simp
      | some u =>
        obtain ⟨q, hq⟩ := List.mem_iff_getElem?.1 (hl u (List.mem_of_getElem? hj))
        have := hw.all q
        unfold cW at this
        rw [hq] at this
        exact this
    exact this _ (fun u hu => List.mem_of_mem_take (List.mem_of_mem_drop (List.mem_of_mem_take hu)))
  have HSH := hide hshape
  have HWD := hide hwide
  have HMO := hide hmono
  have HM2 := hide hmono2
  have HNN := hide hnn
  have HT1 := hide hT1
  have HR0 := hide hrow0
  have HTE := hide atE
  rw [hm] at hca hlen ⊢
  clear hshape hwide hmono hmono2 hnn hT1 hrow0 atT atE hrw hS
  have hwm : IntKind.i64.wrap (((m + 1 : Nat) : Int) - 1) = (m : Int) := by rw [IntKind.wrap_i64]; omega
  go_enter Tryd.func60, Tryd.ntmps60
  go_wp2
  go_loopw [0, 16] (fun x i wr => ∃ k y : Nat, k ≤ m ∧ i = .int .i64 k ∧ x = .int .i64 y ∧ Hid ((p : Int) = at0 S k + (y : Int)) ∧ wr = w) (fun _ i _ => m - (intOf i).toNat)
  case atStart => exact ⟨0, p, Nat.zero_le _, rfl, rfl, hide (by rw [hS0]; simp), rfl⟩
  case round =>
    obtain ⟨k, y, hk, rfl, rfl, HP, rfl⟩ := hrel
    have h0 := (unhide HNN) k (by omega)
    obtain ⟨ra, rc, he, hrc, hcl⟩ := (unhide HSH) k (by omega)
    have g1 := (unhide HC) k (by omega)
    obtain ⟨s0, hs0⟩ : ∃ s0 : Nat, at0 S k = (s0 : Int) := ⟨(at0 S k).toNat, by omega⟩
    obtain ⟨s1, hs1⟩ : ∃ s1 : Nat, at0 (stE S cs) (k + 1) = (s1 : Int) := by
      by_cases e : k < m
      · have := (unhide HNN) (k + 1) (by omega)
        exact ⟨(at0 S (k + 1)).toNat, by show at0 (S ++ [(cs.length : Int)]) (k + 1) = _; rw [(unhide HT1) k e]; omega⟩
      · have e2 : k + 1 = S.length := by omega
        exact ⟨cs.length, by show at0 (S ++ [(cs.length : Int)]) (k + 1) = _; rw [e2, unhide HTE]⟩
    have hs01 : s0 ≤ s1 ∧ s1 ≤ cs.length := by
      have hq := hs1
      unfold stE at hq
      by_cases e : k < m
      · have a := (unhide HNN) (k + 1) (by omega)
        have b := (unhide HMO) k (by omega)
        rw [(unhide HT1) k e] at hq
        omega
      · rw [show k + 1 = S.length by omega, unhide HTE] at hq
        omega
    obtain ⟨L, hL⟩ : ∃ L, s1 = s0 + L := ⟨s1 - s0, by omega⟩
    have hLe : (at0 (S ++ [(cs.length : Int)]) (k + 1)).toNat - (at0 S k).toNat = L := by
      have hq := hs1
      unfold stE at hq
      rw [hq, hs0]
      omega
    rw [hLe] at he hrc
    rw [he] at g1 hcl
    have hpy : p = s0 + y := by have := unhide HP; omega
    have HCL := hide hcl
    have hrl : (rowsC cs (S ++ [(cs.length : Int)]) k).length = L := by
      have hq := hs1
      unfold stE at hq
      have e1 : at0 (S ++ [(cs.length : Int)]) k = (s0 : Int) := by rw [at0_app, if_neg (by omega), hs0]
      rw [rowsC_len _ _ _ (by rw [hq]; simp; omega), hq, e1]
      simp
      omega
    have hcolv : y ≤ L → wsum ((rowsC cs (S ++ [(cs.length : Int)]) k).take y) = pw cs p - pw cs (at0 S k).toNat := by
      intro hy
      have hq := hs1
      unfold stE at hq
      have e1 : at0 (S ++ [(cs.length : Int)]) k = (s0 : Int) := by rw [at0_app, if_neg (by omega), hs0]
      rw [wsum_row cs _ k y (by rw [hq, e1]; omega) (by rw [hq, e1]; omega) (by rw [hq]; omega), e1, hs0, hpy]
      rfl
    have HCV := hide hcolv
    have HRL := hide hrl
    have HS0 := hide hs0
    have HS1 := hide hs1
    clear hcl he hcolv hrl hLe hs1 hs0 h0
    by_cases hlt : k < m
    · have bk : (k : Int) < (m : Int) := by omega
      by_cases hin : y < L
      · have hfin : Hid (layRow0 cs cols p = k ∧ layCol0 cs cols p = pw cs p - pw cs (at0 S k).toNat) := by
          refine hide ((unhide HR0) k (by omega) (by rw [unhide HS0]; omega) (fun j hj hj2 => ?_))
          have a := (unhide HM2) (j - (k + 1)) (k + 1) (by omega)
          have hq := unhide HS1
          unfold stE at hq
          rw [show k + 1 + (j - (k + 1)) = j by omega, ← (unhide HT1) k hlt, hq] at a
          omega
        have hyL : (y : Int) < (L : Int) := by omega
        have hyc : (y : Int) ≤ (rc : Int) := by omega
        have hcon := hide (widthOf_any (.slice ra y rc) _ wr ((unhide HCL).take y (by rw [unhide HRL]; omega)) (by rw [List.length_take, unhide HRL]; omega) ((unhide HWD) k y))
        obtain ⟨b2, o2, rfl⟩ : ∃ b2 o2, ra = some ⟨b2, o2, none⟩ := by
          obtain ⟨_, ao', _, e, _, _, hx⟩ := unhide HCL
          obtain ⟨b2, o2, e2, _⟩ := hx (by rw [unhide HRL]; omega)
          simp only [Value.slice.injEq] at e
          exact ⟨b2, o2, by rw [e.1, e2]⟩
        go_wp2_with fail
        refine (unhide hcon).mono ?_
        rintro e w2 ⟨rfl, F2⟩
        go_wp2
        go_ret2
        refine ⟨?_, F2⟩
        rw [(unhide HCV) (by omega), (unhide hfin).1, (unhide hfin).2]
        rfl
      · have hyL : ¬ (y : Int) < (L : Int) := by omega
        have hwL : IntKind.i64.wrap ((y : Int) - (L : Int)) = ((y - L : Nat) : Int) := by rw [IntKind.wrap_i64]; omega
        have HP2 : Hid ((p : Int) = at0 S (k + 1) + ((y - L : Nat) : Int)) := by
          have hq := unhide HS1
          unfold stE at hq
          rw [(unhide HT1) k hlt] at hq
          refine hide ?_
          rw [hq]
          omega
        go_wp2
        go_roundw
        case rel => exact ⟨k + 1, y - L, by omega, by go_num, rfl, HP2, trivial⟩
        case measure => simp [intOf]; omega
    · obtain rfl : k = m := by omega
      have hb9 : ¬ (k : Int) < (k : Int) := by omega
      have hs1e : s1 = cs.length := by
        have hq := unhide HS1
        unfold stE at hq
        rw [show k + 1 = S.length by omega, unhide HTE] at hq
        omega
      have hyL : y ≤ L := by omega
      have hfin : Hid (layRow0 cs cols p = k ∧ layCol0 cs cols p = pw cs p - pw cs (at0 S k).toNat) := hide ((unhide HR0) k (by omega) (by rw [unhide HS0]; omega) (fun j hj hj2 => by omega))
      have hyc : (y : Int) ≤ (rc : Int) := by omega
      have hcon := hide (widthOf_any (.slice ra y rc) _ wr ((unhide HCL).take y (by rw [unhide HRL]; omega)) (by rw [List.length_take, unhide HRL]; omega) ((unhide HWD) k y))
      rcases Nat.eq_zero_or_pos L with hL0 | hL0
      · have hy0 : y = 0 := by omega
        subst hy0
        subst hL0
        cases ra
        all_goals
          go_wp2_with fail
          refine (unhide hcon).mono ?_
          rintro e w2 ⟨rfl, F2⟩
          go_wp2
          go_ret2
          refine ⟨?_, F2⟩
          have e9 := (unhide HCV) (by omega)
          rw [List.take_zero] at e9
          rw [e9, (unhide hfin).1, (unhide hfin).2]
          rfl
      · obtain ⟨b2, o2, rfl⟩ : ∃ b2 o2, ra = some ⟨b2, o2, none⟩ := by
          obtain ⟨_, ao', _, e, _, _, hx⟩ := unhide HCL
          obtain ⟨b2, o2, e2, _⟩ := hx (by rw [unhide HRL]; omega)
          simp only [Value.slice.injEq] at e
          exact ⟨b2, o2, by rw [e.1, e2]⟩
        go_wp2_with fail
        refine (unhide hcon).mono ?_
        rintro e w2 ⟨rfl, F2⟩
        go_wp2
        go_ret2
        refine ⟨?_, F2⟩
        rw [(unhide HCV) (by omega), (unhide hfin).1, (unhide hfin).2]
        rfl
set_option maxRecDepth 10000 in
set_option maxHeartbeats 2000000 in
theorem textsOf_any (v : Value) (R : Nat) (C : Nat → List (List Int × Int)) (w : World) (hv : CssAt w v R C) (hR : R ≤ 16777216) (hl : ∀ i, i < R → (C i).length + sumR (C i) (C i).length ≤ 16777216) (hI : ∀ i, i < R → ∀ j, j < (C i).length → I32s (cR (C i) j)) :
    Calls Tryd.prog 61 #[v] w fun e w' => ∃ v', e = .returned v' ∧ Own1 w' w.heap.size 9 v' R (fun i => .string (toBA (textC (C i)))) ∧ Ext w w' := by
  obtain ⟨ic, hic, hc0, hc1, hc2⟩ := info_parts infoStrs
  obtain ⟨rv, ⟨ao, ca, rfl, hca, hxa⟩, hrw⟩ := hv
  have HX := hide hxa
  have HRW := hide hrw
  have HL := hide hl
  have HI := hide hI
  clear hxa hrw hl hI
  go_enter Tryd.func61, Tryd.ntmps61
  go_wp2
  go_loopw [3, 8] (fun o i wr => ∃ k : Nat, k ≤ R ∧ i = .int .i64 k ∧ Hid (wr.ownsRow w.heap.size 9 1 o k (strL (fun i => toBA (textC (C i))) k)) ∧ Ext w wr) (fun _ i _ => R - (intOf i).toNat)
  case atStart => exact ⟨0, Nat.zero_le _, rfl, hide (owns_nil _ _ _ _), Ext.refl _⟩
  case round =>
    obtain ⟨k, hk, rfl, HO, hext⟩ := hrel
    have hsz := hext.size
    by_cases hlt : k < R
    · obtain ⟨b, off, hao, hc⟩ := (unhide HX) (by omega)
      subst hao
      have g1 := hext.cell (hc k hlt)
      clear hc
      have bk : (k : Int) < (R : Int) := by omega
      have hcon := hide (implTextOf_any (rv k) (C k) wr (((unhide HRW) k hlt).ext hext) ((unhide HL) k hlt) ((unhide HI) k hlt))
      have hst : Hid (strL (fun i => toBA (textC (C i))) (k + 1) = strL (fun i => toBA (textC (C i))) k ++ [.string (toBA (textC (C k)))]) := hide (strL_succ _ _)
      go_wp2_with (first
        | (go_at_call 91; refine (unhide hcon).mono ?_; rintro e w4 ⟨rfl, F4⟩; have HO4 := hide (F4.owns (unhide HO)); have E4 := hext.trans F4; have hs4 := E4.size; clear F4)
        | (at_builtin; go_must (refine wpList_app rfl _ _ 49 rfl w.heap.size 9 ic (.string { data := #[] }) 1 16 Tryd.underlying49 hic hc0 hc1 hc2 rfl (by decide) _ _ _ rfl ((unhide HO4).alloc _) _ 1 [.string (toBA (textC (C k)))] rfl (Src.made _ _ _ rfl (by simp [Value.oneCell'])) (by unfold maxLen; omega) (by omega) (by simp; omega) ?_); intro v5 w5 o5 G5 _; rw [← unhide hst] at o5; have HO5 := hide o5; have E5 := hide ((E4.alloc _).grown G5 (fun q hq => ((unhide HO4).lt q hq).1)); clear o5 G5))
      go_roundw
      case rel => exact ⟨k + 1, by omega, by go_num, HO5, unhide E5⟩
      case measure => simp [intOf]; omega
    · obtain rfl : k = R := by omega
      have hb9 : ¬ (k : Int) < (k : Int) := by omega
      go_wp2
      go_ret
      exact ⟨_, rfl, own_strL (unhide HO), hext⟩
end Go.Proofs.YtbieoijeilhadaaDoor
