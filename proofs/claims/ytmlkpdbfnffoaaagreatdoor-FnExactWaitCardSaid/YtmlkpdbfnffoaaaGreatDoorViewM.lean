import Derived.Test.YtmlkpdbfnffoaaaGreatDoorSesMark
set_option maxHeartbeats 4000000
set_option maxRecDepth 10000
namespace Go.Proofs.YtmlkpdbfnffoaaaGreatDoor
open Go.RowKit
theorem zfV (v : Value) (cs : List (List Int × Int)) (w : World) (hv : zaI w v cs) (hl : cs.length ≤ 16777216) (hW : ∀ j, 0 ≤ cW cs j ∧ cW cs j ≤ 2) :
  Calls Tryz.prog 254 #[v] w fun e w' => e = .returned (.int .i64 (zjC cs)) ∧ Ext w w' := by
 obtain ⟨ra, ao, ca, rfl, hca, hra, hxa⟩ := hv
 have HF : Hid (zjC cs = pw cs cs.length) := rfl
 obtain ⟨n, hn⟩ : ∃ n, n = cs.length := ⟨_, rfl⟩
 rw [← hn] at hca hra hxa hl HF ⊢
 have HX := zi hxa
 have HR := zi hra
 have HB := zi (pw_bd cs hW)
 have HW := zi hW
 clear hn hxa hra hW
 go_enter Tryz.func254, Tryz.ntmps254
 go_wp2
 go_loopw [3, 8] (fun s i wr => ∃ k : Nat, k ≤ n ∧ i = .int .i64 k ∧ s = .int .i64 (pw cs k) ∧ Ext w wr) (fun _ i _ => n - (intOf i).toNat)
 case atStart => exact ⟨0, Nat.zero_le _, rfl, rfl, Ext.refl _⟩
 case round =>
  obtain ⟨k, hk, rfl, rfl, hext⟩ := hrel
  by_cases hlt : k < n
  ·obtain ⟨b, off, hao, hc⟩ := (zg HX) (by omega)
   subst hao
   have g1 := hext.cell (hc k hlt).1
   have g2 := hext.cell (hc k hlt).2
   obtain ⟨a2, c2, hrv, hc2, hrx⟩ := (zg HR) k hlt
   rw [hrv] at g1
   clear hc hrx hrv hc2
   have bk : (k : Int) < (n : Int) := by omega
   have b1 := (zg HB) k
   have b2 := (zg HW) k
   have hst : Hid (pw cs (k + 1) = pw cs k + cW cs k) := rfl
   go_wp2
   go_roundw
   case rel => exact ⟨k + 1, by omega, by go_num, by rw [zg hst], hext.alloc _⟩
   case measure => simp [intOf]; omega
  ·obtain rfl : k = n := by omega
   have hb9 : ¬ (k : Int) < (k : Int) := by omega
   go_wp2
   go_ret
   exact ⟨za6 (zg HF).symm, hext⟩
def zck (cs : List (List Int × Int)) (S : List Int) (i : Nat) : List (List Int × Int) := (cs.take (at0 S (i + 1)).toNat).drop (at0 S i).toNat
theorem zhW (cs : List (List Int × Int)) (S : List Int) (i : Nat) (h : (at0 S (i + 1)).toNat ≤ cs.length) : (zck cs S i).length = (at0 S (i + 1)).toNat - (at0 S i).toNat := by
 unfold zck
 rw [List.length_drop, List.length_take]
 omega
theorem zaI.take {w : World} {ao : Option Addr} {c n : Nat} {cs : List (List Int × Int)} (h : zaI w (.slice ao n c) cs) (x : Nat) (hx : x ≤ cs.length) : zaI w (.slice ao x c) (cs.take x) := by
 obtain ⟨rs, ao', cap, e, hc, hr, hcell⟩ := h
 simp only [Value.slice.injEq] at e
 obtain ⟨rfl, rfl, rfl⟩ := e
 have hl : (cs.take x).length = x := by simp; omega
 have hR : ∀ j, j < x → cR (cs.take x) j = cR cs j ∧ cW (cs.take x) j = cW cs j := fun j hj => by
  unfold cR cW
  rw [List.getElem?_take_of_lt hj]
  exact ⟨rfl, rfl⟩
 refine ⟨rs, ao, c, by rw [hl], by omega, fun j hj => ?_, fun hp => ?_⟩
 ·rw [(hR j (by omega)).1]
  exact hr j (by omega)
 ·obtain ⟨b, off, e2, h2⟩ := hcell (by omega)
  refine ⟨b, off, e2, fun j hj => ?_⟩
  rw [(hR j (by omega)).2]
  exact h2 j (by omega)
theorem zmX (cs : List (List Int × Int)) (S : List Int) (i x : Nat) (hx : x ≤ (at0 S (i + 1)).toNat - (at0 S i).toNat) (hle : (at0 S i).toNat ≤ (at0 S (i + 1)).toNat) (hS : (at0 S (i + 1)).toNat ≤ cs.length) : zjC ((zck cs S i).take x) = pw cs ((at0 S i).toNat + x) - pw cs (at0 S i).toNat := by
 have e : (zck cs S i).take x = (cs.take ((at0 S i).toNat + x)).drop (at0 S i).toNat := by
  unfold zck
  rw [List.take_drop, List.take_take]
  congr 2
  omega
 rw [e, zjX cs _ _ (by omega) (by omega)]
def stE (S : List Int) (cs : List (List Int × Int)) : List Int := S ++ [(cs.length : Int)]
theorem zjx (v : Value) (cs : List (List Int × Int)) (cols p : Nat) (w : World) (hw : zcO cs) (hc : 2 ≤ cols) (hp : p ≤ cs.length) (hl : cs.length ≤ 16777216)
  (hv : zdk w v (stS cs cols).length (zck cs (stS cs cols ++ [(cs.length : Int)]))) :
  Calls Tryz.prog 206 #[.int .i64 p, v] w fun e w' => e = .returned (.tuple #[.int .i64 (zaG cs cols p), .int .i64 (za5 cs cols p)]) ∧ Ext w w' := by
 have h1 : 1 ≤ (stS cs cols).length := (zbS cs cols cs.length).one
 have hlen : (stS cs cols).length ≤ cs.length + 1 := (zbS cs cols cs.length).len
 have atT : ∀ i, i < (stS cs cols).length → at0 (stS cs cols ++ [(cs.length : Int)]) i = at0 (stS cs cols) i := fun i hi => by rw [zaw, if_neg (by omega)]
 have atE : at0 (stS cs cols ++ [(cs.length : Int)]) (stS cs cols).length = (cs.length : Int) := by rw [zaw, if_pos rfl]
 have hmono : ∀ i, i + 1 < (stS cs cols).length → at0 (stS cs cols) i < at0 (stS cs cols) (i + 1) := fun i hi => ((ziC hw hc).rows i hi).2.2
 have hnn := fun i hi => zcq (cs := cs) (cols := cols) (i := i) hi
 have hrow0 : ∀ i, i < (stS cs cols).length → at0 (stS cs cols) i ≤ (p : Int) → (∀ j, i < j → j < (stS cs cols).length → (p : Int) < at0 (stS cs cols) j) → zaG cs cols p = i ∧ za5 cs cols p = pw cs p - pw cs (at0 (stS cs cols) i).toNat := by
  intro i hi a b
  have e := zmL (S := stS cs cols) (p := p) hi a b (by rw [zg6]; omega)
  have e2 : zaG cs cols p = i := e
  exact ⟨e2, by unfold za5; rw [e2]⟩
 have hmono2 : ∀ d i, i + d < (stS cs cols).length → at0 (stS cs cols) i ≤ at0 (stS cs cols) (i + d) := by
  intro d
  induction d with
  | zero => intro i _; exact Int.le_refl _
  | succ d ih => intro i hi; have a := ih i (by omega); have b := hmono (i + d) (by omega); rw [← Nat.add_assoc]; omega
 obtain ⟨rv, ⟨ao, ca, rfl, hca, hxa⟩, hrw⟩ := hv
 obtain ⟨b, off, rfl, hcell⟩ := hxa (by omega)
 have HC := zi hcell
 have hS0 : at0 (stS cs cols) 0 = 0 := zg6
 clear hcell hxa
 generalize hS : stS cs cols = S at h1 hlen atT atE hmono hnn hrow0 hmono2 hca hrw HC hS0 ⊢
 obtain ⟨m, hm⟩ : ∃ m, S.length = m + 1 := ⟨S.length - 1, by omega⟩
 have hshape : ∀ i, i < m + 1 → ∃ ra rc, rv i = .slice ra ((at0 (S ++ [(cs.length : Int)]) (i + 1)).toNat - (at0 S i).toNat) rc ∧ ((at0 (S ++ [(cs.length : Int)]) (i + 1)).toNat - (at0 S i).toNat ≤ rc) ∧ zaI w (rv i) (zck cs (S ++ [(cs.length : Int)]) i) := by
  intro i hi
  have h := hrw i (by omega)
  obtain ⟨_, ra, rc, e, hc, _⟩ := id h
  have hle : (at0 (S ++ [(cs.length : Int)]) (i + 1)).toNat ≤ cs.length := by
   by_cases e2 : i + 1 < S.length
   ·rw [atT _ e2]; have := hnn _ e2; omega
   ·rw [show i + 1 = S.length by omega, atE]; simp
  rw [zhW cs _ i hle, atT i (by omega)] at e hc
  exact ⟨ra, rc, e, hc, h⟩
 have hT1 : ∀ i, i < m → at0 (S ++ [(cs.length : Int)]) (i + 1) = at0 S (i + 1) := fun i hi => atT _ (by omega)
 have hwide : ∀ i x j, 0 ≤ cW ((zck cs (S ++ [(cs.length : Int)]) i).take x) j ∧ cW ((zck cs (S ++ [(cs.length : Int)]) i).take x) j ≤ 2 := by
  intro i x j
  unfold zck
  have : ∀ (l : List (List Int × Int)), (∀ u ∈ l, u ∈ cs) → 0 ≤ cW l j ∧ cW l j ≤ 2 := by
   intro l hl
   unfold cW
   cases hj : l[j]? with
   | none => simp
   | some u =>
    obtain ⟨q, hq⟩ := List.mem_iff_getElem?.1 (hl u (List.mem_of_getElem? hj))
    have := hw.all q
    unfold cW at this
    rw [hq] at this
    exact this
  exact this _ (fun u hu => List.mem_of_mem_take (List.mem_of_mem_drop (List.mem_of_mem_take hu)))
 have HSH := zi hshape
 have HWD := zi hwide
 have HMO := zi hmono
 have HM2 := zi hmono2
 have HNN := zi hnn
 have HT1 := zi hT1
 have HR0 := zi hrow0
 have HTE := zi atE
 rw [hm] at hca hlen ⊢
 clear hshape hwide hmono hmono2 hnn hT1 hrow0 atT atE hrw hS
 have hwm : IntKind.i64.wrap (((m + 1 : Nat) : Int) - 1) = (m : Int) := by rw [IntKind.wrap_i64]; omega
 go_enter Tryz.func206, Tryz.ntmps206
 go_wp2
 go_loopw [0, 16] (fun x i wr => ∃ k y : Nat, k ≤ m ∧ i = .int .i64 k ∧ x = .int .i64 y ∧ Hid ((p : Int) = at0 S k + (y : Int)) ∧ wr = w) (fun _ i _ => m - (intOf i).toNat)
 case atStart => exact ⟨0, p, Nat.zero_le _, rfl, rfl, zi (by rw [hS0]; simp), rfl⟩
 case round =>
  obtain ⟨k, y, hk, rfl, rfl, HP, rfl⟩ := hrel
  have h0 := (zg HNN) k (by omega)
  obtain ⟨ra, rc, he, hrc, hcl⟩ := (zg HSH) k (by omega)
  have g1 := (zg HC) k (by omega)
  obtain ⟨s0, hs0⟩ : ∃ s0 : Nat, at0 S k = (s0 : Int) := ⟨(at0 S k).toNat, by omega⟩
  obtain ⟨s1, hs1⟩ : ∃ s1 : Nat, at0 (stE S cs) (k + 1) = (s1 : Int) := by
   by_cases e : k < m
   ·have := (zg HNN) (k + 1) (by omega)
    exact ⟨(at0 S (k + 1)).toNat, by show at0 (S ++ [(cs.length : Int)]) (k + 1) = _; rw [(zg HT1) k e]; omega⟩
   ·have e2 : k + 1 = S.length := by omega
    exact ⟨cs.length, by show at0 (S ++ [(cs.length : Int)]) (k + 1) = _; rw [e2, zg HTE]⟩
  have hs01 : s0 ≤ s1 ∧ s1 ≤ cs.length := by
   have hq := hs1
   unfold stE at hq
   by_cases e : k < m
   ·have a := (zg HNN) (k + 1) (by omega)
    have b := (zg HMO) k (by omega)
    rw [(zg HT1) k e] at hq
    omega
   ·rw [show k + 1 = S.length by omega, zg HTE] at hq
    omega
  obtain ⟨L, hL⟩ : ∃ L, s1 = s0 + L := ⟨s1 - s0, by omega⟩
  have hLe : (at0 (S ++ [(cs.length : Int)]) (k + 1)).toNat - (at0 S k).toNat = L := by
   have hq := hs1
   unfold stE at hq
   rw [hq, hs0]
   omega
  rw [hLe] at he hrc
  rw [he] at g1 hcl
  have hpy : p = s0 + y := by have := zg HP; omega
  have HCL := zi hcl
  have hrl : (zck cs (S ++ [(cs.length : Int)]) k).length = L := by
   have hq := hs1
   unfold stE at hq
   have e1 : at0 (S ++ [(cs.length : Int)]) k = (s0 : Int) := by rw [zaw, if_neg (by omega), hs0]
   rw [zhW _ _ _ (by rw [hq]; simp; omega), hq, e1]
   simp
   omega
  have hcolv : y ≤ L → zjC ((zck cs (S ++ [(cs.length : Int)]) k).take y) = pw cs p - pw cs (at0 S k).toNat := by
   intro hy
   have hq := hs1
   unfold stE at hq
   have e1 : at0 (S ++ [(cs.length : Int)]) k = (s0 : Int) := by rw [zaw, if_neg (by omega), hs0]
   rw [zmX cs _ k y (by rw [hq, e1]; omega) (by rw [hq, e1]; omega) (by rw [hq]; omega), e1, hs0, hpy]
   rfl
  have HCV := zi hcolv
  have HRL := zi hrl
  have HS0 := zi hs0
  have HS1 := zi hs1
  clear hcl he hcolv hrl hLe hs1 hs0 h0
  by_cases hlt : k < m
  ·have bk : (k : Int) < (m : Int) := by omega
   by_cases hin : y < L
   ·have hfin : Hid (zaG cs cols p = k ∧ za5 cs cols p = pw cs p - pw cs (at0 S k).toNat) := by
     refine zi ((zg HR0) k (by omega) (by rw [zg HS0]; omega) (fun j hj hj2 => ?_))
     have a := (zg HM2) (j - (k + 1)) (k + 1) (by omega)
     have hq := zg HS1
     unfold stE at hq
     rw [show k + 1 + (j - (k + 1)) = j by omega, ← (zg HT1) k hlt, hq] at a
     omega
    have hyL : (y : Int) < (L : Int) := by omega
    have hyc : (y : Int) ≤ (rc : Int) := by omega
    have hcon := zi (zfV (.slice ra y rc) _ wr ((zg HCL).take y (by rw [zg HRL]; omega)) (by rw [List.length_take, zg HRL]; omega) ((zg HWD) k y))
    obtain ⟨b2, o2, rfl⟩ : ∃ b2 o2, ra = some ⟨b2, o2, none⟩ := by
     obtain ⟨_, ao', _, e, _, _, hx⟩ := zg HCL
     obtain ⟨b2, o2, e2, _⟩ := hx (by rw [zg HRL]; omega)
     simp only [Value.slice.injEq] at e
     exact ⟨b2, o2, by rw [e.1, e2]⟩
    go_wp2_with fail
    refine (zg hcon).mono ?_
    rintro e w2 ⟨rfl, F2⟩
    go_wp2
    go_ret2
    refine ⟨?_, F2⟩
    rw [(zg HCV) (by omega), (zg hfin).1, (zg hfin).2]
    rfl
   ·have hyL : ¬ (y : Int) < (L : Int) := by omega
    have hwL : IntKind.i64.wrap ((y : Int) - (L : Int)) = ((y - L : Nat) : Int) := by rw [IntKind.wrap_i64]; omega
    have HP2 : Hid ((p : Int) = at0 S (k + 1) + ((y - L : Nat) : Int)) := by
     have hq := zg HS1
     unfold stE at hq
     rw [(zg HT1) k hlt] at hq
     refine zi ?_
     rw [hq]
     omega
    go_wp2
    go_roundw
    case rel => exact ⟨k + 1, y - L, by omega, by go_num, rfl, HP2, trivial⟩
    case measure => simp [intOf]; omega
  ·obtain rfl : k = m := by omega
   have hb9 : ¬ (k : Int) < (k : Int) := by omega
   have hs1e : s1 = cs.length := by
    have hq := zg HS1
    unfold stE at hq
    rw [show k + 1 = S.length by omega, zg HTE] at hq
    omega
   have hyL : y ≤ L := by omega
   have hfin : Hid (zaG cs cols p = k ∧ za5 cs cols p = pw cs p - pw cs (at0 S k).toNat) := zi ((zg HR0) k (by omega) (by rw [zg HS0]; omega) (fun j hj hj2 => by omega))
   have hyc : (y : Int) ≤ (rc : Int) := by omega
   have hcon := zi (zfV (.slice ra y rc) _ wr ((zg HCL).take y (by rw [zg HRL]; omega)) (by rw [List.length_take, zg HRL]; omega) ((zg HWD) k y))
   rcases Nat.eq_zero_or_pos L with hL0 | hL0
   ·have hy0 : y = 0 := by omega
    subst hy0
    subst hL0
    cases ra
    all_goals
     go_wp2_with fail
     refine (zg hcon).mono ?_
     rintro e w2 ⟨rfl, F2⟩
     go_wp2
     go_ret2
     refine ⟨?_, F2⟩
     have e9 := (zg HCV) (by omega)
     rw [List.take_zero] at e9
     rw [e9, (zg hfin).1, (zg hfin).2]
     rfl
   ·obtain ⟨b2, o2, rfl⟩ : ∃ b2 o2, ra = some ⟨b2, o2, none⟩ := by
     obtain ⟨_, ao', _, e, _, _, hx⟩ := zg HCL
     obtain ⟨b2, o2, e2, _⟩ := hx (by rw [zg HRL]; omega)
     simp only [Value.slice.injEq] at e
     exact ⟨b2, o2, by rw [e.1, e2]⟩
    go_wp2_with fail
    refine (zg hcon).mono ?_
    rintro e w2 ⟨rfl, F2⟩
    go_wp2
    go_ret2
    refine ⟨?_, F2⟩
    rw [(zg HCV) (by omega), (zg hfin).1, (zg hfin).2]
    rfl
theorem zjR (v : Value) (R : Nat) (C : Nat → List (List Int × Int)) (w : World) (hv : zdk w v R C) (hR : R ≤ 16777216) (hl : ∀ i, i < R → (C i).length + zaL (C i) (C i).length ≤ 16777216) (hI : ∀ i, i < R → ∀ j, j < (C i).length → zbv (cR (C i) j)) :
  Calls Tryz.prog 207 #[v] w fun e w' => ∃ v', e = .returned v' ∧ zaD w' w.heap.size 9 v' R (fun i => .string (zv (zac (C i)))) ∧ Ext w w' := by
 obtain ⟨ic, hic, hc0, hc1, hc2⟩ := info_parts zdn
 obtain ⟨rv, ⟨ao, ca, rfl, hca, hxa⟩, hrw⟩ := hv
 have HX := zi hxa
 have HRW := zi hrw
 have HL := zi hl
 have HI := zi hI
 clear hxa hrw hl hI
 go_enter Tryz.func207, Tryz.ntmps207
 go_wp2
 go_loopw [3, 8] (fun o i wr => ∃ k : Nat, k ≤ R ∧ i = .int .i64 k ∧ Hid (wr.ownsRow w.heap.size 9 1 o k (zcw (fun i => zv (zac (C i))) k)) ∧ Ext w wr) (fun _ i _ => R - (intOf i).toNat)
 case atStart => exact ⟨0, Nat.zero_le _, rfl, zi (zbp _ _ _ _), Ext.refl _⟩
 case round =>
  obtain ⟨k, hk, rfl, HO, hext⟩ := hrel
  have hsz := hext.size
  by_cases hlt : k < R
  ·obtain ⟨b, off, hao, hc⟩ := (zg HX) (by omega)
   subst hao
   have g1 := hext.cell (hc k hlt)
   clear hc
   have bk : (k : Int) < (R : Int) := by omega
   have hcon := zi (zcT (rv k) (C k) wr (((zg HRW) k hlt).ext hext) ((zg HL) k hlt) ((zg HI) k hlt))
   have hst : Hid (zcw (fun i => zv (zac (C i))) (k + 1) = zcw (fun i => zv (zac (C i))) k ++ [.string (zv (zac (C k)))]) := zi (zhS _ _)
   go_wp2_with (first
    | (go_at_call 255; refine (zg hcon).mono ?_; rintro e w4 ⟨rfl, F4⟩; have HO4 := zi (F4.owns (zg HO)); have E4 := hext.trans F4; have hs4 := E4.size; clear F4)
    | (at_builtin; go_must (refine zao rfl _ _ 28 rfl w.heap.size 9 ic (.string { data := #[] }) 1 16 Tryz.underlying28 hic hc0 hc1 hc2 rfl (by decide) _ _ _ rfl ((zg HO4).alloc _) _ 1 [.string (zv (zac (C k)))] rfl (Src.made _ _ _ rfl (by simp [Value.oneCell'])) (by unfold maxLen; omega) (by omega) (by simp; omega) ?_); intro v5 w5 o5 G5 _; rw [← zg hst] at o5; have HO5 := zi o5; have E5 := zi ((E4.alloc _).grown G5 (fun q hq => ((zg HO4).lt q hq).1)); clear o5 G5))
   go_roundw
   case rel => exact ⟨k + 1, by omega, by go_num, HO5, zg E5⟩
   case measure => simp [intOf]; omega
  ·obtain rfl : k = R := by omega
   have hb9 : ¬ (k : Int) < (k : Int) := by omega
   go_wp2
   go_ret
   exact ⟨_, rfl, zcu (zg HO), hext⟩
theorem zln : (Tryz.prog.info? 203).map (fun i => (i.zero, i.size, i.bytes)) = some (some (.agg #[.slice none 0 0, .int .i64 0]), 2, 32) := by kernel_rfl
theorem infoRwL : (Tryz.prog.info? 160).map (fun i => (i.zero, i.size, i.bytes)) = some (some (.slice none 0 0), 1, 24) := by kernel_rfl
theorem zaE {w : World} {b : Nat} {T : TypeId} {sz : Nat} {v : Value} {n : Nat} {xs : List Value} (h : w.ownsRow b T sz v n xs) : ∃ a c, v = .slice a n c := by
 rcases h.2 with ⟨rfl, h0⟩ | ⟨g, c, _, rfl, _⟩
 ·exact ⟨none, 0, by rw [h0]⟩
 ·exact ⟨_, c, rfl⟩
abbrev zcd (a b c : ByteArray) (ua : Option Addr) (un uc : Nat) : Array Value := #[.string a, .string b, .string c, .slice ua un uc]
abbrev zek : Array Value := #[.slice none 0 0, .int .i64 0, .int .i64 0]
theorem zdk.sub {w : World} {g R c : Nat} {C : Nat → List (List Int × Int)} (h : zdk w (.slice (some ⟨g, 0, none⟩) R c) R C) (f n Z : Nat) (hf : f + n ≤ R) (hZ : n ≤ Z) : zdk w (.slice (some ⟨g, f, none⟩) n Z) n (fun i => C (f + i)) := by
 obtain ⟨rv, ⟨ao, ca, e, hca, hx⟩, hr⟩ := h
 simp only [Value.slice.injEq] at e
 obtain ⟨rfl, _, rfl⟩ := e
 refine ⟨fun i => rv (f + i), ⟨_, _, rfl, hZ, fun hp => ⟨g, f, rfl, fun j hj => ?_⟩⟩, fun i hi => hr (f + i) (by omega)⟩
 obtain ⟨b, off, e2, h2⟩ := hx (by omega)
 simp only [Option.some.injEq, Addr.mk.injEq] at e2
 obtain ⟨rfl, rfl, _⟩ := e2
 have := h2 (f + j) (by omega)
 rw [Nat.zero_add] at this
 exact this
theorem znj {w wA : World} {b R : Nat} {v vA : Value} {rv : Nat → Value} {rs : Nat → List Value} {C : Nat → List (List Int × Int)} {ys : List Value} {o : Obj} (h : za0 w b v rv rs R C) (oy : w.ownsRow b 160 1 v R ys) (ky : ∀ j, j < R → ys[j]? = some (rv j))
  (oA : wA.ownsRow b 160 1 vA (R + 1) (ys ++ [.slice none 0 0])) (GA : (w.alloc o).grownBy wA v.ownBlock) : ∃ gA cA, vA = .slice (some ⟨gA, 0, none⟩) (R + 1) cA ∧ R + 1 ≤ cA ∧ zdk wA (.slice (some ⟨gA, 0, none⟩) (R + 1) cA) (R + 1) (fun i => if i < R then C i else []) := by
 have ly : ys.length = R := by have := oy.1; omega
 rcases oA.2 with ⟨_, h0⟩ | ⟨g, cap, cur, rfl, _, _, hn, _⟩
 ·omega
 refine ⟨g, cap, rfl, hn, fun i => if i < R then rv i else .slice none 0 0, ⟨_, _, rfl, hn, fun _ => ⟨g, 0, rfl, fun j hj => ?_⟩⟩, fun i hi => ?_⟩
 ·rw [Nat.zero_add, oA.cellAt j (by omega)]
  dsimp only
  split
  ·rename_i h1
   rw [List.getElem?_append_left (by omega)]
   exact ky j h1
  ·rename_i h1
   rw [List.getElem?_append_right (by omega), ly, show j - R = 0 by omega]
   rfl
 ·dsimp only
  split
  ·rename_i h1
   have fr : Fr (fun k => v.ownBlock = some k) w wA := (Fr.of_ext ((Ext.refl w).alloc o)).grown GA (fun k hk => hk)
   exact ((h.2.1 i h1).fr fr (fun g hg e => h.apart h1 hg e)).cls
  ·exact ⟨[], none, 0, rfl, Nat.le_refl _, fun j hj => absurd hj (Nat.not_lt_zero j), fun hp => absurd hp (Nat.lt_irrefl 0)⟩
theorem zgJ (P A B : List Int) (c : ByteArray) (ua : Option Addr) (un uc : Nat) (cols rows : Nat) (w : World) (hs : zbl cols rows = true) (hP : zaj P) (hA : zaj A) (hB : zaj B) (lP : P.length ≤ 1048576) (lA : A.length ≤ 1048576) (lB : B.length ≤ 1048576) (hT : zcB w) :
  Calls Tryz.prog 154 #[.string (zv P), .agg (zcd (zv A) (zv B) c ua un uc), .int .i64 cols, .int .i64 rows] w fun e w' => ∃ v, e = .returned (.agg #[v, .int .i64 ((zbA (zd P ++ zd A ++ zd B) cols ((zd P).length + (zd A).length) : Int) - (zb6 (zd P ++ zd A ++ zd B) cols ((zd P).length + (zd A).length) rows : Int)), .int .i64 (zbR (zd P ++ zd A ++ zd B) cols ((zd P).length + (zd A).length))]) ∧ zaD w' w.heap.size 9 v (zcg (zd P ++ zd A ++ zd B) cols ((zd P).length + (zd A).length) rows) (fun i => .string (zgb (zd P ++ zd A ++ zd B) cols ((zd P).length + (zd A).length) rows i)) ∧ Ext w w' := by
 obtain ⟨ic, hic, hc0, hc1, hc2⟩ := info_parts zln
 have hcP := zi (fun U (hU : Ext w U) => zbG P hP U (by omega) (hT.below hU.below))
 have hcA := zi (fun U (hU : Ext w U) => zbG A hA U (by omega) (hT.below hU.below))
 have hcB := zi (fun U (hU : Ext w U) => zbG B hB U (by omega) (hT.below hU.below))
 have kP := zbW P
 have kA := zbW A
 have kB := zbW B
 clear hT
 obtain ⟨D0, hD0⟩ : ∃ D0, D0 = zd P ++ zd A ++ zd B := ⟨_, rfl⟩
 obtain ⟨p0, hp0⟩ : ∃ p0, p0 = (zd P).length + (zd A).length := ⟨_, rfl⟩
 rw [← hD0, ← hp0]
 have HD0 := zi hD0
 have HP0 := zi hp0
 clear hD0 hp0
 go_enter Tryz.func154, Tryz.ntmps154
 go_wp2_with fail
 refine (zgA _ _ _).mono ?_
 rw [hs]
 rintro e w1 ⟨rfl, rfl⟩
 obtain ⟨cn, rn, ec, er, n2, n200, r1, r100⟩ := zcn hs
 obtain rfl : cn = cols := by omega
 obtain rfl : rn = rows := by omega
 clear ec er
 have hb0 := zn (w.alloc (.cells (zcd (zv A) (zv B) c ua un uc) 37)) (.cells zek 86)
 have hbl := ((Ext.refl _).alloc (.cells zek 86)).kept (zn w (.cells (zcd (zv A) (zv B) c ua un uc) 37))
 have E0 := ((Ext.refl w).alloc (.cells (zcd (zv A) (zv B) c ua un uc) 37)).alloc (.cells zek 86)
 have hz0 : ((w.alloc (.cells (zcd (zv A) (zv B) c ua un uc) 37)).alloc (.cells zek 86)).heap.size = w.heap.size + 2 := by simp
 obtain ⟨W0, hW0⟩ : ∃ W0, W0 = (w.alloc (.cells (zcd (zv A) (zv B) c ua un uc) 37)).alloc (.cells zek 86) := ⟨_, rfl⟩
 rw [← hW0] at hb0 hbl E0 hz0
 have hz : (w.alloc (.cells (zcd (zv A) (zv B) c ua un uc) 37)).heap.size = w.heap.size + 1 := by simp
 rw [hz] at hb0
 have q0 := zk hbl 0 _ rfl
 have HW := zi hW0
 have HB0 := zi hb0
 have HBL := zi hbl
 clear hW0 hz hb0 hbl
 go_wp2
 rw [← zg HW]
 clear HW
 have tokA : True := trivial
 go_region_held_law (fun W => W.cell? ⟨w.heap.size, 0, none⟩ = some (.string (zv A))) (first | exact q0 | exact d0 | exact f0 | exact k0)
  (first
   | (go_at_call 204; have _t := tokA; refine ((zg hcP) _ E0.drew).mono ?_; rintro e w2 ⟨v2, rs2, rfl, o2, F2⟩; have E2 := (Ext.refl W0).drew.trans F2; have d0 := E2.cell q0; have O2 := zi o2; have HE2 := zi E2; clear tokA o2 F2 E2)
   | (go_at_call 204; refine ((zg hcA) _ (E0.trans (zg HE2))).mono ?_; rintro e w3 ⟨v3, rs3, rfl, o3, F3⟩; have E3 := (zg HE2).trans F3; have f0 := E3.cell q0; obtain ⟨ys3, oy3, ky3, src3⟩ := o3.ys; obtain ⟨ys2, oy2, ky2, _⟩ := ((zg O2).ext F3).ys; have O3 := zi o3; have O23 := zi ((zg O2).ext F3); have LT2 := zi (fun g (hg : zdN v2 rs2 (zd P).length g) => ((zg O2).lt hg)); have HE3 := zi E3; have HF3 := zi F3; have OY2 := zi oy2; have KY2 := zi ky2; have KY3 := zi ky3; have SR3 := zi src3; have hsz3 := E3.size; clear o3 E3 F3 oy3 ky3 src3 oy2 ky2)
   | (refine zgN (by rfl) _ _ 160 (by rfl) W0.heap.size 203 ic (.agg #[.slice none 0 0, .int .i64 0]) 2 32 Tryz.underlying160 hic hc0 hc1 hc2 rfl (by decide) _ _ ys2 (by rfl) (zg OY2) _ _ ys3 (by rfl) (zg SR3) (by unfold maxLen; omega) (by omega) (by omega) ?_; intro v4 w4 o4 G4 _; have E4 := (zg HE3).grown G4 (fun q hq => ((zg OY2).lt q hq).1); have k0 := E4.cell q0; have O4 := zi (zak.append (zg O23) (zg O3) (by have := (zg HE2).size; exact this) (fun g hg => ((zg LT2) g hg).2) (zg OY2) (zg KY2) (zg KY3) o4 G4); obtain ⟨a4, c4, e4⟩ := zaE o4; subst e4; have HE4 := zi E4; clear o4 G4 E4))
 have HCU := zi (((zce P).app (zce A)).app (zce B))
 rw [← List.length_append] at O4 HP0 ⊢
 have kC : (zd P ++ zd A).length = (zd P).length + (zd A).length := List.length_append
 have hq1 := zk ((zg HE4).kept (zg HBL)) 1 _ rfl
 have hs4 := (zg HE4).size
 generalize zd P ++ zd A = C1 at *
 have kCB : (C1 ++ zd B).length = C1.length + (zd B).length := List.length_append
 generalize hD : C1 ++ zd B = D at *
 have HD := zi hD
 have kD1 : C1.length ≤ D.length := by omega
 have kD2 : D.length ≤ 3145728 := by omega
 have kD3 : C1.length + (zd B).length ≤ 3145728 := by omega
 clear hD kCB kC
 have hcW := zi (fun (v : Value) (U : World) (hv : zaI U v D) => zio v D cn U hv (by omega) (fun j _ => by have := (zg HCU).runes j; omega))
 go_wp2_with (first
  | (go_at_call 204; refine ((zg hcB) _ (E0.trans (zg HE4))).mono ?_; rintro e w5 ⟨v5, rs5, rfl, o5, F5⟩; have E5 := (zg HE4).trans F5; obtain ⟨ys5, oy5, ky5, src5⟩ := o5.ys; obtain ⟨ys4, oy4, ky4, _⟩ := ((zg O4).ext F5).ys; have O5 := zi o5; have O45 := zi ((zg O4).ext F5); have LT4 := zi (fun g hg => ((zg O4).lt (g := g) hg)); have HE5 := zi E5; have OY4 := zi oy4; have KY4 := zi ky4; have KY5 := zi ky5; have SR5 := zi src5; have hsz5 := E5.size; clear o5 E5 F5 oy5 ky5 src5 oy4 ky4)
  | (at_builtin; go_must (refine zao rfl _ _ 160 rfl W0.heap.size 203 ic (.agg #[.slice none 0 0, .int .i64 0]) 2 32 Tryz.underlying160 hic hc0 hc1 hc2 rfl (by decide) _ _ ys4 rfl (zg OY4) _ _ ys5 rfl (zg SR5) (by unfold maxLen; omega) (by omega) (by omega) ?_); intro v6 w6 o6 G6 _; have E6 := (zg HE5).grown G6 (fun q hq => ((zg OY4).lt q hq).1); have O6 := zi (zak.append (zg O45) (zg O5) hs4 (fun g hg => ((zg LT4) g hg).2) (zg OY4) (zg KY4) (zg KY5) o6 G6); have HE6 := zi E6; have hsz6 := E6.size; clear o6 G6 E6))
 rw [zg HD] at O6
 refine ((zg hcW) _ _ (zg O6).cls).mono ?_
 rintro e w7 ⟨v7, rv7, rs7, rfl, o7, F7⟩
 have hwr : wrR D cn = (stS D cn).length := by unfold wrR; rw [if_neg (by omega)]; rfl
 rw [hwr] at o7
 replace o7 : za0 w7 w6.heap.size v7 rv7 rs7 (stS D cn).length (zck D (stS D cn ++ [(D.length : Int)])) := o7
 have hm1 : 1 ≤ (stS D cn).length := (zbS D cn D.length).one
 have hm2 : (stS D cn).length ≤ D.length + 1 := (zbS D cn D.length).len
 obtain ⟨ys7, oy7, ky7⟩ := o7.1
 obtain ⟨g7, c7, rfl, hRc⟩ : ∃ g c, v7 = .slice (some ⟨g, 0, none⟩) (stS D cn).length c ∧ (stS D cn).length ≤ c := by
  rcases oy7.2 with ⟨_, h0⟩ | ⟨g, cap, cur, hv, _, _, hn, _⟩
  ·omega
  ·exact ⟨g, cap, hv, hn⟩
 have O7 := zi o7
 have OY7 := zi oy7
 have KY7 := zi ky7
 have HE7 := Hid.ht HE6 F7
 have hs7 := F7.size
 have hcPl := zi (zjx _ D cn C1.length w7 (zg HCU).wide n2 (by omega) (by omega) o7.reads)
 have hrow0 := zi (zcR (cs := D) (cols := cn) (p := C1.length))
 have hcol0 := zi (zeH (p := C1.length) (zg HCU).wide n2 (by omega))
 have hfull := zi (zhc (p := C1.length) (zg HCU).wide n2 (by omega))
 clear o7 oy7 ky7 F7 hwr hcW hcB O6 O4 O45 O5 SR5 KY5 KY4 OY4 LT4 O2 O3 O23 OY2 KY2 KY3 SR3 LT2 HF3 HE2 HE3 HE4 HE5 hq1
 go_wp2_with fail
 refine (zg hcPl).mono ?_
 rintro e w8 ⟨rfl, F8⟩
 have HE8 := Hid.ht HE7 F8
 have OY8 := zi (F8.owns (zg OY7))
 have HC8 := zi ((zg O7).ext F8).reads
 have hcx := zi (fun (U : World) (v : Value) (f n : Nat) (hv : zdk U v n (fun i => zdm D cn C1.length (f + i))) (hn : n ≤ 1048576) => zjR v n _ U hv (by omega) (fun i _ => by have := ((zg HCU).part (at0 (zcs D cn C1.length ++ [(D.length : Int)]) (f + i)).toNat (at0 (zcs D cn C1.length ++ [(D.length : Int)]) (f + i + 1)).toNat).1; exact Nat.le_trans this (by omega)) (fun i _ j _ => ((zg HCU).part _ _).2 j))
 obtain ⟨hcl0, hcl1⟩ := zg hcol0
 by_cases hfu : za5 D cn C1.length = cn
 ·have hLS : zcs D cn C1.length = stS D cn ++ [(C1.length : Int)] := by unfold zcs; rw [if_pos ((zg hfull).2 hfu)]
  have hLR : zbA D cn C1.length = zaG D cn C1.length + 1 := by unfold zbA; rw [if_pos ((zg hfull).2 hfu)]
  have hLC : zbR D cn C1.length = 0 := by unfold zbR; rw [if_pos ((zg hfull).2 hfu)]
  have hpn : C1.length = D.length := ((zg hfull).2 hfu).1
  have HLS := zi hLS
  have HLR := zi hLR
  have HLC := zi hLC
  have HPN := zi hpn
  have hr0 := zg hrow0
  clear hLS hLR hLC hpn
  generalize hro : zaG D cn C1.length = r0 at *
  generalize hco : za5 D cn C1.length = c0 at *
  generalize hRR : (stS D cn).length = R at *
  have HLS' : Hid ((zcs D cn C1.length).length = R + 1) := zi (by rw [zg HLS, List.length_append, hRR]; rfl)
  have HRR := zi hRR
  clear hro hco hRR
  have hz8 := (zg HE8).size
  obtain ⟨ir, hir, hr0', hr1', hr2'⟩ := info_parts infoRwL
  obtain ⟨f, hf⟩ : ∃ f : Nat, f = r0 + 1 + 1 - rn := ⟨_, rfl⟩
  obtain ⟨n, hn⟩ : ∃ n : Nat, n = min (f + rn) (R + 1) - f := ⟨_, rfl⟩
  have hfin : Hid (zb6 D cn C1.length rn = f ∧ zcg D cn C1.length rn = n ∧ zbA D cn C1.length = r0 + 1 ∧ zbR D cn C1.length = 0) := by
   have e1 : zb6 D cn C1.length rn = f := by unfold zb6; rw [zg HLR, hf]
   refine zi ⟨e1, ?_, zg HLR, zg HLC⟩
   unfold zcg
   rw [e1, zg HLS', hn]
  have HF := zi hf
  have HN := zi hn
  clear hf hn
  have HLY : Hid (zdm D cn C1.length = fun i => if i < R then zck D (stS D cn ++ [(D.length : Int)]) i else []) := by
   refine zi ?_
   funext i
   unfold zdm zck
   rw [zg HLS]
   have a1 : ∀ q, q < R → at0 (stS D cn ++ [(C1.length : Int)] ++ [(D.length : Int)]) q = at0 (stS D cn ++ [(D.length : Int)]) q := fun q hq => by
    rw [zaw, if_neg (by rw [List.length_append, zg HRR]; simp; omega), zaw, if_neg (by rw [zg HRR]; omega), zaw, if_neg (by rw [zg HRR]; omega)]
   have a2 : at0 (stS D cn ++ [(C1.length : Int)] ++ [(D.length : Int)]) R = (D.length : Int) := by
    rw [zaw, if_neg (by rw [List.length_append, zg HRR]; simp), zaw, if_pos (zg HRR).symm, zg HPN]
   have a3 : at0 (stS D cn ++ [(D.length : Int)]) R = (D.length : Int) := by rw [zaw, if_pos (zg HRR).symm]
   split
   ·rename_i h1
    rw [a1 i h1]
    by_cases e : i + 1 < R
    ·rw [a1 _ e]
    ·rw [show i + 1 = R by omega, a2, a3]
   ·rename_i h1
    by_cases e : i = R
    ·subst e
     have a4 : at0 (stS D cn ++ [(C1.length : Int)] ++ [(D.length : Int)]) (i + 1) = (D.length : Int) := by rw [zaw, if_pos (by rw [List.length_append, zg HRR]; rfl)]
     rw [a2, a4]
     simp
    ·have a5 : at0 (stS D cn ++ [(C1.length : Int)] ++ [(D.length : Int)]) (i + 1) = 0 := by
      unfold at0
      rw [List.getElem?_eq_none (by rw [List.length_append, List.length_append, zg HRR]; simp; omega)]
      rfl
     rw [a5]
     simp
  subst hfu
  have hcxA := zi (fun (U : World) (gA cA : Nat) (h : zdk U (.slice (some ⟨gA, 0, none⟩) (R + 1) cA) (R + 1) (fun i => if i < R then zck D (stS D cn ++ [(D.length : Int)]) i else [])) (X Y Z : Nat) (e1 : X = f) (e2 : Y = n) (h3 : n ≤ Z) => (by
   subst e1
   subst e2
   rw [← zg HLY] at h
   exact (zg hcx) _ _ _ _ (h.sub X Y Z (by have := zg HF; have := zg HN; omega) h3) (by have := zg HF; have := zg HN; omega) : Calls Tryz.prog 207 #[.slice (some ⟨gA, X, none⟩) Y Z] U fun e w' => ∃ v', e = .returned v' ∧ zaD w' U.heap.size 9 v' n (fun i => .string (zv (zac (zdm D cn C1.length (f + i))))) ∧ Ext U w'))
  go_wp2_with (first
   | (at_builtin; go_must (refine zao rfl _ _ 217 rfl w6.heap.size 160 ir (.slice none 0 0) 1 24 Tryz.underlying217 hir hr0' hr1' hr2' rfl (by decide) _ _ ys7 rfl ((zg OY8).alloc _) _ 1 [.slice none 0 0] rfl (Src.made _ _ _ rfl (by simp [Value.oneCell'])) (by unfold maxLen; omega) (by omega) (by simp; have := F8.size; omega) ?_); intro vA wA oA GA _; obtain ⟨gA, cA, eA, hcA, HCA0⟩ := znj ((zg O7).ext F8) (zg OY8) (zg KY7) oA GA; have HCA := zi HCA0; subst eA; have HEF := zi (((zg HE8).alloc _).grown GA (fun q hq => by have := ((zg OY8).lt q hq).1; omega)); have HCS := zi ((zg hcxA) _ _ _ (zg HCA)); clear oA GA HCA0))
  all_goals
   refine ((zg HCS) _ _ _ (by have := zg HF; omega) (by have := zg HF; have := zg HN; omega) (by have := zg HF; have := zg HN; omega)).mono ?_
   rintro e w9 ⟨v9, rfl, o9, F9⟩
   obtain ⟨a9, c9, rfl⟩ := o9.slice
   have T9 := (zg HEF).trans F9
   have O9 := zi o9
   have hb9 := T9.kept (zg HB0)
   have b0 := zk hb9 0 _ rfl
   have b1 := zk hb9 1 _ rfl
   have b2 := zk hb9 2 _ rfl
   have f1 : ∀ i, w9.frozen? ⟨w.heap.size + 1, i, none⟩ = false := fun i => Lib.frozen_of_heap hb9 i
   have hsF := (zg HEF).size
   clear o9 hb9
   go_wp2
   refine bodyPost_ret (v := .agg #[.slice a9 n c9, .int .i64 ((r0 : Int) + 1 - (f : Int)), .int .i64 0]) (by simp [results, Tryz.results154, go_sem, b0, b1, b2] <;> (have := zg HF; omega)) rfl ⟨.slice a9 n c9, ?_, ?_, ?_⟩
   rotate_left
   ·obtain ⟨q1, q2, q3, q4⟩ := zg hfin
    rw [zg HD0, zg HP0, q2]
    have hcg : zaD w9 wA.heap.size 9 (.slice a9 n c9) n (fun i => .string (zgb D cn C1.length rn i)) := by
     unfold zgb
     rw [q1]
     exact zg O9
    refine (hcg.fr (S := fun q => q = w.heap.size + 1) ?_ (fun g hg e => by have := hcg.lt g hg; omega)).mono (by omega)
    repeat' first | refine Fr.setCell (S := fun q => q = w.heap.size + 1) ?_ (a := ⟨w.heap.size + 1, _, none⟩) rfl _ | exact Fr.refl _ _
   ·refine Fr.ext (S := fun q => q = w.heap.size + 1) (w := w9) ?_ (E0.trans T9) (fun k hk => by omega)
    repeat' first | refine Fr.setCell (S := fun q => q = w.heap.size + 1) ?_ (a := ⟨w.heap.size + 1, _, none⟩) rfl _ | exact Fr.refl _ _
   ·obtain ⟨q1, q2, q3, q4⟩ := zg hfin
    rw [zg HD0, zg HP0, q1, q3, q4]
    rw [show ((r0 + 1 : Nat) : Int) = (r0 : Int) + 1 by omega]
 ·have hLS : zcs D cn C1.length = stS D cn := by unfold zcs; rw [if_neg (fun h => hfu ((zg hfull).1 h))]
  have hLR : zbA D cn C1.length = zaG D cn C1.length := by unfold zbA; rw [if_neg (fun h => hfu ((zg hfull).1 h))]
  have hLC : zbR D cn C1.length = za5 D cn C1.length := by unfold zbR; rw [if_neg (fun h => hfu ((zg hfull).1 h))]
  have HLS := zi hLS
  have HLR := zi hLR
  have HLC := zi hLC
  have hr0 := zg hrow0
  generalize hro : zaG D cn C1.length = r0 at *
  generalize hco : za5 D cn C1.length = c0 at *
  generalize hRR : (stS D cn).length = R at *
  clear hLS hLR hLC
  have HLS' : Hid ((zcs D cn C1.length).length = R) := zi (by rw [zg HLS]; exact hRR)
  have HCF : Hid (zdk w8 (.slice (some ⟨g7, 0, none⟩) R c7) R (zdm D cn C1.length)) := by
   refine zi ?_
   have e : zdm D cn C1.length = zck D (stS D cn ++ [(D.length : Int)]) := by
    funext i
    unfold zdm zck
    rw [zg HLS]
   rw [e]
   exact zg HC8
  have HEF := HE8
  clear hro hco hRR
  obtain ⟨f, hf⟩ : ∃ f : Nat, f = r0 + 1 - rn := ⟨_, rfl⟩
  obtain ⟨n, hn⟩ : ∃ n : Nat, n = min (f + rn) R - f := ⟨_, rfl⟩
  have HCS : Hid (∀ X Y Z : Nat, X = f → Y = n → n ≤ Z → Calls Tryz.prog 207 #[.slice (some ⟨g7, X, none⟩) Y Z] w8 fun e w' => ∃ v', e = .returned v' ∧ zaD w' w8.heap.size 9 v' n (fun i => .string (zv (zac (zdm D cn C1.length (f + i))))) ∧ Ext w8 w') := by
   refine zi (fun X Y Z e1 e2 h3 => ?_)
   subst e1
   subst e2
   exact (zg hcx) _ _ _ _ ((zg HCF).sub _ _ Z (by omega) h3) (by omega)
  have hfin : Hid (zb6 D cn C1.length rn = f ∧ zcg D cn C1.length rn = n ∧ zbA D cn C1.length = r0 ∧ zbR D cn C1.length = c0) := by
   have e1 : zb6 D cn C1.length rn = f := by unfold zb6; rw [zg HLR, hf]
   refine zi ⟨e1, ?_, zg HLR, zg HLC⟩
   unfold zcg
   rw [e1, zg HLS', hn]
  have HF := zi hf
  have HN := zi hn
  clear hf hn
  go_wp2_with fail
  all_goals
   refine ((zg HCS) _ _ _ (by have := zg HF; omega) (by have := zg HF; have := zg HN; omega) (by have := zg HF; have := zg HN; omega)).mono ?_
   rintro e w9 ⟨v9, rfl, o9, F9⟩
   obtain ⟨a9, c9, rfl⟩ := o9.slice
   have T9 := (zg HEF).trans F9
   have O9 := zi o9
   have hb9 := T9.kept (zg HB0)
   have b0 := zk hb9 0 _ rfl
   have b1 := zk hb9 1 _ rfl
   have b2 := zk hb9 2 _ rfl
   have f1 : ∀ i, w9.frozen? ⟨w.heap.size + 1, i, none⟩ = false := fun i => Lib.frozen_of_heap hb9 i
   have hsF := (zg HEF).size
   clear o9 hb9
   go_wp2
   refine bodyPost_ret (v := .agg #[.slice a9 n c9, .int .i64 ((r0 : Int) - (f : Int)), .int .i64 c0]) (by simp [results, Tryz.results154, go_sem, b0, b1, b2] <;> (have := zg HF; omega)) rfl ⟨.slice a9 n c9, ?_, ?_, ?_⟩
   rotate_left
   ·obtain ⟨q1, q2, q3, q4⟩ := zg hfin
    rw [zg HD0, zg HP0, q2]
    have hcg : zaD w9 w8.heap.size 9 (.slice a9 n c9) n (fun i => .string (zgb D cn C1.length rn i)) := by
     unfold zgb
     rw [q1]
     exact zg O9
    refine (hcg.fr (S := fun q => q = w.heap.size + 1) ?_ (fun g hg e => by have := hcg.lt g hg; omega)).mono (by omega)
    repeat' first | refine Fr.setCell (S := fun q => q = w.heap.size + 1) ?_ (a := ⟨w.heap.size + 1, _, none⟩) rfl _ | exact Fr.refl _ _
   ·refine Fr.ext (S := fun q => q = w.heap.size + 1) (w := w9) ?_ (E0.trans T9) (fun k hk => by omega)
    repeat' first | refine Fr.setCell (S := fun q => q = w.heap.size + 1) ?_ (a := ⟨w.heap.size + 1, _, none⟩) rfl _ | exact Fr.refl _ _
   ·obtain ⟨q1, q2, q3, q4⟩ := zg hfin
    rw [zg HD0, zg HP0, q1, q3, q4]
theorem zmm {cs : List (List Int × Int)} (h : zcO cs) (s e j : Nat) : 0 ≤ cW ((cs.take e).drop s) j ∧ cW ((cs.take e).drop s) j ≤ 2 := by
 unfold cW
 cases hj : ((cs.take e).drop s)[j]? with
 | none => simp
 | some u =>
  obtain ⟨q, hq⟩ := List.mem_iff_getElem?.1 (List.mem_of_mem_take (List.mem_of_mem_drop (List.mem_of_getElem? hj)))
  have := h.all q
  unfold cW at this
  rw [hq] at this
  exact this
theorem zna {cs : List (List Int × Int)} {cols p i : Nat} (hi : i < (zcs cs cols p).length) : 0 ≤ at0 (zcs cs cols p) i ∧ at0 (zcs cs cols p) i ≤ at0 (zcs cs cols p ++ [(cs.length : Int)]) (i + 1) ∧ at0 (zcs cs cols p ++ [(cs.length : Int)]) (i + 1) ≤ (cs.length : Int) := by
 have ok := zbS cs cols cs.length
 have hS : ∀ j, j < (stS cs cols).length → 0 ≤ at0 (stS cs cols) j ∧ at0 (stS cs cols) j ≤ (cs.length : Int) := ok.le
 have hM : ∀ j, j + 1 < (stS cs cols).length → at0 (stS cs cols) j ≤ at0 (stS cs cols) (j + 1) := ok.mono
 unfold zcs at hi ⊢
 split
 ·rename_i hL
  rw [if_pos hL] at hi
  simp at hi
  have hpn : p = cs.length := hL.1
  by_cases e1 : i + 1 < (stS cs cols).length
  ·rw [zaw, if_neg (by omega), zaw, if_neg (by simp; omega), zaw, if_neg (by omega)]
   have a := hS i (by omega)
   have b := hS (i + 1) e1
   exact ⟨a.1, hM i e1, b.2⟩
  ·by_cases e2 : i + 1 = (stS cs cols).length
   ·have e3 : at0 (stS cs cols ++ [(p : Int)] ++ [(cs.length : Int)]) (i + 1) = (p : Int) := by rw [zaw, if_neg (by simp; omega), zaw, if_pos e2]
    rw [e3, zaw, if_neg (by omega)]
    have a := hS i (by omega)
    omega
   ·have e4 : i = (stS cs cols).length := by omega
    have e3 : at0 (stS cs cols ++ [(p : Int)] ++ [(cs.length : Int)]) (i + 1) = (cs.length : Int) := by rw [zaw, if_pos (by simp; omega)]
    rw [e3, zaw, if_pos e4]
    omega
 ·rename_i hL
  rw [if_neg hL] at hi
  have a := hS i hi
  rw [zaw]
  split
  ·omega
  ·rename_i e
   have b := hS (i + 1) (by omega)
   have c := hM i (by omega)
   omega
theorem zjq (v : Value) (cs : List (List Int × Int)) (w : World) (hv : zaI w v cs) (hl : cs.length ≤ 16777216) (hW : ∀ j, 0 ≤ cW cs j ∧ cW cs j ≤ 2) :
  Calls Tryz.prog 183 #[v] w fun e w' => e = .returned (.int .i64 (zjC cs)) ∧ Ext w w' := by
 obtain ⟨ra, ao, ca, rfl, hca, hra, hxa⟩ := hv
 have HF : Hid (zjC cs = pw cs cs.length) := rfl
 obtain ⟨n, hn⟩ : ∃ n, n = cs.length := ⟨_, rfl⟩
 rw [← hn] at hca hra hxa hl HF ⊢
 have HX := zi hxa
 have HB := zi (pw_bd cs hW)
 have HW := zi hW
 clear hn hxa hra hW
 go_enter Tryz.func183, Tryz.ntmps183
 go_wp2
 go_loopw [3, 4] (fun s i wr => ∃ k : Nat, k ≤ n ∧ i = .int .i64 k ∧ s = .int .i64 (pw cs k) ∧ Ext w wr) (fun _ i _ => n - (intOf i).toNat)
 case atStart => exact ⟨0, Nat.zero_le _, rfl, rfl, Ext.refl _⟩
 case round =>
  obtain ⟨k, hk, rfl, rfl, hext⟩ := hrel
  by_cases hlt : k < n
  ·obtain ⟨b, off, hao, hc⟩ := (zg HX) (by omega)
   subst hao
   have g2 := hext.cell (hc k hlt).2
   clear hc
   have bk : (k : Int) < (n : Int) := by omega
   have b1 := (zg HB) k
   have b2 := (zg HW) k
   have hst : Hid (pw cs (k + 1) = pw cs k + cW cs k) := rfl
   go_wp2
   go_roundw
   case rel => exact ⟨k + 1, by omega, by go_num, by rw [zg hst], hext⟩
   case measure => simp [intOf]; omega
  ·obtain rfl : k = n := by omega
   have hb9 : ¬ (k : Int) < (k : Int) := by omega
   go_wp2
   go_ret
   exact ⟨za6 (zg HF).symm, hext⟩
theorem zlW (v : Value) (S : List Int) (p : Nat) (w : World) (hv : zag w .i64 v S) (hl : S.length ≤ 16777216) :
  Calls Tryz.prog 182 #[v, .int .i64 p] w fun e w' => e = .returned (.int .i64 (rwF S p S.length)) ∧ w' = w := by
 obtain ⟨ao, ca, rfl, hca, hxa⟩ := hv
 obtain ⟨n, hn⟩ : ∃ n, n = S.length := ⟨_, rfl⟩
 rw [← hn] at hca hxa hl ⊢
 have HX := zi hxa
 clear hn hxa
 go_enter Tryz.func182, Tryz.ntmps182
 go_wp2
 go_loop [5, 6] (fun r i => ∃ k : Nat, k ≤ n ∧ i = .int .i64 k ∧ r = .int .i64 (rwF S p k : Nat)) (fun _ i => n - (intOf i).toNat)
 case atStart => exact ⟨0, Nat.zero_le _, rfl, rfl⟩
 case round =>
  obtain ⟨k, hk, rfl, rfl⟩ := hrel
  by_cases hlt : k < n
  ·obtain ⟨b, off, hao, hc⟩ := (zg HX) (by omega)
   subst hao
   have g1 := hc k hlt
   clear hc
   have bk : (k : Int) < (n : Int) := by omega
   by_cases hle : at0 S k ≤ (p : Int)
   ·have hst : Hid (rwF S p (k + 1) = k) := zi (by rw [rwF, if_pos hle])
    go_wp2
    go_round
    case rel => exact ⟨k + 1, by omega, by go_num, by rw [zg hst]⟩
    case measure => simp [intOf]; omega
   ·have hst : Hid (rwF S p (k + 1) = rwF S p k) := zi (by rw [rwF, if_neg hle])
    go_wp2
    go_round
    case rel => exact ⟨k + 1, by omega, by go_num, by rw [zg hst]⟩
    case measure => simp [intOf]; omega
  ·obtain rfl : k = n := by omega
   have hb9 : ¬ (k : Int) < (k : Int) := by omega
   go_wp2
   go_ret
   exact ⟨rfl, rfl⟩
structure zjS (wr w0 : World) (z ge L : Nat) (S : List Int) (N : Nat) (rv : Value) (m : Nat) (T : Nat → ByteArray) (a b : Int) : Prop where
 box : wr.heap[z + 1]? = some (.cells #[rv, .int .i64 a, .int .i64 b] 86 (0, 0))
 own : wr.ownsRow z 9 1 rv m (zcw T m)
 ne1 : rv.ownBlock ≠ some (z + 1)
 ne2 : rv.ownBlock ≠ some ge
 gel : ge < wr.heap.size
 gez : ge ≠ z + 1
 ends : ∀ j, j < L → wr.cell? ⟨ge, j, none⟩ = some (.int .i64 (at0 (S ++ [(N : Int)]) (j + 1)))
 ext : Ext w0 wr
theorem zjS.more {wr w0 w' w2 w3 : World} {z ge L : Nat} {S : List Int} {N : Nat} {rv : Value} {m : Nat} {T : Nat → ByteArray} {a b : Int} {g cap H : Nat} (h : zjS wr w0 z ge L S N rv m T a b) (hz : w0.heap.size = z) (E : Ext wr w') (E2 : Ext w' w2) (hg : w2.grownBy w3 rv.ownBlock)
  (ho : w3.ownsRow z 9 1 (.slice (some ⟨g, 0, none⟩) (m + 1) cap) (m + 1) (zcw T m ++ [.string (T m)])) (hat : rv.ownBlock = some g ∨ g = H) (hH : wr.heap.size ≤ H) :
  zjS (w3.setCell ⟨z + 1, 0, none⟩ (.slice (some ⟨g, 0, none⟩) (m + 1) cap)) w0 z ge L S N (.slice (some ⟨g, 0, none⟩) (m + 1) cap) (m + 1) T a b ∧ w3.heap[z + 1]? = some (.cells #[rv, .int .i64 a, .int .i64 b] 86 (0, 0)) := by
 have hb1 : z + 1 < wr.heap.size := (Array.getElem?_eq_some_iff.1 h.box).1
 have s1 := E.size
 have s2 := E2.size
 have s3 := hg.size
 have hgl := h.gel
 have hgz := h.gez
 have hgne : g ≠ z + 1 := by
  rcases hat with e | e
  ·intro e2; subst e2; exact h.ne1 e
  ·omega
 have hgne2 : g ≠ ge := by
  rcases hat with e | e
  ·intro e2; subst e2; exact h.ne2 e
  ·omega
 have blk : ∀ k, k < wr.heap.size → rv.ownBlock ≠ some k → w3.heap[k]? = wr.heap[k]? := fun k hk hn => (hg.block k (by omega) (fun e => hn e.symm)).trans ((E2.heap (by omega)).trans (E.heap hk))
 have hbox : w3.heap[z + 1]? = some (.cells #[rv, .int .i64 a, .int .i64 b] 86 (0, 0)) := (blk _ hb1 h.ne1).trans h.box
 have fr : Fr (fun k => k = z + 1) w3 (w3.setCell ⟨z + 1, 0, none⟩ (.slice (some ⟨g, 0, none⟩) (m + 1) cap)) := Fr.setCell (S := fun k => k = z + 1) (Fr.refl _ _) (a := ⟨z + 1, 0, none⟩) rfl _
 refine ⟨⟨?_, ?_, by simp [Value.ownBlock]; exact hgne, by simp [Value.ownBlock]; exact hgne2, by simp; omega, hgz, fun j hj => ?_, ?_⟩, hbox⟩
 ·rw [heap_setCell_same w3 (z + 1) 0 _ _ _ hbox]
  rfl
 ·rw [zhS]
  exact fr.owns ho (fun k hk e => by simp [Value.ownBlock] at hk; omega)
 ·have h1 := h.ends j hj
  have e1 : (w3.setCell ⟨z + 1, 0, none⟩ (.slice (some ⟨g, 0, none⟩) (m + 1) cap)).heap[ge]? = w3.heap[ge]? := fr.block ge (by omega) (by omega)
  rw [World.cell?_of_block (a := ⟨ge, j, none⟩) (e1.trans (blk ge h.gel h.ne2))]
  exact h1
 ·refine Fr.ext (S := fun k => k = z + 1) fr ?_ (fun k hk => by omega)
  exact ((h.ext.trans E).trans E2).grown hg (fun k hk => by have := (h.own.lt k hk).1; omega)
theorem zex {cs : List (List Int × Int)} {cols p rows : Nat} (hr : 1 ≤ rows) : zbA cs cols p - zb6 cs cols p rows < zcg cs cols p rows ∧ zb6 cs cols p rows ≤ zbA cs cols p := by
 have h1 := zfM (cs := cs) (cols := cols) (p := p)
 unfold zcg zb6
 omega
end Go.Proofs.YtmlkpdbfnffoaaaGreatDoor
