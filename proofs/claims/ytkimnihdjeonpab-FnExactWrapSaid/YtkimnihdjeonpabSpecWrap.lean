import Derived.Test.YtkimnihdjeonpabWrapL
import Derived.Test.YtkimnihdjeonpabWrapS
namespace Go.Proofs.Ytkimnihdjeonpab
open Go.RowKit
def wrS (cs : List (List Int × Int)) (cols : Int) : List Int := (stF cs cols cs.length).1 ++ [(cs.length : Int)]
def wrR (cs : List (List Int × Int)) (cols : Int) : Nat := if cols < 2 then 0 else (stF cs cols cs.length).1.length
def wrC (cs : List (List Int × Int)) (cols : Int) (i : Nat) : List (List Int × Int) := (cs.take (at0 (wrS cs cols) (i + 1)).toNat).drop (at0 (wrS cs cols) i).toNat
theorem wrS_step (cs : List (List Int × Int)) (cols : Int) (i : Nat) (h : i < (stF cs cols cs.length).1.length) : 0 ≤ at0 (wrS cs cols) i ∧ at0 (wrS cs cols) i ≤ at0 (wrS cs cols) (i + 1) ∧ at0 (wrS cs cols) (i + 1) ≤ (cs.length : Int) := by
  have hok := stF_ok cs cols cs.length
  unfold wrS
  rw [at0_app, if_neg (by omega), at0_app]
  have h1 := hok.le i h
  split
  · omega
  · have h2 := hok.mono i (by omega)
    have h3 := hok.le (i + 1) (by omega)
    omega
theorem ClsAt.sub {w : World} {b off cap : Nat} {cs : List (List Int × Int)} (h : ClsAt w (.slice (some ⟨b, off, none⟩) cs.length cap) cs) (s e : Nat) (hse : s ≤ e) (he : e ≤ cs.length) (v : Value) (c : Nat) (hv : v = .slice (some ⟨b, off + s * 2, none⟩) (e - s) c) (hc : e - s ≤ c) : ClsAt w v ((cs.take e).drop s) := by
  obtain ⟨rs, ao, ca, e1, hca, hr, hx⟩ := h
  have hlen : ((cs.take e).drop s).length = e - s := by simp; omega
  have hR : ∀ j, j < e - s → cR ((cs.take e).drop s) j = cR cs (s + j) ∧ cW ((cs.take e).drop s) j = cW cs (s + j) := by
    intro j hj
    unfold cR cW
    rw [List.getElem?_drop, List.getElem?_take, if_pos (by omega)]
    exact ⟨rfl, rfl⟩
  refine ⟨rs.drop s, _, c, by rw [hlen]; exact hv, by omega, ?_, ?_⟩
  · intro j hj
    rw [hlen] at hj
    rw [(hR j hj).1]
    have : rV (rs.drop s) j = rV rs (s + j) := by
      unfold rV
      rw [List.getElem?_drop]
    rw [this]
    exact hr (s + j) (by omega)
  · intro hp
    rw [hlen] at hp
    obtain ⟨b', off', e2, hcell⟩ := hx (by omega)
    injection e1 with e3
    rw [e2] at e3
    injection e3 with e4
    injection e4 with e5 e6
    subst e5 e6
    refine ⟨b, off + s * 2, rfl, fun j hj => ?_⟩
    rw [hlen] at hj
    have h5 := hcell (s + j) (by omega)
    have : rV (rs.drop s) j = rV rs (s + j) := by
      unfold rV
      rw [List.getElem?_drop]
    rw [this, (hR j hj).2, show off + s * 2 + j * 2 = off + (s + j) * 2 by omega]
    exact h5
theorem infoRw : (Try.prog.info? 26).map (fun i => (i.zero, i.size, i.bytes)) = some (some (.slice none 0 0), 1, 24) := by kernel_rfl
theorem css_nil {W : World} {base : Nat} {v : Value} {rv : Nat → Value} {rs : Nat → List Value} {cs : Nat → List (List Int × Int)} (h : W.ownsRow base 26 1 v 0 []) : OwnCss W base v rv rs 0 cs :=
  ⟨⟨[], h, fun j hj => by omega⟩, fun i hi => by omega, fun i j g _ hj => by omega⟩
set_option maxRecDepth 10000 in
set_option maxHeartbeats 2000000 in
theorem specWrap_any (b off cap : Nat) (cs : List (List Int × Int)) (cols : Int) (w : World) (hv : ClsAt w (.slice (some ⟨b, off, none⟩) cs.length cap) cs) (hcap : cs.length ≤ cap) (hl : cs.length ≤ 4194304) (hx : ∀ j, j < cs.length → (cR cs j).length ≤ 4194304) :
    Calls Try.prog 7 #[.slice (some ⟨b, off, none⟩) cs.length cap, .int .i64 cols] w fun e w' => ∃ v' rv rs, e = .returned v' ∧ OwnCss w' w.heap.size v' rv rs (wrR cs cols) (wrC cs cols) ∧ Ext w w' := by
  obtain ⟨ii, hii, hi0, hi1, hi2⟩ := info_parts infoInt
  obtain ⟨ir, hir, hr0, hr1, hr2⟩ := info_parts infoRw
  have HV := hide hv
  have HX := hide hx
  have HE0 := hide (owns_empty' w w.heap.size 26 1 (Nat.le_refl _))
  clear hv hx
  by_cases hc : cols < 2
  · have hR : Hid (wrR cs cols = 0) := by show _ = _; rw [wrR, if_pos hc]
    go_enter Try.func7, Try.ntmps7
    go_wp2
    go_ret
    exact ⟨_, fun _ => .slice none 0 0, fun _ => [], rfl, by rw [hR.out]; exact css_nil (unhide HE0), (Ext.refl _).alloc _⟩
  · have hR : Hid (wrR cs cols = (stF cs cols cs.length).1.length) := by show _ = _; rw [wrR, if_neg hc]
    have hok := hide (stF_ok cs cols cs.length)
    go_enter Try.func7, Try.ntmps7
    go_wp2_with fail
    refine (l1Starts_any _ cs cols _ ((unhide HV).ext ((Ext.refl _).alloc _)) (by omega)).mono ?_
    rintro e w1 ⟨sv, rfl, os, F1⟩
    have E1 := ((Ext.refl w).alloc _).trans F1
    have hlen1 := (unhide hok).one
    have hlen2 := (unhide hok).len
    have HOS := hide (((Ext.refl w1).alloc (.cells #[.int .i64 (cs.length : Int)] 3)).owns os)
    have HE1 := hide (F1.owns (unhide HE0))
    have z1 := E1.size
    clear os
    have hz0 : ∀ o, (w.alloc o).heap.size = w.heap.size + 1 := fun o => by simp
    rw [hz0] at HOS
    go_wp2_with (at_builtin; go_must (refine wpList_append_own _ rfl _ _ 54 rfl (w.heap.size + 1) 3 ii (.int .i64 0) 1 8 Try.underlying54 hii hi0 hi1 hi2 rfl (by decide) _ _ _ rfl (unhide HOS) ⟨w1.heap.size, 0, none⟩ 1 1 [.int .i64 (cs.length : Int)] rfl rfl ?_ (by simp [Value.oneCell']) ?_ ?_ ?_ ?_))
    · exact news_cells (w := w1) [.int .i64 (cs.length : Int)] 3
    · unfold maxLen; omega
    · omega
    · have := F1.size; simp at this ⊢; omega
    · intro sv' w2 hown' hgrow _
      have G2 : Ext (w.alloc (.cells #[] 26)) w2 := Ext.grown (F1.alloc _) hgrow (fun q hq => by have := ((unhide HOS).lt q hq).1; simp; omega)
      have HS2 : Hid (w2.ownsRow (w.heap.size + 1) 3 1 sv' (wrS cs cols).length ((wrS cs cols).map (Value.int .i64))) := by
        unfold wrS
        rw [List.length_append, List.map_append]
        exact hide hown'
      have hsl : Hid ((wrS cs cols).length = (stF cs cols cs.length).1.length + 1) := by show _ = _; simp [wrS]
      obtain ⟨M, hM⟩ : ∃ M, M = (stF cs cols cs.length).1.length := ⟨_, rfl⟩
      rw [← hM] at hR hlen1 hlen2 hsl
      have HST := hide (fun i (h : i < M) => wrS_step cs cols i (by rw [← hM]; exact h))
      rw [hsl.out] at HS2
      have HK2 := hide (G2.owns (unhide HE0))
      clear hown' hgrow hM
      obtain ⟨g, scap, rfl⟩ : ∃ g c, sv' = .slice (some ⟨g, 0, none⟩) (M + 1) c := by
        rcases (unhide HS2).2 with ⟨_, e⟩ | ⟨g, cap, cur, e, _⟩
        · omega
        · exact ⟨g, cap, e⟩
      go_wp2
      go_loopw [5, 7] (fun o i wr => ∃ (k : Nat) (rv : Nat → Value) (rs : Nat → List Value), k ≤ M ∧ i = .int .i64 k ∧ Hid (OwnCss wr w.heap.size o rv rs k (wrC cs cols)) ∧ Hid (wr.ownsRow (w.heap.size + 1) 3 1 (.slice (some ⟨g, 0, none⟩) (M + 1) scap) (M + 1) ((wrS cs cols).map (Value.int .i64))) ∧ Ext w wr) (fun _ i _ => M - (intOf i).toNat)
      case atStart => exact ⟨0, fun _ => .slice none 0 0, fun _ => [], Nat.zero_le _, rfl, css_nil (unhide HK2), HS2, ((Ext.refl _).alloc _).trans G2⟩
      case round =>
        obtain ⟨k, rv, rs, hk, rfl, HO, HSW, hext⟩ := hrel
        by_cases hlt : k < M
        · have bk : (k : Int) + 1 < (M : Int) + 1 := by omega
          have bk2 : (k : Int) < (M : Int) := by omega
          have bk0 : (0 : Int) ≤ (k : Int) + 1 := by omega
          have hst := (unhide HST) k hlt
          have hwl : (wrS cs cols).length = M + 1 := hsl.out
          obtain ⟨s0, hs0⟩ : ∃ s : Nat, at0 (wrS cs cols) k = (s : Int) := ⟨(at0 (wrS cs cols) k).toNat, by omega⟩
          obtain ⟨s1, hs1⟩ : ∃ s : Nat, at0 (wrS cs cols) (k + 1) = (s : Int) := ⟨(at0 (wrS cs cols) (k + 1)).toNat, by omega⟩
          have cA : wr.cell? ⟨g, k, none⟩ = some (.int .i64 (s0 : Int)) := by
            rw [(unhide HSW).cellAt k (by omega), ← hs0]
            simp [at0_lt (show k < (wrS cs cols).length by omega)]
          have cB : wr.cell? ⟨g, k + 1, none⟩ = some (.int .i64 (s1 : Int)) := by
            rw [(unhide HSW).cellAt (k + 1) (by omega), ← hs1]
            simp [at0_lt (show k + 1 < (wrS cs cols).length by omega)]
          rw [hs0, hs1] at hst
          have hC : Hid (wrC cs cols k = (cs.take s1).drop s0) := by show _ = _; rw [wrC, hs0, hs1]; simp
          clear hwl hs0 hs1
          have hs01 : s0 ≤ s1 := by omega
          have hs1n : s1 ≤ cs.length := by omega
          have hw1 : IntKind.i64.wrap ((k : Int) + 1) = (k : Int) + 1 := by rw [IntKind.wrap_i64]; omega
          have bA : (k : Int) < (M : Int) + 1 := by omega
          have bs1 : (s1 : Int) ≤ (cap : Int) := by omega
          have bs01 : (s0 : Int) ≤ (s1 : Int) := by omega
          have hsub : ClsAt wr (.slice (if cap = s0 then some { block := b, off := off } else some { block := b, off := off + s0 * 2 }) (s1 - s0) (cap - s0)) (wrC cs cols k) := by
            rw [hC.out]
            by_cases e : cap = s0
            · rw [if_pos e]
              have e1 : s1 = s0 := by omega
              subst e1
              exact ⟨[], some ⟨b, off, none⟩, cap - s1, by simp, by simp, fun j hj => by simp at hj, fun hp => by simp at hp⟩
            · rw [if_neg e]
              exact ((unhide HV).ext hext).sub s0 s1 hs01 hs1n _ _ rfl (by omega)
          have hCl : (wrC cs cols k).length ≤ 4194304 := by rw [hC.out]; simp; omega
          have hCx : ∀ j, j < (wrC cs cols k).length → (cR (wrC cs cols k) j).length ≤ 16777216 := by
            intro j hj
            rw [hC.out] at hj ⊢
            have hj2 : j < s1 - s0 := by simp at hj; omega
            have : cR ((cs.take s1).drop s0) j = cR cs (s0 + j) := by
              unfold cR
              rw [List.getElem?_drop, List.getElem?_take, if_pos (by omega)]
            rw [this]
            have := (unhide HX) (s0 + j) (by omega)
            omega
          have hcon := hide (l1Copy_any _ _ wr.drew (hsub.ext (Ext.refl wr).drew) (by omega) hCx)
          have z2 := hext.size
          obtain ⟨ys, hy, hyy⟩ := (unhide HO).1
          have HY := hide hy
          have HYY := hide hyy
          clear hsub hCx hy hyy
          have fin : ∀ (w5 : World) (ra : Option Addr) (rc : Nat) (rs5 : List Value), Ext wr w5 → OwnCls w5 wr.heap.size (.slice ra (wrC cs cols k).length rc) rs5 (wrC cs cols k) → ∀ (g6 cap6 : Nat) (w6 : World), w6.ownsRow w.heap.size 26 1 (.slice (some ⟨g6, 0, none⟩) (k + 1) cap6) (k + 1) (ys ++ [.slice ra (wrC cs cols k).length rc]) → (w5.alloc (.cells #[.slice ra (wrC cs cols k).length rc] 26)).grownBy w6 u5.ownBlock →
              OwnCss w6 w.heap.size (.slice (some ⟨g6, 0, none⟩) (k + 1) cap6) (fun i => if i = k then .slice ra (wrC cs cols k).length rc else rv i) (fun i => if i = k then rs5 else rs i) (k + 1) (wrC cs cols) ∧ Ext w w6 ∧ w6.ownsRow (w.heap.size + 1) 3 1 (.slice (some ⟨g, 0, none⟩) (M + 1) scap) (M + 1) ((wrS cs cols).map (Value.int .i64)) := by
            intro w5 ra rc rs5 E5 O5' g6 cap6 w6 o6 G6
            have EA : Ext w5 (w5.alloc (.cells #[.slice ra (wrC cs cols k).length rc] 26)) := (Ext.refl w5).alloc _
            have HYA := (E5.trans EA).owns (unhide HY)
            have HSA := (E5.trans EA).owns (unhide HSW)
            have h1 := OwnCss.push (r := .slice ra (wrC cs cols k).length rc) (rr := rs5) (c := wrC cs cols k) ((unhide HO).ext (E5.trans EA)) HYA (unhide HYY) ((O5'.ext EA).mono (by omega)) (fun i q hi hq h2 => by
              have h3 := ((unhide HO).2.1 i hi).foot hq
              have h4 := (O5'.foot h2).1
              omega) o6 G6
            refine ⟨h1.congr (fun i hi => ?_), (hext.trans (E5.trans EA)).grown G6 (fun q hq => ((unhide HY).lt q hq).1), owns_same HSA (fun q hq => G6.block q (HSA.lt q hq).2 (fun e => owns_apart HSA HYA (by decide) hq e.symm))⟩
            by_cases e : i = k
            · rw [if_pos e, e]
            · rw [if_neg e]
          have FIN := hide fin
          clear fin
          go_wp2
          go_region_law (first
            | (refine step_append_lies _ (by rfl) _ _ _ (by rfl) w.heap.size 26 ir _ 1 24 Try.underlying24 hir hr0 hr1 hr2 rfl (by omega) u5 k ys (by rfl) (((Ext.refl w5).alloc _).owns (unhide HY5)) ⟨w5.heap.size, 0, none⟩ 1 1 [.slice ra (wrC cs cols k).length rc] (by rfl) (by rfl) (news_cells (w := w5) [.slice ra (wrC cs cols k).length rc] 26) (by simp [Value.oneCell']) (by omega) (by unfold maxLen; omega) (by omega) (by simp; omega) (w5.heap.size + 1) (by simp) ?_
               intro g6 cap6 w6 o6 G6 at6 lt6
               have HO6 := hide ((unhide FIN) w5 ra rc rs5 E5 (unhide O5') g6 cap6 w6 o6 G6)
               clear o6 G6)
            | (go_simp; go_at_call 26; refine (unhide hcon).mono ?_; rintro e w5 ⟨v5, rs5, rfl, o5, F5⟩
               obtain ⟨_, ra, rc, rfl, _⟩ := o5.cls
               have E5 : Ext wr w5 := (Ext.refl wr).drew.trans F5
               have z5 := E5.size
               have HY5 := hide (E5.owns (unhide HY))
               have O5' : Hid (OwnCls w5 wr.heap.size (.slice ra (wrC cs cols k).length rc) rs5 (wrC cs cols k)) := hide o5
               have O5 : Hid (OwnCls w5 w.heap.size (.slice ra (wrC cs cols k).length rc) rs5 (wrC cs cols k)) := hide ((unhide O5').mono (by omega))
               clear o5))
          all_goals
            go_wp2
            go_roundw
            case rel => exact ⟨k + 1, _, _, by omega, by go_num, (unhide HO6).1, (unhide HO6).2.2, (unhide HO6).2.1⟩
            case measure => simp [intOf]; omega
        · obtain rfl : k = M := by omega
          rw [← hR.out] at HO
          go_wp2
          go_ret
          exact ⟨_, rv, rs, rfl, unhide HO, hext⟩
end Go.Proofs.Ytkimnihdjeonpab
