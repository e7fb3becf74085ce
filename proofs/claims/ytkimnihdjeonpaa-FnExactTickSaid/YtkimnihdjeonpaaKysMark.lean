import Derived.Test.YtkimnihdjeonpaaKys
namespace Go.Proofs.Ytkimnihdjeonpaa
open Go.RowKit
set_option maxHeartbeats 1000000 in
theorem markKeyS_any (base : Nat) (v : Value) (rs : List Value) (cs : List (List Int × Int)) (k : Int) (w : World) (hv : OwnKys w base v rs cs) (hn : cs.length ≤ 4398046511104) (hx : ∀ j, j < cs.length → (cR cs j).length ≤ 4398046511104) (hS : Small k cs) :
    Calls Try.prog 26 #[v, .int .i64 k] w fun e w' => e = .returned (.int .i64 (kkC k cs cs.length)) ∧ OwnKys w' base v rs (mkKys k cs) ∧ Fr (Foot v rs cs.length) w w' := by
  have HMK : Hid (mkKys k cs = kyTo k cs cs.length) := rfl
  have HV := hide hv
  have HX := hide hx
  have HSM := hide hS
  obtain ⟨n, hnn⟩ : ∃ n, n = cs.length := ⟨_, rfl⟩
  obtain ⟨_, ⟨ys, hy, _⟩, _, _⟩ := hv
  rcases hy.2 with ⟨rfl, h0⟩ | ⟨g, cap, cur, hval, _⟩
  · have ec : cs = [] := List.eq_nil_of_length_eq_zero h0
    subst ec
    clear hy hx hS hnn
    go_enter Try.func26, Try.ntmps26
    go_wp2
    go_loop [1, 5] (fun a i => a = .int .i64 k ∧ i = .int .i64 0) (fun _ _ => 0)
    case atStart => exact ⟨rfl, rfl⟩
    case round =>
      obtain ⟨rfl, rfl⟩ := hrel
      go_wp2
      go_ret
      exact ⟨rfl, unhide HV, Fr.refl _ _⟩
  · subst hval
    have HN := hide hnn
    rw [← hnn] at hn ⊢
    clear hy hx hS hnn
    go_enter Try.func26, Try.ntmps26
    go_wp2
    go_loopw [1, 5] (fun a i wr => ∃ j : Nat, j ≤ n ∧ a = .int .i64 (kkC k cs j) ∧ i = .int .i64 j ∧ Hid (OwnKys wr base (.slice (some ⟨g, 0, none⟩) cs.length cap) rs (kyTo k cs j)) ∧ Hid (Fr (Foot (.slice (some ⟨g, 0, none⟩) cs.length cap) rs cs.length) w wr)) (fun _ i _ => n - (intOf i).toNat)
    case atStart => exact ⟨0, Nat.zero_le _, rfl, rfl, unhide HV, Fr.refl _ _⟩
    case round =>
      obtain ⟨j, hj, rfl, rfl, HO, HFR⟩ := hrel
      by_cases hlt : j < n
      · have hlc : j < cs.length := by rw [← unhide HN]; exact hlt
        obtain ⟨_, ⟨ys, hy, hyy⟩, h3, _⟩ := (unhide HO)
        rw [kyTo_len] at hy hyy h3
        have hcl : wr.cell? ⟨g, j * 2 + 1, none⟩ = some (rV rs j) := by rw [hy.cellAt _ (by omega)]; exact (hyy j hlc).1
        have f0 := hy.frozenAt (j * 2)
        obtain ⟨u0, c0⟩ : ∃ u, wr.cell? ⟨g, j * 2, none⟩ = some u := by
          rw [hy.cellAt _ (by omega)]; exact ⟨_, List.getElem?_eq_getElem (by have := hy.1; omega)⟩
        have hrm := h3 j hlc
        rw [kyTo_R k cs j j (by omega), if_neg (by omega)] at hrm
        have hk1 := (unhide HSM) j (by omega)
        have hk2 := (unhide HSM) (j + 1) (by omega)
        have hst : Hid (kkC k cs (j + 1) = kkC k cs j + ((cR cs j).length : Int) + 1) := rfl
        rw [hst.out] at hk2
        have hsr := owns_setCell (a := ⟨g, j * 2, none⟩) hrm (fun e => owns_apart hrm hy (by decide) e rfl) (.int .i64 (kkC k cs j))
        have hcl2 : (wr.setCell ⟨g, j * 2, none⟩ (.int .i64 (kkC k cs j))).cell? ⟨g, j * 2 + 1, none⟩ = some (rV rs j) := by
          simp [go_sem, hcl]
        have hcon := hide (markInt32S_any base (rV rs j) _ _ (kkC k cs j + 1) _ hsr ((unhide HX) j hlc) (by omega) (by omega))
        have bj : (j : Int) < (n : Int) := by omega
        have HY := hide hy
        have HRM := hide hrm
        clear hy hyy h3 hrm hsr
        obtain ⟨K, hK⟩ : ∃ K, K = kkC k cs j := ⟨_, rfl⟩
        have hK2 := hide hK
        rw [← hK] at hcon hst hk1 hk2 hcl2 ⊢
        clear hK
        obtain ⟨L, hL⟩ : ∃ L, L = (cR cs j).length := ⟨_, rfl⟩
        have hL2 := hide hL
        rw [← hL] at hcon hst hk2
        clear hL
        go_wp2_with fail
        refine (unhide hcon).mono ?_
        rintro e w1 ⟨rfl, hom, hgr⟩
        have hO := (unhide HO)
        have e0 := kyTo_len k cs j
        have hO2 : OwnKys w1 base (.slice (some ⟨g, 0, none⟩) cs.length cap) rs (kyTo k cs (j + 1)) := by
          have hO' : OwnKys wr base (.slice (some ⟨g, 0, none⟩) (kyTo k cs j).length cap) rs (kyTo k cs j) := by rw [e0]; exact hO
          have hR : cR (kyTo k cs j) j = cR cs j := by rw [kyTo_R k cs j j (by omega), if_neg (by omega)]
          have := OwnKys.mark (zs := mkI32 (K + 1) L) (d := K) hO' (by omega) (by rw [hR, mkI32_len, unhide hL2]) (by rw [hR, ← unhide hL2]; exact hom) hgr
          rw [e0] at this
          rw [kyTo, ← unhide hK2, ← unhide hL2]
          exact this
        have HO2 := hide hO2
        have HF2 := hide (((unhide HFR).setCell (a := ⟨g, j * 2, none⟩) (.inl rfl) (.int .i64 K)).grown hgr (fun q hq => .inr ⟨j, hlc, hq⟩))
        clear hO hO2 hom hgr
        go_wp2
        go_roundw
        case rel => exact ⟨j + 1, by omega, by rw [hst.out]; congr 1; omega, by go_num, HO2, HF2⟩
        case measure => simp [intOf]; omega
      · obtain rfl : j = n := by omega
        have hfin : OwnKys wr base (.slice (some ⟨g, 0, none⟩) cs.length cap) rs (mkKys k cs) := by
          have h := unhide HO
          rw [unhide HN] at h
          rw [HMK.out]; exact h
        have HFIN := hide hfin
        clear hfin
        go_wp2
        go_ret
        exact ⟨rfl, by simpa [← unhide HN] using unhide HFIN, by simpa [← unhide HN] using unhide HFR⟩
set_option maxHeartbeats 1000000 in
theorem heldKeyS_any (v : Value) (cs : List (List Int × Int)) (k : Int) (w : World) (hv : KysAt w v (mkKys k cs)) (hn : cs.length ≤ 4398046511104) (hx : ∀ j, j < cs.length → (cR cs j).length ≤ 4398046511104) (hS : Small k cs) :
    Calls Try.prog 28 #[v, .int .i64 k] w fun e w' => e = .returned (.int .i64 (kkC k cs cs.length)) ∧ Ext w w' := by
  obtain ⟨ra, ao, ca, rfl, hca, hra, hxa⟩ := hv
  rw [mkKys_len] at hca hra hxa ⊢
  have hR : ∀ j, j < cs.length → cR (mkKys k cs) j = mkI32 (kkC k cs j + 1) (cR cs j).length := fun j hj => by rw [mkKys, kyTo_R k cs j _ (Nat.le_refl _), if_pos hj]
  have hW : ∀ j, j < cs.length → cW (mkKys k cs) j = kkC k cs j := fun j hj => by rw [mkKys, kyTo_W k cs j _ (Nat.le_refl _), if_pos hj]
  have HR := hide hR
  have HW := hide hW
  have HA := hide hra
  have HXA := hide hxa
  have HX := hide hx
  have HSM := hide hS
  obtain ⟨n, hnn⟩ : ∃ n, n = cs.length := ⟨_, rfl⟩
  rw [← hnn] at hca hn HR HW HA HXA HX ⊢
  have HN := hide hnn
  clear hR hW hra hxa hx hS hnn
  by_cases h0 : n = 0
  · subst h0
    have hk0 : Hid (kkC k cs 0 = k) := rfl
    rw [hk0.out]
    go_enter Try.func28, Try.ntmps28
    go_wp2
    go_loop [1, 5] (fun a i => a = .int .i64 k ∧ i = .int .i64 0) (fun _ _ => 0)
    case atStart => exact ⟨rfl, rfl⟩
    case round =>
      obtain ⟨rfl, rfl⟩ := hrel
      go_wp2
      go_ret
      exact ⟨rfl, Ext.refl _⟩
  · obtain ⟨b, off, rfl, hc⟩ := (unhide HXA) (by omega)
    have HC := hide hc
    clear HXA hc
    go_enter Try.func28, Try.ntmps28
    go_wp2
    go_loopw [1, 5] (fun a i wr => ∃ j : Nat, j ≤ n ∧ a = .int .i64 (kkC k cs j) ∧ i = .int .i64 j ∧ Ext w wr) (fun _ i _ => n - (intOf i).toNat)
    case atStart => exact ⟨0, Nat.zero_le _, rfl, rfl, Ext.refl _⟩
    case round =>
      obtain ⟨j, hj, rfl, rfl, hext⟩ := hrel
      by_cases hlt : j < n
      · have hcc := (unhide HC) j hlt
        have g1 := hext.cell hcc.1
        have g2 := hcc.2
        rw [(unhide HW) j hlt] at g2
        have g2 := hext.cell g2
        have hri := (unhide HA) j hlt
        rw [(unhide HR) j hlt] at hri
        have hk1 := (unhide HSM) j (by rw [← unhide HN]; omega)
        have hk2 := (unhide HSM) (j + 1) (by rw [← unhide HN]; omega)
        have hst : Hid (kkC k cs (j + 1) = kkC k cs j + ((cR cs j).length : Int) + 1) := rfl
        rw [hst.out] at hk2
        have hcon := hide (heldInt32S_any (rV ra j) (cR cs j).length (kkC k cs j + 1) wr (hri.ext hext) ((unhide HX) j hlt) (by omega) (by omega))
        have bj : (j : Int) < (n : Int) := by omega
        clear hri hcc
        obtain ⟨K, hK⟩ : ∃ K, K = kkC k cs j := ⟨_, rfl⟩
        rw [← hK] at hcon hst hk1 hk2 g2 ⊢
        clear hK
        obtain ⟨L, hL⟩ : ∃ L, L = (cR cs j).length := ⟨_, rfl⟩
        rw [← hL] at hcon hst hk2
        clear hL
        have hneg : ¬ K + 1 + (L : Int) < 0 := by omega
        go_wp2_with fail
        refine (unhide hcon).mono ?_
        rintro e w1 ⟨rfl, he⟩
        have E1 := hext.trans he
        go_wp2
        go_roundw
        case rel => exact ⟨j + 1, by omega, by rw [hst.out]; congr 1; omega, by go_num, E1⟩
        case measure => simp [intOf]; omega
      · obtain rfl : j = n := by omega
        go_wp2
        go_ret
        exact ⟨rfl, hext⟩
end Go.Proofs.Ytkimnihdjeonpaa
