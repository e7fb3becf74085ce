import Derived.Test.YtmomcccgjjjldaaDoorSpecRune
import Derived.Test.YtmomcccgjjjldaaDoorAppRune
import Derived.Test.YtmomcccgjjjldaaDoorCls
import Derived.Test.YtmomcccgjjjldaaDoorSzCls
namespace Go.Proofs.YtmomcccgjjjldaaDoor
open Go.RowKit
def txR (xs : List Int) : Nat → List Int
  | 0 => []
  | k + 1 => txR xs k ++ encR (at0 xs k)
def txT (cs : List (List Int × Int)) : Nat → List Int
  | 0 => []
  | i + 1 => txT cs i ++ txR (cR cs i) (cR cs i).length
theorem txR_len (xs : List Int) : ∀ k, (txR xs k).length ≤ 4 * k
  | 0 => by simp [txR]
  | k + 1 => by have := txR_len xs k; have := encR_len (at0 xs k); simp [txR]; omega
theorem txT_len (cs : List (List Int × Int)) : ∀ i, (txT cs i).length ≤ 4 * sumR cs i
  | 0 => by simp [txT]
  | i + 1 => by have := txT_len cs i; have := txR_len (cR cs i) (cR cs i).length; simp [txT, sumR]; omega
theorem sumR_mono (cs : List (List Int × Int)) (i : Nat) : ∀ n, i ≤ n → sumR cs i ≤ sumR cs n := by
  intro n
  induction n with
  | zero => intro h; have : i = 0 := by omega
            subst this; exact Nat.le_refl _
  | succ n ih =>
    intro h
    by_cases e : i = n + 1
    · subst e; exact Nat.le_refl _
    · have := ih (by omega); rw [sumR]; omega
theorem encR_enc (r : Int) : encR r = encL (if Utf8.valid r = true then r else 65533) := by
  unfold encR
  split
  · rfl
  · decide
def textC (cs : List (List Int × Int)) : List Int := txT cs cs.length
theorem run_s2b {P : Program} (w : World) (src dst e : TypeId) (hs : P.underlying src = some .string) (hd : P.underlying dst = some (.slice e)) (he : P.underlying e = some (.int .u8)) (zs : List Int) (hz : Bytes zs) :
    ∃ cap W', (convert src dst (.string (toBA zs))).run P w = .ok (.slice (some ⟨w.heap.size, 0, none⟩) zs.length cap) W' ∧ Ext w W' ∧ W'.heap.size = w.heap.size + 1 ∧
      ∀ j u, (zs.map (Value.int .u8))[j]? = some u → W'.cell? ((⟨w.heap.size, 0, none⟩ : Addr).add j) = some u := by
  have hr := run_bytes_of_string (P := P) w src dst e (toBA zs) hs hd he
  rw [toBA_size] at hr
  refine ⟨_, _, hr, ((Ext.refl w).drew.alloc _), by rw [World.size_alloc]; rfl, fun j u hj => ?_⟩
  have hjl : j < zs.length := by
    have := (List.getElem?_eq_some_iff.1 hj).1
    simpa using this
  rw [Addr.add_lit, Nat.zero_add]
  have hc := World.cell?_alloc_mark w.drew (bytesRow (toBA zs) (grownCap w zs.length 0 e)) e ((bytesRow (toBA zs) (grownCap w zs.length 0 e)).size, (bytesRow (toBA zs) (grownCap w zs.length 0 e)).size + 1) j
  have hsz : j < (toBA zs).data.size := by
    have : (toBA zs).data.size = zs.length := toBA_size zs
    omega
  rw [bytesRow_at _ _ _ hsz] at hc
  refine Eq.trans hc ?_
  have hb := hz.at0 j
  have hg := toBA_get zs hz j
  have e1 : (toBA zs).get! j = (toBA zs).data[j] := by
    show (toBA zs).data[j]! = _
    rw [getElem!_pos]
  rw [e1] at hg
  rw [hg]
  have e2 : zs[j]? = some (at0 zs j) := at0_lt hjl
  simp [e2] at hj
  rw [← hj]
  congr 2
  omega
set_option maxRecDepth 10000 in
set_option maxHeartbeats 2000000 in
theorem specTextOf_any (v : Value) (cs : List (List Int × Int)) (w : World) (hv : ClsAt w v cs) (hl : cs.length + sumR cs cs.length ≤ 16777216) (hI : ∀ j, j < cs.length → I32s (cR cs j)) :
    Calls Tryd.prog 17 #[v] w fun e w' => e = .returned (.string (toBA (textC cs))) ∧ Ext w w' := by
  obtain ⟨i0, hi, hz0, hz1, hz2⟩ := info_parts infoByteA
  obtain ⟨ra, ao, ca, rfl, hca, hra, hxa⟩ := hv
  have HF : Hid (textC cs = txT cs cs.length) := rfl
  obtain ⟨n, hnn⟩ : ∃ n, n = cs.length := ⟨_, rfl⟩
  rw [← hnn] at hca hra hxa hl hI HF ⊢
  have HA := hide hra
  have HI := hide hI
  have HXA := hide hxa
  clear hra hI hxa hnn
  go_enter Tryd.func17, Tryd.ntmps17
  go_wp2
  go_loopw [3, 4] (fun o i wr => ∃ (k : Nat), k ≤ n ∧ i = .int .i64 k ∧ wr.ownsRow w.heap.size 5 1 o (txT cs k).length ((txT cs k).map (Value.int .u8)) ∧ Ext w wr) (fun _ i _ => n - (intOf i).toNat)
  case atStart => exact ⟨0, Nat.zero_le _, rfl, by simpa [txT] using World.ownsRow_made w #[] 0 (Nat.le_refl _) (by unfold maxLen; omega) (by simp), (Ext.refl _).alloc _⟩
  case round =>
    obtain ⟨k, hk, rfl, hown, hext⟩ := hrel
    by_cases hlt : k < n
    · obtain ⟨b, off, hao, hc⟩ := (unhide HXA) (by omega)
      subst hao
      have HC := hide hc
      have hk2 := sumR_mono cs (k + 1) n (by omega)
      have hk3 := txT_len cs k
      have hk4 : Hid (sumR cs (k + 1) = sumR cs k + (cR cs k).length) := rfl
      rw [hk4.out] at hk2
      obtain ⟨a2, c2, hrv, hc2, hrx⟩ := (unhide HA) k hlt
      have h1 := (hc k hlt).1
      rw [hrv] at h1
      have hII := hide ((unhide HI) k hlt)
      obtain ⟨m, hm⟩ : ∃ m, m = (cR cs k).length := ⟨_, rfl⟩
      rw [← hm] at h1 hk2 hc2 hrx
      have HM := hide hm
      have HRX := hide hrx
      clear hc hrx hrv hm
      have bk : (k : Int) < (n : Int) := by omega
      go_wp2
      go_loopw [3, 5] (fun o i wr2 => ∃ (q : Nat), q ≤ m ∧ i = .int .i64 q ∧ wr2.ownsRow w.heap.size 5 1 o (txT cs k ++ txR (cR cs k) q).length ((txT cs k ++ txR (cR cs k) q).map (Value.int .u8)) ∧ Ext w wr2) (fun _ i _ => m - (intOf i).toNat)
      case atStart => exact ⟨0, Nat.zero_le _, rfl, by simpa [txR] using hown, hext⟩
      case round =>
        clear hown hext
        obtain ⟨q, hq, rfl, hown2, hext2⟩ := hrel
        have g1 := hext2.cell h1
        by_cases hlq : q < m
        · obtain ⟨b3, o3, ha3, hc3⟩ := (unhide HRX) (by omega)
          subst ha3
          have g3 := hext2.cell (hc3 q hlq)
          clear hc3
          have bq : (q : Int) < (m : Int) := by omega
          obtain ⟨x, hx⟩ : ∃ x, x = at0 (cR cs k) q := ⟨_, rfl⟩
          have hxb := (unhide hII).at0 q
          rw [← hx] at hxb g3
          have hst : Hid (txT cs k ++ txR (cR cs k) (q + 1) = (txT cs k ++ txR (cR cs k) q) ++ encR x) := by
            show _ = _
            rw [hx, List.append_assoc]; rfl
          have hql := txR_len (cR cs k) q
          have hql2 : (txT cs k ++ txR (cR cs k) q).length ≤ 67108864 := by simp; omega
          have henc := encR_enc x
          clear hx
          cases hval : Utf8.valid x
          · rw [hval] at henc
            have HE : Hid (encR x = encL 65533) := henc
            clear henc
            go_wp2_with fail
            refine (l1Valid_any _ _).mono ?_
            rintro e w3 ⟨rfl, rfl⟩
            go_wp2_with fail
            refine (l1Utf8_any _ _ (by omega) (by omega)).mono ?_
            rintro e w4 ⟨rfl, he4⟩
            rw [← unhide HE]
            obtain ⟨capb, w5, hrun, he5, hsz5, hcells⟩ := run_s2b (P := Tryd.prog) w4 _ _ _ Tryd.underlying9 Tryd.underlying22 Tryd.underlying5 (encR x) (encR_bytes x)
            have E5 := (hext2.trans he4).trans he5
            have hown5 := he5.owns (he4.owns hown2)
            have z5 := E5.size
            have el := encR_len x
            have HCE := hide hcells
            clear hcells
            go_wp2_with (at_builtin; go_must (refine wpList_append_own _ rfl _ _ 22 rfl w.heap.size 5 i0 (.int .u8 0) 1 1 Tryd.underlying22 hi hz0 hz1 hz2 rfl (by decide) _ _ _ rfl hown5 ⟨w4.heap.size, 0, none⟩ (encR x).length capb ((encR x).map (Value.int .u8)) rfl (by simp) (unhide HCE) (ints_oneCell _ _) ?_ ?_ ?_ ?_))
            · unfold maxLen; omega
            · omega
            · omega
            · intro v' w6 hown' hgrow _
              have hE : Ext w w6 := E5.grown hgrow (fun k hk => (hown5.lt k hk).1)
              have hO : w6.ownsRow w.heap.size 5 1 v' (txT cs k ++ txR (cR cs k) (q + 1)).length ((txT cs k ++ txR (cR cs k) (q + 1)).map (Value.int .u8)) := by
                rw [hst.out]; simpa [Nat.add_assoc] using hown'
              clear hown' hgrow hown5 hown2 hrun
              go_wp2
              go_roundw
              case rel => exact ⟨q + 1, by omega, by go_num, hO, hE⟩
              case measure => simp [intOf]; omega
          · rw [hval] at henc
            have HE : Hid (encR x = encL x) := henc
            have hvb := valid_bd hval
            clear henc
            go_wp2_with fail
            refine (l1Valid_any _ _).mono ?_
            rintro e w3 ⟨rfl, rfl⟩
            go_wp2_with fail
            refine (l1Utf8_any _ _ (by omega) (by omega)).mono ?_
            rintro e w4 ⟨rfl, he4⟩
            rw [← unhide HE]
            obtain ⟨capb, w5, hrun, he5, hsz5, hcells⟩ := run_s2b (P := Tryd.prog) w4 _ _ _ Tryd.underlying9 Tryd.underlying22 Tryd.underlying5 (encR x) (encR_bytes x)
            have E5 := (hext2.trans he4).trans he5
            have hown5 := he5.owns (he4.owns hown2)
            have z5 := E5.size
            have el := encR_len x
            have HCE := hide hcells
            clear hcells
            go_wp2_with (at_builtin; go_must (refine wpList_append_own _ rfl _ _ 22 rfl w.heap.size 5 i0 (.int .u8 0) 1 1 Tryd.underlying22 hi hz0 hz1 hz2 rfl (by decide) _ _ _ rfl hown5 ⟨w4.heap.size, 0, none⟩ (encR x).length capb ((encR x).map (Value.int .u8)) rfl (by simp) (unhide HCE) (ints_oneCell _ _) ?_ ?_ ?_ ?_))
            · unfold maxLen; omega
            · omega
            · omega
            · intro v' w6 hown' hgrow _
              have hE : Ext w w6 := E5.grown hgrow (fun k hk => (hown5.lt k hk).1)
              have hO : w6.ownsRow w.heap.size 5 1 v' (txT cs k ++ txR (cR cs k) (q + 1)).length ((txT cs k ++ txR (cR cs k) (q + 1)).map (Value.int .u8)) := by
                rw [hst.out]; simpa [Nat.add_assoc] using hown'
              clear hown' hgrow hown5 hown2 hrun
              go_wp2
              go_roundw
              case rel => exact ⟨q + 1, by omega, by go_num, hO, hE⟩
              case measure => simp [intOf]; omega
        · obtain rfl : q = m := by omega
          have hst : Hid (txT cs (k + 1) = txT cs k ++ txR (cR cs k) q) := by rw [unhide HM]; rfl
          rw [← hst.out] at hown2
          go_wp2
          go_roundw
          case rel => exact ⟨k + 1, by omega, by go_num, hown2, hext2⟩
          case measure => simp [intOf]; omega
    · obtain rfl : k = n := by omega
      have hcv := run_b2s (P := Tryd.prog) wr _ _ _ Tryd.underlying22 Tryd.underlying5 Tryd.underlying9 _ _ (ints_of_owns hown)
      rw [← HF.out] at hcv
      go_wp2
      go_ret
      exact ⟨rfl, hext⟩
set_option maxRecDepth 10000 in
set_option maxHeartbeats 2000000 in
theorem implTextOf_any (v : Value) (cs : List (List Int × Int)) (w : World) (hv : ClsAt w v cs) (hl : cs.length + sumR cs cs.length ≤ 16777216) (hI : ∀ j, j < cs.length → I32s (cR cs j)) :
    Calls Tryd.prog 10 #[v] w fun e w' => e = .returned (.string (toBA (textC cs))) ∧ Ext w w' := by
  obtain ⟨ra, ao, ca, rfl, hca, hra, hxa⟩ := hv
  have HF : Hid (textC cs = txT cs cs.length) := rfl
  obtain ⟨n, hnn⟩ : ∃ n, n = cs.length := ⟨_, rfl⟩
  rw [← hnn] at hca hra hxa hl hI HF ⊢
  have HA := hide hra
  have HI := hide hI
  have HXA := hide hxa
  clear hra hI hxa hnn
  go_enter Tryd.func10, Tryd.ntmps10
  go_wp2
  go_loopw [3, 10] (fun o i wr => ∃ (k : Nat), k ≤ n ∧ i = .int .i64 k ∧ wr.ownsRow w.heap.size 5 1 o (txT cs k).length ((txT cs k).map (Value.int .u8)) ∧ Ext w wr) (fun _ i _ => n - (intOf i).toNat)
  case atStart => exact ⟨0, Nat.zero_le _, rfl, by simpa [txT] using World.ownsRow_nil w w.heap.size 5 1, Ext.refl _⟩
  case round =>
    obtain ⟨k, hk, rfl, hown, hext⟩ := hrel
    by_cases hlt : k < n
    · obtain ⟨b, off, hao, hc⟩ := (unhide HXA) (by omega)
      subst hao
      have hk2 := sumR_mono cs (k + 1) n (by omega)
      have hk3 := txT_len cs k
      have hk4 : Hid (sumR cs (k + 1) = sumR cs k + (cR cs k).length) := rfl
      rw [hk4.out] at hk2
      obtain ⟨a2, c2, hrv, hc2, hrx⟩ := (unhide HA) k hlt
      have h1 := hext.cell (hc k hlt).1
      have h2 := hext.cell (hc k hlt).2
      rw [hrv] at h1
      have hII := hide ((unhide HI) k hlt)
      obtain ⟨m, hm⟩ : ∃ m, m = (cR cs k).length := ⟨_, rfl⟩
      rw [← hm] at h1 hk2 hc2 hrx
      have HM := hide hm
      have HRX := hide hrx
      clear hc hrx hrv hm
      have bk : (k : Int) < (n : Int) := by omega
      have hsz := hext.size
      go_wp2
      go_loopw [3, 17] (fun o i wr2 => ∃ (q : Nat), q ≤ m ∧ i = .int .i64 q ∧ wr2.ownsRow w.heap.size 5 1 o (txT cs k ++ txR (cR cs k) q).length ((txT cs k ++ txR (cR cs k) q).map (Value.int .u8)) ∧ Ext w wr2) (fun _ i _ => m - (intOf i).toNat)
      case atStart =>
        refine ⟨0, Nat.zero_le _, rfl, ?_, ?_⟩
        · rw [show txR (cR cs k) 0 = [] from rfl, List.append_nil]
          exact ((Ext.refl _).alloc _).owns hown
        · exact hext.alloc _
      case round =>
        clear hown hext h1 h2
        obtain ⟨q, hq, rfl, hown2, hext2⟩ := hrel
        by_cases hlq : q < m
        · obtain ⟨b3, o3, ha3, hc3⟩ := (unhide HRX) (by omega)
          subst ha3
          have g3 := hext2.cell (hc3 q hlq)
          clear hc3
          have bq : (q : Int) < (m : Int) := by omega
          obtain ⟨x, hx⟩ : ∃ x, x = at0 (cR cs k) q := ⟨_, rfl⟩
          have hxb := (unhide hII).at0 q
          rw [← hx] at hxb g3
          have hst : Hid (txT cs k ++ txR (cR cs k) (q + 1) = (txT cs k ++ txR (cR cs k) q) ++ encR x) := by
            show _ = _
            rw [hx, List.append_assoc]; rfl
          have hql := txR_len (cR cs k) q
          have hql2 : (txT cs k ++ txR (cR cs k) q).length ≤ 67108864 := by simp; omega
          have z2 := hext2.size
          clear hx
          go_wp2_with fail
          refine (AppendRune_any w.heap.size _ _ _ x _ z2 (by omega) hown2 hxb.1 hxb.2).mono ?_
          rintro e w4 ⟨v', rfl, hown', o, hgrow⟩
          have hE : Ext w w4 := (hext2.alloc o).grown hgrow (fun k hk => (hown2.lt k hk).1)
          have hO : w4.ownsRow w.heap.size 5 1 v' (txT cs k ++ txR (cR cs k) (q + 1)).length ((txT cs k ++ txR (cR cs k) (q + 1)).map (Value.int .u8)) := by
            rw [hst.out]; simpa [Nat.add_assoc] using hown'
          clear hown' hgrow hown2
          go_wp2
          go_roundw
          case rel => exact ⟨q + 1, by omega, by go_num, hO, hE⟩
          case measure => simp [intOf]; omega
        · obtain rfl : q = m := by omega
          have hst : Hid (txT cs (k + 1) = txT cs k ++ txR (cR cs k) q) := by rw [unhide HM]; rfl
          rw [← hst.out] at hown2
          go_wp2
          go_roundw
          case rel => exact ⟨k + 1, by omega, by go_num, hown2, hext2⟩
          case measure => simp [intOf]; omega
    · obtain rfl : k = n := by omega
      have hcv := run_b2s (P := Tryd.prog) wr _ _ _ Tryd.underlying22 Tryd.underlying5 Tryd.underlying9 _ _ (ints_of_owns hown)
      rw [← HF.out] at hcv
      go_wp2
      go_ret
      exact ⟨rfl, hext⟩
end Go.Proofs.YtmomcccgjjjldaaDoor
