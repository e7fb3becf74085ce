import Derived.Test.YtokjpnlmkecleaaGreatDoorWhole
import Derived.Test.YtokjpnlmkecleaaGreatDoorSpecRune
import Derived.Test.YtokjpnlmkecleaaGreatDoorAppRune
import Derived.Deep.RegionHeld3
import Derived.Lib.OthersKept
namespace Go.Proofs.YtokjpnlmkecleaaGreatDoor
open Go.RowKit

def sumR (cs : List (List Int × Int)) : Nat → Nat
  | 0 => 0
  | j + 1 => sumR cs j + (cR cs j).length
theorem szInt32S_any (ao : Option Addr) (n cap : Nat) (l : Int) (w : World) (h0 : 0 ≤ l) (h1 : l ≤ 4398046511104) (hn : (n : Int) ≤ 9223372036854775807) :
    Calls Tryz.prog 43 #[.slice ao n cap, .int .i64 l] w fun e w' => e = .returned (.int .i64 (if l < (n : Int) then -1 else l - (n : Int))) ∧ w' = w := by
  by_cases h : l < (n : Int)
  · rw [if_pos h]
    go_enter Tryz.func43, Tryz.ntmps43
    go_wp2
    go_ret
    exact ⟨rfl, rfl⟩
  · rw [if_neg h]
    go_enter Tryz.func43, Tryz.ntmps43
    go_wp2
    go_ret
    exact ⟨rfl, rfl⟩
end Go.Proofs.YtokjpnlmkecleaaGreatDoor

namespace Go.Proofs.YtokjpnlmkecleaaGreatDoor
open Go.RowKit

def txR (xs : List Int) : Nat → List Int
  | 0 => []
  | k + 1 => txR xs k ++ encR (at0 xs k)
def txT (cs : List (List Int × Int)) : Nat → List Int
  | 0 => []
  | i + 1 => txT cs i ++ txR (cR cs i) (cR cs i).length
theorem txR_len (xs : List Int) : ∀ k, (txR xs k).length ≤ 4 * k
  | 0 => by simp [txR]
  | k + 1 => by have := txR_len xs k; have := encR_len (at0 xs k); simp [txR]; omega
theorem txT_len (cs : List (List Int × Int)) : ∀ i, (txT cs i).length ≤ 4 * sumR cs i
  | 0 => by simp [txT]
  | i + 1 => by have := txT_len cs i; have := txR_len (cR cs i) (cR cs i).length; simp [txT, sumR]; omega
theorem sumR_mono (cs : List (List Int × Int)) (i : Nat) : ∀ n, i ≤ n → sumR cs i ≤ sumR cs n := by
  intro n
  induction n with
  | zero => intro h; have : i = 0 := by omega
            subst this; exact Nat.le_refl _
  | succ n ih =>
    intro h
    by_cases e : i = n + 1
    · subst e; exact Nat.le_refl _
    · have := ih (by omega); rw [sumR]; omega
theorem encR_enc (r : Int) : encR r = encL (if Utf8.valid r = true then r else 65533) := by
  unfold encR
  split
  · rfl
  · decide
/-- The text of clusters, as bytes. -/
def textC (cs : List (List Int × Int)) : List Int := txT cs cs.length

theorem run_s2b {P : Program} (w : World) (src dst e : TypeId) (hs : P.underlying src = some .string) (hd : P.underlying dst = some (.slice e)) (he : P.underlying e = some (.int .u8)) (zs : List Int) (hz : Bytes zs) :
    ∃ cap W', (convert src dst (.string (toBA zs))).run P w = .ok (.slice (some ⟨w.heap.size, 0, none⟩) zs.length cap) W' ∧ Ext w W' ∧ W'.heap.size = w.heap.size + 1 ∧
      ∀ j u, (zs.map (Value.int .u8))[j]? = some u → W'.cell? ((⟨w.heap.size, 0, none⟩ : Addr).add j) = some u := by
  have hr := run_bytes_of_string (P := P) w src dst e (toBA zs) hs hd he
  rw [toBA_size] at hr
  refine ⟨_, _, hr, ((Ext.refl w).drew.alloc _), by rw [World.size_alloc]; rfl, fun j u hj => ?_⟩
  have hjl : j < zs.length := by
    have := (List.getElem?_eq_some_iff.1 hj).1
    simpa using this
  rw [Addr.add_lit, Nat.zero_add]
  have hc := World.cell?_alloc_mark w.drew (bytesRow (toBA zs) (grownCap w zs.length 0 e)) e ((bytesRow (toBA zs) (grownCap w zs.length 0 e)).size, (bytesRow (toBA zs) (grownCap w zs.length 0 e)).size + 1) j
  have hsz : j < (toBA zs).data.size := by
    have : (toBA zs).data.size = zs.length := toBA_size zs
    omega
  rw [bytesRow_at _ _ _ hsz] at hc
  refine Eq.trans hc ?_
  have hb := hz.at0 j
  have hg := toBA_get zs hz j
  have e1 : (toBA zs).get! j = (toBA zs).data[j] := by
    show (toBA zs).data[j]! = _
    rw [getElem!_pos]
  rw [e1] at hg
  rw [hg]
  have e2 : zs[j]? = some (at0 zs j) := at0_lt hjl
  simp [e2] at hj
  rw [← hj]
  congr 2
  omega

set_option maxRecDepth 10000 in
set_option maxHeartbeats 2000000 in
theorem specTextOf_any (v : Value) (cs : List (List Int × Int)) (w : World) (hv : ClsAt w v cs) (hl : cs.length + sumR cs cs.length ≤ 16777216) (hI : ∀ j, j < cs.length → I32s (cR cs j)) :
    Calls Tryz.prog 37 #[v] w fun e w' => e = .returned (.string (toBA (textC cs))) ∧ Ext w w' := by
  obtain ⟨i0, hi, hz0, hz1, hz2⟩ := info_parts infoByteA
  obtain ⟨ra, ao, ca, rfl, hca, hra, hxa⟩ := hv
  have HF : Hid (textC cs = txT cs cs.length) := rfl
  obtain ⟨n, hnn⟩ : ∃ n, n = cs.length := ⟨_, rfl⟩
  rw [← hnn] at hca hra hxa hl hI HF ⊢
  have HA := hide hra
  have HI := hide hI
  have HXA := hide hxa
  clear hra hI hxa hnn
  go_enter Tryz.func37, Tryz.ntmps37
  go_wp2
  go_loopw [3, 4] (fun o i wr => ∃ (k : Nat), k ≤ n ∧ i = .int .i64 k ∧ wr.ownsRow w.heap.size 5 1 o (txT cs k).length ((txT cs k).map (Value.int .u8)) ∧ Ext w wr) (fun _ i _ => n - (intOf i).toNat)
  case atStart => exact ⟨0, Nat.zero_le _, rfl, by simpa [txT] using World.ownsRow_made w #[] 0 (Nat.le_refl _) (by unfold maxLen; omega) (by simp), (Ext.refl _).alloc _⟩
  case round =>
    obtain ⟨k, hk, rfl, hown, hext⟩ := hrel
    by_cases hlt : k < n
    · obtain ⟨b, off, hao, hc⟩ := (unhide HXA) (by omega)
      subst hao
      have HC := hide hc
      have hk2 := sumR_mono cs (k + 1) n (by omega)
      have hk3 := txT_len cs k
      have hk4 : Hid (sumR cs (k + 1) = sumR cs k + (cR cs k).length) := rfl
      rw [hk4.out] at hk2
      obtain ⟨a2, c2, hrv, hc2, hrx⟩ := (unhide HA) k hlt
      have h1 := (hc k hlt).1
      rw [hrv] at h1
      have hII := hide ((unhide HI) k hlt)
      obtain ⟨m, hm⟩ : ∃ m, m = (cR cs k).length := ⟨_, rfl⟩
      rw [← hm] at h1 hk2 hc2 hrx
      have HM := hide hm
      have HRX := hide hrx
      clear hc hrx hrv hm
      have bk : (k : Int) < (n : Int) := by omega
      go_wp2
      go_loopw [3, 5] (fun o i wr2 => ∃ (q : Nat), q ≤ m ∧ i = .int .i64 q ∧ wr2.ownsRow w.heap.size 5 1 o (txT cs k ++ txR (cR cs k) q).length ((txT cs k ++ txR (cR cs k) q).map (Value.int .u8)) ∧ Ext w wr2) (fun _ i _ => m - (intOf i).toNat)
      case atStart => exact ⟨0, Nat.zero_le _, rfl, by simpa [txR] using hown, hext⟩
      case round =>
        clear hown hext
        obtain ⟨q, hq, rfl, hown2, hext2⟩ := hrel
        have g1 := hext2.cell h1
        by_cases hlq : q < m
        · obtain ⟨b3, o3, ha3, hc3⟩ := (unhide HRX) (by omega)
          subst ha3
          have g3 := hext2.cell (hc3 q hlq)
          clear hc3
          have bq : (q : Int) < (m : Int) := by omega
          obtain ⟨x, hx⟩ : ∃ x, x = at0 (cR cs k) q := ⟨_, rfl⟩
          have hxb := (unhide hII).at0 q
          rw [← hx] at hxb g3
          have hst : Hid (txT cs k ++ txR (cR cs k) (q + 1) = (txT cs k ++ txR (cR cs k) q) ++ encR x) := by
            show _ = _
            rw [hx, List.append_assoc]; rfl
          have hql := txR_len (cR cs k) q
          have hql2 : (txT cs k ++ txR (cR cs k) q).length ≤ 67108864 := by simp; omega
          have henc := encR_enc x
          clear hx
          cases hval : Utf8.valid x
          · rw [hval] at henc
            have HE : Hid (encR x = encL 65533) := henc
            clear henc
            go_wp2_with fail
            refine (l1Valid_any _ _).mono ?_
            rintro e w3 ⟨rfl, rfl⟩
            go_wp2_with fail
            refine (l1Utf8_any _ _ (by omega) (by omega)).mono ?_
            rintro e w4 ⟨rfl, he4⟩
            rw [← unhide HE]
            obtain ⟨capb, w5, hrun, he5, hsz5, hcells⟩ := run_s2b (P := Tryz.prog) w4 _ _ _ Tryz.underlying9 Tryz.underlying22 Tryz.underlying5 (encR x) (encR_bytes x)
            have E5 := (hext2.trans he4).trans he5
            have hown5 := he5.owns (he4.owns hown2)
            have z5 := E5.size
            have el := encR_len x
            have HCE := hide hcells
            clear hcells
            go_wp2_with (at_builtin; go_must (refine wpList_append_own _ rfl _ _ 22 rfl w.heap.size 5 i0 (.int .u8 0) 1 1 Tryz.underlying22 hi hz0 hz1 hz2 rfl (by decide) _ _ _ rfl hown5 ⟨w4.heap.size, 0, none⟩ (encR x).length capb ((encR x).map (Value.int .u8)) rfl (by simp) (unhide HCE) (ints_oneCell _ _) ?_ ?_ ?_ ?_))
            · unfold maxLen; omega
            · omega
            · omega
            · intro v' w6 hown' hgrow _
              have hE : Ext w w6 := E5.grown hgrow (fun k hk => (hown5.lt k hk).1)
              have hO : w6.ownsRow w.heap.size 5 1 v' (txT cs k ++ txR (cR cs k) (q + 1)).length ((txT cs k ++ txR (cR cs k) (q + 1)).map (Value.int .u8)) := by
                rw [hst.out]; simpa [Nat.add_assoc] using hown'
              clear hown' hgrow hown5 hown2 hrun
              go_wp2
              go_roundw
              case rel => exact ⟨q + 1, by omega, by go_num, hO, hE⟩
              case measure => simp [intOf]; omega
          · rw [hval] at henc
            have HE : Hid (encR x = encL x) := henc
            have hvb := valid_bd hval
            clear henc
            go_wp2_with fail
            refine (l1Valid_any _ _).mono ?_
            rintro e w3 ⟨rfl, rfl⟩
            go_wp2_with fail
            refine (l1Utf8_any _ _ (by omega) (by omega)).mono ?_
            rintro e w4 ⟨rfl, he4⟩
            rw [← unhide HE]
            obtain ⟨capb, w5, hrun, he5, hsz5, hcells⟩ := run_s2b (P := Tryz.prog) w4 _ _ _ Tryz.underlying9 Tryz.underlying22 Tryz.underlying5 (encR x) (encR_bytes x)
            have E5 := (hext2.trans he4).trans he5
            have hown5 := he5.owns (he4.owns hown2)
            have z5 := E5.size
            have el := encR_len x
            have HCE := hide hcells
            clear hcells
            go_wp2_with (at_builtin; go_must (refine wpList_append_own _ rfl _ _ 22 rfl w.heap.size 5 i0 (.int .u8 0) 1 1 Tryz.underlying22 hi hz0 hz1 hz2 rfl (by decide) _ _ _ rfl hown5 ⟨w4.heap.size, 0, none⟩ (encR x).length capb ((encR x).map (Value.int .u8)) rfl (by simp) (unhide HCE) (ints_oneCell _ _) ?_ ?_ ?_ ?_))
            · unfold maxLen; omega
            · omega
            · omega
            · intro v' w6 hown' hgrow _
              have hE : Ext w w6 := E5.grown hgrow (fun k hk => (hown5.lt k hk).1)
              have hO : w6.ownsRow w.heap.size 5 1 v' (txT cs k ++ txR (cR cs k) (q + 1)).length ((txT cs k ++ txR (cR cs k) (q + 1)).map (Value.int .u8)) := by
                rw [hst.out]; simpa [Nat.add_assoc] using hown'
              clear hown' hgrow hown5 hown2 hrun
              go_wp2
              go_roundw
              case rel => exact ⟨q + 1, by omega, by go_num, hO, hE⟩
              case measure => simp [intOf]; omega
        · obtain rfl : q = m := by omega
          have hst : Hid (txT cs (k + 1) = txT cs k ++ txR (cR cs k) q) := by rw [unhide HM]; rfl
          rw [← hst.out] at hown2
          go_wp2
          go_roundw
          case rel => exact ⟨k + 1, by omega, by go_num, hown2, hext2⟩
          case measure => simp [intOf]; omega
    · obtain rfl : k = n := by omega
      have hcv := run_b2s (P := Tryz.prog) wr _ _ _ Tryz.underlying22 Tryz.underlying5 Tryz.underlying9 _ _ (ints_of_owns hown)
      rw [← HF.out] at hcv
      go_wp2
      go_ret
      exact ⟨rfl, hext⟩
set_option maxRecDepth 10000 in
set_option maxHeartbeats 2000000 in
theorem implTextOf_any (v : Value) (cs : List (List Int × Int)) (w : World) (hv : ClsAt w v cs) (hl : cs.length + sumR cs cs.length ≤ 16777216) (hI : ∀ j, j < cs.length → I32s (cR cs j)) :
    Calls Tryz.prog 103 #[v] w fun e w' => e = .returned (.string (toBA (textC cs))) ∧ Ext w w' := by
  obtain ⟨ra, ao, ca, rfl, hca, hra, hxa⟩ := hv
  have HF : Hid (textC cs = txT cs cs.length) := rfl
  obtain ⟨n, hnn⟩ : ∃ n, n = cs.length := ⟨_, rfl⟩
  rw [← hnn] at hca hra hxa hl hI HF ⊢
  have HA := hide hra
  have HI := hide hI
  have HXA := hide hxa
  clear hra hI hxa hnn
  go_enter Tryz.func103, Tryz.ntmps103
  go_wp2
  go_loopw [3, 10] (fun o i wr => ∃ (k : Nat), k ≤ n ∧ i = .int .i64 k ∧ wr.ownsRow w.heap.size 5 1 o (txT cs k).length ((txT cs k).map (Value.int .u8)) ∧ Ext w wr) (fun _ i _ => n - (intOf i).toNat)
  case atStart => exact ⟨0, Nat.zero_le _, rfl, by simpa [txT] using World.ownsRow_nil w w.heap.size 5 1, Ext.refl _⟩
  case round =>
    obtain ⟨k, hk, rfl, hown, hext⟩ := hrel
    by_cases hlt : k < n
    · obtain ⟨b, off, hao, hc⟩ := (unhide HXA) (by omega)
      subst hao
      have hk2 := sumR_mono cs (k + 1) n (by omega)
      have hk3 := txT_len cs k
      have hk4 : Hid (sumR cs (k + 1) = sumR cs k + (cR cs k).length) := rfl
      rw [hk4.out] at hk2
      obtain ⟨a2, c2, hrv, hc2, hrx⟩ := (unhide HA) k hlt
      have h1 := hext.cell (hc k hlt).1
      have h2 := hext.cell (hc k hlt).2
      rw [hrv] at h1
      have hII := hide ((unhide HI) k hlt)
      obtain ⟨m, hm⟩ : ∃ m, m = (cR cs k).length := ⟨_, rfl⟩
      rw [← hm] at h1 hk2 hc2 hrx
      have HM := hide hm
      have HRX := hide hrx
      clear hc hrx hrv hm
      have bk : (k : Int) < (n : Int) := by omega
      have hsz := hext.size
      go_wp2
      go_loopw [3, 17] (fun o i wr2 => ∃ (q : Nat), q ≤ m ∧ i = .int .i64 q ∧ wr2.ownsRow w.heap.size 5 1 o (txT cs k ++ txR (cR cs k) q).length ((txT cs k ++ txR (cR cs k) q).map (Value.int .u8)) ∧ Ext w wr2) (fun _ i _ => m - (intOf i).toNat)
      case atStart =>
        refine ⟨0, Nat.zero_le _, rfl, ?_, ?_⟩
        · rw [show txR (cR cs k) 0 = [] from rfl, List.append_nil]
          exact ((Ext.refl _).alloc _).owns hown
        · exact hext.alloc _
      case round =>
        clear hown hext h1 h2
        obtain ⟨q, hq, rfl, hown2, hext2⟩ := hrel
        by_cases hlq : q < m
        · obtain ⟨b3, o3, ha3, hc3⟩ := (unhide HRX) (by omega)
          subst ha3
          have g3 := hext2.cell (hc3 q hlq)
          clear hc3
          have bq : (q : Int) < (m : Int) := by omega
          obtain ⟨x, hx⟩ : ∃ x, x = at0 (cR cs k) q := ⟨_, rfl⟩
          have hxb := (unhide hII).at0 q
          rw [← hx] at hxb g3
          have hst : Hid (txT cs k ++ txR (cR cs k) (q + 1) = (txT cs k ++ txR (cR cs k) q) ++ encR x) := by
            show _ = _
            rw [hx, List.append_assoc]; rfl
          have hql := txR_len (cR cs k) q
          have hql2 : (txT cs k ++ txR (cR cs k) q).length ≤ 67108864 := by simp; omega
          have z2 := hext2.size
          clear hx
          go_wp2_with fail
          refine (AppendRune_any w.heap.size _ _ _ x _ z2 (by omega) hown2 hxb.1 hxb.2).mono ?_
          rintro e w4 ⟨v', rfl, hown', o, hgrow⟩
          have hE : Ext w w4 := (hext2.alloc o).grown hgrow (fun k hk => (hown2.lt k hk).1)
          have hO : w4.ownsRow w.heap.size 5 1 v' (txT cs k ++ txR (cR cs k) (q + 1)).length ((txT cs k ++ txR (cR cs k) (q + 1)).map (Value.int .u8)) := by
            rw [hst.out]; simpa [Nat.add_assoc] using hown'
          clear hown' hgrow hown2
          go_wp2
          go_roundw
          case rel => exact ⟨q + 1, by omega, by go_num, hO, hE⟩
          case measure => simp [intOf]; omega
        · obtain rfl : q = m := by omega
          have hst : Hid (txT cs (k + 1) = txT cs k ++ txR (cR cs k) q) := by rw [unhide HM]; rfl
          rw [← hst.out] at hown2
          go_wp2
          go_roundw
          case rel => exact ⟨k + 1, by omega, by go_num, hown2, hext2⟩
          case measure => simp [intOf]; omega
    · obtain rfl : k = n := by omega
      have hcv := run_b2s (P := Tryz.prog) wr _ _ _ Tryz.underlying22 Tryz.underlying5 Tryz.underlying9 _ _ (ints_of_owns hown)
      rw [← HF.out] at hcv
      go_wp2
      go_ret
      exact ⟨rfl, hext⟩
end Go.Proofs.YtokjpnlmkecleaaGreatDoor

namespace Go.Proofs.YtokjpnlmkecleaaGreatDoor
open Go.RowKit

theorem infoByte : (Tryz.prog.info? 5).map (fun i => (i.zero, i.size, i.bytes)) = some (some (.int .u8 0), 1, 1) := by kernel_rfl
theorem str_eq {a b : ByteArray} (h : a.toList = b.toList) : a = b := by
  rw [ByteArray.toList_eq, ByteArray.toList_eq] at h
  exact WideShapes.bytes_inj h
theorem ints_cut {w : World} {bs : List Int} {b off cap : Nat} (i n : Nat) (hc : ∀ j, j < bs.length → w.cell? ⟨b, off + j, none⟩ = some (.int .u8 (at0 bs j))) (h : i + n ≤ bs.length) (hn : n ≤ cap) :
    IntsAt w .u8 (.slice (some ⟨b, off + i, none⟩) n cap) ((bs.drop i).take n) := by
  have hl : ((bs.drop i).take n).length = n := by simp; omega
  refine ⟨some ⟨b, off + i, none⟩, cap, by rw [hl], by omega, fun _ => ⟨b, off + i, rfl, fun j hj => ?_⟩⟩
  rw [hl] at hj
  have := hc (i + j) (by omega)
  rw [← Nat.add_assoc] at this
  rw [this]
  simp [at0, hj]
/-- b[i:i+n], n above 0: the cut's value. -/
theorem run_cut {P : Program} (t e : TypeId) (I : TypeInfo) (b off len cap i n : Nat) (ht : P.underlying t = some (.slice (P.elem t))) (he : P.elem t = e) (hi : P.info? e = some I) (hz : I.size = 1) (h : i + n ≤ cap) (h0 : 0 < n) (w : World) :
    (Instr.slice t (.slice (some ⟨b, off, none⟩) len cap) (some (.int .i64 (i : Int))) (some (.int .i64 ((i : Int) + (n : Int)))) none).run P w = .ok (.slice (some ⟨b, off + i, none⟩) n (cap - i)) w := by
  rw [run_slice_lh (P := P) w t _ _ _ ht .i64 .i64 _ _ (by omega) (by omega) (by omega)]
  have e1 : ((i : Int) + (n : Int)).toNat - i = n := by omega
  have e2 : ¬ cap = i := by omega
  simp [sizeOf, typeInfo, he, hi, hz, sliced, e1, e2, Addr.add_lit]
set_option maxHeartbeats 400000 in
theorem l1Rune_any (bs : List Int) (hb : Bytes bs) (v : Value) (i : Nat) (w : World) (hv : IntsAt w .u8 v bs) (hi : i < bs.length) (hl : bs.length ≤ 4398046511104) :
    Calls Tryz.prog 81 #[v, .int .i64 i] w fun e w' => e = .returned (.tuple #[.int .i64 (decL (bs.drop i)).1, .int .i64 (decL (bs.drop i)).2]) ∧ Ext w w' := by
  have hv0 := hv
  obtain ⟨ao, cap, rfl, hcap, hr⟩ := hv
  obtain ⟨b, off, rfl, hc⟩ := hr (by omega)
  clear hr
  have g0 := hc i (by omega)
  have hbi : (i : Int) < (bs.length : Int) := by omega
  have q0 : at0 (bs.drop i) 0 = at0 bs i := by rw [at0_drop]; rfl
  have hlen : (bs.drop i).length = bs.length - i := by simp
  obtain ⟨n, hn⟩ : ∃ n, n = need (at0 bs i) := ⟨_, rfl⟩
  have h4 : n ≤ 4 := by rw [hn]; unfold need; (repeat' split) <;> omega
  by_cases hA : n = 0 ∨ bs.length < i + n
  · have HF : Hid (decL (bs.drop i) = (65533, 1)) := rune_short _ (hb.drop i) (by rw [q0, ← hn, hlen]; omega) (by omega)
    have HN : Hid (n = need (at0 bs i)) := hn
    clear hn hc q0 hlen
    go_enter Tryz.func81, Tryz.ntmps81
    go_wp2_with fail
    refine (l1Need_any _ _).mono ?_
    rw [← HN.out]
    rintro e w1 ⟨rfl, rfl⟩
    rcases hA with hA | hA
    · subst hA
      go_wp2
      go_ret2
      rw [HF.out]
      exact ⟨rfl, Ext.refl _⟩
    · by_cases h0 : n = 0
      · subst h0; omega
      have hz : ((n : Int) == 0) = false := by simp; omega
      have hy : (bs.length : Int) < (i : Int) + (n : Int) := by omega
      go_wp2
      go_ret2
      rw [HF.out]
      exact ⟨rfl, Ext.refl _⟩
  · obtain ⟨R1, R2, R3⟩ := rune_long (bs.drop i) (hb.drop i) n (by rw [q0]; exact hn) (by omega) (by rw [hlen]; omega)
    have HN : Hid (n = need (at0 bs i)) := hn
    have hz : ((n : Int) == 0) = false := by simp; omega
    have hy : (i : Int) + (n : Int) ≤ (bs.length : Int) := by omega
    clear hn q0 hlen
    obtain ⟨V, hV⟩ : ∃ V, V = valL (bs.drop i) n := ⟨_, rfl⟩
    have HV : Hid (V = valL (bs.drop i) n) := hV
    rw [← hV] at R1 R2 R3
    clear hV
    cases hval : Utf8.valid V
    · have HF : Hid (decL (bs.drop i) = (65533, 1)) := R1 hval
      clear R1 R2 R3 hc
      go_enter Tryz.func81, Tryz.ntmps81
      go_wp2_with fail
      refine (l1Need_any _ _).mono ?_
      rw [← HN.out]
      rintro e w1 ⟨rfl, rfl⟩
      go_wp2_with fail
      refine (l1Value_any bs hb _ i n _ hv0 (by omega) (by omega) h4 hl).mono ?_
      rw [← HV.out]
      rintro e w2 ⟨rfl, he⟩
      go_wp2_with fail
      go_quiet ((go_at_call 68; exact Calls.quiet_of_same (l1Valid_any _ _)))
      go_wp2
      go_ret2
      rw [HF.out]
      exact ⟨rfl, he.drewN _⟩
    · have hbd := valid_bd hval
      have hcut := fun {W : World} (he : Ext w W) => run_b2s (P := Tryz.prog) W _ _ _ Tryz.underlying22 Tryz.underlying5 Tryz.underlying9 _ _ (ints_cut (cap := cap - i) i n (fun j hj => he.cell (hc j hj)) (by omega) (by omega))
      have HCUT : Hid (∀ {W : World}, Ext w W → (convert 22 9 (.slice (some ⟨b, off + i, none⟩) n (cap - i))).run Tryz.prog W = .ok (.string (toBA ((bs.drop i).take n))) W) := hcut
      clear hcut R1 hc
      obtain ⟨S, hS⟩ : ∃ S, S = toBA ((bs.drop i).take n) := ⟨_, rfl⟩
      have HS : Hid (S = toBA ((bs.drop i).take n)) := hS
      rw [← hS] at HCUT
      clear hS
      go_enter Tryz.func81, Tryz.ntmps81
      go_wp2_with fail
      refine (l1Need_any _ _).mono ?_
      rw [← HN.out]
      rintro e w1 ⟨rfl, rfl⟩
      go_wp2_with fail
      refine (l1Value_any bs hb _ i n _ hv0 (by omega) (by omega) h4 hl).mono ?_
      rw [← HV.out]
      rintro e w2 ⟨rfl, he⟩
      obtain ⟨I0, hI, hI0, hI1, hI2⟩ := info_parts infoByte
      have hcv := run_cut (P := Tryz.prog) 22 5 I0 b off bs.length cap i n (by kernel_rfl) (by kernel_rfl) hI hI1 (by omega) (by omega)
      clear hI hI0 hI1 hI2
      have hwr : IntKind.i64.wrap ((i : Int) + (n : Int)) = (i : Int) + (n : Int) := by rw [IntKind.wrap_i64]; omega
      go_wp2_with fail
      go_region_held3 (fun W => Ext w1 W ∧ (convert 22 9 (.slice (some ⟨b, off + i, none⟩) n (cap - i))).run Tryz.prog W = .ok (.string S) W) (first | exact ⟨he.drew, HCUT.out he.drew⟩ | exact ⟨he.trans' he' rfl rfl rfl rfl, HCUT.out (he.trans' he' rfl rfl rfl rfl)⟩) (first | (go_at_call 68; refine (l1Valid_any _ _).mono ?_; rintro e w' ⟨rfl, rfl⟩) | (go_at_call 69; refine (l1Utf8_any _ _ hbd.1 hbd.2).mono ?_; rintro e w' ⟨rfl, he'⟩))
      have hsame : toBA (encL V) = S ↔ encL V = (bs.drop i).take n := by
        rw [HS.out]
        exact ⟨toBA_inj (encL_bytes V hbd.1 (by omega)) (fun x hx => hb x (List.mem_of_mem_drop (List.mem_of_mem_take hx))), fun h => by rw [h]⟩
      have HSAME : Hid (toBA (encL V) = S ↔ encL V = (bs.drop i).take n) := hsame
      clear hsame
      have HR2 : Hid (¬ encL V = (bs.drop i).take n → decL (bs.drop i) = (65533, 1)) := R2 hval
      have HR3 : Hid (encL V = (bs.drop i).take n → decL (bs.drop i) = (V, n)) := R3 hval
      clear R2 R3
      go_wp2
      · have hne : ¬ toBA (encL V) = S := by
          have h0 : (!(toBA (encL V)).toList == S.toList) = true := by assumption
          intro e; rw [e] at h0; simp at h0
        go_ret2
        rw [HR2.out (fun h => hne (HSAME.out.2 h))]
        rename_i hx _
        exact ⟨rfl, hx.1⟩
      · have heq : toBA (encL V) = S := by
          have h0 : (!(toBA (encL V)).toList == S.toList) = false := by assumption
          exact str_eq (by simpa using h0)
        go_ret2
        rw [HR3.out (HSAME.out.1 heq)]
        rename_i hx _
        exact ⟨rfl, hx.1⟩
end Go.Proofs.YtokjpnlmkecleaaGreatDoor

namespace Go.Proofs.YtokjpnlmkecleaaGreatDoor
open Go.RowKit

theorem infoRune : (Tryz.prog.info? 21).map (fun i => (i.zero, i.size, i.bytes)) = some (some (.int .i32 0), 1, 4) := by kernel_rfl
theorem cleanR_of (r : Int) : cleanR r = shownI (if r = 9 then 32 else r) := by
  unfold cleanR
  split
  · decide
  · rfl
/-- The place in the bytes, and the runes so far: what is left makes up the whole. -/
def Mid (bs : List Int) (i : Nat) (acc : List Int) : Prop := acc ++ cleanL (bs.drop i) = cleanL bs ∧ acc.length ≤ i
theorem Mid.step {bs : List Int} {i : Nat} {acc : List Int} (h : Mid bs i acc) (hi : i < bs.length) : Mid bs (i + (decL (bs.drop i)).2) (acc ++ [cleanR (decL (bs.drop i)).1]) := by
  have hp := decL_pos (bs.drop i)
  refine ⟨?_, by have := h.2; simp; omega⟩
  rw [← h.1, cleanL_step (bs.drop i) (by simp; omega), List.drop_drop]
  simp
theorem Mid.done {bs : List Int} {i : Nat} {acc : List Int} (h : Mid bs i acc) (hi : bs.length ≤ i) : acc = cleanL bs := by
  have := h.1
  rw [List.drop_of_length_le hi, cleanL_nil [] rfl] at this
  simpa using this
set_option maxRecDepth 10000 in
set_option maxHeartbeats 1000000 in
theorem specClean_any (bs : List Int) (hb : Bytes bs) (v : Value) (w : World) (hv : IntsAt w .u8 v bs) (hl : bs.length ≤ 16777216) :
    Calls Tryz.prog 59 #[v] w fun e w' => ∃ v', e = .returned v' ∧ w'.ownsRow w.heap.size 21 1 v' (cleanL bs).length ((cleanL bs).map (Value.int .i32)) ∧ Ext w w' := by
  obtain ⟨i0, hi, hz0, hz1, hz2⟩ := info_parts infoRune
  have hv0 := hv
  obtain ⟨ao, cap, rfl, hcap, hr⟩ := hv
  clear hr
  go_enter Tryz.func59, Tryz.ntmps59
  go_wp2
  go_loopw [3, 4] (fun o i wr => ∃ (k : Nat) (acc : List Int), k ≤ bs.length ∧ i = .int .i64 k ∧ Hid (Mid bs k acc) ∧ wr.ownsRow w.heap.size 21 1 o acc.length (acc.map (Value.int .i32)) ∧ Ext w wr) (fun _ i _ => bs.length - (intOf i).toNat)
  case atStart => exact ⟨0, [], Nat.zero_le _, rfl, ⟨by simp, by simp⟩, World.ownsRow_made w #[] 0 (Nat.le_refl _) (by unfold maxLen; omega) (by simp), (Ext.refl _).alloc _⟩
  case round =>
    obtain ⟨k, acc, hk, rfl, HM, hown, hext⟩ := hrel
    by_cases hlt : k < bs.length
    · obtain ⟨r, m, hd⟩ : ∃ r m, decL (bs.drop k) = (r, m) := ⟨_, _, rfl⟩
      have hp := decL_pos (bs.drop k)
      have hq := decL_len (bs.drop k) (by simp; omega)
      have HM2 : Hid (Mid bs (k + m) (acc ++ [cleanR r])) := by
        have := HM.out.step hlt
        rw [hd] at this
        exact this
      have hcr : Hid (cleanR r = shownI (if r = 9 then 32 else r)) := cleanR_of r
      have hrune := l1Rune_any bs hb _ k _ (hv0.ext hext) hlt (by omega)
      rw [hd] at hp hq hrune
      simp only [List.length_drop] at hp hq
      have HR := hide hrune
      have hal := HM.out.2
      clear hrune hd
      have hm2 : k + m ≤ bs.length := by omega
      obtain ⟨r9, hr9⟩ : ∃ r9, r9 = if r = 9 then (32 : Int) else r := ⟨_, rfl⟩
      have hsb := shownI_bd r9
      have HC : Hid (cleanR r = shownI r9) := by rw [hr9]; exact hcr
      have h9 : (r = 9 ∧ r9 = 32) ∨ ((r == 9) = false ∧ r9 = r) := by
        by_cases h : r = 9
        · exact .inl ⟨h, by rw [hr9, if_pos h]⟩
        · exact .inr ⟨by simp [h], by rw [hr9, if_neg h]⟩
      clear hcr hr9
      rcases h9 with ⟨rfl, rfl⟩ | ⟨hr9, rfl⟩
      · go_wp2_with fail
        refine (unhide HR).mono ?_
        rintro e w1 ⟨rfl, he1⟩
        go_wp2_with fail
        refine (l1Shown_any _ _).mono ?_
        rintro e w2 ⟨rfl, rfl⟩
        have hown1 := he1.owns hown
        have hsz := he1.size
        have hsz2 := hext.size
        go_wp2_with (at_builtin; go_must (refine wpList_append_own _ rfl _ _ 26 rfl w.heap.size 21 i0 (.int .i32 0) 1 4 Tryz.underlying26 hi hz0 hz1 hz2 rfl (by decide) _ _ _ rfl (hown1.alloc _) ⟨w2.heap.size, 0, none⟩ 1 1 [.int .i32 (shownI 32)] rfl rfl ?_ ?_ ?_ ?_ ?_ ?_))
        · intro j u hj
          match j, hj with
          | 0, hj => simp at hj; subst hj; simp [Addr.add]
        · intro u hu; simp at hu; subst hu; rfl
        · unfold maxLen; omega
        · omega
        · simp; omega
        · intro v' w3 hown' hgrow _
          have hE : Ext w w3 := ((hext.trans he1).alloc _).grown hgrow (fun k hk => (hown1.lt k hk).1)
          have hO : w3.ownsRow w.heap.size 21 1 v' (acc ++ [shownI 32]).length ((acc ++ [shownI 32]).map (Value.int .i32)) := by simpa using hown'
          rw [← HC.out] at hO
          clear hown' hgrow hown1 hown
          go_wp2
          go_roundw
          case rel => exact ⟨k + m, _, hm2, by go_num, HM2, hO, hE⟩
          case measure => simp [intOf]; omega
      · go_wp2_with fail
        refine (unhide HR).mono ?_
        rintro e w1 ⟨rfl, he1⟩
        go_wp2_with fail
        refine (l1Shown_any _ _).mono ?_
        rintro e w2 ⟨rfl, rfl⟩
        have hown1 := he1.owns hown
        have hsz := he1.size
        have hsz2 := hext.size
        go_wp2_with (at_builtin; go_must (refine wpList_append_own _ rfl _ _ 26 rfl w.heap.size 21 i0 (.int .i32 0) 1 4 Tryz.underlying26 hi hz0 hz1 hz2 rfl (by decide) _ _ _ rfl (hown1.alloc _) ⟨w2.heap.size, 0, none⟩ 1 1 [.int .i32 (shownI r9)] rfl rfl ?_ ?_ ?_ ?_ ?_ ?_))
        · intro j u hj
          match j, hj with
          | 0, hj => simp at hj; subst hj; simp [Addr.add]
        · intro u hu; simp at hu; subst hu; rfl
        · unfold maxLen; omega
        · omega
        · simp; omega
        · intro v' w3 hown' hgrow _
          have hE : Ext w w3 := ((hext.trans he1).alloc _).grown hgrow (fun k hk => (hown1.lt k hk).1)
          have hO : w3.ownsRow w.heap.size 21 1 v' (acc ++ [shownI r9]).length ((acc ++ [shownI r9]).map (Value.int .i32)) := by simpa using hown'
          rw [← HC.out] at hO
          clear hown' hgrow hown1 hown
          go_wp2
          go_roundw
          case rel => exact ⟨k + m, _, hm2, by go_num, HM2, hO, hE⟩
          case measure => simp [intOf]; omega
    · have HE : Hid (acc = cleanL bs) := HM.out.done (by omega)
      go_wp2
      go_ret
      rw [← HE.out]
      exact ⟨_, rfl, hown, hext⟩
end Go.Proofs.YtokjpnlmkecleaaGreatDoor

namespace Go.Proofs.YtokjpnlmkecleaaGreatDoor
open Go.RowKit

def isCtl (r : Int) : Bool := decide (r < 32) || (decide (127 ≤ r) && decide (r ≤ 159))
theorem isControl_any (r : Int) (w : World) : Calls Tryz.prog 131 #[.int .i32 r] w fun e w' => e = .returned (.bool (isCtl r)) ∧ w' = w := by
  go_enter Tryz.func131, Tryz.ntmps131
  go_wp2
  all_goals
    go_ret
    refine ⟨ret_bool ?_, rfl⟩
    unfold isCtl
    rw [Bool.eq_iff_iff]
    simp
    omega
theorem ValidRune_any (r : Int) (w : World) : Calls Tryz.prog 132 #[.int .i32 r] w fun e w' => e = .returned (.bool (Utf8.valid r)) ∧ w' = w := by
  go_enter Tryz.func132, Tryz.ntmps132
  go_wp2
  all_goals
    go_ret
    refine ⟨ret_bool ?_, rfl⟩
    rw [Bool.eq_iff_iff]
    simp [Utf8.valid]
    omega
theorem shown_ctl (r : Int) (h : isCtl r = true) : shownI r = 65533 := by
  unfold shownI
  rw [if_pos (.inr (by simpa [isCtl] using h))]
theorem shown_bad (r : Int) (h : Utf8.valid r = false) : shownI r = 65533 := by
  unfold shownI
  rw [if_pos (.inl h)]
theorem shown_ok (r : Int) (h : isCtl r = false) (h2 : Utf8.valid r = true) : shownI r = r := by
  unfold shownI
  rw [if_neg]
  rintro (h3 | h3)
  · rw [h2] at h3; cases h3
  · have : isCtl r = true := by simpa [isCtl] using h3
    rw [h] at this; cases this
set_option maxHeartbeats 400000 in
theorem showable_any (r : Int) (w : World) : Calls Tryz.prog 107 #[.int .i32 r] w fun e w' => e = .returned (.int .i32 (shownI r)) ∧ w' = w := by
  cases h1 : isCtl r
  · cases h2 : Utf8.valid r
    · have H := hide (shown_bad r h2)
      go_enter Tryz.func107, Tryz.ntmps107
      go_wp2_with (first | (go_at_call 131; refine (isControl_any _ _).mono ?_; rintro e w' ⟨rfl, rfl⟩) | (go_at_call 132; refine (ValidRune_any _ _).mono ?_; rintro e w' ⟨rfl, rfl⟩))
      go_ret
      exact ⟨ret_int (unhide H).symm, rfl⟩
    · have H := hide (shown_ok r h1 h2)
      go_enter Tryz.func107, Tryz.ntmps107
      go_wp2_with (first | (go_at_call 131; refine (isControl_any _ _).mono ?_; rintro e w' ⟨rfl, rfl⟩) | (go_at_call 132; refine (ValidRune_any _ _).mono ?_; rintro e w' ⟨rfl, rfl⟩))
      go_ret
      exact ⟨ret_int (unhide H).symm, rfl⟩
  · have H := hide (shown_ctl r h1)
    go_enter Tryz.func107, Tryz.ntmps107
    go_wp2_with (first | (go_at_call 131; refine (isControl_any _ _).mono ?_; rintro e w' ⟨rfl, rfl⟩) | (go_at_call 132; refine (ValidRune_any _ _).mono ?_; rintro e w' ⟨rfl, rfl⟩))
    go_ret
    exact ⟨ret_int (unhide H).symm, rfl⟩
end Go.Proofs.YtokjpnlmkecleaaGreatDoor

namespace Go.Proofs.YtokjpnlmkecleaaGreatDoor
open Go.RowKit

theorem grown_iterAt (w : World) (k : Nat) (s : ByteArray) (p : Nat) : w.grownBy (w.iterAt k s p) (some k) :=
  ⟨rfl, rfl, rfl, by rw [Lib.iterAt_size]; exact Nat.le_refl _, fun i _ hn => Lib.iterAt_other w k i s p (fun e => hn (by rw [e]))⟩
set_option maxRecDepth 10000 in
set_option maxHeartbeats 1000000 in
theorem implClean_any (bs : List Int) (hb : Bytes bs) (v : Value) (w : World) (hv : IntsAt w .u8 v bs) (hl : bs.length ≤ 16777216) :
    Calls Tryz.prog 117 #[v] w fun e w' => ∃ v', e = .returned v' ∧ w'.ownsRow w.heap.size 21 1 v' (cleanL bs).length ((cleanL bs).map (Value.int .i32)) ∧ Ext w w' := by
  obtain ⟨i0, hi, hz0, hz1, hz2⟩ := info_parts infoRune
  have hcv := run_b2s (P := Tryz.prog) w _ _ _ Tryz.underlying22 Tryz.underlying5 Tryz.underlying9 _ _ hv
  obtain ⟨S, hS⟩ : ∃ S, S = toBA bs := ⟨_, rfl⟩
  have hss : S.size = bs.length := by rw [hS, toBA_size]
  have hsl : S.size ≤ 16777216 := by omega
  have HS := hide hS
  have HSS := hide hss
  rw [← hS] at hcv
  clear hS hss
  go_enter Tryz.func117, Tryz.ntmps117
  go_wp2
  go_loopw [3] (fun o wr => ∃ (k : Nat) (acc : List Int), k ≤ bs.length ∧ Hid (Mid bs k acc) ∧ wr.heap[w.heap.size]? = some (.stringIter S k) ∧ wr.ownsRow (w.heap.size + 1) 21 1 o acc.length (acc.map (Value.int .i32)) ∧ Ext w wr) (fun _ wr => bs.length - wr.iterPos w.heap.size)
  case atStart => exact ⟨0, [], Nat.zero_le _, ⟨by simp, by simp⟩, World.iter_heap w S 0, World.ownsRow_nil _ _ _ _, (Ext.refl _).alloc _⟩
  case round =>
    obtain ⟨k, acc, hk, HM, hit, hown, hext⟩ := hrel
    have hszr : w.heap.size < wr.heap.size := (Array.getElem?_eq_some_iff.1 hit).1
    by_cases hlt : k < bs.length
    · obtain ⟨r, m, hd⟩ : ∃ r m, decL (bs.drop k) = (r, m) := ⟨_, _, rfl⟩
      have hp := decL_pos (bs.drop k)
      have hq := decL_len (bs.drop k) (by simp; omega)
      have HM2 : Hid (Mid bs (k + m) (acc ++ [cleanR r])) := by
        have := HM.out.step hlt
        rw [hd] at this
        exact this
      have hcr : Hid (cleanR r = shownI (if r = 9 then 32 else r)) := cleanR_of r
      have hdec := decode_is bs hb k
      rw [hd] at hp hq hdec
      rw [← HS.out] at hdec
      simp only [Prod.mk.injEq] at hdec
      have hnx := fun ty => Lib.run_next_any_at (P := Tryz.prog) wr w.heap.size S k ty hit (by rw [HSS.out]; exact hlt)
      rw [hdec.1, hdec.2] at hnx
      simp only [List.length_drop] at hp hq
      have hal := HM.out.2
      have hm2 : k + m ≤ bs.length := by omega
      have hit1 := Lib.iterAt_heap wr w.heap.size S k (k + m) hit
      have hown1 : (wr.iterAt w.heap.size S (k + m)).ownsRow (w.heap.size + 1) 21 1 u3 acc.length (acc.map (Value.int .i32)) := hown.kept (grown_iterAt _ _ _ _) (by
        cases hob : u3.ownBlock with
        | none => exact .inl rfl
        | some g => right; have := (hown.lt g hob).1; simp; omega)
      have hext1 : Ext w (wr.iterAt w.heap.size S (k + m)) := hext.grown (grown_iterAt _ _ _ _) (fun k hk => by simp at hk; omega)
      have hszs := Lib.iterAt_size wr w.heap.size S (k + m)
      obtain ⟨r9, hr9⟩ : ∃ r9, r9 = if r = 9 then (32 : Int) else r := ⟨_, rfl⟩
      have hsb := shownI_bd r9
      have HC : Hid (cleanR r = shownI r9) := by rw [hr9]; exact hcr
      have h9 : (r = 9 ∧ r9 = 32) ∨ ((r == 9) = false ∧ r9 = r) := by
        by_cases h : r = 9
        · exact .inl ⟨h, by rw [hr9, if_pos h]⟩
        · exact .inr ⟨by simp [h], by rw [hr9, if_neg h]⟩
      clear hcr hr9 hdec hd
      rcases h9 with ⟨rfl, rfl⟩ | ⟨hr9, rfl⟩
      · go_wp2_with fail
        refine (showable_any _ _).mono ?_
        rintro e w2 ⟨rfl, rfl⟩
        have hsz2 := hext1.size
        go_wp2_with (at_builtin; go_must (refine wpList_append_own _ rfl _ _ 26 rfl (w.heap.size + 1) 21 i0 (.int .i32 0) 1 4 Tryz.underlying26 hi hz0 hz1 hz2 rfl (by decide) _ _ _ rfl (hown1.alloc _) ⟨wr.heap.size, 0, none⟩ 1 1 [.int .i32 (shownI 32)] rfl rfl ?_ ?_ ?_ ?_ ?_ ?_))
        · intro j u hj
          match j, hj with
          | 0, hj => simp at hj; subst hj; rw [Addr.add_lit, World.cell?_alloc_at _ _ _ _ (by rw [hszs])]; rfl
        · intro u hu; simp at hu; subst hu; rfl
        · unfold maxLen; omega
        · omega
        · simp; omega
        · intro v' w3 hown' hgrow _
          have hE : Ext w w3 := (hext1.alloc _).grown hgrow (fun k hk => by have := (hown1.lt k hk).1; omega)
          have hO : w3.ownsRow (w.heap.size + 1) 21 1 v' (acc ++ [shownI 32]).length ((acc ++ [shownI 32]).map (Value.int .i32)) := by simpa using hown'
          have hI : w3.heap[w.heap.size]? = some (.stringIter S (k + m)) := by
            rw [hgrow.block w.heap.size (by simp; omega) (fun e => by have := (hown1.lt _ e.symm).1; omega)]
            exact (Below.heap_alloc _ _ _ (by rw [hszs]; exact hszr)).trans hit1
          have hP : bs.length - w3.iterPos w.heap.size < bs.length - wr.iterPos w.heap.size := by
            simp only [World.iterPos, hI, hit]; omega
          have HP := hide hP
          rw [← HC.out] at hO
          clear hown' hgrow hown1 hown hP
          go_wp2
          go_roundw
          case rel => exact ⟨k + m, _, hm2, HM2, hI, hO, hE⟩
          case measure => exact unhide HP
      · go_wp2_with fail
        refine (showable_any _ _).mono ?_
        rintro e w2 ⟨rfl, rfl⟩
        have hsz2 := hext1.size
        go_wp2_with (at_builtin; go_must (refine wpList_append_own _ rfl _ _ 26 rfl (w.heap.size + 1) 21 i0 (.int .i32 0) 1 4 Tryz.underlying26 hi hz0 hz1 hz2 rfl (by decide) _ _ _ rfl (hown1.alloc _) ⟨wr.heap.size, 0, none⟩ 1 1 [.int .i32 (shownI r9)] rfl rfl ?_ ?_ ?_ ?_ ?_ ?_))
        · intro j u hj
          match j, hj with
          | 0, hj => simp at hj; subst hj; rw [Addr.add_lit, World.cell?_alloc_at _ _ _ _ (by rw [hszs])]; rfl
        · intro u hu; simp at hu; subst hu; rfl
        · unfold maxLen; omega
        · omega
        · simp; omega
        · intro v' w3 hown' hgrow _
          have hE : Ext w w3 := (hext1.alloc _).grown hgrow (fun k hk => by have := (hown1.lt k hk).1; omega)
          have hO : w3.ownsRow (w.heap.size + 1) 21 1 v' (acc ++ [shownI r9]).length ((acc ++ [shownI r9]).map (Value.int .i32)) := by simpa using hown'
          have hI : w3.heap[w.heap.size]? = some (.stringIter S (k + m)) := by
            rw [hgrow.block w.heap.size (by simp; omega) (fun e => by have := (hown1.lt _ e.symm).1; omega)]
            exact (Below.heap_alloc _ _ _ (by rw [hszs]; exact hszr)).trans hit1
          have hP : bs.length - w3.iterPos w.heap.size < bs.length - wr.iterPos w.heap.size := by
            simp only [World.iterPos, hI, hit]; omega
          have HP := hide hP
          rw [← HC.out] at hO
          clear hown' hgrow hown1 hown hP
          go_wp2
          go_roundw
          case rel => exact ⟨k + m, _, hm2, HM2, hI, hO, hE⟩
          case measure => exact unhide HP
    · have HE : Hid (acc = cleanL bs) := HM.out.done (by omega)
      have hnx := fun ty => Lib.run_next_end_at (P := Tryz.prog) wr w.heap.size S k ty hit (by rw [HSS.out]; omega)
      go_wp2
      go_ret
      rw [← HE.out]
      exact ⟨_, rfl, owns_mono hown (by omega), hext⟩
end Go.Proofs.YtokjpnlmkecleaaGreatDoor
