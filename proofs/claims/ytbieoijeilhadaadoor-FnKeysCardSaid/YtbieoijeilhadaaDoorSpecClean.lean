import Derived.Test.YtbieoijeilhadaaDoorUtf
import Derived.Test.YtbieoijeilhadaaDoorProg
import Derived.Deep.RegionHeld3
import Derived.Test.YtbieoijeilhadaaDoorRwImpl
import Derived.Test.YtbieoijeilhadaaDoorAppRune
namespace Go.Proofs.YtbieoijeilhadaaDoor
open Go.RowKit
def rV (rs : List Value) (j : Nat) : Value := rs[j]?.getD (.slice none 0 0)
def cR (cs : List (List Int × Int)) (j : Nat) : List Int := (cs[j]?.getD ([], 0)).1
def cW (cs : List (List Int × Int)) (j : Nat) : Int := (cs[j]?.getD ([], 0)).2
def ClsAt (w : World) (v : Value) (cs : List (List Int × Int)) : Prop :=
  ∃ (rs : List Value) (ao : Option Addr) (cap : Nat), v = .slice ao cs.length cap ∧ cs.length ≤ cap ∧ (∀ j, j < cs.length → IntsAt w .i32 (rV rs j) (cR cs j)) ∧
    (0 < cs.length → ∃ b off, ao = some ⟨b, off, none⟩ ∧ ∀ j, j < cs.length → w.cell? ⟨b, off + j * 2, none⟩ = some (rV rs j) ∧ w.cell? ⟨b, off + j * 2 + 1, none⟩ = some (.int .i64 (cW cs j)))
theorem ClsAt.ext {w w' : World} {v : Value} {cs : List (List Int × Int)} (h : ClsAt w v cs) (he : Ext w w') : ClsAt w' v cs := by
  obtain ⟨rs, ao, cap, e, hc, hr, hx⟩ := h
  exact ⟨rs, ao, cap, e, hc, fun j hj => (hr j hj).ext he, fun hp => by
    obtain ⟨b, off, e2, hcell⟩ := hx hp
    exact ⟨b, off, e2, fun j hj => ⟨he.cell (hcell j hj).1, he.cell (hcell j hj).2⟩⟩⟩
theorem rV_push (rs : List Value) (r : Value) (i : Nat) (h : i < rs.length) : rV (rs ++ [r]) i = rV rs i := by
  unfold rV; rw [List.getElem?_append_left h]
theorem rV_last (rs : List Value) (r : Value) : rV (rs ++ [r]) rs.length = r := by simp [rV]
def OwnCls (w : World) (base : Nat) (v : Value) (rs : List Value) (cs : List (List Int × Int)) : Prop :=
  rs.length = cs.length ∧ (∃ ys, w.ownsRow base 58 2 v cs.length ys ∧ ∀ j, j < cs.length → ys[j * 2]? = some (rV rs j) ∧ ys[j * 2 + 1]? = some (.int .i64 (cW cs j))) ∧
  (∀ j, j < cs.length → w.ownsRow base 21 1 (rV rs j) (cR cs j).length ((cR cs j).map (Value.int .i32))) ∧
  (∀ i j g, i < j → j < cs.length → (rV rs i).ownBlock = some g → (rV rs j).ownBlock ≠ some g)
theorem OwnCls.ext {w w' : World} {base : Nat} {v : Value} {rs : List Value} {cs : List (List Int × Int)} (h : OwnCls w base v rs cs) (he : Ext w w') : OwnCls w' base v rs cs := by
  obtain ⟨h0, ⟨ys, h1, h2⟩, h3, h4⟩ := h
  exact ⟨h0, ⟨ys, he.owns h1, h2⟩, fun j hj => he.owns (h3 j hj), h4⟩
theorem OwnCls.cls {w : World} {base : Nat} {v : Value} {rs : List Value} {cs : List (List Int × Int)} (h : OwnCls w base v rs cs) : ClsAt w v cs := by
  obtain ⟨_, ⟨ys, h1, h2⟩, h3, _⟩ := h
  rcases h1.2 with ⟨rfl, h0⟩ | ⟨g, cap, cur, rfl, hb, hg, hn, hm, hs, ht⟩
  · exact ⟨rs, none, 0, by rw [h0], by omega, fun j hj => by omega, fun hp => by omega⟩
  · refine ⟨rs, _, cap, rfl, hn, fun j hj => ints_of_owns (h3 j hj), fun _ => ⟨g, 0, rfl, fun j hj => ?_⟩⟩
    have := h2 j hj
    rw [Nat.zero_add, h1.cellAt _ (by omega), h1.cellAt _ (by omega)]
    exact this
end Go.Proofs.YtbieoijeilhadaaDoor

namespace Go.Proofs.YtbieoijeilhadaaDoor
open Go.RowKit
theorem run_s2b {P : Program} (w : World) (src dst e : TypeId) (hs : P.underlying src = some .string) (hd : P.underlying dst = some (.slice e)) (he : P.underlying e = some (.int .u8)) (zs : List Int) (hz : Bytes zs) :
    ∃ cap W', (convert src dst (.string (toBA zs))).run P w = .ok (.slice (some ⟨w.heap.size, 0, none⟩) zs.length cap) W' ∧ Ext w W' ∧ W'.heap.size = w.heap.size + 1 ∧
      ∀ j u, (zs.map (Value.int .u8))[j]? = some u → W'.cell? ((⟨w.heap.size, 0, none⟩ : Addr).add j) = some u := by
  have hr := run_bytes_of_string (P := P) w src dst e (toBA zs) hs hd he
  rw [toBA_size] at hr
  refine ⟨_, _, hr, ((Ext.refl w).drew.alloc _), by rw [World.size_alloc]; rfl, fun j u hj => ?_⟩
  have hjl : j < zs.length := by
    have := (List.getElem?_eq_some_iff.1 hj).1
    simpa using this
  rw [Addr.add_lit, Nat.zero_add]
  have hc := World.cell?_alloc_mark w.drew (bytesRow (toBA zs) (grownCap w zs.length 0 e)) e ((bytesRow (toBA zs) (grownCap w zs.length 0 e)).size, (bytesRow (toBA zs) (grownCap w zs.length 0 e)).size + 1) j
  have hsz : j < (toBA zs).data.size := by
    have : (toBA zs).data.size = zs.length := toBA_size zs
    omega
  rw [bytesRow_at _ _ _ hsz] at hc
  refine Eq.trans hc ?_
  have hb := hz.at0 j
  have hg := toBA_get zs hz j
  have e1 : (toBA zs).get! j = (toBA zs).data[j] := by
    show (toBA zs).data[j]! = _
    rw [getElem!_pos]
  rw [e1] at hg
  rw [hg]
  have e2 : zs[j]? = some (at0 zs j) := at0_lt hjl
  simp [e2] at hj
  rw [← hj]
  congr 2
  omega
end Go.Proofs.YtbieoijeilhadaaDoor

namespace Go.Proofs.YtbieoijeilhadaaDoor
open Go.RowKit
theorem infoByte : (Tryd.prog.info? 5).map (fun i => (i.zero, i.size, i.bytes)) = some (some (.int .u8 0), 1, 1) := by kernel_rfl
theorem str_eq {a b : ByteArray} (h : a.toList = b.toList) : a = b := by
  rw [ByteArray.toList_eq, ByteArray.toList_eq] at h
  exact WideShapes.bytes_inj h
theorem ints_cut {w : World} {bs : List Int} {b off cap : Nat} (i n : Nat) (hc : ∀ j, j < bs.length → w.cell? ⟨b, off + j, none⟩ = some (.int .u8 (at0 bs j))) (h : i + n ≤ bs.length) (hn : n ≤ cap) :
    IntsAt w .u8 (.slice (some ⟨b, off + i, none⟩) n cap) ((bs.drop i).take n) := by
  have hl : ((bs.drop i).take n).length = n := by simp; omega
  refine ⟨some ⟨b, off + i, none⟩, cap, by rw [hl], by omega, fun _ => ⟨b, off + i, rfl, fun j hj => ?_⟩⟩
  rw [hl] at hj
  have := hc (i + j) (by omega)
  rw [← Nat.add_assoc] at this
  rw [this]
  simp [at0, hj]
theorem run_cut {P : Program} (t e : TypeId) (I : TypeInfo) (b off len cap i n : Nat) (ht : P.underlying t = some (.slice (P.elem t))) (he : P.elem t = e) (hi : P.info? e = some I) (hz : I.size = 1) (h : i + n ≤ cap) (h0 : 0 < n) (w : World) :
    (Instr.slice t (.slice (some ⟨b, off, none⟩) len cap) (some (.int .i64 (i : Int))) (some (.int .i64 ((i : Int) + (n : Int)))) none).run P w = .ok (.slice (some ⟨b, off + i, none⟩) n (cap - i)) w := by
  rw [run_slice_lh (P := P) w t _ _ _ ht .i64 .i64 _ _ (by omega) (by omega) (by omega)]
  have e1 : ((i : Int) + (n : Int)).toNat - i = n := by omega
  have e2 : ¬ cap = i := by omega
  simp [sizeOf, typeInfo, he, hi, hz, sliced, e1, e2, Addr.add_lit]
set_option maxHeartbeats 400000 in
theorem l1Rune_any (bs : List Int) (hb : Bytes bs) (v : Value) (i : Nat) (w : World) (hv : IntsAt w .u8 v bs) (hi : i < bs.length) (hl : bs.length ≤ 4398046511104) :
    Calls Tryd.prog 64 #[v, .int .i64 i] w fun e w' => e = .returned (.tuple #[.int .i64 (decL (bs.drop i)).1, .int .i64 (decL (bs.drop i)).2]) ∧ Ext w w' := by
  have hv0 := hv
  obtain ⟨ao, cap, rfl, hcap, hr⟩ := hv
  obtain ⟨b, off, rfl, hc⟩ := hr (by omega)
  clear hr
  have g0 := hc i (by omega)
  have hbi : (i : Int) < (bs.length : Int) := by omega
  have q0 : at0 (bs.drop i) 0 = at0 bs i := by rw [at0_drop]; rfl
  have hlen : (bs.drop i).length = bs.length - i := by simp
  obtain ⟨n, hn⟩ : ∃ n, n = need (at0 bs i) := ⟨_, rfl⟩
  have h4 : n ≤ 4 := by rw [hn]; unfold need; (repeat' split) <;> omega
  by_cases hA : n = 0 ∨ bs.length < i + n
  · have HF : Hid (decL (bs.drop i) = (65533, 1)) := rune_short _ (hb.drop i) (by rw [q0, ← hn, hlen]; omega) (by omega)
    have HN : Hid (n = need (at0 bs i)) := hn
    clear hn hc q0 hlen
    go_enter Tryd.func64, Tryd.ntmps64
    go_wp2_with fail
    refine (l1Need_any _ _).mono ?_
    rw [← HN.out]
    rintro e w1 ⟨rfl, rfl⟩
    rcases hA with hA | hA
    · subst hA
      go_wp2
      go_ret2
      rw [HF.out]
      exact ⟨rfl, Ext.refl _⟩
    · by_cases h0 : n = 0
      · subst h0; omega
      have hz : ((n : Int) == 0) = false := by simp; omega
      have hy : (bs.length : Int) < (i : Int) + (n : Int) := by omega
      go_wp2
      go_ret2
      rw [HF.out]
      exact ⟨rfl, Ext.refl _⟩
  · obtain ⟨R1, R2, R3⟩ := rune_long (bs.drop i) (hb.drop i) n (by rw [q0]; exact hn) (by omega) (by rw [hlen]; omega)
    have HN : Hid (n = need (at0 bs i)) := hn
    have hz : ((n : Int) == 0) = false := by simp; omega
    have hy : (i : Int) + (n : Int) ≤ (bs.length : Int) := by omega
    clear hn q0 hlen
    obtain ⟨V, hV⟩ : ∃ V, V = valL (bs.drop i) n := ⟨_, rfl⟩
    have HV : Hid (V = valL (bs.drop i) n) := hV
    rw [← hV] at R1 R2 R3
    clear hV
    cases hval : Utf8.valid V
    · have HF : Hid (decL (bs.drop i) = (65533, 1)) := R1 hval
      clear R1 R2 R3 hc
      go_enter Tryd.func64, Tryd.ntmps64
      go_wp2_with fail
      refine (l1Need_any _ _).mono ?_
      rw [← HN.out]
      rintro e w1 ⟨rfl, rfl⟩
      go_wp2_with fail
      refine (l1Value_any bs hb _ i n _ hv0 (by omega) (by omega) h4 hl).mono ?_
      rw [← HV.out]
      rintro e w2 ⟨rfl, he⟩
      go_wp2_with fail
      go_quiet ((go_at_call 84; exact Calls.quiet_of_same (l1Valid_any _ _)))
      go_wp2
      go_ret2
      rw [HF.out]
      exact ⟨rfl, he.drewN _⟩
    · have hbd := valid_bd hval
      have hcut := fun {W : World} (he : Ext w W) => run_b2s (P := Tryd.prog) W _ _ _ Tryd.underlying22 Tryd.underlying5 Tryd.underlying9 _ _ (ints_cut (cap := cap - i) i n (fun j hj => he.cell (hc j hj)) (by omega) (by omega))
      have HCUT : Hid (∀ {W : World}, Ext w W → (convert 22 9 (.slice (some ⟨b, off + i, none⟩) n (cap - i))).run Tryd.prog W = .ok (.string (toBA ((bs.drop i).take n))) W) := hcut
      clear hcut R1 hc
      obtain ⟨S, hS⟩ : ∃ S, S = toBA ((bs.drop i).take n) := ⟨_, rfl⟩
      have HS : Hid (S = toBA ((bs.drop i).take n)) := hS
      rw [← hS] at HCUT
      clear hS
      go_enter Tryd.func64, Tryd.ntmps64
      go_wp2_with fail
      refine (l1Need_any _ _).mono ?_
      rw [← HN.out]
      rintro e w1 ⟨rfl, rfl⟩
      go_wp2_with fail
      refine (l1Value_any bs hb _ i n _ hv0 (by omega) (by omega) h4 hl).mono ?_
      rw [← HV.out]
      rintro e w2 ⟨rfl, he⟩
      obtain ⟨I0, hI, hI0, hI1, hI2⟩ := info_parts infoByte
      have hcv := run_cut (P := Tryd.prog) 22 5 I0 b off bs.length cap i n (by kernel_rfl) (by kernel_rfl) hI hI1 (by omega) (by omega)
      clear hI hI0 hI1 hI2
      have hwr : IntKind.i64.wrap ((i : Int) + (n : Int)) = (i : Int) + (n : Int) := by rw [IntKind.wrap_i64]; omega
      go_wp2_with fail
      go_region_held3 (fun W => Ext w1 W ∧ (convert 22 9 (.slice (some ⟨b, off + i, none⟩) n (cap - i))).run Tryd.prog W = .ok (.string S) W) (first | exact ⟨he.drew, HCUT.out he.drew⟩ | exact ⟨he.trans' he' rfl rfl rfl rfl, HCUT.out (he.trans' he' rfl rfl rfl rfl)⟩) (first | (go_at_call 84; refine (l1Valid_any _ _).mono ?_; rintro e w' ⟨rfl, rfl⟩) | (go_at_call 85; refine (l1Utf8_any _ _ hbd.1 hbd.2).mono ?_; rintro e w' ⟨rfl, he'⟩))
      have hsame : toBA (encL V) = S ↔ encL V = (bs.drop i).take n := by
        rw [HS.out]
        exact ⟨toBA_inj (encL_bytes V hbd.1 (by omega)) (fun x hx => hb x (List.mem_of_mem_drop (List.mem_of_mem_take hx))), fun h => by rw [h]⟩
      have HSAME : Hid (toBA (encL V) = S ↔ encL V = (bs.drop i).take n) := hsame
      clear hsame
      have HR2 : Hid (¬ encL V = (bs.drop i).take n → decL (bs.drop i) = (65533, 1)) := R2 hval
      have HR3 : Hid (encL V = (bs.drop i).take n → decL (bs.drop i) = (V, n)) := R3 hval
      clear R2 R3
      go_wp2
      · have hne : ¬ toBA (encL V) = S := by
          have h0 : (!(toBA (encL V)).toList == S.toList) = true := by assumption
          intro e; rw [e] at h0; simp at h0
        go_ret2
        rw [HR2.out (fun h => hne (HSAME.out.2 h))]
        rename_i hx _
        exact ⟨rfl, hx.1⟩
      · have heq : toBA (encL V) = S := by
          have h0 : (!(toBA (encL V)).toList == S.toList) = false := by assumption
          exact str_eq (by simpa using h0)
        go_ret2
        rw [HR3.out (HSAME.out.1 heq)]
        rename_i hx _
        exact ⟨rfl, hx.1⟩
end Go.Proofs.YtbieoijeilhadaaDoor

namespace Go.Proofs.YtbieoijeilhadaaDoor
open Go.RowKit
theorem infoRune : (Tryd.prog.info? 21).map (fun i => (i.zero, i.size, i.bytes)) = some (some (.int .i32 0), 1, 4) := by kernel_rfl
theorem cleanR_of (r : Int) : cleanR r = shownI (if r = 9 then 32 else r) := by
  unfold cleanR
  split
  · decide
  · rfl
def Mid (bs : List Int) (i : Nat) (acc : List Int) : Prop := acc ++ cleanL (bs.drop i) = cleanL bs ∧ acc.length ≤ i
theorem Mid.step {bs : List Int} {i : Nat} {acc : List Int} (h : Mid bs i acc) (hi : i < bs.length) : Mid bs (i + (decL (bs.drop i)).2) (acc ++ [cleanR (decL (bs.drop i)).1]) := by
  have hp := decL_pos (bs.drop i)
  refine ⟨?_, by have := h.2; simp; omega⟩
  rw [← h.1, cleanL_step (bs.drop i) (by simp; omega), List.drop_drop]
  simp
theorem Mid.done {bs : List Int} {i : Nat} {acc : List Int} (h : Mid bs i acc) (hi : bs.length ≤ i) : acc = cleanL bs := by
  have := h.1
  rw [List.drop_of_length_le hi, cleanL_nil [] rfl] at this
  simpa using this
set_option maxRecDepth 10000 in
set_option maxHeartbeats 1000000 in
theorem specClean_any (bs : List Int) (hb : Bytes bs) (v : Value) (w : World) (hv : IntsAt w .u8 v bs) (hl : bs.length ≤ 16777216) :
    Calls Tryd.prog 28 #[v] w fun e w' => ∃ v', e = .returned v' ∧ w'.ownsRow w.heap.size 21 1 v' (cleanL bs).length ((cleanL bs).map (Value.int .i32)) ∧ Ext w w' := by
  obtain ⟨i0, hi, hz0, hz1, hz2⟩ := info_parts infoRune
  have hv0 := hv
  obtain ⟨ao, cap, rfl, hcap, hr⟩ := hv
  clear hr
  go_enter Tryd.func28, Tryd.ntmps28
  go_wp2
  go_loopw [3, 4] (fun o i wr => ∃ (k : Nat) (acc : List Int), k ≤ bs.length ∧ i = .int .i64 k ∧ Hid (Mid bs k acc) ∧ wr.ownsRow w.heap.size 21 1 o acc.length (acc.map (Value.int .i32)) ∧ Ext w wr) (fun _ i _ => bs.length - (intOf i).toNat)
  case atStart => exact ⟨0, [], Nat.zero_le _, rfl, ⟨by simp, by simp⟩, World.ownsRow_made w #[] 0 (Nat.le_refl _) (by unfold maxLen; omega) (by simp), (Ext.refl _).alloc _⟩
  case round =>
    obtain ⟨k, acc, hk, rfl, HM, hown, hext⟩ := hrel
    by_cases hlt : k < bs.length
    · obtain ⟨r, m, hd⟩ : ∃ r m, decL (bs.drop k) = (r, m) := ⟨_, _, rfl⟩
      have hp := decL_pos (bs.drop k)
      have hq := decL_len (bs.drop k) (by simp; omega)
      have HM2 : Hid (Mid bs (k + m) (acc ++ [cleanR r])) := by
        have := HM.out.step hlt
        rw [hd] at this
        exact this
      have hcr : Hid (cleanR r = shownI (if r = 9 then 32 else r)) := cleanR_of r
      have hrune := l1Rune_any bs hb _ k _ (hv0.ext hext) hlt (by omega)
      rw [hd] at hp hq hrune
      simp only [List.length_drop] at hp hq
      have HR := hide hrune
      have hal := HM.out.2
      clear hrune hd
      have hm2 : k + m ≤ bs.length := by omega
      obtain ⟨r9, hr9⟩ : ∃ r9, r9 = if r = 9 then (32 : Int) else r := ⟨_, rfl⟩
      have hsb := shownI_bd r9
      have HC : Hid (cleanR r = shownI r9) := by rw [hr9]; exact hcr
      have h9 : (r = 9 ∧ r9 = 32) ∨ ((r == 9) = false ∧ r9 = r) := by
        by_cases h : r = 9
        · exact .inl ⟨h, by rw [hr9, if_pos h]⟩
        · exact .inr ⟨by simp [h], by rw [hr9, if_neg h]⟩
      clear hcr hr9
      rcases h9 with ⟨rfl, rfl⟩ | ⟨hr9, rfl⟩
      · go_wp2_with fail
        refine (unhide HR).mono ?_
        rintro e w1 ⟨rfl, he1⟩
        go_wp2_with fail
        refine (l1Shown_any _ _).mono ?_
        rintro e w2 ⟨rfl, rfl⟩
        have hown1 := he1.owns hown
        have hsz := he1.size
        have hsz2 := hext.size
        go_wp2_with (at_builtin; go_must (refine wpList_append_own _ rfl _ _ 55 rfl w.heap.size 21 i0 (.int .i32 0) 1 4 Tryd.underlying55 hi hz0 hz1 hz2 rfl (by decide) _ _ _ rfl (hown1.alloc _) ⟨w2.heap.size, 0, none⟩ 1 1 [.int .i32 (shownI 32)] rfl rfl ?_ ?_ ?_ ?_ ?_ ?_))
        · intro j u hj
          match j, hj with
          | 0, hj => simp at hj; subst hj; simp [Addr.add]
        · intro u hu; simp at hu; subst hu; rfl
        · unfold maxLen; omega
        · omega
        · simp; omega
        · intro v' w3 hown' hgrow _
          have hE : Ext w w3 := ((hext.trans he1).alloc _).grown hgrow (fun k hk => (hown1.lt k hk).1)
          have hO : w3.ownsRow w.heap.size 21 1 v' (acc ++ [shownI 32]).length ((acc ++ [shownI 32]).map (Value.int .i32)) := by simpa using hown'
          rw [← HC.out] at hO
          clear hown' hgrow hown1 hown
          go_wp2
          go_roundw
          case rel => exact ⟨k + m, _, hm2, by go_num, HM2, hO, hE⟩
          case measure => simp [intOf]; omega
      · go_wp2_with fail
        refine (unhide HR).mono ?_
        rintro e w1 ⟨rfl, he1⟩
        go_wp2_with fail
        refine (l1Shown_any _ _).mono ?_
        rintro e w2 ⟨rfl, rfl⟩
        have hown1 := he1.owns hown
        have hsz := he1.size
        have hsz2 := hext.size
        go_wp2_with (at_builtin; go_must (refine wpList_append_own _ rfl _ _ 55 rfl w.heap.size 21 i0 (.int .i32 0) 1 4 Tryd.underlying55 hi hz0 hz1 hz2 rfl (by decide) _ _ _ rfl (hown1.alloc _) ⟨w2.heap.size, 0, none⟩ 1 1 [.int .i32 (shownI r9)] rfl rfl ?_ ?_ ?_ ?_ ?_ ?_))
        · intro j u hj
          match j, hj with
          | 0, hj => simp at hj; subst hj; simp [Addr.add]
        · intro u hu; simp at hu; subst hu; rfl
        · unfold maxLen; omega
        · omega
        · simp; omega
        · intro v' w3 hown' hgrow _
          have hE : Ext w w3 := ((hext.trans he1).alloc _).grown hgrow (fun k hk => (hown1.lt k hk).1)
          have hO : w3.ownsRow w.heap.size 21 1 v' (acc ++ [shownI r9]).length ((acc ++ [shownI r9]).map (Value.int .i32)) := by simpa using hown'
          rw [← HC.out] at hO
          clear hown' hgrow hown1 hown
          go_wp2
          go_roundw
          case rel => exact ⟨k + m, _, hm2, by go_num, HM2, hO, hE⟩
          case measure => simp [intOf]; omega
    · have HE : Hid (acc = cleanL bs) := HM.out.done (by omega)
      go_wp2
      go_ret
      rw [← HE.out]
      exact ⟨_, rfl, hown, hext⟩
end Go.Proofs.YtbieoijeilhadaaDoor
