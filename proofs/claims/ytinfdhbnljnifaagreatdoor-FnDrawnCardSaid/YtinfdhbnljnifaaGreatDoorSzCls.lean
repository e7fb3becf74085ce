import Derived.Test.YtinfdhbnljnifaaGreatDoorShowable
import Derived.Deep.RegionHeld3
namespace Go.Proofs.YtinfdhbnljnifaaGreatDoor
open Go.RowKit
def rV (rs : List Value) (j : Nat) : Value := rs[j]?.getD (.slice none 0 0)
def cR (cs : List (List Int × Int)) (j : Nat) : List Int := (cs[j]?.getD ([], 0)).1
def cW (cs : List (List Int × Int)) (j : Nat) : Int := (cs[j]?.getD ([], 0)).2
def zaF (w : World) (v : Value) (cs : List (List Int × Int)) : Prop :=
 ∃ (rs : List Value) (ao : Option Addr) (cap : Nat), v = .slice ao cs.length cap ∧ cs.length ≤ cap ∧ (∀ j, j < cs.length → zx w .i32 (rV rs j) (cR cs j)) ∧
  (0 < cs.length → ∃ b off, ao = some ⟨b, off, none⟩ ∧ ∀ j, j < cs.length → w.cell? ⟨b, off + j * 2, none⟩ = some (rV rs j) ∧ w.cell? ⟨b, off + j * 2 + 1, none⟩ = some (.int .i64 (cW cs j)))
theorem zaF.ext {w w' : World} {v : Value} {cs : List (List Int × Int)} (h : zaF w v cs) (he : Ext w w') : zaF w' v cs := by
 obtain ⟨rs, ao, cap, e, hc, hr, hx⟩ := h
 exact ⟨rs, ao, cap, e, hc, fun j hj => (hr j hj).ext he, fun hp => by
  obtain ⟨b, off, e2, hcell⟩ := hx hp
  exact ⟨b, off, e2, fun j hj => ⟨he.cell (hcell j hj).1, he.cell (hcell j hj).2⟩⟩⟩
theorem zcV (rs : List Value) (r : Value) (i : Nat) (h : i < rs.length) : rV (rs ++ [r]) i = rV rs i := by
 unfold rV; rw [List.getElem?_append_left h]
theorem zed (rs : List Value) (r : Value) : rV (rs ++ [r]) rs.length = r := by simp [rV]
def zal (w : World) (base : Nat) (v : Value) (rs : List Value) (cs : List (List Int × Int)) : Prop :=
 rs.length = cs.length ∧ (∃ ys, w.ownsRow base 205 2 v cs.length ys ∧ ∀ j, j < cs.length → ys[j * 2]? = some (rV rs j) ∧ ys[j * 2 + 1]? = some (.int .i64 (cW cs j))) ∧
 (∀ j, j < cs.length → w.ownsRow base 21 1 (rV rs j) (cR cs j).length ((cR cs j).map (Value.int .i32))) ∧
 (∀ i j g, i < j → j < cs.length → (rV rs i).ownBlock = some g → (rV rs j).ownBlock ≠ some g)
theorem zal.ext {w w' : World} {base : Nat} {v : Value} {rs : List Value} {cs : List (List Int × Int)} (h : zal w base v rs cs) (he : Ext w w') : zal w' base v rs cs := by
 obtain ⟨h0, ⟨ys, h1, h2⟩, h3, h4⟩ := h
 exact ⟨h0, ⟨ys, he.owns h1, h2⟩, fun j hj => he.owns (h3 j hj), h4⟩
theorem zal.cls {w : World} {base : Nat} {v : Value} {rs : List Value} {cs : List (List Int × Int)} (h : zal w base v rs cs) : zaF w v cs := by
 obtain ⟨_, ⟨ys, h1, h2⟩, h3, _⟩ := h
 rcases h1.2 with ⟨rfl, h0⟩ | ⟨g, cap, cur, rfl, hb, hg, hn, hm, hs, ht⟩
 ·exact ⟨rs, none, 0, by rw [h0], by omega, fun j hj => by omega, fun hp => by omega⟩
 ·refine ⟨rs, _, cap, rfl, hn, fun j hj => zz (h3 j hj), fun _ => ⟨g, 0, rfl, fun j hj => ?_⟩⟩
  have := h2 j hj
  rw [Nat.zero_add, h1.cellAt _ (by omega), h1.cellAt _ (by omega)]
  exact this
theorem zoN : (Tryz.prog.info? 5).map (fun i => (i.zero, i.size, i.bytes)) = some (some (.int .u8 0), 1, 1) := by kernel_rfl
theorem str_eq {a b : ByteArray} (h : a.toList = b.toList) : a = b := by
 rw [ByteArray.toList_eq, ByteArray.toList_eq] at h
 exact WideShapes.bytes_inj h
theorem ze9 {w : World} {bs : List Int} {b off cap : Nat} (i n : Nat) (hc : ∀ j, j < bs.length → w.cell? ⟨b, off + j, none⟩ = some (.int .u8 (at0 bs j))) (h : i + n ≤ bs.length) (hn : n ≤ cap) :
  zx w .u8 (.slice (some ⟨b, off + i, none⟩) n cap) ((bs.drop i).take n) := by
 have hl : ((bs.drop i).take n).length = n := by simp; omega
 refine ⟨some ⟨b, off + i, none⟩, cap, by rw [hl], by omega, fun _ => ⟨b, off + i, rfl, fun j hj => ?_⟩⟩
 rw [hl] at hj
 have := hc (i + j) (by omega)
 rw [← Nat.add_assoc] at this
 rw [this]
 simp [at0, hj]
theorem run_cut {P : Program} (t e : TypeId) (I : TypeInfo) (b off len cap i n : Nat) (ht : P.underlying t = some (.slice (P.elem t))) (he : P.elem t = e) (hi : P.info? e = some I) (hz : I.size = 1) (h : i + n ≤ cap) (h0 : 0 < n) (w : World) :
  (Instr.slice t (.slice (some ⟨b, off, none⟩) len cap) (some (.int .i64 (i : Int))) (some (.int .i64 ((i : Int) + (n : Int)))) none).run P w = .ok (.slice (some ⟨b, off + i, none⟩) n (cap - i)) w := by
 rw [run_slice_lh (P := P) w t _ _ _ ht .i64 .i64 _ _ (by omega) (by omega) (by omega)]
 have e1 : ((i : Int) + (n : Int)).toNat - i = n := by omega
 have e2 : ¬ cap = i := by omega
 simp [sizeOf, typeInfo, he, hi, hz, sliced, e1, e2, Addr.add_lit]
set_option maxHeartbeats 400000 in
theorem zeO (bs : List Int) (hb : zv bs) (v : Value) (i : Nat) (w : World) (hv : zx w .u8 v bs) (hi : i < bs.length) (hl : bs.length ≤ 4398046511104) :
  Calls Tryz.prog 42 #[v, .int .i64 i] w fun e w' => e = .returned (.tuple #[.int .i64 (zak (bs.drop i)).1, .int .i64 (zak (bs.drop i)).2]) ∧ Ext w w' := by
 have hv0 := hv
 obtain ⟨ao, cap, rfl, hcap, hr⟩ := hv
 obtain ⟨b, off, rfl, hc⟩ := hr (by omega)
 clear hr
 have g0 := hc i (by omega)
 have hbi : (i : Int) < (bs.length : Int) := by omega
 have q0 : at0 (bs.drop i) 0 = at0 bs i := by rw [zaQ]; rfl
 have hlen : (bs.drop i).length = bs.length - i := by simp
 obtain ⟨n, hn⟩ : ∃ n, n = zbp (at0 bs i) := ⟨_, rfl⟩
 have h4 : n ≤ 4 := by rw [hn]; unfold zbp; (repeat' split) <;> omega
 by_cases hA : n = 0 ∨ bs.length < i + n
 ·have HF : Hid (zak (bs.drop i) = (65533, 1)) := zk2 _ (hb.drop i) (by rw [q0, ← hn, hlen]; omega) (by omega)
  have HN : Hid (n = zbp (at0 bs i)) := hn
  clear hn hc q0 hlen
  go_enter Tryz.func42, Tryz.ntmps42
  go_wp2_with fail
  refine (zcd _ _).mono ?_
  rw [← HN.out]
  rintro e w1 ⟨rfl, rfl⟩
  rcases hA with hA | hA
  ·subst hA
   go_wp2
   go_ret2
   rw [HF.out]
   exact ⟨rfl, Ext.refl _⟩
  ·by_cases h0 : n = 0
   ·subst h0; omega
   have hz : ((n : Int) == 0) = false := by simp; omega
   have hy : (bs.length : Int) < (i : Int) + (n : Int) := by omega
   go_wp2
   go_ret2
   rw [HF.out]
   exact ⟨rfl, Ext.refl _⟩
 ·obtain ⟨R1, R2, R3⟩ := zm8 (bs.drop i) (hb.drop i) n (by rw [q0]; exact hn) (by omega) (by rw [hlen]; omega)
  have HN : Hid (n = zbp (at0 bs i)) := hn
  have hz : ((n : Int) == 0) = false := by simp; omega
  have hy : (i : Int) + (n : Int) ≤ (bs.length : Int) := by omega
  clear hn q0 hlen
  obtain ⟨V, hV⟩ : ∃ V, V = zbU (bs.drop i) n := ⟨_, rfl⟩
  have HV : Hid (V = zbU (bs.drop i) n) := hV
  rw [← hV] at R1 R2 R3
  clear hV
  cases hval : Utf8.valid V
  ·have HF : Hid (zak (bs.drop i) = (65533, 1)) := R1 hval
   clear R1 R2 R3 hc
   go_enter Tryz.func42, Tryz.ntmps42
   go_wp2_with fail
   refine (zcd _ _).mono ?_
   rw [← HN.out]
   rintro e w1 ⟨rfl, rfl⟩
   go_wp2_with fail
   refine (zf1 bs hb _ i n _ hv0 (by omega) (by omega) h4 hl).mono ?_
   rw [← HV.out]
   rintro e w2 ⟨rfl, he⟩
   go_wp2_with fail
   go_quiet ((go_at_call 96; exact Calls.quiet_of_same (zbO _ _)))
   go_wp2
   go_ret2
   rw [HF.out]
   exact ⟨rfl, he.drewN _⟩
  ·have hbd := zbV hval
   have hcut := fun {W : World} (he : Ext w W) => zeq (P := Tryz.prog) W _ _ _ Tryz.underlying22 Tryz.underlying5 Tryz.underlying9 _ _ (ze9 (cap := cap - i) i n (fun j hj => he.cell (hc j hj)) (by omega) (by omega))
   have HCUT : Hid (∀ {W : World}, Ext w W → (convert 22 9 (.slice (some ⟨b, off + i, none⟩) n (cap - i))).run Tryz.prog W = .ok (.string (zo ((bs.drop i).take n))) W) := hcut
   clear hcut R1 hc
   obtain ⟨S, hS⟩ : ∃ S, S = zo ((bs.drop i).take n) := ⟨_, rfl⟩
   have HS : Hid (S = zo ((bs.drop i).take n)) := hS
   rw [← hS] at HCUT
   clear hS
   go_enter Tryz.func42, Tryz.ntmps42
   go_wp2_with fail
   refine (zcd _ _).mono ?_
   rw [← HN.out]
   rintro e w1 ⟨rfl, rfl⟩
   go_wp2_with fail
   refine (zf1 bs hb _ i n _ hv0 (by omega) (by omega) h4 hl).mono ?_
   rw [← HV.out]
   rintro e w2 ⟨rfl, he⟩
   obtain ⟨I0, hI, hI0, hI1, hI2⟩ := info_parts zoN
   have hcv := run_cut (P := Tryz.prog) 22 5 I0 b off bs.length cap i n (by kernel_rfl) (by kernel_rfl) hI hI1 (by omega) (by omega)
   clear hI hI0 hI1 hI2
   have hwr : IntKind.i64.wrap ((i : Int) + (n : Int)) = (i : Int) + (n : Int) := by rw [IntKind.wrap_i64]; omega
   go_wp2_with fail
   go_region_held3 (fun W => Ext w1 W ∧ (convert 22 9 (.slice (some ⟨b, off + i, none⟩) n (cap - i))).run Tryz.prog W = .ok (.string S) W) (first | exact ⟨he.drew, HCUT.out he.drew⟩ | exact ⟨he.trans' he' rfl rfl rfl rfl, HCUT.out (he.trans' he' rfl rfl rfl rfl)⟩) (first | (go_at_call 96; refine (zbO _ _).mono ?_; rintro e w' ⟨rfl, rfl⟩) | (go_at_call 97; refine (zeQ _ _ hbd.1 hbd.2).mono ?_; rintro e w' ⟨rfl, he'⟩))
   have hsame : zo (zbd V) = S ↔ zbd V = (bs.drop i).take n := by
    rw [HS.out]
    exact ⟨zgK (zgx V hbd.1 (by omega)) (fun x hx => hb x (List.mem_of_mem_drop (List.mem_of_mem_take hx))), fun h => by rw [h]⟩
   have HSAME : Hid (zo (zbd V) = S ↔ zbd V = (bs.drop i).take n) := hsame
   clear hsame
   have HR2 : Hid (¬ zbd V = (bs.drop i).take n → zak (bs.drop i) = (65533, 1)) := R2 hval
   have HR3 : Hid (zbd V = (bs.drop i).take n → zak (bs.drop i) = (V, n)) := R3 hval
   clear R2 R3
   go_wp2
   ·have hne : ¬ zo (zbd V) = S := by
     have h0 : (!(zo (zbd V)).toList == S.toList) = true := by assumption
     intro e; rw [e] at h0; simp at h0
    go_ret2
    rw [HR2.out (fun h => hne (HSAME.out.2 h))]
    rename_i hx _
    exact ⟨rfl, hx.1⟩
   ·have heq : zo (zbd V) = S := by
     have h0 : (!(zo (zbd V)).toList == S.toList) = false := by assumption
     exact str_eq (by simpa using h0)
    go_ret2
    rw [HR3.out (HSAME.out.1 heq)]
    rename_i hx _
    exact ⟨rfl, hx.1⟩
structure Tk where
 n : Nat
 kind : Int
 r : Int
 p : Bool
def tkV (t : Tk) : Value := .agg #[.int .i64 (t.n : Int), .int .i64 t.kind, .int .i64 t.r, .bool t.p]
def tk0 : Tk := ⟨0, 0, 0, false⟩
def zfR : List Int := [13, 10, 8, 127, 4, 2, 6, 1, 5, 16, 14, 11, 21, 23, 25, 20, 31, 18, 3]
def ziM : List Int := [3, 3, 4, 4, 5, 6, 7, 8, 9, 10, 11, 12, 13, 14, 15, 16, 17, 20, 21]
def zeE : List Int → List Int → Int → Int → Int
 | b :: bs, k :: ks, c, d => if b = c then k else zeE bs ks c d
 | _, _, _, d => d
theorem zg5 : ∀ (bs ks : List Int) (c d : Int), (∀ j, j < bs.length → at0 bs j ≠ c) → zeE bs ks c d = d
 | [], ks, c, d, _ => by cases ks <;> rfl
 | b :: bs, [], c, d, _ => rfl
 | b :: bs, k :: ks, c, d, h => by
  rw [zeE, if_neg (fun e => h 0 (by simp) (by simpa [at0] using e))]
  exact zg5 bs ks c d (fun j hj => by have := h (j + 1) (by simpa using hj); simpa [at0] using this)
theorem zh9 : ∀ (bs ks : List Int) (c d : Int) (j : Nat), j < bs.length → bs.length = ks.length → (∀ m, m < j → at0 bs m ≠ c) → at0 bs j = c → zeE bs ks c d = at0 ks j
 | [], ks, c, d, j, hj, _, _, _ => by simp at hj
 | b :: bs, [], c, d, j, _, he, _, _ => by simp at he
 | b :: bs, k :: ks, c, d, 0, _, _, _, e => by
  rw [zeE, if_pos (by simpa [at0] using e)]
  simp [at0]
 | b :: bs, k :: ks, c, d, j + 1, hj, he, h, e => by
  rw [zeE, if_neg (fun e => h 0 (by omega) (by simpa [at0] using e)), zh9 bs ks c d j (by simpa using hj) (by simpa using he) (fun m hm => by have := h (m + 1) (by omega); simpa [at0] using this) (by simpa [at0] using e)]
  simp [at0]
def zf2 (c : Int) : Int := zeE zfR ziM c (if c < 32 ∧ c ≠ 9 ∧ c ≠ 27 then 23 else 0)
def zhG : List Int := [65, 66, 67, 68, 72, 70]
def ziu : List Int := [10, 11, 7, 6, 8, 9]
def zdX (c : Int) : Int := zeE zhG ziu c 23
def zdY (xs : List Int) : Int := if xs = [51] then 5 else if xs = [49] ∨ xs = [55] then 8 else if xs = [52] ∨ xs = [56] then 9 else if xs = [50, 48, 48] then -1 else 23
def zaI : List Int → Nat
 | [] => 0
 | x :: xs => if 48 ≤ x ∧ x ≤ 63 then zaI xs + 1 else 0
def zcS (s : List Int) : Tk :=
 if s.length ≤ 2 + zaI (s.drop 2) then tk0
 else if at0 s (2 + zaI (s.drop 2)) < 64 ∨ 126 < at0 s (2 + zaI (s.drop 2)) then ⟨zaI (s.drop 2) + 2, 23, 0, false⟩
 else if (if at0 s (2 + zaI (s.drop 2)) = 126 then zdY ((s.drop 2).take (zaI (s.drop 2))) else if zaI (s.drop 2) = 0 then zdX (at0 s (2 + zaI (s.drop 2))) else 23) < 0 then ⟨zaI (s.drop 2) + 3, 0, 0, true⟩
 else ⟨zaI (s.drop 2) + 3, if at0 s (2 + zaI (s.drop 2)) = 126 then zdY ((s.drop 2).take (zaI (s.drop 2))) else if zaI (s.drop 2) = 0 then zdX (at0 s (2 + zaI (s.drop 2))) else 23, 0, false⟩
def zcr (s : List Int) : Tk :=
 if s.length ≤ 1 then tk0 else if at0 s 1 = 27 then ⟨1, 22, 0, false⟩ else if at0 s 1 = 91 then zcS s
 else if at0 s 1 = 79 then (if s.length ≤ 2 then tk0 else ⟨3, zdX (at0 s 2), 0, false⟩)
 else if at0 s 1 = 98 then ⟨2, 18, 0, false⟩ else if at0 s 1 = 102 then ⟨2, 19, 0, false⟩ else ⟨2, 23, 0, false⟩
def zaY (cs : List (List Int × Int)) : Nat → Nat
 | 0 => 0
 | j + 1 => zaY cs j + (cR cs j).length
end Go.Proofs.YtinfdhbnljnifaaGreatDoor
