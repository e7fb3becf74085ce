import Derived.Test.YtinfdhbnljnifaaGreatDoorSettle
import Derived.Test.YtinfdhbnljnifaaGreatDoorKys
import Derived.Lib.TrimByte
import Derived.Lib.ItoaNum
import Derived.Lib.Join
import Derived.Test.YtinfdhbnljnifaaGreatDoorRsz
import Derived.ProofKit
import Derived.OpenShut
import Derived.OpenVars
import Derived.Carry
import Derived.ChangeOld
import Derived.Deep.RegionHeld
namespace Go.Proofs.YtinfdhbnljnifaaGreatDoor
open Go.RowKit
theorem ziC {xs ys : List Int} (hx : zv xs) (hy : zv ys) (h : xs ≠ ys) : ((zo xs).toList == (zo ys).toList) = false := by
 rw [beq_eq_false_iff_ne, zbR, zbR]
 intro e
 exact h (zgK hx hy (WideShapes.bytes_inj e))
set_option maxRecDepth 10000 in
set_option maxHeartbeats 400000 in
theorem zcl (bs : List Int) (hb : zv bs) (w : World) (hl : bs.length ≤ 8000000) :
  Calls Tryz.prog 140 #[.string (zo bs)] w fun e w' => e = .returned (.int .i64 ((zm bs).length : Int)) ∧ Ext w w' := by
 obtain ⟨v0, w0, hrun, h0, E0⟩ := zec (P := Tryz.prog) w _ _ _ Tryz.underlying9 Tryz.underlying22 Tryz.underlying5 bs hb
 have H0 := zh h0
 clear h0
 go_enter Tryz.func140, Tryz.ntmps140
 go_wp2_with fail
 refine (zbn bs hb v0 w0 (zu H0) (by omega)).mono ?_
 rintro e w1 ⟨v1, rfl, o1, F1⟩
 obtain ⟨ao, cap, hv1, _, _⟩ := zz o1
 subst hv1
 clear o1
 go_wp2
 go_ret
 exact ⟨rfl, E0.trans F1⟩
set_option maxRecDepth 10000 in
set_option maxHeartbeats 1000000 in
theorem ziF (bs : List Int) (hb : zv bs) (w : World) (hl : bs.length ≤ 4194304) (ok : Bool) (hok : ok = true ↔ (bs.length ≤ 1200 ∧ (zm bs).length ≤ 300 ∧ zas bs = bs)) :
  Calls Tryz.prog 174 #[.string (zo bs), .int .i64 300] w fun e w' => e = .returned (.bool ok) ∧ Ext w w' := by
 have hsz := zai bs
 have HOK := zh hok
 clear hok
 by_cases h1 : bs.length ≤ 1200
 ·have h1I : (bs.length : Int) ≤ 1200 := by omega
  go_enter Tryz.func174, Tryz.ntmps174
  go_wp2_with fail
  refine (zcl bs hb w (by omega)).mono ?_
  rintro e w1 ⟨rfl, F1⟩
  by_cases h2 : (zm bs).length ≤ 300
  ·have h2I : ((zm bs).length : Int) ≤ 300 := by omega
   go_wp2_with fail
   refine (zg3 bs hb w1 (by omega)).mono ?_
   rintro e w2 ⟨rfl, F2⟩
   by_cases h3 : zas bs = bs
   ·have ht : ok = true := (zu HOK).2 ⟨h1, h2, h3⟩
    subst ht
    rw [h3]
    go_wp2
    go_ret
    exact ⟨rfl, F1.trans F2⟩
   ·have hf : ok = false := by
     cases ok
     ·rfl
     ·exact absurd ((zu HOK).1 rfl).2.2 h3
    subst hf
    have hneb := ziC (zhY bs) hb h3
    go_wp2
    go_ret
    exact ⟨rfl, F1.trans F2⟩
  ·have h2I : ¬ ((zm bs).length : Int) ≤ 300 := by omega
   have hf : ok = false := by
    cases ok
    ·rfl
    ·exact absurd ((zu HOK).1 rfl).2.1 h2
   subst hf
   go_wp2
   go_ret
   exact ⟨rfl, F1⟩
 ·have h1I : ¬ (bs.length : Int) ≤ 1200 := by omega
  have hf : ok = false := by
   cases ok
   ·rfl
   ·exact absurd ((zu HOK).1 rfl).1 h1
  subst hf
  go_enter Tryz.func174, Tryz.ntmps174
  go_wp2
  go_ret
  exact ⟨rfl, Ext.refl _⟩
theorem zj5 {r : Int} (h : Utf8.valid r = true) : (0 ≤ r ∧ r ≤ 127) ∨ (128 ≤ r ∧ r ≤ 2047) ∨ ((2048 ≤ r ∧ r < 55296) ∨ (57343 < r ∧ r ≤ 65535)) ∨ (65536 ≤ r ∧ r ≤ 1114111) := by
 have hb := zbV h
 by_cases hs : 55296 ≤ r ∧ r ≤ 57343
 ·exfalso
  unfold Utf8.valid at h
  simp at h
  omega
 ·omega
theorem zja (r : Int) (h : Utf8.valid r = true) (rest : List Int) : zak (zac r ++ rest) = (r, (zac r).length) := by
 rcases zj5 h with h1 | h1 | h1 | h1
 ·rw [zog h1.1 h1.2]
  have a0 : at0 ([r] ++ rest) 0 = r := by simp [at0]
  unfold zak
  simp only [a0]
  rw [if_pos (by omega)]
  rfl
 ·rw [zoC h1.1 h1.2]
  obtain ⟨l, hl⟩ : ∃ l, l = [192 + r / 64, 128 + r % 64] ++ rest := ⟨_, rfl⟩
  have a0 : at0 l 0 = 192 + r / 64 := by rw [hl]; simp [at0]
  have a1 : at0 l 1 = 128 + r % 64 := by rw [hl]; simp [at0]
  have c1 : zaz l 1 = true := by unfold zaz; rw [a1, hl]; simp; omega
  have hv : v2 l = r := by unfold v2; rw [a0, a1]; omega
  rw [← hl]
  unfold zak
  rw [if_neg (by omega), if_pos ⟨by omega, c1⟩, hv, if_pos (by omega)]
  rfl
 ·rw [zlj h1]
  obtain ⟨l, hl⟩ : ∃ l, l = [224 + r / 4096, 128 + r / 64 % 64, 128 + r % 64] ++ rest := ⟨_, rfl⟩
  have a0 : at0 l 0 = 224 + r / 4096 := by rw [hl]; simp [at0]
  have a1 : at0 l 1 = 128 + r / 64 % 64 := by rw [hl]; simp [at0]
  have a2 : at0 l 2 = 128 + r % 64 := by rw [hl]; simp [at0]
  have c1 : zaz l 1 = true := by unfold zaz; rw [a1, hl]; simp; omega
  have c2 : zaz l 2 = true := by unfold zaz; rw [a2, hl]; simp; omega
  have hv : v3 l = r := by unfold v3; rw [a0, a1, a2]; omega
  rw [← hl]
  unfold zak
  rw [if_neg (by omega), if_neg (by omega), if_pos ⟨by omega, c1, c2⟩, hv, if_pos ⟨by omega, h⟩]
  rfl
 ·rw [zmI h1.1 h1.2]
  obtain ⟨l, hl⟩ : ∃ l, l = [240 + r / 262144, 128 + r / 4096 % 64, 128 + r / 64 % 64, 128 + r % 64] ++ rest := ⟨_, rfl⟩
  have a0 : at0 l 0 = 240 + r / 262144 := by rw [hl]; simp [at0]
  have a1 : at0 l 1 = 128 + r / 4096 % 64 := by rw [hl]; simp [at0]
  have a2 : at0 l 2 = 128 + r / 64 % 64 := by rw [hl]; simp [at0]
  have a3 : at0 l 3 = 128 + r % 64 := by rw [hl]; simp [at0]
  have c1 : zaz l 1 = true := by unfold zaz; rw [a1, hl]; simp; omega
  have c2 : zaz l 2 = true := by unfold zaz; rw [a2, hl]; simp; omega
  have c3 : zaz l 3 = true := by unfold zaz; rw [a3, hl]; simp; omega
  have hv : v4 l = r := by unfold v4; rw [a0, a1, a2, a3]; omega
  rw [← hl]
  unfold zak
  rw [if_neg (by omega), if_neg (by omega), if_neg (by omega), if_pos ⟨by omega, c1, c2, c3⟩, hv, if_pos ⟨by omega, h⟩]
  rfl
def za5 (r : Int) : Prop := Utf8.valid r = true ∧ 32 ≤ r ∧ ¬ (127 ≤ r ∧ r ≤ 159)
theorem za5.shown {r : Int} (h : za5 r) : zaa r = r := by
 unfold zaa
 rw [if_neg]
 rintro (h1 | h1 | h1)
 ·rw [h.1] at h1; cases h1
 ·have := h.2.1; omega
 ·exact h.2.2 h1
theorem za5.clean {r : Int} (h : za5 r) : zbo r = r := by
 unfold zbo
 rw [if_neg (by have := h.2.1; omega), h.shown]
theorem zcs (r : Int) : za5 (zaa r) := by
 unfold zaa
 split
 ·exact ⟨by decide, by omega, by omega⟩
 ·rename_i h
  refine ⟨?_, by omega, by omega⟩
  cases hv : Utf8.valid r
  ·exact absurd (.inl hv) h
  ·rfl
theorem zje (r : Int) : za5 (zbo r) := by
 unfold zbo
 split
 ·exact ⟨by decide, by omega, by omega⟩
 ·exact zcs r
theorem zgP : ∀ (f : Nat) (l : List Int), ∀ x ∈ zbh f l, za5 x
 | 0, l => by simp [zbh]
 | f + 1, l => by
  intro x hx
  rw [zbh] at hx
  split at hx
  ·simp at hx
  ·rcases List.mem_cons.1 hx with rfl | h
   ·exact zje _
   ·exact zgP f _ x h
theorem zcg (l : List Int) : ∀ x ∈ zm l, za5 x := zgP _ _
def zaO : List Int → List Int
 | [] => []
 | x :: xs => zac x ++ zaO xs
theorem zdn (xs ys : List Int) : zaO (xs ++ ys) = zaO xs ++ zaO ys := by
 induction xs with
 | nil => rfl
 | cons x xs ih => simp [zaO, ih]
theorem zkd (r : Int) : 0 < (zac r).length := by
 unfold zac zbd
 split
 ·repeat' split
  all_goals simp
 ·simp
theorem zfv : ∀ (xs : List Int), (∀ x ∈ xs, za5 x) → zm (zaO xs) = xs
 | [], _ => zgN _ rfl
 | x :: xs, h => by
  have hx := h x (by simp)
  have hp := zkd x
  rw [zaO, zfV _ (by simp; omega), zja x hx.1]
  simp only
  rw [hx.clean, List.drop_left, zfv xs (fun y hy => h y (by simp [hy]))]
def zaL : List (List Int × Int) → List Int
 | [] => []
 | c :: cs => c.1 ++ zaL cs
theorem zbe (xs ys : List (List Int × Int)) : zaL (xs ++ ys) = zaL xs ++ zaL ys := by
 induction xs with
 | nil => rfl
 | cons x xs ih => simp [zaL, ih]
theorem zlW (xs : List Int) : ∀ k, k ≤ xs.length → txR xs k = zaO (xs.take k)
 | 0, _ => by simp [txR, zaO]
 | k + 1, h => by
  rw [txR, zlW xs k (by omega), List.take_succ_eq_append_getElem (by omega), zdn]
  simp [zaO, at0, show k < xs.length by omega]
theorem zmc (cs : List (List Int × Int)) : ∀ k, k ≤ cs.length → txT cs k = zaO (zaL (cs.take k))
 | 0, _ => by simp [txT, zaL, zaO]
 | k + 1, h => by
  rw [txT, zmc cs k (by omega), List.take_succ_eq_append_getElem (by omega), zbe, zdn, zlW _ _ (Nat.le_refl _), List.take_length]
  simp [zaL, cR, show k < cs.length by omega]
theorem zaC (cs : List (List Int × Int)) : zy cs = zaO (zaL cs) := by
 rw [zy, zmc cs cs.length (Nat.le_refl _), List.take_length]
theorem zoM (cs : List (List Int × Int)) (x d : Int) (h : 0 < cs.length) : zaL (cs.set (cs.length - 1) (cR cs (cs.length - 1) ++ [x], d)) = zaL cs ++ [x] := by
 obtain ⟨ys, y, rfl⟩ : ∃ ys y, cs = ys ++ [y] := ⟨cs.dropLast, cs.getLast (by intro e; simp [e] at h), (List.dropLast_concat_getLast _).symm⟩
 have : (ys ++ [y]).length - 1 = ys.length := by simp
 rw [this, List.set_append_right _ _ (Nat.le_refl _), Nat.sub_self]
 simp [zbe, zaL, cR]
def fl (xs : List Int) : List Int := if xs = [] then [] else if 0 < wid (at0 xs 0) then xs else 9676 :: xs
theorem zgz (xs : List Int) : ∀ k, k ≤ xs.length → (clF xs k).length = 0 ∧ k = 0 ∨ 0 < (clF xs k).length ∧ 0 < k ∧ zaL (clF xs k) = fl ((xs.take k).map zaa)
 | 0, _ => .inl ⟨rfl, rfl⟩
 | k + 1, h => by
  right
  have hk : k < xs.length := by omega
  have ht : (xs.take (k + 1)).map zaa = (xs.take k).map zaa ++ [zaa (at0 xs k)] := by
   rw [List.take_succ_eq_append_getElem hk, List.map_append]
   simp [at0, hk]
  rcases zgz xs k (by omega) with ⟨h1, h2⟩ | ⟨h1, h2, h3⟩
  ·subst h2
   rw [clF, za3]
   have e0 : clF xs 0 = [] := rfl
   rw [ht, e0]
   by_cases hw : 0 < wid (zaa (at0 xs 0))
   ·rw [if_pos hw]
    simp [zaL, fl, at0] at hw ⊢
    exact hw
   ·rw [if_neg hw]
    simp [zaL, fl, at0] at hw ⊢
    exact hw
  ·have hf : ∀ y, fl ((xs.take k).map zaa ++ [y]) = fl ((xs.take k).map zaa) ++ [y] := by
    intro y
    have hne : (xs.take k).map zaa ≠ [] := by
     intro e
     have h9 := congrArg List.length e
     rw [List.length_map, List.length_take, List.length_nil] at h9
     omega
    have ha : at0 ((xs.take k).map zaa ++ [y]) 0 = at0 ((xs.take k).map zaa) 0 := by
     unfold at0
     rw [List.getElem?_append_left (by simp; omega)]
    unfold fl
    rw [if_neg (by simp), if_neg hne, ha]
    split <;> simp
   rw [clF, za3, ht, hf]
   by_cases hw : 0 < wid (zaa (at0 xs k))
   ·rw [if_pos hw]
    refine ⟨by simp, by omega, ?_⟩
    rw [zbe, h3]
    simp [zaL]
   ·rw [if_neg hw, if_neg (by omega)]
    refine ⟨by simpa using h1, by omega, ?_⟩
    rw [zoM _ _ _ h1, h3]
theorem zfD (xs : List Int) (h : ∀ x ∈ xs, za5 x) : zaL (zaB xs) = fl xs := by
 have hm : xs.map zaa = xs := by
  conv => rhs; rw [← List.map_id xs]
  exact List.map_congr_left fun x hx => (h x hx).shown
 unfold zaB
 rcases zgz xs xs.length (Nat.le_refl _) with ⟨h1, h2⟩ | ⟨_, _, h3⟩
 ·have e : xs = [] := List.eq_nil_of_length_eq_zero h2
  subst e
  rfl
 ·rw [h3, List.take_length, hm]
theorem zjv (xs : List Int) (h : ∀ x ∈ xs, za5 x) : ∀ x ∈ fl xs, za5 x := by
 unfold fl
 split
 ·simp
 ·split
  ·exact h
  ·intro x hx
   rcases List.mem_cons.1 hx with rfl | hx
   ·exact ⟨by decide, by omega, by omega⟩
   ·exact h x hx
theorem zc4 (bs : List Int) : zas bs = zaO (fl (zm bs)) := by
 rw [zas, zaC, zfD _ (zcg bs)]
def clG (cs : List (List Int × Int)) (x : Int) : List (List Int × Int) := za3 cs (zaa x)
theorem zkw (xs : List Int) : ∀ k, k ≤ xs.length → clF xs k = (xs.take k).foldl clG []
 | 0, _ => rfl
 | k + 1, h => by
  rw [clF, zkw xs k (by omega), List.take_succ_eq_append_getElem (by omega), List.foldl_append]
  simp [clG, at0, show k < xs.length by omega]
theorem zix (xs : List Int) : zaB xs = xs.foldl clG [] := by
 unfold zaB
 rw [zkw xs _ (Nat.le_refl _), List.take_length]
def zaW (c : List Int × Int) : Prop := c.1.foldl clG [] = [c]
theorem zmS (x : Int) (h : 0 < wid (zaa x)) : zaW ([zaa x], wid (zaa x)) := by
 unfold zaW
 simp only [List.foldl_cons, List.foldl_nil, clG, za3]
 rw [(zcs x).shown, if_pos h]
 rfl
theorem zg6 (c : List Int × Int) (x : Int) (hc : zaW c) (h : ¬ 0 < wid (zaa x)) : zaW (c.1 ++ [zaa x], c.2) := by
 unfold zaW at *
 rw [List.foldl_append, hc]
 simp only [List.foldl_cons, List.foldl_nil, clG, za3]
 rw [(zcs x).shown, if_neg h]
 simp [cR, cW]
theorem zk6 (x : Int) (h : ¬ 0 < wid (zaa x)) : zaW ([9676, zaa x], 1) := by
 have h0 : zaW ([9676], 1) := by
  unfold zaW
  simp only [List.foldl_cons, List.foldl_nil, clG, za3]
  decide
 exact zg6 ([9676], 1) x h0 h
theorem znE (cs : List (List Int × Int)) (x : Int) (h : ∀ c ∈ cs, zaW c) : ∀ c ∈ clG cs x, zaW c := by
 intro c hc
 unfold clG za3 at hc
 split at hc
 ·rename_i hw
  rcases List.mem_append.1 hc with hc | hc
  ·exact h c hc
  ·simp at hc
   rw [hc]
   exact zmS x hw
 ·rename_i hw
  split at hc
  ·simp at hc
   rw [hc]
   exact zk6 x hw
  ·rename_i h0
   rcases List.mem_or_eq_of_mem_set hc with hc | hc
   ·exact h c hc
   ·rw [hc]
    have hl : cs.length - 1 < cs.length := by omega
    have hg := h cs[cs.length - 1] (List.getElem_mem hl)
    have := zg6 _ x hg hw
    simpa [cR, cW, hl] using this
theorem zil : ∀ (ys : List Int) (cs : List (List Int × Int)), (∀ c ∈ cs, zaW c) → ∀ c ∈ ys.foldl clG cs, zaW c
 | [], _, h => h
 | y :: ys, cs, h => by
  rw [List.foldl_cons]
  exact zil ys _ (znE cs y h)
theorem zeu (xs : List Int) : ∀ c ∈ zaB xs, zaW c := by
 rw [zix]
 exact zil xs [] (by simp)
def zdb : Nat → List Int → List Int
 | 0, _ => []
 | f + 1, l => if l.length = 0 then [] else (zak l).1 :: zdb f (l.drop (zak l).2)
def zbJ (l : List Int) : List Int := zdb l.length l
theorem zfX : ∀ (f g : Nat) (l : List Int), l.length ≤ f → l.length ≤ g → zdb f l = zdb g l
 | 0, 0, _, _, _ => rfl
 | 0, g + 1, l, h, _ => by simp [zdb]; exact List.eq_nil_of_length_eq_zero (by omega)
 | f + 1, 0, l, _, h => by simp [zdb]; exact List.eq_nil_of_length_eq_zero (by omega)
 | f + 1, g + 1, l, h1, h2 => by
  simp only [zdb]
  split
  ·rfl
  ·have hp := zb2 l
   rw [zfX f g _ (by simp; omega) (by simp; omega)]
theorem zjM (l : List Int) (h : 0 < l.length) : zbJ l = (zak l).1 :: zbJ (l.drop (zak l).2) := by
 unfold zbJ
 obtain ⟨m, hm⟩ : ∃ m, l.length = m + 1 := ⟨l.length - 1, by omega⟩
 have hp := zb2 l
 rw [hm]
 simp only [zdb]
 rw [if_neg (by omega), zfX m _ _ (by simp; omega) (Nat.le_refl _)]
theorem zf6 (l : List Int) : zm l = (zbJ l).map zbo := by
 have : ∀ f (l : List Int), zbh f l = (zdb f l).map zbo := by
  intro f
  induction f with
  | zero => intro l; rfl
  | succ f ih =>
   intro l
   simp only [zbh, zdb]
   split
   ·rfl
   ·rw [ih]; rfl
 exact this _ _
theorem zih : ∀ (xs : List Int), (∀ x ∈ xs, Utf8.valid x = true) → zbJ (zaO xs) = xs
 | [], _ => rfl
 | x :: xs, h => by
  have hp := zkd x
  rw [zaO, zjM _ (by simp; omega), zja x (h x (by simp))]
  simp only
  rw [List.drop_left, zih xs (fun y hy => h y (by simp [hy]))]
def zoF (l : List Int) : Prop := zaO (zbJ l) = l
theorem zjG (l : List Int) : zas l = l ↔ (∀ r ∈ zbJ l, zaa r = r) ∧ (zbJ l ≠ [] → 0 < wid (at0 (zbJ l) 0)) ∧ zoF l := by
 constructor
 ·intro h
  have hc := zjv _ (zcg l)
  have he : zbJ l = fl (zm l) := by
   have := zih (fl (zm l)) (fun x hx => (hc x hx).1)
   rw [← zc4, h] at this
   exact this
  refine ⟨fun r hr => ?_, fun hne => ?_, ?_⟩
  ·rw [he] at hr
   exact (hc r hr).shown
  ·rw [he] at hne ⊢
   unfold fl at hne ⊢
   split
   ·rename_i e; rw [if_pos e] at hne; exact absurd rfl hne
   ·split
    ·assumption
    ·show 0 < wid 9676
     decide
  ·unfold zoF
   rw [he, ← zc4, h]
 ·rintro ⟨h1, h2, h3⟩
  have hm : zm l = zbJ l := by
   rw [zf6]
   conv => rhs; rw [← List.map_id (zbJ l)]
   refine List.map_congr_left fun r hr => ?_
   have := h1 r hr
   unfold zbo
   split
   ·rename_i e
    subst e
    exact absurd this (by decide)
   ·exact this
  rw [zc4, hm]
  have hf : fl (zbJ l) = zbJ l := by
   unfold fl
   split
   ·rename_i e; exact e.symm
   ·rename_i e
    rw [if_pos (h2 e)]
  rw [hf]
  exact h3
def zdk (s : ByteArray) : Nat → Nat
 | 0 => 0
 | k + 1 => if s.data.toList[k]? = some 32 then zdk s k else k + 1
set_option maxRecDepth 10000 in
set_option maxHeartbeats 1000000 in
theorem zll (s : ByteArray) (w : World) (hs : s.size ≤ 1048576) :
  Calls Tryz.prog 83 #[.string s] w fun e w' => e = .returned (.string (s.extract 0 (zdk s s.size))) ∧ w' = w := by
 go_enter Tryz.func83, Tryz.ntmps83
 go_wp2
 go_loop [3] (fun i => ∃ k : Nat, k ≤ s.size ∧ i = .int .i64 k ∧ Hid (zdk s s.size = zdk s k)) (fun i => (intOf i).toNat)
 case atStart => exact ⟨s.size, Nat.le_refl _, rfl, zh rfl⟩
 case round =>
  obtain ⟨k, hk, rfl, HJ⟩ := hrel
  by_cases h0 : k = 0
  ·subst h0
   have hfin : Hid (zdk s s.size = 0) := zh ((zu HJ).trans rfl)
   go_wp2
   go_ret
   exact ⟨by rw [zu hfin]; simp, rfl⟩
  ·obtain ⟨j, rfl⟩ : ∃ j, k = j + 1 := ⟨k - 1, by omega⟩
   have hw1 : IntKind.i64.wrap (((j + 1 : Nat) : Int) - 1) = (j : Int) := by rw [IntKind.wrap_i64]; omega
   have bj : (j : Int) < (s.size : Int) := by omega
   have hj : j < s.size := by omega
   have hat : s.data.toList[j]? = some (s[j]'hj) := by
    rw [List.getElem?_eq_getElem (by simpa using hj)]
    simp [ByteArray.getElem_eq_getElem_data]
   by_cases he : (s[j]'hj).toNat = 32
   ·have HJ2 : Hid (zdk s s.size = zdk s j) := zh ((zu HJ).trans (by
     rw [zdk, if_pos]
     rw [hat]
     exact congrArg some (UInt8.toNat_inj.1 he)))
    clear hat
    go_wp2
    go_round
    case rel => exact ⟨j, by omega, rfl, HJ2⟩
    case measure => simp [intOf]
   ·have hfin : Hid (zdk s s.size = j + 1) := zh ((zu HJ).trans (by
     rw [zdk, if_neg]
     rw [hat]
     exact fun e => he (by rw [Option.some.inj e]; rfl)))
    clear hat
    go_wp2
    go_ret
    exact ⟨by rw [zu hfin]; rfl, rfl⟩
def zaR (s : ByteArray) : ByteArray := s.extract 0 (zdk s s.size)
def tkL (l : List UInt8) : Nat → Nat
 | 0 => 0
 | k + 1 => if l[k]? = some 32 then tkL l k else k + 1
theorem zii (s : ByteArray) : ∀ k, zdk s k = tkL s.data.toList k
 | 0 => rfl
 | k + 1 => by rw [zdk, tkL, zii s k]
theorem zl0 (l r : List UInt8) : ∀ k, k ≤ l.length → tkL (l ++ r) k = tkL l k
 | 0, _ => rfl
 | k + 1, h => by rw [tkL, tkL, zl0 l r k (by omega), List.getElem?_append_left (by omega)]
theorem znH (l : List UInt8) : ∀ k, tkL l k ≤ k
 | 0 => Nat.le_refl _
 | k + 1 => by
  rw [tkL]
  split
  ·have := znH l k
   omega
  ·exact Nat.le_refl _
theorem zoi (l : List UInt8) : l.take (tkL l l.length) = Lib.trimRightB l 32 := by
 obtain ⟨m, rfl⟩ : ∃ m : List UInt8, l = m.reverse := ⟨l.reverse, by simp⟩
 induction m with
 | nil => rfl
 | cons a m ih =>
  unfold Lib.trimRightB at ih ⊢
  rw [List.reverse_reverse] at ih ⊢
  rw [List.reverse_cons, List.length_append]
  show List.take (tkL (m.reverse ++ [a]) (m.reverse.length + 1)) _ = _
  rw [tkL, List.getElem?_append_right (Nat.le_refl _), Nat.sub_self, List.dropWhile_cons]
  by_cases h : a = 32
  ·subst h
   rw [if_pos (by rfl), if_pos (by rfl), zl0 _ _ _ (Nat.le_refl _), ← ih, List.take_append_of_le_length (znH _ _)]
  ·rw [if_neg (by simpa using h), if_neg (by simpa using h), List.take_of_length_le (by simp)]
   simp
theorem zea (s : ByteArray) : (⟨(Lib.trimRightB s.data.toList 32).toArray⟩ : ByteArray) = zaR s := by
 apply WideShapes.bytes_inj
 have hl : s.data.toList.length = s.size := by simp
 rw [zaR, zii, ← zoi, hl, ByteArray.data_extract]
 simp
def zcb (tx : Nat → ByteArray) : Nat → List Int
 | 0 => []
 | i + 1 => zcb tx i ++ ((if i = 0 then [] else [13, 10]) ++ baL (tx i))
def zgE (tx : Nat → ByteArray) : Nat → Nat
 | 0 => 0
 | i + 1 => zgE tx i + (tx i).size
theorem zd7 (tx : Nat → ByteArray) : ∀ n, zv (zcb tx n)
 | 0 => by intro x hx; simp [zcb] at hx
 | n + 1 => by
  refine (zd7 tx n).app (zv.app ?_ (zf _))
  intro x hx
  split at hx
  ·simp at hx
  ·simp at hx; omega
theorem zej (tx : Nat → ByteArray) : ∀ n, (zcb tx n).length ≤ zgE tx n + 2 * n
 | 0 => by simp [zcb]
 | n + 1 => by
  have := zej tx n
  have h2 : (if n = 0 then ([] : List Int) else [13, 10]).length ≤ 2 := by split <;> simp
  simp only [zcb, zgE, List.length_append, zw]
  omega
theorem zhz {α : Type} (sep : List α) : ∀ (xs : List (List α)) (y : List α), sep.intercalate (xs ++ [y]) = if xs = [] then y else sep.intercalate xs ++ sep ++ y
 | [], y => by simp [List.intercalate]
 | [x], y => by simp [List.intercalate]
 | x :: x' :: xs, y => by
  have ih := zhz sep (x' :: xs) y
  simp only [List.intercalate] at ih ⊢
  simp only [List.cons_append, List.intersperse, List.flatten_cons] at ih ⊢
  simp at ih ⊢
  rw [ih]
theorem zic (tx : Nat → ByteArray) : ∀ n : Nat, (Lib.join (((List.range n).map tx).map (fun x => x.data.toList)) [13, 10]).map (fun b => ((b.toNat : Nat) : Int)) = zcb tx n
 | 0 => by simp [Lib.join, zcb, List.intercalate]
 | n + 1 => by
  have ih := zic tx n
  unfold Lib.join at ih ⊢
  rw [List.range_succ, List.map_append, List.map_append, List.map_cons, List.map_nil, List.map_cons, List.map_nil, zhz]
  by_cases h : n = 0
  ·subst h
   simp [zcb, baL]
  ·rw [if_neg (by simp [h]), List.map_append, List.map_append, ih, zcb, if_neg h, List.append_assoc]
   rfl
theorem dec_dg : ∀ u : Nat, 0 < u → (Lib.decDigits u).map (fun b => ((b.toNat : Nat) : Int)) = dg u := by
 intro u
 induction u using Nat.strongRecOn with
 | _ u ih =>
  intro h
  rw [ze3 u h, Lib.decDigits]
  by_cases h1 : u < 10
  ·rw [dif_pos h1, show u / 10 = 0 by omega]
   simp [dg, dgs, Nat.mod_eq_of_lt h1]
   omega
  ·rw [dif_neg h1, List.map_append, ih (u / 10) (by omega) (by omega)]
   simp
   omega
theorem zmb (n : Int) (h : 0 < n) : (Lib.itoa n).map (fun b => ((b.toNat : Nat) : Int)) = dg n.toNat := by
 rw [Lib.itoa, if_neg (by omega)]
 exact dec_dg _ (by omega)
theorem zoI : ∀ u : Nat, zv (dg u) := by
 intro u
 induction u using Nat.strongRecOn with
 | _ u ih =>
  by_cases h : u = 0
  ·subst h; intro x hx; simp [dg, dgs] at hx
  ·rw [ze3 u (by omega)]
   refine (ih (u / 10) (by omega)).app ?_
   intro x hx
   simp at hx
   omega
theorem zfg : ∀ (k u : Nat), u < 10 ^ k → (dg u).length ≤ k := by
 intro k
 induction k with
 | zero => intro u h; simp at h; subst h; simp [dg, dgs]
 | succ k ih =>
  intro u h
  by_cases h0 : u = 0
  ·subst h0; simp [dg, dgs]
  ·rw [ze3 u (by omega)]
   have := ih (u / 10) (by rw [Nat.pow_succ] at h; omega)
   simp; omega
def goL (n c : Int) : List Int := if n ≤ 0 then [] else 27 :: 91 :: (dg n.toNat ++ [c])
theorem zcz (n c : Int) (h0 : 0 ≤ c) (h1 : c ≤ 255) : zv (goL n c) := by
 unfold goL
 split
 ·intro x hx; simp at hx
 ·intro x hx
  simp at hx
  rcases hx with rfl | rfl | hx | rfl
  ·omega
  ·omega
  ·exact zoI _ x hx
  ·omega
theorem zci (n c : Int) (h : n ≤ 99999999) : (goL n c).length ≤ 11 := by
 unfold goL
 split
 ·simp
 ·have := zfg 8 n.toNat (by omega)
  simp; omega
def bOk (n : Nat) (row col : Int) : Prop := 0 ≤ row ∧ row < (n : Int) ∧ 0 ≤ col ∧ col < 200
abbrev bOkD (n : Nat) (row col : Int) : Decidable (bOk n row col) := inferInstanceAs (Decidable (0 ≤ row ∧ row < (n : Int) ∧ 0 ≤ col ∧ col < 200))
theorem bOk_t {n : Nat} {row col : Int} (h : bOk n row col) : @decide (bOk n row col) (bOkD n row col) = true := @decide_eq_true _ (bOkD n row col) h
theorem bOk_f {n : Nat} {row col : Int} (h : ¬ bOk n row col) : @decide (bOk n row col) (bOkD n row col) = false := @decide_eq_false _ (bOkD n row col) h
def zaM (n : Nat) (tx : Nat → ByteArray) (row col : Int) : List Int := @ite _ (bOk n row col) (bOkD n row col) (zcb tx n ++ (goL ((n : Int) - 1 - row) 65 ++ goL (col + 1) 71)) []
def zaN (n : Nat) (row col : Int) : List Int := @ite _ (bOk n row col) (bOkD n row col) (13 :: (goL row 65 ++ [27, 91, 74])) []
theorem zcG (n : Nat) (tx : Nat → ByteArray) (row col : Int) (hn : n ≤ 1048576) : (zaM n tx row col).length ≤ zgE tx n + 2 * n + 22 := by
 unfold zaM
 split
 ·rename_i h
  unfold bOk at h
  have h1 := zej tx n
  have h2 := zci ((n : Int) - 1 - row) 65 (by omega)
  have h3 := zci (col + 1) 71 (by omega)
  simp only [List.length_append]; omega
 ·simp
theorem zdr (n : Nat) (row col : Int) (hn : n ≤ 1048576) : (zaN n row col).length ≤ 15 := by
 unfold zaN
 split
 ·rename_i h
  unfold bOk at h
  have h2 := zci row 65 (by omega)
  simp only [List.length_append, List.length_cons, List.length_nil]; omega
 ·simp
theorem zb8 (n : Nat) (tx : Nat → ByteArray) (row col : Int) : zv (zaM n tx row col) := by
 unfold zaM
 split
 ·exact (zd7 tx n).app ((zcz _ _ (by omega) (by omega)).app (zcz _ _ (by omega) (by omega)))
 ·intro x hx; simp at hx
theorem zdJ (n : Nat) (row col : Int) : zv (zaN n row col) := by
 unfold zaN
 split
 ·refine zv.app (xs := [13]) (fun x hx => ?_) ((zcz _ _ (by omega) (by omega)).app (fun x hx => ?_))
  ·simp at hx; omega
  ·simp at hx; omega
 ·intro x hx; simp at hx
end Go.Proofs.YtinfdhbnljnifaaGreatDoor

namespace Go.Proofs.YtinfdhbnljnifaaGreatDoor
open Go.ChangeShapes Go.WideShapes Go.ChangeAt Go.RowKit
def zlZ (P : Program) (ts : List TypeId) : Bool := ts.all fun t => P.readableRec t && decide (t < P.types.size)
theorem zeC {H : Type} {enc : TypeId × Value → H} {P : Program} (hl : laidOutB P = true) {W W' : World} (hb : Below W.heap.size W W') :
  ∀ {ts : List TypeId} {vs : List Value} {ds : List (DataW H)} {ps : List MemPlace}, zlZ P ts = true → DataW.TrodAll enc P W 0 (fun _ => true) true ts vs ds ps → DataW.TrodAll enc P W' 0 (fun b => decide (b < W.heap.size)) true ts vs ds ps
 | [], [], [], _, _, h => h
 | [], _ :: _, _, _, _, h => h.elim
 | [], [], _ :: _, _, _, h => h.elim
 | _ :: _, [], _, _, _, h => h.elim
 | _ :: _, _ :: _, [], _, _, h => h.elim
 | t :: ts, v :: vs, d :: ds, ps, hr, h => by
  have hlt := h.lt
  obtain ⟨p, q, h1, h2, e⟩ := h
  simp only [zlZ, List.all_cons, Bool.and_eq_true, decide_eq_true_eq] at hr
  exact ⟨p, q, Below.trod hl hr.1.1 hr.1.2 h1 hb (fun x hx => hlt x (by rw [e]; simp [hx])), zeC hl hb (by simpa [zlZ] using hr.2) h2, e⟩
theorem zoW {H : Type} {enc : TypeId × Value → H} {P : Program} {f : Func} {s : ChangeSpec} {apart fresh handsOn : Bool} {bt : TypeId} {W W' : World} {args : Array Value} {ds gs : List (DataW H)} {before : List MemPlace}
  (hl : laidOutB P = true) (hr : zlZ P f.params.toList = true) (hv : varsRowed P s.vars = true) (hres : f.resultTypes = #[bt]) (hbt : P.underlying bt = some .bool)
  (hW : DataW.Whole enc P f.params.toList s.vars apart W args.toList ds gs before)
  (hs : s.fn H (ds ++ gs) = { results := [.lit (.bool true)], args := ds, vars := gs }) (hb : Below W.heap.size W W') :
  s.post enc P f apart fresh handsOn false W args (.bool true) W' := by
 have hW' := hW
 obtain ⟨p, q, hA, hV, rfl, hfz, hnd⟩ := hW
 refine ⟨ds, gs, p ++ q, [], p, q, hW', ?_, ?_, ?_, hb.frame _, fun h => by cases h⟩
 ·rw [hs, hres]
  exact trodAll_mk1 (shut_bool hbt true)
 ·rw [hs]; exact zeC hl hb hr hA
 ·rw [hs]; exact Below.trodVars hl hb hv hV
theorem zh0 {H : Type} {enc : TypeId × Value → H} {P : Program} {W : World} {r : Reach} {base : Nat} {t e : TypeId} {k : IntKind} {v : Value} {d : DataW H} {p : List MemPlace} (ht : P.underlying t = some (.slice e)) (he : P.underlying e = some (.int k)) (hc : P.cellsOf e = 1)
  (hv : Value.okWide P W r base t v) (h : DataW.Trod enc P W 0 (fun _ => true) true t v d p) : ∃ zs, zx W k v zs ∧ (∀ n ∈ zs, (Lit.int k n).wf = true) ∧ ∃ ao cap, v = .slice ao zs.length cap := by
 obtain ⟨a0, len, cap, rfl⟩ := okWide_slice ht hv
 obtain ⟨fuel, hf⟩ := h
 rcases open_ints ht he hc hf with ⟨hcs, _⟩ | ⟨a, len', cap', zs, hcs, _, hl, hm, hz, hx, hcell, hwz⟩
 ·simp [Value.cells] at hcs
  obtain ⟨rfl, rfl, rfl⟩ := hcs
  exact ⟨[], ⟨none, 0, rfl, Nat.le_refl _, fun h => by simp at h⟩, fun n hn => by simp at hn, none, 0, rfl⟩
 ·simp [Value.cells] at hcs
  obtain ⟨rfl, rfl, rfl⟩ := hcs
  simp at hz
  have hlen : (zs.take len).length = len := by simp; omega
  refine ⟨zs.take len, ⟨some a, cap, by rw [hlen], by omega, fun hp => ?_⟩, fun n hn => hwz n (List.mem_of_mem_take hn), some a, cap, by rw [hlen]⟩
  obtain ⟨b, off, rfl, hc2⟩ := ints_at hcell (by omega)
  refine ⟨b, off, rfl, fun j hj => ?_⟩
  rw [hlen] at hj
  rw [hc2 j (by omega)]
  simp [at0, hj, List.getD]
end Go.Proofs.YtinfdhbnljnifaaGreatDoor

namespace Go.Proofs.YtinfdhbnljnifaaGreatDoor
open Go.RowKit
theorem zg {W : World} {p : Nat} {cs : Array Value} {T : TypeId} {fz : Nat × Nat} (h : W.heap[p]? = some (.cells cs T fz)) (i : Nat) (x : Value) (hx : cs[i]? = some x) : W.cell? ⟨p, i, none⟩ = some x := by simp [World.cell?, h, hx]
theorem Ext.kept {W W' : World} {p : Nat} {o : Obj} (h : Ext W W') (hp : W.heap[p]? = some o) : W'.heap[p]? = some o := (h.heap (Array.getElem?_eq_some_iff.1 hp).1).trans hp
theorem Ext.hk {W W' : World} {p : Nat} {o : Obj} (h : Ext W W') (hp : Hid (W.heap[p]? = some o)) : Hid (W'.heap[p]? = some o) := zh (h.kept (zu hp))
theorem zk (w : World) (o : Obj) : (w.alloc o).heap[w.heap.size]? = some o := by unfold World.alloc; simp
def zbw (w : World) (D : Nat) (v : Value) (bs : List Int) (p : Nat) : Prop :=
 w.cell? ⟨D, 0, none⟩ = some v ∧ w.cell? ⟨D, 1, none⟩ = some (.int .i64 (p : Int)) ∧ w.frozen? ⟨D, 1, none⟩ = false ∧ zx w .u8 v bs ∧ p ≤ bs.length ∧ (0 < bs.length → ∃ b off n c, v = .slice (some ⟨b, off, none⟩) n c ∧ b ≠ D)
theorem zbw.ext {w w' : World} {D : Nat} {v : Value} {bs : List Int} {p : Nat} (h : zbw w D v bs p) (he : Ext w w') : zbw w' D v bs p :=
 ⟨he.cell h.1, he.cell h.2.1, by rw [he.rules.2 _ _ (zaj h.1)]; exact h.2.2.1, h.2.2.2.1.ext he, h.2.2.2.2⟩
set_option maxHeartbeats 400000 in
theorem zgS (v : Value) (bs : List Int) (w : World) (hv : zx w .u8 v bs) (hl : bs.length ≤ 16777216) :
  Calls Tryz.prog 32 #[v] w fun e w' => e = .returned (.pointer (some ⟨w.heap.size, 0, none⟩)) ∧ (∃ v', zbw w' w.heap.size v' (bs.take 1000) 0) ∧ Ext w w' := by
 have HV := zh hv
 obtain ⟨ao, cap, rfl, hcap, hx⟩ := hv
 have HX := zh hx
 clear hx
 by_cases h : 1000 < bs.length
 ·have h2 : (1000 : Int) < (bs.length : Int) := by omega
  have h3 : (1000 : Int) ≤ (cap : Int) := by omega
  obtain ⟨b, off, rfl, hc⟩ := (zu HX) (by omega)
  have HC := zh hc
  clear hc
  go_enter Tryz.func32, Tryz.ntmps32
  go_wp2
  go_ret
  refine ⟨rfl, ⟨.slice (some ⟨b, off, none⟩) 1000 cap, by simp [go_sem], by simp [go_sem], by simp [go_sem], ?_, by simp, fun _ => ⟨b, off, _, _, rfl, ?_⟩⟩, (Ext.refl _).alloc _⟩
  rotate_left
  ·have := zaj ((zu HC) 0 (by omega))
   omega
  have hlen : (bs.take 1000).length = 1000 := by simp; omega
  refine zx.ext (w := w) ⟨some ⟨b, off, none⟩, cap, by rw [hlen], by omega, fun _ => ⟨b, off, rfl, fun j hj => ?_⟩⟩ ((Ext.refl _).alloc _)
  rw [hlen] at hj
  rw [(zu HC) j (by omega)]
  simp [at0, hj]
 ·have h2 : ¬ (1000 : Int) < (bs.length : Int) := by omega
  have ht : bs.take 1000 = bs := List.take_of_length_le (by omega)
  have HT := zh ht
  clear ht
  go_enter Tryz.func32, Tryz.ntmps32
  go_wp2
  go_ret
  refine ⟨rfl, ⟨.slice ao bs.length cap, by simp [go_sem], by simp [go_sem], by simp [go_sem], ?_, by simp, ?_⟩, (Ext.refl _).alloc _⟩
  ·rw [zu HT]
   exact (zu HV).ext ((Ext.refl _).alloc _)
  ·intro hp
   rw [zu HT] at hp
   obtain ⟨b, off, rfl, hc⟩ := (zu HX) hp
   have := zaj (hc 0 hp)
   exact ⟨b, off, _, _, rfl, by omega⟩
theorem zbw.step {w : World} {D : Nat} {v : Value} {bs : List Int} {p : Nat} (h : zbw w D v bs p) (hp : p < bs.length) : zbw (w.setCell ⟨D, 1, none⟩ (.int .i64 ((p : Int) + 1))) D v bs (p + 1) := by
 obtain ⟨h0, h1, h2, h3, h4, h5⟩ := h
 obtain ⟨b, off, n, c, rfl, hbD⟩ := h5 (by omega)
 refine ⟨by simp [go_sem, h0], World.cell?_setCell_same _ _ _ h1, by simpa [go_sem] using h2, ?_, by omega, h5⟩
 obtain ⟨ao', cap', e4, hcap', hx'⟩ := h3
 refine ⟨ao', cap', e4, hcap', fun hp' => ?_⟩
 obtain ⟨b2, off2, e5, hc2⟩ := hx' hp'
 subst e5
 injection e4 with e6
 injection e6 with e7
 injection e7 with e8
 subst e8
 exact ⟨b, off2, rfl, fun j hj => by rw [World.cell?_setCell_far _ _ _ _ (fun e => hbD e.symm)]; exact hc2 j hj⟩
set_option maxHeartbeats 400000 in
theorem zb9 (D : Nat) (v : Value) (bs : List Int) (p : Nat) (w : World) (h : zbw w D v bs p) (hB : zv bs) (hl : bs.length ≤ 16777216) :
  Calls Tryz.prog 33 #[.pointer (some ⟨D, 0, none⟩)] w fun e w' => e = .returned (.int .i64 (at0 bs p)) ∧ zbw w' D v bs (if p < bs.length then p + 1 else p) ∧ Fr (fun k => k = D) w w' := by
 have HR := zh h
 obtain ⟨h0, h1, h2, h3, h4, h5⟩ := h
 obtain ⟨ao, cap, rfl, hcap, hx⟩ := h3
 clear h5
 by_cases hp : p < bs.length
 ·rw [if_pos hp]
  obtain ⟨b, off, rfl, hc⟩ := hx (by omega)
  have c0 := hc p hp
  have hb := hB.at0 p
  obtain ⟨x, hx⟩ : ∃ x, x = at0 bs p := ⟨_, rfl⟩
  rw [← hx] at c0 hb ⊢
  have bp : (p : Int) < (bs.length : Int) := by omega
  clear hc hx
  have hw : IntKind.i64.wrap ((p : Int) + 1) = (p : Int) + 1 := by rw [IntKind.wrap_i64]; omega
  have hw2 : IntKind.i64.wrap x = x := by rw [IntKind.wrap_i64]; omega
  have HP := zh hp
  go_enter Tryz.func33, Tryz.ntmps33
  go_wp2
  go_quiet (fail)
  go_wp2
  go_quiet (fail)
  go_wp2
  go_ret
  refine ⟨rfl, zbw.step ((zu HR).ext ?_) (zu HP), (Fr.of_ext (S := fun k => k = D) ?_).setCell (a := ⟨D, 1, none⟩) rfl _⟩
  all_goals repeat' first | exact Ext.refl _ | refine Ext.drewN ?_ _ | refine Ext.drew ?_
 ·rw [if_neg hp]
  have ha : Hid (at0 bs p = 0) := by show _ = _; unfold at0; rw [List.getElem?_eq_none (by omega)]; rfl
  have bp : ¬ (p : Int) < (bs.length : Int) := by omega
  go_enter Tryz.func33, Tryz.ntmps33
  go_wp2
  go_quiet (fail)
  go_wp2
  go_ret
  exact ⟨by rw [ha.out]; rfl, (zu HR).ext ((Ext.refl _).drewN _), Fr.of_ext ((Ext.refl _).drewN _)⟩
end Go.Proofs.YtinfdhbnljnifaaGreatDoor
