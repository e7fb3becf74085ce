import Derived.Test.YtinfdhbnljnifaaGreatDoorRd
import Derived.Lib.LaidU8
import Derived.Test.YtinfdhbnljnifaaGreatDoorOkImpl
import Derived.Test.YtinfdhbnljnifaaGreatDoorSizeB
import Derived.Test.YtinfdhbnljnifaaGreatDoorKys
import Derived.Deep.AppendLies
import Derived.Deep.RegionHeldLaw
namespace Go.Proofs.YtinfdhbnljnifaaGreatDoor
open Go.RowKit
def zka (w : World) : Prop := Lib.Utf8Tabs 1 2 w
theorem zka.ext {w w' : World} (h : zka w) (he : Ext w w') : zka w' :=
 ⟨fun c hc => he.cell (h.1 c hc), fun i hi => ⟨he.cell (h.2 i hi).1, he.cell (h.2 i hi).2⟩⟩
def pw (cs : List (List Int × Int)) : Nat → Int
 | 0 => 0
 | k + 1 => pw cs k + cW cs k
theorem zlV (xs : List Int) : ∀ k j, 0 ≤ cW (clF xs k) j ∧ cW (clF xs k) j ≤ 2
 | 0, j => by simp [clF, cW]
 | k + 1, j => by
  have ih := zlV xs k
  have hw := zou (zaa (at0 xs k))
  rw [clF, za3]
  split
  ·rw [zem]; split
   ·exact hw
   ·exact ih j
  ·split
   ·by_cases hj : j = 0
    ·subst hj; simp [cW]
    ·simp [cW, List.getElem?_eq_none (show [(([9676, zaa (at0 xs k)] : List Int), (1 : Int))].length ≤ j by simp; omega)]
   ·rename_i h1 h2
    rw [zgW _ _ _ _ (by omega)]
    split
    ·exact ih _
    ·exact ih j
theorem pw_bd (cs : List (List Int × Int)) (h : ∀ j, 0 ≤ cW cs j ∧ cW cs j ≤ 2) : ∀ k, 0 ≤ pw cs k ∧ pw cs k ≤ 2 * (k : Int)
 | 0 => by simp [pw]
 | k + 1 => by have := pw_bd cs h k; have := h k; rw [pw]; omega
theorem zgm (cs : List (List Int × Int)) (h : ∀ j, 0 ≤ cW cs j ∧ cW cs j ≤ 2) (s : Nat) : ∀ e, s ≤ e → pw cs s ≤ pw cs e := by
  intro e
  induction e with
  | zero => intro h1; have : s = 0 := by omega
            subst this; exact Int.le_refl _
  | succ e ih =>
    intro h1
    by_cases e1 : s = e + 1
    · subst e1; exact Int.le_refl _
    · have := ih (by omega); have := h e; rw [pw]; omega
structure RowOk (cs : List (List Int × Int)) (cols : Int) (S : List Int) (u : Int) (k : Nat) : Prop where
 eq : u = pw cs k - pw cs (at0 S (S.length - 1)).toNat
 le : u ≤ cols
 rows : ∀ i, i + 1 < S.length → pw cs (at0 S (i + 1)).toNat - pw cs (at0 S i).toNat ≤ cols ∧ cols < pw cs (at0 S (i + 1)).toNat - pw cs (at0 S i).toNat + cW cs (at0 S (i + 1)).toNat ∧ at0 S i < at0 S (i + 1)
 last : 0 < k → at0 S (S.length - 1) < (k : Int)
theorem rowOk (cs : List (List Int × Int)) (cols : Int) (hc : 2 ≤ cols) (h : ∀ j, 0 ≤ cW cs j ∧ cW cs j ≤ 2) : ∀ k, RowOk cs cols (stF cs cols k).1 (stF cs cols k).2 k
 | 0 => ⟨by simp [stF, at0, pw], by simp [stF]; omega, fun i hi => by simp [stF] at hi, fun h => by omega⟩
 | k + 1 => by
  have ih := rowOk cs cols hc h k
  have ok := zcP cs cols k
  have hk := h k
  have hd : cWd (cW cs k) = cW cs k := by unfold cWd; rw [if_neg (by omega), if_neg (by omega)]
  have h1 := ok.one
  have hL := ok.le ((stF cs cols k).1.length - 1) (by omega)
  have e1 := ih.eq
  have e2 := ih.le
  rw [stF, hd]
  split
  ·rename_i hn
   refine ⟨?_, by dsimp only; omega, fun i hi => ?_, fun _ => ?_⟩
   ·dsimp only
    rw [zaX, if_pos (by simp), pw]
    simp
    omega
   ·dsimp only at hi ⊢
    simp at hi
    rw [zaX (i := i), if_neg (by omega), zaX (i := i + 1)]
    by_cases e : i + 1 = (stF cs cols k).1.length
    ·rw [if_pos e]
     have e3 : (stF cs cols k).1.length - 1 = i := by omega
     rw [e3] at e1 hn
     simp only [Int.toNat_natCast]
     refine ⟨by omega, by omega, hn.1⟩
    ·rw [if_neg e]
     exact ih.rows i (by omega)
   ·dsimp only
    rw [zaX, if_pos (by simp)]
    omega
  ·rename_i hn
   refine ⟨by dsimp only; rw [pw]; omega, ?_, ih.rows, fun _ => by dsimp only; omega⟩
   dsimp only
   by_cases hlk : at0 (stF cs cols k).1 ((stF cs cols k).1.length - 1) < (k : Int)
   ·have := fun h2 => hn ⟨hlk, h2⟩
    omega
   ·have hk0 : k = 0 := by
     rcases Nat.eq_zero_or_pos k with e | e
     ·exact e
     ·exact absurd (ih.last e) hlk
    subst hk0
    have : (stF cs cols 0).2 = 0 := rfl
    omega
theorem zcA (xs ys : List (List Int × Int)) : zy (xs ++ ys) = zy xs ++ zy ys := by
 rw [zaC, zaC, zaC, zbe, zdn]
theorem zmo (cs : List (List Int × Int)) (s e j : Nat) (hj : s + j < e) : cR ((cs.take e).drop s) j = cR cs (s + j) ∧ cW ((cs.take e).drop s) j = cW cs (s + j) := by
 unfold cR cW
 rw [List.getElem?_drop, List.getElem?_take, if_pos hj]
 exact ⟨rfl, rfl⟩
theorem zjZ (cs : List (List Int × Int)) (s e : Nat) : ∀ j, s + j ≤ e → zaY ((cs.take e).drop s) j + zaY cs s = zaY cs (s + j)
 | 0, _ => by simp [zaY]
 | j + 1, h => by
  have := zjZ cs s e j (by omega)
  rw [zaY, (zmo cs s e j (by omega)).1, ← Nat.add_assoc, zaY]
  omega
def zn (bs : List Int) : List (List Int × Int) := zaB (zm bs)
def zco (cs : List (List Int × Int)) : Prop := ∀ j, j < cs.length → 1 ≤ cW cs j ∧ cW cs j ≤ 2
theorem cW_none (cs : List (List Int × Int)) (j : Nat) (h : cs.length ≤ j) : cW cs j = 0 := by simp [cW, List.getElem?_eq_none h]
theorem zco.all {cs : List (List Int × Int)} (h : zco cs) (j : Nat) : 0 ≤ cW cs j ∧ cW cs j ≤ 2 := by
 by_cases hj : j < cs.length
 ·have := h j hj; omega
 ·rw [cW_none cs j (by omega)]; omega
theorem zn8 (xs ys : List (List Int × Int)) (j : Nat) : cW (xs ++ ys) j = if j < xs.length then cW xs j else cW ys (j - xs.length) := by
 unfold cW
 split
 ·rename_i h; rw [List.getElem?_append_left h]
 ·rename_i h; rw [List.getElem?_append_right (by omega)]
theorem zg8 (xs ys : List (List Int × Int)) (j : Nat) : cR (xs ++ ys) j = if j < xs.length then cR xs j else cR ys (j - xs.length) := by
 unfold cR
 split
 ·rename_i h; rw [List.getElem?_append_left h]
 ·rename_i h; rw [List.getElem?_append_right (by omega)]
theorem zco.app {xs ys : List (List Int × Int)} (hx : zco xs) (hy : zco ys) : zco (xs ++ ys) := by
 intro j hj
 rw [zn8]
 split
 ·rename_i h; exact hx j h
 ·rename_i h; simp at hj; exact hy _ (by omega)
theorem zlT (xs : List Int) : ∀ k j, j < (clF xs k).length → 1 ≤ cW (clF xs k) j
 | 0, j, h => by simp [clF] at h
 | k + 1, j, h => by
  have ih := zlT xs k
  rw [clF, za3] at h ⊢
  split
  ·rename_i h1
   rw [if_pos h1] at h
   rw [zem]
   split
   ·omega
   ·rename_i h2; simp at h; exact ih j (by omega)
  ·rename_i h1
   rw [if_neg h1] at h
   split
   ·rename_i h2
    rw [if_pos h2] at h
    simp at h
    subst h
    simp [cW]
   ·rename_i h2
    rw [if_neg h2] at h
    simp at h
    rw [zgW _ _ _ _ (by omega)]
    split
    ·exact ih _ (by omega)
    ·exact ih j h
theorem zlr (bs : List Int) : zco (zn bs) := fun j hj => ⟨zlT _ _ j hj, (zlV _ _ j).2⟩
theorem zip {cs : List (List Int × Int)} (h : zco cs) {s e : Nat} (hse : s < e) (he : e ≤ cs.length) : pw cs s < pw cs e := by
 have h1 := zgm cs h.all s (e - 1) (by omega)
 have h2 := h (e - 1) (by omega)
 obtain ⟨k, rfl⟩ : ∃ k, e = k + 1 := ⟨e - 1, by omega⟩
 rw [pw]
 simp at h1 h2
 omega
def rwF (S : List Int) (p : Int) : Nat → Nat
 | 0 => 0
 | i + 1 => if at0 S i ≤ p then i else rwF S p i
theorem zoU (S : List Int) (p : Int) : ∀ i, 0 < i → rwF S p i < i
 | 0, h => by omega
 | i + 1, _ => by
  rw [rwF]
  split
  ·omega
  ·by_cases h0 : i = 0
   ·subst h0; simp [rwF]
   ·have := zoU S p i (by omega); omega
theorem zoq (S : List Int) (p : Int) (h0 : at0 S 0 ≤ p) : ∀ i, at0 S (rwF S p i) ≤ p
 | 0 => h0
 | i + 1 => by
  rw [rwF]
  split
  ·assumption
  ·exact zoq S p h0 i
theorem zh1 (S : List Int) (p : Int) : ∀ i j, rwF S p i < j → j < i → p < at0 S j
 | 0, j, _, h => by omega
 | i + 1, j, h1, h2 => by
  rw [rwF] at h1
  split at h1
  ·omega
  ·rename_i h
   by_cases e : j = i
   ·subst e; omega
   ·exact zh1 S p i j h1 (by omega)
section
variable (cs : List (List Int × Int)) (cols : Nat) (p rows : Nat)
def stS : List Int := (stF cs cols cs.length).1
def zaU : Nat := rwF (stS cs cols) p (stS cs cols).length
def zbX : Int := pw cs p - pw cs (at0 (stS cs cols) (zaU cs cols p)).toNat
def zcX : Prop := p = cs.length ∧ zbX cs cols p = cols
abbrev layD : Decidable (zcX cs cols p) := inferInstanceAs (Decidable (p = cs.length ∧ zbX cs cols p = cols))
def zbk : List Int := @ite _ (zcX cs cols p) (layD cs cols p) (stS cs cols ++ [(p : Int)]) (stS cs cols)
def zcN : Nat := @ite _ (zcX cs cols p) (layD cs cols p) (zaU cs cols p + 1) (zaU cs cols p)
def zdG : Int := @ite _ (zcX cs cols p) (layD cs cols p) (0) (zbX cs cols p)
def zcB : Nat := zcN cs cols p + 1 - rows
def zc7 : Nat := min (zcB cs cols p rows + rows) (zbk cs cols p).length - zcB cs cols p rows
def zew (i : Nat) : List (List Int × Int) := (cs.take (at0 (zbk cs cols p ++ [(cs.length : Int)]) (i + 1)).toNat).drop (at0 (zbk cs cols p ++ [(cs.length : Int)]) i).toNat
def layT (i : Nat) : ByteArray := zo (zy (zew cs cols p (zcB cs cols p rows + i)))
end
variable {cs : List (List Int × Int)} {cols p : Nat}
theorem ziH (hw : zco cs) (hc : 2 ≤ cols) : RowOk cs cols (stS cs cols) (stF cs cols cs.length).2 cs.length := rowOk cs cols (by omega) hw.all cs.length
theorem zdA : zaU cs cols p < (stS cs cols).length := zoU _ _ _ (by have := (zcP cs cols cs.length).one; exact this)
theorem zol : at0 (stS cs cols) 0 = 0 := (zcP cs cols cs.length).at00
theorem zeH : at0 (stS cs cols) (zaU cs cols p) ≤ (p : Int) := zoq _ _ (by rw [zol]; omega) _
theorem zeF {j : Nat} (h1 : zaU cs cols p < j) (h2 : j < (stS cs cols).length) : (p : Int) < at0 (stS cs cols) j := zh1 _ _ _ _ h1 h2
theorem zbu {i : Nat} (hi : i < (stS cs cols).length) : 0 ≤ at0 (stS cs cols) i ∧ at0 (stS cs cols) i ≤ (cs.length : Int) := (zcP cs cols cs.length).le i hi
theorem zjU (hw : zco cs) (hc : 2 ≤ cols) (hp : p ≤ cs.length) : zcX cs cols p ↔ zbX cs cols p = cols := by
 refine ⟨fun h => h.2, fun h => ⟨?_, h⟩⟩
 by_cases e : p = cs.length
 ·exact e
 exfalso
 have hlt := zdA (cs := cs) (cols := cols) (p := p)
 have hle := zeH (cs := cs) (cols := cols) (p := p)
 have ok := ziH hw hc
 have hn := zbu hlt
 unfold zbX at h
 by_cases hl : zaU cs cols p + 1 < (stS cs cols).length
 ·have h1 := (ok.rows _ hl).1
  have h2 := zeF (cs := cs) (cols := cols) (p := p) (show zaU cs cols p < zaU cs cols p + 1 by omega) hl
  have h3 := zbu hl
  have h4 := zip hw (s := p) (e := (at0 (stS cs cols) (zaU cs cols p + 1)).toNat) (by omega) (by omega)
  omega
 ·have h1 := ok.le
  have h2 := ok.eq
  have h3 : (stS cs cols).length - 1 = zaU cs cols p := by omega
  rw [h3] at h2
  have h4 := zip hw (s := p) (e := cs.length) (by omega) (Nat.le_refl _)
  omega
theorem zhi (hw : zco cs) (hc : 2 ≤ cols) (hp : p ≤ cs.length) : 0 ≤ zbX cs cols p ∧ zbX cs cols p ≤ cols := by
 have hlt := zdA (cs := cs) (cols := cols) (p := p)
 have hle := zeH (cs := cs) (cols := cols) (p := p)
 have ok := ziH hw hc
 have hn := zbu hlt
 unfold zbX
 have h0 := zgm cs hw.all (at0 (stS cs cols) (zaU cs cols p)).toNat p (by omega)
 refine ⟨by omega, ?_⟩
 by_cases hl : zaU cs cols p + 1 < (stS cs cols).length
 ·have h1 := (ok.rows _ hl).1
  have h2 := zeF (cs := cs) (cols := cols) (p := p) (show zaU cs cols p < zaU cs cols p + 1 by omega) hl
  have h3 := zbu hl
  have h4 := zgm cs hw.all p (at0 (stS cs cols) (zaU cs cols p + 1)).toNat (by omega)
  omega
 ·have h1 := ok.le
  have h2 := ok.eq
  have h3 : (stS cs cols).length - 1 = zaU cs cols p := by omega
  rw [h3] at h2
  have h4 := zgm cs hw.all p cs.length hp
  omega
theorem zoE : (zbk cs cols p).length ≤ cs.length + 2 := by
 have := (zcP cs cols cs.length).len
 unfold zbk
 split
 ·simp [stS]; omega
 ·simp [stS]; omega
theorem zfx : zcN cs cols p < (zbk cs cols p).length := by
 have := zdA (cs := cs) (cols := cols) (p := p)
 unfold zcN zbk
 split
 ·simp; omega
 ·exact this
def zkE (cs : List (List Int × Int)) : Int := pw cs cs.length
theorem znL (cs : List (List Int × Int)) (s e : Nat) : ∀ j, s + j ≤ e → pw ((cs.take e).drop s) j = pw cs (s + j) - pw cs s
 | 0, _ => by simp [pw]
 | j + 1, h => by rw [pw, znL cs s e j (by omega), (zmo cs s e j (by omega)).2, ← Nat.add_assoc, pw]; omega
theorem zjF (cs : List (List Int × Int)) (s e : Nat) (hse : s ≤ e) (he : e ≤ cs.length) : zkE ((cs.take e).drop s) = pw cs e - pw cs s := by
 unfold zkE
 rw [List.length_drop, List.length_take, show min e cs.length - s = e - s by omega, znL cs s e _ (by omega), show s + (e - s) = e by omega]
end Go.Proofs.YtinfdhbnljnifaaGreatDoor

namespace Go.Proofs.YtinfdhbnljnifaaGreatDoor
open Go.RowKit
theorem zfK (xs : List Int) : zaL (zaB xs) = fl (xs.map zaa) := by
 unfold zaB
 rcases zgz xs xs.length (Nat.le_refl _) with ⟨h1, h2⟩ | ⟨_, _, h3⟩
 ·have e : xs = [] := List.eq_nil_of_length_eq_zero h2
  subst e
  rfl
 ·rw [h3, List.take_length]
theorem zgt (xs : List Int) : ∀ x ∈ zaL (zaB xs), za5 x := by
 rw [zfK]
 refine zjv _ (fun x hx => ?_)
 obtain ⟨y, _, rfl⟩ := List.mem_map.1 hx
 exact zcs y
theorem zeJ (xs : List Int) : zm (zy (zaB xs)) = zaL (zaB xs) := by
 rw [zaC, zfv _ (zgt xs)]
theorem zcq {L : List Int} (h : zas L = L) : zaL (zn L) = zm L := by
 have h1 := zeJ (zm L)
 rw [show zy (zaB (zm L)) = L from h] at h1
 exact h1.symm
theorem zdW {L : List Int} (h : zas L = L) : zaO (zm L) = L := by
 rw [← zcq h, ← zaC]
 exact h
theorem zgH {L : List Int} (h : zas L = L) : fl (zm L) = zm L := by
 have h1 := zcq h
 unfold zn at h1
 rwa [zfD _ (zcg L)] at h1
theorem zoo {xs ys : List Int} (hx : fl xs = xs) (hy : fl ys = ys) : fl (xs ++ ys) = xs ++ ys := by
 by_cases e : xs = []
 ·subst e
  simpa using hy
 ·unfold fl at hx ⊢
  rw [if_neg e] at hx
  have h0 : 0 < xs.length := List.length_pos_iff.2 e
  have ha : at0 (xs ++ ys) 0 = at0 xs 0 := by
   unfold at0
   rw [List.getElem?_append_left h0]
  have hw : 0 < wid (at0 xs 0) := by
   by_cases hw : 0 < wid (at0 xs 0)
   ·exact hw
   ·rw [if_neg hw] at hx
    have := congrArg List.length hx
    simp at this
  rw [if_neg (by simp [e]), ha, if_pos hw]
theorem znm {L K : List Int} (hL : zas L = L) (hK : zas K = K) : zy (zaB (zm L ++ zm K)) = L ++ K ∧ zaL (zaB (zm L ++ zm K)) = zm L ++ zm K := by
 have h1 : zaL (zaB (zm L ++ zm K)) = zm L ++ zm K := by
  rw [zfD _ (fun x hx => (List.mem_append.1 hx).elim (zcg L x) (zcg K x)), zoo (zgH hL) (zgH hK)]
 refine ⟨?_, h1⟩
 rw [zaC, h1, zdn, zdW hL, zdW hK]
def zdd (w : World) : Prop := zi1 w ∧ Lib.Utf8Tabs 1 2 w
theorem zdd.ext {w w' : World} (h : zdd w) (he : Ext w w') : zdd w' :=
 ⟨h.1.below he.below, fun c hc => he.cell (h.2.1 c hc), fun i hi => ⟨he.cell (h.2.2 i hi).1, he.cell (h.2.2 i hi).2⟩⟩
def zaK (A B : Nat → Value) (n : Nat) : List Value := (List.range (n * 2)).map (fun q => if q % 2 = 0 then A (q / 2) else B (q / 2))
theorem zcD (A B : Nat → Value) (n : Nat) : (zaK A B n).length = n * 2 := by simp [zaK]
theorem zdm (A B : Nat → Value) (n j : Nat) (hj : j < n) : (zaK A B n)[j * 2]? = some (A j) ∧ (zaK A B n)[j * 2 + 1]? = some (B j) := by
 unfold zaK
 constructor
 ·rw [List.getElem?_map, List.getElem?_range (by omega)]
  simp
 ·rw [List.getElem?_map, List.getElem?_range (by omega)]
  have h1 : (j * 2 + 1) % 2 = 1 := by omega
  have h2 : (j * 2 + 1) / 2 = j := by omega
  simp [h1, h2]
theorem zd2 {w : World} {A B : Nat → Value} {n b off : Nat} (h : ∀ j, j < n → w.cell? ⟨b, off + j * 2, none⟩ = some (A j) ∧ w.cell? ⟨b, off + j * 2 + 1, none⟩ = some (B j)) :
  ∀ j u, (zaK A B n)[j]? = some u → w.cell? ((⟨b, off, none⟩ : Addr).add j) = some u := by
 intro j u hu
 rw [Addr.add_lit]
 have hj : j < n * 2 := by
  have := (List.getElem?_eq_some_iff.1 hu).1
  rwa [zcD] at this
 obtain ⟨h1, h2⟩ := zdm A B n (j / 2) (by omega)
 obtain ⟨c1, c2⟩ := h (j / 2) (by omega)
 by_cases e : j % 2 = 0
 ·have ej : j / 2 * 2 = j := by omega
  rw [ej] at h1 c1
  rw [h1] at hu
  rw [c1]
  exact hu
 ·have ej : j / 2 * 2 + 1 = j := by omega
  rw [ej] at h2
  rw [h2] at hu
  rw [Nat.add_assoc, ej] at c2
  rw [c2]
  exact hu
theorem zhc {A B : Nat → ByteArray} {n : Nat} : ∀ u ∈ zaK (fun j => .string (A j)) (fun j => .string (B j)) n, u.oneCell' = true := by
 intro u hu
 simp only [zaK, List.mem_map] at hu
 obtain ⟨q, _, rfl⟩ := hu
 split <;> rfl
def zav (un : List (ByteArray × ByteArray)) (s : ByteArray × ByteArray) : List (ByteArray × ByteArray) := if 50 < un.length + 1 then (un ++ [s]).drop 1 else un ++ [s]
def unL (tx hf : Nat → ByteArray) (n : Nat) : List (ByteArray × ByteArray) := (List.range n).map (fun j => (tx j, hf j))
theorem zjc (tx hf : Nat → ByteArray) (n : Nat) : (unL tx hf n).length = n := by unfold unL; simp
def lnT (un : List (ByteArray × ByteArray)) (j : Nat) : ByteArray := ((un[j]?).getD (noT, noT)).1
def lnH (un : List (ByteArray × ByteArray)) (j : Nat) : ByteArray := ((un[j]?).getD (noT, noT)).2
theorem zi5 {un : List (ByteArray × ByteArray)} {j : Nat} {s : ByteArray × ByteArray} (h : un[j]? = some s) : lnT un j = s.1 := by simp [lnT, h]
theorem ziJ {un : List (ByteArray × ByteArray)} {j : Nat} {s : ByteArray × ByteArray} (h : un[j]? = some s) : lnH un j = s.2 := by simp [lnH, h]
theorem zlb (tx hf : Nat → ByteArray) {n j : Nat} (h : j < n) : (unL tx hf n)[j]? = some (tx j, hf j) := by simp [unL, h]
theorem lnT_un (tx hf : Nat → ByteArray) {n j : Nat} (h : j < n) : lnT (unL tx hf n) j = tx j := zi5 (zlb tx hf h)
theorem lnH_un (tx hf : Nat → ByteArray) {n j : Nat} (h : j < n) : lnH (unL tx hf n) j = hf j := ziJ (zlb tx hf h)
theorem zky (A B : Nat → Value) (n : Nat) : zaK A B (n + 1) = zaK A B n ++ [A n, B n] := by
 unfold zaK
 rw [show (n + 1) * 2 = n * 2 + 1 + 1 by omega, List.range_succ, List.range_succ]
 simp only [List.map_append, List.map_cons, List.map_nil, List.append_assoc]
 rw [show (n * 2) % 2 = 0 by omega, show (n * 2 + 1) % 2 = 1 by omega, show n * 2 / 2 = n by omega, show (n * 2 + 1) / 2 = n by omega]
 simp
theorem unL_eq (tx hf : Nat → ByteArray) (n : Nat) (un : List (ByteArray × ByteArray)) (h : un = unL tx hf n) : un.length = n := by rw [h, zjc]
theorem zfE (un : List (ByteArray × ByteArray)) (s : ByteArray × ByteArray) (h : un.length ≤ 50) : (zav un s).length ≤ 50 := by
 unfold zav
 split
 ·simp; omega
 ·simp; omega
theorem ze7 {A B A' B' : Nat → Value} {n : Nat} (h : ∀ j, j < n → A j = A' j ∧ B j = B' j) : zaK A B n = zaK A' B' n := by
 unfold zaK
 refine List.map_congr_left (fun q hq => ?_)
 have hq' : q < n * 2 := List.mem_range.1 hq
 have := h (q / 2) (by omega)
 split
 ·exact this.1
 ·exact this.2
def prL (un : List (ByteArray × ByteArray)) : List Value := zaK (fun j => .string (lnT un j)) (fun j => .string (lnH un j)) un.length
theorem zo8 (un : List (ByteArray × ByteArray)) (s : ByteArray × ByteArray) : prL (un ++ [s]) = prL un ++ [.string s.1, .string s.2] := by
 unfold prL
 rw [List.length_append, List.length_singleton, zky]
 have h0 : (un ++ [s])[un.length]? = some s := by simp
 rw [zi5 h0, ziJ h0]
 refine congrArg (· ++ _) (ze7 (fun j hj => ?_))
 have h1 : (un ++ [s])[j]? = un[j]? := List.getElem?_append_left hj
 simp [lnT, lnH, h1]
theorem prL_un (tx hf : Nat → ByteArray) (n : Nat) : prL (unL tx hf n) = zaK (fun j => .string (tx j)) (fun j => .string (hf j)) n := by
 unfold prL
 rw [zjc]
 exact ze7 (fun j hj => ⟨by rw [lnT_un tx hf hj], by rw [lnH_un tx hf hj]⟩)
theorem znN (un : List (ByteArray × ByteArray)) (j : Nat) : lnT (un.drop 1) j = lnT un (j + 1) := by simp [lnT]
theorem zoy (un : List (ByteArray × ByteArray)) (j : Nat) : lnH (un.drop 1) j = lnH un (j + 1) := by simp [lnH]
theorem prL_at (un : List (ByteArray × ByteArray)) (j : Nat) (hj : j < un.length) : (prL un)[j * 2]? = some (.string (lnT un j)) ∧ (prL un)[j * 2 + 1]? = some (.string (lnH un j)) := zdm _ _ _ j hj
theorem zm5 {w : World} {base : Nat} {T : TypeId} {v : Value} {n : Nat} {A B : Nat → Value} (h : zaG w base T v n A B) : w.ownsRow base T 2 v n (zaK A B n) := by
 obtain ⟨ys, h1, h2⟩ := h
 have hl : ys.length = n * 2 := h1.1
 have e : ys = zaK A B n := by
  refine List.ext_getElem? (fun i => ?_)
  by_cases hi : i < n * 2
  ·obtain ⟨a1, a2⟩ := h2 (i / 2) (by omega)
   obtain ⟨b1, b2⟩ := zdm A B n (i / 2) (by omega)
   by_cases e : i % 2 = 0
   ·rw [show i / 2 * 2 = i by omega] at a1 b1
    rw [a1, b1]
   ·rw [show i / 2 * 2 + 1 = i by omega] at a2 b2
    rw [a2, b2]
  ·rw [List.getElem?_eq_none (by omega), List.getElem?_eq_none (by rw [zcD]; omega)]
 rw [← e]
 exact h1
def zbC (tx : Nat → ByteArray) (n : Nat) : List Value := (List.range n).map (fun j => .string (tx j))
theorem zoz (tx : Nat → ByteArray) (n : Nat) : (zbC tx n).length = n * 1 := by simp [zbC]
theorem zl2 (tx : Nat → ByteArray) (n j : Nat) (hj : j < n) : (zbC tx n)[j]? = some (.string (tx j)) := by simp [zbC, hj]
theorem zfz (tx : Nat → ByteArray) (n : Nat) : zbC tx (n + 1) = zbC tx n ++ [.string (tx n)] := by simp [zbC, List.range_succ]
theorem zhk {tx ty : Nat → ByteArray} {n : Nat} (h : ∀ j, j < n → tx j = ty j) : zbC tx n = zbC ty n := by
 unfold zbC
 apply List.map_congr_left
 intro j hj
 rw [h j (List.mem_range.1 hj)]
theorem zoJ {tx : Nat → ByteArray} {n : Nat} : ∀ u ∈ zbC tx n, u.oneCell' = true := by
 intro u hu
 simp only [zbC, List.mem_map] at hu
 obtain ⟨q, _, rfl⟩ := hu
 rfl
theorem znd {w : World} {ad : Addr} {n ca : Nat} {tx : Nat → ByteArray} (h : zam w (.slice (some ad) n ca) n (fun j => .string (tx j))) : ∀ j u, (zbC tx n)[j]? = some u → w.cell? (ad.add j) = some u := by
 intro j u hu
 have hj : j < n := by
  have := (List.getElem?_eq_some_iff.1 hu).1
  simpa [zbC] using this
 obtain ⟨ao, ca', e, _, hx⟩ := h
 simp only [Value.slice.injEq] at e
 obtain ⟨rfl, -, rfl⟩ := e
 obtain ⟨b, off, e, hc⟩ := hx (by omega)
 obtain rfl := Option.some.inj e
 rw [zl2 tx n j hj] at hu
 rw [Addr.add_lit, hc j hj]
 exact hu
theorem zdg {w : World} {base : Nat} {T : TypeId} {v : Value} {n : Nat} {tx : Nat → ByteArray} (h : w.ownsRow base T 1 v n (zbC tx n)) : za4 w base T v n (fun j => .string (tx j)) :=
 ⟨_, h, fun j hj => zl2 tx n j hj⟩
theorem za4.slice {w : World} {base : Nat} {T : TypeId} {v : Value} {n : Nat} {A : Nat → Value} (h : za4 w base T v n A) : ∃ a c, v = .slice a n c := by
 rcases h.form with ⟨rfl, rfl⟩ | ⟨g, c, rfl⟩
 ·exact ⟨none, 0, rfl⟩
 ·exact ⟨some ⟨g, 0, none⟩, c, rfl⟩
section
variable {P : Program} {w : World}
end
def Src (w : World) (size : Nat) (x : Value) (m : Nat) (news : List Value) : Prop :=
 news.length = m * size ∧ (∀ u ∈ news, u.oneCell' = true) ∧ ((∃ c, x = .slice none 0 c ∧ m = 0) ∨ ∃ ad c, x = .slice (some ad) m c ∧ ∀ j u, news[j]? = some u → w.cell? (ad.add j) = some u)
theorem Src.ext {w w' : World} {size : Nat} {x : Value} {m : Nat} {news : List Value} (h : Src w size x m news) (he : Ext w w') : Src w' size x m news := by
 obtain ⟨h1, h2, h3⟩ := h
 refine ⟨h1, h2, ?_⟩
 rcases h3 with h3 | ⟨ad, c, e, h3⟩
 ·exact .inl h3
 ·exact .inr ⟨ad, c, e, fun j u hj => he.cell (h3 j u hj)⟩
theorem Src.strs {w : World} {v : Value} {n : Nat} {tx : Nat → ByteArray} (h : zam w v n (fun j => .string (tx j))) : Src w 1 v n (zbC tx n) := by
 refine ⟨zoz _ _, zoJ, ?_⟩
 obtain ⟨ao, c, rfl, hc, hx⟩ := id h
 cases ao with
 | some ad => exact .inr ⟨ad, c, rfl, znd h⟩
 | none =>
  refine .inl ⟨c, ?_⟩
  by_cases h0 : 0 < n
  ·obtain ⟨b, o, e, _⟩ := hx h0
   cases e
  ·have : n = 0 := by omega
   subst this
   exact ⟨rfl, rfl⟩
theorem Src.ints {w : World} {k : IntKind} {v : Value} {zs : List Int} (h : zx w k v zs) : Src w 1 v zs.length (zs.map (Value.int k)) := by
 refine ⟨by simp, fun u hu => by obtain ⟨x, _, rfl⟩ := List.mem_map.1 hu; rfl, ?_⟩
 obtain ⟨ao, c, rfl, hc, hx⟩ := h
 by_cases h0 : 0 < zs.length
 ·obtain ⟨b, o, rfl, h2⟩ := hx h0
  refine .inr ⟨_, c, rfl, fun j u hj => ?_⟩
  simp only [List.getElem?_map, Option.map_eq_some_iff] at hj
  obtain ⟨x, hx, rfl⟩ := hj
  have hjl : j < zs.length := (List.getElem?_eq_some_iff.1 hx).1
  have := h2 j hjl
  rw [at0, hx] at this
  rw [Addr.add_lit]; simpa using this
 ·have e0 : zs = [] := List.eq_nil_of_length_eq_zero (by omega)
  subst e0
  cases ao with
  | none => exact .inl ⟨c, rfl, rfl⟩
  | some ad => exact .inr ⟨ad, c, rfl, fun j u hj => by simp at hj⟩
theorem Src.made {w : World} {size : Nat} (zs : List Value) (n : Nat) (t : TypeId) (hl : zs.length = n * size) (h1 : ∀ u ∈ zs, u.oneCell' = true) : Src (w.alloc (.cells zs.toArray t)) size (.slice (some ⟨w.heap.size, 0, none⟩) n n) n zs :=
 ⟨hl, h1, .inr ⟨_, _, rfl, fun j u hj => by rw [Addr.add_lit, Nat.zero_add]; exact zg (zk w _) j u (by simpa using hj)⟩⟩
section
variable {P : Program} {w : World}
theorem zjb (base : Nat) (t ty e : TypeId) (i : TypeInfo) (size : Nat) (ht : P.underlying t = some (.slice e)) (hi : P.info? e = some i)
  (v : Value) (n c : Nat) (xs : List Value) (hown : w.ownsRow base e size v n xs) :
  (Builtin.append_ #[t, t] ty #[v, .slice none 0 c]).run P w = .ok v w := by
 rcases hown.2 with ⟨rfl, rfl⟩ | ⟨g, cap, cur, rfl, _, _, hnc, _⟩
 ·simp [Builtin.append_, run_underlying ht, sizeOf, typeInfo, hi, Builtin.lenOf, Builtin.firstCells]
 ·simp [Builtin.append_, run_underlying ht, sizeOf, typeInfo, hi, Builtin.lenOf, Builtin.firstCells, hnc, storeCells]
theorem zkW {o : Oper} {a : Act} {K : Act → World → Prop} {Q : Exit → Act → World → Prop} (s x : Operand) (t : TypeId)
  (ho : o.op = .call { callee := .builtin .append, args := #[s, x], argTypes := #[t, t] })
  (base : Nat) (e : TypeId) (i : TypeInfo) (z : Value) (size bytes : Nat) (ht : P.underlying t = some (.slice e)) (hi : P.info? e = some i) (hz : i.zero = some z)
  (hsize : i.size = size) (hby : i.bytes = bytes) (hzs : z.cells.size = size) (hsz : 0 < size)
  (v : Value) (n : Nat) (xs : List Value) (hs : a.eval s = v) (hown : w.ownsRow base e size v n xs)
  (y : Value) (m : Nat) (news : List Value) (hx : a.eval x = y) (hsrc : Src w size y m news)
  (h63 : n + m ≤ maxLen) (hbytes : (n + m) * bytes ≤ 140737488355328) (hbase : base ≤ w.heap.size)
  (h : ∀ v' w', w'.ownsRow base e size v' (n + m) (xs ++ news) → w.grownBy w' v.ownBlock → (v' = .slice none 0 0 ↔ v = .slice none 0 0 ∧ m = 0) → K (a.put o.dst v') w') : o.wp P a w K Q := by
 obtain ⟨h1, h2, h3⟩ := hsrc
 rcases h3 with ⟨c, rfl, rfl⟩ | ⟨ad, c, rfl, h3⟩
 ·have hn : news = [] := List.eq_nil_of_length_eq_zero (by omega)
  subst hn
  have hr := zjb (P := P) (w := w) base t o.type e i size ht hi v n c xs hown
  unfold Oper.wp execOp
  simp only [ho, resolve, invoke, builtin, Sem.run_bind, Sem.run_pure, Result.andThen_ok, List.map_toArray, List.map_cons, List.map_nil, hs, hx, hr]
  exact h v w (by simpa using hown) (World.grownBy.refl w _) (by simp)
 ·exact wp_append_own w s x t ho base e i z size bytes ht hi hz hsize hby hzs hsz v n xs hs hown ad m c news hx h1 h3 h2 h63 hbytes hbase h
theorem zd {ops : Array Oper} {rest : List Oper} {o : Oper} {a : Act} {Q : Exit → Act → World → Prop} (hgd : o.guard = none) (s x : Operand) (t : TypeId)
  (ho : o.op = .call { callee := .builtin .append, args := #[s, x], argTypes := #[t, t] })
  (base : Nat) (e : TypeId) (i : TypeInfo) (z : Value) (size bytes : Nat) (ht : P.underlying t = some (.slice e)) (hi : P.info? e = some i) (hz : i.zero = some z)
  (hsize : i.size = size) (hby : i.bytes = bytes) (hzs : z.cells.size = size) (hsz : 0 < size)
  (v : Value) (n : Nat) (xs : List Value) (hs : a.eval s = v) (hown : w.ownsRow base e size v n xs)
  (y : Value) (m : Nat) (news : List Value) (hx : a.eval x = y) (hsrc : Src w size y m news)
  (h63 : n + m ≤ maxLen) (hbytes : (n + m) * bytes ≤ 140737488355328) (hbase : base ≤ w.heap.size)
  (h : ∀ v' w', w'.ownsRow base e size v' (n + m) (xs ++ news) → w.grownBy w' v.ownBlock → (v' = .slice none 0 0 ↔ v = .slice none 0 0 ∧ m = 0) → wpList P ops Q rest (a.put o.dst v') w') : wpList P ops Q (o :: rest) a w :=
 wpList_plain hgd fun _ hK => zkW s x t ho base e i z size bytes ht hi hz hsize hby hzs hsz v n xs hs hown y m news hx hsrc h63 hbytes hbase fun v' w' h2 h3 h4 => hK _ _ (h v' w' h2 h3 h4)
theorem zjC {ops : Array Oper} {o : Oper} {a : Act} {K : Act → World → Prop} {Q : Exit → Act → World → Prop} {E : Prop} (hgd : o.guard = none) (s x : Operand) (t : TypeId)
  (ho : o.op = .call { callee := .builtin .append, args := #[s, x], argTypes := #[t, t] })
  (base : Nat) (e : TypeId) (i : TypeInfo) (z : Value) (size bytes : Nat) (ht : P.underlying t = some (.slice e)) (hi : P.info? e = some i) (hz : i.zero = some z)
  (hsize : i.size = size) (hby : i.bytes = bytes) (hzs : z.cells.size = size) (hsz : 0 < size)
  (v : Value) (n : Nat) (xs : List Value) (hs : a.eval s = v) (hown : w.ownsRow base e size v n xs)
  (y : Value) (m : Nat) (news : List Value) (hx : a.eval x = y) (hsrc : Src w size y m news)
  (h63 : n + m ≤ maxLen) (hbytes : (n + m) * bytes ≤ 140737488355328) (hbase : base ≤ w.heap.size)
  (h : ∀ v' w', w'.ownsRow base e size v' (n + m) (xs ++ news) → w.grownBy w' v.ownBlock → (v' = .slice none 0 0 ↔ v = .slice none 0 0 ∧ m = 0) → K (a.put o.dst v') w') :
  if Region.wanted o (yielded ops a.tmps) = true then Oper.wp P o a w K Q else E := by
 rw [if_pos (by simp [Region.wanted, hgd])]
 exact zkW s x t ho base e i z size bytes ht hi hz hsize hby hzs hsz v n xs hs hown y m news hx hsrc h63 hbytes hbase h
end
theorem zd8 (w : World) (base : Nat) (e : TypeId) (size : Nat) : w.ownsRow base e size (.slice none 0 0) 0 [] := ⟨by simp, .inl ⟨rfl, rfl⟩⟩
theorem zaD (w : World) (e : TypeId) (size : Nat) : (w.alloc (.cells #[] e)).ownsRow w.heap.size e size (.slice (some ⟨w.heap.size, 0, none⟩) 0 0) 0 [] := ⟨by simp, .inr ⟨w.heap.size, 0, #[], rfl, Nat.le_refl _, zk w _, Nat.le_refl _, by unfold maxLen; omega, by simp, by simp⟩⟩
theorem zjJ (k m : Nat) : (k : Int).tmod (m : Int) = ((k % m : Nat) : Int) := by rw [Int.tmod_eq_emod_of_nonneg (by omega)]; omega
theorem zmx (cs : List (List Int × Int)) (j : Nat) (hj : j < cs.length) : zaL (cs.take (j + 1)) = zaL (cs.take j) ++ cR cs j := by
 rw [List.take_succ_eq_append_getElem hj, zbe]
 simp [zaL, cR, hj]
theorem zj6 (cs : List (List Int × Int)) : (zaL cs).length = zaY cs cs.length := by
 have h : ∀ k, k ≤ cs.length → (zaL (cs.take k)).length = zaY cs k := by
  intro k
  induction k with
  | zero => intro _; simp [zaL, zaY]
  | succ k ih => intro hk; rw [zmx cs k (by omega), List.length_append, ih (by omega), zaY]
 have := h cs.length (Nat.le_refl _)
 rwa [List.take_length] at this
def spB (xs : List Int) : Bool := decide (xs = [32])
set_option maxRecDepth 10000 in
set_option maxHeartbeats 1000000 in
theorem zbQ (v : Value) (d : Int) (xs : List Int) (w : World) (hv : zx w .i32 v xs) :
  Calls Tryz.prog 178 #[.agg #[v, .int .i64 d]] w fun e w' => e = .returned (.bool (spB xs)) ∧ Ext w w' := by
 obtain ⟨ao, ca, rfl, hca, hx⟩ := hv
 by_cases h1 : xs.length = 1
 ·obtain ⟨b, off, rfl, hc⟩ := hx (by omega)
  have g1 := hc 0 (by omega)
  obtain ⟨x, rfl⟩ : ∃ x, xs = [x] := List.length_eq_one_iff.1 h1
  have HB := zh (fun o => ((Ext.refl w).alloc o).cell g1)
  have g2 : ∀ o, (w.alloc o).cell? ⟨b, off, none⟩ = some (.int .i32 x) := fun o => (zu HB) o
  clear hc hx g1
  by_cases h2 : x = 32
  ·subst h2
   go_enter Tryz.func178, Tryz.ntmps178
   go_wp2
   go_ret
   exact ⟨rfl, (Ext.refl w).alloc _⟩
  ·have HF : Hid ((x == 32) = spB [x]) := zh (by simp [spB, h2])
   go_enter Tryz.func178, Tryz.ntmps178
   go_wp2
   go_ret
   exact ⟨zaH (zu HF), (Ext.refl w).alloc _⟩
 ·have HF : Hid (spB xs = false) := zh (by simp [spB]; intro e; rw [e] at h1; simp at h1)
  have h1I : ¬ (xs.length : Int) = 1 := by omega
  clear hx
  go_enter Tryz.func178, Tryz.ntmps178
  go_wp2
  go_ret
  exact ⟨zaH (zu HF).symm, (Ext.refl w).alloc _⟩
def Sk (p : Nat → Bool) (n i r : Nat) : Prop := i ≤ r ∧ r ≤ n ∧ (∀ j, i ≤ j → j < r → p j = true) ∧ (r < n → p r = false)
theorem Sk.only {p : Nat → Bool} {n i r s : Nat} (h : Sk p n i r) (k : Sk p n i s) : r = s := by
 obtain ⟨h1, h2, h3, h4⟩ := h
 obtain ⟨k1, k2, k3, k4⟩ := k
 by_cases e : r < s
 ·have := k3 r h1 e
  rw [h4 (by omega)] at this
  cases this
 ·by_cases e2 : s < r
  ·have := h3 s k1 e2
   rw [k4 (by omega)] at this
   cases this
  ·omega
def Wd (p : Nat → Bool) (n r : Nat) : Prop := ∃ m, Sk p n 0 m ∧ Sk (fun j => !p j) n m r
theorem Wd.only {p : Nat → Bool} {n r s : Nat} (h : Wd p n r) (k : Wd p n s) : r = s := by
 obtain ⟨m, h1, h2⟩ := h
 obtain ⟨m', k1, k2⟩ := k
 obtain rfl := h1.only k1
 exact h2.only k2
set_option maxRecDepth 10000 in
set_option maxHeartbeats 2000000 in
theorem zf7 (v : Value) (cs : List (List Int × Int)) (w : World) (hv : zaF w v cs) (hl : cs.length ≤ 16777216) :
  Calls Tryz.prog 175 #[v] w fun e w' => ∃ r : Nat, e = .returned (.int .i64 (r : Int)) ∧ Wd (fun j => spB (cR cs j)) cs.length r ∧ Ext w w' := by
 obtain ⟨rs, ao, ca, rfl, hca, hr, hx⟩ := hv
 have HX := zh hx
 have HR := zh hr
 clear hx hr
 go_enter Tryz.func175, Tryz.ntmps175
 go_wp2
 go_loopw [3] (fun i wr => ∃ (j : Nat), j ≤ cs.length ∧ i = .int .i64 j ∧ Hid (∀ q, q < j → spB (cR cs q) = true) ∧ Ext w wr) (fun i _ => cs.length - (intOf i).toNat)
 case atStart => exact ⟨0, Nat.zero_le _, rfl, zh (fun q hq => by omega), Ext.refl _⟩
 case round =>
  obtain ⟨j, hj, rfl, HJ, hE⟩ := hrel
  by_cases hlt : j < cs.length
  ·obtain ⟨b, off, hao, hc⟩ := (zu HX) (by omega)
   subst hao
   have g1 := hE.cell (hc j hlt).1
   have g2 := hE.cell (hc j hlt).2
   have bj : (j : Int) < (cs.length : Int) := by omega
   have HS := zh (fun W (E : Ext w W) => zbQ (rV rs j) (cW cs j) (cR cs j) W (((zu HR) j hlt).ext E))
   clear hc
   go_wp2_with fail
   refine ((zu HS) _ hE).mono ?_
   rintro e w1 ⟨rfl, E1⟩
   have hE2 := hE.trans E1
   cases hb : spB (cR cs j) with
   | true =>
    have HJ3 : Hid (∀ q, q < j + 1 → spB (cR cs q) = true) := zh (fun q hq => by
     by_cases e : q = j
     ·subst e; exact hb
     ·exact (zu HJ) q (by omega))
    clear HS g1 g2 hb E1
    go_wp2
    go_roundw
    case rel => exact ⟨j + 1, by omega, by go_num, HJ3, hE2⟩
    case measure => simp [intOf]; omega
   | false =>
    have HSK : Hid (Sk (fun j => spB (cR cs j)) cs.length 0 j) := zh ⟨Nat.zero_le _, hj, fun q _ hq => (zu HJ) q hq, fun _ => hb⟩
    clear HS g1 g2 hb E1 hE
    go_wp2
    go_loopw [3] (fun i wr => ∃ (r : Nat), j ≤ r ∧ r ≤ cs.length ∧ i = .int .i64 r ∧ Hid (∀ q, j ≤ q → q < r → (!spB (cR cs q)) = true) ∧ Ext w wr) (fun i _ => cs.length - (intOf i).toNat)
    case atStart => exact ⟨j, Nat.le_refl _, hj, rfl, zh (fun q h1 h2 => by omega), hE2⟩
    case round =>
     obtain ⟨r, hjr, hr9, rfl, HJ2, hE3⟩ := hrel
     by_cases hlt2 : r < cs.length
     ·obtain ⟨b2, off2, hao2, hc2⟩ := (zu HX) (by omega)
      first | subst hao2 | (obtain ⟨rfl, rfl⟩ := Addr.mk.inj (Option.some.inj hao2) |>.imp id (fun h => h.1))
      have q1 := hE3.cell (hc2 r hlt2).1
      have q2 := hE3.cell (hc2 r hlt2).2
      have bj2 : (r : Int) < (cs.length : Int) := by omega
      have HS2 := zh (zbQ (rV rs r) (cW cs r) (cR cs r) _ (((zu HR) r hlt2).ext hE3))
      clear hc2
      go_wp2_with fail
      refine (zu HS2).mono ?_
      rintro e w5 ⟨rfl, E5⟩
      have hE5 := hE3.trans E5
      cases hb2 : spB (cR cs r) with
      | false =>
       have HJ3 : Hid (∀ q, j ≤ q → q < r + 1 → (!spB (cR cs q)) = true) := zh (fun q h1 h2 => by
        by_cases e : q = r
        ·subst e; rw [hb2]; rfl
        ·exact (zu HJ2) q h1 (by omega))
       clear HS2 q1 q2 hb2 E5
       go_wp2
       go_roundw
       case rel => exact ⟨r + 1, by omega, by omega, by go_num, HJ3, hE5⟩
       case measure => simp [intOf]; omega
      | true =>
       have HW : Hid (Wd (fun j => spB (cR cs j)) cs.length r) := zh ⟨j, zu HSK, hjr, hr9, zu HJ2, fun _ => by simp [hb2]⟩
       clear HS2 q1 q2 hb2 E5
       go_wp2
       go_ret
       exact ⟨r, rfl, zu HW, hE5⟩
     ·obtain rfl : r = cs.length := by omega
      have hb7 : ¬ (cs.length : Int) < (cs.length : Int) := by omega
      have HW : Hid (Wd (fun j => spB (cR cs j)) cs.length cs.length) := zh ⟨j, zu HSK, hjr, hr9, zu HJ2, fun h => by omega⟩
      go_wp2
      go_ret
      exact ⟨_, rfl, zu HW, hE3⟩
  ·have hb9 : ¬ (j : Int) < (cs.length : Int) := by omega
   have HSK : Hid (Sk (fun j => spB (cR cs j)) cs.length 0 j) := zh ⟨Nat.zero_le _, hj, fun q _ hq => (zu HJ) q hq, fun h => by omega⟩
   have hE2 := hE
   clear hE
   go_wp2
   go_loopw [3] (fun i wr => ∃ (r : Nat), j ≤ r ∧ r ≤ cs.length ∧ i = .int .i64 r ∧ Hid (∀ q, j ≤ q → q < r → (!spB (cR cs q)) = true) ∧ Ext w wr) (fun i _ => cs.length - (intOf i).toNat)
   case atStart => exact ⟨j, Nat.le_refl _, hj, rfl, zh (fun q h1 h2 => by omega), hE2⟩
   case round =>
    obtain ⟨r, hjr, hr9, rfl, HJ2, hE3⟩ := hrel
    by_cases hlt2 : r < cs.length
    ·obtain ⟨b2, off2, hao2, hc2⟩ := (zu HX) (by omega)
     first | subst hao2 | (obtain ⟨rfl, rfl⟩ := Addr.mk.inj (Option.some.inj hao2) |>.imp id (fun h => h.1))
     have q1 := hE3.cell (hc2 r hlt2).1
     have q2 := hE3.cell (hc2 r hlt2).2
     have bj2 : (r : Int) < (cs.length : Int) := by omega
     have HS2 := zh (zbQ (rV rs r) (cW cs r) (cR cs r) _ (((zu HR) r hlt2).ext hE3))
     clear hc2
     go_wp2_with fail
     refine (zu HS2).mono ?_
     rintro e w5 ⟨rfl, E5⟩
     have hE5 := hE3.trans E5
     cases hb2 : spB (cR cs r) with
     | false =>
      have HJ3 : Hid (∀ q, j ≤ q → q < r + 1 → (!spB (cR cs q)) = true) := zh (fun q h1 h2 => by
       by_cases e : q = r
       ·subst e; rw [hb2]; rfl
       ·exact (zu HJ2) q h1 (by omega))
      clear HS2 q1 q2 hb2 E5
      go_wp2
      go_roundw
      case rel => exact ⟨r + 1, by omega, by omega, by go_num, HJ3, hE5⟩
      case measure => simp [intOf]; omega
     | true =>
      have HW : Hid (Wd (fun j => spB (cR cs j)) cs.length r) := zh ⟨j, zu HSK, hjr, hr9, zu HJ2, fun _ => by simp [hb2]⟩
      clear HS2 q1 q2 hb2 E5
      go_wp2
      go_ret
      exact ⟨r, rfl, zu HW, hE5⟩
    ·obtain rfl : r = cs.length := by omega
     have hb7 : ¬ (cs.length : Int) < (cs.length : Int) := by omega
     have HW : Hid (Wd (fun j => spB (cR cs j)) cs.length cs.length) := zh ⟨j, zu HSK, hjr, hr9, zu HJ2, fun h => by omega⟩
     go_wp2
     go_ret
     exact ⟨_, rfl, zu HW, hE3⟩
theorem zgf {cs : List (List Int × Int)} {m r : Nat} (hm : m ≤ cs.length) (hr : r ≤ m) (h1 : ∀ q, m ≤ q → q < cs.length → spB (cR cs q) = true) (h2 : 0 < m → spB (cR cs (m - 1)) = false) (h3 : ∀ q, r ≤ q → q < m → spB (cR cs q) = false) (h4 : 0 < r → spB (cR cs (r - 1)) = true) : Wd (fun j => spB (cR cs (cs.length - 1 - j))) cs.length (cs.length - r) := by
 refine ⟨cs.length - m, ⟨Nat.zero_le _, by omega, fun j _ hj => h1 _ (by omega) (by omega), fun h => ?_⟩, by omega, by omega, fun j hj1 hj2 => ?_, fun h => ?_⟩
 ·show spB (cR cs (cs.length - 1 - (cs.length - m))) = false
  rw [show cs.length - 1 - (cs.length - m) = m - 1 by omega]
  exact h2 (by omega)
 ·show (!spB (cR cs (cs.length - 1 - j))) = true
  rw [h3 _ (by omega) (by omega)]
  rfl
 ·show (!spB (cR cs (cs.length - 1 - (cs.length - r)))) = false
  rw [show cs.length - 1 - (cs.length - r) = r - 1 by omega, h4 (by omega)]
  rfl
set_option maxRecDepth 10000 in
set_option maxHeartbeats 2000000 in
theorem zd1 (v : Value) (cs : List (List Int × Int)) (w : World) (hv : zaF w v cs) (hl : cs.length ≤ 16777216) :
  Calls Tryz.prog 138 #[v] w fun e w' => ∃ r : Nat, e = .returned (.int .i64 (r : Int)) ∧ r ≤ cs.length ∧ Wd (fun j => spB (cR cs (cs.length - 1 - j))) cs.length (cs.length - r) ∧ Ext w w' := by
 obtain ⟨rs, ao, ca, rfl, hca, hr, hx⟩ := hv
 have HX := zh hx
 have HR := zh hr
 clear hx hr
 go_enter Tryz.func138, Tryz.ntmps138
 go_wp2
 go_loopw [3] (fun i wr => ∃ (m : Nat), m ≤ cs.length ∧ i = .int .i64 m ∧ Hid (∀ q, m ≤ q → q < cs.length → spB (cR cs q) = true) ∧ Ext w wr) (fun i _ => (intOf i).toNat)
 case atStart => exact ⟨cs.length, Nat.le_refl _, rfl, zh (fun q h1 h2 => by omega), Ext.refl _⟩
 case round =>
  obtain ⟨m, hmn, rfl, HJ, hE⟩ := hrel
  by_cases hlt : 0 < m
  ·obtain ⟨b, off, hao, hc⟩ := (zu HX) (by omega)
   subst hao
   have g1 := hE.cell (hc (m - 1) (by omega)).1
   have g2 := hE.cell (hc (m - 1) (by omega)).2
   have bj : (0 : Int) < (m : Int) := by omega
   have hw1 : IntKind.i64.wrap ((m : Int) - 1) = ((m - 1 : Nat) : Int) := by rw [IntKind.wrap_i64]; omega
   have bk : ((m - 1 : Nat) : Int) < (cs.length : Int) := by omega
   have HS := zh (fun W (E : Ext w W) => zbQ (rV rs (m - 1)) (cW cs (m - 1)) (cR cs (m - 1)) W (((zu HR) (m - 1) (by omega)).ext E))
   clear hc
   go_wp2_with fail
   refine ((zu HS) _ hE).mono ?_
   rintro e w1 ⟨rfl, E1⟩
   have hE2 := hE.trans E1
   cases hb : spB (cR cs (m - 1)) with
   | true =>
    have HJ3 : Hid (∀ q, m - 1 ≤ q → q < cs.length → spB (cR cs q) = true) := zh (fun q h1 h2 => by
     by_cases e : q = m - 1
     ·subst e; exact hb
     ·exact (zu HJ) q (by omega) h2)
    clear HS g1 g2 hb E1
    go_wp2
    go_roundw
    case rel => exact ⟨m - 1, by omega, by go_num, HJ3, hE2⟩
    case measure => simp [intOf]; omega
   | false =>
    have HSK : Hid (0 < m → spB (cR cs (m - 1)) = false) := zh (fun _ => hb)
    clear HS g1 g2 hb E1 hE
    go_wp2
    go_loopw [3] (fun i wr => ∃ (r : Nat), r ≤ m ∧ i = .int .i64 r ∧ Hid (∀ q, r ≤ q → q < m → spB (cR cs q) = false) ∧ Ext w wr) (fun i _ => (intOf i).toNat)
    case atStart => exact ⟨m, Nat.le_refl _, rfl, zh (fun q h1 h2 => by omega), hE2⟩
    case round =>
     obtain ⟨r, hrm, rfl, HJ2, hE3⟩ := hrel
     by_cases hlt2 : 0 < r
     ·obtain ⟨b2, off2, hao2, hc2⟩ := (zu HX) (by omega)
      first | subst hao2 | (obtain ⟨rfl, rfl⟩ := Addr.mk.inj (Option.some.inj hao2) |>.imp id (fun h => h.1))
      have q1 := hE3.cell (hc2 (r - 1) (by omega)).1
      have q2 := hE3.cell (hc2 (r - 1) (by omega)).2
      have bj2 : (0 : Int) < (r : Int) := by omega
      have hw2 : IntKind.i64.wrap ((r : Int) - 1) = ((r - 1 : Nat) : Int) := by rw [IntKind.wrap_i64]; omega
      have bk2 : ((r - 1 : Nat) : Int) < (cs.length : Int) := by omega
      have HS2 := zh (zbQ (rV rs (r - 1)) (cW cs (r - 1)) (cR cs (r - 1)) _ (((zu HR) (r - 1) (by omega)).ext hE3))
      clear hc2
      go_wp2_with fail
      refine (zu HS2).mono ?_
      rintro e w5 ⟨rfl, E5⟩
      have hE5 := hE3.trans E5
      cases hb2 : spB (cR cs (r - 1)) with
      | false =>
       have HJ3 : Hid (∀ q, r - 1 ≤ q → q < m → spB (cR cs q) = false) := zh (fun q h1 h2 => by
        by_cases e : q = r - 1
        ·subst e; exact hb2
        ·exact (zu HJ2) q (by omega) h2)
       clear HS2 q1 q2 hb2 E5
       go_wp2
       go_roundw
       case rel => exact ⟨r - 1, by omega, by go_num, HJ3, hE5⟩
       case measure => simp [intOf]; omega
      | true =>
       have HW : Hid (Wd (fun j => spB (cR cs (cs.length - 1 - j))) cs.length (cs.length - r)) := zh (zgf hmn hrm (zu HJ) (zu HSK) (zu HJ2) (fun _ => hb2))
       clear HS2 q1 q2 hb2 E5
       go_wp2
       go_ret
       exact ⟨r, rfl, by omega, zu HW, hE5⟩
     ·obtain rfl : r = 0 := by omega
      have HW : Hid (Wd (fun j => spB (cR cs (cs.length - 1 - j))) cs.length (cs.length - 0)) := zh (zgf hmn hrm (zu HJ) (zu HSK) (zu HJ2) (fun h => by omega))
      go_wp2
      go_ret
      exact ⟨0, rfl, by omega, zu HW, hE3⟩
  ·have hb9 : ¬ (0 : Int) < (m : Int) := by omega
   have HSK : Hid (0 < m → spB (cR cs (m - 1)) = false) := zh (fun h => by omega)
   have hE2 := hE
   clear hE
   go_wp2
   go_loopw [3] (fun i wr => ∃ (r : Nat), r ≤ m ∧ i = .int .i64 r ∧ Hid (∀ q, r ≤ q → q < m → spB (cR cs q) = false) ∧ Ext w wr) (fun i _ => (intOf i).toNat)
   case atStart => exact ⟨m, Nat.le_refl _, rfl, zh (fun q h1 h2 => by omega), hE2⟩
   case round =>
    obtain ⟨r, hrm, rfl, HJ2, hE3⟩ := hrel
    by_cases hlt2 : 0 < r
    ·obtain ⟨b2, off2, hao2, hc2⟩ := (zu HX) (by omega)
     first | subst hao2 | (obtain ⟨rfl, rfl⟩ := Addr.mk.inj (Option.some.inj hao2) |>.imp id (fun h => h.1))
     have q1 := hE3.cell (hc2 (r - 1) (by omega)).1
     have q2 := hE3.cell (hc2 (r - 1) (by omega)).2
     have bj2 : (0 : Int) < (r : Int) := by omega
     have hw2 : IntKind.i64.wrap ((r : Int) - 1) = ((r - 1 : Nat) : Int) := by rw [IntKind.wrap_i64]; omega
     have bk2 : ((r - 1 : Nat) : Int) < (cs.length : Int) := by omega
     have HS2 := zh (zbQ (rV rs (r - 1)) (cW cs (r - 1)) (cR cs (r - 1)) _ (((zu HR) (r - 1) (by omega)).ext hE3))
     clear hc2
     go_wp2_with fail
     refine (zu HS2).mono ?_
     rintro e w5 ⟨rfl, E5⟩
     have hE5 := hE3.trans E5
     cases hb2 : spB (cR cs (r - 1)) with
     | false =>
      have HJ3 : Hid (∀ q, r - 1 ≤ q → q < m → spB (cR cs q) = false) := zh (fun q h1 h2 => by
       by_cases e : q = r - 1
       ·subst e; exact hb2
       ·exact (zu HJ2) q (by omega) h2)
      clear HS2 q1 q2 hb2 E5
      go_wp2
      go_roundw
      case rel => exact ⟨r - 1, by omega, by go_num, HJ3, hE5⟩
      case measure => simp [intOf]; omega
     | true =>
      have HW : Hid (Wd (fun j => spB (cR cs (cs.length - 1 - j))) cs.length (cs.length - r)) := zh (zgf hmn hrm (zu HJ) (zu HSK) (zu HJ2) (fun _ => hb2))
      clear HS2 q1 q2 hb2 E5
      go_wp2
      go_ret
      exact ⟨r, rfl, by omega, zu HW, hE5⟩
    ·obtain rfl : r = 0 := by omega
     have HW : Hid (Wd (fun j => spB (cR cs (cs.length - 1 - j))) cs.length (cs.length - 0)) := zh (zgf hmn hrm (zu HJ) (zu HSK) (zu HJ2) (fun h => by omega))
     go_wp2
     go_ret
     exact ⟨0, rfl, by omega, zu HW, hE3⟩
end Go.Proofs.YtinfdhbnljnifaaGreatDoor
