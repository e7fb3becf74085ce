import Derived.Test.YtinfdhbnljnifaaGreatDoorEdP0
import Derived.Test.YtinfdhbnljnifaaGreatDoorWhole
import Derived.Test.YtinfdhbnljnifaaGreatDoorEdU
import Derived.Test.YtinfdhbnljnifaaGreatDoorLineS2
import Derived.Deep.RegionHeld3
import Derived.Test.YtinfdhbnljnifaaGreatDoorEdG4
import Derived.Test.YtinfdhbnljnifaaGreatDoorRd
import Derived.Test.YtinfdhbnljnifaaGreatDoorEdN
import Derived.Maps.Own
import Derived.Test.YtinfdhbnljnifaaGreatDoorKmU
import Derived.Deep.RegionLaw
import Derived.Deep.DeepCutAuto
import Derived.Test.YtinfdhbnljnifaaGreatDoorEdW2
import Derived.Deep.RegionHeldLaw
import Derived.Test.YtinfdhbnljnifaaGreatDoorEdS0
import Derived.Test.YtinfdhbnljnifaaGreatDoorSetS
import Derived.Test.YtinfdhbnljnifaaGreatDoorEdMA
import Derived.Test.YtinfdhbnljnifaaGreatDoorFdE
namespace Go.Proofs.YtinfdhbnljnifaaGreatDoor
open Go.RowKit
theorem flat_ge (xs : List Int) : xs.length ≤ (zaL (zaB xs)).length := by
 rw [zfK, fl]
 by_cases h : xs.map zaa = []
 ·rw [if_pos h]
  have := congrArg List.length h
  simp at this
  simp [this]
 ·rw [if_neg h]
  by_cases h2 : 0 < wid (at0 (xs.map zaa) 0)
  ·rw [if_pos h2]; simp
  ·rw [if_neg h2]; simp
theorem baL_nil {b : ByteArray} (h : baL b = []) : b = { data := #[] } := by
 rw [← zat b, h]
 rfl
section
variable {a b c : ByteArray} {un : List (ByteArray × ByteArray)} {w : World}
theorem znf (W : World) (u : Value) (l r : ByteArray) (hv : zb3 W u un) (hn : un.length ≤ 50) :
  Calls Tryz.prog 136 #[.agg #[.string a, .string b, .string c, u], .string { data := #[] }, .string l, .string r] W fun e w' => LnO w' W.heap.size ⟨a, b, c, un, 2⟩ e ∧ Ext W w' := by
 refine (zj1 a b c l r u un.length (lnT un) (lnH un) W hv hn).mono ?_
 rintro e w' ⟨v', rfl, o, E⟩
 exact ⟨⟨v', rfl, o⟩, E⟩
theorem zkS (W : World) (u : Value) (t l r : ByteArray) (ht : t.toList ≠ []) (hv : zb3 W u un) (hn : un.length ≤ 50) :
  Calls Tryz.prog 136 #[.agg #[.string a, .string b, .string c, u], .string t, .string l, .string r] W fun e w' => LnO w' W.heap.size ⟨l, r, t, zav un (a, b), 1⟩ e ∧ Ext W w' := by
 have h := zjl a b c t l r ht u un.length (lnT un) (lnH un) W hv hn
 rw [zb4] at h
 refine h.mono ?_
 rintro e w' ⟨v', rfl, o, E⟩
 exact ⟨⟨v', rfl, o⟩, E⟩
theorem ba_ne {t : ByteArray} (h : baL t ≠ []) : t.toList ≠ [] := by
 intro e
 have h8 := zng h
 rw [zat, e] at h8
 simp at h8
end
theorem zge {c : List Int × Int} (h : zaW c) : fl c.1 = c.1 ∧ ∀ x ∈ c.1, za5 x := by
 have h1 : zaB c.1 = [c] := by rw [zix]; exact h
 have h2 := zfK c.1
 have h3 := zgt c.1
 rw [h1] at h2 h3
 simp only [zaL, List.append_nil] at h2 h3
 have hm : c.1.map zaa = c.1 := by
  conv => rhs; rw [← List.map_id c.1]
  exact List.map_congr_left (fun x hx => (h3 x hx).shown)
 rw [hm] at h2
 exact ⟨h2.symm, h3⟩
theorem zhv : ∀ (X : List (List Int × Int)), (∀ c ∈ X, zaW c) → fl (zaL X) = zaL X ∧ ∀ x ∈ zaL X, za5 x
 | [], _ => ⟨rfl, fun x hx => by simp [zaL] at hx⟩
 | c :: cs, h => by
  obtain ⟨h1, h2⟩ := zge (h c (by simp))
  obtain ⟨h3, h4⟩ := zhv cs (fun d hd => h d (by simp [hd]))
  refine ⟨zoo h1 h3, fun x hx => ?_⟩
  rw [zaL] at hx
  exact (List.mem_append.1 hx).elim (h2 x) (h4 x)
theorem zcL {X : List (List Int × Int)} (h : ∀ c ∈ X, zaW c) : zas (zy X) = zy X ∧ zm (zy X) = zaL X := by
 obtain ⟨h1, h2⟩ := zhv X h
 have h3 : zm (zy X) = zaL X := by rw [zaC, zfv _ h2]
 refine ⟨?_, h3⟩
 rw [zc4, h3, h1, zaC]
theorem zj0 : ∀ xs : List Int, (zaO xs).length ≤ 4 * xs.length
 | [] => Nat.le_refl _
 | x :: xs => by
  rw [zaO, List.length_append]
  have h1 := zb1 x
  have h2 := zj0 xs
  simp
  omega
theorem za1 {L : List Int} (h : zas L = L) : L.length ≤ 4 * (zm L).length := by
 have := zj0 (zm L)
 rwa [zdW h] at this
theorem zij : ∀ xs : List Int, zv (zaO xs)
 | [] => fun n hn => by simp [zaO] at hn
 | x :: xs => fun n hn => by
  rw [zaO] at hn
  rcases List.mem_append.1 hn with h | h
  ·exact zdF x n h
  ·exact zij xs n h
theorem zkO (X : List (List Int × Int)) : zv (zy X) := by rw [zaC]; exact zij _
theorem zfh (X : List (List Int × Int)) : baL (zo (zy X)) = zy X := zdp (zkO X)
theorem zbt {X Y : List (List Int × Int)} (hx : ∀ c ∈ X, zaW c) (hy : ∀ c ∈ Y, zaW c) (hn : (zaL X).length + (zaL Y).length ≤ 300) : zb7 (baL (zo (zy X))) (baL (zo (zy Y))) := by
 rw [zfh, zfh]
 exact ⟨(zcL hx).1, (zcL hy).1, by rw [(zcL hx).2, (zcL hy).2]; exact hn⟩
def OkL (o : LD) : Prop := zcJ o.a o.b o.c o.un.length (lnT o.un) (lnH o.un)
theorem znQ {un : List (ByteArray × ByteArray)} {j : Nat} (hj : j < un.length) : (lnT un j, lnH un j) ∈ un := by
 have h : un[j]? = some un[j] := List.getElem?_eq_getElem hj
 rw [zi5 h, ziJ h]
 exact List.getElem_mem hj
theorem zfi {a b c : ByteArray} {un : List (ByteArray × ByteArray)} (hn : un.length ≤ 50) (h1 : zb7 (baL a) (baL b)) (h2 : zc1 (baL c)) (h3 : ∀ s ∈ un, zb7 (baL s.1) (baL s.2)) : zcJ a b c un.length (lnT un) (lnH un) :=
 ⟨hn, h1, h2, fun _ hj => h3 _ (znQ hj)⟩
theorem zdj {a b c : ByteArray} {un : List (ByteArray × ByteArray)} (h : zcJ a b c un.length (lnT un) (lnH un)) : ∀ s ∈ un, zb7 (baL s.1) (baL s.2) := by
 intro s hs
 obtain ⟨j, hj, e⟩ := List.getElem_of_mem hs
 have h9 : un[j]? = some s := by rw [List.getElem?_eq_getElem hj, e]
 have := h.2.2.2 j hj
 rwa [zi5 h9, ziJ h9] at this
theorem zfq {un : List (ByteArray × ByteArray)} {s t : ByteArray × ByteArray} (h : t ∈ zav un s) : t ∈ un ∨ t = s := by
 unfold zav at h
 split at h
 ·have := List.mem_of_mem_drop h
  simpa using this
 ·simpa using h
theorem zc2 (X : List (List Int × Int)) (n : Nat) : (zaL (X.take n)).length + (zaL (X.drop n)).length = (zaL X).length := by
 conv => rhs; rw [← List.take_append_drop n X, zbe, List.length_append]
section
variable {a b c : ByteArray} {un : List (ByteArray × ByteArray)}
theorem ziv (h : zcJ a b c un.length (lnT un) (lnH un)) {l r : ByteArray} (hs : zb7 (baL l) (baL r)) : OkL (zcp a b c un l r) := by
 refine zfi (zfE un _ h.1) hs h.2.2.1 (fun s hs => ?_)
 rcases zfq hs with h1 | rfl
 ·exact zdj h s h1
 ·exact h.2.1
theorem zkN {L : List Int} (h : zas L = L) (hn : (zm L).length ≤ 300) : zb7 L (baL noT) ∧ zb7 (baL noT) L := by
 have e : baL noT = [] := rfl
 have s0 : zas ([] : List Int) = [] := rfl
 have c0 : zm ([] : List Int) = [] := rfl
 rw [e]
 exact ⟨⟨h, s0, by rw [c0]; simpa using hn⟩, ⟨s0, h, by rw [c0]; simpa using hn⟩⟩
theorem edF_ok (h : zcJ a b c un.length (lnT un) (lnH un)) (kd : Int) (rs : List Int) : OkL (edF a b c un kd rs) := by
 obtain ⟨hn, ⟨sa, sb, nab⟩, ⟨sc, nc⟩, hu⟩ := id h
 have same : ∀ d, OkL ⟨a, b, c, un, d⟩ := fun d => h
 have gA := zjN (baL a)
 have gB := zjN (baL b)
 have fA := zcq sa
 have fB := zcq sb
 have gAB : ∀ x ∈ zn (baL a) ++ zn (baL b), zaW x := fun x hx => (List.mem_append.1 hx).elim (gA x) (gB x)
 have tk : ∀ (X : List (List Int × Int)) (n : Nat), (∀ x ∈ X, zaW x) → ∀ x ∈ X.take n, zaW x := fun X n hX x hx => hX x (List.mem_of_mem_take hx)
 have dr : ∀ (X : List (List Int × Int)) (n : Nat), (∀ x ∈ X, zaW x) → ∀ x ∈ X.drop n, zaW x := fun X n hX x hx => hX x (List.mem_of_mem_drop hx)
 have mv : ∀ n, OkL (edMv a b c un n) := fun n => zfi hn (zbt (tk _ n gAB) (dr _ n gAB) (by rw [zc2, zbe, List.length_append, fA, fB]; exact nab)) ⟨sc, nc⟩ (zdj h)
 have tB : zy (zn (baL b)) = baL b := sb
 have tA : zy (zn (baL a)) = baL a := sa
 have eA : zo (zy (zn (baL a))) = a := by rw [tA, zat]
 have eB : zo (zy (zn (baL b))) = b := by rw [tB, zat]
 have undo : ∀ {l r k : ByteArray} (d : Int), zb7 (baL l) (baL r) → zc1 (baL k) → OkL ⟨l, r, k, zav un (a, b), d⟩ := by
  intro l r k d h1 h2
  refine zfi (zfE un _ hn) h1 h2 (fun s hs => ?_)
  rcases zfq hs with h3 | rfl
  ·exact zdj h s h3
  ·exact h.2.1
 have pick : ∀ (p : Prop) [Decidable p] (x y : LD), (p → OkL x) → (¬ p → OkL y) → OkL (if p then x else y) := by
  intro p _ x y hx hy
  by_cases hp : p
  ·rw [if_pos hp]; exact hx hp
  ·rw [if_neg hp]; exact hy hp
 unfold edF
 refine pick _ _ _ (fun _ => ?_) (fun _ => pick _ _ _ (fun _ => ?_) (fun _ => pick _ _ _ (fun _ => ?_) (fun _ => pick _ _ _ (fun _ => ?_) (fun _ => pick _ _ _ (fun _ => ?_) (fun _ => pick _ _ _ (fun _ => ?_) (fun _ => pick _ _ _ (fun _ => ?_) (fun _ => pick _ _ _ (fun _ => ?_) (fun _ => pick _ _ _ (fun _ => ?_) (fun _ => pick _ _ _ (fun _ => ?_) (fun _ => pick _ _ _ (fun _ => ?_) (fun _ => pick _ _ _ (fun _ => ?_) (fun _ => pick _ _ _ (fun _ => ?_) (fun _ => pick _ _ _ (fun _ => ?_) (fun _ => pick _ _ _ (fun _ => ?_) (fun _ => same _)))))))))))))))
 · -- put
  unfold zjX
  refine pick _ _ _ (fun _ => same _) (fun _ => pick _ _ _ (fun _ => same _) (fun h3 => ziv h ?_))
  have := zbt (zeu (zm (baL a) ++ rs)) gB (by rw [fB]; omega)
  rwa [eB] at this
 ·unfold zhq
  refine pick _ _ _ (fun _ => same _) (fun _ => ziv h ?_)
  have := zbt (tk _ ((zn (baL a)).length - 1) gA) gB (by have := zc2 (zn (baL a)) ((zn (baL a)).length - 1); rw [fA] at this; rw [fB]; omega)
  rwa [eB] at this
 ·unfold zkx
  refine pick _ _ _ (fun _ => pick _ _ _ (fun _ => same _) (fun _ => same _)) (fun _ => ziv h ?_)
  have := zbt gA (dr _ 1 gB) (by have := zc2 (zn (baL b)) 1; rw [fB] at this; rw [fA]; omega)
  rwa [eA] at this
 ·unfold znV; exact pick _ _ _ (fun _ => same _) (fun _ => mv _)
 ·unfold zma; exact pick _ _ _ (fun _ => same _) (fun _ => mv _)
 ·unfold znZ; exact pick _ _ _ (fun _ => same _) (fun _ => mv _)
 ·unfold edEnd; exact pick _ _ _ (fun _ => same _) (fun _ => mv _)
 ·unfold edWl; exact pick _ _ _ (fun _ => same _) (fun _ => mv _)
 ·unfold edWr; exact pick _ _ _ (fun _ => same _) (fun _ => mv _)
 ·unfold edKe
  exact pick _ _ _ (fun _ => same _) (fun _ => undo 1 (zkN sa (by omega)).1 ⟨sb, by omega⟩)
 ·unfold edKs
  exact pick _ _ _ (fun _ => same _) (fun _ => undo 1 (zkN sb (by omega)).2 ⟨sa, by omega⟩)
 ·unfold edKw
  refine pick _ _ _ (fun _ => same _) (fun _ => ?_)
  have ht := zc2 (zn (baL a)) ((zn (baL a)).length - wdL (zn (baL a)))
  rw [fA] at ht
  have h1 := zbt (tk _ ((zn (baL a)).length - wdL (zn (baL a))) gA) gB (by rw [fB]; omega)
  rw [eB] at h1
  refine undo 1 h1 ?_
  have h2 := zcL (dr _ ((zn (baL a)).length - wdL (zn (baL a))) gA)
  rw [zfh]
  exact ⟨h2.1, by rw [h2.2]; omega⟩
 ·unfold zoQ
  refine pick _ _ _ (fun _ => same _) (fun _ => pick _ _ _ (fun _ => same _) (fun h3 => ziv h ?_))
  obtain ⟨y1, y2⟩ := znm sa sc
  have g := zeu (zm (baL a) ++ zm (baL c))
  have := zbt g gB (by rw [fB, y2, List.length_append]; omega)
  rwa [eB, y1] at this
 ·unfold zgX
  have f3 : ∀ (X Y Z : List (List Int × Int)), zy X ++ zy Y ++ zy Z = zy (X ++ Y ++ Z) := fun X Y Z => by rw [zaC, zaC, zaC, zaC, zbe, zbe, zdn, zdn]
  refine pick _ _ _ (fun h1 => ziv h ?_) (fun _ => pick _ _ _ (fun h2 => ziv h ?_) (fun _ => same _))
  ·rw [f3]
   have ht := zc2 (zn (baL a)) ((zn (baL a)).length - 1)
   have hu := zc2 (zn (baL b)) 1
   rw [fA] at ht
   rw [fB] at hu
   refine zbt (fun x hx => ?_) (dr _ 1 gB) (by rw [zbe, zbe, List.length_append, List.length_append]; omega)
   rcases List.mem_append.1 hx with hx | hx
   ·rcases List.mem_append.1 hx with hx | hx
    ·exact tk _ _ gA x hx
    ·exact tk _ _ gB x hx
   ·exact dr _ _ gA x hx
  ·rw [f3]
   have hg : ∀ x ∈ (zn (baL a)).take ((zn (baL a)).length - 2) ++ (zn (baL a)).drop ((zn (baL a)).length - 1) ++ ((zn (baL a)).take ((zn (baL a)).length - 1)).drop ((zn (baL a)).length - 2), zaW x := fun x hx => by
    rcases List.mem_append.1 hx with hx | hx
    ·rcases List.mem_append.1 hx with hx | hx
     ·exact tk _ _ gA x hx
     ·exact dr _ _ gA x hx
    ·exact dr _ _ (tk _ _ gA) x hx
   have ht := zc2 (zn (baL a)) ((zn (baL a)).length - 1)
   have hu := zc2 ((zn (baL a)).take ((zn (baL a)).length - 1)) ((zn (baL a)).length - 2)
   rw [List.take_take, Nat.min_eq_left (by omega)] at hu
   rw [fA] at ht
   have := zbt hg (Y := []) (fun x hx => by simp at hx) (by rw [zbe, zbe, List.length_append, List.length_append]; simp [zaL]; omega)
   exact this
 ·unfold zd4
  refine pick _ _ _ (fun _ => same _) (fun h1 => ?_)
  refine zfi (by rw [List.length_take]; omega) (hu _ (by omega)) ⟨sc, nc⟩ (fun s hs => zdj h s (List.mem_of_mem_take hs))
end
theorem zlQ {a b : ByteArray} (h : zb7 (baL a) (baL b)) : a.size ≤ 1200 ∧ b.size ≤ 1200 := by
 have h1 := za1 h.1
 have h2 := za1 h.2.1
 rw [zw] at h1 h2
 have := h.2.2
 omega
theorem zmA {a b : ByteArray} (h : zb7 (baL a) (baL b)) : a.size + b.size ≤ 1200 := by
 have h1 := za1 h.1
 have h2 := za1 h.2.1
 rw [zw] at h1 h2
 have := h.2.2
 omega
theorem text_sz {a : ByteArray} (h : zc1 (baL a)) : a.size ≤ 1200 := by
 have h1 := za1 h.1
 rw [zw] at h1
 have := h.2
 omega
theorem zfH {c : List Int × Int} (h : zaW c) : ∃ x r, c.1 = x :: r ∧ 0 < wid x ∧ zaa x = x := by
 obtain ⟨h1, h2⟩ := zge h
 cases hc : c.1 with
 | nil =>
  unfold zaW at h
  rw [hc] at h
  simp at h
 | cons x r =>
  refine ⟨x, r, rfl, ?_, (h2 x (by rw [hc]; simp)).shown⟩
  rw [hc] at h1
  unfold fl at h1
  rw [if_neg (by simp)] at h1
  split at h1
  ·rename_i h3; simpa [at0] using h3
  ·have := congrArg List.length h1
   simp at this
theorem zfM (bs : List Int) : ∀ c ∈ zn bs, zaW c := zeu _
section
variable {cs : List (List Int × Int)} {cols p rows : Nat}
theorem layE_at (i : Nat) (hi : i < (zbk cs cols p).length) : at0 (zbk cs cols p ++ [(cs.length : Int)]) i = at0 (zbk cs cols p) i := by
 unfold at0
 rw [List.getElem?_append_left hi]
theorem zos : at0 (zbk cs cols p ++ [(cs.length : Int)]) (zbk cs cols p).length = cs.length := by
 unfold at0
 rw [List.getElem?_append_right (Nat.le_refl _)]
 simp
theorem zlY (hp : p ≤ cs.length) (i : Nat) (hi : i ≤ (zbk cs cols p).length) : 0 ≤ at0 (zbk cs cols p ++ [(cs.length : Int)]) i ∧ at0 (zbk cs cols p ++ [(cs.length : Int)]) i ≤ cs.length := by
 by_cases e : i = (zbk cs cols p).length
 ·subst e; rw [zos]; omega
 ·rw [layE_at i (by omega)]
  unfold zbk at hi e ⊢
  by_cases hf : zcX cs cols p
  ·rw [if_pos hf] at hi e ⊢
   simp at hi e
   by_cases e2 : i = (stS cs cols).length
   ·subst e2
    unfold at0
    rw [List.getElem?_append_right (Nat.le_refl _)]
    simp
    omega
   ·have h1 : at0 (stS cs cols ++ [(p : Int)]) i = at0 (stS cs cols) i := by unfold at0; rw [List.getElem?_append_left (by omega)]
    rw [h1]
    exact zbu (by omega)
  ·rw [if_neg hf] at hi e ⊢
   exact zbu (by omega)
theorem lay_wid (hw : zco cs) (hc : 2 ≤ cols) (hp : p ≤ cs.length) (i : Nat) (hi : i < (zbk cs cols p).length) :
  (at0 (zbk cs cols p ++ [(cs.length : Int)]) i).toNat ≤ (at0 (zbk cs cols p ++ [(cs.length : Int)]) (i + 1)).toNat ∧ zkE (zew cs cols p i) ≤ cols := by
 have ok := ziH hw hc (cs := cs) (cols := cols)
 have h1 := ok.le
 have h2 := ok.eq
 have h2s : (stF cs cols cs.length).2 = pw cs cs.length - pw cs (at0 (stS cs cols) ((stS cs cols).length - 1)).toNat := h2
 have hone := (zcP cs cols cs.length).one
 have hlen : 0 < (stS cs cols).length := hone
 have b0 := zlY (cs := cs) (cols := cols) (p := p) hp i (by omega)
 have b1 := zlY (cs := cs) (cols := cols) (p := p) hp (i + 1) (by omega)
 have key : at0 (zbk cs cols p ++ [(cs.length : Int)]) i ≤ at0 (zbk cs cols p ++ [(cs.length : Int)]) (i + 1) ∧ pw cs (at0 (zbk cs cols p ++ [(cs.length : Int)]) (i + 1)).toNat - pw cs (at0 (zbk cs cols p ++ [(cs.length : Int)]) i).toNat ≤ cols := by
  have last : at0 (stS cs cols) ((stS cs cols).length - 1) ≤ cs.length ∧ pw cs cs.length - pw cs (at0 (stS cs cols) ((stS cs cols).length - 1)).toNat ≤ cols := ⟨(zbu (by omega)).2, by omega⟩
  have mid : ∀ k, k + 1 < (stS cs cols).length → at0 (stS cs cols) k ≤ at0 (stS cs cols) (k + 1) ∧ pw cs (at0 (stS cs cols) (k + 1)).toNat - pw cs (at0 (stS cs cols) k).toNat ≤ cols := fun k hk => ⟨Int.le_of_lt (ok.rows k hk).2.2, (ok.rows k hk).1⟩
  by_cases hf : zcX cs cols p
  ·have hL : zbk cs cols p = stS cs cols ++ [(p : Int)] := by unfold zbk; rw [if_pos hf]
   rw [hL] at hi ⊢
   have hpe := hf.1
   simp at hi
   have g : ∀ k, k < (stS cs cols).length → at0 (stS cs cols ++ [(p : Int)] ++ [(cs.length : Int)]) k = at0 (stS cs cols) k := fun k hk => by
    unfold at0; rw [List.append_assoc, List.getElem?_append_left hk]
   have g1 : at0 (stS cs cols ++ [(p : Int)] ++ [(cs.length : Int)]) (stS cs cols).length = cs.length := by
    unfold at0; rw [List.append_assoc, List.getElem?_append_right (Nat.le_refl _)]; simp [hpe]
   have g2 : at0 (stS cs cols ++ [(p : Int)] ++ [(cs.length : Int)]) ((stS cs cols).length + 1) = cs.length := by
    unfold at0; rw [List.append_assoc, List.getElem?_append_right (by omega)]; simp
   by_cases e1 : i = (stS cs cols).length
   ·subst e1; rw [g1, g2]; constructor <;> omega
   ·by_cases e2 : i + 1 = (stS cs cols).length
    ·rw [e2, g1, g i (by omega), show i = (stS cs cols).length - 1 by omega]
     exact ⟨last.1, by simpa using last.2⟩
    ·rw [g i (by omega), g (i + 1) (by omega)]
     exact mid i (by omega)
  ·have hL : zbk cs cols p = stS cs cols := by unfold zbk; rw [if_neg hf]
   rw [hL] at hi ⊢
   have g : ∀ k, k < (stS cs cols).length → at0 (stS cs cols ++ [(cs.length : Int)]) k = at0 (stS cs cols) k := fun k hk => by
    unfold at0; rw [List.getElem?_append_left hk]
   have g1 : at0 (stS cs cols ++ [(cs.length : Int)]) (stS cs cols).length = cs.length := by
    unfold at0; rw [List.getElem?_append_right (Nat.le_refl _)]; simp
   by_cases e2 : i + 1 = (stS cs cols).length
   ·rw [e2, g1, g i (by omega), show i = (stS cs cols).length - 1 by omega]
    exact ⟨last.1, by simpa using last.2⟩
   ·rw [g i (by omega), g (i + 1) (by omega)]
    exact mid i (by omega)
 refine ⟨by omega, ?_⟩
 unfold zew
 rw [zjF cs _ _ (by omega) (by omega)]
 exact key.2
theorem znj (hw : zco cs) (hc : 2 ≤ cols) (hp : p ≤ cs.length) : 0 ≤ zdG cs cols p ∧ zdG cs cols p < cols := by
 have h := zhi hw hc hp
 unfold zdG
 split
 ·omega
 ·rename_i hf
  rw [zjU hw hc hp] at hf
  omega
theorem zkY (hr : 1 ≤ rows) : 0 < zc7 cs cols p rows ∧ zc7 cs cols p rows ≤ rows ∧ zcB cs cols p rows ≤ zcN cs cols p ∧ zcN cs cols p - zcB cs cols p rows < zc7 cs cols p rows ∧ zcB cs cols p rows + zc7 cs cols p rows ≤ (zbk cs cols p).length := by
 have h := zfx (cs := cs) (cols := cols) (p := p)
 unfold zc7 zcB
 omega
end
def Sml (a b c : ByteArray) (un : List (ByteArray × ByteArray)) : Prop := a.size + b.size ≤ 1400 ∧ b.size ≤ 2000 ∧ c.size ≤ 2000 ∧ un.length ≤ 50 ∧ ∀ s ∈ un, s.1.size ≤ 2000 ∧ s.2.size ≤ 2000
theorem zme {o : LD} (h : OkL o) : Sml o.a o.b o.c o.un := by
 have h1 := zlQ h.2.1
 have h0 := zmA h.2.1
 have h2 := text_sz h.2.2.1
 exact ⟨by omega, by omega, by omega, h.1, fun s hs => by have := zlQ (zdj h s hs); omega⟩
theorem zfu {a b c : ByteArray} {un : List (ByteArray × ByteArray)} (h : Sml a b c un) : Sml a b c (zav un (a, b)) := by
 obtain ⟨h1, h2, h3, h4, h5⟩ := h
 refine ⟨h1, h2, h3, zfE _ _ h4, fun s hs => ?_⟩
 rcases zfq hs with h6 | rfl
 ·exact h5 s h6
 ·exact ⟨by show a.size ≤ 2000; omega, h2⟩
theorem Sml.each {a b c : ByteArray} {un : List (ByteArray × ByteArray)} (h : Sml a b c un) : ∀ j, j < un.length → (lnT un j).size ≤ 1048576 ∧ (lnH un j).size ≤ 1048576 := fun j hj => by
 have := h.2.2.2.2 _ (znQ hj)
 simp only [] at this
 omega
def LnZ (w : World) (base : Nat) (e : Ending) : Prop := ∃ o : LD, Sml o.a o.b o.c o.un ∧ LnO w base o e
theorem LnO.z {w : World} {base : Nat} {o : LD} {e : Ending} (h : LnO w base o e) (hs : Sml o.a o.b o.c o.un) : LnZ w base e := ⟨o, hs, h⟩
end Go.Proofs.YtinfdhbnljnifaaGreatDoor
