import Derived.Test.YtinfdhbnljnifaaGreatDoorEdP0
import Derived.Test.YtinfdhbnljnifaaGreatDoorWhole
import Derived.Test.YtinfdhbnljnifaaGreatDoorEdU
import Derived.Test.YtinfdhbnljnifaaGreatDoorLineS2
import Derived.Deep.RegionHeld3
import Derived.Test.YtinfdhbnljnifaaGreatDoorEdG4
import Derived.Test.YtinfdhbnljnifaaGreatDoorRd
import Derived.Test.YtinfdhbnljnifaaGreatDoorEdN
import Derived.Maps.Own
import Derived.Test.YtinfdhbnljnifaaGreatDoorKmU
import Derived.Deep.RegionLaw
import Derived.Deep.DeepCutAuto
import Derived.Test.YtinfdhbnljnifaaGreatDoorEdW2
import Derived.Deep.RegionHeldLaw
import Derived.Test.YtinfdhbnljnifaaGreatDoorEdS0
import Derived.Test.YtinfdhbnljnifaaGreatDoorSetS
import Derived.Test.YtinfdhbnljnifaaGreatDoorEdMA
import Derived.Test.YtinfdhbnljnifaaGreatDoorFdE
namespace Go.Proofs.YtinfdhbnljnifaaGreatDoor
open Go.RowKit
theorem flat_ge (xs : List Int) : xs.length ≤ (zaL (zaB xs)).length := by
 rw [zfS, fl]
 by_cases h : xs.map zaa = []
 ·rw [if_pos h]
  have := congrArg List.length h
  simp at this
  simp [this]
 ·rw [if_neg h]
  by_cases h2 : 0 < wid (at0 (xs.map zaa) 0)
  ·rw [if_pos h2]; simp
  ·rw [if_neg h2]; simp
theorem baL_nil {b : ByteArray} (h : baL b = []) : b = { data := #[] } := by
 rw [← zat b, h]
 rfl
section
variable {a b c : ByteArray} {un : List (ByteArray × ByteArray)} {w : World}
theorem zmH (W : World) (u : Value) (l r : ByteArray) (hv : zb8 W u un) (hn : un.length ≤ 50) :
  Calls Tryz.prog 136 #[.agg #[.string a, .string b, .string c, u], .string { data := #[] }, .string l, .string r] W fun e w' => LnO w' W.heap.size ⟨a, b, c, un, 2⟩ e ∧ Ext W w' := by
 refine (zjU a b c l r u un.length (lnT un) (lnH un) W hv hn).mono ?_
 rintro e w' ⟨v', rfl, o, E⟩
 exact ⟨⟨v', rfl, o⟩, E⟩
theorem zlI (W : World) (u : Value) (t l r : ByteArray) (ht : t.toList ≠ []) (hv : zb8 W u un) (hn : un.length ≤ 50) :
  Calls Tryz.prog 136 #[.agg #[.string a, .string b, .string c, u], .string t, .string l, .string r] W fun e w' => LnO w' W.heap.size ⟨l, r, t, zav un (a, b), 1⟩ e ∧ Ext W w' := by
 have h := zjc a b c t l r ht u un.length (lnT un) (lnH un) W hv hn
 rw [zb0] at h
 refine h.mono ?_
 rintro e w' ⟨v', rfl, o, E⟩
 exact ⟨⟨v', rfl, o⟩, E⟩
theorem ba_ne {t : ByteArray} (h : baL t ≠ []) : t.toList ≠ [] := by
 intro e
 have h8 := zno h
 rw [zat, e] at h8
 simp at h8
end
theorem zgn {c : List Int × Int} (h : zaW c) : fl c.1 = c.1 ∧ ∀ x ∈ c.1, za7 x := by
 have h1 : zaB c.1 = [c] := by rw [zh3]; exact h
 have h2 := zfS c.1
 have h3 := zha c.1
 rw [h1] at h2 h3
 simp only [zaL, List.append_nil] at h2 h3
 have hm : c.1.map zaa = c.1 := by
  conv => rhs; rw [← List.map_id c.1]
  exact List.map_congr_left (fun x hx => (h3 x hx).shown)
 rw [hm] at h2
 exact ⟨h2.symm, h3⟩
theorem zgO : ∀ (X : List (List Int × Int)), (∀ c ∈ X, zaW c) → fl (zaL X) = zaL X ∧ ∀ x ∈ zaL X, za7 x
 | [], _ => ⟨rfl, fun x hx => by simp [zaL] at hx⟩
 | c :: cs, h => by
  obtain ⟨h1, h2⟩ := zgn (h c (by simp))
  obtain ⟨h3, h4⟩ := zgO cs (fun d hd => h d (by simp [hd]))
  refine ⟨zoN h1 h3, fun x hx => ?_⟩
  rw [zaL] at hx
  exact (List.mem_append.1 hx).elim (h2 x) (h4 x)
theorem zcK {X : List (List Int × Int)} (h : ∀ c ∈ X, zaW c) : zas (zy X) = zy X ∧ zm (zy X) = zaL X := by
 obtain ⟨h1, h2⟩ := zgO X h
 have h3 : zm (zy X) = zaL X := by rw [zaD, zfE _ h2]
 refine ⟨?_, h3⟩
 rw [zcZ, h3, h1, zaD]
theorem zka : ∀ xs : List Int, (zaO xs).length ≤ 4 * xs.length
 | [] => Nat.le_refl _
 | x :: xs => by
  rw [zaO, List.length_append]
  have h1 := zca x
  have h2 := zka xs
  simp
  omega
theorem za1 {L : List Int} (h : zas L = L) : L.length ≤ 4 * (zm L).length := by
 have := zka (zm L)
 rwa [zdZ h] at this
theorem ziu : ∀ xs : List Int, zv (zaO xs)
 | [] => fun n hn => by simp [zaO] at hn
 | x :: xs => fun n hn => by
  rw [zaO] at hn
  rcases List.mem_append.1 hn with h | h
  ·exact zdE x n h
  ·exact ziu xs n h
theorem zkZ (X : List (List Int × Int)) : zv (zy X) := by rw [zaD]; exact ziu _
theorem zfd (X : List (List Int × Int)) : baL (zo (zy X)) = zy X := zdh (zkZ X)
theorem zbu {X Y : List (List Int × Int)} (hx : ∀ c ∈ X, zaW c) (hy : ∀ c ∈ Y, zaW c) (hn : (zaL X).length + (zaL Y).length ≤ 300) : zb9 (baL (zo (zy X))) (baL (zo (zy Y))) := by
 rw [zfd, zfd]
 exact ⟨(zcK hx).1, (zcK hy).1, by rw [(zcK hx).2, (zcK hy).2]; exact hn⟩
def OkL (o : LD) : Prop := zcH o.a o.b o.c o.un.length (lnT o.un) (lnH o.un)
theorem zor {un : List (ByteArray × ByteArray)} {j : Nat} (hj : j < un.length) : (lnT un j, lnH un j) ∈ un := by
 have h : un[j]? = some un[j] := List.getElem?_eq_getElem hj
 rw [zi4 h, ziF h]
 exact List.getElem_mem hj
theorem zfe {a b c : ByteArray} {un : List (ByteArray × ByteArray)} (hn : un.length ≤ 50) (h1 : zb9 (baL a) (baL b)) (h2 : zcT (baL c)) (h3 : ∀ s ∈ un, zb9 (baL s.1) (baL s.2)) : zcH a b c un.length (lnT un) (lnH un) :=
 ⟨hn, h1, h2, fun _ hj => h3 _ (zor hj)⟩
theorem zde {a b c : ByteArray} {un : List (ByteArray × ByteArray)} (h : zcH a b c un.length (lnT un) (lnH un)) : ∀ s ∈ un, zb9 (baL s.1) (baL s.2) := by
 intro s hs
 obtain ⟨j, hj, e⟩ := List.getElem_of_mem hs
 have h9 : un[j]? = some s := by rw [List.getElem?_eq_getElem hj, e]
 have := h.2.2.2 j hj
 rwa [zi4 h9, ziF h9] at this
theorem zfT {un : List (ByteArray × ByteArray)} {s t : ByteArray × ByteArray} (h : t ∈ zav un s) : t ∈ un ∨ t = s := by
 unfold zav at h
 split at h
 ·have := List.mem_of_mem_drop h
  simpa using this
 ·simpa using h
theorem zcX (X : List (List Int × Int)) (n : Nat) : (zaL (X.take n)).length + (zaL (X.drop n)).length = (zaL X).length := by
 conv => rhs; rw [← List.take_append_drop n X, zbf, List.length_append]
section
variable {a b c : ByteArray} {un : List (ByteArray × ByteArray)}
theorem zh7 (h : zcH a b c un.length (lnT un) (lnH un)) {l r : ByteArray} (hs : zb9 (baL l) (baL r)) : OkL (zcp a b c un l r) := by
 refine zfe (zfx un _ h.1) hs h.2.2.1 (fun s hs => ?_)
 rcases zfT hs with h1 | rfl
 ·exact zde h s h1
 ·exact h.2.1
theorem zkm {L : List Int} (h : zas L = L) (hn : (zm L).length ≤ 300) : zb9 L (baL noT) ∧ zb9 (baL noT) L := by
 have e : baL noT = [] := rfl
 have s0 : zas ([] : List Int) = [] := rfl
 have c0 : zm ([] : List Int) = [] := rfl
 rw [e]
 exact ⟨⟨h, s0, by rw [c0]; simpa using hn⟩, ⟨s0, h, by rw [c0]; simpa using hn⟩⟩
theorem edF_ok (h : zcH a b c un.length (lnT un) (lnH un)) (kd : Int) (rs : List Int) : OkL (edF a b c un kd rs) := by
 obtain ⟨hn, ⟨sa, sb, nab⟩, ⟨sc, nc⟩, hu⟩ := id h
 have same : ∀ d, OkL ⟨a, b, c, un, d⟩ := fun d => h
 have gA := zjZ (baL a)
 have gB := zjZ (baL b)
 have fA := zct sa
 have fB := zct sb
 have gAB : ∀ x ∈ zn (baL a) ++ zn (baL b), zaW x := fun x hx => (List.mem_append.1 hx).elim (gA x) (gB x)
 have tk : ∀ (X : List (List Int × Int)) (n : Nat), (∀ x ∈ X, zaW x) → ∀ x ∈ X.take n, zaW x := fun X n hX x hx => hX x (List.mem_of_mem_take hx)
 have dr : ∀ (X : List (List Int × Int)) (n : Nat), (∀ x ∈ X, zaW x) → ∀ x ∈ X.drop n, zaW x := fun X n hX x hx => hX x (List.mem_of_mem_drop hx)
 have mv : ∀ n, OkL (edMv a b c un n) := fun n => zfe hn (zbu (tk _ n gAB) (dr _ n gAB) (by rw [zcX, zbf, List.length_append, fA, fB]; exact nab)) ⟨sc, nc⟩ (zde h)
 have tB : zy (zn (baL b)) = baL b := sb
 have tA : zy (zn (baL a)) = baL a := sa
 have eA : zo (zy (zn (baL a))) = a := by rw [tA, zat]
 have eB : zo (zy (zn (baL b))) = b := by rw [tB, zat]
 have undo : ∀ {l r k : ByteArray} (d : Int), zb9 (baL l) (baL r) → zcT (baL k) → OkL ⟨l, r, k, zav un (a, b), d⟩ := by
  intro l r k d h1 h2
  refine zfe (zfx un _ hn) h1 h2 (fun s hs => ?_)
  rcases zfT hs with h3 | rfl
  ·exact zde h s h3
  ·exact h.2.1
 have pick : ∀ (p : Prop) [Decidable p] (x y : LD), (p → OkL x) → (¬ p → OkL y) → OkL (if p then x else y) := by
  intro p _ x y hx hy
  by_cases hp : p
  ·rw [if_pos hp]; exact hx hp
  ·rw [if_neg hp]; exact hy hp
 unfold edF
 refine pick _ _ _ (fun _ => ?_) (fun _ => pick _ _ _ (fun _ => ?_) (fun _ => pick _ _ _ (fun _ => ?_) (fun _ => pick _ _ _ (fun _ => ?_) (fun _ => pick _ _ _ (fun _ => ?_) (fun _ => pick _ _ _ (fun _ => ?_) (fun _ => pick _ _ _ (fun _ => ?_) (fun _ => pick _ _ _ (fun _ => ?_) (fun _ => pick _ _ _ (fun _ => ?_) (fun _ => pick _ _ _ (fun _ => ?_) (fun _ => pick _ _ _ (fun _ => ?_) (fun _ => pick _ _ _ (fun _ => ?_) (fun _ => pick _ _ _ (fun _ => ?_) (fun _ => pick _ _ _ (fun _ => ?_) (fun _ => pick _ _ _ (fun _ => ?_) (fun _ => same _)))))))))))))))
 ·-- put
  unfold zkI
  refine pick _ _ _ (fun _ => same _) (fun _ => pick _ _ _ (fun _ => same _) (fun h3 => zh7 h ?_))
  have := zbu (zer (zm (baL a) ++ rs)) gB (by rw [fB]; omega)
  rwa [eB] at this
 ·unfold zgw
  refine pick _ _ _ (fun _ => same _) (fun _ => zh7 h ?_)
  have := zbu (tk _ ((zn (baL a)).length - 1) gA) gB (by have := zcX (zn (baL a)) ((zn (baL a)).length - 1); rw [fA] at this; rw [fB]; omega)
  rwa [eB] at this
 ·unfold zjv
  refine pick _ _ _ (fun _ => pick _ _ _ (fun _ => same _) (fun _ => same _)) (fun _ => zh7 h ?_)
  have := zbu gA (dr _ 1 gB) (by have := zcX (zn (baL b)) 1; rw [fB] at this; rw [fA]; omega)
  rwa [eA] at this
 ·unfold zom; exact pick _ _ _ (fun _ => same _) (fun _ => mv _)
 ·unfold zlR; exact pick _ _ _ (fun _ => same _) (fun _ => mv _)
 ·unfold znU; exact pick _ _ _ (fun _ => same _) (fun _ => mv _)
 ·unfold edEnd; exact pick _ _ _ (fun _ => same _) (fun _ => mv _)
 ·unfold edWl; exact pick _ _ _ (fun _ => same _) (fun _ => mv _)
 ·unfold edWr; exact pick _ _ _ (fun _ => same _) (fun _ => mv _)
 ·unfold edKe
  exact pick _ _ _ (fun _ => same _) (fun _ => undo 1 (zkm sa (by omega)).1 ⟨sb, by omega⟩)
 ·unfold edKs
  exact pick _ _ _ (fun _ => same _) (fun _ => undo 1 (zkm sb (by omega)).2 ⟨sa, by omega⟩)
 ·unfold edKw
  refine pick _ _ _ (fun _ => same _) (fun _ => ?_)
  have ht := zcX (zn (baL a)) ((zn (baL a)).length - wdL (zn (baL a)))
  rw [fA] at ht
  have h1 := zbu (tk _ ((zn (baL a)).length - wdL (zn (baL a))) gA) gB (by rw [fB]; omega)
  rw [eB] at h1
  refine undo 1 h1 ?_
  have h2 := zcK (dr _ ((zn (baL a)).length - wdL (zn (baL a))) gA)
  rw [zfd]
  exact ⟨h2.1, by rw [h2.2]; omega⟩
 ·unfold zoK
  refine pick _ _ _ (fun _ => same _) (fun _ => pick _ _ _ (fun _ => same _) (fun h3 => zh7 h ?_))
  obtain ⟨y1, y2⟩ := zni sa sc
  have g := zer (zm (baL a) ++ zm (baL c))
  have := zbu g gB (by rw [fB, y2, List.length_append]; omega)
  rwa [eB, y1] at this
 ·unfold zgU
  have f3 : ∀ (X Y Z : List (List Int × Int)), zy X ++ zy Y ++ zy Z = zy (X ++ Y ++ Z) := fun X Y Z => by rw [zaD, zaD, zaD, zaD, zbf, zbf, zdm, zdm]
  refine pick _ _ _ (fun h1 => zh7 h ?_) (fun _ => pick _ _ _ (fun h2 => zh7 h ?_) (fun _ => same _))
  ·rw [f3]
   have ht := zcX (zn (baL a)) ((zn (baL a)).length - 1)
   have hu := zcX (zn (baL b)) 1
   rw [fA] at ht
   rw [fB] at hu
   refine zbu (fun x hx => ?_) (dr _ 1 gB) (by rw [zbf, zbf, List.length_append, List.length_append]; omega)
   rcases List.mem_append.1 hx with hx | hx
   ·rcases List.mem_append.1 hx with hx | hx
    ·exact tk _ _ gA x hx
    ·exact tk _ _ gB x hx
   ·exact dr _ _ gA x hx
  ·rw [f3]
   have hg : ∀ x ∈ (zn (baL a)).take ((zn (baL a)).length - 2) ++ (zn (baL a)).drop ((zn (baL a)).length - 1) ++ ((zn (baL a)).take ((zn (baL a)).length - 1)).drop ((zn (baL a)).length - 2), zaW x := fun x hx => by
    rcases List.mem_append.1 hx with hx | hx
    ·rcases List.mem_append.1 hx with hx | hx
     ·exact tk _ _ gA x hx
     ·exact dr _ _ gA x hx
    ·exact dr _ _ (tk _ _ gA) x hx
   have ht := zcX (zn (baL a)) ((zn (baL a)).length - 1)
   have hu := zcX ((zn (baL a)).take ((zn (baL a)).length - 1)) ((zn (baL a)).length - 2)
   rw [List.take_take, Nat.min_eq_left (by omega)] at hu
   rw [fA] at ht
   have := zbu hg (Y := []) (fun x hx => by simp at hx) (by rw [zbf, zbf, List.length_append, List.length_append]; simp [zaL]; omega)
   exact this
 ·unfold zdV
  refine pick _ _ _ (fun _ => same _) (fun h1 => ?_)
  refine zfe (by rw [List.length_take]; omega) (hu _ (by omega)) ⟨sc, nc⟩ (fun s hs => zde h s (List.mem_of_mem_take hs))
end
theorem zlS {a b : ByteArray} (h : zb9 (baL a) (baL b)) : a.size ≤ 1200 ∧ b.size ≤ 1200 := by
 have h1 := za1 h.1
 have h2 := za1 h.2.1
 rw [zw] at h1 h2
 have := h.2.2
 omega
theorem zmR {a b : ByteArray} (h : zb9 (baL a) (baL b)) : a.size + b.size ≤ 1200 := by
 have h1 := za1 h.1
 have h2 := za1 h.2.1
 rw [zw] at h1 h2
 have := h.2.2
 omega
theorem text_sz {a : ByteArray} (h : zcT (baL a)) : a.size ≤ 1200 := by
 have h1 := za1 h.1
 rw [zw] at h1
 have := h.2
 omega
theorem zfy {c : List Int × Int} (h : zaW c) : ∃ x r, c.1 = x :: r ∧ 0 < wid x ∧ zaa x = x := by
 obtain ⟨h1, h2⟩ := zgn h
 cases hc : c.1 with
 | nil =>
  unfold zaW at h
  rw [hc] at h
  simp at h
 | cons x r =>
  refine ⟨x, r, rfl, ?_, (h2 x (by rw [hc]; simp)).shown⟩
  rw [hc] at h1
  unfold fl at h1
  rw [if_neg (by simp)] at h1
  split at h1
  ·rename_i h3; simpa [at0] using h3
  ·have := congrArg List.length h1
   simp at this
theorem zfz (bs : List Int) : ∀ c ∈ zn bs, zaW c := zer _
section
variable {cs : List (List Int × Int)} {cols p rows : Nat}
theorem layE_at (i : Nat) (hi : i < (zbm cs cols p).length) : at0 (zbm cs cols p ++ [(cs.length : Int)]) i = at0 (zbm cs cols p) i := by
 unfold at0
 rw [List.getElem?_append_left hi]
theorem zos : at0 (zbm cs cols p ++ [(cs.length : Int)]) (zbm cs cols p).length = cs.length := by
 unfold at0
 rw [List.getElem?_append_right (Nat.le_refl _)]
 simp
theorem zl3 (hp : p ≤ cs.length) (i : Nat) (hi : i ≤ (zbm cs cols p).length) : 0 ≤ at0 (zbm cs cols p ++ [(cs.length : Int)]) i ∧ at0 (zbm cs cols p ++ [(cs.length : Int)]) i ≤ cs.length := by
 by_cases e : i = (zbm cs cols p).length
 ·subst e; rw [zos]; omega
 ·rw [layE_at i (by omega)]
  unfold zbm at hi e ⊢
  by_cases hf : zc4 cs cols p
  ·rw [if_pos hf] at hi e ⊢
   simp at hi e
   by_cases e2 : i = (stS cs cols).length
   ·subst e2
    unfold at0
    rw [List.getElem?_append_right (Nat.le_refl _)]
    simp
    omega
   ·have h1 : at0 (stS cs cols ++ [(p : Int)]) i = at0 (stS cs cols) i := by unfold at0; rw [List.getElem?_append_left (by omega)]
    rw [h1]
    exact zbr (by omega)
  ·rw [if_neg hf] at hi e ⊢
   exact zbr (by omega)
theorem lay_wid (hw : zcn cs) (hc : 2 ≤ cols) (hp : p ≤ cs.length) (i : Nat) (hi : i < (zbm cs cols p).length) :
  (at0 (zbm cs cols p ++ [(cs.length : Int)]) i).toNat ≤ (at0 (zbm cs cols p ++ [(cs.length : Int)]) (i + 1)).toNat ∧ zjW (zew cs cols p i) ≤ cols := by
 have ok := ziB hw hc (cs := cs) (cols := cols)
 have h1 := ok.le
 have h2 := ok.eq
 have h2s : (stF cs cols cs.length).2 = pw cs cs.length - pw cs (at0 (stS cs cols) ((stS cs cols).length - 1)).toNat := h2
 have hone := (zcE cs cols cs.length).one
 have hlen : 0 < (stS cs cols).length := hone
 have b0 := zl3 (cs := cs) (cols := cols) (p := p) hp i (by omega)
 have b1 := zl3 (cs := cs) (cols := cols) (p := p) hp (i + 1) (by omega)
 have key : at0 (zbm cs cols p ++ [(cs.length : Int)]) i ≤ at0 (zbm cs cols p ++ [(cs.length : Int)]) (i + 1) ∧ pw cs (at0 (zbm cs cols p ++ [(cs.length : Int)]) (i + 1)).toNat - pw cs (at0 (zbm cs cols p ++ [(cs.length : Int)]) i).toNat ≤ cols := by
  have last : at0 (stS cs cols) ((stS cs cols).length - 1) ≤ cs.length ∧ pw cs cs.length - pw cs (at0 (stS cs cols) ((stS cs cols).length - 1)).toNat ≤ cols := ⟨(zbr (by omega)).2, by omega⟩
  have mid : ∀ k, k + 1 < (stS cs cols).length → at0 (stS cs cols) k ≤ at0 (stS cs cols) (k + 1) ∧ pw cs (at0 (stS cs cols) (k + 1)).toNat - pw cs (at0 (stS cs cols) k).toNat ≤ cols := fun k hk => ⟨Int.le_of_lt (ok.rows k hk).2.2, (ok.rows k hk).1⟩
  by_cases hf : zc4 cs cols p
  ·have hL : zbm cs cols p = stS cs cols ++ [(p : Int)] := by unfold zbm; rw [if_pos hf]
   rw [hL] at hi ⊢
   have hpe := hf.1
   simp at hi
   have g : ∀ k, k < (stS cs cols).length → at0 (stS cs cols ++ [(p : Int)] ++ [(cs.length : Int)]) k = at0 (stS cs cols) k := fun k hk => by
    unfold at0; rw [List.append_assoc, List.getElem?_append_left hk]
   have g1 : at0 (stS cs cols ++ [(p : Int)] ++ [(cs.length : Int)]) (stS cs cols).length = cs.length := by
    unfold at0; rw [List.append_assoc, List.getElem?_append_right (Nat.le_refl _)]; simp [hpe]
   have g2 : at0 (stS cs cols ++ [(p : Int)] ++ [(cs.length : Int)]) ((stS cs cols).length + 1) = cs.length := by
    unfold at0; rw [List.append_assoc, List.getElem?_append_right (by omega)]; simp
   by_cases e1 : i = (stS cs cols).length
   ·subst e1; rw [g1, g2]; constructor <;> omega
   ·by_cases e2 : i + 1 = (stS cs cols).length
    ·rw [e2, g1, g i (by omega), show i = (stS cs cols).length - 1 by omega]
     exact ⟨last.1, by simpa using last.2⟩
    ·rw [g i (by omega), g (i + 1) (by omega)]
     exact mid i (by omega)
  ·have hL : zbm cs cols p = stS cs cols := by unfold zbm; rw [if_neg hf]
   rw [hL] at hi ⊢
   have g : ∀ k, k < (stS cs cols).length → at0 (stS cs cols ++ [(cs.length : Int)]) k = at0 (stS cs cols) k := fun k hk => by
    unfold at0; rw [List.getElem?_append_left hk]
   have g1 : at0 (stS cs cols ++ [(cs.length : Int)]) (stS cs cols).length = cs.length := by
    unfold at0; rw [List.getElem?_append_right (Nat.le_refl _)]; simp
   by_cases e2 : i + 1 = (stS cs cols).length
   ·rw [e2, g1, g i (by omega), show i = (stS cs cols).length - 1 by omega]
    exact ⟨last.1, by simpa using last.2⟩
   ·rw [g i (by omega), g (i + 1) (by omega)]
    exact mid i (by omega)
 refine ⟨by omega, ?_⟩
 unfold zew
 rw [zks cs _ _ (by omega) (by omega)]
 exact key.2
theorem zm1 (hw : zcn cs) (hc : 2 ≤ cols) (hp : p ≤ cs.length) : 0 ≤ zdB cs cols p ∧ zdB cs cols p < cols := by
 have h := zgx hw hc hp
 unfold zdB
 split
 ·omega
 ·rename_i hf
  rw [zjN hw hc hp] at hf
  omega
theorem zlq (hr : 1 ≤ rows) : 0 < zdc cs cols p rows ∧ zdc cs cols p rows ≤ rows ∧ zcQ cs cols p rows ≤ zcL cs cols p ∧ zcL cs cols p - zcQ cs cols p rows < zdc cs cols p rows ∧ zcQ cs cols p rows + zdc cs cols p rows ≤ (zbm cs cols p).length := by
 have h := zfK (cs := cs) (cols := cols) (p := p)
 unfold zdc zcQ
 omega
end
def Sml (a b c : ByteArray) (un : List (ByteArray × ByteArray)) : Prop := a.size + b.size ≤ 1400 ∧ b.size ≤ 2000 ∧ c.size ≤ 2000 ∧ un.length ≤ 50 ∧ ∀ s ∈ un, s.1.size ≤ 2000 ∧ s.2.size ≤ 2000
theorem zlU {o : LD} (h : OkL o) : Sml o.a o.b o.c o.un := by
 have h1 := zlS h.2.1
 have h0 := zmR h.2.1
 have h2 := text_sz h.2.2.1
 exact ⟨by omega, by omega, by omega, h.1, fun s hs => by have := zlS (zde h s hs); omega⟩
theorem zfw {a b c : ByteArray} {un : List (ByteArray × ByteArray)} (h : Sml a b c un) : Sml a b c (zav un (a, b)) := by
 obtain ⟨h1, h2, h3, h4, h5⟩ := h
 refine ⟨h1, h2, h3, zfx _ _ h4, fun s hs => ?_⟩
 rcases zfT hs with h6 | rfl
 ·exact h5 s h6
 ·exact ⟨by show a.size ≤ 2000; omega, h2⟩
theorem Sml.each {a b c : ByteArray} {un : List (ByteArray × ByteArray)} (h : Sml a b c un) : ∀ j, j < un.length → (lnT un j).size ≤ 1048576 ∧ (lnH un j).size ≤ 1048576 := fun j hj => by
 have := h.2.2.2.2 _ (zor hj)
 simp only [] at this
 omega
def LnZ (w : World) (base : Nat) (e : Ending) : Prop := ∃ o : LD, Sml o.a o.b o.c o.un ∧ LnO w base o e
theorem LnO.z {w : World} {base : Nat} {o : LD} {e : Ending} (h : LnO w base o e) (hs : Sml o.a o.b o.c o.un) : LnZ w base e := ⟨o, hs, h⟩
end Go.Proofs.YtinfdhbnljnifaaGreatDoor
