import Derived.Test.YtinfdhbnljnifaaGreatDoorEdW2
import Derived.Test.YtinfdhbnljnifaaGreatDoorKys
import Derived.Test.YtinfdhbnljnifaaGreatDoorSettle
import Derived.Test.YtinfdhbnljnifaaGreatDoorShowable
import Derived.Test.YtinfdhbnljnifaaGreatDoorRd
import Derived.Deep.SlicePairs
import Derived.Deep.Strs
import Derived.Lib.ValidLaws
import Derived.Test.YtinfdhbnljnifaaGreatDoorSpecClean
import Derived.Lib.OthersKept
import Derived.Test.YtinfdhbnljnifaaGreatDoorSizeB
import Derived.Deep.RegionHeldLaw
import Derived.Laws.Rows
import Derived.Laws.Tables
import Derived.OwnWalk
namespace Go.Proofs.YtinfdhbnljnifaaGreatDoor
open Go.RowKit
theorem zjN (L : List Int) : ∀ c ∈ zn L, zaW c := zeu _
def skF (p : Nat → Bool) (n : Nat) : Nat → Nat → Nat
  | 0, i => i
  | f + 1, i => if i < n ∧ p i = true then skF p n f (i + 1) else i
def wdN (p : Nat → Bool) (n : Nat) : Nat := skF (fun j => !p j) n n (skF p n n 0)
theorem Wd.le {p : Nat → Bool} {n r : Nat} (h : Wd p n r) : r ≤ n := by
 obtain ⟨m, _, h2⟩ := h
 exact h2.2.1
def wdR (cs : List (List Int × Int)) : Nat := wdN (fun j => spB (cR cs j)) cs.length
def wdL (cs : List (List Int × Int)) : Nat := wdN (fun j => spB (cR cs (cs.length - 1 - j))) cs.length
structure LD where
 a : ByteArray
 b : ByteArray
 c : ByteArray
 un : List (ByteArray × ByteArray)
 d : Int
section
variable (a b c : ByteArray) (un : List (ByteArray × ByteArray))
def edMv (n : Nat) : LD := ⟨zo (zy ((zn (baL a) ++ zn (baL b)).take n)), zo (zy ((zn (baL a) ++ zn (baL b)).drop n)), c, un, 1⟩
def zcp (l r : ByteArray) : LD := ⟨l, r, c, zav un (a, b), 1⟩
def znV : LD := if (zn (baL a)).length = 0 then ⟨a, b, c, un, 2⟩ else edMv a b c un ((zn (baL a)).length - 1)
def zma : LD := if (zn (baL b)).length = 0 then ⟨a, b, c, un, 2⟩ else edMv a b c un ((zn (baL a)).length + 1)
def znZ : LD := if (zn (baL a)).length = 0 then ⟨a, b, c, un, 0⟩ else edMv a b c un 0
def edEnd : LD := if (zn (baL b)).length = 0 then ⟨a, b, c, un, 0⟩ else edMv a b c un ((zn (baL a)).length + (zn (baL b)).length)
def edWl : LD := if wdL (zn (baL a)) = 0 then ⟨a, b, c, un, 2⟩ else edMv a b c un ((zn (baL a)).length - wdL (zn (baL a)))
def edWr : LD := if wdR (zn (baL b)) = 0 then ⟨a, b, c, un, 2⟩ else edMv a b c un ((zn (baL a)).length + wdR (zn (baL b)))
def zjX (rs : List Int) : LD := if rs.length = 0 then ⟨a, b, c, un, 0⟩ else if 300 < (zaL (zaB (zm (baL a) ++ rs))).length + (zm (baL b)).length then ⟨a, b, c, un, 2⟩ else zcp a b c un (zo (zy (zaB (zm (baL a) ++ rs)))) b
def zhq : LD := if (zn (baL a)).length = 0 then ⟨a, b, c, un, 2⟩ else zcp a b c un (zo (zy ((zn (baL a)).take ((zn (baL a)).length - 1)))) b
def zkx : LD := if (zn (baL b)).length = 0 then (if (zn (baL a)).length = 0 then ⟨a, b, c, un, 8⟩ else ⟨a, b, c, un, 2⟩) else zcp a b c un a (zo (zy ((zn (baL b)).drop 1)))
def edKe : LD := if (zn (baL b)).length = 0 then ⟨a, b, c, un, 2⟩ else ⟨a, noT, b, zav un (a, b), 1⟩
def edKs : LD := if (zn (baL a)).length = 0 then ⟨a, b, c, un, 2⟩ else ⟨noT, b, a, zav un (a, b), 1⟩
def edKw : LD := if wdL (zn (baL a)) = 0 then ⟨a, b, c, un, 2⟩ else ⟨zo (zy ((zn (baL a)).take ((zn (baL a)).length - wdL (zn (baL a))))), b, zo (zy ((zn (baL a)).drop ((zn (baL a)).length - wdL (zn (baL a))))), zav un (a, b), 1⟩
def zoQ : LD := if (baL c).length = 0 then ⟨a, b, c, un, 2⟩ else if 300 < (zm (baL a)).length + (zm (baL c)).length + (zm (baL b)).length then ⟨a, b, c, un, 2⟩ else zcp a b c un (zo (baL a ++ baL c)) b
def zgX : LD := if 1 ≤ (zn (baL a)).length ∧ 1 ≤ (zn (baL b)).length then zcp a b c un (zo (zy ((zn (baL a)).take ((zn (baL a)).length - 1)) ++ zy ((zn (baL b)).take 1) ++ zy ((zn (baL a)).drop ((zn (baL a)).length - 1)))) (zo (zy ((zn (baL b)).drop 1)))
 else if 2 ≤ (zn (baL a)).length ∧ (zn (baL b)).length = 0 then zcp a b c un (zo (zy ((zn (baL a)).take ((zn (baL a)).length - 2)) ++ zy ((zn (baL a)).drop ((zn (baL a)).length - 1)) ++ zy (((zn (baL a)).take ((zn (baL a)).length - 1)).drop ((zn (baL a)).length - 2)))) noT
 else ⟨a, b, c, un, 2⟩
def zd4 : LD := if un.length = 0 then ⟨a, b, c, un, 2⟩ else ⟨lnT un (un.length - 1), lnH un (un.length - 1), c, un.take (un.length - 1), 1⟩
def edF (kd : Int) (rs : List Int) : LD :=
 if kd = 1 ∨ kd = 2 then zjX a b c un rs else if kd = 4 then zhq a b c un else if kd = 5 then zkx a b c un else if kd = 6 then znV a b c un else if kd = 7 then zma a b c un
 else if kd = 8 then znZ a b c un else if kd = 9 then edEnd a b c un else if kd = 18 then edWl a b c un else if kd = 19 then edWr a b c un
 else if kd = 12 then edKe a b c un else if kd = 13 then edKs a b c un else if kd = 14 then edKw a b c un else if kd = 15 then zoQ a b c un else if kd = 16 then zgX a b c un else if kd = 17 then zd4 a b c un
 else ⟨a, b, c, un, if kd = 3 then 3 else if kd = 21 then 4 else if kd = 10 then 5 else if kd = 11 then 6 else if kd = 20 then 7 else 0⟩
end
theorem zb4 (un : List (ByteArray × ByteArray)) : unL (lnT un) (lnH un) un.length = un := by
 apply List.ext_getElem?
 intro j
 by_cases h : j < un.length
 ·rw [zlb _ _ h, lnT, lnH, List.getElem?_eq_getElem h]
  rfl
 ·rw [List.getElem?_eq_none (by rw [zjc]; omega), List.getElem?_eq_none (by omega)]
def zb3 (w : World) (v : Value) (un : List (ByteArray × ByteArray)) : Prop := zag w v un.length (fun j => .string (lnT un j)) (fun j => .string (lnH un j))
theorem zb3.ext {w w' : World} {v : Value} {un : List (ByteArray × ByteArray)} (h : zb3 w v un) (E : Ext w w') : zb3 w' v un := zag.ext h E
def LnO (w : World) (base : Nat) (o : LD) (e : Ending) : Prop := ∃ v, e = .returned (.tuple #[.agg #[.string o.a, .string o.b, .string o.c, v], .int .i64 o.d]) ∧ zaG w base 201 v o.un.length (fun j => .string (lnT o.un j)) (fun j => .string (lnH o.un j))
theorem zau (bs : List Int) : (zn bs).length ≤ bs.length := Nat.le_trans (zeb _ _) (zaJ bs)
theorem znX (bs : List Int) : (zn bs).length + zaY (zn bs) (zn bs).length ≤ 2 * bs.length + 1 := by
 have h1 := zeg (zm bs) (zm bs).length
 have h2 := zaJ bs
 have h3 := zau bs
 have h4 : zaY (zn bs) (zn bs).length ≤ (zm bs).length + 1 := h1
 omega
theorem zkP (bs : List Int) (j : Nat) : (cR (zn bs) j).length ≤ bs.length + 1 := by
 have h1 := zfP (zm bs) (zm bs).length j
 have h2 := zaJ bs
 have h3 : (cR (zn bs) j).length ≤ (zm bs).length + 1 := h1
 omega
theorem zow (bs : List Int) (j : Nat) : zdv (cR (zn bs) j) := zeU _ _ j
theorem zh6 (xs ys : List (List Int × Int)) : ∀ k, k ≤ xs.length → zaY (xs ++ ys) k = zaY xs k
 | 0, _ => rfl
 | k + 1, h => by rw [zaY, zaY, zh6 xs ys k (by omega), zg8, if_pos (by omega)]
theorem zhw (xs ys : List (List Int × Int)) : ∀ k, k ≤ ys.length → zaY (xs ++ ys) (xs.length + k) = zaY xs xs.length + zaY ys k
 | 0, _ => by rw [Nat.add_zero, zh6 xs ys _ (Nat.le_refl _)]; rfl
 | k + 1, h => by
  rw [← Nat.add_assoc, zaY, zhw xs ys k (by omega), zg8, if_neg (by omega), show xs.length + k - xs.length = k by omega, zaY]
  omega
structure Cuts (cs : List (List Int × Int)) (N : Nat) : Prop where
 wide : zco cs
 len : cs.length ≤ N
 sum : cs.length + zaY cs cs.length ≤ 2 * N + N
 runes : ∀ j, (cR cs j).length ≤ N + 1
 i32 : ∀ j, zdv (cR cs j)
theorem zaE (bs : List Int) : Cuts (zn bs) (bs.length + 1) :=
 ⟨zlr bs, by have := zau bs; omega, by have := znX bs; omega, fun j => by have := zkP bs j; omega, zow bs⟩
theorem Cuts.app {xs ys : List (List Int × Int)} {N M : Nat} (hx : Cuts xs N) (hy : Cuts ys M) : Cuts (xs ++ ys) (N + M) := by
 have h1 := hx.len
 have h2 := hy.len
 have h3 := hx.sum
 have h4 := hy.sum
 refine ⟨hx.wide.app hy.wide, by rw [List.length_append]; omega, ?_, fun j => ?_, fun j => ?_⟩
 ·rw [List.length_append, zhw xs ys _ (Nat.le_refl _)]
  omega
 ·rw [zg8]
  split
  ·have := hx.runes j; omega
  ·have := hy.runes (j - xs.length); omega
 ·rw [zg8]
  split
  ·exact hx.i32 j
  ·exact hy.i32 _
theorem sumR_up (cs : List (List Int × Int)) (k : Nat) : ∀ n, k ≤ n → zaY cs k ≤ zaY cs n := by
 intro n
 induction n with
 | zero => intro h; rw [show k = 0 by omega]; exact Nat.le_refl _
 | succ n ih =>
  intro h
  by_cases e : k = n + 1
  ·subst e; exact Nat.le_refl _
  ·have := ih (by omega); rw [zaY]; omega
theorem Cuts.part {cs : List (List Int × Int)} {N : Nat} (h : Cuts cs N) (s e : Nat) : ((cs.take e).drop s).length + zaY ((cs.take e).drop s) ((cs.take e).drop s).length ≤ 3 * N ∧ ∀ j, zdv (cR ((cs.take e).drop s) j) := by
 have h1 := h.sum
 have hl : ((cs.take e).drop s).length = min e cs.length - s := by simp
 refine ⟨?_, fun j => ?_⟩
 ·by_cases hse : s ≤ min e cs.length
  ·have e1 := zjZ cs s e (min e cs.length - s) (by omega)
   have e2 := sumR_up cs (s + (min e cs.length - s)) cs.length (by omega)
   rw [hl]
   omega
  ·have h0 : (cs.take e).drop s = [] := List.eq_nil_of_length_eq_zero (by omega)
   rw [h0]
   simp [zaY]
 ·unfold cR
  cases hj : ((cs.take e).drop s)[j]? with
  | none => intro x hx; cases hx
  | some u =>
   obtain ⟨q, hq⟩ := List.mem_iff_getElem?.1 (List.mem_of_mem_take (List.mem_of_mem_drop (List.mem_of_getElem? hj)))
   have := h.i32 q
   unfold cR at this
   rw [hq] at this
   exact this
set_option maxRecDepth 10000 in
set_option maxHeartbeats 1000000 in
theorem zan (bs : List Int) (hb : zv bs) (w : World) (hl : bs.length ≤ 8000000) :
  Calls Tryz.prog 137 #[.string (zo bs)] w fun e w' => ∃ v rs, e = .returned v ∧ zal w' w.heap.size v rs (zn bs) ∧ Ext w w' := by
 obtain ⟨v0, w0, hrun, h0, E0⟩ := zec (P := Tryz.prog) w _ _ _ Tryz.underlying9 Tryz.underlying22 Tryz.underlying5 bs hb
 have hcl := zaJ bs
 have H0 := zh h0
 go_enter Tryz.func137, Tryz.ntmps137
 go_wp2_with fail
 refine (zbn bs hb v0 w0 (zu H0) (by omega)).mono ?_
 rintro e w1 ⟨v1, rfl, o1, E1⟩
 go_wp2_with fail
 refine (zbv v1 (zm bs) w1 (zz o1) (zdu bs) (by omega)).mono ?_
 rintro e w2 ⟨v2, rs2, rfl, o2, E2⟩
 have O2 := zh o2
 clear o1 o2
 go_wp2
 go_ret
 exact ⟨_, _, rfl, zal.mono (zu O2) (E0.trans E1).size, (E0.trans E1).trans E2⟩
theorem zal.ys {w : World} {b : Nat} {v : Value} {rs : List Value} {cs : List (List Int × Int)} (h : zal w b v rs cs) : ∃ ys, w.ownsRow b 205 2 v cs.length ys ∧ (∀ j, j < cs.length → ys[j * 2]? = some (rV rs j) ∧ ys[j * 2 + 1]? = some (.int .i64 (cW cs j))) ∧ Src w 2 v cs.length ys := by
 obtain ⟨h0, ⟨ys, h1, h2⟩, h3, h4⟩ := h
 refine ⟨ys, h1, h2, h1.1, fun u hu => ?_, ?_⟩
 ·obtain ⟨i, hi⟩ := List.mem_iff_getElem?.1 hu
  have hil : i < cs.length * 2 := by rw [← h1.1]; exact (List.getElem?_eq_some_iff.1 hi).1
  have hj := h2 (i / 2) (by omega)
  rcases Nat.mod_two_eq_zero_or_one i with e | e
  ·rw [show i / 2 * 2 = i by omega, hi] at hj
   obtain rfl := Option.some.inj hj.1
   rcases (h3 (i / 2) (by omega)).2 with ⟨e2, _⟩ | ⟨g, cap, cur, e2, _⟩ <;> rw [e2] <;> rfl
  ·rw [show i / 2 * 2 + 1 = i by omega, hi] at hj
   obtain rfl := Option.some.inj hj.2
   rfl
 ·rcases h1.2 with ⟨rfl, e0⟩ | ⟨g, cap, cur, rfl, _⟩
  ·exact .inl ⟨0, rfl, e0⟩
  ·exact .inr ⟨_, cap, rfl, h1.cells rfl⟩
theorem zal.append {w w' : World} {b b2 : Nat} {v1 v2 v' : Value} {rs1 rs2 : List Value} {cs1 cs2 : List (List Int × Int)} {ys1 ys2 : List Value} (h1 : zal w b v1 rs1 cs1) (h2 : zal w b2 v2 rs2 cs2) (hb : b ≤ b2) (hlt : ∀ g, zdl v1 rs1 cs1.length g → g < b2)
  (o1 : w.ownsRow b 205 2 v1 cs1.length ys1) (k1 : ∀ j, j < cs1.length → ys1[j * 2]? = some (rV rs1 j) ∧ ys1[j * 2 + 1]? = some (.int .i64 (cW cs1 j))) (k2 : ∀ j, j < cs2.length → ys2[j * 2]? = some (rV rs2 j) ∧ ys2[j * 2 + 1]? = some (.int .i64 (cW cs2 j)))
  (o' : w'.ownsRow b 205 2 v' (cs1.length + cs2.length) (ys1 ++ ys2)) (hg : w.grownBy w' v1.ownBlock) : zal w' b v' (rs1 ++ rs2) (cs1 ++ cs2) := by
 have l1 : rs1.length = cs1.length := h1.1
 have l2 : rs2.length = cs2.length := h2.1
 have ly : ys1.length = cs1.length * 2 := o1.1
 have fr : Fr (fun g => v1.ownBlock = some g) w w' := (Fr.refl _ w).grown hg (fun k hk => hk)
 have rv : ∀ j, rV (rs1 ++ rs2) j = if j < cs1.length then rV rs1 j else rV rs2 (j - cs1.length) := by
  intro j
  unfold rV
  split
  ·rename_i h; rw [List.getElem?_append_left (by omega)]
  ·rename_i h; rw [List.getElem?_append_right (by omega), l1]
 have lt1 : ∀ j g, j < cs1.length → (rV rs1 j).ownBlock = some g → g < b2 := fun j g hj hgg => hlt g (.inr ⟨j, hj, hgg⟩)
 have ge2 : ∀ j g, j < cs2.length → (rV rs2 j).ownBlock = some g → b2 ≤ g := fun j g hj hgg => ((h2.2.2.1 j hj).lt g hgg).1
 refine ⟨by simp [l1, l2], ⟨_, by rw [List.length_append]; exact o', fun j hj => ?_⟩, fun j hj => ?_, fun i j g hij hj => ?_⟩
 ·rw [rv, zn8]
  split
  ·rename_i h
   have := k1 j h
   rw [List.getElem?_append_left (by omega), List.getElem?_append_left (by omega)]
   exact this
  ·rename_i h
   simp at hj
   have := k2 (j - cs1.length) (by omega)
   rw [List.getElem?_append_right (by omega), List.getElem?_append_right (by omega), ly, show j * 2 - cs1.length * 2 = (j - cs1.length) * 2 by omega, show j * 2 + 1 - cs1.length * 2 = (j - cs1.length) * 2 + 1 by omega]
   exact this
 ·rw [rv, zg8]
  split
  ·rename_i h
   exact fr.owns (h1.2.2.1 j h) (fun g hgg e => zaw o1 (h1.2.2.1 j h) (by decide) e hgg)
  ·rename_i h
   simp at hj
   refine zah (fr.owns (h2.2.2.1 _ (by omega)) (fun g hgg e => ?_)) hb
   have a := ge2 _ g (by omega) hgg
   have c := hlt g (.inl e)
   omega
 ·rw [rv, rv]
  simp at hj
  intro hi
  by_cases hi1 : i < cs1.length
  ·rw [if_pos hi1] at hi
   by_cases hj1 : j < cs1.length
   ·rw [if_pos hj1]
    exact h1.2.2.2 i j g hij hj1 hi
   ·rw [if_neg hj1]
    intro e
    have a := lt1 i g hi1 hi
    have c := ge2 _ g (by omega) e
    omega
  ·rw [if_neg hi1] at hi
   rw [if_neg (by omega)]
   exact h2.2.2.2 _ _ g (by omega) (by omega) hi
theorem zal.lt {w : World} {b : Nat} {v : Value} {rs : List Value} {cs : List (List Int × Int)} (h : zal w b v rs cs) {g : Nat} (hg : zdl v rs cs.length g) : b ≤ g ∧ g < w.heap.size := by
 rcases hg with hg | ⟨j, hj, hg⟩
 ·obtain ⟨ys, o, _⟩ := h.2.1
  exact o.lt g hg
 ·exact (h.2.2.1 j hj).lt g hg
theorem zaF.cut {w : World} {a : Option Addr} {n c : Nat} {cs : List (List Int × Int)} (h : zaF w (.slice a n c) cs) (s e Z : Nat) (hse : s ≤ e) (he : e ≤ cs.length) (hZ : e - s ≤ Z) (a' : Option Addr) (ha : a' = a.map (fun x => x.add (s * 2)) ∨ e - s = 0) : zaF w (.slice a' (e - s) Z) ((cs.take e).drop s) := by
 have hlen : ((cs.take e).drop s).length = e - s := by simp; omega
 by_cases h0 : e - s = 0
 ·exact ⟨[], a', Z, by rw [hlen], by omega, fun j hj => by omega, fun hp => by omega⟩
 obtain ⟨rs, ao, ca, e1, hca, hr, hx⟩ := h
 simp only [Value.slice.injEq] at e1
 obtain ⟨rfl, rfl, rfl⟩ := e1
 obtain ⟨b, off, rfl, hc⟩ := hx (by omega)
 have ha' : a' = some ⟨b, off + s * 2, none⟩ := by
  rcases ha with rfl | ha
  ·simp [Addr.add]
  ·omega
 subst ha'
 refine ⟨(List.range (e - s)).map (fun j => rV rs (s + j)), _, Z, by rw [hlen], by omega, fun j hj => ?_, fun _ => ⟨b, off + s * 2, rfl, fun j hj => ?_⟩⟩
 ·rw [hlen] at hj
  rw [(zmo cs s e j (by omega)).1]
  have e2 : rV ((List.range (e - s)).map (fun j => rV rs (s + j))) j = rV rs (s + j) := by
   conv => lhs; unfold rV
   rw [List.getElem?_map, List.getElem?_range hj]
   rfl
  rw [e2]
  exact hr (s + j) (by omega)
 ·rw [hlen] at hj
  have e2 : rV ((List.range (e - s)).map (fun j => rV rs (s + j))) j = rV rs (s + j) := by
   conv => lhs; unfold rV
   rw [List.getElem?_map, List.getElem?_range hj]
   rfl
  rw [e2, (zmo cs s e j (by omega)).2, show off + s * 2 + j * 2 = off + (s + j) * 2 by omega]
  exact hc (s + j) (by omega)
theorem Fr.tr {S : Nat → Prop} {a b c : World} (h : Fr S a b) (k : Fr S b c) : Fr S a c :=
 ⟨k.os.trans h.os, k.tape.trans h.tape, k.output.trans h.output, Nat.le_trans h.size k.size, fun i hi hn => (k.block i (Nat.lt_of_lt_of_le hi h.size) hn).trans (h.block i hi hn)⟩
theorem Fr.kept {S : Nat → Prop} {w w' : World} {p : Nat} {o : Obj} (h : Fr S w w') (hp : w.heap[p]? = some o) (hS : ¬ S p) : w'.heap[p]? = some o := (h.block p (Array.getElem?_eq_some_iff.1 hp).1 hS).trans hp
theorem zq {w : World} {p : Nat} {o : Obj} (h : w.heap[p]? = some o) : p < w.heap.size := (Array.getElem?_eq_some_iff.1 h).1
end Go.Proofs.YtinfdhbnljnifaaGreatDoor

namespace Go.Proofs.YtinfdhbnljnifaaGreatDoor
open Go.ChangeShapes Go.WideShapes Go.ChangeAt Go.RowKit Go.Deep
def blV (v : Value) (row col : Int) : Value := .agg #[v, .int .i64 row, .int .i64 col]
end Go.Proofs.YtinfdhbnljnifaaGreatDoor

namespace Go.Proofs.YtinfdhbnljnifaaGreatDoor
open Go.RowKit
theorem znJ (s : ByteArray) : s.toList = s.data.toList := by
 have aux : ∀ (n i : Nat) (r : List UInt8), s.size - i = n → ByteArray.toList.loop s i r = r.reverse ++ s.data.toList.drop i := by
  intro n
  induction n with
  | zero =>
   intro i r h
   rw [ByteArray.toList.loop, if_neg (by omega), List.drop_eq_nil_of_le (by simp; exact Nat.sub_eq_zero_iff_le.1 h)]
   simp
  | succ n ih =>
   intro i r h
   rw [ByteArray.toList.loop, if_pos (by omega), ih (i + 1) _ (by omega)]
   have hi : i < s.data.toList.length := by simp; show i < s.size; omega
   rw [List.drop_eq_getElem_cons hi]
   have e : s.get! i = s.data.toList[i] := by
    have hs : i < s.data.size := by simpa using hi
    cases s with
    | mk d => show d[i]! = d.toList[i]; simp only [getElem!_pos d i hs, Array.getElem_toList]
   rw [e]
   simp
 have := aux s.size 0 [] (by omega)
 simpa [ByteArray.toList] using this
theorem ba_neB {s t : ByteArray} (h : s ≠ t) : (s.toList == t.toList) = false := by
 rw [beq_eq_false_iff_ne, znJ, znJ]
 exact fun e => h (WideShapes.bytes_inj e)
def zeV (n m : Nat) (tx ty : Nat → ByteArray) : Prop := n = m ∧ ∀ j, j < n → tx j = ty j
abbrev sameD (n m : Nat) (tx ty : Nat → ByteArray) : Decidable (zeV n m tx ty) := inferInstanceAs (Decidable (n = m ∧ ∀ j, j < n → tx j = ty j))
set_option maxRecDepth 10000 in
set_option maxHeartbeats 1000000 in
theorem zlt (va vb : Value) (n m : Nat) (tx ty : Nat → ByteArray) (w : World) (ha : zam w va n (fun j => .string (tx j))) (hb : zam w vb m (fun j => .string (ty j))) (hn : n ≤ 1048576) (hm : m ≤ 1048576) (ok : Bool) (hok : ok = true ↔ zeV n m tx ty) :
  Calls Tryz.prog 52 #[va, vb] w fun e w' => e = .returned (.bool ok) ∧ Ext w w' := by
 obtain ⟨ao, ca, rfl, hca, hxa⟩ := ha
 obtain ⟨bo, cb, rfl, hcb, hxb⟩ := hb
 have HK := zh hok
 clear hok
 by_cases hnm : n = m
 ·subst hnm
  by_cases h0 : n = 0
  ·subst h0
   clear hxa hxb
   have hT : Hid (ok = true) := zh ((zu HK).2 ⟨rfl, fun j hj => by omega⟩)
   go_enter Tryz.func52, Tryz.ntmps52
   go_wp2
   go_loop [5] (fun i => i = .int .i64 0) (fun _ => 0)
   case atStart => rfl
   case round =>
    subst hrel
    go_wp2
    go_ret
    exact ⟨zaH (zu hT).symm, Ext.refl _⟩
  ·obtain ⟨b1, o1, rfl, h1⟩ := hxa (by omega)
   obtain ⟨b2, o2, rfl, h2⟩ := hxb (by omega)
   have H1 := zh h1
   have H2 := zh h2
   clear hxa hxb h1 h2
   go_enter Tryz.func52, Tryz.ntmps52
   go_wp2
   go_loopw [5] (fun i w' => ∃ k : Nat, k ≤ n ∧ i = .int .i64 k ∧ Hid (∀ j, j < k → tx j = ty j) ∧ Ext w w') (fun i _ => n - (intOf i).toNat)
   case atStart => exact ⟨0, Nat.zero_le _, rfl, zh (fun j hj => by omega), Ext.refl _⟩
   case round =>
    obtain ⟨k, hk, rfl, HJ, hext⟩ := hrel
    by_cases hlt : k < n
    ·have g1 := hext.cell ((zu H1) k hlt)
     have g3 := hext.cell ((zu H2) k hlt)
     have bk : (k : Int) < (n : Int) := by omega
     by_cases hs : tx k = ty k
     ·have HJ2 : Hid (∀ j, j < k + 1 → tx j = ty j) := zh (fun j hj => by
       by_cases e : j = k
       ·subst e; exact hs
       ·exact (zu HJ) j (by omega))
      rw [← hs] at g3
      clear hs
      go_wp2
      go_quiet (fail)
      go_wp2
      go_roundw
      case rel => exact ⟨k + 1, by omega, by go_num, HJ2, hext.drewN _⟩
      case measure => simp [intOf]; omega
     ·have hne := ba_neB hs
      have hF : Hid (ok = false) := by
       refine zh ?_
       cases hc : ok with
       | false => rfl
       | true => exact absurd (((zu HK).1 hc).2 k hlt) hs
      clear hs
      go_wp2
      go_quiet (fail)
      go_wp2
      go_ret
      exact ⟨zaH (zu hF).symm, hext.drewN _⟩
    ·obtain rfl : k = n := by omega
     have hT : Hid (ok = true) := zh ((zu HK).2 ⟨rfl, zu HJ⟩)
     go_wp2
     go_ret
     exact ⟨zaH (zu hT).symm, hext⟩
 ·have hF : Hid (ok = false) := by
   refine zh ?_
   cases hc : ok with
   | false => rfl
   | true => exact absurd ((zu HK).1 hc).1 hnm
  have hnm' : ¬ (n : Int) = (m : Int) := by omega
  go_enter Tryz.func52, Tryz.ntmps52
  go_wp2
  go_ret
  exact ⟨zaH (zu hF).symm, Ext.refl _⟩
theorem zhD (va vb : Value) (n m : Nat) (tx ty : Nat → ByteArray) (w : World) (ha : zam w va n (fun j => .string (tx j))) (hb : zam w vb m (fun j => .string (ty j))) (hn : n ≤ 1048576) (hm : m ≤ 1048576) (ok : Bool) (hok : ok = true ↔ zeV n m tx ty) :
  Calls Tryz.prog 13 #[va, vb] w fun e w' => e = .returned (.bool ok) ∧ Ext w w' := by
 have H := zh (zlt va vb n m tx ty w ha hb hn hm ok hok)
 obtain ⟨ao, ca, rfl, _, _⟩ := ha
 obtain ⟨bo, cb, rfl, _, _⟩ := hb
 clear hok
 go_enter Tryz.func13, Tryz.ntmps13
 go_wp2_with fail
 refine (zu H).mono ?_
 rintro e w' ⟨rfl, E⟩
 go_wp2
 go_ret
 exact ⟨rfl, E⟩
def zb7 (a b : List Int) : Prop := zas a = a ∧ zas b = b ∧ (zm a).length + (zm b).length ≤ 300
def zc1 (bs : List Int) : Prop := zas bs = bs ∧ (zm bs).length ≤ 300
theorem zgq (bs : List Int) : zc1 bs ↔ zb7 bs [] := by
 unfold zc1 zb7
 have e1 : zas [] = [] := rfl
 have e2 : zm [] = [] := rfl
 simp [e1, e2]
def zcJ (a b c : ByteArray) (n : Nat) (tx hf : Nat → ByteArray) : Prop := n ≤ 50 ∧ zb7 (baL a) (baL b) ∧ zc1 (baL c) ∧ ∀ j, j < n → zb7 (baL (tx j)) (baL (hf j))
abbrev snapD (x y : List Int) : Decidable (zb7 x y) := inferInstanceAs (Decidable (zas x = x ∧ zas y = y ∧ (zm x).length + (zm y).length ≤ 300))
abbrev lineD (a b c : ByteArray) (n : Nat) (tx hf : Nat → ByteArray) : Decidable (zcJ a b c n tx hf) := @instDecidableAnd _ _ _ (@instDecidableAnd _ _ (snapD _ _) (@instDecidableAnd _ _ (inferInstanceAs (Decidable (zas (baL c) = baL c ∧ (zm (baL c)).length ≤ 300))) (@Nat.decidableBallLT n _ (fun j _ => snapD (baL (tx j)) (baL (hf j))))))
theorem zmq (p : Prop) : ∃ b : Bool, b = true ↔ p := by
 by_cases h : p
 ·exact ⟨true, by simp [h]⟩
 ·exact ⟨false, by simp [h]⟩
theorem zla {ok : Bool} {p : Prop} (h : ok = true ↔ p) (hn : ¬ p) : ok = false := by
 cases hc : ok with
 | false => rfl
 | true => exact absurd (h.1 hc) hn
section
variable {P : Program} {w : World}
theorem zdT (t : TypeId) (b : Nat) (T : TypeId) (cs : Array Value) (z : Nat × Nat) (d : TypeDesc) (hg : w.heap[b]? = some (.cells cs T z)) (hu : P.underlying t = some d) (hd : (match d with | .struct _ | .array _ _ => true | _ => false) = true) (hi : (P.info? t).map (·.size) = some cs.size) :
  (Instr.loadAt t (.pointer (some ⟨b, 0, none⟩))).run P w = .ok (.agg cs) w := by
 simp only [Instr.loadAt, Instr.sureAddr, Sem.run_bind, Sem.run_pure, Result.andThen]
 exact run_loadVar_row w b T t cs z d hg hu hd hi
theorem zdM (t : TypeId) (b : Nat) (T : TypeId) (old cs : Array Value) (hg : w.heap[b]? = some (.cells old T (0, 0))) (hi : (P.info? t).map (·.size) = some cs.size) (ho : old.size = cs.size) (h1 : cs.all (·.oneCell') = true) :
  (Instr.storeAt t (.pointer (some ⟨b, 0, none⟩)) (.agg cs)).run P w = .ok () (w.setRow b cs) := by
 simp only [Instr.storeAt, Instr.sureAddr, Sem.run_bind, Sem.run_pure, Result.andThen]
 exact run_storeVar_row w b T t old cs hg hi ho h1
theorem zfY {o : Oper} {a : Act} {K : Act → World → Prop} {Q : Exit → Act → World → Prop} (t : TypeId) (s : Operand) (ho : o.op = .load t s) (b : Nat) (hs : a.eval s = .pointer (some ⟨b, 0, none⟩)) (T : TypeId) (cs : Array Value) (z : Nat × Nat) (d : TypeDesc)
  (hg : w.heap[b]? = some (.cells cs T z)) (hu : P.underlying t = some d) (hd : (match d with | .struct _ | .array _ _ => true | _ => false) = true) (hi : (P.info? t).map (·.size) = some cs.size) (h : K (a.put o.dst (.agg cs)) w) : o.wp P a w K Q := by
 have hr := zdT (P := P) (w := w) t b T cs z d hg hu hd hi
 unfold Oper.wp
 simp [execOp, ho, hs, hr, Result.andThen]
 exact h
theorem zl {ops : Array Oper} {rest : List Oper} {o : Oper} {a : Act} {Q : Exit → Act → World → Prop} (hgd : o.guard = none) (t : TypeId) (s : Operand) (ho : o.op = .load t s) (b : Nat) (hs : a.eval s = .pointer (some ⟨b, 0, none⟩)) (T : TypeId) (cs : Array Value) (z : Nat × Nat) (d : TypeDesc)
  (hg : w.heap[b]? = some (.cells cs T z)) (hu : P.underlying t = some d) (hd : (match d with | .struct _ | .array _ _ => true | _ => false) = true) (hi : (P.info? t).map (·.size) = some cs.size) (h : wpList P ops Q rest (a.put o.dst (.agg cs)) w) : wpList P ops Q (o :: rest) a w :=
 wpList_plain hgd fun _ hK => zfY t s ho b hs T cs z d hg hu hd hi (hK _ _ h)
theorem zc8 {ops : Array Oper} {o : Oper} {a : Act} {K : Act → World → Prop} {Q : Exit → Act → World → Prop} {E : Prop} (hgd : o.guard = none) (t : TypeId) (s : Operand) (ho : o.op = .load t s) (b : Nat) (hs : a.eval s = .pointer (some ⟨b, 0, none⟩)) (T : TypeId) (cs : Array Value) (z : Nat × Nat) (d : TypeDesc)
  (hg : w.heap[b]? = some (.cells cs T z)) (hu : P.underlying t = some d) (hd : (match d with | .struct _ | .array _ _ => true | _ => false) = true) (hi : (P.info? t).map (·.size) = some cs.size) (h : K (a.put o.dst (.agg cs)) w) :
  if Region.wanted o (yielded ops a.tmps) = true then Oper.wp P o a w K Q else E := by
 rw [if_pos (by simp [Region.wanted, hgd])]
 exact zfY t s ho b hs T cs z d hg hu hd hi h
theorem zad {a : Act} {o : Oper} (t : TypeId) (s : Operand) (ho : o.op = .load t s) (b : Nat) (hs : a.eval s = .pointer (some ⟨b, 0, none⟩)) (T : TypeId) (cs : Array Value) (z : Nat × Nat) (d : TypeDesc)
  (hg : w.heap[b]? = some (.cells cs T z)) (hu : P.underlying t = some d) (hd : (match d with | .struct _ | .array _ _ => true | _ => false) = true) (hi : (P.info? t).map (·.size) = some cs.size) : (execOp a.eval o).run P w = .ok (Next.value (.agg cs)) w := by
 have hr := zdT (P := P) (w := w) t b T cs z d hg hu hd hi
 simp [execOp, ho, hs, hr, Result.andThen]
theorem ziy (b : Nat) (cs : Array Value) : Fr (fun q => q = b) w (w.setRow b cs) := by
 refine ⟨rfl, rfl, rfl, by simp [World.setRow], fun i hi hn => ?_⟩
 simp only [World.setRow, Array.getElem?_modify]
 rw [if_neg (fun e => hn e.symm)]
theorem zhf {b : Nat} {old cs : Array Value} {T : TypeId} {z : Nat × Nat} (hg : w.heap[b]? = some (.cells old T z)) : (w.setRow b cs).heap[b]? = some (.cells cs T z) := by
 simp [World.setRow, Array.getElem?_modify, hg]
theorem zi {ops : Array Oper} {rest : List Oper} {o : Oper} {a : Act} {Q : Exit → Act → World → Prop} (hgd : o.guard = none) (t : TypeId) (s x : Operand) (ho : o.op = .store t s x) (hdst : o.dst = none) (b : Nat) (hs : a.eval s = .pointer (some ⟨b, 0, none⟩)) (T : TypeId) (old cs : Array Value) (hx : a.eval x = .agg cs)
  (hg : w.heap[b]? = some (.cells old T (0, 0))) (hi : (P.info? t).map (·.size) = some cs.size) (hso : old.size = cs.size) (h1 : cs.all (·.oneCell') = true)
  (h : ∀ w', w'.heap[b]? = some (.cells cs T (0, 0)) → Fr (fun q => q = b) w w' → wpList P ops Q rest a w') : wpList P ops Q (o :: rest) a w := by
 refine wpList_plain hgd fun _ hK => ?_
 have hr := zdM (P := P) (w := w) t b T old cs hg hi hso h1
 have hk := hK _ _ (h _ (zhf hg) (ziy b cs))
 unfold Oper.wp
 simp [execOp, ho, hs, hx, hr, Result.andThen]
 simp [Oper.upon]
 rw [hdst]
 exact hk
theorem ze {o : Oper} {a : Act} {K : Act → World → Prop} {Q : Exit → Act → World → Prop} (t : TypeId) (s x : Operand) (ho : o.op = .store t s x) (hdst : o.dst = none) (b : Nat) (hs : a.eval s = .pointer (some ⟨b, 0, none⟩)) (T : TypeId) (old cs : Array Value) (hx : a.eval x = .agg cs)
  (hg : w.heap[b]? = some (.cells old T (0, 0))) (hi : (P.info? t).map (·.size) = some cs.size) (hso : old.size = cs.size) (h1 : cs.all (·.oneCell') = true)
  (h : ∀ w', w'.heap[b]? = some (.cells cs T (0, 0)) → Fr (fun q => q = b) w w' → K a w') : o.wp P a w K Q := by
 have hr := zdM (P := P) (w := w) t b T old cs hg hi hso h1
 have hk := h _ (zhf hg) (ziy b cs)
 unfold Oper.wp
 simp [execOp, ho, hs, hx, hr, Result.andThen]
 simp [Oper.upon]
 rw [hdst]
 exact hk
end
end Go.Proofs.YtinfdhbnljnifaaGreatDoor
