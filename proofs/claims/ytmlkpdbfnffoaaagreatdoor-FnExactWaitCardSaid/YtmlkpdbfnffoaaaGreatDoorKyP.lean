import Derived.Test.YtmlkpdbfnffoaaaGreatDoorHisC
import Derived.Test.YtmlkpdbfnffoaaaGreatDoorBlkOk
import Derived.Deep.CutRange
import Derived.Test.YtmlkpdbfnffoaaaGreatDoorEdIf
import Derived.Test.YtmlkpdbfnffoaaaGreatDoorSpecRedraw
namespace Go.Proofs.YtmlkpdbfnffoaaaGreatDoor
open Go.RowKit
theorem zeX {P : Program} {fn : Func} {R : Ending → World → Prop} {t t' : Array Value} (h : results fn t = results fn t') : ∀ (ds : List Deferred), Leaves P fn t R ds = Leaves P fn t' R ds
 | [] => by
  funext u w
  cases u <;> simp [Leaves, h]
 | d :: ds => by
  funext u w
  simp only [Leaves, zeX h ds]
theorem zlo : (Tryz.prog.info? 84).map (·.size) = some 5 := by kernel_rfl
theorem zdZ : (Tryz.prog.info? 86).map (·.size) = some 3 := by kernel_rfl
theorem zaQ {R : Ending → World → Prop} {K : Act → World → Prop} {x : List PanicEntry} {a : Act} {w : World} {v : Value} {ds : Option Nat} (n : Nat) (hd : ds = some n) (hn : 6 ≤ n) (h : Exit.then K (bodyPostD Tryz.prog Tryz.f57 R) (.panic x) (a.put ds v) w) : Exit.then K (bodyPostD Tryz.prog Tryz.f57 R) (.panic x) a w := by
 subst hd
 have hr : results Tryz.f57 (a.put (some n) v).tmps = results Tryz.f57 a.tmps := by
  have h4 : (a.put (some n) v).tmps[4]? = a.tmps[4]? := by simp [Act.put, show n ≠ 4 by omega]
  have h5 : (a.put (some n) v).tmps[5]? = a.tmps[5]? := by simp [Act.put, show n ≠ 5 by omega]
  simp [results, Tryz.results57, h4, h5]
 have h2 : Leaves Tryz.prog Tryz.f57 (a.put (some n) v).tmps R a.defers (.panicking x) w := h
 rw [zeX hr] at h2
 exact h2
abbrev wrL (ob qb nb : Nat) : List Value := [.func (.func 149) #[] #[.pointer (some ⟨ob, 0, none⟩)], .func (.func 150) #[] #[.pointer (some ⟨nb, 0, none⟩)], .func (.func 151) #[] #[.pointer (some ⟨nb, 0, none⟩)], .func (.func 152) #[] #[.pointer (some ⟨qb, 0, none⟩)], .func (.func 153) #[] #[.pointer (some ⟨ob, 0, none⟩)]]
theorem WrS.frP {W W' : World} {B ob qb nb : Nat} {bs : List Int} {S : Nat → Prop} (h : WrS W B ob qb nb bs) (f : Fr S W W') (hS : ∀ g, S g → g ≠ ob ∧ g ≠ qb ∧ g ≠ nb ∧ g ≠ 3 ∧ g < B) : WrS W' B ob qb nb bs := by
 obtain ⟨v, hc, ho⟩ := h.out
 have hle := h.le
 have hb := h.ltb
 have hq := h.ltq
 have hn := h.ltn
 have hl := h.lo
 refine ⟨⟨v, ?_, f.owns ho (fun g hg e => ?_)⟩, ?_, ?_, ?_, h.neq, h.nen, h.lo, h.ltb, h.ltq, h.ltn, Nat.le_trans hle f.size, h.tab.keep (f.block _ (by omega) (fun e => (hS _ e).2.2.2.1 rfl))⟩
 ·rw [zbi (f.block _ (by omega) (fun e => (hS _ e).1 rfl))]; exact hc
 ·have h1 := (ho.lt g hg).1
  have h2 := (hS g e).2.2.2.2
  omega
 ·rw [zb9 (f.block _ (by omega) (fun e => (hS _ e).1 rfl))]; exact h.hf
 ·rw [zbi (f.block _ (by omega) (fun e => (hS _ e).2.1 rfl))]; exact h.q
 ·rw [zbi (f.block _ (by omega) (fun e => (hS _ e).2.2.1 rfl))]; exact h.nn
def SS.ln4 (s : SS) (o : LD) : SS := { s with la := o.a, lb := o.b, lc := o.c, un := o.un.length, ut := lnT o.un, uh := lnH o.un }
def SS.ed (s : SS) (k : List Int × Int) : LD := edF s.la s.lb s.lc (unL s.ut s.uh s.un) k.2 k.1
def SS.sm (s t : SS) : Bool := @decide (zf1 s.blk.n t.blk.n s.blk.tx t.blk.tx) (sameD s.blk.n t.blk.n s.blk.tx t.blk.tx)
theorem SS.sm_iff (s t : SS) : s.sm t = true ↔ zf1 s.blk.n t.blk.n s.blk.tx t.blk.tx := by unfold SS.sm; exact @decide_eq_true_iff _ (sameD _ _ _ _)
def SS.rd (s t : SS) : List Int := za8 s.blk.n (s.blk.R : Int) s.blk.C t.blk.n t.blk.tx (t.blk.R : Int) t.blk.C (s.sm t)
def SS.kyS (ks : List (List Int × Int)) (s : SS) : Nat → SS
 | 0 => s
 | i + 1 => (SS.kyS ks s i).ln4 ((SS.kyS ks s i).ed (cR ks i, cW ks i))
def SS.kyO (s : SS) (k : List Int × Int) : List Int := if (s.ed k).d = 2 then [7] else s.rd (s.ln4 (s.ed k))
def SS.kyB (ks : List (List Int × Int)) (s : SS) : Nat → List Int
 | 0 => []
 | i + 1 => SS.kyB ks s i ++ (SS.kyS ks s i).kyO (cR ks i, cW ks i)
structure SS.Like (s t : SS) : Prop where
 pr : t.pr = s.pr
 cols : t.cols = s.cols
 rows : t.rows = s.rows
 kh : t.kh = s.kh
 kp : t.kp = s.kp
 nav : t.nav = s.nav
 pn : t.pn = s.pn
 pt : t.pt = s.pt
 at9 : t.at9 = s.at9
 dr : t.dr = s.dr
 st : t.st = s.st
 qn : t.qn = s.qn
 qt : t.qt = s.qt
 ln : t.ln = s.ln
 lt : t.lt = s.lt
 dn : t.dn = s.dn
 dt : t.dt = s.dt
theorem SS.like_refl (s : SS) : s.Like s := by constructor <;> rfl
theorem SS.Like.ln4 {s t : SS} (h : s.Like t) (o : LD) : s.Like (t.ln4 o) := by
 obtain ⟨h1, h2, h3, h4, h5, h6, h7, h8, h9, h10, h11, h12, h13, h14, h15, h16, h17⟩ := h
 constructor <;> assumption
theorem SS.kyS_like (ks : List (List Int × Int)) (s : SS) : ∀ i, s.Like (SS.kyS ks s i)
 | 0 => s.like_refl
 | i + 1 => (SS.kyS_like ks s i).ln4 _
def SS.LnP (s : SS) : Prop := zb8 s.la s.lb s.lc s.un s.ut s.uh
theorem SS.LnP.un {s : SS} (h : s.LnP) : zb8 s.la s.lb s.lc (unL s.ut s.uh s.un).length (lnT (unL s.ut s.uh s.un)) (lnH (unL s.ut s.uh s.un)) := by
 obtain ⟨h1, h2, h3, h4⟩ := h
 refine ⟨by rw [zca]; exact h1, h2, h3, fun j hj => ?_⟩
 rw [zca] at hj
 rw [zdQ (zcP s.ut s.uh hj), zd1 (zcP s.ut s.uh hj)]
 exact h4 j hj
theorem edF_few {a b c : ByteArray} {un : List (ByteArray × ByteArray)} (h : zb8 a b c un.length (lnT un) (lnH un)) (kd : Int) (hk : Few kd) (rs : List Int) : OkL (edF a b c un kd rs) := by
 rcases hk with rfl | rfl | rfl
 ·rw [show edF a b c un 1 rs = zej a b c un rs by simp [edF]]
  obtain ⟨_, ⟨_, sb, _⟩, _, _⟩ := id h
  unfold zej
  split
  ·exact h
  ·split
   ·exact h
   ·refine okSet h ?_
    have e := zkU (zco (zp (baL a) ++ rs)) (zmw (baL b)) (by rw [zbK sb]; omega)
    rwa [show zv (zac (zd (baL b))) = b by rw [show zac (zd (baL b)) = baL b from sb, zay]] at e
 ·exact h
 ·exact h
theorem SS.LnP.ed {s : SS} (h : s.LnP) (k : List Int × Int) (hk : Few k.2) : (s.ln4 (s.ed k)).LnP := edF_few h.un k.2 hk k.1
theorem SS.kyS_ln (ks : List (List Int × Int)) (s : SS) (h : s.LnP) (hf : ∀ j, j < ks.length → Few (cW ks j)) : ∀ i, i ≤ ks.length → (SS.kyS ks s i).LnP
 | 0, _ => h
 | i + 1, hi => (SS.kyS_ln ks s h hf i (by omega)).ed _ (hf i (by omega))
theorem zl9 (X : List (List Int × Int)) (a b : Nat) : (zaq ((X.take b).drop a)).length ≤ (zaq X).length := by
 have h1 := zlb X b
 have h2 := zlb (X.take b) a
 omega
theorem SS.blk_small (s : SS) (hp : zbT (baL s.pr)) (hn : (zp (baL s.pr)).length ≤ 40) (hl : s.LnP) (i : Nat) : (s.blk.tx i).size ≤ 1360 := by
 obtain ⟨_, ⟨sa, sb, nab⟩, _, _⟩ := hl
 show (zgb s.cs s.cols.toNat s.p0 s.rows.toNat i).size ≤ _
 unfold zgb zdm
 rw [zai]
 show (zac _).length ≤ _
 rw [zbu]
 refine Nat.le_trans (zhi _) ?_
 have h1 := zl9 s.cs (at0 (zcs s.cs s.cols.toNat s.p0 ++ [(s.cs.length : Int)]) (zb6 s.cs s.cols.toNat s.p0 s.rows.toNat + i)).toNat (at0 (zcs s.cs s.cols.toNat s.p0 ++ [(s.cs.length : Int)]) (zb6 s.cs s.cols.toNat s.p0 s.rows.toNat + i + 1)).toNat
 have h2 : (zaq s.cs).length ≤ 340 := by
  unfold SS.cs
  rw [zbV, zbV, zbK sa, zbK sb, zbK hp]
  simp only [List.length_append]
  omega
 omega
theorem SS.slen_small (s : SS) (hp : zbT (baL s.pr)) (hn : (zp (baL s.pr)).length ≤ 40) (hl : s.LnP) (hs : zbl s.cols s.rows = true) : za4 s.blk.tx s.blk.n ≤ 136000 := by
 have h1 := zhl s.blk.tx 1360 (s.blk_small hp hn hl) s.blk.n
 have h2 := (s.blk_lt hs).2
 have h3 : s.blk.n * 1360 ≤ 100 * 1360 := Nat.mul_le_mul_right _ h2
 omega
theorem SS.kyO_len (s : SS) (hp : zbT (baL s.pr)) (hn : (zp (baL s.pr)).length ≤ 40) (hl : s.LnP) (hs : zbl s.cols s.rows = true) (k : List Int × Int) (hk : Few k.2) : (s.kyO k).length ≤ 140000 := by
 unfold SS.kyO
 split
 ·simp
 ·have h1 := (s.ln4 (s.ed k)).slen_small hp hn (hl.ed k hk) hs
  have h2 := (s.blk_lt hs).2
  have h3 := ((s.ln4 (s.ed k)).blk_lt hs).2
  have h4 := zi4 s.blk.n (s.blk.R : Int) s.blk.C (s.ln4 (s.ed k)).blk.n (s.ln4 (s.ed k)).blk.tx ((s.ln4 (s.ed k)).blk.R : Int) (s.ln4 (s.ed k)).blk.C (s.sm (s.ln4 (s.ed k))) (by omega) (by omega)
  unfold SS.rd
  omega
theorem SS.kyB_len (ks : List (List Int × Int)) (s : SS) (hp : zbT (baL s.pr)) (hn : (zp (baL s.pr)).length ≤ 40) (hl : s.LnP) (hs : zbl s.cols s.rows = true) (hf : ∀ j, j < ks.length → Few (cW ks j)) : ∀ i, i ≤ ks.length → (SS.kyB ks s i).length ≤ i * 140000
 | 0, _ => by simp [SS.kyB]
 | i + 1, hi => by
  have h1 := SS.kyB_len ks s hp hn hl hs hf i (by omega)
  have L := SS.kyS_like ks s i
  have h2 := (SS.kyS ks s i).kyO_len (by rw [L.pr]; exact hp) (by rw [L.pr]; exact hn) (SS.kyS_ln ks s hl hf i (by omega)) (by rw [L.cols, L.rows]; exact hs) (cR ks i, cW ks i) (hf i (by omega))
  rw [SS.kyB, List.length_append, Nat.succ_mul]
  omega
theorem SS.blk_la {s t : SS} (h : s.Like t) (ha : t.la = s.la) (hb : t.lb = s.lb) : t.blk = s.blk := by
 unfold SS.blk SS.cs SS.p0
 rw [h.pr, h.cols, h.rows, ha, hb]
end Go.Proofs.YtmlkpdbfnffoaaaGreatDoor
