import Derived.Test.YtmlkpdbfnffoaaaGreatDoorWtW
set_option maxHeartbeats 16000000
set_option maxRecDepth 10000
set_option linter.unusedSimpArgs false
namespace Go.Proofs.YtmlkpdbfnffoaaaGreatDoor
open Go.RowKit
theorem zkn {X : Nat → Prop} {P B ob base sz : Nat} {T : TypeId} {W W' : World} {v : Value} {n : Nat} {xs : List Value} (h : W.ownsRow base T sz v n xs) (f : LF X P B ob W W') (hT : T ≠ 5) (hne : ∀ g, v.ownBlock = some g → g ≠ P ∧ g ≠ ob ∧ ¬ X g) : W'.ownsRow base T sz v n xs := by
 obtain ⟨h1, h2⟩ := h
 refine ⟨h1, ?_⟩
 rcases h2 with h2 | ⟨g, cap, cur, e, h3, h4, h5⟩
 ·exact .inl h2
 ·have h6 := hne g (by rw [e]; rfl)
  exact .inr ⟨g, cap, cur, e, h3, f.2 g _ _ _ h4 h6.1 h6.2.1 h6.2.2 hT, h5⟩
theorem zli {X : Nat → Prop} {P B ob base : Nat} {W W' : World} {v : Value} {n : Nat} {C D : Nat → Value} (h : zaR W base 132 v n C D) (f : LF X P B ob W W') (hne : ∀ g, v.ownBlock = some g → g ≠ P ∧ g ≠ ob ∧ ¬ X g) : zaR W' base 132 v n C D := by
 obtain ⟨ys, ho, hy⟩ := h
 exact ⟨ys, zkn ho f (by decide) hne, hy⟩
theorem zm3 {s : SS} {u h p q l d : Value} {t : List Value} (j : Nat) (v : Value) (hj : (#[.string s.la, .string s.lb, .string s.lc, u] : Array Value)[j]? = some v) : (lvC (ze s u h p q l d) t)[3 + j]? = some v := by
 match j, hj with
 | 0, hj => exact hj
 | 1, hj => exact hj
 | 2, hj => exact hj
 | 3, hj => exact hj
 | j + 4, hj => simp at hj
theorem zjH {s : SS} {u u' h p q l d : Value} {t : List Value} (o : LD) : (lvC (ze s u h p q l d) t).toList.take 3 ++ (#[.string o.a, .string o.b, .string o.c, u'] : Array Value).toList ++ (lvC (ze s u h p q l d) t).toList.drop (3 + (#[.string o.a, .string o.b, .string o.c, u'] : Array Value).size) = (lvC (ze (s.ln4 o) u' h p q l d) t).toList := by
 simp [lvC, ze, SS.ln4]
theorem zf0 {s : SS} {u h h' p q l d : Value} {t : List Value} (bs : List Int) (kp : Bool) : (lvC (ze s u h p q l d) t).toList.take 7 ++ (#[h', .bool kp] : Array Value).toList ++ (lvC (ze s u h p q l d) t).toList.drop (7 + (#[h', .bool kp] : Array Value).size) = (lvC (ze { s with kh := bs, kp := kp } u h' p q l d) t).toList := by
 simp [lvC, ze]
structure KyI (P B ob qb nb ub : Nat) (s t : SS) (u p q l d a0 a1 : Value) (ba : Option Addr) (bc : Nat) (bs : List Int) (W wr : World) : Prop where
 box : wr.heap[P]? = some (.cells (lvC (ze s u zcE p q l d) (lvK a0 a1 ob qb nb [.slice ba t.blk.n bc, .int .i64 (t.blk.R : Int), .int .i64 t.blk.C])) 88 (0, 0))
 un : zaR wr ub 132 u s.un (fun j => .string (s.ut j)) (fun j => .string (s.uh j))
 une : ∀ g, u.ownBlock = some g → g ≠ P ∧ g ≠ ob
 blk : zaD wr ub 9 (.slice ba t.blk.n bc) t.blk.n (fun j => .string (t.blk.tx j))
 ble : ∀ g, (Value.slice ba t.blk.n bc).ownBlock = some g → g ≠ P ∧ g ≠ ob
 out : WrS wr B ob qb nb bs
 fr : LF (fun _ => False) P B ob W wr
structure KyR (P B ob : Nat) (s : SS) (p q l d : Value) (W : World) : Prop where
 kh : s.kh = []
 pa : ∀ W', LF (fun _ => False) P B ob W W' → zah W' p s.pn (fun j => .string (s.pt j))
 qu : ∀ W', LF (fun _ => False) P B ob W W' → zah W' q s.qn (fun j => .string (s.qt j))
 lo : ∀ W', LF (fun _ => False) P B ob W W' → zah W' l s.ln (fun j => .string (s.lt j))
 dn : ∀ W', LF (fun _ => False) P B ob W W' → zah W' d s.dn (fun j => .string (s.dt j))
section
variable {P B ob qb nb ub : Nat} {s t : SS} {u p q l d a0 a1 : Value} {ba : Option Addr} {bc : Nat} {bs : List Int} {W wr w' : World}
theorem KyR.like (h : KyR P B ob s p q l d W) (L : s.Like t) : KyR P B ob t p q l d W := by
 obtain ⟨h1, h2, h3, h4, h5⟩ := h
 refine ⟨by rw [L.kh]; exact h1, ?_, ?_, ?_, ?_⟩
 ·rw [L.pn, L.pt]; exact h2
 ·rw [L.qn, L.qt]; exact h3
 ·rw [L.ln, L.lt]; exact h4
 ·rw [L.dn, L.dt]; exact h5
theorem KyI.ses (h : KyI P B ob qb nb ub s t u p q l d a0 a1 ba bc bs W wr) (r : KyR P B ob s p q l d W) : zbb wr s u zcE p q l d :=
 ⟨h.un.reads, by rw [r.kh]; exact ⟨none, 0, rfl, Nat.le_refl _, fun h => absurd h (by simp)⟩, r.pa _ h.fr, r.qu _ h.fr, r.lo _ h.fr, r.dn _ h.fr⟩
theorem KyI.ext (h : KyI P B ob qb nb ub s t u p q l d a0 a1 ba bc bs W wr) (E : Ext wr w') : KyI P B ob qb nb ub s t u p q l d a0 a1 ba bc bs W w' :=
 ⟨E.kept h.box, h.un.ext E, h.une, h.blk.ext E, h.ble, h.out.on E, h.fr.ext E⟩
theorem KyI.line (h : KyI P B ob qb nb ub s t u p q l d a0 a1 ba bc bs W wr) (hne : P ≠ ob ∧ P ≠ qb ∧ P ≠ nb ∧ P ≠ 3 ∧ P < B) (o : LD) (v : Value) (b : Nat) (hv : zaR wr b 132 v o.un.length (fun j => .string (lnT o.un j)) (fun j => .string (lnH o.un j))) (hb : ub ≤ b) (hvn : ∀ g, v.ownBlock = some g → g ≠ P ∧ g ≠ ob)
  (hc : w'.heap[P]? = some (.cells (lvC (ze (s.ln4 o) v zcE p q l d) (lvK a0 a1 ob qb nb [.slice ba t.blk.n bc, .int .i64 (t.blk.R : Int), .int .i64 t.blk.C])) 88 (0, 0))) (f : Fr (fun k => k = P) wr w') :
  KyI P B ob qb nb ub (s.ln4 o) t v p q l d a0 a1 ba bc bs W w' :=
 ⟨hc, (hv.mono hb).fr f (fun g hg e => (hvn g hg).1 e), hvn, h.blk.fr f (fun g hg e => (h.ble g hg).1 e), h.ble, h.out.frP f (fun g hg => by subst hg; exact hne), ⟨h.fr.1.tr (f.mono (fun k hk => .inl hk)), fun k c T z h1 h2 h3 h4 h5 => f.kept (h.fr.2 k c T z h1 h2 h3 h4 h5) (fun e => h2 e)⟩⟩
theorem KyI.bell (h : KyI P B ob qb nb ub s t u p q l d a0 a1 ba bc bs W wr) (hne : P ≠ ob) {bs' : List Int} (hw : WrS w' B ob qb nb bs') (f : WF B ob wr w') : KyI P B ob qb nb ub s t u p q l d a0 a1 ba bc bs' W w' := by
 have f9 : LF (fun _ => False) P B ob wr w' := (LF.refl _ _ _ _ _).wf f
 exact ⟨f.keep' h.box (fun e => hne e.symm) (by decide), zli h.un f9 (fun g hg => ⟨(h.une g hg).1, (h.une g hg).2, id⟩), h.une, zbM h.blk f9 (fun g hg => ⟨(h.ble g hg).1, (h.ble g hg).2, id⟩), h.ble, hw, h.fr.wf f⟩
theorem KyI.same (h : KyI P B ob qb nb ub s t u p q l d a0 a1 ba bc bs W wr) {t' : SS} (e : t'.blk = t.blk) : KyI P B ob qb nb ub s t' u p q l d a0 a1 ba bc bs W wr := by
 obtain ⟨h1, h2, h3, h4, h5, h6, h7⟩ := h
 rw [← e] at h1 h4 h5
 exact ⟨h1, h2, h3, h4, h5, h6, h7⟩
theorem KyI.drawn (h : KyI P B ob qb nb ub s t u p q l d a0 a1 ba bc bs W wr) {xa : Option Addr} {xc : Nat} {bs' : List Int} (hub : ub ≤ wr.heap.size) (hPw : P < wr.heap.size) (hob : ob < wr.heap.size)
  (hc : w'.heap[P]? = some (.cells (lvC (ze s u zcE p q l d) (lvK a0 a1 ob qb nb [.slice xa s.blk.n xc, .int .i64 (s.blk.R : Int), .int .i64 s.blk.C])) 88 (0, 0))) (hw : WrS w' B ob qb nb bs') (ho : zaD w' wr.heap.size 9 (.slice xa s.blk.n xc) s.blk.n (fun j => .string (s.blk.tx j))) (f : LF (fun _ => False) P B ob wr w') :
  KyI P B ob qb nb ub s s u p q l d a0 a1 xa xc bs' W w' :=
 ⟨hc, zli h.un f (fun g hg => ⟨(h.une g hg).1, (h.une g hg).2, id⟩), h.une, ho.mono hub, fun g hg => by have := (ho.lt g hg).1; exact ⟨by omega, by omega⟩, hw, h.fr.tr f⟩
end
theorem KyI.draw {P B ob qb nb ub : Nat} {s t : SS} {u p q l d a0 a1 : Value} {ba : Option Addr} {bc : Nat} {bs : List Int} {W wr : World} (h : KyI P B ob qb nb ub s t u p q l d a0 a1 ba bc bs W wr) (r : KyR P B ob s p q l d W) (hub : ub ≤ wr.heap.size) (hne : P ≠ ob ∧ P ≠ qb ∧ P ≠ nb ∧ P ≠ 3 ∧ P < B) (hT : zcB wr) (hbl : bs.length ≤ 1073700000)
  (hpr : s.pr.size ≤ 1048576) (hla : s.la.size ≤ 1048576) (hlb : s.lb.size ≤ 1048576) (hs : zbl s.cols s.rows = true) (ht : zbl t.cols t.rows = true) (hsl : za4 s.blk.tx s.blk.n ≤ 1048576) :
  Calls Tryz.prog 100 #[.pointer (some ⟨P, 0, none⟩)] wr fun e w' => e = .returned (.tuple #[]) ∧ ∃ xa xc, KyI P B ob qb nb ub s s u p q l d a0 a1 xa xc (bs ++ t.rd s) W w' := by
 have hPw : P < wr.heap.size := zt h.box
 have hob : ob < wr.heap.size := Nat.lt_of_lt_of_le h.out.ltb h.out.le
 have h100 := (t.blk_lt ht).2
 refine (znn P s u zcE p q l d a0 a1 B ob qb nb t.blk.n ub t.blk.tx (t.blk.R : Int) t.blk.C ba bc bs wr h.box (h.ses r) hpr hla hlb hs hT h.out hbl hne h.blk h.ble (t.blk_ok ht) (by omega) (t.sm s) (t.sm_iff s) hsl).mono ?_
 rintro e w' ⟨rfl, xa, xc, h1, h2, h3, h4⟩
 exact ⟨rfl, xa, xc, h.drawn hub hPw hob h1 h2 h3 h4⟩
theorem SS.ed_few (s : SS) (k : List Int × Int) (h : Few k.2) : (s.ed k).d = 0 ∨ (s.ed k).d = 1 ∨ (s.ed k).d = 2 ∧ (s.ed k).a = s.la ∧ (s.ed k).b = s.lb := by
 unfold SS.ed edF
 rcases h with h | h | h
 ·rw [if_pos (.inl h)]
  unfold zej
  split
  ·exact .inl rfl
  ·split
   ·exact .inr (.inr ⟨rfl, rfl, rfl⟩)
   ·exact .inr (.inl rfl)
 ·rw [h]; exact .inl rfl
 ·rw [h]; exact .inl rfl
theorem zdT (bs : List Int) (p : Bool) (j : Nat) (hj : j < (zaS bs p).length) : Few (cW (zaS bs p) j) ∧ zbv (cR (zaS bs p) j) := by
 unfold zaS at hj ⊢
 split at hj
 ·simp at hj
 ·rename_i h0
  rw [if_neg h0]
  split at hj
  ·rename_i h1
   rw [if_pos h1]
   split at hj
   ·rename_i h2
    rw [if_pos h2]
    have : j = 0 := by simp at hj; omega
    subst this
    exact ⟨.inr (.inl rfl), fun n hn => by simp [cR] at hn⟩
   ·rename_i h2
    rw [if_neg h2]
    have : j = 0 := by simp at hj; omega
    subst this
    exact ⟨.inr (.inr rfl), fun n hn => by simp [cR] at hn⟩
  ·rename_i h1
   rw [if_neg h1]
   have hj' : j < bs.length := by simpa using hj
   have e : (List.replicate bs.length (([65533] : List Int), (1 : Int)))[j]? = some ([65533], 1) := by simp [hj']
   refine ⟨.inl (by simp [cW, e]), fun n hn => ?_⟩
   simp [cR, e] at hn
   omega
theorem SS.LnP.sz {s : SS} (h : s.LnP) : s.la.size ≤ 1200 ∧ s.lb.size ≤ 1200 ∧ s.lc.size ≤ 1200 ∧ s.un ≤ 50 ∧ ∀ j, j < s.un → (s.ut j).size ≤ 1200 ∧ (s.uh j).size ≤ 1200 := by
 obtain ⟨h1, ⟨sa, sb, nab⟩, ⟨sc, nc⟩, h4⟩ := h
 have ka := zba sa
 have kb := zba sb
 have kc := zba sc
 rw [zar] at ka kb kc
 refine ⟨by omega, by omega, by omega, h1, fun j hj => ?_⟩
 obtain ⟨ta, tb, tn⟩ := h4 j hj
 have k1 := zba ta
 have k2 := zba tb
 rw [zar] at k1 k2
 exact ⟨by omega, by omega⟩
theorem kys_lf {X : Nat → Prop} {P B ob base : Nat} {W W' : World} {v : Value} {rs : List Value} {cs : List (List Int × Int)} (h : zan W base v rs cs) (f : LF X P B ob W W') (hP : P < base) (ho : ob < base) (hX : ∀ g, X g → g < base) : zan W' base v rs cs := by
 obtain ⟨h0, ⟨ys, h1, h2⟩, h3, h4⟩ := h
 have ne : ∀ {T : TypeId} {sz n : Nat} {x : Value} {zs : List Value}, W.ownsRow base T sz x n zs → ∀ g, x.ownBlock = some g → g ≠ P ∧ g ≠ ob ∧ ¬ X g := fun hx g hg => by
  have := (hx.lt g hg).1
  exact ⟨by omega, by omega, fun hg => by have := hX g hg; omega⟩
 exact ⟨h0, ⟨ys, zkn h1 f (by decide) (ne h1), h2⟩, fun j hj => zkn (h3 j hj) f (by decide) (ne (h3 j hj)), h4⟩
theorem KyI.own {P B ob qb nb ub : Nat} {s0 s t : SS} {u u' hh p q l d a0 a1 : Value} {ba : Option Addr} {bc : Nat} {bs : List Int} {W wr : World} (h : KyI P B ob qb nb ub s t u' p q l d a0 a1 ba bc bs W wr) (H : zax W ub s0 u hh p q l d) (hL : ({ s0 with kh := [], kp := s.kp } : SS).Like s) (hu : ∀ g, u'.ownBlock = some g → u.ownBlock = some g ∨ W.heap.size ≤ g) (hne : ∀ g, zab u hh p q l d g → g ≠ P ∧ g ≠ ob) :
  zax wr ub s u' zcE p q l d := by
 obtain ⟨⟨a1, a2, a3, a4, a5⟩, ⟨b2, b3, b4, b5⟩, ⟨c3, c4, c5⟩, ⟨d4, d5⟩, e5⟩ := pw6 H.ap
 have f : ∀ g, zab u hh p q l d g → g < W.heap.size := fun g hg => (H.foot hg).2
 have n0 : ∀ x, zav zcE x := fun x g hg => by simp [Value.ownBlock] at hg
 have k : ∀ {x : Value}, zav u x → (∀ g, x.ownBlock = some g → g < W.heap.size) → zav u' x := fun hx hb g h1 h2 => by
  rcases hu g h1 with h3 | h3
  ·exact hx g h3 h2
  ·have := hb g h2; omega
 have fp : ∀ g, p.ownBlock = some g → zab u hh p q l d g := fun g hg => .inr (.inr (.inl hg))
 have fq : ∀ g, q.ownBlock = some g → zab u hh p q l d g := fun g hg => .inr (.inr (.inr (.inl hg)))
 have fl : ∀ g, l.ownBlock = some g → zab u hh p q l d g := fun g hg => .inr (.inr (.inr (.inr (.inl hg))))
 have fd : ∀ g, d.ownBlock = some g → zab u hh p q l d g := fun g hg => .inr (.inr (.inr (.inr (.inr hg))))
 have ne : ∀ {x : Value}, (∀ g, x.ownBlock = some g → zab u hh p q l d g) → ∀ g, x.ownBlock = some g → g ≠ P ∧ g ≠ ob ∧ ¬ False := fun hx g hg => ⟨(hne g (hx g hg)).1, (hne g (hx g hg)).2, id⟩
 refine ⟨h.un, ?_, ?_, ?_, ?_, ?_, ?_⟩
 ·rw [hL.kh]; exact zbp wr ub _ 1
 ·rw [hL.pn, hL.pt]; exact zbM H.pa h.fr (ne fp)
 ·rw [hL.qn, hL.qt]; exact zbM H.qu h.fr (ne fq)
 ·rw [hL.ln, hL.lt]; exact zbM H.lo h.fr (ne fl)
 ·rw [hL.dn, hL.dt]; exact zbM H.dn h.fr (ne fd)
 ·have kp := k a2 (fun g hg => f g (fp g hg))
  have kq := k a3 (fun g hg => f g (fq g hg))
  have kl := k a4 (fun g hg => f g (fl g hg))
  have kd := k a5 (fun g hg => f g (fd g hg))
  have ku : zav u' zcE := fun g _ hg => by simp [Value.ownBlock] at hg
  simp only [List.pairwise_cons, List.mem_cons, List.not_mem_nil, or_false, forall_eq_or_imp, forall_eq, List.Pairwise.nil, and_true, false_implies, implies_true]
  exact ⟨⟨ku, kp, kq, kl, kd⟩, ⟨n0 _, n0 _, n0 _, n0 _⟩, ⟨c3, c4, c5⟩, ⟨d4, d5⟩, e5⟩
def SS.wtK (s : SS) : List (List Int × Int) := zaS s.kh s.kp
def SS.wt0 (s : SS) : SS := { s with kh := zaV s.kh s.kp }
def SS.wtS (s : SS) : SS := SS.kyS s.wtK s.wt0 s.wtK.length
def SS.wtB (s : SS) : List Int := SS.kyB s.wtK s.wt0 s.wtK.length
def zgK (s : SS) (cap : Int) (n : Nat) (tx : Nat → ByteArray) (s' : SS) (zs : List Int) (c : Int) : Prop :=
 (zcv s ∧ zbY cap n tx ∧ s.st = false ∧ s' = s.wtS ∧ zs = s.wtB ∧ c = 0) ∨ (zcv s ∧ zbY cap n tx ∧ s.st = true ∧ s' = s ∧ zs = [] ∧ c = 3) ∨ (¬ (zcv s ∧ zbY cap n tx) ∧ s' = s ∧ zs = [] ∧ c = 1)
theorem zlY {s s1 s2 : SS} {cap : Int} {n : Nat} {tx : Nat → ByteArray} {z1 z2 : List Int} {c1 c2 : Int} (h1 : zgK s cap n tx s1 z1 c1) (h2 : zgK s cap n tx s2 z2 c2) : s2 = s1 ∧ z2 = z1 ∧ c2 = c1 := by
 rcases h1 with ⟨k1, k2, k3, rfl, rfl, rfl⟩ | ⟨k1, k2, k3, rfl, rfl, rfl⟩ | ⟨k1, rfl, rfl, rfl⟩ <;> rcases h2 with ⟨k4, k5, k6, rfl, rfl, rfl⟩ | ⟨k4, k5, k6, rfl, rfl, rfl⟩ | ⟨k4, rfl, rfl, rfl⟩ <;> first | exact ⟨rfl, rfl, rfl⟩ | (rw [k3] at k6; cases k6) | exact absurd ⟨k1, k2⟩ k4 | exact absurd ⟨k4, k5⟩ k1
theorem zfG (bs : List Int) (p : Bool) : (zaS bs p).length ≤ bs.length := by
 unfold zaS
 split
 ·simp
 ·rename_i h
  have : bs.length ≠ 0 := fun e => h (.inr e)
  split
  ·split <;> simp <;> omega
  ·simp
theorem zhN (bs : List Int) (p : Bool) (j : Nat) : (cR (zaS bs p) j).length ≤ 1 := by
 unfold zaS cR
 split
 ·simp
 ·split
  ·split <;> (rcases j with _ | j <;> simp)
  ·rw [List.getElem?_replicate]
   split <;> simp
theorem zax.hold {w w' : World} {b : Nat} {s : SS} {u h p q l d h' : Value} (H : zax w b s u h p q l d) (E : Ext w w') (kh : List Int) (kp : Bool) (ho : w'.ownsRow w.heap.size 5 1 h' kh.length (kh.map (Value.int .u8))) (hb : b ≤ w.heap.size) : zax w' b { s with kh := kh, kp := kp } u h' p q l d := by
 obtain ⟨⟨a1, a2, a3, a4, a5⟩, _, cc, dd, ee⟩ := pw6 H.ap
 have f : ∀ g, zab u h p q l d g → g < w.heap.size := fun g hg => (H.foot hg).2
 have k : ∀ {x : Value}, (∀ g, x.ownBlock = some g → zab u h p q l d g) → zav h' x := fun hx g h1 h2 => by
  have h3 := (ho.lt g h1).1
  have h4 := f g (hx g h2)
  omega
 refine ⟨H.un.ext E, zas ho hb, H.pa.ext E, H.qu.ext E, H.lo.ext E, H.dn.ext E, ?_⟩
 simp only [List.pairwise_cons, List.mem_cons, List.not_mem_nil, or_false, forall_eq_or_imp, forall_eq, List.Pairwise.nil, and_true, false_implies, implies_true]
 exact ⟨⟨fun g h1 h2 => k (x := u) (fun g hg => .inl hg) g h2 h1, a2, a3, a4, a5⟩, ⟨k (fun g hg => .inr (.inr (.inl hg))), k (fun g hg => .inr (.inr (.inr (.inl hg)))), k (fun g hg => .inr (.inr (.inr (.inr (.inl hg))))), k (fun g hg => .inr (.inr (.inr (.inr (.inr hg)))))⟩, cc, dd, ee⟩
theorem zax.line {w w' : World} {b : Nat} {s : SS} {u h p q l d u' : Value} (H : zax w b s u h p q l d) (E : Ext w w') (o : LD) (ho : zaR w' w.heap.size 132 u' o.un.length (fun j => .string (lnT o.un j)) (fun j => .string (lnH o.un j))) (hb : b ≤ w.heap.size) : zax w' b (s.ln4 o) u' h p q l d := by
 obtain ⟨_, bb, cc, dd, ee⟩ := pw6 H.ap
 have f : ∀ g, zab u h p q l d g → g < w.heap.size := fun g hg => (H.foot hg).2
 have k : ∀ {x : Value}, (∀ g, x.ownBlock = some g → zab u h p q l d g) → zav u' x := fun hx g h1 h2 => by
  have h3 := (ho.lt g h1).1
  have h4 := f g (hx g h2)
  omega
 refine ⟨ho.mono hb, E.owns H.kh, H.pa.ext E, H.qu.ext E, H.lo.ext E, H.dn.ext E, ?_⟩
 simp only [List.pairwise_cons, List.mem_cons, List.not_mem_nil, or_false, forall_eq_or_imp, forall_eq, List.Pairwise.nil, and_true, false_implies, implies_true]
 exact ⟨⟨k (fun g hg => .inr (.inl hg)), k (fun g hg => .inr (.inr (.inl hg))), k (fun g hg => .inr (.inr (.inr (.inl hg)))), k (fun g hg => .inr (.inr (.inr (.inr (.inl hg))))), k (fun g hg => .inr (.inr (.inr (.inr (.inr hg)))))⟩, bb, cc, dd, ee⟩
theorem zmF (h : Value) (bs : List Int) (p : Bool) (base : Nat) (w : World) (ho : w.ownsRow base 5 1 h bs.length (bs.map (Value.int .u8))) (hB : zaj bs) (hl : bs.length ≤ 1048576) :
  Calls Tryz.prog 62 #[.agg #[h, .bool p]] w fun e w' => Ext w w' ∧ ((zaS bs p = [] ∧ ∃ ha hn hc ka kc, e = .returned (.tuple #[.agg #[.slice ha hn hc, .bool p], .slice ka 0 kc]) ∧ w'.ownsRow w.heap.size 5 1 (.slice ha hn hc) (zaV bs p).length ((zaV bs p).map (Value.int .u8)))
   ∨ (p = false ∧ zaV bs p = [] ∧ ∃ ka kc rs, e = .returned (.tuple #[.agg #[zcE, .bool false], .slice ka (zaS bs p).length kc]) ∧ zan w' w.heap.size (.slice ka (zaS bs p).length kc) rs (zaS bs p))) := by
 have hr := zaf ho
 have sl : ∀ {W : World} {b n sz : Nat} {T : TypeId} {v : Value} {xs : List Value}, W.ownsRow b T sz v n xs → ∃ a c, v = .slice a n c := fun hx => by
  rcases hx.2 with ⟨h1, h2⟩ | ⟨g, cap, cur, h1, _⟩
  ·exact ⟨none, 0, by rw [h1, h2]⟩
  ·exact ⟨_, _, h1⟩
 have fin : ∀ {e : Ending} {w' : World} {hv kv : Value}, zaS bs p = [] → e = .returned (.tuple #[.agg #[hv, .bool p], kv]) → w'.ownsRow w.heap.size 5 1 hv (zaV bs p).length ((zaV bs p).map (Value.int .u8)) → zan w' w.heap.size kv [] [] → Ext w w' → Ext w w' ∧ ((zaS bs p = [] ∧ ∃ ha hn hc ka kc, e = .returned (.tuple #[.agg #[.slice ha hn hc, .bool p], .slice ka 0 kc]) ∧ w'.ownsRow w.heap.size 5 1 (.slice ha hn hc) (zaV bs p).length ((zaV bs p).map (Value.int .u8))) ∨ (p = false ∧ zaV bs p = [] ∧ ∃ ka kc rs, e = .returned (.tuple #[.agg #[zcE, .bool false], .slice ka (zaS bs p).length kc]) ∧ zan w' w.heap.size (.slice ka (zaS bs p).length kc) rs (zaS bs p))) := fun h0 he h1 h2 E => by
  obtain ⟨ha, hc, rfl⟩ := sl h1
  obtain ⟨_, ⟨ys, h3, _⟩, _⟩ := h2
  obtain ⟨ka, kc, rfl⟩ := sl h3
  exact ⟨E, .inl ⟨h0, ha, _, hc, ka, kc, he, h1⟩⟩
 rcases ho.2 with ⟨rfl, h0⟩ | ⟨g, cap, cur, rfl, _⟩
 ·have e0 : bs = [] := List.eq_nil_of_length_eq_zero h0
  subst e0
  refine (ziM p w).mono ?_
  rintro e w' ⟨hv, kv, h1, h2, h3, h4⟩
  exact fin (by simp [zaS]) h1 (by cases p <;> simpa [zaV] using h2) h3 h4
 ·by_cases h0 : 0 < bs.length
  ·cases p
   ·refine (zhr g 0 cap bs w hr hB hl h0).mono ?_
    rintro e w' ⟨kv, rs, h1, h2, h3⟩
    obtain ⟨_, ⟨ys, h4, _⟩, _⟩ := id h2
    obtain ⟨ka, kc, rfl⟩ := sl h4
    exact ⟨h3, .inr ⟨rfl, by simp [zaV], ka, kc, rs, h1, h2⟩⟩
   ·refine (zhm g 0 cap bs w hr hl h0).mono ?_
    rintro e w' ⟨hv, kv, h1, h2, h3, h4⟩
    exact fin (by simp [zaS]) h1 (by simpa [zaV] using h2) (by simpa using h3) h4
  ·have e0 : bs = [] := List.eq_nil_of_length_eq_zero (by omega)
   subst e0
   refine (zhb g 0 cap p w).mono ?_
   rintro e w' ⟨hv, kv, h1, h2, h3, h4⟩
   exact fin (by simp [zaS]) h1 (by cases p <;> simpa [zaV] using h2) h3 h4
end Go.Proofs.YtmlkpdbfnffoaaaGreatDoor

namespace Go.Proofs.YtmlkpdbfnffoaaaGreatDoor
open Go.RowKit Go.Deep Go.Maps
theorem zlm : (Tryz.prog.info? 38).map (·.size) = some 2 := by kernel_rfl
theorem zfo : (Tryz.prog.info? 37).map (·.size) = some 4 := by kernel_rfl
theorem infoKy7 : (Tryz.prog.info? 102).map (·.size) = some 2 := by kernel_rfl
theorem zj8 (P B ob qb nb ub kb : Nat) (s0 s : SS) (u hh p q l d a0 a1 : Value) (ba : Option Addr) (bc : Nat) (ka : Option Addr) (kc : Nat) (rs : List Value) (ks : List (List Int × Int)) (W : World) (hsd : s = { s0 with kh := [], kp := false })
  (hP : W.heap[P]? = some (.cells (lvC (ze s0 u hh p q l d) (lvK a0 a1 ob qb nb [.slice ba s0.blk.n bc, .int .i64 (s0.blk.R : Int), .int .i64 s0.blk.C])) 88 (0, 0)))
  (hu : zaR W ub 132 u s.un (fun j => .string (s.ut j)) (fun j => .string (s.uh j))) (hune : ∀ g, u.ownBlock = some g → g ≠ P ∧ g ≠ ob) (hbl : zaD W ub 9 (.slice ba s.blk.n bc) s.blk.n (fun j => .string (s.blk.tx j))) (hble : ∀ g, (Value.slice ba s.blk.n bc).ownBlock = some g → g ≠ P ∧ g ≠ ob) (hW : WrS W B ob qb nb []) (hub : ub ≤ W.heap.size) (hne : P ≠ ob ∧ P ≠ qb ∧ P ≠ nb ∧ P ≠ 3 ∧ P < B)
  (hR : KyR P B ob s p q l d W) (hT : ∀ W', LF (fun _ => False) P B ob W W' → zbf W')
  (hK : zan W kb (.slice ka ks.length kc) rs ks) (hkP : P < kb) (hko : ob < kb) (hks : ks.length ≤ 2000) (hfew : ∀ j, j < ks.length → Few (cW ks j) ∧ zbv (cR ks j)) (hr1 : ∀ j, (cR ks j).length ≤ 1)
  (hln : s.LnP) (hp1 : zbT (baL s.pr)) (hp2 : (zp (baL s.pr)).length ≤ 40) (hs : zbl s.cols s.rows = true) :
  Calls Tryz.prog 61 #[.pointer (some ⟨P, 0, none⟩), .agg #[zcE, .bool false], .slice ka ks.length kc] W fun e w' => e = .returned (.tuple #[]) ∧ ∃ u' xa xc, KyI P B ob qb nb ub (SS.kyS ks s ks.length) (SS.kyS ks s ks.length) u' p q l d a0 a1 xa xc (SS.kyB ks s ks.length) W w' ∧ ∀ g, u'.ownBlock = some g → u.ownBlock = some g ∨ W.heap.size ≤ g := by
 have E0 : Ext W (W.alloc (.cells #[zcE, .bool false] 38)) := (Ext.refl _).alloc _
 have HP0 := zi (E0.kept hP)
 have hblk : s0.blk = s.blk := by rw [hsd]; rfl
 have HI0 : Hid (∀ Z, Z.heap[P]? = some (.cells (lvC (ze s u zcE p q l d) (lvK a0 a1 ob qb nb [.slice ba s0.blk.n bc, .int .i64 (s0.blk.R : Int), .int .i64 s0.blk.C])) 88 (0, 0)) → Fr (fun k => k = P) (W.alloc (.cells #[zcE, .bool false] 38)) Z → KyI P B ob qb nb ub s s u p q l d a0 a1 ba bc [] W Z) := zi (fun Z hy f => by
  rw [hblk] at hy
  exact ⟨hy, (hu.ext E0).fr f (fun g hg e => (hune g hg).1 e), hune, (hbl.ext E0).fr f (fun g hg e => (hble g hg).1 e), hble, (hW.on E0).frP f (fun g hg => by subst hg; exact hne), ⟨((LF.refl _ _ _ _ _).ext E0).1.tr (f.mono (fun k hk => .inl hk)), fun k c T z h1 h2 h3 h4 h5 => f.kept (E0.kept h1) (fun e => h2 e)⟩⟩)
 have hPW := zt hP
 have HSD := zi hsd
 have HR := zi hR
 have HT := zi hT
 have HK := zi hK
 have HFEW := zi hfew
 have HR1 := zi hr1
 have HLN := zi hln
 have HP1 := zi hp1
 have HNE := zi hne
 clear hP hu hune hbl hble hW hR hT hK hfew hr1 hln hp1 hsd hblk E0 hne
 generalize hSC : ze s0 u hh p q l d = SC at *
 have HST : Hid (∀ t : List Value, (lvC SC t).toList.take 7 ++ (#[zcE, .bool false] : Array Value).toList ++ (lvC SC t).toList.drop (7 + (#[zcE, .bool false] : Array Value).size) = (lvC (ze s u zcE p q l d) t).toList) := zi (fun t => by rw [← hSC, zg HSD]; exact zf0 [] false)
 have z17 : SC.size = 17 := by rw [← hSC]; rfl
 have HZ := zi z17
 clear z17 hSC
 go_enter Tryz.func61, Tryz.ntmps61
 go_wp2_with (refine zaO rfl 38 _ _ rfl rfl P 7 rfl 88 _ #[zcE, .bool false] _ rfl (zg HP0) zlm (by show 7 + 2 ≤ _; simp [lvC, zg HZ] <;> omega) (by simp [Value.oneCell']) ((zg HST) _) ?_; intro Z hy hf; have HI := zi ((zg HI0) Z hy hf); clear hy hf HI0 HP0 HST)
 go_wp2
 go_loopw [17] (fun i wr => ∃ (k : Nat) (v : Value) (xa : Option Addr) (xc : Nat), k ≤ ks.length ∧ i = .int .i64 k ∧ Hid (KyI P B ob qb nb ub (SS.kyS ks s k) (SS.kyS ks s k) v p q l d a0 a1 xa xc (SS.kyB ks s k) W wr) ∧ Hid (∀ g, v.ownBlock = some g → u.ownBlock = some g ∨ W.heap.size ≤ g)) (fun i _ => ks.length - (intOf i).toNat)
 case atStart => exact ⟨0, u, ba, bc, Nat.zero_le _, rfl, HI, zi (fun g hg => .inl hg)⟩
 case round =>
  obtain ⟨k, v, xa, xc, hk, rfl, HIk, HU⟩ := hrel
  clear HI
  by_cases hlt : k < ks.length
  ·obtain ⟨t, ht⟩ : ∃ t, t = SS.kyS ks s k := ⟨_, rfl⟩
   obtain ⟨bs, hbs⟩ : ∃ bs, bs = SS.kyB ks s k := ⟨_, rfl⟩
   have HLk : Hid (s.Like t) := zi (by rw [ht]; exact SS.kyS_like ks s k)
   have HLnk : Hid t.LnP := zi (by rw [ht]; exact SS.kyS_ln ks s (zg HLN) (fun j hj => ((zg HFEW) j hj).1) k hk)
   have hbl : bs.length ≤ 280000000 := by
    rw [hbs]
    have h1 := SS.kyB_len ks s (zg HP1) hp2 (zg HLN) hs (fun j hj => ((zg HFEW) j hj).1) k hk
    have h2 : k * 140000 ≤ 2000 * 140000 := Nat.mul_le_mul_right _ (by omega)
    omega
   have HN1 : Hid (SS.kyS ks s (k + 1) = t.ln4 (t.ed (cR ks k, cW ks k))) := zi (by rw [ht]; rfl)
   have HN2 : Hid (SS.kyB ks s (k + 1) = bs ++ t.kyO (cR ks k, cW ks k)) := zi (by rw [hbs, ht]; rfl)
   rw [← ht, ← hbs] at HIk
   clear ht hbs
   obtain ⟨rs', ao', cap', e', _, hri, hxx⟩ := (kys_lf (zg HK) (zg HIk).fr hkP hko (fun _ h => h.elim)).cls
   obtain ⟨rfl, _, rfl⟩ := Value.slice.inj e'
   obtain ⟨b, off, hao, hcell⟩ := hxx (by omega)
   subst hao
   obtain ⟨g1, g2⟩ := hcell k hlt
   have hik := hri k hlt
   obtain ⟨ra, rc, hrv, _⟩ := id hik
   rw [hrv] at g1 hik
   have HIN := zi hik
   clear hik hri hxx hcell e' hrv
   have bk : (k : Int) < (ks.length : Int) := by omega
   obtain ⟨V, hV⟩ : ∃ V, V = wr.alloc (.cells #[.int .i64 (cW ks k), .slice ra (cR ks k).length rc] 102) := ⟨_, rfl⟩
   have EV : Ext wr V := by rw [hV]; exact (Ext.refl _).alloc _
   have HBK : Hid (V.heap[wr.heap.size]? = some (.cells #[.int .i64 (cW ks k), .slice ra (cR ks k).length rc] 102 (0, 0))) := zi (by rw [hV]; exact zn _ _)
   have HV := zi hV
   have HEV := zi EV
   clear hV EV
   go_upto_region 5 with fail
   rw [← zg HV]
   clear HV g1 g2
   have hrow := (zg HIk).un.reads
   obtain ⟨va, vc, rfl, _⟩ := id hrow
   have hsz := (zg HLnk).sz
   obtain ⟨o, ho⟩ : ∃ o, o = t.ed (cR ks k, cW ks k) := ⟨_, rfl⟩
   have hcE := zi (fun U (E : Ext wr U) => zis t.la t.lb t.lc (.slice va t.un vc) t.un t.ut t.uh (cW ks k) (.slice ra (cR ks k).length rc) (cR ks k) U (hrow.ext E) (by omega) (by omega) (by omega) (by omega) (fun j hj => by have := hsz.2.2.2.2 j hj; omega) ((zg HT) U ((zg HIk).fr.ext E)) ((zg HIN).ext E) ((zg HFEW) k hlt).2 (by have := (zg HR1) k; omega) (zg HLnk) ((zg HFEW) k hlt).1)
   rw [show edF t.la t.lb t.lc (unL t.ut t.uh t.un) (cW ks k) (cR ks k) = o from ho.symm] at hcE
   have HO := zi ho
   clear ho hrow hsz HIN
   have HBX := zi ((zg HEV).kept (zg HIk).box)
   refine wp_region_held_drew (S := fun W => W.heap[P]? = some (.cells (lvC (ze t (.slice va t.un vc) zcE p q l d) (lvK a0 a1 ob qb nb [.slice xa t.blk.n xc, .int .i64 (t.blk.R : Int), .int .i64 t.blk.C])) 88 (0, 0)) ∧ W.heap[wr.heap.size]? = some (.cells #[.int .i64 (cW ks k), .slice ra (cR ks k).length rc] 102 (0, 0))) (by kernel_rfl) ⟨zg HBX, zg HBK⟩ (fun hHeld => ?_)
   refine wpAnyH_take (i := 0) (v := .pointer (some ⟨P, 0, none⟩)) rfl (by kernel_rfl) (by kernel_rfl) (by kernel_rfl) (fun _ _ _ h => h) (Or.inl ⟨by rfl, ?_⟩) (by assumption) ?_
   ·intro w' hSw; go_simp <;> with_reducible rfl
   simp only [Act.put, q9]
   refine wpAnyH_take (i := 1) (v := .pointer (some ⟨P, 0, none⟩)) rfl (by kernel_rfl) (by kernel_rfl) (by kernel_rfl) (fun _ _ _ h => h) (Or.inl ⟨by rfl, ?_⟩) (by assumption) ?_
   ·intro w' hSw; go_simp <;> with_reducible rfl
   simp only [Act.put, q9]
   refine wpAnyH_take (i := 2) (v := .pointer (some ⟨P, 0, none⟩)) rfl (by kernel_rfl) (by kernel_rfl) (by kernel_rfl) (fun _ _ _ h => h) (Or.inl ⟨by rfl, ?_⟩) (by assumption) ?_
   ·intro w' hSw; go_simp <;> with_reducible rfl
   simp only [Act.put, q9]
   refine wpAnyH_take (i := 3) (v := .pointer (some ⟨P, 3, none⟩)) rfl (by kernel_rfl) (by kernel_rfl) (by kernel_rfl) (fun _ _ _ h => h) (Or.inl ⟨by rfl, ?_⟩) (by assumption) ?_
   ·intro w' hSw; go_simp <;> with_reducible rfl
   simp only [Act.put, q9]
   refine tk 4 (.agg #[.string t.la, .string t.lb, .string t.lc, .slice va t.un vc]) rfl (by kernel_rfl) (fun _ _ _ h => h) (by rfl) ?_ (by assumption) ?_
   ·intro w' hSw; exact zaT 37 _ rfl P 3 rfl _ _ #[.string t.la, .string t.lb, .string t.lc, .slice va t.un vc] _ _ hSw.1 zm3 Tryz.underlying37 rfl zfo
   simp only [Act.put, q9]
   refine tk 5 (.agg #[.int .i64 (cW ks k), .slice ra (cR ks k).length rc]) rfl (by kernel_rfl) (fun _ _ _ h => h) (by rfl) ?_ (by assumption) ?_
   ·intro w' hSw; exact zae 102 _ rfl (wr.heap.size) rfl _ _ _ _ hSw.2 Tryz.underlying102 rfl infoKy7
   simp only [Act.put, q9]
   refine wpAnyH_ready (rs := [6, 10]) (by kernel_rfl) (by simp) ?_
   refine AllReadyH.cons rfl (fun K hK => ?gA) (AllReadyH.cons rfl (fun K hK => ?gB) AllReadyH.nil)
   case' gA =>
    go_simp
    refine ((zg hcE) _ ((zg HEV).trans ((Ext.refl V).drew))).mono ?_
    rintro e w2 ⟨⟨v2, rfl, o2⟩, E2⟩
    obtain ⟨va2, vc2, rfl, _⟩ := id o2.reads
    have E3 : Ext V w2 := ((Ext.refl V).drew).trans E2
    refine hK.out _ _ ⟨E3.kept (zg HBX), E3.kept (zg HBK)⟩ (fun hHeld => ?_)
    clear hK K
    refine wpAnyH_take (i := 7) (v := .tuple #[.agg #[.string o.a, .string o.b, .string o.c, .slice va2 o.un.length vc2], .int .i64 o.d]) rfl (by kernel_rfl) (by kernel_rfl) (by kernel_rfl) (fun _ _ _ h => h) (Or.inl ⟨by rfl, ?_⟩) (by assumption) ?_
    ·intro w' hSw; go_simp <;> with_reducible rfl
    simp only [Act.put, q9]
    refine tk 8 (.agg #[.string o.a, .string o.b, .string o.c, .slice va2 o.un.length vc2]) rfl (by kernel_rfl) (fun _ _ _ h => h) (by rfl) ?_ (by assumption) ?_
    ·intro w' hSw; go_simp <;> with_reducible rfl
    simp only [Act.put, q9]
    refine wpAnyH_take (i := 9) (v := .int .i64 o.d) rfl (by kernel_rfl) (by kernel_rfl) (by kernel_rfl) (fun _ _ _ h => h) (Or.inl ⟨by rfl, ?_⟩) (by assumption) ?_
    ·intro w' hSw; go_simp <;> with_reducible rfl
    simp only [Act.put, q9]
    have E4 : Ext w2 (w2.alloc (.cells zL4 37)) := (Ext.refl _).alloc _
    have b4 := zn w2 (.cells zL4 37)
    refine rdy 10 (by kernel_rfl) rfl (fun K hK => ?_)
    go_simp
    refine hK.out _ _ ⟨E4.kept (E3.kept (zg HBX)), E4.kept (E3.kept (zg HBK))⟩ (fun hHeld => ?_)
    clear hK K
    refine rdy 11 (by kernel_rfl) rfl (fun K hK => ?_)
    refine zad 37 _ _ rfl rfl (w2.heap.size) rfl _ _ #[.string o.a, .string o.b, .string o.c, .slice va2 o.un.length vc2] rfl b4 zfo rfl (by simp [Value.oneCell']) ?_
    intro Y hy fy
    have EY : Ext V Y := fy.ext (E3.trans E4) (fun q hq => by have := E3.size; omega)
    refine hK.out _ _ ⟨EY.kept (zg HBX), EY.kept (zg HBK)⟩ (fun hHeld => ?_)
    clear hK K
    refine wpAnyH_take (i := 12) (v := .int .i64 o.d) rfl (by kernel_rfl) (by kernel_rfl) (by kernel_rfl) (fun _ _ _ h => h) (Or.inl ⟨by rfl, ?_⟩) (by assumption) ?_
    ·intro w' hSw; go_simp <;> with_reducible rfl
    simp only [Act.put, q9]
    refine wpAnyH_done (by kernel_rfl) ?_ _
    have HLB := zi hy
    have HEY := zi EY
    have HO2 : Hid (zaR Y V.heap.size 132 (.slice va2 o.un.length vc2) o.un.length (fun j => .string (lnT o.un j)) (fun j => .string (lnH o.un j))) := zi ((o2.ext E4).fr fy (fun g hg e => by have := (o2.lt g hg).2; omega))
    clear hy EY o2 E2 E3 E4 b4 fy hHeld
    generalize w2.heap.size = L0 at *
   case' gB =>
    go_simp
    have E1 : Ext V (V.drew.alloc (.cells zL4 37)) := ((Ext.refl V).drew).alloc _
    have b4 := zn V.drew (.cells zL4 37)
    refine hK.out _ _ ⟨E1.kept (zg HBX), E1.kept (zg HBK)⟩ (fun hHeld => ?_)
    clear hK K
    refine rdy 6 (by kernel_rfl) rfl (fun K hK => ?_)
    go_simp
    refine ((zg hcE) _ ((zg HEV).trans E1)).mono ?_
    rintro e w2 ⟨⟨v2, rfl, o2⟩, E2⟩
    obtain ⟨va2, vc2, rfl, _⟩ := id o2.reads
    have E3 : Ext V w2 := E1.trans E2
    refine hK.out _ _ ⟨E3.kept (zg HBX), E3.kept (zg HBK)⟩ (fun hHeld => ?_)
    clear hK K
    refine wpAnyH_take (i := 7) (v := .tuple #[.agg #[.string o.a, .string o.b, .string o.c, .slice va2 o.un.length vc2], .int .i64 o.d]) rfl (by kernel_rfl) (by kernel_rfl) (by kernel_rfl) (fun _ _ _ h => h) (Or.inl ⟨by rfl, ?_⟩) (by assumption) ?_
    ·intro w' hSw; go_simp <;> with_reducible rfl
    simp only [Act.put, q9]
    refine tk 8 (.agg #[.string o.a, .string o.b, .string o.c, .slice va2 o.un.length vc2]) rfl (by kernel_rfl) (fun _ _ _ h => h) (by rfl) ?_ (by assumption) ?_
    ·intro w' hSw; go_simp <;> with_reducible rfl
    simp only [Act.put, q9]
    refine wpAnyH_take (i := 9) (v := .int .i64 o.d) rfl (by kernel_rfl) (by kernel_rfl) (by kernel_rfl) (fun _ _ _ h => h) (Or.inl ⟨by rfl, ?_⟩) (by assumption) ?_
    ·intro w' hSw; go_simp <;> with_reducible rfl
    simp only [Act.put, q9]
    refine rdy 11 (by kernel_rfl) rfl (fun K hK => ?_)
    refine zad 37 _ _ rfl rfl (V.heap.size) rfl _ _ #[.string o.a, .string o.b, .string o.c, .slice va2 o.un.length vc2] rfl (E2.kept b4) zfo rfl (by simp [Value.oneCell']) ?_
    intro Y hy fy
    have EY : Ext V Y := fy.ext E3 (fun q hq => by omega)
    refine hK.out _ _ ⟨EY.kept (zg HBX), EY.kept (zg HBK)⟩ (fun hHeld => ?_)
    clear hK K
    refine wpAnyH_take (i := 12) (v := .int .i64 o.d) rfl (by kernel_rfl) (by kernel_rfl) (by kernel_rfl) (fun _ _ _ h => h) (Or.inl ⟨by rfl, ?_⟩) (by assumption) ?_
    ·intro w' hSw; go_simp <;> with_reducible rfl
    simp only [Act.put, q9]
    refine wpAnyH_done (by kernel_rfl) ?_ _
    have HLB := zi hy
    have HEY := zi EY
    have z9 : (V.drew.alloc (.cells zL4 37)).heap.size = V.heap.size + 1 := by simp
    have o3 : zaR w2 (V.heap.size + 1) _ _ _ _ _ := o2.mono (Nat.le_of_eq z9.symm)
    have HO2 : Hid (zaR Y V.heap.size 132 (.slice va2 o.un.length vc2) o.un.length (fun j => .string (lnT o.un j)) (fun j => .string (lnH o.un j))) := zi ((o3.mono (by omega)).fr fy (fun g hg e => by have := (o3.lt g hg).1; omega))
    clear hy EY o2 o3 E2 E3 E1 b4 fy hHeld z9
    obtain ⟨L0, hL0⟩ : ∃ L0, L0 = V.heap.size := ⟨_, rfl⟩
    rw [← hL0] at HLB
    rw [← hL0]
    clear hL0
   all_goals
    obtain ⟨c, hc⟩ : ∃ c : Bool, c = (o.d != 2) := ⟨_, rfl⟩
    have HPO : Hid (P < wr.heap.size ∧ ob < wr.heap.size ∧ wr.heap.size ≤ V.heap.size ∧ W.heap.size ≤ wr.heap.size) := zi ⟨zt (zg HIk).box, Nat.lt_of_lt_of_le (zg HIk).out.ltb (zg HIk).out.le, (zg HEV).size, (zg HIk).fr.1.size⟩
    have HU2 : Hid (∀ g, (Value.slice va2 o.un.length vc2).ownBlock = some g → V.heap.size ≤ g) := zi (fun g hg => ((zg HO2).lt g hg).1)
    have HJ0 : Hid (∀ Z, Z.heap[P]? = some (.cells (lvC (ze (t.ln4 o) (.slice va2 o.un.length vc2) zcE p q l d) (lvK a0 a1 ob qb nb [.slice xa t.blk.n xc, .int .i64 (t.blk.R : Int), .int .i64 t.blk.C])) 88 (0, 0)) → Fr (fun k => k = P) Y Z → KyI P B ob qb nb ub (t.ln4 o) t (.slice va2 o.un.length vc2) p q l d a0 a1 xa xc bs W Z) := zi (fun Z hy hf => ((zg HIk).ext ((zg HEV).trans (zg HEY))).line (zg HNE) o _ V.heap.size (zg HO2) (by have := (zg HPO).2.2; omega) (fun g hg => by have h1 := (zg HU2) g hg; have := (zg HPO); exact ⟨by omega, by omega⟩) hy hf)
    have HBY := zi ((zg HEY).kept (zg HBX))
    have HST : Hid (∀ x : List Value, (lvC (ze t (.slice va t.un vc) zcE p q l d) x).toList.take 3 ++ (#[.string o.a, .string o.b, .string o.c, .slice va2 o.un.length vc2] : Array Value).toList ++ (lvC (ze t (.slice va t.un vc) zcE p q l d) x).toList.drop (3 + (#[.string o.a, .string o.b, .string o.c, .slice va2 o.un.length vc2] : Array Value).size) = (lvC (ze (t.ln4 o) (.slice va2 o.un.length vc2) zcE p q l d) x).toList) := zi (fun x => zjH o)
    have HF3 : Hid ((o.d = 0 ∨ o.d = 1 ∨ o.d = 2) ∧ (o.d = 2 → o.a = t.la ∧ o.b = t.lb)) := zi (by
     have h9 := t.ed_few (cR ks k, cW ks k) ((zg HFEW) k hlt).1
     rw [← zg HO] at h9
     rcases h9 with h | h | ⟨h, h1, h2⟩
     ·exact ⟨.inl h, fun e => by omega⟩
     ·exact ⟨.inr (.inl h), fun e => by omega⟩
     ·exact ⟨.inr (.inr h), fun _ => ⟨h1, h2⟩⟩)
    have hcF := zi (fun U => zke (.pointer (some ⟨P, 0, none⟩)) o.d (zg HF3).1 U)
    rw [← hc] at hcF
    clear HO2 HEY HBX HBK hcE
    go_wp2_with (first
     | (refine zm rfl 37 _ rfl L0 rfl _ _ _ _ (zg HLB) Tryz.underlying37 rfl zfo ?_)
     | (refine zaO rfl 37 _ _ rfl rfl P 3 rfl 88 _ #[.string o.a, .string o.b, .string o.c, .slice va2 o.un.length vc2] _ rfl (zg HBY) zfo (by show 3 + 4 ≤ _; simp [lvC, ze]) (by simp [Value.oneCell']) ((zg HST) _) ?_; intro Z hy hf; have HJ := zi ((zg HJ0) Z hy hf); clear hy hf HJ0 HBY HST HLB))
    refine ((zg hcF) _).mono ?_
    rintro e w9 ⟨rfl, rfl⟩
    have HL2 : Hid (t.ln4 o).LnP := zi (by rw [zg HO]; exact (zg HLnk).ed _ ((zg HFEW) k hlt).1)
    have HLL : Hid (s.Like (t.ln4 o)) := zi ((zg HLk).ln4 o)
    have HOW : Hid (∀ g, (Value.slice va2 o.un.length vc2).ownBlock = some g → u.ownBlock = some g ∨ W.heap.size ≤ g) := zi (fun g hg => .inr (by have h1 := (zg HU2) g hg; have := (zg HPO); omega))
    have HKO : Hid (t.kyO (cR ks k, cW ks k) = if o.d = 2 then [7] else t.rd (t.ln4 o)) := zi (by unfold SS.kyO; rw [← zg HO])
    rw [← zg HO] at HN1
    rw [zg HKO] at HN2
    have HAB := zi (zg HF3).2
    clear HKO HO HIk HF3 hcF HEV HK
    cases c
    ·have hd : o.d = 2 := by simpa using hc.symm
     have HB := zi (SS.blk_la (t := t.ln4 o) ((SS.like_refl t).ln4 o) ((zg HAB) hd).1 ((zg HAB) hd).2)
     have k21 : w9.cell? ⟨P, 21, none⟩ = some (.func (.func 149) #[] #[.pointer (some ⟨ob, 0, none⟩)]) := by rw [cell_of_row w9 P 21 _ _ _ (zg HJ).box]; exact zm5 rfl 0 _ rfl
     have hcX := zi (ze5 [7] (fun x hx => by simp at hx; omega) B ob qb nb bs w9 (zg HJ).out (by simp; omega))
     rw [show zv [7] = { data := #[7] } from rfl] at hcX
     rw [if_pos hd] at HN2
     clear hc hd
     go_wp2_with fail
     refine (zg hcX).mono ?_
     rintro e w6 ⟨rfl, hS6, hF6⟩
     have HE := zi (((zg HJ).bell (zg HNE).1 hS6 hF6).same (zg HB))
     clear hS6 hF6 HJ k21 hcX
     go_wp2
     go_roundw
     case rel => exact ⟨k + 1, _, xa, xc, by omega, by go_num, zi (by rw [zg HN1, zg HN2]; exact zg HE), HOW⟩
     case measure => simp [intOf]; omega
    ·have hd : ¬ o.d = 2 := by simpa using hc.symm
     rw [if_neg hd] at HN2
     clear hc hd
     have hsz := (zg HL2).sz
     have hps := zba (zg HP1)
     rw [zar] at hps
     have hcD := zi ((zg HJ).draw ((zg HR).like (zg HLL)) (by have := (zg HJ).fr.1.size; omega) (zg HNE) ((zg HT) w9 (zg HJ).fr).1 (by omega) (by rw [(zg HLL).pr]; omega) (by omega) (by omega) (by rw [(zg HLL).cols, (zg HLL).rows]; exact hs) (by rw [(zg HLk).cols, (zg HLk).rows]; exact hs) (by have := (t.ln4 o).slen_small (by rw [(zg HLL).pr]; exact zg HP1) (by rw [(zg HLL).pr]; exact hp2) (zg HL2) (by rw [(zg HLL).cols, (zg HLL).rows]; exact hs); omega))
     clear hsz hps HJ
     go_wp2_with fail
     refine (zg hcD).mono ?_
     rintro e w6 ⟨rfl, ya, yc, hI6⟩
     have HE := zi hI6
     clear hI6 hcD
     go_wp2
     go_roundw
     case rel => exact ⟨k + 1, _, ya, yc, by omega, by go_num, zi (by rw [zg HN1, zg HN2]; exact zg HE), HOW⟩
     case measure => simp [intOf]; omega
  ·have e : k = ks.length := by omega
   subst e
   clear HK
   go_wp2
   exact bodyPost_end (v := .tuple #[]) (by simp [results, Tryz.results61, go_sem]) rfl ⟨rfl, v, xa, xc, zg HIk, zg HU⟩
theorem infoKR8 : (Tryz.prog.info? 38).map (·.size) = some 2 := by kernel_rfl
theorem zkL (P : Nat) (s0 : SS) (u hh p q l d : Value) (t : List Value) (ha : Option Addr) (hn hc : Nat) (kp : Bool) (kh : List Int) (ka : Option Addr) (kc : Nat) (W : World)
  (hP : W.heap[P]? = some (.cells (lvC (ze s0 u hh p q l d) t) 88 (0, 0))) :
  Calls Tryz.prog 61 #[.pointer (some ⟨P, 0, none⟩), .agg #[.slice ha hn hc, .bool kp], .slice ka 0 kc] W fun e w' => e = .returned (.tuple #[]) ∧ w'.heap[P]? = some (.cells (lvC (ze { s0 with kh := kh, kp := kp } u (.slice ha hn hc) p q l d) t) 88 (0, 0)) ∧ ∃ X, Ext W X ∧ Fr (fun k => k = P) X w' := by
 have E0 : Ext W (W.alloc (.cells #[.slice ha hn hc, .bool kp] 38)) := (Ext.refl _).alloc _
 have HP0 := zi (E0.kept hP)
 have hPW := zt hP
 have HE0 := zi E0
 clear hP E0
 have HST : Hid ((lvC (ze s0 u hh p q l d) t).toList.take 7 ++ (#[.slice ha hn hc, .bool kp] : Array Value).toList ++ (lvC (ze s0 u hh p q l d) t).toList.drop (7 + (#[.slice ha hn hc, .bool kp] : Array Value).size) = (lvC (ze { s0 with kh := kh, kp := kp } u (.slice ha hn hc) p q l d) t).toList) := zi (zf0 kh kp)
 have HZ : Hid (7 + 2 ≤ (lvC (ze s0 u hh p q l d) t).size) := zi (by simp [lvC, ze] <;> omega)
 go_enter Tryz.func61, Tryz.ntmps61
 go_wp2_with (refine zaO rfl 38 _ _ rfl rfl P 7 rfl 88 _ #[.slice ha hn hc, .bool kp] _ rfl (zg HP0) infoKR8 (zg HZ) (by simp [Value.oneCell']) (zg HST) ?_; intro Z hy hf; have HY := zi hy; have HF := zi hf; clear hy hf HP0 HST HZ)
 go_wp2
 go_loopw [17] (fun i wr => i = .int .i64 0 ∧ wr = Z) (fun _ _ => 0)
 case atStart => exact ⟨rfl, rfl⟩
 case round =>
  obtain ⟨rfl, rfl⟩ := hrel
  go_wp2
  exact bodyPost_end (v := .tuple #[]) (by simp [results, Tryz.results61, go_sem]) rfl ⟨rfl, zg HY, _, zg HE0, zg HF⟩
end Go.Proofs.YtmlkpdbfnffoaaaGreatDoor

namespace Go.Proofs.YtmlkpdbfnffoaaaGreatDoor
open Go.RowKit
def WaitW (P B ob qb nb base : Nat) (a0 a1 : Value) (s : SS) (u h p q l d : Value) (W w' : World) : Prop :=
 ∃ u' h' t, w'.heap[P]? = some (.cells (lvC (ze s.wtS u' h' p q l d) (lvK a0 a1 ob qb nb t)) 88 (0, 0)) ∧ WrS w' B ob qb nb s.wtB ∧ zax w' base s.wtS u' h' p q l d ∧ (∀ g, zab u' h' p q l d g → zab u h p q l d g ∨ W.heap.size ≤ g) ∧ LF (fun _ => False) P B ob W w' ∧ ∀ v, w'.cell? ⟨ob, 0, none⟩ = some v → ∀ g, h'.ownBlock = some g → v.ownBlock ≠ some g
theorem zlL (P B ob qb nb base : Nat) (s : SS) (u h p q l d a0 a1 : Value) (bva : Option Addr) (bvc : Nat) (W V : World) (hV : Ext W V)
  (hP : W.heap[P]? = some (.cells (lvC (ze s u h p q l d) (lvK a0 a1 ob qb nb [.slice bva s.blk.n bvc, .int .i64 (s.blk.R : Int), .int .i64 s.blk.C])) 88 (0, 0)))
  (hO : zax W base s u h p q l d) (hok : zcv s) (hBy : zaj s.kh) (hW : WrS W B ob qb nb []) (hb : zaD W B 9 (.slice bva s.blk.n bvc) s.blk.n (fun j => .string (s.blk.tx j)))
  (hne : P ≠ ob ∧ P ≠ qb ∧ P ≠ nb ∧ P ≠ 3 ∧ P < B) (hft : ∀ g, zab u h p q l d g → g ≠ P ∧ g ≠ ob) (hbB : base ≤ B) (hT : ∀ W', LF (fun _ => False) P B ob W W' → zbf W') :
  Calls Tryz.prog 62 #[.agg #[h, .bool s.kp]] V fun e w' => Ext V w' ∧ ∃ xa xn xc kp ka kn kc, e = .returned (.tuple #[.agg #[.slice xa xn xc, .bool kp], .slice ka kn kc]) ∧ Calls Tryz.prog 61 #[.pointer (some ⟨P, 0, none⟩), .agg #[.slice xa xn xc, .bool kp], .slice ka kn kc] w' fun e w2 => e = .returned (.tuple #[]) ∧ WaitW P B ob qb nb base a0 a1 s u h p q l d W w2 := by
 have hB2 : B ≤ W.heap.size := hW.le
 have hbW : base ≤ W.heap.size := by omega
 have hPW : P < W.heap.size := zt hP
 have hoB := hW.ltb
 have hVs := hV.size
 refine (zmF h s.kh s.kp base V (hV.owns hO.kh) hBy (by have := hok.2.2.2.1; omega)).mono ?_
 rintro e w' ⟨E, ⟨h0, xa, xn, xc, ka, kc, rfl, ho⟩ | ⟨hp, h0, ka, kc, rs, rfl, hk⟩⟩
 ·have EW := hV.trans E
  refine ⟨E, xa, xn, xc, s.kp, ka, 0, kc, rfl, ?_⟩
  refine (zkL P s u h p q l d _ xa xn xc s.kp (zaV s.kh s.kp) ka kc w' (EW.kept hP)).mono ?_
  rintro e w2 ⟨rfl, hb2, X, EX, FX⟩
  have E2 := EW.trans EX
  have e1 : s.wtS = s.wt0 := by unfold SS.wtS SS.wtK; rw [h0]; rfl
  have e2 : s.wtB = [] := by unfold SS.wtB SS.wtK; rw [h0]; rfl
  have hx := (hO.ext hV).hold (E.trans EX) (zaV s.kh s.kp) s.kp (EX.owns ho) (by omega)
  have hf2 : ∀ g, zab u (.slice xa xn xc) p q l d g → zab u h p q l d g ∨ W.heap.size ≤ g := fun g hg => by
   rcases hg with hg | hg | hg | hg | hg | hg
   ·exact .inl (.inl hg)
   ·have := (ho.lt g hg).1; exact .inr (by omega)
   ·exact .inl (.inr (.inr (.inl hg)))
   ·exact .inl (.inr (.inr (.inr (.inl hg))))
   ·exact .inl (.inr (.inr (.inr (.inr (.inl hg)))))
   ·exact .inl (.inr (.inr (.inr (.inr (.inr hg)))))
  refine ⟨rfl, u, .slice xa xn xc, _, by rw [e1]; exact hb2, by rw [e2]; exact (hW.on E2).frP FX (fun g hg => by subst hg; exact hne), by rw [e1]; exact hx.fr FX (fun g hg e => by subst e; rcases hf2 g hg with h9 | h9; exact (hft g h9).1 rfl; omega), hf2, ⟨((LF.refl _ _ _ _ _).ext E2).1.tr (FX.mono (fun k hk => .inl hk)), fun k c T z h1 h2 h3 h4 h5 => FX.kept (E2.kept h1) (fun e => h2 e)⟩, fun v hv g hg e9 => ?_⟩
  obtain ⟨v0, hc0, ho0⟩ := hW.out
  have hc1 := (World.cell?_of_block (a := ⟨ob, 0, none⟩) (FX.block ob (by have := E2.size; omega) (fun e => hne.1 e.symm))).trans (E2.cell hc0)
  rw [hv] at hc1
  injection hc1 with hc1
  subst hc1
  have h1 := (ho0.lt g e9).2
  have h2 := (ho.lt g hg).1
  omega
 ·have EW := hV.trans E
  have LW : LF (fun _ => False) P B ob W w' := (LF.refl _ _ _ _ _).ext EW
  have e0 : s.wt0 = { s with kh := [], kp := false } := by
   have : s.wt0 = { s with kh := zaV s.kh s.kp, kp := s.kp } := rfl
   rw [this, h0, hp]
  obtain ⟨s1, hs1⟩ : ∃ s1 : SS, s1 = { s with kh := [], kp := false } := ⟨_, rfl⟩
  have eS : s.wtS = SS.kyS s.wtK s1 s.wtK.length := by unfold SS.wtS; rw [e0, hs1]
  have eB : s.wtB = SS.kyB s.wtK s1 s.wtK.length := by unfold SS.wtB; rw [e0, hs1]
  have eb : s1.blk = s.blk := by rw [hs1]; rfl
  have OW := hO.ext EW
  have ff : ∀ g, zab u h p q l d g → g ≠ P ∧ g ≠ ob ∧ ¬ False := fun g hg => ⟨(hft g hg).1, (hft g hg).2, id⟩
  have hR : KyR P B ob s1 p q l d w' := by
   rw [hs1]
   exact ⟨rfl, fun W' f => (zbM OW.pa f (fun g hg => ff g (.inr (.inr (.inl hg))))).reads, fun W' f => (zbM OW.qu f (fun g hg => ff g (.inr (.inr (.inr (.inl hg)))))).reads, fun W' f => (zbM OW.lo f (fun g hg => ff g (.inr (.inr (.inr (.inr (.inl hg))))))).reads, fun W' f => (zbM OW.dn f (fun g hg => ff g (.inr (.inr (.inr (.inr (.inr hg))))))).reads⟩
  have hln : s1.LnP := by rw [hs1]; exact hok.2.2.1
  refine ⟨E, none, 0, 0, false, ka, (zaS s.kh s.kp).length, kc, rfl, ?_⟩
  refine (zj8 P B ob qb nb base V.heap.size s s1 u h p q l d a0 a1 bva bvc ka kc rs s.wtK w' hs1 (EW.kept hP) (by rw [hs1]; exact OW.un) (fun g hg => hft g (.inl hg)) (by rw [eb]; exact (hb.ext EW).mono hbB) (fun g hg => by rw [eb] at hg; have := (hb.lt g hg).1; exact ⟨by omega, by omega⟩) (hW.on EW) (by have := E.size; omega) hne hR (fun W' f => hT W' (LW.tr f)) hk (by omega) (by omega) (by have h9 := zfG s.kh s.kp; have h8 := hok.2.2.2.1; show (zaS s.kh s.kp).length ≤ 2000; omega) (fun j hj => zdT s.kh s.kp j hj) (fun j => zhN s.kh s.kp j) hln (by rw [hs1]; exact hok.1.1) (by rw [hs1]; exact hok.1.2) (by rw [hs1]; exact hok.2.1)).mono ?_
  rintro e w2 ⟨rfl, u', ya, yc, hI, hu⟩
  have L := SS.kyS_like s.wtK s1 s.wtK.length
  have hx := hI.own OW (by rw [show ({ s with kh := [], kp := (SS.kyS s.wtK s1 s.wtK.length).kp } : SS) = s1 by rw [L.kp, hs1]]; exact L) hu (fun g hg => hft g hg)
  refine ⟨rfl, u', zcE, _, by rw [eS]; exact hI.box, by rw [eB]; exact hI.out, by rw [eS]; exact hx, fun g hg => ?_, LW.tr hI.fr, fun v _ g hg => by simp [Value.ownBlock] at hg⟩
  rcases hg with hg | hg | hg | hg | hg | hg
  ·rcases hu g hg with h9 | h9
   ·exact .inl (.inl h9)
   ·have := EW.size; exact .inr (by omega)
  ·simp [Value.ownBlock] at hg
  ·exact .inl (.inr (.inr (.inl hg)))
  ·exact .inl (.inr (.inr (.inr (.inl hg))))
  ·exact .inl (.inr (.inr (.inr (.inr (.inl hg)))))
  ·exact .inl (.inr (.inr (.inr (.inr (.inr hg)))))
end Go.Proofs.YtmlkpdbfnffoaaaGreatDoor
