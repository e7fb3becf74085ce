import Derived.Test.YtmlkpdbfnffoaaaGreatDoorTickI
import Derived.Test.YtmlkpdbfnffoaaaGreatDoorCameLine
set_option maxHeartbeats 2000000
namespace Go.Proofs.YtmlkpdbfnffoaaaGreatDoor
open Go.ChangeShapes Go.WideShapes Go.ChangeAt Go.RowKit Go.Deep
structure SS where
 pr : ByteArray
 cols : Int
 rows : Int
 la : ByteArray
 lb : ByteArray
 lc : ByteArray
 un : Nat
 ut : Nat → ByteArray
 uh : Nat → ByteArray
 kh : List Int
 kp : Bool
 nav : Bool
 pn : Nat
 pt : Nat → ByteArray
 at9 : Int
 dr : ByteArray
 st : Bool
 qn : Nat
 qt : Nat → ByteArray
 ln : Nat
 lt : Nat → ByteArray
 dn : Nat
 dt : Nat → ByteArray
abbrev sC (s : SS) (u h p q l d : Value) : Array Value := #[.string s.pr, .int .i64 s.cols, .int .i64 s.rows, .string s.la, .string s.lb, .string s.lc, u, h, .bool s.kp, .bool s.nav, p, .int .i64 s.at9, .string s.dr, .bool s.st, q, l, d]
def zaK (s : SS) (u h p q l d : Value) : Value := .agg (sC s u h p q l d)
structure zbb (w : World) (s : SS) (u h p q l d : Value) : Prop where
 un : zaH w u s.un (fun j => .string (s.ut j)) (fun j => .string (s.uh j))
 kh : zag w .u8 h s.kh
 pa : zah w p s.pn (fun j => .string (s.pt j))
 qu : zah w q s.qn (fun j => .string (s.qt j))
 lo : zah w l s.ln (fun j => .string (s.lt j))
 dn : zah w d s.dn (fun j => .string (s.dt j))
theorem zbb.ext {w w' : World} {s : SS} {u h p q l d : Value} (H : zbb w s u h p q l d) (e : Ext w w') : zbb w' s u h p q l d := ⟨H.un.ext e, H.kh.ext e, H.pa.ext e, H.qu.ext e, H.lo.ext e, H.dn.ext e⟩
theorem zbb.forms {w : World} {s : SS} {u h p q l d : Value} (H : zbb w s u h p q l d) : ∃ ua uc ha hc pa pc qa qc la lc da dc, u = .slice ua s.un uc ∧ h = .slice ha s.kh.length hc ∧ p = .slice pa s.pn pc ∧ q = .slice qa s.qn qc ∧ l = .slice la s.ln lc ∧ d = .slice da s.dn dc := by
 obtain ⟨ua, uc, e1, _⟩ := H.un
 obtain ⟨ha, hc, e2, _⟩ := H.kh
 obtain ⟨pa, pc, e3, _⟩ := H.pa
 obtain ⟨qa, qc, e4, _⟩ := H.qu
 obtain ⟨la, lc, e5, _⟩ := H.lo
 obtain ⟨da, dc, e6, _⟩ := H.dn
 exact ⟨ua, uc, ha, hc, pa, pc, qa, qc, la, lc, da, dc, e1, e2, e3, e4, e5, e6⟩
def zab (u h p q l d : Value) (g : Nat) : Prop := u.ownBlock = some g ∨ h.ownBlock = some g ∨ p.ownBlock = some g ∨ q.ownBlock = some g ∨ l.ownBlock = some g ∨ d.ownBlock = some g
def zav (a b : Value) : Prop := ∀ g, a.ownBlock = some g → b.ownBlock = some g → False
structure zax (w : World) (base : Nat) (s : SS) (u h p q l d : Value) : Prop where
 un : zaR w base 132 u s.un (fun j => .string (s.ut j)) (fun j => .string (s.uh j))
 kh : w.ownsRow base 5 1 h s.kh.length (s.kh.map (Value.int .u8))
 pa : zaD w base 9 p s.pn (fun j => .string (s.pt j))
 qu : zaD w base 9 q s.qn (fun j => .string (s.qt j))
 lo : zaD w base 9 l s.ln (fun j => .string (s.lt j))
 dn : zaD w base 9 d s.dn (fun j => .string (s.dt j))
 ap : List.Pairwise zav [u, h, p, q, l, d]
theorem zax.ext {w w' : World} {b : Nat} {s : SS} {u h p q l d : Value} (H : zax w b s u h p q l d) (e : Ext w w') : zax w' b s u h p q l d := ⟨H.un.ext e, e.owns H.kh, H.pa.ext e, H.qu.ext e, H.lo.ext e, H.dn.ext e, H.ap⟩
theorem zax.reads {w : World} {b : Nat} {s : SS} {u h p q l d : Value} (H : zax w b s u h p q l d) : zbb w s u h p q l d := ⟨H.un.reads, zaf H.kh, H.pa.reads, H.qu.reads, H.lo.reads, H.dn.reads⟩
theorem zax.fr {S : Nat → Prop} {w w' : World} {b : Nat} {s : SS} {u h p q l d : Value} (H : zax w b s u h p q l d) (f : Fr S w w') (hS : ∀ g, zab u h p q l d g → ¬ S g) : zax w' b s u h p q l d :=
 ⟨H.un.fr f (fun g hg => hS g (.inl hg)), f.owns H.kh (fun g hg => hS g (.inr (.inl hg))), H.pa.fr f (fun g hg => hS g (.inr (.inr (.inl hg)))), H.qu.fr f (fun g hg => hS g (.inr (.inr (.inr (.inl hg))))), H.lo.fr f (fun g hg => hS g (.inr (.inr (.inr (.inr (.inl hg)))))), H.dn.fr f (fun g hg => hS g (.inr (.inr (.inr (.inr (.inr hg)))))), H.ap⟩
theorem zax.foot {w : World} {b : Nat} {s : SS} {u h p q l d : Value} (H : zax w b s u h p q l d) {g : Nat} (hg : zab u h p q l d g) : b ≤ g ∧ g < w.heap.size := by
 rcases hg with hg | hg | hg | hg | hg | hg
 ·exact H.un.lt g hg
 ·exact H.kh.lt g hg
 ·exact H.pa.lt g hg
 ·exact H.qu.lt g hg
 ·exact H.lo.lt g hg
 ·exact H.dn.lt g hg
def zeU (s : SS) : Kd where
 R w v := ∃ u h p q l d, v = zaK s u h p q l d ∧ zbb w s u h p q l d
 O w b S v := ∃ u h p q l d, v = zaK s u h p q l d ∧ zax w b s u h p q l d ∧ ∀ g, S g ↔ zab u h p q l d g
 rext := by rintro w w' v ⟨u, h, p, q, l, d, e, H⟩ he; exact ⟨u, h, p, q, l, d, e, H.ext he⟩
 oext := by rintro w w' b S v ⟨u, h, p, q, l, d, e, H, hS⟩ he; exact ⟨u, h, p, q, l, d, e, H.ext he, hS⟩
 ofr := by rintro w w' b S S' v ⟨u, h, p, q, l, d, e, H, hS⟩ hf hd; exact ⟨u, h, p, q, l, d, e, H.fr hf (fun g hg => hd g ((hS g).2 hg)), hS⟩
 reads := by rintro w b S v ⟨u, h, p, q, l, d, e, H, hS⟩; exact ⟨u, h, p, q, l, d, e, H.reads⟩
 lt := by rintro w b S v ⟨u, h, p, q, l, d, e, H, hS⟩ g hg; exact H.foot ((hS g).1 hg)
theorem ze8 {s : SS} {w : World} {b : Nat} {u h p q l d : Value} (H : zax w b s u h p q l d) : (zeU s).O w b (zab u h p q l d) (zaK s u h p q l d) := ⟨u, h, p, q, l, d, rfl, H, fun _ => Iff.rfl⟩
def SS.bulk (s : SS) : Nat := s.pr.size + (s.la.size + s.lb.size + s.lc.size + (s.un + tl2 s.ut s.uh s.un)) + s.kh.length + (s.pn + za4 s.pt s.pn) + s.dr.size + (s.qn + za4 s.qt s.qn) + (s.ln + za4 s.lt s.ln) + (s.dn + za4 s.dt s.dn)
structure SS.Came (s : SS) : Prop where
 pr : (s.pr.size : Int) ≤ 9223372036854775807
 la : (s.la.size : Int) ≤ 9223372036854775807
 lb : (s.lb.size : Int) ≤ 9223372036854775807
 lc : (s.lc.size : Int) ≤ 9223372036854775807
 un : (s.un : Int) ≤ 9223372036854775807
 ut : ∀ j, j < s.un → ((s.ut j).size : Int) ≤ 9223372036854775807 ∧ ((s.uh j).size : Int) ≤ 9223372036854775807
 kh : (s.kh.length : Int) ≤ 9223372036854775807
 pn : (s.pn : Int) ≤ 9223372036854775807
 pt : ∀ j, j < s.pn → ((s.pt j).size : Int) ≤ 9223372036854775807
 dr : (s.dr.size : Int) ≤ 9223372036854775807
 qn : (s.qn : Int) ≤ 9223372036854775807
 qt : ∀ j, j < s.qn → ((s.qt j).size : Int) ≤ 9223372036854775807
 ln : (s.ln : Int) ≤ 9223372036854775807
 lt : ∀ j, j < s.ln → ((s.lt j).size : Int) ≤ 9223372036854775807
 dn : (s.dn : Int) ≤ 9223372036854775807
 dt : ∀ j, j < s.dn → ((s.dt j).size : Int) ≤ 9223372036854775807
 by_ : zaj s.kh
theorem zmN (a b c : ByteArray) (v : Value) (n : Nat) (tx hf : Nat → ByteArray) (l : Int) (w : World) (hv : zaH w v n (fun j => .string (tx j)) (fun j => .string (hf j))) (h0 : 0 ≤ l) (h1 : l ≤ 4398046511104) (ha : (a.size : Int) ≤ 9223372036854775807) (hb : (b.size : Int) ≤ 9223372036854775807) (hc : (c.size : Int) ≤ 9223372036854775807) (hn : (n : Int) ≤ 9223372036854775807) (hx : ∀ j, j < n → ((tx j).size : Int) ≤ 9223372036854775807 ∧ ((hf j).size : Int) ≤ 9223372036854775807) :
  Calls Tryz.prog 23 #[.agg #[.string a, .string b, .string c, v], .int .i64 l] w fun e w' => ∃ r : Int, e = .returned (.int .i64 r) ∧ SzR l (a.size + b.size + c.size + (n + tl2 tx hf n)) r ∧ Ext w w' := by
 obtain ⟨ao, cap, hvv, _, _⟩ := id hv
 have HV := zi hv
 subst hvv
 clear hv
 have H1 := zi hx
 clear hx
 by_cases q1 : l < (a.size : Int)
 ·go_enter Tryz.func23, Tryz.ntmps23
  go_wp2
  go_ret
  exact ⟨-1, rfl, .inl ⟨rfl, by omega⟩, (Ext.refl _).alloc _⟩
 have q1b : ¬ l - (a.size : Int) < 0 := by omega
 by_cases q2 : l - (a.size : Int) < (b.size : Int)
 ·go_enter Tryz.func23, Tryz.ntmps23
  go_wp2
  go_ret
  exact ⟨-1, rfl, .inl ⟨rfl, by omega⟩, (Ext.refl _).alloc _⟩
 have q2b : ¬ l - (a.size : Int) - (b.size : Int) < 0 := by omega
 by_cases q3 : l - (a.size : Int) - (b.size : Int) < (c.size : Int)
 ·go_enter Tryz.func23, Tryz.ntmps23
  go_wp2
  go_ret
  exact ⟨-1, rfl, .inl ⟨rfl, by omega⟩, (Ext.refl _).alloc _⟩
 have q3b : ¬ l - (a.size : Int) - (b.size : Int) - (c.size : Int) < 0 := by omega
 have hcon := zi (fun W (hW : Ext w W) => zi3 (.slice ao n cap) n tx hf (l - (a.size : Int) - (b.size : Int) - (c.size : Int)) W ((zg HV).ext hW) (by omega) (by omega) hn (zg H1))
 go_enter Tryz.func23, Tryz.ntmps23
 go_wp2_with fail
 refine ((zg hcon) _ ((Ext.refl _).alloc _)).mono ?_
 rintro e w1 ⟨r, rfl, hr, F1⟩
 rcases hr with ⟨rfl, h9⟩ | ⟨hr, hr0⟩
 ·have H9 := zi h9
  clear h9
  go_wp2
  go_ret
  exact ⟨-1, rfl, .inl ⟨rfl, by have := zg H9; omega⟩, ((Ext.refl _).alloc _).trans F1⟩
 ·have hrn : ¬ r < 0 := by omega
  have hfin : Hid (r = l - ((a.size + b.size + c.size + (n + tl2 tx hf n) : Nat) : Int)) := by refine zi ?_; omega
  clear hr
  go_wp2
  go_ret
  exact ⟨r, rfl, .inr ⟨zg hfin, hr0⟩, ((Ext.refl _).alloc _).trans F1⟩
set_option maxRecDepth 10000 in
theorem zhh (s : SS) (u h p q l d u' h' p' q' l' d' : Value) (w : World) (hA : zbb w s u h p q l d) (hB : zbb w s u' h' p' q' l' d') (hb : s.bulk ≤ 4398046511104) :
  Calls Tryz.prog 11 #[zaK s u h p q l d, zaK s u' h' p' q' l' d'] w fun e w' => e = .returned (.bool true) ∧ Ext w w' := by
 unfold SS.bulk at hb
 obtain ⟨ua, uc, ha, hc, pa, pc, qa, qc, la, lc, da, dc, rfl, rfl, rfl, rfl, rfl, rfl⟩ := hA.forms
 obtain ⟨ub, ud, hb', hd, pb, pd, qb, qd, lb, ld, db, dd, rfl, rfl, rfl, rfl, rfl, rfl⟩ := hB.forms
 have hL := zi (fun W (hW : Ext w W) => zjO s.la s.lb s.lc _ _ s.un s.ut s.uh W (hA.un.ext hW) (hB.un.ext hW) (by omega))
 have hK := zi (fun W (hW : Ext w W) => zfL _ _ s.kh s.kp W (hA.kh.ext hW) (hB.kh.ext hW) (by omega))
 have hP := zi (fun W (hW : Ext w W) => zbF _ _ s.pn s.pt W (hA.pa.ext hW) (hB.pa.ext hW) (by omega))
 have hQ := zi (fun W (hW : Ext w W) => zbF _ _ s.qn s.qt W (hA.qu.ext hW) (hB.qu.ext hW) (by omega))
 have hO := zi (fun W (hW : Ext w W) => zbF _ _ s.ln s.lt W (hA.lo.ext hW) (hB.lo.ext hW) (by omega))
 have hD := zi (fun W (hW : Ext w W) => zbF _ _ s.dn s.dt W (hA.dn.ext hW) (hB.dn.ext hW) (by omega))
 clear hA hB hb
 obtain ⟨V, hV⟩ : ∃ V, V = w.alloc (.cells (sC s (.slice ua s.un uc) (.slice ha s.kh.length hc) (.slice pa s.pn pc) (.slice qa s.qn qc) (.slice la s.ln lc) (.slice da s.dn dc)) 40) := ⟨_, rfl⟩
 obtain ⟨V2, hV2⟩ : ∃ V2, V2 = V.alloc (.cells (sC s (.slice ub s.un ud) (.slice hb' s.kh.length hd) (.slice pb s.pn pd) (.slice qb s.qn qd) (.slice lb s.ln ld) (.slice db s.dn dd)) 40) := ⟨_, rfl⟩
 have hz : V.heap.size = w.heap.size + 1 := by rw [hV]; simp
 have E0 : Ext w V2 := by rw [hV2, hV]; exact ((Ext.refl w).alloc _).alloc _
 have HB : Hid (V2.heap[w.heap.size]? = some (.cells (sC s (.slice ua s.un uc) (.slice ha s.kh.length hc) (.slice pa s.pn pc) (.slice qa s.qn qc) (.slice la s.ln lc) (.slice da s.dn dc)) 40 (0, 0))) := zi (by rw [hV2]; exact ((Ext.refl V).alloc _).kept (by rw [hV]; exact zn w _))
 have HB2 : Hid (V2.heap[w.heap.size + 1]? = some (.cells (sC s (.slice ub s.un ud) (.slice hb' s.kh.length hd) (.slice pb s.pn pd) (.slice qb s.qn qd) (.slice lb s.ln ld) (.slice db s.dn dd)) 40 (0, 0))) := zi (by rw [hV2, ← hz]; exact zn V _)
 have HV : Hid (V2 = (w.alloc (.cells (sC s (.slice ua s.un uc) (.slice ha s.kh.length hc) (.slice pa s.pn pc) (.slice qa s.qn qc) (.slice la s.ln lc) (.slice da s.dn dc)) 40)).alloc (.cells (sC s (.slice ub s.un ud) (.slice hb' s.kh.length hd) (.slice pb s.pn pd) (.slice qb s.qn qd) (.slice lb s.ln ld) (.slice db s.dn dd)) 40)) := zi (by rw [hV2, hV])
 clear hV hV2 hz
 unfold zaK
 go_enter Tryz.func11, Tryz.ntmps11
 go_wp2_with fail
 rw [← zg HV]
 clear HV
 refine ((zg hL) V2 E0).mono ?_
 rintro e w1 ⟨rfl, F1⟩
 have E1 := E0.trans F1
 replace HB := F1.hk HB
 replace HB2 := F1.hk HB2
 have c1_7 := zk (zg HB) 7 _ rfl
 have d1_7 := zk (zg HB2) 7 _ rfl
 have c1_8 := zk (zg HB) 8 _ rfl
 have d1_8 := zk (zg HB2) 8 _ rfl
 go_wp2_with fail
 refine ((zg hK) _ E1).mono ?_
 clear c1_7 d1_7 c1_8 d1_8
 rintro e w2 ⟨rfl, F2⟩
 have E2 := E1.trans F2
 replace HB := F2.hk HB
 replace HB2 := F2.hk HB2
 have c2_9 := zk (zg HB) 9 _ rfl
 have d2_9 := zk (zg HB2) 9 _ rfl
 have c2_10 := zk (zg HB) 10 _ rfl
 have d2_10 := zk (zg HB2) 10 _ rfl
 go_wp2_with fail
 refine ((zg hP) _ E2).mono ?_
 clear c2_9 d2_9 c2_10 d2_10
 rintro e w3 ⟨rfl, F3⟩
 have E3 := E2.trans F3
 replace HB := F3.hk HB
 replace HB2 := F3.hk HB2
 have c3_11 := zk (zg HB) 11 _ rfl
 have d3_11 := zk (zg HB2) 11 _ rfl
 have c3_12 := zk (zg HB) 12 _ rfl
 have d3_12 := zk (zg HB2) 12 _ rfl
 have c3_13 := zk (zg HB) 13 _ rfl
 have d3_13 := zk (zg HB2) 13 _ rfl
 have c3_14 := zk (zg HB) 14 _ rfl
 have d3_14 := zk (zg HB2) 14 _ rfl
 go_wp2_with fail
 refine ((zg hQ) _ E3).mono ?_
 clear c3_11 d3_11 c3_12 d3_12 c3_13 d3_13 c3_14 d3_14
 rintro e w4 ⟨rfl, F4⟩
 have E4 := E3.trans F4
 replace HB := F4.hk HB
 replace HB2 := F4.hk HB2
 have c4_15 := zk (zg HB) 15 _ rfl
 have d4_15 := zk (zg HB2) 15 _ rfl
 go_wp2_with fail
 refine ((zg hO) _ E4).mono ?_
 clear c4_15 d4_15
 rintro e w5 ⟨rfl, F5⟩
 have E5 := E4.trans F5
 replace HB := F5.hk HB
 replace HB2 := F5.hk HB2
 have c5_16 := zk (zg HB) 16 _ rfl
 have d5_16 := zk (zg HB2) 16 _ rfl
 go_wp2_with fail
 refine ((zg hD) _ E5).mono ?_
 clear c5_16 d5_16
 rintro e w6 ⟨rfl, F6⟩
 have E6 := E5.trans F6
 replace HB := F6.hk HB
 replace HB2 := F6.hk HB2
 go_wp2
 go_ret
 exact ⟨rfl, E6⟩
theorem zlk (s : SS) (hb : s.bulk ≤ 4398046511104) : zjz 11 (zeU s) := by
 rintro w a b ⟨_, _, _, _, _, _, rfl, h1⟩ ⟨_, _, _, _, _, _, rfl, h2⟩
 exact zhh s _ _ _ _ _ _ _ _ _ _ _ _ w h1 h2 hb
set_option maxRecDepth 100000 in
theorem zih {H : Type} {enc : TypeId × Value → H} {W : World} {v : Value} {d : DataW H} {p : List MemPlace} {base : Nat} {r : Reach}
  (hv : Value.okWide Tryz.prog W r base 30 v) (h : DataW.Trod enc Tryz.prog W 0 (fun _ => true) true 30 v d p) :
  ∃ (s : SS) (u h p q l d : Value), v = zaK s u h p q l d ∧ zbb W s u h p q l d ∧ s.Came := by
 obtain ⟨cs, rfl, hsz⟩ := okWide_struct Tryz.underlying30 hv
 obtain ⟨fuel, hf⟩ := h
 obtain ⟨xs, n, _, _, _, hlen, hx⟩ := DataW.trod_struct Tryz.underlying30 hf
 have h17 : Tryz.prog.cellsOf 30 = 17 := by kernel_rfl
 rw [h17] at hsz
 obtain ⟨l⟩ := cs
 have ks : Tryz.prog.cellsOf 9 = 1 := by kernel_rfl
 have ki : Tryz.prog.cellsOf 3 = 1 := by kernel_rfl
 have kb : Tryz.prog.cellsOf 4 = 1 := by kernel_rfl
 have kL : Tryz.prog.cellsOf 24 = 4 := by kernel_rfl
 have kK : Tryz.prog.cellsOf 27 = 2 := by kernel_rfl
 have kt : Tryz.prog.cellsOf 28 = 1 := by kernel_rfl
 have ku : Tryz.prog.cellsOf 22 = 1 := by kernel_rfl
 have kh : Tryz.prog.cellsOf 25 = 1 := by kernel_rfl
 match l, hsz, xs, hlen with
 | [c0, c1, c2, c3, c4, c5, c6, c7, c8, c9, c10, c11, c12, c13, c14, c15, c16], _, [x0, x1, x2, x3, x4, x5, x6, x7, x8, x9, x10, x11, x12], _ =>
  have t0 : DataW.trod enc Tryz.prog W 0 (fun _ => true) true n 9 [c0] = some x0 := by
   have := hx 0 _ rfl
   simpa [Value.cells, ks, ki, kb, kL, kK, kt] using this
  have t1 : DataW.trod enc Tryz.prog W 0 (fun _ => true) true n 3 [c1] = some x1 := by
   have := hx 1 _ rfl
   simpa [Value.cells, ks, ki, kb, kL, kK, kt] using this
  have t2 : DataW.trod enc Tryz.prog W 0 (fun _ => true) true n 3 [c2] = some x2 := by
   have := hx 2 _ rfl
   simpa [Value.cells, ks, ki, kb, kL, kK, kt] using this
  have t3 : DataW.trod enc Tryz.prog W 0 (fun _ => true) true n 24 [c3, c4, c5, c6] = some x3 := by
   have := hx 3 _ rfl
   simpa [Value.cells, ks, ki, kb, kL, kK, kt] using this
  have t4 : DataW.trod enc Tryz.prog W 0 (fun _ => true) true n 27 [c7, c8] = some x4 := by
   have := hx 4 _ rfl
   simpa [Value.cells, ks, ki, kb, kL, kK, kt] using this
  have t5 : DataW.trod enc Tryz.prog W 0 (fun _ => true) true n 4 [c9] = some x5 := by
   have := hx 5 _ rfl
   simpa [Value.cells, ks, ki, kb, kL, kK, kt] using this
  have t6 : DataW.trod enc Tryz.prog W 0 (fun _ => true) true n 28 [c10] = some x6 := by
   have := hx 6 _ rfl
   simpa [Value.cells, ks, ki, kb, kL, kK, kt] using this
  have t7 : DataW.trod enc Tryz.prog W 0 (fun _ => true) true n 3 [c11] = some x7 := by
   have := hx 7 _ rfl
   simpa [Value.cells, ks, ki, kb, kL, kK, kt] using this
  have t8 : DataW.trod enc Tryz.prog W 0 (fun _ => true) true n 9 [c12] = some x8 := by
   have := hx 8 _ rfl
   simpa [Value.cells, ks, ki, kb, kL, kK, kt] using this
  have t9 : DataW.trod enc Tryz.prog W 0 (fun _ => true) true n 4 [c13] = some x9 := by
   have := hx 9 _ rfl
   simpa [Value.cells, ks, ki, kb, kL, kK, kt] using this
  have t10 : DataW.trod enc Tryz.prog W 0 (fun _ => true) true n 28 [c14] = some x10 := by
   have := hx 10 _ rfl
   simpa [Value.cells, ks, ki, kb, kL, kK, kt] using this
  have t11 : DataW.trod enc Tryz.prog W 0 (fun _ => true) true n 28 [c15] = some x11 := by
   have := hx 11 _ rfl
   simpa [Value.cells, ks, ki, kb, kL, kK, kt] using this
  have t12 : DataW.trod enc Tryz.prog W 0 (fun _ => true) true n 28 [c16] = some x12 := by
   have := hx 12 _ rfl
   simpa [Value.cells, ks, ki, kb, kL, kK, kt] using this
  obtain ⟨xs3, n3, _, _, _, hlen3, hx3⟩ := DataW.trod_struct Tryz.underlying24 t3
  obtain ⟨xs4, n4, _, _, _, hlen4, hx4⟩ := DataW.trod_struct Tryz.underlying27 t4
  match xs3, hlen3, xs4, hlen4 with
  | [y0, y1, y2, y3], _, [y4, y5], _ =>
   have r0 : DataW.trod enc Tryz.prog W 0 (fun _ => true) true n3 9 [c3] = some y0 := by
    have := hx3 0 _ rfl
    simpa [Value.cells, ks, ku, kb, kh] using this
   have r1 : DataW.trod enc Tryz.prog W 0 (fun _ => true) true n3 9 [c4] = some y1 := by
    have := hx3 1 _ rfl
    simpa [Value.cells, ks, ku, kb, kh] using this
   have r2 : DataW.trod enc Tryz.prog W 0 (fun _ => true) true n3 9 [c5] = some y2 := by
    have := hx3 2 _ rfl
    simpa [Value.cells, ks, ku, kb, kh] using this
   have r3 : DataW.trod enc Tryz.prog W 0 (fun _ => true) true n3 22 [c6] = some y3 := by
    have := hx3 3 _ rfl
    simpa [Value.cells, ks, ku, kb, kh] using this
   have r4 : DataW.trod enc Tryz.prog W 0 (fun _ => true) true n4 25 [c7] = some y4 := by
    have := hx4 0 _ rfl
    simpa [Value.cells, ks, ku, kb, kh] using this
   have r5 : DataW.trod enc Tryz.prog W 0 (fun _ => true) true n4 4 [c8] = some y5 := by
    have := hx4 1 _ rfl
    simpa [Value.cells, ks, ku, kb, kh] using this
   obtain ⟨s0, e0, _, z0⟩ := DataW.trod_string Tryz.underlying9 t0
   obtain ⟨i1, e1, _, _⟩ := DataW.trod_int Tryz.underlying3 t1
   obtain ⟨i2, e2, _, _⟩ := DataW.trod_int Tryz.underlying3 t2
   obtain ⟨sa, e3, _, z3⟩ := DataW.trod_string Tryz.underlying9 r0
   obtain ⟨sb, e4, _, z4⟩ := DataW.trod_string Tryz.underlying9 r1
   obtain ⟨sc, e5, _, z5⟩ := DataW.trod_string Tryz.underlying9 r2
   obtain ⟨un, ut, uh, u1, u2, u3⟩ := zkB r3
   obtain ⟨zs, k1, k2, k3⟩ := zkW Tryz.underlying25 Tryz.underlying5 (by kernel_rfl) r4
   obtain ⟨kp, e8, _⟩ := DataW.trod_bool Tryz.underlying4 r5
   obtain ⟨nv, e9, _⟩ := DataW.trod_bool Tryz.underlying4 t5
   obtain ⟨pn, pt, p1, p2, p3⟩ := zdj Tryz.underlying28 Tryz.underlying9 (by kernel_rfl) t6
   obtain ⟨i7, e11, _, _⟩ := DataW.trod_int Tryz.underlying3 t7
   obtain ⟨dr, e12, _, z12⟩ := DataW.trod_string Tryz.underlying9 t8
   obtain ⟨st, e13, _⟩ := DataW.trod_bool Tryz.underlying4 t9
   obtain ⟨qn, qt, q1, q2, q3⟩ := zdj Tryz.underlying28 Tryz.underlying9 (by kernel_rfl) t10
   obtain ⟨ln, lt, l1, l2, l3⟩ := zdj Tryz.underlying28 Tryz.underlying9 (by kernel_rfl) t11
   obtain ⟨dn, dt, d1, d2, d3⟩ := zdj Tryz.underlying28 Tryz.underlying9 (by kernel_rfl) t12
   simp at e0 e1 e2 e3 e4 e5 e8 e9 e11 e12 e13
   subst e0 e1 e2 e3 e4 e5 e8 e9 e11 e12 e13
   unfold maxLen at z0 z3 z4 z5 u2 u3 k3 p2 p3 z12 q2 q3 l2 l3 d2 d3
   refine ⟨{ pr := s0, cols := i1, rows := i2, la := sa, lb := sb, lc := sc, un := un, ut := ut, uh := uh, kh := zs, kp := kp, nav := nv, pn := pn, pt := pt, at9 := i7, dr := dr, st := st, qn := qn, qt := qt, ln := ln, lt := lt, dn := dn, dt := dt }, c6, c7, c10, c14, c15, c16, rfl, ⟨u1, k1, p1, q1, l1, d1⟩, ?_⟩
   constructor
   case ut => intro j hj; have h9 := u3 j hj; exact ⟨by show ((ut j).size : Int) ≤ _; omega, by show ((uh j).size : Int) ≤ _; omega⟩
   case pt => intro j hj; have h9 := p3 j hj; show ((pt j).size : Int) ≤ _; omega
   case qt => intro j hj; have h9 := q3 j hj; show ((qt j).size : Int) ≤ _; omega
   case lt => intro j hj; have h9 := l3 j hj; show ((lt j).size : Int) ≤ _; omega
   case dt => intro j hj; have h9 := d3 j hj; show ((dt j).size : Int) ≤ _; omega
   case by_ => exact fun n hn => bounds_u8 (k2 n hn)
   all_goals (dsimp only; omega)
end Go.Proofs.YtmlkpdbfnffoaaaGreatDoor

namespace Go.Proofs.YtmlkpdbfnffoaaaGreatDoor
open Go.RowKit
set_option maxRecDepth 10000 in
theorem zix (s : SS) (u h p q l d : Value) (L : Int) (w : World) (hA : zbb w s u h p q l d) (hC : s.Came) (h0 : 0 ≤ L) (h1 : L ≤ 4398046511104) :
  Calls Tryz.prog 5 #[zaK s u h p q l d, .int .i64 L] w fun e w' => ∃ r : Int, e = .returned (.int .i64 r) ∧ (0 ≤ r → ((s.bulk : Nat) : Int) ≤ L ∧ r ≤ L) ∧ Ext w w' := by
 obtain ⟨ua, uc, ha, hc, pa, pc, qa, qc, la, lc, da, dc, rfl, rfl, rfl, rfl, rfl, rfl⟩ := hA.forms
 have HA := zi hA
 have HC := zi hC
 have hpr := hC.pr
 have hdr := hC.dr
 clear hA hC
 unfold zaK
 by_cases q1 : L < (s.pr.size : Int)
 ·go_enter Tryz.func5, Tryz.ntmps5
  go_wp2
  go_ret
  exact ⟨-1, rfl, fun h => by omega, (Ext.refl _).alloc _⟩
 have q1b : ¬ L - (s.pr.size : Int) < 0 := by omega
 have hcL := zi (fun W (hW : Ext w W) => zmN s.la s.lb s.lc _ s.un s.ut s.uh (L - (s.pr.size : Int)) W ((zg HA).ext hW).un (by omega) (by omega) (zg HC).la (zg HC).lb (zg HC).lc (zg HC).un (zg HC).ut)
 obtain ⟨V, hV⟩ : ∃ V, V = w.alloc (.cells (sC s (.slice ua s.un uc) (.slice ha s.kh.length hc) (.slice pa s.pn pc) (.slice qa s.qn qc) (.slice la s.ln lc) (.slice da s.dn dc)) 30) := ⟨_, rfl⟩
 have E0 : Ext w V := by rw [hV]; exact (Ext.refl w).alloc _
 have HB : Hid (V.heap[w.heap.size]? = some (.cells (sC s (.slice ua s.un uc) (.slice ha s.kh.length hc) (.slice pa s.pn pc) (.slice qa s.qn qc) (.slice la s.ln lc) (.slice da s.dn dc)) 30 (0, 0))) := zi (by rw [hV]; exact zn w _)
 have HV := zi hV
 clear hV
 go_enter Tryz.func5, Tryz.ntmps5
 go_wp2_with fail
 rw [← zg HV]
 clear HV
 refine ((zg hcL) V E0).mono ?_
 rintro e w1 ⟨r1, rfl, hr1, F1⟩
 have E1 := E0.trans F1
 replace HB := F1.hk HB
 rcases hr1 with ⟨rfl, g1⟩ | ⟨g1, z1⟩
 ·have G1 := zi g1
  clear g1 HA HC
  go_wp2
  go_ret
  exact ⟨-1, rfl, fun h => by omega, E1⟩
 have n1 : ¬ r1 < 0 := by omega
 have b1 : r1 ≤ 4398046511104 := by omega
 have A1 : Hid ((s.pr.size : Int) + ((s.la.size + s.lb.size + s.lc.size + (s.un + tl2 s.ut s.uh s.un) : Nat) : Int) + r1 = L) := zi (by omega)
 clear g1
 have c1_7 := zk (zg HB) 7 _ rfl
 have c1_8 := zk (zg HB) 8 _ rfl
 have hc1 := zi (fun W (hW : Ext w W) => zgn ha s.kh.length hc s.kp r1 W (by omega) (by omega) (zg HC).kh)
 go_wp2_with fail
 refine ((zg hc1) _ E1).mono ?_
 rintro e w2 ⟨r2, rfl, hr2, F2⟩
 have E2 := E1.trans F2
 replace HB := F2.hk HB
 rcases hr2 with ⟨rfl, g2⟩ | ⟨g2, z2⟩
 ·have G2 := zi g2
  clear g2 HA HC
  go_wp2
  go_ret
  exact ⟨-1, rfl, fun h => by omega, E2⟩
 have n2 : ¬ r2 < 0 := by omega
 have b2 : r2 ≤ 4398046511104 := by omega
 have A2 : Hid ((s.pr.size : Int) + ((s.la.size + s.lb.size + s.lc.size + (s.un + tl2 s.ut s.uh s.un) : Nat) : Int) + ((s.kh.length : Nat) : Int) + r2 = L) := zi (by have := zg A1; omega)
 clear g2
 have c2_10 := zk (zg HB) 10 _ rfl
 have hc2 := zi (fun W (hW : Ext w W) => zcM _ s.pn s.pt r2 W ((zg HA).ext hW).pa (by omega) (by omega) (zg HC).pn (zg HC).pt)
 go_wp2_with fail
 refine ((zg hc2) _ E2).mono ?_
 rintro e w3 ⟨r3, rfl, hr3, F3⟩
 have E3 := E2.trans F3
 replace HB := F3.hk HB
 rcases hr3 with ⟨rfl, g3⟩ | ⟨g3, z3⟩
 ·have G3 := zi g3
  clear g3 HA HC
  go_wp2
  go_ret
  exact ⟨-1, rfl, fun h => by omega, E3⟩
 have n3 : ¬ r3 < 0 := by omega
 have b3 : r3 ≤ 4398046511104 := by omega
 have A3 : Hid ((s.pr.size : Int) + ((s.la.size + s.lb.size + s.lc.size + (s.un + tl2 s.ut s.uh s.un) : Nat) : Int) + ((s.kh.length : Nat) : Int) + ((s.pn + za4 s.pt s.pn : Nat) : Int) + r3 = L) := zi (by have := zg A2; omega)
 clear g3
 have c3_12 := zk (zg HB) 12 _ rfl
 have c3_14 := zk (zg HB) 14 _ rfl
 by_cases q2 : r3 < (s.dr.size : Int)
 ·clear HA HC
  go_wp2
  go_ret
  exact ⟨-1, rfl, fun h => by omega, E3⟩
 have q2b : ¬ r3 - (s.dr.size : Int) < 0 := by omega
 have A3b : Hid ((s.pr.size : Int) + ((s.la.size + s.lb.size + s.lc.size + (s.un + tl2 s.ut s.uh s.un) : Nat) : Int) + ((s.kh.length : Nat) : Int) + ((s.pn + za4 s.pt s.pn : Nat) : Int) + (s.dr.size : Int) + (r3 - (s.dr.size : Int)) = L) := zi (by have := zg A3; omega)
 replace A3 := A3b
 clear A3b
 have hc3 := zi (fun W (hW : Ext w W) => zcM _ s.qn s.qt (r3 - (s.dr.size : Int)) W ((zg HA).ext hW).qu (by omega) (by omega) (zg HC).qn (zg HC).qt)
 go_wp2_with fail
 refine ((zg hc3) _ E3).mono ?_
 rintro e w4 ⟨r4, rfl, hr4, F4⟩
 have E4 := E3.trans F4
 replace HB := F4.hk HB
 rcases hr4 with ⟨rfl, g4⟩ | ⟨g4, z4⟩
 ·have G4 := zi g4
  clear g4 HA HC
  go_wp2
  go_ret
  exact ⟨-1, rfl, fun h => by omega, E4⟩
 have n4 : ¬ r4 < 0 := by omega
 have b4 : r4 ≤ 4398046511104 := by omega
 have A4 : Hid ((s.pr.size : Int) + ((s.la.size + s.lb.size + s.lc.size + (s.un + tl2 s.ut s.uh s.un) : Nat) : Int) + ((s.kh.length : Nat) : Int) + ((s.pn + za4 s.pt s.pn : Nat) : Int) + (s.dr.size : Int) + ((s.qn + za4 s.qt s.qn : Nat) : Int) + r4 = L) := zi (by have := zg A3; omega)
 clear g4
 have c4_15 := zk (zg HB) 15 _ rfl
 have hc4 := zi (fun W (hW : Ext w W) => zcM _ s.ln s.lt r4 W ((zg HA).ext hW).lo (by omega) (by omega) (zg HC).ln (zg HC).lt)
 go_wp2_with fail
 refine ((zg hc4) _ E4).mono ?_
 rintro e w5 ⟨r5, rfl, hr5, F5⟩
 have E5 := E4.trans F5
 replace HB := F5.hk HB
 rcases hr5 with ⟨rfl, g5⟩ | ⟨g5, z5⟩
 ·have G5 := zi g5
  clear g5 HA HC
  go_wp2
  go_ret
  exact ⟨-1, rfl, fun h => by omega, E5⟩
 have n5 : ¬ r5 < 0 := by omega
 have b5 : r5 ≤ 4398046511104 := by omega
 have A5 : Hid ((s.pr.size : Int) + ((s.la.size + s.lb.size + s.lc.size + (s.un + tl2 s.ut s.uh s.un) : Nat) : Int) + ((s.kh.length : Nat) : Int) + ((s.pn + za4 s.pt s.pn : Nat) : Int) + (s.dr.size : Int) + ((s.qn + za4 s.qt s.qn : Nat) : Int) + ((s.ln + za4 s.lt s.ln : Nat) : Int) + r5 = L) := zi (by have := zg A4; omega)
 clear g5
 have c5_16 := zk (zg HB) 16 _ rfl
 have hc5 := zi (fun W (hW : Ext w W) => zcM _ s.dn s.dt r5 W ((zg HA).ext hW).dn (by omega) (by omega) (zg HC).dn (zg HC).dt)
 go_wp2_with fail
 refine ((zg hc5) _ E5).mono ?_
 rintro e w6 ⟨r6, rfl, hr6, F6⟩
 have E6 := E5.trans F6
 replace HB := F6.hk HB
 rcases hr6 with ⟨rfl, g6⟩ | ⟨g6, z6⟩
 ·have G6 := zi g6
  clear g6 HA HC
  go_wp2
  go_ret
  exact ⟨-1, rfl, fun h => by omega, E6⟩
 have n6 : ¬ r6 < 0 := by omega
 have b6 : r6 ≤ 4398046511104 := by omega
 have A6 : Hid ((s.pr.size : Int) + ((s.la.size + s.lb.size + s.lc.size + (s.un + tl2 s.ut s.uh s.un) : Nat) : Int) + ((s.kh.length : Nat) : Int) + ((s.pn + za4 s.pt s.pn : Nat) : Int) + (s.dr.size : Int) + ((s.qn + za4 s.qt s.qn : Nat) : Int) + ((s.ln + za4 s.lt s.ln : Nat) : Int) + ((s.dn + za4 s.dt s.dn : Nat) : Int) + r6 = L) := zi (by have := zg A5; omega)
 clear g6
 have hfin : Hid (((s.bulk : Nat) : Int) ≤ L ∧ r6 ≤ L) := zi (by unfold SS.bulk; have := zg A6; omega)
 clear HA HC
 go_wp2
 go_ret
 exact ⟨r6, rfl, fun _ => zg hfin, E6⟩
end Go.Proofs.YtmlkpdbfnffoaaaGreatDoor
