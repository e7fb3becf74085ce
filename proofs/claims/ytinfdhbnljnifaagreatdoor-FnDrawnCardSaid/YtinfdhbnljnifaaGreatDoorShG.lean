import Derived.Test.YtinfdhbnljnifaaGreatDoorFdX
import Derived.Test.YtinfdhbnljnifaaGreatDoorKmD
import Derived.Test.YtinfdhbnljnifaaGreatDoorEdW2
import Derived.Deep.AppendLies
import Derived.Deep.DeepCutAuto
import Derived.Test.YtinfdhbnljnifaaGreatDoorFdE
import Derived.Test.YtinfdhbnljnifaaGreatDoorShF
import Derived.Test.YtinfdhbnljnifaaGreatDoorImplRedraw
namespace Go.Proofs.YtinfdhbnljnifaaGreatDoor
open Go.RowKit Go.Deep
abbrev ptr (b : Nat) : Value := .pointer (some ⟨b, 0, none⟩)
def Bx (w : World) (b : Nat) (T : TypeId) (v : Value) : Prop := w.heap[b]? = some (.cells #[v] T (0, 0))
theorem Bx.ext {w w' : World} {b : Nat} {T : TypeId} {v : Value} (h : Bx w b T v) (he : Ext w w') : Bx w' b T v := he.kept h
theorem Bx.fr {S : Nat → Prop} {w w' : World} {b : Nat} {T : TypeId} {v : Value} (h : Bx w b T v) (hf : Fr S w w') (hS : ¬ S b) : Bx w' b T v := hf.kept h hS
theorem Bx.cell {w : World} {b : Nat} {T : TypeId} {v : Value} (h : Bx w b T v) : w.cell? ⟨b, 0, none⟩ = some v := zg h 0 _ rfl
theorem Bx.lt {w : World} {b : Nat} {T : TypeId} {v : Value} (h : Bx w b T v) : b < w.heap.size := zq h
structure Fc where
 F : Nat
 D : Nat
 base : Nat
 q : Nat
 r : Nat
 keep : Nat → Prop
 hv : Value
def zgC (F : Nat) : Value := .func (.func 47) #[ptr F] #[]
def zkG (F : Nat) : Value := .func (.func 48) #[ptr F] #[]
abbrev FrF (c : Fc) (w w' : World) : Prop := Fr (fun k => k = c.D ∨ k = c.F ∨ (c.base ≤ k ∧ ¬ c.keep k)) w w'
structure zcR (w : World) (c : Fc) (h : List Int) (d : SD) (hv gv : Value) (rv : Nat → Value) (bv : Value) : Prop where
 blk : w.heap[c.D]? = some (.cells #[hv, zgC c.F, zkG c.F] 76 (0, 0))
 held : w.ownsRow c.base 5 1 hv h.length (h.map (Value.int .u8))
 scr : zab w c.F c.base (fun k => c.keep k ∨ k = c.D ∨ hv.ownBlock = some k) d gv rv c.hv bv
 df : c.D ≠ c.F
 kp : ∀ k, c.keep k → k ≠ c.D ∧ k ≠ c.F ∧ ¬ hv.ownBlock = some k
 hd : ¬ hv.ownBlock = some c.D
 hf : ¬ hv.ownBlock = some c.F
theorem zab.keepX {w : World} {F base : Nat} {X Y : Nat → Prop} {d : SD} {gv : Value} {rv : Nat → Value} {hv bv : Value} (h : zab w F base X d gv rv hv bv) (hY : ∀ k, Y k → k < w.heap.size ∧ ¬ zbZ d gv rv bv k) : zab w F base Y d gv rv hv bv :=
 ⟨h.box, h.grid, h.row, h.apart, h.back, h.below, h.top, hY⟩
section
variable {w w' : World} {c : Fc} {h : List Int} {d : SD} {hv gv : Value} {rv : Nat → Value} {bv : Value}
theorem zcR.ext (k : zcR w c h d hv gv rv bv) (he : Ext w w') : zcR w' c h d hv gv rv bv :=
 ⟨he.kept k.blk, he.owns k.held, k.scr.ext he, k.df, k.kp, k.hd, k.hf⟩
theorem zcR.scrGo {d' : SD} {gv' : Value} {rv' : Nat → Value} {bv' : Value} (k : zcR w c h d hv gv rv bv) (hs : zab w' c.F c.base (fun k => c.keep k ∨ k = c.D ∨ hv.ownBlock = some k) d' gv' rv' c.hv bv') (hf : FrW c.F c.base (fun k => c.keep k ∨ k = c.D ∨ hv.ownBlock = some k) w w') : zcR w' c h d' hv gv' rv' bv' ∧ FrF c w w' := by
 refine ⟨⟨hf.kept k.blk ?_, hf.owns k.held ?_, hs, k.df, k.kp, k.hd, k.hf⟩, Fr.mono hf ?_⟩
 ·rintro (e | ⟨_, e⟩)
  ·exact k.df e
  ·exact e (.inr (.inl rfl))
 ·rintro g hg (e | ⟨_, e⟩)
  ·exact k.hf (e ▸ hg)
  ·exact e (.inr (.inr hg))
 ·rintro q (e | ⟨e1, e2⟩)
  ·exact .inr (.inl e)
  ·exact .inr (.inr ⟨e1, fun x => e2 (.inl x)⟩)
end
set_option maxRecDepth 10000 in
set_option maxHeartbeats 1000000 in
theorem zfe {c : Fc} {h : List Int} {d : SD} {hv gv : Value} {rv : Nat → Value} {bv : Value} (b : Int) (w : World) (H : zcR w c h d hv gv rv bv) (hl : h.length ≤ 4194304) :
  Calls Tryz.prog 112 #[.pointer (some ⟨c.D, 0, none⟩), .int .u8 b] w fun e w' => e = .returned (.tuple #[]) ∧ (∃ hv', zcR w' c (h ++ [b]) d hv' gv rv bv) ∧ FrF c w w' := by
 obtain ⟨i0, hi, hz0, hz1, hz2⟩ := info_parts zbP
 have c0 := zg H.blk 0 _ rfl
 have c0a : ∀ o, (w.alloc o).cell? ⟨c.D, 0, none⟩ = some hv := fun o => ((Ext.refl w).alloc o).cell c0
 have hbz := H.scr.top
 have HH := zh H
 clear H
 go_enter Tryz.func112, Tryz.ntmps112
 go_wp2_with (at_builtin; go_must (refine wpList_append_lies _ rfl _ _ 22 rfl c.base 5 i0 (.int .u8 0) 1 1 Tryz.underlying22 hi hz0 hz1 hz2 rfl (by decide) _ _ _ rfl (((Ext.refl w).alloc _).owns (zu HH).held) ⟨w.heap.size, 0, none⟩ 1 1 (([b]).map (Value.int .u8)) rfl rfl (zbs _ _) (ints_oneCell _ _) (by omega) ?_ ?_ ?_ _ rfl ?_))
 ·unfold maxLen; omega
 ·omega
 ·simp; omega
 ·intro g' cap' w3 hown' hgrow hat _
  have H := zu HH
  have hat2 : hv.ownBlock = some g' ∨ w.heap.size ≤ g' := hat.imp id (fun e => by rw [e]; simp)
  have fr3 : Fr (fun k => hv.ownBlock = some k) w w3 := Fr.grown (Fr.of_ext ((Ext.refl w).alloc _)) hgrow (fun k hk => hk)
  have b3 := fr3.kept H.blk H.hd
  have s3 := H.scr.fr fr3 H.hf (fun g hg e => (H.scr.kept g (.inr (.inr e))).2 hg)
  have k0 := zg b3 0 _ rfl
  have kf : w3.frozen? ⟨c.D, 0, none⟩ = false := Lib.frozen_of_heap b3 0
  have z3 := fr3.size
  have HB3 := zh b3
  have HS3 := zh s3
  have HO3 := zh hown'
  have FR3 := zh fr3
  have HA3 := zh hat2
  clear hown' hgrow b3 s3 fr3 hat hat2 H
  go_wp2
  go_end0
  have H := zu HH
  have hDl : c.D < w.heap.size := zq H.blk
  have fs : Fr (fun q => q = c.D) w3 (w3.setCell ⟨c.D, 0, none⟩ (.slice (some ⟨g', 0, none⟩) (h.length + 1) cap')) := Fr.setCell (S := fun q => q = c.D) (Fr.refl _ _) (a := ⟨c.D, 0, none⟩) rfl _
  have hg1 : g' < w3.heap.size := ((zu HO3).lt g' rfl).2
  have no : ∀ k, ¬ hv.ownBlock = some k → k < w.heap.size → ¬ Value.ownBlock (.slice (some ⟨g', 0, none⟩) (h.length + 1) cap') = some k := fun k hk hl e => by
   have e2 : g' = k := by simpa [Value.ownBlock] using e
   rcases zu HA3 with e3 | e3
   ·exact hk (by rw [e3, e2])
   ·omega
  have hF := H.scr.below.1
  have z4 := fs.size
  refine ⟨rfl, ⟨_, zj (zu HB3) rfl, ?_, ?_, H.df, fun k hk => ⟨(H.kp k hk).1, (H.kp k hk).2.1, no k (H.kp k hk).2.2 (H.scr.kept k (.inl hk)).1⟩, no _ H.hd hDl, no _ H.hf hF⟩, ?_⟩
  ·have := fs.owns (zu HO3) (fun g hg e => no c.D H.hd hDl (e ▸ hg))
   simpa using this
  ·refine ((zu HS3).fr fs (fun e => H.df e.symm) (fun g hg e => (H.scr.kept c.D (.inr (.inl rfl))).2 (e ▸ hg))).keepX (fun k hk => ?_)
   rcases hk with hk | hk | hk
   ·exact ⟨by have := (H.scr.kept k (.inl hk)).1; omega, (H.scr.kept k (.inl hk)).2⟩
   ·exact ⟨by omega, (H.scr.kept k (.inr (.inl hk))).2⟩
   ·have e2 : g' = k := by simpa [Value.ownBlock] using hk
    rcases zu HA3 with e3 | e3
    ·exact ⟨by omega, (H.scr.kept k (.inr (.inr (by rw [e3, e2])))).2⟩
    ·exact ⟨by omega, fun hw => by have := (H.scr.foot hw).2; omega⟩
  ·exact Fr.tr (Fr.mono (zu FR3) (fun k hk => .inr (.inr ⟨(H.held.lt k hk).1, fun hx => (H.kp k hx).2.2 hk⟩))) (Fr.mono fs (fun k hk => .inl hk))
set_option maxRecDepth 10000 in
set_option maxHeartbeats 1000000 in
theorem zcM {c : Fc} {h : List Int} {d : SD} {hv gv : Value} {rv : Nat → Value} {bv : Value} (w : World) (H : zcR w c h d hv gv rv bv) :
  Calls Tryz.prog 115 #[.pointer (some ⟨c.D, 0, none⟩)] w fun e w' => e = .returned hv ∧ w'.ownsRow c.base 5 1 hv h.length (h.map (Value.int .u8)) ∧ zcR w' { c with keep := fun k => c.keep k ∨ hv.ownBlock = some k } [] d (.slice none 0 0) gv rv bv ∧ FrF c w w' := by
 have c0 := zg H.blk 0 _ rfl
 have cf : w.frozen? ⟨c.D, 0, none⟩ = false := Lib.frozen_of_heap H.blk 0
 have HH := zh H
 clear H
 go_enter Tryz.func115, Tryz.ntmps115
 go_wp2
 go_ret
 have H := zu HH
 have fs : Fr (fun q => q = c.D) w (w.setCell ⟨c.D, 0, none⟩ (.slice none 0 0)) := Fr.setCell (S := fun q => q = c.D) (Fr.refl _ _) (a := ⟨c.D, 0, none⟩) rfl _
 have zs := fs.size
 have s1 := H.scr.fr fs (fun e => H.df e.symm) (fun g hg e => (H.scr.kept c.D (.inr (.inl rfl))).2 (e ▸ hg))
 refine ⟨rfl, fs.owns H.held (fun g hg e => H.hd (e ▸ hg)), ⟨zj H.blk rfl, ⟨by simp, .inl ⟨rfl, rfl⟩⟩, s1.keepX (fun k hk => ?_), H.df, fun k hk => ?_, by simp [Value.ownBlock], by simp [Value.ownBlock]⟩, Fr.mono fs (fun k hk => .inl hk)⟩
 ·rcases hk with (hk | hk) | hk | hk
  ·exact s1.kept k (.inl hk)
  ·exact s1.kept k (.inr (.inr hk))
  ·exact s1.kept k (.inr (.inl hk))
  ·simp [Value.ownBlock] at hk
 ·refine ⟨?_, ?_, by simp [Value.ownBlock]⟩
  ·rcases hk with hk | hk
   ·exact (H.kp k hk).1
   ·exact fun e => H.hd (e ▸ hk)
  ·rcases hk with hk | hk
   ·exact (H.kp k hk).2.1
   ·exact fun e => H.hf (e ▸ hk)
theorem zcR.unkeep {w : World} {c : Fc} {Y : Nat → Prop} {h : List Int} {d : SD} {hv gv : Value} {rv : Nat → Value} {bv : Value} (k : zcR w { c with keep := Y } h d hv gv rv bv) (hY : ∀ q, c.keep q → Y q) : zcR w c h d hv gv rv bv :=
 ⟨k.blk, k.held, k.scr.keepX (fun q hq => k.scr.kept q (by
  rcases hq with hq | hq | hq
  ·exact .inl (hY q hq)
  ·exact .inr (.inl hq)
  ·exact .inr (.inr hq))), k.df, fun q hq => k.kp q (hY q hq), k.hd, k.hf⟩
def zcm (d : SD) (n : Nat) : Prop := OkP d ∧ (∃ M, WtB d M ∧ 200 ≤ M ∧ M + 4 * n ≤ 1073741824) ∧ d.nb + n ≤ 16777216
theorem zcm.mono {d : SD} {n m : Nat} (h : zcm d n) (hm : m ≤ n) : zcm d m := by
 obtain ⟨h1, ⟨M, h2, h3, h4⟩, h5⟩ := h
 exact ⟨h1, ⟨M, h2, h3, by omega⟩, by omega⟩
theorem zcm.acts {d : SD} {n : Nat} {l : List zby} (h : zcm d (n + l.length)) : zcm (d.acts zp l) n := by
 obtain ⟨h1, ⟨M, h2, h3, h4⟩, h5⟩ := h
 obtain ⟨r1, r2, r3⟩ := zeZ zp l h1 h2 h3
 exact ⟨r1, ⟨_, r2, by omega, by omega⟩, by omega⟩
theorem zcm.act {d : SD} {n : Nat} (h : zcm d (n + 1)) (a : zby) : zcm (d.act zp a) n := zcm.acts (l := [a]) h
theorem zmV (s : List Int) : (fd s).1.length + (fdH s).length ≤ s.length := by
 have h1 := zkv zaZ zgF s.length s (Nat.le_refl _)
 have h2 := zoG zaZ s
 have e1 : (fd s).1 = (gR zar s).1 := rfl
 have e2 : fdH s = gH zar s := rfl
 rw [e1, e2]
 omega
theorem fd_snoc (t : List Int) (x : Int) : (fd (t ++ [x])).1 = (fd t).1 ++ (fd (fdH t ++ [x])).1 ∧ fdH (t ++ [x]) = fdH (fdH t ++ [x]) := gR_snoc zaZ zd0 t x
theorem zmQ {s : List Int} (h : zv s) : zv (fdH s) := fun n hn => h n (List.mem_of_mem_drop hn)
def grF (q : Nat) : Value := .func (.func 111) #[] #[ptr q, ptr (q + 2), ptr (q + 4)]
def esF (q : Nat) : Value := .func (.func 114) #[] #[ptr q, ptr (q + 1), ptr (q + 3)]
def beF (q : Nat) : Value := .func (.func 116) #[] #[ptr q, ptr (q + 3), ptr (q + 1)]
def bgF (r : Nat) : Value := .func (.func 165) #[] #[ptr r, ptr (r + 3), ptr (r + 2), ptr (r + 1)]
structure StsF (w : World) (D F q r : Nat) : Prop where
 d : Bx w q 133 (ptr D)
 gr : Bx w (q + 1) 79 (grF q)
 es : Bx w (q + 2) 79 (esF q)
 be : Bx w (q + 3) 79 (beF q)
 bg : Bx w (q + 4) 79 (bgF r)
 h : Bx w r 185 (ptr D)
 g2 : Bx w (r + 1) 79 (grF q)
 fo : Bx w (r + 2) 71 (zgC F)
 b2 : Bx w (r + 3) 79 (bgF r)
structure FW (w : World) (c : Fc) (h : List Int) (d : SD) : Prop where
 fk : ∃ hv gv rv bv, zcR w c h d hv gv rv bv
 sts : StsF w c.D c.F c.q c.r
 ks : ∀ k, ((c.q ≤ k ∧ k ≤ c.q + 4) ∨ (c.r ≤ k ∧ k ≤ c.r + 3) ∨ k = 1 ∨ k = 2 ∨ k = 0) → c.keep k
 tabs : zdd w
def zeR (c : Fc) (h : List Int) (d : SD) (w : World) (v : Value) (e : Ending) (w' : World) : Prop := e = .returned v ∧ FW w' c h d ∧ FrF c w w'
theorem zeo {S : Nat → Prop} {w w' : World} (hf : Fr S w w') (g o : Nat) (v : Value) (hg : ¬ S g) (hc : w.cell? ⟨g, o, none⟩ = some v) : w'.cell? ⟨g, o, none⟩ = some v := by
 have hl := zaj hc
 have hb := hf.block g hl hg
 have e : ∀ W : World, W.cell? ⟨g, o, none⟩ = (W.heap[g]?).bind (fun ob => match ob with | .cells cs _ _ => cs[o]? | _ => none) := fun W => by
  simp only [World.cell?]
  cases W.heap[g]? with
  | none => rfl
  | some ob => cases ob <;> rfl
 rw [e, hb, ← e]
 exact hc
theorem zdd.frX {S : Nat → Prop} {w w' : World} (h : zdd w) (hf : Fr S w w') (h1 : ¬ S 1) (h2 : ¬ S 2) (h3 : ¬ S 0) : zdd w' := by
 obtain ⟨hl, hu⟩ := h
 refine ⟨fun m hm => ?_, fun c hc => zeo hf _ _ _ h1 (hu.1 c hc), fun i hi => ⟨zeo hf _ _ _ h2 (hu.2 i hi).1, zeo hf _ _ _ h2 (hu.2 i hi).2⟩⟩
 exact ⟨zeo hf _ _ _ h3 (hl m hm).1, zeo hf _ _ _ h3 (hl m hm).2.1, zeo hf _ _ _ h3 (hl m hm).2.2⟩
theorem FW.go {w w' : World} {c : Fc} {h h' : List Int} {d d' : SD} (k : FW w c h d) (hf : FrF c w w') (hk : ∃ hv gv rv bv, zcR w' c h' d' hv gv rv bv) : FW w' c h' d' := by
 obtain ⟨_, _, _, _, k0⟩ := k.fk
 have no : ∀ q, c.keep q → ¬ (q = c.D ∨ q = c.F ∨ (c.base ≤ q ∧ ¬ c.keep q)) := fun q hq x => by
  rcases x with x | x | x
  ·exact (k0.kp q hq).1 x
  ·exact (k0.kp q hq).2.1 x
  ·exact x.2 hq
 have nq : ∀ j, j ≤ 4 → ¬ (c.q + j = c.D ∨ c.q + j = c.F ∨ (c.base ≤ c.q + j ∧ ¬ c.keep (c.q + j))) := fun j hj => no _ (k.ks _ (.inl ⟨by omega, by omega⟩))
 have nr : ∀ j, j ≤ 3 → ¬ (c.r + j = c.D ∨ c.r + j = c.F ∨ (c.base ≤ c.r + j ∧ ¬ c.keep (c.r + j))) := fun j hj => no _ (k.ks _ (.inr (.inl ⟨by omega, by omega⟩)))
 have s := k.sts
 exact ⟨hk, ⟨s.d.fr hf (nq 0 (by omega)), s.gr.fr hf (nq 1 (by omega)), s.es.fr hf (nq 2 (by omega)), s.be.fr hf (nq 3 (by omega)), s.bg.fr hf (nq 4 (by omega)), s.h.fr hf (nr 0 (by omega)), s.g2.fr hf (nr 1 (by omega)), s.fo.fr hf (nr 2 (by omega)), s.b2.fr hf (nr 3 (by omega))⟩, k.ks, k.tabs.frX hf (no _ (k.ks _ (.inr (.inr (.inl rfl))))) (no _ (k.ks _ (.inr (.inr (.inr (.inl rfl)))))) (no _ (k.ks _ (.inr (.inr (.inr (.inr rfl))))))⟩
theorem FW.ext {w w' : World} {c : Fc} {h : List Int} {d : SD} (k : FW w c h d) (he : Ext w w') : FW w' c h d := by
 obtain ⟨hv, gv, rv, bv, k0⟩ := k.fk
 exact k.go (Fr.of_ext he) ⟨hv, gv, rv, bv, k0.ext he⟩
theorem FW.keepY {w : World} {c : Fc} {h : List Int} {d : SD} {Y : Nat → Prop} (k : FW w c h d) (hd : ∃ hv gv rv bv, zcR w { c with keep := Y } h d hv gv rv bv) (hY : ∀ q, c.keep q → Y q) : FW w { c with keep := Y } h d :=
 ⟨hd, k.sts, fun q hq => hY q (k.ks q hq), k.tabs⟩
theorem FW.unkeep {w : World} {c : Fc} {h : List Int} {d : SD} {Y : Nat → Prop} (k : FW w { c with keep := Y } h d) (k0 : ∀ q, ((c.q ≤ q ∧ q ≤ c.q + 4) ∨ (c.r ≤ q ∧ q ≤ c.r + 3) ∨ q = 1 ∨ q = 2 ∨ q = 0) → c.keep q) (hY : ∀ q, c.keep q → Y q) : FW w c h d := by
 obtain ⟨hv, gv, rv, bv, k1⟩ := k.fk
 exact ⟨⟨hv, gv, rv, bv, k1.unkeep hY⟩, k.sts, k0, k.tabs⟩
def Fc.mode (c : Fc) (h : List Int) : Value := if h = [] then grF c.q else if at0 h 0 = 27 then (if h.length = 1 then esF c.q else beF c.q) else bgF c.r
def StF (v : Value) (b : Int) (w : World) (Q : Ending → World → Prop) : Prop :=
 ∃ (F : FuncId) (caps : List Value), v = .func (.func F) #[] caps.toArray ∧ (∀ (args : Array Value) (w : World), (callFunc F args).run Tryz.prog w = .ok (.enter F args) w) ∧ Calls Tryz.prog F (Value.int .u8 b :: caps).toArray w Q
theorem StF.mono {v : Value} {b : Int} {w : World} {Q Q' : Ending → World → Prop} (h : StF v b w Q) (hQ : ∀ e w', Q e w' → Q' e w') : StF v b w Q' := by
 obtain ⟨F, caps, h1, h2, h3⟩ := h
 exact ⟨F, caps, h1, h2, h3.mono hQ⟩
def ziE (c : Fc) (h : List Int) : Prop := ∀ (b : Int) (d : SD) (w : World), FW w c h d → zv (h ++ [b]) → zcm d (h.length + 1) →
 StF (c.mode h) b w (zeR c (fdH (h ++ [b])) (d.acts zp (fd (h ++ [b])).1) w (c.mode (fdH (h ++ [b]))))
def Rd (c : Fc) (s : List Int) (d0 : SD) (w0 wr : World) (v : Value) : Prop :=
 v = c.mode (fdH s) ∧ FW wr c (fdH s) (d0.acts zp (fd s).1) ∧ FrF c w0 wr
theorem zku {c : Fc} {d0 : SD} {w : World} (k : FW w c [] d0) : Rd c [] d0 w w (c.mode []) := ⟨rfl, k, Fr.refl _ _⟩
theorem zfd (t : List Int) (k : Nat) (h : k < t.length) : t.take (k + 1) = t.take k ++ [at0 t k] := by
 rw [List.take_succ_eq_append_getElem h]
 simp [at0, h]
theorem zlP {c : Fc} {s : List Int} {d0 : SD} {w0 wr : World} {v : Value} (h : Rd c s d0 w0 wr v) (x : Int) (hb : zv (s ++ [x])) (hr : zcm d0 (s.length + 1))
  (ih : ∀ (h' : List Int), h'.length ≤ s.length → zar h' = none → ziE c h') : StF v x wr (fun e w' => ∃ v', e = .returned v' ∧ Rd c (s ++ [x]) d0 w0 w' v') := by
 obtain ⟨rfl, k, f⟩ := h
 have hn := zmV s
 have hbs : zv s := fun n hn => hb n (List.mem_append_left _ hn)
 have hb2 : zv (fdH s ++ [x]) := fun n hn => by
  rcases List.mem_append.1 hn with h | h
  ·exact zmQ hbs n h
  ·exact hb n (List.mem_append_right _ h)
 have st := ih (fdH s) (by omega) (zj8 s) x _ wr k hb2 (zcm.acts (hr.mono (by omega)))
 obtain ⟨e1, e2⟩ := fd_snoc s x
 refine st.mono ?_
 rintro e w' ⟨rfl, k', f'⟩
 refine ⟨_, rfl, ?_, ?_, Fr.tr f f'⟩
 ·rw [e2]
 ·rw [e1, e2, zcI]
  exact k'
set_option maxHeartbeats 1000000 in
theorem zcW (b : Int) (w : World) : Calls Tryz.prog 117 #[.int .u8 b] w fun e w' => e = .returned (.bool (decide (48 ≤ b) && decide (b ≤ 63))) ∧ w' = w := by
 by_cases h1 : 48 ≤ b
 ·by_cases h2 : b ≤ 63
  ·go_enter Tryz.func117, Tryz.ntmps117
   go_wp2
   go_ret
   exact ⟨by simp [h1, h2], rfl⟩
  ·go_enter Tryz.func117, Tryz.ntmps117
   go_wp2
   go_ret
   exact ⟨by simp [h2]; try omega, rfl⟩
 ·go_enter Tryz.func117, Tryz.ntmps117
  go_wp2
  go_ret
  exact ⟨by simp; try omega, rfl⟩
set_option maxHeartbeats 1000000 in
theorem zgo (b : Int) (w : World) : Calls Tryz.prog 118 #[.int .u8 b] w fun e w' => e = .returned (.bool (decide (64 ≤ b) && decide (b ≤ 126))) ∧ w' = w := by
 by_cases h1 : 64 ≤ b
 ·by_cases h2 : b ≤ 126
  ·go_enter Tryz.func118, Tryz.ntmps118
   go_wp2
   go_ret
   exact ⟨by simp [h1, h2], rfl⟩
  ·go_enter Tryz.func118, Tryz.ntmps118
   go_wp2
   go_ret
   exact ⟨by simp [h2]; try omega, rfl⟩
 ·go_enter Tryz.func118, Tryz.ntmps118
  go_wp2
  go_ret
  exact ⟨by simp; try omega, rfl⟩
set_option maxRecDepth 10000 in
set_option maxHeartbeats 4000000 in
theorem gr_27 (c : Fc) (d : SD) (w : World) (k : FW w c [] d) :
  Calls Tryz.prog 111 #[.int .u8 27, ptr c.q, ptr (c.q + 2), ptr (c.q + 4)] w fun e w' => zeR c [27] d w (esF c.q) e w' := by
 have d0 := k.sts.d.cell
 obtain ⟨_, _, _, _, k0⟩ := k.fk
 have HH := zh (zfe 27 w k0 (by simp))
 have HK := zh k
 clear k k0
 go_enter Tryz.func111, Tryz.ntmps111
 go_wp2_with fail
 refine (zu HH).mono ?_
 rintro e w1 ⟨rfl, ⟨_, hd⟩, hf⟩
 have k1 := (zu HK).go hf ⟨_, _, _, _, hd⟩
 have e1 := k1.sts.es.cell
 have HK1 := zh k1
 have HF := zh hf
 clear hd hf k1 HH
 go_wp2
 exact bodyPost_ret (v := esF c.q) (by simp [results, Tryz.results111, go_sem]) rfl ⟨rfl, zu HK1, zu HF⟩
set_option maxRecDepth 10000 in
set_option maxHeartbeats 4000000 in
theorem gr_else (c : Fc) (b : Int) (d : SD) (w : World) (k : FW w c [] d) (h27 : b ≠ 27) (h' : List Int) (d' : SD) (v : Value)
  (hb : Calls Tryz.prog 165 #[.int .u8 b, ptr c.r, ptr (c.r + 3), ptr (c.r + 2), ptr (c.r + 1)] w (zeR c h' d' w v)) :
  Calls Tryz.prog 111 #[.int .u8 b, ptr c.q, ptr (c.q + 2), ptr (c.q + 4)] w fun e w' => zeR c h' d' w v e w' := by
 have d2 : w.cell? ⟨c.q + 4, 0, none⟩ = some (.func (.func 165) #[] #[ptr c.r, ptr (c.r + 3), ptr (c.r + 2), ptr (c.r + 1)]) := k.sts.bg.cell
 have q27 : (b == 27) = false := by simp [h27]
 have HB := zh hb
 clear k hb
 go_enter Tryz.func111, Tryz.ntmps111
 go_wp2_with fail
 refine (zu HB).mono ?_
 rintro e w1 ⟨rfl, hw⟩
 have HW := zh hw
 clear hw
 go_wp2
 exact bodyPost_ret (v := v) (by simp [results, Tryz.results111, go_sem]) rfl ⟨rfl, zu HW⟩
set_option maxRecDepth 10000 in
set_option maxHeartbeats 4000000 in
theorem es_91 (c : Fc) (d : SD) (w : World) (k : FW w c [27] d) :
  Calls Tryz.prog 114 #[.int .u8 91, ptr c.q, ptr (c.q + 1), ptr (c.q + 3)] w fun e w' => zeR c [27, 91] d w (beF c.q) e w' := by
 have d0 := k.sts.d.cell
 obtain ⟨_, _, _, _, k0⟩ := k.fk
 have HH := zh (zfe 91 w k0 (by simp))
 have HK := zh k
 clear k k0
 go_enter Tryz.func114, Tryz.ntmps114
 go_wp2_with fail
 refine (zu HH).mono ?_
 rintro e w1 ⟨rfl, ⟨_, hd⟩, hf⟩
 have k1 := (zu HK).go hf ⟨_, _, _, _, hd⟩
 have e1 := k1.sts.be.cell
 have HK1 := zh k1
 have HF := zh hf
 clear hd hf k1 HH
 go_wp2
 exact bodyPost_ret (v := beF c.q) (by simp [results, Tryz.results114, go_sem]) rfl ⟨rfl, zu HK1, zu HF⟩
set_option maxRecDepth 10000 in
set_option maxHeartbeats 4000000 in
theorem es_else (c : Fc) (b : Int) (d : SD) (w : World) (k : FW w c [27] d) (h91 : b ≠ 91) :
  Calls Tryz.prog 114 #[.int .u8 b, ptr c.q, ptr (c.q + 1), ptr (c.q + 3)] w fun e w' => zeR c [] d w (grF c.q) e w' := by
 have d0 := k.sts.d.cell
 obtain ⟨hv, _, _, _, k0⟩ := k.fk
 have HH := zh (zcM w k0)
 have HK := zh k
 have q91 : (b == 91) = false := by simp [h91]
 obtain ⟨sa, sn, sc, hsv⟩ : ∃ sa sn sc, hv = .slice sa sn sc := by
  rcases k0.held.2 with ⟨e, _⟩ | ⟨g, cp, cur, e, _⟩
  ·exact ⟨_, _, _, e⟩
  ·exact ⟨_, _, _, e⟩
 subst hsv
 clear k k0
 go_enter Tryz.func114, Tryz.ntmps114
 go_wp2_with fail
 refine (zu HH).mono ?_
 rintro e w1 ⟨rfl, _, hd, hf⟩
 have k1 := (zu HK).go hf ⟨_, _, _, _, hd.unkeep (fun q hq => .inl hq)⟩
 have e1 := k1.sts.gr.cell
 have HK1 := zh k1
 have HF := zh hf
 clear hd hf k1 HH
 go_wp2
 exact bodyPost_ret (v := grF c.q) (by simp [results, Tryz.results114, go_sem]) rfl ⟨rfl, zu HK1, zu HF⟩
theorem zcR.row {w : World} {c : Fc} {h : List Int} {d : SD} {hv gv : Value} {rv : Nat → Value} {bv : Value} (k : zcR w c h d hv gv rv bv) (h0 : 0 < h.length) : ∃ g cap, hv = .slice (some ⟨g, 0, none⟩) h.length cap ∧ h.length ≤ cap := by
 rcases k.held.2 with ⟨_, e0⟩ | ⟨g, cap, cur, e0, _, _, hnc, _⟩
 ·omega
 ·exact ⟨g, cap, e0, hnc⟩
set_option maxRecDepth 10000 in
set_option maxHeartbeats 4000000 in
theorem be_more (c : Fc) (b : Int) (h : List Int) (d : SD) (w : World) (k : FW w c h d) (h0 : 0 < h.length) (hl : h.length < 32) (h1 : 48 ≤ b) (h2 : b ≤ 63) :
  Calls Tryz.prog 116 #[.int .u8 b, ptr c.q, ptr (c.q + 3), ptr (c.q + 1)] w fun e w' => zeR c (h ++ [b]) d w (beF c.q) e w' := by
 have d0 := k.sts.d.cell
 obtain ⟨hv, _, _, _, k0⟩ := k.fk
 obtain ⟨g, cap, rfl, _⟩ := k0.row h0
 have d1 := zg k0.blk 0 _ rfl
 have HH := zh (zfe b w k0 (by omega))
 have HK := zh k
 have HI := zh (zcW b w)
 have hq : (decide (48 ≤ b) && decide (b ≤ 63)) = true := by simp [h1, h2]
 rw [hq] at HI
 have hlI : (h.length : Int) < 32 := by omega
 clear k k0 hq
 go_enter Tryz.func116, Tryz.ntmps116
 go_wp2_with fail
 refine (zu HI).mono ?_
 rintro e w0 ⟨rfl, rfl⟩
 go_wp2_with fail
 refine (zu HH).mono ?_
 rintro e w1 ⟨rfl, ⟨_, hd⟩, hf⟩
 have k1 := (zu HK).go hf ⟨_, _, _, _, hd⟩
 have e1 := k1.sts.be.cell
 have HK1 := zh k1
 have HF := zh hf
 clear hd hf k1 HH
 go_wp2
 exact bodyPost_ret (v := beF c.q) (by simp [results, Tryz.results116, go_sem]) rfl ⟨rfl, zu HK1, zu HF⟩
set_option maxRecDepth 10000 in
set_option maxHeartbeats 4000000 in
theorem be_over (c : Fc) (b : Int) (h : List Int) (d : SD) (w : World) (k : FW w c h d) (hl : h.length = 32) (h1 : 48 ≤ b) (h2 : b ≤ 63) :
  Calls Tryz.prog 116 #[.int .u8 b, ptr c.q, ptr (c.q + 3), ptr (c.q + 1)] w fun e w' => zeR c [] d w (grF c.q) e w' := by
 have d0 := k.sts.d.cell
 obtain ⟨hv, _, _, _, k0⟩ := k.fk
 obtain ⟨g, cap, rfl, _⟩ := k0.row (by omega)
 have d1 := zg k0.blk 0 _ rfl
 have HH := zh (zcM w k0)
 have HK := zh k
 have HI := zh (zcW b w)
 have HJ := zh (fun W => zgo b W)
 have hq : (decide (48 ≤ b) && decide (b ≤ 63)) = true := by simp [h1, h2]
 have hr : (decide (64 ≤ b) && decide (b ≤ 126)) = false := by simp; omega
 rw [hq] at HI
 rw [hr] at HJ
 rw [hl] at d1 HH
 clear k k0 hq hr
 go_enter Tryz.func116, Tryz.ntmps116
 go_wp2_with fail
 refine (zu HI).mono ?_
 rintro e w0 ⟨rfl, rfl⟩
 go_wp2_with fail
 refine (zu HH).mono ?_
 rintro e w1 ⟨rfl, _, hd, hf⟩
 have k1 := (zu HK).go hf ⟨_, _, _, _, hd.unkeep (fun q hq => .inl hq)⟩
 have e1 := k1.sts.gr.cell
 have HK1 := zh k1
 have HF := zh hf
 clear hd hf k1 HH
 go_wp2_with fail
 refine ((zu HJ) _).mono ?_
 rintro e w4 ⟨rfl, rfl⟩
 go_wp2
 exact bodyPost_ret (v := grF c.q) (by simp [results, Tryz.results116, go_sem]) rfl ⟨rfl, zu HK1, zu HF⟩
set_option maxRecDepth 10000 in
set_option maxHeartbeats 4000000 in
theorem be_bad (c : Fc) (b : Int) (h : List Int) (d : SD) (w : World) (k : FW w c h d) (h0 : 0 < h.length) (h1 : ¬ (48 ≤ b ∧ b ≤ 63)) (h2 : ¬ (64 ≤ b ∧ b ≤ 126)) :
  Calls Tryz.prog 116 #[.int .u8 b, ptr c.q, ptr (c.q + 3), ptr (c.q + 1)] w fun e w' => zeR c [] d w (grF c.q) e w' := by
 have d0 := k.sts.d.cell
 obtain ⟨hv, _, _, _, k0⟩ := k.fk
 obtain ⟨g, cap, rfl, _⟩ := k0.row h0
 have HH := zh (zcM w k0)
 have HK := zh k
 have HI := zh (zcW b w)
 have HJ := zh (fun W => zgo b W)
 have hq : (decide (48 ≤ b) && decide (b ≤ 63)) = false := by simp; omega
 have hr : (decide (64 ≤ b) && decide (b ≤ 126)) = false := by simp; omega
 rw [hq] at HI
 rw [hr] at HJ
 clear k k0 hq hr
 go_enter Tryz.func116, Tryz.ntmps116
 go_wp2_with fail
 refine (zu HI).mono ?_
 rintro e w0 ⟨rfl, rfl⟩
 go_wp2_with fail
 refine (zu HH).mono ?_
 rintro e w1 ⟨rfl, _, hd, hf⟩
 have k1 := (zu HK).go hf ⟨_, _, _, _, hd.unkeep (fun q hq => .inl hq)⟩
 have e1 := k1.sts.gr.cell
 have HK1 := zh k1
 have HF := zh hf
 clear hd hf k1 HH
 go_wp2_with fail
 refine ((zu HJ) _).mono ?_
 rintro e w4 ⟨rfl, rfl⟩
 go_wp2
 exact bodyPost_ret (v := grF c.q) (by simp [results, Tryz.results116, go_sem]) rfl ⟨rfl, zu HK1, zu HF⟩
theorem zoV {w : World} {base g cap n m : Nat} {ds : List Int} (ho : w.ownsRow base 5 1 (.slice (some ⟨g, 0, none⟩) n cap) (27 :: 91 :: ds).length ((27 :: 91 :: ds).map (Value.int .u8))) (hn : n = ds.length + 2) (hm : m = ds.length) (_hcap : n ≤ cap) :
  zx w .u8 (.slice (if cap = 2 then some ⟨g, 0, none⟩ else some ⟨g, 2, none⟩) m (cap - 2)) ds := by
 subst hm
 obtain ⟨ao, cp, e, _, hrr⟩ := zz ho
 obtain ⟨b', off, e2, hc⟩ := hrr (by simp)
 simp only [e2, Value.slice.injEq, Option.some.injEq, Addr.mk.injEq] at e
 obtain ⟨⟨e3, e4, _⟩, _, _⟩ := e
 subst e3
 subst e4
 by_cases h2 : cap = 2
 ·rw [if_pos h2]
  have : ds = [] := List.eq_nil_of_length_eq_zero (by omega)
  subst this
  exact ⟨_, _, rfl, by simp, fun h => by simp at h⟩
 ·rw [if_neg h2]
  have := ze9 (bs := 27 :: 91 :: ds) (cap := cap - 2) 2 ds.length hc (by simp; omega) (by omega)
  simpa using this
theorem znp {w : World} {ds : List Int} (h : ds.length = 0) (ao : Option Addr) (m c : Nat) (hm : m = 0) : zx w .u8 (.slice ao m c) ds := ⟨ao, c, by rw [hm, h], by omega, fun h2 => by omega⟩
theorem zjq {c : Fc} {d d' : SD} {w1 w5 : World} {hv gv : Value} {rv : Nat → Value} {bv : Value} (k1 : FW w1 c [] d) (hd : zcR w1 { c with keep := fun k => c.keep k ∨ hv.ownBlock = some k } [] d (.slice none 0 0) gv rv bv)
  (s5 : ∃ gv' rv' bv', zab w5 c.F c.base (fun k => c.keep k ∨ hv.ownBlock = some k ∨ k = c.D) d' gv' rv' c.hv bv') (f5 : FrW c.F c.base (fun k => c.keep k ∨ hv.ownBlock = some k ∨ k = c.D) w1.drew w5) : FW w5 c [] d' ∧ FrF c w1 w5 := by
 obtain ⟨gv', rv', bv', s5⟩ := s5
 have f6 : FrW c.F c.base (fun k => c.keep k ∨ hv.ownBlock = some k ∨ k = c.D) w1 w5 := Fr.tr (Fr.of_ext (Ext.refl w1).drew) f5
 have hs : zab w5 c.F c.base (fun k => c.keep k ∨ k = c.D ∨ Value.ownBlock (.slice none 0 0) = some k) d' gv' rv' c.hv bv' := s5.keepX (fun k hk => by
  rcases hk with hk | hk | hk
  ·exact s5.kept k (.inl hk)
  ·exact s5.kept k (.inr (.inr hk))
  ·simp [Value.ownBlock] at hk)
 have hf : FrW c.F c.base (fun k => c.keep k ∨ k = c.D ∨ Value.ownBlock (.slice none 0 0) = some k) w1 w5 := f6.mono (fun k hk => hk.imp id (fun x => ⟨x.1, fun y => x.2 (by
  rcases y with y | y | y
  ·exact .inl y
  ·exact .inr (.inr y)
  ·simp [Value.ownBlock] at y)⟩))
 have h0 : zcR w1 c [] d (.slice none 0 0) gv rv bv := hd.unkeep (fun q hq => .inl hq)
 obtain ⟨k9, f9⟩ := h0.scrGo hs hf
 exact ⟨k1.go f9 ⟨_, _, _, _, k9⟩, f9⟩
set_option maxRecDepth 10000 in
set_option maxHeartbeats 4000000 in
theorem be_end (c : Fc) (b : Int) (ds : List Int) (d d' : SD) (w : World) (k : FW w c (27 :: 91 :: ds) d) (h3 : 64 ≤ b ∧ b ≤ 126)
    (hob : ∀ (w1 : World) (X : Nat → Prop) (v gv : Value) (rv : Nat → Value) (bv : Value), zab w1 c.F c.base X d gv rv c.hv bv → zx w1 .u8 v ds → Calls Tryz.prog 48 #[ptr c.F, v, .int .u8 b] w1 fun e w' => e = .returned (.tuple #[]) ∧ (∃ gv' rv' bv', zab w' c.F c.base X d' gv' rv' c.hv bv') ∧ FrW c.F c.base X w1 w') :
    Calls Tryz.prog 116 #[.int .u8 b, ptr c.q, ptr (c.q + 3), ptr (c.q + 1)] w fun e w' => zeR c [] d' w (grF c.q) e w' := by
  have d0 := k.sts.d.cell
  obtain ⟨hv, _, _, _, k0⟩ := k.fk
  obtain ⟨g, cap, ehv, hcap⟩ := k0.row (by simp)
  obtain ⟨n, hn⟩ : ∃ n, (27 :: 91 :: ds).length = n := ⟨_, rfl⟩
  have hn2 : n = ds.length + 2 := by rw [← hn]; rfl
  rw [hn] at ehv hcap
  subst ehv
  have hb1 : (2 : Int) ≤ (n : Int) := by omega
  have hb2 : 2 ≤ n := by omega
  have hb3 : 2 ≤ cap := by omega
  have HH := zh (zcM w k0)
  have HK := zh k
  have HI := zh (zcW b w)
  have HJ := zh (fun W => zgo b W)
  have hq : (decide (48 ≤ b) && decide (b ≤ 63)) = false := by simp; omega
  have hr : (decide (64 ≤ b) && decide (b ≤ 126)) = true := by simp [h3.1, h3.2]
  rw [hq] at HI
  rw [hr] at HJ
  have HOB := zh hob
  have HN2 := zh hn2
  clear k k0 hq hr hob hn2 hn
  go_enter Tryz.func116, Tryz.ntmps116
  go_wp2_with fail
  refine (zu HI).mono ?_
  rintro e w0 ⟨rfl, rfl⟩
  go_wp2_with fail
  refine (zu HH).mono ?_
  rintro e w1 ⟨rfl, ho, hd, hf⟩
  have k1 := ((zu HK).go hf ⟨_, _, _, _, hd.unkeep (fun q hq => .inl hq)⟩)
  have e0 := k1.sts.d.cell
  have e2 := zg hd.blk 2 _ rfl
  have HK1 := zh k1
  have HF := zh hf
  have HD := zh hd
  have HO := zh ho
  clear hd hf k1 HH ho
  go_wp2_with fail
  refine ((zu HJ) _).mono ?_
  rintro e w4 ⟨rfl, rfl⟩
  by_cases hc2 : cap = 2
  · go_wp2_with fail
    go_region_held3 (fun W => W.cell? ⟨c.q, 0, none⟩ = some (ptr c.D) ∧ W.cell? ⟨c.D, 2, none⟩ = some (.func (.func 48) #[ptr c.F] #[])) (first | exact ⟨e0, e2⟩ | exact ⟨g0, g2⟩) (first
      | (go_at_call 48
         refine ((zu HOB) w4.drew (fun k => c.keep k ∨ Value.ownBlock (.slice (some ⟨g, 0, none⟩) n cap) = some k ∨ k = c.D) _ _ _ _ (((zu HD).scr.ext (Ext.refl w4).drew).keepX (fun k hk => (zu HD).scr.kept k (by rcases hk with hk | hk | hk <;> first | exact .inl (.inl hk) | exact .inl (.inr hk) | exact .inr (.inl hk)))) (znp (show ds.length = 0 by have := zu HN2; omega) _ (n - 2) _ (by have := zu HN2; omega))).mono ?_
         rintro e w5 ⟨rfl, s5, f5⟩
         have F5 := zjq (zu HK1) (zu HD) s5 f5
         have g0 := F5.1.sts.d.cell
         have g2 : w5.cell? ⟨c.D, 2, none⟩ = some (.func (.func 48) #[ptr c.F] #[]) := (by obtain ⟨_, _, _, _, k5⟩ := F5.1.fk; exact zg k5.blk 2 _ rfl)
         have HF5 := zh F5
         clear s5 f5 F5))
    have g1 := (zu HF5).1.sts.gr.cell
    go_wp2
    exact bodyPost_ret (v := grF c.q) (by simp [results, Tryz.results116, go_sem]) rfl ⟨rfl, (zu HF5).1, Fr.tr (zu HF) (zu HF5).2⟩
  · go_wp2_with fail
    go_region_held3 (fun W => W.cell? ⟨c.q, 0, none⟩ = some (ptr c.D) ∧ W.cell? ⟨c.D, 2, none⟩ = some (.func (.func 48) #[ptr c.F] #[])) (first | exact ⟨e0, e2⟩ | exact ⟨g0, g2⟩) (first
      | (go_at_call 48
         refine ((zu HOB) w4.drew (fun k => c.keep k ∨ Value.ownBlock (.slice (some ⟨g, 0, none⟩) n cap) = some k ∨ k = c.D) _ _ _ _ (((zu HD).scr.ext (Ext.refl w4).drew).keepX (fun k hk => (zu HD).scr.kept k (by rcases hk with hk | hk | hk <;> first | exact .inl (.inl hk) | exact .inl (.inr hk) | exact .inr (.inl hk)))) (by have h9 := zoV (m := n - 2) ((Ext.refl w4).drew.owns (zu HO)) (zu HN2) (by have := zu HN2; omega) hcap; rw [if_neg hc2] at h9; exact h9)).mono ?_
         rintro e w5 ⟨rfl, s5, f5⟩
         have F5 := zjq (zu HK1) (zu HD) s5 f5
         have g0 := F5.1.sts.d.cell
         have g2 : w5.cell? ⟨c.D, 2, none⟩ = some (.func (.func 48) #[ptr c.F] #[]) := (by obtain ⟨_, _, _, _, k5⟩ := F5.1.fk; exact zg k5.blk 2 _ rfl)
         have HF5 := zh F5
         clear s5 f5 F5))
    have g1 := (zu HF5).1.sts.gr.cell
    go_wp2
    exact bodyPost_ret (v := grF c.q) (by simp [results, Tryz.results116, go_sem]) rfl ⟨rfl, (zu HF5).1, Fr.tr (zu HF) (zu HF5).2⟩
end Go.Proofs.YtinfdhbnljnifaaGreatDoor

namespace Go.Proofs.YtinfdhbnljnifaaGreatDoor
open Go.RowKit
def mvA (n c : Int) : List zby := if n ≤ 0 then [] else [.oby (dg n.toNat) c]
theorem zfB (n : Int) {c : Int} (hn : n ≤ 9999) (hc : 64 ≤ c ∧ c ≤ 126) : (fd (goL n c)).1 = mvA n c ∧ fdH (goL n c) = [] := by
 by_cases h : n ≤ 0
 ·unfold goL mvA
  rw [if_pos h, if_pos h]
  exact ⟨rfl, rfl⟩
 ·unfold mvA
  rw [if_neg h]
  exact zjR (by omega) hn hc
theorem zcx {v most : Int} (h0 : 0 ≤ v) (h1 : v ≤ most) : zdQ v most = v := by
 unfold zdQ
 rw [if_neg (by omega), if_neg (by omega)]
theorem zlM {d : SD} (h : OkP d) {n : Int} (h1 : n ≤ d.row) : ∃ l, d.acts zp (mvA n 65) = { d with row := d.row - max n 0, late := l } ∧ (d.late = false → l = false) := by
 have hs := zae h
 have hrw := h.row
 have hcl := h.col
 unfold mvA
 by_cases h0 : n ≤ 0
 ·rw [if_pos h0]
  refine ⟨d.late, ?_, fun e => e⟩
  show d = _
  rw [show d.row - max n 0 = d.row by omega]
 ·rw [if_neg h0]
  refine ⟨false, ?_, fun _ => rfl⟩
  show d.oby (dg n.toNat) 65 = _
  unfold SD.oby
  rw [zlI (by omega), if_neg (by omega), if_neg (by decide), if_neg (by decide), if_pos rfl]
  unfold SD.moveTo
  rw [zcx (by omega) (by omega), zcx (by omega) (by omega), show d.row - max ((n.toNat : Nat) : Int) 1 = d.row - max n 0 by omega]
theorem znC {d : SD} (h : OkP d) {n : Int} (h1 : d.row + max n 0 < d.rows) : ∃ l, d.acts zp (mvA n 66) = { d with row := d.row + max n 0, late := l } ∧ (d.late = false → l = false) := by
 have hs := zae h
 have hrw := h.row
 have hcl := h.col
 unfold mvA
 by_cases h0 : n ≤ 0
 ·rw [if_pos h0]
  refine ⟨d.late, ?_, fun e => e⟩
  show d = _
  rw [show d.row + max n 0 = d.row by omega]
 ·rw [if_neg h0]
  refine ⟨false, ?_, fun _ => rfl⟩
  show d.oby (dg n.toNat) 66 = _
  unfold SD.oby
  rw [zlI (by omega), if_neg (by omega), if_neg (by decide), if_neg (by decide), if_neg (by decide), if_pos rfl]
  unfold SD.moveTo
  rw [zcx (by omega) (by omega), zcx (by omega) (by omega), show d.row + max ((n.toNat : Nat) : Int) 1 = d.row + max n 0 by omega]
theorem zms {d : SD} (h : OkP d) {c : Int} (h0 : 0 ≤ c) (h1 : c < d.cols) : d.acts zp (mvA (c + 1) 71) = { d with col := c, late := false } := by
 have hs := zae h
 have hrw := h.row
 unfold mvA
 rw [if_neg (by omega)]
 show d.oby (dg (c + 1).toNat) 71 = _
 unfold SD.oby
 rw [zlI (by omega), if_neg (by omega), if_neg (by decide), if_neg (by decide), if_neg (by decide), if_neg (by decide), if_neg (by decide), if_neg (by decide), if_pos rfl]
 unfold SD.moveTo
 rw [zcx (by omega) (by omega), show max (((c + 1).toNat : Nat) : Int) 1 - 1 = c by omega, zcx (by omega) (by omega)]
theorem Shn.move {d : SD} {up B : Nat → ByteArray} {n m r : Nat} {c : Int} (h : Shn d up n B m r c) {x c' : Int} {r' : Nat} {l : Bool} (hx : x = d.row + ((r' : Int) - (r : Int))) (hr : r' < m) (h0 : 0 ≤ c') (h1 : c' < d.cols) (hl : l = false) :
  Shn ({ d with row := x, col := c', late := l } : SD) up n B m r' c' := by
 have hrw := h.ok.row
 have hR := h.ok.R
 have hrow := h.row
 have hfit := h.fit
 have hnb := h.nb
 unfold zbI at hrow
 subst hl
 refine ⟨⟨h.ok.size, h.ok.R, h.ok.hold, h.ok.C, h.ok.half, ?_, ⟨h0, h1⟩, fun e => by cases e⟩, h.out, h.hold, rfl, h.nb, ?_, rfl, h.above, h.rows, h.below, h.fit⟩
 ·show 0 ≤ x ∧ x < d.rows
  omega
 ·show d.nb + x.toNat = n + r'
  omega
theorem zgw : ∀ (xs : List (List Int)) (y : List Int), zdL (xs ++ [y]) = if xs = [] then zaO y else zdL xs ++ ([13, 10] ++ zaO y)
 | [], y => rfl
 | [x], y => rfl
 | x :: x' :: xs, y => by
  have ih := zgw (x' :: xs) y
  rw [if_neg (by simp)] at ih
  rw [if_neg (by simp)]
  show zaO x ++ ([13, 10] ++ zdL (x' :: xs ++ [y])) = _
  rw [ih, zdL]
  simp
theorem zlN (tx : Nat → ByteArray) (f : Nat → List Int) : ∀ m, (∀ i, i < m → baL (tx i) = zaO (f i)) → zcb tx m = zdL ((List.range m).map f)
 | 0, _ => rfl
 | m + 1, h => by
  rw [zcb, zlN tx f m (fun i hi => h i (by omega)), h m (by omega), List.range_succ, List.map_append, List.map_cons, List.map_nil, zgw]
  by_cases h0 : m = 0
  ·subst h0; rfl
  ·rw [if_neg h0, if_neg (by simp [h0])]
theorem zcy (d : SD) (a b : List zby) : d.acts zp (a ++ b) = (d.acts zp a).acts zp b := zcI _ _ _ _
theorem zfQ {d : SD} {up : Nat → ByteArray} {n : Nat} (h : zfm d up n) (tx : Nat → ByteArray) (f : Nat → List Int) {m : Nat} {row col : Int} (hm : (m : Int) ≤ d.rows) (hf : ∀ i, i < m → baL (tx i) = zaO (f i) ∧ Fit d.cols (f i)) (hk : bOk m row col) (hc : col < d.cols) :
  Shn (d.feed zp (zaM m tx row col)) up n (fun i => zaR (tx i)) m row.toNat col ∧ (d.feed zp (zaM m tx row col)).cols = d.cols ∧ (d.feed zp (zaM m tx row col)).rows = d.rows := by
 have hs := zae h.at0.ok
 have hb := hk
 unfold bOk at hb
 obtain ⟨rss, hrss⟩ : ∃ rss, rss = (List.range m).map f := ⟨_, rfl⟩
 have hlen : rss.length = m := by rw [hrss]; simp
 have hne : rss ≠ [] := fun e => by rw [e] at hlen; simp at hlen; omega
 have hfit : ∀ rs ∈ rss, Fit d.cols rs := by
  intro rs hr
  rw [hrss] at hr
  obtain ⟨i, hi, rfl⟩ := List.mem_map.1 hr
  exact (hf i (by simpa using hi)).2
 obtain ⟨a1, a2⟩ := ziq rss (fun rs hr => (hfit rs hr).clean)
 obtain ⟨b1, b2⟩ := zfB ((m : Int) - 1 - row) (c := 65) (by omega) (by omega)
 obtain ⟨c1, c2⟩ := zfB (col + 1) (c := 71) (by omega) (by omega)
 obtain ⟨e1, e2⟩ := zdx b2 (goL (col + 1) 71)
 obtain ⟨g1, g2⟩ := zdx a2 (goL ((m : Int) - 1 - row) 65 ++ goL (col + 1) 71)
 have hp : zaM m tx row col = zdL rss ++ (goL ((m : Int) - 1 - row) 65 ++ goL (col + 1) 71) := by
  unfold zaM
  rw [if_pos hk, zlN tx f m (fun i hi => (hf i hi).1), hrss]
 have hfe : d.feed zp (zaM m tx row col) = ((d.acts zp (zcO rss)).acts zp (mvA ((m : Int) - 1 - row) 65)).acts zp (mvA (col + 1) 71) := by
  rw [hp, zbG h.hold (by rw [g2, e2, c2]), g1, e1, a1, b1, c1, zcy, zcy]
 obtain ⟨c, T, k0, k1, k2, k3, k4, k5⟩ := zkB rss hne h.at0 h.below hfit
 rw [hfe]
 obtain ⟨D, hD⟩ : ∃ D, D = d.acts zp (zcO rss) := ⟨_, rfl⟩
 have hout : Out D := by rw [hD]; exact zdZ _ h.at0.ok h.out
 rw [← hD] at k0 k1 k2 k3 k4 k5 ⊢
 have hrw := k0.ok.row
 have hR := k0.ok.R
 have hdrw := h.at0.ok.row
 have hrow := h.row
 have k2' := k2
 unfold zbI at k2' hrow
 rw [hlen] at k5 k2 k2'
 have hrows := k3.rows
 have hcols := k3.cols
 have hnb : D.nb ≤ n := by omega
 have S0 : Shn ({ D with late := false } : SD) up n (fun i => zaR (tx i)) m (m - 1) D.col := by
  refine ⟨⟨k0.ok.size, k0.ok.R, k0.ok.hold, k0.ok.C, k0.ok.half, k0.ok.row, k0.ok.col, fun e => by cases e⟩, hout, k3.hold.trans h.hold, rfl, hnb, ?_, rfl, fun k hk => ?_, fun i hi => ?_, fun p hp q => k1 p ?_ q, ?_⟩
  ·show D.nb + D.row.toNat = n + (m - 1)
   omega
  ·show zc9 D k = up k
   rw [k3.above k (by rw [h.row]; exact hk)]
   exact h.above k hk
  ·show zc9 D (n + i) = zaR (tx i)
   have h9 := k4 i (by omega)
   rw [h.row] at h9
   rw [h9]
   have h8 : rss.getD i [] = f i := by
    rw [hrss]
    simp [hi]
   rw [h8, ← (hf i hi).1, zat]
  ·have : n + m ≤ D.nb + p := hp
   omega
  ·show n + m ≤ D.nb + D.R
   omega
 obtain ⟨l, hu, _⟩ := zlM k0.ok (n := (m : Int) - 1 - row) (by omega)
 rw [hu]
 have hok2 : OkP ({ D with row := D.row - max ((m : Int) - 1 - row) 0, late := l } : SD) := by
  have := zff zp (mvA ((m : Int) - 1 - row) 65) k0.ok
  rwa [hu] at this
 rw [zms hok2 (by omega) (by show col < D.cols; omega)]
 exact ⟨S0.move (x := D.row - max ((m : Int) - 1 - row) 0) (c' := col) (r' := row.toNat) (by show _ = D.row + _; omega) (by omega) (by omega) (by show col < D.cols; omega) rfl, hcols, hrows⟩
theorem zf0 {d : SD} {up B : Nat → ByteArray} {n m : Nat} {row col : Int} (h : Shn d up n B m row.toNat col) (hk : bOk m row col) :
  zfm (d.feed zp (zaN m row col)) up n ∧ (d.feed zp (zaN m row col)).cols = d.cols ∧ (d.feed zp (zaN m row col)).rows = d.rows := by
 have hs := zae h.ok
 have hb := hk
 unfold bOk at hb
 have hrw := h.ok.row
 have hR := h.ok.R
 have hrow := h.row
 have hnb := h.nb
 have hfit := h.fit
 unfold zbI at hrow
 obtain ⟨b1, b2⟩ := zfB row (c := 65) (by omega) (by omega)
 obtain ⟨e1, e2⟩ := zdx b2 [27, 91, 74]
 obtain ⟨g1, g2⟩ := zdx fd_cr.2 (goL row 65 ++ [27, 91, 74])
 have hp : zaN m row col = [13] ++ (goL row 65 ++ [27, 91, 74]) := by
  unfold zaN
  rw [if_pos hk]
  rfl
 have e13 : d.shw zp 13 = { d with col := 0, late := false } := by unfold SD.shw; rw [if_pos rfl]
 have hok1 : OkP ({ d with col := 0, late := false } : SD) := zgg h.ok
 obtain ⟨l, hu, hl⟩ := zlM hok1 (n := row) (by show row ≤ d.row; omega)
 have hl0 : l = false := hl rfl
 subst hl0
 have hfe : d.feed zp (zaN m row col) = (({ d with row := d.row - row, col := 0, late := false } : SD).clr (d.row - row).toNat 0 d.cols.toNat).clrRows ((d.row - row).toNat + 1) := by
  rw [hp, zbG h.hold (by rw [g2, e2, zg7.2]), g1, e1, b1, fd_cr.1, zg7.1, zcy, zcy]
  show (((d.shw zp 13).acts zp (mvA row 65)).oby [] 74) = _
  rw [e13, hu, show d.row - max row 0 = d.row - row by omega]
  rfl
 have hok9 : OkP (d.feed zp (zaN m row col)) := ziN zp h.ok _
 have hout9 : Out (d.feed zp (zaN m row col)) := by
  rw [hp, zbG h.hold (by rw [g2, e2, zg7.2])]
  exact zdZ _ h.ok h.out
 obtain ⟨D, hD⟩ : ∃ D, D = d.feed zp (zaN m row col) := ⟨_, rfl⟩
 rw [← hD] at hok9 hout9 hfe ⊢
 have hDrow : D.row = d.row - row := by rw [hfe]; rfl
 have hDtx : ∀ p q, D.tx p q = if (d.row - row).toNat + 1 ≤ p then bz else if p = (d.row - row).toNat ∧ za6 ({ d with row := d.row - row, col := 0, late := false } : SD) (d.row - row).toNat 0 d.cols.toNat q = true then bz else d.tx p q := fun p q => by rw [hfe]; rfl
 have hDhf : ∀ p q, D.hf p q = if (d.row - row).toNat + 1 ≤ p then false else if p = (d.row - row).toNat ∧ za6 ({ d with row := d.row - row, col := 0, late := false } : SD) (d.row - row).toNat 0 d.cols.toNat q = true then false else d.hf p q := fun p q => by rw [hfe]; rfl
 have hDcols : D.cols = d.cols := by rw [hfe]; rfl
 have hDrows : D.rows = d.rows := by rw [hfe]; rfl
 have hDnb : D.nb = d.nb := by rw [hfe]; rfl
 have hDbk : D.bk = d.bk := by rw [hfe]; rfl
 have hDC : D.C = d.C := by rw [hfe]; rfl
 have hDcol : D.col = 0 := by rw [hfe]; rfl
 have hDlate : D.late = false := by rw [hfe]; rfl
 have hDhold : D.hold = [] := by rw [hfe]; exact h.hold
 have hbl : ∀ q, D.tx D.row.toNat q = bz ∧ D.hf D.row.toNat q = false := fun q => by
  by_cases hq : d.cols ≤ (q : Int)
  ·exact hout9 _ q (by rw [hDcols]; exact hq)
  ·have hcl : za6 ({ d with row := d.row - row, col := 0, late := false } : SD) (d.row - row).toNat 0 d.cols.toNat q = true := za0.2 (.inl (by omega))
   rw [hDtx, hDhf, hDrow, if_neg (by omega), if_pos ⟨rfl, hcl⟩, if_neg (by omega), if_pos ⟨rfl, hcl⟩]
   exact ⟨rfl, rfl⟩
 refine ⟨⟨⟨hok9, by rw [hDcols]; show ((0 : Nat) : Int) ≤ _; omega, fun _ => ⟨hDcol, hDlate⟩, fun e => ?_, fun q _ => hbl q, rfl, fun e => by omega⟩, fun p hp q => ?_, hout9, hDhold, ?_, fun k hk => ?_⟩, hDcols, hDrows⟩
 ·rw [hDcols] at e
  have : ((0 : Nat) : Int) = d.cols := e
  omega
 ·rw [hDtx, hDhf, if_pos (by rw [hDrow] at hp; omega), if_pos (by rw [hDrow] at hp; omega)]
  exact ⟨rfl, rfl⟩
 ·unfold zbI
  rw [hDnb, hDrow]
  omega
 ·rw [← h.above k hk]
  unfold zc9
  rw [hDnb, hDbk]
  split
  ·rfl
  ·have hne : ∀ q, D.tx (k - d.nb) q = d.tx (k - d.nb) q ∧ D.hf (k - d.nb) q = d.hf (k - d.nb) q := fun q => by
    rw [hDtx, hDhf, if_neg (by omega), if_neg (by omega), if_neg (by omega), if_neg (by omega)]
    exact ⟨rfl, rfl⟩
   unfold zca
   rw [hDC, funext (fun q => (hne q).1), funext (fun q => (hne q).2)]
theorem zlo {d : SD} {up B : Nat → ByteArray} {n m m2 : Nat} {row col row2 col2 : Int} (h : Shn d up n B m row.toNat col) (hk : bOk m row col) (ty : Nat → ByteArray) (f : Nat → List Int) (same : Bool) (hsame : same = true → m2 = m ∧ ∀ i, i < m → B i = zaR (ty i)) (hm : (m2 : Int) ≤ d.rows) (hf : ∀ i, i < m2 → baL (ty i) = zaO (f i) ∧ Fit d.cols (f i)) (hk2 : bOk m2 row2 col2) (hc : col2 < d.cols) :
  Shn (d.feed zp (zaV m row col m2 ty row2 col2 same)) up n (fun i => zaR (ty i)) m2 row2.toNat col2 := by
 have hb := hk
 have hb2 := hk2
 unfold bOk at hb hb2
 have hrw := h.ok.row
 have hR := h.ok.R
 have hrow := h.row
 have hnb := h.nb
 have hfit := h.fit
 have hs := zae h.ok
 unfold zbI at hrow
 have e0 : zaV m row col m2 ty row2 col2 same = if same = true then goL (row - row2) 65 ++ (goL (row2 - row) 66 ++ (if col = col2 then [] else goL (col2 + 1) 71)) else zaN m row col ++ zaM m2 ty row2 col2 := by
  unfold zaV
  rw [if_pos ⟨hk, hk2⟩]
 rw [e0]
 cases same with
 | false =>
  rw [if_neg (by decide)]
  obtain ⟨h1, h2, h3⟩ := zf0 h hk
  have h4 : d.feed zp (zaN m row col ++ zaM m2 ty row2 col2) = (d.feed zp (zaN m row col)).feed zp (zaM m2 ty row2 col2) := (zjD zp _ _ _).symm
  rw [h4]
  exact (zfQ h1 ty f (by rw [h3]; exact hm) (by rw [h2]; exact hf) hk2 (by rw [h2]; exact hc)).1
 | true =>
  obtain ⟨em, eB⟩ := hsame rfl
  subst em
  rw [if_pos rfl]
  obtain ⟨b1, b2⟩ := zfB (row - row2) (c := 65) (by omega) (by omega)
  obtain ⟨c1, c2⟩ := zfB (row2 - row) (c := 66) (by omega) (by omega)
  have hcA : (fd (if col = col2 then [] else goL (col2 + 1) 71)).1 = (if col = col2 then [] else mvA (col2 + 1) 71) ∧ fdH (if col = col2 then [] else goL (col2 + 1) 71) = [] := by
   split
   ·exact ⟨rfl, rfl⟩
   ·exact zfB (col2 + 1) (by omega) (by omega)
  obtain ⟨e1, e2⟩ := zdx c2 (if col = col2 then [] else goL (col2 + 1) 71)
  obtain ⟨g1, g2⟩ := zdx b2 (goL (row2 - row) 66 ++ (if col = col2 then [] else goL (col2 + 1) 71))
  rw [zbG h.hold (by rw [g2, e2, hcA.2]), g1, e1, b1, c1, hcA.1, zcy, zcy]
  obtain ⟨l, hu, hl⟩ := zlM h.ok (n := row - row2) (by omega)
  have hl0 : l = false := hl h.late
  subst hl0
  have hok1 := zff zp (mvA (row - row2) 65) h.ok
  rw [hu] at hok1 ⊢
  obtain ⟨l, hd, hl⟩ := znC hok1 (n := row2 - row) (by show d.row - max (row - row2) 0 + max (row2 - row) 0 < d.rows; omega)
  have hl0 : l = false := hl rfl
  subst hl0
  have hok2 := zff zp (mvA (row2 - row) 66) hok1
  rw [hd] at hok2 ⊢
  have hcol := h.col
  have S : Shn ({ d with row := d.row - max (row - row2) 0 + max (row2 - row) 0, col := col2, late := false } : SD) up n B m2 row2.toNat col2 := h.move (by omega) (by omega) (by omega) hc rfl
  have hfin : (({ d with row := d.row - max (row - row2) 0 + max (row2 - row) 0, late := false } : SD)).acts zp (if col = col2 then [] else mvA (col2 + 1) 71) = { d with row := d.row - max (row - row2) 0 + max (row2 - row) 0, col := col2, late := false } := by
   by_cases hcc : col = col2
   ·rw [if_pos hcc, ← hcc, ← hcol]
    rfl
   ·rw [if_neg hcc, zms hok2 (by omega) (by exact hc)]
  have hfin2 : ((({ ({ d with row := d.row - max (row - row2) 0, late := false } : SD) with row := ({ d with row := d.row - max (row - row2) 0, late := false } : SD).row + max (row2 - row) 0, late := false } : SD))).acts zp (if col = col2 then [] else mvA (col2 + 1) 71) = { d with row := d.row - max (row - row2) 0 + max (row2 - row) 0, col := col2, late := false } := hfin
  rw [hfin2]
  exact ⟨S.ok, S.out, S.hold, S.late, S.nb, S.row, S.col, S.above, fun i hi => (S.rows i hi).trans (eB i hi), S.below, S.fit⟩
end Go.Proofs.YtinfdhbnljnifaaGreatDoor
