import Derived.Test.YtinfdhbnljnifaaGreatDoorFdQ
import Derived.Test.YtinfdhbnljnifaaGreatDoorKmD
import Derived.Test.YtinfdhbnljnifaaGreatDoorTabs
import Derived.Deep.AppendLies
import Derived.Deep.DeepCutAuto
import Derived.Test.YtinfdhbnljnifaaGreatDoorFdF
import Derived.Test.YtinfdhbnljnifaaGreatDoorFdY
import Derived.Test.YtinfdhbnljnifaaGreatDoorFdZ
import Derived.Test.YtinfdhbnljnifaaGreatDoorRwImpl
import Derived.Deep.RegionLaw
import Derived.Test.YtinfdhbnljnifaaGreatDoorFsP
namespace Go.Proofs.YtinfdhbnljnifaaGreatDoor
open Go.RowKit Go.Deep
abbrev ptr (b : Nat) : Value := .pointer (some ⟨b, 0, none⟩)
def Bx (w : World) (b : Nat) (T : TypeId) (v : Value) : Prop := w.heap[b]? = some (.cells #[v] T (0, 0))
theorem Bx.ext {w w' : World} {b : Nat} {T : TypeId} {v : Value} (h : Bx w b T v) (he : Ext w w') : Bx w' b T v := he.kept h
theorem Bx.fr {S : Nat → Prop} {w w' : World} {b : Nat} {T : TypeId} {v : Value} (h : Bx w b T v) (hf : Fr S w w') (hS : ¬ S b) : Bx w' b T v := hf.kept h hS
theorem Bx.cell {w : World} {b : Nat} {T : TypeId} {v : Value} (h : Bx w b T v) : w.cell? ⟨b, 0, none⟩ = some v := cells_of h 0 _ rfl
theorem Bx.lt {w : World} {b : Nat} {T : TypeId} {v : Value} (h : Bx w b T v) : b < w.heap.size := lt_of_block h
structure Fc where
  F : Nat
  D : Nat
  base : Nat
  q : Nat
  r : Nat
  keep : Nat → Prop
  hv : Value
def showF (F : Nat) : Value := .func (.func 47) #[ptr F] #[]
def obeyF (F : Nat) : Value := .func (.func 48) #[ptr F] #[]
abbrev FrF (c : Fc) (w w' : World) : Prop := Fr (fun k => k = c.D ∨ k = c.F ∨ (c.base ≤ k ∧ ¬ c.keep k)) w w'
structure FkAt (w : World) (c : Fc) (h : List Int) (d : SD) (hv gv : Value) (rv : Nat → Value) (bv : Value) : Prop where
  blk : w.heap[c.D]? = some (.cells #[hv, showF c.F, obeyF c.F] 76 (0, 0))
  held : w.ownsRow c.base 5 1 hv h.length (h.map (Value.int .u8))
  scr : ScrW w c.F c.base (fun k => c.keep k ∨ k = c.D ∨ hv.ownBlock = some k) d gv rv c.hv bv
  df : c.D ≠ c.F
  kp : ∀ k, c.keep k → k ≠ c.D ∧ k ≠ c.F ∧ ¬ hv.ownBlock = some k
  hd : ¬ hv.ownBlock = some c.D
  hf : ¬ hv.ownBlock = some c.F
theorem ScrW.keepX {w : World} {F base : Nat} {X Y : Nat → Prop} {d : SD} {gv : Value} {rv : Nat → Value} {hv bv : Value} (h : ScrW w F base X d gv rv hv bv) (hY : ∀ k, Y k → k < w.heap.size ∧ ¬ WFoot d gv rv bv k) : ScrW w F base Y d gv rv hv bv :=
  ⟨h.box, h.grid, h.row, h.apart, h.back, h.below, h.top, hY⟩
section
variable {w w' : World} {c : Fc} {h : List Int} {d : SD} {hv gv : Value} {rv : Nat → Value} {bv : Value}
theorem FkAt.ext (k : FkAt w c h d hv gv rv bv) (he : Ext w w') : FkAt w' c h d hv gv rv bv :=
  ⟨he.kept k.blk, he.owns k.held, k.scr.ext he, k.df, k.kp, k.hd, k.hf⟩
theorem FkAt.scrGo {d' : SD} {gv' : Value} {rv' : Nat → Value} {bv' : Value} (k : FkAt w c h d hv gv rv bv) (hs : ScrW w' c.F c.base (fun k => c.keep k ∨ k = c.D ∨ hv.ownBlock = some k) d' gv' rv' c.hv bv') (hf : FrW c.F c.base (fun k => c.keep k ∨ k = c.D ∨ hv.ownBlock = some k) w w') : FkAt w' c h d' hv gv' rv' bv' ∧ FrF c w w' := by
  refine ⟨⟨hf.kept k.blk ?_, hf.owns k.held ?_, hs, k.df, k.kp, k.hd, k.hf⟩, Fr.mono hf ?_⟩
  · rintro (e | ⟨_, e⟩)
    · exact k.df e
    · exact e (.inr (.inl rfl))
  · rintro g hg (e | ⟨_, e⟩)
    · exact k.hf (e ▸ hg)
    · exact e (.inr (.inr hg))
  · rintro q (e | ⟨e1, e2⟩)
    · exact .inr (.inl e)
    · exact .inr (.inr ⟨e1, fun x => e2 (.inl x)⟩)
end
set_option maxRecDepth 10000 in
set_option maxHeartbeats 1000000 in
theorem hold_fk {c : Fc} {h : List Int} {d : SD} {hv gv : Value} {rv : Nat → Value} {bv : Value} (b : Int) (w : World) (H : FkAt w c h d hv gv rv bv) (hl : h.length ≤ 4194304) :
    Calls Tryz.prog 112 #[.pointer (some ⟨c.D, 0, none⟩), .int .u8 b] w fun e w' => e = .returned (.tuple #[]) ∧ (∃ hv', FkAt w' c (h ++ [b]) d hv' gv rv bv) ∧ FrF c w w' := by
  obtain ⟨i0, hi, hz0, hz1, hz2⟩ := info_parts infoByteA
  have c0 : w.cell? ⟨c.D, 0, none⟩ = some hv := cells_of H.blk 0 _ rfl
  have c0a : ∀ o, (w.alloc o).cell? ⟨c.D, 0, none⟩ = some hv := fun o => ((Ext.refl w).alloc o).cell c0
  have hbz := H.scr.top
  have HH := hide H
  clear H
  go_enter Tryz.func112, Tryz.ntmps112
  go_wp2_with (at_builtin; go_must (refine wpList_append_lies _ rfl _ _ 22 rfl c.base 5 i0 (.int .u8 0) 1 1 Tryz.underlying22 hi hz0 hz1 hz2 rfl (by decide) _ _ _ rfl (((Ext.refl w).alloc _).owns (unhide HH).held) ⟨w.heap.size, 0, none⟩ 1 1 (([b]).map (Value.int .u8)) rfl rfl (news_cells _ _) (ints_oneCell _ _) (by omega) ?_ ?_ ?_ _ rfl ?_))
  · unfold maxLen; omega
  · omega
  · simp; omega
  · intro g' cap' w3 hown' hgrow hat _
    have H := unhide HH
    have hat2 : hv.ownBlock = some g' ∨ w.heap.size ≤ g' := hat.imp id (fun e => by rw [e]; simp)
    have fr3 : Fr (fun k => hv.ownBlock = some k) w w3 := Fr.grown (Fr.of_ext ((Ext.refl w).alloc _)) hgrow (fun k hk => hk)
    have b3 := fr3.kept H.blk H.hd
    have s3 := H.scr.fr fr3 H.hf (fun g hg e => (H.scr.kept g (.inr (.inr e))).2 hg)
    have k0 : w3.cell? ⟨c.D, 0, none⟩ = some hv := cells_of b3 0 _ rfl
    have kf : w3.frozen? ⟨c.D, 0, none⟩ = false := Lib.frozen_of_heap b3 0
    have z3 := fr3.size
    have HB3 := hide b3
    have HS3 := hide s3
    have HO3 := hide hown'
    have FR3 := hide fr3
    have HA3 := hide hat2
    clear hown' hgrow b3 s3 fr3 hat hat2 H
    go_wp2
    go_end0
    have H := unhide HH
    have hDl : c.D < w.heap.size := lt_of_block H.blk
    have fs : Fr (fun q => q = c.D) w3 (w3.setCell ⟨c.D, 0, none⟩ (.slice (some ⟨g', 0, none⟩) (h.length + 1) cap')) := Fr.setCell (S := fun q => q = c.D) (Fr.refl _ _) (a := ⟨c.D, 0, none⟩) rfl _
    have hg1 : g' < w3.heap.size := ((unhide HO3).lt g' rfl).2
    have no : ∀ k, ¬ hv.ownBlock = some k → k < w.heap.size → ¬ Value.ownBlock (.slice (some ⟨g', 0, none⟩) (h.length + 1) cap') = some k := fun k hk hl e => by
      have e2 : g' = k := by simpa [Value.ownBlock] using e
      rcases unhide HA3 with e3 | e3
      · exact hk (by rw [e3, e2])
      · omega
    have hF := H.scr.below.1
    have z4 := fs.size
    refine ⟨rfl, ⟨_, set_blk2 (unhide HB3) rfl, ?_, ?_, H.df, fun k hk => ⟨(H.kp k hk).1, (H.kp k hk).2.1, no k (H.kp k hk).2.2 (H.scr.kept k (.inl hk)).1⟩, no _ H.hd hDl, no _ H.hf hF⟩, ?_⟩
    · have := fs.owns (unhide HO3) (fun g hg e => no c.D H.hd hDl (e ▸ hg))
      simpa using this
    · refine ((unhide HS3).fr fs (fun e => H.df e.symm) (fun g hg e => (H.scr.kept c.D (.inr (.inl rfl))).2 (e ▸ hg))).keepX (fun k hk => ?_)
      rcases hk with hk | hk | hk
      · exact ⟨by have := (H.scr.kept k (.inl hk)).1; omega, (H.scr.kept k (.inl hk)).2⟩
      · exact ⟨by omega, (H.scr.kept k (.inr (.inl hk))).2⟩
      · have e2 : g' = k := by simpa [Value.ownBlock] using hk
        rcases unhide HA3 with e3 | e3
        · exact ⟨by omega, (H.scr.kept k (.inr (.inr (by rw [e3, e2])))).2⟩
        · exact ⟨by omega, fun hw => by have := (H.scr.foot hw).2; omega⟩
    · exact Fr.tr (Fr.mono (unhide FR3) (fun k hk => .inr (.inr ⟨(H.held.lt k hk).1, fun hx => (H.kp k hx).2.2 hk⟩))) (Fr.mono fs (fun k hk => .inl hk))
set_option maxRecDepth 10000 in
set_option maxHeartbeats 1000000 in
theorem release_fk {c : Fc} {h : List Int} {d : SD} {hv gv : Value} {rv : Nat → Value} {bv : Value} (w : World) (H : FkAt w c h d hv gv rv bv) :
    Calls Tryz.prog 115 #[.pointer (some ⟨c.D, 0, none⟩)] w fun e w' => e = .returned hv ∧ w'.ownsRow c.base 5 1 hv h.length (h.map (Value.int .u8)) ∧ FkAt w' { c with keep := fun k => c.keep k ∨ hv.ownBlock = some k } [] d (.slice none 0 0) gv rv bv ∧ FrF c w w' := by
  have c0 : w.cell? ⟨c.D, 0, none⟩ = some hv := cells_of H.blk 0 _ rfl
  have cf : w.frozen? ⟨c.D, 0, none⟩ = false := Lib.frozen_of_heap H.blk 0
  have HH := hide H
  clear H
  go_enter Tryz.func115, Tryz.ntmps115
  go_wp2
  go_ret
  have H := unhide HH
  have fs : Fr (fun q => q = c.D) w (w.setCell ⟨c.D, 0, none⟩ (.slice none 0 0)) := Fr.setCell (S := fun q => q = c.D) (Fr.refl _ _) (a := ⟨c.D, 0, none⟩) rfl _
  have zs := fs.size
  have s1 := H.scr.fr fs (fun e => H.df e.symm) (fun g hg e => (H.scr.kept c.D (.inr (.inl rfl))).2 (e ▸ hg))
  refine ⟨rfl, fs.owns H.held (fun g hg e => H.hd (e ▸ hg)), ⟨set_blk2 H.blk rfl, ⟨by simp, .inl ⟨rfl, rfl⟩⟩, s1.keepX (fun k hk => ?_), H.df, fun k hk => ?_, by simp [Value.ownBlock], by simp [Value.ownBlock]⟩, Fr.mono fs (fun k hk => .inl hk)⟩
  · rcases hk with (hk | hk) | hk | hk
    · exact s1.kept k (.inl hk)
    · exact s1.kept k (.inr (.inr hk))
    · exact s1.kept k (.inr (.inl hk))
    · simp [Value.ownBlock] at hk
  · refine ⟨?_, ?_, by simp [Value.ownBlock]⟩
    · rcases hk with hk | hk
      · exact (H.kp k hk).1
      · exact fun e => H.hd (e ▸ hk)
    · rcases hk with hk | hk
      · exact (H.kp k hk).2.1
      · exact fun e => H.hf (e ▸ hk)
theorem FkAt.unkeep {w : World} {c : Fc} {Y : Nat → Prop} {h : List Int} {d : SD} {hv gv : Value} {rv : Nat → Value} {bv : Value} (k : FkAt w { c with keep := Y } h d hv gv rv bv) (hY : ∀ q, c.keep q → Y q) : FkAt w c h d hv gv rv bv :=
  ⟨k.blk, k.held, k.scr.keepX (fun q hq => k.scr.kept q (by
    rcases hq with hq | hq | hq
    · exact .inl (hY q hq)
    · exact .inr (.inl hq)
    · exact .inr (.inr hq))), k.df, fun q hq => k.kp q (hY q hq), k.hd, k.hf⟩
end Go.Proofs.YtinfdhbnljnifaaGreatDoor

namespace Go.Proofs.YtinfdhbnljnifaaGreatDoor
open Go.RowKit Go.Deep
def Room (d : SD) (n : Nat) : Prop := OkP d ∧ (∃ M, WtB d M ∧ 200 ≤ M ∧ M + 4 * n ≤ 1073741824) ∧ d.nb + n ≤ 16777216
theorem Room.mono {d : SD} {n m : Nat} (h : Room d n) (hm : m ≤ n) : Room d m := by
  obtain ⟨h1, ⟨M, h2, h3, h4⟩, h5⟩ := h
  exact ⟨h1, ⟨M, h2, h3, by omega⟩, by omega⟩
theorem Room.acts {d : SD} {n : Nat} {l : List FAct} (h : Room d (n + l.length)) : Room (d.acts rowT l) n := by
  obtain ⟨h1, ⟨M, h2, h3, h4⟩, h5⟩ := h
  obtain ⟨r1, r2, r3⟩ := acts_bd rowT l h1 h2 h3
  exact ⟨r1, ⟨_, r2, by omega, by omega⟩, by omega⟩
theorem Room.act {d : SD} {n : Nat} (h : Room d (n + 1)) (a : FAct) : Room (d.act rowT a) n := Room.acts (l := [a]) h
theorem fdH_count (s : List Int) : (fd s).1.length + (fdH s).length ≤ s.length := by
  have h1 := gR_count fdStep_n fdStep_c s.length s (Nat.le_refl _)
  have h2 := gH_len fdStep_n s
  have e1 : (fd s).1 = (gR fdStep s).1 := rfl
  have e2 : fdH s = gH fdStep s := rfl
  rw [e1, e2]
  omega
theorem fd_snoc (t : List Int) (x : Int) : (fd (t ++ [x])).1 = (fd t).1 ++ (fd (fdH t ++ [x])).1 ∧ fdH (t ++ [x]) = fdH (fdH t ++ [x]) := gR_snoc fdStep_n fdStep_more t x
theorem fdH_bytes {s : List Int} (h : Bytes s) : Bytes (fdH s) := fun n hn => h n (List.mem_of_mem_drop hn)
def grF (q : Nat) : Value := .func (.func 111) #[] #[ptr q, ptr (q + 2), ptr (q + 4)]
def esF (q : Nat) : Value := .func (.func 114) #[] #[ptr q, ptr (q + 1), ptr (q + 3)]
def beF (q : Nat) : Value := .func (.func 116) #[] #[ptr q, ptr (q + 3), ptr (q + 1)]
def bgF (r : Nat) : Value := .func (.func 165) #[] #[ptr r, ptr (r + 3), ptr (r + 2), ptr (r + 1)]
structure StsF (w : World) (D F q r : Nat) : Prop where
  d : Bx w q 133 (ptr D)
  gr : Bx w (q + 1) 79 (grF q)
  es : Bx w (q + 2) 79 (esF q)
  be : Bx w (q + 3) 79 (beF q)
  bg : Bx w (q + 4) 79 (bgF r)
  h : Bx w r 185 (ptr D)
  g2 : Bx w (r + 1) 79 (grF q)
  fo : Bx w (r + 2) 71 (showF F)
  b2 : Bx w (r + 3) 79 (bgF r)
structure FW (w : World) (c : Fc) (h : List Int) (d : SD) : Prop where
  fk : ∃ hv gv rv bv, FkAt w c h d hv gv rv bv
  sts : StsF w c.D c.F c.q c.r
  ks : ∀ k, ((c.q ≤ k ∧ k ≤ c.q + 4) ∨ (c.r ≤ k ∧ k ≤ c.r + 3) ∨ k = 1 ∨ k = 2 ∨ k = 0) → c.keep k
  tabs : Tabs3 w
def FStp (c : Fc) (h : List Int) (d : SD) (w : World) (v : Value) (e : Ending) (w' : World) : Prop := e = .returned v ∧ FW w' c h d ∧ FrF c w w'
theorem cell_fr {S : Nat → Prop} {w w' : World} (hf : Fr S w w') (g o : Nat) (v : Value) (hg : ¬ S g) (hc : w.cell? ⟨g, o, none⟩ = some v) : w'.cell? ⟨g, o, none⟩ = some v := by
  have hl := lt_of_cell hc
  have hb := hf.block g hl hg
  have e : ∀ W : World, W.cell? ⟨g, o, none⟩ = (W.heap[g]?).bind (fun ob => match ob with | .cells cs _ _ => cs[o]? | _ => none) := fun W => by
    simp only [World.cell?]
    cases W.heap[g]? with
    | none => rfl
    | some ob => cases ob <;> rfl
  rw [e, hb, ← e]
  exact hc
theorem Tabs3.frX {S : Nat → Prop} {w w' : World} (h : Tabs3 w) (hf : Fr S w w') (h1 : ¬ S 1) (h2 : ¬ S 2) (h3 : ¬ S 0) : Tabs3 w' := by
  obtain ⟨hl, hu⟩ := h
  refine ⟨fun m hm => ?_, fun c hc => cell_fr hf _ _ _ h1 (hu.1 c hc), fun i hi => ⟨cell_fr hf _ _ _ h2 (hu.2 i hi).1, cell_fr hf _ _ _ h2 (hu.2 i hi).2⟩⟩
  exact ⟨cell_fr hf _ _ _ h3 (hl m hm).1, cell_fr hf _ _ _ h3 (hl m hm).2.1, cell_fr hf _ _ _ h3 (hl m hm).2.2⟩
theorem FW.go {w w' : World} {c : Fc} {h h' : List Int} {d d' : SD} (k : FW w c h d) (hf : FrF c w w') (hk : ∃ hv gv rv bv, FkAt w' c h' d' hv gv rv bv) : FW w' c h' d' := by
  obtain ⟨_, _, _, _, k0⟩ := k.fk
  have no : ∀ q, c.keep q → ¬ (q = c.D ∨ q = c.F ∨ (c.base ≤ q ∧ ¬ c.keep q)) := fun q hq x => by
    rcases x with x | x | x
    · exact (k0.kp q hq).1 x
    · exact (k0.kp q hq).2.1 x
    · exact x.2 hq
  have nq : ∀ j, j ≤ 4 → ¬ (c.q + j = c.D ∨ c.q + j = c.F ∨ (c.base ≤ c.q + j ∧ ¬ c.keep (c.q + j))) := fun j hj => no _ (k.ks _ (.inl ⟨by omega, by omega⟩))
  have nr : ∀ j, j ≤ 3 → ¬ (c.r + j = c.D ∨ c.r + j = c.F ∨ (c.base ≤ c.r + j ∧ ¬ c.keep (c.r + j))) := fun j hj => no _ (k.ks _ (.inr (.inl ⟨by omega, by omega⟩)))
  have s := k.sts
  exact ⟨hk, ⟨s.d.fr hf (nq 0 (by omega)), s.gr.fr hf (nq 1 (by omega)), s.es.fr hf (nq 2 (by omega)), s.be.fr hf (nq 3 (by omega)), s.bg.fr hf (nq 4 (by omega)), s.h.fr hf (nr 0 (by omega)), s.g2.fr hf (nr 1 (by omega)), s.fo.fr hf (nr 2 (by omega)), s.b2.fr hf (nr 3 (by omega))⟩, k.ks, k.tabs.frX hf (no _ (k.ks _ (.inr (.inr (.inl rfl))))) (no _ (k.ks _ (.inr (.inr (.inr (.inl rfl)))))) (no _ (k.ks _ (.inr (.inr (.inr (.inr rfl))))))⟩
theorem FW.ext {w w' : World} {c : Fc} {h : List Int} {d : SD} (k : FW w c h d) (he : Ext w w') : FW w' c h d := by
  obtain ⟨hv, gv, rv, bv, k0⟩ := k.fk
  exact k.go (Fr.of_ext he) ⟨hv, gv, rv, bv, k0.ext he⟩
theorem FW.keepY {w : World} {c : Fc} {h : List Int} {d : SD} {Y : Nat → Prop} (k : FW w c h d) (hd : ∃ hv gv rv bv, FkAt w { c with keep := Y } h d hv gv rv bv) (hY : ∀ q, c.keep q → Y q) : FW w { c with keep := Y } h d :=
  ⟨hd, k.sts, fun q hq => hY q (k.ks q hq), k.tabs⟩
theorem FW.unkeep {w : World} {c : Fc} {h : List Int} {d : SD} {Y : Nat → Prop} (k : FW w { c with keep := Y } h d) (k0 : ∀ q, ((c.q ≤ q ∧ q ≤ c.q + 4) ∨ (c.r ≤ q ∧ q ≤ c.r + 3) ∨ q = 1 ∨ q = 2 ∨ q = 0) → c.keep q) (hY : ∀ q, c.keep q → Y q) : FW w c h d := by
  obtain ⟨hv, gv, rv, bv, k1⟩ := k.fk
  exact ⟨⟨hv, gv, rv, bv, k1.unkeep hY⟩, k.sts, k0, k.tabs⟩
def Fc.mode (c : Fc) (h : List Int) : Value := if h = [] then grF c.q else if at0 h 0 = 27 then (if h.length = 1 then esF c.q else beF c.q) else bgF c.r
def StF (v : Value) (b : Int) (w : World) (Q : Ending → World → Prop) : Prop :=
  ∃ (F : FuncId) (caps : List Value), v = .func (.func F) #[] caps.toArray ∧ (∀ (args : Array Value) (w : World), (callFunc F args).run Tryz.prog w = .ok (.enter F args) w) ∧ Calls Tryz.prog F (Value.int .u8 b :: caps).toArray w Q
theorem StF.mono {v : Value} {b : Int} {w : World} {Q Q' : Ending → World → Prop} (h : StF v b w Q) (hQ : ∀ e w', Q e w' → Q' e w') : StF v b w Q' := by
  obtain ⟨F, caps, h1, h2, h3⟩ := h
  exact ⟨F, caps, h1, h2, h3.mono hQ⟩
def StepAt (c : Fc) (h : List Int) : Prop := ∀ (b : Int) (d : SD) (w : World), FW w c h d → Bytes (h ++ [b]) → Room d (h.length + 1) →
  StF (c.mode h) b w (FStp c (fdH (h ++ [b])) (d.acts rowT (fd (h ++ [b])).1) w (c.mode (fdH (h ++ [b]))))
def Rd (c : Fc) (s : List Int) (d0 : SD) (w0 wr : World) (v : Value) : Prop :=
  v = c.mode (fdH s) ∧ FW wr c (fdH s) (d0.acts rowT (fd s).1) ∧ FrF c w0 wr
theorem rd_start {c : Fc} {d0 : SD} {w : World} (k : FW w c [] d0) : Rd c [] d0 w w (c.mode []) := ⟨rfl, k, Fr.refl _ _⟩
theorem take_at0 (t : List Int) (k : Nat) (h : k < t.length) : t.take (k + 1) = t.take k ++ [at0 t k] := by
  rw [List.take_succ_eq_append_getElem h]
  simp [at0, h]
theorem rd_step {c : Fc} {s : List Int} {d0 : SD} {w0 wr : World} {v : Value} (h : Rd c s d0 w0 wr v) (x : Int) (hb : Bytes (s ++ [x])) (hr : Room d0 (s.length + 1))
    (ih : ∀ (h' : List Int), h'.length ≤ s.length → fdStep h' = none → StepAt c h') : StF v x wr (fun e w' => ∃ v', e = .returned v' ∧ Rd c (s ++ [x]) d0 w0 w' v') := by
  obtain ⟨rfl, k, f⟩ := h
  have hn := fdH_count s
  have hbs : Bytes s := fun n hn => hb n (List.mem_append_left _ hn)
  have hb2 : Bytes (fdH s ++ [x]) := fun n hn => by
    rcases List.mem_append.1 hn with h | h
    · exact fdH_bytes hbs n h
    · exact hb n (List.mem_append_right _ h)
  have st := ih (fdH s) (by omega) (fdH_none s) x _ wr k hb2 (Room.acts (hr.mono (by omega)))
  obtain ⟨e1, e2⟩ := fd_snoc s x
  refine st.mono ?_
  rintro e w' ⟨rfl, k', f'⟩
  refine ⟨_, rfl, ?_, ?_, Fr.tr f f'⟩
  · rw [e2]
  · rw [e1, e2, acts_app]
    exact k'
end Go.Proofs.YtinfdhbnljnifaaGreatDoor

namespace Go.Proofs.YtinfdhbnljnifaaGreatDoor
open Go.RowKit
section
variable {F base : Nat} {X : Nat → Prop} {d : SD} {hv : Value}
theorem Room.down {n : Nat} (h : Room d (n + 1)) : DownOk d := by
  obtain ⟨h1, ⟨M, h2, h3, h4⟩, h5⟩ := h
  have hs := size_bd h1
  have := h1.R
  have := h2 0 (by omega)
  exact ⟨h1, by omega, by omega⟩
theorem join_e (w : World) (h : ScrE w F base X d hv) (hk : OkP d) (r : Int) :
    Calls Tryz.prog 105 #[.pointer (some ⟨F, 0, none⟩), .int .i32 r] w fun e w' => e = .returned (.tuple #[]) ∧ ScrE w' F base X (d.mark (toBA (encR r))) hv ∧ FrW F base X w w' := by
  obtain ⟨gv, rv, bv, h⟩ := h
  by_cases hm : d.mkAt < 0
  · exact (join_none w h hk r hm).mono (fun e w' ⟨h1, h2, h3⟩ => ⟨h1, ⟨_, _, _, h2⟩, h3⟩)
  · exact (join_some w h hk r hm).mono (fun e w' ⟨h1, h2, h3⟩ => ⟨h1, ⟨_, _, _, h2⟩, h3⟩)
set_option maxRecDepth 10000 in
set_option maxHeartbeats 4000000 in
theorem show_any (w : World) (h : ScrE w F base X d hv) (hr : Room d 1) (r : Int) (h0 : -2147483648 ≤ r) (h1 : r ≤ 2147483647) (hL : Laid w) :
    Calls Tryz.prog 47 #[.pointer (some ⟨F, 0, none⟩), .int .i32 r] w fun e w' => e = .returned (.tuple #[]) ∧ ScrE w' F base X (d.shw rowT r) hv ∧ FrW F base X w w' := by
  have HW := hide (implRW_any r w h0 h1 hL)
  have HE := hide h
  have HR := hide hr
  have HC := hide (fun W => isControl_any r W)
  clear h hr hL
  by_cases h13 : r = 13
  · have hbb : (r == 13) = true := by simp [h13]
    have HEq : Hid (d.shw rowT r = { d with col := 0, late := false }) := hide (by unfold SD.shw; rw [if_pos h13])
    obtain ⟨wd, hwd⟩ : ∃ x, wid r = x := ⟨_, rfl⟩
    rw [hwd] at HW
    clear hwd hbb
    subst h13
    go_enter Tryz.func47, Tryz.ntmps47
    go_wp2_with fail
    refine (unhide HW).mono ?_
    rintro e w1 ⟨rfl, hb1⟩
    have E1 := Ext.of_below hb1
    obtain ⟨gv, rv, bv, hs0⟩ := unhide HE
    have HE1 : Hid (ScrE w1 F base X d hv) := hide ⟨gv, rv, bv, hs0.ext E1⟩
    have HX1 := hide E1
    clear hb1 E1 hs0 HW HE
    have HN := hide (carriageReturn_e w1 (unhide HE1))
    clear HE1
    go_wp2_with fail
    refine (unhide HN).mono ?_
    rintro e w2 ⟨rfl, h2, f2⟩
    have H2 := hide h2
    have F2 := hide (Fr.tr (Fr.of_ext (unhide HX1)) f2)
    clear h2 f2 HN
    go_wp2
    go_end0
    refine ⟨rfl, ?_, unhide F2⟩
    have hfin := unhide H2
    rw [← unhide HEq] at hfin
    exact hfin
  · have hb13 : (r == 13) = false := by simp [h13]
    by_cases h10 : r = 10
    · have hb10 : (r == 10) = true := by simp [h10]
      have HEq : Hid (d.shw rowT r = d.down rowT) := hide (by unfold SD.shw; rw [if_neg h13, if_pos h10])
      obtain ⟨wd, hwd⟩ : ∃ x, wid r = x := ⟨_, rfl⟩
      rw [hwd] at HW
      clear hwd hb10 hb13 h13
      subst h10
      go_enter Tryz.func47, Tryz.ntmps47
      go_wp2_with fail
      refine (unhide HW).mono ?_
      rintro e w1 ⟨rfl, hb1⟩
      have E1 := Ext.of_below hb1
      obtain ⟨gv, rv, bv, hs0⟩ := unhide HE
      have HE1 : Hid (ScrE w1 F base X d hv) := hide ⟨gv, rv, bv, hs0.ext E1⟩
      have HX1 := hide E1
      clear hb1 E1 hs0 HW HE
      have HN := hide (lineFeed_any w1 (unhide HE1) (unhide HR).down)
      clear HE1
      go_wp2_with fail
      refine (unhide HN).mono ?_
      rintro e w2 ⟨rfl, h2, f2⟩
      have H2 := hide h2
      have F2 := hide (Fr.tr (Fr.of_ext (unhide HX1)) f2)
      clear h2 f2 HN
      go_wp2
      go_end0
      refine ⟨rfl, ?_, unhide F2⟩
      have hfin := unhide H2
      rw [← unhide HEq] at hfin
      exact hfin
    · have hb10 : (r == 10) = false := by simp [h10]
      by_cases hct : r < 32 ∨ (127 ≤ r ∧ r ≤ 159)
      · have HCT : Hid (isCtl r = true) := hide (by unfold isCtl; simp; omega)
        have HEq : Hid (d.shw rowT r = d) := hide (by unfold SD.shw; rw [if_neg h13, if_neg h10, if_pos hct])
        clear hct
        go_enter Tryz.func47, Tryz.ntmps47
        go_wp2_with fail
        refine (unhide HW).mono ?_
        rintro e w1 ⟨rfl, hb1⟩
        have E1 := Ext.of_below hb1
        obtain ⟨gv, rv, bv, hs0⟩ := unhide HE
        have HE1 : Hid (ScrE w1 F base X d hv) := hide ⟨gv, rv, bv, hs0.ext E1⟩
        have HX1 := hide E1
        clear hb1 E1 hs0 HW HE
        go_wp2_with fail
        refine ((unhide HC) _).mono ?_
        rintro e w3 ⟨rfl, rfl⟩
        rw [unhide HCT]
        go_wp2
        go_end0
        exact ⟨rfl, by rw [unhide HEq]; exact unhide HE1, Fr.of_ext (unhide HX1)⟩
      · have HCT : Hid (isCtl r = false) := hide (by unfold isCtl; simp; omega)
        by_cases hw0 : wid r = 0
        · have hbw : (wid r == 0) = true := by simp [hw0]
          have HEq : Hid (d.shw rowT r = d.mark (toBA (encR r))) := hide (by unfold SD.shw; rw [if_neg h13, if_neg h10, if_neg hct, if_pos hw0])
          clear hct
          go_enter Tryz.func47, Tryz.ntmps47
          go_wp2_with fail
          refine (unhide HW).mono ?_
          rintro e w1 ⟨rfl, hb1⟩
          have E1 := Ext.of_below hb1
          obtain ⟨gv, rv, bv, hs0⟩ := unhide HE
          have HE1 : Hid (ScrE w1 F base X d hv) := hide ⟨gv, rv, bv, hs0.ext E1⟩
          have HX1 := hide E1
          clear hb1 E1 hs0 HW HE
          go_wp2_with fail
          refine ((unhide HC) _).mono ?_
          rintro e w3 ⟨rfl, rfl⟩
          rw [unhide HCT]
          have HN := hide (join_e w3 (unhide HE1) (unhide HR).1 r)
          go_wp2_with fail
          refine (unhide HN).mono ?_
          rintro e w2 ⟨rfl, h2, f2⟩
          have H2 := hide h2
          have F2 := hide (Fr.tr (Fr.of_ext (unhide HX1)) f2)
          clear h2 f2 HN
          go_wp2
          go_end0
          refine ⟨rfl, ?_, unhide F2⟩
          have hfin := unhide H2
          rw [← unhide HEq] at hfin
          exact hfin
        · have HEq : Hid (d.shw rowT r = d.put rowT (toBA (encR r)) (wid r)) := hide (by unfold SD.shw; rw [if_neg h13, if_neg h10, if_neg hct, if_neg hw0])
          have hbw : (wid r == 0) = false := by simp [hw0]
          rcases wid_three r with hw | hw | hw
          · exact absurd hw hw0
          · rw [hw] at HEq HW
            clear hct hw0 hbw hw
            go_enter Tryz.func47, Tryz.ntmps47
            go_wp2_with fail
            refine (unhide HW).mono ?_
            rintro e w1 ⟨rfl, hb1⟩
            have E1 := Ext.of_below hb1
            obtain ⟨gv, rv, bv, hs0⟩ := unhide HE
            have HE1 : Hid (ScrE w1 F base X d hv) := hide ⟨gv, rv, bv, hs0.ext E1⟩
            have HX1 := hide E1
            clear hb1 E1 hs0 HW HE
            go_wp2_with fail
            refine ((unhide HC) _).mono ?_
            rintro e w3 ⟨rfl, rfl⟩
            rw [unhide HCT]
            have HN := hide (put_1 w3 (unhide HE1) (unhide HR).down r)
            go_wp2_with fail
            refine (unhide HN).mono ?_
            rintro e w2 ⟨rfl, h2, f2⟩
            have H2 := hide h2
            have F2 := hide (Fr.tr (Fr.of_ext (unhide HX1)) f2)
            clear h2 f2 HN
            go_wp2
            go_end0
            refine ⟨rfl, ?_, unhide F2⟩
            have hfin := unhide H2
            rw [← unhide HEq] at hfin
            exact hfin
          · rw [hw] at HEq HW
            clear hct hw0 hbw hw
            go_enter Tryz.func47, Tryz.ntmps47
            go_wp2_with fail
            refine (unhide HW).mono ?_
            rintro e w1 ⟨rfl, hb1⟩
            have E1 := Ext.of_below hb1
            obtain ⟨gv, rv, bv, hs0⟩ := unhide HE
            have HE1 : Hid (ScrE w1 F base X d hv) := hide ⟨gv, rv, bv, hs0.ext E1⟩
            have HX1 := hide E1
            clear hb1 E1 hs0 HW HE
            go_wp2_with fail
            refine ((unhide HC) _).mono ?_
            rintro e w3 ⟨rfl, rfl⟩
            rw [unhide HCT]
            have HN := hide (put_2 w3 (unhide HE1) (unhide HR).down r)
            go_wp2_with fail
            refine (unhide HN).mono ?_
            rintro e w2 ⟨rfl, h2, f2⟩
            have H2 := hide h2
            have F2 := hide (Fr.tr (Fr.of_ext (unhide HX1)) f2)
            clear h2 f2 HN
            go_wp2
            go_end0
            refine ⟨rfl, ?_, unhide F2⟩
            have hfin := unhide H2
            rw [← unhide HEq] at hfin
            exact hfin
end
end Go.Proofs.YtinfdhbnljnifaaGreatDoor

namespace Go.Proofs.YtinfdhbnljnifaaGreatDoor
open Go.RowKit
def numF (ds : List Int) (k : Nat) : Int := (ds.take k).foldl (fun n b => n * 10 + (b - 48)) 0
theorem numF_succ (ds : List Int) (k : Nat) (h : k < ds.length) : numF ds (k + 1) = numF ds k * 10 + (at0 ds k - 48) := by
  unfold numF
  rw [take_at0 ds k h, List.foldl_append]
  rfl
theorem numF_bd (ds : List Int) : ∀ k, k ≤ ds.length → (∀ j, j < k → 48 ≤ at0 ds j ∧ at0 ds j ≤ 57) → 0 ≤ numF ds k ∧ numF ds k + 1 ≤ ((10 ^ k : Nat) : Int)
  | 0, _, _ => by unfold numF; simp
  | k + 1, hk, hb => by
    have ih := numF_bd ds k (by omega) (fun j hj => hb j (by omega))
    have := hb k (by omega)
    rw [numF_succ ds k (by omega), Nat.pow_succ]
    omega
theorem numF_9999 (ds : List Int) (k : Nat) (hk : k ≤ ds.length) (h4 : k ≤ 4) (hb : ∀ j, j < k → 48 ≤ at0 ds j ∧ at0 ds j ≤ 57) : 0 ≤ numF ds k ∧ numF ds k ≤ 9999 := by
  have h1 := numF_bd ds k hk hb
  have h2 : 10 ^ k ≤ 10 ^ 4 := Nat.pow_le_pow_right (by decide) h4
  have h3 : (10 : Nat) ^ 4 = 10000 := rfl
  omega
theorem numS_long (ds : List Int) (h : 4 < ds.length) : numS ds = -1 := by unfold numS; rw [if_pos (.inl h)]
theorem at0_mem (ds : List Int) (k : Nat) (h : k < ds.length) : at0 ds k ∈ ds := by
  have : at0 ds k = ds[k] := by simp [at0, h]
  rw [this]
  exact List.getElem_mem h
theorem numS_bad (ds : List Int) (k : Nat) (h : k < ds.length) (hb : 57 < at0 ds k) : numS ds = -1 := by
  unfold numS
  rw [if_pos (.inr (by rw [List.any_eq_true]; exact ⟨_, at0_mem ds k h, by simpa using hb⟩))]
theorem numS_good (ds : List Int) (h : ds.length ≤ 4) (hb : ∀ j, j < ds.length → at0 ds j ≤ 57) : numS ds = numF ds ds.length := by
  unfold numS numF
  rw [if_neg, List.take_length]
  rintro (h1 | h1)
  · omega
  · rw [List.any_eq_true] at h1
    obtain ⟨x, hx, hx2⟩ := h1
    obtain ⟨k, hk, rfl⟩ := List.mem_iff_getElem.1 hx
    have := hb k hk
    simp [at0, hk] at this
    simp at hx2
    omega
set_option maxRecDepth 10000 in
set_option maxHeartbeats 2000000 in
theorem seqNum_any (w : World) (v : Value) (ds : List Int) (hv : IntsAt w .u8 v ds) (hd : ∀ b ∈ ds, 48 ≤ b ∧ b ≤ 63) (hl : ds.length ≤ 1000) :
    Calls Tryz.prog 107 #[v] w fun e w' => ((numS ds < 0 ∧ e = .returned (.tuple #[.int .i64 0, .bool false])) ∨ (0 ≤ numS ds ∧ numS ds ≤ 9999 ∧ e = .returned (.tuple #[.int .i64 (numS ds), .bool true]))) ∧ w' = w := by
  obtain ⟨ao, cap, rfl, _, hr⟩ := hv
  by_cases h4 : 4 < ds.length
  · have h5 : (4 : Int) < (ds.length : Int) := by omega
    have HN := hide (numS_long ds h4)
    go_enter Tryz.func107, Tryz.ntmps107
    go_wp2
    exact bodyPost_ret (v := .tuple #[.int .i64 0, .bool false]) (by simp [results, Tryz.results107, go_sem]) rfl ⟨.inl ⟨by rw [unhide HN]; decide, rfl⟩, rfl⟩
  · have h5 : ¬ (4 : Int) < (ds.length : Int) := by omega
    have HR := hide hr
    have HD := hide hd
    clear hr hd
    go_enter Tryz.func107, Tryz.ntmps107
    go_wp2_with fail
    go_loopw [4, 12] (fun n i wr => ∃ k : Nat, k ≤ ds.length ∧ i = .int .i64 k ∧ n = .int .i64 (numF ds k) ∧ wr = w ∧ Hid (∀ j, j < k → at0 ds j ≤ 57)) (fun _ i _ => ds.length - (intOf i).toNat)
    case atStart => exact ⟨0, Nat.zero_le _, rfl, rfl, rfl, hide (fun j hj => by omega)⟩
    case round =>
      obtain ⟨k, hk, rfl, rfl, rfl, HJ⟩ := hrel
      have h9 := numF_9999 ds k hk (by omega) (fun j hj => ⟨((unhide HD) _ (at0_mem ds j (by omega))).1, (unhide HJ) j hj⟩)
      by_cases hlt : k < ds.length
      · have bk : (k : Int) < (ds.length : Int) := by omega
        obtain ⟨b, off, rfl, hc⟩ := (unhide HR) (by omega)
        have g1 := hc k hlt
        have hb := (unhide HD) _ (at0_mem ds k hlt)
        have b48 : ¬ at0 ds k < 48 := by omega
        have wu : IntKind.u8.wrap (at0 ds k - 48) = at0 ds k - 48 := by rw [IntKind.wrap_u8] <;> omega
        have wi : IntKind.i64.wrap (at0 ds k - 48) = at0 ds k - 48 := by rw [IntKind.wrap_i64] <;> omega
        clear hc
        by_cases h57 : 57 < at0 ds k
        · have HN := hide (numS_bad ds k hlt h57)
          clear wu wi
          go_wp2
          exact bodyPost_ret (v := .tuple #[.int .i64 0, .bool false]) (by simp [results, Tryz.results107, go_sem]) rfl ⟨.inl ⟨by rw [unhide HN]; decide, rfl⟩, rfl⟩
        · have w10 : IntKind.i64.wrap (numF ds k * 10) = numF ds k * 10 := by rw [IntKind.wrap_i64] <;> omega
          have wsum : IntKind.i64.wrap (numF ds k * 10 + (at0 ds k - 48)) = numF ds k * 10 + (at0 ds k - 48) := by rw [IntKind.wrap_i64] <;> omega
          have HS := hide (numF_succ ds k hlt)
          have HJ2 : Hid (∀ j, j < k + 1 → at0 ds j ≤ 57) := hide (fun j hj => by
            by_cases e : j = k
            · subst e; omega
            · exact (unhide HJ) j (by omega))
          go_wp2
          go_roundw
          case rel => exact ⟨k + 1, by omega, by go_num, by rw [unhide HS], by first | rfl | trivial, HJ2⟩
          case measure => simp [intOf]; omega
      · obtain rfl : k = ds.length := by omega
        have HN := hide (numS_good ds (by omega) (unhide HJ))
        have bk : ¬ (ds.length : Int) < (ds.length : Int) := by omega
        go_wp2
        exact bodyPost_ret (v := .tuple #[.int .i64 (numF ds ds.length), .bool true]) (by simp [results, Tryz.results107, go_sem]) rfl ⟨.inr ⟨by rw [unhide HN]; omega, by rw [unhide HN]; omega, by rw [unhide HN]⟩, rfl⟩
end Go.Proofs.YtinfdhbnljnifaaGreatDoor

namespace Go.Proofs.YtinfdhbnljnifaaGreatDoor
open Go.RowKit
set_option maxHeartbeats 1000000 in
theorem l2Into_any (v m : Int) (w : World) : Calls Tryz.prog 92 #[.int .i64 v, .int .i64 m] w fun e w' => e = .returned (.int .i64 (into v m)) ∧ w' = w := by
  unfold into
  by_cases h1 : v < 0
  · rw [if_pos h1]
    go_enter Tryz.func92, Tryz.ntmps92
    go_wp2
    go_ret
    exact ⟨rfl, rfl⟩
  · rw [if_neg h1]
    by_cases h2 : m < v
    · rw [if_pos h2]
      go_enter Tryz.func92, Tryz.ntmps92
      go_wp2
      go_ret
      exact ⟨rfl, rfl⟩
    · rw [if_neg h2]
      go_enter Tryz.func92, Tryz.ntmps92
      go_wp2
      go_ret
      exact ⟨rfl, rfl⟩
set_option maxRecDepth 10000 in
set_option maxHeartbeats 2000000 in
theorem l2Number_any (w : World) (v : Value) (ds : List Int) (hv : IntsAt w .u8 v ds) (hd : ∀ b ∈ ds, 48 ≤ b ∧ b ≤ 63) (hl : ds.length ≤ 1000) :
    Calls Tryz.prog 39 #[v] w fun e w' => e = .returned (.int .i64 (numS ds)) ∧ w' = w := by
  obtain ⟨ao, cap, rfl, _, hr⟩ := hv
  have HR := hide hr
  have HD := hide hd
  clear hr hd
  go_enter Tryz.func39, Tryz.ntmps39
  go_wp2_with fail
  go_loopw [3, 4] (fun n i wr => ∃ k : Nat, k ≤ ds.length ∧ i = .int .i64 k ∧ n = .int .i64 (numF ds k) ∧ wr = w ∧ Hid ((∀ j, j < k → at0 ds j ≤ 57) ∧ (0 < k → ds.length ≤ 4))) (fun _ i _ => ds.length - (intOf i).toNat)
  case atStart => exact ⟨0, Nat.zero_le _, rfl, rfl, rfl, hide ⟨fun j hj => by omega, fun h => by omega⟩⟩
  case round =>
    obtain ⟨k, hk, rfl, rfl, rfl, HJ⟩ := hrel
    by_cases hlt : k < ds.length
    · have bk : (k : Int) < (ds.length : Int) := by omega
      obtain ⟨b, off, rfl, hc⟩ := (unhide HR) (by omega)
      have g1 := hc k hlt
      have hb := (unhide HD) _ (at0_mem ds k hlt)
      clear hc
      by_cases h57 : 57 < at0 ds k
      · have HN := hide (numS_bad ds k hlt h57)
        go_wp2
        all_goals exact bodyPost_ret (v := .int .i64 (numS ds)) (by rw [unhide HN]; simp [results, Tryz.results39, go_sem]) rfl ⟨rfl, rfl⟩
      · by_cases h4 : 4 < ds.length
        · have h5 : (4 : Int) < (ds.length : Int) := by omega
          have HN := hide (numS_long ds h4)
          go_wp2
          all_goals exact bodyPost_ret (v := .int .i64 (numS ds)) (by rw [unhide HN]; simp [results, Tryz.results39, go_sem]) rfl ⟨rfl, rfl⟩
        · have h5 : ¬ (4 : Int) < (ds.length : Int) := by omega
          have h9 := numF_9999 ds k hk (by omega) (fun j hj => ⟨((unhide HD) _ (at0_mem ds j (by omega))).1, (unhide HJ).1 j hj⟩)
          have wu : IntKind.u8.wrap (at0 ds k - 48) = at0 ds k - 48 := by rw [IntKind.wrap_u8] <;> omega
          have wi : IntKind.i64.wrap (at0 ds k - 48) = at0 ds k - 48 := by rw [IntKind.wrap_i64] <;> omega
          have w10 : IntKind.i64.wrap (numF ds k * 10) = numF ds k * 10 := by rw [IntKind.wrap_i64] <;> omega
          have wsum : IntKind.i64.wrap (numF ds k * 10 + (at0 ds k - 48)) = numF ds k * 10 + (at0 ds k - 48) := by rw [IntKind.wrap_i64] <;> omega
          have HS := hide (numF_succ ds k hlt)
          have HJ2 : Hid ((∀ j, j < k + 1 → at0 ds j ≤ 57) ∧ (0 < k + 1 → ds.length ≤ 4)) := hide ⟨fun j hj => by
            by_cases e : j = k
            · subst e; omega
            · exact (unhide HJ).1 j (by omega), fun _ => by omega⟩
          go_wp2
          go_roundw
          case rel => exact ⟨k + 1, by omega, by go_num, by rw [unhide HS], by first | rfl | trivial, HJ2⟩
          case measure => simp [intOf]; omega
    · obtain rfl : k = ds.length := by omega
      have HN : Hid (numS ds = numF ds ds.length) := hide (by
        by_cases h0 : 0 < ds.length
        · exact numS_good ds ((unhide HJ).2 h0) (unhide HJ).1
        · exact numS_good ds (by omega) (unhide HJ).1)
      have bk : ¬ (ds.length : Int) < (ds.length : Int) := by omega
      go_wp2
      exact bodyPost_ret (v := .int .i64 (numS ds)) (by rw [unhide HN]; simp [results, Tryz.results39, go_sem]) rfl ⟨rfl, rfl⟩
end Go.Proofs.YtinfdhbnljnifaaGreatDoor

namespace Go.Proofs.YtinfdhbnljnifaaGreatDoor
open Go.RowKit
section
variable {F base : Nat} {X : Nat → Prop} {d : SD} {gv : Value} {rv : Nat → Value} {hv bv : Value}
def ObR (F base : Nat) (X : Nat → Prop) (d' : SD) (gv : Value) (rv : Nat → Value) (hv bv : Value) (w : World) (e : Ending) (w' : World) : Prop := e = .returned (.tuple #[]) ∧ ScrW w' F base X d' gv rv hv bv ∧ FrW F base X w w'
set_option maxRecDepth 10000 in
set_option maxHeartbeats 2000000 in
theorem obey_no (w : World) (h : ScrW w F base X d gv rv hv bv) (v : Value) (ds : List Int) (hv9 : IntsAt w .u8 v ds) (hd : ∀ b ∈ ds, 48 ≤ b ∧ b ≤ 63) (hl : ds.length ≤ 1000) (last : Int) (hn : numS ds < 0) :
    Calls Tryz.prog 48 #[.pointer (some ⟨F, 0, none⟩), v, .int .u8 last] w (ObR F base X (d.oby ds last) gv rv hv bv w) := by
  have HS := hide (seqNum_any w v ds hv9 hd hl)
  have HE : Hid (d.oby ds last = d) := hide (by unfold SD.oby; rw [if_pos hn])
  have H := hide h
  have HN := hide hn
  obtain ⟨ao, cap, rfl, _, _⟩ := hv9
  clear h hd hn
  go_enter Tryz.func48, Tryz.ntmps48
  go_wp2_with fail
  refine (unhide HS).mono ?_
  rintro e w1 ⟨h1, rfl⟩
  rcases h1 with ⟨_, rfl⟩ | ⟨h0, _⟩
  · go_wp2
    exact bodyPost_ret (v := .tuple #[]) (by simp [results, Tryz.results48, go_sem]) rfl ⟨rfl, by rw [unhide HE]; exact unhide H, Fr.refl _ _⟩
  · have := unhide HN
    omega
set_option maxRecDepth 10000 in
set_option maxHeartbeats 4000000 in
theorem obey_A (w : World) (h : ScrW w F base X d gv rv hv bv) (hk : OkP d) (v : Value) (ds : List Int) (hv9 : IntsAt w .u8 v ds) (hd : ∀ b ∈ ds, 48 ≤ b ∧ b ≤ 63) (hl : ds.length ≤ 1000) (last : Int) (n : Int) (hn : numS ds = n) (h0 : 0 ≤ n) (h9 : n ≤ 9999) (hlast : last = 65) :
    Calls Tryz.prog 48 #[.pointer (some ⟨F, 0, none⟩), v, .int .u8 last] w (ObR F base X (d.moveTo (d.row - max n 1) d.col) gv rv hv bv w) := by
  have hs := size_bd hk
  have hrow := hk.row
  have hcol := hk.col
  have HS := hide (seqNum_any w v ds hv9 hd hl)
  rw [hn] at HS
  have HN : Hid (0 ≤ n) := hide h0
  obtain ⟨ao, cap, rfl, _, _⟩ := hv9
  have c3 : w.cell? ⟨F, 3, none⟩ = some (.int .i64 d.row) := cells_of h.box 3 _ rfl
  have c4 : w.cell? ⟨F, 4, none⟩ = some (.int .i64 d.col) := cells_of h.box 4 _ rfl
  have H := hide h
  have HK := hide hk
  clear h hk hd hn
  have w0 : IntKind.i64.wrap (d.row - max n 1) = d.row - max n 1 := by rw [IntKind.wrap_i64] <;> omega
  subst hlast
  go_enter Tryz.func48, Tryz.ntmps48
  go_wp2_with fail
  refine (unhide HS).mono ?_
  rintro e w1 ⟨h1, rfl⟩
  rcases h1 with ⟨h1, _⟩ | ⟨_, _, rfl⟩
  · exact absurd (unhide HN) (by omega)
  clear HS
  have HMv := hide (fun W (hW : Ext w1 W) => moveTo_any W ((unhide H).ext hW) (unhide HK) (d.row - max n 1) (d.col))
  go_wp2_with fail
  go_region_law (first
    | (go_simp; go_at_call 108; refine ((unhide HMv) _ (by first | exact Ext.refl _ | exact (Ext.refl _).drew)).mono ?_; rintro e w2 ⟨rfl, h2, f2⟩; have H2 := hide h2; have F2 : Hid (FrW F base X w1 w2) := hide (Fr.tr (Fr.of_ext (by first | exact Ext.refl _ | exact (Ext.refl _).drew)) f2); clear h2 f2))
  all_goals
    go_wp2
    all_goals go_end0
    all_goals exact ⟨rfl, unhide H2, unhide F2⟩
set_option maxRecDepth 10000 in
set_option maxHeartbeats 4000000 in
theorem obey_B (w : World) (h : ScrW w F base X d gv rv hv bv) (hk : OkP d) (v : Value) (ds : List Int) (hv9 : IntsAt w .u8 v ds) (hd : ∀ b ∈ ds, 48 ≤ b ∧ b ≤ 63) (hl : ds.length ≤ 1000) (last : Int) (n : Int) (hn : numS ds = n) (h0 : 0 ≤ n) (h9 : n ≤ 9999) (hlast : last = 66) :
    Calls Tryz.prog 48 #[.pointer (some ⟨F, 0, none⟩), v, .int .u8 last] w (ObR F base X (d.moveTo (d.row + max n 1) d.col) gv rv hv bv w) := by
  have hs := size_bd hk
  have hrow := hk.row
  have hcol := hk.col
  have HS := hide (seqNum_any w v ds hv9 hd hl)
  rw [hn] at HS
  have HN : Hid (0 ≤ n) := hide h0
  obtain ⟨ao, cap, rfl, _, _⟩ := hv9
  have c3 : w.cell? ⟨F, 3, none⟩ = some (.int .i64 d.row) := cells_of h.box 3 _ rfl
  have c4 : w.cell? ⟨F, 4, none⟩ = some (.int .i64 d.col) := cells_of h.box 4 _ rfl
  have H := hide h
  have HK := hide hk
  clear h hk hd hn
  have w0 : IntKind.i64.wrap (d.row + max n 1) = d.row + max n 1 := by rw [IntKind.wrap_i64] <;> omega
  subst hlast
  go_enter Tryz.func48, Tryz.ntmps48
  go_wp2_with fail
  refine (unhide HS).mono ?_
  rintro e w1 ⟨h1, rfl⟩
  rcases h1 with ⟨h1, _⟩ | ⟨_, _, rfl⟩
  · exact absurd (unhide HN) (by omega)
  clear HS
  have HMv := hide (fun W (hW : Ext w1 W) => moveTo_any W ((unhide H).ext hW) (unhide HK) (d.row + max n 1) (d.col))
  go_wp2_with fail
  go_region_law (first
    | (go_simp; go_at_call 108; refine ((unhide HMv) _ (by first | exact Ext.refl _ | exact (Ext.refl _).drew)).mono ?_; rintro e w2 ⟨rfl, h2, f2⟩; have H2 := hide h2; have F2 : Hid (FrW F base X w1 w2) := hide (Fr.tr (Fr.of_ext (by first | exact Ext.refl _ | exact (Ext.refl _).drew)) f2); clear h2 f2))
  all_goals
    go_wp2
    all_goals go_end0
    all_goals exact ⟨rfl, unhide H2, unhide F2⟩
set_option maxRecDepth 10000 in
set_option maxHeartbeats 4000000 in
theorem obey_C (w : World) (h : ScrW w F base X d gv rv hv bv) (hk : OkP d) (v : Value) (ds : List Int) (hv9 : IntsAt w .u8 v ds) (hd : ∀ b ∈ ds, 48 ≤ b ∧ b ≤ 63) (hl : ds.length ≤ 1000) (last : Int) (n : Int) (hn : numS ds = n) (h0 : 0 ≤ n) (h9 : n ≤ 9999) (hlast : last = 67) :
    Calls Tryz.prog 48 #[.pointer (some ⟨F, 0, none⟩), v, .int .u8 last] w (ObR F base X (d.moveTo d.row (d.col + max n 1)) gv rv hv bv w) := by
  have hs := size_bd hk
  have hrow := hk.row
  have hcol := hk.col
  have HS := hide (seqNum_any w v ds hv9 hd hl)
  rw [hn] at HS
  have HN : Hid (0 ≤ n) := hide h0
  obtain ⟨ao, cap, rfl, _, _⟩ := hv9
  have c3 : w.cell? ⟨F, 3, none⟩ = some (.int .i64 d.row) := cells_of h.box 3 _ rfl
  have c4 : w.cell? ⟨F, 4, none⟩ = some (.int .i64 d.col) := cells_of h.box 4 _ rfl
  have H := hide h
  have HK := hide hk
  clear h hk hd hn
  have w0 : IntKind.i64.wrap (d.col + max n 1) = d.col + max n 1 := by rw [IntKind.wrap_i64] <;> omega
  subst hlast
  go_enter Tryz.func48, Tryz.ntmps48
  go_wp2_with fail
  refine (unhide HS).mono ?_
  rintro e w1 ⟨h1, rfl⟩
  rcases h1 with ⟨h1, _⟩ | ⟨_, _, rfl⟩
  · exact absurd (unhide HN) (by omega)
  clear HS
  have HMv := hide (fun W (hW : Ext w1 W) => moveTo_any W ((unhide H).ext hW) (unhide HK) (d.row) (d.col + max n 1))
  go_wp2_with fail
  go_region_law (first
    | (go_simp; go_at_call 108; refine ((unhide HMv) _ (by first | exact Ext.refl _ | exact (Ext.refl _).drew)).mono ?_; rintro e w2 ⟨rfl, h2, f2⟩; have H2 := hide h2; have F2 : Hid (FrW F base X w1 w2) := hide (Fr.tr (Fr.of_ext (by first | exact Ext.refl _ | exact (Ext.refl _).drew)) f2); clear h2 f2))
  all_goals
    go_wp2
    all_goals go_end0
    all_goals exact ⟨rfl, unhide H2, unhide F2⟩
set_option maxRecDepth 10000 in
set_option maxHeartbeats 4000000 in
theorem obey_D (w : World) (h : ScrW w F base X d gv rv hv bv) (hk : OkP d) (v : Value) (ds : List Int) (hv9 : IntsAt w .u8 v ds) (hd : ∀ b ∈ ds, 48 ≤ b ∧ b ≤ 63) (hl : ds.length ≤ 1000) (last : Int) (n : Int) (hn : numS ds = n) (h0 : 0 ≤ n) (h9 : n ≤ 9999) (hlast : last = 68) :
    Calls Tryz.prog 48 #[.pointer (some ⟨F, 0, none⟩), v, .int .u8 last] w (ObR F base X (d.moveTo d.row (d.col - max n 1)) gv rv hv bv w) := by
  have hs := size_bd hk
  have hrow := hk.row
  have hcol := hk.col
  have HS := hide (seqNum_any w v ds hv9 hd hl)
  rw [hn] at HS
  have HN : Hid (0 ≤ n) := hide h0
  obtain ⟨ao, cap, rfl, _, _⟩ := hv9
  have c3 : w.cell? ⟨F, 3, none⟩ = some (.int .i64 d.row) := cells_of h.box 3 _ rfl
  have c4 : w.cell? ⟨F, 4, none⟩ = some (.int .i64 d.col) := cells_of h.box 4 _ rfl
  have H := hide h
  have HK := hide hk
  clear h hk hd hn
  have w0 : IntKind.i64.wrap (d.col - max n 1) = d.col - max n 1 := by rw [IntKind.wrap_i64] <;> omega
  subst hlast
  go_enter Tryz.func48, Tryz.ntmps48
  go_wp2_with fail
  refine (unhide HS).mono ?_
  rintro e w1 ⟨h1, rfl⟩
  rcases h1 with ⟨h1, _⟩ | ⟨_, _, rfl⟩
  · exact absurd (unhide HN) (by omega)
  clear HS
  have HMv := hide (fun W (hW : Ext w1 W) => moveTo_any W ((unhide H).ext hW) (unhide HK) (d.row) (d.col - max n 1))
  go_wp2_with fail
  go_region_law (first
    | (go_simp; go_at_call 108; refine ((unhide HMv) _ (by first | exact Ext.refl _ | exact (Ext.refl _).drew)).mono ?_; rintro e w2 ⟨rfl, h2, f2⟩; have H2 := hide h2; have F2 : Hid (FrW F base X w1 w2) := hide (Fr.tr (Fr.of_ext (by first | exact Ext.refl _ | exact (Ext.refl _).drew)) f2); clear h2 f2))
  all_goals
    go_wp2
    all_goals go_end0
    all_goals exact ⟨rfl, unhide H2, unhide F2⟩
set_option maxRecDepth 10000 in
set_option maxHeartbeats 4000000 in
theorem obey_G (w : World) (h : ScrW w F base X d gv rv hv bv) (hk : OkP d) (v : Value) (ds : List Int) (hv9 : IntsAt w .u8 v ds) (hd : ∀ b ∈ ds, 48 ≤ b ∧ b ≤ 63) (hl : ds.length ≤ 1000) (last : Int) (n : Int) (hn : numS ds = n) (h0 : 0 ≤ n) (h9 : n ≤ 9999) (hlast : last = 71) :
    Calls Tryz.prog 48 #[.pointer (some ⟨F, 0, none⟩), v, .int .u8 last] w (ObR F base X (d.moveTo d.row (max n 1 - 1)) gv rv hv bv w) := by
  have hs := size_bd hk
  have hrow := hk.row
  have hcol := hk.col
  have HS := hide (seqNum_any w v ds hv9 hd hl)
  rw [hn] at HS
  have HN : Hid (0 ≤ n) := hide h0
  obtain ⟨ao, cap, rfl, _, _⟩ := hv9
  have c3 : w.cell? ⟨F, 3, none⟩ = some (.int .i64 d.row) := cells_of h.box 3 _ rfl
  have c4 : w.cell? ⟨F, 4, none⟩ = some (.int .i64 d.col) := cells_of h.box 4 _ rfl
  have H := hide h
  have HK := hide hk
  clear h hk hd hn
  have w0 : IntKind.i64.wrap (max n 1 - 1) = max n 1 - 1 := by rw [IntKind.wrap_i64] <;> omega
  subst hlast
  go_enter Tryz.func48, Tryz.ntmps48
  go_wp2_with fail
  refine (unhide HS).mono ?_
  rintro e w1 ⟨h1, rfl⟩
  rcases h1 with ⟨h1, _⟩ | ⟨_, _, rfl⟩
  · exact absurd (unhide HN) (by omega)
  clear HS
  have HMv := hide (fun W (hW : Ext w1 W) => moveTo_any W ((unhide H).ext hW) (unhide HK) (d.row) (max n 1 - 1))
  go_wp2_with fail
  refine ((unhide HMv) w1 (Ext.refl _)).mono ?_
  rintro e w2 ⟨rfl, h2, f2⟩
  have H2 := hide h2
  have F2 := hide f2
  clear h2 f2
  go_wp2
  all_goals go_end0
  all_goals exact ⟨rfl, unhide H2, unhide F2⟩
set_option maxRecDepth 10000 in
set_option maxHeartbeats 4000000 in
theorem obey_K (w : World) (h : ScrW w F base X d gv rv hv bv) (hk : OkP d) (v : Value) (ds : List Int) (hv9 : IntsAt w .u8 v ds) (hd : ∀ b ∈ ds, 48 ≤ b ∧ b ≤ 63) (hl : ds.length ≤ 1000) (last : Int) (n : Int) (hn : numS ds = n) (h0 : 0 ≤ n) (h9 : n ≤ 9999) (hlast : last = 75) (m : Int) (hm : m = max n 1) :
    Calls Tryz.prog 48 #[.pointer (some ⟨F, 0, none⟩), v, .int .u8 last] w (ObR F base X (if n = 0 then d.clr d.row.toNat d.col.toNat d.cols.toNat else d) gv rv hv bv w) := by
  have hs := size_bd hk
  have hrow := hk.row
  have hcol := hk.col
  have HS := hide (seqNum_any w v ds hv9 hd hl)
  rw [hn] at HS
  have HN : Hid (0 ≤ n) := hide h0
  obtain ⟨ao, cap, rfl, _, _⟩ := hv9
  have c3 : w.cell? ⟨F, 3, none⟩ = some (.int .i64 d.row) := cells_of h.box 3 _ rfl
  have c4 : w.cell? ⟨F, 4, none⟩ = some (.int .i64 d.col) := cells_of h.box 4 _ rfl
  have H := hide h
  have HK := hide hk
  have HM := hide hm
  clear h hk hd hn
  by_cases hn1 : n < 1
  · have hm1 : m = 1 := by omega
    have hn0 : n = 0 := by omega
    subst hm1
    subst hn0
    clear hn1 h0 h9 hm
    subst hlast
    go_enter Tryz.func48, Tryz.ntmps48
    go_wp2_with fail
    refine (unhide HS).mono ?_
    rintro e w1 ⟨h1, rfl⟩
    rcases h1 with ⟨h1, _⟩ | ⟨_, _, rfl⟩
    · exact absurd (unhide HN) (by omega)
    clear HS
    obtain ⟨i0, ei0⟩ : ∃ i0 : Nat, d.row = i0 := ⟨d.row.toNat, by omega⟩
    obtain ⟨j0, ej0⟩ : ∃ j0 : Nat, d.col = j0 := ⟨d.col.toNat, by omega⟩
    have hiR : i0 < d.R := by have := (unhide HK).R; omega
    have hCi := (unhide HK).C i0 hiR
    rw [ei0] at c3
    rw [ej0] at c4
    have hcl : ∀ W, Ext w1 W → Calls Tryz.prog 109 #[.pointer (some ⟨F, 0, none⟩), .int .i64 (i0 : Int), .int .i64 (j0 : Int)] W fun e w' => e = .returned (.tuple #[]) ∧ ScrW w' F base X (d.clr i0 j0 d.cols.toNat) gv rv hv bv ∧ Fr (fun k => (rv i0).ownBlock = some k) W w' := fun W hW => blankFrom_any W ((unhide H).ext hW) i0 j0 hiR (by omega) hCi (fun e => ((unhide HK).half i0 j0 hiR (by omega) e).2.1) (by omega)
    have HCl := hide hcl
    have HEi := hide ei0
    have HEj := hide ej0
    clear hcl ei0 ej0
    go_wp2_with fail
    go_region_law (first
      | (go_simp; go_at_call 109; refine ((unhide HCl) _ (by first | exact Ext.refl _ | exact (Ext.refl _).drew)).mono ?_; rintro e w2 ⟨rfl, h2, f2⟩; have H2 := hide h2; have F2 : Hid (FrW F base X w1 w2) := hide (Fr.tr (Fr.of_ext (by first | exact Ext.refl _ | exact (Ext.refl _).drew)) ((((unhide H).ext (by first | exact Ext.refl _ | exact (Ext.refl _).drew)).rowFr i0 hiR f2))); clear h2 f2))
    all_goals
      go_wp2
      all_goals go_end0
      all_goals exact ⟨rfl, by rw [unhide HEi, unhide HEj, Int.toNat_natCast, Int.toNat_natCast]; exact unhide H2, unhide F2⟩
  · have hm1 : m = n := by omega
    subst hm1
    have hn0 : ¬ m = 0 := by omega
    have hnb : (m == 0) = false := by simp [hn0]
    clear hm
    subst hlast
    go_enter Tryz.func48, Tryz.ntmps48
    go_wp2_with fail
    refine (unhide HS).mono ?_
    rintro e w1 ⟨h1, rfl⟩
    rcases h1 with ⟨h1, _⟩ | ⟨_, _, rfl⟩
    · exact absurd (unhide HN) (by omega)
    clear HS
    go_wp2
    go_end0
    exact ⟨rfl, unhide H, Fr.refl _ _⟩
set_option maxRecDepth 10000 in
set_option maxHeartbeats 4000000 in
theorem obey_J (w : World) (h : ScrW w F base X d gv rv hv bv) (hk : OkP d) (v : Value) (ds : List Int) (hv9 : IntsAt w .u8 v ds) (hd : ∀ b ∈ ds, 48 ≤ b ∧ b ≤ 63) (hl : ds.length ≤ 1000) (last : Int) (n : Int) (hn : numS ds = n) (h0 : 0 ≤ n) (h9 : n ≤ 9999) (hlast : last = 74) (m : Int) (hm : m = max n 1) :
    Calls Tryz.prog 48 #[.pointer (some ⟨F, 0, none⟩), v, .int .u8 last] w (ObR F base X (if n = 0 then (d.clr d.row.toNat d.col.toNat d.cols.toNat).clrRows (d.row.toNat + 1) else d) gv rv hv bv w) := by
  have hs := size_bd hk
  have hrow := hk.row
  have hcol := hk.col
  have HS := hide (seqNum_any w v ds hv9 hd hl)
  rw [hn] at HS
  have HN : Hid (0 ≤ n) := hide h0
  obtain ⟨ao, cap, rfl, _, _⟩ := hv9
  have c3 : w.cell? ⟨F, 3, none⟩ = some (.int .i64 d.row) := cells_of h.box 3 _ rfl
  have c4 : w.cell? ⟨F, 4, none⟩ = some (.int .i64 d.col) := cells_of h.box 4 _ rfl
  have H := hide h
  have HK := hide hk
  have HM := hide hm
  clear h hk hd hn
  by_cases hn1 : n < 1
  · have hm1 : m = 1 := by omega
    have hn0 : n = 0 := by omega
    subst hm1
    subst hn0
    clear hn1 h0 h9 hm
    subst hlast
    go_enter Tryz.func48, Tryz.ntmps48
    go_wp2_with fail
    refine (unhide HS).mono ?_
    rintro e w1 ⟨h1, rfl⟩
    rcases h1 with ⟨h1, _⟩ | ⟨_, _, rfl⟩
    · exact absurd (unhide HN) (by omega)
    clear HS
    have HCl := hide (blankBelow_any w1 (unhide H) (unhide HK))
    clear c3 c4
    go_wp2_with fail
    refine (unhide HCl).mono ?_
    rintro e w2 ⟨rfl, h2, f2⟩
    have H2 := hide h2
    have F2 := hide f2
    clear h2 f2
    go_wp2
    go_end0
    exact ⟨rfl, unhide H2, unhide F2⟩
  · have hm1 : m = n := by omega
    subst hm1
    have hn0 : ¬ m = 0 := by omega
    have hnb : (m == 0) = false := by simp [hn0]
    clear hm
    subst hlast
    go_enter Tryz.func48, Tryz.ntmps48
    go_wp2_with fail
    refine (unhide HS).mono ?_
    rintro e w1 ⟨h1, rfl⟩
    rcases h1 with ⟨h1, _⟩ | ⟨_, _, rfl⟩
    · exact absurd (unhide HN) (by omega)
    clear HS
    go_wp2
    go_end0
    exact ⟨rfl, unhide H, Fr.refl _ _⟩
set_option maxRecDepth 10000 in
set_option maxHeartbeats 4000000 in
theorem obey_other (w : World) (h : ScrW w F base X d gv rv hv bv) (hk : OkP d) (v : Value) (ds : List Int) (hv9 : IntsAt w .u8 v ds) (hd : ∀ b ∈ ds, 48 ≤ b ∧ b ≤ 63) (hl : ds.length ≤ 1000) (last : Int) (n : Int) (hn : numS ds = n) (h0 : 0 ≤ n) (h9 : n ≤ 9999) (hlast : last ≠ 65 ∧ last ≠ 66 ∧ last ≠ 67 ∧ last ≠ 68 ∧ last ≠ 71 ∧ last ≠ 75 ∧ last ≠ 74) (m : Int) (hm : m = max n 1) :
    Calls Tryz.prog 48 #[.pointer (some ⟨F, 0, none⟩), v, .int .u8 last] w (ObR F base X (d) gv rv hv bv w) := by
  have hs := size_bd hk
  have hrow := hk.row
  have hcol := hk.col
  have HS := hide (seqNum_any w v ds hv9 hd hl)
  rw [hn] at HS
  have HN : Hid (0 ≤ n) := hide h0
  obtain ⟨ao, cap, rfl, _, _⟩ := hv9
  have c3 : w.cell? ⟨F, 3, none⟩ = some (.int .i64 d.row) := cells_of h.box 3 _ rfl
  have c4 : w.cell? ⟨F, 4, none⟩ = some (.int .i64 d.col) := cells_of h.box 4 _ rfl
  have H := hide h
  have HK := hide hk
  have HM := hide hm
  clear h hk hd hn
  by_cases hn1 : n < 1
  · have hm1 : m = 1 := by omega
    have hn0 : n = 0 := by omega
    subst hm1
    subst hn0
    clear hn1 h0 h9 hm
    have g1 : (last == 65) = false := by simp; omega
    have g2 : (last == 66) = false := by simp; omega
    have g3 : (last == 67) = false := by simp; omega
    have g4 : (last == 68) = false := by simp; omega
    have g5 : (last == 71) = false := by simp; omega
    have g6 : (last == 75) = false := by simp; omega
    have g7 : (last == 74) = false := by simp; omega
    go_enter Tryz.func48, Tryz.ntmps48
    go_wp2_with fail
    refine (unhide HS).mono ?_
    rintro e w1 ⟨h1, rfl⟩
    rcases h1 with ⟨h1, _⟩ | ⟨_, _, rfl⟩
    · exact absurd (unhide HN) (by omega)
    clear HS
    obtain ⟨g11, g12, g13, g14, g15, g16, g17⟩ := hlast
    go_wp2
    go_end0
    exact ⟨rfl, unhide H, Fr.refl _ _⟩
  · have hm1 : m = n := by omega
    subst hm1
    have hn0 : ¬ m = 0 := by omega
    have hnb : (m == 0) = false := by simp [hn0]
    clear hm
    have g1 : (last == 65) = false := by simp; omega
    have g2 : (last == 66) = false := by simp; omega
    have g3 : (last == 67) = false := by simp; omega
    have g4 : (last == 68) = false := by simp; omega
    have g5 : (last == 71) = false := by simp; omega
    have g6 : (last == 75) = false := by simp; omega
    have g7 : (last == 74) = false := by simp; omega
    go_enter Tryz.func48, Tryz.ntmps48
    go_wp2_with fail
    refine (unhide HS).mono ?_
    rintro e w1 ⟨h1, rfl⟩
    rcases h1 with ⟨h1, _⟩ | ⟨_, _, rfl⟩
    · exact absurd (unhide HN) (by omega)
    clear HS
    obtain ⟨g11, g12, g13, g14, g15, g16, g17⟩ := hlast
    go_wp2
    go_end0
    exact ⟨rfl, unhide H, Fr.refl _ _⟩
theorem numS_le (ds : List Int) (hd : ∀ b ∈ ds, 48 ≤ b ∧ b ≤ 63) : numS ds ≤ 9999 := by
  by_cases h4 : ds.length ≤ 4
  · by_cases hb : ∀ j, j < ds.length → at0 ds j ≤ 57
    · rw [numS_good ds h4 hb]
      exact (numF_9999 ds ds.length (Nat.le_refl _) h4 (fun j hj => ⟨(hd _ (at0_mem ds j hj)).1, hb j hj⟩)).2
    · obtain ⟨j, hj⟩ : ∃ j, ¬ (j < ds.length → at0 ds j ≤ 57) := Classical.not_forall.1 hb
      have hj1 : j < ds.length := Classical.byContradiction (fun x => hj (fun y => absurd y x))
      rw [numS_bad ds j hj1 (by have : ¬ at0 ds j ≤ 57 := fun x => hj (fun _ => x); omega)]
      decide
  · rw [numS_long ds (by omega)]
    decide
theorem obey_any (w : World) (h : ScrW w F base X d gv rv hv bv) (hk : OkP d) (v : Value) (ds : List Int) (hv9 : IntsAt w .u8 v ds) (hd : ∀ b ∈ ds, 48 ≤ b ∧ b ≤ 63) (hl : ds.length ≤ 1000) (last : Int) :
    Calls Tryz.prog 48 #[.pointer (some ⟨F, 0, none⟩), v, .int .u8 last] w (ObR F base X (d.oby ds last) gv rv hv bv w) := by
  by_cases hn : numS ds < 0
  · exact obey_no w h v ds hv9 hd hl last hn
  · have h0 : 0 ≤ numS ds := by omega
    have h9 := numS_le ds hd
    unfold SD.oby
    rw [if_neg hn]
    by_cases e1 : last = 75
    · rw [if_pos e1]; exact obey_K w h hk v ds hv9 hd hl last _ rfl h0 h9 e1 _ rfl
    · rw [if_neg e1]
      by_cases e2 : last = 74
      · rw [if_pos e2]; exact obey_J w h hk v ds hv9 hd hl last _ rfl h0 h9 e2 _ rfl
      · rw [if_neg e2]
        by_cases e3 : last = 65
        · rw [if_pos e3]; exact obey_A w h hk v ds hv9 hd hl last _ rfl h0 h9 e3
        · rw [if_neg e3]
          by_cases e4 : last = 66
          · rw [if_pos e4]; exact obey_B w h hk v ds hv9 hd hl last _ rfl h0 h9 e4
          · rw [if_neg e4]
            by_cases e5 : last = 67
            · rw [if_pos e5]; exact obey_C w h hk v ds hv9 hd hl last _ rfl h0 h9 e5
            · rw [if_neg e5]
              by_cases e6 : last = 68
              · rw [if_pos e6]; exact obey_D w h hk v ds hv9 hd hl last _ rfl h0 h9 e6
              · rw [if_neg e6]
                by_cases e7 : last = 71
                · rw [if_pos e7]; exact obey_G w h hk v ds hv9 hd hl last _ rfl h0 h9 e7
                · rw [if_neg e7]
                  exact obey_other w h hk v ds hv9 hd hl last _ rfl h0 h9 ⟨e3, e4, e5, e6, e7, e1, e2⟩ _ rfl
end
end Go.Proofs.YtinfdhbnljnifaaGreatDoor

namespace Go.Proofs.YtinfdhbnljnifaaGreatDoor
open Go.RowKit Go.Deep
set_option maxHeartbeats 1000000 in
theorem isBetween_f (b : Int) (w : World) : Calls Tryz.prog 117 #[.int .u8 b] w fun e w' => e = .returned (.bool (decide (48 ≤ b) && decide (b ≤ 63))) ∧ w' = w := by
  by_cases h1 : 48 ≤ b
  · by_cases h2 : b ≤ 63
    · go_enter Tryz.func117, Tryz.ntmps117
      go_wp2
      go_ret
      exact ⟨by simp [h1, h2], rfl⟩
    · go_enter Tryz.func117, Tryz.ntmps117
      go_wp2
      go_ret
      exact ⟨by simp [h2]; try omega, rfl⟩
  · go_enter Tryz.func117, Tryz.ntmps117
    go_wp2
    go_ret
    exact ⟨by simp; try omega, rfl⟩
set_option maxHeartbeats 1000000 in
theorem isLast_f (b : Int) (w : World) : Calls Tryz.prog 118 #[.int .u8 b] w fun e w' => e = .returned (.bool (decide (64 ≤ b) && decide (b ≤ 126))) ∧ w' = w := by
  by_cases h1 : 64 ≤ b
  · by_cases h2 : b ≤ 126
    · go_enter Tryz.func118, Tryz.ntmps118
      go_wp2
      go_ret
      exact ⟨by simp [h1, h2], rfl⟩
    · go_enter Tryz.func118, Tryz.ntmps118
      go_wp2
      go_ret
      exact ⟨by simp [h2]; try omega, rfl⟩
  · go_enter Tryz.func118, Tryz.ntmps118
    go_wp2
    go_ret
    exact ⟨by simp; try omega, rfl⟩
set_option maxRecDepth 10000 in
set_option maxHeartbeats 4000000 in
theorem gr_27 (c : Fc) (d : SD) (w : World) (k : FW w c [] d) :
    Calls Tryz.prog 111 #[.int .u8 27, ptr c.q, ptr (c.q + 2), ptr (c.q + 4)] w fun e w' => FStp c [27] d w (esF c.q) e w' := by
  have d0 := k.sts.d.cell
  obtain ⟨_, _, _, _, k0⟩ := k.fk
  have HH := hide (hold_fk 27 w k0 (by simp))
  have HK := hide k
  clear k k0
  go_enter Tryz.func111, Tryz.ntmps111
  go_wp2_with fail
  refine (unhide HH).mono ?_
  rintro e w1 ⟨rfl, ⟨_, hd⟩, hf⟩
  have k1 := (unhide HK).go hf ⟨_, _, _, _, hd⟩
  have e1 := k1.sts.es.cell
  have HK1 := hide k1
  have HF := hide hf
  clear hd hf k1 HH
  go_wp2
  exact bodyPost_ret (v := esF c.q) (by simp [results, Tryz.results111, go_sem]) rfl ⟨rfl, unhide HK1, unhide HF⟩
set_option maxRecDepth 10000 in
set_option maxHeartbeats 4000000 in
theorem gr_else (c : Fc) (b : Int) (d : SD) (w : World) (k : FW w c [] d) (h27 : b ≠ 27) (h' : List Int) (d' : SD) (v : Value)
    (hb : Calls Tryz.prog 165 #[.int .u8 b, ptr c.r, ptr (c.r + 3), ptr (c.r + 2), ptr (c.r + 1)] w (FStp c h' d' w v)) :
    Calls Tryz.prog 111 #[.int .u8 b, ptr c.q, ptr (c.q + 2), ptr (c.q + 4)] w fun e w' => FStp c h' d' w v e w' := by
  have d2 : w.cell? ⟨c.q + 4, 0, none⟩ = some (.func (.func 165) #[] #[ptr c.r, ptr (c.r + 3), ptr (c.r + 2), ptr (c.r + 1)]) := k.sts.bg.cell
  have q27 : (b == 27) = false := by simp [h27]
  have HB := hide hb
  clear k hb
  go_enter Tryz.func111, Tryz.ntmps111
  go_wp2_with fail
  refine (unhide HB).mono ?_
  rintro e w1 ⟨rfl, hw⟩
  have HW := hide hw
  clear hw
  go_wp2
  exact bodyPost_ret (v := v) (by simp [results, Tryz.results111, go_sem]) rfl ⟨rfl, unhide HW⟩
set_option maxRecDepth 10000 in
set_option maxHeartbeats 4000000 in
theorem es_91 (c : Fc) (d : SD) (w : World) (k : FW w c [27] d) :
    Calls Tryz.prog 114 #[.int .u8 91, ptr c.q, ptr (c.q + 1), ptr (c.q + 3)] w fun e w' => FStp c [27, 91] d w (beF c.q) e w' := by
  have d0 := k.sts.d.cell
  obtain ⟨_, _, _, _, k0⟩ := k.fk
  have HH := hide (hold_fk 91 w k0 (by simp))
  have HK := hide k
  clear k k0
  go_enter Tryz.func114, Tryz.ntmps114
  go_wp2_with fail
  refine (unhide HH).mono ?_
  rintro e w1 ⟨rfl, ⟨_, hd⟩, hf⟩
  have k1 := (unhide HK).go hf ⟨_, _, _, _, hd⟩
  have e1 := k1.sts.be.cell
  have HK1 := hide k1
  have HF := hide hf
  clear hd hf k1 HH
  go_wp2
  exact bodyPost_ret (v := beF c.q) (by simp [results, Tryz.results114, go_sem]) rfl ⟨rfl, unhide HK1, unhide HF⟩
set_option maxRecDepth 10000 in
set_option maxHeartbeats 4000000 in
theorem es_else (c : Fc) (b : Int) (d : SD) (w : World) (k : FW w c [27] d) (h91 : b ≠ 91) :
    Calls Tryz.prog 114 #[.int .u8 b, ptr c.q, ptr (c.q + 1), ptr (c.q + 3)] w fun e w' => FStp c [] d w (grF c.q) e w' := by
  have d0 := k.sts.d.cell
  obtain ⟨hv, _, _, _, k0⟩ := k.fk
  have HH := hide (release_fk w k0)
  have HK := hide k
  have q91 : (b == 91) = false := by simp [h91]
  obtain ⟨sa, sn, sc, hsv⟩ : ∃ sa sn sc, hv = .slice sa sn sc := by
    rcases k0.held.2 with ⟨e, _⟩ | ⟨g, cp, cur, e, _⟩
    · exact ⟨_, _, _, e⟩
    · exact ⟨_, _, _, e⟩
  subst hsv
  clear k k0
  go_enter Tryz.func114, Tryz.ntmps114
  go_wp2_with fail
  refine (unhide HH).mono ?_
  rintro e w1 ⟨rfl, _, hd, hf⟩
  have k1 := (unhide HK).go hf ⟨_, _, _, _, hd.unkeep (fun q hq => .inl hq)⟩
  have e1 := k1.sts.gr.cell
  have HK1 := hide k1
  have HF := hide hf
  clear hd hf k1 HH
  go_wp2
  exact bodyPost_ret (v := grF c.q) (by simp [results, Tryz.results114, go_sem]) rfl ⟨rfl, unhide HK1, unhide HF⟩
theorem FkAt.row {w : World} {c : Fc} {h : List Int} {d : SD} {hv gv : Value} {rv : Nat → Value} {bv : Value} (k : FkAt w c h d hv gv rv bv) (h0 : 0 < h.length) : ∃ g cap, hv = .slice (some ⟨g, 0, none⟩) h.length cap ∧ h.length ≤ cap := by
  rcases k.held.2 with ⟨_, e0⟩ | ⟨g, cap, cur, e0, _, _, hnc, _⟩
  · omega
  · exact ⟨g, cap, e0, hnc⟩
set_option maxRecDepth 10000 in
set_option maxHeartbeats 4000000 in
theorem be_more (c : Fc) (b : Int) (h : List Int) (d : SD) (w : World) (k : FW w c h d) (h0 : 0 < h.length) (hl : h.length < 32) (h1 : 48 ≤ b) (h2 : b ≤ 63) :
    Calls Tryz.prog 116 #[.int .u8 b, ptr c.q, ptr (c.q + 3), ptr (c.q + 1)] w fun e w' => FStp c (h ++ [b]) d w (beF c.q) e w' := by
  have d0 := k.sts.d.cell
  obtain ⟨hv, _, _, _, k0⟩ := k.fk
  obtain ⟨g, cap, rfl, _⟩ := k0.row h0
  have d1 := cells_of k0.blk 0 _ rfl
  have HH := hide (hold_fk b w k0 (by omega))
  have HK := hide k
  have HI := hide (isBetween_f b w)
  have hq : (decide (48 ≤ b) && decide (b ≤ 63)) = true := by simp [h1, h2]
  rw [hq] at HI
  have hlI : (h.length : Int) < 32 := by omega
  clear k k0 hq
  go_enter Tryz.func116, Tryz.ntmps116
  go_wp2_with fail
  refine (unhide HI).mono ?_
  rintro e w0 ⟨rfl, rfl⟩
  go_wp2_with fail
  refine (unhide HH).mono ?_
  rintro e w1 ⟨rfl, ⟨_, hd⟩, hf⟩
  have k1 := (unhide HK).go hf ⟨_, _, _, _, hd⟩
  have e1 := k1.sts.be.cell
  have HK1 := hide k1
  have HF := hide hf
  clear hd hf k1 HH
  go_wp2
  exact bodyPost_ret (v := beF c.q) (by simp [results, Tryz.results116, go_sem]) rfl ⟨rfl, unhide HK1, unhide HF⟩
end Go.Proofs.YtinfdhbnljnifaaGreatDoor
