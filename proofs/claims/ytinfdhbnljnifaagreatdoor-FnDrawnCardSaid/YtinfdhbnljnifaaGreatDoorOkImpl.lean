import Derived.Test.YtinfdhbnljnifaaGreatDoorPiece
import Derived.Test.YtinfdhbnljnifaaGreatDoorKys
import Derived.Deep.RegionLaw
import Derived.Deep.AppendLies
import Derived.Test.YtinfdhbnljnifaaGreatDoorToScr
import Derived.WalkLawsBesides
import Derived.Defers
import Derived.Recover
namespace Go.Proofs.YtinfdhbnljnifaaGreatDoor
open Go.RowKit
theorem zdf {w w' : World} {D o : Nat} (h : w'.heap[D]? = w.heap[D]?) : w'.cell? ⟨D, o, none⟩ = w.cell? ⟨D, o, none⟩ := by
 unfold World.cell?
 simp only [h]
theorem zkJ {w w' : World} {D o : Nat} (h : w'.heap[D]? = w.heap[D]?) : w'.frozen? ⟨D, o, none⟩ = w.frozen? ⟨D, o, none⟩ := by
 unfold World.frozen?
 simp only [h]
theorem zbw.keep {w w1 w' : World} {D : Nat} {v : Value} {bs : List Int} {p p' : Nat} (h : zbw w D v bs p) (h1 : zbw w1 D v bs p') (hf : Fr (fun k => k = D) w w') (hD : w'.heap[D]? = w1.heap[D]?) : zbw w' D v bs p' := by
 refine ⟨by rw [zdf hD]; exact h1.1, by rw [zdf hD]; exact h1.2.1, by rw [zkJ hD]; exact h1.2.2.1, ?_, h1.2.2.2.2.1, h.2.2.2.2.2⟩
 obtain ⟨ao, cap, e, hc, hx⟩ := h.2.2.2.1
 refine ⟨ao, cap, e, hc, fun hp => ?_⟩
 obtain ⟨b, off, e2, hcell⟩ := hx hp
 obtain ⟨b', off', n', c', e3, hne⟩ := h.2.2.2.2.2 hp
 rw [e, e2] at e3
 injection e3 with e4
 injection e4 with e5
 injection e5 with e6
 subst e6
 exact ⟨b, off, e2, fun j hj => by rw [zdf (hf.block b (zaj (hcell j hj)) hne)]; exact hcell j hj⟩
def cWd (d : Int) : Int := if d < 0 then 0 else if 1000 < d then 1000 else d
theorem zoP (d : Int) : 0 ≤ cWd d ∧ cWd d ≤ 1000 := by
 unfold cWd
 split
 ·omega
 ·split <;> omega
theorem zdE (r : Value) (d : Int) (w : World) : Calls Tryz.prog 179 #[.agg #[r, .int .i64 d]] w fun e w' => e = .returned (.int .i64 (cWd d)) ∧ Ext w w' := by
 by_cases h : d < 0
 ·have hw : Hid (cWd d = 0) := by show _ = _; rw [cWd, if_pos h]
  go_enter Tryz.func179, Tryz.ntmps179
  go_wp2
  go_ret
  exact ⟨by rw [hw.out]; rfl, (Ext.refl _).alloc _⟩
 ·by_cases h2 : 1000 < d
  ·have hw : Hid (cWd d = 1000) := by show _ = _; rw [cWd, if_neg h, if_pos h2]
   go_enter Tryz.func179, Tryz.ntmps179
   go_wp2
   go_ret
   exact ⟨by rw [hw.out]; rfl, (Ext.refl _).alloc _⟩
  ·have hw : Hid (cWd d = d) := by show _ = _; rw [cWd, if_neg h, if_neg h2]
   go_enter Tryz.func179, Tryz.ntmps179
   go_wp2
   go_ret
   exact ⟨by rw [hw.out]; rfl, (Ext.refl _).alloc _⟩
def stF (cs : List (List Int × Int)) (cols : Int) : Nat → List Int × Int
 | 0 => ([0], 0)
 | k + 1 => if at0 (stF cs cols k).1 ((stF cs cols k).1.length - 1) < (k : Int) ∧ cols < (stF cs cols k).2 + cWd (cW cs k) then ((stF cs cols k).1 ++ [(k : Int)], cWd (cW cs k)) else ((stF cs cols k).1, (stF cs cols k).2 + cWd (cW cs k))
theorem zaX {xs : List Int} {x : Int} {i : Nat} : at0 (xs ++ [x]) i = if i = xs.length then x else at0 xs i := by
 unfold at0
 by_cases h : i = xs.length
 ·subst h; simp
 ·rw [if_neg h]
  by_cases h2 : i < xs.length
  ·rw [List.getElem?_append_left h2]
  ·rw [List.getElem?_eq_none (by simp; omega), List.getElem?_eq_none (by omega)]
structure StOk (S : List Int) (u : Int) (k : Nat) : Prop where
 one : 1 ≤ S.length
 len : S.length ≤ k + 1
 u0 : 0 ≤ u
 u1 : u ≤ 1000 * (k : Int)
 at00 : at0 S 0 = 0
 le : ∀ i, i < S.length → 0 ≤ at0 S i ∧ at0 S i ≤ (k : Int)
 mono : ∀ i, i + 1 < S.length → at0 S i ≤ at0 S (i + 1)
theorem zcP (cs : List (List Int × Int)) (cols : Int) : ∀ k, StOk (stF cs cols k).1 (stF cs cols k).2 k
 | 0 => ⟨by simp [stF], by simp [stF], by simp [stF], by simp [stF], by simp [stF, at0], fun i hi => by
   simp [stF] at hi; subst hi; simp [stF, at0], fun i hi => by simp [stF] at hi⟩
 | k + 1 => by
  have h := zcP cs cols k
  have hw := zoP (cW cs k)
  have h1 := h.one
  have h2 := h.len
  have h3 := h.u0
  have h4 := h.u1
  rw [stF]
  split
  ·refine ⟨by simp, by simp; omega, by dsimp only; omega, by dsimp only; omega, ?_, fun i hi => ?_, fun i hi => ?_⟩
   ·dsimp only; rw [zaX, if_neg (by omega)]; exact h.at00
   ·dsimp only at hi ⊢
    simp at hi
    rw [zaX]
    split
    ·omega
    ·have := h.le i (by omega); omega
   ·dsimp only at hi ⊢
    simp at hi
    rw [zaX, zaX, if_neg (by omega)]
    split
    ·have := h.le i (by omega); omega
    ·exact h.mono i (by omega)
  ·refine ⟨h1, by dsimp only; omega, by dsimp only; omega, by dsimp only; omega, h.at00, fun i hi => ?_, h.mono⟩
   have := h.le i hi
   dsimp only
   omega
theorem infoInt : (Tryz.prog.info? 3).map (fun i => (i.zero, i.size, i.bytes)) = some (some (.int .i64 0), 1, 8) := by kernel_rfl
set_option maxRecDepth 10000 in
set_option maxHeartbeats 2000000 in
theorem zi8 (v : Value) (cs : List (List Int × Int)) (cols : Int) (w : World) (hv : zaF w v cs) (hl : cs.length ≤ 16777216) :
  Calls Tryz.prog 144 #[v, .int .i64 cols] w fun e w' => ∃ v', e = .returned v' ∧ w'.ownsRow w.heap.size 3 1 v' (stF cs cols cs.length).1.length ((stF cs cols cs.length).1.map (Value.int .i64)) ∧ Ext w w' := by
 obtain ⟨ii, hii, hi0, hi1, hi2⟩ := info_parts infoInt
 obtain ⟨ra, ao, ca, rfl, hca, hra, hxa⟩ := hv
 obtain ⟨n, hn⟩ : ∃ n, n = cs.length := ⟨_, rfl⟩
 rw [← hn] at hca hra hxa hl ⊢
 have HXA := zh hxa
 clear hn hra hxa
 have HOK := zh (fun k => zcP cs cols k)
 go_enter Tryz.func144, Tryz.ntmps144
 go_wp2
 go_loopw [5, 6, 7] (fun o u i wr => ∃ (k : Nat), k ≤ n ∧ i = .int .i64 k ∧ u = .int .i64 (stF cs cols k).2 ∧ Hid (wr.ownsRow w.heap.size 3 1 o (stF cs cols k).1.length ((stF cs cols k).1.map (Value.int .i64))) ∧ Ext w wr) (fun _ _ i _ => n - (intOf i).toNat)
 case atStart =>
  refine ⟨0, Nat.zero_le _, rfl, rfl, ?_, (Ext.refl _).alloc _⟩
  exact zh (zei (w := w) .i64 [0] 3 w.heap.size 1 rfl (Nat.le_refl _) (by unfold maxLen; simp))
 case round =>
  obtain ⟨k, hk, rfl, rfl, HO, hext⟩ := hrel
  obtain ⟨S, hS⟩ : ∃ S, S = (stF cs cols k).1 := ⟨_, rfl⟩
  obtain ⟨u, hu⟩ : ∃ u, u = (stF cs cols k).2 := ⟨_, rfl⟩
  have hok := (zu HOK) k
  have hst : Hid (stF cs cols (k + 1) = if at0 S (S.length - 1) < (k : Int) ∧ cols < u + cWd (cW cs k) then (S ++ [(k : Int)], cWd (cW cs k)) else (S, u + cWd (cW cs k))) := by
   show _ = _
   rw [hS, hu]; rfl
  rw [← hS] at HO hok
  rw [← hu] at hok ⊢
  have HS := zh hS
  have HU := zh hu
  clear hS hu
  by_cases hlt : k < n
  ·have bk : (k : Int) < (n : Int) := by omega
   obtain ⟨b, off, rfl, hc⟩ := (zu HXA) (by omega)
   have g1 := hext.cell (hc k hlt).1
   have g2 := hext.cell (hc k hlt).2
   have OC := zh (hc k hlt)
   clear hc
   obtain ⟨g, cap, rfl⟩ : ∃ g cap, u5 = .slice (some ⟨g, 0, none⟩) S.length cap := by
    rcases (zu HO).2 with ⟨_, e⟩ | ⟨g, cap, cur, e, _⟩
    ·have := hok.one; omega
    ·exact ⟨g, cap, e⟩
   have h1 := hok.one
   have h2 := hok.len
   have h3 := hok.u0
   have h4 := hok.u1
   have hwd := zoP (cW cs k)
   obtain ⟨m, hm⟩ : ∃ m, S.length = m + 1 := ⟨S.length - 1, by omega⟩
   obtain ⟨L, hL⟩ : ∃ L, L = at0 S m := ⟨_, rfl⟩
   have cL : wr.cell? ⟨g, m, none⟩ = some (.int .i64 L) := by
    rw [(zu HO).cellAt m (by omega), hL]
    simp [zfN (show m < S.length by omega)]
   have hb := hok.le m (by omega)
   rw [← hL] at hb
   rw [show S.length - 1 = m by omega, ← hL] at hst
   rw [hm] at HO ⊢
   have hmb : m ≤ k := by omega
   have HLN := zh hm
   clear hL hok hm
   have hw1 : IntKind.i64.wrap (((m + 1 : Nat) : Int) - 1) = (m : Int) := by rw [IntKind.wrap_i64]; omega
   have hw1b : IntKind.i64.wrap ((m : Int) + 1 - 1) = (m : Int) := by rw [IntKind.wrap_i64]; omega
   have hw2 : IntKind.i64.wrap (u + cWd (cW cs k)) = u + cWd (cW cs k) := by rw [IntKind.wrap_i64]; omega
   have hw3 : ((m : Int) + 1 - 1) = (m : Int) := by omega
   have hmm : (m : Int) < (m : Int) + 1 := by omega
   by_cases hlk : L < (k : Int)
   ·go_wp2_with fail
    refine (zdE _ _ _).mono ?_
    rintro e w1 ⟨rfl, F1⟩
    have q1 := F1.cell g1
    have q2 := F1.cell g2
    have E1 := hext.trans F1
    have z1 := E1.size
    by_cases hov : cols < u + cWd (cW cs k)
    ·have hs1 : Hid (stF cs cols (k + 1) = (S ++ [(k : Int)], cWd (cW cs k))) := by show _ = _; rw [hst.out, if_pos ⟨hlk, hov⟩]
     have HY := zh (((Ext.refl w1).alloc (.cells #[.int .i64 (k : Int)] 3)).owns (F1.owns (zu HO)))
     have r1 := fun o => ((Ext.refl w1).alloc o).cell q1
     have r2 := fun o => ((Ext.refl w1).alloc o).cell q2
     go_wp2_with (at_builtin; go_must (refine wpList_append_own _ rfl _ _ 164 rfl w.heap.size 3 ii (.int .i64 0) 1 8 Tryz.underlying164 hii hi0 hi1 hi2 rfl (by decide) _ _ _ rfl (zu HY) ⟨w1.heap.size, 0, none⟩ 1 1 [.int .i64 (k : Int)] rfl rfl ?_ (by simp [Value.oneCell']) ?_ ?_ ?_ ?_))
     ·exact zbs (w := w1) [.int .i64 (k : Int)] 3
     ·unfold maxLen; omega
     ·omega
     ·simp; omega
     ·intro v' w3 hown' hgrow _
      have E3 : Ext w w3 := (E1.alloc _).grown hgrow (fun q hq => ((zu HY).lt q hq).1)
      have HO3 : Hid (w3.ownsRow w.heap.size 3 1 v' (S ++ [(k : Int)]).length ((S ++ [(k : Int)]).map (Value.int .i64))) := by
       refine zh ?_
       rw [List.length_append, zu HLN, List.map_append]
       exact hown'
      clear hown' hgrow r1 r2 q1 q2 g1 g2
      have g1 := E3.cell (zu OC).1
      have g2 := E3.cell (zu OC).2
      go_wp2_with fail
      refine (zdE _ _ _).mono ?_
      rintro e w4 ⟨rfl, F4⟩
      have HO4 := zh (F4.owns (zu HO3))
      go_wp2
      go_roundw
      case rel => exact ⟨k + 1, by omega, by go_num, by rw [hs1.out], by rw [hs1.out]; exact HO4, E3.trans F4⟩
      case measure => simp [intOf]; omega
    ·have hs1 : Hid (stF cs cols (k + 1) = (S, u + cWd (cW cs k))) := by show _ = _; rw [hst.out, if_neg (fun h => hov h.2)]
     go_wp2_with fail
     refine (zdE _ _ _).mono ?_
     rintro e w2 ⟨rfl, F2⟩
     have HO2 := zh ((F1.trans F2).owns (zu HO))
     go_wp2
     go_roundw
     case rel => exact ⟨k + 1, by omega, by go_num, by rw [hs1.out], by rw [hs1.out, zu HLN]; exact HO2, E1.trans F2⟩
     case measure => simp [intOf]; omega
   ·have hs1 : Hid (stF cs cols (k + 1) = (S, u + cWd (cW cs k))) := by show _ = _; rw [hst.out, if_neg (fun h => hlk h.1)]
    go_wp2_with fail
    refine (zdE _ _ _).mono ?_
    rintro e w2 ⟨rfl, F2⟩
    have HO2 := zh (F2.owns (zu HO))
    go_wp2
    go_roundw
    case rel => exact ⟨k + 1, by omega, by go_num, by rw [hs1.out], by rw [hs1.out, zu HLN]; exact HO2, hext.trans F2⟩
    case measure => simp [intOf]; omega
  ·obtain rfl : k = n := by omega
   rw [zu HS] at HO
   go_wp2
   go_ret
   exact ⟨_, rfl, zu HO, hext⟩
def wk (cs : List (List Int × Int)) (cols : Int) (k i : Nat) : List (List Int × Int) := (cs.take (at0 ((stF cs cols k).1 ++ [(k : Int)]) (i + 1)).toNat).drop (at0 ((stF cs cols k).1 ++ [(k : Int)]) i).toNat
def Wk (w : World) (base : Nat) (v5 v6 : Value) (rv : Nat → Value) (rs : Nat → List Value) (rr : List Value) (cs : List (List Int × Int)) (cols : Int) (k m : Nat) : Prop :=
 za7 w base v5 rv rs m (wk cs cols k) ∧ zal w base v6 rr (wk cs cols k m) ∧ ∀ i g, i < m → zdl (rv i) (rs i) (wk cs cols k i).length g → ¬ zdl v6 rr (wk cs cols k m).length g
theorem Wk.ext {w w' : World} {base : Nat} {v5 v6 : Value} {rv : Nat → Value} {rs : Nat → List Value} {rr : List Value} {cs : List (List Int × Int)} {cols : Int} {k m : Nat} (h : Wk w base v5 v6 rv rs rr cs cols k m) (he : Ext w w') : Wk w' base v5 v6 rv rs rr cs cols k m :=
 ⟨h.1.ext he, h.2.1.ext he, h.2.2⟩
def Box (W : World) (sb c r : Nat) (gv hv bv : Value) : Prop :=
 W.cell? ⟨sb, 0, none⟩ = some (.int .i64 c) ∧ W.cell? ⟨sb, 1, none⟩ = some (.int .i64 r) ∧ W.cell? ⟨sb, 2, none⟩ = some gv ∧ W.cell? ⟨sb, 3, none⟩ = some (.int .i64 0) ∧ W.cell? ⟨sb, 4, none⟩ = some (.int .i64 0) ∧ W.cell? ⟨sb, 5, none⟩ = some (.bool false) ∧ W.cell? ⟨sb, 6, none⟩ = some hv ∧ W.cell? ⟨sb, 7, none⟩ = some bv ∧ W.frozen? ⟨sb, 2, none⟩ = false
theorem Box.fr {S : Nat → Prop} {W W' : World} {sb c r : Nat} {gv hv bv : Value} (h : Box W sb c r gv hv bv) (hf : Fr S W W') (hS : ¬ S sb) : Box W' sb c r gv hv bv := by
 obtain ⟨h0, h1, h2, h3, h4, h5, h6, h7, h8⟩ := h
 have hb := hf.block sb (zaj h0) hS
 exact ⟨(World.cell?_of_block (a := ⟨sb, 0, none⟩) hb).trans h0, (World.cell?_of_block (a := ⟨sb, 1, none⟩) hb).trans h1, (World.cell?_of_block (a := ⟨sb, 2, none⟩) hb).trans h2, (World.cell?_of_block (a := ⟨sb, 3, none⟩) hb).trans h3, (World.cell?_of_block (a := ⟨sb, 4, none⟩) hb).trans h4, (World.cell?_of_block (a := ⟨sb, 5, none⟩) hb).trans h5, (World.cell?_of_block (a := ⟨sb, 6, none⟩) hb).trans h6, (World.cell?_of_block (a := ⟨sb, 7, none⟩) hb).trans h7, (World.frozen?_of_block (a := ⟨sb, 2, none⟩) hb).trans h8⟩
theorem Box.set {W : World} {sb c r : Nat} {gv hv bv : Value} (h : Box W sb c r gv hv bv) (u : Value) : Box (W.setCell ⟨sb, 2, none⟩ u) sb c r u hv bv := by
 obtain ⟨h0, h1, h2, h3, h4, h5, h6, h7, h8⟩ := h
 unfold Box
 simp [go_sem, h0, h1, h2, h3, h4, h5, h6, h7, h8]
def SG (W : World) (base sb c r : Nat) (gv hv bv : Value) (rv : Nat → Value) (j : Nat) : Prop :=
 zax W base gv rv j (fun _ => c) (fun _ _ => .string noB) (fun _ _ => .bool false) ∧ Box W sb c r gv hv bv ∧ gv.ownBlock ≠ some sb ∧ ∀ i, i < j → (rv i).ownBlock ≠ some sb
theorem SG.step {wr w' w3 : World} {base sb c r : Nat} {gv hv bv : Value} {rv : Nat → Value} {j g cap H : Nat} {xs : List Value} (h : SG wr base sb c r gv hv bv rv j) (hb : base ≤ wr.heap.size)
  (hxs : ∀ i, i < j → xs[i]? = some (rv i)) (hl : xs.length = j) (E : Ext wr w') (row : zaG w' wr.heap.size 83 (.slice (some ⟨wr.heap.size, 0, none⟩) c c) c (fun _ => .string noB) (fun _ => .bool false))
  (fr : Fr (fun k => gv.ownBlock = some k) w' w3) (hown : w3.ownsRow base 81 1 (.slice (some ⟨g, 0, none⟩) (j + 1) cap) (j + 1) (xs ++ [.slice (some ⟨wr.heap.size, 0, none⟩) c c])) (hat : gv.ownBlock = some g ∨ g = H) (hH : wr.heap.size ≤ H) :
  SG (w3.setCell ⟨sb, 2, none⟩ (.slice (some ⟨g, 0, none⟩) (j + 1) cap)) base sb c r (.slice (some ⟨g, 0, none⟩) (j + 1) cap) hv bv (fun i => if i = j then .slice (some ⟨wr.heap.size, 0, none⟩) c c else rv i) (j + 1) := by
 obtain ⟨og, hbox, hg0, hr0⟩ := h
 have hsb := zaj hbox.1
 have hgs : g ≠ sb := by
  rcases hat with e | e
  ·intro e2; subst e2; exact hg0 e
  ·omega
 have fr1 : Fr (fun k => gv.ownBlock = some k) wr w3 := (Fr.of_ext E).trans fr
 have fr2 : Fr (fun k => k = sb) w3 (w3.setCell ⟨sb, 2, none⟩ (.slice (some ⟨g, 0, none⟩) (j + 1) cap)) := Fr.setCell (S := fun k => k = sb) (Fr.refl _ _) (a := ⟨sb, 2, none⟩) rfl _
 refine ⟨⟨⟨_, fr2.owns hown (fun k hk e => ?_), fun i hi => ?_⟩, fun i hi => ?_, fun i i' k hii hi hk => ?_⟩, (hbox.fr fr1 hg0).set _, ?_, fun i hi => ?_⟩
 ·simp [Value.ownBlock] at hk; omega
 ·dsimp only
  by_cases e : i = j
  ·subst e
   rw [if_pos rfl, List.getElem?_append_right (by omega), hl]
   simp
  ·rw [if_neg e, List.getElem?_append_left (by omega)]
   exact hxs i (by omega)
 ·dsimp only
  by_cases e : i = j
  ·subst e
   rw [if_pos rfl]
   refine ((row.mono hb).fr fr (fun k hk e => ?_)).fr fr2 (fun k hk e => ?_)
   ·simp [Value.ownBlock] at hk
    have := (og.1.lt k e).2
    omega
   ·simp [Value.ownBlock] at hk; omega
  ·rw [if_neg e]
   refine ((og.2.1 i (by omega)).fr fr1 (fun k hk e => og.apart (by omega) hk e)).fr fr2 (fun k hk e => ?_)
   subst e
   exact hr0 i (by omega) hk
 ·dsimp only at hk ⊢
  rw [if_neg (by omega)] at hk
  by_cases e : i' = j
  ·subst e
   rw [if_pos rfl]
   have := ((og.2.1 i (by omega)).lt k hk).2
   simp [Value.ownBlock]; omega
  ·rw [if_neg e]
   exact og.2.2 i i' k hii (by omega) hk
 ·simp [Value.ownBlock]; exact hgs
 ·dsimp only
  by_cases e : i = j
  ·subst e
   rw [if_pos rfl]
   simp [Value.ownBlock]; omega
  ·rw [if_neg e]; exact hr0 i (by omega)
set_option maxHeartbeats 1000000 in
theorem zh7 (b off R ca rb ro m ci i k : Nat) (w : World) (hi : i < R) (hk : k < m) (hg : w.cell? ⟨b, off + i, none⟩ = some (.slice (some ⟨rb, ro, none⟩) m ci)) :
  Calls Tryz.prog 119 #[.slice (some ⟨b, off, none⟩) R ca, .int .i64 i, .int .i64 k] w fun e w' => e = .returned (.pointer (some ⟨rb, ro + k * 2, none⟩)) ∧ w' = w := by
 have b1 : (i : Int) < (R : Int) := by omega
 have b2 : (k : Int) < (m : Int) := by omega
 go_enter Tryz.func119, Tryz.ntmps119
 go_wp2
 go_ret
 exact ⟨rfl, rfl⟩
set_option maxHeartbeats 1000000 in
theorem zgZ (ao : Option Addr) (R ca : Nat) (r c : Int) (w : World) (h : r < 0 ∨ (R : Int) ≤ r ∨ c < 0) :
  Calls Tryz.prog 119 #[.slice ao R ca, .int .i64 r, .int .i64 c] w fun e w' => (∃ u pv, e = .panicked [{ v := .iface u pv, recovered := false }]) ∧ w' = w := by
 go_enter Tryz.func119, Tryz.ntmps119
 by_cases h1 : r < 0
 ·go_wp2
  exact ⟨rfl, ⟨_, _, rfl⟩, rfl⟩
 ·by_cases h2 : (R : Int) ≤ r
  ·go_wp2
   exact ⟨rfl, ⟨_, _, rfl⟩, rfl⟩
  ·have h3 : c < 0 := by omega
   go_wp2
   exact ⟨rfl, ⟨_, _, rfl⟩, rfl⟩
set_option maxHeartbeats 1000000 in
theorem zld (b off R ca m ci i : Nat) (ai : Option Addr) (c : Int) (w : World) (hi : i < R) (hm : m ≤ 1048576) (hg : w.cell? ⟨b, off + i, none⟩ = some (.slice ai m ci)) (hc : (m : Int) ≤ c) :
  Calls Tryz.prog 119 #[.slice (some ⟨b, off, none⟩) R ca, .int .i64 i, .int .i64 c] w fun e w' => (∃ u pv, e = .panicked [{ v := .iface u pv, recovered := false }]) ∧ w' = w := by
 have b1 : (i : Int) < (R : Int) := by omega
 have b2 : ¬ c < 0 := by omega
 go_enter Tryz.func119, Tryz.ntmps119
 go_wp2
 exact ⟨rfl, ⟨_, _, rfl⟩, rfl⟩
theorem zgy (p : Addr) (w : World) :
  CallsD Tryz.prog 100 #[.pointer (some p)] .returning w fun e u' w' => e = .returned (.tuple #[]) ∧ u' = .returning ∧ w' = w := by
 refine callsD_of_wpS Tryz.func100 rfl fun c₀ cs hu => ?_
 apply wpS_seq
 apply wpS_region
 simp [wpOpsS, go_sem, recoverD, hu, Tryz.ntmps100, Exit.thenS]
 refine wpS_cond (t := false) (by simp [Act.eval, Array.replicate]) ?_
 simp only [Bool.false_eq_true, if_false]
 refine wpS_of_wp (wp_skip ?_)
 cases c₀
 simp_all [bodyPostS, results, Tryz.results100]
theorem zm9 (p : Addr) (x : Bool) (u : TypeId) (pv : Value) (older : List PanicEntry) (w : World) (hc : w.cell? p = some (.bool x)) (hz : w.frozen? p = false) :
  CallsD Tryz.prog 100 #[.pointer (some p)] (.panicking ({ v := .iface u pv, recovered := false } :: older)) w fun e u' w' => e = .returned (.tuple #[]) ∧ u' = .panicking ({ v := .iface u pv, recovered := true } :: older) ∧ w' = w.setCell p (.bool false) := by
 refine callsD_of_wpS Tryz.func100 rfl fun c₀ cs hu => ?_
 apply wpS_seq
 apply wpS_region
 simp [wpOpsS, go_sem, recoverD, hu, Tryz.ntmps100, Exit.thenS]
 refine wpS_cond (t := true) (by simp [Act.eval, Array.replicate]) ?_
 simp only [if_true]
 apply wpS_region
 simp [wpOpsS, go_sem, hc, hz, bodyPostS, results, Tryz.results100]
set_option maxHeartbeats 1000000 in
theorem zhl (p q : Addr) (w : World) (Pt : World → Prop) (hP : ∀ w', Pt w' → w'.cell? ⟨w.heap.size, 0, none⟩ = some (.bool false) ∧ w'.frozen? ⟨w.heap.size, 0, none⟩ = false)
  (hw : Calls Tryz.prog 53 #[.pointer (some p), .pointer (some q)] (w.alloc (.cells #[.bool false] 4)) fun e w' => (e = .returned (.tuple #[]) ∨ ∃ u pv, e = .panicked [{ v := .iface u pv, recovered := false }]) ∧ Pt w') :
  Calls Tryz.prog 45 #[.func (Fn.func 53) #[] #[.pointer (some p), .pointer (some q)]] w fun e w' => ∃ (b : Bool) (w1 : World), e = .returned (.bool b) ∧ Pt w1 ∧ w' = w1.setCell ⟨w.heap.size, 0, none⟩ (.bool b) := by
 have hmf : ∀ (fn : Fn) (first cap : Array Value) (w : World), (Instr.makeFunc fn first cap).run Tryz.prog w = .ok (.func fn first cap) w := fun _ _ _ _ => rfl
 have HW := zh hw
 have HP := zh hP
 clear hw hP
 go_enter_defers Tryz.func45, Tryz.ntmps45
 go_wp2_with fail
 refine (zu HW).mono ?_
 rintro e w1 ⟨he, hpt⟩
 obtain ⟨c1, f1⟩ := (zu HP) w1 hpt
 have HPT := zh hpt
 clear hpt HW HP
 rcases he with rfl | ⟨u, pv, rfl⟩
 ·go_wp2
  refine leaves_cons (f := 100) (args := #[.pointer (some ⟨w.heap.size, 0, none⟩)]) (by simp) (by simp [go_sem]) ?_
  refine (zgy ⟨w.heap.size, 0, none⟩ _).mono ?_
  rintro e u' w'' ⟨rfl, rfl, rfl⟩
  have hpt := zu HPT
  simp [Leaves, settle, results, Tryz.results45, go_sem, c1]
  exact ⟨w1, hpt, rfl⟩
 ·refine leaves_cons (f := 100) (args := #[.pointer (some ⟨w.heap.size, 0, none⟩)]) (by simp) (by simp [go_sem]) ?_
  refine (zm9 ⟨w.heap.size, 0, none⟩ false u pv [] _ c1 f1).mono ?_
  rintro e u' w'' ⟨rfl, rfl, rfl⟩
  have hpt := zu HPT
  simp [Leaves, settle, results, Tryz.results45, go_sem, c1]
  exact ⟨w1, hpt, rfl⟩
def zl6 (d : SD) : Prop := (d.R : Int) = d.rows ∧ ∀ i, i < d.R → (d.C i : Int) = d.cols
theorem b_no {P : Prop} {b : Bool} (hb : b = true ↔ P) (h : ¬ P) : b = false := by
 cases b
 ·rfl
 ·exact absurd (hb.1 rfl) h
set_option maxHeartbeats 1000000 in
theorem zlk (d : SD) (gv hv bv : Value) (ok : Bool) (hok : ok = true ↔ zl6 d) (w : World) (h : zbY w d gv hv bv) (hF : d.Fits) :
  Calls Tryz.prog 55 #[zbT d gv hv bv] w fun e w' => e = .returned (.bool ok) ∧ Ext w w' := by
 have HOK := zh hok
 obtain ⟨f1, f2, f3, f4⟩ := hF
 obtain ⟨rv, ⟨ao, ca, rfl, hca, hxa⟩, hrw⟩ := h.1
 have HXA := zh hxa
 have HRW := zh hrw
 have HF2 := zh f2
 clear h f2 hxa hrw hok
 unfold zbT
 go_enter Tryz.func55, Tryz.ntmps55
 by_cases hR : (d.R : Int) = d.rows
 case neg =>
  obtain rfl := b_no (zu HOK) (fun h => hR h.1)
  go_wp2
  go_ret
  exact ⟨rfl, (Ext.refl _).alloc _⟩
 have HR := zh hR
 obtain ⟨rws, hrws⟩ : ∃ x, d.rows = x := ⟨_, rfl⟩
 rw [hrws] at hR ⊢
 clear hrws
 subst hR
 go_wp2
 go_loopw [14] (fun i wr => ∃ I : Nat, I ≤ d.R ∧ i = .int .i64 I ∧ wr = w.alloc (.cells #[.int .i64 d.cols, .int .i64 d.R, .slice ao d.R ca, .int .i64 d.row, .int .i64 d.col, .bool d.late, hv, bv] 26) ∧ Hid (∀ i', i' < I → (d.C i' : Int) = d.cols)) (fun i _ => d.R - (intOf i).toNat)
 case atStart => exact ⟨0, Nat.zero_le _, rfl, rfl, fun i' hi => by omega⟩
 case round =>
  obtain ⟨I, hI, rfl, rfl, HD⟩ := hrel
  by_cases hlt : I < d.R
  ·have bI : (I : Int) < (d.R : Int) := by omega
   obtain ⟨b, off, rfl, hcell⟩ := (zu HXA) (by omega)
   obtain ⟨ai, ci, hri, hci, hxi⟩ := (zu HRW) I hlt
   have g := hcell I hlt
   rw [hri] at g
   have g' : ∀ o, (w.alloc o).cell? ⟨b, off + I, none⟩ = some (.slice ai (d.C I) ci) := fun o => ((Ext.refl w).alloc o).cell g
   have hm' := (zu HF2) I hlt
   clear hcell hxi hri g
   by_cases hm : (d.C I : Int) = d.cols
   ·have HD2 : Hid (∀ i', i' < I + 1 → (d.C i' : Int) = d.cols) := fun i' hi => by
     by_cases e : i' = I
     ·rw [e]; exact hm
     ·exact (zu HD) i' (by omega)
    go_wp2
    go_roundw
    case rel => exact ⟨I + 1, by omega, by go_num, by first | rfl | trivial, HD2⟩
    case measure => simp [intOf]; omega
   ·obtain rfl := b_no (zu HOK) (fun h => hm (h.2 I hlt))
    go_wp2
    go_ret
    exact ⟨rfl, (Ext.refl _).alloc _⟩
  ·obtain rfl : I = d.R := by omega
   obtain rfl : ok = true := (zu HOK).2 ⟨by have := zu HR; omega, zu HD⟩
   go_wp2
   go_ret
   exact ⟨rfl, (Ext.refl _).alloc _⟩
set_option maxHeartbeats 1000000 in
theorem zjS (d : SD) (gv hv bv : Value) (ok : Bool) (hok : ok = true ↔ (d.late = true → d.col = d.cols - 1)) (w : World) (h : zbY w d gv hv bv) (hs : zbN d.cols d.rows = true) (hf : zl6 d) (h1 : 0 ≤ d.row ∧ d.row < d.rows) (h2 : 0 ≤ d.col ∧ d.col < d.cols) :
  Calls Tryz.prog 56 #[zbT d gv hv bv] w fun e w' => e = .returned (.bool ok) ∧ Ext w w' := by
 have HOK := zh hok
 obtain ⟨cn, rn, ec, er, c2, c200, r1, r100⟩ := zds hs
 obtain ⟨I, hI⟩ : ∃ I : Nat, d.row = I := ⟨d.row.toNat, by omega⟩
 obtain ⟨K, hK⟩ : ∃ K : Nat, d.col = K := ⟨d.col.toNat, by omega⟩
 have hIR : I < d.R := by have := hf.1; omega
 have hCI := hf.2 I hIR
 obtain ⟨rv, ⟨ao, ca, rfl, hca, hxa⟩, hrw⟩ := h.1
 obtain ⟨b, off, rfl, hcell⟩ := hxa (by omega)
 obtain ⟨ai, ci, hri, hci, hxi⟩ := hrw I hIR
 obtain ⟨rb, ro, rfl, hrc⟩ := hxi (by omega)
 have g := hcell I hIR
 rw [hri] at g
 have hcon := zh (fun W (hW : Ext w W) => zh7 b off d.R ca rb ro (d.C I) ci I K W hIR (by omega) (hW.cell g))
 have hwc : IntKind.i64.wrap ((cn : Int) - 1) = (cn : Int) - 1 := by rw [IntKind.wrap_i64]; omega
 have HLT : Hid (ok = true ↔ (d.late = true → (K : Int) = (cn : Int) - 1)) := by
  have := zu HOK; rw [ec, hK] at this; exact this
 unfold zbT
 rw [ec, hI, hK]
 clear hxa hrw hcell hxi hrc g hri hok HOK ec er hI hK hCI hf h h1 h2 hs
 go_enter Tryz.func56, Tryz.ntmps56
 go_wp2_with fail
 refine ((zu hcon) _ ((Ext.refl _).alloc _)).mono ?_
 rintro e w1 ⟨rfl, rfl⟩
 cases hl : d.late
 ·obtain rfl : ok = true := (zu HLT).2 (fun h => by rw [hl] at h; simp at h)
  go_wp2
  go_ret
  exact ⟨rfl, (Ext.refl _).alloc _⟩
 ·by_cases hq : (K : Int) = (cn : Int) - 1
  ·obtain rfl : ok = true := (zu HLT).2 (fun _ => hq)
   go_wp2
   go_ret
   exact ⟨rfl, (Ext.refl _).alloc _⟩
  ·obtain rfl := b_no (zu HLT) (fun h => hq (h hl))
   go_wp2
   go_ret
   exact ⟨by simp [hq], (Ext.refl _).alloc _⟩
set_option maxHeartbeats 1000000 in
theorem ziV (d : SD) (gv hv bv : Value) (w : World) (h : zbY w d gv hv bv) (hF : d.Fits) (hf : zl6 d) (hn : ¬ ((0 ≤ d.row ∧ d.row < d.rows) ∧ (0 ≤ d.col ∧ d.col < d.cols))) :
  Calls Tryz.prog 56 #[zbT d gv hv bv] w fun e w' => (∃ u pv, e = .panicked [{ v := .iface u pv, recovered := false }]) ∧ Ext w w' := by
 obtain ⟨rv, ⟨ao, ca, rfl, hca, hxa⟩, hrw⟩ := h.1
 have hcon : Hid (∀ W, Ext w W → Calls Tryz.prog 119 #[.slice ao d.R ca, .int .i64 d.row, .int .i64 d.col] W fun e w' => (∃ u pv, e = .panicked [{ v := .iface u pv, recovered := false }]) ∧ w' = W) := by
  intro W hW
  by_cases hq : d.row < 0 ∨ (d.R : Int) ≤ d.row ∨ d.col < 0
  ·exact zgZ ao d.R ca d.row d.col W hq
  ·obtain ⟨I, hI⟩ : ∃ I : Nat, d.row = I := ⟨d.row.toNat, by omega⟩
   have hIR : I < d.R := by omega
   have hCI := hf.2 I hIR
   obtain ⟨b, off, rfl, hcell⟩ := hxa (by omega)
   obtain ⟨ai, ci, hri, hci, hxi⟩ := hrw I hIR
   have g := hcell I hIR
   rw [hri] at g
   rw [hI]
   exact zld b off d.R ca (d.C I) ci I ai d.col W hIR (hF.C I hIR) (hW.cell g) (by have := hf.1; omega)
 clear hxa hrw h hn hf
 unfold zbT
 go_enter Tryz.func56, Tryz.ntmps56
 go_wp2_with fail
 refine ((zu hcon) _ ((Ext.refl _).alloc _)).mono ?_
 rintro e w1 ⟨⟨u, pv, rfl⟩, rfl⟩
 exact ⟨rfl, ⟨_, _, rfl⟩, (Ext.refl _).alloc _⟩
set_option maxHeartbeats 2000000 in
theorem ziL (d : SD) (gv hv bv : Value) (ok : Bool) (hok : ok = true ↔ ∀ i k, i < d.R → k < d.C i → zcE d i k) (w : World) (h : zbY w d gv hv bv) (hF : d.Fits) :
  Calls Tryz.prog 57 #[zbT d gv hv bv] w fun e w' => (e = .returned (.bool ok) ∨ (ok = false ∧ ∃ u pv, e = .panicked [{ v := .iface u pv, recovered := false }])) ∧ Ext w w' := by
 have HOK := zh hok
 obtain ⟨f1, f2, f3, f4⟩ := hF
 obtain ⟨rv, ⟨ao, ca, rfl, hca, hxa⟩, hrw⟩ := h.1
 have HXA := zh hxa
 have HRW := zh hrw
 have HF2 := zh f2
 clear h f2 hxa hrw hok
 unfold zbT
 go_enter Tryz.func57, Tryz.ntmps57
 go_wp2
 obtain ⟨W0, hW0⟩ : ∃ W, W = w.alloc (.cells #[.int .i64 d.cols, .int .i64 d.rows, .slice ao d.R ca, .int .i64 d.row, .int .i64 d.col, .bool d.late, hv, bv] 26) := ⟨_, rfl⟩
 rw [← hW0]
 have E0 : Ext w W0 := by rw [hW0]; exact (Ext.refl _).alloc _
 have p2 : W0.cell? ⟨w.heap.size, 2, none⟩ = some (.slice ao d.R ca) := by rw [hW0]; simp [go_sem]
 clear hW0
 go_loopw [9] (fun i wr => ∃ I : Nat, I ≤ d.R ∧ i = .int .i64 I ∧ Ext W0 wr ∧ Hid (∀ i', i' < I → ∀ k, k < d.C i' → zcE d i' k)) (fun i _ => d.R - (intOf i).toNat)
 case atStart => exact ⟨0, Nat.zero_le _, rfl, Ext.refl _, fun i' hi => by omega⟩
 case round =>
  obtain ⟨I, hI, rfl, hext, HD⟩ := hrel
  have q2 := hext.cell p2
  by_cases hlt : I < d.R
  ·have bI : (I : Int) < (d.R : Int) := by omega
   obtain ⟨b, off, rfl, hcell⟩ := (zu HXA) (by omega)
   obtain ⟨ai, ci, hri, hci, hxi⟩ := (zu HRW) I hlt
   have g0 := E0.cell (hcell I hlt)
   rw [hri] at g0
   have g := hext.cell g0
   have hm' := (zu HF2) I hlt
   have HXI := zh hxi
   clear hcell hxi hri
   go_wp2
   go_loopw [18] (fun k wr2 => ∃ K : Nat, K ≤ d.C I ∧ k = .int .i64 K ∧ Ext wr wr2 ∧ Hid (∀ k', k' < K → zcE d I k')) (fun k _ => d.C I - (intOf k).toNat)
   case atStart => exact ⟨0, Nat.zero_le _, rfl, Ext.refl _, fun k' hk => by omega⟩
   case round =>
    obtain ⟨K, hK, rfl, hext2, HD2⟩ := hrel
    have hx2 := hext.trans hext2
    have u2 := hx2.cell p2
    clear q2
    by_cases hkl : K < d.C I
    ·have bK : (K : Int) < (d.C I : Int) := by omega
     obtain ⟨rb, ro, rfl, hrc⟩ := (zu HXI) (by omega)
     have gA := hx2.cell (E0.cell (hrc K hkl).1)
     have gB := hx2.cell (E0.cell (hrc K hkl).2)
     have HST : Hid (zcE d I K → ∀ k', k' < K + 1 → zcE d I k') := fun hk k' hk' => by
      by_cases e : k' = K
      ·rw [e]; exact hk
      ·exact (zu HD2) k' (by omega)
     have HNO : Hid (¬ zcE d I K → ok = false) := fun hn => b_no (zu HOK) (fun o => hn (o I K hlt hkl))
     have u2n : ∀ o, (wr.alloc o).cell? ⟨w.heap.size, 2, none⟩ = some (.slice (some ⟨b, off, none⟩) d.R ca) := fun o => ((Ext.refl wr).alloc o).cell u2
     have g2 := hext2.cell g
     cases hfk : d.hf I K
     ·rw [hfk] at gB
      have HK : Hid (zcE d I K) := fun h => by rw [hfk] at h; simp at h
      clear hrc
      go_wp2
      go_roundw
      case rel => exact ⟨K + 1, by omega, by go_num, hext2.alloc _, (zu HST) (zu HK)⟩
      case measure => simp [intOf]; omega
     ·rw [hfk] at gB
      by_cases ht : (d.tx I K).toList = []
      ·by_cases hK0 : K = 0
       ·subst hK0
        simp only [Nat.zero_mul, Nat.add_zero] at gA gB
        obtain rfl := (zu HNO) (fun h => absurd (h hfk).2.1 (by omega))
        have hcon := zh (fun W => zgZ (some ⟨b, off, none⟩) d.R ca I (-1) W (by omega))
        clear hrc
        go_wp2_with fail
        refine ((zu hcon) _).mono ?_
        rintro e w1 ⟨⟨u, pv, rfl⟩, rfl⟩
        exact ⟨rfl, .inr ⟨rfl, _, _, rfl⟩, (E0.trans hx2).alloc _⟩
       ·have gP := hx2.cell (E0.cell (hrc (K - 1) (by omega)).1)
        have ew : IntKind.i64.wrap ((K : Int) - 1) = ((K - 1 : Nat) : Int) := by rw [IntKind.wrap_i64]; omega
        have gPn : ∀ o, (wr.alloc o).cell? ⟨rb, ro + (K - 1) * 2, none⟩ = some (.string (d.tx I (K - 1))) := fun o => ((Ext.refl wr).alloc o).cell gP
        have hcon := zh (fun W (hW : Ext wr W) => zh7 b off d.R ca rb ro (d.C I) ci I (K - 1) W hlt (by omega) (hW.cell g2))
        clear hrc
        go_wp2_with fail
        refine ((zu hcon) _ ((Ext.refl _).alloc _)).mono ?_
        rintro e w1 ⟨rfl, rfl⟩
        by_cases htp : (d.tx I (K - 1)).toList = []
        ·obtain rfl := (zu HNO) (fun h => (h hfk).2.2 htp)
         go_wp2
         go_ret
         exact ⟨by simp, (E0.trans hx2).alloc _⟩
        ·have HK : Hid (zcE d I K) := fun _ => ⟨ht, by omega, htp⟩
         have htq : (d.tx I (K - 1)).toList.isEmpty = false := by simpa using htp
         go_wp2
         go_roundw
         case rel => exact ⟨K + 1, by omega, by go_num, hext2.alloc _, (zu HST) (zu HK)⟩
         case measure => simp [intOf]; omega
      ·obtain rfl := (zu HNO) (fun h => ht (h hfk).1)
       clear hrc
       go_wp2
       go_ret
       exact ⟨by simp, (E0.trans hx2).alloc _⟩
    ·obtain rfl : K = d.C I := by omega
     have HD3 : Hid (∀ i', i' < I + 1 → ∀ k, k < d.C i' → zcE d i' k) := fun i' hi' => by
      by_cases e : i' = I
      ·rw [e]; exact zu HD2
      ·exact (zu HD) i' (by omega)
     go_wp2
     go_roundw
     case rel => exact ⟨I + 1, by omega, by go_num, hx2, HD3⟩
     case measure => simp [intOf]; omega
  ·obtain rfl : I = d.R := by omega
   obtain rfl : ok = true := (zu HOK).2 (fun i k hi hk => (zu HD) i hi k hk)
   go_wp2
   go_ret
   exact ⟨by simp, E0.trans hext⟩
set_option maxHeartbeats 2000000 in
theorem zhH (d : SD) (gv hv bv : Value) (ok : Bool) (hok : ok = true ↔ OkP d) (sb kb : Nat) (W : World) (h : zbY W d gv hv bv) (hF : d.Fits) (hb : zgb W sb d gv hv bv) (hk : W.cell? ⟨kb, 0, none⟩ = some (.bool false)) (hkf : W.frozen? ⟨kb, 0, none⟩ = false) :
  Calls Tryz.prog 53 #[.pointer (some ⟨sb, 0, none⟩), .pointer (some ⟨kb, 0, none⟩)] W fun e w' => ∃ w1, Ext W w1 ∧ ((e = .returned (.tuple #[]) ∧ w' = w1.setCell ⟨kb, 0, none⟩ (.bool ok)) ∨ (ok = false ∧ (∃ u pv, e = .panicked [{ v := .iface u pv, recovered := false }]) ∧ w' = w1)) := by
 have ex : ∀ P : Prop, ∃ b : Bool, b = true ↔ P := fun P => by
  classical exact ⟨decide P, by simp⟩
 obtain ⟨fb, hfb⟩ := ex (zl6 d)
 obtain ⟨cb, hcb⟩ := ex (d.late = true → d.col = d.cols - 1)
 obtain ⟨mb, hmb⟩ := ex (∀ i k, i < d.R → k < d.C i → zcE d i k)
 clear ex
 have HFB := zh hfb
 have HCB := zh hcb
 have HMB := zh hmb
 have HNO : Hid (¬ OkP d → ok = false) := fun h => b_no hok h
 have HYES : Hid (OkP d → ok = true) := fun h => hok.2 h
 have HH := zh h
 have HFF := zh hF
 obtain ⟨ha, hc, hve, _, _⟩ := h.2.1
 subst hve
 have HB := zh hb
 have k1 := hk
 have z1 := hkf
 have p0 := (hb).1
 have p1 := (hb).2.1
 have p2 := (hb).2.2.1
 have p3 := (hb).2.2.2.1
 have p4 := (hb).2.2.2.2.1
 have p5 := (hb).2.2.2.2.2.1
 have p6 := (hb).2.2.2.2.2.2.1
 have p7 := (hb).2.2.2.2.2.2.2
 clear h hok hfb hcb hmb hF hb
 go_enter Tryz.func53, Tryz.ntmps53
 go_wp2_with fail
 refine (zhs _ _ _).mono ?_
 by_cases hs : zbN d.cols d.rows = true
 case neg =>
  obtain rfl := (zu HNO) (fun h => hs h.size)
  have hs' : zbN d.cols d.rows = false := by simpa using hs
  rw [hs']
  rintro e w0 ⟨rfl, hw0⟩
  obtain rfl : W = w0 := hw0.symm
  go_wp2
  go_end0
  exact ⟨W, Ext.refl _, .inl ⟨rfl, rfl⟩⟩
 rw [hs]
 rintro e w0 ⟨rfl, hw0⟩
 obtain rfl : W = w0 := hw0.symm
 go_wp2_with fail
 refine (zlk d gv (.slice ha d.hold.length hc) bv fb (zu HFB) _ (zu HH) (zu HFF)).mono ?_
 rintro e w1 ⟨rfl, F1⟩
 clear p0 p1 p2 p3 p4 p5 p6 p7 k1 z1
 have k1 := F1.cell hk
 have z1 := (F1.rules.2 kb 0 (zaj hk)).trans hkf
 have p0 := ((zu HB).ext F1).1
 have p1 := ((zu HB).ext F1).2.1
 have p2 := ((zu HB).ext F1).2.2.1
 have p3 := ((zu HB).ext F1).2.2.2.1
 have p4 := ((zu HB).ext F1).2.2.2.2.1
 have p5 := ((zu HB).ext F1).2.2.2.2.2.1
 have p6 := ((zu HB).ext F1).2.2.2.2.2.2.1
 have p7 := ((zu HB).ext F1).2.2.2.2.2.2.2
 cases fb
 case false =>
  obtain rfl := (zu HNO) (fun h => absurd ((zu HFB).2 ⟨h.R, h.C⟩) (by simp))
  go_wp2
  go_end0
  exact ⟨w1, F1, .inl ⟨rfl, rfl⟩⟩
 have hform := (zu HFB).1 rfl
 have HFORM := zh hform
 clear hform
 by_cases hin : (0 ≤ d.row ∧ d.row < d.rows) ∧ (0 ≤ d.col ∧ d.col < d.cols)
 case neg =>
  obtain rfl := (zu HNO) (fun h => hin ⟨h.row, h.col⟩)
  have hcon := zh (fun U (hU : Ext W U) => ziV d gv (.slice ha d.hold.length hc) bv U ((zu HH).ext hU) (zu HFF) (zu HFORM) hin)
  clear hin
  go_wp2_with fail
  refine ((zu hcon) _ F1).mono ?_
  rintro e w2 ⟨⟨u, pv, rfl⟩, F2⟩
  exact ⟨rfl, w2, F1.trans F2, .inr ⟨rfl, ⟨_, _, rfl⟩, rfl⟩⟩
 have HIN := zh hin
 clear hin
 go_wp2_with fail
 refine (zjS d gv (.slice ha d.hold.length hc) bv cb (zu HCB) _ ((zu HH).ext F1) hs (zu HFORM) (zu HIN).1 (zu HIN).2).mono ?_
 rintro e w2 ⟨rfl, F2⟩
 clear p0 p1 p2 p3 p4 p5 p6 p7 k1 z1
 have E2 := F1.trans F2
 have k1 := E2.cell hk
 have z1 := (E2.rules.2 kb 0 (zaj hk)).trans hkf
 have p0 := ((zu HB).ext E2).1
 have p1 := ((zu HB).ext E2).2.1
 have p2 := ((zu HB).ext E2).2.2.1
 have p3 := ((zu HB).ext E2).2.2.2.1
 have p4 := ((zu HB).ext E2).2.2.2.2.1
 have p5 := ((zu HB).ext E2).2.2.2.2.2.1
 have p6 := ((zu HB).ext E2).2.2.2.2.2.2.1
 have p7 := ((zu HB).ext E2).2.2.2.2.2.2.2
 cases cb
 case false =>
  obtain rfl := (zu HNO) (fun h => absurd ((zu HCB).2 h.late) (by simp))
  go_wp2
  go_end0
  exact ⟨w2, E2, .inl ⟨rfl, rfl⟩⟩
 have hcon := zh (ziL d gv (.slice ha d.hold.length hc) bv mb (zu HMB) w2 ((zu HH).ext E2) (zu HFF))
 go_wp2_with fail
 refine (zu hcon).mono ?_
 rintro e w3 ⟨he, F3⟩
 clear p0 p1 p2 p3 p4 p5 p6 p7 k1 z1
 have E3 := E2.trans F3
 have k1 := E3.cell hk
 have z1 := (E3.rules.2 kb 0 (zaj hk)).trans hkf
 have p0 := ((zu HB).ext E3).1
 have p1 := ((zu HB).ext E3).2.1
 have p2 := ((zu HB).ext E3).2.2.1
 have p3 := ((zu HB).ext E3).2.2.2.1
 have p4 := ((zu HB).ext E3).2.2.2.2.1
 have p5 := ((zu HB).ext E3).2.2.2.2.2.1
 have p6 := ((zu HB).ext E3).2.2.2.2.2.2.1
 have p7 := ((zu HB).ext E3).2.2.2.2.2.2.2
 rcases he with rfl | ⟨rfl, u, pv, rfl⟩
 case inr =>
  obtain rfl := (zu HNO) (fun h => absurd ((zu HMB).2 h.half) (by simp))
  exact ⟨rfl, w3, E3, .inr ⟨rfl, ⟨_, _, rfl⟩, rfl⟩⟩
 cases mb
 case false =>
  obtain rfl := (zu HNO) (fun h => absurd ((zu HMB).2 h.half) (by simp))
  go_wp2
  go_end0
  exact ⟨w3, E3, .inl ⟨rfl, rfl⟩⟩
 by_cases hl : (d.hold.length : Int) ≤ 32
 case neg =>
  obtain rfl := (zu HNO) (fun h => hl (by have := h.hold; omega))
  go_wp2
  go_end0
  exact ⟨w3, E3, .inl ⟨rfl, by rw [decide_eq_false (show ¬ (d.hold.length : Int) ≤ 32 by omega)]⟩⟩
 obtain rfl := (zu HYES) ⟨hs, (zu HFORM).1, by omega, (zu HFORM).2, (zu HMB).1 rfl, (zu HIN).1, (zu HIN).2, by have := zu HCB; simpa using this⟩
 go_wp2
 go_end0
 exact ⟨w3, E3, .inl ⟨rfl, rfl⟩⟩
set_option maxHeartbeats 2000000 in
theorem zdi (d : SD) (gv hv bv : Value) (ok : Bool) (hok : ok = true ↔ OkP d) (w : World) (h : zbY w d gv hv bv) (hF : d.Fits) :
  Calls Tryz.prog 11 #[zbT d gv hv bv] w fun e w' => e = .returned (.bool ok) ∧ Ext w w' := by
 have hmf : ∀ (fn : Fn) (first cap : Array Value) (w : World), (Instr.makeFunc fn first cap).run Tryz.prog w = .ok (.func fn first cap) w := fun _ _ _ _ => rfl
 have HOK := zh hok
 have HH := zh h
 have HFF := zh hF
 clear hok h hF
 unfold zbT
 go_enter Tryz.func11, Tryz.ntmps11
 go_wp2_with fail
 obtain ⟨W1, hW1⟩ : ∃ W, W = (w.alloc (.cells #[.int .i64 d.cols, .int .i64 d.rows, gv, .int .i64 d.row, .int .i64 d.col, .bool d.late, hv, bv] 26)).alloc (.cells #[.bool false] 4) := ⟨_, rfl⟩
 rw [← hW1]
 have E1 : Ext w W1 := by rw [hW1]; exact ((Ext.refl _).alloc _).alloc _
 have hz : W1.heap.size = w.heap.size + 2 := by rw [hW1]; simp
 have hb : zgb W1 w.heap.size d gv hv bv := by rw [hW1]; exact (zgb.new w d gv hv bv).ext ((Ext.refl _).alloc _)
 have hk : W1.cell? ⟨w.heap.size + 1, 0, none⟩ = some (.bool false) := by rw [hW1]; simp [go_sem]
 have hkf : W1.frozen? ⟨w.heap.size + 1, 0, none⟩ = false := by rw [hW1]; simp [go_sem]
 clear hW1
 have X1 : Ext W1 (W1.alloc (.cells #[.bool false] 4)) := (Ext.refl _).alloc _
 have hnew : (W1.alloc (.cells #[.bool false] 4)).cell? ⟨W1.heap.size, 0, none⟩ = some (.bool false) := by simp [go_sem]
 have hnewf : (W1.alloc (.cells #[.bool false] 4)).frozen? ⟨W1.heap.size, 0, none⟩ = false := by simp [go_sem]
 have hcon := zhl ⟨w.heap.size, 0, none⟩ ⟨w.heap.size + 1, 0, none⟩ W1 (fun w' => ∃ w1, Ext (W1.alloc (.cells #[.bool false] 4)) w1 ∧ (w' = w1.setCell ⟨w.heap.size + 1, 0, none⟩ (.bool ok) ∨ (ok = false ∧ w' = w1)))
  (by
   rintro w' ⟨w1, F, hw⟩
   have c1 := F.cell hnew
   have f1 := (F.rules.2 W1.heap.size 0 (zaj hnew)).trans hnewf
   rcases hw with rfl | ⟨_, rfl⟩
   ·have hne : ¬ W1.heap.size = w.heap.size + 1 := by omega
    have fr := Fr.setCell (S := fun q => q = w.heap.size + 1) (Fr.refl _ w1) (a := ⟨w.heap.size + 1, 0, none⟩) rfl (.bool ok)
    have hbl := fr.block W1.heap.size (zaj c1) hne
    exact ⟨(World.cell?_of_block (a := ⟨W1.heap.size, 0, none⟩) hbl).trans c1, (World.frozen?_of_block (a := ⟨W1.heap.size, 0, none⟩) hbl).trans f1⟩
   ·exact ⟨c1, f1⟩)
  ((zhH d gv hv bv ok (zu HOK) w.heap.size (w.heap.size + 1) _ ((zu HH).ext (E1.trans X1)) (zu HFF) (hb.ext X1) (X1.cell hk) ((X1.rules.2 _ 0 (zaj hk)).trans hkf)).mono (by
   rintro e w' ⟨w1, F, (⟨rfl, rfl⟩ | ⟨h1, ⟨u, pv, rfl⟩, rfl⟩)⟩
   ·exact ⟨.inl rfl, w1, F, .inl rfl⟩
   ·exact ⟨.inr ⟨u, pv, rfl⟩, _, F, .inr ⟨h1, rfl⟩⟩))
 have HCON := zh hcon
 clear hcon
 refine (zu HCON).mono ?_
 rintro e w2 ⟨b, w1', rfl, ⟨w1, F, hw⟩, rfl⟩
 have hk1 := (X1.trans F).cell hk
 have hfin : (w1'.setCell ⟨W1.heap.size, 0, none⟩ (.bool b)).cell? ⟨w.heap.size + 1, 0, none⟩ = some (.bool ok) ∧ Ext w (w1'.setCell ⟨W1.heap.size, 0, none⟩ (.bool b)) := by
  have hne : ¬ w.heap.size + 1 = W1.heap.size := by omega
  have step : w1'.cell? ⟨w.heap.size + 1, 0, none⟩ = some (.bool ok) ∧ Ext w w1' := by
   rcases hw with rfl | ⟨rfl, rfl⟩
   ·exact ⟨by simp [go_sem, hk1], ((E1.trans X1).trans F).setCell (a := ⟨w.heap.size + 1, 0, none⟩) (by show w.heap.size ≤ w.heap.size + 1; omega) _⟩
   ·exact ⟨hk1, (E1.trans X1).trans F⟩
  have fr := Fr.setCell (S := fun q => q = W1.heap.size) (Fr.refl _ w1') (a := ⟨W1.heap.size, 0, none⟩) rfl (.bool b)
  have hbl := fr.block (w.heap.size + 1) (zaj step.1) hne
  exact ⟨(World.cell?_of_block (a := ⟨w.heap.size + 1, 0, none⟩) hbl).trans step.1, step.2.setCell (a := ⟨W1.heap.size, 0, none⟩) (by show w.heap.size ≤ W1.heap.size; omega) _⟩
 obtain ⟨hc9, E9⟩ := hfin
 obtain ⟨w9, hw9⟩ : ∃ x, x = w1'.setCell ⟨W1.heap.size, 0, none⟩ (.bool b) := ⟨_, rfl⟩
 rw [← hw9] at hc9 E9 ⊢
 clear hw9 hw hk1
 go_wp2
 go_ret
 exact ⟨rfl, E9⟩
end Go.Proofs.YtinfdhbnljnifaaGreatDoor
