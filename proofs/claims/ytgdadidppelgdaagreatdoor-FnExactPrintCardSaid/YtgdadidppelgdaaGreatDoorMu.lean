import Derived.Test.YtgdadidppelgdaaGreatDoorDrawM
import Derived.Test.YtgdadidppelgdaaGreatDoorSes
import Derived.Test.YtgdadidppelgdaaGreatDoorSesOkI
import Derived.Test.YtgdadidppelgdaaGreatDoorSpecRune
import Derived.Test.YtgdadidppelgdaaGreatDoorProg
import Derived.Recover
import Derived.Defers
import Derived.Conc.MuLone
import Derived.KernelRfl
namespace Go.Proofs.YtgdadidppelgdaaGreatDoor
open Go.RowKit

/-- What 'mark' lays into pairs of texts. -/
def mkU (k : Int) (j : Nat) : Value := .string (mtx (k + 2 * (j : Int) + 1))
theorem Own2.setA {w : World} {base : Nat} {T : TypeId} {n : Nat} {A B : Nat → Value} {g cap j : Nat} (h : Own2 w base T (.slice (some ⟨g, 0, none⟩) n cap) n A B) (hj : j < n) (u : Value) :
    Own2 (w.setCell ⟨g, j * 2, none⟩ u) base T (.slice (some ⟨g, 0, none⟩) n cap) n (fun i => if i = j then u else A i) B := by
  obtain ⟨ys, h1, h2⟩ := h
  have hl := h1.1
  refine ⟨_, (h1.stored (j * 2) u).1, fun i hi => ?_⟩
  dsimp only
  by_cases e : i = j
  · subst e
    rw [if_pos rfl, List.getElem?_set_self (by omega), List.getElem?_set_ne (by omega)]
    exact ⟨rfl, (h2 i hi).2⟩
  · rw [if_neg e, List.getElem?_set_ne (by omega), List.getElem?_set_ne (by omega)]
    exact h2 i hi
theorem Own2.setB {w : World} {base : Nat} {T : TypeId} {n : Nat} {A B : Nat → Value} {g cap j : Nat} (h : Own2 w base T (.slice (some ⟨g, 0, none⟩) n cap) n A B) (hj : j < n) (u : Value) :
    Own2 (w.setCell ⟨g, j * 2 + 1, none⟩ u) base T (.slice (some ⟨g, 0, none⟩) n cap) n A (fun i => if i = j then u else B i) := by
  obtain ⟨ys, h1, h2⟩ := h
  have hl := h1.1
  refine ⟨_, (h1.stored (j * 2 + 1) u).1, fun i hi => ?_⟩
  dsimp only
  by_cases e : i = j
  · subst e
    rw [if_pos rfl, List.getElem?_set_ne (by omega), List.getElem?_set_self (by omega)]
    exact ⟨(h2 i hi).1, rfl⟩
  · rw [if_neg e, List.getElem?_set_ne (by omega), List.getElem?_set_ne (by omega)]
    exact h2 i hi
set_option maxRecDepth 10000 in
set_option maxHeartbeats 1000000 in
theorem markSnapS_any (base : Nat) (v : Value) (n : Nat) (A B : Nat → Value) (k : Int) (w : World) (hv : Own2 w base 123 v n A B) (hn : n ≤ 1048576) (hk : 0 ≤ k) (hk2 : k ≤ 1099511627776) :
    Calls Tryz.prog 74 #[v, .int .i64 k] w fun e w' => e = .returned (.int .i64 (k + 2 * (n : Int))) ∧ Own2 w' base 123 v n (mkT k) (mkU k) ∧ Fr (fun g => v.ownBlock = some g) w w' := by
  have HV := hide hv
  rcases hv.form with ⟨rfl, h0⟩ | ⟨g, cap, rfl⟩
  · subst h0
    clear hv
    go_enter Tryz.func74, Tryz.ntmps74
    go_wp2
    go_loop [1, 5] (fun a i => a = .int .i64 k ∧ i = .int .i64 0) (fun _ _ => 0)
    case atStart => exact ⟨rfl, rfl⟩
    case round =>
      obtain ⟨rfl, rfl⟩ := hrel
      go_wp2
      go_ret
      exact ⟨ret_int (by simp), (unhide HV).congr (fun j hj => by omega), Fr.refl _ _⟩
  · clear hv
    go_enter Tryz.func74, Tryz.ntmps74
    go_wp2
    go_loopw [1, 5] (fun a i wr => ∃ j : Nat, j ≤ n ∧ a = .int .i64 (k + 2 * (j : Int)) ∧ i = .int .i64 j ∧ Hid (Own2 wr base 123 (.slice (some ⟨g, 0, none⟩) n cap) n (fun i => if i < j then mkT k i else A i) (fun i => if i < j then mkU k i else B i)) ∧ Hid (Fr (fun q => (Value.slice (some ⟨g, 0, none⟩) n cap).ownBlock = some q) w wr)) (fun _ i _ => n - (intOf i).toNat)
    case atStart => exact ⟨0, Nat.zero_le _, by go_num, rfl, (unhide HV).congr (fun j hj => ⟨by simp, by simp⟩), Fr.refl _ _⟩
    case round =>
      obtain ⟨j, hj, rfl, rfl, HO, HF⟩ := hrel
      by_cases hlt : j < n
      · have bj : (j : Int) < (n : Int) := by omega
        obtain ⟨K, hK⟩ : ∃ K, K = k + 2 * (j : Int) := ⟨_, rfl⟩
        have HK := hide hK
        have hKb : 0 ≤ K ∧ K ≤ 1099513724928 := by omega
        rw [← hK]
        clear hK
        go_wp2_with fail
        refine (markText_any K _ (by omega)).mono ?_
        rintro e w1 ⟨rfl, F1⟩
        have hO1 := (unhide HO).ext F1
        obtain ⟨⟨c0, f0⟩, c1, f1⟩ := hO1.cell hlt
        have HS1 := hide (hO1.setA hlt (.string (mtx K)))
        have HF1 := hide (((unhide HF).grown F1 (fun q hq => by simp at hq)).setCell (a := ⟨g, j * 2, none⟩) rfl (.string (mtx K)))
        clear hO1
        go_wp2_with fail
        refine (markText_any (K + 1) _ (by omega)).mono ?_
        rintro e w2 ⟨rfl, F2⟩
        have hO2 := (unhide HS1).ext F2
        obtain ⟨⟨d0, e0⟩, d1, e1⟩ := hO2.cell hlt
        have HS := hide ((hO2.setB hlt (.string (mtx (K + 1)))).congr (A' := fun i => if i < j + 1 then mkT k i else A i) (B' := fun i => if i < j + 1 then mkU k i else B i) (fun i hi => by
          by_cases e : i = j
          · subst e
            rw [if_pos rfl, if_pos rfl, if_pos (by omega), if_pos (by omega), mkT, mkU, ← unhide HK]
            exact ⟨rfl, rfl⟩
          · rw [if_neg e, if_neg e]
            by_cases e2 : i < j
            · rw [if_pos e2, if_pos e2, if_pos (by omega), if_pos (by omega)]; exact ⟨rfl, rfl⟩
            · rw [if_neg e2, if_neg e2, if_neg (by omega), if_neg (by omega)]; exact ⟨rfl, rfl⟩))
        have HF2 := hide (((unhide HF1).grown F2 (fun q hq => by simp at hq)).setCell (a := ⟨g, j * 2 + 1, none⟩) rfl (.string (mtx (K + 1))))
        clear hO2
        go_wp2
        go_roundw
        case rel => exact ⟨j + 1, by omega, by rw [unhide HK]; go_num, by go_num, HS, HF2⟩
        case measure => simp [intOf]; omega
      · obtain rfl : j = n := by omega
        have HFIN := hide ((unhide HO).congr (A' := mkT k) (B' := mkU k) (fun i hi => ⟨by simp [hi], by simp [hi]⟩))
        go_wp2
        go_ret
        exact ⟨rfl, unhide HFIN, unhide HF⟩
set_option maxRecDepth 10000 in
set_option maxHeartbeats 1000000 in
theorem heldSnapS_any (v : Value) (n : Nat) (k : Int) (w : World) (hv : Row2At w v n (mkT k) (mkU k)) (hn : n ≤ 1048576) (hk : 0 ≤ k) (hk2 : k ≤ 1099511627776) :
    Calls Tryz.prog 76 #[v, .int .i64 k] w fun e w' => e = .returned (.int .i64 (k + 2 * (n : Int))) ∧ Ext w w' := by
  obtain ⟨ao, ca, rfl, hca, hxa⟩ := hv
  by_cases h0 : n = 0
  · subst h0
    clear hxa
    go_enter Tryz.func76, Tryz.ntmps76
    go_wp2
    go_loop [1, 5] (fun a i => a = .int .i64 k ∧ i = .int .i64 0) (fun _ _ => 0)
    case atStart => exact ⟨rfl, rfl⟩
    case round =>
      obtain ⟨rfl, rfl⟩ := hrel
      go_wp2
      go_ret
      exact ⟨ret_int (by simp), Ext.refl _⟩
  · obtain ⟨b, off, rfl, hc⟩ := hxa (by omega)
    have HC := hide hc
    clear hxa hc
    go_enter Tryz.func76, Tryz.ntmps76
    go_wp2
    go_loopw [1, 5] (fun a i wr => ∃ j : Nat, j ≤ n ∧ a = .int .i64 (k + 2 * (j : Int)) ∧ i = .int .i64 j ∧ Ext w wr) (fun _ i _ => n - (intOf i).toNat)
    case atStart => exact ⟨0, Nat.zero_le _, by go_num, rfl, Ext.refl _⟩
    case round =>
      obtain ⟨j, hj, rfl, rfl, hext⟩ := hrel
      by_cases hlt : j < n
      · have bj : (j : Int) < (n : Int) := by omega
        have hcc := (unhide HC) j hlt
        have g1 := hext.cell hcc.1
        have g2 := hext.cell hcc.2
        simp only [mkT, mkU] at g1 g2
        obtain ⟨K, hK⟩ : ∃ K, K = k + 2 * (j : Int) := ⟨_, rfl⟩
        have HK := hide hK
        have hKb : 0 ≤ K ∧ K ≤ 1099513724928 := by omega
        rw [← hK] at g1 g2 ⊢
        clear hK hcc
        have G2 := hide g2
        clear g2
        go_wp2
        go_region_held3 (fun W => Ext wr W ∧ W.cell? ⟨b, off + j * 2, none⟩ = some (.string (mtx K))) (first | exact ⟨(Ext.refl wr).drew, g1⟩ | exact ⟨(Ext.refl wr).drew.trans he', he'.cell g1⟩) (first | (go_at_call 75; refine (markText_any K _ (by omega)).mono ?_; rintro e w' ⟨rfl, he'⟩))
        rename_i hS
        have hE := hext.trans hS.1
        have g3 := hS.1.cell (unhide G2)
        have hF := hS.1
        clear hS g1
        go_wp2
        go_region_held3 (fun W => Ext wr W ∧ W.cell? ⟨b, off + j * 2 + 1, none⟩ = some (.string (mtx (K + 1)))) (first | exact ⟨hF.drew, g3⟩ | exact ⟨hF.drew.trans he2, he2.cell g3⟩) (first | (go_at_call 75; refine (markText_any (K + 1) _ (by omega)).mono ?_; rintro e w'' ⟨rfl, he2⟩))
        rename_i hS
        have hE := hext.trans hS.1
        clear hS
        go_wp2
        go_roundw
        case rel => exact ⟨j + 1, by omega, by rw [unhide HK]; go_num, by go_num, hE⟩
        case measure => simp [intOf]; omega
      · obtain rfl : j = n := by omega
        go_wp2
        go_ret
        exact ⟨rfl, hext⟩
set_option maxRecDepth 10000 in
set_option maxHeartbeats 1000000 in
theorem markLine_any (base : Nat) (a b c : ByteArray) (v : Value) (n : Nat) (A B : Nat → Value) (k : Int) (w : World) (hv : Own2 w base 123 v n A B) (hn : n ≤ 1048576) (hk : 0 ≤ k) (hk2 : k ≤ 1099511627776) :
    Calls Tryz.prog 38 #[.agg #[.string a, .string b, .string c, v], .int .i64 k] w fun e w' => e = .returned (.int .i64 (k + 2 * (n : Int))) ∧ Own2 w' base 123 v n (mkT k) (mkU k) ∧ Fr (fun g => v.ownBlock = some g) w w' := by
  have HC := hide (fun U (hU : Ext w U) => markSnapS_any base v n A B k U (hv.ext hU) hn hk hk2)
  clear hv
  go_enter Tryz.func38, Tryz.ntmps38
  go_wp2_with fail
  refine ((unhide HC) _ ((Ext.refl w).alloc _)).mono ?_
  rintro e w1 ⟨rfl, o1, F1⟩
  have O1 := hide o1
  clear o1
  go_wp2
  go_ret
  exact ⟨rfl, unhide O1, ⟨F1.os, F1.tape, F1.output, Nat.le_trans ((Ext.refl w).alloc _).size F1.size, fun i hi hn => (F1.block i (Nat.lt_of_lt_of_le hi ((Ext.refl w).alloc _).size) hn).trans (((Ext.refl w).alloc _).heap hi)⟩⟩
set_option maxRecDepth 10000 in
set_option maxHeartbeats 1000000 in
theorem heldLine_any (a b c : ByteArray) (v : Value) (n : Nat) (k : Int) (w : World) (hv : Row2At w v n (mkT k) (mkU k)) (hn : n ≤ 1048576) (hk : 0 ≤ k) (hk2 : k ≤ 1099511627776) :
    Calls Tryz.prog 41 #[.agg #[.string a, .string b, .string c, v], .int .i64 k] w fun e w' => e = .returned (.int .i64 (k + 2 * (n : Int))) ∧ Ext w w' := by
  have HC := hide (fun U (hU : Ext w U) => heldSnapS_any v n k U (hv.ext hU) hn hk hk2)
  clear hv
  have hneg : ¬ k + 2 * (n : Int) < 0 := by omega
  go_enter Tryz.func41, Tryz.ntmps41
  go_wp2_with fail
  refine ((unhide HC) _ ((Ext.refl w).alloc _)).mono ?_
  rintro e w1 ⟨rfl, F1⟩
  go_wp2
  go_ret
  exact ⟨rfl, ((Ext.refl w).alloc _).trans F1⟩
end Go.Proofs.YtgdadidppelgdaaGreatDoor

namespace Go.Proofs.YtgdadidppelgdaaGreatDoor
open Go.RowKit

/-- Sizes up to which a session can be marked. -/
structure SS.SzM (s : SS) : Prop where
  un : s.un ≤ 1048576
  kh : s.kh.length ≤ 1073741824
  pn : s.pn ≤ 1073741824
  qn : s.qn ≤ 1073741824
  ln : s.ln ≤ 1073741824
  dn : s.dn ≤ 1073741824
theorem SS.Sz.toM {s : SS} (h : s.Sz) : s.SzM := ⟨by have := h.un; omega, by have := h.kh; omega, by have := h.pn; omega, by have := h.qn; omega, by have := h.ln; omega, by have := h.dn; omega⟩
def SS.m (s : SS) : Nat := 2 * s.un + s.kh.length + s.pn + s.qn + s.ln + s.dn
def mkSS (k : Int) (s : SS) : SS := { s with
  ut := fun j => mtx (k + 2 * (j : Int)), uh := fun j => mtx (k + 2 * (j : Int) + 1),
  kh := mkU8 (k + 2 * (s.un : Int)) s.kh.length,
  pt := fun j => mtx (k + 2 * (s.un : Int) + (s.kh.length : Int) + (j : Int)), qt := fun j => mtx (k + 2 * (s.un : Int) + (s.kh.length : Int) + (s.pn : Int) + (j : Int)), lt := fun j => mtx (k + 2 * (s.un : Int) + (s.kh.length : Int) + (s.pn : Int) + (s.qn : Int) + (j : Int)), dt := fun j => mtx (k + 2 * (s.un : Int) + (s.kh.length : Int) + (s.pn : Int) + (s.qn : Int) + (s.ln : Int) + (j : Int)) }
theorem pw6 {a b c d e f : Value} (h : List.Pairwise Apart [a, b, c, d, e, f]) : (Apart a b ∧ Apart a c ∧ Apart a d ∧ Apart a e ∧ Apart a f) ∧ (Apart b c ∧ Apart b d ∧ Apart b e ∧ Apart b f) ∧ (Apart c d ∧ Apart c e ∧ Apart c f) ∧ (Apart d e ∧ Apart d f) ∧ Apart e f := by
  simp only [List.pairwise_cons, List.mem_cons, List.not_mem_nil, or_false, forall_eq_or_imp, forall_eq] at h
  obtain ⟨⟨h1, h2, h3, h4, h5⟩, ⟨h6, h7, h8, h9⟩, ⟨h10, h11, h12⟩, ⟨h13, h14⟩, h15, _⟩ := h
  exact ⟨⟨h1, h2, h3, h4, h5⟩, ⟨h6, h7, h8, h9⟩, ⟨h10, h11, h12⟩, ⟨h13, h14⟩, h15⟩
set_option maxRecDepth 10000 in
set_option maxHeartbeats 4000000 in
theorem markSession_any (base : Nat) (s : SS) (u h p q l d : Value) (k : Int) (w : World) (hO : OwnSes w base s u h p q l d) (hz : s.SzM) (hk : 0 ≤ k) (hk2 : k ≤ 68719476736) :
    Calls Tryz.prog 12 #[sesV s u h p q l d, .int .i64 k] w fun e w' => e = .returned (.int .i64 (k + (s.m : Int))) ∧ OwnSes w' base (mkSS k s) u h p q l d ∧ Fr (SesFoot u h p q l d) w w' := by
  obtain ⟨ua, uc, ha, hc, pa, pc, qa, qc, la, lc, da, dc, rfl, rfl, rfl, rfl, rfl, rfl⟩ := hO.reads.forms
  have AP := hide hO.ap
  have LT := hide (fun g hg => hO.foot (g := g) hg)
  obtain ⟨⟨a01, a02, a03, a04, a05⟩, ⟨a12, a13, a14, a15⟩, ⟨a23, a24, a25⟩, ⟨a34, a35⟩, a45⟩ := pw6 hO.ap
  have z0 := hz.un
  have z1 := hz.kh
  have z2 := hz.pn
  have z3 := hz.qn
  have z4 := hz.ln
  have z5 := hz.dn
  obtain ⟨V, hV⟩ : ∃ V, V = w.alloc (.cells #[.string s.pr, .int .i64 s.cols, .int .i64 s.rows, .string s.la, .string s.lb, .string s.lc, .slice ua s.un uc, .slice ha s.kh.length hc, .bool s.kp, .bool s.nav, .slice pa s.pn pc, .int .i64 s.at9, .string s.dr, .bool s.st, .slice qa s.qn qc, .slice la s.ln lc, .slice da s.dn dc] 37) := ⟨_, rfl⟩
  have E0 : Ext w V := by rw [hV]; exact (Ext.refl w).alloc _
  have HB : Hid (V.heap[w.heap.size]? = some (.cells #[.string s.pr, .int .i64 s.cols, .int .i64 s.rows, .string s.la, .string s.lb, .string s.lc, .slice ua s.un uc, .slice ha s.kh.length hc, .bool s.kp, .bool s.nav, .slice pa s.pn pc, .int .i64 s.at9, .string s.dr, .bool s.st, .slice qa s.qn qc, .slice la s.ln lc, .slice da s.dn dc] 37 (0, 0))) := hide (by rw [hV]; exact new_block w _)
  have HV := hide hV
  clear hV
  have O0 := hide (hO.ext E0).un
  have O1 := hide (hO.ext E0).kh
  have O2 := hide (hO.ext E0).pa
  have O3 := hide (hO.ext E0).qu
  have O4 := hide (hO.ext E0).lo
  have O5 := hide (hO.ext E0).dn
  have A01 := hide a01
  have A02 := hide a02
  have A03 := hide a03
  have A04 := hide a04
  have A05 := hide a05
  have A12 := hide a12
  have A13 := hide a13
  have A14 := hide a14
  have A15 := hide a15
  have A23 := hide a23
  have A24 := hide a24
  have A25 := hide a25
  have A34 := hide a34
  have A35 := hide a35
  have A45 := hide a45
  clear hO hz a01 a02 a03 a04 a05 a12 a13 a14 a15 a23 a24 a25 a34 a35 a45
  unfold sesV
  go_enter Tryz.func12, Tryz.ntmps12
  go_wp2_with fail
  rw [← unhide HV]
  clear HV
  refine (markLine_any base s.la s.lb s.lc _ s.un _ _ (k) V (unhide O0) (by omega) (by omega) (by omega)).mono ?_
  rintro e w1 ⟨rfl, o, F⟩
  replace O1 := hide (F.owns (unhide O1) (fun g hg e9 => (unhide A01) g e9 hg))
  replace O2 := hide ((unhide O2).fr F (fun g hg e9 => (unhide A02) g e9 hg))
  replace O3 := hide ((unhide O3).fr F (fun g hg e9 => (unhide A03) g e9 hg))
  replace O4 := hide ((unhide O4).fr F (fun g hg e9 => (unhide A04) g e9 hg))
  replace O5 := hide ((unhide O5).fr F (fun g hg e9 => (unhide A05) g e9 hg))
  replace O0 := hide o
  replace HB := hide (F.kept (unhide HB) (fun h9 => by have := ((unhide LT) w.heap.size (.inl h9)).2; omega))
  have FZ : Fr (SesFoot (.slice ua s.un uc) (.slice ha s.kh.length hc) (.slice pa s.pn pc) (.slice qa s.qn qc) (.slice la s.ln lc) (.slice da s.dn dc)) V w1 := (F.mono (fun g hq => (show SesFoot _ _ _ _ _ _ g from .inl hq)))
  clear o F
  have c0_7 : w1.cell? ⟨w.heap.size, 7, none⟩ = some (.slice ha s.kh.length hc) := cells_of (unhide HB) 7 _ rfl
  have c0_8 : w1.cell? ⟨w.heap.size, 8, none⟩ = some (.bool s.kp) := cells_of (unhide HB) 8 _ rfl
  go_wp2_with fail
  clear c0_7 c0_8
  refine (markKeyReader_any base _ s.kh.length _ s.kp (k + 2 * (s.un : Int)) w1 (unhide O1) (by omega) (by omega) (by omega)).mono ?_
  rintro e w2 ⟨rfl, o, F⟩
  replace F : Fr (fun g => (.slice ha s.kh.length hc : Value).ownBlock = some g) w1 w2 := (Fr.refl _ w1).grown F (fun g hg => hg)
  replace O0 := hide ((unhide O0).fr F (fun g hg e9 => (unhide A01) g hg e9))
  replace O2 := hide ((unhide O2).fr F (fun g hg e9 => (unhide A12) g e9 hg))
  replace O3 := hide ((unhide O3).fr F (fun g hg e9 => (unhide A13) g e9 hg))
  replace O4 := hide ((unhide O4).fr F (fun g hg e9 => (unhide A14) g e9 hg))
  replace O5 := hide ((unhide O5).fr F (fun g hg e9 => (unhide A15) g e9 hg))
  replace O1 := hide o
  replace HB := hide (F.kept (unhide HB) (fun h9 => by have := ((unhide LT) w.heap.size (.inr (.inl h9))).2; omega))
  replace FZ := FZ.tr (F.mono (fun g hq => (show SesFoot _ _ _ _ _ _ g from .inr (.inl hq))))
  clear o F
  have c1_10 : w2.cell? ⟨w.heap.size, 10, none⟩ = some (.slice pa s.pn pc) := cells_of (unhide HB) 10 _ rfl
  go_wp2_with fail
  clear c1_10
  refine (markStringS_any base _ s.pn _ (k + 2 * (s.un : Int) + (s.kh.length : Int)) w2 (unhide O2) (by omega) (by omega) (by omega)).mono ?_
  rintro e w3 ⟨rfl, o, F⟩
  replace O0 := hide ((unhide O0).fr F (fun g hg e9 => (unhide A02) g hg e9))
  replace O1 := hide (F.owns (unhide O1) (fun g hg e9 => (unhide A12) g hg e9))
  replace O3 := hide ((unhide O3).fr F (fun g hg e9 => (unhide A23) g e9 hg))
  replace O4 := hide ((unhide O4).fr F (fun g hg e9 => (unhide A24) g e9 hg))
  replace O5 := hide ((unhide O5).fr F (fun g hg e9 => (unhide A25) g e9 hg))
  replace O2 := hide o
  replace HB := hide (F.kept (unhide HB) (fun h9 => by have := ((unhide LT) w.heap.size (.inr (.inr (.inl h9)))).2; omega))
  replace FZ := FZ.tr (F.mono (fun g hq => (show SesFoot _ _ _ _ _ _ g from .inr (.inr (.inl hq)))))
  clear o F
  have c2_14 : w3.cell? ⟨w.heap.size, 14, none⟩ = some (.slice qa s.qn qc) := cells_of (unhide HB) 14 _ rfl
  go_wp2_with fail
  clear c2_14
  refine (markStringS_any base _ s.qn _ (k + 2 * (s.un : Int) + (s.kh.length : Int) + (s.pn : Int)) w3 (unhide O3) (by omega) (by omega) (by omega)).mono ?_
  rintro e w4 ⟨rfl, o, F⟩
  replace O0 := hide ((unhide O0).fr F (fun g hg e9 => (unhide A03) g hg e9))
  replace O1 := hide (F.owns (unhide O1) (fun g hg e9 => (unhide A13) g hg e9))
  replace O2 := hide ((unhide O2).fr F (fun g hg e9 => (unhide A23) g hg e9))
  replace O4 := hide ((unhide O4).fr F (fun g hg e9 => (unhide A34) g e9 hg))
  replace O5 := hide ((unhide O5).fr F (fun g hg e9 => (unhide A35) g e9 hg))
  replace O3 := hide o
  replace HB := hide (F.kept (unhide HB) (fun h9 => by have := ((unhide LT) w.heap.size (.inr (.inr (.inr (.inl h9))))).2; omega))
  replace FZ := FZ.tr (F.mono (fun g hq => (show SesFoot _ _ _ _ _ _ g from .inr (.inr (.inr (.inl hq))))))
  clear o F
  have c3_15 : w4.cell? ⟨w.heap.size, 15, none⟩ = some (.slice la s.ln lc) := cells_of (unhide HB) 15 _ rfl
  go_wp2_with fail
  clear c3_15
  refine (markStringS_any base _ s.ln _ (k + 2 * (s.un : Int) + (s.kh.length : Int) + (s.pn : Int) + (s.qn : Int)) w4 (unhide O4) (by omega) (by omega) (by omega)).mono ?_
  rintro e w5 ⟨rfl, o, F⟩
  replace O0 := hide ((unhide O0).fr F (fun g hg e9 => (unhide A04) g hg e9))
  replace O1 := hide (F.owns (unhide O1) (fun g hg e9 => (unhide A14) g hg e9))
  replace O2 := hide ((unhide O2).fr F (fun g hg e9 => (unhide A24) g hg e9))
  replace O3 := hide ((unhide O3).fr F (fun g hg e9 => (unhide A34) g hg e9))
  replace O5 := hide ((unhide O5).fr F (fun g hg e9 => (unhide A45) g e9 hg))
  replace O4 := hide o
  replace HB := hide (F.kept (unhide HB) (fun h9 => by have := ((unhide LT) w.heap.size (.inr (.inr (.inr (.inr (.inl h9)))))).2; omega))
  replace FZ := FZ.tr (F.mono (fun g hq => (show SesFoot _ _ _ _ _ _ g from .inr (.inr (.inr (.inr (.inl hq)))))))
  clear o F
  have c4_16 : w5.cell? ⟨w.heap.size, 16, none⟩ = some (.slice da s.dn dc) := cells_of (unhide HB) 16 _ rfl
  go_wp2_with fail
  clear c4_16
  refine (markStringS_any base _ s.dn _ (k + 2 * (s.un : Int) + (s.kh.length : Int) + (s.pn : Int) + (s.qn : Int) + (s.ln : Int)) w5 (unhide O5) (by omega) (by omega) (by omega)).mono ?_
  rintro e w6 ⟨rfl, o, F⟩
  replace O0 := hide ((unhide O0).fr F (fun g hg e9 => (unhide A05) g hg e9))
  replace O1 := hide (F.owns (unhide O1) (fun g hg e9 => (unhide A15) g hg e9))
  replace O2 := hide ((unhide O2).fr F (fun g hg e9 => (unhide A25) g hg e9))
  replace O3 := hide ((unhide O3).fr F (fun g hg e9 => (unhide A35) g hg e9))
  replace O4 := hide ((unhide O4).fr F (fun g hg e9 => (unhide A45) g hg e9))
  replace O5 := hide o
  replace HB := hide (F.kept (unhide HB) (fun h9 => by have := ((unhide LT) w.heap.size (.inr (.inr (.inr (.inr (.inr (h9))))))).2; omega))
  replace FZ := FZ.tr (F.mono (fun g hq => (show SesFoot _ _ _ _ _ _ g from .inr (.inr (.inr (.inr (.inr (hq))))))))
  clear o F
  go_wp2
  go_ret
  refine ⟨congrArg Ending.returned (congrArg (Value.int .i64) (by unfold SS.m; omega)), ⟨unhide O0, ?_, unhide O2, unhide O3, unhide O4, unhide O5, unhide AP⟩, ?_⟩
  · have h1 := unhide O1
    show w6.ownsRow base 5 1 _ (mkU8 (k + 2 * (s.un : Int)) s.kh.length).length _
    rw [mkU8_len]
    exact h1
  · exact (Fr.of_ext E0).tr FZ
theorem sesK_mark (s : SS) (hz : s.SzM) : MarkOk 12 (sesK s) (fun k => sesK (mkSS k s)) s.m := by
  rintro w b S v k ⟨u, h, p, q, l, d, rfl, H, hS⟩ h0 h1
  refine (markSession_any b s u h p q l d k w H hz h0 h1).mono ?_
  rintro e w' ⟨rfl, o, f⟩
  exact ⟨rfl, ⟨u, h, p, q, l, d, rfl, o, hS⟩, f.mono (fun g hg => (hS g).2 hg)⟩
set_option maxRecDepth 10000 in
set_option maxHeartbeats 4000000 in
theorem heldSession_any (s : SS) (u h p q l d : Value) (k : Int) (w : World) (hO : SesAt w (mkSS k s) u h p q l d) (hz : s.SzM) (hk : 0 ≤ k) (hk2 : k ≤ 68719476736) :
    Calls Tryz.prog 14 #[sesV (mkSS k s) u h p q l d, .int .i64 k] w fun e w' => e = .returned (.int .i64 (k + (s.m : Int))) ∧ Ext w w' := by
  have z0 := hz.un
  have z1 := hz.kh
  have z2 := hz.pn
  have z3 := hz.qn
  have z4 := hz.ln
  have z5 := hz.dn
  have hO1 : IntsAt w .u8 h (mkU8 (k + 2 * (s.un : Int)) s.kh.length) := hO.kh
  obtain ⟨ua, uc, ha, hc, pa, pc, qa, qc, la, lc, da, dc, rfl, e2, rfl, rfl, rfl, rfl⟩ := hO.forms
  have e3 : h = .slice ha s.kh.length hc := by rw [e2]; show Value.slice ha (mkU8 _ _).length hc = _; rw [mkU8_len]
  clear e2
  subst e3
  have h0 := hide (fun W (hW : Ext w W) => heldLine_any s.la s.lb s.lc _ s.un (k) W (hO.un.ext hW) (by omega) (by omega) (by omega))
  have h1 := hide (fun W (hW : Ext w W) => heldKeyReader_any _ s.kh.length s.kp (k + 2 * (s.un : Int)) W (hO1.ext hW) (by omega) (by omega) (by omega))
  have h2 := hide (fun W (hW : Ext w W) => heldStringS_any _ s.pn (k + 2 * (s.un : Int) + (s.kh.length : Int)) W (hO.pa.ext hW) (by omega) (by omega) (by omega))
  have h3 := hide (fun W (hW : Ext w W) => heldStringS_any _ s.qn (k + 2 * (s.un : Int) + (s.kh.length : Int) + (s.pn : Int)) W (hO.qu.ext hW) (by omega) (by omega) (by omega))
  have h4 := hide (fun W (hW : Ext w W) => heldStringS_any _ s.ln (k + 2 * (s.un : Int) + (s.kh.length : Int) + (s.pn : Int) + (s.qn : Int)) W (hO.lo.ext hW) (by omega) (by omega) (by omega))
  have h5 := hide (fun W (hW : Ext w W) => heldStringS_any _ s.dn (k + 2 * (s.un : Int) + (s.kh.length : Int) + (s.pn : Int) + (s.qn : Int) + (s.ln : Int)) W (hO.dn.ext hW) (by omega) (by omega) (by omega))
  obtain ⟨V, hV⟩ : ∃ V, V = w.alloc (.cells #[.string s.pr, .int .i64 s.cols, .int .i64 s.rows, .string s.la, .string s.lb, .string s.lc, .slice ua s.un uc, .slice ha s.kh.length hc, .bool s.kp, .bool s.nav, .slice pa s.pn pc, .int .i64 s.at9, .string s.dr, .bool s.st, .slice qa s.qn qc, .slice la s.ln lc, .slice da s.dn dc] 37) := ⟨_, rfl⟩
  have E0 : Ext w V := by rw [hV]; exact (Ext.refl w).alloc _
  have HB : Hid (V.heap[w.heap.size]? = some (.cells #[.string s.pr, .int .i64 s.cols, .int .i64 s.rows, .string s.la, .string s.lb, .string s.lc, .slice ua s.un uc, .slice ha s.kh.length hc, .bool s.kp, .bool s.nav, .slice pa s.pn pc, .int .i64 s.at9, .string s.dr, .bool s.st, .slice qa s.qn qc, .slice la s.ln lc, .slice da s.dn dc] 37 (0, 0))) := hide (by rw [hV]; exact new_block w _)
  have HV := hide hV
  clear hV hO hO1
  show Calls Tryz.prog 14 #[.agg #[.string s.pr, .int .i64 s.cols, .int .i64 s.rows, .string s.la, .string s.lb, .string s.lc, .slice ua s.un uc, .slice ha s.kh.length hc, .bool s.kp, .bool s.nav, .slice pa s.pn pc, .int .i64 s.at9, .string s.dr, .bool s.st, .slice qa s.qn qc, .slice la s.ln lc, .slice da s.dn dc], .int .i64 k] w _
  go_enter Tryz.func14, Tryz.ntmps14
  go_wp2_with fail
  rw [← unhide HV]
  clear HV
  refine ((unhide h0) _ E0).mono ?_
  rintro e w1 ⟨rfl, F⟩
  have E1 := E0.trans F
  replace HB := hide (F.kept (unhide HB))
  clear F
  have n0 : ¬ k + 2 * (s.un : Int) < 0 := by omega
  have c0_7 : w1.cell? ⟨w.heap.size, 7, none⟩ = some (.slice ha s.kh.length hc) := cells_of (unhide HB) 7 _ rfl
  have c0_8 : w1.cell? ⟨w.heap.size, 8, none⟩ = some (.bool s.kp) := cells_of (unhide HB) 8 _ rfl
  go_wp2_with fail
  clear c0_7 c0_8
  refine ((unhide h1) _ E1).mono ?_
  rintro e w2 ⟨rfl, F⟩
  have E2 := E1.trans F
  replace HB := hide (F.kept (unhide HB))
  clear F
  have n1 : ¬ k + 2 * (s.un : Int) + (s.kh.length : Int) < 0 := by omega
  have c1_10 : w2.cell? ⟨w.heap.size, 10, none⟩ = some (.slice pa s.pn pc) := cells_of (unhide HB) 10 _ rfl
  go_wp2_with fail
  clear c1_10
  refine ((unhide h2) _ E2).mono ?_
  rintro e w3 ⟨rfl, F⟩
  have E3 := E2.trans F
  replace HB := hide (F.kept (unhide HB))
  clear F
  have n2 : ¬ k + 2 * (s.un : Int) + (s.kh.length : Int) + (s.pn : Int) < 0 := by omega
  have c2_14 : w3.cell? ⟨w.heap.size, 14, none⟩ = some (.slice qa s.qn qc) := cells_of (unhide HB) 14 _ rfl
  go_wp2_with fail
  clear c2_14
  refine ((unhide h3) _ E3).mono ?_
  rintro e w4 ⟨rfl, F⟩
  have E4 := E3.trans F
  replace HB := hide (F.kept (unhide HB))
  clear F
  have n3 : ¬ k + 2 * (s.un : Int) + (s.kh.length : Int) + (s.pn : Int) + (s.qn : Int) < 0 := by omega
  have c3_15 : w4.cell? ⟨w.heap.size, 15, none⟩ = some (.slice la s.ln lc) := cells_of (unhide HB) 15 _ rfl
  go_wp2_with fail
  clear c3_15
  refine ((unhide h4) _ E4).mono ?_
  rintro e w5 ⟨rfl, F⟩
  have E5 := E4.trans F
  replace HB := hide (F.kept (unhide HB))
  clear F
  have n4 : ¬ k + 2 * (s.un : Int) + (s.kh.length : Int) + (s.pn : Int) + (s.qn : Int) + (s.ln : Int) < 0 := by omega
  have c4_16 : w5.cell? ⟨w.heap.size, 16, none⟩ = some (.slice da s.dn dc) := cells_of (unhide HB) 16 _ rfl
  go_wp2_with fail
  clear c4_16
  refine ((unhide h5) _ E5).mono ?_
  rintro e w6 ⟨rfl, F⟩
  have E6 := E5.trans F
  replace HB := hide (F.kept (unhide HB))
  clear F
  have n5 : ¬ k + 2 * (s.un : Int) + (s.kh.length : Int) + (s.pn : Int) + (s.qn : Int) + (s.ln : Int) + (s.dn : Int) < 0 := by omega
  go_wp2
  go_ret
  exact ⟨congrArg Ending.returned (congrArg (Value.int .i64) (by unfold SS.m; omega)), E6⟩
theorem sesK_held (s : SS) (hz : s.SzM) : HeldOk 14 (fun k => sesK (mkSS k s)) s.m := by
  rintro w v k ⟨u, h, p, q, l, d, rfl, H⟩ h0 h1
  exact heldSession_any s u h p q l d k w H hz h0 h1
end Go.Proofs.YtgdadidppelgdaaGreatDoor

namespace Go.Proofs.YtgdadidppelgdaaGreatDoor
open Go.RowKit

/-- The numbers of the locks' functions and types. -/
abbrev muLink : Go.Conc.Locks.MuLink := { lock := 95, unlock := 96, ilock := 118, iunlock := 119, lockSlow := 154, unlockSlow := 157, disable := 150, enable := 152, acquire := 153, relMerge := 155, cas32 := 151, add32 := 156, tMutex := 78, tIMutex := 76, tPMutex := 151, tPIMutex := 171, tPI32 := 173, tUP := 175, tNoCopy := 73, tU32 := 74 }
theorem muLib : Go.Conc.Locks.MuLib Tryz.prog muLink :=
  ⟨Tryz.func95, Tryz.func96, Tryz.func118, Tryz.func119, Tryz.func150, Tryz.func152, Tryz.func153, Tryz.func155, Tryz.func151, Tryz.func156,
   Tryz.underlying76, Tryz.runUnderlying76, Tryz.sizeOf76, Tryz.isAgg76, Tryz.zeroValue76,
   Tryz.underlying78, Tryz.runUnderlying78, Tryz.sizeOf78, Tryz.isAgg78, Tryz.zeroValue78,
   Tryz.underlying151, Tryz.runUnderlying151, Tryz.sizeOf151, Tryz.isAgg151, Tryz.zeroValue151,
   Tryz.underlying171, Tryz.runUnderlying171, Tryz.sizeOf171, Tryz.isAgg171, Tryz.zeroValue171,
   Tryz.underlying173, Tryz.runUnderlying173, Tryz.sizeOf173, Tryz.isAgg173, Tryz.zeroValue173,
   Tryz.underlying175, Tryz.runUnderlying175, Tryz.sizeOf175, Tryz.isAgg175, Tryz.zeroValue175,
   Tryz.underlying73, Tryz.runUnderlying73, Tryz.sizeOf73, Tryz.isAgg73, Tryz.zeroValue73,
   Tryz.underlying21, Tryz.runUnderlying21, Tryz.sizeOf21, Tryz.isAgg21, Tryz.zeroValue21, (by kernel_rfl)⟩
theorem lock_any (a : Addr) (w : World) (hc : w.cell? a = some (.int .i32 0)) (hz : w.frozen? a = false) :
    Calls Tryz.prog 95 #[.pointer (some a)] w fun e w' => e = .returned (.tuple #[]) ∧ w' = w.setCell a (.int .i32 1) := Go.MuLone.lock_free muLib a w hc hz
theorem unlock_any (a : Addr) (u : FrameMode) (w : World) (hc : w.cell? a = some (.int .i32 1)) (hz : w.frozen? a = false) :
    CallsD Tryz.prog 96 #[.pointer (some a)] u w fun e u' w' => u' = u ∧ (e = .returned (.tuple #[]) ∧ w' = w.setCell a (.int .i32 0)) := Go.MuLone.unlock_deferred muLib a u w hc hz
theorem require_yes (c : Int) (w : World) : Calls Tryz.prog 68 #[.bool true, .int .i64 c] w fun e w' => e = .returned (.tuple #[]) ∧ w' = w := by
  go_enter Tryz.func68, Tryz.ntmps68
  go_wp2
  exact bodyPost_end (v := .tuple #[]) (by simp [results, Tryz.results68, go_sem]) rfl ⟨rfl, rfl⟩
theorem require_no (c : Int) (w : World) : Calls Tryz.prog 68 #[.bool false, .int .i64 c] w fun e w' => e = .panicked [{ v := .iface 134 (.int .i64 c), recovered := false }] ∧ w' = w := by
  go_enter Tryz.func68, Tryz.ntmps68
  go_wp2
  exact ⟨rfl, rfl, rfl⟩
theorem assert_ref (c : Int) (w : World) : (Instr.typeAssert (.iface 134 (.int .i64 c)) 20 134 true).run Tryz.prog w = .ok (.tuple #[.int .i64 c, .bool true]) w := by
  kernel_rfl
set_option maxRecDepth 10000 in
theorem codeOf_ref (c : Int) (w : World) : Calls Tryz.prog 98 #[.iface 134 (.int .i64 c)] w fun e w' => e = .returned (.int .i64 c) ∧ w' = w := by
  have ha := assert_ref c
  go_enter Tryz.func98, Tryz.ntmps98
  go_wp2
  go_ret
  exact ⟨rfl, rfl⟩
end Go.Proofs.YtgdadidppelgdaaGreatDoor
