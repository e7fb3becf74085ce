import Derived.Test.YtokjpnlmkecleaaGreatDoorWhole
import Derived.Test.YtokjpnlmkecleaaGreatDoorSzLn
import Derived.Test.YtokjpnlmkecleaaGreatDoorImplClean
import Derived.Test.YtokjpnlmkecleaaGreatDoorTabs
import Derived.Test.YtokjpnlmkecleaaGreatDoorRows
import Derived.LaidMore
import Derived.Lib.LaidU8
import Derived.Deep.Strs
import Derived.Stop.Joined
import Derived.PinnedBridge
import Derived.Test.YtokjpnlmkecleaaGreatDoorGenEdit
import Derived.Test.YtokjpnlmkecleaaGreatDoorEdE7
import Derived.Test.YtokjpnlmkecleaaGreatDoorEdI
import Derived.Test.YtokjpnlmkecleaaGreatDoorTie
import Derived.Test.YtokjpnlmkecleaaGreatDoorCards
import Derived.SevenTiedAt
import Derived.Lay
namespace Go.Proofs.YtokjpnlmkecleaaGreatDoor
open Go.RowKit

/-- What 'mark' lays into pairs of texts. -/
def mkU (k : Int) (j : Nat) : Value := .string (mtx (k + 2 * (j : Int) + 1))
theorem Own2.setA {w : World} {base : Nat} {T : TypeId} {n : Nat} {A B : Nat → Value} {g cap j : Nat} (h : Own2 w base T (.slice (some ⟨g, 0, none⟩) n cap) n A B) (hj : j < n) (u : Value) :
    Own2 (w.setCell ⟨g, j * 2, none⟩ u) base T (.slice (some ⟨g, 0, none⟩) n cap) n (fun i => if i = j then u else A i) B := by
  obtain ⟨ys, h1, h2⟩ := h
  have hl := h1.1
  refine ⟨_, (h1.stored (j * 2) u).1, fun i hi => ?_⟩
  dsimp only
  by_cases e : i = j
  · subst e
    rw [if_pos rfl, List.getElem?_set_self (by omega), List.getElem?_set_ne (by omega)]
    exact ⟨rfl, (h2 i hi).2⟩
  · rw [if_neg e, List.getElem?_set_ne (by omega), List.getElem?_set_ne (by omega)]
    exact h2 i hi
theorem Own2.setB {w : World} {base : Nat} {T : TypeId} {n : Nat} {A B : Nat → Value} {g cap j : Nat} (h : Own2 w base T (.slice (some ⟨g, 0, none⟩) n cap) n A B) (hj : j < n) (u : Value) :
    Own2 (w.setCell ⟨g, j * 2 + 1, none⟩ u) base T (.slice (some ⟨g, 0, none⟩) n cap) n A (fun i => if i = j then u else B i) := by
  obtain ⟨ys, h1, h2⟩ := h
  have hl := h1.1
  refine ⟨_, (h1.stored (j * 2 + 1) u).1, fun i hi => ?_⟩
  dsimp only
  by_cases e : i = j
  · subst e
    rw [if_pos rfl, List.getElem?_set_ne (by omega), List.getElem?_set_self (by omega)]
    exact ⟨(h2 i hi).1, rfl⟩
  · rw [if_neg e, List.getElem?_set_ne (by omega), List.getElem?_set_ne (by omega)]
    exact h2 i hi
set_option maxRecDepth 10000 in
set_option maxHeartbeats 1000000 in
theorem markSnapS_any (base : Nat) (v : Value) (n : Nat) (A B : Nat → Value) (k : Int) (w : World) (hv : Own2 w base 49 v n A B) (hn : n ≤ 1048576) (hk : 0 ≤ k) (hk2 : k ≤ 1099511627776) :
    Calls Tryz.prog 48 #[v, .int .i64 k] w fun e w' => e = .returned (.int .i64 (k + 2 * (n : Int))) ∧ Own2 w' base 49 v n (mkT k) (mkU k) ∧ Fr (fun g => v.ownBlock = some g) w w' := by
  have HV := hide hv
  rcases hv.form with ⟨rfl, h0⟩ | ⟨g, cap, rfl⟩
  · subst h0
    clear hv
    go_enter Tryz.func48, Tryz.ntmps48
    go_wp2
    go_loop [1, 5] (fun a i => a = .int .i64 k ∧ i = .int .i64 0) (fun _ _ => 0)
    case atStart => exact ⟨rfl, rfl⟩
    case round =>
      obtain ⟨rfl, rfl⟩ := hrel
      go_wp2
      go_ret
      exact ⟨ret_int (by simp), (unhide HV).congr (fun j hj => by omega), Fr.refl _ _⟩
  · clear hv
    go_enter Tryz.func48, Tryz.ntmps48
    go_wp2
    go_loopw [1, 5] (fun a i wr => ∃ j : Nat, j ≤ n ∧ a = .int .i64 (k + 2 * (j : Int)) ∧ i = .int .i64 j ∧ Hid (Own2 wr base 49 (.slice (some ⟨g, 0, none⟩) n cap) n (fun i => if i < j then mkT k i else A i) (fun i => if i < j then mkU k i else B i)) ∧ Hid (Fr (fun q => (Value.slice (some ⟨g, 0, none⟩) n cap).ownBlock = some q) w wr)) (fun _ i _ => n - (intOf i).toNat)
    case atStart => exact ⟨0, Nat.zero_le _, by go_num, rfl, (unhide HV).congr (fun j hj => ⟨by simp, by simp⟩), Fr.refl _ _⟩
    case round =>
      obtain ⟨j, hj, rfl, rfl, HO, HF⟩ := hrel
      by_cases hlt : j < n
      · have bj : (j : Int) < (n : Int) := by omega
        obtain ⟨K, hK⟩ : ∃ K, K = k + 2 * (j : Int) := ⟨_, rfl⟩
        have HK := hide hK
        have hKb : 0 ≤ K ∧ K ≤ 1099513724928 := by omega
        rw [← hK]
        clear hK
        go_wp2_with fail
        refine (markText_any K _ (by omega)).mono ?_
        rintro e w1 ⟨rfl, F1⟩
        have hO1 := (unhide HO).ext F1
        obtain ⟨⟨c0, f0⟩, c1, f1⟩ := hO1.cell hlt
        have HS1 := hide (hO1.setA hlt (.string (mtx K)))
        have HF1 := hide (((unhide HF).grown F1 (fun q hq => by simp at hq)).setCell (a := ⟨g, j * 2, none⟩) rfl (.string (mtx K)))
        clear hO1
        go_wp2_with fail
        refine (markText_any (K + 1) _ (by omega)).mono ?_
        rintro e w2 ⟨rfl, F2⟩
        have hO2 := (unhide HS1).ext F2
        obtain ⟨⟨d0, e0⟩, d1, e1⟩ := hO2.cell hlt
        have HS := hide ((hO2.setB hlt (.string (mtx (K + 1)))).congr (A' := fun i => if i < j + 1 then mkT k i else A i) (B' := fun i => if i < j + 1 then mkU k i else B i) (fun i hi => by
          by_cases e : i = j
          · subst e
            rw [if_pos rfl, if_pos rfl, if_pos (by omega), if_pos (by omega), mkT, mkU, ← unhide HK]
            exact ⟨rfl, rfl⟩
          · rw [if_neg e, if_neg e]
            by_cases e2 : i < j
            · rw [if_pos e2, if_pos e2, if_pos (by omega), if_pos (by omega)]; exact ⟨rfl, rfl⟩
            · rw [if_neg e2, if_neg e2, if_neg (by omega), if_neg (by omega)]; exact ⟨rfl, rfl⟩))
        have HF2 := hide (((unhide HF1).grown F2 (fun q hq => by simp at hq)).setCell (a := ⟨g, j * 2 + 1, none⟩) rfl (.string (mtx (K + 1))))
        clear hO2
        go_wp2
        go_roundw
        case rel => exact ⟨j + 1, by omega, by rw [unhide HK]; go_num, by go_num, HS, HF2⟩
        case measure => simp [intOf]; omega
      · obtain rfl : j = n := by omega
        have HFIN := hide ((unhide HO).congr (A' := mkT k) (B' := mkU k) (fun i hi => ⟨by simp [hi], by simp [hi]⟩))
        go_wp2
        go_ret
        exact ⟨rfl, unhide HFIN, unhide HF⟩
set_option maxRecDepth 10000 in
set_option maxHeartbeats 1000000 in
theorem heldSnapS_any (v : Value) (n : Nat) (k : Int) (w : World) (hv : Row2At w v n (mkT k) (mkU k)) (hn : n ≤ 1048576) (hk : 0 ≤ k) (hk2 : k ≤ 1099511627776) :
    Calls Tryz.prog 50 #[v, .int .i64 k] w fun e w' => e = .returned (.int .i64 (k + 2 * (n : Int))) ∧ Ext w w' := by
  obtain ⟨ao, ca, rfl, hca, hxa⟩ := hv
  by_cases h0 : n = 0
  · subst h0
    clear hxa
    go_enter Tryz.func50, Tryz.ntmps50
    go_wp2
    go_loop [1, 5] (fun a i => a = .int .i64 k ∧ i = .int .i64 0) (fun _ _ => 0)
    case atStart => exact ⟨rfl, rfl⟩
    case round =>
      obtain ⟨rfl, rfl⟩ := hrel
      go_wp2
      go_ret
      exact ⟨ret_int (by simp), Ext.refl _⟩
  · obtain ⟨b, off, rfl, hc⟩ := hxa (by omega)
    have HC := hide hc
    clear hxa hc
    go_enter Tryz.func50, Tryz.ntmps50
    go_wp2
    go_loopw [1, 5] (fun a i wr => ∃ j : Nat, j ≤ n ∧ a = .int .i64 (k + 2 * (j : Int)) ∧ i = .int .i64 j ∧ Ext w wr) (fun _ i _ => n - (intOf i).toNat)
    case atStart => exact ⟨0, Nat.zero_le _, by go_num, rfl, Ext.refl _⟩
    case round =>
      obtain ⟨j, hj, rfl, rfl, hext⟩ := hrel
      by_cases hlt : j < n
      · have bj : (j : Int) < (n : Int) := by omega
        have hcc := (unhide HC) j hlt
        have g1 := hext.cell hcc.1
        have g2 := hext.cell hcc.2
        simp only [mkT, mkU] at g1 g2
        obtain ⟨K, hK⟩ : ∃ K, K = k + 2 * (j : Int) := ⟨_, rfl⟩
        have HK := hide hK
        have hKb : 0 ≤ K ∧ K ≤ 1099513724928 := by omega
        rw [← hK] at g1 g2 ⊢
        clear hK hcc
        have G2 := hide g2
        clear g2
        go_wp2
        go_region_held3 (fun W => Ext wr W ∧ W.cell? ⟨b, off + j * 2, none⟩ = some (.string (mtx K))) (first | exact ⟨(Ext.refl wr).drew, g1⟩ | exact ⟨(Ext.refl wr).drew.trans he', he'.cell g1⟩) (first | (go_at_call 73; refine (markText_any K _ (by omega)).mono ?_; rintro e w' ⟨rfl, he'⟩))
        rename_i hS
        have hE := hext.trans hS.1
        have g3 := hS.1.cell (unhide G2)
        have hF := hS.1
        clear hS g1
        go_wp2
        go_region_held3 (fun W => Ext wr W ∧ W.cell? ⟨b, off + j * 2 + 1, none⟩ = some (.string (mtx (K + 1)))) (first | exact ⟨hF.drew, g3⟩ | exact ⟨hF.drew.trans he2, he2.cell g3⟩) (first | (go_at_call 73; refine (markText_any (K + 1) _ (by omega)).mono ?_; rintro e w'' ⟨rfl, he2⟩))
        rename_i hS
        have hE := hext.trans hS.1
        clear hS
        go_wp2
        go_roundw
        case rel => exact ⟨j + 1, by omega, by rw [unhide HK]; go_num, by go_num, hE⟩
        case measure => simp [intOf]; omega
      · obtain rfl : j = n := by omega
        go_wp2
        go_ret
        exact ⟨rfl, hext⟩
set_option maxRecDepth 10000 in
set_option maxHeartbeats 1000000 in
theorem markLine_any (base : Nat) (a b c : ByteArray) (v : Value) (n : Nat) (A B : Nat → Value) (k : Int) (w : World) (hv : Own2 w base 49 v n A B) (hn : n ≤ 1048576) (hk : 0 ≤ k) (hk2 : k ≤ 1099511627776) :
    Calls Tryz.prog 16 #[.agg #[.string a, .string b, .string c, v], .int .i64 k] w fun e w' => e = .returned (.int .i64 (k + 2 * (n : Int))) ∧ Own2 w' base 49 v n (mkT k) (mkU k) ∧ Fr (fun g => v.ownBlock = some g) w w' := by
  have HC := hide (fun U (hU : Ext w U) => markSnapS_any base v n A B k U (hv.ext hU) hn hk hk2)
  clear hv
  go_enter Tryz.func16, Tryz.ntmps16
  go_wp2_with fail
  refine ((unhide HC) _ ((Ext.refl w).alloc _)).mono ?_
  rintro e w1 ⟨rfl, o1, F1⟩
  have O1 := hide o1
  clear o1
  go_wp2
  go_ret
  exact ⟨rfl, unhide O1, ⟨F1.os, F1.tape, F1.output, Nat.le_trans ((Ext.refl w).alloc _).size F1.size, fun i hi hn => (F1.block i (Nat.lt_of_lt_of_le hi ((Ext.refl w).alloc _).size) hn).trans (((Ext.refl w).alloc _).heap hi)⟩⟩
set_option maxRecDepth 10000 in
set_option maxHeartbeats 1000000 in
theorem heldLine_any (a b c : ByteArray) (v : Value) (n : Nat) (k : Int) (w : World) (hv : Row2At w v n (mkT k) (mkU k)) (hn : n ≤ 1048576) (hk : 0 ≤ k) (hk2 : k ≤ 1099511627776) :
    Calls Tryz.prog 18 #[.agg #[.string a, .string b, .string c, v], .int .i64 k] w fun e w' => e = .returned (.int .i64 (k + 2 * (n : Int))) ∧ Ext w w' := by
  have HC := hide (fun U (hU : Ext w U) => heldSnapS_any v n k U (hv.ext hU) hn hk hk2)
  clear hv
  have hneg : ¬ k + 2 * (n : Int) < 0 := by omega
  go_enter Tryz.func18, Tryz.ntmps18
  go_wp2_with fail
  refine ((unhide HC) _ ((Ext.refl w).alloc _)).mono ?_
  rintro e w1 ⟨rfl, F1⟩
  go_wp2
  go_ret
  exact ⟨rfl, ((Ext.refl w).alloc _).trans F1⟩
end Go.Proofs.YtokjpnlmkecleaaGreatDoor

namespace Go.Proofs.YtokjpnlmkecleaaGreatDoor
open Go.RowKit

/-- Lines. -/
def lineK (a b c : ByteArray) (n : Nat) (tx hf : Nat → ByteArray) : Kd where
  R w v := ∃ u, v = .agg #[.string a, .string b, .string c, u] ∧ Row2At w u n (fun j => .string (tx j)) (fun j => .string (hf j))
  O w base S v := ∃ u, v = .agg #[.string a, .string b, .string c, u] ∧ Own2 w base 49 u n (fun j => .string (tx j)) (fun j => .string (hf j)) ∧ ∀ g, S g ↔ u.ownBlock = some g
  rext := by rintro w w' v ⟨u, e, h⟩ he; exact ⟨u, e, h.ext he⟩
  oext := by rintro w w' b S v ⟨u, e, h, hS⟩ he; exact ⟨u, e, h.ext he, hS⟩
  ofr := by rintro w w' b S S' v ⟨u, e, h, hS⟩ hf hd; exact ⟨u, e, h.fr hf (fun g hg => hd g ((hS g).2 hg)), hS⟩
  reads := by rintro w b S v ⟨u, e, h, hS⟩; exact ⟨u, e, h.reads⟩
  lt := by rintro w b S v ⟨u, e, h, hS⟩ g hg; exact h.lt g ((hS g).1 hg)
theorem lineK_shape {a b c : ByteArray} {n : Nat} {tx hf : Nat → ByteArray} {w : World} {v : Value} (h : (lineK a b c n tx hf).R w v) : ∃ ua uc, v = .agg #[.string a, .string b, .string c, .slice ua n uc] := by
  obtain ⟨u, rfl, ua, uc, rfl, _⟩ := h
  exact ⟨ua, uc, rfl⟩
theorem lineK_own {a b c : ByteArray} {n : Nat} {tx hf : Nat → ByteArray} {w : World} {base : Nat} {u : Value} (h : Own2 w base 49 u n (fun j => .string (tx j)) (fun j => .string (hf j))) : (lineK a b c n tx hf).O w base (fun g => u.ownBlock = some g) (.agg #[.string a, .string b, .string c, u]) := ⟨u, rfl, h, fun _ => Iff.rfl⟩
theorem lineK_eq (a b c : ByteArray) (n : Nat) (tx hf : Nat → ByteArray) (hn : n ≤ 4398046511104) : EqOk 14 (lineK a b c n tx hf) := by
  rintro w x y ⟨ux, rfl, h1⟩ ⟨uy, rfl, h2⟩
  exact eqLine_same a b c ux uy n tx hf w h1 h2 hn
theorem lineK_mark (a b c : ByteArray) (n : Nat) (tx hf : Nat → ByteArray) (hn : n ≤ 1048576) : MarkOk 16 (lineK a b c n tx hf) (fun k => lineK a b c n (fun j => mtx (k + 2 * (j : Int))) (fun j => mtx (k + 2 * (j : Int) + 1))) (2 * n) := by
  rintro w base S v k ⟨u, rfl, h, hS⟩ h0 h1
  refine (markLine_any base a b c u n _ _ k w h hn h0 (by omega)).mono ?_
  rintro e w' ⟨rfl, o, f⟩
  rw [show ((2 * n : Nat) : Int) = 2 * (n : Int) by omega]
  exact ⟨rfl, ⟨u, rfl, o, hS⟩, f.mono (fun g hg => (hS g).2 hg)⟩
theorem lineK_held (a b c : ByteArray) (n : Nat) (hn : n ≤ 1048576) : HeldOk 18 (fun k => lineK a b c n (fun j => mtx (k + 2 * (j : Int))) (fun j => mtx (k + 2 * (j : Int) + 1))) (2 * n) := by
  rintro w v k ⟨u, rfl, h⟩ h0 h1
  have hc := heldLine_any a b c u n k w h hn h0 (by omega)
  rw [show ((2 * n : Nat) : Int) = 2 * (n : Int) by omega]
  exact hc
end Go.Proofs.YtokjpnlmkecleaaGreatDoor

namespace Go.Proofs.YtokjpnlmkecleaaGreatDoor
open Go.ChangeShapes Go.WideShapes Go.ChangeAt Go.RowKit Go.Deep

set_option maxHeartbeats 1000000 in
theorem szKey_any (kd : Int) (ao : Option Addr) (n cap : Nat) (l : Int) (w : World) (h0 : 0 ≤ l) (h1 : l ≤ 4398046511104) (hn : (n : Int) ≤ 9223372036854775807) :
    Calls Tryz.prog 11 #[.agg #[.int .i64 kd, .slice ao n cap], .int .i64 l] w fun e w' => ∃ r : Int, e = .returned (.int .i64 r) ∧ SzR l n r ∧ Ext w w' := by
  have hcon := hide (fun W => szInt32S_any ao n cap l W h0 h1 hn)
  go_enter Tryz.func11, Tryz.ntmps11
  go_wp2_with fail
  refine ((unhide hcon) _).mono ?_
  rintro e w1 ⟨rfl, rfl⟩
  by_cases h : l < (n : Int)
  · rw [if_pos h]
    go_wp2
    go_ret
    exact ⟨-1, rfl, .inl ⟨rfl, h⟩, (Ext.refl _).alloc _⟩
  · rw [if_neg h]
    have h2 : ¬ l - (n : Int) < 0 := by omega
    go_wp2
    go_ret
    exact ⟨l - (n : Int), rfl, .inr ⟨rfl, by omega⟩, (Ext.refl _).alloc _⟩
set_option maxHeartbeats 1000000 in
theorem toKey_any (kd : Int) (h : Value) (bs : List Int) (w : World) (hr : IntsAt w .i32 h bs) (hx : bs.length ≤ 4398046511104) :
    Calls Tryz.prog 13 #[.agg #[.int .i64 kd, h]] w fun e w' => e = .returned (.agg #[.int .i64 kd, .slice (some ⟨w.heap.size + 3, 0, none⟩) bs.length bs.length]) ∧ 
      w'.ownsRow (w.heap.size + 3) 21 1 (.slice (some ⟨w.heap.size + 3, 0, none⟩) bs.length bs.length) bs.length (bs.map (Value.int .i32)) ∧ Ext w w' := by
  go_enter Tryz.func13, Tryz.ntmps13
  go_wp2_with fail
  refine (toInt32S_any _ bs _ (((hr.ext ((((Ext.refl _).alloc _).alloc _).alloc _)).ext (by first | exact Ext.refl _ | exact (Ext.refl _).setCell (by dsimp only; omega) _))) hx).mono ?_
  rintro e w1 ⟨rfl, o1, F1⟩
  obtain ⟨hc, hf⟩ := F1.rules
  have hz : w.heap.size + 3 < w1.heap.size := by have := (o1.lt _ rfl).2; simpa using this
  have a0 : w1.cell? ⟨w.heap.size + 1, 0, none⟩ = some (.int .i64 0) := by rw [hc _ _ (by simp)]; simp [go_sem]
  have a1 : w1.cell? ⟨w.heap.size + 1, 1, none⟩ = some (.slice none 0 0) := by rw [hc _ _ (by simp)]; simp [go_sem]
  go_wp2
  refine bodyPost_ret (v := .agg #[.int .i64 kd, .slice (some ⟨w.heap.size + 3, 0, none⟩) bs.length bs.length]) (by simp [results, Tryz.results13, go_sem, a0, a1]) rfl ⟨rfl, ?_, ?_⟩
  · repeat (refine owns_setCell ?_ (by simp [Value.ownBlock]) _)
    simpa using o1
  · repeat (refine Ext.setCell ?_ (by dsimp only; omega) _)
    exact ((((Ext.refl _).alloc _).alloc _).alloc _).trans F1
set_option maxHeartbeats 1000000 in
theorem eqKey_one (ra rb : Value) (xs : List Int) (d : Int) (w : World) (ha : IntsAt w .i32 ra xs) (hb : IntsAt w .i32 rb xs) (hx : xs.length ≤ 4398046511104) :
    Calls Tryz.prog 15 #[.agg #[.int .i64 d, ra], .agg #[.int .i64 d, rb]] w fun e w' => e = .returned (.bool true) ∧ Ext w w' := by
  go_enter Tryz.func15, Tryz.ntmps15
  go_wp2_with fail
  refine (eqInt32S_same _ _ xs _ (ha.ext (((Ext.refl _).alloc _).alloc _)) (hb.ext (((Ext.refl _).alloc _).alloc _)) hx).mono ?_
  rintro e w1 ⟨rfl, F1⟩
  obtain ⟨hc, hf⟩ := F1.rules
  go_wp2
  go_ret
  exact ⟨rfl, (((Ext.refl _).alloc _).alloc _).trans F1⟩
set_option maxHeartbeats 1000000 in
theorem markKey_any (base : Nat) (v : Value) (n : Nat) (xs : List Value) (d k : Int) (w : World) (hv : w.ownsRow base 21 1 v n xs) (hn : n ≤ 4398046511104) (hk : 0 ≤ k) (hk2 : k ≤ 4398046511104) :
    Calls Tryz.prog 17 #[.agg #[.int .i64 d, v], .int .i64 k] w fun e w' => e = .returned (.int .i64 (k + (n : Int))) ∧ w'.ownsRow base 21 1 v n ((mkI32 k n).map (Value.int .i32)) ∧ w.grownBy w' v.ownBlock := by
  have hcon := hide (fun W (hW : Ext w W) => markInt32S_any base v n xs k W (hW.owns hv) hn hk hk2)
  go_enter Tryz.func17, Tryz.ntmps17
  go_wp2_with fail
  refine ((unhide hcon) _ ((Ext.refl _).alloc _)).mono ?_
  rintro e w1 ⟨rfl, o1, F1⟩
  go_wp2
  go_ret
  exact ⟨rfl, o1, (World.grownBy_alloc w _ _).trans F1⟩
/-- Keys. -/
def keyK (kd : Int) (zs : List Int) : Kd where
  R w v := ∃ u, v = .agg #[.int .i64 kd, u] ∧ IntsAt w .i32 u zs
  O w base S v := ∃ u, v = .agg #[.int .i64 kd, u] ∧ w.ownsRow base 21 1 u zs.length (zs.map (Value.int .i32)) ∧ ∀ g, S g ↔ u.ownBlock = some g
  rext := by rintro w w' v ⟨u, e, h⟩ he; exact ⟨u, e, h.ext he⟩
  oext := by rintro w w' b S v ⟨u, e, h, hS⟩ he; exact ⟨u, e, he.owns h, hS⟩
  ofr := by rintro w w' b S S' v ⟨u, e, h, hS⟩ hf hd; exact ⟨u, e, hf.owns h (fun g hg => hd g ((hS g).2 hg)), hS⟩
  reads := by rintro w b S v ⟨u, e, h, hS⟩; exact ⟨u, e, ints_of_owns h⟩
  lt := by rintro w b S v ⟨u, e, h, hS⟩ g hg; exact h.lt g ((hS g).1 hg)
theorem keyK_shape {kd : Int} {zs : List Int} {w : World} {v : Value} (h : (keyK kd zs).R w v) : ∃ ua uc, v = .agg #[.int .i64 kd, .slice ua zs.length uc] := by
  obtain ⟨u, rfl, ua, uc, rfl, _⟩ := h
  exact ⟨ua, uc, rfl⟩
theorem keyK_own {kd : Int} {zs : List Int} {w : World} {base : Nat} {u : Value} (h : w.ownsRow base 21 1 u zs.length (zs.map (Value.int .i32))) : (keyK kd zs).O w base (fun g => u.ownBlock = some g) (.agg #[.int .i64 kd, u]) := ⟨u, rfl, h, fun _ => Iff.rfl⟩
theorem keyK_eq (kd : Int) (zs : List Int) (hn : zs.length ≤ 4398046511104) : EqOk 15 (keyK kd zs) := by
  rintro w x y ⟨ux, rfl, h1⟩ ⟨uy, rfl, h2⟩
  exact eqKey_one ux uy zs kd w h1 h2 hn
theorem keyK_mark (kd : Int) (zs : List Int) (hn : zs.length ≤ 1048576) : MarkOk 17 (keyK kd zs) (fun k => keyK kd (mkI32 k zs.length)) zs.length := by
  rintro w base S v k ⟨u, rfl, h, hS⟩ h0 h1
  refine (markKey_any base u zs.length _ kd k w h (by omega) h0 (by omega)).mono ?_
  rintro e w' ⟨rfl, o, f⟩
  exact ⟨rfl, ⟨u, rfl, by rw [mkI32_len]; exact o, hS⟩, (Fr.refl _ w).grown f (fun g hg => (hS g).2 hg)⟩
set_option maxRecDepth 10000 in
/-- A key that came in, opened. -/
theorem key_came {H : Type} {enc : TypeId × Value → H} {W : World} {v : Value} {d : DataW H} {p : List MemPlace} {base : Nat} {r : Reach}
    (hv : Value.okWide Tryz.prog W r base 38 v) (h : DataW.Trod enc Tryz.prog W 0 (fun _ => true) true 38 v d p) :
    ∃ (kd : Int) (bs : List Int) (ha : Option Addr) (hc : Nat), v = .agg #[.int .i64 kd, .slice ha bs.length hc] ∧ IntsAt W .i32 (.slice ha bs.length hc) bs ∧ (∀ n ∈ bs, (Lit.int .i32 n).wf = true) ∧ bs.length ≤ maxLen ∧ (Lit.int .i64 kd).wf = true := by
  obtain ⟨cs, rfl, hsz⟩ := okWide_struct Tryz.underlying38 hv
  obtain ⟨fuel, hf⟩ := h
  obtain ⟨xs, n, _, _, _, hlen, hx⟩ := DataW.trod_struct Tryz.underlying38 hf
  have h8 : Tryz.prog.cellsOf 38 = 2 := by kernel_rfl
  rw [h8] at hsz
  obtain ⟨l⟩ := cs
  have kb : Tryz.prog.cellsOf 3 = 1 := by kernel_rfl
  have ku : Tryz.prog.cellsOf 26 = 1 := by kernel_rfl
  match l, hsz, xs, hlen with
  | [c0, c1], _, [x0, x1], _ =>
    have t0 : DataW.trod enc Tryz.prog W 0 (fun _ => true) true n 3 [c0] = some x0 := by
      have := hx 0 _ rfl
      simpa [Value.cells, kb] using this
    have t1 : DataW.trod enc Tryz.prog W 0 (fun _ => true) true n 26 [c1] = some x1 := by
      have := hx 1 _ rfl
      simpa [Value.cells, ku] using this
    obtain ⟨zs, z1, z2, z3⟩ := bytes_trod Tryz.underlying26 Tryz.underlying21 (by kernel_rfl) t1
    obtain ⟨kd, e5, _, hw⟩ := DataW.trod_int Tryz.underlying3 t0
    simp at e5
    subst e5
    have z4 := z1
    obtain ⟨ao, cap, rfl, _⟩ := z1
    exact ⟨kd, zs, ao, cap, rfl, z4, z2, z3, hw⟩
end Go.Proofs.YtokjpnlmkecleaaGreatDoor

namespace Go.Proofs.YtokjpnlmkecleaaGreatDoor
open Go.ChangeShapes Go.WideShapes Go.ChangeAt Go.RowKit Go.Deep

set_option maxRecDepth 10000 in
theorem snaps_trod {H : Type} {enc : TypeId × Value → H} {W : World} {fuel : Nat} {v : Value} {x : DataW H × List MemPlace}
    (h : DataW.trod enc Tryz.prog W 0 (fun _ => true) true fuel 35 [v] = some x) : ∃ (n : Nat) (tx hf : Nat → ByteArray), Row2At W v n (fun j => .string (tx j)) (fun j => .string (hf j)) ∧ n ≤ maxLen ∧ ∀ j, j < n → (tx j).size ≤ maxLen ∧ (hf j).size ≤ maxLen := by
  rcases open_slice_pairs Tryz.underlying35 Tryz.underlying111 (by kernel_rfl) rfl rfl (by kernel_rfl) (by kernel_rfl) h with ⟨hcs, _⟩ | ⟨a, len, cap, m, n, V0, V1, D0, D1, P0, P1, hcs, _, hl, hm, hmm, _, hx⟩
  · simp at hcs
    subst hcs
    exact ⟨0, fun _ => { data := #[] }, fun _ => { data := #[] }, ⟨none, 0, rfl, Nat.le_refl _, fun h => by omega⟩, by simp, fun j hj => by omega⟩
  · simp at hcs
    subst hcs
    simp at hmm
    have each : ∀ i, i < len → ∃ q : ByteArray × ByteArray, V0 i = .string q.1 ∧ V1 i = .string q.2 ∧ q.1.size ≤ maxLen ∧ q.2.size ≤ maxLen := by
      intro i hi
      obtain ⟨_, _, t0, t1⟩ := hx i (by omega)
      obtain ⟨s, e0, _, hs⟩ := DataW.trod_string Tryz.underlying9 t0
      obtain ⟨b, e1, _, hb⟩ := DataW.trod_string Tryz.underlying9 t1
      simp at e0 e1
      exact ⟨(s, b), e0, e1, hs, hb⟩
    obtain ⟨q, hq⟩ := choose_lt each
    refine ⟨len, fun i => (q i).1, fun i => (q i).2, ⟨some a, cap, rfl, hl, fun hp => ?_⟩, by omega, fun j hj => (hq j hj).2.2⟩
    have ha := addr_plain (by simpa using (hx 0 (by omega)).1)
    refine ⟨a.block, a.off, by rw [← ha], fun j hj => ?_⟩
    obtain ⟨c0, c1, _, _⟩ := hx j (by omega)
    rw [ha, Addr.add_lit] at c0 c1
    rw [(hq j hj).1] at c0
    rw [(hq j hj).2.1] at c1
    exact ⟨c0, by simpa [Nat.add_assoc] using c1⟩
set_option maxRecDepth 10000 in
/-- A line that came in, opened. -/
theorem line_came {H : Type} {enc : TypeId × Value → H} {W : World} {v : Value} {d : DataW H} {p : List MemPlace} {base : Nat} {r : Reach}
    (hv : Value.okWide Tryz.prog W r base 37 v) (h : DataW.Trod enc Tryz.prog W 0 (fun _ => true) true 37 v d p) :
    ∃ (a b c : ByteArray) (u : Value) (n : Nat) (tx hf : Nat → ByteArray), v = .agg #[.string a, .string b, .string c, u] ∧ Row2At W u n (fun j => .string (tx j)) (fun j => .string (hf j)) ∧ a.size ≤ maxLen ∧ b.size ≤ maxLen ∧ c.size ≤ maxLen ∧ n ≤ maxLen ∧ ∀ j, j < n → (tx j).size ≤ maxLen ∧ (hf j).size ≤ maxLen := by
  obtain ⟨cs, rfl, hsz⟩ := okWide_struct Tryz.underlying37 hv
  obtain ⟨fuel, hf⟩ := h
  obtain ⟨xs, n, _, _, _, hlen, hx⟩ := DataW.trod_struct Tryz.underlying37 hf
  have h4 : Tryz.prog.cellsOf 37 = 4 := by kernel_rfl
  rw [h4] at hsz
  obtain ⟨l⟩ := cs
  have ks : Tryz.prog.cellsOf 9 = 1 := by kernel_rfl
  have ku : Tryz.prog.cellsOf 35 = 1 := by kernel_rfl
  match l, hsz, xs, hlen with
  | [c0, c1, c2, c3], _, [x0, x1, x2, x3], _ =>
    have t0 : DataW.trod enc Tryz.prog W 0 (fun _ => true) true n 9 [c0] = some x0 := by
      have := hx 0 _ rfl
      simpa [Value.cells, ks] using this
    have t1 : DataW.trod enc Tryz.prog W 0 (fun _ => true) true n 9 [c1] = some x1 := by
      have := hx 1 _ rfl
      simpa [Value.cells, ks] using this
    have t2 : DataW.trod enc Tryz.prog W 0 (fun _ => true) true n 9 [c2] = some x2 := by
      have := hx 2 _ rfl
      simpa [Value.cells, ks] using this
    have t3 : DataW.trod enc Tryz.prog W 0 (fun _ => true) true n 35 [c3] = some x3 := by
      have := hx 3 _ rfl
      simpa [Value.cells, ku] using this
    obtain ⟨s0, e0, _, z0⟩ := DataW.trod_string Tryz.underlying9 t0
    obtain ⟨s1, e1, _, z1⟩ := DataW.trod_string Tryz.underlying9 t1
    obtain ⟨s2, e2, _, z2⟩ := DataW.trod_string Tryz.underlying9 t2
    obtain ⟨m, tx, hfl, g1, g2, g3⟩ := snaps_trod t3
    simp at e0 e1 e2
    subst e0 e1 e2
    exact ⟨s0, s1, s2, c3, m, tx, hfl, rfl, g1, z0, z1, z2, g2, g3⟩
end Go.Proofs.YtokjpnlmkecleaaGreatDoor

namespace Go.Proofs.YtokjpnlmkecleaaGreatDoor
open Go.ChangeShapes Go.WideShapes Go.ChangeAt Go.RowKit Go.Deep

abbrev laidH : List (String × DataW Unit) := Rows.fnExactEditRow.laid
abbrev wideName : String := Rows.fnExactEditRow.named.headD ""
abbrev firstName : String := (Rows.fnExactEditRow.named.drop 1).headD ""
abbrev accName : String := (Rows.fnExactEditRow.named.drop 2).headD ""
theorem gWide : Tryz.prog.globalNamed wideName = some 0 := by kernel_rfl
theorem tWide : (Tryz.prog.globals[0]?).map (·.type) = some 146 := by kernel_rfl
theorem gFirst : Tryz.prog.globalNamed firstName = some 1 := by kernel_rfl
theorem tFirst : (Tryz.prog.globals[1]?).map (·.type) = some 148 := by kernel_rfl
theorem gAcc : Tryz.prog.globalNamed accName = some 2 := by kernel_rfl
theorem tAcc : (Tryz.prog.globals[2]?).map (·.type) = some 151 := by kernel_rfl
def wRowD {H : Type} (m : Nat) : DataW H := .agg [.lit (.int .i32 (at0 firsts m)), .lit (.int .i32 (at0 lasts m)), .lit (.int .i64 (at0 widths m))]
def wTabD {H : Type} : DataW H := .agg ((List.range 19).map wRowD)
theorem inH1 : (accName, (Lib.acceptData : DataW Unit)) ∈ laidH := List.mem_cons_self
theorem inH2 : (wideName, (wTabD : DataW Unit)) ∈ laidH := List.mem_cons_of_mem _ List.mem_cons_self
theorem inH3 : (firstName, (Lib.firstData : DataW Unit)) ∈ laidH := by
  rw [← Pinned.utf8First_eq]
  exact List.mem_cons_of_mem _ (List.mem_cons_of_mem _ List.mem_cons_self)
theorem wide_of_reads {W : World} (h : Lib.VarReads Tryz.prog W wideName wTabD) : Laid W := by
  obtain ⟨g0, t0, cs0, f0, p0, hg0, ht0, hv0, hd0⟩ := h
  obtain rfl := Option.some.inj (gWide.symm.trans hg0)
  obtain rfl := Option.some.inj (tWide.symm.trans ht0)
  have c36 : Tryz.prog.cellsOf 145 = 3 := by kernel_rfl
  have c21 : Tryz.prog.cellsOf 21 = 1 := by kernel_rfl
  have c3 : Tryz.prog.cellsOf 3 = 1 := by kernel_rfl
  obtain ⟨xs, m1, rfl, hx1, hlen, hn, hel⟩ := DataW.trod_array Tryz.underlying146 hd0
  rw [wTabD] at hx1
  simp only [Prod.mk.injEq, DataW.agg.injEq] at hx1
  have hx := hx1.1
  intro m hm
  have hrow := hel m hm
  have hxm : m < xs.length := by omega
  rw [List.getElem?_eq_getElem hxm, c36] at hrow
  have hfst : (xs[m]).1 = wRowD m := by
    have e1 : (xs.map (·.1))[m]? = some (wRowD m) := by rw [← hx]; simp [hm]
    simpa [hxm] using e1
  obtain ⟨y0, y1, y2, n, hy, hl, hf0, hf1, hf2⟩ := trod_struct3 Tryz.underlying145 hrow
  obtain ⟨k0, e0, z0, _⟩ := DataW.trod_int Tryz.underlying21 hf0
  obtain ⟨k1, e1, z1, _⟩ := DataW.trod_int Tryz.underlying21 hf1
  obtain ⟨k2, e2, z2, _⟩ := DataW.trod_int Tryz.underlying3 hf2
  rw [hy] at hfst
  simp only [wRowD, z0, z1, z2, DataW.agg.injEq, List.cons.injEq, DataW.lit.injEq, Lit.int.injEq, true_and, and_true] at hfst
  obtain ⟨rfl, rfl, rfl⟩ := hfst
  simp only [c21, c3, List.drop_take, List.drop_drop] at e0 e1 e2
  have at_ (j : Nat) : W.cell? ⟨0, j, none⟩ = cs0.toList[j]? := by
    rw [World.var?_cell hg0 hv0 j]; simp
  refine ⟨?_, ?_, ?_⟩
  · rw [at_]
    have := congrArg (·[0]?) e0
    simpa using this
  · rw [at_]
    have := congrArg (·[0]?) e1
    simpa using this
  · rw [at_]
    have := congrArg (·[0]?) e2
    simpa using this
theorem tabs_of_reads {W : World} (h3 : Lib.VarReads Tryz.prog W firstName Lib.firstData) (h4 : Lib.VarReads Tryz.prog W accName Lib.acceptData) : Lib.Utf8Tabs 1 2 W := by
  have c5 : Tryz.prog.cellsOf 5 = 1 := by kernel_rfl
  have c2 : Tryz.prog.cellsOf 150 = 2 := by kernel_rfl
  refine ⟨fun c hc => ?_, fun i hi => ?_⟩
  · obtain ⟨g, t, cs, fuel, p, hg, hty, hvar, hd⟩ := h3
    obtain rfl := Option.some.inj (gFirst.symm.trans hg)
    obtain rfl := Option.some.inj (tFirst.symm.trans hty)
    have hcs := Lib.cells_of_tab Tryz.underlying148 Tryz.underlying5 c5 (by kernel_rfl) hd
    have := World.var?_cell hg hvar c
    rw [this, ← Array.getElem?_toList, hcs]
    simp [Lib.firstTab, hc]
  · obtain ⟨g, t, cs, fuel, p, hg, hty, hvar, hd⟩ := h4
    obtain rfl := Option.some.inj (gAcc.symm.trans hg)
    obtain rfl := Option.some.inj (tAcc.symm.trans hty)
    obtain ⟨fuel', d, q, hdi, he⟩ := Lib.array_elem Tryz.underlying151 hd i hi
    simp only [List.getElem?_map, List.getElem?_range hi, Option.map_some, Option.some.injEq] at hdi
    subst hdi
    rw [c2] at he
    have hcs := Lib.ints_of_struct Tryz.underlying150 (fun j f hj => by
      match j, hj with
      | 0, hj => simp at hj; subst hj; exact ⟨Tryz.underlying5, rfl, c5⟩
      | 1, hj => simp at hj; subst hj; exact ⟨Tryz.underlying5, rfl, c5⟩
      | j + 2, hj => simp at hj) (by rw [c2]; rfl) he
    have e0 := congrArg (·[0]?) hcs
    have e1 := congrArg (·[1]?) hcs
    simp only [List.getElem?_take, List.getElem?_drop] at e0 e1
    constructor
    · rw [World.var?_cell hg hvar (2 * i), ← Array.getElem?_toList]
      simpa [Nat.mul_comm] using e0
    · rw [World.var?_cell hg hvar (2 * i + 1), ← Array.getElem?_toList]
      simpa [Nat.mul_comm] using e1
theorem tabs3_of_laid {W : World} (h : laidMetH Tryz.prog laidH W) : Tabs3 W := by
  rw [MakeChecks.laidMetH_plain _ _ _ (by kernel_rfl)] at h
  exact ⟨wide_of_reads (Lib.laidMet.reads h inH2), tabs_of_reads (Lib.laidMet.reads h inH3) (Lib.laidMet.reads h inH1)⟩
end Go.Proofs.YtokjpnlmkecleaaGreatDoor

namespace Go.Proofs.YtokjpnlmkecleaaGreatDoor
open Go.ChangeShapes Go.WideShapes Go.ChangeAt Go.RowKit Go.Deep

theorem tl2_monoE (t h : Nat → ByteArray) (n : Nat) : ∀ k, k ≤ n → tl2 t h k ≤ tl2 t h n := by
  have aux : ∀ m k, tl2 t h k ≤ tl2 t h (k + m) := by
    intro m
    induction m with
    | zero => intro k; exact Nat.le_refl _
    | succ m ih => intro k; have := ih k; rw [← Nat.add_assoc, tl2]; omega
  intro k hk
  have := aux (n - k) k
  rwa [show k + (n - k) = n by omega] at this
theorem tl2_eachE {t h : Nat → ByteArray} {n m : Nat} (hm : tl2 t h n ≤ m) : ∀ j, j < n → (t j).size ≤ m ∧ (h j).size ≤ m := fun j hj => by
  have h1 := tl2_monoE t h n (j + 1) (by omega)
  rw [tl2] at h1
  omega
theorem lineP_un {a b c : ByteArray} {n : Nat} {tx hf : Nat → ByteArray} : LineP a b c (unL tx hf n).length (lnT (unL tx hf n)) (lnH (unL tx hf n)) ↔ LineP a b c n tx hf := by
  unfold LineP
  rw [unL_len]
  constructor
  · rintro ⟨h1, h2, h3, h4⟩
    refine ⟨h1, h2, h3, fun j hj => ?_⟩
    have := h4 j hj
    rwa [lnT_un tx hf hj, lnH_un tx hf hj] at this
  · rintro ⟨h1, h2, h3, h4⟩
    refine ⟨h1, h2, h3, fun j hj => ?_⟩
    rw [lnT_un tx hf hj, lnH_un tx hf hj]
    exact h4 j hj
theorem lnAt_un {w : World} {v : Value} {n : Nat} {tx hf : Nat → ByteArray} (h : Row2At w v n (fun j => .string (tx j)) (fun j => .string (hf j))) : LnAt w v (unL tx hf n) := by
  unfold LnAt
  rw [unL_len]
  obtain ⟨ao, cap, e, hc, hx⟩ := h
  refine ⟨ao, cap, e, hc, fun hp => ?_⟩
  obtain ⟨b, off, e2, hcell⟩ := hx hp
  refine ⟨b, off, e2, fun j hj => ?_⟩
  show w.cell? _ = some (.string (lnT (unL tx hf n) j)) ∧ w.cell? _ = some (.string (lnH (unL tx hf n) j))
  rw [lnT_un tx hf hj, lnH_un tx hf hj]
  exact hcell j hj
/-- What a key does to a line, valid or not. -/
noncomputable def edA (a b c : ByteArray) (un : List (ByteArray × ByteArray)) (kd : Int) (rs : List Int) : LD := by
  classical
  exact if LineP a b c un.length (lnT un) (lnH un) then edF a b c un kd rs else ⟨a, b, c, un, 0⟩
theorem edF_un {a b c : ByteArray} {un : List (ByteArray × ByteArray)} (hn : un.length ≤ 50) (kd : Int) (rs : List Int) : (edF a b c un kd rs).un.length ≤ 50 := by
  have hs : ∀ l r, (edSet a b c un l r).un.length ≤ 50 := fun l r => undoN_len un (a, b) hn
  have hm : ∀ n, (edMv a b c un n).un.length ≤ 50 := fun n => hn
  have hu := undoN_len un (a, b) hn
  have ht : (un.take (un.length - 1)).length ≤ 50 := by rw [List.length_take]; omega
  have key : ∀ (p : Prop) [Decidable p] (x y : LD), x.un.length ≤ 50 → y.un.length ≤ 50 → (if p then x else y).un.length ≤ 50 := by
    intro p _ x y hx hy
    by_cases h : p
    · rw [if_pos h]; exact hx
    · rw [if_neg h]; exact hy
  unfold edF edPut edBack edDel edLeft edRight edHome edEnd edWl edWr edKe edKs edKw edYank edSwap edUndo
  repeat' first | exact hs _ _ | exact hm _ | exact hn | exact hu | exact ht | refine key _ _ _ ?_ ?_
theorem edA_un {a b c : ByteArray} {un : List (ByteArray × ByteArray)} {m : Nat} (hn : un.length ≤ m) (hm : 50 ≤ m) (kd : Int) (rs : List Int) : (edA a b c un kd rs).un.length ≤ m := by
  unfold edA
  split
  · rename_i h
    have := edF_un (a := a) (b := b) (c := c) h.1 kd rs
    omega
  · exact hn
theorem implEdit_all (a b c : ByteArray) (v : Value) (n : Nat) (tx hf : Nat → ByteArray) (kd : Int) (rv : Value) (rs : List Int) (w : World) (hv : Row2At w v n (fun j => .string (tx j)) (fun j => .string (hf j))) (ha : a.size ≤ 1048576) (hb : b.size ≤ 1048576) (hc : c.size ≤ 1048576) (hn : n ≤ 1048576) (hx : ∀ j, j < n → (tx j).size ≤ 1048576 ∧ (hf j).size ≤ 1048576) (hT : Tabs3 w) (hr : IntsAt w .i32 rv rs) (iR : I32s rs) (zR : rs.length ≤ 1048576) :
    Calls Tryz.prog 8 #[.agg #[.string a, .string b, .string c, v], .agg #[.int .i64 kd, rv]] w fun e w' => LnO w' w.heap.size (edA a b c (unL tx hf n) kd rs) e ∧ Ext w w' := by
  unfold edA
  split
  · rename_i h
    exact implEdit_yes a b c v n tx hf kd rv rs w hv ha hb hc hn hx hT hr iR zR (lineP_un.1 h)
  · rename_i h
    exact implEdit_no a b c v n tx hf kd rv w hv ha hb hc hn hx hT (fun h2 => h (lineP_un.2 h2))
theorem specEdit_all (a b c : ByteArray) (v : Value) (n : Nat) (tx hf : Nat → ByteArray) (kd : Int) (rv : Value) (rs : List Int) (w : World) (hv : Row2At w v n (fun j => .string (tx j)) (fun j => .string (hf j))) (ha : a.size ≤ 1048576) (hb : b.size ≤ 1048576) (hc : c.size ≤ 1048576) (hn : n ≤ 1048576) (hx : ∀ j, j < n → (tx j).size ≤ 1048576 ∧ (hf j).size ≤ 1048576) (hr : IntsAt w .i32 rv rs) (iR : I32s rs) :
    Calls Tryz.prog 9 #[.agg #[.string a, .string b, .string c, v], .agg #[.int .i64 kd, rv]] w fun e w' => LnO w' w.heap.size (edA a b c (unL tx hf n) kd rs) e ∧ Ext w w' := by
  have hu := lnAt_un hv
  have hx2 : ∀ j, j < (unL tx hf n).length → (lnT (unL tx hf n) j).size ≤ 1048576 ∧ (lnH (unL tx hf n) j).size ≤ 1048576 := by
    rw [unL_len]
    intro j hj
    rw [lnT_un tx hf hj, lnH_un tx hf hj]
    exact hx j hj
  obtain ⟨ra, rc, rfl, _⟩ := id hr
  unfold edA
  split
  · rename_i h
    exact specEdit_yes a b c v _ ra rs.length rc w hu ha hb hc hx2 kd rs hr iR h
  · rename_i h
    exact specEdit_no a b c v _ ra rs.length rc w hu ha hb hc (by rw [unL_len]; exact hn) hx2 kd h
set_option maxRecDepth 10000 in
set_option maxHeartbeats 1000000 in
theorem fnExactEdit_walk (a b c : ByteArray) (u : Value) (n : Nat) (tx hf : Nat → ByteArray) (kd : Int) (rs : List Int) (ra : Option Addr) (rc : Nat) (w : World) (hu : Row2At w u n (fun j => .string (tx j)) (fun j => .string (hf j))) (ha : a.size ≤ maxLen) (hb : b.size ≤ maxLen) (hc : c.size ≤ maxLen) (hn : n ≤ maxLen) (hx : ∀ j, j < n → (tx j).size ≤ maxLen ∧ (hf j).size ≤ maxLen)
    (hr : IntsAt w .i32 (.slice ra rs.length rc) rs) (iR : I32s rs) (hl : rs.length ≤ maxLen) (hT : Tabs3 w) :
    Calls Tryz.prog 4 #[.agg #[.string a, .string b, .string c, u], .agg #[.int .i64 kd, .slice ra rs.length rc]] w fun e w' => e = .returned (.bool true) ∧ Below w.heap.size w w' := by
  unfold maxLen at ha hb hc hn hx hl
  obtain ⟨ua, uc, rfl, _⟩ := id hu
  obtain ⟨o, ho⟩ : ∃ o, o = edA a b c (unL tx hf n) kd rs := ⟨_, rfl⟩
  have hN : n ≤ 1048576 → o.un.length ≤ 1048576 := fun h => by rw [ho]; exact edA_un (by rw [unL_len]; exact h) (by omega) kd rs
  refine law_Edit a b c ua n uc kd ra rs.length rc o.d w (lineK a b c n tx hf) (fun k => lineK a b c n (fun j => mtx (k + 2 * (j : Int))) (fun j => mtx (k + 2 * (j : Int) + 1))) (2 * n)
    (keyK kd rs) (fun k => keyK kd (mkI32 k rs.length)) rs.length
    (lineK o.a o.b o.c o.un.length (lnT o.un) (lnH o.un)) (fun k => lineK o.a o.b o.c o.un.length (fun j => mtx (k + 2 * (j : Int))) (fun j => mtx (k + 2 * (j : Int) + 1))) (2 * o.un.length)
    (a.size + b.size + c.size + (n + tl2 tx hf n) ≤ 1048576) (rs.length ≤ 1048576)
    ?_ ?_ ?_ ?_ ?_ ?_ ?_ ?_ ?_ ?_ ?_ ?_ ?_ ?_ ?_ ?_
  · refine hide (fun W l hW h0 h1 => (szLine_le a b c _ n tx hf l W (hu.ext hW) h0 (by omega) (by omega) (by omega) (by omega) (by omega) (fun j hj => by have := hx j hj; omega)).mono ?_)
    rintro e w' ⟨r, rfl, hr, hr2, F⟩
    exact ⟨r, rfl, hr, fun h => by have := hr2 h; omega, F⟩
  · refine hide (fun W l hW h0 h1 => (szKey_any kd ra rs.length rc l W h0 (by omega) (by omega)).mono ?_)
    rintro e w' ⟨r, rfl, hr, F⟩
    refine ⟨r, rfl, ?_, fun h => ?_, F⟩
    · rcases hr with ⟨h2, _⟩ | ⟨h2, _⟩ <;> omega
    · rcases hr with ⟨h2, _⟩ | ⟨h2, _⟩ <;> omega
  · refine hide (fun hF W hW => (toLine_any a b c _ n tx hf W (hu.ext hW) (by omega)).mono ?_)
    rintro e w' ⟨rfl, o, F⟩
    exact ⟨_, _, rfl, lineK_own (o.mono (by omega)), F⟩
  · exact hide (fun W u hu => by
      obtain ⟨a1, a2, e⟩ := lineK_shape hu
      exact ⟨_, _, _, _, _, _, e⟩)
  · exact hide (fun hF => lineK_eq a b c n tx hf (by omega))
  · exact hide (fun hF => ⟨lineK_mark a b c n tx hf (by omega), by omega⟩)
  · refine hide (fun hF W hW => (toKey_any kd _ rs W (hr.ext hW) (by omega)).mono ?_)
    rintro e w' ⟨rfl, o, F⟩
    exact ⟨_, _, rfl, keyK_own (owns_mono o (by omega)), F⟩
  · exact hide (fun W u hu => by
      obtain ⟨a1, a2, e⟩ := keyK_shape hu
      exact ⟨_, _, _, _, e⟩)
  · exact hide (fun hF => keyK_eq kd rs (by omega))
  · exact hide (fun hF => ⟨keyK_mark kd rs hF.2, by omega⟩)
  · refine hide (fun hF W u0 u1 hW h0 h1 => ?_)
    obtain ⟨v0, rfl, hv0⟩ := h0
    obtain ⟨v1, rfl, hv1⟩ := h1
    refine (specEdit_all a b c v0 n tx hf kd v1 rs W hv0 (by omega) (by omega) (by omega) (by omega) (tl2_eachE (by omega)) hv1 iR).mono ?_
    rintro e w' ⟨⟨v, rfl, o9⟩, F⟩
    rw [← ho] at o9 ⊢
    exact ⟨_, _, rfl, lineK_own o9, F⟩
  · refine hide (fun hF W u0 u1 hW h0 h1 => ?_)
    obtain ⟨v0, rfl, hv0⟩ := h0
    obtain ⟨v1, rfl, hv1⟩ := h1
    refine (implEdit_all a b c v0 n tx hf kd v1 rs W hv0 (by omega) (by omega) (by omega) (by omega) (tl2_eachE (by omega)) (hT.ext hW) hv1 iR hF.2).mono ?_
    rintro e w' ⟨⟨v, rfl, o9⟩, F⟩
    rw [← ho] at o9 ⊢
    exact ⟨_, _, rfl, lineK_own o9, F⟩
  · exact hide (fun W u hu => by
      obtain ⟨a1, a2, e⟩ := lineK_shape hu
      exact ⟨_, _, _, _, _, _, e⟩)
  · exact hide (fun hF => lineK_eq o.a o.b o.c o.un.length _ _ (by have := hN (by omega); omega))
  · exact hide (fun hF => ⟨lineK_mark o.a o.b o.c o.un.length _ _ (hN (by omega)), by have := hN (by omega); omega⟩)
  · exact hide (fun hF => lineK_held o.a o.b o.c o.un.length (hN (by omega)))
end Go.Proofs.YtokjpnlmkecleaaGreatDoor

namespace Go.Proofs.YtokjpnlmkecleaaGreatDoor
open Go.ChangeShapes Go.WideShapes Go.ChangeAt Go.RowKit Go.Deep

set_option maxRecDepth 100000 in
theorem fnExactEdit_lifted (os : Os) (started : os.Started) (H : Type) (enc : TypeId × Value → H) :
    ReturnsInHanded {} Tryz.checked os 4 .any (fun w args => (Rows.fnExactEditSpec.pre enc Tryz.prog Tryz.f4 [] false w args ∧ laidMetH Tryz.prog Rows.fnExactEditRow.laid w) ∧ sizedMet enc Tryz.prog Tryz.f4 (OpenSpec.ofChange Rows.fnExactEditSpec) false w args)
      (Rows.fnExactEditSpec.post enc Tryz.prog Tryz.f4 false true false false) := by
  have own : ownKnob Tryz.prog.godebug = none := by kernel_rfl
  refine returnsInHanded_of_change_and (C := Tryz.checked) (X := fun w _ => laidMetH Tryz.prog Rows.fnExactEditRow.laid w) (fun _ _ _ hh h => h.of_heap hh) own started (by kernel_rfl) Tryz.func4
    (ChangeSpec.witness_shaped (enc := enc) (C := Tryz.checked) (os := os) (X := fun w _ => laidMetH Tryz.prog Rows.fnExactEditRow.laid w) false (World.laidAll Tryz.prog os Rows.fnExactEditRow.laid) #[.agg #[.string noT, .string noT, .string noT, .slice none 0 0], .agg #[.int .i64 0, .slice none 0 0]] 8 (World.laidAll_os _ _ _)
      (World.shaped_of_ZipB (by kernel_rfl) (by kernel_rfl)) (by kernel_rfl) (by kernel_rfl) (by kernel_rfl)
      (by rw [MakeChecks.laidMetH_plain _ _ _ (by kernel_rfl)]; exact laidMet_laidAll _ (by kernel_rfl) (by kernel_rfl))) ?_
  intro W base args ds gs before hval0 hW _ _ hL _
  have hval : ∀ (j : Nat) t v, Tryz.f4.params[j]? = some t → args[j]? = some v → Value.okWide Tryz.prog W .any base t v := hval0
  have hW' := hW
  obtain ⟨p, q, hA0, hV0, rfl, hfz, hnd⟩ := hW
  have hV : DataW.TrodVars enc Tryz.prog W (fun _ => true) [Rows.fnExactEditSpec.vars.headD ""] gs q := hV0
  have hA : DataW.TrodAll enc Tryz.prog W 0 (fun _ => true) true Tryz.f4.params.toList args.toList ds p := hA0
  rw [Tryz.params4] at hA hval
  obtain ⟨v0, v1, d0, d1, p0, p1, rfl, rfl, rfl, h0, h1⟩ := trodAll_two hA
  obtain ⟨g, t, cs, fuel, d, p', rfl, _, _, _, _, _⟩ := trodVars_one hV
  obtain ⟨a, b, c, u, n, tx, hf, rfl, c1, c2, c3, c4, c5, c6⟩ := line_came (hval 0 37 v0 rfl rfl) h0
  obtain ⟨kd, rs, ra, rc, rfl, k1, k2, k3, _⟩ := key_came (hval 1 38 v1 rfl rfl) h1
  clear hA0 hval0
  refine (fnExactEdit_walk a b c u n tx hf kd rs ra rc W c1 c2 c3 c4 c5 c6 k1 (fun x hx => bounds_i32 (k2 x hx)) k3 (tabs3_of_laid hL)).mono fun e W' ⟨he, hb⟩ => ?_
  subst he
  exact ⟨_, rfl, post_law (by kernel_rfl) (by kernel_rfl) (by kernel_rfl) (bt := 4) (by kernel_rfl) Tryz.underlying4 hW' rfl hb⟩
end Go.Proofs.YtokjpnlmkecleaaGreatDoor
