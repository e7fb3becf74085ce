import Derived.Test.YtopjihagpkempaaDoorGapN
import Derived.Test.YtopjihagpkempaaDoorGapL
import Derived.Test.YtopjihagpkempaaDoorGapP
import Derived.Test.YtopjihagpkempaaDoorGenSetText
namespace Go.Proofs.YtopjihagpkempaaDoor
open Go.RowKit

set_option maxRecDepth 10000 in
set_option maxHeartbeats 8000000 in
/-- A text put in the place of all that is there. -/
theorem gapLoad_any (P : Nat) (cl : List Value) (f0 b0 : Int) (k : ByteArray) (u : Value) (W : World) (hP : W.heap[P]? = some (.cells (edC cl f0 b0 k u) 64 (0, 0))) (hl : cl.length = 600) (h1 : ∀ v ∈ cl, v.oneCell' = true) (L R : List Int) (hL : Bytes L) (hR : Bytes R) (zL : L.length ≤ 8000000) (zR : R.length ≤ 8000000) (hfit : (cutC L).length + (cutC R).length ≤ 300)
    (hT : ∀ W', Fr (fun q => q = P) W W' → Laid W') :
    Calls Tryd.prog 31 #[.pointer (some ⟨P, 0, none⟩), .agg #[.string (toBA L), .string (toBA R)]] W fun e w' => ∃ cl' rl rr, e = .returned (.tuple #[]) ∧ w'.heap[P]? = some (.cells (edC cl' ((cutC L).length : Int) ((300 - (cutC R).length : Nat) : Int) k u) 64 (0, 0)) ∧ GapIn P w' cl' rl rr (cutC L) (cutC R) ∧ Fr (fun q => q = P) W w' := by
  have hPl : P < W.heap.size := (Array.getElem?_eq_some_iff.1 hP).1
  obtain ⟨c0, c1, -, -, g0, g1, -⟩ := edG_cells hP hl
  have p1 := heap_setCell_same W P 600 _ _ (.int .i64 0) hP
  rw [edC_front hl] at p1
  have c1' := (edG_cells p1 hl).2.1
  have p2 := heap_setCell_same _ P 601 _ _ (.int .i64 300) p1
  rw [edC_behind hl] at p2
  have F2 : Fr (fun q => q = P) W ((W.setCell ⟨P, 600, none⟩ (.int .i64 0)).setCell ⟨P, 601, none⟩ (.int .i64 300)) := Fr.setCell (S := fun q => q = P) (Fr.setCell (S := fun q => q = P) (Fr.refl _ W) (a := ⟨P, 600, none⟩) rfl _) (a := ⟨P, 601, none⟩) rfl _
  have zz : ((W.setCell ⟨P, 600, none⟩ (.int .i64 0)).setCell ⟨P, 601, none⟩ (.int .i64 300)).heap.size = W.heap.size := by simp [World.setCell]
  obtain ⟨U, hU⟩ : ∃ U, U = (((W.setCell ⟨P, 600, none⟩ (.int .i64 0)).setCell ⟨P, 601, none⟩ (.int .i64 300)).alloc (.cells #[.string (toBA L), .string (toBA R)] 51)) := ⟨_, rfl⟩
  have E0 : Ext ((W.setCell ⟨P, 600, none⟩ (.int .i64 0)).setCell ⟨P, 601, none⟩ (.int .i64 300)) U := by rw [hU]; exact (Ext.refl _).alloc _
  have FW2 : Fr (fun q => q = P) W U := F2.tr (Fr.of_ext E0)
  have q2 : U.heap[W.heap.size]? = some (.cells #[.string (toBA L), .string (toBA R)] 51 (0, 0)) := by
    have := heap_alloc_new ((W.setCell ⟨P, 600, none⟩ (.int .i64 0)).setCell ⟨P, 601, none⟩ (.int .i64 300)) (.cells #[.string (toBA L), .string (toBA R)] 51)
    rw [zz, ← hU] at this
    exact this
  have p3 := E0.kept p2
  have s2 := cells_of q2 1 _ rfl
  have hG2 : GapIn P U cl [] [] [] [] := ⟨hl, by simp, rfl, rfl, fun j hj => absurd hj (Nat.not_lt_zero _), fun j hj => absurd hj (Nat.not_lt_zero _), fun j hj => absurd hj (Nat.not_lt_zero _), fun j hj => absurd hj (Nat.not_lt_zero _), h1⟩
  have sz2 : P < U.heap.size := (Array.getElem?_eq_some_iff.1 p3).1
  have HP2 := hide p3
  have HF2 := hide FW2
  have HQ2 := hide q2
  have HG2 := hide hG2
  have HT := hide hT
  clear hP p1 p2 p3 q2 F2 FW2 hG2 hT E0 zz
  subst hU
  go_enter Tryd.func31, Tryd.ntmps31
  go_wp2_with fail
  refine (clustersOf_any R hR _ zR ((unhide HT) _ (unhide HF2))).mono ?_
  rintro e w3 ⟨v3, rs3, rfl, o3, E3⟩
  obtain ⟨ao, cap, rfl, hrs, hrr, hone, hx⟩ := o3.gap sz2
  have HF3 := hide ((unhide HF2).tr (Fr.of_ext E3))
  have HQ3 := hide (E3.kept (unhide HQ2))
  have HI := hide (insert_any P cl [] [] [] [] (cutC R) 300 rfl k u _ rs3 w3 (E3.kept (unhide HP2)) ((unhide HG2).fr (Fr.of_ext E3)) hrs (by simp; omega) hrr hone ao cap rfl hx)
  have HRS := hide hrs
  clear o3 hrr hone hx hrs HP2 HF2 HQ2 HG2
  go_wp2_with fail
  refine (unhide HI).mono ?_
  rintro e w4 ⟨cl4, rfl, p4, G4, F4⟩
  rw [List.nil_append, List.nil_append] at G4
  rw [List.nil_append] at p4
  have c4 := (edG_cells p4 G4.len).1
  have HF4 := hide ((unhide HF3).tr F4)
  have HQ4 := hide (F4.kept (unhide HQ3) (by show ¬ W.heap.size = P; omega))
  have HL := hide (goLeft_any P cl4 [] rs3 [] [] (cutC R) [] 300 (cutC R).length (cutC R).length rfl (by simp) rfl k u w4 p4 G4 rfl (unhide HRS))
  clear p4 G4 F4 HF3 HQ3 HI HRS
  go_wp2_with fail
  refine (unhide HL).mono ?_
  rintro e w5 ⟨cl5, rfl, p5, G5, F5⟩
  rw [List.append_nil, List.append_nil] at G5
  rw [List.append_nil] at p5
  have HF5 := hide ((unhide HF4).tr F5)
  have q5 := F5.kept (unhide HQ4) (by show ¬ W.heap.size = P; omega)
  have s5 := cells_of q5 0 _ rfl
  have sz5 : P < w5.heap.size := (Array.getElem?_eq_some_iff.1 p5).1
  have HP5 := hide p5
  have HG5 := hide G5
  clear p5 G5 F5 q5 HF4 HQ4 HL
  go_wp2_with fail
  refine (clustersOf_any L hL _ zL ((unhide HT) _ (unhide HF5))).mono ?_
  rintro e w6 ⟨v6, rs6, rfl, o6, E6⟩
  obtain ⟨ao6, cap6, rfl, hrs, hrr, hone, hx⟩ := o6.gap sz5
  have HF6 := hide ((unhide HF5).tr (Fr.of_ext E6))
  have HI := hide (insert_any P cl5 [] rs3 [] (cutC R) (cutC L) (300 - (cutC R).length) rfl k u _ rs6 w6 (E6.kept (unhide HP5)) ((unhide HG5).fr (Fr.of_ext E6)) hrs (by simp; omega) hrr hone ao6 cap6 rfl hx)
  clear o6 hrr hone hx hrs HP5 HF5 HG5
  go_wp2_with fail
  refine (unhide HI).mono ?_
  rintro e w7 ⟨cl7, rfl, p7, G7, F7⟩
  rw [List.nil_append, List.nil_append] at G7
  rw [List.nil_append] at p7
  have HP7 := hide p7
  have HG7 := hide G7
  have HF7 := hide ((unhide HF6).tr F7)
  clear p7 G7 F7 HI HF6
  go_wp2
  exact bodyPost_end (v := .tuple #[]) (by simp [results, Tryd.results31, go_sem]) rfl ⟨_, _, _, rfl, unhide HP7, unhide HG7, unhide HF7⟩
end Go.Proofs.YtopjihagpkempaaDoor

namespace Go.Proofs.YtopjihagpkempaaDoor
open Go.RowKit

/-- The cells of two rows, side by side. -/
def pairsL (A B : Nat → Value) (n : Nat) : List Value := (List.range (n * 2)).map (fun q => if q % 2 = 0 then A (q / 2) else B (q / 2))
theorem pairsL_len (A B : Nat → Value) (n : Nat) : (pairsL A B n).length = n * 2 := by simp [pairsL]
theorem pairsL_at (A B : Nat → Value) (n j : Nat) (hj : j < n) : (pairsL A B n)[j * 2]? = some (A j) ∧ (pairsL A B n)[j * 2 + 1]? = some (B j) := by
  unfold pairsL
  constructor
  · rw [List.getElem?_map, List.getElem?_range (by omega)]
    simp
  · rw [List.getElem?_map, List.getElem?_range (by omega)]
    have h1 : (j * 2 + 1) % 2 = 1 := by omega
    have h2 : (j * 2 + 1) / 2 = j := by omega
    simp [h1, h2]
theorem pairsL_news {w : World} {A B : Nat → Value} {n b off : Nat} (h : ∀ j, j < n → w.cell? ⟨b, off + j * 2, none⟩ = some (A j) ∧ w.cell? ⟨b, off + j * 2 + 1, none⟩ = some (B j)) :
    ∀ j u, (pairsL A B n)[j]? = some u → w.cell? ((⟨b, off, none⟩ : Addr).add j) = some u := by
  intro j u hu
  rw [Addr.add_lit]
  have hj : j < n * 2 := by
    have := (List.getElem?_eq_some_iff.1 hu).1
    rwa [pairsL_len] at this
  obtain ⟨h1, h2⟩ := pairsL_at A B n (j / 2) (by omega)
  obtain ⟨c1, c2⟩ := h (j / 2) (by omega)
  by_cases e : j % 2 = 0
  · have ej : j / 2 * 2 = j := by omega
    rw [ej] at h1 c1
    rw [h1] at hu
    rw [c1]
    exact hu
  · have ej : j / 2 * 2 + 1 = j := by omega
    rw [ej] at h2
    rw [h2] at hu
    rw [Nat.add_assoc, ej] at c2
    rw [c2]
    exact hu
theorem pairsL_one {A B : Nat → ByteArray} {n : Nat} : ∀ u ∈ pairsL (fun j => .string (A j)) (fun j => .string (B j)) n, u.oneCell' = true := by
  intro u hu
  simp only [pairsL, List.mem_map] at hu
  obtain ⟨q, _, rfl⟩ := hu
  split <;> rfl
end Go.Proofs.YtopjihagpkempaaDoor

namespace Go.Proofs.YtopjihagpkempaaDoor
open Go.RowKit

/-- Undo behind one more change. -/
def undoN (un : List (ByteArray × ByteArray)) (s : ByteArray × ByteArray) : List (ByteArray × ByteArray) := if 50 < un.length + 1 then (un ++ [s]).drop 1 else un ++ [s]
def unL (tx hf : Nat → ByteArray) (n : Nat) : List (ByteArray × ByteArray) := (List.range n).map (fun j => (tx j, hf j))
theorem unL_succ (tx hf : Nat → ByteArray) (n : Nat) : unL tx hf (n + 1) = unL tx hf n ++ [(tx n, hf n)] := by unfold unL; rw [List.range_succ]; simp
theorem unL_len (tx hf : Nat → ByteArray) (n : Nat) : (unL tx hf n).length = n := by unfold unL; simp
/-- Pairs of texts as two rows. -/
def lnT (un : List (ByteArray × ByteArray)) (j : Nat) : ByteArray := ((un[j]?).getD (noT, noT)).1
def lnH (un : List (ByteArray × ByteArray)) (j : Nat) : ByteArray := ((un[j]?).getD (noT, noT)).2
theorem lnT_at {un : List (ByteArray × ByteArray)} {j : Nat} {s : ByteArray × ByteArray} (h : un[j]? = some s) : lnT un j = s.1 := by simp [lnT, h]
theorem lnH_at {un : List (ByteArray × ByteArray)} {j : Nat} {s : ByteArray × ByteArray} (h : un[j]? = some s) : lnH un j = s.2 := by simp [lnH, h]
theorem unL_at (tx hf : Nat → ByteArray) {n j : Nat} (h : j < n) : (unL tx hf n)[j]? = some (tx j, hf j) := by simp [unL, h]
theorem lnT_un (tx hf : Nat → ByteArray) {n j : Nat} (h : j < n) : lnT (unL tx hf n) j = tx j := lnT_at (unL_at tx hf h)
theorem lnH_un (tx hf : Nat → ByteArray) {n j : Nat} (h : j < n) : lnH (unL tx hf n) j = hf j := lnH_at (unL_at tx hf h)
theorem pairsL_succ (A B : Nat → Value) (n : Nat) : pairsL A B (n + 1) = pairsL A B n ++ [A n, B n] := by
  unfold pairsL
  rw [show (n + 1) * 2 = n * 2 + 1 + 1 by omega, List.range_succ, List.range_succ]
  simp only [List.map_append, List.map_cons, List.map_nil, List.append_assoc]
  rw [show (n * 2) % 2 = 0 by omega, show (n * 2 + 1) % 2 = 1 by omega, show n * 2 / 2 = n by omega, show (n * 2 + 1) / 2 = n by omega]
  simp
theorem unL_eq (tx hf : Nat → ByteArray) (n : Nat) (un : List (ByteArray × ByteArray)) (h : un = unL tx hf n) : un.length = n := by rw [h, unL_len]
theorem undoN_len (un : List (ByteArray × ByteArray)) (s : ByteArray × ByteArray) (h : un.length ≤ 50) : (undoN un s).length ≤ 50 := by
  unfold undoN
  split
  · simp; omega
  · simp; omega
theorem pairsL_congr {A B A' B' : Nat → Value} {n : Nat} (h : ∀ j, j < n → A j = A' j ∧ B j = B' j) : pairsL A B n = pairsL A' B' n := by
  unfold pairsL
  refine List.map_congr_left (fun q hq => ?_)
  have hq' : q < n * 2 := List.mem_range.1 hq
  have := h (q / 2) (by omega)
  split
  · exact this.1
  · exact this.2
/-- Pairs of texts as cells. -/
def prL (un : List (ByteArray × ByteArray)) : List Value := pairsL (fun j => .string (lnT un j)) (fun j => .string (lnH un j)) un.length
theorem prL_snoc (un : List (ByteArray × ByteArray)) (s : ByteArray × ByteArray) : prL (un ++ [s]) = prL un ++ [.string s.1, .string s.2] := by
  unfold prL
  rw [List.length_append, List.length_singleton, pairsL_succ]
  have h0 : (un ++ [s])[un.length]? = some s := by simp
  rw [lnT_at h0, lnH_at h0]
  refine congrArg (· ++ _) (pairsL_congr (fun j hj => ?_))
  have h1 : (un ++ [s])[j]? = un[j]? := List.getElem?_append_left hj
  simp [lnT, lnH, h1]
theorem prL_un (tx hf : Nat → ByteArray) (n : Nat) : prL (unL tx hf n) = pairsL (fun j => .string (tx j)) (fun j => .string (hf j)) n := by
  unfold prL
  rw [unL_len]
  exact pairsL_congr (fun j hj => ⟨by rw [lnT_un tx hf hj], by rw [lnH_un tx hf hj]⟩)
theorem prL_len (un : List (ByteArray × ByteArray)) : (prL un).length = un.length * 2 := pairsL_len _ _ _
theorem lnT_drop (un : List (ByteArray × ByteArray)) (j : Nat) : lnT (un.drop 1) j = lnT un (j + 1) := by simp [lnT]
theorem lnH_drop (un : List (ByteArray × ByteArray)) (j : Nat) : lnH (un.drop 1) j = lnH un (j + 1) := by simp [lnH]
theorem prL_at (un : List (ByteArray × ByteArray)) (j : Nat) (hj : j < un.length) : (prL un)[j * 2]? = some (.string (lnT un j)) ∧ (prL un)[j * 2 + 1]? = some (.string (lnH un j)) := pairsL_at _ _ _ j hj
theorem own2_list {w : World} {base : Nat} {T : TypeId} {v : Value} {n : Nat} {A B : Nat → Value} (h : Own2 w base T v n A B) : w.ownsRow base T 2 v n (pairsL A B n) := by
  obtain ⟨ys, h1, h2⟩ := h
  have hl : ys.length = n * 2 := h1.1
  have e : ys = pairsL A B n := by
    refine List.ext_getElem? (fun i => ?_)
    by_cases hi : i < n * 2
    · obtain ⟨a1, a2⟩ := h2 (i / 2) (by omega)
      obtain ⟨b1, b2⟩ := pairsL_at A B n (i / 2) (by omega)
      by_cases e : i % 2 = 0
      · rw [show i / 2 * 2 = i by omega] at a1 b1
        rw [a1, b1]
      · rw [show i / 2 * 2 + 1 = i by omega] at a2 b2
        rw [a2, b2]
    · rw [List.getElem?_eq_none (by omega), List.getElem?_eq_none (by rw [pairsL_len]; omega)]
  rw [← e]
  exact h1
end Go.Proofs.YtopjihagpkempaaDoor

namespace Go.Proofs.YtopjihagpkempaaDoor
open Go.RowKit

/-- The closures' row, to be read. -/
def BackAt (W : World) (u : Value) (un : List (ByteArray × ByteArray)) : Prop := ∃ qs : List Nat, qs.length = un.length ∧ Row1At W u un.length (fun j => bkF (qs[j]?.getD 0)) ∧ ∀ (j q : Nat) (s : ByteArray × ByteArray), qs[j]? = some q → un[j]? = some s → SnapBox W q s
/-- It reads so whatever is written into the editor's block. -/
def BackS (P : Nat) (W : World) (u : Value) (un : List (ByteArray × ByteArray)) : Prop := ∀ W', Fr (fun q => q = P) W W' → BackAt W' u un
/-- The closures' row, the call's own. -/
def BackOwn (W : World) (base : Nat) (u : Value) (qs : List Nat) (un : List (ByteArray × ByteArray)) : Prop := qs.length = un.length ∧ W.ownsRow base 67 1 u qs.length (qs.map bkF) ∧ ∀ (j q : Nat) (s : ByteArray × ByteArray), qs[j]? = some q → un[j]? = some s → SnapBox W q s
theorem edC_undo {cl : List Value} {fr bh : Int} {k : ByteArray} {u u' : Value} (h : cl.length = 600) : (edC cl fr bh k u).setIfInBounds 603 u' = edC cl fr bh k u' := by
  unfold edC
  simp [h]
theorem BackOwn.push {W w' : World} {base P q : Nat} {u u' : Value} {qs : List Nat} {un : List (ByteArray × ByteArray)} {s : ByteArray × ByteArray} {cs : Array Value} (h : BackOwn W base u qs un) (hP : W.heap[P]? = some (.cells cs 64 (0, 0))) (f : Fr (fun x => x = P ∨ u.ownBlock = some x) W w') (o : w'.ownsRow base 67 1 u' (qs ++ [q]).length ((qs ++ [q]).map bkF)) (b : SnapBox w' q s) : BackOwn w' base u' (qs ++ [q]) (un ++ [s]) := by
  obtain ⟨h1, h2, h3⟩ := h
  refine ⟨by simp [h1], o, fun j q' s' hq hs => ?_⟩
  by_cases e : j < qs.length
  · rw [List.getElem?_append_left e] at hq
    rw [List.getElem?_append_left (by omega)] at hs
    have hb := h3 j q' s' hq hs
    exact hb.fr f (hb.off hP h2)
  · have hj : j = qs.length := by have := (List.getElem?_eq_some_iff.1 hq).1; simp at this; omega
    subst hj
    rw [List.getElem?_append_right (Nat.le_refl _)] at hq
    rw [h1, List.getElem?_append_right (Nat.le_refl _)] at hs
    simp at hq hs
    subst hq
    subst hs
    exact b
theorem BackOwn.read {W : World} {base : Nat} {u : Value} {qs : List Nat} {un : List (ByteArray × ByteArray)} (h : BackOwn W base u qs un) : BackAt W u un := by
  obtain ⟨h1, h2, h3⟩ := h
  refine ⟨qs, h1, ?_, h3⟩
  rcases h2.2 with ⟨e, e0⟩ | ⟨g, cap, cur, e, hb, hg, hn, _⟩
  · exact ⟨none, 0, by rw [e, ← h1, e0], by omega, fun hp => by omega⟩
  · refine ⟨_, cap, by rw [e, ← h1], by omega, fun _ => ⟨g, 0, rfl, fun j hj => ?_⟩⟩
    rw [e] at h2
    have := h2.cellAt j (by omega)
    rw [Nat.zero_add, this]
    simp [List.getElem?_eq_getElem (show j < qs.length by omega)]
theorem BackOwn.drop {W : World} {base g cap : Nat} {qs : List Nat} {un : List (ByteArray × ByteArray)} (h : BackOwn W base (.slice (some ⟨g, 0, none⟩) qs.length cap) qs un) (h0 : 0 < qs.length) (hc : qs.length ≤ cap) : BackAt W (.slice (some ⟨g, 1, none⟩) (qs.length - 1) (cap - 1)) (un.drop 1) := by
  obtain ⟨h1, h2, h3⟩ := h
  refine ⟨qs.drop 1, by simp [h1], ⟨_, cap - 1, by rw [List.length_drop, h1], by rw [List.length_drop]; omega, fun _ => ⟨g, 1, rfl, fun j hj => ?_⟩⟩, fun j q s hq hs => ?_⟩
  · rw [List.length_drop] at hj
    have := h2.cellAt (1 + j) (by omega)
    rw [this, Nat.add_comm 1 j]
    simp [List.getElem?_eq_getElem (show j + 1 < qs.length by omega)]
  · rw [List.getElem?_drop] at hq hs
    exact h3 _ q s hq hs
theorem BackOwn.ed {W w' : World} {base P : Nat} {u : Value} {qs : List Nat} {un : List (ByteArray × ByteArray)} {cs : Array Value} (h : BackOwn W base u qs un) (hP : W.heap[P]? = some (.cells cs 64 (0, 0))) (f : Fr (fun x => x = P) W w') : BackOwn w' base u qs un :=
  ⟨h.1, f.owns h.2.1 (fun g hg e => ed_off hP h.2.1 (by rw [hg, e])), fun j q s a b => (h.2.2 j q s a b).fr f (fun e => (h.2.2 j q s a b).off hP h.2.1 (.inl e))⟩
set_option maxRecDepth 10000 in
set_option maxHeartbeats 8000000 in
theorem change_any (P : Nat) (cl rl rr : List Value) (A B : List (List Int × Int)) (bh : Nat) (hbh : bh = 300 - B.length) (k : ByteArray) (u : Value) (qs : List Nat) (un : List (ByteArray × ByteArray)) (base : Nat) (W : World) (hP : W.heap[P]? = some (.cells (edC cl (A.length : Int) (bh : Int) k u) 64 (0, 0))) (hG : GapIn P W cl rl rr A B) (zA : A.length + sumR A A.length ≤ 16777216) (zB : B.length + sumR B B.length ≤ 16777216) (iA : ∀ j, j < A.length → I32s (cR A j)) (iB : ∀ j, j < B.length → I32s (cR B j)) (hU : BackOwn W base u qs un) (hb : base ≤ W.heap.size) (hn : un.length ≤ 50) :
    Calls Tryd.prog 33 #[.pointer (some ⟨P, 0, none⟩)] W fun e w' => ∃ u', e = .returned (.tuple #[]) ∧ w'.heap[P]? = some (.cells (edC cl (A.length : Int) (bh : Int) k u') 64 (0, 0)) ∧ BackS P w' u' (undoN un (toBA (textC A), toBA (textC B))) ∧ Fr (fun x => x = P ∨ u.ownBlock = some x) W w' := by
  have hl := hG.len
  have HS := hide (gapSnap_any P cl rl rr A B bh hbh k u W hP hG zA zB iA iB)
  have HH := hide (fun w (E : Ext W w) => push_any P cl (A.length : Int) (bh : Int) k u qs base (toBA (textC A)) (toBA (textC B)) w (E.kept hP) hl (E.owns hU.2.1) (Nat.le_trans hb E.size) (by rw [hU.1]; exact hn))
  have HU := hide (fun w (E : Ext W w) => (show BackOwn w base u qs un from ⟨hU.1, E.owns hU.2.1, fun j q s h1 h2 => E.kept (hU.2.2 j q s h1 h2)⟩))
  have HP := hide hP
  have hq := hU.1
  clear hP hG hbh zA zB iA iB hU
  go_enter Tryd.func33, Tryd.ntmps33
  go_wp2_with fail
  refine (unhide HS).mono ?_
  rintro e w1 ⟨rfl, E1⟩
  have HE1 := hide E1
  clear E1 HS
  go_wp2_with fail
  refine ((unhide HH) _ (unhide HE1)).mono ?_
  rintro e w2 ⟨u2, q2, rfl, p2, o2, b2, F2⟩
  have HB := hide (((unhide HU) _ (unhide HE1)).push ((unhide HE1).kept (unhide HP)) F2 o2 b2)
  have HF := hide ((Fr.of_ext (unhide HE1)).tr F2)
  have HP2 := hide p2
  have hql : (qs ++ [q2]).length = un.length + 1 := by simp [hq]
  have k2 := (edG_cells p2 hl).2.2.2.1
  have f2 := (edG_cells p2 hl).2.2.2.2.2.2
  rcases o2.2 with ⟨-, e0⟩ | ⟨g, cap, cur, rfl, -, -, hcap, -⟩
  · simp at e0
  by_cases h50 : un.length = 50
  · have hu : undoN un (toBA (textC A), toBA (textC B)) = (un ++ [(toBA (textC A), toBA (textC B))]).drop 1 := by unfold undoN; rw [if_pos (by omega)]
    have F3 : Fr (fun x => x = P) w2 (w2.setCell ⟨P, 603, none⟩ (.slice (some ⟨g, 1, none⟩) 50 (cap - 1))) := Fr.setCell (S := fun q => q = P) (Fr.refl _ w2) (a := ⟨P, 603, none⟩) rfl _
    have HR := hide (fun w' (f : Fr (fun q => q = P) (w2.setCell ⟨P, 603, none⟩ (.slice (some ⟨g, 1, none⟩) 50 (cap - 1))) w') => ((unhide HB).ed (unhide HP2) (F3.tr f)).drop (by omega) hcap)
    rw [hql, h50, ← hu] at HR
    have p3 := heap_setCell_same w2 P 603 _ _ (.slice (some ⟨g, 1, none⟩) 50 (cap - 1)) (unhide HP2)
    rw [edC_undo hl] at p3
    rw [hql, h50] at k2 hcap
    have HP3 := hide p3
    have HF3 := hide ((unhide HF).tr (F3.mono (fun x hx => .inl hx)))
    have c1 : ¬ cap = 1 := by omega
    have c2 : ¬ cap = 0 := by omega
    have c3 : (1 : Int) ≤ (cap : Int) := by omega
    clear p2 o2 b2 F2 p3 HH HU HE1 HB hu hq hql F3 HP2 HF
    go_wp2
    exact bodyPost_end (v := .tuple #[]) (by simp [results, Tryd.results33, go_sem]) rfl ⟨_, rfl, unhide HP3, unhide HR, unhide HF3⟩
  · have HR := hide (fun w' (f : Fr (fun q => q = P) w2 w') => ((unhide HB).ed (unhide HP2) f).read)
    have hu : undoN un (toBA (textC A), toBA (textC B)) = un ++ [(toBA (textC A), toBA (textC B))] := by unfold undoN; rw [if_neg (by omega)]
    rw [← hu] at HR
    have hlt : ¬ (50 : Int) < ((un.length + 1 : Nat) : Int) := by omega
    clear p2 o2 b2 F2 HH HU HE1 HB hu hq
    rw [hql] at k2 HP2 HR hcap
    have hlt2 : ¬ 50 < un.length + 1 := by omega
    clear hql
    obtain ⟨m, hm⟩ : ∃ m, un.length + 1 = m := ⟨_, rfl⟩
    rw [hm] at k2 HP2 HR hcap hlt hlt2
    go_wp2
    exact bodyPost_end (v := .tuple #[]) (by simp [results, Tryd.results33, go_sem]) rfl ⟨_, rfl, unhide HP2, unhide HR, unhide HF⟩
set_option maxRecDepth 10000 in
set_option maxHeartbeats 8000000 in
theorem setText_any (P : Nat) (cl rl rr : List Value) (A B : List (List Int × Int)) (bh : Nat) (hbh : bh = 300 - B.length) (k : ByteArray) (u : Value) (qs : List Nat) (un : List (ByteArray × ByteArray)) (base : Nat) (W : World) (hP : W.heap[P]? = some (.cells (edC cl (A.length : Int) (bh : Int) k u) 64 (0, 0))) (hG : GapIn P W cl rl rr A B) (zA : A.length + sumR A A.length ≤ 16777216) (zB : B.length + sumR B B.length ≤ 16777216) (iA : ∀ j, j < A.length → I32s (cR A j)) (iB : ∀ j, j < B.length → I32s (cR B j)) (hU : BackOwn W base u qs un) (hb : base ≤ W.heap.size) (hn : un.length ≤ 50)
    (L : List Int) (hL : Bytes L) (zL : L.length ≤ 8000000) (hfit : (cutC L).length ≤ 300) (hT : ∀ W', Fr (fun x => x = P ∨ u.ownBlock = some x) W W' → Laid W') :
    Calls Tryd.prog 21 #[.pointer (some ⟨P, 0, none⟩), .string (toBA L)] W fun e w' => ∃ cl' rl rr u', e = .returned (.tuple #[]) ∧ w'.heap[P]? = some (.cells (edC cl' ((cutC L).length : Int) ((300 - (cutC []).length : Nat) : Int) k u') 64 (0, 0)) ∧ GapIn P w' cl' rl rr (cutC L) (cutC []) ∧ BackAt w' u' (undoN un (toBA (textC A), toBA (textC B))) ∧ Fr (fun x => x = P ∨ u.ownBlock = some x) W w' := by
  have hl := hG.len
  have H1 := hide hG.one
  have h0 : (cutC []).length = 0 := by rfl
  have hE : toBA [] = { data := #[] } := by rfl
  have HS := hide (change_any P cl rl rr A B bh hbh k u qs un base W hP hG zA zB iA iB hU hb hn)
  have HT := hide hT
  clear hP hG hbh zA zB iA iB hU hT
  go_enter Tryd.func21, Tryd.ntmps21
  go_wp2_with fail
  refine (unhide HS).mono ?_
  rintro e w1 ⟨u1, rfl, p1, b1, F1⟩
  have HLd := hide (gapLoad_any P cl (A.length : Int) (bh : Int) k u1 w1 p1 hl (unhide H1) L [] hL (fun _ h => absurd h (List.not_mem_nil)) zL (Nat.zero_le _) (by omega) (fun W' f => (unhide HT) W' (F1.tr (f.mono (fun x hx => .inl hx)))))
  rw [hE] at HLd
  have HB1 := hide b1
  have HF1 := hide F1
  clear p1 b1 F1 HS HT H1
  go_wp2_with fail
  refine (unhide HLd).mono ?_
  rintro e w2 ⟨cl2, rl2, rr2, rfl, p2, G2, F2⟩
  have HP2 := hide p2
  have HG2 := hide G2
  have HB2 := hide ((unhide HB1) _ F2)
  have HF2 := hide ((unhide HF1).tr (F2.mono (fun x hx => .inl hx)))
  clear p2 G2 F2 HLd HB1 HF1
  go_wp2
  exact bodyPost_end (v := .tuple #[]) (by simp [results, Tryd.results21, go_sem]) rfl ⟨_, _, _, _, rfl, unhide HP2, unhide HG2, unhide HB2, unhide HF2⟩
end Go.Proofs.YtopjihagpkempaaDoor
