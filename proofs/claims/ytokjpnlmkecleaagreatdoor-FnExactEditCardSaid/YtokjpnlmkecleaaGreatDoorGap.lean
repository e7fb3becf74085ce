import Derived.Test.YtokjpnlmkecleaaGreatDoorClsCut
import Derived.Test.YtokjpnlmkecleaaGreatDoorWhole
import Derived.Laws.CopyRow
namespace Go.Proofs.YtokjpnlmkecleaaGreatDoor
open Go.RowKit

section
variable {P : Program}
/-- copy of elements of whatever size into a block of one's own. -/
theorem run_copy_rows (w : World) (dT sT ty elem : TypeId) (sz g o dLen dCap : Nat) (a : Addr) (sLen sCap : Nat) (cur : Array Value) (t : TypeId) (cs : List Value)
    (hu : P.underlying dT = some (.slice elem)) (hs : (P.info? elem).map (·.size) = some sz)
    (hg : w.heap[g]? = some (.cells cur t (0, 0))) (hn : cs.length = Nat.min sLen dLen * sz)
    (hsrc : ∀ j v, cs[j]? = some v → w.cell? (a.add j) = some v) (hfit : o + cs.length ≤ cur.size) (h1 : ∀ v ∈ cs, v.oneCell' = true) :
    (Builtin.copy_ #[dT, sT] ty #[.slice (some ⟨g, o, none⟩) dLen dCap, .slice (some a) sLen sCap]).run P w =
      .ok (goInt (Nat.min sLen dLen)) (w.setRow g (cur.toList.take o ++ cs ++ cur.toList.drop (o + cs.length)).toArray) := by
  have hl := run_loadCells_list (P := P) w a cs hsrc
  have hst := run_storeCells_at P g o t cs 0 cur w hg (by simpa using hfit) h1
  cases hq : P.info? elem with
  | none => simp [hq] at hs
  | some i =>
    have hi : i.size = sz := by simpa [hq] using hs
    simp [Builtin.copy_, run_underlying hu, Builtin.lenOf, Builtin.firstCells, sizeOf, typeInfo, hq, hi, ← hn, hl, hst]
end
/-- A list with a piece put over a part of it. -/
def seg {α : Type} (l : List α) (o : Nat) (p : List α) : List α := l.take o ++ p ++ l.drop (o + p.length)
theorem seg_len {α : Type} (l : List α) (o : Nat) (p : List α) (h : o + p.length ≤ l.length) : (seg l o p).length = l.length := by
  unfold seg
  simp
  omega
theorem seg_at {α : Type} (l : List α) (o : Nat) (p : List α) (h : o + p.length ≤ l.length) (j : Nat) : (seg l o p)[j]? = if j < o then l[j]? else if j < o + p.length then p[j - o]? else l[j]? := by
  unfold seg
  have ho : (l.take o).length = o := by rw [List.length_take]; omega
  by_cases h1 : j < o
  · rw [if_pos h1, List.append_assoc, List.getElem?_append_left (by omega), List.getElem?_take, if_pos h1]
  · rw [if_neg h1, List.append_assoc, List.getElem?_append_right (by omega), ho]
    by_cases h2 : j < o + p.length
    · rw [if_pos h2, List.getElem?_append_left (by omega)]
    · rw [if_neg h2, List.getElem?_append_right (by omega), List.getElem?_drop]
      congr 1
      omega
/-- The cells of clusters whose runes lie in rs. -/
def clCells (rs : List Value) (cs : List (List Int × Int)) : Nat → List Value
  | 0 => []
  | k + 1 => clCells rs cs k ++ [rV rs k, .int .i64 (cW cs k)]
theorem clCells_len (rs : List Value) (cs : List (List Int × Int)) : ∀ k, (clCells rs cs k).length = k * 2
  | 0 => rfl
  | k + 1 => by rw [clCells, List.length_append, clCells_len rs cs k]; simp; omega
theorem clCells_at (rs : List Value) (cs : List (List Int × Int)) : ∀ k j, j < k → (clCells rs cs k)[j * 2]? = some (rV rs j) ∧ (clCells rs cs k)[j * 2 + 1]? = some (.int .i64 (cW cs j))
  | 0, j, h => by omega
  | k + 1, j, h => by
    have hl := clCells_len rs cs k
    rw [clCells]
    by_cases e : j = k
    · subst e
      rw [List.getElem?_append_right (by omega), List.getElem?_append_right (by omega), hl]
      simp
    · rw [List.getElem?_append_left (by omega), List.getElem?_append_left (by omega)]
      exact clCells_at rs cs k j (by omega)
/-- A row of runes that reads so whatever is written into block P. -/
def RS (P : Nat) (W : World) (v : Value) (xs : List Int) : Prop := ∀ W', Fr (fun q => q = P) W W' → IntsAt W' .i32 v xs
theorem RS.fr {P : Nat} {W W' : World} {v : Value} {xs : List Int} (h : RS P W v xs) (f : Fr (fun q => q = P) W W') : RS P W' v xs := fun _ f2 => h _ (f.tr f2)
theorem RS.now {P : Nat} {W : World} {v : Value} {xs : List Int} (h : RS P W v xs) : IntsAt W .i32 v xs := h W (Fr.refl _ _)
/-- A gap buffer of 300 places: what stands in front of the cursor, and behind it. -/
structure GapIn (P : Nat) (W : World) (cl : List Value) (rl rr : List Value) (A B : List (List Int × Int)) : Prop where
  len : cl.length = 600
  fit : A.length + B.length ≤ 300
  na : rl.length = A.length
  nb : rr.length = B.length
  la : ∀ j, j < A.length → cl[j * 2]? = some (rV rl j) ∧ cl[j * 2 + 1]? = some (.int .i64 (cW A j))
  lb : ∀ j, j < B.length → cl[(300 - B.length + j) * 2]? = some (rV rr j) ∧ cl[(300 - B.length + j) * 2 + 1]? = some (.int .i64 (cW B j))
  ra : ∀ j, j < A.length → RS P W (rV rl j) (cR A j)
  rb : ∀ j, j < B.length → RS P W (rV rr j) (cR B j)
  one : ∀ v ∈ cl, v.oneCell' = true
theorem GapIn.fr {P : Nat} {W W' : World} {cl rl rr : List Value} {A B : List (List Int × Int)} (h : GapIn P W cl rl rr A B) (f : Fr (fun q => q = P) W W') : GapIn P W' cl rl rr A B :=
  ⟨h.len, h.fit, h.na, h.nb, h.la, h.lb, fun j hj => (h.ra j hj).fr f, fun j hj => (h.rb j hj).fr f, h.one⟩
/-- The cells of an editor: the places, front and behind, kill, undo. -/
def edC (cl : List Value) (fr bh : Int) (k : ByteArray) (u : Value) : Array Value := (cl ++ [.int .i64 fr, .int .i64 bh, .string k, u]).toArray
theorem edC_at {cl : List Value} {fr bh : Int} {k : ByteArray} {u : Value} (h : cl.length = 600) : (edC cl fr bh k u)[600]? = some (.int .i64 fr) ∧ (edC cl fr bh k u)[601]? = some (.int .i64 bh) ∧ (edC cl fr bh k u)[602]? = some (.string k) ∧ (edC cl fr bh k u)[603]? = some u := by
  unfold edC
  simp [h]
theorem edC_size {cl : List Value} {fr bh : Int} {k : ByteArray} {u : Value} (h : cl.length = 600) : (edC cl fr bh k u).size = 604 := by
  unfold edC
  simp [h]
theorem edC_cl {cl : List Value} {fr bh : Int} {k : ByteArray} {u : Value} (h : cl.length = 600) (j : Nat) (hj : j < 600) : (edC cl fr bh k u)[j]? = cl[j]? := by
  unfold edC
  simp [List.getElem?_append, h, hj]
theorem edC_seg {cl p : List Value} {fr bh : Int} {k : ByteArray} {u : Value} (h : cl.length = 600) (o : Nat) (hp : o + p.length ≤ 600) : ((edC cl fr bh k u).toList.take o ++ p ++ (edC cl fr bh k u).toList.drop (o + p.length)).toArray = edC (seg cl o p) fr bh k u := by
  unfold edC seg
  rw [List.take_append_of_le_length (by omega), List.drop_append_of_le_length (by omega)]
  simp
theorem edC_front {cl : List Value} {fr bh fr' : Int} {k : ByteArray} {u : Value} (h : cl.length = 600) : (edC cl fr bh k u).setIfInBounds 600 (.int .i64 fr') = edC cl fr' bh k u := by
  unfold edC
  simp [h]
theorem edC_behind {cl : List Value} {fr bh bh' : Int} {k : ByteArray} {u : Value} (h : cl.length = 600) : (edC cl fr bh k u).setIfInBounds 601 (.int .i64 bh') = edC cl fr bh' k u := by
  unfold edC
  simp [h]
theorem rV_app (xs ys : List Value) (j : Nat) : rV (xs ++ ys) j = if j < xs.length then rV xs j else rV ys (j - xs.length) := by
  unfold rV
  by_cases h : j < xs.length
  · rw [if_pos h, List.getElem?_append_left h]
  · rw [if_neg h, List.getElem?_append_right (by omega)]
/-- Clusters put in at the cursor. -/
theorem GapIn.insert {P : Nat} {W : World} {cl rl rr rs : List Value} {A B cs : List (List Int × Int)} (h : GapIn P W cl rl rr A B) (hrs : rs.length = cs.length) (hfit : A.length + cs.length + B.length ≤ 300) (hr : ∀ j, j < cs.length → RS P W (rV rs j) (cR cs j)) (h1 : ∀ v ∈ clCells rs cs cs.length, v.oneCell' = true) :
    GapIn P W (seg cl (A.length * 2) (clCells rs cs cs.length)) (rl ++ rs) rr (A ++ cs) B := by
  have hl := h.len
  have hc := clCells_len rs cs cs.length
  have hs : A.length * 2 + (clCells rs cs cs.length).length ≤ cl.length := by omega
  refine ⟨by rw [seg_len _ _ _ hs, hl], by rw [List.length_append]; omega, by rw [List.length_append, List.length_append, h.na, hrs], h.nb, fun j hj => ?_, fun j hj => ?_, fun j hj => ?_, h.rb, fun v hv => ?_⟩
  · rw [List.length_append] at hj
    have e1 := seg_at cl (A.length * 2) (clCells rs cs cs.length) hs (j * 2)
    have e2 := seg_at cl (A.length * 2) (clCells rs cs cs.length) hs (j * 2 + 1)
    by_cases e : j < A.length
    · rw [if_pos (show j * 2 < A.length * 2 by omega)] at e1
      rw [if_pos (show j * 2 + 1 < A.length * 2 by omega)] at e2
      exact ⟨by rw [e1, rV_app, h.na, if_pos e]; exact (h.la j e).1, by rw [e2, cW_app, if_pos e]; exact (h.la j e).2⟩
    · have h2 := clCells_at rs cs cs.length (j - A.length) (by omega)
      rw [if_neg (show ¬ j * 2 < A.length * 2 by omega), if_pos (show j * 2 < A.length * 2 + (clCells rs cs cs.length).length by omega), show j * 2 - A.length * 2 = (j - A.length) * 2 by omega] at e1
      rw [if_neg (show ¬ j * 2 + 1 < A.length * 2 by omega), if_pos (show j * 2 + 1 < A.length * 2 + (clCells rs cs cs.length).length by omega), show j * 2 + 1 - A.length * 2 = (j - A.length) * 2 + 1 by omega] at e2
      exact ⟨by rw [e1, rV_app, h.na, if_neg e]; exact h2.1, by rw [e2, cW_app, if_neg e]; exact h2.2⟩
  · have e1 := seg_at cl (A.length * 2) (clCells rs cs cs.length) hs ((300 - B.length + j) * 2)
    have e2 := seg_at cl (A.length * 2) (clCells rs cs cs.length) hs ((300 - B.length + j) * 2 + 1)
    rw [if_neg (show ¬ (300 - B.length + j) * 2 < A.length * 2 by omega), if_neg (show ¬ (300 - B.length + j) * 2 < A.length * 2 + (clCells rs cs cs.length).length by omega)] at e1
    rw [if_neg (show ¬ (300 - B.length + j) * 2 + 1 < A.length * 2 by omega), if_neg (show ¬ (300 - B.length + j) * 2 + 1 < A.length * 2 + (clCells rs cs cs.length).length by omega)] at e2
    exact ⟨by rw [e1]; exact (h.lb j hj).1, by rw [e2]; exact (h.lb j hj).2⟩
  · rw [List.length_append] at hj
    rw [rV_app, cR_app, h.na]
    by_cases e : j < A.length
    · rw [if_pos e, if_pos e]
      exact h.ra j e
    · rw [if_neg e, if_neg e]
      exact hr _ (by omega)
  · unfold seg at hv
    rcases List.mem_append.1 hv with hv | hv
    · rcases List.mem_append.1 hv with hv | hv
      · exact h.one v (List.mem_of_mem_take hv)
      · exact h1 v hv
    · exact h.one v (List.mem_of_mem_drop hv)
/-- The clusters in front of the cursor, as a slice of the places. -/
theorem GapIn.left {P : Nat} {W : World} {cl rl rr : List Value} {A B : List (List Int × Int)} {fr bh : Int} {k : ByteArray} {u : Value} {T : TypeId} (h : GapIn P W cl rl rr A B) (hP : W.heap[P]? = some (.cells (edC cl fr bh k u) T (0, 0))) (c : Nat) (hc : A.length ≤ c) : ClsAt W (.slice (some ⟨P, 0, none⟩) A.length c) A := by
  refine ⟨rl, _, c, rfl, hc, fun j hj => (h.ra j hj).now, fun _ => ⟨P, 0, rfl, fun j hj => ?_⟩⟩
  have hl := h.len
  have hf := h.fit
  have h1 := h.la j hj
  rw [cell_of_row W P _ _ _ _ hP, cell_of_row W P _ _ _ _ hP, Nat.zero_add, edC_cl hl _ (by omega), edC_cl hl _ (by omega)]
  exact h1
/-- The clusters behind the cursor. -/
theorem GapIn.right {P : Nat} {W : World} {cl rl rr : List Value} {A B : List (List Int × Int)} {fr bh : Int} {k : ByteArray} {u : Value} {T : TypeId} (h : GapIn P W cl rl rr A B) (hP : W.heap[P]? = some (.cells (edC cl fr bh k u) T (0, 0))) (c : Nat) (hc : B.length ≤ c) : ClsAt W (.slice (some ⟨P, (300 - B.length) * 2, none⟩) B.length c) B := by
  refine ⟨rr, _, c, rfl, hc, fun j hj => (h.rb j hj).now, fun _ => ⟨P, (300 - B.length) * 2, rfl, fun j hj => ?_⟩⟩
  have hl := h.len
  have hf := h.fit
  have h1 := h.lb j hj
  rw [cell_of_row W P _ _ _ _ hP, cell_of_row W P _ _ _ _ hP, ← Nat.add_mul, edC_cl hl _ (by omega), edC_cl hl _ (by omega)]
  exact h1
end Go.Proofs.YtokjpnlmkecleaaGreatDoor
