import Derived.Test.YtokjpnlmkecleaaGreatDoorGenEdit
import Derived.Test.YtokjpnlmkecleaaGreatDoorSpecRune2
import Derived.Test.YtokjpnlmkecleaaGreatDoorEdI
import Derived.Test.YtokjpnlmkecleaaGreatDoorCameLine
import Derived.Test.YtokjpnlmkecleaaGreatDoorHTab
namespace Go.Proofs.YtokjpnlmkecleaaGreatDoor
open Go.ChangeShapes Go.WideShapes Go.ChangeAt Go.RowKit Go.Deep

theorem tl2_monoE (t h : Nat → ByteArray) (n : Nat) : ∀ k, k ≤ n → tl2 t h k ≤ tl2 t h n := by
  have aux : ∀ m k, tl2 t h k ≤ tl2 t h (k + m) := by
    intro m
    induction m with
    | zero => intro k; exact Nat.le_refl _
    | succ m ih => intro k; have := ih k; rw [← Nat.add_assoc, tl2]; omega
  intro k hk
  have := aux (n - k) k
  rwa [show k + (n - k) = n by omega] at this
theorem tl2_eachE {t h : Nat → ByteArray} {n m : Nat} (hm : tl2 t h n ≤ m) : ∀ j, j < n → (t j).size ≤ m ∧ (h j).size ≤ m := fun j hj => by
  have h1 := tl2_monoE t h n (j + 1) (by omega)
  rw [tl2] at h1
  omega
theorem lineP_un {a b c : ByteArray} {n : Nat} {tx hf : Nat → ByteArray} : LineP a b c (unL tx hf n).length (lnT (unL tx hf n)) (lnH (unL tx hf n)) ↔ LineP a b c n tx hf := by
  unfold LineP
  rw [unL_len]
  constructor
  · rintro ⟨h1, h2, h3, h4⟩
    refine ⟨h1, h2, h3, fun j hj => ?_⟩
    have := h4 j hj
    rwa [lnT_un tx hf hj, lnH_un tx hf hj] at this
  · rintro ⟨h1, h2, h3, h4⟩
    refine ⟨h1, h2, h3, fun j hj => ?_⟩
    rw [lnT_un tx hf hj, lnH_un tx hf hj]
    exact h4 j hj
theorem lnAt_un {w : World} {v : Value} {n : Nat} {tx hf : Nat → ByteArray} (h : Row2At w v n (fun j => .string (tx j)) (fun j => .string (hf j))) : LnAt w v (unL tx hf n) := by
  unfold LnAt
  rw [unL_len]
  obtain ⟨ao, cap, e, hc, hx⟩ := h
  refine ⟨ao, cap, e, hc, fun hp => ?_⟩
  obtain ⟨b, off, e2, hcell⟩ := hx hp
  refine ⟨b, off, e2, fun j hj => ?_⟩
  show w.cell? _ = some (.string (lnT (unL tx hf n) j)) ∧ w.cell? _ = some (.string (lnH (unL tx hf n) j))
  rw [lnT_un tx hf hj, lnH_un tx hf hj]
  exact hcell j hj
/-- What a key does to a line, valid or not. -/
def edA (a b c : ByteArray) (un : List (ByteArray × ByteArray)) (kd : Int) (rs : List Int) : LD := @ite _ (LineP a b c un.length (lnT un) (lnH un)) (lineD a b c un.length (lnT un) (lnH un)) (edF a b c un kd rs) ⟨a, b, c, un, 0⟩
theorem edF_un {a b c : ByteArray} {un : List (ByteArray × ByteArray)} (hn : un.length ≤ 50) (kd : Int) (rs : List Int) : (edF a b c un kd rs).un.length ≤ 50 := by
  have hs : ∀ l r, (edSet a b c un l r).un.length ≤ 50 := fun l r => undoN_len un (a, b) hn
  have hm : ∀ n, (edMv a b c un n).un.length ≤ 50 := fun n => hn
  have hu := undoN_len un (a, b) hn
  have ht : (un.take (un.length - 1)).length ≤ 50 := by rw [List.length_take]; omega
  have key : ∀ (p : Prop) [Decidable p] (x y : LD), x.un.length ≤ 50 → y.un.length ≤ 50 → (if p then x else y).un.length ≤ 50 := by
    intro p _ x y hx hy
    by_cases h : p
    · rw [if_pos h]; exact hx
    · rw [if_neg h]; exact hy
  unfold edF edPut edBack edDel edLeft edRight edHome edEnd edWl edWr edKe edKs edKw edYank edSwap edUndo
  repeat' first | refine key _ _ _ ?_ ?_ | exact hs _ _ | exact hm _ | exact hn | exact hu | exact ht
theorem edA_un {a b c : ByteArray} {un : List (ByteArray × ByteArray)} {m : Nat} (hn : un.length ≤ m) (hm : 50 ≤ m) (kd : Int) (rs : List Int) : (edA a b c un kd rs).un.length ≤ m := by
  unfold edA
  split
  · rename_i h
    have := edF_un (a := a) (b := b) (c := c) h.1 kd rs
    omega
  · exact hn
theorem implEdit_all (a b c : ByteArray) (v : Value) (n : Nat) (tx hf : Nat → ByteArray) (kd : Int) (rv : Value) (rs : List Int) (w : World) (hv : Row2At w v n (fun j => .string (tx j)) (fun j => .string (hf j))) (ha : a.size ≤ 1048576) (hb : b.size ≤ 1048576) (hc : c.size ≤ 1048576) (hn : n ≤ 1048576) (hx : ∀ j, j < n → (tx j).size ≤ 1048576 ∧ (hf j).size ≤ 1048576) (hT : Tabs3 w) (hr : IntsAt w .i32 rv rs) (iR : I32s rs) (zR : rs.length ≤ 1048576) :
    Calls Tryz.prog 8 #[.agg #[.string a, .string b, .string c, v], .agg #[.int .i64 kd, rv]] w fun e w' => LnO w' w.heap.size (edA a b c (unL tx hf n) kd rs) e ∧ Ext w w' := by
  unfold edA
  split
  · rename_i h
    exact implEdit_yes a b c v n tx hf kd rv rs w hv ha hb hc hn hx hT hr iR zR (lineP_un.1 h)
  · rename_i h
    exact implEdit_no a b c v n tx hf kd rv w hv ha hb hc hn hx hT (fun h2 => h (lineP_un.2 h2))
theorem specEdit_all (a b c : ByteArray) (v : Value) (n : Nat) (tx hf : Nat → ByteArray) (kd : Int) (rv : Value) (rs : List Int) (w : World) (hv : Row2At w v n (fun j => .string (tx j)) (fun j => .string (hf j))) (ha : a.size ≤ 1048576) (hb : b.size ≤ 1048576) (hc : c.size ≤ 1048576) (hn : n ≤ 1048576) (hx : ∀ j, j < n → (tx j).size ≤ 1048576 ∧ (hf j).size ≤ 1048576) (hr : IntsAt w .i32 rv rs) (iR : I32s rs) :
    Calls Tryz.prog 9 #[.agg #[.string a, .string b, .string c, v], .agg #[.int .i64 kd, rv]] w fun e w' => LnO w' w.heap.size (edA a b c (unL tx hf n) kd rs) e ∧ Ext w w' := by
  have hu := lnAt_un hv
  have hx2 : ∀ j, j < (unL tx hf n).length → (lnT (unL tx hf n) j).size ≤ 1048576 ∧ (lnH (unL tx hf n) j).size ≤ 1048576 := by
    rw [unL_len]
    intro j hj
    rw [lnT_un tx hf hj, lnH_un tx hf hj]
    exact hx j hj
  obtain ⟨ra, rc, rfl, _⟩ := id hr
  unfold edA
  split
  · rename_i h
    exact specEdit_yes a b c v _ ra rs.length rc w hu ha hb hc hx2 kd rs hr iR h
  · rename_i h
    exact specEdit_no a b c v _ ra rs.length rc w hu ha hb hc (by rw [unL_len]; exact hn) hx2 kd h
set_option maxRecDepth 10000 in
set_option maxHeartbeats 1000000 in
theorem fnExactEdit_walk (a b c : ByteArray) (u : Value) (n : Nat) (tx hf : Nat → ByteArray) (kd : Int) (rs : List Int) (ra : Option Addr) (rc : Nat) (w : World) (hu : Row2At w u n (fun j => .string (tx j)) (fun j => .string (hf j))) (ha : a.size ≤ maxLen) (hb : b.size ≤ maxLen) (hc : c.size ≤ maxLen) (hn : n ≤ maxLen) (hx : ∀ j, j < n → (tx j).size ≤ maxLen ∧ (hf j).size ≤ maxLen)
    (hr : IntsAt w .i32 (.slice ra rs.length rc) rs) (iR : I32s rs) (hl : rs.length ≤ maxLen) (hT : Tabs3 w) :
    Calls Tryz.prog 4 #[.agg #[.string a, .string b, .string c, u], .agg #[.int .i64 kd, .slice ra rs.length rc]] w fun e w' => e = .returned (.bool true) ∧ Below w.heap.size w w' := by
  unfold maxLen at ha hb hc hn hx hl
  obtain ⟨ua, uc, rfl, _⟩ := id hu
  obtain ⟨o, ho⟩ : ∃ o, o = edA a b c (unL tx hf n) kd rs := ⟨_, rfl⟩
  have hN : n ≤ 1048576 → o.un.length ≤ 1048576 := fun h => by rw [ho]; exact edA_un (by rw [unL_len]; exact h) (by omega) kd rs
  refine law_Edit a b c ua n uc kd ra rs.length rc o.d w (lineK a b c n tx hf) (fun k => lineK a b c n (fun j => mtx (k + 2 * (j : Int))) (fun j => mtx (k + 2 * (j : Int) + 1))) (2 * n)
    (keyK kd rs) (fun k => keyK kd (mkI32 k rs.length)) rs.length
    (lineK o.a o.b o.c o.un.length (lnT o.un) (lnH o.un)) (fun k => lineK o.a o.b o.c o.un.length (fun j => mtx (k + 2 * (j : Int))) (fun j => mtx (k + 2 * (j : Int) + 1))) (2 * o.un.length)
    (a.size + b.size + c.size + (n + tl2 tx hf n) ≤ 1048576) (rs.length ≤ 1048576)
    ?_ ?_ ?_ ?_ ?_ ?_ ?_ ?_ ?_ ?_ ?_ ?_ ?_ ?_ ?_ ?_
  · refine hide (fun W l hW h0 h1 => (szLine_le a b c _ n tx hf l W (hu.ext hW) h0 (by omega) (by omega) (by omega) (by omega) (by omega) (fun j hj => by have := hx j hj; omega)).mono ?_)
    rintro e w' ⟨r, rfl, hr, hr2, F⟩
    exact ⟨r, rfl, hr, fun h => by have := hr2 h; omega, F⟩
  · refine hide (fun W l hW h0 h1 => (szKey_any kd ra rs.length rc l W h0 (by omega) (by omega)).mono ?_)
    rintro e w' ⟨r, rfl, hr, F⟩
    refine ⟨r, rfl, ?_, fun h => ?_, F⟩
    · rcases hr with ⟨h2, _⟩ | ⟨h2, _⟩ <;> omega
    · rcases hr with ⟨h2, _⟩ | ⟨h2, _⟩ <;> omega
  · refine hide (fun hF W hW => (toLine_any a b c _ n tx hf W (hu.ext hW) (by omega)).mono ?_)
    rintro e w' ⟨rfl, o, F⟩
    exact ⟨_, _, rfl, lineK_own (o.mono (by omega)), F⟩
  · exact hide (fun W u hu => by
      obtain ⟨a1, a2, e⟩ := lineK_shape hu
      exact ⟨_, _, _, _, _, _, e⟩)
  · exact hide (fun hF => lineK_eq a b c n tx hf (by omega))
  · exact hide (fun hF => ⟨lineK_mark a b c n tx hf (by omega), by omega⟩)
  · refine hide (fun hF W hW => (toKey_any kd _ rs W (hr.ext hW) (by omega)).mono ?_)
    rintro e w' ⟨rfl, o, F⟩
    exact ⟨_, _, rfl, keyK_own (owns_mono o (by omega)), F⟩
  · exact hide (fun W u hu => by
      obtain ⟨a1, a2, e⟩ := keyK_shape hu
      exact ⟨_, _, _, _, e⟩)
  · exact hide (fun hF => keyK_eq kd rs (by omega))
  · exact hide (fun hF => ⟨keyK_mark kd rs hF.2, by omega⟩)
  · refine hide (fun hF W u0 u1 hW h0 h1 => ?_)
    obtain ⟨v0, rfl, hv0⟩ := h0
    obtain ⟨v1, rfl, hv1⟩ := h1
    refine (specEdit_all a b c v0 n tx hf kd v1 rs W hv0 (by omega) (by omega) (by omega) (by omega) (tl2_eachE (by omega)) hv1 iR).mono ?_
    rintro e w' ⟨⟨v, rfl, o9⟩, F⟩
    rw [← ho] at o9 ⊢
    exact ⟨_, _, rfl, lineK_own o9, F⟩
  · refine hide (fun hF W u0 u1 hW h0 h1 => ?_)
    obtain ⟨v0, rfl, hv0⟩ := h0
    obtain ⟨v1, rfl, hv1⟩ := h1
    refine (implEdit_all a b c v0 n tx hf kd v1 rs W hv0 (by omega) (by omega) (by omega) (by omega) (tl2_eachE (by omega)) (hT.ext hW) hv1 iR hF.2).mono ?_
    rintro e w' ⟨⟨v, rfl, o9⟩, F⟩
    rw [← ho] at o9 ⊢
    exact ⟨_, _, rfl, lineK_own o9, F⟩
  · exact hide (fun W u hu => by
      obtain ⟨a1, a2, e⟩ := lineK_shape hu
      exact ⟨_, _, _, _, _, _, e⟩)
  · exact hide (fun hF => lineK_eq o.a o.b o.c o.un.length _ _ (by have := hN (by omega); omega))
  · exact hide (fun hF => ⟨lineK_mark o.a o.b o.c o.un.length _ _ (hN (by omega)), by have := hN (by omega); omega⟩)
  · exact hide (fun hF => lineK_held o.a o.b o.c o.un.length (hN (by omega)))
end Go.Proofs.YtokjpnlmkecleaaGreatDoor
