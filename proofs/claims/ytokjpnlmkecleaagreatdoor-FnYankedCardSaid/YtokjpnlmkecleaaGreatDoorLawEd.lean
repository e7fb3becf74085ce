import Derived.Test.YtokjpnlmkecleaaGreatDoorGenEdit
import Derived.Test.YtokjpnlmkecleaaGreatDoorKys
import Derived.Test.YtokjpnlmkecleaaGreatDoorEdI
import Derived.Test.YtokjpnlmkecleaaGreatDoorCameLine
import Derived.Test.YtokjpnlmkecleaaGreatDoorHTab
namespace Go.Proofs.YtokjpnlmkecleaaGreatDoor
open Go.ChangeShapes Go.WideShapes Go.ChangeAt Go.RowKit Go.Deep
theorem lineP_un {a b c : ByteArray} {n : Nat} {tx hf : Nat → ByteArray} : LineP a b c (unL tx hf n).length (lnT (unL tx hf n)) (lnH (unL tx hf n)) ↔ LineP a b c n tx hf := by
  unfold LineP
  rw [unL_len]
  constructor
  · rintro ⟨h1, h2, h3, h4⟩
    refine ⟨h1, h2, h3, fun j hj => ?_⟩
    have := h4 j hj
    rwa [lnT_un tx hf hj, lnH_un tx hf hj] at this
  · rintro ⟨h1, h2, h3, h4⟩
    refine ⟨h1, h2, h3, fun j hj => ?_⟩
    rw [lnT_un tx hf hj, lnH_un tx hf hj]
    exact h4 j hj
theorem lnAt_un {w : World} {v : Value} {n : Nat} {tx hf : Nat → ByteArray} (h : Row2At w v n (fun j => .string (tx j)) (fun j => .string (hf j))) : LnAt w v (unL tx hf n) := by
  unfold LnAt
  rw [unL_len]
  obtain ⟨ao, cap, e, hc, hx⟩ := h
  refine ⟨ao, cap, e, hc, fun hp => ?_⟩
  obtain ⟨b, off, e2, hcell⟩ := hx hp
  refine ⟨b, off, e2, fun j hj => ?_⟩
  show w.cell? _ = some (.string (lnT (unL tx hf n) j)) ∧ w.cell? _ = some (.string (lnH (unL tx hf n) j))
  rw [lnT_un tx hf hj, lnH_un tx hf hj]
  exact hcell j hj
def edA (a b c : ByteArray) (un : List (ByteArray × ByteArray)) (kd : Int) (rs : List Int) : LD := @ite _ (LineP a b c un.length (lnT un) (lnH un)) (lineD a b c un.length (lnT un) (lnH un)) (edF a b c un kd rs) ⟨a, b, c, un, 0⟩
theorem implEdit_all (a b c : ByteArray) (v : Value) (n : Nat) (tx hf : Nat → ByteArray) (kd : Int) (rv : Value) (rs : List Int) (w : World) (hv : Row2At w v n (fun j => .string (tx j)) (fun j => .string (hf j))) (ha : a.size ≤ 1048576) (hb : b.size ≤ 1048576) (hc : c.size ≤ 1048576) (hn : n ≤ 1048576) (hx : ∀ j, j < n → (tx j).size ≤ 1048576 ∧ (hf j).size ≤ 1048576) (hT : Tabs3 w) (hr : IntsAt w .i32 rv rs) (iR : I32s rs) (zR : rs.length ≤ 1048576) :
    Calls Tryz.prog 8 #[.agg #[.string a, .string b, .string c, v], .agg #[.int .i64 kd, rv]] w fun e w' => LnO w' w.heap.size (edA a b c (unL tx hf n) kd rs) e ∧ Ext w w' := by
  unfold edA
  split
  · rename_i h
    exact implEdit_yes a b c v n tx hf kd rv rs w hv ha hb hc hn hx hT hr iR zR (lineP_un.1 h)
  · rename_i h
    exact implEdit_no a b c v n tx hf kd rv w hv ha hb hc hn hx hT (fun h2 => h (lineP_un.2 h2))
theorem specEdit_all (a b c : ByteArray) (v : Value) (n : Nat) (tx hf : Nat → ByteArray) (kd : Int) (rv : Value) (rs : List Int) (w : World) (hv : Row2At w v n (fun j => .string (tx j)) (fun j => .string (hf j))) (ha : a.size ≤ 1048576) (hb : b.size ≤ 1048576) (hc : c.size ≤ 1048576) (hn : n ≤ 1048576) (hx : ∀ j, j < n → (tx j).size ≤ 1048576 ∧ (hf j).size ≤ 1048576) (hr : IntsAt w .i32 rv rs) (iR : I32s rs) :
    Calls Tryz.prog 9 #[.agg #[.string a, .string b, .string c, v], .agg #[.int .i64 kd, rv]] w fun e w' => LnO w' w.heap.size (edA a b c (unL tx hf n) kd rs) e ∧ Ext w w' := by
  have hu := lnAt_un hv
  have hx2 : ∀ j, j < (unL tx hf n).length → (lnT (unL tx hf n) j).size ≤ 1048576 ∧ (lnH (unL tx hf n) j).size ≤ 1048576 := by
    rw [unL_len]
    intro j hj
    rw [lnT_un tx hf hj, lnH_un tx hf hj]
    exact hx j hj
  obtain ⟨ra, rc, rfl, _⟩ := id hr
  unfold edA
  split
  · rename_i h
    exact specEdit_yes a b c v _ ra rs.length rc w hu ha hb hc hx2 kd rs hr iR h
  · rename_i h
    exact specEdit_no a b c v _ ra rs.length rc w hu ha hb hc (by rw [unL_len]; exact hn) hx2 kd h
end Go.Proofs.YtokjpnlmkecleaaGreatDoor
