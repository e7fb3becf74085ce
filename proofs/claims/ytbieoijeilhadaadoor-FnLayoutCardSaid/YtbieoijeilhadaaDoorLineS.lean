import Derived.Test.YtbieoijeilhadaaDoorItemOk
import Derived.Test.YtbieoijeilhadaaDoorKys
import Derived.Test.YtbieoijeilhadaaDoorGap
import Derived.Deep.RegionHeldLaw
namespace Go.Proofs.YtbieoijeilhadaaDoor
open Go.RowKit
def snT (a c : ByteArray) (tx : Nat → ByteArray) : Nat → ByteArray
  | 0 => a
  | 1 => c
  | j + 2 => tx j
def snH (b : ByteArray) (hf : Nat → ByteArray) : Nat → ByteArray
  | 0 => b
  | 1 => noT
  | j + 2 => hf j
theorem lineP_iff (a b c : ByteArray) (n : Nat) (tx hf : Nat → ByteArray) : LineP a b c n tx hf ↔ n ≤ 50 ∧ ∀ j, j < n + 2 → SnapP (baL (snT a c tx j)) (baL (snH b hf j)) := by
  unfold LineP
  constructor
  · rintro ⟨h1, h2, h3, h4⟩
    refine ⟨h1, fun j hj => ?_⟩
    match j, hj with
    | 0, _ => exact h2
    | 1, _ => exact (TextP_snap _).1 h3
    | j + 2, hj => exact h4 j (by omega)
  · rintro ⟨h1, h2⟩
    exact ⟨h1, h2 0 (by omega), (TextP_snap _).2 (h2 1 (by omega)), fun j hj => h2 (j + 2) (by omega)⟩
theorem l4TextOk_ba (a : ByteArray) (w : World) (hla : a.size ≤ 1048576) (ok : Bool) (hok : ok = true ↔ TextP (baL a)) :
    Calls Tryd.prog 122 #[.string a, .int .i64 300] w fun e w' => e = .returned (.bool ok) ∧ Ext w w' := by
  have h := l4TextOk_any (baL a) (baL_bytes a) w (by rw [baL_len]; omega) ok (by
    rw [hok]
    unfold TextP
    constructor
    · rintro ⟨h1, h2⟩
      have := settled_short _ h1
      exact ⟨by omega, h2, h1⟩
    · rintro ⟨_, h1, h2⟩
      exact ⟨h2, h1⟩)
  rwa [toBA_baL] at h
theorem l4Count_ba (a : ByteArray) (w : World) (hla : a.size ≤ 1048576) :
    Calls Tryd.prog 129 #[.string a] w fun e w' => e = .returned (.int .i64 ((cleanL (baL a)).length : Int)) ∧ Ext w w' := by
  have h := l4Count_any (baL a) (baL_bytes a) w (by rw [baL_len]; omega)
  rwa [toBA_baL] at h
theorem snT_size {a c : ByteArray} {tx : Nat → ByteArray} {n : Nat} (ha : a.size ≤ 1048576) (hc : c.size ≤ 1048576) (hx : ∀ j, j < n → (tx j).size ≤ 1048576) : ∀ j, j < n + 2 → (snT a c tx j).size ≤ 1048576
  | 0, _ => ha
  | 1, _ => hc
  | j + 2, hj => hx j (by omega)
theorem snH_size {b : ByteArray} {hf : Nat → ByteArray} {n : Nat} (hb : b.size ≤ 1048576) (hx : ∀ j, j < n → (hf j).size ≤ 1048576) : ∀ j, j < n + 2 → (snH b hf j).size ≤ 1048576
  | 0, _ => hb
  | 1, _ => by show noT.size ≤ _; decide
  | j + 2, hj => hx j (by omega)
theorem owns_new (w : World) (cs : Array Value) (t : TypeId) (n size base : Nat) (hb : base ≤ w.heap.size) (hs : cs.size = n * size) (hn : n ≤ maxLen) : (w.alloc (.cells cs t)).ownsRow base t size (.slice (some ⟨w.heap.size, 0, none⟩) n n) n cs.toList :=
  ⟨by simpa using hs, .inr ⟨w.heap.size, n, cs, rfl, hb, new_block w _, Nat.le_refl _, hn, hs, by rw [← hs, ← Array.length_toList, List.take_length]⟩⟩
theorem sn_own {w : World} {a b c : ByteArray} {n : Nat} {tx hf : Nat → ByteArray} {base : Nat} {v : Value} {T : TypeId}
    (h : w.ownsRow base T 2 v (2 + n) ([.string a, .string b, .string c, .string noT] ++ pairsL (fun j => .string (tx j)) (fun j => .string (hf j)) n)) :
    Own2 w base T v (2 + n) (fun j => .string (snT a c tx j)) (fun j => .string (snH b hf j)) := by
  refine ⟨_, h, fun j hj => ?_⟩
  match j, hj with
  | 0, _ => exact ⟨rfl, rfl⟩
  | 1, _ => exact ⟨rfl, rfl⟩
  | j + 2, hj =>
    obtain ⟨h1, h2⟩ := pairsL_at (fun j => .string (tx j)) (fun j => .string (hf j)) n j (by omega)
    constructor
    · rw [List.getElem?_append_right (by simp; omega)]
      have e : (j + 2) * 2 - 4 = j * 2 := by omega
      simpa [e, snT] using h1
    · rw [List.getElem?_append_right (by simp; omega)]
      have e : (j + 2) * 2 + 1 - 4 = j * 2 + 1 := by omega
      simpa [e, snH] using h2
end Go.Proofs.YtbieoijeilhadaaDoor
