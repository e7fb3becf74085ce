import Derived.Test.YtbieoijeilhadaaDoorRd
import Derived.Test.YtbieoijeilhadaaDoorStk
import Derived.Test.YtbieoijeilhadaaDoorGap
namespace Go.Proofs.YtbieoijeilhadaaDoor
open Go.RowKit
theorem Fr.upon {S : Nat → Prop} {b : Nat} {w w1 w2 : World} (h2 : Fr (fun q => q = b) w1 w2) (h1 : Fr S w w1) (hb : ∀ q, q = b → w.heap.size ≤ q) : Fr S w w2 :=
  ⟨h2.os.trans h1.os, h2.tape.trans h1.tape, h2.output.trans h1.output, Nat.le_trans h1.size h2.size, fun q hq hn => (h2.block q (Nat.lt_of_lt_of_le hq h1.size) (fun e => by have := hb q e; omega)).trans (h1.block q hq hn)⟩
theorem ReadKeys_nil (v : Value) (bs : List Int) (w : World) (hv : IntsAt w .u8 v bs) (hB : Bytes bs) (hl : bs.length ≤ 8000000) :
    Calls Tryd.prog 7 #[.agg #[.slice none 0 0, .bool false], v] w fun e w' => (∃ (ha : Option Addr) (hn hc : Nat) (kv : Value) (rs : List Value) (q : Bool), e = .returned (.tuple #[.agg #[.slice ha hn hc, .bool q], kv]) ∧ OwnKys w' w.heap.size kv rs (rk bs false).1) ∧ Ext w w' := by
  have h0 : IntsAt w .u8 (.slice none 0 0) [] := ⟨none, 0, rfl, Nat.le_refl _, fun h => by simp at h⟩
  have h := specReadKeys_any none 0 [] bs false v w h0 hv (fun n hn => by simp at hn) hB (by simpa using hl)
  rw [List.nil_append] at h
  refine Calls.mono h ?_
  rintro e w' ⟨⟨hv, kv, rs, rfl, oh, o⟩, E⟩
  obtain ⟨ha, hc, rfl⟩ : ∃ a c, hv = .slice a (bs.drop (rk bs false).2.1).length c := by
    rcases oh.2 with ⟨e, h0⟩ | ⟨g, cap9, cur, e, _⟩
    · exact ⟨none, 0, by rw [h0]; exact e⟩
    · exact ⟨_, _, e⟩
  exact ⟨⟨ha, _, hc, kv, rs, _, rfl, o⟩, E⟩
end Go.Proofs.YtbieoijeilhadaaDoor
