import Derived.Test.YtaddlkhaokdpdaaDoorAddS2
import Derived.Test.YtaddlkhaokdpdaaDoorAddS4
namespace Go.Proofs.YtaddlkhaokdpdaaDoor
open Go.RowKit
theorem specAdd_some (cap : Int) (ad : Addr) (n ca : Nat) (tx : Nat → ByteArray) (text : ByteArray) (w : World) (hv : Row1At w (.slice (some ad) n ca) n (fun j => .string (tx j))) (hn : n ≤ 1048576) (hx : ∀ j, j < n → (tx j).size ≤ 1048576) (ht : text.size ≤ 1048576) (ok : Bool) (hok : ok = true ↔ AddP cap n tx text) :
    Calls Tryd.prog 19 #[.agg #[.int .i64 cap, .slice (some ad) n ca], .string text] w fun e w' => ∃ v, e = .returned (.tuple #[.agg #[.int .i64 cap, v], .bool ok]) ∧ Own1 w' w.heap.size 9 v (addN ok cap n) (fun j => .string (addT ok cap n tx text j)) ∧ Ext w w' := by
  by_cases h1 : AddP cap n tx text
  · by_cases h2 : n = 0
    · exact specAdd_2 cap ad n ca tx text w hv hn hx ht ok hok ⟨h1, h2⟩
    · by_cases h3 : (n : Int) = cap
      · exact specAdd_4 cap ad n ca tx text w hv hn hx ht ok hok ⟨h1, h2, h3⟩
      · exact specAdd_3 cap ad n ca tx text w hv hn hx ht ok hok ⟨h1, h2, h3⟩
  · refine (specAdd_1 cap ad n ca tx text w hv hn hx ht ok hok h1).mono ?_
    rintro e w' ⟨v, rfl, ⟨o, _⟩, E⟩
    exact ⟨v, rfl, o, E⟩
end Go.Proofs.YtaddlkhaokdpdaaDoor
