import Derived.Test.YtdmkcpkmeokjiaaDoorAddS1
import Derived.Test.YtdmkcpkmeokjiaaDoorAddS2
import Derived.Test.YtdmkcpkmeokjiaaDoorAddS3
import Derived.Test.YtdmkcpkmeokjiaaDoorAddS4
import Derived.Test.YtdmkcpkmeokjiaaDoorTabs
namespace Go.Proofs.YtdmkcpkmeokjiaaDoor
open Go.RowKit

theorem specAdd_some (cap : Int) (ad : Addr) (n ca : Nat) (tx : Nat → ByteArray) (text : ByteArray) (w : World) (hv : Row1At w (.slice (some ad) n ca) n (fun j => .string (tx j))) (hn : n ≤ 1048576) (hx : ∀ j, j < n → (tx j).size ≤ 1048576) (ht : text.size ≤ 1048576) (ok : Bool) (hok : ok = true ↔ AddP cap n tx text) :
    Calls Tryd.prog 5 #[.agg #[.int .i64 cap, .slice (some ad) n ca], .string text] w fun e w' => ∃ v, e = .returned (.tuple #[.agg #[.int .i64 cap, v], .bool ok]) ∧ Own1 w' w.heap.size 9 v (addN ok cap n) (fun j => .string (addT ok cap n tx text j)) ∧ Ext w w' := by
  by_cases h1 : AddP cap n tx text
  · by_cases h2 : n = 0
    · exact specAdd_2 cap ad n ca tx text w hv hn hx ht ok hok ⟨h1, h2⟩
    · by_cases h3 : (n : Int) = cap
      · exact specAdd_4 cap ad n ca tx text w hv hn hx ht ok hok ⟨h1, h2, h3⟩
      · exact specAdd_3 cap ad n ca tx text w hv hn hx ht ok hok ⟨h1, h2, h3⟩
  · refine (specAdd_1 cap ad n ca tx text w hv hn hx ht ok hok h1).mono ?_
    rintro e w' ⟨v, rfl, ⟨o, _⟩, E⟩
    exact ⟨v, rfl, o, E⟩
theorem addN_pos {cap : Int} {n : Nat} {tx : Nat → ByteArray} {text : ByteArray} (h : AddP cap n tx text) : 1 ≤ addN true cap n := by
  have h1 := h.1.1
  unfold addN
  simp only [if_true]
  split <;> omega
/-- What Add of the specification gives is never nil. -/
theorem specAdd_nn (cap : Int) (ad : Addr) (n ca : Nat) (tx : Nat → ByteArray) (text : ByteArray) (w : World) (hv : Row1At w (.slice (some ad) n ca) n (fun j => .string (tx j))) (hn : n ≤ 1048576) (hx : ∀ j, j < n → (tx j).size ≤ 1048576) (ht : text.size ≤ 1048576) (ok : Bool) (hok : ok = true ↔ AddP cap n tx text) :
    Calls Tryd.prog 5 #[.agg #[.int .i64 cap, .slice (some ad) n ca], .string text] w fun e w' => ∃ g c, e = .returned (.tuple #[.agg #[.int .i64 cap, .slice (some ⟨g, 0, none⟩) (addN ok cap n) c], .bool ok]) ∧ Own1 w' w.heap.size 9 (.slice (some ⟨g, 0, none⟩) (addN ok cap n) c) (addN ok cap n) (fun j => .string (addT ok cap n tx text j)) ∧ Ext w w' := by
  by_cases h1 : AddP cap n tx text
  · refine (specAdd_some cap ad n ca tx text w hv hn hx ht ok hok).mono ?_
    rintro e w' ⟨v, rfl, o, E⟩
    have h2 := addN_pos h1
    obtain rfl : ok = true := hok.2 h1
    rcases o.form with ⟨_, h3⟩ | ⟨g, c, rfl⟩
    · omega
    · exact ⟨g, c, rfl, o, E⟩
  · refine (specAdd_1 cap ad n ca tx text w hv hn hx ht ok hok h1).mono ?_
    rintro e w' ⟨v, rfl, ⟨o, g, c, rfl⟩, E⟩
    exact ⟨g, c, rfl, o, E⟩
end Go.Proofs.YtdmkcpkmeokjiaaDoor

namespace Go.Proofs.YtdmkcpkmeokjiaaDoor
open Go.RowKit

theorem byte_nat {bs : List Int} (hB : Bytes bs) (p : Nat) : ∃ x : Nat, at0 bs p = (x : Int) ∧ x ≤ 255 := ⟨(at0 bs p).toNat, by have := hB.at0 p; omega, by have := hB.at0 p; omega⟩
set_option maxRecDepth 10000 in
set_option maxHeartbeats 1000000 in
theorem l5Item_any (D : Nat) (v : Value) (bs : List Int) (p : Nat) (w : World) (h : RdAt w D v bs p) (hB : Bytes bs) (hl : bs.length ≤ 16777216) :
    Calls Tryd.prog 13 #[.pointer (some ⟨D, 0, none⟩)] w fun e w' => ∃ t p', e = .returned (.string t) ∧ t.size ≤ 400 ∧ RdAt w' D v bs p' ∧ Fr (fun k => k = D) w w' := by
  obtain ⟨x, hx, hx2⟩ := byte_nat hB p
  have HN := hide (next_any D v bs p w h hB hl)
  rw [hx] at HN
  clear h hx
  go_enter Tryd.func13, Tryd.ntmps13
  go_wp2_with fail
  refine (unhide HN).mono ?_
  rintro e w1 ⟨rfl, r1, f1⟩
  clear HN
  by_cases h15 : x % 16 = 15
  · obtain ⟨m, hm⟩ : ∃ m, m = 1 + x / 16 := ⟨_, rfl⟩
    have hm17 : m ≤ 17 := by omega
    have HL := hide (l1Bytes_rd D v bs _ m w1 r1 hB hl (by omega))
    have hw1 : IntKind.i64.wrap (1 + (x : Int) / 16) = (m : Int) := by rw [IntKind.wrap_i64]; omega
    have hq : (x : Int) % 16 = 15 := by omega
    have hF1 := hide f1
    clear r1 f1 hm
    go_wp2_with fail
    refine (unhide HL).mono ?_
    rintro e w2 ⟨v', zs, rfl, ⟨o2, hzb, hzl⟩, ⟨p2, r2⟩, f2⟩
    have hcv := run_b2s (P := Tryd.prog) w2 _ _ _ Tryd.underlying22 Tryd.underlying5 Tryd.underlying9 _ _ (ints_of_owns o2)
    have HR2 := hide r2
    have HF2 := hide ((unhide hF1).tr f2)
    clear o2 r2 f2 HL
    go_wp2_with fail
    refine (specSettle_any zs hzb w2 (by omega)).mono ?_
    rintro e w3 ⟨rfl, E3⟩
    have hsz := settleL_len zs
    clear hcv
    go_wp2
    go_ret
    exact ⟨_, _, rfl, by rw [toBA_size]; omega, (unhide HR2).ext E3, (unhide HF2).tr (Fr.of_ext E3)⟩
  · have hq : ¬ (x : Int) % 16 = 15 := by omega
    have hw3 : IntKind.i64.wrap (3 + (x : Int) % 12) = ((3 + x % 12 : Nat) : Int) := by rw [IntKind.wrap_i64]; omega
    have hle : ((3 + x % 12 : Nat) : Int) ≤ 20 := by omega
    have h0 : (0 : Int) ≤ ((3 + x % 12 : Nat) : Int) := by omega
    have HR := hide r1
    have HF := hide f1
    clear r1 f1
    go_wp2
    go_ret
    refine ⟨_, _, rfl, ?_, unhide HR, unhide HF⟩
    rw [ByteArray.size_extract]
    have : ({ data := #[111, 110, 101, 32, 116, 119, 111, 32, 116, 104, 114, 101, 101, 32, 97, 98, 99, 228, 184, 150] } : ByteArray).size = 20 := rfl
    omega
end Go.Proofs.YtdmkcpkmeokjiaaDoor
