import Derived.Test.YtlnmpbdnmlpkiaaDoorL4Text
import Derived.Test.YtlnmpbdnmlpkiaaDoorDrawM
import Derived.Test.YtlnmpbdnmlpkiaaDoorRows12
import Derived.Test.YtlnmpbdnmlpkiaaDoorWhole
import Derived.Laws.EntriesVeiled
namespace Go.Proofs.YtlnmpbdnmlpkiaaDoor
open Go.RowKit

set_option maxRecDepth 10000 in
set_option maxHeartbeats 1000000 in
theorem indexFunc_clo (v : Value) (n : Nat) (tx : Nat → ByteArray) (p : Nat → Bool) (q : Addr) (w : World) (hv : Row1At w v n (fun j => .string (tx j))) (hn : n ≤ 1099511627776)
    (hp : ∀ j, j < n → ∀ W, Ext w W → Calls Tryd.prog 187 #[.string (tx j), .pointer (some q)] W fun e W' => e = .returned (.bool (p j)) ∧ Ext W W') :
    Calls Tryd.prog 161 #[v, .func (.func 187) #[] #[.pointer (some q)]] w fun e w' => ∃ r : Int, e = .returned (.int .i64 r) ∧ (0 ≤ r ↔ ∃ j, j < n ∧ p j = true) ∧ Ext w w' := by
  obtain ⟨ao, ca, rfl, hca, hxa⟩ := hv
  have HX := hide hxa
  have HP := hide hp
  clear hxa hp
  go_enter Tryd.func161, Tryd.ntmps161
  go_wp2
  go_loopw [8] (fun i wr => ∃ k : Nat, k ≤ n ∧ i = .int .i64 k ∧ Hid (∀ j, j < k → p j = false) ∧ Ext w wr) (fun i _ => n - (intOf i).toNat)
  case atStart => exact ⟨0, Nat.zero_le _, rfl, hide (fun j hj => by omega), Ext.refl _⟩
  case round =>
    obtain ⟨k, hk, rfl, HJ, hext⟩ := hrel
    by_cases hlt : k < n
    · obtain ⟨b, off, hao, hc⟩ := (unhide HX) (by omega)
      subst hao
      have g1 := hext.cell (hc k hlt)
      have bk : (k : Int) < (n : Int) := by omega
      have hcon := hide ((unhide HP) k hlt wr hext)
      clear hc
      go_wp2_with fail
      refine (unhide hcon).mono ?_
      rintro e w2 ⟨rfl, F2⟩
      cases hb : p k with
      | true =>
        have hfin : Hid ((0 : Int) ≤ (k : Int) ↔ ∃ j, j < n ∧ p j = true) := hide ⟨fun _ => ⟨k, hlt, hb⟩, fun _ => by omega⟩
        go_wp2
        go_ret
        exact ⟨_, rfl, unhide hfin, hext.trans F2⟩
      | false =>
        have HJ2 : Hid (∀ j, j < k + 1 → p j = false) := hide (fun j hj => by
          by_cases e : j = k
          · subst e; exact hb
          · exact (unhide HJ) j (by omega))
        have hE := hext.trans F2
        go_wp2
        go_roundw
        case rel => exact ⟨k + 1, by omega, by go_num, HJ2, hE⟩
        case measure => simp [intOf]; omega
    · obtain rfl : k = n := by omega
      have hfin : Hid ((0 : Int) ≤ -1 ↔ ∃ j, j < k ∧ p j = true) := hide ⟨fun h => by omega, fun ⟨j, h1, h2⟩ => by rw [(unhide HJ) j h1] at h2; cases h2⟩
      go_wp2
      go_ret
      exact ⟨_, rfl, unhide hfin, hext⟩
set_option maxRecDepth 10000 in
set_option maxHeartbeats 1000000 in
theorem containsFunc_clo (v : Value) (n : Nat) (tx : Nat → ByteArray) (p : Nat → Bool) (q : Addr) (w : World) (hv : Row1At w v n (fun j => .string (tx j))) (hn : n ≤ 1099511627776)
    (hp : ∀ j, j < n → ∀ W, Ext w W → Calls Tryd.prog 187 #[.string (tx j), .pointer (some q)] W fun e W' => e = .returned (.bool (p j)) ∧ Ext W W') (ok : Bool) (hok : ok = true ↔ ∃ j, j < n ∧ p j = true) :
    Calls Tryd.prog 114 #[v, .func (.func 187) #[] #[.pointer (some q)]] w fun e w' => e = .returned (.bool ok) ∧ Ext w w' := by
  have hcon := hide (indexFunc_clo v n tx p q w hv hn hp)
  obtain ⟨ao, ca, rfl, hca, hxa⟩ := hv
  have HK := hide hok
  clear hxa hp hok
  go_enter Tryd.func114, Tryd.ntmps114
  go_wp2_with fail
  refine (unhide hcon).mono ?_
  rintro e w1 ⟨r, rfl, hr, F1⟩
  have hfin : Hid (decide ((0 : Int) ≤ r) = ok) := hide (by rw [Bool.eq_iff_iff, decide_eq_true_iff, hr, ← unhide HK])
  clear hr
  go_wp2
  go_ret
  exact ⟨ret_bool (unhide hfin), F1⟩
set_option maxRecDepth 10000 in
set_option maxHeartbeats 1000000 in
theorem indexFunc_spc (v : Value) (n : Nat) (tx : Nat → ByteArray) (p : Nat → Bool) (w : World) (hv : Row1At w v n (fun j => .string (tx j))) (hn : n ≤ 1099511627776)
    (hp : ∀ j, j < n → ∀ W, Ext w W → Calls Tryd.prog 115 #[.string (tx j)] W fun e W' => e = .returned (.bool (p j)) ∧ Ext W W') :
    Calls Tryd.prog 161 #[v, .func (.func 115) #[] #[]] w fun e w' => ∃ r : Int, e = .returned (.int .i64 r) ∧ (0 ≤ r ↔ ∃ j, j < n ∧ p j = true) ∧ Ext w w' := by
  obtain ⟨ao, ca, rfl, hca, hxa⟩ := hv
  have HX := hide hxa
  have HP := hide hp
  clear hxa hp
  go_enter Tryd.func161, Tryd.ntmps161
  go_wp2
  go_loopw [8] (fun i wr => ∃ k : Nat, k ≤ n ∧ i = .int .i64 k ∧ Hid (∀ j, j < k → p j = false) ∧ Ext w wr) (fun i _ => n - (intOf i).toNat)
  case atStart => exact ⟨0, Nat.zero_le _, rfl, hide (fun j hj => by omega), Ext.refl _⟩
  case round =>
    obtain ⟨k, hk, rfl, HJ, hext⟩ := hrel
    by_cases hlt : k < n
    · obtain ⟨b, off, hao, hc⟩ := (unhide HX) (by omega)
      subst hao
      have g1 := hext.cell (hc k hlt)
      have bk : (k : Int) < (n : Int) := by omega
      have hcon := hide ((unhide HP) k hlt wr hext)
      clear hc
      go_wp2_with fail
      refine (unhide hcon).mono ?_
      rintro e w2 ⟨rfl, F2⟩
      cases hb : p k with
      | true =>
        have hfin : Hid ((0 : Int) ≤ (k : Int) ↔ ∃ j, j < n ∧ p j = true) := hide ⟨fun _ => ⟨k, hlt, hb⟩, fun _ => by omega⟩
        go_wp2
        go_ret
        exact ⟨_, rfl, unhide hfin, hext.trans F2⟩
      | false =>
        have HJ2 : Hid (∀ j, j < k + 1 → p j = false) := hide (fun j hj => by
          by_cases e : j = k
          · subst e; exact hb
          · exact (unhide HJ) j (by omega))
        have hE := hext.trans F2
        go_wp2
        go_roundw
        case rel => exact ⟨k + 1, by omega, by go_num, HJ2, hE⟩
        case measure => simp [intOf]; omega
    · obtain rfl : k = n := by omega
      have hfin : Hid ((0 : Int) ≤ -1 ↔ ∃ j, j < k ∧ p j = true) := hide ⟨fun h => by omega, fun ⟨j, h1, h2⟩ => by rw [(unhide HJ) j h1] at h2; cases h2⟩
      go_wp2
      go_ret
      exact ⟨_, rfl, unhide hfin, hext⟩
set_option maxRecDepth 10000 in
set_option maxHeartbeats 1000000 in
theorem containsFunc_spc (v : Value) (n : Nat) (tx : Nat → ByteArray) (p : Nat → Bool) (w : World) (hv : Row1At w v n (fun j => .string (tx j))) (hn : n ≤ 1099511627776)
    (hp : ∀ j, j < n → ∀ W, Ext w W → Calls Tryd.prog 115 #[.string (tx j)] W fun e W' => e = .returned (.bool (p j)) ∧ Ext W W') (ok : Bool) (hok : ok = true ↔ ∃ j, j < n ∧ p j = true) :
    Calls Tryd.prog 114 #[v, .func (.func 115) #[] #[]] w fun e w' => e = .returned (.bool ok) ∧ Ext w w' := by
  have hcon := hide (indexFunc_spc v n tx p w hv hn hp)
  obtain ⟨ao, ca, rfl, hca, hxa⟩ := hv
  have HK := hide hok
  clear hxa hp hok
  go_enter Tryd.func114, Tryd.ntmps114
  go_wp2_with fail
  refine (unhide hcon).mono ?_
  rintro e w1 ⟨r, rfl, hr, F1⟩
  have hfin : Hid (decide ((0 : Int) ≤ r) = ok) := hide (by rw [Bool.eq_iff_iff, decide_eq_true_iff, hr, ← unhide HK])
  clear hr
  go_wp2
  go_ret
  exact ⟨ret_bool (unhide hfin), F1⟩
end Go.Proofs.YtlnmpbdnmlpkiaaDoor
