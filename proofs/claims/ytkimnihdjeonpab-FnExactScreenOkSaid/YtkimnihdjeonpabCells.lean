import Derived.Test.YtkimnihdjeonpabUtf
import Derived.Test.YtkimnihdjeonpabProg
import Derived.Test.YtkimnihdjeonpabRows12
import Derived.Deep.RegionHeld3
namespace Go.Proofs.Ytkimnihdjeonpab
open Go.RowKit
set_option maxHeartbeats 1000000 in
theorem eqCell_same (s : ByteArray) (h : Bool) (w : World) : Calls Try.prog 70 #[.agg #[.string s, .bool h], .agg #[.string s, .bool h]] w fun e w' => e = .returned (.bool true) ∧ Ext w w' := by
  go_enter Try.func70, Try.ntmps70
  go_wp2
  go_ret
  exact ⟨rfl, ((Ext.refl _).alloc _).alloc _⟩
set_option maxHeartbeats 1000000 in
theorem eqCellS_same (va vb : Value) (n : Nat) (tx : Nat → ByteArray) (hf : Nat → Bool) (w : World) (ha : Row2At w va n (fun j => .string (tx j)) (fun j => .bool (hf j))) (hb : Row2At w vb n (fun j => .string (tx j)) (fun j => .bool (hf j))) (hl : n ≤ 4398046511104) :
    Calls Try.prog 62 #[va, vb] w fun e w' => e = .returned (.bool true) ∧ Ext w w' := by
  obtain ⟨ao, ca, rfl, hca, hxa⟩ := ha
  obtain ⟨bo, cb, rfl, hcb, hxb⟩ := hb
  by_cases h0 : n = 0
  · subst h0
    clear hxa hxb
    go_enter Try.func62, Try.ntmps62
    go_wp2
    go_loop [5] (fun i => i = .int .i64 0) (fun _ => 0)
    case atStart => rfl
    case round =>
      subst hrel
      go_wp2
      go_ret
      exact ⟨rfl, Ext.refl _⟩
  · obtain ⟨b1, o1, rfl, h1⟩ := hxa (by omega)
    obtain ⟨b2, o2, rfl, h2⟩ := hxb (by omega)
    clear hxa hxb
    have H1 := hide h1
    have H2 := hide h2
    clear h1 h2
    go_enter Try.func62, Try.ntmps62
    go_wp2
    go_loopw [5] (fun i w' => ∃ k : Nat, k ≤ n ∧ i = .int .i64 k ∧ Ext w w') (fun i _ => n - (intOf i).toNat)
    case atStart => exact ⟨0, Nat.zero_le _, rfl, Ext.refl _⟩
    case round =>
      obtain ⟨k, hk, rfl, hext⟩ := hrel
      by_cases hlt : k < n
      · have g1 := hext.cell ((unhide H1) k hlt).1
        have g2 := hext.cell ((unhide H1) k hlt).2
        have g3 := hext.cell ((unhide H2) k hlt).1
        have g4 := hext.cell ((unhide H2) k hlt).2
        have bk : (k : Int) < (n : Int) := by omega
        go_wp2
        go_region_held3 (fun W => Ext wr W ∧ W.cell? ⟨b1, o1 + k * 2, none⟩ = some (.string (tx k)) ∧ W.cell? ⟨b1, o1 + k * 2 + 1, none⟩ = some (.bool (hf k)) ∧ W.cell? ⟨b2, o2 + k * 2, none⟩ = some (.string (tx k)) ∧ W.cell? ⟨b2, o2 + k * 2 + 1, none⟩ = some (.bool (hf k))) (first | exact ⟨(Ext.refl wr).drew, g1, g2, g3, g4⟩ | exact ⟨(Ext.refl wr).drew.trans he', he'.cell g1, he'.cell g2, he'.cell g3, he'.cell g4⟩) (first | (go_at_call 70; refine (eqCell_same _ _ _).mono ?_; rintro e w' ⟨rfl, he'⟩))
        rename_i hS
        have hE := hext.trans hS.1
        clear hS g1 g2 g3 g4
        go_wp2
        go_roundw
        case rel => exact ⟨k + 1, by omega, by go_num, hE⟩
        case measure => simp [intOf]; omega
      · go_wp2
        go_ret
        exact ⟨rfl, hext⟩
set_option maxHeartbeats 1000000 in
theorem eqStringS_same (va vb : Value) (n : Nat) (tx : Nat → ByteArray) (w : World) (ha : Row1At w va n (fun j => .string (tx j))) (hb : Row1At w vb n (fun j => .string (tx j))) (hl : n ≤ 4398046511104) :
    Calls Try.prog 39 #[va, vb] w fun e w' => e = .returned (.bool true) ∧ Ext w w' := by
  obtain ⟨ao, ca, rfl, hca, hxa⟩ := ha
  obtain ⟨bo, cb, rfl, hcb, hxb⟩ := hb
  by_cases h0 : n = 0
  · subst h0
    clear hxa hxb
    go_enter Try.func39, Try.ntmps39
    go_wp2
    go_loop [5] (fun i => i = .int .i64 0) (fun _ => 0)
    case atStart => rfl
    case round =>
      subst hrel
      go_wp2
      go_ret
      exact ⟨rfl, Ext.refl _⟩
  · obtain ⟨b1, o1, rfl, h1⟩ := hxa (by omega)
    obtain ⟨b2, o2, rfl, h2⟩ := hxb (by omega)
    clear hxa hxb
    have H1 := hide h1
    have H2 := hide h2
    clear h1 h2
    go_enter Try.func39, Try.ntmps39
    go_wp2
    go_loopw [5] (fun i w' => ∃ k : Nat, k ≤ n ∧ i = .int .i64 k ∧ Ext w w') (fun i _ => n - (intOf i).toNat)
    case atStart => exact ⟨0, Nat.zero_le _, rfl, Ext.refl _⟩
    case round =>
      obtain ⟨k, hk, rfl, hext⟩ := hrel
      by_cases hlt : k < n
      · have g1 := hext.cell ((unhide H1) k hlt)
        have g3 := hext.cell ((unhide H2) k hlt)
        have bk : (k : Int) < (n : Int) := by omega
        go_wp2
        go_quiet (fail)
        go_wp2
        go_roundw
        case rel => exact ⟨k + 1, by omega, by go_num, hext.drewN _⟩
        case measure => simp [intOf]; omega
      · go_wp2
        go_ret
        exact ⟨rfl, hext⟩
end Go.Proofs.Ytkimnihdjeonpab
