import Derived.Test.YtkimnihdjeonpabMarkText
import Derived.Deep.RegionHeld3
namespace Go.Proofs.Ytkimnihdjeonpab
open Go.RowKit
set_option maxHeartbeats 1000000 in
theorem eqCell_same (s : ByteArray) (h : Bool) (w : World) : Calls Try.prog 70 #[.agg #[.string s, .bool h], .agg #[.string s, .bool h]] w fun e w' => e = .returned (.bool true) ∧ Ext w w' := by
  go_enter Try.func70, Try.ntmps70
  go_wp2
  go_ret
  exact ⟨rfl, ((Ext.refl _).alloc _).alloc _⟩
set_option maxHeartbeats 1000000 in
theorem eqCellS_same (va vb : Value) (n : Nat) (tx : Nat → ByteArray) (hf : Nat → Bool) (w : World) (ha : Row2At w va n (fun j => .string (tx j)) (fun j => .bool (hf j))) (hb : Row2At w vb n (fun j => .string (tx j)) (fun j => .bool (hf j))) (hl : n ≤ 4398046511104) :
    Calls Try.prog 62 #[va, vb] w fun e w' => e = .returned (.bool true) ∧ Ext w w' := by
  obtain ⟨ao, ca, rfl, hca, hxa⟩ := ha
  obtain ⟨bo, cb, rfl, hcb, hxb⟩ := hb
  by_cases h0 : n = 0
  · subst h0
    clear hxa hxb
    go_enter Try.func62, Try.ntmps62
    go_wp2
    go_loop [5] (fun i => i = .int .i64 0) (fun _ => 0)
    case atStart => rfl
    case round =>
      subst hrel
      go_wp2
      go_ret
      exact ⟨rfl, Ext.refl _⟩
  · obtain ⟨b1, o1, rfl, h1⟩ := hxa (by omega)
    obtain ⟨b2, o2, rfl, h2⟩ := hxb (by omega)
    clear hxa hxb
    have H1 := hide h1
    have H2 := hide h2
    clear h1 h2
    go_enter Try.func62, Try.ntmps62
    go_wp2
    go_loopw [5] (fun i w' => ∃ k : Nat, k ≤ n ∧ i = .int .i64 k ∧ Ext w w') (fun i _ => n - (intOf i).toNat)
    case atStart => exact ⟨0, Nat.zero_le _, rfl, Ext.refl _⟩
    case round =>
      obtain ⟨k, hk, rfl, hext⟩ := hrel
      by_cases hlt : k < n
      · have g1 := hext.cell ((unhide H1) k hlt).1
        have g2 := hext.cell ((unhide H1) k hlt).2
        have g3 := hext.cell ((unhide H2) k hlt).1
        have g4 := hext.cell ((unhide H2) k hlt).2
        have bk : (k : Int) < (n : Int) := by omega
        go_wp2
        go_region_held3 (fun W => Ext wr W ∧ W.cell? ⟨b1, o1 + k * 2, none⟩ = some (.string (tx k)) ∧ W.cell? ⟨b1, o1 + k * 2 + 1, none⟩ = some (.bool (hf k)) ∧ W.cell? ⟨b2, o2 + k * 2, none⟩ = some (.string (tx k)) ∧ W.cell? ⟨b2, o2 + k * 2 + 1, none⟩ = some (.bool (hf k))) (first | exact ⟨(Ext.refl wr).drew, g1, g2, g3, g4⟩ | exact ⟨(Ext.refl wr).drew.trans he', he'.cell g1, he'.cell g2, he'.cell g3, he'.cell g4⟩) (first | (go_at_call 70; refine (eqCell_same _ _ _).mono ?_; rintro e w' ⟨rfl, he'⟩))
        rename_i hS
        have hE := hext.trans hS.1
        clear hS g1 g2 g3 g4
        go_wp2
        go_roundw
        case rel => exact ⟨k + 1, by omega, by go_num, hE⟩
        case measure => simp [intOf]; omega
      · go_wp2
        go_ret
        exact ⟨rfl, hext⟩
set_option maxHeartbeats 1000000 in
theorem eqStringS_same (va vb : Value) (n : Nat) (tx : Nat → ByteArray) (w : World) (ha : Row1At w va n (fun j => .string (tx j))) (hb : Row1At w vb n (fun j => .string (tx j))) (hl : n ≤ 4398046511104) :
    Calls Try.prog 39 #[va, vb] w fun e w' => e = .returned (.bool true) ∧ Ext w w' := by
  obtain ⟨ao, ca, rfl, hca, hxa⟩ := ha
  obtain ⟨bo, cb, rfl, hcb, hxb⟩ := hb
  by_cases h0 : n = 0
  · subst h0
    clear hxa hxb
    go_enter Try.func39, Try.ntmps39
    go_wp2
    go_loop [5] (fun i => i = .int .i64 0) (fun _ => 0)
    case atStart => rfl
    case round =>
      subst hrel
      go_wp2
      go_ret
      exact ⟨rfl, Ext.refl _⟩
  · obtain ⟨b1, o1, rfl, h1⟩ := hxa (by omega)
    obtain ⟨b2, o2, rfl, h2⟩ := hxb (by omega)
    clear hxa hxb
    have H1 := hide h1
    have H2 := hide h2
    clear h1 h2
    go_enter Try.func39, Try.ntmps39
    go_wp2
    go_loopw [5] (fun i w' => ∃ k : Nat, k ≤ n ∧ i = .int .i64 k ∧ Ext w w') (fun i _ => n - (intOf i).toNat)
    case atStart => exact ⟨0, Nat.zero_le _, rfl, Ext.refl _⟩
    case round =>
      obtain ⟨k, hk, rfl, hext⟩ := hrel
      by_cases hlt : k < n
      · have g1 := hext.cell ((unhide H1) k hlt)
        have g3 := hext.cell ((unhide H2) k hlt)
        have bk : (k : Int) < (n : Int) := by omega
        go_wp2
        go_quiet (fail)
        go_wp2
        go_roundw
        case rel => exact ⟨k + 1, by omega, by go_num, hext.drewN _⟩
        case measure => simp [intOf]; omega
      · go_wp2
        go_ret
        exact ⟨rfl, hext⟩
def mkT (k : Int) (j : Nat) : Value := .string (mtx (k + 2 * (j : Int)))
def mkH (k : Int) (j : Nat) : Value := .bool ((k + 2 * (j : Int) + 1) % 3 == 0)
set_option maxHeartbeats 1000000 in
theorem markCellS_any (base : Nat) (v : Value) (n : Nat) (A B : Nat → Value) (k : Int) (w : World) (hv : Own2 w base 74 v n A B) (hn : n ≤ 1048576) (hk : 0 ≤ k) (hk2 : k ≤ 1099511627776) :
    Calls Try.prog 63 #[v, .int .i64 k] w fun e w' => e = .returned (.int .i64 (k + 2 * (n : Int))) ∧ Own2 w' base 74 v n (mkT k) (mkH k) ∧ Fr (fun g => v.ownBlock = some g) w w' := by
  have HV := hide hv
  rcases hv.form with ⟨rfl, h0⟩ | ⟨g, cap, rfl⟩
  · subst h0
    clear hv
    go_enter Try.func63, Try.ntmps63
    go_wp2
    go_loop [1, 5] (fun a i => a = .int .i64 k ∧ i = .int .i64 0) (fun _ _ => 0)
    case atStart => exact ⟨rfl, rfl⟩
    case round =>
      obtain ⟨rfl, rfl⟩ := hrel
      go_wp2
      go_ret
      exact ⟨ret_int (by simp), (unhide HV).congr (fun j hj => by omega), Fr.refl _ _⟩
  · clear hv
    go_enter Try.func63, Try.ntmps63
    go_wp2
    go_loopw [1, 5] (fun a i wr => ∃ j : Nat, j ≤ n ∧ a = .int .i64 (k + 2 * (j : Int)) ∧ i = .int .i64 j ∧ Hid (Own2 wr base 74 (.slice (some ⟨g, 0, none⟩) n cap) n (fun i => if i < j then mkT k i else A i) (fun i => if i < j then mkH k i else B i)) ∧ Hid (Fr (fun q => (Value.slice (some ⟨g, 0, none⟩) n cap).ownBlock = some q) w wr)) (fun _ i _ => n - (intOf i).toNat)
    case atStart => exact ⟨0, Nat.zero_le _, by go_num, rfl, (unhide HV).congr (fun j hj => ⟨by simp, by simp⟩), Fr.refl _ _⟩
    case round =>
      obtain ⟨j, hj, rfl, rfl, HO, HF⟩ := hrel
      by_cases hlt : j < n
      · have bj : (j : Int) < (n : Int) := by omega
        obtain ⟨K, hK⟩ : ∃ K, K = k + 2 * (j : Int) := ⟨_, rfl⟩
        have HK := hide hK
        have hKb : 0 ≤ K ∧ K ≤ 1099513724928 := by omega
        rw [← hK]
        clear hK
        go_wp2_with fail
        refine (markText_any K _ (by omega)).mono ?_
        rintro e w1 ⟨rfl, F1⟩
        have hO1 := (unhide HO).ext F1
        obtain ⟨⟨c0, f0⟩, c1, f1⟩ := hO1.cell hlt
        have hS := hO1.set hlt (.string (mtx K)) (.bool ((K + 1) % 3 == 0))
        have HS := hide (hS.congr (A' := fun i => if i < j + 1 then mkT k i else A i) (B' := fun i => if i < j + 1 then mkH k i else B i) (fun i hi => by
          by_cases e : i = j
          · subst e
            rw [if_pos rfl, if_pos rfl, if_pos (by omega), if_pos (by omega), mkT, mkH, ← unhide HK]
            exact ⟨rfl, rfl⟩
          · rw [if_neg e, if_neg e]
            by_cases e2 : i < j
            · rw [if_pos e2, if_pos e2, if_pos (by omega), if_pos (by omega)]; exact ⟨rfl, rfl⟩
            · rw [if_neg e2, if_neg e2, if_neg (by omega), if_neg (by omega)]; exact ⟨rfl, rfl⟩))
        have HF2 := hide (((((unhide HF).grown F1 (fun q hq => by simp at hq)).setCell (a := ⟨g, j * 2, none⟩) rfl (.string (mtx K))).setCell (a := ⟨g, j * 2 + 1, none⟩) rfl (.bool ((K + 1) % 3 == 0))))
        clear hO1 hS
        go_wp2
        go_roundw
        case rel => exact ⟨j + 1, by omega, by rw [unhide HK]; go_num, by go_num, HS, HF2⟩
        case measure => simp [intOf]; omega
      · obtain rfl : j = n := by omega
        have HFIN := hide ((unhide HO).congr (A' := mkT k) (B' := mkH k) (fun i hi => ⟨by simp [hi], by simp [hi]⟩))
        go_wp2
        go_ret
        exact ⟨rfl, unhide HFIN, unhide HF⟩
set_option maxHeartbeats 1000000 in
theorem heldCellS_any (v : Value) (n : Nat) (k : Int) (w : World) (hv : Row2At w v n (mkT k) (mkH k)) (hn : n ≤ 1048576) (hk : 0 ≤ k) (hk2 : k ≤ 1099511627776) :
    Calls Try.prog 65 #[v, .int .i64 k] w fun e w' => e = .returned (.int .i64 (k + 2 * (n : Int))) ∧ Ext w w' := by
  obtain ⟨ao, ca, rfl, hca, hxa⟩ := hv
  by_cases h0 : n = 0
  · subst h0
    clear hxa
    go_enter Try.func65, Try.ntmps65
    go_wp2
    go_loop [1, 5] (fun a i => a = .int .i64 k ∧ i = .int .i64 0) (fun _ _ => 0)
    case atStart => exact ⟨rfl, rfl⟩
    case round =>
      obtain ⟨rfl, rfl⟩ := hrel
      go_wp2
      go_ret
      exact ⟨ret_int (by simp), Ext.refl _⟩
  · obtain ⟨b, off, rfl, hc⟩ := hxa (by omega)
    have HC := hide hc
    clear hxa hc
    go_enter Try.func65, Try.ntmps65
    go_wp2
    go_loopw [1, 5] (fun a i wr => ∃ j : Nat, j ≤ n ∧ a = .int .i64 (k + 2 * (j : Int)) ∧ i = .int .i64 j ∧ Ext w wr) (fun _ i _ => n - (intOf i).toNat)
    case atStart => exact ⟨0, Nat.zero_le _, by go_num, rfl, Ext.refl _⟩
    case round =>
      obtain ⟨j, hj, rfl, rfl, hext⟩ := hrel
      by_cases hlt : j < n
      · have bj : (j : Int) < (n : Int) := by omega
        have hcc := (unhide HC) j hlt
        have g1 := hext.cell hcc.1
        have g2 := hext.cell hcc.2
        simp only [mkT, mkH] at g1 g2
        obtain ⟨K, hK⟩ : ∃ K, K = k + 2 * (j : Int) := ⟨_, rfl⟩
        have HK := hide hK
        have hKb : 0 ≤ K ∧ K ≤ 1099513724928 := by omega
        rw [← hK] at g1 g2 ⊢
        clear hK hcc
        go_wp2
        go_region_held3 (fun W => Ext wr W ∧ W.cell? ⟨b, off + j * 2, none⟩ = some (.string (mtx K))) (first | exact ⟨(Ext.refl wr).drew, g1⟩ | exact ⟨(Ext.refl wr).drew.trans he', he'.cell g1⟩) (first | (go_at_call 64; refine (markText_any K _ (by omega)).mono ?_; rintro e w' ⟨rfl, he'⟩))
        rename_i hS
        have hE := hext.trans hS.1
        have g3 := hS.1.cell g2
        clear hS
        go_wp2
        go_roundw
        case rel => exact ⟨j + 1, by omega, by rw [unhide HK]; go_num, by go_num, hE⟩
        case measure => simp [intOf]; omega
      · obtain rfl : j = n := by omega
        go_wp2
        go_ret
        exact ⟨rfl, hext⟩
def mkS (k : Int) (j : Nat) : Value := .string (mtx (k + (j : Int)))
set_option maxHeartbeats 1000000 in
theorem markStringS_any (base : Nat) (v : Value) (n : Nat) (A : Nat → Value) (k : Int) (w : World) (hv : Own1 w base 9 v n A) (hn : n ≤ 1099511627776) (hk : 0 ≤ k) (hk2 : k ≤ 1099511627776) :
    Calls Try.prog 42 #[v, .int .i64 k] w fun e w' => e = .returned (.int .i64 (k + (n : Int))) ∧ Own1 w' base 9 v n (mkS k) ∧ Fr (fun g => v.ownBlock = some g) w w' := by
  have HV := hide hv
  rcases hv.form with ⟨rfl, h0⟩ | ⟨g, cap, rfl⟩
  · subst h0
    clear hv
    go_enter Try.func42, Try.ntmps42
    go_wp2
    go_loop [1, 5] (fun a i => a = .int .i64 k ∧ i = .int .i64 0) (fun _ _ => 0)
    case atStart => exact ⟨rfl, rfl⟩
    case round =>
      obtain ⟨rfl, rfl⟩ := hrel
      go_wp2
      go_ret
      exact ⟨ret_int (by simp), (unhide HV).congr (fun j hj => by omega), Fr.refl _ _⟩
  · clear hv
    go_enter Try.func42, Try.ntmps42
    go_wp2
    go_loopw [1, 5] (fun a i wr => ∃ j : Nat, j ≤ n ∧ a = .int .i64 (k + (j : Int)) ∧ i = .int .i64 j ∧ Hid (Own1 wr base 9 (.slice (some ⟨g, 0, none⟩) n cap) n (fun i => if i < j then mkS k i else A i)) ∧ Hid (Fr (fun q => (Value.slice (some ⟨g, 0, none⟩) n cap).ownBlock = some q) w wr)) (fun _ i _ => n - (intOf i).toNat)
    case atStart => exact ⟨0, Nat.zero_le _, by go_num, rfl, (unhide HV).congr (fun j hj => by simp), Fr.refl _ _⟩
    case round =>
      obtain ⟨j, hj, rfl, rfl, HO, HF⟩ := hrel
      by_cases hlt : j < n
      · have bj : (j : Int) < (n : Int) := by omega
        obtain ⟨K, hK⟩ : ∃ K, K = k + (j : Int) := ⟨_, rfl⟩
        have HK := hide hK
        have hKb : 0 ≤ K ∧ K ≤ 2199023255552 := by omega
        rw [← hK]
        clear hK
        go_wp2_with fail
        refine (markText_any K _ (by omega)).mono ?_
        rintro e w1 ⟨rfl, F1⟩
        have hO1 := (unhide HO).ext F1
        obtain ⟨c0, f0⟩ := hO1.cell hlt
        have hS := hO1.set hlt (.string (mtx K))
        have HS := hide (hS.congr (A' := fun i => if i < j + 1 then mkS k i else A i) (fun i hi => by
          by_cases e : i = j
          · subst e
            rw [if_pos rfl, if_pos (by omega), mkS, ← unhide HK]
          · rw [if_neg e]
            by_cases e2 : i < j
            · rw [if_pos e2, if_pos (by omega)]
            · rw [if_neg e2, if_neg (by omega)]))
        have HF2 := hide ((((unhide HF).grown F1 (fun q hq => by simp at hq)).setCell (a := ⟨g, j, none⟩) rfl (.string (mtx K))))
        clear hO1 hS
        go_wp2
        go_roundw
        case rel => exact ⟨j + 1, by omega, by rw [unhide HK]; go_num, by go_num, HS, HF2⟩
        case measure => simp [intOf]; omega
      · obtain rfl : j = n := by omega
        have HFIN := hide ((unhide HO).congr (A' := mkS k) (fun i hi => by simp [hi]))
        go_wp2
        go_ret
        exact ⟨rfl, unhide HFIN, unhide HF⟩
set_option maxHeartbeats 1000000 in
theorem heldStringS_any (v : Value) (n : Nat) (k : Int) (w : World) (hv : Row1At w v n (mkS k)) (hn : n ≤ 1099511627776) (hk : 0 ≤ k) (hk2 : k ≤ 1099511627776) :
    Calls Try.prog 45 #[v, .int .i64 k] w fun e w' => e = .returned (.int .i64 (k + (n : Int))) ∧ Ext w w' := by
  obtain ⟨ao, ca, rfl, hca, hxa⟩ := hv
  by_cases h0 : n = 0
  · subst h0
    clear hxa
    go_enter Try.func45, Try.ntmps45
    go_wp2
    go_loop [1, 5] (fun a i => a = .int .i64 k ∧ i = .int .i64 0) (fun _ _ => 0)
    case atStart => exact ⟨rfl, rfl⟩
    case round =>
      obtain ⟨rfl, rfl⟩ := hrel
      go_wp2
      go_ret
      exact ⟨ret_int (by simp), Ext.refl _⟩
  · obtain ⟨b, off, rfl, hc⟩ := hxa (by omega)
    have HC := hide hc
    clear hxa hc
    go_enter Try.func45, Try.ntmps45
    go_wp2
    go_loopw [1, 5] (fun a i wr => ∃ j : Nat, j ≤ n ∧ a = .int .i64 (k + (j : Int)) ∧ i = .int .i64 j ∧ Ext w wr) (fun _ i _ => n - (intOf i).toNat)
    case atStart => exact ⟨0, Nat.zero_le _, by go_num, rfl, Ext.refl _⟩
    case round =>
      obtain ⟨j, hj, rfl, rfl, hext⟩ := hrel
      by_cases hlt : j < n
      · have bj : (j : Int) < (n : Int) := by omega
        have g1 := hext.cell ((unhide HC) j hlt)
        simp only [mkS] at g1
        obtain ⟨K, hK⟩ : ∃ K, K = k + (j : Int) := ⟨_, rfl⟩
        have HK := hide hK
        have hKb : 0 ≤ K ∧ K ≤ 2199023255552 := by omega
        rw [← hK] at g1 ⊢
        clear hK
        go_wp2
        go_region_held3 (fun W => Ext wr W ∧ W.cell? ⟨b, off + j, none⟩ = some (.string (mtx K))) (first | exact ⟨(Ext.refl wr).drew, g1⟩ | exact ⟨(Ext.refl wr).drew.trans he', he'.cell g1⟩) (first | (go_at_call 64; refine (markText_any K _ (by omega)).mono ?_; rintro e w' ⟨rfl, he'⟩))
        rename_i hS
        have hE := hext.trans hS.1
        clear hS
        go_wp2
        go_roundw
        case rel => exact ⟨j + 1, by omega, by rw [unhide HK]; go_num, by go_num, hE⟩
        case measure => simp [intOf]; omega
      · obtain rfl : j = n := by omega
        go_wp2
        go_ret
        exact ⟨rfl, hext⟩
end Go.Proofs.Ytkimnihdjeonpab
