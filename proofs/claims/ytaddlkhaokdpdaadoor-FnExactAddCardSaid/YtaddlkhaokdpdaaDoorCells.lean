import Derived.Test.YtaddlkhaokdpdaaDoorMarkText
import Derived.Deep.RegionHeld3
namespace Go.Proofs.YtaddlkhaokdpdaaDoor
open Go.RowKit
def noS : ByteArray := { data := #[] }
theorem infoStrs : (Tryd.prog.info? 9).map (fun i => (i.zero, i.size, i.bytes)) = some (some (.string noS), 1, 16) := by kernel_rfl
set_option maxHeartbeats 1000000 in
theorem eqStringS_same (va vb : Value) (n : Nat) (tx : Nat → ByteArray) (w : World) (ha : Row1At w va n (fun j => .string (tx j))) (hb : Row1At w vb n (fun j => .string (tx j))) (hl : n ≤ 4398046511104) :
    Calls Tryd.prog 27 #[va, vb] w fun e w' => e = .returned (.bool true) ∧ Ext w w' := by
  obtain ⟨ao, ca, rfl, hca, hxa⟩ := ha
  obtain ⟨bo, cb, rfl, hcb, hxb⟩ := hb
  by_cases h0 : n = 0
  · subst h0
    clear hxa hxb
    go_enter Tryd.func27, Tryd.ntmps27
    go_wp2
    go_loop [5] (fun i => i = .int .i64 0) (fun _ => 0)
    case atStart => rfl
    case round =>
      subst hrel
      go_wp2
      go_ret
      exact ⟨rfl, Ext.refl _⟩
  · obtain ⟨b1, o1, rfl, h1⟩ := hxa (by omega)
    obtain ⟨b2, o2, rfl, h2⟩ := hxb (by omega)
    clear hxa hxb
    have H1 := hide h1
    have H2 := hide h2
    clear h1 h2
    go_enter Tryd.func27, Tryd.ntmps27
    go_wp2
    go_loopw [5] (fun i w' => ∃ k : Nat, k ≤ n ∧ i = .int .i64 k ∧ Ext w w') (fun i _ => n - (intOf i).toNat)
    case atStart => exact ⟨0, Nat.zero_le _, rfl, Ext.refl _⟩
    case round =>
      obtain ⟨k, hk, rfl, hext⟩ := hrel
      by_cases hlt : k < n
      · have g1 := hext.cell ((unhide H1) k hlt)
        have g3 := hext.cell ((unhide H2) k hlt)
        have bk : (k : Int) < (n : Int) := by omega
        go_wp2
        go_quiet (fail)
        go_wp2
        go_roundw
        case rel => exact ⟨k + 1, by omega, by go_num, hext.drewN _⟩
        case measure => simp [intOf]; omega
      · go_wp2
        go_ret
        exact ⟨rfl, hext⟩
def mkS (k : Int) (j : Nat) : Value := .string (mtx (k + (j : Int)))
set_option maxHeartbeats 1000000 in
theorem markStringS_any (base : Nat) (v : Value) (n : Nat) (A : Nat → Value) (k : Int) (w : World) (hv : Own1 w base 9 v n A) (hn : n ≤ 1099511627776) (hk : 0 ≤ k) (hk2 : k ≤ 1099511627776) :
    Calls Tryd.prog 44 #[v, .int .i64 k] w fun e w' => e = .returned (.int .i64 (k + (n : Int))) ∧ Own1 w' base 9 v n (mkS k) ∧ Fr (fun g => v.ownBlock = some g) w w' := by
  have HV := hide hv
  rcases hv.form with ⟨rfl, h0⟩ | ⟨g, cap, rfl⟩
  · subst h0
    clear hv
    go_enter Tryd.func44, Tryd.ntmps44
    go_wp2
    go_loop [1, 5] (fun a i => a = .int .i64 k ∧ i = .int .i64 0) (fun _ _ => 0)
    case atStart => exact ⟨rfl, rfl⟩
    case round =>
      obtain ⟨rfl, rfl⟩ := hrel
      go_wp2
      go_ret
      exact ⟨ret_int (by simp), (unhide HV).congr (fun j hj => by omega), Fr.refl _ _⟩
  · clear hv
    go_enter Tryd.func44, Tryd.ntmps44
    go_wp2
    go_loopw [1, 5] (fun a i wr => ∃ j : Nat, j ≤ n ∧ a = .int .i64 (k + (j : Int)) ∧ i = .int .i64 j ∧ Hid (Own1 wr base 9 (.slice (some ⟨g, 0, none⟩) n cap) n (fun i => if i < j then mkS k i else A i)) ∧ Hid (Fr (fun q => (Value.slice (some ⟨g, 0, none⟩) n cap).ownBlock = some q) w wr)) (fun _ i _ => n - (intOf i).toNat)
    case atStart => exact ⟨0, Nat.zero_le _, by go_num, rfl, (unhide HV).congr (fun j hj => by simp), Fr.refl _ _⟩
    case round =>
      obtain ⟨j, hj, rfl, rfl, HO, HF⟩ := hrel
      by_cases hlt : j < n
      · have bj : (j : Int) < (n : Int) := by omega
        obtain ⟨K, hK⟩ : ∃ K, K = k + (j : Int) := ⟨_, rfl⟩
        have HK := hide hK
        have hKb : 0 ≤ K ∧ K ≤ 2199023255552 := by omega
        rw [← hK]
        clear hK
        go_wp2_with fail
        refine (markText_any K _ (by omega)).mono ?_
        rintro e w1 ⟨rfl, F1⟩
        have hO1 := (unhide HO).ext F1
        obtain ⟨c0, f0⟩ := hO1.cell hlt
        have hS := hO1.set hlt (.string (mtx K))
        have HS := hide (hS.congr (A' := fun i => if i < j + 1 then mkS k i else A i) (fun i hi => by
          by_cases e : i = j
          · subst e
            rw [if_pos rfl, if_pos (by omega), mkS, ← unhide HK]
          · rw [if_neg e]
            by_cases e2 : i < j
            · rw [if_pos e2, if_pos (by omega)]
            · rw [if_neg e2, if_neg (by omega)]))
        have HF2 := hide ((((unhide HF).grown F1 (fun q hq => by simp at hq)).setCell (a := ⟨g, j, none⟩) rfl (.string (mtx K))))
        clear hO1 hS
        go_wp2
        go_roundw
        case rel => exact ⟨j + 1, by omega, by rw [unhide HK]; go_num, by go_num, HS, HF2⟩
        case measure => simp [intOf]; omega
      · obtain rfl : j = n := by omega
        have HFIN := hide ((unhide HO).congr (A' := mkS k) (fun i hi => by simp [hi]))
        go_wp2
        go_ret
        exact ⟨rfl, unhide HFIN, unhide HF⟩
set_option maxHeartbeats 1000000 in
theorem heldStringS_any (v : Value) (n : Nat) (k : Int) (w : World) (hv : Row1At w v n (mkS k)) (hn : n ≤ 1099511627776) (hk : 0 ≤ k) (hk2 : k ≤ 1099511627776) :
    Calls Tryd.prog 45 #[v, .int .i64 k] w fun e w' => e = .returned (.int .i64 (k + (n : Int))) ∧ Ext w w' := by
  obtain ⟨ao, ca, rfl, hca, hxa⟩ := hv
  by_cases h0 : n = 0
  · subst h0
    clear hxa
    go_enter Tryd.func45, Tryd.ntmps45
    go_wp2
    go_loop [1, 5] (fun a i => a = .int .i64 k ∧ i = .int .i64 0) (fun _ _ => 0)
    case atStart => exact ⟨rfl, rfl⟩
    case round =>
      obtain ⟨rfl, rfl⟩ := hrel
      go_wp2
      go_ret
      exact ⟨ret_int (by simp), Ext.refl _⟩
  · obtain ⟨b, off, rfl, hc⟩ := hxa (by omega)
    have HC := hide hc
    clear hxa hc
    go_enter Tryd.func45, Tryd.ntmps45
    go_wp2
    go_loopw [1, 5] (fun a i wr => ∃ j : Nat, j ≤ n ∧ a = .int .i64 (k + (j : Int)) ∧ i = .int .i64 j ∧ Ext w wr) (fun _ i _ => n - (intOf i).toNat)
    case atStart => exact ⟨0, Nat.zero_le _, by go_num, rfl, Ext.refl _⟩
    case round =>
      obtain ⟨j, hj, rfl, rfl, hext⟩ := hrel
      by_cases hlt : j < n
      · have bj : (j : Int) < (n : Int) := by omega
        have g1 := hext.cell ((unhide HC) j hlt)
        simp only [mkS] at g1
        obtain ⟨K, hK⟩ : ∃ K, K = k + (j : Int) := ⟨_, rfl⟩
        have HK := hide hK
        have hKb : 0 ≤ K ∧ K ≤ 2199023255552 := by omega
        rw [← hK] at g1 ⊢
        clear hK
        go_wp2
        go_region_held3 (fun W => Ext wr W ∧ W.cell? ⟨b, off + j, none⟩ = some (.string (mtx K))) (first | exact ⟨(Ext.refl wr).drew, g1⟩ | exact ⟨(Ext.refl wr).drew.trans he', he'.cell g1⟩) (first | (go_at_call 55; refine (markText_any K _ (by omega)).mono ?_; rintro e w' ⟨rfl, he'⟩))
        rename_i hS
        have hE := hext.trans hS.1
        clear hS
        go_wp2
        go_roundw
        case rel => exact ⟨j + 1, by omega, by rw [unhide HK]; go_num, by go_num, hE⟩
        case measure => simp [intOf]; omega
      · obtain rfl : j = n := by omega
        go_wp2
        go_ret
        exact ⟨rfl, hext⟩
end Go.Proofs.YtaddlkhaokdpdaaDoor
