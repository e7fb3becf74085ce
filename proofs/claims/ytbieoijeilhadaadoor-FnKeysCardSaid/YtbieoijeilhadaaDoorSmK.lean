import Derived.Test.YtbieoijeilhadaaDoorKys
import Derived.Test.YtbieoijeilhadaaDoorBlocks
namespace Go.Proofs.YtbieoijeilhadaaDoor
open Go.RowKit
set_option maxRecDepth 10000 in
set_option maxHeartbeats 2000000 in
theorem sameKeys_any (va vb : Value) (cs : List (List Int × Int)) (w : World) (ha : KysAt w va cs) (hb : KysAt w vb cs) (hl : cs.length ≤ 4398046511104) (hx : ∀ j, (cR cs j).length ≤ 4398046511104) :
    Calls Tryd.prog 10 #[va, vb] w fun e w' => e = .returned (.bool true) ∧ Ext w w' := by
  obtain ⟨ra, ao, ca, rfl, hca, hra, hxa⟩ := ha
  obtain ⟨rb, bo, cb, rfl, hcb, hrb, hxb⟩ := hb
  obtain ⟨n, hn⟩ : ∃ n, n = cs.length := ⟨_, rfl⟩
  rw [← hn] at hca hra hxa hcb hrb hxb hl ⊢
  clear hn
  by_cases h0 : n = 0
  · subst h0
    clear hxa hxb hra hrb hx
    go_enter Tryd.func10, Tryd.ntmps10
    go_wp2
    go_loop [5] (fun i => i = .int .i64 0) (fun _ => 0)
    case atStart => rfl
    case round =>
      subst hrel
      go_wp2
      go_ret
      exact ⟨rfl, Ext.refl _⟩
  · obtain ⟨b1, o1, rfl, h1⟩ := hxa (by omega)
    obtain ⟨b2, o2, rfl, h2⟩ := hxb (by omega)
    clear hxa hxb
    have H1 := hide h1
    have H2 := hide h2
    have HA := hide hra
    have HB := hide hrb
    have HX := hide hx
    clear h1 h2 hra hrb hx
    go_enter Tryd.func10, Tryd.ntmps10
    go_wp2
    go_loopw [5] (fun i w' => ∃ k : Nat, k ≤ n ∧ i = .int .i64 k ∧ Ext w w') (fun i _ => n - (intOf i).toNat)
    case atStart => exact ⟨0, Nat.zero_le _, rfl, Ext.refl _⟩
    case round =>
      obtain ⟨k, hk, rfl, hext⟩ := hrel
      by_cases hlt : k < n
      · have g1 := hext.cell ((unhide H1) k hlt).1
        have g2 := hext.cell ((unhide H1) k hlt).2
        have g3 := hext.cell ((unhide H2) k hlt).1
        have g4 := hext.cell ((unhide H2) k hlt).2
        have bk : (k : Int) < (n : Int) := by omega
        obtain ⟨aa, ac, ea, _, hca2⟩ := ((unhide HA) k hlt).ext hext
        obtain ⟨ba, bc, eb, _, hcb2⟩ := ((unhide HB) k hlt).ext hext
        rw [ea] at g1
        rw [eb] at g3
        obtain ⟨m, hm⟩ : ∃ m, m = (cR cs k).length := ⟨_, rfl⟩
        have hm1 := (unhide HX) k
        rw [← hm] at g1 g3 hca2 hcb2 hm1
        have HCA := hide hca2
        have HCB := hide hcb2
        clear hca2 hcb2 ea eb hm
        go_wp2
        go_region_held3 (fun W => W.cell? ⟨b1, o1 + k * 2 + 1, none⟩ = some (.slice aa m ac) ∧ W.cell? ⟨b1, o1 + k * 2, none⟩ = some (.int .i64 (cW cs k)) ∧ W.cell? ⟨b2, o2 + k * 2 + 1, none⟩ = some (.slice ba m bc) ∧ W.cell? ⟨b2, o2 + k * 2, none⟩ = some (.int .i64 (cW cs k))) (exact ⟨g1, g2, g3, g4⟩) (fail)
        have HG := hide (And.intro g1 g3)
        clear g1 g2 g3 g4
        go_wp2
        go_loopw [6] (fun i w' => ∃ l : Nat, l ≤ m ∧ i = .int .i64 l ∧ Ext wr w') (fun i _ => m - (intOf i).toNat)
        case atStart => exact ⟨0, Nat.zero_le _, rfl, (Ext.refl _).drew⟩
        case round =>
          obtain ⟨l, hl2, rfl, hx2⟩ := hrel
          have g1 := hx2.cell (unhide HG).1
          have g3 := hx2.cell (unhide HG).2
          by_cases hlm : l < m
          · have bl : (l : Int) < (m : Int) := by omega
            obtain ⟨ab, aof, rfl, hA⟩ := (unhide HCA) (by omega)
            obtain ⟨bb, bof, rfl, hB⟩ := (unhide HCB) (by omega)
            have c1 := hx2.cell (hA l hlm)
            have c2 := hx2.cell (hB l hlm)
            clear hA hB
            go_wp2
            go_region_held3 (fun W => W.cell? ⟨b1, o1 + k * 2 + 1, none⟩ = some (.slice (some ⟨ab, aof, none⟩) m ac) ∧ W.cell? ⟨b2, o2 + k * 2 + 1, none⟩ = some (.slice (some ⟨bb, bof, none⟩) m bc) ∧ W.cell? ⟨ab, aof + l, none⟩ = some (.int .i32 (at0 (cR cs k) l)) ∧ W.cell? ⟨bb, bof + l, none⟩ = some (.int .i32 (at0 (cR cs k) l))) (exact ⟨g1, g3, c1, c2⟩) (fail)
            go_wp2
            go_roundw
            case rel => exact ⟨l + 1, by omega, by go_num, hx2.drew⟩
            case measure => simp [intOf]; omega
          · have bl : ¬ (l : Int) < (m : Int) := by omega
            obtain rfl : l = m := by omega
            go_wp2
            go_roundw
            case rel => exact ⟨k + 1, by omega, by go_num, hext.trans hx2⟩
            case measure => simp [intOf]; omega
      · go_wp2
        go_ret
        exact ⟨rfl, hext⟩
end Go.Proofs.YtbieoijeilhadaaDoor
