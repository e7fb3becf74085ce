import Derived.Test.YtkimnihdjeonpabCls
namespace Go.Proofs.Ytkimnihdjeonpab
open Go.RowKit
def sumR (cs : List (List Int × Int)) : Nat → Nat
  | 0 => 0
  | j + 1 => sumR cs j + (cR cs j).length
theorem sumR_le (cs : List (List Int × Int)) (j : Nat) : ∀ n, j < n → (cR cs j).length ≤ sumR cs n := by
  intro n
  induction n with
  | zero => intro h; omega
  | succ n ih =>
    intro h
    rw [sumR]
    by_cases e : j = n
    · subst e; omega
    · have := ih (by omega); omega
theorem szInt32S_any (ao : Option Addr) (n cap : Nat) (l : Int) (w : World) (h0 : 0 ≤ l) (h1 : l ≤ 4398046511104) (hn : (n : Int) ≤ 9223372036854775807) :
    Calls Try.prog 57 #[.slice ao n cap, .int .i64 l] w fun e w' => e = .returned (.int .i64 (if l < (n : Int) then -1 else l - (n : Int))) ∧ w' = w := by
  by_cases h : l < (n : Int)
  · rw [if_pos h]
    go_enter Try.func57, Try.ntmps57
    go_wp2
    go_ret
    exact ⟨rfl, rfl⟩
  · rw [if_neg h]
    go_enter Try.func57, Try.ntmps57
    go_wp2
    go_ret
    exact ⟨rfl, rfl⟩
theorem szCluster_any (ao : Option Addr) (n cap : Nat) (d l : Int) (w : World) (h0 : 0 ≤ l) (h1 : l ≤ 4398046511104) (hn : (n : Int) ≤ 9223372036854775807) :
    Calls Try.prog 24 #[.agg #[.slice ao n cap, .int .i64 d], .int .i64 l] w fun e w' => e = .returned (.int .i64 (if l < (n : Int) then -1 else l - (n : Int))) ∧ Ext w w' := by
  have hc := hide (fun W => szInt32S_any ao n cap l W h0 h1 hn)
  by_cases h : l < (n : Int)
  · rw [if_pos h] at hc ⊢
    go_enter Try.func24, Try.ntmps24
    go_wp2_with fail
    refine ((unhide hc) _).mono ?_
    rintro e w1 ⟨rfl, rfl⟩
    go_wp2
    go_ret
    exact ⟨rfl, (Ext.refl _).alloc _⟩
  · rw [if_neg h] at hc ⊢
    go_enter Try.func24, Try.ntmps24
    go_wp2_with fail
    refine ((unhide hc) _).mono ?_
    rintro e w1 ⟨rfl, rfl⟩
    go_wp2
    go_ret
    exact ⟨rfl, (Ext.refl _).alloc _⟩
set_option maxHeartbeats 1000000 in
theorem szClusterS_any (v : Value) (cs : List (List Int × Int)) (l : Int) (w : World) (hv : ClsAt w v cs) (h0 : 0 ≤ l) (h1 : l ≤ 4398046511104) (hn : (cs.length : Int) ≤ 9223372036854775807) (hx : ∀ j, j < cs.length → ((cR cs j).length : Int) ≤ 9223372036854775807) :
    Calls Try.prog 6 #[v, .int .i64 l] w fun e w' => ∃ r : Int, e = .returned (.int .i64 r) ∧ (r < 0 ∨ (0 ≤ r ∧ (cs.length : Int) + (sumR cs cs.length : Int) ≤ l)) ∧ Ext w w' := by
  obtain ⟨ra, ao, ca, rfl, hca, hra, hxa⟩ := hv
  obtain ⟨n, hnn⟩ : ∃ n, n = cs.length := ⟨_, rfl⟩
  rw [← hnn] at hca hra hxa hn hx ⊢
  have HA := hide hra
  have HX := hide hx
  have HXA := hide hxa
  clear hra hx hxa hnn
  by_cases hz : l < (n : Int)
  · go_enter Try.func6, Try.ntmps6
    go_wp2
    go_ret
    exact ⟨_, rfl, .inl (by omega), Ext.refl _⟩
  by_cases hz0 : n = 0
  · subst hz0
    go_enter Try.func6, Try.ntmps6
    go_wp2
    go_loop [1, 5] (fun a i => a = .int .i64 l ∧ i = .int .i64 0) (fun _ _ => 0)
    case atStart => exact ⟨by go_num, rfl⟩
    case round =>
      obtain ⟨rfl, rfl⟩ := hrel
      go_wp2
      go_ret
      exact ⟨_, rfl, .inr ⟨h0, by simp [sumR]; omega⟩, Ext.refl _⟩
  · obtain ⟨b, off, rfl, hc⟩ := (unhide HXA) (by omega)
    have HC := hide hc
    clear HXA hc
    go_enter Try.func6, Try.ntmps6
    go_wp2
    go_loopw [1, 5] (fun a i wr => ∃ (k : Nat), k ≤ n ∧ (0 : Int) ≤ l - (n : Int) - (sumR cs k : Int) ∧ a = .int .i64 (l - (n : Int) - (sumR cs k : Int)) ∧ i = .int .i64 k ∧ Ext w wr) (fun _ i _ => n - (intOf i).toNat)
    case atStart => exact ⟨0, Nat.zero_le _, by simp [sumR]; omega, by simp [sumR], rfl, Ext.refl _⟩
    case round =>
      obtain ⟨k, hk, hp, rfl, rfl, hext⟩ := hrel
      by_cases hlt : k < n
      · have g1 := hext.cell ((unhide HC) k hlt).1
        have g2 := hext.cell ((unhide HC) k hlt).2
        have bk : (k : Int) < (n : Int) := by omega
        obtain ⟨a2, c2, hrv, _, _⟩ := (unhide HA) k hlt
        rw [hrv] at g1
        have hm := (unhide HX) k hlt
        have hs : Hid (sumR cs (k + 1) = sumR cs k + (cR cs k).length) := rfl
        obtain ⟨m, hmm⟩ : ∃ m, m = (cR cs k).length := ⟨_, rfl⟩
        rw [← hmm] at g1 hm hs
        clear hmm hrv
        obtain ⟨s, hss⟩ : ∃ s, s = sumR cs k := ⟨_, rfl⟩
        rw [← hss] at hs hp ⊢
        clear hss
        have hcon := hide (fun W => szCluster_any a2 m c2 (cW cs k) (l - (n : Int) - (s : Int)) W hp (by omega) hm)
        by_cases hq : l - (n : Int) - (s : Int) < (m : Int)
        · rw [if_pos hq] at hcon
          go_wp2_with fail
          refine ((unhide hcon) _).mono ?_
          rintro e w2 ⟨rfl, he⟩
          go_wp2
          go_ret
          exact ⟨_, rfl, .inl (by omega), hext.trans he⟩
        · rw [if_neg hq] at hcon
          go_wp2_with fail
          refine ((unhide hcon) _).mono ?_
          rintro e w2 ⟨rfl, he⟩
          go_wp2
          go_roundw
          case rel => exact ⟨k + 1, by omega, by rw [hs.out]; omega, by rw [hs.out]; go_num, by go_num, hext.trans he⟩
          case measure => simp [intOf]; omega
      · obtain rfl : k = n := by omega
        go_wp2
        go_ret
        exact ⟨_, rfl, .inr ⟨hp, by omega⟩, hext⟩
end Go.Proofs.Ytkimnihdjeonpab
