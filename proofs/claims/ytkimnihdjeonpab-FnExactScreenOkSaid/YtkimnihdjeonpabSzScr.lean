import Derived.Test.YtkimnihdjeonpabScr
import Derived.Test.YtkimnihdjeonpabSzB
namespace Go.Proofs.Ytkimnihdjeonpab
open Go.RowKit
def tl (t : Nat → ByteArray) : Nat → Nat
  | 0 => 0
  | j + 1 => tl t j + (t j).size
def gl (C : Nat → Nat) (t : Nat → Nat → ByteArray) : Nat → Nat
  | 0 => 0
  | i + 1 => gl C t i + (C i + tl (t i) (C i))
theorem szCell_any (s : ByteArray) (b : Bool) (l : Int) (w : World) (h0 : 0 ≤ l) (h1 : l ≤ 4398046511104) (hn : (s.size : Int) ≤ 9223372036854775807) :
    Calls Try.prog 71 #[.agg #[.string s, .bool b], .int .i64 l] w fun e w' => e = .returned (.int .i64 (if l < (s.size : Int) then -1 else l - (s.size : Int))) ∧ Ext w w' := by
  by_cases h : l < (s.size : Int)
  · rw [if_pos h]
    go_enter Try.func71, Try.ntmps71
    go_wp2
    go_ret
    exact ⟨rfl, (Ext.refl _).alloc _⟩
  · rw [if_neg h]
    go_enter Try.func71, Try.ntmps71
    go_wp2
    go_ret
    exact ⟨rfl, (Ext.refl _).alloc _⟩
set_option maxHeartbeats 1000000 in
theorem szCellS_any (v : Value) (n : Nat) (tx : Nat → ByteArray) (hf : Nat → Bool) (l : Int) (w : World) (hv : Row2At w v n (fun j => .string (tx j)) (fun j => .bool (hf j))) (h0 : 0 ≤ l) (h1 : l ≤ 4398046511104) (hn : (n : Int) ≤ 9223372036854775807) (hx : ∀ j, j < n → ((tx j).size : Int) ≤ 9223372036854775807) :
    Calls Try.prog 66 #[v, .int .i64 l] w fun e w' => ∃ r : Int, e = .returned (.int .i64 r) ∧ SzR l (n + tl tx n) r ∧ Ext w w' := by
  obtain ⟨ao, ca, rfl, hca, hxa⟩ := hv
  have HX := hide hx
  have HXA := hide hxa
  have hmono : Hid (∀ k, k ≤ n → tl tx k ≤ tl tx n) := by
    have aux : ∀ m k, tl tx k ≤ tl tx (k + m) := by
      intro m
      induction m with
      | zero => intro k; exact Nat.le_refl _
      | succ m ih => intro k; have := ih k; rw [← Nat.add_assoc, tl]; omega
    intro k hk
    have := aux (n - k) k
    rwa [show k + (n - k) = n by omega] at this
  clear hx hxa
  by_cases hz : l < (n : Int)
  · go_enter Try.func66, Try.ntmps66
    go_wp2
    go_ret
    exact ⟨_, rfl, .inl ⟨rfl, by omega⟩, Ext.refl _⟩
  by_cases hz0 : n = 0
  · subst hz0
    go_enter Try.func66, Try.ntmps66
    go_wp2
    go_loop [1, 5] (fun a i => a = .int .i64 l ∧ i = .int .i64 0) (fun _ _ => 0)
    case atStart => exact ⟨by go_num, rfl⟩
    case round =>
      obtain ⟨rfl, rfl⟩ := hrel
      go_wp2
      go_ret
      exact ⟨_, rfl, .inr ⟨by simp [tl], h0⟩, Ext.refl _⟩
  · obtain ⟨b, off, rfl, hc⟩ := (unhide HXA) (by omega)
    have HC := hide hc
    clear HXA hc
    go_enter Try.func66, Try.ntmps66
    go_wp2
    go_loopw [1, 5] (fun a i wr => ∃ (k : Nat), k ≤ n ∧ (0 : Int) ≤ l - (n : Int) - (tl tx k : Int) ∧ a = .int .i64 (l - (n : Int) - (tl tx k : Int)) ∧ i = .int .i64 k ∧ Ext w wr) (fun _ i _ => n - (intOf i).toNat)
    case atStart => exact ⟨0, Nat.zero_le _, by simp [tl]; omega, by simp [tl], rfl, Ext.refl _⟩
    case round =>
      obtain ⟨k, hk, hp, rfl, rfl, hext⟩ := hrel
      by_cases hlt : k < n
      · have g1 := hext.cell ((unhide HC) k hlt).1
        have g2 := hext.cell ((unhide HC) k hlt).2
        have bk : (k : Int) < (n : Int) := by omega
        have hm := (unhide HX) k hlt
        have hs : Hid (tl tx (k + 1) = tl tx k + (tx k).size) := rfl
        have hmn := (unhide hmono) (k + 1) (by omega)
        rw [hs.out] at hmn
        obtain ⟨s, hss⟩ : ∃ s, s = tl tx k := ⟨_, rfl⟩
        rw [← hss] at hs hp hmn ⊢
        clear hss
        have hcon := hide (fun W => szCell_any (tx k) (hf k) (l - (n : Int) - (s : Int)) W hp (by omega) hm)
        by_cases hq : l - (n : Int) - (s : Int) < ((tx k).size : Int)
        · rw [if_pos hq] at hcon
          go_wp2_with fail
          refine ((unhide hcon) _).mono ?_
          rintro e w2 ⟨rfl, he⟩
          go_wp2
          go_ret
          exact ⟨_, rfl, .inl ⟨rfl, by omega⟩, hext.trans he⟩
        · rw [if_neg hq] at hcon
          go_wp2_with fail
          refine ((unhide hcon) _).mono ?_
          rintro e w2 ⟨rfl, he⟩
          go_wp2
          go_roundw
          case rel => exact ⟨k + 1, by omega, by rw [hs.out]; omega, by rw [hs.out]; go_num, by go_num, hext.trans he⟩
          case measure => simp [intOf]; omega
      · obtain rfl : k = n := by omega
        go_wp2
        go_ret
        exact ⟨_, rfl, .inr ⟨by omega, hp⟩, hext⟩
theorem tl_le (t : Nat → ByteArray) (n : Nat) : ∀ k, k ≤ n → tl t k ≤ tl t n := by
  have aux : ∀ m k, tl t k ≤ tl t (k + m) := by
    intro m
    induction m with
    | zero => intro k; exact Nat.le_refl _
    | succ m ih => intro k; have := ih k; rw [← Nat.add_assoc, tl]; omega
  intro k hk
  have := aux (n - k) k
  rwa [show k + (n - k) = n by omega] at this
theorem gl_le (C : Nat → Nat) (t : Nat → Nat → ByteArray) (n : Nat) : ∀ k, k ≤ n → gl C t k ≤ gl C t n := by
  have aux : ∀ m k, gl C t k ≤ gl C t (k + m) := by
    intro m
    induction m with
    | zero => intro k; exact Nat.le_refl _
    | succ m ih => intro k; have := ih k; rw [← Nat.add_assoc, gl]; omega
  intro k hk
  have := aux (n - k) k
  rwa [show k + (n - k) = n by omega] at this
set_option maxHeartbeats 1000000 in
theorem szStringS_any (v : Value) (n : Nat) (tx : Nat → ByteArray) (l : Int) (w : World) (hv : Row1At w v n (fun j => .string (tx j))) (h0 : 0 ≤ l) (h1 : l ≤ 4398046511104) (hn : (n : Int) ≤ 9223372036854775807) (hx : ∀ j, j < n → ((tx j).size : Int) ≤ 9223372036854775807) :
    Calls Try.prog 48 #[v, .int .i64 l] w fun e w' => ∃ r : Int, e = .returned (.int .i64 r) ∧ SzR l (n + tl tx n) r ∧ Ext w w' := by
  obtain ⟨ao, ca, rfl, hca, hxa⟩ := hv
  have HX := hide hx
  have HXA := hide hxa
  clear hx hxa
  by_cases hz : l < (n : Int)
  · go_enter Try.func48, Try.ntmps48
    go_wp2
    go_ret
    exact ⟨_, rfl, .inl ⟨rfl, by omega⟩, Ext.refl _⟩
  by_cases hz0 : n = 0
  · subst hz0
    go_enter Try.func48, Try.ntmps48
    go_wp2
    go_loop [1, 5] (fun a i => a = .int .i64 l ∧ i = .int .i64 0) (fun _ _ => 0)
    case atStart => exact ⟨by go_num, rfl⟩
    case round =>
      obtain ⟨rfl, rfl⟩ := hrel
      go_wp2
      go_ret
      exact ⟨_, rfl, .inr ⟨by simp [tl], h0⟩, Ext.refl _⟩
  · obtain ⟨b, off, rfl, hc⟩ := (unhide HXA) (by omega)
    have HC := hide hc
    clear HXA hc
    go_enter Try.func48, Try.ntmps48
    go_wp2
    go_loopw [1, 5] (fun a i wr => ∃ (k : Nat), k ≤ n ∧ (0 : Int) ≤ l - (n : Int) - (tl tx k : Int) ∧ a = .int .i64 (l - (n : Int) - (tl tx k : Int)) ∧ i = .int .i64 k ∧ Ext w wr) (fun _ i _ => n - (intOf i).toNat)
    case atStart => exact ⟨0, Nat.zero_le _, by simp [tl]; omega, by simp [tl], rfl, Ext.refl _⟩
    case round =>
      obtain ⟨k, hk, hp, rfl, rfl, hext⟩ := hrel
      by_cases hlt : k < n
      · have g1 := hext.cell ((unhide HC) k hlt)
        have bk : (k : Int) < (n : Int) := by omega
        have hm := (unhide HX) k hlt
        have hs : Hid (tl tx (k + 1) = tl tx k + (tx k).size) := rfl
        have hmn := tl_le tx n (k + 1) (by omega)
        rw [hs.out] at hmn
        obtain ⟨s, hss⟩ : ∃ s, s = tl tx k := ⟨_, rfl⟩
        rw [← hss] at hs hp hmn ⊢
        clear hss
        by_cases hq : l - (n : Int) - (s : Int) < ((tx k).size : Int)
        · have hneg : l - (n : Int) - (s : Int) - ((tx k).size : Int) < 0 := by omega
          go_wp2
          go_ret
          exact ⟨_, rfl, .inl ⟨rfl, by omega⟩, hext⟩
        · have hneg : ¬ l - (n : Int) - (s : Int) - ((tx k).size : Int) < 0 := by omega
          go_wp2
          go_roundw
          case rel => exact ⟨k + 1, by omega, by rw [hs.out]; omega, by rw [hs.out]; go_num, by go_num, hext⟩
          case measure => simp [intOf]; omega
      · obtain rfl : k = n := by omega
        go_wp2
        go_ret
        exact ⟨_, rfl, .inr ⟨by omega, hp⟩, hext⟩
set_option maxHeartbeats 1000000 in
theorem szCellSS_any (v : Value) (n : Nat) (C : Nat → Nat) (tx : Nat → Nat → ByteArray) (hf : Nat → Nat → Bool) (l : Int) (w : World) (hv : GridAt w v n C (fun i j => .string (tx i j)) (fun i j => .bool (hf i j))) (h0 : 0 ≤ l) (h1 : l ≤ 4398046511104) (hn : (n : Int) ≤ 9223372036854775807) (hx : ∀ i, i < n → (C i : Int) ≤ 9223372036854775807 ∧ ∀ j, j < C i → ((tx i j).size : Int) ≤ 9223372036854775807) :
    Calls Try.prog 46 #[v, .int .i64 l] w fun e w' => ∃ r : Int, e = .returned (.int .i64 r) ∧ SzR l (n + gl C tx n) r ∧ Ext w w' := by
  obtain ⟨rv, ⟨ao, ca, rfl, hca, hxa⟩, hr⟩ := hv
  have HX := hide hx
  have HXA := hide hxa
  have HR := hide hr
  clear hx hxa hr
  by_cases hz : l < (n : Int)
  · go_enter Try.func46, Try.ntmps46
    go_wp2
    go_ret
    exact ⟨_, rfl, .inl ⟨rfl, by omega⟩, Ext.refl _⟩
  by_cases hz0 : n = 0
  · subst hz0
    go_enter Try.func46, Try.ntmps46
    go_wp2
    go_loop [1, 5] (fun a i => a = .int .i64 l ∧ i = .int .i64 0) (fun _ _ => 0)
    case atStart => exact ⟨by go_num, rfl⟩
    case round =>
      obtain ⟨rfl, rfl⟩ := hrel
      go_wp2
      go_ret
      exact ⟨_, rfl, .inr ⟨by simp [gl], h0⟩, Ext.refl _⟩
  · obtain ⟨b, off, rfl, hc⟩ := (unhide HXA) (by omega)
    have HC := hide hc
    clear HXA hc
    go_enter Try.func46, Try.ntmps46
    go_wp2
    go_loopw [1, 5] (fun a i wr => ∃ (k : Nat), k ≤ n ∧ (0 : Int) ≤ l - (n : Int) - (gl C tx k : Int) ∧ a = .int .i64 (l - (n : Int) - (gl C tx k : Int)) ∧ i = .int .i64 k ∧ Ext w wr) (fun _ i _ => n - (intOf i).toNat)
    case atStart => exact ⟨0, Nat.zero_le _, by simp [gl]; omega, by simp [gl], rfl, Ext.refl _⟩
    case round =>
      obtain ⟨k, hk, hp, rfl, rfl, hext⟩ := hrel
      by_cases hlt : k < n
      · have g1 := hext.cell ((unhide HC) k hlt)
        have bk : (k : Int) < (n : Int) := by omega
        have hm := (unhide HX) k hlt
        have hs : Hid (gl C tx (k + 1) = gl C tx k + (C k + tl (tx k) (C k))) := rfl
        have hmn := gl_le C tx n (k + 1) (by omega)
        rw [hs.out] at hmn
        obtain ⟨s, hss⟩ : ∃ s, s = gl C tx k := ⟨_, rfl⟩
        rw [← hss] at hs hp hmn ⊢
        clear hss
        have hcon := hide (fun W (hW : Ext wr W) => szCellS_any (rv k) (C k) (tx k) (hf k) (l - (n : Int) - (s : Int)) W (((unhide HR) k hlt).ext (hext.trans hW)) hp (by omega) hm.1 hm.2)
        clear hm
        go_wp2_with fail
        refine ((unhide hcon) _ (Ext.refl _)).mono ?_
        rintro e w2 ⟨r, rfl, hr, he⟩
        rcases hr with ⟨rfl, hq⟩ | ⟨hq, hr0⟩
        · go_wp2
          go_ret
          exact ⟨_, rfl, .inl ⟨rfl, by omega⟩, hext.trans he⟩
        · have hneg : ¬ r < 0 := by omega
          have HQ := hide hq
          clear hq
          go_wp2
          go_roundw
          case rel =>
            have hq := unhide HQ
            exact ⟨k + 1, by omega, by rw [hs.out]; omega, by rw [hs.out, hq]; congr 1; omega, by go_num, hext.trans he⟩
          case measure => simp [intOf]; omega
      · obtain rfl : k = n := by omega
        go_wp2
        go_ret
        exact ⟨_, rfl, .inr ⟨by omega, hp⟩, hext⟩
def SD.bulk (d : SD) : Nat := (d.R + gl d.C d.tx d.R) + d.hold.length + (d.nb + tl d.bk d.nb)
structure SD.Came (d : SD) : Prop where
  R : (d.R : Int) ≤ 9223372036854775807
  C : ∀ i, i < d.R → (d.C i : Int) ≤ 9223372036854775807 ∧ ∀ j, j < d.C i → ((d.tx i j).size : Int) ≤ 9223372036854775807
  hold : (d.hold.length : Int) ≤ 9223372036854775807
  nb : (d.nb : Int) ≤ 9223372036854775807
  bk : ∀ j, j < d.nb → ((d.bk j).size : Int) ≤ 9223372036854775807
set_option maxHeartbeats 1000000 in
theorem szScreen_any (d : SD) (gv hv bv : Value) (l : Int) (w : World) (h : ScrAt w d gv hv bv) (hC : d.Came) (h0 : 0 ≤ l) (h1 : l ≤ 4398046511104) :
    Calls Try.prog 20 #[scrV d gv hv bv, .int .i64 l] w fun e w' => ∃ r : Int, e = .returned (.int .i64 r) ∧ SzR l d.bulk r ∧ Ext w w' := by
  obtain ⟨k1, k2, k3, k4, k5⟩ := hC
  obtain ⟨ha, hc, hve, _, _⟩ := h.2.1
  subst hve
  have HH := hide h
  have K2 := hide k2
  have K5 := hide k5
  have hb : Hid (d.bulk = (d.R + gl d.C d.tx d.R) + d.hold.length + (d.nb + tl d.bk d.nb)) := rfl
  clear h k2 k5
  unfold scrV
  go_enter Try.func20, Try.ntmps20
  go_wp2_with fail
  have E0 : ∀ a, Ext w (w.alloc a) := fun a => (Ext.refl _).alloc _
  refine (szCellSS_any gv d.R d.C d.tx d.hf l _ ((unhide HH).ext (E0 _)).1 h0 h1 k1 (unhide K2)).mono ?_
  rintro e w1 ⟨r1, rfl, q1, F1⟩
  have E1 := (E0 _).trans F1
  obtain ⟨hcc, hff⟩ := F1.rules
  rcases q1 with ⟨rfl, q1⟩ | ⟨q1, p1⟩
  · go_wp2
    go_ret
    exact ⟨_, rfl, .inl ⟨rfl, by rw [hb.out]; omega⟩, E1⟩
  have Q1 := hide q1
  have n1 : ¬ r1 < 0 := by omega
  have hcon := hide (fun W => szByteS_any ha d.hold.length hc r1 W p1 (by omega) k3)
  clear q1
  by_cases c1 : r1 < (d.hold.length : Int)
  · rw [if_pos c1] at hcon
    go_wp2_with fail
    refine ((unhide hcon) _).mono ?_
    rintro e w2 ⟨rfl, rfl⟩
    go_wp2
    go_ret
    exact ⟨_, rfl, .inl ⟨rfl, by have := unhide Q1; rw [hb.out]; omega⟩, E1⟩
  · rw [if_neg c1] at hcon
    go_wp2_with fail
    refine ((unhide hcon) _).mono ?_
    rintro e w2 ⟨rfl, rfl⟩
    have n2 : ¬ r1 - (d.hold.length : Int) < 0 := by omega
    have hr1 : r1 ≤ 4398046511104 := by have := unhide Q1; omega
    have hcon2 := hide (fun W (hW : Ext w W) => szStringS_any bv d.nb d.bk (r1 - (d.hold.length : Int)) W ((unhide HH).ext hW).2.2 (by omega) (by omega) k4 (unhide K5))
    go_wp2_with fail
    refine ((unhide hcon2) _ E1).mono ?_
    rintro e w3 ⟨r3, rfl, q3, F3⟩
    rcases q3 with ⟨rfl, q3⟩ | ⟨q3, p3⟩
    · go_wp2
      go_ret
      exact ⟨_, rfl, .inl ⟨rfl, by have := unhide Q1; rw [hb.out]; omega⟩, E1.trans F3⟩
    · have n3 : ¬ r3 < 0 := by omega
      have Q3 := hide q3
      clear q3
      go_wp2
      go_ret
      exact ⟨_, rfl, .inr ⟨by have := unhide Q1; have := unhide Q3; rw [hb.out]; omega, p3⟩, E1.trans F3⟩
end Go.Proofs.Ytkimnihdjeonpab
