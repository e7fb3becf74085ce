import Derived.Test.YtopjihagpkempaaDoorBaL
import Derived.Deep.RegionHeld3
import Derived.Test.YtopjihagpkempaaDoorGapN
import Derived.Test.YtopjihagpkempaaDoorGap
namespace Go.Proofs.YtopjihagpkempaaDoor
open Go.RowKit

abbrev noT : ByteArray := { data := #[] }
set_option maxHeartbeats 1000000 in
theorem eqSnap_same (s : ByteArray) (h : ByteArray) (w : World) : Calls Tryd.prog 35 #[.agg #[.string s, .string h], .agg #[.string s, .string h]] w fun e w' => e = .returned (.bool true) ∧ Ext w w' := by
  go_enter Tryd.func35, Tryd.ntmps35
  go_wp2
  go_ret
  exact ⟨rfl, ((Ext.refl _).alloc _).alloc _⟩
set_option maxHeartbeats 1000000 in
theorem eqSnapS_same (va vb : Value) (n : Nat) (tx : Nat → ByteArray) (hf : Nat → ByteArray) (w : World) (ha : Row2At w va n (fun j => .string (tx j)) (fun j => .string (hf j))) (hb : Row2At w vb n (fun j => .string (tx j)) (fun j => .string (hf j))) (hl : n ≤ 4398046511104) :
    Calls Tryd.prog 23 #[va, vb] w fun e w' => e = .returned (.bool true) ∧ Ext w w' := by
  obtain ⟨ao, ca, rfl, hca, hxa⟩ := ha
  obtain ⟨bo, cb, rfl, hcb, hxb⟩ := hb
  by_cases h0 : n = 0
  · subst h0
    clear hxa hxb
    go_enter Tryd.func23, Tryd.ntmps23
    go_wp2
    go_loop [5] (fun i => i = .int .i64 0) (fun _ => 0)
    case atStart => rfl
    case round =>
      subst hrel
      go_wp2
      go_ret
      exact ⟨rfl, Ext.refl _⟩
  · obtain ⟨b1, o1, rfl, h1⟩ := hxa (by omega)
    obtain ⟨b2, o2, rfl, h2⟩ := hxb (by omega)
    clear hxa hxb
    have H1 := hide h1
    have H2 := hide h2
    clear h1 h2
    go_enter Tryd.func23, Tryd.ntmps23
    go_wp2
    go_loopw [5] (fun i w' => ∃ k : Nat, k ≤ n ∧ i = .int .i64 k ∧ Ext w w') (fun i _ => n - (intOf i).toNat)
    case atStart => exact ⟨0, Nat.zero_le _, rfl, Ext.refl _⟩
    case round =>
      obtain ⟨k, hk, rfl, hext⟩ := hrel
      by_cases hlt : k < n
      · have g1 := hext.cell ((unhide H1) k hlt).1
        have g2 := hext.cell ((unhide H1) k hlt).2
        have g3 := hext.cell ((unhide H2) k hlt).1
        have g4 := hext.cell ((unhide H2) k hlt).2
        have bk : (k : Int) < (n : Int) := by omega
        go_wp2
        go_region_held3 (fun W => Ext wr W ∧ W.cell? ⟨b1, o1 + k * 2, none⟩ = some (.string (tx k)) ∧ W.cell? ⟨b1, o1 + k * 2 + 1, none⟩ = some (.string (hf k)) ∧ W.cell? ⟨b2, o2 + k * 2, none⟩ = some (.string (tx k)) ∧ W.cell? ⟨b2, o2 + k * 2 + 1, none⟩ = some (.string (hf k))) (first | exact ⟨(Ext.refl wr).drew, g1, g2, g3, g4⟩ | exact ⟨(Ext.refl wr).drew.trans he', he'.cell g1, he'.cell g2, he'.cell g3, he'.cell g4⟩) (first | (go_at_call 35; refine (eqSnap_same _ _ _).mono ?_; rintro e w' ⟨rfl, he'⟩))
        rename_i hS
        have hE := hext.trans hS.1
        clear hS g1 g2 g3 g4
        go_wp2
        go_roundw
        case rel => exact ⟨k + 1, by omega, by go_num, hE⟩
        case measure => simp [intOf]; omega
      · go_wp2
        go_ret
        exact ⟨rfl, hext⟩
theorem madeS_two (a b : Value) (n j : Nat) (hj : j < n) : (madeCells (Value.agg #[a, b]).cells (n * 2)).toList[j * 2]? = some a ∧ (madeCells (Value.agg #[a, b]).cells (n * 2)).toList[j * 2 + 1]? = some b := by
  have e0 : j * 2 % 2 = 0 := by omega
  have e1 : (j * 2 + 1) % 2 = 1 := by omega
  constructor
  · simp [madeCells, Value.cells, show j * 2 < n * 2 by omega, e0]
  · simp [madeCells, Value.cells, show j * 2 + 1 < n * 2 by omega, e1]
theorem madeS_row {w : World} {base : Nat} {T : TypeId} {v : Value} {n : Nat} {a b : Value} (h : w.ownsRow base T 2 v n (madeCells (Value.agg #[a, b]).cells (n * 2)).toList) : Own2 w base T v n (fun _ => a) (fun _ => b) :=
  ⟨_, h, fun j hj => madeS_two a b n j hj⟩
theorem infoSnap : (Tryd.prog.info? 51).map (fun i => (i.zero, i.size, i.bytes)) = some (some (.agg #[.string noT, .string noT]), 2, 32) := by kernel_rfl
set_option maxHeartbeats 1000000 in
theorem toSnap_any (s : ByteArray) (b : ByteArray) (w : World) :
    Calls Tryd.prog 29 #[.agg #[.string s, .string b]] w fun e w' => e = .returned (.agg #[.string s, .string b]) ∧ Ext w w' := by
  go_enter Tryd.func29, Tryd.ntmps29
  go_wp2
  refine bodyPost_ret (v := .agg #[.string s, .string b]) (by simp [results, Tryd.results29, go_sem]) rfl ⟨rfl, ?_⟩
  exact (((Ext.refl _).alloc _).alloc _).alloc _
set_option maxHeartbeats 1000000 in
theorem toSnapS_any (v : Value) (n : Nat) (tx : Nat → ByteArray) (hf : Nat → ByteArray) (w : World) (hv : Row2At w v n (fun j => .string (tx j)) (fun j => .string (hf j))) (hn : n ≤ 1048576) :
    Calls Tryd.prog 16 #[v] w fun e w' => e = .returned (.slice (some ⟨w.heap.size, 0, none⟩) n n) ∧ Own2 w' w.heap.size 51 (.slice (some ⟨w.heap.size, 0, none⟩) n n) n (fun j => .string (tx j)) (fun j => .string (hf j)) ∧ Ext w w' := by
  obtain ⟨ic, hic, hc0, hc1, hc2⟩ := info_parts infoSnap
  obtain ⟨ao, ca, rfl, hca, hxa⟩ := hv
  have HXA := hide hxa
  clear hxa
  go_enter Tryd.func16, Tryd.ntmps16
  go_wp2_with (at_make; refine wpList_make_full _ rfl _ _ 26 rfl w.heap.size 51 ic (.agg #[.string noT, .string noT]) 2 Tryd.underlying26 hic hc0 hc1 _ _ _ _ n rfl rfl rfl rfl (by rw [hc2]; omega) (by unfold maxLen; omega) (Nat.le_refl _) ?_; intro w1 hown hgr)
  have H0 := hide ((madeS_row hown).congr (A' := fun i => if i < 0 then .string (tx i) else .string noT) (B' := fun i => if i < 0 then .string (hf i) else .string noT) (fun i _ => ⟨by simp, by simp⟩))
  have HG := hide hgr
  clear hown hgr
  go_loopw [4] (fun i wr => ∃ (j : Nat), j ≤ n ∧ i = .int .i64 j ∧ Hid (Own2 wr w.heap.size 51 (.slice (some ⟨w.heap.size, 0, none⟩) n n) n (fun i => if i < j then .string (tx i) else .string noT) (fun i => if i < j then .string (hf i) else .string noT)) ∧ Ext w wr) (fun i _ => n - (intOf i).toNat)
  case atStart => exact ⟨0, Nat.zero_le _, rfl, H0, unhide HG⟩
  case round =>
    clear H0 HG
    obtain ⟨j, hj, rfl, HO, hext⟩ := hrel
    by_cases hlt : j < n
    · obtain ⟨b, off, rfl, hc⟩ := (unhide HXA) (by omega)
      have bj : (j : Int) < (n : Int) := by omega
      have g1 := hext.cell (hc j hlt).1
      have g2 := hext.cell (hc j hlt).2
      clear hc
      go_wp2_with fail
      refine (toSnap_any (tx j) (hf j) wr).mono ?_
      rintro e w2 ⟨rfl, he⟩
      obtain ⟨⟨c0', f0⟩, c1', f1⟩ := ((unhide HO).ext he).cell hlt
      obtain ⟨u0, c0⟩ : ∃ u, w2.cell? ⟨w.heap.size, j * 2, none⟩ = some u := ⟨_, c0'⟩
      obtain ⟨u1, c1⟩ : ∃ u, w2.cell? ⟨w.heap.size, j * 2 + 1, none⟩ = some u := ⟨_, c1'⟩
      have HS := hide ((((unhide HO).ext he).set hlt (.string (tx j)) (.string (hf j))).congr (A' := fun i => if i < j + 1 then .string (tx i) else .string noT) (B' := fun i => if i < j + 1 then .string (hf i) else .string noT) (fun i _ => by
        by_cases e : i = j
        · subst e; simp
        · by_cases e2 : i < j
          · rw [if_neg e, if_neg e, if_pos e2, if_pos e2, if_pos (by omega), if_pos (by omega)]; exact ⟨rfl, rfl⟩
          · rw [if_neg e, if_neg e, if_neg e2, if_neg e2, if_neg (by omega), if_neg (by omega)]; exact ⟨rfl, rfl⟩))
      have hE := hext.trans he
      clear c0' c1'
      go_wp2
      go_roundw
      case rel => exact ⟨j + 1, by omega, by go_num, HS, (hE.setCell (Nat.le_refl _) _).setCell (Nat.le_refl _) _⟩
      case measure => simp [intOf]; omega
    · obtain rfl : j = n := by omega
      have HFIN := hide ((unhide HO).congr (A' := fun i => .string (tx i)) (B' := fun i => .string (hf i)) (fun i hi => ⟨by simp [hi], by simp [hi]⟩))
      go_wp2
      go_ret
      exact ⟨rfl, unhide HFIN, hext⟩
/-- The letters of the first j of two rows of strings. -/
def tl2 (t h : Nat → ByteArray) : Nat → Nat
  | 0 => 0
  | j + 1 => tl2 t h j + ((t j).size + (h j).size)
set_option maxHeartbeats 400000 in
theorem szSnap_any (s b : ByteArray) (l : Int) (w : World) (h0 : 0 ≤ l) (h1 : l ≤ 4398046511104) (hn : (s.size : Int) ≤ 9223372036854775807) (hm : (b.size : Int) ≤ 9223372036854775807) :
    Calls Tryd.prog 26 #[.agg #[.string s, .string b], .int .i64 l] w fun e w' => e = .returned (.int .i64 (if l < ((s.size + b.size : Nat) : Int) then -1 else l - ((s.size + b.size : Nat) : Int))) ∧ Ext w w' := by
  by_cases h : l < (s.size : Int)
  · rw [if_pos (by omega)]
    go_enter Tryd.func26, Tryd.ntmps26
    go_wp2
    go_ret
    exact ⟨rfl, (Ext.refl _).alloc _⟩
  · have h2 : ¬ l - (s.size : Int) < 0 := by omega
    by_cases h3 : l - (s.size : Int) < (b.size : Int)
    · rw [if_pos (by omega)]
      go_enter Tryd.func26, Tryd.ntmps26
      go_wp2
      go_ret
      exact ⟨rfl, (Ext.refl _).alloc _⟩
    · have h4 : ¬ l - (s.size : Int) - (b.size : Int) < 0 := by omega
      rw [if_neg (by omega)]
      have he : Hid (l - ((s.size : Int) + (b.size : Int)) = l - (s.size : Int) - (b.size : Int)) := by show _ = _; omega
      go_enter Tryd.func26, Tryd.ntmps26
      go_wp2
      go_ret
      exact ⟨by rw [he.out]; rfl, (Ext.refl _).alloc _⟩
set_option maxHeartbeats 1000000 in
theorem szSnapS_any (v : Value) (n : Nat) (tx : Nat → ByteArray) (hf : Nat → ByteArray) (l : Int) (w : World) (hv : Row2At w v n (fun j => .string (tx j)) (fun j => .string (hf j))) (h0 : 0 ≤ l) (h1 : l ≤ 4398046511104) (hn : (n : Int) ≤ 9223372036854775807) (hx : ∀ j, j < n → ((tx j).size : Int) ≤ 9223372036854775807 ∧ ((hf j).size : Int) ≤ 9223372036854775807) :
    Calls Tryd.prog 11 #[v, .int .i64 l] w fun e w' => ∃ r : Int, e = .returned (.int .i64 r) ∧ SzR l (n + tl2 tx hf n) r ∧ Ext w w' := by
  obtain ⟨ao, ca, rfl, hca, hxa⟩ := hv
  have HX := hide hx
  have HXA := hide hxa
  have hmono : Hid (∀ k, k ≤ n → tl2 tx hf k ≤ tl2 tx hf n) := by
    have aux : ∀ m k, tl2 tx hf k ≤ tl2 tx hf (k + m) := by
      intro m
      induction m with
      | zero => intro k; exact Nat.le_refl _
      | succ m ih => intro k; have := ih k; rw [← Nat.add_assoc, tl2]; omega
    intro k hk
    have := aux (n - k) k
    rwa [show k + (n - k) = n by omega] at this
  clear hx hxa
  by_cases hz : l < (n : Int)
  · go_enter Tryd.func11, Tryd.ntmps11
    go_wp2
    go_ret
    exact ⟨_, rfl, .inl ⟨rfl, by omega⟩, Ext.refl _⟩
  by_cases hz0 : n = 0
  · subst hz0
    go_enter Tryd.func11, Tryd.ntmps11
    go_wp2
    go_loop [1, 5] (fun a i => a = .int .i64 l ∧ i = .int .i64 0) (fun _ _ => 0)
    case atStart => exact ⟨by go_num, rfl⟩
    case round =>
      obtain ⟨rfl, rfl⟩ := hrel
      go_wp2
      go_ret
      exact ⟨_, rfl, .inr ⟨by simp [tl2], h0⟩, Ext.refl _⟩
  · obtain ⟨b, off, rfl, hc⟩ := (unhide HXA) (by omega)
    have HC := hide hc
    clear HXA hc
    go_enter Tryd.func11, Tryd.ntmps11
    go_wp2
    go_loopw [1, 5] (fun a i wr => ∃ (k : Nat), k ≤ n ∧ (0 : Int) ≤ l - (n : Int) - (tl2 tx hf k : Int) ∧ a = .int .i64 (l - (n : Int) - (tl2 tx hf k : Int)) ∧ i = .int .i64 k ∧ Ext w wr) (fun _ i _ => n - (intOf i).toNat)
    case atStart => exact ⟨0, Nat.zero_le _, by simp [tl2]; omega, by simp [tl2], rfl, Ext.refl _⟩
    case round =>
      obtain ⟨k, hk, hp, rfl, rfl, hext⟩ := hrel
      by_cases hlt : k < n
      · have g1 := hext.cell ((unhide HC) k hlt).1
        have g2 := hext.cell ((unhide HC) k hlt).2
        have bk : (k : Int) < (n : Int) := by omega
        have hm := (unhide HX) k hlt
        have hs : Hid (tl2 tx hf (k + 1) = tl2 tx hf k + ((tx k).size + (hf k).size)) := rfl
        have hmn := (unhide hmono) (k + 1) (by omega)
        rw [hs.out] at hmn
        obtain ⟨s, hss⟩ : ∃ s, s = tl2 tx hf k := ⟨_, rfl⟩
        rw [← hss] at hs hp hmn ⊢
        clear hss
        have hcon := hide (fun W => szSnap_any (tx k) (hf k) (l - (n : Int) - (s : Int)) W hp (by omega) hm.1 hm.2)
        by_cases hq : l - (n : Int) - (s : Int) < (((tx k).size + (hf k).size : Nat) : Int)
        · rw [if_pos hq] at hcon
          go_wp2_with fail
          refine ((unhide hcon) _).mono ?_
          rintro e w2 ⟨rfl, he⟩
          go_wp2
          go_ret
          exact ⟨_, rfl, .inl ⟨rfl, by omega⟩, hext.trans he⟩
        · rw [if_neg hq] at hcon
          go_wp2_with fail
          refine ((unhide hcon) _).mono ?_
          rintro e w2 ⟨rfl, he⟩
          go_wp2
          go_roundw
          case rel => exact ⟨k + 1, by omega, by rw [hs.out]; omega, by rw [hs.out]; go_num, by go_num, hext.trans he⟩
          case measure => simp [intOf]; omega
      · obtain rfl : k = n := by omega
        go_wp2
        go_ret
        exact ⟨_, rfl, .inr ⟨by omega, hp⟩, hext⟩
set_option maxHeartbeats 1000000 in
theorem szLine_any (a b c : ByteArray) (v : Value) (n : Nat) (tx hf : Nat → ByteArray) (l : Int) (w : World) (hv : Row2At w v n (fun j => .string (tx j)) (fun j => .string (hf j))) (h0 : 0 ≤ l) (h1 : l ≤ 4398046511104) (ha : (a.size : Int) ≤ 9223372036854775807) (hb : (b.size : Int) ≤ 9223372036854775807) (hc : (c.size : Int) ≤ 9223372036854775807) (hn : (n : Int) ≤ 9223372036854775807) (hx : ∀ j, j < n → ((tx j).size : Int) ≤ 9223372036854775807 ∧ ((hf j).size : Int) ≤ 9223372036854775807) :
    Calls Tryd.prog 4 #[.agg #[.string a, .string b, .string c, v], .int .i64 l] w fun e w' => ∃ r : Int, e = .returned (.int .i64 r) ∧ (r < 0 ∨ (0 ≤ r ∧ ((a.size + b.size + c.size + (n + tl2 tx hf n) : Nat) : Int) ≤ l)) ∧ Ext w w' := by
  obtain ⟨ao, cap, hvv, _, _⟩ := id hv
  have HV := hide hv
  subst hvv
  clear hv
  have H1 := hide hx
  clear hx
  by_cases q1 : l < (a.size : Int)
  · go_enter Tryd.func4, Tryd.ntmps4
    go_wp2
    go_ret
    exact ⟨-1, rfl, .inl (by omega), (Ext.refl _).alloc _⟩
  have q1b : ¬ l - (a.size : Int) < 0 := by omega
  by_cases q2 : l - (a.size : Int) < (b.size : Int)
  · go_enter Tryd.func4, Tryd.ntmps4
    go_wp2
    go_ret
    exact ⟨-1, rfl, .inl (by omega), (Ext.refl _).alloc _⟩
  have q2b : ¬ l - (a.size : Int) - (b.size : Int) < 0 := by omega
  by_cases q3 : l - (a.size : Int) - (b.size : Int) < (c.size : Int)
  · go_enter Tryd.func4, Tryd.ntmps4
    go_wp2
    go_ret
    exact ⟨-1, rfl, .inl (by omega), (Ext.refl _).alloc _⟩
  have q3b : ¬ l - (a.size : Int) - (b.size : Int) - (c.size : Int) < 0 := by omega
  have hcon := hide (fun W (hW : Ext w W) => szSnapS_any (.slice ao n cap) n tx hf (l - (a.size : Int) - (b.size : Int) - (c.size : Int)) W ((unhide HV).ext hW) (by omega) (by omega) hn (unhide H1))
  go_enter Tryd.func4, Tryd.ntmps4
  go_wp2_with fail
  refine ((unhide hcon) _ ((Ext.refl _).alloc _)).mono ?_
  rintro e w1 ⟨r, rfl, hr, F1⟩
  rcases hr with ⟨rfl, _⟩ | ⟨hr, hr0⟩
  · go_wp2
    go_ret
    exact ⟨-1, rfl, .inl (by omega), ((Ext.refl _).alloc _).trans F1⟩
  · have hrn : ¬ r < 0 := by omega
    have hfin : Hid (((a.size + b.size + c.size + (n + tl2 tx hf n) : Nat) : Int) ≤ l) := by refine hide ?_; omega
    clear hr
    go_wp2
    go_ret
    exact ⟨r, rfl, .inr ⟨hr0, unhide hfin⟩, ((Ext.refl _).alloc _).trans F1⟩
set_option maxHeartbeats 1000000 in
theorem toLine_any (a b c : ByteArray) (v : Value) (n : Nat) (tx hf : Nat → ByteArray) (w : World) (hv : Row2At w v n (fun j => .string (tx j)) (fun j => .string (hf j))) (hn : n ≤ 1048576) :
    Calls Tryd.prog 6 #[.agg #[.string a, .string b, .string c, v]] w fun e w' => e = .returned (.agg #[.string a, .string b, .string c, .slice (some ⟨w.heap.size + 3, 0, none⟩) n n]) ∧ Own2 w' (w.heap.size + 3) 51 (.slice (some ⟨w.heap.size + 3, 0, none⟩) n n) n (fun j => .string (tx j)) (fun j => .string (hf j)) ∧ Ext w w' := by
  have HV := hide hv
  obtain ⟨ao, cap, rfl, _, _⟩ := hv
  have hcon := hide (fun W (hW : Ext w W) => toSnapS_any (.slice ao n cap) n tx hf W ((unhide HV).ext hW) hn)
  go_enter Tryd.func6, Tryd.ntmps6
  go_wp2_with fail
  refine ((unhide hcon) _ (by repeat' first | exact Ext.refl _ | refine Ext.alloc ?_ _ | refine Ext.setCell ?_ (by dsimp only; omega) _)).mono ?_
  rintro e w1 ⟨rfl, o1, F1⟩
  obtain ⟨hc, hf'⟩ := F1.rules
  have hz3 : ∀ o1 o2 o3, (((w.alloc o1).alloc o2).alloc o3).heap.size = w.heap.size + 3 := fun o1 o2 o3 => by simp
  rw [hz3] at o1 ⊢
  have hz : w.heap.size + 3 < w1.heap.size := by
    obtain ⟨ys, h1, _⟩ := o1
    exact (h1.lt _ rfl).2
  have a0 : w1.cell? ⟨w.heap.size + 1, 0, none⟩ = some (.string noT) := by rw [hc _ _ (by simp)]; simp [go_sem]
  have a1 : w1.cell? ⟨w.heap.size + 1, 1, none⟩ = some (.string noT) := by rw [hc _ _ (by simp)]; simp [go_sem]
  have a2 : w1.cell? ⟨w.heap.size + 1, 2, none⟩ = some (.string noT) := by rw [hc _ _ (by simp)]; simp [go_sem]
  have a3 : w1.cell? ⟨w.heap.size + 1, 3, none⟩ = some (.slice none 0 0) := by rw [hc _ _ (by simp)]; simp [go_sem]
  have O1 := hide o1
  have E1 : Ext w w1 := Ext.trans ((((Ext.refl w).alloc _).alloc _).alloc _) F1
  clear o1
  go_wp2
  refine bodyPost_ret (v := .agg #[.string a, .string b, .string c, .slice (some ⟨w.heap.size + 3, 0, none⟩) n n]) (by simp [results, Tryd.results6, go_sem, a0, a1, a2, a3]) rfl ⟨rfl, ?_, ?_⟩
  · obtain ⟨ys, h1, h2⟩ := unhide O1
    refine ⟨ys, ?_, h2⟩
    repeat (refine owns_setCell ?_ (by simp [Value.ownBlock]) _)
    exact h1
  · repeat (refine Ext.setCell ?_ (by dsimp only; omega) _)
    exact E1
set_option maxHeartbeats 1000000 in
theorem eqLine_same (a b c : ByteArray) (va vb : Value) (n : Nat) (tx hf : Nat → ByteArray) (w : World) (ha : Row2At w va n (fun j => .string (tx j)) (fun j => .string (hf j))) (hb : Row2At w vb n (fun j => .string (tx j)) (fun j => .string (hf j))) (hn : n ≤ 4398046511104) :
    Calls Tryd.prog 8 #[.agg #[.string a, .string b, .string c, va], .agg #[.string a, .string b, .string c, vb]] w fun e w' => e = .returned (.bool true) ∧ Ext w w' := by
  have hcon := hide (fun W (hW : Ext w W) => eqSnapS_same va vb n tx hf W (ha.ext hW) (hb.ext hW) hn)
  obtain ⟨ao, cap, rfl, _, _⟩ := ha
  obtain ⟨bo, cbp, rfl, _, _⟩ := hb
  go_enter Tryd.func8, Tryd.ntmps8
  go_wp2_with fail
  refine ((unhide hcon) _ (((Ext.refl _).alloc _).alloc _)).mono ?_
  rintro e w1 ⟨rfl, F1⟩
  go_wp2
  go_ret
  exact ⟨rfl, (((Ext.refl _).alloc _).alloc _).trans F1⟩
end Go.Proofs.YtopjihagpkempaaDoor

namespace Go.Proofs.YtopjihagpkempaaDoor
open Go.RowKit

/-- What takes a change back: the texts lie in a box. -/
def bkF (q : Nat) : Value := .func (.func 45) #[] #[.pointer (some ⟨q, 0, none⟩)]
def SnapBox (W : World) (q : Nat) (s : ByteArray × ByteArray) : Prop := W.heap[q]? = some (.cells #[.string s.1, .string s.2] 51 (0, 0))
theorem infoBack : (Tryd.prog.info? 67).map (fun i => (i.zero, i.size, i.bytes)) = some (some .nilFunc, 1, 8) := by kernel_rfl
theorem Fr.off {P : Nat} {S : Nat → Prop} {W0 W w' : World} (h : Fr (fun q => q = P) W0 W) (k : Fr S W w') (hS : ∀ x, S x → x = P ∨ W0.heap.size ≤ x) : Fr (fun q => q = P) W0 w' := by
  refine ⟨k.os.trans h.os, k.tape.trans h.tape, k.output.trans h.output, Nat.le_trans h.size k.size, fun i hi hn => (k.block i (Nat.lt_of_lt_of_le hi h.size) (fun e => ?_)).trans (h.block i hi hn)⟩
  rcases hS i e with e | e
  · exact hn e
  · omega
theorem ed_off {W : World} {P base n : Nat} {cs : Array Value} {u : Value} {xs : List Value} (hP : W.heap[P]? = some (.cells cs 64 (0, 0))) (hO : W.ownsRow base 67 1 u n xs) : ¬ u.ownBlock = some P := by
  intro e
  rcases hO.2 with ⟨rfl, _⟩ | ⟨g, cap, cur, rfl, hb, hg, _⟩
  · simp [Value.ownBlock] at e
  · simp [Value.ownBlock] at e
    subst e
    rw [hP] at hg
    simp at hg
theorem SnapBox.fr {W w' : World} {q : Nat} {s : ByteArray × ByteArray} {S : Nat → Prop} (h : SnapBox W q s) (f : Fr S W w') (hq : ¬ S q) : SnapBox w' q s := f.kept h hq
theorem SnapBox.off {W : World} {q : Nat} {s : ByteArray × ByteArray} (h : SnapBox W q s) {P base n : Nat} {cs : Array Value} {u : Value} {xs : List Value} (hP : W.heap[P]? = some (.cells cs 64 (0, 0))) (hO : W.ownsRow base 67 1 u n xs) : ¬ (q = P ∨ u.ownBlock = some q) := by
  rintro (e | e)
  · subst e
    unfold SnapBox at h
    rw [h] at hP
    simp at hP
  · rcases hO.2 with ⟨rfl, _⟩ | ⟨g, cap, cur, rfl, hb, hg, _⟩
    · simp [Value.ownBlock] at e
    · simp [Value.ownBlock] at e
      subst e
      unfold SnapBox at h
      rw [h] at hg
      simp at hg
theorem owns_sl {w : World} {b : Nat} {T : TypeId} {sz : Nat} {v : Value} {n : Nat} {xs : List Value} (h : w.ownsRow b T sz v n xs) : ∃ a c, v = .slice a n c := by
  rcases h.2 with ⟨rfl, h0⟩ | ⟨g, c, _, rfl, _⟩
  · exact ⟨none, 0, by rw [h0]⟩
  · exact ⟨_, c, rfl⟩
set_option maxRecDepth 10000 in
set_option maxHeartbeats 4000000 in
theorem back_any (q : Nat) (s : ByteArray × ByteArray) (W : World) (h : SnapBox W q s) : Calls Tryd.prog 45 #[.pointer (some ⟨q, 0, none⟩)] W fun e w' => e = .returned (.agg #[.string s.1, .string s.2]) ∧ Ext W w' := by
  have c0 := cells_of h 0 _ rfl
  have c1 := cells_of h 1 _ rfl
  have hlt : q < W.heap.size := (Array.getElem?_eq_some_iff.1 h).1
  have E0 : Ext W (W.alloc (.cells #[.string { data := #[] }, .string { data := #[] }] 51)) := (Ext.refl W).alloc _
  have infoS : (Tryd.prog.info? 51).map (·.size) = some 2 := by kernel_rfl
  have HA := hide (E0.kept h)
  have HN := hide (heap_alloc_new W (.cells #[.string { data := #[] }, .string { data := #[] }] 51))
  clear h
  go_enter Tryd.func45, Tryd.ntmps45
  go_wp2_with (first
    | (refine wpList_load_blk rfl 51 _ rfl q rfl _ _ _ _ (unhide HA) Tryd.underlying51 rfl infoS ?_)
    | (refine wpList_store_blk rfl 51 _ _ rfl rfl (W.heap.size) rfl _ _ _ rfl (unhide HN) infoS rfl (by simp [Value.oneCell']) ?_; intro U HB hU; have HB9 := hide HB; have HU9 := hide hU; clear HB hU))
  have v0 := cells_of (unhide HB9) 0 _ rfl
  have v1 := cells_of (unhide HB9) 1 _ rfl
  exact bodyPost_ret (v := .agg #[.string s.1, .string s.2]) (by simp [results, Tryd.results45, go_sem, v0, v1]) rfl ⟨rfl, (unhide HU9).ext E0 (fun q hq => by omega)⟩
set_option maxRecDepth 10000 in
set_option maxHeartbeats 8000000 in
theorem push_any (P : Nat) (cl : List Value) (f0 b0 : Int) (k : ByteArray) (u : Value) (qs : List Nat) (base : Nat) (a b : ByteArray) (W : World) (hP : W.heap[P]? = some (.cells (edC cl f0 b0 k u) 64 (0, 0))) (hl : cl.length = 600) (hO : W.ownsRow base 67 1 u qs.length (qs.map bkF)) (hb : base ≤ W.heap.size) (hn : qs.length ≤ 50) :
    Calls Tryd.prog 32 #[.pointer (some ⟨P, 0, none⟩), .agg #[.string a, .string b]] W fun e w' => ∃ u' q, e = .returned (.tuple #[]) ∧ w'.heap[P]? = some (.cells (edC cl f0 b0 k u') 64 (0, 0)) ∧ w'.ownsRow base 67 1 u' (qs ++ [q]).length ((qs ++ [q]).map bkF) ∧ SnapBox w' q (a, b) ∧ Fr (fun x => x = P ∨ u.ownBlock = some x) W w' := by
  obtain ⟨ic, hic, hc0, hc1, hc2⟩ := info_parts infoBack
  have hPl : P < W.heap.size := (Array.getElem?_eq_some_iff.1 hP).1
  have c603 := (edG_cells hP hl).2.2.2.1
  have hmf : ∀ (fn : Fn) (first cap : Array Value) (w : World), (Instr.makeFunc fn first cap).run Tryd.prog w = .ok (.func fn first cap) w := fun _ _ _ _ => rfl
  have hoff := ed_off hP hO
  have HP := hide hP
  have HO := hide hO
  have hne : ¬ W.heap.size = P := by omega
  have hsr := Src.made (w := W.alloc (.cells #[.string a, .string b] 51)) (size := 1) [bkF W.heap.size] 1 67 rfl (by simp [Value.oneCell', bkF])
  rw [show (W.alloc (.cells #[.string a, .string b] 51)).heap.size = W.heap.size + 1 by simp] at hsr
  have HSR := hide hsr
  clear hP hO hsr
  go_enter Tryd.func32, Tryd.ntmps32
  go_wp2_with (at_builtin; go_loud (
     refine wpList_app rfl _ _ 62 rfl base 67 ic .nilFunc 1 8 Tryd.underlying62 hic hc0 hc1 hc2 rfl (by decide) u qs.length (qs.map bkF) rfl (((unhide HO).alloc _).alloc _) _ 1 [bkF W.heap.size] rfl (unhide HSR) (by unfold maxLen; omega) (by omega) (by simp; omega) ?_
     intro v5 w5 o5 G5 _
     obtain ⟨a5, z5, rfl⟩ := owns_sl o5
     have X5 : Ext W ((W.alloc (.cells #[.string a, .string b] 51)).alloc (.cells #[bkF W.heap.size] 67)) := ((Ext.refl W).alloc _).alloc _
     have F5 : Fr (fun x => u.ownBlock = some x) W w5 := Fr.grown (Fr.of_ext X5) G5 (fun x hx => hx)
     have p5 := F5.kept (unhide HP) hoff
     have s5 : SnapBox w5 W.heap.size (a, b) := Fr.kept (S := fun x => u.ownBlock = some x) (Fr.grown (Fr.refl _ _) G5 (fun x hx => hx)) (((Ext.refl _).alloc _).kept (heap_alloc_new W _)) (fun e => by have := ((unhide HO).lt _ e).2; omega)
     have k5 := (edG_cells p5 hl).2.2.2.1
     have g5 := (edG_cells p5 hl).2.2.2.2.2.2
     have HO5 := hide o5
     have HP5 := hide p5
     have HS5 := hide s5
     have HF5 := hide F5
     clear o5 G5 X5 p5 s5 F5))
  have p6 := heap_setCell_same w5 P 603 _ _ (.slice a5 (qs.length + 1) z5) (unhide HP5)
  have e6 : (edC cl f0 b0 k u).setIfInBounds 603 (.slice a5 (qs.length + 1) z5) = edC cl f0 b0 k (.slice a5 (qs.length + 1) z5) := by unfold edC; simp [hl]
  rw [e6] at p6
  have F6 : Fr (fun x => x = P) w5 (w5.setCell ⟨P, 603, none⟩ (.slice a5 (qs.length + 1) z5)) := Fr.setCell (S := fun q => q = P) (Fr.refl _ w5) (a := ⟨P, 603, none⟩) rfl _
  have eL : qs.map bkF ++ [bkF W.heap.size] = (qs ++ [W.heap.size]).map bkF := by simp
  have eN : qs.length + 1 = (qs ++ [W.heap.size]).length := by simp
  have o6 := F6.owns (unhide HO5) (fun g hg e => ed_off (unhide HP5) (unhide HO5) (by rw [hg, e]))
  rw [eL] at o6
  exact bodyPost_end (v := .tuple #[]) (by simp [results, Tryd.results32, go_sem]) rfl ⟨_, W.heap.size, rfl, p6, by rw [← eN]; exact o6, (unhide HS5).fr F6 (fun e => hne e), ((unhide HF5).mono (fun x hx => .inr hx)).tr (F6.mono (fun x hx => .inl hx))⟩
end Go.Proofs.YtopjihagpkempaaDoor
