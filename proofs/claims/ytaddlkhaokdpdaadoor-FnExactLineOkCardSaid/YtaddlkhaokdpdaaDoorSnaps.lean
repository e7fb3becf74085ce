import Derived.Test.YtaddlkhaokdpdaaDoorRows12
import Derived.Test.YtaddlkhaokdpdaaDoorSzB
import Derived.Deep.RegionHeld3
namespace Go.Proofs.YtaddlkhaokdpdaaDoor
open Go.RowKit
abbrev noT : ByteArray := { data := #[] }
theorem infoSnap : (Tryd.prog.info? 54).map (fun i => (i.zero, i.size, i.bytes)) = some (some (.agg #[.string noT, .string noT]), 2, 32) := by kernel_rfl
set_option maxHeartbeats 1000000 in
theorem eqSnap_same (s : ByteArray) (h : ByteArray) (w : World) : Calls Tryd.prog 52 #[.agg #[.string s, .string h], .agg #[.string s, .string h]] w fun e w' => e = .returned (.bool true) ∧ Ext w w' := by
  go_enter Tryd.func52, Tryd.ntmps52
  go_wp2
  go_ret
  exact ⟨rfl, ((Ext.refl _).alloc _).alloc _⟩
set_option maxHeartbeats 1000000 in
theorem eqSnapS_same (va vb : Value) (n : Nat) (tx : Nat → ByteArray) (hf : Nat → ByteArray) (w : World) (ha : Row2At w va n (fun j => .string (tx j)) (fun j => .string (hf j))) (hb : Row2At w vb n (fun j => .string (tx j)) (fun j => .string (hf j))) (hl : n ≤ 4398046511104) :
    Calls Tryd.prog 34 #[va, vb] w fun e w' => e = .returned (.bool true) ∧ Ext w w' := by
  obtain ⟨ao, ca, rfl, hca, hxa⟩ := ha
  obtain ⟨bo, cb, rfl, hcb, hxb⟩ := hb
  by_cases h0 : n = 0
  · subst h0
    clear hxa hxb
    go_enter Tryd.func34, Tryd.ntmps34
    go_wp2
    go_loop [5] (fun i => i = .int .i64 0) (fun _ => 0)
    case atStart => rfl
    case round =>
      subst hrel
      go_wp2
      go_ret
      exact ⟨rfl, Ext.refl _⟩
  · obtain ⟨b1, o1, rfl, h1⟩ := hxa (by omega)
    obtain ⟨b2, o2, rfl, h2⟩ := hxb (by omega)
    clear hxa hxb
    have H1 := hide h1
    have H2 := hide h2
    clear h1 h2
    go_enter Tryd.func34, Tryd.ntmps34
    go_wp2
    go_loopw [5] (fun i w' => ∃ k : Nat, k ≤ n ∧ i = .int .i64 k ∧ Ext w w') (fun i _ => n - (intOf i).toNat)
    case atStart => exact ⟨0, Nat.zero_le _, rfl, Ext.refl _⟩
    case round =>
      obtain ⟨k, hk, rfl, hext⟩ := hrel
      by_cases hlt : k < n
      · have g1 := hext.cell ((unhide H1) k hlt).1
        have g2 := hext.cell ((unhide H1) k hlt).2
        have g3 := hext.cell ((unhide H2) k hlt).1
        have g4 := hext.cell ((unhide H2) k hlt).2
        have bk : (k : Int) < (n : Int) := by omega
        go_wp2
        go_region_held3 (fun W => Ext wr W ∧ W.cell? ⟨b1, o1 + k * 2, none⟩ = some (.string (tx k)) ∧ W.cell? ⟨b1, o1 + k * 2 + 1, none⟩ = some (.string (hf k)) ∧ W.cell? ⟨b2, o2 + k * 2, none⟩ = some (.string (tx k)) ∧ W.cell? ⟨b2, o2 + k * 2 + 1, none⟩ = some (.string (hf k))) (first | exact ⟨(Ext.refl wr).drew, g1, g2, g3, g4⟩ | exact ⟨(Ext.refl wr).drew.trans he', he'.cell g1, he'.cell g2, he'.cell g3, he'.cell g4⟩) (first | (go_at_call 52; refine (eqSnap_same _ _ _).mono ?_; rintro e w' ⟨rfl, he'⟩))
        rename_i hS
        have hE := hext.trans hS.1
        clear hS g1 g2 g3 g4
        go_wp2
        go_roundw
        case rel => exact ⟨k + 1, by omega, by go_num, hE⟩
        case measure => simp [intOf]; omega
      · go_wp2
        go_ret
        exact ⟨rfl, hext⟩
theorem madeS_two (a b : Value) (n j : Nat) (hj : j < n) : (madeCells (Value.agg #[a, b]).cells (n * 2)).toList[j * 2]? = some a ∧ (madeCells (Value.agg #[a, b]).cells (n * 2)).toList[j * 2 + 1]? = some b := by
  have e0 : j * 2 % 2 = 0 := by omega
  have e1 : (j * 2 + 1) % 2 = 1 := by omega
  constructor
  · simp [madeCells, Value.cells, show j * 2 < n * 2 by omega, e0]
  · simp [madeCells, Value.cells, show j * 2 + 1 < n * 2 by omega, e1]
theorem madeS_row {w : World} {base : Nat} {T : TypeId} {v : Value} {n : Nat} {a b : Value} (h : w.ownsRow base T 2 v n (madeCells (Value.agg #[a, b]).cells (n * 2)).toList) : Own2 w base T v n (fun _ => a) (fun _ => b) :=
  ⟨_, h, fun j hj => madeS_two a b n j hj⟩
set_option maxHeartbeats 1000000 in
theorem toSnap_any (s : ByteArray) (b : ByteArray) (w : World) :
    Calls Tryd.prog 49 #[.agg #[.string s, .string b]] w fun e w' => e = .returned (.agg #[.string s, .string b]) ∧ Ext w w' := by
  go_enter Tryd.func49, Tryd.ntmps49
  go_wp2
  refine bodyPost_ret (v := .agg #[.string s, .string b]) (by simp [results, Tryd.results49, go_sem]) rfl ⟨rfl, ?_⟩
  exact (((Ext.refl _).alloc _).alloc _).alloc _
set_option maxHeartbeats 1000000 in
theorem toSnapS_any (v : Value) (n : Nat) (tx : Nat → ByteArray) (hf : Nat → ByteArray) (w : World) (hv : Row2At w v n (fun j => .string (tx j)) (fun j => .string (hf j))) (hn : n ≤ 1048576) :
    Calls Tryd.prog 31 #[v] w fun e w' => e = .returned (.slice (some ⟨w.heap.size, 0, none⟩) n n) ∧ Own2 w' w.heap.size 54 (.slice (some ⟨w.heap.size, 0, none⟩) n n) n (fun j => .string (tx j)) (fun j => .string (hf j)) ∧ Ext w w' := by
  obtain ⟨ic, hic, hc0, hc1, hc2⟩ := info_parts infoSnap
  obtain ⟨ao, ca, rfl, hca, hxa⟩ := hv
  have HXA := hide hxa
  clear hxa
  go_enter Tryd.func31, Tryd.ntmps31
  go_wp2_with (at_make; refine wpList_make_full _ rfl _ _ 36 rfl w.heap.size 54 ic (.agg #[.string noT, .string noT]) 2 Tryd.underlying36 hic hc0 hc1 _ _ _ _ n rfl rfl rfl rfl (by rw [hc2]; omega) (by unfold maxLen; omega) (Nat.le_refl _) ?_; intro w1 hown hgr)
  have H0 := hide ((madeS_row hown).congr (A' := fun i => if i < 0 then .string (tx i) else .string noT) (B' := fun i => if i < 0 then .string (hf i) else .string noT) (fun i _ => ⟨by simp, by simp⟩))
  have HG := hide hgr
  clear hown hgr
  go_loopw [4] (fun i wr => ∃ (j : Nat), j ≤ n ∧ i = .int .i64 j ∧ Hid (Own2 wr w.heap.size 54 (.slice (some ⟨w.heap.size, 0, none⟩) n n) n (fun i => if i < j then .string (tx i) else .string noT) (fun i => if i < j then .string (hf i) else .string noT)) ∧ Ext w wr) (fun i _ => n - (intOf i).toNat)
  case atStart => exact ⟨0, Nat.zero_le _, rfl, H0, unhide HG⟩
  case round =>
    clear H0 HG
    obtain ⟨j, hj, rfl, HO, hext⟩ := hrel
    by_cases hlt : j < n
    · obtain ⟨b, off, rfl, hc⟩ := (unhide HXA) (by omega)
      have bj : (j : Int) < (n : Int) := by omega
      have g1 := hext.cell (hc j hlt).1
      have g2 := hext.cell (hc j hlt).2
      clear hc
      go_wp2_with fail
      refine (toSnap_any (tx j) (hf j) wr).mono ?_
      rintro e w2 ⟨rfl, he⟩
      obtain ⟨⟨c0', f0⟩, c1', f1⟩ := ((unhide HO).ext he).cell hlt
      obtain ⟨u0, c0⟩ : ∃ u, w2.cell? ⟨w.heap.size, j * 2, none⟩ = some u := ⟨_, c0'⟩
      obtain ⟨u1, c1⟩ : ∃ u, w2.cell? ⟨w.heap.size, j * 2 + 1, none⟩ = some u := ⟨_, c1'⟩
      have HS := hide ((((unhide HO).ext he).set hlt (.string (tx j)) (.string (hf j))).congr (A' := fun i => if i < j + 1 then .string (tx i) else .string noT) (B' := fun i => if i < j + 1 then .string (hf i) else .string noT) (fun i _ => by
        by_cases e : i = j
        · subst e; simp
        · by_cases e2 : i < j
          · rw [if_neg e, if_neg e, if_pos e2, if_pos e2, if_pos (by omega), if_pos (by omega)]; exact ⟨rfl, rfl⟩
          · rw [if_neg e, if_neg e, if_neg e2, if_neg e2, if_neg (by omega), if_neg (by omega)]; exact ⟨rfl, rfl⟩))
      have hE := hext.trans he
      clear c0' c1'
      go_wp2
      go_roundw
      case rel => exact ⟨j + 1, by omega, by go_num, HS, (hE.setCell (Nat.le_refl _) _).setCell (Nat.le_refl _) _⟩
      case measure => simp [intOf]; omega
    · obtain rfl : j = n := by omega
      have HFIN := hide ((unhide HO).congr (A' := fun i => .string (tx i)) (B' := fun i => .string (hf i)) (fun i hi => ⟨by simp [hi], by simp [hi]⟩))
      go_wp2
      go_ret
      exact ⟨rfl, unhide HFIN, hext⟩
def tl2 (t h : Nat → ByteArray) : Nat → Nat
  | 0 => 0
  | j + 1 => tl2 t h j + ((t j).size + (h j).size)
set_option maxHeartbeats 400000 in
theorem szSnap_any (s b : ByteArray) (l : Int) (w : World) (h0 : 0 ≤ l) (h1 : l ≤ 4398046511104) (hn : (s.size : Int) ≤ 9223372036854775807) (hm : (b.size : Int) ≤ 9223372036854775807) :
    Calls Tryd.prog 46 #[.agg #[.string s, .string b], .int .i64 l] w fun e w' => e = .returned (.int .i64 (if l < ((s.size + b.size : Nat) : Int) then -1 else l - ((s.size + b.size : Nat) : Int))) ∧ Ext w w' := by
  by_cases h : l < (s.size : Int)
  · rw [if_pos (by omega)]
    go_enter Tryd.func46, Tryd.ntmps46
    go_wp2
    go_ret
    exact ⟨rfl, (Ext.refl _).alloc _⟩
  · have h2 : ¬ l - (s.size : Int) < 0 := by omega
    by_cases h3 : l - (s.size : Int) < (b.size : Int)
    · rw [if_pos (by omega)]
      go_enter Tryd.func46, Tryd.ntmps46
      go_wp2
      go_ret
      exact ⟨rfl, (Ext.refl _).alloc _⟩
    · have h4 : ¬ l - (s.size : Int) - (b.size : Int) < 0 := by omega
      rw [if_neg (by omega)]
      have he : Hid (l - ((s.size : Int) + (b.size : Int)) = l - (s.size : Int) - (b.size : Int)) := by show _ = _; omega
      go_enter Tryd.func46, Tryd.ntmps46
      go_wp2
      go_ret
      exact ⟨by rw [he.out]; rfl, (Ext.refl _).alloc _⟩
set_option maxHeartbeats 1000000 in
theorem szSnapS_any (v : Value) (n : Nat) (tx : Nat → ByteArray) (hf : Nat → ByteArray) (l : Int) (w : World) (hv : Row2At w v n (fun j => .string (tx j)) (fun j => .string (hf j))) (h0 : 0 ≤ l) (h1 : l ≤ 4398046511104) (hn : (n : Int) ≤ 9223372036854775807) (hx : ∀ j, j < n → ((tx j).size : Int) ≤ 9223372036854775807 ∧ ((hf j).size : Int) ≤ 9223372036854775807) :
    Calls Tryd.prog 28 #[v, .int .i64 l] w fun e w' => ∃ r : Int, e = .returned (.int .i64 r) ∧ SzR l (n + tl2 tx hf n) r ∧ Ext w w' := by
  obtain ⟨ao, ca, rfl, hca, hxa⟩ := hv
  have HX := hide hx
  have HXA := hide hxa
  have hmono : Hid (∀ k, k ≤ n → tl2 tx hf k ≤ tl2 tx hf n) := by
    have aux : ∀ m k, tl2 tx hf k ≤ tl2 tx hf (k + m) := by
      intro m
      induction m with
      | zero => intro k; exact Nat.le_refl _
      | succ m ih => intro k; have := ih k; rw [← Nat.add_assoc, tl2]; omega
    intro k hk
    have := aux (n - k) k
    rwa [show k + (n - k) = n by omega] at this
  clear hx hxa
  by_cases hz : l < (n : Int)
  · go_enter Tryd.func28, Tryd.ntmps28
    go_wp2
    go_ret
    exact ⟨_, rfl, .inl ⟨rfl, by omega⟩, Ext.refl _⟩
  by_cases hz0 : n = 0
  · subst hz0
    go_enter Tryd.func28, Tryd.ntmps28
    go_wp2
    go_loop [1, 5] (fun a i => a = .int .i64 l ∧ i = .int .i64 0) (fun _ _ => 0)
    case atStart => exact ⟨by go_num, rfl⟩
    case round =>
      obtain ⟨rfl, rfl⟩ := hrel
      go_wp2
      go_ret
      exact ⟨_, rfl, .inr ⟨by simp [tl2], h0⟩, Ext.refl _⟩
  · obtain ⟨b, off, rfl, hc⟩ := (unhide HXA) (by omega)
    have HC := hide hc
    clear HXA hc
    go_enter Tryd.func28, Tryd.ntmps28
    go_wp2
    go_loopw [1, 5] (fun a i wr => ∃ (k : Nat), k ≤ n ∧ (0 : Int) ≤ l - (n : Int) - (tl2 tx hf k : Int) ∧ a = .int .i64 (l - (n : Int) - (tl2 tx hf k : Int)) ∧ i = .int .i64 k ∧ Ext w wr) (fun _ i _ => n - (intOf i).toNat)
    case atStart => exact ⟨0, Nat.zero_le _, by simp [tl2]; omega, by simp [tl2], rfl, Ext.refl _⟩
    case round =>
      obtain ⟨k, hk, hp, rfl, rfl, hext⟩ := hrel
      by_cases hlt : k < n
      · have g1 := hext.cell ((unhide HC) k hlt).1
        have g2 := hext.cell ((unhide HC) k hlt).2
        have bk : (k : Int) < (n : Int) := by omega
        have hm := (unhide HX) k hlt
        have hs : Hid (tl2 tx hf (k + 1) = tl2 tx hf k + ((tx k).size + (hf k).size)) := rfl
        have hmn := (unhide hmono) (k + 1) (by omega)
        rw [hs.out] at hmn
        obtain ⟨s, hss⟩ : ∃ s, s = tl2 tx hf k := ⟨_, rfl⟩
        rw [← hss] at hs hp hmn ⊢
        clear hss
        have hcon := hide (fun W => szSnap_any (tx k) (hf k) (l - (n : Int) - (s : Int)) W hp (by omega) hm.1 hm.2)
        by_cases hq : l - (n : Int) - (s : Int) < (((tx k).size + (hf k).size : Nat) : Int)
        · rw [if_pos hq] at hcon
          go_wp2_with fail
          refine ((unhide hcon) _).mono ?_
          rintro e w2 ⟨rfl, he⟩
          go_wp2
          go_ret
          exact ⟨_, rfl, .inl ⟨rfl, by omega⟩, hext.trans he⟩
        · rw [if_neg hq] at hcon
          go_wp2_with fail
          refine ((unhide hcon) _).mono ?_
          rintro e w2 ⟨rfl, he⟩
          go_wp2
          go_roundw
          case rel => exact ⟨k + 1, by omega, by rw [hs.out]; omega, by rw [hs.out]; go_num, by go_num, hext.trans he⟩
          case measure => simp [intOf]; omega
      · obtain rfl : k = n := by omega
        go_wp2
        go_ret
        exact ⟨_, rfl, .inr ⟨by omega, hp⟩, hext⟩
set_option maxHeartbeats 1000000 in
theorem szLine_any (a b c : ByteArray) (v : Value) (n : Nat) (tx hf : Nat → ByteArray) (l : Int) (w : World) (hv : Row2At w v n (fun j => .string (tx j)) (fun j => .string (hf j))) (h0 : 0 ≤ l) (h1 : l ≤ 4398046511104) (ha : (a.size : Int) ≤ 9223372036854775807) (hb : (b.size : Int) ≤ 9223372036854775807) (hc : (c.size : Int) ≤ 9223372036854775807) (hn : (n : Int) ≤ 9223372036854775807) (hx : ∀ j, j < n → ((tx j).size : Int) ≤ 9223372036854775807 ∧ ((hf j).size : Int) ≤ 9223372036854775807) :
    Calls Tryd.prog 12 #[.agg #[.string a, .string b, .string c, v], .int .i64 l] w fun e w' => ∃ r : Int, e = .returned (.int .i64 r) ∧ (r < 0 ∨ (0 ≤ r ∧ ((a.size + b.size + c.size + (n + tl2 tx hf n) : Nat) : Int) ≤ l)) ∧ Ext w w' := by
  obtain ⟨ao, cap, hvv, _, _⟩ := id hv
  have HV := hide hv
  subst hvv
  clear hv
  have H1 := hide hx
  clear hx
  by_cases q1 : l < (a.size : Int)
  · go_enter Tryd.func12, Tryd.ntmps12
    go_wp2
    go_ret
    exact ⟨-1, rfl, .inl (by omega), (Ext.refl _).alloc _⟩
  have q1b : ¬ l - (a.size : Int) < 0 := by omega
  by_cases q2 : l - (a.size : Int) < (b.size : Int)
  · go_enter Tryd.func12, Tryd.ntmps12
    go_wp2
    go_ret
    exact ⟨-1, rfl, .inl (by omega), (Ext.refl _).alloc _⟩
  have q2b : ¬ l - (a.size : Int) - (b.size : Int) < 0 := by omega
  by_cases q3 : l - (a.size : Int) - (b.size : Int) < (c.size : Int)
  · go_enter Tryd.func12, Tryd.ntmps12
    go_wp2
    go_ret
    exact ⟨-1, rfl, .inl (by omega), (Ext.refl _).alloc _⟩
  have q3b : ¬ l - (a.size : Int) - (b.size : Int) - (c.size : Int) < 0 := by omega
  have hcon := hide (fun W (hW : Ext w W) => szSnapS_any (.slice ao n cap) n tx hf (l - (a.size : Int) - (b.size : Int) - (c.size : Int)) W ((unhide HV).ext hW) (by omega) (by omega) hn (unhide H1))
  go_enter Tryd.func12, Tryd.ntmps12
  go_wp2_with fail
  refine ((unhide hcon) _ ((Ext.refl _).alloc _)).mono ?_
  rintro e w1 ⟨r, rfl, hr, F1⟩
  rcases hr with ⟨rfl, _⟩ | ⟨hr, hr0⟩
  · go_wp2
    go_ret
    exact ⟨-1, rfl, .inl (by omega), ((Ext.refl _).alloc _).trans F1⟩
  · have hrn : ¬ r < 0 := by omega
    have hfin : Hid (((a.size + b.size + c.size + (n + tl2 tx hf n) : Nat) : Int) ≤ l) := by refine hide ?_; omega
    clear hr
    go_wp2
    go_ret
    exact ⟨r, rfl, .inr ⟨hr0, unhide hfin⟩, ((Ext.refl _).alloc _).trans F1⟩
set_option maxHeartbeats 1000000 in
theorem toLine_any (a b c : ByteArray) (v : Value) (n : Nat) (tx hf : Nat → ByteArray) (w : World) (hv : Row2At w v n (fun j => .string (tx j)) (fun j => .string (hf j))) (hn : n ≤ 1048576) :
    Calls Tryd.prog 14 #[.agg #[.string a, .string b, .string c, v]] w fun e w' => e = .returned (.agg #[.string a, .string b, .string c, .slice (some ⟨w.heap.size + 3, 0, none⟩) n n]) ∧ Own2 w' (w.heap.size + 3) 54 (.slice (some ⟨w.heap.size + 3, 0, none⟩) n n) n (fun j => .string (tx j)) (fun j => .string (hf j)) ∧ Ext w w' := by
  have HV := hide hv
  obtain ⟨ao, cap, rfl, _, _⟩ := hv
  have hcon := hide (fun W (hW : Ext w W) => toSnapS_any (.slice ao n cap) n tx hf W ((unhide HV).ext hW) hn)
  go_enter Tryd.func14, Tryd.ntmps14
  go_wp2_with fail
  refine ((unhide hcon) _ (by repeat' first | exact Ext.refl _ | refine Ext.alloc ?_ _ | refine Ext.setCell ?_ (by dsimp only; omega) _)).mono ?_
  rintro e w1 ⟨rfl, o1, F1⟩
  obtain ⟨hc, hf'⟩ := F1.rules
  have hz3 : ∀ o1 o2 o3, (((w.alloc o1).alloc o2).alloc o3).heap.size = w.heap.size + 3 := fun o1 o2 o3 => by simp
  rw [hz3] at o1 ⊢
  have hz : w.heap.size + 3 < w1.heap.size := by
    obtain ⟨ys, h1, _⟩ := o1
    exact (h1.lt _ rfl).2
  have a0 : w1.cell? ⟨w.heap.size + 1, 0, none⟩ = some (.string noT) := by rw [hc _ _ (by simp)]; simp [go_sem]
  have a1 : w1.cell? ⟨w.heap.size + 1, 1, none⟩ = some (.string noT) := by rw [hc _ _ (by simp)]; simp [go_sem]
  have a2 : w1.cell? ⟨w.heap.size + 1, 2, none⟩ = some (.string noT) := by rw [hc _ _ (by simp)]; simp [go_sem]
  have a3 : w1.cell? ⟨w.heap.size + 1, 3, none⟩ = some (.slice none 0 0) := by rw [hc _ _ (by simp)]; simp [go_sem]
  have O1 := hide o1
  have E1 : Ext w w1 := Ext.trans ((((Ext.refl w).alloc _).alloc _).alloc _) F1
  clear o1
  go_wp2
  refine bodyPost_ret (v := .agg #[.string a, .string b, .string c, .slice (some ⟨w.heap.size + 3, 0, none⟩) n n]) (by simp [results, Tryd.results14, go_sem, a0, a1, a2, a3]) rfl ⟨rfl, ?_, ?_⟩
  · obtain ⟨ys, h1, h2⟩ := unhide O1
    refine ⟨ys, ?_, h2⟩
    repeat (refine owns_setCell ?_ (by simp [Value.ownBlock]) _)
    exact h1
  · repeat (refine Ext.setCell ?_ (by dsimp only; omega) _)
    exact E1
set_option maxHeartbeats 1000000 in
theorem eqLine_same (a b c : ByteArray) (va vb : Value) (n : Nat) (tx hf : Nat → ByteArray) (w : World) (ha : Row2At w va n (fun j => .string (tx j)) (fun j => .string (hf j))) (hb : Row2At w vb n (fun j => .string (tx j)) (fun j => .string (hf j))) (hn : n ≤ 4398046511104) :
    Calls Tryd.prog 16 #[.agg #[.string a, .string b, .string c, va], .agg #[.string a, .string b, .string c, vb]] w fun e w' => e = .returned (.bool true) ∧ Ext w w' := by
  have hcon := hide (fun W (hW : Ext w W) => eqSnapS_same va vb n tx hf W (ha.ext hW) (hb.ext hW) hn)
  obtain ⟨ao, cap, rfl, _, _⟩ := ha
  obtain ⟨bo, cbp, rfl, _, _⟩ := hb
  go_enter Tryd.func16, Tryd.ntmps16
  go_wp2_with fail
  refine ((unhide hcon) _ (((Ext.refl _).alloc _).alloc _)).mono ?_
  rintro e w1 ⟨rfl, F1⟩
  go_wp2
  go_ret
  exact ⟨rfl, (((Ext.refl _).alloc _).alloc _).trans F1⟩
end Go.Proofs.YtaddlkhaokdpdaaDoor
