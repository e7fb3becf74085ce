import Derived.Test.YtdmkcpkmeokjiaaDoorHistS
import Derived.Test.YtdmkcpkmeokjiaaDoorCopyStr
import Derived.Test.YtdmkcpkmeokjiaaDoorShelf2
import Derived.Shelf.Strings.Search3
namespace Go.Proofs.YtdmkcpkmeokjiaaDoor
open Go.RowKit

theorem contains_iff (s sub : List UInt8) : Lib.contains s sub = true ↔ ∃ i, i + sub.length ≤ s.length ∧ (s.drop i).take sub.length = sub := by
  unfold Lib.contains
  rw [decide_eq_true_iff]
  rcases Lib.index_spec s sub with ⟨h1, h2⟩ | ⟨i, h1, h2, h3, _⟩
  · constructor
    · intro h; omega
    · rintro ⟨i, hi, he⟩
      have h4 := h2 i (by omega)
      rw [Lib.occAt_iff_take s sub i hi, he] at h4
      simp at h4
  · constructor
    · intro _
      rcases Lib.occAt_room h3 with h' | h'
      · refine ⟨i, h', ?_⟩
        rw [Lib.occAt_iff_take s sub i h'] at h3
        simpa using h3
      · subst h'
        exact ⟨0, by simp, by simp⟩
    · intro _; omega
theorem cut_eq (s p : ByteArray) (k : Nat) : ((s.extract k (k + p.size)).toList == p.toList) = true ↔ (s.data.toList.drop k).take p.size = p.data.toList := by
  rw [beq_iff_eq, toList_data, toList_data]
  have e : (s.extract k (k + p.size)).data.toList = (s.data.toList.drop k).take p.size := by
    simp [ByteArray.data_extract]
  rw [e]
/-- The item that a search finds. -/
def LatP (part x : ByteArray) : Prop := x ≠ part ∧ Lib.contains x.data.toList part.data.toList = true
abbrev latD (part x : ByteArray) : Decidable (LatP part x) := inferInstanceAs (Decidable (x ≠ part ∧ Lib.contains x.data.toList part.data.toList = true))
def lastF (part : ByteArray) (tx : Nat → ByteArray) : Nat → ByteArray
  | 0 => { data := #[] }
  | k + 1 => @ite _ (LatP part (tx k)) (latD part (tx k)) (tx k) (lastF part tx k)
theorem lastF_hit {part : ByteArray} {tx : Nat → ByteArray} {k : Nat} (h : LatP part (tx k)) : lastF part tx (k + 1) = tx k := by rw [lastF, if_pos h]
theorem lastF_pass {part : ByteArray} {tx : Nat → ByteArray} {k : Nat} (h : ¬ LatP part (tx k)) : lastF part tx (k + 1) = lastF part tx k := by rw [lastF, if_neg h]
def latR (ok : Bool) (part : ByteArray) (tx : Nat → ByteArray) (n : Nat) : ByteArray := if ok then lastF part tx n else { data := #[] }
def latV (r : ByteArray) : Value := .tuple #[.string r, .bool (!r.toList.isEmpty)]
theorem latV_none (part : ByteArray) (tx : Nat → ByteArray) (n : Nat) : latV (latR false part tx n) = .tuple #[.string { data := #[] }, .bool false] := by
  simp [latV, latR, toList_data]
theorem latV_some {r : ByteArray} (h : baL r ≠ []) : latV r = .tuple #[.string r, .bool true] := by
  have := toBA_some h
  rw [toBA_baL] at this
  simp [latV, this]
theorem contains_any (s p : ByteArray) (m : Int) (w : World) (hs : s.size ≤ 1048576) (hm : w.cell? ⟨0, 0, none⟩ = some (.int .i64 m)) :
    Calls Tryd.prog 25 #[.string s, .string p] w fun e w' => e = .returned (.bool (Lib.contains s.data.toList p.data.toList)) ∧ w' = w :=
  Any.strings_Contains { Tryd.lays144 with } s p m w (by omega) hm
set_option maxRecDepth 10000 in
set_option maxHeartbeats 2000000 in
theorem implLatest_any (cap : Int) (v : Value) (n : Nat) (tx : Nat → ByteArray) (part : ByteArray) (m : Int) (w : World) (hv : Row1At w v n (fun j => .string (tx j))) (hn : n ≤ 1048576) (hx : ∀ j, j < n → (tx j).size ≤ 1048576) (hm : w.cell? ⟨0, 0, none⟩ = some (.int .i64 m)) (hT : Tabs3 w) (ok : Bool) (hok : ok = true ↔ HistP cap n tx) :
    Calls Tryd.prog 10 #[.agg #[.int .i64 cap, v], .string part] w fun e w' => e = .returned (latV (latR ok part tx n)) ∧ Ext w w' := by
  have hcH := hide (fun W (hW : Ext w W) => implHistoryOk_any cap v n tx W (hv.ext hW) hn hx (hT.ext hW) ok hok)
  have hcR := hide (fun W (hW : Ext w W) (h : n ≤ 100) => ringOf_any v n tx W (hv.ext hW) h)
  have hcC := hide (fun W (hW : Ext w W) k (hk : k < n) => contains_any (tx k) part m W (hx k hk) (hW.cell hm))
  obtain ⟨ao, ca, rfl, hca, hxa⟩ := hv
  have HK := hide hok
  clear hxa hx hok hT hm
  have EW := (Ext.refl w).alloc (.cells #[.int .i64 cap, .slice ao n ca] 25)
  have hbk := new_block w (.cells #[.int .i64 cap, .slice ao n ca] 25)
  obtain ⟨W1, hW1⟩ : ∃ W1, W1 = w.alloc (.cells #[.int .i64 cap, .slice ao n ca] 25) := ⟨_, rfl⟩
  rw [← hW1] at EW hbk
  have p0 := cells_of hbk 0 _ rfl
  have p1 := cells_of hbk 1 _ rfl
  have HW := hide hW1
  clear hW1 hbk
  go_enter Tryd.func10, Tryd.ntmps10
  go_wp2_with fail
  rw [← unhide HW]
  refine ((unhide hcH) _ EW).mono ?_
  rintro e w1 ⟨rfl, F1⟩
  have c1 := F1.cell p1
  cases ok with
  | false =>
    go_wp2
    refine bodyPost_ret (v := .tuple #[.string { data := #[] }, .bool false]) (by simp [results, Tryd.results10, go_sem]) rfl ⟨?_, EW.trans F1⟩
    rw [latV_none]
  | true =>
    have hH := (unhide HK).1 rfl
    have h100 : n ≤ 100 := by have := hH.2.1; have := hH.2.2.1; omega
    have HI := hide hH.2.2.2
    clear hH HK
    go_wp2_with fail
    refine ((unhide hcR) _ (EW.trans F1) h100).mono ?_
    rintro e w2 ⟨g, ty, rfl, hg, hty, hR, F2⟩
    have HTY := hide hty
    have HR := hide (fun W (hW : Ext w2 W) k (hk : k ≤ 100) => at_any g 0 n k ty W (by omega) hk (hR.ext hW))
    have c101 := hR.2.2.1
    have E2 := (EW.trans F1).trans F2
    have hw1 : IntKind.i64.wrap ((n : Int) - 1) = (n : Int) - 1 := by rw [IntKind.wrap_i64]; omega
    clear hty hR
    go_wp2
    go_loopw [7] (fun i wr => ∃ k : Nat, k ≤ n ∧ i = .int .i64 ((k : Int) - 1) ∧ Hid (lastF part tx n = lastF part tx k) ∧ Ext w2 wr) (fun i _ => (intOf i + 1).toNat)
    case atStart => exact ⟨n, Nat.le_refl _, rfl, hide rfl, Ext.refl _⟩
    case round =>
      obtain ⟨k, hk, rfl, HL, hext⟩ := hrel
      by_cases h0 : k = 0
      · subst h0
        have hfin : Hid (lastF part tx n = { data := #[] }) := hide ((unhide HL).trans rfl)
        go_wp2
        refine bodyPost_ret (v := .tuple #[.string { data := #[] }, .bool false]) (by simp [results, Tryd.results10, go_sem]) rfl ⟨?_, E2.trans hext⟩
        show _ = Ending.returned (latV (lastF part tx n))
        rw [unhide hfin, ← latV_none part tx n]
        rfl
      · obtain ⟨j, rfl⟩ : ∃ j, k = j + 1 := ⟨k - 1, by omega⟩
        have hje : ((j + 1 : Nat) : Int) - 1 = (j : Int) := by omega
        rw [hje]
        have hA := (unhide HR) wr hext j (by omega)
        rw [show (0 + j) % 100 = j by omega, (unhide HTY) j (by omega)] at hA
        have HA := hide hA
        have b0 : (0 : Int) ≤ (j : Int) := by omega
        have hw2 : IntKind.i64.wrap ((j : Int) - 1) = (j : Int) - 1 := by rw [IntKind.wrap_i64]; omega
        clear hA hje h0
        go_wp2_with fail
        refine (unhide HA).mono ?_
        rintro e w3 ⟨rfl, F3⟩
        have hE3 := hext.trans F3
        by_cases he : tx j = part
        · have HL2 := hide ((unhide HL).trans (lastF_pass (part := part) (tx := tx) (k := j) (fun h => h.1 he)))
          rw [he]
          clear he
          go_wp2
          go_roundw
          case rel => exact ⟨j, by omega, rfl, HL2, hE3⟩
          case measure => simp [intOf]
        · have hne := str_ne he
          have HNE := hide he
          have HC := hide ((unhide hcC) w3 (E2.trans hE3) j (by omega))
          clear he
          go_wp2_with fail
          refine (unhide HC).mono ?_
          rintro e w4 ⟨rfl, rfl⟩
          cases hb : Lib.contains (tx j).data.toList part.data.toList with
          | true =>
            have hfin : Hid (lastF part tx n = tx j) := hide ((unhide HL).trans (lastF_hit (part := part) (tx := tx) (k := j) ⟨unhide HNE, hb⟩))
            have hne2 := hide ((unhide HI) j (by omega)).1.1
            go_wp2
            refine bodyPost_ret (v := .tuple #[.string (tx j), .bool true]) (by simp [results, Tryd.results10, go_sem]) rfl ⟨?_, E2.trans hE3⟩
            show _ = Ending.returned (latV (lastF part tx n))
            rw [unhide hfin, latV_some (unhide hne2)]
          | false =>
            have HL2 := hide ((unhide HL).trans (lastF_pass (part := part) (tx := tx) (k := j) (fun h => by rw [h.2] at hb; cases hb)))
            go_wp2
            go_roundw
            case rel => exact ⟨j, by omega, rfl, HL2, hE3⟩
            case measure => simp [intOf]
end Go.Proofs.YtdmkcpkmeokjiaaDoor
