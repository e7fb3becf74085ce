import Derived.Test.YtdmkcpkmeokjiaaDoorItemOk
import Derived.Test.YtdmkcpkmeokjiaaDoorBlocks
namespace Go.Proofs.YtdmkcpkmeokjiaaDoor
open Go.RowKit

theorem baList (s : ByteArray) : s.toList = s.data.toList := by
  have aux : ∀ (n i : Nat) (r : List UInt8), s.size - i = n → ByteArray.toList.loop s i r = r.reverse ++ s.data.toList.drop i := by
    intro n
    induction n with
    | zero =>
      intro i r h
      rw [ByteArray.toList.loop, if_neg (by omega), List.drop_eq_nil_of_le (by simp; exact Nat.sub_eq_zero_iff_le.1 h)]
      simp
    | succ n ih =>
      intro i r h
      rw [ByteArray.toList.loop, if_pos (by omega), ih (i + 1) _ (by omega)]
      have hi : i < s.data.toList.length := by simp; show i < s.size; omega
      rw [List.drop_eq_getElem_cons hi]
      have e : s.get! i = s.data.toList[i] := by
        have hs : i < s.data.size := by simpa using hi
        cases s with
        | mk d => show d[i]! = d.toList[i]; simp only [getElem!_pos d i hs, Array.getElem_toList]
      rw [e]
      simp
  have := aux s.size 0 [] (by omega)
  simpa [ByteArray.toList] using this
theorem ba_ne {s t : ByteArray} (h : s ≠ t) : (s.toList == t.toList) = false := by
  rw [beq_eq_false_iff_ne, baList, baList]
  exact fun e => h (WideShapes.bytes_inj e)
/-- Two lists of rows are the same. -/
def SameR (n m : Nat) (tx ty : Nat → ByteArray) : Prop := n = m ∧ ∀ j, j < n → tx j = ty j
abbrev sameD (n m : Nat) (tx ty : Nat → ByteArray) : Decidable (SameR n m tx ty) := inferInstanceAs (Decidable (n = m ∧ ∀ j, j < n → tx j = ty j))
set_option maxRecDepth 10000 in
set_option maxHeartbeats 1000000 in
theorem l6Same_any (va vb : Value) (n m : Nat) (tx ty : Nat → ByteArray) (w : World) (ha : Row1At w va n (fun j => .string (tx j))) (hb : Row1At w vb m (fun j => .string (ty j))) (hn : n ≤ 1048576) (hm : m ≤ 1048576) (ok : Bool) (hok : ok = true ↔ SameR n m tx ty) :
    Calls Tryd.prog 24 #[va, vb] w fun e w' => e = .returned (.bool ok) ∧ Ext w w' := by
  obtain ⟨ao, ca, rfl, hca, hxa⟩ := ha
  obtain ⟨bo, cb, rfl, hcb, hxb⟩ := hb
  have HK := hide hok
  clear hok
  by_cases hnm : n = m
  · subst hnm
    by_cases h0 : n = 0
    · subst h0
      clear hxa hxb
      have hT : Hid (ok = true) := hide ((unhide HK).2 ⟨rfl, fun j hj => by omega⟩)
      go_enter Tryd.func24, Tryd.ntmps24
      go_wp2
      go_loop [5] (fun i => i = .int .i64 0) (fun _ => 0)
      case atStart => rfl
      case round =>
        subst hrel
        go_wp2
        go_ret
        exact ⟨ret_bool (unhide hT).symm, Ext.refl _⟩
    · obtain ⟨b1, o1, rfl, h1⟩ := hxa (by omega)
      obtain ⟨b2, o2, rfl, h2⟩ := hxb (by omega)
      have H1 := hide h1
      have H2 := hide h2
      clear hxa hxb h1 h2
      go_enter Tryd.func24, Tryd.ntmps24
      go_wp2
      go_loopw [5] (fun i w' => ∃ k : Nat, k ≤ n ∧ i = .int .i64 k ∧ Hid (∀ j, j < k → tx j = ty j) ∧ Ext w w') (fun i _ => n - (intOf i).toNat)
      case atStart => exact ⟨0, Nat.zero_le _, rfl, hide (fun j hj => by omega), Ext.refl _⟩
      case round =>
        obtain ⟨k, hk, rfl, HJ, hext⟩ := hrel
        by_cases hlt : k < n
        · have g1 := hext.cell ((unhide H1) k hlt)
          have g3 := hext.cell ((unhide H2) k hlt)
          have bk : (k : Int) < (n : Int) := by omega
          by_cases hs : tx k = ty k
          · have HJ2 : Hid (∀ j, j < k + 1 → tx j = ty j) := hide (fun j hj => by
              by_cases e : j = k
              · subst e; exact hs
              · exact (unhide HJ) j (by omega))
            rw [← hs] at g3
            clear hs
            go_wp2
            go_quiet (fail)
            go_wp2
            go_roundw
            case rel => exact ⟨k + 1, by omega, by go_num, HJ2, hext.drewN _⟩
            case measure => simp [intOf]; omega
          · have hne := ba_ne hs
            have hF : Hid (ok = false) := by
              refine hide ?_
              cases hc : ok with
              | false => rfl
              | true => exact absurd (((unhide HK).1 hc).2 k hlt) hs
            clear hs
            go_wp2
            go_quiet (fail)
            go_wp2
            go_ret
            exact ⟨ret_bool (unhide hF).symm, hext.drewN _⟩
        · obtain rfl : k = n := by omega
          have hT : Hid (ok = true) := hide ((unhide HK).2 ⟨rfl, unhide HJ⟩)
          go_wp2
          go_ret
          exact ⟨ret_bool (unhide hT).symm, hext⟩
  · have hF : Hid (ok = false) := by
      refine hide ?_
      cases hc : ok with
      | false => rfl
      | true => exact absurd ((unhide HK).1 hc).1 hnm
    have hnm' : ¬ (n : Int) = (m : Int) := by omega
    go_enter Tryd.func24, Tryd.ntmps24
    go_wp2
    go_ret
    exact ⟨ret_bool (unhide hF).symm, Ext.refl _⟩
theorem sameTexts_any (va vb : Value) (n m : Nat) (tx ty : Nat → ByteArray) (w : World) (ha : Row1At w va n (fun j => .string (tx j))) (hb : Row1At w vb m (fun j => .string (ty j))) (hn : n ≤ 1048576) (hm : m ≤ 1048576) (ok : Bool) (hok : ok = true ↔ SameR n m tx ty) :
    Calls Tryd.prog 9 #[va, vb] w fun e w' => e = .returned (.bool ok) ∧ Ext w w' := by
  have H := hide (l6Same_any va vb n m tx ty w ha hb hn hm ok hok)
  obtain ⟨ao, ca, rfl, _, _⟩ := ha
  obtain ⟨bo, cb, rfl, _, _⟩ := hb
  clear hok
  go_enter Tryd.func9, Tryd.ntmps9
  go_wp2_with fail
  refine (unhide H).mono ?_
  rintro e w' ⟨rfl, E⟩
  go_wp2
  go_ret
  exact ⟨rfl, E⟩
end Go.Proofs.YtdmkcpkmeokjiaaDoor
