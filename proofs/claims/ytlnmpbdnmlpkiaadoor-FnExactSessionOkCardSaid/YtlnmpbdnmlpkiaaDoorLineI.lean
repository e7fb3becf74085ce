import Derived.Test.YtlnmpbdnmlpkiaaDoorSnapOk
import Derived.Test.YtlnmpbdnmlpkiaaDoorDrawM
import Derived.Test.YtlnmpbdnmlpkiaaDoorRows12
import Derived.Test.YtlnmpbdnmlpkiaaDoorWhole
namespace Go.Proofs.YtlnmpbdnmlpkiaaDoor
open Go.RowKit

theorem toBA_nil : toBA [] = { data := #[] } := rfl
/-- What textOk says. -/
def TextP (bs : List Int) : Prop := settleL bs = bs ∧ (cleanL bs).length ≤ 300
theorem TextP_snap (bs : List Int) : TextP bs ↔ SnapP bs [] := by
  unfold TextP SnapP
  have e1 : settleL [] = [] := rfl
  have e2 : cleanL [] = [] := rfl
  simp [e1, e2]
set_option maxRecDepth 10000 in
set_option maxHeartbeats 1000000 in
theorem textOk_any (bs : List Int) (hb : Bytes bs) (w : World) (hl : bs.length ≤ 16777216) (hT : Tabs3 w) (ok : Bool) (hok : ok = true ↔ TextP bs) :
    Calls Tryd.prog 83 #[.string (toBA bs)] w fun e w' => e = .returned (.bool ok) ∧ Ext w w' := by
  have hs := fun W (hW : Ext w W) => snapOk_any bs [] hb (fun x hx => by simp at hx) W hl (by simp) (hT.ext hW) ok (by rw [hok, TextP_snap])
  rw [toBA_nil] at hs
  have HS := hide hs
  clear hs hok
  go_enter Tryd.func83, Tryd.ntmps83
  go_wp2_with fail
  refine ((unhide HS) _ (Ext.refl _)).mono ?_
  rintro e w1 ⟨rfl, F1⟩
  go_wp2
  go_ret
  exact ⟨rfl, F1⟩
end Go.Proofs.YtlnmpbdnmlpkiaaDoor

namespace Go.Proofs.YtlnmpbdnmlpkiaaDoor
open Go.RowKit

/-- A valid line. -/
def LineP (a b c : ByteArray) (n : Nat) (tx hf : Nat → ByteArray) : Prop := n ≤ 50 ∧ SnapP (baL a) (baL b) ∧ TextP (baL c) ∧ ∀ j, j < n → SnapP (baL (tx j)) (baL (hf j))
abbrev snapD (x y : List Int) : Decidable (SnapP x y) := inferInstanceAs (Decidable (settleL x = x ∧ settleL y = y ∧ (cleanL x).length + (cleanL y).length ≤ 300))
abbrev lineD (a b c : ByteArray) (n : Nat) (tx hf : Nat → ByteArray) : Decidable (LineP a b c n tx hf) := @instDecidableAnd _ _ _ (@instDecidableAnd _ _ (snapD _ _) (@instDecidableAnd _ _ (inferInstanceAs (Decidable (settleL (baL c) = baL c ∧ (cleanL (baL c)).length ≤ 300))) (@Nat.decidableBallLT n _ (fun j _ => snapD (baL (tx j)) (baL (hf j))))))
theorem ex_bool (p : Prop) : ∃ b : Bool, b = true ↔ p := by
  by_cases h : p
  · exact ⟨true, by simp [h]⟩
  · exact ⟨false, by simp [h]⟩
theorem not_ok {ok : Bool} {p : Prop} (h : ok = true ↔ p) (hn : ¬ p) : ok = false := by
  cases hc : ok with
  | false => rfl
  | true => exact absurd (h.1 hc) hn
theorem snapOk_ba (a b : ByteArray) (w : World) (hla : a.size ≤ 1048576) (hlb : b.size ≤ 1048576) (hT : Tabs3 w) (ok : Bool) (hok : ok = true ↔ SnapP (baL a) (baL b)) :
    Calls Tryd.prog 138 #[.agg #[.string a, .string b]] w fun e w' => e = .returned (.bool ok) ∧ Ext w w' := by
  have h := snapOk_any (baL a) (baL b) (baL_bytes a) (baL_bytes b) w (by rw [baL_len]; omega) (by rw [baL_len]; omega) hT ok hok
  rwa [toBA_baL, toBA_baL] at h
theorem textOk_ba (a : ByteArray) (w : World) (hla : a.size ≤ 1048576) (hT : Tabs3 w) (ok : Bool) (hok : ok = true ↔ TextP (baL a)) :
    Calls Tryd.prog 83 #[.string a] w fun e w' => e = .returned (.bool ok) ∧ Ext w w' := by
  have h := textOk_any (baL a) (baL_bytes a) w (by rw [baL_len]; omega) hT ok hok
  rwa [toBA_baL] at h
set_option maxRecDepth 10000 in
set_option maxHeartbeats 4000000 in
theorem implLineOk_any (a b c : ByteArray) (v : Value) (n : Nat) (tx hf : Nat → ByteArray) (w : World) (hv : Row2At w v n (fun j => .string (tx j)) (fun j => .string (hf j))) (ha : a.size ≤ 1048576) (hb : b.size ≤ 1048576) (hc : c.size ≤ 1048576) (hn : n ≤ 1048576) (hx : ∀ j, j < n → (tx j).size ≤ 1048576 ∧ (hf j).size ≤ 1048576) (hT : Tabs3 w) (ok : Bool) (hok : ok = true ↔ LineP a b c n tx hf) :
    Calls Tryd.prog 82 #[.agg #[.string a, .string b, .string c, v]] w fun e w' => e = .returned (.bool ok) ∧ Ext w w' := by
  obtain ⟨ao, ca, rfl, hca, hxa⟩ := hv
  have HX := hide hxa
  have HZ := hide hx
  have HT := hide hT
  have HK := hide hok
  clear hxa hx hT hok
  have EW := (Ext.refl w).alloc (.cells #[.string a, .string b, .string c, .slice ao n ca] 54)
  have hbk := new_block w (.cells #[.string a, .string b, .string c, .slice ao n ca] 54)
  obtain ⟨W1, hW1⟩ : ∃ W1, W1 = w.alloc (.cells #[.string a, .string b, .string c, .slice ao n ca] 54) := ⟨_, rfl⟩
  rw [← hW1] at EW hbk
  have p0 := cells_of hbk 0 _ rfl
  have p1 := cells_of hbk 1 _ rfl
  have p2 := cells_of hbk 2 _ rfl
  have p3 := cells_of hbk 3 _ rfl
  have HW := hide hW1
  clear hW1 hbk
  obtain ⟨bs, hbs⟩ := ex_bool (SnapP (baL a) (baL b))
  have hcS := hide (fun W (hW : Ext w W) => snapOk_ba a b W ha hb ((unhide HT).ext hW) bs hbs)
  have HBS := hide hbs
  clear hbs
  obtain ⟨bt, hbt⟩ := ex_bool (TextP (baL c))
  have hcT := hide (fun W (hW : Ext w W) => textOk_ba c W hc ((unhide HT).ext hW) bt hbt)
  have HBT := hide hbt
  clear hbt
  go_enter Tryd.func82, Tryd.ntmps82
  go_wp2_with fail
  rw [← unhide HW]
  refine ((unhide hcS) _ EW).mono ?_
  rintro e w1 ⟨rfl, F1⟩
  have p2' := F1.cell p2
  have p3' := F1.cell p3
  by_cases h1 : SnapP (baL a) (baL b)
  · obtain rfl : bs = true := (unhide HBS).2 h1
    have H1 := hide h1
    clear h1
    go_wp2_with fail
    refine ((unhide hcT) _ (EW.trans F1)).mono ?_
    rintro e w2 ⟨rfl, F2⟩
    have p3' := F2.cell p3'
    have E2 := F1.trans F2
    by_cases h2 : TextP (baL c)
    · obtain rfl : bt = true := (unhide HBT).2 h2
      by_cases h3 : n ≤ 50
      · have HP := hide (And.intro (unhide H1) h2)
        have h3I : (n : Int) ≤ 50 := by omega
        clear h2
        go_wp2
        go_loopw [27] (fun i wr => ∃ k : Nat, k ≤ n ∧ i = .int .i64 k ∧ Hid (∀ j, j < k → SnapP (baL (tx j)) (baL (hf j))) ∧ Ext W1 wr) (fun i _ => n - (intOf i).toNat)
        case atStart => exact ⟨0, Nat.zero_le _, rfl, hide (fun j hj => by omega), E2⟩
        case round =>
          obtain ⟨k, hk, rfl, HJ, hext⟩ := hrel
          by_cases hlt : k < n
          · obtain ⟨bb, off, hao, hcc⟩ := (unhide HX) (by omega)
            subst hao
            have hE := EW.trans hext
            have g1 := hE.cell (hcc k hlt).1
            have g2 := hE.cell (hcc k hlt).2
            have bk : (k : Int) < (n : Int) := by omega
            have hsz := (unhide HZ) k hlt
            obtain ⟨bj, hbj⟩ := ex_bool (SnapP (baL (tx k)) (baL (hf k)))
            have HBJ := hide hbj
            have hcJ := hide (fun W (hW : Ext w W) => snapOk_ba (tx k) (hf k) W hsz.1 hsz.2 ((unhide HT).ext hW) bj hbj)
            clear hbj
            go_wp2_with fail
            refine ((unhide hcJ) _ (by repeat' first | exact hE | refine Ext.alloc ?_ _ | refine Ext.setCell ?_ (by have := hE.size; dsimp only; omega) _)).mono ?_
            rintro e w3 ⟨rfl, F3⟩
            have hE3 : Ext W1 w3 := Ext.trans (by repeat' first | exact hext | refine Ext.alloc ?_ _ | refine Ext.setCell ?_ (by have := hext.size; dsimp only; omega) _) F3
            by_cases hs : SnapP (baL (tx k)) (baL (hf k))
            · obtain rfl : bj = true := (unhide HBJ).2 hs
              have HJ2 : Hid (∀ j, j < k + 1 → SnapP (baL (tx j)) (baL (hf j))) := hide (fun j hj => by
                by_cases e : j = k
                · subst e; exact hs
                · exact (unhide HJ) j (by omega))
              clear hs
              go_wp2
              go_roundw
              case rel => exact ⟨k + 1, by omega, by go_num, HJ2, hE3⟩
              case measure => simp [intOf]; omega
            · obtain rfl : bj = false := not_ok (unhide HBJ) hs
              have hfin : Hid (ok = false) := hide (not_ok (unhide HK) (fun h => hs (h.2.2.2 k hlt)))
              clear hs
              go_wp2
              go_ret
              exact ⟨ret_bool (unhide hfin).symm, EW.trans hE3⟩
          · obtain rfl : k = n := by omega
            have hfin : Hid (ok = true) := hide ((unhide HK).2 ⟨h3, (unhide HP).1, (unhide HP).2, unhide HJ⟩)
            go_wp2
            go_ret
            exact ⟨ret_bool (unhide hfin).symm, EW.trans hext⟩
      · have h3I : ¬ (n : Int) ≤ 50 := by omega
        have hfin : Hid (ok = false) := hide (not_ok (unhide HK) (fun h => h3 h.1))
        clear h2
        go_wp2
        go_ret
        exact ⟨ret_bool (unhide hfin).symm, EW.trans E2⟩
    · obtain rfl : bt = false := not_ok (unhide HBT) h2
      have hfin : Hid (ok = false) := hide (not_ok (unhide HK) (fun h => h2 h.2.2.1))
      clear h2
      go_wp2
      go_ret
      exact ⟨ret_bool (unhide hfin).symm, EW.trans E2⟩
  · obtain rfl : bs = false := not_ok (unhide HBS) h1
    have hfin : Hid (ok = false) := hide (not_ok (unhide HK) (fun h => h1 h.2.1))
    clear h1
    go_wp2
    go_ret
    exact ⟨ret_bool (unhide hfin).symm, EW.trans F1⟩
end Go.Proofs.YtlnmpbdnmlpkiaaDoor
