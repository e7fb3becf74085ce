import Derived.Test.YtopjihagpkempaaDoorItemOk
import Derived.Test.YtopjihagpkempaaDoorLineS2
import Derived.Test.YtopjihagpkempaaDoorBaL
import Derived.Test.YtopjihagpkempaaDoorGenSetText
import Derived.Test.YtopjihagpkempaaDoorGapP
import Derived.Test.YtopjihagpkempaaDoorTabs
import Derived.Test.YtopjihagpkempaaDoorRows
import Derived.LaidMore
import Derived.Lib.LaidU8
import Derived.Deep.Strs
import Derived.Stop.Joined
import Derived.PinnedBridge
namespace Go.Proofs.YtopjihagpkempaaDoor
open Go.RowKit

set_option maxRecDepth 10000 in
set_option maxHeartbeats 4000000 in
theorem specSetText_no (a b c : ByteArray) (v : Value) (n : Nat) (tx hf : Nat → ByteArray) (s : ByteArray) (w : World) (hv : Row2At w v n (fun j => .string (tx j)) (fun j => .string (hf j))) (ha : a.size ≤ 1048576) (hb : b.size ≤ 1048576) (hc : c.size ≤ 1048576) (hn : n ≤ 1048576) (hx : ∀ j, j < n → (tx j).size ≤ 1048576 ∧ (hf j).size ≤ 1048576) (hs : s.size ≤ 1048576) (hP : ¬ (LineP a b c n tx hf ∧ TextP (baL s))) :
    Calls Tryd.prog 5 #[.agg #[.string a, .string b, .string c, v], .string s] w fun e w' => ∃ v', e = .returned (.tuple #[.agg #[.string a, .string b, .string c, v'], .bool false]) ∧ Own2 w' w.heap.size 51 v' n (fun j => .string (tx j)) (fun j => .string (hf j)) ∧ Ext w w' := by
  obtain ⟨ok, hok⟩ := ex_bool (LineP a b c n tx hf)
  obtain ⟨ot, hot⟩ := ex_bool (TextP (baL s))
  have hno : ok = true → ot = false := fun h => not_ok hot (fun h2 => hP ⟨hok.1 h, h2⟩)
  have infoL : (Tryd.prog.info? 28).map (·.size) = some 4 := by kernel_rfl
  obtain ⟨ao, ca, rfl, _, _⟩ := id hv
  have H1 := hide (fun W (E : Ext w W) => specLineOk_all a b c ao n ca tx hf W (hv.ext E) ha hb hc hx ok hok)
  have H2 := hide (fun W => l4TextOk_ba s W hs ot hot)
  have H3 := hide (fun W (E : Ext w W) => l4Copy_any a b c (.slice ao n ca) n tx hf W (hv.ext E) hn)
  have HV := hide hv
  clear hok hot hP hv hx
  obtain ⟨V, hV⟩ : ∃ V, V = (w.alloc (.cells #[.string a, .string b, .string c, .slice ao n ca] 28)).alloc (.cells #[.string { data := #[] }, .string { data := #[] }, .string { data := #[] }, .slice none 0 0] 28) := ⟨_, rfl⟩
  have E0 : Ext w V := by rw [hV]; exact ((Ext.refl w).alloc _).alloc _
  have HB0 : Hid (V.heap[w.heap.size]? = some (.cells #[.string a, .string b, .string c, .slice ao n ca] 28 (0, 0))) := hide (by rw [hV]; exact ((Ext.refl _).alloc _).kept (new_block w _))
  have HB1 : Hid (V.heap[w.heap.size + 1]? = some (.cells #[.string { data := #[] }, .string { data := #[] }, .string { data := #[] }, .slice none 0 0] 28 (0, 0))) := hide (by rw [hV]; have h := new_block (w.alloc (.cells #[.string a, .string b, .string c, .slice ao n ca] 28)) (.cells #[.string { data := #[] }, .string { data := #[] }, .string { data := #[] }, .slice none 0 0] 28); rw [show (w.alloc (.cells #[.string a, .string b, .string c, .slice ao n ca] 28)).heap.size = w.heap.size + 1 by simp] at h; exact h)
  have sz0 : w.heap.size + 1 < V.heap.size := by rw [hV]; simp
  have HW := hide hV
  clear hV
  go_enter Tryd.func5, Tryd.ntmps5
  go_wp2_with fail
  rw [← unhide HW]
  clear HW
  refine ((unhide H1) _ E0).mono ?_
  rintro e w1 ⟨rfl, E1⟩
  have E01 := E0.trans E1
  replace HB0 := hide (E1.kept (unhide HB0))
  replace HB1 := hide (E1.kept (unhide HB1))
  have z1 := E1.size
  clear E0 E1 H1
  cases ok
  · have c0 : w1.cell? ⟨w.heap.size, 0, none⟩ = some (.string a) := cells_of (unhide HB0) 0 _ rfl
    have c1 : w1.cell? ⟨w.heap.size, 1, none⟩ = some (.string b) := cells_of (unhide HB0) 1 _ rfl
    have c2 : w1.cell? ⟨w.heap.size, 2, none⟩ = some (.string c) := cells_of (unhide HB0) 2 _ rfl
    have c3 : w1.cell? ⟨w.heap.size, 3, none⟩ = some (.slice ao n ca) := cells_of (unhide HB0) 3 _ rfl
    go_wp2_with fail
    refine ((unhide H3) _ E01).mono ?_
    rintro e w2 ⟨ua, uc, rfl, HO, E2⟩
    replace HB1 := hide (E2.kept (unhide HB1))
    have HE := hide (E01.trans E2)
    clear E2 c0 c1 c2 c3
    go_wp2_with (first
      | (refine wpList_store_blk rfl 28 _ _ rfl rfl (w.heap.size + 1) rfl _ _ _ rfl (unhide HB1) infoL rfl (by simp [Value.oneCell']) ?_; intro Z hy hf9; have HY := hide hy; have FY := hide hf9; clear hy hf9))
    have v0 : Z.cell? ⟨w.heap.size + 1, 0, none⟩ = some (.string a) := cells_of (unhide HY) 0 _ rfl
    have v1 : Z.cell? ⟨w.heap.size + 1, 1, none⟩ = some (.string b) := cells_of (unhide HY) 1 _ rfl
    have v2 : Z.cell? ⟨w.heap.size + 1, 2, none⟩ = some (.string c) := cells_of (unhide HY) 2 _ rfl
    have v3 : Z.cell? ⟨w.heap.size + 1, 3, none⟩ = some (.slice ua n uc) := cells_of (unhide HY) 3 _ rfl
    exact bodyPost_ret (v := .tuple #[.agg #[.string a, .string b, .string c, .slice ua n uc], .bool false]) (by simp [results, Tryd.results5, go_sem, v0, v1, v2, v3]) rfl ⟨_, rfl, ((unhide HO).fr (unhide FY) (fun g hg e9 => by have := ((unhide HO).lt g hg).1; omega)).mono (by omega), (unhide FY).ext (unhide HE) (fun q hq => by omega)⟩
  · obtain rfl := hno rfl
    go_wp2_with fail
    refine ((unhide H2) _).mono ?_
    rintro e w3 ⟨rfl, E3⟩
    replace HB0 := hide (E3.kept (unhide HB0))
    replace HB1 := hide (E3.kept (unhide HB1))
    have E03 := E01.trans E3
    have z3 := E3.size
    clear E3 E01
    have c0 : w3.cell? ⟨w.heap.size, 0, none⟩ = some (.string a) := cells_of (unhide HB0) 0 _ rfl
    have c1 : w3.cell? ⟨w.heap.size, 1, none⟩ = some (.string b) := cells_of (unhide HB0) 1 _ rfl
    have c2 : w3.cell? ⟨w.heap.size, 2, none⟩ = some (.string c) := cells_of (unhide HB0) 2 _ rfl
    have c3 : w3.cell? ⟨w.heap.size, 3, none⟩ = some (.slice ao n ca) := cells_of (unhide HB0) 3 _ rfl
    go_wp2_with fail
    refine ((unhide H3) _ E03).mono ?_
    rintro e w2 ⟨ua, uc, rfl, HO, E2⟩
    replace HB1 := hide (E2.kept (unhide HB1))
    have HE := hide (E03.trans E2)
    clear E2 c0 c1 c2 c3
    go_wp2_with (first
      | (refine wpList_store_blk rfl 28 _ _ rfl rfl (w.heap.size + 1) rfl _ _ _ rfl (unhide HB1) infoL rfl (by simp [Value.oneCell']) ?_; intro Z hy hf9; have HY := hide hy; have FY := hide hf9; clear hy hf9))
    have v0 : Z.cell? ⟨w.heap.size + 1, 0, none⟩ = some (.string a) := cells_of (unhide HY) 0 _ rfl
    have v1 : Z.cell? ⟨w.heap.size + 1, 1, none⟩ = some (.string b) := cells_of (unhide HY) 1 _ rfl
    have v2 : Z.cell? ⟨w.heap.size + 1, 2, none⟩ = some (.string c) := cells_of (unhide HY) 2 _ rfl
    have v3 : Z.cell? ⟨w.heap.size + 1, 3, none⟩ = some (.slice ua n uc) := cells_of (unhide HY) 3 _ rfl
    exact bodyPost_ret (v := .tuple #[.agg #[.string a, .string b, .string c, .slice ua n uc], .bool false]) (by simp [results, Tryd.results5, go_sem, v0, v1, v2, v3]) rfl ⟨_, rfl, ((unhide HO).fr (unhide FY) (fun g hg e9 => by have := ((unhide HO).lt g hg).1; omega)).mono (by omega), (unhide FY).ext (unhide HE) (fun q hq => by omega)⟩
set_option maxRecDepth 10000 in
set_option maxHeartbeats 4000000 in
theorem specSetText_yes (a b c : ByteArray) (v : Value) (n : Nat) (tx hf : Nat → ByteArray) (s : ByteArray) (w : World) (hv : Row2At w v n (fun j => .string (tx j)) (fun j => .string (hf j))) (ha : a.size ≤ 1048576) (hb : b.size ≤ 1048576) (hc : c.size ≤ 1048576) (_hn : n ≤ 1048576) (hx : ∀ j, j < n → (tx j).size ≤ 1048576 ∧ (hf j).size ≤ 1048576) (hs : s.size ≤ 1048576) (hP : LineP a b c n tx hf) (hS : TextP (baL s)) :
    Calls Tryd.prog 5 #[.agg #[.string a, .string b, .string c, v], .string s] w fun e w' => ∃ v', e = .returned (.tuple #[.agg #[.string s, .string noT, .string c, v'], .bool true]) ∧ Own2 w' w.heap.size 51 v' (undoN (unL tx hf n) (a, b)).length (fun j => .string (lnT (undoN (unL tx hf n) (a, b)) j)) (fun j => .string (lnH (undoN (unL tx hf n) (a, b)) j)) ∧ Ext w w' := by
  obtain ⟨uz, huz⟩ : ∃ uz, uz = undoN (unL tx hf n) (a, b) := ⟨_, rfl⟩
  have infoL : (Tryd.prog.info? 28).map (·.size) = some 4 := by kernel_rfl
  obtain ⟨ao, ca, rfl, _, _⟩ := id hv
  have H1 := hide (fun W (E : Ext w W) => specLineOk_all a b c ao n ca tx hf W (hv.ext E) ha hb hc hx true (by simp [hP]))
  have H2 := hide (fun W => l4TextOk_ba s W hs true (by simp [hS]))
  have H3 := hide (fun W (E : Ext w W) => l4Set_any a b c s noT (.slice ao n ca) n tx hf W (hv.ext E) hP.1)
  rw [← huz] at H3 ⊢
  clear hP hS hv hx huz
  obtain ⟨V, hV⟩ : ∃ V, V = (w.alloc (.cells #[.string a, .string b, .string c, .slice ao n ca] 28)).alloc (.cells #[.string { data := #[] }, .string { data := #[] }, .string { data := #[] }, .slice none 0 0] 28) := ⟨_, rfl⟩
  have E0 : Ext w V := by rw [hV]; exact ((Ext.refl w).alloc _).alloc _
  have HB0 : Hid (V.heap[w.heap.size]? = some (.cells #[.string a, .string b, .string c, .slice ao n ca] 28 (0, 0))) := hide (by rw [hV]; exact ((Ext.refl _).alloc _).kept (new_block w _))
  have HB1 : Hid (V.heap[w.heap.size + 1]? = some (.cells #[.string { data := #[] }, .string { data := #[] }, .string { data := #[] }, .slice none 0 0] 28 (0, 0))) := hide (by rw [hV]; have h := new_block (w.alloc (.cells #[.string a, .string b, .string c, .slice ao n ca] 28)) (.cells #[.string { data := #[] }, .string { data := #[] }, .string { data := #[] }, .slice none 0 0] 28); rw [show (w.alloc (.cells #[.string a, .string b, .string c, .slice ao n ca] 28)).heap.size = w.heap.size + 1 by simp] at h; exact h)
  have sz0 : w.heap.size + 1 < V.heap.size := by rw [hV]; simp
  have HW := hide hV
  clear hV
  go_enter Tryd.func5, Tryd.ntmps5
  go_wp2_with fail
  rw [← unhide HW]
  clear HW
  refine ((unhide H1) _ E0).mono ?_
  rintro e w1 ⟨rfl, E1⟩
  have E01 := E0.trans E1
  replace HB0 := hide (E1.kept (unhide HB0))
  replace HB1 := hide (E1.kept (unhide HB1))
  have z1 := E1.size
  clear E0 E1 H1
  go_wp2_with fail
  refine ((unhide H2) _).mono ?_
  rintro e w3 ⟨rfl, E3⟩
  replace HB0 := hide (E3.kept (unhide HB0))
  replace HB1 := hide (E3.kept (unhide HB1))
  have E03 := E01.trans E3
  have z3 := E3.size
  clear E3 E01
  have c0 : w3.cell? ⟨w.heap.size, 0, none⟩ = some (.string a) := cells_of (unhide HB0) 0 _ rfl
  have c1 : w3.cell? ⟨w.heap.size, 1, none⟩ = some (.string b) := cells_of (unhide HB0) 1 _ rfl
  have c2 : w3.cell? ⟨w.heap.size, 2, none⟩ = some (.string c) := cells_of (unhide HB0) 2 _ rfl
  have c3 : w3.cell? ⟨w.heap.size, 3, none⟩ = some (.slice ao n ca) := cells_of (unhide HB0) 3 _ rfl
  go_wp2_with fail
  refine ((unhide H3) _ E03).mono ?_
  rintro e w2 ⟨v2, rfl, hO, E2⟩
  obtain ⟨ua, un, uc, rfl⟩ : ∃ ua un uc, v2 = .slice ua un uc := by
    obtain ⟨g1, g2, e1, _⟩ := hO.reads
    exact ⟨_, _, _, e1⟩
  have HO := hide hO
  clear hO
  replace HB1 := hide (E2.kept (unhide HB1))
  have HE := hide (E03.trans E2)
  clear E2 c0 c1 c2 c3
  go_wp2_with (first
    | (refine wpList_store_blk rfl 28 _ _ rfl rfl (w.heap.size + 1) rfl _ _ _ rfl (unhide HB1) infoL rfl (by simp [Value.oneCell']) ?_; intro Z hy hf9; have HY := hide hy; have FY := hide hf9; clear hy hf9))
  have v0 : Z.cell? ⟨w.heap.size + 1, 0, none⟩ = some (.string s) := cells_of (unhide HY) 0 _ rfl
  have v1 : Z.cell? ⟨w.heap.size + 1, 1, none⟩ = some (.string noT) := cells_of (unhide HY) 1 _ rfl
  have v2 : Z.cell? ⟨w.heap.size + 1, 2, none⟩ = some (.string c) := cells_of (unhide HY) 2 _ rfl
  have v3 : Z.cell? ⟨w.heap.size + 1, 3, none⟩ = some (.slice ua un uc) := cells_of (unhide HY) 3 _ rfl
  exact bodyPost_ret (v := .tuple #[.agg #[.string s, .string noT, .string c, .slice ua un uc], .bool true]) (by simp [results, Tryd.results5, go_sem, v0, v1, v2, v3]) rfl ⟨_, rfl, ((unhide HO).fr (unhide FY) (fun g hg e9 => by have := ((unhide HO).lt g hg).1; omega)).mono (by omega), (unhide FY).ext (unhide HE) (fun q hq => by omega)⟩
end Go.Proofs.YtopjihagpkempaaDoor

namespace Go.Proofs.YtopjihagpkempaaDoor
open Go.RowKit

/-- What 'mark' lays into pairs of texts. -/
def mkU (k : Int) (j : Nat) : Value := .string (mtx (k + 2 * (j : Int) + 1))
theorem Own2.setA {w : World} {base : Nat} {T : TypeId} {n : Nat} {A B : Nat → Value} {g cap j : Nat} (h : Own2 w base T (.slice (some ⟨g, 0, none⟩) n cap) n A B) (hj : j < n) (u : Value) :
    Own2 (w.setCell ⟨g, j * 2, none⟩ u) base T (.slice (some ⟨g, 0, none⟩) n cap) n (fun i => if i = j then u else A i) B := by
  obtain ⟨ys, h1, h2⟩ := h
  have hl := h1.1
  refine ⟨_, (h1.stored (j * 2) u).1, fun i hi => ?_⟩
  dsimp only
  by_cases e : i = j
  · subst e
    rw [if_pos rfl, List.getElem?_set_self (by omega), List.getElem?_set_ne (by omega)]
    exact ⟨rfl, (h2 i hi).2⟩
  · rw [if_neg e, List.getElem?_set_ne (by omega), List.getElem?_set_ne (by omega)]
    exact h2 i hi
theorem Own2.setB {w : World} {base : Nat} {T : TypeId} {n : Nat} {A B : Nat → Value} {g cap j : Nat} (h : Own2 w base T (.slice (some ⟨g, 0, none⟩) n cap) n A B) (hj : j < n) (u : Value) :
    Own2 (w.setCell ⟨g, j * 2 + 1, none⟩ u) base T (.slice (some ⟨g, 0, none⟩) n cap) n A (fun i => if i = j then u else B i) := by
  obtain ⟨ys, h1, h2⟩ := h
  have hl := h1.1
  refine ⟨_, (h1.stored (j * 2 + 1) u).1, fun i hi => ?_⟩
  dsimp only
  by_cases e : i = j
  · subst e
    rw [if_pos rfl, List.getElem?_set_ne (by omega), List.getElem?_set_self (by omega)]
    exact ⟨(h2 i hi).1, rfl⟩
  · rw [if_neg e, List.getElem?_set_ne (by omega), List.getElem?_set_ne (by omega)]
    exact h2 i hi
set_option maxRecDepth 10000 in
set_option maxHeartbeats 1000000 in
theorem markSnapS_any (base : Nat) (v : Value) (n : Nat) (A B : Nat → Value) (k : Int) (w : World) (hv : Own2 w base 51 v n A B) (hn : n ≤ 1048576) (hk : 0 ≤ k) (hk2 : k ≤ 1099511627776) :
    Calls Tryd.prog 24 #[v, .int .i64 k] w fun e w' => e = .returned (.int .i64 (k + 2 * (n : Int))) ∧ Own2 w' base 51 v n (mkT k) (mkU k) ∧ Fr (fun g => v.ownBlock = some g) w w' := by
  have HV := hide hv
  rcases hv.form with ⟨rfl, h0⟩ | ⟨g, cap, rfl⟩
  · subst h0
    clear hv
    go_enter Tryd.func24, Tryd.ntmps24
    go_wp2
    go_loop [1, 5] (fun a i => a = .int .i64 k ∧ i = .int .i64 0) (fun _ _ => 0)
    case atStart => exact ⟨rfl, rfl⟩
    case round =>
      obtain ⟨rfl, rfl⟩ := hrel
      go_wp2
      go_ret
      exact ⟨ret_int (by simp), (unhide HV).congr (fun j hj => by omega), Fr.refl _ _⟩
  · clear hv
    go_enter Tryd.func24, Tryd.ntmps24
    go_wp2
    go_loopw [1, 5] (fun a i wr => ∃ j : Nat, j ≤ n ∧ a = .int .i64 (k + 2 * (j : Int)) ∧ i = .int .i64 j ∧ Hid (Own2 wr base 51 (.slice (some ⟨g, 0, none⟩) n cap) n (fun i => if i < j then mkT k i else A i) (fun i => if i < j then mkU k i else B i)) ∧ Hid (Fr (fun q => (Value.slice (some ⟨g, 0, none⟩) n cap).ownBlock = some q) w wr)) (fun _ i _ => n - (intOf i).toNat)
    case atStart => exact ⟨0, Nat.zero_le _, by go_num, rfl, (unhide HV).congr (fun j hj => ⟨by simp, by simp⟩), Fr.refl _ _⟩
    case round =>
      obtain ⟨j, hj, rfl, rfl, HO, HF⟩ := hrel
      by_cases hlt : j < n
      · have bj : (j : Int) < (n : Int) := by omega
        obtain ⟨K, hK⟩ : ∃ K, K = k + 2 * (j : Int) := ⟨_, rfl⟩
        have HK := hide hK
        have hKb : 0 ≤ K ∧ K ≤ 1099513724928 := by omega
        rw [← hK]
        clear hK
        go_wp2_with fail
        refine (markText_any K _ (by omega)).mono ?_
        rintro e w1 ⟨rfl, F1⟩
        have hO1 := (unhide HO).ext F1
        obtain ⟨⟨c0, f0⟩, c1, f1⟩ := hO1.cell hlt
        have HS1 := hide (hO1.setA hlt (.string (mtx K)))
        have HF1 := hide (((unhide HF).grown F1 (fun q hq => by simp at hq)).setCell (a := ⟨g, j * 2, none⟩) rfl (.string (mtx K)))
        clear hO1
        go_wp2_with fail
        refine (markText_any (K + 1) _ (by omega)).mono ?_
        rintro e w2 ⟨rfl, F2⟩
        have hO2 := (unhide HS1).ext F2
        obtain ⟨⟨d0, e0⟩, d1, e1⟩ := hO2.cell hlt
        have HS := hide ((hO2.setB hlt (.string (mtx (K + 1)))).congr (A' := fun i => if i < j + 1 then mkT k i else A i) (B' := fun i => if i < j + 1 then mkU k i else B i) (fun i hi => by
          by_cases e : i = j
          · subst e
            rw [if_pos rfl, if_pos rfl, if_pos (by omega), if_pos (by omega), mkT, mkU, ← unhide HK]
            exact ⟨rfl, rfl⟩
          · rw [if_neg e, if_neg e]
            by_cases e2 : i < j
            · rw [if_pos e2, if_pos e2, if_pos (by omega), if_pos (by omega)]; exact ⟨rfl, rfl⟩
            · rw [if_neg e2, if_neg e2, if_neg (by omega), if_neg (by omega)]; exact ⟨rfl, rfl⟩))
        have HF2 := hide (((unhide HF1).grown F2 (fun q hq => by simp at hq)).setCell (a := ⟨g, j * 2 + 1, none⟩) rfl (.string (mtx (K + 1))))
        clear hO2
        go_wp2
        go_roundw
        case rel => exact ⟨j + 1, by omega, by rw [unhide HK]; go_num, by go_num, HS, HF2⟩
        case measure => simp [intOf]; omega
      · obtain rfl : j = n := by omega
        have HFIN := hide ((unhide HO).congr (A' := mkT k) (B' := mkU k) (fun i hi => ⟨by simp [hi], by simp [hi]⟩))
        go_wp2
        go_ret
        exact ⟨rfl, unhide HFIN, unhide HF⟩
set_option maxRecDepth 10000 in
set_option maxHeartbeats 1000000 in
theorem heldSnapS_any (v : Value) (n : Nat) (k : Int) (w : World) (hv : Row2At w v n (mkT k) (mkU k)) (hn : n ≤ 1048576) (hk : 0 ≤ k) (hk2 : k ≤ 1099511627776) :
    Calls Tryd.prog 25 #[v, .int .i64 k] w fun e w' => e = .returned (.int .i64 (k + 2 * (n : Int))) ∧ Ext w w' := by
  obtain ⟨ao, ca, rfl, hca, hxa⟩ := hv
  by_cases h0 : n = 0
  · subst h0
    clear hxa
    go_enter Tryd.func25, Tryd.ntmps25
    go_wp2
    go_loop [1, 5] (fun a i => a = .int .i64 k ∧ i = .int .i64 0) (fun _ _ => 0)
    case atStart => exact ⟨rfl, rfl⟩
    case round =>
      obtain ⟨rfl, rfl⟩ := hrel
      go_wp2
      go_ret
      exact ⟨ret_int (by simp), Ext.refl _⟩
  · obtain ⟨b, off, rfl, hc⟩ := hxa (by omega)
    have HC := hide hc
    clear hxa hc
    go_enter Tryd.func25, Tryd.ntmps25
    go_wp2
    go_loopw [1, 5] (fun a i wr => ∃ j : Nat, j ≤ n ∧ a = .int .i64 (k + 2 * (j : Int)) ∧ i = .int .i64 j ∧ Ext w wr) (fun _ i _ => n - (intOf i).toNat)
    case atStart => exact ⟨0, Nat.zero_le _, by go_num, rfl, Ext.refl _⟩
    case round =>
      obtain ⟨j, hj, rfl, rfl, hext⟩ := hrel
      by_cases hlt : j < n
      · have bj : (j : Int) < (n : Int) := by omega
        have hcc := (unhide HC) j hlt
        have g1 := hext.cell hcc.1
        have g2 := hext.cell hcc.2
        simp only [mkT, mkU] at g1 g2
        obtain ⟨K, hK⟩ : ∃ K, K = k + 2 * (j : Int) := ⟨_, rfl⟩
        have HK := hide hK
        have hKb : 0 ≤ K ∧ K ≤ 1099513724928 := by omega
        rw [← hK] at g1 g2 ⊢
        clear hK hcc
        have G2 := hide g2
        clear g2
        go_wp2
        go_region_held3 (fun W => Ext wr W ∧ W.cell? ⟨b, off + j * 2, none⟩ = some (.string (mtx K))) (first | exact ⟨(Ext.refl wr).drew, g1⟩ | exact ⟨(Ext.refl wr).drew.trans he', he'.cell g1⟩) (first | (go_at_call 36; refine (markText_any K _ (by omega)).mono ?_; rintro e w' ⟨rfl, he'⟩))
        rename_i hS
        have hE := hext.trans hS.1
        have g3 := hS.1.cell (unhide G2)
        have hF := hS.1
        clear hS g1
        go_wp2
        go_region_held3 (fun W => Ext wr W ∧ W.cell? ⟨b, off + j * 2 + 1, none⟩ = some (.string (mtx (K + 1)))) (first | exact ⟨hF.drew, g3⟩ | exact ⟨hF.drew.trans he2, he2.cell g3⟩) (first | (go_at_call 36; refine (markText_any (K + 1) _ (by omega)).mono ?_; rintro e w'' ⟨rfl, he2⟩))
        rename_i hS
        have hE := hext.trans hS.1
        clear hS
        go_wp2
        go_roundw
        case rel => exact ⟨j + 1, by omega, by rw [unhide HK]; go_num, by go_num, hE⟩
        case measure => simp [intOf]; omega
      · obtain rfl : j = n := by omega
        go_wp2
        go_ret
        exact ⟨rfl, hext⟩
set_option maxRecDepth 10000 in
set_option maxHeartbeats 1000000 in
theorem markLine_any (base : Nat) (a b c : ByteArray) (v : Value) (n : Nat) (A B : Nat → Value) (k : Int) (w : World) (hv : Own2 w base 51 v n A B) (hn : n ≤ 1048576) (hk : 0 ≤ k) (hk2 : k ≤ 1099511627776) :
    Calls Tryd.prog 9 #[.agg #[.string a, .string b, .string c, v], .int .i64 k] w fun e w' => e = .returned (.int .i64 (k + 2 * (n : Int))) ∧ Own2 w' base 51 v n (mkT k) (mkU k) ∧ Fr (fun g => v.ownBlock = some g) w w' := by
  have HC := hide (fun U (hU : Ext w U) => markSnapS_any base v n A B k U (hv.ext hU) hn hk hk2)
  clear hv
  go_enter Tryd.func9, Tryd.ntmps9
  go_wp2_with fail
  refine ((unhide HC) _ ((Ext.refl w).alloc _)).mono ?_
  rintro e w1 ⟨rfl, o1, F1⟩
  have O1 := hide o1
  clear o1
  go_wp2
  go_ret
  exact ⟨rfl, unhide O1, ⟨F1.os, F1.tape, F1.output, Nat.le_trans ((Ext.refl w).alloc _).size F1.size, fun i hi hn => (F1.block i (Nat.lt_of_lt_of_le hi ((Ext.refl w).alloc _).size) hn).trans (((Ext.refl w).alloc _).heap hi)⟩⟩
set_option maxRecDepth 10000 in
set_option maxHeartbeats 1000000 in
theorem heldLine_any (a b c : ByteArray) (v : Value) (n : Nat) (k : Int) (w : World) (hv : Row2At w v n (mkT k) (mkU k)) (hn : n ≤ 1048576) (hk : 0 ≤ k) (hk2 : k ≤ 1099511627776) :
    Calls Tryd.prog 10 #[.agg #[.string a, .string b, .string c, v], .int .i64 k] w fun e w' => e = .returned (.int .i64 (k + 2 * (n : Int))) ∧ Ext w w' := by
  have HC := hide (fun U (hU : Ext w U) => heldSnapS_any v n k U (hv.ext hU) hn hk hk2)
  clear hv
  have hneg : ¬ k + 2 * (n : Int) < 0 := by omega
  go_enter Tryd.func10, Tryd.ntmps10
  go_wp2_with fail
  refine ((unhide HC) _ ((Ext.refl w).alloc _)).mono ?_
  rintro e w1 ⟨rfl, F1⟩
  go_wp2
  go_ret
  exact ⟨rfl, ((Ext.refl w).alloc _).trans F1⟩
end Go.Proofs.YtopjihagpkempaaDoor

namespace Go.Proofs.YtopjihagpkempaaDoor
open Go.RowKit

/-- Lines. -/
def lineK (a b c : ByteArray) (n : Nat) (tx hf : Nat → ByteArray) : Kd where
  R w v := ∃ u, v = .agg #[.string a, .string b, .string c, u] ∧ Row2At w u n (fun j => .string (tx j)) (fun j => .string (hf j))
  O w base S v := ∃ u, v = .agg #[.string a, .string b, .string c, u] ∧ Own2 w base 51 u n (fun j => .string (tx j)) (fun j => .string (hf j)) ∧ ∀ g, S g ↔ u.ownBlock = some g
  rext := by rintro w w' v ⟨u, e, h⟩ he; exact ⟨u, e, h.ext he⟩
  oext := by rintro w w' b S v ⟨u, e, h, hS⟩ he; exact ⟨u, e, h.ext he, hS⟩
  ofr := by rintro w w' b S S' v ⟨u, e, h, hS⟩ hf hd; exact ⟨u, e, h.fr hf (fun g hg => hd g ((hS g).2 hg)), hS⟩
  reads := by rintro w b S v ⟨u, e, h, hS⟩; exact ⟨u, e, h.reads⟩
  lt := by rintro w b S v ⟨u, e, h, hS⟩ g hg; exact h.lt g ((hS g).1 hg)
theorem lineK_shape {a b c : ByteArray} {n : Nat} {tx hf : Nat → ByteArray} {w : World} {v : Value} (h : (lineK a b c n tx hf).R w v) : ∃ ua uc, v = .agg #[.string a, .string b, .string c, .slice ua n uc] := by
  obtain ⟨u, rfl, ua, uc, rfl, _⟩ := h
  exact ⟨ua, uc, rfl⟩
theorem lineK_own {a b c : ByteArray} {n : Nat} {tx hf : Nat → ByteArray} {w : World} {base : Nat} {u : Value} (h : Own2 w base 51 u n (fun j => .string (tx j)) (fun j => .string (hf j))) : (lineK a b c n tx hf).O w base (fun g => u.ownBlock = some g) (.agg #[.string a, .string b, .string c, u]) := ⟨u, rfl, h, fun _ => Iff.rfl⟩
theorem lineK_eq (a b c : ByteArray) (n : Nat) (tx hf : Nat → ByteArray) (hn : n ≤ 4398046511104) : EqOk 8 (lineK a b c n tx hf) := by
  rintro w x y ⟨ux, rfl, h1⟩ ⟨uy, rfl, h2⟩
  exact eqLine_same a b c ux uy n tx hf w h1 h2 hn
theorem lineK_mark (a b c : ByteArray) (n : Nat) (tx hf : Nat → ByteArray) (hn : n ≤ 1048576) : MarkOk 9 (lineK a b c n tx hf) (fun k => lineK a b c n (fun j => mtx (k + 2 * (j : Int))) (fun j => mtx (k + 2 * (j : Int) + 1))) (2 * n) := by
  rintro w base S v k ⟨u, rfl, h, hS⟩ h0 h1
  refine (markLine_any base a b c u n _ _ k w h hn h0 (by omega)).mono ?_
  rintro e w' ⟨rfl, o, f⟩
  rw [show ((2 * n : Nat) : Int) = 2 * (n : Int) by omega]
  exact ⟨rfl, ⟨u, rfl, o, hS⟩, f.mono (fun g hg => (hS g).2 hg)⟩
theorem lineK_held (a b c : ByteArray) (n : Nat) (hn : n ≤ 1048576) : HeldOk 10 (fun k => lineK a b c n (fun j => mtx (k + 2 * (j : Int))) (fun j => mtx (k + 2 * (j : Int) + 1))) (2 * n) := by
  rintro w v k ⟨u, rfl, h⟩ h0 h1
  have hc := heldLine_any a b c u n k w h hn h0 (by omega)
  rw [show ((2 * n : Nat) : Int) = 2 * (n : Int) by omega]
  exact hc
end Go.Proofs.YtopjihagpkempaaDoor

namespace Go.Proofs.YtopjihagpkempaaDoor
open Go.ChangeShapes Go.WideShapes Go.ChangeAt Go.RowKit Go.Deep

set_option maxRecDepth 10000 in
theorem snaps_trod {H : Type} {enc : TypeId × Value → H} {W : World} {fuel : Nat} {v : Value} {x : DataW H × List MemPlace}
    (h : DataW.trod enc Tryd.prog W 0 (fun _ => true) true fuel 22 [v] = some x) : ∃ (n : Nat) (tx hf : Nat → ByteArray), Row2At W v n (fun j => .string (tx j)) (fun j => .string (hf j)) ∧ n ≤ maxLen ∧ ∀ j, j < n → (tx j).size ≤ maxLen ∧ (hf j).size ≤ maxLen := by
  rcases open_slice_pairs Tryd.underlying22 Tryd.underlying50 (by kernel_rfl) rfl rfl (by kernel_rfl) (by kernel_rfl) h with ⟨hcs, _⟩ | ⟨a, len, cap, m, n, V0, V1, D0, D1, P0, P1, hcs, _, hl, hm, hmm, _, hx⟩
  · simp at hcs
    subst hcs
    exact ⟨0, fun _ => { data := #[] }, fun _ => { data := #[] }, ⟨none, 0, rfl, Nat.le_refl _, fun h => by omega⟩, by simp, fun j hj => by omega⟩
  · simp at hcs
    subst hcs
    simp at hmm
    have each : ∀ i, i < len → ∃ q : ByteArray × ByteArray, V0 i = .string q.1 ∧ V1 i = .string q.2 ∧ q.1.size ≤ maxLen ∧ q.2.size ≤ maxLen := by
      intro i hi
      obtain ⟨_, _, t0, t1⟩ := hx i (by omega)
      obtain ⟨s, e0, _, hs⟩ := DataW.trod_string Tryd.underlying9 t0
      obtain ⟨b, e1, _, hb⟩ := DataW.trod_string Tryd.underlying9 t1
      simp at e0 e1
      exact ⟨(s, b), e0, e1, hs, hb⟩
    obtain ⟨q, hq⟩ := choose_lt each
    refine ⟨len, fun i => (q i).1, fun i => (q i).2, ⟨some a, cap, rfl, hl, fun hp => ?_⟩, by omega, fun j hj => (hq j hj).2.2⟩
    have ha := addr_plain (by simpa using (hx 0 (by omega)).1)
    refine ⟨a.block, a.off, by rw [← ha], fun j hj => ?_⟩
    obtain ⟨c0, c1, _, _⟩ := hx j (by omega)
    rw [ha, Addr.add_lit] at c0 c1
    rw [(hq j hj).1] at c0
    rw [(hq j hj).2.1] at c1
    exact ⟨c0, by simpa [Nat.add_assoc] using c1⟩
set_option maxRecDepth 10000 in
/-- A line that came in, opened. -/
theorem line_came {H : Type} {enc : TypeId × Value → H} {W : World} {v : Value} {d : DataW H} {p : List MemPlace} {base : Nat} {r : Reach}
    (hv : Value.okWide Tryd.prog W r base 24 v) (h : DataW.Trod enc Tryd.prog W 0 (fun _ => true) true 24 v d p) :
    ∃ (a b c : ByteArray) (u : Value) (n : Nat) (tx hf : Nat → ByteArray), v = .agg #[.string a, .string b, .string c, u] ∧ Row2At W u n (fun j => .string (tx j)) (fun j => .string (hf j)) ∧ a.size ≤ maxLen ∧ b.size ≤ maxLen ∧ c.size ≤ maxLen ∧ n ≤ maxLen ∧ ∀ j, j < n → (tx j).size ≤ maxLen ∧ (hf j).size ≤ maxLen := by
  obtain ⟨cs, rfl, hsz⟩ := okWide_struct Tryd.underlying24 hv
  obtain ⟨fuel, hf⟩ := h
  obtain ⟨xs, n, _, _, _, hlen, hx⟩ := DataW.trod_struct Tryd.underlying24 hf
  have h4 : Tryd.prog.cellsOf 24 = 4 := by kernel_rfl
  rw [h4] at hsz
  obtain ⟨l⟩ := cs
  have ks : Tryd.prog.cellsOf 9 = 1 := by kernel_rfl
  have ku : Tryd.prog.cellsOf 22 = 1 := by kernel_rfl
  match l, hsz, xs, hlen with
  | [c0, c1, c2, c3], _, [x0, x1, x2, x3], _ =>
    have t0 : DataW.trod enc Tryd.prog W 0 (fun _ => true) true n 9 [c0] = some x0 := by
      have := hx 0 _ rfl
      simpa [Value.cells, ks] using this
    have t1 : DataW.trod enc Tryd.prog W 0 (fun _ => true) true n 9 [c1] = some x1 := by
      have := hx 1 _ rfl
      simpa [Value.cells, ks] using this
    have t2 : DataW.trod enc Tryd.prog W 0 (fun _ => true) true n 9 [c2] = some x2 := by
      have := hx 2 _ rfl
      simpa [Value.cells, ks] using this
    have t3 : DataW.trod enc Tryd.prog W 0 (fun _ => true) true n 22 [c3] = some x3 := by
      have := hx 3 _ rfl
      simpa [Value.cells, ku] using this
    obtain ⟨s0, e0, _, z0⟩ := DataW.trod_string Tryd.underlying9 t0
    obtain ⟨s1, e1, _, z1⟩ := DataW.trod_string Tryd.underlying9 t1
    obtain ⟨s2, e2, _, z2⟩ := DataW.trod_string Tryd.underlying9 t2
    obtain ⟨m, tx, hfl, g1, g2, g3⟩ := snaps_trod t3
    simp at e0 e1 e2
    subst e0 e1 e2
    exact ⟨s0, s1, s2, c3, m, tx, hfl, rfl, g1, z0, z1, z2, g2, g3⟩
end Go.Proofs.YtopjihagpkempaaDoor

namespace Go.Proofs.YtopjihagpkempaaDoor
open Go.ChangeShapes Go.WideShapes Go.ChangeAt Go.RowKit Go.Deep

theorem ownH : ownKnob Tryd.prog.godebug = none := by kernel_rfl
theorem laidOutH : laidOutB Tryd.prog = true := by kernel_rfl
abbrev laidH : List (String × DataW Unit) := Rows.fnExactSetTextRow.laid
abbrev wideName : String := Rows.fnExactSetTextRow.named.headD ""
abbrev firstName : String := (Rows.fnExactSetTextRow.named.drop 1).headD ""
abbrev accName : String := (Rows.fnExactSetTextRow.named.drop 2).headD ""
theorem gWide : Tryd.prog.globalNamed wideName = some 0 := by kernel_rfl
theorem tWide : (Tryd.prog.globals[0]?).map (·.type) = some 94 := by kernel_rfl
theorem gFirst : Tryd.prog.globalNamed firstName = some 1 := by kernel_rfl
theorem tFirst : (Tryd.prog.globals[1]?).map (·.type) = some 96 := by kernel_rfl
theorem gAcc : Tryd.prog.globalNamed accName = some 2 := by kernel_rfl
theorem tAcc : (Tryd.prog.globals[2]?).map (·.type) = some 99 := by kernel_rfl
def wRowD {H : Type} (m : Nat) : DataW H := .agg [.lit (.int .i32 (at0 firsts m)), .lit (.int .i32 (at0 lasts m)), .lit (.int .i64 (at0 widths m))]
def wTabD {H : Type} : DataW H := .agg ((List.range 19).map wRowD)
theorem inH1 : (accName, (Lib.acceptData : DataW Unit)) ∈ laidH := List.mem_cons_self
theorem inH2 : (wideName, (wTabD : DataW Unit)) ∈ laidH := List.mem_cons_of_mem _ List.mem_cons_self
theorem inH3 : (firstName, (Lib.firstData : DataW Unit)) ∈ laidH := by
  rw [← Pinned.utf8First_eq]
  exact List.mem_cons_of_mem _ (List.mem_cons_of_mem _ List.mem_cons_self)
theorem wide_of_reads {W : World} (h : Lib.VarReads Tryd.prog W wideName wTabD) : Laid W := by
  obtain ⟨g0, t0, cs0, f0, p0, hg0, ht0, hv0, hd0⟩ := h
  obtain rfl := Option.some.inj (gWide.symm.trans hg0)
  obtain rfl := Option.some.inj (tWide.symm.trans ht0)
  have c36 : Tryd.prog.cellsOf 93 = 3 := by kernel_rfl
  have c21 : Tryd.prog.cellsOf 21 = 1 := by kernel_rfl
  have c3 : Tryd.prog.cellsOf 3 = 1 := by kernel_rfl
  obtain ⟨xs, m1, rfl, hx1, hlen, hn, hel⟩ := DataW.trod_array Tryd.underlying94 hd0
  rw [wTabD] at hx1
  simp only [Prod.mk.injEq, DataW.agg.injEq] at hx1
  have hx := hx1.1
  intro m hm
  have hrow := hel m hm
  have hxm : m < xs.length := by omega
  rw [List.getElem?_eq_getElem hxm, c36] at hrow
  have hfst : (xs[m]).1 = wRowD m := by
    have e1 : (xs.map (·.1))[m]? = some (wRowD m) := by rw [← hx]; simp [hm]
    simpa [hxm] using e1
  obtain ⟨y0, y1, y2, n, hy, hl, hf0, hf1, hf2⟩ := trod_struct3 Tryd.underlying93 hrow
  obtain ⟨k0, e0, z0, _⟩ := DataW.trod_int Tryd.underlying21 hf0
  obtain ⟨k1, e1, z1, _⟩ := DataW.trod_int Tryd.underlying21 hf1
  obtain ⟨k2, e2, z2, _⟩ := DataW.trod_int Tryd.underlying3 hf2
  rw [hy] at hfst
  simp only [wRowD, z0, z1, z2, DataW.agg.injEq, List.cons.injEq, DataW.lit.injEq, Lit.int.injEq, true_and, and_true] at hfst
  obtain ⟨rfl, rfl, rfl⟩ := hfst
  simp only [c21, c3, List.drop_take, List.drop_drop] at e0 e1 e2
  have at_ (j : Nat) : W.cell? ⟨0, j, none⟩ = cs0.toList[j]? := by
    rw [World.var?_cell hg0 hv0 j]; simp
  refine ⟨?_, ?_, ?_⟩
  · rw [at_]
    have := congrArg (·[0]?) e0
    simpa using this
  · rw [at_]
    have := congrArg (·[0]?) e1
    simpa using this
  · rw [at_]
    have := congrArg (·[0]?) e2
    simpa using this
theorem tabs_of_reads {W : World} (h3 : Lib.VarReads Tryd.prog W firstName Lib.firstData) (h4 : Lib.VarReads Tryd.prog W accName Lib.acceptData) : Lib.Utf8Tabs 1 2 W := by
  have c5 : Tryd.prog.cellsOf 5 = 1 := by kernel_rfl
  have c2 : Tryd.prog.cellsOf 98 = 2 := by kernel_rfl
  refine ⟨fun c hc => ?_, fun i hi => ?_⟩
  · obtain ⟨g, t, cs, fuel, p, hg, hty, hvar, hd⟩ := h3
    obtain rfl := Option.some.inj (gFirst.symm.trans hg)
    obtain rfl := Option.some.inj (tFirst.symm.trans hty)
    have hcs := Lib.cells_of_tab Tryd.underlying96 Tryd.underlying5 c5 (by kernel_rfl) hd
    have := World.var?_cell hg hvar c
    rw [this, ← Array.getElem?_toList, hcs]
    simp [Lib.firstTab, hc]
  · obtain ⟨g, t, cs, fuel, p, hg, hty, hvar, hd⟩ := h4
    obtain rfl := Option.some.inj (gAcc.symm.trans hg)
    obtain rfl := Option.some.inj (tAcc.symm.trans hty)
    obtain ⟨fuel', d, q, hdi, he⟩ := Lib.array_elem Tryd.underlying99 hd i hi
    simp only [List.getElem?_map, List.getElem?_range hi, Option.map_some, Option.some.injEq] at hdi
    subst hdi
    rw [c2] at he
    have hcs := Lib.ints_of_struct Tryd.underlying98 (fun j f hj => by
      match j, hj with
      | 0, hj => simp at hj; subst hj; exact ⟨Tryd.underlying5, rfl, c5⟩
      | 1, hj => simp at hj; subst hj; exact ⟨Tryd.underlying5, rfl, c5⟩
      | j + 2, hj => simp at hj) (by rw [c2]; rfl) he
    have e0 := congrArg (·[0]?) hcs
    have e1 := congrArg (·[1]?) hcs
    simp only [List.getElem?_take, List.getElem?_drop] at e0 e1
    constructor
    · rw [World.var?_cell hg hvar (2 * i), ← Array.getElem?_toList]
      simpa [Nat.mul_comm] using e0
    · rw [World.var?_cell hg hvar (2 * i + 1), ← Array.getElem?_toList]
      simpa [Nat.mul_comm] using e1
theorem tabs3_of_laid {W : World} (h : laidMetH Tryd.prog laidH W) : Tabs3 W := by
  rw [MakeChecks.laidMetH_plain _ _ _ (by kernel_rfl)] at h
  exact ⟨wide_of_reads (Lib.laidMet.reads h inH2), tabs_of_reads (Lib.laidMet.reads h inH3) (Lib.laidMet.reads h inH1)⟩
end Go.Proofs.YtopjihagpkempaaDoor
