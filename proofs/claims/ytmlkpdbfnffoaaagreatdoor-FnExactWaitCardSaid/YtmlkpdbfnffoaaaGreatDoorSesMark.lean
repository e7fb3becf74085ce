import Derived.Lib.TrimByte
import Derived.Test.YtmlkpdbfnffoaaaGreatDoorAllOk2
import Derived.Test.YtmlkpdbfnffoaaaGreatDoorShelf3
import Derived.Test.YtmlkpdbfnffoaaaGreatDoorChecked
import Derived.Test.YtmlkpdbfnffoaaaGreatDoorSzSes
set_option maxHeartbeats 4000000
set_option maxRecDepth 10000
namespace Go.Proofs.YtmlkpdbfnffoaaaGreatDoor
open Go.RowKit
theorem s2i (w : World) (s : ByteArray) : ∃ cap W', (convert 9 25 (.string s)).run Tryz.prog w = .ok (.slice (some ⟨w.heap.size, 0, none⟩) s.size cap) W' ∧ (∀ j u, ((baL s).map (Value.int .u8))[j]? = some u → W'.cell? ((⟨w.heap.size, 0, none⟩ : Addr).add j) = some u) ∧ Ext w W' := by
 have hr := run_bytes_of_string (P := Tryz.prog) w 9 25 5 s Tryz.underlying9 Tryz.underlying25 Tryz.underlying5
 refine ⟨_, _, hr, fun j u hj => ?_, (Ext.refl w).drew.alloc _⟩
 have hjl : j < s.data.size := by
  have := (List.getElem?_eq_some_iff.1 hj).1
  simp [baL] at this
  exact this
 rw [Addr.add_lit, Nat.zero_add]
 have hc := World.cell?_alloc_mark w.drew (bytesRow s (grownCap w s.size 0 5)) 5 ((bytesRow s (grownCap w s.size 0 5)).size, (bytesRow s (grownCap w s.size 0 5)).size + 1) j
 rw [bytesRow_at _ _ _ hjl] at hc
 refine Eq.trans hc ?_
 rw [← hj]
 simp only [baL, List.map_map, List.getElem?_map, Array.getElem?_toList]
 rw [Array.getElem?_eq_getElem hjl]
 rfl
def zct (s : ByteArray) : Nat → Nat
 | 0 => 0
 | k + 1 => if s.data.toList[k]? = some 32 then zct s k else k + 1
theorem zkb (s : ByteArray) (w : World) (hs : s.size ≤ 1048576) :
  Calls Tryz.prog 78 #[.string s] w fun e w' => e = .returned (.string (s.extract 0 (zct s s.size))) ∧ w' = w := by
 go_enter Tryz.func78, Tryz.ntmps78
 go_wp2
 go_loop [3] (fun i => ∃ k : Nat, k ≤ s.size ∧ i = .int .i64 k ∧ Hid (zct s s.size = zct s k)) (fun i => (intOf i).toNat)
 case atStart => exact ⟨s.size, Nat.le_refl _, rfl, zi rfl⟩
 case round =>
  obtain ⟨k, hk, rfl, HJ⟩ := hrel
  by_cases h0 : k = 0
  ·subst h0
   have hfin : Hid (zct s s.size = 0) := zi ((zg HJ).trans rfl)
   go_wp2
   go_ret
   exact ⟨by rw [zg hfin]; simp, rfl⟩
  ·obtain ⟨j, rfl⟩ : ∃ j, k = j + 1 := ⟨k - 1, by omega⟩
   have hw1 : IntKind.i64.wrap (((j + 1 : Nat) : Int) - 1) = (j : Int) := by rw [IntKind.wrap_i64]; omega
   have bj : (j : Int) < (s.size : Int) := by omega
   have hj : j < s.size := by omega
   have hat : s.data.toList[j]? = some (s[j]'hj) := by
    rw [List.getElem?_eq_getElem (by simpa using hj)]
    simp [ByteArray.getElem_eq_getElem_data]
   by_cases he : (s[j]'hj).toNat = 32
   ·have HJ2 : Hid (zct s s.size = zct s j) := zi ((zg HJ).trans (by
     rw [zct, if_pos]
     rw [hat]
     exact congrArg some (UInt8.toNat_inj.1 he)))
    clear hat
    go_wp2
    go_round
    case rel => exact ⟨j, by omega, rfl, HJ2⟩
    case measure => simp [intOf]
   ·have hfin : Hid (zct s s.size = j + 1) := zi ((zg HJ).trans (by
     rw [zct, if_neg]
     rw [hat]
     exact fun e => he (by rw [Option.some.inj e]; rfl)))
    clear hat
    go_wp2
    go_ret
    exact ⟨by rw [zg hfin]; rfl, rfl⟩
theorem zjA (s : ByteArray) : ∀ k, zct s k ≤ k
 | 0 => Nat.le_refl _
 | k + 1 => by
  rw [zct]
  split
  ·have := zjA s k
   omega
  ·exact Nat.le_refl _
def trimS (s : ByteArray) : ByteArray := s.extract 0 (zct s s.size)
theorem ze2 (x : ByteArray) (w : World) (hx : x.size ≤ 1048576) :
  Calls Tryz.prog 145 #[.string x] w fun e w' => e = .returned (.bool (Lib.hasSuffix x.data.toList [32])) ∧ Ext w w' := by
 have hcon := zi (Any.strings_HasSuffix Tryz.lays100 x { data := #[32] } w (by omega))
 go_enter Tryz.func145, Tryz.ntmps145
 go_wp2_with fail
 refine (zg hcon).mono ?_
 rintro e w1 ⟨rfl, rfl⟩
 go_wp2
 go_ret
 exact ⟨rfl, Ext.refl _⟩
theorem zh9 (s : ByteArray) : s.extract 0 (zct s s.size) = s ↔ Lib.hasSuffix s.data.toList [32] = false := by
 have hl : s.data.toList.length = s.size := by simp
 cases hz : s.size with
 | zero =>
  have he : s.data.toList = [] := List.eq_nil_of_length_eq_zero (by omega)
  constructor
  ·intro _
   rw [he]
   rfl
  ·intro _
   apply WideShapes.bytes_inj
   rw [he]
   simp [zct]
 | succ k =>
  have hk : k < s.data.toList.length := by omega
  have hsuf : Lib.hasSuffix s.data.toList [32] = true ↔ s.data.toList[k]? = some 32 := by
   unfold Lib.hasSuffix
   rw [List.isSuffixOf_iff_suffix]
   constructor
   ·rintro ⟨t, ht⟩
    have h2 : t.length = k := by
     have := congrArg List.length ht
     simp at this
     omega
    rw [← ht, List.getElem?_append_right (by omega)]
    simp [h2]
   ·intro h
    refine ⟨s.data.toList.take k, ?_⟩
    have h3 : s.data.toList.drop k = [32] := by
     rw [List.drop_eq_getElem_cons hk, List.drop_eq_nil_of_le (by omega)]
     rw [List.getElem?_eq_getElem hk] at h
     rw [Option.some.inj h]
    rw [← h3, List.take_append_drop]
  rw [zct]
  by_cases h : s.data.toList[k]? = some 32
  ·rw [if_pos h]
   have h1 := hsuf.2 h
   rw [h1]
   constructor
   ·intro e
    have h2 := zjA s k
    have h3 := congrArg ByteArray.size e
    rw [ByteArray.size_extract] at h3
    omega
   ·intro e
    cases e
  ·rw [if_neg h]
   have h1 : Lib.hasSuffix s.data.toList [32] = false := by
    cases hb : Lib.hasSuffix s.data.toList [32] with
    | false => rfl
    | true => exact absurd (hsuf.1 hb) h
   rw [h1]
   refine ⟨fun _ => rfl, fun _ => ?_⟩
   rw [← hz]
   apply WideShapes.bytes_inj
   simp
def zhA (nav : Bool) (n : Nat) (at9 : Int) (tx : Nat → ByteArray) (dr : ByteArray) : Prop :=
 if nav then n ≤ 100 ∧ 0 ≤ at9 ∧ at9 ≤ (n : Int) ∧ (∀ j, j < n → zbe (baL (tx j))) ∧ zbe (baL dr) else n = 0 ∧ at9 = 0 ∧ dr = { data := #[] }
theorem zlI (pr a b c dr : ByteArray) (cols rows at9 : Int) (u hv pv qv lv dv : Value) (kp nav st : Bool) (n : Nat) (tx : Nat → ByteArray) (w : World) (hpv : zah w pv n (fun j => .string (tx j))) (hn : n ≤ 1048576) (hx : ∀ j, j < n → (tx j).size ≤ 1048576) (hd : dr.size ≤ 1048576) (hT : zbf w) (ok : Bool) (hok : ok = true ↔ zhA nav n at9 tx dr) :
  Calls Tryz.prog 142 #[.agg #[.string pr, .int .i64 cols, .int .i64 rows, .string a, .string b, .string c, u, hv, .bool kp, .bool nav, pv, .int .i64 at9, .string dr, .bool st, qv, lv, dv]] w fun e w' => e = .returned (.bool ok) ∧ Ext w w' := by
 obtain ⟨bt, hbt⟩ := za2 (∀ j, j < n → zbe (baL (tx j)))
 obtain ⟨bd, hbd⟩ := za2 (zbe (baL dr))
 have hcA := zi (fun W (hW : Ext w W) => zkp pv n tx W (hpv.ext hW) hn hx (hT.ext hW) bt hbt)
 have hcD := zi (fun W (hW : Ext w W) => zfQ dr W hd (hT.ext hW) bd hbd)
 obtain ⟨ao, ca, rfl, _, _⟩ := hpv
 have HBT := zi hbt
 have HBD := zi hbd
 clear hx hT hbt hbd
 cases nav with
 | false =>
  have hP : ok = true ↔ n = 0 ∧ at9 = 0 ∧ dr = { data := #[] } := by simpa [zhA] using hok
  have HP := zi hP
  clear hok hP hcA hcD HBT HBD
  by_cases h1 : n = 0
  ·subst h1
   by_cases h2 : at9 = 0
   ·subst h2
    by_cases h3 : dr = { data := #[] }
    ·subst h3
     have hfin : Hid (ok = true) := zi ((zg HP).2 ⟨rfl, rfl, rfl⟩)
     go_enter Tryz.func142, Tryz.ntmps142
     go_wp2
     go_ret
     exact ⟨zw (zg hfin).symm, (Ext.refl _).alloc _⟩
    ·have hne : dr.toList.isEmpty = false := by
      rw [zbg]
      cases e : dr.data.toList with
      | nil => exact absurd (WideShapes.bytes_inj e) h3
      | cons _ _ => rfl
     have hfin : Hid (ok = false) := zi (zaz (zg HP) (fun h => h3 h.2.2))
     clear h3
     go_enter Tryz.func142, Tryz.ntmps142
     go_wp2
     go_ret
     exact ⟨zw (zg hfin).symm, (Ext.refl _).alloc _⟩
   ·have hfin : Hid (ok = false) := zi (zaz (zg HP) (fun h => h2 h.2.1))
    go_enter Tryz.func142, Tryz.ntmps142
    go_wp2
    go_ret
    exact ⟨zw (zg hfin).symm, (Ext.refl _).alloc _⟩
  ·have hfin : Hid (ok = false) := zi (zaz (zg HP) (fun h => h1 h.1))
   have h1I : ¬ (n : Int) = 0 := by omega
   go_enter Tryz.func142, Tryz.ntmps142
   go_wp2
   go_ret
   exact ⟨zw (zg hfin).symm, (Ext.refl _).alloc _⟩
 | true =>
  have hP : ok = true ↔ n ≤ 100 ∧ 0 ≤ at9 ∧ at9 ≤ (n : Int) ∧ (∀ j, j < n → zbe (baL (tx j))) ∧ zbe (baL dr) := by simpa [zhA] using hok
  have HP := zi hP
  clear hok hP
  by_cases h1 : (n : Int) ≤ 100
  ·by_cases h2 : 0 ≤ at9
   ·by_cases h3 : at9 ≤ (n : Int)
    ·have q12 : ∀ o, (w.alloc (.cells #[.string pr, .int .i64 cols, .int .i64 rows, .string a, .string b, .string c, u, hv, .bool kp, .bool true, Value.slice ao n ca, .int .i64 at9, .string dr, .bool st, qv, lv, dv] o)).cell? ⟨w.heap.size, 12, none⟩ = some (.string dr) := fun o => zk (zn w _) 12 _ rfl
     have EV := (Ext.refl w).alloc (.cells #[.string pr, .int .i64 cols, .int .i64 rows, .string a, .string b, .string c, u, hv, .bool kp, .bool true, Value.slice ao n ca, .int .i64 at9, .string dr, .bool st, qv, lv, dv] 40)
     have q12 := q12 40
     obtain ⟨V, hV⟩ : ∃ V, V = w.alloc (.cells #[.string pr, .int .i64 cols, .int .i64 rows, .string a, .string b, .string c, u, hv, .bool kp, .bool true, Value.slice ao n ca, .int .i64 at9, .string dr, .bool st, qv, lv, dv] 40) := ⟨_, rfl⟩
     rw [← hV] at EV q12
     have HV := zi hV
     clear hV
     go_enter Tryz.func142, Tryz.ntmps142
     go_wp2_with fail
     rw [← zg HV]
     refine ((zg hcA) V EV).mono ?_
     rintro e w1 ⟨rfl, F1⟩
     have q12' := F1.cell q12
     cases bt with
     | false =>
      have hfin : Hid (ok = false) := zi (zaz (zg HP) (fun h => by have := (zg HBT).2 h.2.2.2.1; cases this))
      go_wp2
      go_ret
      exact ⟨zw (zg hfin).symm, EV.trans F1⟩
     | true =>
      go_wp2_with fail
      refine ((zg hcD) w1 (EV.trans F1)).mono ?_
      rintro e w2 ⟨rfl, F2⟩
      have hfin : Hid (ok = bd) := zi (by
       rw [Bool.eq_iff_iff, zg HP, zg HBD]
       exact ⟨fun h => h.2.2.2.2, fun h => ⟨by omega, h2, h3, (zg HBT).1 (by simp), h⟩⟩)
      go_wp2
      go_ret
      exact ⟨zw (zg hfin).symm, EV.trans (F1.trans F2)⟩
    ·have hfin : Hid (ok = false) := zi (zaz (zg HP) (fun h => h3 h.2.2.1))
     go_enter Tryz.func142, Tryz.ntmps142
     go_wp2
     go_ret
     exact ⟨zw (zg hfin).symm, (Ext.refl _).alloc _⟩
   ·have hfin : Hid (ok = false) := zi (zaz (zg HP) (fun h => h2 h.2.1))
    go_enter Tryz.func142, Tryz.ntmps142
    go_wp2
    go_ret
    exact ⟨zw (zg hfin).symm, (Ext.refl _).alloc _⟩
  ·have hfin : Hid (ok = false) := zi (zaz (zg HP) (fun h => h1 (by omega)))
   go_enter Tryz.func142, Tryz.ntmps142
   go_wp2
   go_ret
   exact ⟨zw (zg hfin).symm, (Ext.refl _).alloc _⟩
def zbl (c r : Int) : Bool := decide (2 ≤ c) && decide (c ≤ 200) && decide (1 ≤ r) && decide (r ≤ 100)
theorem zcn {c r : Int} (h : zbl c r = true) : ∃ cn rn : Nat, c = cn ∧ r = rn ∧ 2 ≤ cn ∧ cn ≤ 200 ∧ 1 ≤ rn ∧ rn ≤ 100 := by
 simp [zbl] at h
 exact ⟨c.toNat, r.toNat, by omega, by omega, by omega, by omega, by omega, by omega⟩
theorem zgA (c r : Int) (w : World) : Calls Tryz.prog 140 #[.int .i64 c, .int .i64 r] w fun e w' => e = .returned (.bool (zbl c r)) ∧ w' = w := by
 go_enter Tryz.func140, Tryz.ntmps140
 go_wp2
 all_goals
  go_ret
  refine ⟨zw ?_, rfl⟩
  unfold zbl
  rw [Bool.eq_iff_iff]
  simp
  omega
theorem zfp (c r : Int) (w : World) : Calls Tryz.prog 74 #[.int .i64 c, .int .i64 r] w fun e w' => e = .returned (.bool (zbl c r)) ∧ w' = w := by
 go_enter Tryz.func74, Tryz.ntmps74
 go_wp2
 all_goals
  go_ret
  refine ⟨zw ?_, rfl⟩
  unfold zbl
  rw [Bool.eq_iff_iff]
  simp
  omega
def zeF (st : Bool) (n : Nat) (tx : Nat → ByteArray) : Prop := if st then n ≤ 20 ∧ ∀ j, j < n → zbT (baL (tx j)) else n = 0
theorem zjF (pr a b c dr : ByteArray) (cols rows at9 : Int) (u hv pv qv lv dv : Value) (kp nav st : Bool) (n : Nat) (tx : Nat → ByteArray) (w : World) (hqv : zah w qv n (fun j => .string (tx j))) (hn : n ≤ 1048576) (hx : ∀ j, j < n → (tx j).size ≤ 1048576) (hT : zbf w) (ok : Bool) (hok : ok = true ↔ zeF st n tx) :
  Calls Tryz.prog 143 #[.agg #[.string pr, .int .i64 cols, .int .i64 rows, .string a, .string b, .string c, u, hv, .bool kp, .bool nav, pv, .int .i64 at9, .string dr, .bool st, qv, lv, dv]] w fun e w' => e = .returned (.bool ok) ∧ Ext w w' := by
 obtain ⟨bt, hbt⟩ := za2 (∀ j, j < n → zbT (baL (tx j)))
 have hcA := zi (fun W (hW : Ext w W) => zl7 qv n tx W (hqv.ext hW) hn hx (hT.ext hW) bt hbt)
 obtain ⟨ao, ca, rfl, _, _⟩ := hqv
 have HBT := zi hbt
 clear hx hT hbt
 cases st with
 | false =>
  have hP : ok = true ↔ n = 0 := by simpa [zeF] using hok
  have HP := zi hP
  clear hok hP hcA HBT
  by_cases h1 : n = 0
  ·subst h1
   have hfin : Hid (ok = true) := zi ((zg HP).2 rfl)
   go_enter Tryz.func143, Tryz.ntmps143
   go_wp2
   go_ret
   exact ⟨zw (zg hfin).symm, (Ext.refl _).alloc _⟩
  ·have hfin : Hid (ok = false) := zi (zaz (zg HP) h1)
   have h1I : ((n : Int) == 0) = false := by simp; omega
   go_enter Tryz.func143, Tryz.ntmps143
   go_wp2
   go_ret
   exact ⟨zw (zg hfin).symm, (Ext.refl _).alloc _⟩
 | true =>
  have hP : ok = true ↔ n ≤ 20 ∧ ∀ j, j < n → zbT (baL (tx j)) := by simpa [zeF] using hok
  have HP := zi hP
  clear hok hP
  by_cases h1 : (n : Int) ≤ 20
  ·have EV := (Ext.refl w).alloc (.cells #[.string pr, .int .i64 cols, .int .i64 rows, .string a, .string b, .string c, u, hv, .bool kp, .bool nav, pv, .int .i64 at9, .string dr, .bool true, Value.slice ao n ca, lv, dv] 40)
   go_enter Tryz.func143, Tryz.ntmps143
   go_wp2_with fail
   refine ((zg hcA) _ EV).mono ?_
   rintro e w1 ⟨rfl, F1⟩
   have hfin : Hid (ok = bt) := zi (by
    rw [Bool.eq_iff_iff, zg HP, zg HBT]
    exact ⟨fun h => h.2, fun h => ⟨by omega, h⟩⟩)
   go_wp2
   go_ret
   exact ⟨zw (zg hfin).symm, EV.trans F1⟩
  ·have hfin : Hid (ok = false) := zi (zaz (zg HP) (fun h => h1 (by omega)))
   go_enter Tryz.func143, Tryz.ntmps143
   go_wp2
   go_ret
   exact ⟨zw (zg hfin).symm, (Ext.refl _).alloc _⟩
def zcv (s : SS) : Prop := (zbT (baL s.pr) ∧ (zp (baL s.pr)).length ≤ 40) ∧ zbl s.cols s.rows = true ∧ zb8 s.la s.lb s.lc s.un s.ut s.uh ∧ s.kh.length ≤ 2000 ∧ zhA s.nav s.pn s.at9 s.pt s.dr ∧ zeF s.st s.qn s.qt ∧ ∀ j, j < s.ln → Lib.hasSuffix (s.lt j).data.toList [32] = false
theorem zfj (tx : Nat → ByteArray) : ∀ n j, j < n → (tx j).size ≤ za4 tx n
 | 0, _, h => by omega
 | n + 1, j, h => by
  by_cases e : j = n
  ·subst e; rw [za4]; omega
  ·have := zfj tx n j (by omega)
   rw [za4]
   omega
theorem zms (tx hf : Nat → ByteArray) : ∀ n j, j < n → (tx j).size ≤ tl2 tx hf n ∧ (hf j).size ≤ tl2 tx hf n
 | 0, _, h => by omega
 | n + 1, j, h => by
  by_cases e : j = n
  ·subst e; rw [tl2]; omega
  ·have := zms tx hf n j (by omega)
   rw [tl2]
   omega
structure SS.Sz (s : SS) : Prop where
 pr : s.pr.size ≤ 1048576
 la : s.la.size ≤ 1048576
 lb : s.lb.size ≤ 1048576
 lc : s.lc.size ≤ 1048576
 un : s.un ≤ 1048576
 ut : ∀ j, j < s.un → (s.ut j).size ≤ 1048576 ∧ (s.uh j).size ≤ 1048576
 kh : s.kh.length ≤ 1048576
 pn : s.pn ≤ 1048576
 pt : ∀ j, j < s.pn → (s.pt j).size ≤ 1048576
 dr : s.dr.size ≤ 1048576
 qn : s.qn ≤ 1048576
 qt : ∀ j, j < s.qn → (s.qt j).size ≤ 1048576
 ln : s.ln ≤ 1048576
 lt : ∀ j, j < s.ln → (s.lt j).size ≤ 1048576
 dn : s.dn ≤ 1048576
 dt : ∀ j, j < s.dn → (s.dt j).size ≤ 1048576
theorem SS.Sz.of_bulk {s : SS} (h : s.bulk ≤ 1048576) : s.Sz := by
 unfold SS.bulk at h
 constructor
 case ut => intro j hj; have := zms s.ut s.uh s.un j hj; omega
 case pt => intro j hj; have := zfj s.pt s.pn j hj; omega
 case qt => intro j hj; have := zfj s.qt s.qn j hj; omega
 case lt => intro j hj; have := zfj s.lt s.ln j hj; omega
 case dt => intro j hj; have := zfj s.dt s.dn j hj; omega
 all_goals omega
theorem zeZ (s : SS) (u h p q l d : Value) (w : World) (hA : zbb w s u h p q l d) (hz : s.Sz) (hT : zbf w) (ok : Bool) (hok : ok = true ↔ zcv s) :
  Calls Tryz.prog 94 #[zaK s u h p q l d] w fun e w' => e = .returned (.bool ok) ∧ Ext w w' := by
 obtain ⟨b1, h1⟩ := za2 (zbT (baL s.pr) ∧ (zp (baL s.pr)).length ≤ 40)
 obtain ⟨b3, h3⟩ := za2 (zb8 s.la s.lb s.lc s.un s.ut s.uh)
 obtain ⟨b5, h5⟩ := za2 (zhA s.nav s.pn s.at9 s.pt s.dr)
 obtain ⟨b6, h6⟩ := za2 (zeF s.st s.qn s.qt)
 obtain ⟨b7, h7⟩ := za2 (∃ j, j < s.ln ∧ Lib.hasSuffix (s.lt j).data.toList [32] = true)
 obtain ⟨ua, uc, ha, hc, pa, pc, qa, qc, la, lc, da, dc, rfl, rfl, rfl, rfl, rfl, rfl⟩ := hA.forms
 have hc1 := zi (fun W (hW : Ext w W) => ziN s.pr W hz.pr (hT.ext hW) b1 h1)
 have hc2 := zi (fun W => zgA s.cols s.rows W)
 have hc3 := zi (fun W (hW : Ext w W) => zd3 s.la s.lb s.lc _ s.un s.ut s.uh W (hA.un.ext hW) hz.la hz.lb hz.lc hz.un hz.ut (hT.ext hW) b3 h3)
 have hc5 := zi (fun W (hW : Ext w W) => zlI s.pr s.la s.lb s.lc s.dr s.cols s.rows s.at9 (.slice ua s.un uc) (.slice ha s.kh.length hc) _ (.slice qa s.qn qc) (.slice la s.ln lc) (.slice da s.dn dc) s.kp s.nav s.st s.pn s.pt W (hA.pa.ext hW) hz.pn hz.pt hz.dr (hT.ext hW) b5 h5)
 have hc6 := zi (fun W (hW : Ext w W) => zjF s.pr s.la s.lb s.lc s.dr s.cols s.rows s.at9 (.slice ua s.un uc) (.slice ha s.kh.length hc) (.slice pa s.pn pc) _ (.slice la s.ln lc) (.slice da s.dn dc) s.kp s.nav s.st s.qn s.qt W (hA.qu.ext hW) hz.qn hz.qt (hT.ext hW) b6 h6)
 have hc7 := zi (fun W (hW : Ext w W) => zfD _ s.ln s.lt (fun j => Lib.hasSuffix (s.lt j).data.toList [32]) W (hA.lo.ext hW) (by have := hz.ln; omega) (fun j hj W' _ => ze2 (s.lt j) W' (hz.lt j hj)) b7 h7)
 have H1 := zi h1
 have H3 := zi h3
 have H5 := zi h5
 have H6 := zi h6
 have H7 : Hid (b7 = false ↔ ∀ j, j < s.ln → Lib.hasSuffix (s.lt j).data.toList [32] = false) := zi (by
  rw [← Bool.not_eq_true, h7]
  constructor
  ·intro h j hj
   rw [← Bool.not_eq_true]
   exact fun e => h ⟨j, hj, e⟩
  ·rintro h ⟨j, hj, e⟩
   rw [h j hj] at e
   cases e)
 have HK := zi hok
 have hkl := hz.kh
 clear h1 h3 h5 h6 h7 hok hA hz hT
 obtain ⟨V, hV⟩ : ∃ V, V = w.alloc (.cells (sC s (.slice ua s.un uc) (.slice ha s.kh.length hc) (.slice pa s.pn pc) (.slice qa s.qn qc) (.slice la s.ln lc) (.slice da s.dn dc)) 40) := ⟨_, rfl⟩
 have E0 : Ext w V := by rw [hV]; exact (Ext.refl w).alloc _
 have HB : Hid (V.heap[w.heap.size]? = some (.cells (sC s (.slice ua s.un uc) (.slice ha s.kh.length hc) (.slice pa s.pn pc) (.slice qa s.qn qc) (.slice la s.ln lc) (.slice da s.dn dc)) 40 (0, 0))) := zi (by rw [hV]; exact zn w _)
 have HV := zi hV
 clear hV
 unfold zaK
 go_enter Tryz.func94, Tryz.ntmps94
 go_wp2_with fail
 rw [← zg HV]
 clear HV
 refine ((zg hc1) V E0).mono ?_
 rintro e w1 ⟨rfl, F1⟩
 have E1 := E0.trans F1
 replace HB := F1.hk HB
 cases b1 with
 | false =>
  have hfin : Hid (ok = false) := zi (zaz (zg HK) (fun h => by have := (zg H1).2 h.1; cases this))
  go_wp2
  go_ret
  exact ⟨zw (zg hfin).symm, E1⟩
 | true =>
 have x1 := zk (zg HB) 1 _ rfl
 have x2 := zk (zg HB) 2 _ rfl
 go_wp2_with fail
 refine ((zg hc2) _).mono ?_
 rintro e w2 ⟨rfl, rfl⟩
 clear x1 x2
 cases hsz : zbl s.cols s.rows with
 | false =>
  have hfin : Hid (ok = false) := zi (zaz (zg HK) (fun h => by have := h.2.1; rw [hsz] at this; cases this))
  clear hsz
  go_wp2
  go_ret
  exact ⟨zw (zg hfin).symm, E1⟩
 | true =>
 have HSZ := zi hsz
 clear hsz
 have x3 := zk (zg HB) 3 _ rfl
 have x4 := zk (zg HB) 4 _ rfl
 have x5 := zk (zg HB) 5 _ rfl
 have x6 := zk (zg HB) 6 _ rfl
 go_wp2_with fail
 refine ((zg hc3) _ E1).mono ?_
 rintro e w3 ⟨rfl, F3⟩
 have E3 := E1.trans F3
 replace HB := F3.hk HB
 clear x3 x4 x5 x6
 cases b3 with
 | false =>
  have hfin : Hid (ok = false) := zi (zaz (zg HK) (fun h => by have := (zg H3).2 h.2.2.1; cases this))
  go_wp2
  go_ret
  exact ⟨zw (zg hfin).symm, E3⟩
 | true =>
 have x7 := zk (zg HB) 7 _ rfl
 by_cases h4 : (s.kh.length : Int) ≤ 2000
 case neg =>
  have hfin : Hid (ok = false) := zi (zaz (zg HK) (fun h => h4 (by have := h.2.2.2.1; omega)))
  go_wp2
  go_ret
  exact ⟨zw (zg hfin).symm, E3⟩
 case pos =>
 have z0 := zk (zg HB) 0 _ rfl
 have z1 := zk (zg HB) 1 _ rfl
 have z2 := zk (zg HB) 2 _ rfl
 have z3 := zk (zg HB) 3 _ rfl
 have z4 := zk (zg HB) 4 _ rfl
 have z5 := zk (zg HB) 5 _ rfl
 have z6 := zk (zg HB) 6 _ rfl
 have z8 := zk (zg HB) 8 _ rfl
 have z9 := zk (zg HB) 9 _ rfl
 have z10 := zk (zg HB) 10 _ rfl
 have z11 := zk (zg HB) 11 _ rfl
 have z12 := zk (zg HB) 12 _ rfl
 have z13 := zk (zg HB) 13 _ rfl
 have z14 := zk (zg HB) 14 _ rfl
 have z15 := zk (zg HB) 15 _ rfl
 have z16 := zk (zg HB) 16 _ rfl
 go_wp2_with fail
 refine ((zg hc5) _ E3).mono ?_
 rintro e w5 ⟨rfl, F5⟩
 have E5 := E3.trans F5
 replace HB := F5.hk HB
 clear x7 z0 z1 z2 z3 z4 z5 z6 z8 z9 z10 z11 z12 z13 z14 z15 z16
 cases b5 with
 | false =>
  have hfin : Hid (ok = false) := zi (zaz (zg HK) (fun h => by have := (zg H5).2 h.2.2.2.2.1; cases this))
  go_wp2
  go_ret
  exact ⟨zw (zg hfin).symm, E5⟩
 | true =>
 have y0 := zk (zg HB) 0 _ rfl
 have y1 := zk (zg HB) 1 _ rfl
 have y2 := zk (zg HB) 2 _ rfl
 have y3 := zk (zg HB) 3 _ rfl
 have y4 := zk (zg HB) 4 _ rfl
 have y5 := zk (zg HB) 5 _ rfl
 have y6 := zk (zg HB) 6 _ rfl
 have y7 := zk (zg HB) 7 _ rfl
 have y8 := zk (zg HB) 8 _ rfl
 have y9 := zk (zg HB) 9 _ rfl
 have y10 := zk (zg HB) 10 _ rfl
 have y11 := zk (zg HB) 11 _ rfl
 have y12 := zk (zg HB) 12 _ rfl
 have y13 := zk (zg HB) 13 _ rfl
 have y14 := zk (zg HB) 14 _ rfl
 have y15 := zk (zg HB) 15 _ rfl
 have y16 := zk (zg HB) 16 _ rfl
 go_wp2_with fail
 refine ((zg hc6) _ E5).mono ?_
 rintro e w6 ⟨rfl, F6⟩
 have E6 := E5.trans F6
 replace HB := F6.hk HB
 clear y0 y1 y2 y3 y4 y5 y6 y7 y8 y9 y10 y11 y12 y13 y14 y15 y16
 cases b6 with
 | false =>
  have hfin : Hid (ok = false) := zi (zaz (zg HK) (fun h => by have := (zg H6).2 h.2.2.2.2.2.1; cases this))
  go_wp2
  go_ret
  exact ⟨zw (zg hfin).symm, E6⟩
 | true =>
 have x15 := zk (zg HB) 15 _ rfl
 go_wp2_with fail
 refine ((zg hc7) _ E6).mono ?_
 rintro e w7 ⟨rfl, F7⟩
 have hfin : Hid (ok = !b7) := zi (by
  rw [Bool.eq_iff_iff, zg HK]
  have k7 := zg H7
  constructor
  ·intro h
   rw [k7.2 h.2.2.2.2.2.2]
   rfl
  ·intro h
   exact ⟨(zg H1).1 (by simp), zg HSZ, (zg H3).1 (by simp), by omega, (zg H5).1 (by simp), (zg H6).1 (by simp), k7.1 (by simpa using h)⟩)
 go_wp2
 go_ret
 exact ⟨zw (zg hfin).symm, E6.trans F7⟩
structure SS.SzM (s : SS) : Prop where
 un : s.un ≤ 1048576
 kh : s.kh.length ≤ 1073741824
 pn : s.pn ≤ 1073741824
 qn : s.qn ≤ 1073741824
 ln : s.ln ≤ 1073741824
 dn : s.dn ≤ 1073741824
theorem SS.Sz.toM {s : SS} (h : s.Sz) : s.SzM := ⟨by have := h.un; omega, by have := h.kh; omega, by have := h.pn; omega, by have := h.qn; omega, by have := h.ln; omega, by have := h.dn; omega⟩
def SS.m (s : SS) : Nat := 2 * s.un + s.kh.length + s.pn + s.qn + s.ln + s.dn
def mkSS (k : Int) (s : SS) : SS := { s with
 ut := fun j => mtx (k + 2 * (j : Int)), uh := fun j => mtx (k + 2 * (j : Int) + 1),
 kh := zcy (k + 2 * (s.un : Int)) s.kh.length,
 pt := fun j => mtx (k + 2 * (s.un : Int) + (s.kh.length : Int) + (j : Int)), qt := fun j => mtx (k + 2 * (s.un : Int) + (s.kh.length : Int) + (s.pn : Int) + (j : Int)), lt := fun j => mtx (k + 2 * (s.un : Int) + (s.kh.length : Int) + (s.pn : Int) + (s.qn : Int) + (j : Int)), dt := fun j => mtx (k + 2 * (s.un : Int) + (s.kh.length : Int) + (s.pn : Int) + (s.qn : Int) + (s.ln : Int) + (j : Int)) }
theorem pw6 {a b c d e f : Value} (h : List.Pairwise zav [a, b, c, d, e, f]) : (zav a b ∧ zav a c ∧ zav a d ∧ zav a e ∧ zav a f) ∧ (zav b c ∧ zav b d ∧ zav b e ∧ zav b f) ∧ (zav c d ∧ zav c e ∧ zav c f) ∧ (zav d e ∧ zav d f) ∧ zav e f := by
 simp only [List.pairwise_cons, List.mem_cons, List.not_mem_nil, or_false, forall_eq_or_imp, forall_eq] at h
 obtain ⟨⟨h1, h2, h3, h4, h5⟩, ⟨h6, h7, h8, h9⟩, ⟨h10, h11, h12⟩, ⟨h13, h14⟩, h15, _⟩ := h
 exact ⟨⟨h1, h2, h3, h4, h5⟩, ⟨h6, h7, h8, h9⟩, ⟨h10, h11, h12⟩, ⟨h13, h14⟩, h15⟩
theorem zge (base : Nat) (s : SS) (u h p q l d : Value) (k : Int) (w : World) (hO : zax w base s u h p q l d) (hz : s.SzM) (hk : 0 ≤ k) (hk2 : k ≤ 68719476736) :
  Calls Tryz.prog 14 #[zaK s u h p q l d, .int .i64 k] w fun e w' => e = .returned (.int .i64 (k + (s.m : Int))) ∧ zax w' base (mkSS k s) u h p q l d ∧ Fr (zab u h p q l d) w w' := by
 obtain ⟨ua, uc, ha, hc, pa, pc, qa, qc, la, lc, da, dc, rfl, rfl, rfl, rfl, rfl, rfl⟩ := hO.reads.forms
 have AP := zi hO.ap
 have LT := zi (fun g hg => hO.foot (g := g) hg)
 obtain ⟨⟨a01, a02, a03, a04, a05⟩, ⟨a12, a13, a14, a15⟩, ⟨a23, a24, a25⟩, ⟨a34, a35⟩, a45⟩ := pw6 hO.ap
 have z0 := hz.un
 have z1 := hz.kh
 have z2 := hz.pn
 have z3 := hz.qn
 have z4 := hz.ln
 have z5 := hz.dn
 obtain ⟨V, hV⟩ : ∃ V, V = w.alloc (.cells (sC s (.slice ua s.un uc) (.slice ha s.kh.length hc) (.slice pa s.pn pc) (.slice qa s.qn qc) (.slice la s.ln lc) (.slice da s.dn dc)) 40) := ⟨_, rfl⟩
 have E0 : Ext w V := by rw [hV]; exact (Ext.refl w).alloc _
 have HB : Hid (V.heap[w.heap.size]? = some (.cells (sC s (.slice ua s.un uc) (.slice ha s.kh.length hc) (.slice pa s.pn pc) (.slice qa s.qn qc) (.slice la s.ln lc) (.slice da s.dn dc)) 40 (0, 0))) := zi (by rw [hV]; exact zn w _)
 have HV := zi hV
 clear hV
 have O0 := zi (hO.ext E0).un
 have O1 := zi (hO.ext E0).kh
 have O2 := zi (hO.ext E0).pa
 have O3 := zi (hO.ext E0).qu
 have O4 := zi (hO.ext E0).lo
 have O5 := zi (hO.ext E0).dn
 have A01 := zi a01
 have A02 := zi a02
 have A03 := zi a03
 have A04 := zi a04
 have A05 := zi a05
 have A12 := zi a12
 have A13 := zi a13
 have A14 := zi a14
 have A15 := zi a15
 have A23 := zi a23
 have A24 := zi a24
 have A25 := zi a25
 have A34 := zi a34
 have A35 := zi a35
 have A45 := zi a45
 clear hO hz a01 a02 a03 a04 a05 a12 a13 a14 a15 a23 a24 a25 a34 a35 a45
 unfold zaK
 go_enter Tryz.func14, Tryz.ntmps14
 go_wp2_with fail
 rw [← zg HV]
 clear HV
 refine (ziB base s.la s.lb s.lc _ s.un _ _ (k) V (zg O0) (by omega) (by omega) (by omega)).mono ?_
 rintro e w1 ⟨rfl, o, F⟩
 replace O1 := zi (F.owns (zg O1) (fun g hg e9 => (zg A01) g e9 hg))
 replace O2 := zi ((zg O2).fr F (fun g hg e9 => (zg A02) g e9 hg))
 replace O3 := zi ((zg O3).fr F (fun g hg e9 => (zg A03) g e9 hg))
 replace O4 := zi ((zg O4).fr F (fun g hg e9 => (zg A04) g e9 hg))
 replace O5 := zi ((zg O5).fr F (fun g hg e9 => (zg A05) g e9 hg))
 replace O0 := zi o
 replace HB := zi (F.kept (zg HB) (fun h9 => by have := ((zg LT) w.heap.size (.inl h9)).2; omega))
 have FZ : Fr (zab (.slice ua s.un uc) (.slice ha s.kh.length hc) (.slice pa s.pn pc) (.slice qa s.qn qc) (.slice la s.ln lc) (.slice da s.dn dc)) V w1 := (F.mono (fun g hq => (show zab _ _ _ _ _ _ g from .inl hq)))
 clear o F
 have c0_7 := zk (zg HB) 7 _ rfl
 have c0_8 := zk (zg HB) 8 _ rfl
 go_wp2_with fail
 clear c0_7 c0_8
 refine (zfb base _ s.kh.length _ s.kp (k + 2 * (s.un : Int)) w1 (zg O1) (by omega) (by omega) (by omega)).mono ?_
 rintro e w2 ⟨rfl, o, F⟩
 replace F : Fr (fun g => (.slice ha s.kh.length hc : Value).ownBlock = some g) w1 w2 := (Fr.refl _ w1).grown F (fun g hg => hg)
 replace O0 := zi ((zg O0).fr F (fun g hg e9 => (zg A01) g hg e9))
 replace O2 := zi ((zg O2).fr F (fun g hg e9 => (zg A12) g e9 hg))
 replace O3 := zi ((zg O3).fr F (fun g hg e9 => (zg A13) g e9 hg))
 replace O4 := zi ((zg O4).fr F (fun g hg e9 => (zg A14) g e9 hg))
 replace O5 := zi ((zg O5).fr F (fun g hg e9 => (zg A15) g e9 hg))
 replace O1 := zi o
 replace HB := zi (F.kept (zg HB) (fun h9 => by have := ((zg LT) w.heap.size (.inr (.inl h9))).2; omega))
 replace FZ := FZ.tr (F.mono (fun g hq => (show zab _ _ _ _ _ _ g from .inr (.inl hq))))
 clear o F
 have c1_10 := zk (zg HB) 10 _ rfl
 go_wp2_with fail
 clear c1_10
 refine (zbz base _ s.pn _ (k + 2 * (s.un : Int) + (s.kh.length : Int)) w2 (zg O2) (by omega) (by omega) (by omega)).mono ?_
 rintro e w3 ⟨rfl, o, F⟩
 replace O0 := zi ((zg O0).fr F (fun g hg e9 => (zg A02) g hg e9))
 replace O1 := zi (F.owns (zg O1) (fun g hg e9 => (zg A12) g hg e9))
 replace O3 := zi ((zg O3).fr F (fun g hg e9 => (zg A23) g e9 hg))
 replace O4 := zi ((zg O4).fr F (fun g hg e9 => (zg A24) g e9 hg))
 replace O5 := zi ((zg O5).fr F (fun g hg e9 => (zg A25) g e9 hg))
 replace O2 := zi o
 replace HB := zi (F.kept (zg HB) (fun h9 => by have := ((zg LT) w.heap.size (.inr (.inr (.inl h9)))).2; omega))
 replace FZ := FZ.tr (F.mono (fun g hq => (show zab _ _ _ _ _ _ g from .inr (.inr (.inl hq)))))
 clear o F
 have c2_14 := zk (zg HB) 14 _ rfl
 go_wp2_with fail
 clear c2_14
 refine (zbz base _ s.qn _ (k + 2 * (s.un : Int) + (s.kh.length : Int) + (s.pn : Int)) w3 (zg O3) (by omega) (by omega) (by omega)).mono ?_
 rintro e w4 ⟨rfl, o, F⟩
 replace O0 := zi ((zg O0).fr F (fun g hg e9 => (zg A03) g hg e9))
 replace O1 := zi (F.owns (zg O1) (fun g hg e9 => (zg A13) g hg e9))
 replace O2 := zi ((zg O2).fr F (fun g hg e9 => (zg A23) g hg e9))
 replace O4 := zi ((zg O4).fr F (fun g hg e9 => (zg A34) g e9 hg))
 replace O5 := zi ((zg O5).fr F (fun g hg e9 => (zg A35) g e9 hg))
 replace O3 := zi o
 replace HB := zi (F.kept (zg HB) (fun h9 => by have := ((zg LT) w.heap.size (.inr (.inr (.inr (.inl h9))))).2; omega))
 replace FZ := FZ.tr (F.mono (fun g hq => (show zab _ _ _ _ _ _ g from .inr (.inr (.inr (.inl hq))))))
 clear o F
 have c3_15 := zk (zg HB) 15 _ rfl
 go_wp2_with fail
 clear c3_15
 refine (zbz base _ s.ln _ (k + 2 * (s.un : Int) + (s.kh.length : Int) + (s.pn : Int) + (s.qn : Int)) w4 (zg O4) (by omega) (by omega) (by omega)).mono ?_
 rintro e w5 ⟨rfl, o, F⟩
 replace O0 := zi ((zg O0).fr F (fun g hg e9 => (zg A04) g hg e9))
 replace O1 := zi (F.owns (zg O1) (fun g hg e9 => (zg A14) g hg e9))
 replace O2 := zi ((zg O2).fr F (fun g hg e9 => (zg A24) g hg e9))
 replace O3 := zi ((zg O3).fr F (fun g hg e9 => (zg A34) g hg e9))
 replace O5 := zi ((zg O5).fr F (fun g hg e9 => (zg A45) g e9 hg))
 replace O4 := zi o
 replace HB := zi (F.kept (zg HB) (fun h9 => by have := ((zg LT) w.heap.size (.inr (.inr (.inr (.inr (.inl h9)))))).2; omega))
 replace FZ := FZ.tr (F.mono (fun g hq => (show zab _ _ _ _ _ _ g from .inr (.inr (.inr (.inr (.inl hq)))))))
 clear o F
 have c4_16 := zk (zg HB) 16 _ rfl
 go_wp2_with fail
 clear c4_16
 refine (zbz base _ s.dn _ (k + 2 * (s.un : Int) + (s.kh.length : Int) + (s.pn : Int) + (s.qn : Int) + (s.ln : Int)) w5 (zg O5) (by omega) (by omega) (by omega)).mono ?_
 rintro e w6 ⟨rfl, o, F⟩
 replace O0 := zi ((zg O0).fr F (fun g hg e9 => (zg A05) g hg e9))
 replace O1 := zi (F.owns (zg O1) (fun g hg e9 => (zg A15) g hg e9))
 replace O2 := zi ((zg O2).fr F (fun g hg e9 => (zg A25) g hg e9))
 replace O3 := zi ((zg O3).fr F (fun g hg e9 => (zg A35) g hg e9))
 replace O4 := zi ((zg O4).fr F (fun g hg e9 => (zg A45) g hg e9))
 replace O5 := zi o
 replace HB := zi (F.kept (zg HB) (fun h9 => by have := ((zg LT) w.heap.size (.inr (.inr (.inr (.inr (.inr (h9))))))).2; omega))
 replace FZ := FZ.tr (F.mono (fun g hq => (show zab _ _ _ _ _ _ g from .inr (.inr (.inr (.inr (.inr (hq))))))))
 clear o F
 go_wp2
 go_ret
 refine ⟨congrArg Ending.returned (congrArg (Value.int .i64) (by unfold SS.m; omega)), ⟨zg O0, ?_, zg O2, zg O3, zg O4, zg O5, zg AP⟩, ?_⟩
 ·have h1 := zg O1
  show w6.ownsRow base 5 1 _ (zcy (k + 2 * (s.un : Int)) s.kh.length).length _
  rw [zd5]
  exact h1
 ·exact (Fr.of_ext E0).tr FZ
theorem zh5 (s : SS) (hz : s.SzM) : zd4 14 (zeU s) (fun k => zeU (mkSS k s)) s.m := by
 rintro w b S v k ⟨u, h, p, q, l, d, rfl, H, hS⟩ h0 h1
 refine (zge b s u h p q l d k w H hz h0 h1).mono ?_
 rintro e w' ⟨rfl, o, f⟩
 exact ⟨rfl, ⟨u, h, p, q, l, d, rfl, o, hS⟩, f.mono (fun g hg => (hS g).2 hg)⟩
theorem zgh (s : SS) (u h p q l d : Value) (k : Int) (w : World) (hO : zbb w (mkSS k s) u h p q l d) (hz : s.SzM) (hk : 0 ≤ k) (hk2 : k ≤ 68719476736) :
  Calls Tryz.prog 17 #[zaK (mkSS k s) u h p q l d, .int .i64 k] w fun e w' => e = .returned (.int .i64 (k + (s.m : Int))) ∧ Ext w w' := by
 have z0 := hz.un
 have z1 := hz.kh
 have z2 := hz.pn
 have z3 := hz.qn
 have z4 := hz.ln
 have z5 := hz.dn
 have hO1 : zag w .u8 h (zcy (k + 2 * (s.un : Int)) s.kh.length) := hO.kh
 obtain ⟨ua, uc, ha, hc, pa, pc, qa, qc, la, lc, da, dc, rfl, e2, rfl, rfl, rfl, rfl⟩ := hO.forms
 have e3 : h = .slice ha s.kh.length hc := by rw [e2]; show Value.slice ha (zcy _ _).length hc = _; rw [zd5]
 clear e2
 subst e3
 have h0 := zi (fun W (hW : Ext w W) => ziH s.la s.lb s.lc _ s.un (k) W (hO.un.ext hW) (by omega) (by omega) (by omega))
 have h1 := zi (fun W (hW : Ext w W) => ze4 _ s.kh.length s.kp (k + 2 * (s.un : Int)) W (hO1.ext hW) (by omega) (by omega) (by omega))
 have h2 := zi (fun W (hW : Ext w W) => zbx _ s.pn (k + 2 * (s.un : Int) + (s.kh.length : Int)) W (hO.pa.ext hW) (by omega) (by omega) (by omega))
 have h3 := zi (fun W (hW : Ext w W) => zbx _ s.qn (k + 2 * (s.un : Int) + (s.kh.length : Int) + (s.pn : Int)) W (hO.qu.ext hW) (by omega) (by omega) (by omega))
 have h4 := zi (fun W (hW : Ext w W) => zbx _ s.ln (k + 2 * (s.un : Int) + (s.kh.length : Int) + (s.pn : Int) + (s.qn : Int)) W (hO.lo.ext hW) (by omega) (by omega) (by omega))
 have h5 := zi (fun W (hW : Ext w W) => zbx _ s.dn (k + 2 * (s.un : Int) + (s.kh.length : Int) + (s.pn : Int) + (s.qn : Int) + (s.ln : Int)) W (hO.dn.ext hW) (by omega) (by omega) (by omega))
 obtain ⟨V, hV⟩ : ∃ V, V = w.alloc (.cells (sC s (.slice ua s.un uc) (.slice ha s.kh.length hc) (.slice pa s.pn pc) (.slice qa s.qn qc) (.slice la s.ln lc) (.slice da s.dn dc)) 40) := ⟨_, rfl⟩
 have E0 : Ext w V := by rw [hV]; exact (Ext.refl w).alloc _
 have HB : Hid (V.heap[w.heap.size]? = some (.cells (sC s (.slice ua s.un uc) (.slice ha s.kh.length hc) (.slice pa s.pn pc) (.slice qa s.qn qc) (.slice la s.ln lc) (.slice da s.dn dc)) 40 (0, 0))) := zi (by rw [hV]; exact zn w _)
 have HV := zi hV
 clear hV hO hO1
 show Calls Tryz.prog 17 #[.agg (sC s (.slice ua s.un uc) (.slice ha s.kh.length hc) (.slice pa s.pn pc) (.slice qa s.qn qc) (.slice la s.ln lc) (.slice da s.dn dc)), .int .i64 k] w _
 go_enter Tryz.func17, Tryz.ntmps17
 go_wp2_with fail
 rw [← zg HV]
 clear HV
 refine ((zg h0) _ E0).mono ?_
 rintro e w1 ⟨rfl, F⟩
 have E1 := E0.trans F
 replace HB := F.hk HB
 clear F
 have n0 : ¬ k + 2 * (s.un : Int) < 0 := by omega
 have c0_7 := zk (zg HB) 7 _ rfl
 have c0_8 := zk (zg HB) 8 _ rfl
 go_wp2_with fail
 clear c0_7 c0_8
 refine ((zg h1) _ E1).mono ?_
 rintro e w2 ⟨rfl, F⟩
 have E2 := E1.trans F
 replace HB := F.hk HB
 clear F
 have n1 : ¬ k + 2 * (s.un : Int) + (s.kh.length : Int) < 0 := by omega
 have c1_10 := zk (zg HB) 10 _ rfl
 go_wp2_with fail
 clear c1_10
 refine ((zg h2) _ E2).mono ?_
 rintro e w3 ⟨rfl, F⟩
 have E3 := E2.trans F
 replace HB := F.hk HB
 clear F
 have n2 : ¬ k + 2 * (s.un : Int) + (s.kh.length : Int) + (s.pn : Int) < 0 := by omega
 have c2_14 := zk (zg HB) 14 _ rfl
 go_wp2_with fail
 clear c2_14
 refine ((zg h3) _ E3).mono ?_
 rintro e w4 ⟨rfl, F⟩
 have E4 := E3.trans F
 replace HB := F.hk HB
 clear F
 have n3 : ¬ k + 2 * (s.un : Int) + (s.kh.length : Int) + (s.pn : Int) + (s.qn : Int) < 0 := by omega
 have c3_15 := zk (zg HB) 15 _ rfl
 go_wp2_with fail
 clear c3_15
 refine ((zg h4) _ E4).mono ?_
 rintro e w5 ⟨rfl, F⟩
 have E5 := E4.trans F
 replace HB := F.hk HB
 clear F
 have n4 : ¬ k + 2 * (s.un : Int) + (s.kh.length : Int) + (s.pn : Int) + (s.qn : Int) + (s.ln : Int) < 0 := by omega
 have c4_16 := zk (zg HB) 16 _ rfl
 go_wp2_with fail
 clear c4_16
 refine ((zg h5) _ E5).mono ?_
 rintro e w6 ⟨rfl, F⟩
 have E6 := E5.trans F
 replace HB := F.hk HB
 clear F
 have n5 : ¬ k + 2 * (s.un : Int) + (s.kh.length : Int) + (s.pn : Int) + (s.qn : Int) + (s.ln : Int) + (s.dn : Int) < 0 := by omega
 go_wp2
 go_ret
 exact ⟨congrArg Ending.returned (congrArg (Value.int .i64) (by unfold SS.m; omega)), E6⟩
theorem zl0 (s : SS) (hz : s.SzM) : zfO 17 (fun k => zeU (mkSS k s)) s.m := by
 rintro w v k ⟨u, h, p, q, l, d, rfl, H⟩ h0 h1
 exact zgh s u h p q l d k w H hz h0 h1
end Go.Proofs.YtmlkpdbfnffoaaaGreatDoor
