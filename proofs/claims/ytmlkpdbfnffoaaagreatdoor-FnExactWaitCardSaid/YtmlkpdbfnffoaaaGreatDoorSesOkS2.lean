import Derived.Test.YtmlkpdbfnffoaaaGreatDoorSesMark
import Derived.Test.YtmlkpdbfnffoaaaGreatDoorLineS2
import Derived.Deep.DeepCutAuto
set_option maxHeartbeats 16000000
set_option maxRecDepth 10000
namespace Go.Proofs.YtmlkpdbfnffoaaaGreatDoor
open Go.RowKit
theorem zjW (bs : List Int) (hb : zaj bs) (w : World) (hl : bs.length ≤ 4194304) (ok : Bool) (hok : ok = true ↔ (bs.length ≤ 160 ∧ (zp bs).length ≤ 40 ∧ zaC bs = bs)) :
  Calls Tryz.prog 73 #[.string (zv bs), .int .i64 40] w fun e w' => e = .returned (.bool ok) ∧ Ext w w' := by
 have hsz := zai bs
 have HOK := zi hok
 clear hok
 by_cases h1 : bs.length ≤ 160
 ·have h1I : (bs.length : Int) ≤ 160 := by omega
  go_enter Tryz.func73, Tryz.ntmps73
  go_wp2_with fail
  refine (zcx bs hb w (by omega)).mono ?_
  rintro e w1 ⟨rfl, F1⟩
  by_cases h2 : (zp bs).length ≤ 40
  ·have h2I : ((zp bs).length : Int) ≤ 40 := by omega
   go_wp2_with fail
   refine (zcS bs hb w1 (by omega)).mono ?_
   rintro e w2 ⟨rfl, F2⟩
   by_cases h3 : zaC bs = bs
   ·have ht : ok = true := (zg HOK).2 ⟨h1, h2, h3⟩
    subst ht
    rw [h3]
    go_wp2
    go_ret
    exact ⟨rfl, F1.trans F2⟩
   ·have hf : ok = false := zaz (zg HOK) (fun h => h3 h.2.2)
    subst hf
    have hneb := zim (zdc bs) hb h3
    go_wp2
    go_ret
    exact ⟨rfl, F1.trans F2⟩
  ·have h2I : ¬ ((zp bs).length : Int) ≤ 40 := by omega
   have hf : ok = false := zaz (zg HOK) (fun h => h2 h.2.1)
   subst hf
   go_wp2
   go_ret
   exact ⟨rfl, F1⟩
 ·have h1I : ¬ (bs.length : Int) ≤ 160 := by omega
  have hf : ok = false := zaz (zg HOK) (fun h => h1 h.1)
  subst hf
  go_enter Tryz.func73, Tryz.ntmps73
  go_wp2
  go_ret
  exact ⟨rfl, Ext.refl _⟩
theorem zjV (a : ByteArray) (w : World) (hla : a.size ≤ 1048576) (ok : Bool) (hok : ok = true ↔ zbT (baL a) ∧ (zp (baL a)).length ≤ 40) :
  Calls Tryz.prog 73 #[.string a, .int .i64 40] w fun e w' => e = .returned (.bool ok) ∧ Ext w w' := by
 have h := zjW (baL a) (zau a) w (by rw [zar]; omega) ok (by
  rw [hok]
  unfold zbT
  constructor
  ·rintro ⟨h1, h2⟩
   have := zdf _ h1
   exact ⟨by omega, h2, h1⟩
  ·rintro ⟨_, h1, h2⟩
   exact ⟨h2, h1⟩)
 rwa [zay] at h
theorem zlJ : zbe (baL { data := #[] }) := by
 have h : baL { data := #[] } = [] := rfl
 rw [h]
 exact ⟨by decide +kernel, by decide +kernel⟩
theorem zmp (nav : Bool) (n : Nat) (at9 : Int) (tx : Nat → ByteArray) (dr : ByteArray) :
  zhA nav n at9 tx dr ↔ n ≤ 100 ∧ 0 ≤ at9 ∧ at9 ≤ (n : Int) ∧ zbe (baL dr) ∧ (∀ j, j < n → zbe (baL (tx j))) ∧ (nav = true ∨ (n = 0 ∧ at9 = 0 ∧ dr = { data := #[] })) := by
 unfold zhA
 cases nav with
 | true => simp only [if_true, true_or, and_true]; constructor <;> (rintro ⟨a, b, c, d, e⟩; exact ⟨a, b, c, e, d⟩)
 | false =>
  simp only [Bool.false_eq_true, if_false, false_or]
  constructor
  ·rintro ⟨rfl, rfl, rfl⟩
   exact ⟨by omega, by omega, by omega, zlJ, fun j hj => by omega, rfl, rfl, rfl⟩
  ·rintro ⟨_, _, _, _, _, h⟩
   exact h
theorem zjP (s : SS) (u h p q l d : Value) (w : World) (hA : zbb w s u h p q l d) (hz : s.Sz) (ok : Bool) (hok : ok = true ↔ zhA s.nav s.pn s.at9 s.pt s.dr) :
  Calls Tryz.prog 76 #[zaK s u h p q l d] w fun e w' => e = .returned (.bool ok) ∧ Ext w w' := by
 rw [zmp] at hok
 obtain ⟨ua, uc, ha, hc, pa, pc, qa, qc, la, lc, da, dc, rfl, rfl, rfl, rfl, rfl, rfl⟩ := hA.forms
 obtain ⟨bd, hbd⟩ := za2 (zbe (baL s.dr))
 have hcD := zi (fun W => zb4 s.dr W hz.dr bd hbd)
 have HBD := zi hbd
 have HK := zi hok
 have HP : Hid (∀ j, j < s.pn → ∃ g off, pa = some ⟨g, off, none⟩ ∧ w.cell? ⟨g, off + j, none⟩ = some (.string (s.pt j))) := zi (by
  obtain ⟨ao, ca, e, _, hx⟩ := hA.pa
  simp only [Value.slice.injEq] at e
  obtain ⟨rfl, _, rfl⟩ := e
  intro j hj
  obtain ⟨g, off, e, hcc⟩ := hx (by omega)
  exact ⟨g, off, e, hcc j hj⟩)
 have HZ := zi hz
 have hpn := hz.pn
 clear hok hbd hA hz
 obtain ⟨V, hV⟩ : ∃ V, V = w.alloc (.cells #[.string s.pr, .int .i64 s.cols, .int .i64 s.rows, .string s.la, .string s.lb, .string s.lc, .slice ua s.un uc, .slice ha s.kh.length hc, .bool s.kp, .bool s.nav, .slice pa s.pn pc, .int .i64 s.at9, .string s.dr, .bool s.st, .slice qa s.qn qc, .slice la s.ln lc, .slice da s.dn dc] 40) := ⟨_, rfl⟩
 have E0 : Ext w V := by rw [hV]; exact (Ext.refl w).alloc _
 have HB : Hid (V.heap[w.heap.size]? = some (.cells #[.string s.pr, .int .i64 s.cols, .int .i64 s.rows, .string s.la, .string s.lb, .string s.lc, .slice ua s.un uc, .slice ha s.kh.length hc, .bool s.kp, .bool s.nav, .slice pa s.pn pc, .int .i64 s.at9, .string s.dr, .bool s.st, .slice qa s.qn qc, .slice la s.ln lc, .slice da s.dn dc] 40 (0, 0))) := zi (by rw [hV]; exact zn w _)
 have HV := zi hV
 clear hV
 unfold zaK
 by_cases h1 : (s.pn : Int) ≤ 100
 case neg =>
  have hfin : Hid (ok = false) := zi (zaz (zg HK) (fun h => h1 (by have := h.1; omega)))
  go_enter Tryz.func76, Tryz.ntmps76
  go_wp2
  go_ret
  exact ⟨zw (zg hfin).symm, (Ext.refl _).alloc _⟩
 by_cases h2 : 0 ≤ s.at9
 case neg =>
  have hfin : Hid (ok = false) := zi (zaz (zg HK) (fun h => h2 h.2.1))
  go_enter Tryz.func76, Tryz.ntmps76
  go_wp2
  go_ret
  exact ⟨zw (zg hfin).symm, (Ext.refl _).alloc _⟩
 by_cases h3 : s.at9 ≤ (s.pn : Int)
 case neg =>
  have hfin : Hid (ok = false) := zi (zaz (zg HK) (fun h => h3 h.2.2.1))
  go_enter Tryz.func76, Tryz.ntmps76
  go_wp2
  go_ret
  exact ⟨zw (zg hfin).symm, (Ext.refl _).alloc _⟩
 go_enter Tryz.func76, Tryz.ntmps76
 go_wp2_with fail
 rw [← zg HV]
 clear HV
 refine ((zg hcD) V).mono ?_
 rintro e w1 ⟨rfl, F1⟩
 have E1 := E0.trans F1
 replace HB := F1.hk HB
 cases bd with
 | false =>
  have hfin : Hid (ok = false) := zi (zaz (zg HK) (fun h => by have := (zg HBD).2 h.2.2.2.1; cases this))
  go_wp2
  go_ret
  exact ⟨zw (zg hfin).symm, E1⟩
 | true =>
 go_wp2
 go_loopw [3] (fun i wr => ∃ k : Nat, k ≤ s.pn ∧ i = .int .i64 k ∧ Hid (∀ j, j < k → zbe (baL (s.pt j))) ∧ Ext w1 wr) (fun i _ => s.pn - (intOf i).toNat)
 case atStart => exact ⟨0, Nat.zero_le _, rfl, zi (fun j hj => by omega), Ext.refl _⟩
 case round =>
  obtain ⟨k, hk, rfl, HJ, hext⟩ := hrel
  have hB := hext.kept (zg HB)
  have c10 := zk hB 10 _ rfl
  have c11 := zk hB 11 _ rfl
  have c12 := zk hB 12 _ rfl
  have c9 := zk hB 9 _ rfl
  clear hB
  by_cases hlt : k < s.pn
  ·obtain ⟨g, off, hpa, hg⟩ := (zg HP) k hlt
   subst hpa
   have g1 := hext.cell ((E0.trans F1).cell hg)
   have bk : (k : Int) < (s.pn : Int) := by omega
   obtain ⟨bt, hbt⟩ := za2 (zbe (baL (s.pt k)))
   have hcT := zi (fun W => zb4 (s.pt k) W ((zg HZ).pt k hlt) bt hbt)
   have HBT := zi hbt
   clear hg hbt
   go_wp2_with fail
   refine ((zg hcT) _).mono ?_
   rintro e w2 ⟨rfl, F2⟩
   cases bt with
   | false =>
    have hfin : Hid (ok = false) := zi (zaz (zg HK) (fun h => by have := (zg HBT).2 (h.2.2.2.2.1 k hlt); cases this))
    go_wp2
    go_ret
    exact ⟨zw (zg hfin).symm, E1.trans (hext.trans F2)⟩
   | true =>
    have HJ2 : Hid (∀ j, j < k + 1 → zbe (baL (s.pt j))) := zi (fun j hj => by
     by_cases e : j = k
     ·subst e; exact (zg HBT).1 rfl
     ·exact (zg HJ) j (by omega))
    go_wp2
    go_roundw
    case rel => exact ⟨k + 1, by omega, by go_num, HJ2, hext.trans F2⟩
    case measure => simp [intOf]; omega
  ·obtain rfl : k = s.pn := by omega
   have hall : Hid (ok = true ↔ (s.nav = true ∨ (s.pn = 0 ∧ s.at9 = 0 ∧ s.dr = { data := #[] }))) := zi (by
    rw [zg HK]
    exact ⟨fun h => h.2.2.2.2.2, fun h => ⟨by omega, h2, h3, (zg HBD).1 (by simp), zg HJ, h⟩⟩)
   have hE := E1.trans hext
   clear HK HJ HP HZ
   cases hnv : s.nav with
   | true =>
    have hfin : Hid (ok = true) := zi ((zg hall).2 (.inl hnv))
    rw [hnv] at c9
    clear hnv
    go_wp2
    go_ret
    exact ⟨zw (zg hfin).symm, hE⟩
   | false =>
    have hall2 : Hid (ok = true ↔ (s.pn = 0 ∧ s.at9 = 0 ∧ s.dr = { data := #[] })) := zi (by rw [zg hall, hnv]; simp)
    rw [hnv] at c9
    clear hnv hall
    by_cases n1 : (s.pn : Int) = 0
    ·by_cases n2 : s.at9 = 0
     ·by_cases n3 : s.dr = { data := #[] }
      ·have hfin : Hid (ok = true) := zi ((zg hall2).2 ⟨by omega, n2, n3⟩)
       rw [n3] at c12
       go_wp2
       go_ret
       exact ⟨zw (zg hfin).symm, hE⟩
      ·have hne : s.dr.toList.isEmpty = false := by
        rw [zbg]
        cases e : s.dr.data.toList with
        | nil => exact absurd (WideShapes.bytes_inj e) n3
        | cons _ _ => rfl
       have hfin : Hid (ok = false) := zi (zaz (zg hall2) (fun h => n3 h.2.2))
       clear n3
       go_wp2
       go_ret
       exact ⟨zw (zg hfin).symm, hE⟩
     ·exact absurd (by omega) n2
    ·have hfin : Hid (ok = false) := zi (zaz (zg hall2) (fun h => n1 (by omega)))
     go_wp2
     go_ret
     exact ⟨zw (zg hfin).symm, hE⟩
theorem zmu : (Tryz.prog.info? 40).map (·.size) = some 17 := by kernel_rfl
theorem zkw (st : Bool) (n : Nat) (tx : Nat → ByteArray) : zeF st n tx ↔ n ≤ 20 ∧ (st = true ∨ n = 0) ∧ ∀ j, j < n → zbT (baL (tx j)) := by
 unfold zeF
 cases st with
 | true => simp
 | false =>
  simp only [Bool.false_eq_true, if_false, false_or]
  constructor
  ·rintro rfl
   exact ⟨by omega, rfl, fun j hj => by omega⟩
  ·rintro ⟨_, h, _⟩
   exact h
theorem ba_neS {a b : ByteArray} (h : a ≠ b) : (a.toList == b.toList) = false := by
 rw [← Bool.not_eq_true, beq_iff_eq, zbg, zbg]
 exact fun e => h (WideShapes.bytes_inj e)
theorem zme (T : ByteArray) (w : World) (h : T.size ≤ 1048576) : Calls Tryz.prog 77 #[.string T] w fun e w' => e = .returned (.string (zv (zaC (baL T)))) ∧ Ext w w' := by
 have hh := zcS (baL T) (zau T) w (by rw [zar]; omega)
 rwa [zay] at hh
theorem setP_ba {T : ByteArray} (h : zbT (baL T)) : zv (zaC (baL T)) = T := by
 have : zaC (baL T) = baL T := h
 rw [this, zay]
theorem setP_ne {T : ByteArray} (h : ¬ zbT (baL T)) : ((zv (zaC (baL T))).toList == T.toList) = false := by
 have hh := zim (zdc (baL T)) (zau T) h
 rwa [zay] at hh
theorem trim_ne {T : ByteArray} (h : ¬ Lib.hasSuffix T.data.toList [32] = false) : ((T.extract 0 (zct T T.size)).toList == T.toList) = false := ba_neS (fun e => h ((zh9 T).1 e))
theorem zfk (s : SS) (u h p q l d : Value) (w : World) (hA : zbb w s u h p q l d) (hz : s.Sz) (ok : Bool) (hok : ok = true ↔ zcv s) :
  Calls Tryz.prog 51 #[zaK s u h p q l d] w fun e w' => e = .returned (.bool ok) ∧ Ext w w' := by
 obtain ⟨b1, h1⟩ := za2 (zbT (baL s.pr) ∧ (zp (baL s.pr)).length ≤ 40)
 obtain ⟨b3, h3⟩ := za2 (zb8 s.la s.lb s.lc s.un s.ut s.uh)
 obtain ⟨b5, h5⟩ := za2 (zhA s.nav s.pn s.at9 s.pt s.dr)
 obtain ⟨ua, uc, ha, hc, pa, pc, qa, qc, la, lc, da, dc, rfl, rfl, rfl, rfl, rfl, rfl⟩ := hA.forms
 have hc1 := zi (fun W => zjV s.pr W hz.pr b1 h1)
 have hc2 := zi (fun W => zfp s.cols s.rows W)
 have hc3 := zi (fun W (hW : Ext w W) => zcU s.la s.lb s.lc ua s.un uc s.ut s.uh W (hA.un.ext hW) hz.la hz.lb hz.lc hz.ut b3 h3)
 have hc5 := zi (fun W (hW : Ext w W) => zjP s _ _ _ _ _ _ W (hA.ext hW) hz b5 h5)
 have HQ : Hid (∀ j, j < s.qn → ∃ g off, qa = some ⟨g, off, none⟩ ∧ w.cell? ⟨g, off + j, none⟩ = some (.string (s.qt j))) := zi (by
  obtain ⟨ao, ca, e, _, hx⟩ := hA.qu
  simp only [Value.slice.injEq] at e
  obtain ⟨rfl, _, rfl⟩ := e
  intro j hj
  obtain ⟨g, off, e, hcc⟩ := hx (by omega)
  exact ⟨g, off, e, hcc j hj⟩)
 have HL : Hid (∀ j, j < s.ln → ∃ g off, la = some ⟨g, off, none⟩ ∧ w.cell? ⟨g, off + j, none⟩ = some (.string (s.lt j))) := zi (by
  obtain ⟨ao, ca, e, _, hx⟩ := hA.lo
  simp only [Value.slice.injEq] at e
  obtain ⟨rfl, _, rfl⟩ := e
  intro j hj
  obtain ⟨g, off, e, hcc⟩ := hx (by omega)
  exact ⟨g, off, e, hcc j hj⟩)
 have H1 := zi h1
 have H3 := zi h3
 have H5 := zi h5
 have HK := zi hok
 have HZ := zi hz
 have hkl := hz.kh
 have hqn := hz.qn
 have hln := hz.ln
 clear h1 h3 h5 hok hA hz
 obtain ⟨V, hV⟩ : ∃ V, V = w.alloc (.cells #[.string s.pr, .int .i64 s.cols, .int .i64 s.rows, .string s.la, .string s.lb, .string s.lc, .slice ua s.un uc, .slice ha s.kh.length hc, .bool s.kp, .bool s.nav, .slice pa s.pn pc, .int .i64 s.at9, .string s.dr, .bool s.st, .slice qa s.qn qc, .slice la s.ln lc, .slice da s.dn dc] 40) := ⟨_, rfl⟩
 have E0 : Ext w V := by rw [hV]; exact (Ext.refl w).alloc _
 have HB : Hid (V.heap[w.heap.size]? = some (.cells #[.string s.pr, .int .i64 s.cols, .int .i64 s.rows, .string s.la, .string s.lb, .string s.lc, .slice ua s.un uc, .slice ha s.kh.length hc, .bool s.kp, .bool s.nav, .slice pa s.pn pc, .int .i64 s.at9, .string s.dr, .bool s.st, .slice qa s.qn qc, .slice la s.ln lc, .slice da s.dn dc] 40 (0, 0))) := zi (by rw [hV]; exact zn w _)
 have HV := zi hV
 clear hV
 unfold zaK
 go_enter Tryz.func51, Tryz.ntmps51
 go_upto_region 0 with fail
 go_cut [0, 1, 2] (fun _ p b wq => p = .pointer (some ⟨w.heap.size, 0, none⟩) ∧ b = .bool false ∧ wq = V)
 case first =>
  go_wp2
  go_meet
  exact ⟨rfl, rfl, (zg HV).symm⟩
 case rest =>
 obtain ⟨rfl, rfl, hwc⟩ := hcut
 obtain rfl : V = wc := hwc.symm
 clear HV
 obtain ⟨bp, hbp⟩ := za2 ((zbT (baL s.pr) ∧ (zp (baL s.pr)).length ≤ 40) ∧ zbl s.cols s.rows = true ∧ zb8 s.la s.lb s.lc s.un s.ut s.uh ∧ s.kh.length ≤ 2000)
 have HBP := zi hbp
 clear hbp
 go_upto_region 1 with fail
 go_cut [29] (fun b wq => b = .bool (!bp) ∧ Ext V wq)
 case first =>
  clear HQ HL HK H5 hc5
  have x0 := zk (zg HB) 0 _ rfl
  go_wp2_with fail
  clear x0
  refine ((zg hc1) V).mono ?_
  rintro e w1 ⟨rfl, F1⟩
  have E1 := E0.trans F1
  replace HB := F1.hk HB
  cases b1 with
  | false =>
   have hfin : Hid (bp = false) := zi (zaz (zg HBP) (fun h => by have := (zg H1).2 h.1; cases this))
   go_wp2
   go_meet
   exact ⟨by rw [zg hfin]; first | rfl | (simp; omega) | simp, F1⟩
  | true =>
  have x1 := zk (zg HB) 1 _ rfl
  have x2 := zk (zg HB) 2 _ rfl
  go_wp2_with fail
  refine ((zg hc2) _).mono ?_
  rintro e w2 ⟨rfl, rfl⟩
  clear x1 x2
  cases hsz : zbl s.cols s.rows with
  | false =>
   have hfin : Hid (bp = false) := zi (zaz (zg HBP) (fun h => by have := h.2.1; rw [hsz] at this; cases this))
   clear hsz
   go_wp2
   go_meet
   exact ⟨by rw [zg hfin]; first | rfl | (simp; omega) | simp, F1⟩
  | true =>
  have HSZ := zi hsz
  clear hsz
  have x3 := zk (zg HB) 3 _ rfl
  have x4 := zk (zg HB) 4 _ rfl
  have x5 := zk (zg HB) 5 _ rfl
  have x6 := zk (zg HB) 6 _ rfl
  go_wp2_with fail
  refine ((zg hc3) _ E1).mono ?_
  rintro e w3 ⟨rfl, F3⟩
  replace HB := F3.hk HB
  clear x3 x4 x5 x6
  cases b3 with
  | false =>
   have hfin : Hid (bp = false) := zi (zaz (zg HBP) (fun h => by have := (zg H3).2 h.2.2.1; cases this))
   go_wp2
   go_meet
   exact ⟨by rw [zg hfin]; first | rfl | (simp; omega) | simp, F1.trans F3⟩
  | true =>
  have x7 := zk (zg HB) 7 _ rfl
  by_cases h4 : (s.kh.length : Int) ≤ 2000
  case neg =>
   have hfin : Hid (bp = false) := zi (zaz (zg HBP) (fun h => h4 (by have := h.2.2.2; omega)))
   have h4b : decide (2000 < (s.kh.length : Int)) = true := by simp; omega
   go_wp2
   go_meet
   exact ⟨by rw [zg hfin]; first | rfl | (rw [h4b]; rfl) | (simp; omega) | simp, F1.trans F3⟩
  case pos =>
   have hfin : Hid (bp = true) := zi ((zg HBP).2 ⟨(zg H1).1 (by simp), zg HSZ, (zg H3).1 (by simp), by omega⟩)
   have h4b : decide (2000 < (s.kh.length : Int)) = false := by simp; omega
   go_wp2
   go_meet
   exact ⟨by rw [zg hfin]; first | rfl | (rw [h4b]; rfl) | (simp; omega) | simp, F1.trans F3⟩
 case rest =>
 obtain ⟨rfl, F3⟩ := hcut
 obtain ⟨w3, hw3⟩ : ∃ w3, w3 = wc := ⟨_, rfl⟩
 rw [← hw3] at F3 ⊢
 clear hw3 H1 H3 hc1 hc2 hc3
 have E3 := E0.trans F3
 replace HB := F3.hk HB
 cases bp with
 | false =>
  have hfin : Hid (ok = false) := zi (zaz (zg HK) (fun h => by have := (zg HBP).2 ⟨h.1, h.2.1, h.2.2.1, h.2.2.2.1⟩; cases this))
  go_wp2
  go_ret
  exact ⟨zw (zg hfin).symm, E3⟩
 | true =>
 obtain ⟨bq, hbq⟩ := za2 (zhA s.nav s.pn s.at9 s.pt s.dr ∧ s.qn ≤ 20 ∧ (s.st = true ∨ s.qn = 0))
 have hrest : Hid (ok = true ↔ bq = true ∧ (∀ j, j < s.qn → zbT (baL (s.qt j))) ∧ ∀ j, j < s.ln → Lib.hasSuffix (s.lt j).data.toList [32] = false) := zi (by
  rw [zg HK, hbq]
  unfold zcv
  rw [zkw]
  constructor
  ·rintro ⟨_, _, _, _, h5, ⟨h6, h7, h8⟩, h9⟩
   exact ⟨⟨h5, h6, h7⟩, h8, h9⟩
  ·rintro ⟨⟨h5, h6, h7⟩, h8, h9⟩
   obtain ⟨k1, k2, k3, k4⟩ := (zg HBP).1 (by simp)
   exact ⟨k1, k2, k3, k4, h5, ⟨h6, h7, h8⟩, h9⟩)
 have HBQ := zi hbq
 clear HK HBP hbq
 go_upto_region 3 with fail
 go_cut [49] (fun b wq => b = .bool (!bq) ∧ Ext w3 wq)
 case first =>
  clear HQ HL HZ hrest
  go_wp2_with (refine zm rfl 40 _ rfl (w.heap.size) rfl _ _ _ _ (zg HB) Tryz.underlying40 rfl zmu ?_)
  refine ((zg hc5) _ E3).mono ?_
  rintro e w5 ⟨rfl, F5⟩
  replace HB := F5.hk HB
  cases b5 with
  | false =>
   have hfin : Hid (bq = false) := zi (zaz (zg HBQ) (fun h => by have := (zg H5).2 h.1; cases this))
   go_wp2
   go_meet
   exact ⟨by rw [zg hfin]; first | rfl | (simp; omega) | simp, F5⟩
  | true =>
  have x13 := zk (zg HB) 13 _ rfl
  have x14 := zk (zg HB) 14 _ rfl
  by_cases h6 : (s.qn : Int) ≤ 20
  case neg =>
   have hfin : Hid (bq = false) := zi (zaz (zg HBQ) (fun h => h6 (by have := h.2.1; omega)))
   go_wp2
   go_meet
   exact ⟨by rw [zg hfin]; first | rfl | (simp; omega) | simp, F5⟩
  by_cases h7 : 0 < (s.qn : Int)
  case neg =>
   have hfin : Hid (bq = true) := zi ((zg HBQ).2 ⟨(zg H5).1 (by simp), by omega, .inr (by omega)⟩)
   go_wp2
   go_meet
   exact ⟨by rw [zg hfin]; first | rfl | (simp; omega) | simp, F5⟩
  cases h8 : s.st with
  | true =>
   have hfin : Hid (bq = true) := zi ((zg HBQ).2 ⟨(zg H5).1 (by simp), by omega, .inl h8⟩)
   rw [h8] at x13
   clear h8
   go_wp2
   go_meet
   exact ⟨by rw [zg hfin]; first | rfl | (simp; omega) | simp, F5⟩
  | false =>
   have hfin : Hid (bq = false) := zi (zaz (zg HBQ) (fun h => h.2.2.elim (fun e => by rw [h8] at e; cases e) (fun e => by omega)))
   rw [h8] at x13
   clear h8
   go_wp2
   go_meet
   exact ⟨by rw [zg hfin]; first | rfl | (simp; omega) | simp, F5⟩
 case rest =>
 obtain ⟨rfl, F5⟩ := hcut
 obtain ⟨w5, hw5⟩ : ∃ w5, w5 = wc := ⟨_, rfl⟩
 rw [← hw5] at F5 ⊢
 clear hw5
 have E5 := E3.trans F5
 replace HB := F5.hk HB
 clear H5 HBQ hc5
 cases bq with
 | false =>
  have hfin : Hid (ok = false) := zi (zaz (zg hrest) (fun h => by cases h.1))
  go_wp2
  go_ret
  exact ⟨zw (zg hfin).symm, E5⟩
 | true =>
 go_wp2
 go_loopw [3] (fun i wr => ∃ k : Nat, k ≤ s.qn ∧ i = .int .i64 k ∧ Hid (∀ j, j < k → zbT (baL (s.qt j))) ∧ Ext w5 wr) (fun i _ => s.qn - (intOf i).toNat)
 case atStart => exact ⟨0, Nat.zero_le _, rfl, zi (fun j hj => by omega), Ext.refl _⟩
 case round =>
  obtain ⟨k, hk, rfl, HJ3, hext3⟩ := hrel
  have c14 := zk (hext3.kept (zg HB)) 14 _ rfl
  by_cases hlt : k < s.qn
  ·obtain ⟨g, off, hqa, hg⟩ := (zg HQ) k hlt
   subst hqa
   have g1 := hext3.cell (E5.cell hg)
   have bk : (k : Int) < (s.qn : Int) := by omega
   obtain ⟨T, hT⟩ : ∃ T, T = s.qt k := ⟨_, rfl⟩
   rw [← hT] at g1
   have hTs : T.size ≤ 1048576 := by rw [hT]; exact (zg HZ).qt k hlt
   have hcS := zi (fun W => zme T W hTs)
   by_cases hP : zbT (baL T)
   ·have hRT := setP_ba hP
    rw [hRT] at hcS
    have HJ2 : Hid (∀ j, j < k + 1 → zbT (baL (s.qt j))) := zi (fun j hj => by
     by_cases e : j = k
     ·rw [e, ← hT]; exact hP
     ·exact (zg HJ3) j (by omega))
    clear hT hg hP hRT
    go_wp2
    first
     | (go_region_held_law (fun W => W.cell? ⟨w.heap.size, 14, none⟩ = some (.slice (some ⟨g, off, none⟩) s.qn qc) ∧ W.cell? ⟨g, off + k, none⟩ = some (.string T)) (first | exact ⟨c14, g1⟩ | exact ⟨he'.cell c14, he'.cell g1⟩)
       (first | (go_at_call 77; refine ((zg hcS) _).mono ?_; rintro e w6 ⟨rfl, F6⟩; have he' := (Ext.refl wr).drew.trans F6; clear F6)))
     | fail
    all_goals
     have hE2 := hext3.trans he'
     go_wp2
     go_roundw
     case rel => exact ⟨k + 1, by omega, by go_num, HJ2, hE2⟩
     case measure => simp [intOf]; omega
   ·have hneb := setP_ne hP
    have hfin : Hid (ok = false) := zi (zaz (zg hrest) (fun h => hP (by rw [hT]; exact h.2.1 k hlt)))
    clear hP hT hg
    go_wp2
    first
     | (go_region_held_law (fun W => W.cell? ⟨w.heap.size, 14, none⟩ = some (.slice (some ⟨g, off, none⟩) s.qn qc) ∧ W.cell? ⟨g, off + k, none⟩ = some (.string T)) (first | exact ⟨c14, g1⟩ | exact ⟨he'.cell c14, he'.cell g1⟩)
       (first | (go_at_call 77; refine ((zg hcS) _).mono ?_; rintro e w6 ⟨rfl, F6⟩; have he' := (Ext.refl wr).drew.trans F6; clear F6)))
     | fail
    all_goals
     go_wp2
     go_ret
     exact ⟨zw (zg hfin).symm, E5.trans (hext3.trans he')⟩
  ·have hkq : k = s.qn := by omega
   subst hkq
   go_wp2
   go_loopw [4] (fun i wr => ∃ k : Nat, k ≤ s.ln ∧ i = .int .i64 k ∧ Hid (∀ j, j < k → Lib.hasSuffix (s.lt j).data.toList [32] = false) ∧ Ext w5 wr) (fun i _ => s.ln - (intOf i).toNat)
   case atStart => exact ⟨0, Nat.zero_le _, rfl, zi (fun j hj => by omega), hext3⟩
   case round =>
    obtain ⟨k, hk, rfl, HJ4, hext4⟩ := hrel
    have c15 := zk (hext4.kept (zg HB)) 15 _ rfl
    by_cases hlt : k < s.ln
    ·obtain ⟨g, off, hqa, hg⟩ := (zg HL) k hlt
     subst hqa
     have g1 := hext4.cell (E5.cell hg)
     have bk : (k : Int) < (s.ln : Int) := by omega
     obtain ⟨T, hT⟩ : ∃ T, T = s.lt k := ⟨_, rfl⟩
     rw [← hT] at g1
     have hTs : T.size ≤ 1048576 := by rw [hT]; exact (zg HZ).lt k hlt
     have hcS := zi (fun W => zkb T W hTs)
     by_cases hP : Lib.hasSuffix T.data.toList [32] = false
     ·have hRT := (zh9 T).2 hP
      rw [hRT] at hcS
      have HJ2 : Hid (∀ j, j < k + 1 → Lib.hasSuffix (s.lt j).data.toList [32] = false) := zi (fun j hj => by
       by_cases e : j = k
       ·rw [e, ← hT]; exact hP
       ·exact (zg HJ4) j (by omega))
      clear hT hg hP hRT
      go_wp2
      first
       | (go_region_held_law (fun W => W.cell? ⟨w.heap.size, 15, none⟩ = some (.slice (some ⟨g, off, none⟩) s.ln lc) ∧ W.cell? ⟨g, off + k, none⟩ = some (.string T)) (first | exact ⟨c15, g1⟩ | exact ⟨he'.cell c15, he'.cell g1⟩)
         (first | (go_at_call 78; refine ((zg hcS) _).mono ?_; rintro e w6 ⟨rfl, rfl⟩; have he' := (Ext.refl wr).drew)))
       | fail
      all_goals
       have hE2 := hext4.trans he'
       go_wp2
       go_roundw
       case rel => exact ⟨k + 1, by omega, by go_num, HJ2, hE2⟩
       case measure => simp [intOf]; omega
     ·have hneb := trim_ne hP
      have hfin : Hid (ok = false) := zi (zaz (zg hrest) (fun h => hP (by rw [hT]; exact h.2.2 k hlt)))
      clear hP hT hg
      go_wp2
      first
       | (go_region_held_law (fun W => W.cell? ⟨w.heap.size, 15, none⟩ = some (.slice (some ⟨g, off, none⟩) s.ln lc) ∧ W.cell? ⟨g, off + k, none⟩ = some (.string T)) (first | exact ⟨c15, g1⟩ | exact ⟨he'.cell c15, he'.cell g1⟩)
         (first | (go_at_call 78; refine ((zg hcS) _).mono ?_; rintro e w6 ⟨rfl, rfl⟩; have he' := (Ext.refl wr).drew)))
       | fail
      all_goals
       go_wp2
       go_ret
       exact ⟨zw (zg hfin).symm, E5.trans (hext4.trans he')⟩
    ·have hkq : k = s.ln := by omega
     subst hkq
     have hfin : Hid (ok = true) := zi ((zg hrest).2 ⟨by simp, zg HJ3, zg HJ4⟩)
     go_wp2
     go_ret
     exact ⟨zw (zg hfin).symm, E5.trans hext4⟩
end Go.Proofs.YtmlkpdbfnffoaaaGreatDoor
