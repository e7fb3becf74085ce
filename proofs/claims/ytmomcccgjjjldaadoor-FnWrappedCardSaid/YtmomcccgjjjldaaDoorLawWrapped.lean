import Derived.Test.YtmomcccgjjjldaaDoorWrapW
import Derived.Test.YtmomcccgjjjldaaDoorDrawClean
import Derived.Test.YtmomcccgjjjldaaDoorTab
import Derived.Test.YtmomcccgjjjldaaDoorTie
import Derived.Test.YtmomcccgjjjldaaDoorCards
import Derived.SevenTiedAt
namespace Go.Proofs.YtmomcccgjjjldaaDoor
open Go.ChangeShapes Go.WideShapes Go.ChangeAt Go.RowKit Go.Deep
theorem textC_take_le (cs : List (List Int × Int)) (e : Nat) : (textC (cs.take e)).length ≤ (textC cs).length := by
  have h := textC_app (cs.take e) (cs.drop e)
  rw [List.take_append_drop] at h
  rw [h]
  simp
set_option maxRecDepth 20000 in
set_option maxHeartbeats 8000000 in
theorem fnWrapped_small (v : Value) (code : List Int) (w : World) (hv : IntsAt w .u8 v code) (hB : Bytes code) (hl : code.length ≤ 1048576) (hT : Laid w) :
    Calls Tryd.prog 3 #[v] w fun e w' => e = .returned (.bool true) ∧ Below w.heap.size w w' := by
  have HV := hide hv
  have HT := hide hT
  obtain ⟨ao, cap, rfl, _, _⟩ := hv
  have hl2 : ¬ (1048576 : Int) < (code.length : Int) := by omega
  clear hT
  go_enter Tryd.func3, Tryd.ntmps3
  go_wp2_with fail
  refine (DrawClean_any _ code w (unhide HV) hB hl).mono ?_
  rintro e w1 ⟨raw, zs, rfl, ⟨o1, hzb, hzl⟩, E1⟩
  have O1 := hide o1
  clear o1
  have hcv := run_b2s (P := Tryd.prog) w1 _ _ _ Tryd.underlying22 Tryd.underlying5 Tryd.underlying9 _ _ (ints_of_owns (unhide O1))
  go_wp2_with fail
  refine (specSettle_any zs hzb w1 (by omega)).mono ?_
  rintro e w2 ⟨rfl, F2⟩
  have E2 := E1.trans F2
  clear hcv
  have hcv := run_b2s (P := Tryd.prog) w2 _ _ _ Tryd.underlying22 Tryd.underlying5 Tryd.underlying9 _ _ (ints_of_owns (F2.owns (unhide O1)))
  have T2 := hide ((unhide HT).below E2.below)
  go_wp2_with fail
  refine (implSettle_any zs hzb w2 (by omega) (unhide T2)).mono ?_
  rintro e w3 ⟨rfl, F3⟩
  have E3 := E2.trans F3
  clear hcv
  have T3 := hide ((unhide HT).below E3.below)
  have hsl := settleL_len zs
  have hst := hide (implSettle_any (settleL zs) (settleL_bytes zs) w3 (by omega) (unhide T3))
  rw [settle_twice] at hst
  go_wp2_with fail
  refine (unhide hst).mono ?_
  rintro e w4 ⟨rfl, F4⟩
  have E4 := E3.trans F4
  have O4 := hide (((F2.trans F3).trans F4).owns (unhide O1))
  have Y4 := (F2.trans F3).trans F4
  clear hst
  have hmod : (0 : Int) ≤ (code.length : Int) % 8 ∧ (code.length : Int) % 8 ≤ 7 := by omega
  have hwc : IntKind.i64.wrap (2 + (code.length : Int) % 8) = 2 + (code.length : Int) % 8 := by rw [IntKind.wrap_i64]; omega
  go_wp2_with fail
  refine (implClean_any zs hzb raw w4 (ints_of_owns (unhide O4)) (by omega)).mono ?_
  rintro e w5 ⟨vc, rfl, oc, F5⟩
  have E5 := E4.trans F5
  have OC := hide oc
  have hcl := cleanL_len zs
  have HCM := hide (cleanL_mem zs)
  obtain ⟨ca, cc, hvc, _, hcx⟩ := ints_of_owns oc
  subst hvc
  have HCX := hide hcx
  clear oc hcx
  obtain ⟨cols, hcols⟩ : ∃ cols, cols = 2 + (code.length : Int) % 8 := ⟨_, rfl⟩
  have hcb : 2 ≤ cols ∧ cols ≤ 9 := by omega
  rw [← hcols]
  clear hcols hmod hwc
  obtain ⟨cl, hcl'⟩ : ∃ cl, cl = cleanL zs := ⟨_, rfl⟩
  have HCL := hide hcl'
  rw [← hcl'] at OC HCM HCX hcl ⊢
  clear hcl'
  obtain ⟨n, hn⟩ : ∃ n, n = cl.length := ⟨_, rfl⟩
  have HN := hide hn
  rw [← hn] at HCX hcl ⊢
  clear hn
  go_wp2
  go_loop [8] (fun i => ∃ k : Nat, k ≤ n ∧ i = .int .i64 k) (fun i => n - (intOf i).toNat)
  case atStart => exact ⟨0, Nat.zero_le _, rfl⟩
  case round =>
    obtain ⟨k, hk, rfl⟩ := hrel
    by_cases hlt : k < n
    · have bk : (k : Int) < (n : Int) := by omega
      obtain ⟨b, off, rfl, hc⟩ := (unhide HCX) (by omega)
      have g1 := hc k hlt
      have hx := (unhide HCM) (at0 cl k) (by
        have := at0_lt (xs := cl) (i := k) (by rw [← unhide HN]; exact hlt)
        exact List.mem_of_getElem? this)
      obtain ⟨x, hxx⟩ : ∃ x, x = at0 cl k := ⟨_, rfl⟩
      rw [← hxx] at g1 hx
      clear hc hxx
      have hv4 := valid_or hx.1
      have x1 : ¬ x < 32 := by have := hx.2.1; omega
      have x2 : ¬ ((127 : Int) ≤ x ∧ x ≤ 159) := hx.2.2
      have x3 : ¬ ((55296 : Int) ≤ x ∧ x ≤ 57343) := by omega
      have x4 : ¬ (1114111 : Int) < x := by omega
      have x2b : (decide ((127 : Int) ≤ x) && decide (x ≤ 159)) = false := by simp; omega
      have x3b : (decide ((55296 : Int) ≤ x) && decide (x ≤ 57343)) = false := by simp; omega
      have x2c : (127 : Int) ≤ x → ¬ x ≤ 159 := by omega
      have x3c : (55296 : Int) ≤ x → ¬ x ≤ 57343 := by omega
      clear hv4 hx
      by_cases y1 : (127 : Int) ≤ x
      · have y1b := x2c y1
        by_cases y2 : (55296 : Int) ≤ x
        · have y2b := x3c y2
          go_wp2
          go_round
          case rel => exact ⟨k + 1, by omega, by go_num⟩
          case measure => simp [intOf]; omega
        · go_wp2
          go_round
          case rel => exact ⟨k + 1, by omega, by go_num⟩
          case measure => simp [intOf]; omega
      · have y2 : ¬ (55296 : Int) ≤ x := by omega
        go_wp2
        go_round
        case rel => exact ⟨k + 1, by omega, by go_num⟩
        case measure => simp [intOf]; omega
    · obtain rfl : k = n := by omega
      have T5 := hide ((unhide HT).below E5.below)
      have hCI : I32s cl := by rw [unhide HCL]; exact cleanL_i32 zs
      have hcon := hide (implClusters_any (.slice ca k cc) cl w5 (by rw [unhide HN]; exact ints_of_owns (unhide OC)) hCI (by rw [← unhide HN]; omega) (unhide T5))
      go_wp2_with fail
      refine (unhide hcon).mono ?_
      rintro e w6 ⟨vk, rk, rfl, ok, F6⟩
      have E6 := E5.trans F6
      obtain ⟨cs, hcs⟩ : ∃ cs, cs = clusC cl := ⟨_, rfl⟩
      have HCS := hide hcs
      have OK := hide ok
      rw [← hcs] at OK
      have hkl : cs.length ≤ k := by rw [hcs, unhide HN]; exact clF_len cl cl.length
      have hks : sumR cs cs.length ≤ k + 1 := by rw [hcs, unhide HN]; exact clF_sum cl cl.length
      have HKR := hide (fun j => (by rw [hcs, unhide HN]; exact clF_runes cl cl.length j : (cR cs j).length ≤ k + 1))
      have HKI := hide (fun j => (by rw [hcs]; exact clF_i32 cl cl.length j : I32s (cR cs j)))
      have HKW := hide (fun j => (by rw [hcs]; exact clF_wid cl cl.length j : 0 ≤ cW cs j ∧ cW cs j ≤ 2))
      have HTX : Hid (textC cs = settleL zs) := by refine hide ?_; rw [hcs, unhide HCL]; rfl
      obtain ⟨_, ka, kc, hvk, _⟩ := (unhide OK).cls
      subst hvk
      clear ok hcs hcon
      have hcon := hide (implWrap_any (.slice ka cs.length kc) cs cols w6 (unhide OK).cls (by omega) (fun j _ => by have := (unhide HKR) j; omega))
      go_wp2_with fail
      refine (unhide hcon).mono ?_
      rintro e w7 ⟨vr, rv, rs, rfl, orw, F7⟩
      have E7 := E6.trans F7
      have OR := hide orw
      obtain ⟨M, hM⟩ : ∃ M, M = (stF cs cols cs.length).1.length := ⟨_, rfl⟩
      have hMR : wrR cs cols = M := by rw [hM, wrR, if_neg (by omega)]
      rw [hMR] at OR
      have hM1 : 1 ≤ M := by rw [hM]; exact (stF_ok cs cols cs.length).one
      have hM2 : M ≤ cs.length + 1 := by rw [hM]; exact (stF_ok cs cols cs.length).len
      have HST := hide (fun i (h : i < M) => wrS_step cs cols i (by rw [← hM]; exact h))
      have HRW := hide (fun i (h : i < M) => wr_rows cs cols hcb.1 (unhide HKW) i (by rw [← hM]; exact h))
      have HTT := hide (fun i (h : i < M) => wr_text cs cols i (by rw [← hM]; exact h))
      have HEND : Hid ((at0 (wrS cs cols) M).toNat = cs.length) := by refine hide ?_; rw [hM]; exact wr_end cs cols
      have HFST : Hid ((at0 (wrS cs cols) 0).toNat = 0) := hide (wr_first cs cols)
      obtain ⟨st, hst⟩ : ∃ st : Nat → Nat, ∀ i, st i = (at0 (wrS cs cols) i).toNat := ⟨_, fun _ => rfl⟩
      have HWC := hide (fun i => (by rw [hst, hst]; rfl : wrC cs cols i = (cs.take (st (i + 1))).drop (st i)))
      have HS1 := hide (fun i (h : i < M) => (by have := (unhide HST) i h; rw [hst, hst]; omega : st i ≤ st (i + 1) ∧ st (i + 1) ≤ cs.length))
      have HS2 := hide (fun i (h : i < M) => (by have := (unhide HRW) i h; rw [← hst, ← hst, ← hst] at this; exact this : pw cs (st (i + 1)) - pw cs (st i) ≤ cols ∧ (0 < i → st i < st (i + 1) ∧ cols < pw cs (st i) - pw cs (st (i - 1)) + cW cs (st i))))
      have HS3 := hide (fun i (h : i < M) => (by have := (unhide HTT) i h; rw [← hst, ← hst] at this; exact this : textC (cs.take (st (i + 1))) = textC (cs.take (st i)) ++ textC (wrC cs cols i)))
      have HS4 : Hid (st M = cs.length) := by refine hide ?_; rw [hst]; exact unhide HEND
      have HS5 : Hid (st 0 = 0) := by refine hide ?_; rw [hst]; exact unhide HFST
      have HPB := hide (pw_bd cs (unhide HKW))
      have HPM := hide (fun s e h => pw_mono cs (unhide HKW) s e h)
      clear orw hM hMR hst hcon HST HRW HTT HEND HFST
      obtain ⟨g, gc, hvr⟩ : ∃ g c, vr = .slice (some ⟨g, 0, none⟩) M c := by
        rcases (unhide OR).1.form with ⟨_, e0⟩ | e0
        · omega
        · exact e0
      subst hvr
      have h00 : Hid (.string { data := #[] } = Value.string (toBA (textC (cs.take (st 0))))) := by
        refine hide ?_
        rw [unhide HS5]
        rfl
      go_wp2
      go_loopw [12, 13, 14] (fun a l i wr => ∃ q : Nat, q ≤ M ∧ i = .int .i64 q ∧ a = .string (toBA (textC (cs.take (st q)))) ∧ l = .int .i64 (if q = 0 then 0 else pw cs (st q) - pw cs (st (q - 1))) ∧ Ext w7 wr) (fun _ _ i _ => M - (intOf i).toNat)
      case atStart => exact ⟨0, Nat.zero_le _, rfl, unhide h00, rfl, Ext.refl _⟩
      case round =>
        obtain ⟨q, hq, rfl, rfl, rfl, hext⟩ := hrel
        obtain ⟨lw, hlw⟩ : ∃ lw : Int, lw = (if q = 0 then 0 else pw cs (st q) - pw cs (st (q - 1))) := ⟨_, rfl⟩
        rw [← hlw]
        have HLW := hide hlw
        clear hlw
        obtain ⟨tx, htx⟩ : ∃ tx, tx = textC (cs.take (st q)) := ⟨_, rfl⟩
        rw [← htx]
        have HTQ := hide htx
        obtain ⟨ta, hta⟩ : ∃ ta, ta = toBA tx := ⟨_, rfl⟩
        rw [← hta]
        have HTA := hide hta
        clear htx hta
        have OR2 := hide ((unhide OR).ext hext)
        by_cases hqM : q < M
        · have bq : (q : Int) < (M : Int) := by omega
          have cq := ((unhide OR2).1.cell hqM).1
          have hrow := ((unhide OR2).2.1 q hqM).cls
          have hs1 := (unhide HS1) q hqM
          have hs2 := (unhide HS2) q hqM
          have HW := hide ((unhide HWC) q)
          have hlen : (wrC cs cols q).length = st (q + 1) - st q := by rw [(unhide HWC) q]; simp; omega
          obtain ⟨rr, xa, xc, hrv, _, _, hrx⟩ := hrow
          rw [hlen] at hrv hrx
          rw [hrv] at cq
          have HRX := hide hrx
          have HROW := hide ((unhide OR2).2.1 q hqM).cls
          rw [hrv] at HROW
          clear hrx hrv hlen
          obtain ⟨s0, hs0⟩ : ∃ s, s = st q := ⟨_, rfl⟩
          obtain ⟨e0, he0⟩ : ∃ e, e = st (q + 1) := ⟨_, rfl⟩
          rw [← hs0, ← he0] at hs1 hs2
          rw [← he0, ← hs0] at cq HRX HROW HW
          have HS0 := hide hs0
          have HE0 := hide he0
          clear hs0 he0
          obtain ⟨L, hL⟩ : ∃ L, L = e0 - s0 := ⟨_, rfl⟩
          rw [← hL] at cq HRX HROW
          have hL1 : s0 + L ≤ e0 := by omega
          have hL2 : e0 ≤ s0 + L := by omega
          clear hL
          have hp1 := (unhide HPB) e0
          have hp2 := (unhide HPB) s0
          have hcost : ∀ j, j < L → ∃ b off, xa = some ⟨b, off, none⟩ ∧ wr.cell? ⟨b, off + j * 2 + 1, none⟩ = some (.int .i64 (cW cs (s0 + j))) := by
            intro j hj
            obtain ⟨b, off, e1, hc⟩ := (unhide HRX) (by omega)
            refine ⟨b, off, e1, ?_⟩
            rw [(hc j hj).2, (by rw [unhide HW]; exact (sub_R cs s0 e0 j (by omega)).2 : cW (wrC cs cols q) j = cW cs (s0 + j))]
          have HCO := hide hcost
          clear hcost HRX
          go_wp2
          go_loop [15, 16] (fun a j => ∃ r : Nat, r ≤ L ∧ j = .int .i64 r ∧ a = .int .i64 (pw cs (s0 + r) - pw cs s0)) (fun _ j => L - (intOf j).toNat)
          case atStart => exact ⟨0, Nat.zero_le _, rfl, by simp⟩
          case round =>
            obtain ⟨r, hr, rfl, rfl⟩ := hrel
            have hpr := (unhide HPB) (s0 + r)
            by_cases hrL : r < L
            · obtain ⟨b, off, hxa, hcw⟩ := (unhide HCO) r hrL
              subst hxa
              have brL : (r : Int) < (L : Int) := by omega
              have hps : pw cs (s0 + r + 1) = pw cs (s0 + r) + cW cs (s0 + r) := rfl
              have hkw := (unhide HKW) (s0 + r)
              obtain ⟨P, hP⟩ : ∃ P, P = pw cs (s0 + r) := ⟨_, rfl⟩
              obtain ⟨Q, hQ⟩ : ∃ Q, Q = pw cs s0 := ⟨_, rfl⟩
              obtain ⟨d, hd⟩ : ∃ d, d = cW cs (s0 + r) := ⟨_, rfl⟩
              rw [← hP] at hps hpr
              rw [← hd] at hps hcw hkw
              rw [← hQ] at hp2
              rw [← hP, ← hQ]
              have hfin : Hid (P - Q + d = pw cs (s0 + (r + 1)) - Q) := by
                refine hide ?_
                rw [← Nat.add_assoc, hps]
                omega
              have hw : IntKind.i64.wrap (P - Q + d) = P - Q + d := by rw [IntKind.wrap_i64]; omega
              clear hP hQ hd hps
              go_wp2
              go_round
              case rel => exact ⟨r + 1, by omega, by go_num, by rw [hfin.out]⟩
              case measure => simp [intOf]; omega
            · obtain rfl : r = L := by omega
              have hse : s0 + r = e0 := by omega
              rw [hse]
              obtain ⟨wd, hwd⟩ : ∃ wd, wd = pw cs e0 - pw cs s0 := ⟨_, rfl⟩
              rw [← hwd]
              have h1 : ¬ cols < wd := by omega
              have HWD := hide hwd
              have hs2b := hs2.2
              clear hwd hse hs2
              have HTXT := hide (implTextOf_any (.slice xa r xc) (wrC cs cols q) wr (by simpa using unhide HROW) (by
                have h2 := sumR_sub cs s0 e0 (e0 - s0) (by omega)
                have h3 := sumR_mono cs (s0 + (e0 - s0)) cs.length (by omega)
                have h4 : (wrC cs cols q).length = e0 - s0 := by rw [unhide HW]; simp; omega
                rw [h4, unhide HW]
                omega) (fun j hj => by
                have h4 : (wrC cs cols q).length = e0 - s0 := by rw [unhide HW]; simp; omega
                rw [h4] at hj
                rw [unhide HW, (sub_R cs s0 e0 j (by omega)).1]
                exact (unhide HKI) _))
              obtain ⟨tb, htb⟩ : ∃ tb, tb = toBA (textC (wrC cs cols q)) := ⟨_, rfl⟩
              rw [← htb] at HTXT
              have HTB := hide htb
              clear htb
              have hsz : ¬ 9223372036854775807 < ta.size + tb.size := by
                rw [unhide HTA, unhide HTB, toBA_size, toBA_size, ← List.length_append, unhide HTQ, ← (unhide HS3) q hqM]
                have h5 := textC_take_le cs (st (q + 1))
                rw [unhide HTX] at h5
                omega
              by_cases hq0 : q = 0
              · subst hq0
                go_wp2_with fail
                refine (unhide HTXT).mono ?_
                rintro e w8 ⟨rfl, F8⟩
                go_wp2
                go_roundw
                case rel => exact ⟨0 + 1, by omega, by go_num, by rw [(unhide HS3) 0 hqM, ← unhide HTQ, ← toBA_app2, ← unhide HTA, ← unhide HTB], by rw [if_neg (by omega), Nat.add_sub_cancel, ← unhide HE0, ← unhide HS0, ← unhide HWD], hext.trans F8⟩
                case measure => simp [intOf]; omega
              · have bq0 : (0 : Int) < (q : Int) := by omega
                have hlw : lw = pw cs (st q) - pw cs (st (q - 1)) := by rw [unhide HLW, if_neg hq0]
                rw [← unhide HS0] at hlw
                have hrp : 0 < r := by have := (hs2b (by omega)).1; omega
                have brp : ¬ ((r : Int) = 0) := by omega
                have brp2 : (0 : Int) < (r : Int) := by omega
                obtain ⟨b, off, hxa, hcw⟩ := (unhide HCO) 0 (by omega)
                subst hxa
                have hcw0 : wr.cell? ⟨b, off + 1, none⟩ = some (.int .i64 (cW cs s0)) := by simpa using hcw
                have hov := (hs2b (by omega)).2
                have hkw := (unhide HKW) s0
                have hlb := (unhide HPB) (st (q - 1))
                have hww : IntKind.i64.wrap (lw + cW cs s0) = lw + cW cs s0 := by rw [IntKind.wrap_i64]; omega
                have hnle : ¬ (lw + cW cs s0 ≤ cols) := by omega
                clear hcw hlw hov hs2b hlb
                go_wp2_with fail
                refine (unhide HTXT).mono ?_
                rintro e w8 ⟨rfl, F8⟩
                go_wp2
                go_roundw
                case rel => exact ⟨q + 1, by omega, by go_num, by rw [(unhide HS3) q hqM, ← unhide HTQ, ← toBA_app2, ← unhide HTA, ← unhide HTB], by rw [if_neg (by omega), Nat.add_sub_cancel, ← unhide HE0, ← unhide HS0, ← unhide HWD], hext.trans F8⟩
                case measure => simp [intOf]; omega
        · obtain rfl : q = M := by omega
          have e1 : ta = toBA (settleL zs) := by rw [unhide HTA, unhide HTQ, unhide HS4, List.take_length, unhide HTX]
          subst e1
          have bq : (0 : Int) < (q : Int) := by omega
          have Y9 := ((F5.trans F6).trans F7).trans hext
          have hcon := hide (specClean_any zs hzb raw wr (ints_of_owns (Y9.owns (unhide O4))) (by omega))
          go_wp2_with fail
          refine (unhide hcon).mono ?_
          rintro e w10 ⟨v10, rfl, o10, F10⟩
          rw [← unhide HCL] at o10
          have hcon2 := hide (specClusters_any v10 cl w10 (ints_of_owns o10) (by rw [unhide HCL]; exact cleanL_i32 zs) (by rw [← unhide HN]; omega))
          clear o10
          go_wp2_with fail
          refine (unhide hcon2).mono ?_
          rintro e w11 ⟨v11, r11, rfl, o11, F11⟩
          rw [← unhide HCS] at o11
          obtain ⟨_, a11, c11, hv11, _⟩ := o11.cls
          subst hv11
          clear o11
          go_wp2
          go_ret
          exact ⟨rfl, ((((E7.trans hext).trans F10).trans F11)).below⟩
theorem fnWrapped_great (ao : Option Addr) (n cap : Nat) (w : World) (hl : ¬ n ≤ 1048576) :
    Calls Tryd.prog 3 #[.slice ao n cap] w fun e w' => e = .returned (.bool true) ∧ Below w.heap.size w w' := by
  have h : (1048576 : Int) < (n : Int) := by omega
  go_enter Tryd.func3, Tryd.ntmps3
  go_wp2
  go_ret
  exact ⟨rfl, Below.refl _ _⟩
set_option maxRecDepth 100000 in
theorem fnWrapped_lifted (os : Os) (started : os.Started) (H : Type) (enc : TypeId × Value → H) :
    ReturnsInHanded {} Tryd.checked os 3 .any (fun w args => (Rows.fnWrappedSpec.pre enc Tryd.prog Tryd.f3 [] false w args ∧ laidMetH Tryd.prog laid1 w) ∧ sizedMet enc Tryd.prog Tryd.f3 (OpenSpec.ofChange Rows.fnWrappedSpec) false w args)
      (Rows.fnWrappedSpec.post enc Tryd.prog Tryd.f3 false true false false) := by
  refine returnsInHanded_of_change_and (C := Tryd.checked) (X := fun w _ => laidMetH Tryd.prog laid1 w) (fun _ _ _ hh h => h.of_heap hh) own started (by kernel_rfl) Tryd.func3
    (ChangeSpec.witness_shaped (enc := enc) (C := Tryd.checked) (os := os) (X := fun w _ => laidMetH Tryd.prog laid1 w) false (World.doorLaid Tryd.prog 400 os) #[.slice none 0 0] 8 rfl (World.shaped_of_RefB (by kernel_rfl) (by kernel_rfl)) (by kernel_rfl) (by kernel_rfl) (by kernel_rfl) (door_met os _)) ?_
  intro W base args ds gs before hval0 hW _ _ hL _
  have hval : ∀ (j : Nat) t v, Tryd.f3.params[j]? = some t → args[j]? = some v → Value.okWide Tryd.prog W .any base t v := hval0
  have hW' := hW
  obtain ⟨p, q, hA0, hV0, rfl, hfz, hnd⟩ := hW
  have hA : DataW.TrodAll enc Tryd.prog W 0 (fun _ => true) true Tryd.f3.params.toList args.toList ds p := hA0
  have hV : DataW.TrodVars enc Tryd.prog W (fun _ => true) [tabName] gs q := hV0
  rw [Tryd.params3] at hA hval
  obtain ⟨v0, d0, rfl, rfl, h0⟩ := trodAll_one hA
  obtain ⟨g, t, cs, fuel, d, p', rfl, _, _, _, _, _⟩ := trodVars_one hV
  obtain ⟨zs, hz, hwf, ao, cap, rfl⟩ := ints_came Tryd.underlying22 Tryd.underlying5 (by kernel_rfl) (hval 0 22 v0 rfl rfl) h0
  clear hA0 hval0
  have hwalk : Calls Tryd.prog 3 #[.slice ao zs.length cap] W fun e w' => e = .returned (.bool true) ∧ Below W.heap.size W w' := by
    by_cases hl : zs.length ≤ 1048576
    · exact fnWrapped_small _ zs W hz (fun n hn => bounds_u8 (hwf n hn)) hl (of_laid hL)
    · exact fnWrapped_great ao _ cap W hl
  refine hwalk.mono fun e W' ⟨he, hb⟩ => ?_
  subst he
  exact ⟨_, rfl, post_law laidOut (by kernel_rfl) (by kernel_rfl) (bt := 4) (by kernel_rfl) Tryd.underlying4 hW' rfl hb⟩
theorem fnWrapped_holds : Rows.FnWrappedSaid :=
  OpenClaim.holds_of_wide 3 Tryd.f3 rfl rfl rfl rfl rfl rfl rfl ⟨rfl, rfl, rfl, rfl, rfl⟩ rfl rfl rfl rfl rfl (by kernel_rfl) Tryd.func3 (by kernel_rfl)
    (of_decide_eq_true (by kernel_rfl)) (by unfold Func.isWrapper; first | (rw [if_pos (by decide +kernel)]; kernel_rfl) | (rw [if_neg (by decide +kernel)]; exact ⟨rfl, rfl⟩))
    (fun os started H enc _ => fnWrapped_lifted os started H enc)
theorem fnWrapped_card_holds : Rows.FnWrappedCardSaid :=
  Claim7.holds_tied_plain_at .later [] [.data] true Rows.fnWrappedCard.stood.harness false
    fnWrapped_holds (fun _ h => by cases h) (by kernel_rfl) (fun _ h => by cases h) fnWrapped_row_tie rfl ⟨rfl, rfl⟩ (by kernel_rfl) rfl
    (fun f fn hf hfn => by
      obtain rfl : f = 3 := Option.some.inj ((show Tryd.prog.funcNamed Rows.fnWrappedRow.func = some 3 by kernel_rfl).symm.trans hf) |>.symm
      obtain rfl : fn = Tryd.f3 := (Option.some.inj (Tryd.func3.symm.trans hfn)).symm
      exact ⟨by kernel_rfl, fun j t ht => by
        rw [Tryd.params3] at ht
        have hm : t ∈ [22] := by simpa using Array.mem_of_getElem? ht
        have hall : ([22].all fun u => !Tryd.prog.wantsStandIn u) = true := by kernel_rfl
        exact (show Tryd.prog.wantsStandIn t = false by simpa using List.all_eq_true.1 hall t hm)⟩)
    (by kernel_rfl)
#print axioms fnWrapped_card_holds
end Go.Proofs.YtmomcccgjjjldaaDoor
