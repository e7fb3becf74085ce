import Derived.Test.YtmomcccgjjjldaaDoorSpecRune
import Derived.Deep.RegionHeld3
namespace Go.Proofs.YtmomcccgjjjldaaDoor
open Go.RowKit
theorem infoByte : (Tryd.prog.info? 5).map (fun i => (i.zero, i.size, i.bytes)) = some (some (.int .u8 0), 1, 1) := by kernel_rfl
theorem str_eq {a b : ByteArray} (h : a.toList = b.toList) : a = b := by
  rw [ByteArray.toList_eq, ByteArray.toList_eq] at h
  exact WideShapes.bytes_inj h
theorem ints_cut {w : World} {bs : List Int} {b off cap : Nat} (i n : Nat) (hc : ∀ j, j < bs.length → w.cell? ⟨b, off + j, none⟩ = some (.int .u8 (at0 bs j))) (h : i + n ≤ bs.length) (hn : n ≤ cap) :
    IntsAt w .u8 (.slice (some ⟨b, off + i, none⟩) n cap) ((bs.drop i).take n) := by
  have hl : ((bs.drop i).take n).length = n := by simp; omega
  refine ⟨some ⟨b, off + i, none⟩, cap, by rw [hl], by omega, fun _ => ⟨b, off + i, rfl, fun j hj => ?_⟩⟩
  rw [hl] at hj
  have := hc (i + j) (by omega)
  rw [← Nat.add_assoc] at this
  rw [this]
  simp [at0, hj]
theorem run_cut {P : Program} (t e : TypeId) (I : TypeInfo) (b off len cap i n : Nat) (ht : P.underlying t = some (.slice (P.elem t))) (he : P.elem t = e) (hi : P.info? e = some I) (hz : I.size = 1) (h : i + n ≤ cap) (h0 : 0 < n) (w : World) :
    (Instr.slice t (.slice (some ⟨b, off, none⟩) len cap) (some (.int .i64 (i : Int))) (some (.int .i64 ((i : Int) + (n : Int)))) none).run P w = .ok (.slice (some ⟨b, off + i, none⟩) n (cap - i)) w := by
  rw [run_slice_lh (P := P) w t _ _ _ ht .i64 .i64 _ _ (by omega) (by omega) (by omega)]
  have e1 : ((i : Int) + (n : Int)).toNat - i = n := by omega
  have e2 : ¬ cap = i := by omega
  simp [sizeOf, typeInfo, he, hi, hz, sliced, e1, e2, Addr.add_lit]
set_option maxHeartbeats 400000 in
theorem l1Rune_any (bs : List Int) (hb : Bytes bs) (v : Value) (i : Nat) (w : World) (hv : IntsAt w .u8 v bs) (hi : i < bs.length) (hl : bs.length ≤ 4398046511104) :
    Calls Tryd.prog 25 #[v, .int .i64 i] w fun e w' => e = .returned (.tuple #[.int .i64 (decL (bs.drop i)).1, .int .i64 (decL (bs.drop i)).2]) ∧ Ext w w' := by
  have hv0 := hv
  obtain ⟨ao, cap, rfl, hcap, hr⟩ := hv
  obtain ⟨b, off, rfl, hc⟩ := hr (by omega)
  clear hr
  have g0 := hc i (by omega)
  have hbi : (i : Int) < (bs.length : Int) := by omega
  have q0 : at0 (bs.drop i) 0 = at0 bs i := by rw [at0_drop]; rfl
  have hlen : (bs.drop i).length = bs.length - i := by simp
  obtain ⟨n, hn⟩ : ∃ n, n = need (at0 bs i) := ⟨_, rfl⟩
  have h4 : n ≤ 4 := by rw [hn]; unfold need; (repeat' split) <;> omega
  by_cases hA : n = 0 ∨ bs.length < i + n
  · have HF : Hid (decL (bs.drop i) = (65533, 1)) := rune_short _ (hb.drop i) (by rw [q0, ← hn, hlen]; omega) (by omega)
    have HN : Hid (n = need (at0 bs i)) := hn
    clear hn hc q0 hlen
    go_enter Tryd.func25, Tryd.ntmps25
    go_wp2_with fail
    refine (l1Need_any _ _).mono ?_
    rw [← HN.out]
    rintro e w1 ⟨rfl, rfl⟩
    rcases hA with hA | hA
    · subst hA
      go_wp2
      go_ret2
      rw [HF.out]
      exact ⟨rfl, Ext.refl _⟩
    · by_cases h0 : n = 0
      · subst h0; omega
      have hz : ((n : Int) == 0) = false := by simp; omega
      have hy : (bs.length : Int) < (i : Int) + (n : Int) := by omega
      go_wp2
      go_ret2
      rw [HF.out]
      exact ⟨rfl, Ext.refl _⟩
  · obtain ⟨R1, R2, R3⟩ := rune_long (bs.drop i) (hb.drop i) n (by rw [q0]; exact hn) (by omega) (by rw [hlen]; omega)
    have HN : Hid (n = need (at0 bs i)) := hn
    have hz : ((n : Int) == 0) = false := by simp; omega
    have hy : (i : Int) + (n : Int) ≤ (bs.length : Int) := by omega
    clear hn q0 hlen
    obtain ⟨V, hV⟩ : ∃ V, V = valL (bs.drop i) n := ⟨_, rfl⟩
    have HV : Hid (V = valL (bs.drop i) n) := hV
    rw [← hV] at R1 R2 R3
    clear hV
    cases hval : Utf8.valid V
    · have HF : Hid (decL (bs.drop i) = (65533, 1)) := R1 hval
      clear R1 R2 R3 hc
      go_enter Tryd.func25, Tryd.ntmps25
      go_wp2_with fail
      refine (l1Need_any _ _).mono ?_
      rw [← HN.out]
      rintro e w1 ⟨rfl, rfl⟩
      go_wp2_with fail
      refine (l1Value_any bs hb _ i n _ hv0 (by omega) (by omega) h4 hl).mono ?_
      rw [← HV.out]
      rintro e w2 ⟨rfl, he⟩
      go_wp2_with fail
      go_quiet ((go_at_call 27; exact Calls.quiet_of_same (l1Valid_any _ _)))
      go_wp2
      go_ret2
      rw [HF.out]
      exact ⟨rfl, he.drewN _⟩
    · have hbd := valid_bd hval
      have hcut := fun {W : World} (he : Ext w W) => run_b2s (P := Tryd.prog) W _ _ _ Tryd.underlying22 Tryd.underlying5 Tryd.underlying9 _ _ (ints_cut (cap := cap - i) i n (fun j hj => he.cell (hc j hj)) (by omega) (by omega))
      have HCUT : Hid (∀ {W : World}, Ext w W → (convert 22 9 (.slice (some ⟨b, off + i, none⟩) n (cap - i))).run Tryd.prog W = .ok (.string (toBA ((bs.drop i).take n))) W) := hcut
      clear hcut R1 hc
      obtain ⟨S, hS⟩ : ∃ S, S = toBA ((bs.drop i).take n) := ⟨_, rfl⟩
      have HS : Hid (S = toBA ((bs.drop i).take n)) := hS
      rw [← hS] at HCUT
      clear hS
      go_enter Tryd.func25, Tryd.ntmps25
      go_wp2_with fail
      refine (l1Need_any _ _).mono ?_
      rw [← HN.out]
      rintro e w1 ⟨rfl, rfl⟩
      go_wp2_with fail
      refine (l1Value_any bs hb _ i n _ hv0 (by omega) (by omega) h4 hl).mono ?_
      rw [← HV.out]
      rintro e w2 ⟨rfl, he⟩
      obtain ⟨I0, hI, hI0, hI1, hI2⟩ := info_parts infoByte
      have hcv := run_cut (P := Tryd.prog) 22 5 I0 b off bs.length cap i n (by kernel_rfl) (by kernel_rfl) hI hI1 (by omega) (by omega)
      clear hI hI0 hI1 hI2
      have hwr : IntKind.i64.wrap ((i : Int) + (n : Int)) = (i : Int) + (n : Int) := by rw [IntKind.wrap_i64]; omega
      go_wp2_with fail
      go_region_held3 (fun W => Ext w1 W ∧ (convert 22 9 (.slice (some ⟨b, off + i, none⟩) n (cap - i))).run Tryd.prog W = .ok (.string S) W) (first | exact ⟨he.drew, HCUT.out he.drew⟩ | exact ⟨he.trans' he' rfl rfl rfl rfl, HCUT.out (he.trans' he' rfl rfl rfl rfl)⟩) (first | (go_at_call 27; refine (l1Valid_any _ _).mono ?_; rintro e w' ⟨rfl, rfl⟩) | (go_at_call 28; refine (l1Utf8_any _ _ hbd.1 hbd.2).mono ?_; rintro e w' ⟨rfl, he'⟩))
      have hsame : toBA (encL V) = S ↔ encL V = (bs.drop i).take n := by
        rw [HS.out]
        exact ⟨toBA_inj (encL_bytes V hbd.1 (by omega)) (fun x hx => hb x (List.mem_of_mem_drop (List.mem_of_mem_take hx))), fun h => by rw [h]⟩
      have HSAME : Hid (toBA (encL V) = S ↔ encL V = (bs.drop i).take n) := hsame
      clear hsame
      have HR2 : Hid (¬ encL V = (bs.drop i).take n → decL (bs.drop i) = (65533, 1)) := R2 hval
      have HR3 : Hid (encL V = (bs.drop i).take n → decL (bs.drop i) = (V, n)) := R3 hval
      clear R2 R3
      go_wp2
      · have hne : ¬ toBA (encL V) = S := by
          have h0 : (!(toBA (encL V)).toList == S.toList) = true := by assumption
          intro e; rw [e] at h0; simp at h0
        go_ret2
        rw [HR2.out (fun h => hne (HSAME.out.2 h))]
        rename_i hx _
        exact ⟨rfl, hx.1⟩
      · have heq : toBA (encL V) = S := by
          have h0 : (!(toBA (encL V)).toList == S.toList) = false := by assumption
          exact str_eq (by simpa using h0)
        go_ret2
        rw [HR3.out (HSAME.out.1 heq)]
        rename_i hx _
        exact ⟨rfl, hx.1⟩
end Go.Proofs.YtmomcccgjjjldaaDoor
