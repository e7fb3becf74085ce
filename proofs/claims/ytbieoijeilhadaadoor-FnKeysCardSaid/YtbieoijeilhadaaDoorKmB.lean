import Derived.Test.YtbieoijeilhadaaDoorKmE
import Derived.Test.YtbieoijeilhadaaDoorKmR
import Derived.Test.YtbieoijeilhadaaDoorKmD
namespace Go.Proofs.YtbieoijeilhadaaDoor
open Go.RowKit Go.Maps
structure Kc where
  D : Nat
  base : Nat
  b1 : Nat
  b2 : Nat
  b3 : Nat
  q : Nat
  r : Nat
  s : Nat
  t : Nat
  y : Nat
  z : Nat
  keep : Nat → Prop
structure Kc.Ok (c : Kc) : Prop where
  d : c.D < c.base
  m1 : c.b1 < c.D
  m2 : c.b2 < c.D
  m3 : c.b3 < c.D
  q : c.D < c.q
  r : c.q + 3 < c.r
  s : c.r + 3 < c.s
  t : c.s + 2 < c.t
  y : c.t + 2 < c.y
  z : c.y + 3 < c.z
  top : c.z < c.base
  g1 : 0 < c.D
  g2 : 1 < c.D
def Kc.ground (c : Kc) : Value := groundF c.q (c.q + 1) (c.q + 2) (c.q + 3)
structure KW (w : World) (c : Kc) (h : List Int) (p : Bool) (ks : List (List Int × Int)) : Prop where
  ok : c.Ok
  dk : DkAt w c.D c.base c.keep h p ks (.map (some c.b1)) (.map (some c.b2)) (.map (some c.b3))
  maps : MapsAt w c.b1 c.b2 c.b3
  sts : StsAt w c.D c.q c.r c.s c.t c.y c.z
  tabs : Tabs2 w
theorem Tabs2.fr {S : Nat → Prop} {w w' : World} (h : Tabs2 w) (hf : Fr S w w') (h1 : ¬ S 0) (h2 : ¬ S 1) : Tabs2 w' := by
  have k : ∀ (g o : Nat) (v : Value), ¬ S g → w.cell? ⟨g, o, none⟩ = some v → w'.cell? ⟨g, o, none⟩ = some v := fun g o v hg hc => by
    have hl := lt_of_cell hc
    have hb := hf.block g hl hg
    have e : ∀ W : World, W.cell? ⟨g, o, none⟩ = (W.heap[g]?).bind (fun ob => match ob with | .cells cs _ _ => cs[o]? | _ => none) := fun W => by
      simp only [World.cell?]
      cases W.heap[g]? with
      | none => rfl
      | some ob => cases ob <;> rfl
    rw [e, hb, ← e]
    exact hc
  exact ⟨fun c hc => k _ _ _ h1 (h.1 c hc), fun i hi => ⟨k _ _ _ h2 (h.2 i hi).1, k _ _ _ h2 (h.2 i hi).2⟩⟩
theorem EscAt.fr {S : Nat → Prop} {w w' : World} {q y z D : Nat} {g p : Value} (h : EscAt w q y z D g p) (hf : Fr S w w') (hq : ∀ k, q ≤ k → k ≤ q + 2 → ¬ S k) (hz : ¬ S z) (hy : ∀ k, y ≤ k → k ≤ y + 3 → ¬ S k) : EscAt w' q y z D g p :=
  ⟨h.1.fr hf (hq _ (by omega) (by omega)), h.2.1.fr hf (hq _ (by omega) (by omega)), h.2.2.1.fr hf (hq _ (by omega) (by omega)), h.2.2.2.1.fr hf hz, h.2.2.2.2.fr hf hy⟩
theorem KW.go {w w' : World} {c : Kc} {h h' : List Int} {p p' : Bool} {ks ks' : List (List Int × Int)} (k : KW w c h p ks) (hf : FrD c.D c.base c.keep w w') (hd : DkAt w' c.D c.base c.keep h' p' ks' (.map (some c.b1)) (.map (some c.b2)) (.map (some c.b3))) : KW w' c h' p' ks' := by
  obtain ⟨o, _, m, s, t⟩ := k
  have a := o.d; have a1 := o.m1; have a2 := o.m2; have a3 := o.m3; have a4 := o.q; have a5 := o.r; have a6 := o.s; have a7 := o.t; have a8 := o.y; have a9 := o.z; have a10 := o.top; have g1 := o.g1; have g2 := o.g2
  obtain ⟨s1, s2, s3, s4, ⟨r1, r2, r3, r4⟩, ⟨p1, p2, p3⟩, e⟩ := s
  exact ⟨o, hd, ⟨hf.kept m.1 (by omega), hf.kept m.2.1 (by omega), hf.kept m.2.2 (by omega)⟩,
    ⟨s1.fr hf (by omega), s2.fr hf (by omega), s3.fr hf (by omega), s4.fr hf (by omega), ⟨r1.fr hf (by omega), r2.fr hf (by omega), r3.fr hf (by omega), r4.fr hf (by omega)⟩, ⟨p1.fr hf (by omega), p2.fr hf (by omega), p3.fr hf (by omega)⟩, e.fr hf (fun k _ _ => by omega) (by omega) (fun k _ _ => by omega)⟩,
    t.fr hf (by omega) (by omega)⟩
def Kc.mode (c : Kc) (h : List Int) (p : Bool) : Value :=
  if p = true then pastedF c.s else if h = [] then c.ground else if at0 h 0 = 27 then (if h.length = 1 then escapedF c.t c.z else if at0 h 1 = 91 then betweenF c.y else singleF c.t) else begunF c.r
end Go.Proofs.YtbieoijeilhadaaDoor

namespace Go.Proofs.YtbieoijeilhadaaDoor
open Go.RowKit Go.Maps
def Stp (c : Kc) (h : List Int) (p : Bool) (ks : List (List Int × Int)) (w : World) (v : Value) (e : Ending) (w' : World) : Prop :=
  e = .returned v ∧ KW w' c h p ks ∧ FrD c.D c.base c.keep w w'
set_option maxRecDepth 10000 in
set_option maxHeartbeats 4000000 in
theorem ground_27 (c : Kc) (ks : List (List Int × Int)) (w : World) (k : KW w c [] false ks) :
    Calls Tryd.prog 72 #[.int .u8 27, ptr c.q, ptr (c.q + 3), ptr (c.q + 2), ptr (c.q + 1)] w fun e w' => Stp c [27] false ks w (escapedF c.t c.z) e w' := by
  have d0 := k.sts.1.cell
  have HH := hide (hold_dk c.D c.base c.keep [] false ks _ _ _ 27 w k.dk (by simp))
  have HK := hide k
  clear k
  go_enter Tryd.func72, Tryd.ntmps72
  go_wp2_with fail
  refine (unhide HH).mono ?_
  rintro e w1 ⟨rfl, hd, hf⟩
  have k1 := (unhide HK).go hf hd
  have e1 := k1.sts.2.2.2.1.cell
  have HK1 := hide k1
  have HF := hide hf
  clear hd hf k1 HH
  go_wp2
  exact bodyPost_ret (v := escapedF c.t c.z) (by simp [results, Tryd.results72, go_sem]) rfl ⟨rfl, unhide HK1, unhide HF⟩
set_option maxRecDepth 10000 in
set_option maxHeartbeats 4000000 in
theorem ground_9 (c : Kc) (ks : List (List Int × Int)) (w : World) (k : KW w c [] false ks) (hl : ks.length ≤ 4194304) :
    Calls Tryd.prog 72 #[.int .u8 9, ptr c.q, ptr (c.q + 3), ptr (c.q + 2), ptr (c.q + 1)] w fun e w' => Stp c [] false (ks ++ [([32], 1)]) w c.ground e w' := by
  have d0 := k.sts.1.cell
  have HH := hide (pressRune_dk c.D c.base c.keep [] false ks _ _ _ 32 w k.dk hl)
  have HK := hide k
  clear k
  go_enter Tryd.func72, Tryd.ntmps72
  go_wp2_with fail
  refine (unhide HH).mono ?_
  rintro e w1 ⟨rfl, hd, hf⟩
  have k1 := (unhide HK).go hf hd
  have e1 := k1.sts.2.1.cell
  have HK1 := hide k1
  have HF := hide hf
  clear hd hf k1 HH
  go_wp2
  exact bodyPost_ret (v := c.ground) (by simp [results, Tryd.results72, go_sem, Kc.ground]) rfl ⟨rfl, unhide HK1, unhide HF⟩
theorem KW.drew {w : World} {c : Kc} {h : List Int} {p : Bool} {ks : List (List Int × Int)} (k : KW w c h p ks) : KW w.drew c h p ks := ⟨k.ok, k.dk, k.maps, k.sts, k.tabs⟩
set_option linter.unusedSimpArgs false in
set_option maxRecDepth 10000 in
set_option maxHeartbeats 4000000 in
theorem ground_ctl (c : Kc) (b : Int) (ks : List (List Int × Int)) (w : World) (k : KW w c [] false ks) (hl : ks.length ≤ 4194304) (h27 : b ≠ 27) (h9 : b ≠ 9) (hb : b < 32 ∨ b = 127) :
    Calls Tryd.prog 72 #[.int .u8 b, ptr c.q, ptr (c.q + 3), ptr (c.q + 2), ptr (c.q + 1)] w fun e w' => Stp c [] false (ks ++ [([], kindOf loneL b)]) w c.ground e w' := by
  have d0 := k.sts.1.cell
  obtain ⟨hv, kv, rs, hB, _⟩ := id k.dk
  have d3 := cells_of hB 3 _ rfl
  clear hB
  have HK := hide k
  have q27 : (b == 27) = false := by simp [h27]
  have q9 : (b == 9) = false := by simp [h9]
  clear k
  by_cases h32 : b < 32
  · go_enter Tryd.func72, Tryd.ntmps72
    go_upto_region 8 with fail
    refine wp_region_held_drew (S := fun W => W.cell? ⟨c.q, 0, none⟩ = some (ptr c.D) ∧ W.cell? ⟨c.D, 3, none⟩ = some (.map (some c.b1))) (by kernel_rfl) ⟨d0, d3⟩ (fun hHeld => ?_)
    refine wpAnyH_take (i := 0) (v := ?_) rfl (by kernel_rfl) (by kernel_rfl) (by kernel_rfl) (fun _ _ _ h => h) (Or.inl ⟨by rfl, ?_⟩) (by assumption) ?_
    rotate_left
    · intro w' hSw; obtain ⟨e1, e2⟩ := hSw; go_simp <;> with_reducible rfl
    simp only [Act.put, qA, qB, qC, qD, qE, qF]
    refine wpAnyH_take (i := 1) (v := ?_) rfl (by kernel_rfl) (by kernel_rfl) (by kernel_rfl) (fun _ _ _ h => h) (Or.inl ⟨by rfl, ?_⟩) (by assumption) ?_
    rotate_left
    · intro w' hSw; obtain ⟨e1, e2⟩ := hSw; go_simp <;> with_reducible rfl
    simp only [Act.put, qA, qB, qC, qD, qE, qF]
    refine wpAnyH_take (i := 2) (v := ?_) rfl (by kernel_rfl) (by kernel_rfl) (by kernel_rfl) (fun _ _ _ h => h) (Or.inl ⟨by rfl, ?_⟩) (by assumption) ?_
    rotate_left
    · intro w' hSw; obtain ⟨e1, e2⟩ := hSw; go_simp <;> with_reducible rfl
    simp only [Act.put, qA, qB, qC, qD, qE, qF]
    refine wpAnyH_take (i := 3) (v := ?_) rfl (by kernel_rfl) (by kernel_rfl) (by kernel_rfl) (fun _ _ _ h => h) (Or.inl ⟨by rfl, ?_⟩) (by assumption) ?_
    rotate_left
    · intro w' hSw; obtain ⟨e1, e2⟩ := hSw; go_simp <;> with_reducible rfl
    simp only [Act.put, qA, qB, qC, qD, qE, qF]
    refine wpAnyH_take (i := 4) (v := ?_) rfl (by kernel_rfl) (by kernel_rfl) (by kernel_rfl) (fun _ _ _ h => h) (Or.inl ⟨by rfl, ?_⟩) (by assumption) ?_
    rotate_left
    · intro w' hSw; obtain ⟨e1, e2⟩ := hSw; go_simp <;> with_reducible rfl
    simp only [Act.put, qA, qB, qC, qD, qE, qF]
    refine wpAnyH_take (i := 5) (v := ?_) rfl (by kernel_rfl) (by kernel_rfl) (by kernel_rfl) (fun _ _ _ h => h) (Or.inl ⟨by rfl, ?_⟩) (by assumption) ?_
    rotate_left
    · intro w' hSw; obtain ⟨e1, e2⟩ := hSw; go_simp <;> with_reducible rfl
    simp only [Act.put, qA, qB, qC, qD, qE, qF]
    have GV := (Ext.refl w).drew
    have KD := hide ((unhide HK).drew)
    clear HK GV
    refine wpAnyH_ready (rs := [6]) (by kernel_rfl) (by simp) ?_
    refine AllReadyH.cons rfl (fun K hK => ?_) AllReadyH.nil
    go_simp
    refine (kindByte_any c.b1 loneL _ w.drew (unhide KD).maps.1).mono ?_
    rintro e w0 ⟨rfl, rfl⟩
    refine hK.out _ _ ⟨d0, d3⟩ (fun hHeld => ?_)
    clear hK K
    refine wpAnyH_ready (rs := [7]) (by kernel_rfl) (by simp) ?_
    refine AllReadyH.cons rfl (fun K hK => ?_) AllReadyH.nil
    go_simp
    refine (press_dk c.D c.base c.keep [] false ks _ _ _ (kindOf loneL _) w.drew (unhide KD).dk hl).mono ?_
    rintro e w1 ⟨rfl, hd, hf⟩
    have k1 := (unhide KD).go hf hd
    have e1 := k1.sts.2.1.cell
    obtain ⟨_, _, _, hB1, _⟩ := id k1.dk
    have HK1 := hide k1
    have HF : Hid (FrD c.D c.base c.keep w w1) := hide (Fr.tr (Fr.of_ext ((Ext.refl w).drew)) hf)
    refine hK.out _ _ ⟨k1.sts.1.cell, cells_of hB1 3 _ rfl⟩ (fun hHeld => ?_)
    clear hK K hd hf k1 hB1
    refine wpAnyH_done (by kernel_rfl) ?_ _
    go_wp2
    exact bodyPost_ret (v := c.ground) (by simp [results, Tryd.results72, go_sem, Kc.ground]) rfl ⟨rfl, unhide HK1, unhide HF⟩
  · have h127 : b = 127 := by omega
    subst h127
    go_enter Tryd.func72, Tryd.ntmps72
    go_upto_region 8 with fail
    refine wp_region_held_drew (S := fun W => W.cell? ⟨c.q, 0, none⟩ = some (ptr c.D) ∧ W.cell? ⟨c.D, 3, none⟩ = some (.map (some c.b1))) (by kernel_rfl) ⟨d0, d3⟩ (fun hHeld => ?_)
    refine wpAnyH_take (i := 0) (v := ?_) rfl (by kernel_rfl) (by kernel_rfl) (by kernel_rfl) (fun _ _ _ h => h) (Or.inl ⟨by rfl, ?_⟩) (by assumption) ?_
    rotate_left
    · intro w' hSw; obtain ⟨e1, e2⟩ := hSw; go_simp <;> with_reducible rfl
    simp only [Act.put, qA, qB, qC, qD, qE, qF]
    refine wpAnyH_take (i := 1) (v := ?_) rfl (by kernel_rfl) (by kernel_rfl) (by kernel_rfl) (fun _ _ _ h => h) (Or.inl ⟨by rfl, ?_⟩) (by assumption) ?_
    rotate_left
    · intro w' hSw; obtain ⟨e1, e2⟩ := hSw; go_simp <;> with_reducible rfl
    simp only [Act.put, qA, qB, qC, qD, qE, qF]
    refine wpAnyH_take (i := 2) (v := ?_) rfl (by kernel_rfl) (by kernel_rfl) (by kernel_rfl) (fun _ _ _ h => h) (Or.inl ⟨by rfl, ?_⟩) (by assumption) ?_
    rotate_left
    · intro w' hSw; obtain ⟨e1, e2⟩ := hSw; go_simp <;> with_reducible rfl
    simp only [Act.put, qA, qB, qC, qD, qE, qF]
    refine wpAnyH_take (i := 3) (v := ?_) rfl (by kernel_rfl) (by kernel_rfl) (by kernel_rfl) (fun _ _ _ h => h) (Or.inl ⟨by rfl, ?_⟩) (by assumption) ?_
    rotate_left
    · intro w' hSw; obtain ⟨e1, e2⟩ := hSw; go_simp <;> with_reducible rfl
    simp only [Act.put, qA, qB, qC, qD, qE, qF]
    refine wpAnyH_take (i := 4) (v := ?_) rfl (by kernel_rfl) (by kernel_rfl) (by kernel_rfl) (fun _ _ _ h => h) (Or.inl ⟨by rfl, ?_⟩) (by assumption) ?_
    rotate_left
    · intro w' hSw; obtain ⟨e1, e2⟩ := hSw; go_simp <;> with_reducible rfl
    simp only [Act.put, qA, qB, qC, qD, qE, qF]
    refine wpAnyH_take (i := 5) (v := ?_) rfl (by kernel_rfl) (by kernel_rfl) (by kernel_rfl) (fun _ _ _ h => h) (Or.inl ⟨by rfl, ?_⟩) (by assumption) ?_
    rotate_left
    · intro w' hSw; obtain ⟨e1, e2⟩ := hSw; go_simp <;> with_reducible rfl
    simp only [Act.put, qA, qB, qC, qD, qE, qF]
    have GV := (Ext.refl w).drew
    have KD := hide ((unhide HK).drew)
    clear HK GV
    refine wpAnyH_ready (rs := [6]) (by kernel_rfl) (by simp) ?_
    refine AllReadyH.cons rfl (fun K hK => ?_) AllReadyH.nil
    go_simp
    refine (kindByte_any c.b1 loneL _ w.drew (unhide KD).maps.1).mono ?_
    rintro e w0 ⟨rfl, rfl⟩
    refine hK.out _ _ ⟨d0, d3⟩ (fun hHeld => ?_)
    clear hK K
    refine wpAnyH_ready (rs := [7]) (by kernel_rfl) (by simp) ?_
    refine AllReadyH.cons rfl (fun K hK => ?_) AllReadyH.nil
    go_simp
    refine (press_dk c.D c.base c.keep [] false ks _ _ _ (kindOf loneL _) w.drew (unhide KD).dk hl).mono ?_
    rintro e w1 ⟨rfl, hd, hf⟩
    have k1 := (unhide KD).go hf hd
    have e1 := k1.sts.2.1.cell
    obtain ⟨_, _, _, hB1, _⟩ := id k1.dk
    have HK1 := hide k1
    have HF : Hid (FrD c.D c.base c.keep w w1) := hide (Fr.tr (Fr.of_ext ((Ext.refl w).drew)) hf)
    refine hK.out _ _ ⟨k1.sts.1.cell, cells_of hB1 3 _ rfl⟩ (fun hHeld => ?_)
    clear hK K hd hf k1 hB1
    refine wpAnyH_done (by kernel_rfl) ?_ _
    go_wp2
    exact bodyPost_ret (v := c.ground) (by simp [results, Tryd.results72, go_sem, Kc.ground]) rfl ⟨rfl, unhide HK1, unhide HF⟩
end Go.Proofs.YtbieoijeilhadaaDoor

namespace Go.Proofs.YtbieoijeilhadaaDoor
open Go.RowKit Go.Maps
set_option maxRecDepth 10000 in
set_option maxHeartbeats 4000000 in
theorem ground_else (c : Kc) (b : Int) (ks : List (List Int × Int)) (w : World) (k : KW w c [] false ks) (h32 : 32 ≤ b) (h127 : b ≠ 127) (h' : List Int) (p' : Bool) (ks' : List (List Int × Int)) (v : Value)
    (hb : Calls Tryd.prog 97 #[.int .u8 b, ptr c.r, ptr (c.r + 3), ptr (c.r + 2), ptr (c.r + 1)] w (Stp c h' p' ks' w v)) :
    Calls Tryd.prog 72 #[.int .u8 b, ptr c.q, ptr (c.q + 3), ptr (c.q + 2), ptr (c.q + 1)] w fun e w' => Stp c h' p' ks' w v e w' := by
  have d2 : w.cell? ⟨c.q + 2, 0, none⟩ = some (.func (.func 97) #[] #[ptr c.r, ptr (c.r + 3), ptr (c.r + 2), ptr (c.r + 1)]) := k.sts.2.2.1.cell
  have q27 : (b == 27) = false := by simp; omega
  have q9 : (b == 9) = false := by simp; omega
  have q32 : ¬ b < 32 := by omega
  have q32b : decide (b < 32) = false := by simp; omega
  have q127 : (b == 127) = false := by simp [h127]
  have HB := hide hb
  clear k hb
  go_enter Tryd.func72, Tryd.ntmps72
  go_wp2_with fail
  refine (unhide HB).mono ?_
  rintro e w1 ⟨rfl, hw⟩
  have HW := hide hw
  clear hw
  go_wp2
  exact bodyPost_ret (v := v) (by simp [results, Tryd.results72, go_sem]) rfl ⟨rfl, unhide HW⟩
theorem KW.ext {w w' : World} {c : Kc} {h : List Int} {p : Bool} {ks : List (List Int × Int)} (k : KW w c h p ks) (he : Ext w w') : KW w' c h p ks := by
  obtain ⟨hv, kv, rs, hB, hO, hK, hD, hz, hX⟩ := k.dk
  have hs := he.size
  exact k.go (Fr.of_ext he) ⟨hv, kv, rs, he.kept hB, he.owns hO, hK.ext he, hD, by omega, fun k hk => ⟨by have := (hX k hk).1; omega, (hX k hk).2⟩⟩
set_option maxRecDepth 10000 in
set_option maxHeartbeats 4000000 in
theorem begun_more (c : Kc) (b : Int) (h : List Int) (ks : List (List Int × Int)) (w : World) (k : KW w c h false ks) (hl : h.length ≤ 3) (hb : Bytes (h ++ [b])) (hn : fullB (h ++ [b]) = false) :
    Calls Tryd.prog 97 #[.int .u8 b, ptr c.r, ptr (c.r + 3), ptr (c.r + 2), ptr (c.r + 1)] w fun e w' => Stp c (h ++ [b]) false ks w (begunF c.r) e w' := by
  have d0 := k.sts.2.2.2.2.1.1.cell
  have HH := hide (hold_dk c.D c.base c.keep h false ks _ _ _ b w k.dk (by omega))
  have HK := hide k
  clear k
  go_enter Tryd.func97, Tryd.ntmps97
  go_wp2_with fail
  refine (unhide HH).mono ?_
  rintro e w1 ⟨rfl, hd, hf⟩
  have k1 := (unhide HK).go hf hd
  have e0 := k1.sts.2.2.2.2.1.1.cell
  obtain ⟨hv, kv, rs, hB, hO, _⟩ := id k1.dk
  have e1 := cells_of hB 0 _ rfl
  have HFu := hide (fullRune_any (h ++ [b]) hb hv w1 (ints_of_owns hO) (by simp) k1.tabs)
  rw [hn] at HFu
  have HK1 := hide k1
  have HF := hide hf
  clear hd hf k1 HH hB hO
  go_wp2_with fail
  refine (unhide HFu).mono ?_
  rintro e w2 ⟨rfl, E2⟩
  have k2 : KW w2 c (h ++ [b]) false ks := (unhide HK1).ext E2
  have e3 := k2.sts.2.2.2.2.1.2.2.2.cell
  have HK2 := hide k2
  have HF2 : Hid (FrD c.D c.base c.keep w w2) := hide (Fr.tr (unhide HF) (Fr.of_ext E2))
  clear k2 E2 HFu HF HK1
  go_wp2
  exact bodyPost_ret (v := begunF c.r) (by simp [results, Tryd.results97, go_sem]) rfl ⟨rfl, unhide HK2, unhide HF2⟩
end Go.Proofs.YtbieoijeilhadaaDoor
