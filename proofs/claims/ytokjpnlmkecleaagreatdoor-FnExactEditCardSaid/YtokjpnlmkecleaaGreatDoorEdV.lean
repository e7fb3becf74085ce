import Derived.Deep.RegionHeld3
import Derived.Test.YtokjpnlmkecleaaGreatDoorGapC
import Derived.Test.YtokjpnlmkecleaaGreatDoorLnCp
import Derived.Test.YtokjpnlmkecleaaGreatDoorGapG
import Derived.Maps.Own
import Derived.Test.YtokjpnlmkecleaaGreatDoorWhole
import Derived.Deep.RegionLaw
import Derived.Deep.DeepCutAuto
namespace Go.Proofs.YtokjpnlmkecleaaGreatDoor
open Go.RowKit

/-- The places of a new editor. -/
def cl0 : List Value := (List.replicate 300 [Value.slice none 0 0, Value.int .i64 0]).flatten
theorem cl0_len : cl0.length = 600 := by kernel_rfl
theorem cl0_one : ∀ v ∈ cl0, v.oneCell' = true := by
  intro v hv
  unfold cl0 at hv
  obtain ⟨l, hl, hv⟩ := List.mem_flatten.1 hv
  rw [List.eq_of_mem_replicate hl] at hv
  simp at hv
  rcases hv with rfl | rfl <;> rfl
theorem edZero (k : ByteArray) : Tryz.zeroCells99.setIfInBounds 602 (.string k) = edC cl0 0 0 k (.slice none 0 0) := by kernel_rfl



set_option maxRecDepth 10000 in
set_option maxHeartbeats 8000000 in
theorem newEditor_any (L R : List Int) (hL : Bytes L) (hR : Bytes R) (zL : L.length ≤ 8000000) (zR : R.length ≤ 8000000) (hfit : (cutC L).length + (cutC R).length ≤ 300) (k : ByteArray) (v : Value) (n : Nat) (tx hf : Nat → ByteArray) (w : World) (hv : Row2At w v n (fun j => .string (tx j)) (fun j => .string (hf j))) (hn : n ≤ 50) (hT : ∀ w', Ext w w' → Laid w') :
    Calls Tryz.prog 27 #[.agg #[.string (toBA L), .string (toBA R), .string k, v]] w fun e w' => ∃ P cl rl rr u qs base, e = .returned (.pointer (some ⟨P, 0, none⟩)) ∧ w'.heap[P]? = some (.cells (edC cl ((cutC L).length : Int) ((300 - (cutC R).length : Nat) : Int) k u) 99 (0, 0)) ∧ (∀ W', Fr (fun q => q = P ∨ base ≤ q) w' W' → GapIn P W' cl rl rr (cutC L) (cutC R)) ∧ BackOwn w' base u qs (unL tx hf n) ∧ w.heap.size ≤ P ∧ w.heap.size ≤ base ∧ base ≤ w'.heap.size ∧ Ext w w' := by
  obtain ⟨ao, ca, rfl, hca, hxa⟩ := hv
  have HX := hide hxa
  have HT := hide hT
  clear hxa hT
  go_enter Tryz.func27, Tryz.ntmps27
  go_wp2
  rw [edZero]
  have zl := cl0_len
  have zo := cl0_one
  generalize cl0 = cz at zl zo ⊢
  obtain ⟨W0, hW0⟩ : ∃ U, U = (w.alloc (.cells #[.string (toBA L), .string (toBA R), .string k, .slice ao n ca] 25)).alloc (.cells (edC cz 0 0 k (.slice none 0 0)) 99) := ⟨_, rfl⟩
  rw [← hW0]
  obtain ⟨P, hPd⟩ : ∃ P, P = w.heap.size + 1 := ⟨_, rfl⟩
  have E0 : Ext w W0 := by rw [hW0]; exact ((Ext.refl w).alloc _).alloc _
  have p0 : W0.heap[P]? = some (.cells (edC cz 0 0 k (.slice none 0 0)) 99 (0, 0)) := by
    have h := heap_alloc_new (w.alloc (.cells #[.string (toBA L), .string (toBA R), .string k, .slice ao n ca] 25)) (.cells (edC cz 0 0 k (.slice none 0 0)) 99)
    rw [show (w.alloc (.cells #[.string (toBA L), .string (toBA R), .string k, .slice ao n ca] 25)).heap.size = P by rw [hPd]; simp, ← hW0] at h
    exact h
  have l0 : W0.heap[w.heap.size]? = some (.cells #[.string (toBA L), .string (toBA R), .string k, .slice ao n ca] 25 (0, 0)) := by rw [hW0]; exact ((Ext.refl _).alloc _).kept (heap_alloc_new w _)
  rw [← hPd]
  have c0 := cells_of l0 0 _ rfl
  have c1 := cells_of l0 1 _ rfl
  have HE0 := hide E0
  have ZO := hide zo
  clear zo
  have HL0 := hide l0
  have HLd := hide (fun W (E : Ext W0 W) => gapLoad_any P cz 0 0 k (.slice none 0 0) W (E.kept p0) zl (unhide ZO) L R hL hR zL zR hfit (fun W' f => (unhide HT) W' (f.ext (E0.trans E) (fun q hq => by omega))))
  clear E0 p0 l0 hW0
  have hPw : w.heap.size < P := by omega
  clear HT hL hR zL zR hfit ZO hPd
  go_region_held3 (fun W => W.cell? ⟨w.heap.size, 0, none⟩ = some (.string (toBA L)) ∧ W.cell? ⟨w.heap.size, 1, none⟩ = some (.string (toBA R))) (first | exact ⟨c0, c1⟩ | exact ⟨c0', c1'⟩) (first
    | (go_at_call 60
       refine ((unhide HLd) _ (Ext.refl W0).drew).mono ?_
       rintro e w1 ⟨cl1, rl1, rr1, rfl, p1, G1, F1⟩
       have F1' := (Fr.of_ext (Ext.refl W0).drew).tr F1
       have l1 := F1'.kept (unhide HL0) (by show ¬ w.heap.size = P; omega)
       have c0' := cells_of l1 0 _ rfl
       have c1' := cells_of l1 1 _ rfl
       have c3 : w1.cell? ⟨w.heap.size, 3, none⟩ = some (.slice ao n ca) := cells_of l1 3 _ rfl
       have HP1 := hide p1
       have HG1 := hide G1
       have HE1 := hide (F1'.ext (unhide HE0) (fun q hq => by omega))
       have hsz1 := (F1'.ext (unhide HE0) (fun q hq => by omega)).size
       clear p1 G1 F1 F1' l1))
  clear HLd HL0 HE0
  have hPl : P < w1.heap.size := (Array.getElem?_eq_some_iff.1 (unhide HP1)).1
  have hl1 := (unhide HG1).len
  go_wp2
  go_loopw [22] (fun i wr => ∃ (j : Nat) (u : Value) (qs : List Nat), j ≤ n ∧ i = .int .i64 j ∧ Hid (wr.heap[P]? = some (.cells (edC cl1 ((cutC L).length : Int) ((300 - (cutC R).length : Nat) : Int) k u) 99 (0, 0))) ∧ Hid (BackOwn wr w1.heap.size u qs (unL tx hf j)) ∧ Hid (Fr (fun q => q = P) w1 wr)) (fun i _ => n - (intOf i).toNat)
  case atStart => exact ⟨0, _, [], Nat.zero_le _, rfl, HP1, hide ⟨rfl, owns_nil _ _ _ _, fun j q s h _ => by simp at h⟩, hide (Fr.refl _ _)⟩
  case round =>
    obtain ⟨j, u, qs, hj, rfl, HPj, HBj, HFj⟩ := hrel
    have hE := (unhide HFj).ext (unhide HE1) (fun q hq => by omega)
    have hqs : qs.length = j := by have := (unhide HBj).1; rwa [unL_len] at this
    by_cases hlt : j < n
    · obtain ⟨b, off, hao, hc⟩ := (unhide HX) (by omega)
      subst hao
      have g1 := hE.cell (hc j hlt).1
      have g2 := hE.cell (hc j hlt).2
      have bj : (j : Int) < (n : Int) := by omega
      have HH := hide (fun W (E : Ext wr W) => push_any P cl1 ((cutC L).length : Int) ((300 - (cutC R).length : Nat) : Int) k u qs w1.heap.size (tx j) (hf j) W (E.kept (unhide HPj)) hl1 (E.owns (unhide HBj).2.1) (Nat.le_trans (unhide HFj).size E.size) (by omega))
      have HBE := hide (fun W (E : Ext wr W) => (show BackOwn W w1.heap.size u qs (unL tx hf j) from ⟨(unhide HBj).1, E.owns (unhide HBj).2.1, fun j q s h1 h2 => E.kept ((unhide HBj).2.2 j q s h1 h2)⟩))
      clear hc hE hqs
      go_wp2_with fail
      refine ((unhide HH) _ ((Ext.refl wr).alloc _)).mono ?_
      rintro e w2 ⟨u2, q2, rfl, p2, o2, b2, F2⟩
      have HB2 := hide (((unhide HBE) _ ((Ext.refl wr).alloc _)).push (((Ext.refl wr).alloc _).kept (unhide HPj)) F2 o2 b2)
      rw [← unL_succ] at HB2
      have HP2 := hide p2
      have HF2 := hide (Fr.off ((unhide HFj).tr (Fr.of_ext ((Ext.refl wr).alloc _))) F2 (fun x hx => by
        rcases hx with hx | hx
        · exact .inl hx
        · exact .inr ((unhide HBj).2.1.lt _ hx).1))
      clear p2 o2 b2 F2 HH HBE g1 g2
      go_wp2
      go_roundw
      case rel => exact ⟨j + 1, u2, qs ++ [q2], by omega, by go_num, HP2, HB2, HF2⟩
      case measure => simp [intOf]; omega
    · obtain rfl : j = n := by omega
      have hb9 : ¬ (j : Int) < (j : Int) := by omega
      go_wp2
      exact bodyPost_ret (v := .pointer (some ⟨P, 0, none⟩)) (by simp [results, Tryz.results27, go_sem]) rfl ⟨P, rfl, cl1, rl1, rr1, u, unhide HPj, qs, w1.heap.size, fun W' f => (unhide HG1).fr (Fr.off (unhide HFj) f (fun x hx => hx)), unhide HBj, Nat.le_of_lt hPw, hsz1, (unhide HFj).size, hE⟩
end Go.Proofs.YtokjpnlmkecleaaGreatDoor

namespace Go.Proofs.YtokjpnlmkecleaaGreatDoor
open Go.RowKit

/-- The clusters of a settled text. -/
theorem cut_len (L : List Int) : (cutC L).length ≤ (cleanL L).length := clF_len _ _
theorem cut_fit (L : List Int) (h : L.length ≤ 8000000) : (cutC L).length + sumR (cutC L) (cutC L).length ≤ 16777216 := clusC_fit _ (by have := cleanL_len L; omega)
theorem cut_i32 (L : List Int) : ∀ j, j < (cutC L).length → I32s (cR (cutC L) j) := fun j _ => clF_i32 _ _ j
end Go.Proofs.YtokjpnlmkecleaaGreatDoor

namespace Go.Proofs.YtokjpnlmkecleaaGreatDoor
open Go.RowKit

/-- Clusters that can be walked. -/
def CkC (A : List (List Int × Int)) : Prop := A.length + sumR A A.length ≤ 16777216 ∧ ∀ j, j < A.length → I32s (cR A j)
/-- An editor as it is made: what is written into its block or behind base leaves its clusters. -/
structure Ed0 (P base : Nat) (W : World) (k : ByteArray) (u : Value) (qs : List Nat) (un : List (ByteArray × ByteArray)) (A B : List (List Int × Int)) (cl rl rr : List Value) : Prop where
  blk : W.heap[P]? = some (.cells (edC cl (A.length : Int) ((300 - B.length : Nat) : Int) k u) 99 (0, 0))
  gap : ∀ W', Fr (fun q => q = P ∨ base ≤ q) W W' → GapIn P W' cl rl rr A B
  bk : BackOwn W base u qs un
  hb : base ≤ W.heap.size
  ca : CkC A
  cb : CkC B
  hn : un.length ≤ 50
/-- An editor at the end of a key. -/
def Ed1 (P : Nat) (W : World) (k : ByteArray) (un : List (ByteArray × ByteArray)) (A B : List (List Int × Int)) : Prop := ∃ cl rl rr u, W.heap[P]? = some (.cells (edC cl (A.length : Int) ((300 - B.length : Nat) : Int) k u) 99 (0, 0)) ∧ GapIn P W cl rl rr A B ∧ BackAt W u un
/-- What a key's method leaves. -/
def EdR (P base : Nat) (W w' : World) (k : ByteArray) (un : List (ByteArray × ByteArray)) (A B : List (List Int × Int)) (d : Int) (e : Ending) : Prop := e = .returned (.int .i64 d) ∧ Ed1 P w' k un A B ∧ Fr (fun x => x = P ∨ base ≤ x) W w'
section
variable {P base : Nat} {W : World} {k : ByteArray} {u : Value} {qs : List Nat} {un : List (ByteArray × ByteArray)} {A B : List (List Int × Int)} {cl rl rr : List Value}
theorem Ed0.now (h : Ed0 P base W k u qs un A B cl rl rr) : GapIn P W cl rl rr A B := h.gap _ (Fr.refl _ _)
theorem Ed0.ext {W' : World} (h : Ed0 P base W k u qs un A B cl rl rr) (E : Ext W W') : Ed0 P base W' k u qs un A B cl rl rr :=
  ⟨E.kept h.blk, fun w f => h.gap w ((Fr.of_ext E).tr f), h.bk.ed h.blk (Fr.of_ext E), Nat.le_trans h.hb E.size, h.ca, h.cb, h.hn⟩
theorem Ed0.end (h : Ed0 P base W k u qs un A B cl rl rr) : Ed1 P W k un A B := ⟨cl, rl, rr, u, h.blk, h.now, h.bk.read⟩
theorem Ed0.same {W' : World} (h : Ed0 P base W k u qs un A B cl rl rr) (E : Ext W W') (d : Int) : EdR P base W W' k un A B d (.returned (.int .i64 d)) := ⟨rfl, (h.ext E).end, Fr.of_ext E⟩
theorem Ed0.len (h : Ed0 P base W k u qs un A B cl rl rr) : cl.length = 600 := h.now.len
theorem Ed0.fit (h : Ed0 P base W k u qs un A B cl rl rr) : A.length + B.length ≤ 300 := h.now.fit
/-- An editor behind change: the texts from before are kept. -/
structure Ed2 (P base : Nat) (W0 W : World) (k : ByteArray) (u : Value) (un : List (ByteArray × ByteArray)) (A B : List (List Int × Int)) (cl rl rr : List Value) : Prop where
  blk : W.heap[P]? = some (.cells (edC cl (A.length : Int) ((300 - B.length : Nat) : Int) k u) 99 (0, 0))
  gap : GapIn P W cl rl rr A B
  bk : BackS P W u un
  fr : Fr (fun x => x = P ∨ base ≤ x) W0 W
theorem Ed2.end {W0 W : World} (h : Ed2 P base W0 W k u un A B cl rl rr) (d : Int) : EdR P base W0 W k un A B d (.returned (.int .i64 d)) := ⟨rfl, ⟨cl, rl, rr, u, h.blk, h.gap, h.bk _ (Fr.refl _ _)⟩, h.fr⟩
/-- One more step that writes into the editor alone. -/
theorem Ed2.step {W0 W W' : World} {k' : ByteArray} {A' B' : List (List Int × Int)} {cl' rl' rr' : List Value} (h : Ed2 P base W0 W k u un A B cl rl rr) (hb : W'.heap[P]? = some (.cells (edC cl' (A'.length : Int) ((300 - B'.length : Nat) : Int) k' u) 99 (0, 0))) (hg : GapIn P W' cl' rl' rr' A' B') (f : Fr (fun q => q = P) W W') : Ed2 P base W0 W' k' u un A' B' cl' rl' rr' :=
  ⟨hb, hg, fun w g => h.bk w (f.tr g), h.fr.tr (f.mono (fun _ hx => .inl hx))⟩
theorem Ed2.ext {W0 W W' : World} (h : Ed2 P base W0 W k u un A B cl rl rr) (E : Ext W W') : Ed2 P base W0 W' k u un A B cl rl rr := h.step (E.kept h.blk) (h.gap.fr (Fr.of_ext E)) (Fr.of_ext E)
theorem edChange (h : Ed0 P base W k u qs un A B cl rl rr) :
    Calls Tryz.prog 119 #[.pointer (some ⟨P, 0, none⟩)] W fun e w' => ∃ u', e = .returned (.tuple #[]) ∧ Ed2 P base W w' k u' (undoN un (toBA (textC A), toBA (textC B))) A B cl rl rr ∧ Fr (fun x => x = P ∨ u.ownBlock = some x) W w' := by
  refine (change_any P cl rl rr A B _ rfl k u qs un base W h.blk h.now h.ca.1 h.cb.1 h.ca.2 h.cb.2 h.bk h.hb h.hn).mono ?_
  rintro e w' ⟨u', rfl, hb, hs, f⟩
  have f' : Fr (fun x => x = P ∨ base ≤ x) W w' := f.mono (fun x hx => hx.elim .inl (fun e => .inr (h.bk.2.1.lt x e).1))
  exact ⟨u', rfl, ⟨hb, h.gap _ f', hs, f'⟩, f⟩
theorem edChangeE {w : World} (h : Ed0 P base W k u qs un A B cl rl rr) (E : Ext W w) :
    Calls Tryz.prog 119 #[.pointer (some ⟨P, 0, none⟩)] w fun e w' => ∃ u', e = .returned (.tuple #[]) ∧ Ed2 P base W w' k u' (undoN un (toBA (textC A), toBA (textC B))) A B cl rl rr ∧ Fr (fun x => x = P ∨ u.ownBlock = some x) w w' := by
  refine (edChange (h.ext E)).mono ?_
  rintro e w' ⟨u', rfl, g, f⟩
  exact ⟨u', rfl, ⟨g.blk, g.gap, g.bk, (Fr.of_ext E).tr g.fr⟩, f⟩
theorem split_at {xs : List Value} {n m : Nat} (h : xs.length = n + m) : ∃ x y, xs = x ++ y ∧ x.length = n ∧ y.length = m := ⟨xs.take n, xs.drop n, (List.take_append_drop n xs).symm, by simp; omega, by simp; omega⟩
end
end Go.Proofs.YtokjpnlmkecleaaGreatDoor

namespace Go.Proofs.YtokjpnlmkecleaaGreatDoor
open Go.RowKit

section
variable {P base : Nat} {W0 W : World} {k : ByteArray} {u : Value} {un : List (ByteArray × ByteArray)} {cl rl rr : List Value}
theorem EdR.pre {W' V w' : World} {A B : List (List Int × Int)} {d : Int} {e : Ending} (h : EdR P base V w' k un A B d e) (E : Ext W' V) : EdR P base W' w' k un A B d e := ⟨h.1, h.2.1, (Fr.of_ext E).tr h.2.2⟩
theorem Ed0.two {qs : List Nat} {A B : List (List Int × Int)} (h : Ed0 P base W k u qs un A B cl rl rr) : Ed2 P base W W k u un A B cl rl rr :=
  ⟨h.blk, h.now, fun _ f => (h.bk.ed h.blk f).read, Fr.refl _ _⟩
theorem edTakeL {A1 A2 B : List (List Int × Int)} (h : Ed2 P base W0 W k u un (A1 ++ A2) B cl rl rr) :
    Calls Tryz.prog 120 #[.pointer (some ⟨P, 0, none⟩), .int .i64 (A2.length : Int)] W fun e w' => ∃ v rl', e = .returned v ∧ Ed2 P base W0 w' k u un A1 B cl rl' rr ∧ ClsAt w' v A2 := by
  obtain ⟨hb, hg, hk, hf⟩ := id h
  obtain ⟨r1, r2, rfl, h1, h2⟩ := split_at (by rw [hg.na, List.length_append] : rl.length = A1.length + A2.length)
  rw [List.length_append] at hb
  refine (takeLeft_any P cl r1 r2 rr A1 A2 B _ k u W hb hg h1).mono ?_
  rintro e w' ⟨v, rfl, b', g', c', f'⟩
  exact ⟨v, r1, rfl, h.step b' g' f', c'⟩
theorem edTakeR {A B1 B2 : List (List Int × Int)} (h : Ed2 P base W0 W k u un A (B1 ++ B2) cl rl rr) :
    Calls Tryz.prog 121 #[.pointer (some ⟨P, 0, none⟩), .int .i64 (B1.length : Int)] W fun e w' => ∃ v rr', e = .returned v ∧ Ed2 P base W0 w' k u un A B2 cl rl rr' ∧ ClsAt w' v B1 := by
  obtain ⟨hb, hg, hk, hf⟩ := id h
  obtain ⟨r1, r2, rfl, h1, h2⟩ := split_at (by rw [hg.nb, List.length_append] : rr.length = B1.length + B2.length)
  rw [List.length_append] at hb
  refine (takeRight_any P cl rl r1 r2 A B1 B2 _ k u W hb hg h1).mono ?_
  rintro e w' ⟨v, rfl, b', g', c', f'⟩
  exact ⟨v, r2, rfl, h.step b' g' f', c'⟩
theorem edGoL {A1 A2 B : List (List Int × Int)} (h : Ed2 P base W0 W k u un (A1 ++ A2) B cl rl rr) :
    Calls Tryz.prog 85 #[.pointer (some ⟨P, 0, none⟩), .int .i64 (A2.length : Int)] W fun e w' => ∃ cl' rl' rr', e = .returned (.tuple #[]) ∧ Ed2 P base W0 w' k u un A1 (A2 ++ B) cl' rl' rr' := by
  obtain ⟨hb, hg, hk, hf⟩ := id h
  obtain ⟨r1, r2, rfl, h1, h2⟩ := split_at (by rw [hg.na, List.length_append] : rl.length = A1.length + A2.length)
  refine (goLeft_any P cl r1 r2 rr A1 A2 B _ _ _ rfl (List.length_append) rfl k u W hb hg h1 h2).mono ?_
  rintro e w' ⟨cl', rfl, b', g', f'⟩
  exact ⟨cl', _, _, rfl, h.step b' g' f'⟩
theorem edGoR {A B1 B2 : List (List Int × Int)} (hp : 0 < B1.length) (h : Ed2 P base W0 W k u un A (B1 ++ B2) cl rl rr) :
    Calls Tryz.prog 128 #[.pointer (some ⟨P, 0, none⟩), .int .i64 (B1.length : Int)] W fun e w' => ∃ cl' rl' rr', e = .returned (.tuple #[]) ∧ Ed2 P base W0 w' k u un (A ++ B1) B2 cl' rl' rr' := by
  obtain ⟨hb, hg, hk, hf⟩ := id h
  obtain ⟨r1, r2, rfl, h1, h2⟩ := split_at (by rw [hg.nb, List.length_append] : rr.length = B1.length + B2.length)
  rw [List.length_append] at hb
  refine (goRight_any P cl rl r1 r2 A B1 B2 _ _ rfl rfl hp k u W hb hg h1).mono ?_
  rintro e w' ⟨cl', rfl, b', g', f'⟩
  exact ⟨cl', _, _, rfl, h.step b' g' f'⟩
theorem edLeftOf {A B : List (List Int × Int)} (h : Ed2 P base W0 W k u un A B cl rl rr) :
    Calls Tryz.prog 104 #[.pointer (some ⟨P, 0, none⟩)] W fun e w' => e = .returned (.slice (some ⟨P, 0, none⟩) A.length 300) ∧ ClsAt w' (.slice (some ⟨P, 0, none⟩) A.length 300) A ∧ Ext W w' := by
  refine (gapLeft_any P cl rl rr A B _ k u W h.blk h.gap).mono ?_
  rintro e w' ⟨rfl, E⟩
  exact ⟨rfl, (h.gap.left h.blk 300 (by have := h.gap.fit; omega)).ext E, E⟩
theorem edRightOf {A B : List (List Int × Int)} (h : Ed2 P base W0 W k u un A B cl rl rr) :
    Calls Tryz.prog 105 #[.pointer (some ⟨P, 0, none⟩)] W fun e w' => ∃ ao cap, e = .returned (.slice ao B.length cap) ∧ ClsAt w' (.slice ao B.length cap) B ∧ Ext W w' := by
  refine (gapRight_any P cl rl rr A B _ _ rfl k u W h.blk h.gap).mono ?_
  rintro e w' ⟨v, rfl, hv, E⟩
  obtain ⟨rs, ao, ca, rfl, h2⟩ := id hv
  exact ⟨ao, ca, rfl, hv.ext E, E⟩
end
end Go.Proofs.YtokjpnlmkecleaaGreatDoor

namespace Go.Proofs.YtokjpnlmkecleaaGreatDoor
open Go.RowKit

theorem sk_ex (p : Nat → Bool) (n : Nat) : ∀ m i, n - i = m → i ≤ n → ∃ r, Sk p n i r
  | 0, i, hm, hi => ⟨i, Nat.le_refl _, by omega, fun j h1 h2 => by omega, fun h => by omega⟩
  | m + 1, i, hm, hi => by
    cases hp : p i with
    | false => exact ⟨i, Nat.le_refl _, hi, fun j h1 h2 => by omega, fun _ => hp⟩
    | true =>
      obtain ⟨r, h1, h2, h3, h4⟩ := sk_ex p n m (i + 1) (by omega) (by omega)
      refine ⟨r, by omega, h2, fun j h5 h6 => ?_, h4⟩
      by_cases e : j = i
      · rw [e, hp]
      · exact h3 j (by omega) h6
theorem wd_ex (p : Nat → Bool) (n : Nat) : Wd p n (wdN p n) := by
  obtain ⟨m, hm⟩ := sk_ex p n _ 0 rfl (Nat.zero_le _)
  obtain ⟨r, hr⟩ := sk_ex (fun j => !p j) n _ m rfl hm.2.1
  have h : Wd p n r := ⟨m, hm, hr⟩
  rw [wdN_eq h]
  exact h
/-- Clusters that are small. -/
def SmC (A : List (List Int × Int)) : Prop := ∀ c ∈ A, c.1.length ≤ 20000 ∧ I32s c.1
theorem SmC.flat {A : List (List Int × Int)} (h : SmC A) : (flat A).length ≤ A.length * 20000 := by
  induction A with
  | nil => exact Nat.zero_le _
  | cons c cs ih =>
    have h1 := (h c (by simp)).1
    have h2 := ih (fun d hd => h d (by simp [hd]))
    simp [Go.Proofs.YtokjpnlmkecleaaGreatDoor.flat]
    omega
theorem SmC.ck {A : List (List Int × Int)} (h : SmC A) (hl : A.length ≤ 600) : CkC A := by
  refine ⟨?_, fun j hj => ?_⟩
  · rw [← flat_len]
    have := h.flat
    omega
  · have e : cR A j = A[j].1 := by simp [cR, hj]
    rw [e]
    exact (h _ (List.getElem_mem hj)).2
theorem SmC.app {A B : List (List Int × Int)} (h1 : SmC A) (h2 : SmC B) : SmC (A ++ B) := fun c hc => (List.mem_append.1 hc).elim (h1 c) (h2 c)
theorem SmC.left {A B : List (List Int × Int)} (h : SmC (A ++ B)) : SmC A := fun c hc => h c (by simp [hc])
theorem SmC.right {A B : List (List Int × Int)} (h : SmC (A ++ B)) : SmC B := fun c hc => h c (by simp [hc])
theorem clus_i32 (xs : List Int) : ∀ c ∈ clusC xs, I32s c.1 := fun c hc => by
  obtain ⟨j, hj, e⟩ := List.getElem_of_mem hc
  have := clF_i32 xs xs.length j
  have e2 : cR (clF xs xs.length) j = c.1 := by
    show cR (clusC xs) j = c.1
    simp [cR, hj, e]
  rwa [e2] at this
theorem cut_sm {L : List Int} (h : (cleanL L).length ≤ 300) : SmC (cutC L) := fun c hc => by
  refine ⟨?_, clus_i32 _ c hc⟩
  obtain ⟨j, hj, e⟩ := List.getElem_of_mem hc
  have := clF_runes (cleanL L) (cleanL L).length j
  have e2 : cR (clF (cleanL L) (cleanL L).length) j = c.1 := by
    show cR (cutC L) j = c.1
    simp [cR, hj, e]
  rw [e2] at this
  omega
theorem flat_mem {A : List (List Int × Int)} {c : List Int × Int} (h : c ∈ A) : c.1.length ≤ (flat A).length := by
  induction A with
  | nil => simp at h
  | cons d ds ih =>
    simp [flat]
    rcases List.mem_cons.1 h with rfl | h
    · omega
    · have := ih h
      omega
theorem flat_sm {xs : List Int} (h : (flat (clusC xs)).length ≤ 300) : SmC (clusC xs) := fun c hc => ⟨by have := flat_mem hc; omega, clus_i32 _ c hc⟩
/-- The key has done o. -/
def Done (o : LD) (P base : Nat) (W : World) (d : Int) (w' : World) : Prop := ∃ A' B', d = o.d ∧ toBA (textC A') = o.a ∧ toBA (textC B') = o.b ∧ CkC A' ∧ CkC B' ∧ o.un.length ≤ 50 ∧ Ed1 P w' o.c o.un A' B' ∧ Fr (fun x => x = P ∨ base ≤ x) W w'
theorem Done.of {o : LD} {P base : Nat} {W w' : World} {A' B' : List (List Int × Int)} {e : Ending} (h : EdR P base W w' o.c o.un A' B' o.d e) (ha : toBA (textC A') = o.a) (hb : toBA (textC B') = o.b) (sA : SmC A') (sB : SmC B') (hn : o.un.length ≤ 50) : ∃ d, e = .returned (.int .i64 d) ∧ Done o P base W d w' := by
  obtain ⟨h1, h2, h3⟩ := h
  have hf : A'.length + B'.length ≤ 300 := by
    obtain ⟨cl, rl, rr, u, _, hg, _⟩ := h2
    exact hg.fit
  exact ⟨o.d, h1, A', B', rfl, ha, hb, sA.ck (by omega), sB.ck (by omega), hn, h2, h3⟩
theorem Done.pre {o : LD} {P base : Nat} {W V w' : World} {d : Int} (h : Done o P base V d w') (E : Ext W V) : Done o P base W d w' := by
  obtain ⟨A', B', h1, h2, h3, h4, h5, h6, h7, h8⟩ := h
  exact ⟨A', B', h1, h2, h3, h4, h5, h6, h7, (Fr.of_ext E).tr h8⟩
/-- A valid line, as an editor sees it. -/
structure LnOk (a b c : ByteArray) (un : List (ByteArray × ByteArray)) : Prop where
  sa : settleL (baL a) = baL a
  sb : settleL (baL b) = baL b
  sc : settleL (baL c) = baL c
  nab : (cleanL (baL a)).length + (cleanL (baL b)).length ≤ 300
  nc : (cleanL (baL c)).length ≤ 300
  n : un.length ≤ 50
  us : ∀ s ∈ un, settleL (baL s.1) = baL s.1 ∧ settleL (baL s.2) = baL s.2 ∧ (cleanL (baL s.1)).length + (cleanL (baL s.2)).length ≤ 300
  za : a.size ≤ 1048576
  zb : b.size ≤ 1048576
  zc : c.size ≤ 1048576
  zu : ∀ s ∈ un, s.1.size ≤ 1048576 ∧ s.2.size ≤ 1048576
section
variable {a b c : ByteArray} {un : List (ByteArray × ByteArray)}
theorem LnOk.ea (h : LnOk a b c un) : toBA (textC (cutC (baL a))) = a := by rw [show textC (cutC (baL a)) = baL a from h.sa, toBA_baL]
theorem LnOk.eb (h : LnOk a b c un) : toBA (textC (cutC (baL b))) = b := by rw [show textC (cutC (baL b)) = baL b from h.sb, toBA_baL]
theorem LnOk.smA (h : LnOk a b c un) : SmC (cutC (baL a)) := cut_sm (by have := h.nab; omega)
theorem LnOk.smB (h : LnOk a b c un) : SmC (cutC (baL b)) := cut_sm (by have := h.nab; omega)
theorem LnOk.un50 (h : LnOk a b c un) (s : ByteArray × ByteArray) : (undoN un s).length ≤ 50 := undoN_len un s h.n
theorem done_mvL (h : LnOk a b c un) {A1 A2 : List (List Int × Int)} (hA : cutC (baL a) = A1 ++ A2) (nw : Int) {P base : Nat} {W w' : World} {e : Ending} (r : EdR P base W w' c un A1 (A2 ++ cutC (baL b)) (if A2.length = 0 then nw else 1) e) :
    ∃ d, e = .returned (.int .i64 d) ∧ Done (if A2.length = 0 then ⟨a, b, c, un, nw⟩ else edMv a b c un A1.length) P base W d w' := by
  have sA := h.smA
  rw [hA] at sA
  by_cases h0 : A2.length = 0
  · rw [if_pos h0] at r ⊢
    obtain rfl : A2 = [] := List.eq_nil_of_length_eq_zero h0
    rw [List.append_nil] at hA
    refine Done.of (A' := A1) (B' := cutC (baL b)) r ?_ h.eb sA.left h.smB h.n
    rw [← hA]
    exact h.ea
  · rw [if_neg h0] at r ⊢
    refine Done.of (o := edMv a b c un A1.length) r ?_ ?_ sA.left (sA.right.app h.smB) h.n
    · simp [edMv, hA]
    · simp [edMv, hA]
theorem done_mvR (h : LnOk a b c un) {B1 B2 : List (List Int × Int)} (hB : cutC (baL b) = B1 ++ B2) (nw : Int) {P base : Nat} {W w' : World} {e : Ending} (r : EdR P base W w' c un (cutC (baL a) ++ B1) B2 (if B1.length = 0 then nw else 1) e) :
    ∃ d, e = .returned (.int .i64 d) ∧ Done (if B1.length = 0 then ⟨a, b, c, un, nw⟩ else edMv a b c un ((cutC (baL a)).length + B1.length)) P base W d w' := by
  have sB := h.smB
  rw [hB] at sB
  by_cases h0 : B1.length = 0
  · rw [if_pos h0] at r ⊢
    obtain rfl : B1 = [] := List.eq_nil_of_length_eq_zero h0
    rw [List.nil_append] at hB
    rw [List.append_nil] at r
    refine Done.of (A' := cutC (baL a)) (B' := B2) r h.ea ?_ h.smA sB.right h.n
    rw [← hB]
    exact h.eb
  · rw [if_neg h0] at r ⊢
    have e1 : (cutC (baL a)).length + B1.length = (cutC (baL a) ++ B1).length := by simp
    refine Done.of (o := edMv a b c un ((cutC (baL a)).length + B1.length)) r ?_ ?_ (h.smA.app sB.left) sB.right h.n
    · rw [edMv, hB, e1, ← List.append_assoc, List.take_left]
    · rw [edMv, hB, e1, ← List.append_assoc, List.drop_left]
end
end Go.Proofs.YtokjpnlmkecleaaGreatDoor

namespace Go.Proofs.YtokjpnlmkecleaaGreatDoor
open Go.RowKit Go.Maps Go.MapKept
open Go.ChangeMaps (setBlock heap_setBlock_same heap_setBlock_other)

/-- Entries of a map whose keys are numbers, in the order in which they came. -/
def entL : Nat → List (Int × Value) → List MapEntry
  | _, [] => []
  | i, (c, v) :: l => { key := .int .i64 c, val := v, born := i } :: entL (i + 1) l
def mapO (l : List (Int × Value)) : Obj := .map (entL 0 l).toArray l.length
theorem entL_snoc (c : Int) (v : Value) : ∀ (l : List (Int × Value)) (i : Nat), entL i (l ++ [(c, v)]) = entL i l ++ [{ key := .int .i64 c, val := v, born := i + l.length }]
  | [], i => by simp [entL]
  | (d, u) :: l, i => by
    rw [List.cons_append, entL, entL_snoc c v l (i + 1), entL]
    simp
    omega
theorem find_none (c : Int) : ∀ (l : List (Int × Value)) (i j : Nat), (∀ x ∈ l, x.1 ≠ c) → Instr.findNow (.int .i64) (.int .i64 c) (entL i l) j = some none
  | [], _, _, _ => rfl
  | (d, u) :: l, i, j, h => by
    have h1 : d ≠ c := h (d, u) (by simp)
    have h2 : (c == d) = false := by simp; exact fun e => h1 e.symm
    rw [entL, Instr.findNow]
    simp only [Instr.sameNow, h2, if_true]
    exact find_none c l (i + 1) (j + 1) (fun x hx => h x (by simp [hx]))
theorem find_some (c : Int) (v : Value) : ∀ (l : List (Int × Value)) (i j : Nat), (l.find? (fun x => x.1 == c)).map (·.2) = some v → ∃ n, Instr.findNow (.int .i64) (.int .i64 c) (entL i l) j = some (some (n, v))
  | [], _, _, h => by simp at h
  | (d, u) :: l, i, j, h => by
    by_cases e : d = c
    · subst e
      simp at h
      subst h
      rw [entL, Instr.findNow]
      simp [Instr.sameNow]
    · have h2 : (c == d) = false := by simp; exact fun x => e x.symm
      have h3 : (d == c) = false := by simp [e]
      rw [List.find?_cons] at h
      simp only [h3] at h
      obtain ⟨n, hn⟩ := find_some c v l (i + 1) (j + 1) h
      refine ⟨n, ?_⟩
      rw [entL, Instr.findNow]
      simp only [Instr.sameNow, h2, if_true]
      exact hn
section
variable {P : Program}
theorem run_ck (b : Bool) (n : Nat) {w : World} {k : TypeId} (hk : P.underlying k = some (.int .i64)) (c : Int) : (Instr.checkKey b (n + 1) k (.int .i64 c)).run P w = .ok () w := by
  simp [Instr.checkKey, run_underlying hk]
theorem run_ck4 (b : Bool) {w : World} {k : TypeId} (hk : P.underlying k = some (.int .i64)) (c : Int) : (Instr.checkKey b 10000 k (.int .i64 c)).run P w = .ok () w := run_ck b 9999 hk c
theorem run_fk {w : World} {k : TypeId} (hk : P.underlying k = some (.int .i64)) (c : Int) (es : List MapEntry) (r : Option (Nat × Value)) (h : Instr.findNow (.int .i64) (.int .i64 c) es 0 = some r) : (Instr.findKey k (.int .i64 c) es).run P w = .ok r w := by
  simp [Instr.findKey, run_underlying hk, h]
theorem run_insert_new {w : World} {t k e : TypeId} {b : Nat} {l : List (Int × Value)} {c : Int} {v : Value} (ht : P.underlying t = some (.map k e)) (hk : P.underlying k = some (.int .i64)) (hb : w.heap[b]? = some (mapO l)) (hn : ∀ x ∈ l, x.1 ≠ c) :
    (Instr.mapUpdate t (.map (some b)) (.int .i64 c) v).run P w = .ok () (setBlock w b (mapO (l ++ [(c, v)]))) := by
  have hf := run_fk (P := P) (w := w) hk c _ _ (find_none c l 0 0 hn)
  have hm : mapO (l ++ [(c, v)]) = .map ((entL 0 l).toArray.push { key := .int .i64 c, val := v, born := l.length }) (l.length + 1) := by
    unfold mapO
    rw [entL_snoc]
    simp
  rw [hm]
  unfold mapO at hb
  simp [Instr.mapUpdate, run_underlying ht, run_ck4 _ hk, hf, Go.MapKept.run_getObj_map hb, Go.MapKept.run_setObj_map _ hb, setBlock]
theorem run_lookup_some {w : World} {t k e : TypeId} {b : Nat} {l : List (Int × Value)} {c : Int} {v : Value} (ht : P.underlying t = some (.map k e)) (hk : P.underlying k = some (.int .i64)) (hb : w.heap[b]? = some (mapO l)) (hl : (l.find? (fun x => x.1 == c)).map (·.2) = some v) :
    (Instr.lookup t (.map (some b)) (.int .i64 c) true).run P w = .ok (.tuple #[v, .bool true]) w := by
  obtain ⟨n, hn⟩ := find_some c v l 0 0 hl
  have hf := run_fk (P := P) (w := w) hk c _ _ hn
  unfold mapO at hb
  simp [Instr.lookup, run_underlying ht, run_ck4 _ hk, hf, Go.MapKept.run_getObj_map hb]
theorem run_lookup_none {w : World} {t k e : TypeId} {b : Nat} {l : List (Int × Value)} {c : Int} {z : Value} (ht : P.underlying t = some (.map k e)) (hk : P.underlying k = some (.int .i64)) (hb : w.heap[b]? = some (mapO l)) (hn : ∀ x ∈ l, x.1 ≠ c) (hz : (zeroValue e).run P w = .ok z w) :
    (Instr.lookup t (.map (some b)) (.int .i64 c) true).run P w = .ok (.tuple #[z, .bool false]) w := by
  have hf := run_fk (P := P) (w := w) hk c _ _ (find_none c l 0 0 hn)
  unfold mapO at hb
  simp [Instr.lookup, run_underlying ht, run_ck4 _ hk, hf, Go.MapKept.run_getObj_map hb, hz]
theorem setBlock_fr {w : World} (b : Nat) (o : Obj) : Fr (fun q => q = b) w (setBlock w b o) :=
  ⟨rfl, rfl, rfl, by simp [setBlock], fun i hi hn => by simp [setBlock, show ¬ b = i from fun e => hn e.symm]⟩
theorem wpList_insert_new {w : World} {ops : Array Oper} {rest : List Oper} {o : Oper} {a : Act} {Q : Exit → Act → World → Prop} (hgd : o.guard = none) (t : TypeId) (m x y : Operand) (ho : o.op = .insert t m x y) (hdst : o.dst = none) (k e : TypeId) (ht : P.underlying t = some (.map k e)) (hk : P.underlying k = some (.int .i64)) (b : Nat) (hm : a.eval m = .map (some b)) (l : List (Int × Value)) (hb : w.heap[b]? = some (mapO l)) (c : Int) (hx : a.eval x = .int .i64 c) (hn : (l.all (fun z => z.1 != c)) = true) (v : Value) (hv : a.eval y = v)
    (h : ∀ w', w'.heap[b]? = some (mapO (l ++ [(c, v)])) → Fr (fun q => q = b) w w' → wpList P ops Q rest a w') : wpList P ops Q (o :: rest) a w := by
  refine wpList_plain hgd fun _ hK => ?_
  have hr := run_insert_new (P := P) (w := w) (v := v) ht hk hb (fun x hx e => by have := (List.all_eq_true.1 hn) x hx; simp at this; exact this e)
  have hk2 := hK _ _ (h _ (heap_setBlock_same hb _) (setBlock_fr b _))
  unfold Oper.wp
  simp [execOp, ho, hm, hx, hv, hr, Result.andThen]
  simp [Oper.upon]
  rw [hdst]
  exact hk2
end
end Go.Proofs.YtokjpnlmkecleaaGreatDoor

namespace Go.Proofs.YtokjpnlmkecleaaGreatDoor
open Go.RowKit Go.Maps

/-- A method bound to the editor. -/
def mth (f : FuncId) (P : Nat) : Value := .func (.func f) #[.pointer (some ⟨P, 0, none⟩)] #[]
def ansr (d : Int) : Value := .func (.func 102) #[.int .i64 d] #[]
/-- What each kind of key does. -/
def actL (P : Nat) : List (Int × Value) := [(1, mth 87 P), (2, mth 87 P), (4, mth 88 P), (5, mth 89 P), (6, mth 90 P), (7, mth 91 P), (8, mth 92 P), (9, mth 93 P), (18, mth 94 P), (19, mth 95 P), (12, mth 96 P), (13, mth 97 P), (14, mth 98 P), (15, mth 99 P), (16, mth 100 P), (17, mth 101 P), (3, ansr 3), (21, ansr 4), (10, ansr 5), (11, ansr 6), (20, ansr 7)]
set_option maxRecDepth 10000 in
set_option maxHeartbeats 8000000 in
theorem acts_any (P : Nat) (w : World) :
    Calls Tryz.prog 62 #[.pointer (some ⟨P, 0, none⟩)] w fun e w' => e = .returned (.map (some w.heap.size)) ∧ w'.heap[w.heap.size]? = some (mapO (actL P)) ∧ Ext w w' := by
  have hmm := @run_makeMap Tryz.prog
  have hmf : ∀ (fn : Fn) (first cap : Array Value) (w : World), (Instr.makeFunc fn first cap).run Tryz.prog w = .ok (.func fn first cap) w := fun _ _ _ _ => rfl
  have HM : Hid ((w.alloc (.map #[] 0)).heap[w.heap.size]? = some (mapO [])) := hide (new_block w _)
  have HF : Hid (Fr (fun q => q = w.heap.size) (w.alloc (.map #[] 0)) (w.alloc (.map #[] 0))) := hide (Fr.refl _ _)
  go_enter Tryz.func62, Tryz.ntmps62
  go_wp2_with (first
    | (first
       | refine wpList_insert_new rfl _ _ _ _ rfl rfl 3 _ Tryz.underlying102 Tryz.underlying3 w.heap.size rfl _ (unhide HM) _ rfl (by rfl) (.func (.func _) #[.pointer (some ⟨P, 0, none⟩)] #[]) rfl ?_
       | refine wpList_insert_new rfl _ _ _ _ rfl rfl 3 _ Tryz.underlying102 Tryz.underlying3 w.heap.size rfl _ (unhide HM) _ rfl (by rfl) (.func (.func _) #[.int .i64 _] #[]) rfl ?_
       intro W1 hb hf
       simp only [List.nil_append, List.cons_append] at hb
       replace HM := hide hb
       replace HF := hide ((unhide HF).tr hf)
       clear hb hf))
  exact bodyPost_ret (v := .map (some w.heap.size)) (by simp [results, Tryz.results62, go_sem]) rfl ⟨rfl, unhide HM, (unhide HF).ext ((Ext.refl w).alloc _) (fun q hq => by omega)⟩
end Go.Proofs.YtokjpnlmkecleaaGreatDoor

namespace Go.Proofs.YtokjpnlmkecleaaGreatDoor
open Go.RowKit Go.Maps

example : ∀ (args : Array Value) (w : World), (callFunc 87 args).run Tryz.prog w = .ok (.enter 87 args) w := fun _ _ => by kernel_rfl

set_option maxRecDepth 10000 in
set_option maxHeartbeats 8000000 in
theorem press_hit (f : FuncId) (hcf : ∀ (args : Array Value) (w : World), (callFunc f args).run Tryz.prog w = .ok (.enter f args) w) (p : Value) (P : Nat) (kd : Int) (rv : Value) (W : World) (hfind : ((actL P).find? (fun x => x.1 == kd)).map (·.2) = some (.func (.func f) #[p] #[])) (Q : Int → World → Prop) (HM : ∀ w, Ext W w → Calls Tryz.prog f #[p, .agg #[.int .i64 kd, rv]] w fun e w' => ∃ d, e = .returned (.int .i64 d) ∧ Q d w') :
    Calls Tryz.prog 28 #[.pointer (some ⟨P, 0, none⟩), .agg #[.int .i64 kd, rv]] W fun e w' => ∃ d, e = .returned (.int .i64 d) ∧ Q d w' := by
  have infoK : (Tryz.prog.info? 28).map (·.size) = some 2 := by kernel_rfl
  have HL := hide (fun (w : World) (b : Nat) (hb : w.heap[b]? = some (mapO (actL P))) => run_lookup_some (P := Tryz.prog) (w := w) (b := b) Tryz.underlying102 Tryz.underlying3 hb hfind)
  obtain ⟨V, hV⟩ : ∃ V, V = W.alloc (.cells #[.int .i64 kd, rv] 28) := ⟨_, rfl⟩
  have E0 : Ext W V := by rw [hV]; exact (Ext.refl W).alloc _
  have k0 : V.heap[W.heap.size]? = some (.cells #[.int .i64 kd, rv] 28 (0, 0)) := by rw [hV]; exact new_block W _
  have HA := hide (fun w => acts_any P w)
  have HMh := hide HM
  clear hfind HM
  go_enter Tryz.func28, Tryz.ntmps28
  go_wp2_with fail
  rw [← hV]
  have c0 : V.cell? ⟨W.heap.size, 0, none⟩ = some (.int .i64 kd) := cells_of k0 0 _ rfl
  have HK0 := hide k0
  have HE0 := hide E0
  clear hV k0 E0
  go_region_law (first
    | (go_simp; go_at_call 62
       refine ((unhide HA) _).mono ?_
       rintro e w1 ⟨rfl, hm, E1⟩
       have hlk := (unhide HL) w1 V.heap.size hm
       have E2 : Ext V w1 := (by first | exact E1 | exact (Ext.refl _).drew.trans E1)
       have c1 := E2.cell c0
       clear E1 hm))
  all_goals
    have HK1 := hide (E2.kept (unhide HK0))
    have HM1 := hide ((unhide HMh) w1 ((unhide HE0).trans E2))
    clear hlk c1 c0 HL HA HMh
    go_wp2_with (first
      | (refine wpList_load_blk rfl 28 _ rfl (W.heap.size) rfl _ _ _ _ (unhide HK1) Tryz.underlying28 rfl infoK ?_))
    refine (unhide HM1).mono ?_
    rintro e w2 ⟨d, rfl, hQ⟩
    have HQ := hide hQ
    clear hQ HM1 HK1 HK0
    go_wp2
    exact bodyPost_ret (v := .int .i64 d) (by simp [results, Tryz.results28, go_sem]) rfl ⟨d, rfl, unhide HQ⟩
set_option maxRecDepth 10000 in
set_option maxHeartbeats 8000000 in
theorem press_miss (P : Nat) (kd : Int) (rv : Value) (W : World) (hmiss : ∀ x ∈ actL P, x.1 ≠ kd) :
    Calls Tryz.prog 28 #[.pointer (some ⟨P, 0, none⟩), .agg #[.int .i64 kd, rv]] W fun e w' => e = .returned (.int .i64 0) ∧ Ext W w' := by
  have HL := hide (fun (w : World) (b : Nat) (hb : w.heap[b]? = some (mapO (actL P))) => run_lookup_none (P := Tryz.prog) (w := w) (b := b) (z := .nilFunc) Tryz.underlying102 Tryz.underlying3 hb hmiss (by kernel_rfl))
  obtain ⟨V, hV⟩ : ∃ V, V = W.alloc (.cells #[.int .i64 kd, rv] 28) := ⟨_, rfl⟩
  have E0 : Ext W V := by rw [hV]; exact (Ext.refl W).alloc _
  have k0 : V.heap[W.heap.size]? = some (.cells #[.int .i64 kd, rv] 28 (0, 0)) := by rw [hV]; exact new_block W _
  have HA := hide (fun w => acts_any P w)
  clear hmiss
  go_enter Tryz.func28, Tryz.ntmps28
  go_wp2_with fail
  rw [← hV]
  have c0 : V.cell? ⟨W.heap.size, 0, none⟩ = some (.int .i64 kd) := cells_of k0 0 _ rfl
  have HK0 := hide k0
  have HE0 := hide E0
  clear hV k0 E0
  go_region_law (first
    | (go_simp; go_at_call 62
       refine ((unhide HA) _).mono ?_
       rintro e w1 ⟨rfl, hm, E1⟩
       have hlk := (unhide HL) w1 V.heap.size hm
       have E2 : Ext V w1 := (by first | exact E1 | exact (Ext.refl _).drew.trans E1)
       have c1 := E2.cell c0
       clear E1 hm))
  all_goals
    have HE := hide ((unhide HE0).trans E2)
    clear hlk c1 c0 HL HA HK0
    go_wp2
    exact bodyPost_ret (v := .int .i64 0) (by simp [results, Tryz.results28, go_sem]) rfl ⟨rfl, unhide HE⟩
end Go.Proofs.YtokjpnlmkecleaaGreatDoor

namespace Go.Proofs.YtokjpnlmkecleaaGreatDoor
open Go.RowKit

set_option maxRecDepth 10000 in
set_option maxHeartbeats 1000000 in
theorem atRight_any (B : Nat) (v : Value) (cs : List (List Int × Int)) (j : Nat) (hj : j < cs.length) (hl : cs.length ≤ 16777216) (w : World) (hB : w.cell? ⟨B, 0, none⟩ = some v) (hv : ClsAt w v cs) :
    Calls Tryz.prog 126 #[.int .i64 (j : Int), .pointer (some ⟨B, 0, none⟩)] w fun e w' => ∃ rv, e = .returned (.agg #[rv, .int .i64 (cW cs (j))]) ∧ IntsAt w' .i32 rv (cR cs (j)) ∧ Ext w w' := by
  obtain ⟨rs, ao, ca, rfl, hca, hr, hx⟩ := hv
  obtain ⟨b, off, rfl, hc⟩ := hx (by omega)
  obtain ⟨m, hm⟩ : ∃ m, m = j := ⟨_, rfl⟩
  rw [← hm]
  have hmn : m < cs.length := by omega
  have g1 : ∀ o, (w.alloc o).cell? ⟨b, off + m * 2, none⟩ = some (rV rs m) := fun o => ((Ext.refl w).alloc o).cell (hc m hmn).1
  have g2 : ∀ o, (w.alloc o).cell? ⟨b, off + m * 2 + 1, none⟩ = some (.int .i64 (cW cs m)) := fun o => ((Ext.refl w).alloc o).cell (hc m hmn).2
  have bB : ∀ o, (w.alloc o).cell? ⟨B, 0, none⟩ = some (.slice (some ⟨b, off, none⟩) cs.length ca) := fun o => ((Ext.refl w).alloc o).cell hB
  have hI := hr m hmn
  obtain ⟨ra, rc, hrv, _⟩ := id hI
  rw [hrv] at g1 hI
  have HI := hide hI
  have bm : (m : Int) < (cs.length : Int) := by omega
  clear hc hx hr hB hm hI hrv
  go_enter Tryz.func126, Tryz.ntmps126
  go_wp2
  exact bodyPost_ret (v := .agg #[.slice ra (cR cs m).length rc, .int .i64 (cW cs m)]) (by simp [results, Tryz.results126, go_sem]) rfl ⟨_, rfl, (unhide HI).ext ((Ext.refl w).alloc _), (Ext.refl w).alloc _⟩
set_option maxRecDepth 10000 in
set_option maxHeartbeats 1000000 in
theorem atFront_any (B : Nat) (v : Value) (cs : List (List Int × Int)) (j : Nat) (hj : j < cs.length) (hl : cs.length ≤ 16777216) (w : World) (hB : w.cell? ⟨B, 0, none⟩ = some v) (hv : ClsAt w v cs) :
    Calls Tryz.prog 137 #[.int .i64 (j : Int), .pointer (some ⟨B, 0, none⟩)] w fun e w' => ∃ rv, e = .returned (.agg #[rv, .int .i64 (cW cs (cs.length - 1 - j))]) ∧ IntsAt w' .i32 rv (cR cs (cs.length - 1 - j)) ∧ Ext w w' := by
  obtain ⟨rs, ao, ca, rfl, hca, hr, hx⟩ := hv
  obtain ⟨b, off, rfl, hc⟩ := hx (by omega)
  obtain ⟨m, hm⟩ : ∃ m, m = cs.length - 1 - j := ⟨_, rfl⟩
  rw [← hm]
  have hmn : m < cs.length := by omega
  have g1 : ∀ o, (w.alloc o).cell? ⟨b, off + m * 2, none⟩ = some (rV rs m) := fun o => ((Ext.refl w).alloc o).cell (hc m hmn).1
  have g2 : ∀ o, (w.alloc o).cell? ⟨b, off + m * 2 + 1, none⟩ = some (.int .i64 (cW cs m)) := fun o => ((Ext.refl w).alloc o).cell (hc m hmn).2
  have bB : ∀ o, (w.alloc o).cell? ⟨B, 0, none⟩ = some (.slice (some ⟨b, off, none⟩) cs.length ca) := fun o => ((Ext.refl w).alloc o).cell hB
  have hI := hr m hmn
  obtain ⟨ra, rc, hrv, _⟩ := id hI
  rw [hrv] at g1 hI
  have HI := hide hI
  have bm : (m : Int) < (cs.length : Int) := by omega
  have hw1 : IntKind.i64.wrap ((cs.length : Int) - 1) = (cs.length : Int) - 1 := by rw [IntKind.wrap_i64]; omega
  have hw2 : IntKind.i64.wrap ((cs.length : Int) - 1 - (j : Int)) = (m : Int) := by rw [IntKind.wrap_i64]; omega
  clear hc hx hr hB hm hI hrv
  go_enter Tryz.func137, Tryz.ntmps137
  go_wp2
  exact bodyPost_ret (v := .agg #[.slice ra (cR cs m).length rc, .int .i64 (cW cs m)]) (by simp [results, Tryz.results137, go_sem]) rfl ⟨_, rfl, (unhide HI).ext ((Ext.refl w).alloc _), (Ext.refl w).alloc _⟩
end Go.Proofs.YtokjpnlmkecleaaGreatDoor
