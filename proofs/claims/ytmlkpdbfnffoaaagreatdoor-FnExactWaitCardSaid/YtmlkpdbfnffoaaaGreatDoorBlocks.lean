import Derived.WalkKit
import Derived.WalkSpells
import Derived.WalkLawsBesides
import Derived.Handy
import Derived.Deep.QuietTactic
import Derived.BigQuiet
import Derived.Deep.RegionHeld
import Derived.ProofKit
import Derived.OpenShut
import Derived.OpenVars
import Derived.Carry
import Derived.ChangeOld
namespace Go.Proofs.YtmlkpdbfnffoaaaGreatDoor
open Go.RowKit
theorem tk {P : Program} {ops : Array Oper} {Q : Exit → Act → World → Prop} {md : Region.Mode} {S : World → Prop} {oi : Oper} {fuel : Nat} {listed : Array Bool} {a : Act} {w : World} (i : Nat) (v : Value) (hi : ops[i]? = some oi) (hb : (Region.noSelect ops && (Region.free md ops listed i && (Region.ready md ops listed).contains i)) = true) (hQ : ∀ c a w, Q (.panic c) (a.put oi.dst v) w → Q (.panic c) a w) (hw : Region.wanted oi (yielded ops a.tmps) = true) (hy : ∀ w, S w → (execOp a.eval oi).run P w = .ok (.value v) w) (hS : S w) (h : wpAnyH P md ops Q S fuel (listed.setIfInBounds i true) (a.put oi.dst v) w) : wpAnyH P md ops Q S (fuel + 1) listed a w := by
 simp only [Bool.and_eq_true] at hb
 exact wpAnyH_take hi hb.1 hb.2.1 hb.2.2 hQ (.inl ⟨hw, hy⟩) hS h
theorem rdy {P : Program} {ops : Array Oper} {Q : Exit → Act → World → Prop} {md : Region.Mode} {S : World → Prop} {o : Oper} {fuel : Nat} {listed : Array Bool} {a : Act} {w : World} (i : Nat) (hr : Region.ready md ops listed = [i]) (ho : ops[i]? = some o) (h : ∀ K' : Act → World → Prop, Shut (∀ a w, S w → (S w → wpAnyH P md ops Q S fuel (listed.setIfInBounds i true) a w) → K' a w) → if Region.wanted o (yielded ops a.tmps) = true then Oper.wp P o a w K' Q else K' (a.put o.dst undef) w) : wpAnyH P md ops Q S (fuel + 1) listed a w :=
 wpAnyH_ready hr (by simp) (AllReadyH.cons ho h AllReadyH.nil)
abbrev zL4 : Array Value := #[.string { data := #[] }, .string { data := #[] }, .string { data := #[] }, .slice none 0 0]
abbrev zS8 : Array Value := #[.int .i64 0, .int .i64 0, .slice none 0 0, .int .i64 0, .int .i64 0, .bool false, .slice none 0 0, .slice none 0 0]
abbrev zS7 : Array Value := #[.string { data := #[] }, .int .i64 0, .int .i64 0, .string { data := #[] }, .string { data := #[] }, .string { data := #[] }, .slice none 0 0, .slice none 0 0, .bool false, .bool false, .slice none 0 0, .int .i64 0, .string { data := #[] }, .bool false, .slice none 0 0, .slice none 0 0, .slice none 0 0]
abbrev zH2 : Array Value := #[.int .i64 0, .slice none 0 0]
theorem qA {α : Type _} {l : List α} {i : Nat} (h : i < l.toArray.size) : l.toArray[i] = l[i]'(by simpa using h) := rfl
theorem q9 : (∀ {α : Type} {l : List α} {i : Nat} (h : i < l.toArray.size), l.toArray[i] = l[i]'(by simpa using h)) ∧ (∀ {α : Type} {a : α} {l : List α} {i : Nat} (h : i + 1 < (a :: l).length), (a :: l)[i + 1] = l[i]'(Nat.lt_of_succ_lt_succ h)) ∧ (∀ {α : Type} {a : α} {l : List α} (h : 0 < (a :: l).length), (a :: l)[0] = a) ∧ (∀ {α : Type} {l : List α} {i : Nat} {a : α}, l.toArray.setIfInBounds i a = (l.set i a).toArray) ∧ (∀ {α : Type} {x a : α} {l : List α}, (x :: l).set 0 a = a :: l) ∧ (∀ {α : Type} {x a : α} {l : List α} {i : Nat}, (x :: l).set (i + 1) a = x :: l.set i a) := ⟨fun _ => rfl, fun _ => rfl, fun _ => rfl, List.setIfInBounds_toArray .., rfl, rfl⟩
theorem zi {p : Prop} (h : p) : Hid p := h
theorem zg {p : Prop} (h : Hid p) : p := h
def at0 (xs : List Int) (i : Nat) : Int := xs[i]?.getD 0
theorem zb1 {xs : List Int} {i : Nat} (h : i < xs.length) : xs[i]? = some (at0 xs i) := by simp [at0, h]
theorem zl3 {xs ys : List Int} {k : Nat} (h1 : k < xs.length) (h2 : k < ys.length) (h : xs.take k = ys.take k) (e : at0 xs k = at0 ys k) : xs.take (k + 1) = ys.take (k + 1) := by
 rw [List.take_add_one, List.take_add_one, h, zb1 h1, zb1 h2, e]
theorem zmd {xs ys : List Int} {k : Nat} (h : at0 xs k ≠ at0 ys k) : ¬ xs = ys := fun e => h (by rw [e])
theorem za6 {k : IntKind} {a b : Int} (h : a = b) : Ending.returned (.int k a) = .returned (.int k b) := by rw [h]
theorem zw {a b : Bool} (h : a = b) : Ending.returned (.bool a) = .returned (.bool b) := by rw [h]
theorem zb2 {w : World} {b o : Nat} {v : Value} (h : w.cell? ⟨b, o, none⟩ = some v) : b < w.heap.size := by
 rcases Nat.lt_or_ge b w.heap.size with h1 | h1
 ·exact h1
 ·simp [World.cell?, h1] at h
abbrev Ext (w w' : World) : Prop := w.grownBy w' none
theorem Ext.refl (w : World) : Ext w w := World.grownBy.refl w none
theorem Ext.trans {a b c : World} (h : Ext a b) (k : Ext b c) : Ext a c :=
 ⟨k.os.trans h.os, k.tape.trans h.tape, k.output.trans h.output, Nat.le_trans h.size k.size, fun i hi hn => (k.block i (Nat.lt_of_lt_of_le hi h.size) hn).trans (h.block i hi hn)⟩
theorem Hid.ht {a b c : World} (h : Hid (Ext a b)) (k : Ext b c) : Hid (Ext a c) := zi ((zg h).trans k)
theorem Ext.trans' {a b c d : World} (h : Ext a b) (k : Ext c d) (e1 : c.heap = b.heap) (e2 : c.os = b.os) (e3 : c.tape = b.tape) (e4 : c.output = b.output) : Ext a d :=
 ⟨k.os.trans (e2.trans h.os), k.tape.trans (e3.trans h.tape), k.output.trans (e4.trans h.output), Nat.le_trans h.size (by have := k.size; rw [e1] at this; exact this), fun i hi hn => (k.block i (by rw [e1]; exact Nat.lt_of_lt_of_le hi h.size) hn).trans (by rw [e1]; exact h.block i hi hn)⟩
theorem Ext.drewN {w w' : World} (h : Ext w w') (n : Nat) : Ext w (w'.drewN n) := ⟨h.os, h.tape, h.output, h.size, h.block⟩
theorem Ext.drew {w w' : World} (h : Ext w w') : Ext w w'.drew := ⟨h.os, h.tape, h.output, h.size, h.block⟩
theorem Ext.alloc {w w' : World} (h : Ext w w') (o : Obj) : Ext w (w'.alloc o) := h.trans (World.grownBy_alloc w' o none)
theorem Ext.grown {w W w3 : World} {row : Option Nat} (h : Ext w W) (hg : W.grownBy w3 row) (hrow : ∀ k, row = some k → w.heap.size ≤ k) : Ext w w3 :=
 ⟨hg.os.trans h.os, hg.tape.trans h.tape, hg.output.trans h.output, Nat.le_trans h.size hg.size, fun i hi hn => (hg.block i (Nat.lt_of_lt_of_le hi h.size) (fun e => by have := hrow i e.symm; omega)).trans (h.block i hi hn)⟩
theorem Ext.below {w w' : World} (h : Ext w w') : Below w.heap.size w w' := ⟨h.os, h.tape, h.output, h.size, fun k hk => h.block k hk (by simp)⟩
theorem Ext.of_below {w w' : World} (h : Below w.heap.size w w') : Ext w w' := ⟨h.os, h.tape, h.output, h.size, fun k hk _ => h.block k hk⟩
theorem Ext.heap {w w' : World} (h : Ext w w') {k : Nat} (hk : k < w.heap.size) : w'.heap[k]? = w.heap[k]? := h.block k hk (by simp)
theorem Ext.cell {w w' : World} (h : Ext w w') {a : Addr} {v : Value} (hc : w.cell? a = some v) : w'.cell? a = some v := World.grownBy.cell h hc (by simp)
theorem Ext.owns {w w' : World} (h : Ext w w') {base : Nat} {e : TypeId} {size : Nat} {v : Value} {n : Nat} {xs : List Value} (ho : w.ownsRow base e size v n xs) : w'.ownsRow base e size v n xs :=
 ho.kept h (by cases hv : v.ownBlock <;> simp)
theorem Ext.rules {W w1 : World} (h : Ext W w1) : (∀ b o, b < W.heap.size → w1.cell? ⟨b, o, none⟩ = W.cell? ⟨b, o, none⟩) ∧ (∀ b o, b < W.heap.size → w1.frozen? ⟨b, o, none⟩ = W.frozen? ⟨b, o, none⟩) :=
 ⟨fun b o hb => h.below.cell (p := ⟨b, o, none⟩) hb, fun b o hb => h.below.frozen (p := ⟨b, o, none⟩) hb⟩
theorem Ext.setCell {w w' : World} (h : Ext w w') {a : Addr} (hp : w.heap.size ≤ a.block) (u : Value) : Ext w (w'.setCell a u) := Ext.of_below (h.below.setCell hp u)
theorem zf {w : World} {base : Nat} {e : TypeId} {size : Nat} {v : Value} {n : Nat} {xs : List Value} (ho : w.ownsRow base e size v n xs) {a : Addr} (hne : v.ownBlock ≠ some a.block) (u : Value) : (w.setCell a u).ownsRow base e size v n xs :=
 ho.kept (row := some a.block) ⟨rfl, rfl, rfl, by simp, fun k _ hk => Below.heap_setCell _ _ _ _ (fun e => hk (by rw [e]))⟩ (.inr hne)
theorem zas {w : World} {base base' : Nat} {e : TypeId} {size : Nat} {v : Value} {n : Nat} {xs : List Value} (ho : w.ownsRow base e size v n xs) (hb : base' ≤ base) : w.ownsRow base' e size v n xs := by
 refine ⟨ho.1, ?_⟩
 rcases ho.2 with h | ⟨g, cap, cur, h1, h2, h3⟩
 ·exact .inl h
 ·exact .inr ⟨g, cap, cur, h1, by omega, h3⟩
def zag (w : World) (k : IntKind) (v : Value) (zs : List Int) : Prop :=
 ∃ ao cap, v = .slice ao zs.length cap ∧ zs.length ≤ cap ∧ (0 < zs.length → ∃ b off, ao = some ⟨b, off, none⟩ ∧ ∀ j, j < zs.length → w.cell? ⟨b, off + j, none⟩ = some (.int k (at0 zs j)))
theorem zag.ext {w w' : World} {k : IntKind} {v : Value} {zs : List Int} (h : zag w k v zs) (he : Ext w w') : zag w' k v zs := by
 obtain ⟨ao, cap, e, hc, hr⟩ := h
 exact ⟨ao, cap, e, hc, fun hp => by obtain ⟨b, off, e2, hcell⟩ := hr hp; exact ⟨b, off, e2, fun j hj => he.cell (hcell j hj)⟩⟩
theorem zaf {w : World} {base : Nat} {e : TypeId} {k : IntKind} {v : Value} {zs : List Int} (h : w.ownsRow base e 1 v zs.length (zs.map (Value.int k))) : zag w k v zs := by
 rcases h.2 with ⟨rfl, h0⟩ | ⟨g, cap, cur, rfl, hb, hg, hn, hm, hs, ht⟩
 ·exact ⟨none, 0, by rw [h0], by omega, fun hp => by omega⟩
 ·refine ⟨_, cap, rfl, hn, fun _ => ⟨g, 0, rfl, fun j hj => ?_⟩⟩
  rw [Nat.zero_add, h.cellAt j (by omega)]
  simp [at0, hj]
def zbv (xs : List Int) : Prop := ∀ x ∈ xs, -2147483648 ≤ x ∧ x ≤ 2147483647
theorem zbv.at0 {xs : List Int} (h : zbv xs) (i : Nat) : -2147483648 ≤ at0 xs i ∧ at0 xs i ≤ 2147483647 := by
 unfold Go.Proofs.YtmlkpdbfnffoaaaGreatDoor.at0
 cases hi : xs[i]? with
 | none => simp
 | some x => exact h x (List.mem_of_getElem? hi)
theorem zbg (s : ByteArray) : s.toList = s.data.toList := by
 have aux : ∀ (n i : Nat) (r : List UInt8), s.size - i = n → ByteArray.toList.loop s i r = r.reverse ++ s.data.toList.drop i := by
  intro n
  induction n with
  | zero =>
   intro i r h
   rw [ByteArray.toList.loop]
   rw [if_neg (by omega)]
   have : s.data.toList.length = s.size := by rw [Array.length_toList]; rfl
   rw [List.drop_eq_nil_of_le (by omega), List.append_nil]
  | succ n ih =>
   intro i r h
   have hl : s.data.toList.length = s.size := by rw [Array.length_toList]; rfl
   rw [ByteArray.toList.loop]
   rw [if_pos (by omega), ih (i + 1) _ (by omega)]
   have h2 : i < s.data.toList.length := by omega
   rw [List.drop_eq_getElem_cons h2]
   have h3 : s.get! i = s.data.toList[i] := by
    show s.data[i]! = _
    rw [getElem!_pos s.data i (by simpa using h2)]
    simp
   rw [h3]
   simp
 have := aux s.size 0 [] (by omega)
 unfold ByteArray.toList
 rw [this]
 simp
def zv (ns : List Int) : ByteArray := ns.foldl (fun r n => r.push (UInt8.ofNat n.toNat)) ByteArray.empty
theorem zkz (ns : List Int) : ∀ s : ByteArray, (ns.foldl (fun r n => r.push (UInt8.ofNat n.toNat)) s).data.toList = s.data.toList ++ ns.map (fun n => UInt8.ofNat n.toNat) := by
 induction ns with
 | nil => intro s; simp
 | cons n ns ih => intro s; rw [List.foldl_cons, ih]; simp
theorem zbq (ns : List Int) : (zv ns).data.toList = ns.map (fun n => UInt8.ofNat n.toNat) := by
 rw [zv, zkz]; rfl
theorem zai (ns : List Int) : (zv ns).size = ns.length := by
 have := congrArg List.length (zbq ns)
 simpa using this
def zaj (ns : List Int) : Prop := ∀ n ∈ ns, 0 ≤ n ∧ n ≤ 255
theorem zaj.at0 {ns : List Int} (h : zaj ns) (i : Nat) : 0 ≤ at0 ns i ∧ at0 ns i ≤ 255 := by
 unfold Go.Proofs.YtmlkpdbfnffoaaaGreatDoor.at0
 cases hi : ns[i]? with
 | none => simp
 | some x => exact h x (List.mem_of_getElem? hi)
theorem zaj.drop {ns : List Int} (h : zaj ns) (i : Nat) : zaj (ns.drop i) := fun n hn => h n (List.mem_of_mem_drop hn)
theorem zbU (ns : List Int) (i j : Nat) : at0 (ns.drop i) j = at0 ns (i + j) := by simp [at0]
theorem zcX (ns : List Int) (h : zaj ns) (i : Nat) : ((zv ns).get! i).toNat = (at0 ns i).toNat := by
 have hb := h.at0 i
 have e : (zv ns).get! i = ((zv ns).data.toList[i]?).getD 0 := by
  show (zv ns).data[i]! = _
  rw [getElem!_def]
  rw [Array.getElem?_toList]
  cases (zv ns).data[i]? <;> rfl
 rw [e, zbq]
 unfold at0 at hb ⊢
 cases hi : ns[i]? with
 | none => simp [hi]
 | some x =>
  simp only [hi, Option.getD_some] at hb
  simp [hi]
  omega
def zaP (l : List Int) (k : Nat) : Bool := decide (k < l.length) && decide (128 ≤ at0 l k) && decide (at0 l k ≤ 191)
def v2 (l : List Int) : Int := at0 l 0 % 32 * 64 + at0 l 1 - 128
def v3 (l : List Int) : Int := (at0 l 0 % 16 * 64 + at0 l 1 - 128) * 64 + at0 l 2 - 128
def v4 (l : List Int) : Int := ((at0 l 0 % 8 * 64 + at0 l 1 - 128) * 64 + at0 l 2 - 128) * 64 + at0 l 3 - 128
def za1 (l : List Int) : Int × Nat :=
 if at0 l 0 < 128 then (at0 l 0, 1)
 else if (192 ≤ at0 l 0 ∧ at0 l 0 < 224) ∧ zaP l 1 = true then (if 128 ≤ v2 l then (v2 l, 2) else (65533, 1))
 else if (224 ≤ at0 l 0 ∧ at0 l 0 < 240) ∧ zaP l 1 = true ∧ zaP l 2 = true then (if 2048 ≤ v3 l ∧ Utf8.valid (v3 l) = true then (v3 l, 3) else (65533, 1))
 else if (240 ≤ at0 l 0 ∧ at0 l 0 < 248) ∧ zaP l 1 = true ∧ zaP l 2 = true ∧ zaP l 3 = true then (if 65536 ≤ v4 l ∧ Utf8.valid (v4 l) = true then (v4 l, 4) else (65533, 1))
 else (65533, 1)
theorem zgI (bs : List Int) (h : zaj bs) (i k : Nat) : (decide (i + k < (zv bs).size) && ((at0 bs (i + k)).toNat / 64 == 2)) = zaP (bs.drop i) k := by
 have hb := h.at0 (i + k)
 rw [zai]
 unfold zaP
 rw [zbU]
 rw [Bool.eq_iff_iff]
 simp
 omega
def zfu (n0 n1 n2 n3 : Nat) (C1 C2 C3 : Bool) : Nat × Nat :=
 if n0 < 128 then (n0, 1)
 else if (n0 / 32 == 6 && C1) = true then (if n0 % 32 * 64 + n1 % 64 ≥ 128 then (n0 % 32 * 64 + n1 % 64, 2) else (Utf8.runeError, 1))
 else if (n0 / 16 == 14 && C1 && C2) = true then (if (decide (n0 % 16 * 4096 + n1 % 64 * 64 + n2 % 64 ≥ 2048) && Utf8.valid ((n0 % 16 * 4096 + n1 % 64 * 64 + n2 % 64 : Nat) : Int)) = true then (n0 % 16 * 4096 + n1 % 64 * 64 + n2 % 64, 3) else (Utf8.runeError, 1))
 else if (n0 / 8 == 30 && C1 && C2 && C3) = true then (if (decide (n0 % 8 * 262144 + n1 % 64 * 4096 + n2 % 64 * 64 + n3 % 64 ≥ 65536) && Utf8.valid ((n0 % 8 * 262144 + n1 % 64 * 4096 + n2 % 64 * 64 + n3 % 64 : Nat) : Int)) = true then (n0 % 8 * 262144 + n1 % 64 * 4096 + n2 % 64 * 64 + n3 % 64, 4) else (Utf8.runeError, 1))
 else (Utf8.runeError, 1)
def decI (x0 x1 x2 x3 : Int) (C1 C2 C3 : Bool) : Int × Nat :=
 if x0 < 128 then (x0, 1)
 else if (192 ≤ x0 ∧ x0 < 224) ∧ C1 = true then (if 128 ≤ x0 % 32 * 64 + x1 - 128 then (x0 % 32 * 64 + x1 - 128, 2) else (65533, 1))
 else if (224 ≤ x0 ∧ x0 < 240) ∧ C1 = true ∧ C2 = true then (if 2048 ≤ (x0 % 16 * 64 + x1 - 128) * 64 + x2 - 128 ∧ Utf8.valid ((x0 % 16 * 64 + x1 - 128) * 64 + x2 - 128) = true then ((x0 % 16 * 64 + x1 - 128) * 64 + x2 - 128, 3) else (65533, 1))
 else if (240 ≤ x0 ∧ x0 < 248) ∧ C1 = true ∧ C2 = true ∧ C3 = true then (if 65536 ≤ ((x0 % 8 * 64 + x1 - 128) * 64 + x2 - 128) * 64 + x3 - 128 ∧ Utf8.valid (((x0 % 8 * 64 + x1 - 128) * 64 + x2 - 128) * 64 + x3 - 128) = true then (((x0 % 8 * 64 + x1 - 128) * 64 + x2 - 128) * 64 + x3 - 128, 4) else (65533, 1))
 else (65533, 1)
theorem decN_is (n0 n1 n2 n3 : Nat) (C1 C2 C3 : Bool) (b0 : n0 ≤ 255) (k1 : C1 = true → 128 ≤ n1 ∧ n1 ≤ 191) (k2 : C2 = true → 128 ≤ n2 ∧ n2 ≤ 191) (k3 : C3 = true → 128 ≤ n3 ∧ n3 ≤ 191) :
  (((zfu n0 n1 n2 n3 C1 C2 C3).1 : Int), (zfu n0 n1 n2 n3 C1 C2 C3).2) = decI n0 n1 n2 n3 C1 C2 C3 := by
 by_cases hA : n0 < 128
 ·have l : zfu n0 n1 n2 n3 C1 C2 C3 = (n0, 1) := by unfold zfu; rw [if_pos hA]
  rw [l]; unfold decI; rw [if_pos (by omega)]
 by_cases hB : (192 ≤ n0 ∧ n0 < 224) ∧ C1 = true
 ·have k := k1 hB.2
  have e : (((n0 % 32 * 64 + n1 % 64 : Nat)) : Int) = (n0 : Int) % 32 * 64 + (n1 : Int) - 128 := by omega
  have l : zfu n0 n1 n2 n3 C1 C2 C3 = if n0 % 32 * 64 + n1 % 64 ≥ 128 then (n0 % 32 * 64 + n1 % 64, 2) else (Utf8.runeError, 1) := by
   unfold zfu; rw [if_neg hA, if_pos (by simp [hB.2]; omega)]
  rw [l]; unfold decI; rw [if_neg (show ¬ ((n0 : Int) < 128) by omega), if_pos (show (192 ≤ (n0 : Int) ∧ (n0 : Int) < 224) ∧ C1 = true from ⟨by omega, hB.2⟩), ← e]
  by_cases hv : n0 % 32 * 64 + n1 % 64 ≥ 128
  ·rw [if_pos hv, if_pos (by omega)]
  ·rw [if_neg hv, if_neg (by omega)]; rfl
 have nB : ¬ ((n0 / 32 == 6 && C1) = true) := by
  intro hh; simp at hh; exact hB ⟨by omega, hh.2⟩
 have nB' : ¬ ((192 ≤ (n0 : Int) ∧ (n0 : Int) < 224) ∧ C1 = true) := fun hh => hB ⟨by omega, hh.2⟩
 by_cases hC : (224 ≤ n0 ∧ n0 < 240) ∧ C1 = true ∧ C2 = true
 ·have j1 := k1 hC.2.1
  have j2 := k2 hC.2.2
  have e : (((n0 % 16 * 4096 + n1 % 64 * 64 + n2 % 64 : Nat)) : Int) = ((n0 : Int) % 16 * 64 + (n1 : Int) - 128) * 64 + (n2 : Int) - 128 := by omega
  have l : zfu n0 n1 n2 n3 C1 C2 C3 = if (decide (n0 % 16 * 4096 + n1 % 64 * 64 + n2 % 64 ≥ 2048) && Utf8.valid ((n0 % 16 * 4096 + n1 % 64 * 64 + n2 % 64 : Nat) : Int)) = true then (n0 % 16 * 4096 + n1 % 64 * 64 + n2 % 64, 3) else (Utf8.runeError, 1) := by
   unfold zfu; rw [if_neg hA, if_neg nB, if_pos (by simp [hC.2.1, hC.2.2]; omega)]
  rw [l]; unfold decI; rw [if_neg (show ¬ ((n0 : Int) < 128) by omega), if_neg nB', if_pos (show (224 ≤ (n0 : Int) ∧ (n0 : Int) < 240) ∧ C1 = true ∧ C2 = true from ⟨by omega, hC.2⟩), ← e]
  by_cases hv : n0 % 16 * 4096 + n1 % 64 * 64 + n2 % 64 ≥ 2048 ∧ Utf8.valid ((n0 % 16 * 4096 + n1 % 64 * 64 + n2 % 64 : Nat) : Int) = true
  ·rw [if_pos (by simp only [Bool.and_eq_true, decide_eq_true_eq]; exact hv), if_pos ⟨by omega, hv.2⟩]
  ·rw [if_neg (by simp only [Bool.and_eq_true, decide_eq_true_eq]; exact hv), if_neg (by intro hh; exact hv ⟨by omega, hh.2⟩)]; rfl
 have nC : ¬ ((n0 / 16 == 14 && C1 && C2) = true) := by
  intro hh; simp at hh; exact hC ⟨by omega, hh.1.2, hh.2⟩
 have nC' : ¬ ((224 ≤ (n0 : Int) ∧ (n0 : Int) < 240) ∧ C1 = true ∧ C2 = true) := fun hh => hC ⟨by omega, hh.2⟩
 by_cases hD : (240 ≤ n0 ∧ n0 < 248) ∧ C1 = true ∧ C2 = true ∧ C3 = true
 ·have j1 := k1 hD.2.1
  have j2 := k2 hD.2.2.1
  have j3 := k3 hD.2.2.2
  have e : (((n0 % 8 * 262144 + n1 % 64 * 4096 + n2 % 64 * 64 + n3 % 64 : Nat)) : Int) = (((n0 : Int) % 8 * 64 + (n1 : Int) - 128) * 64 + (n2 : Int) - 128) * 64 + (n3 : Int) - 128 := by omega
  have l : zfu n0 n1 n2 n3 C1 C2 C3 = if (decide (n0 % 8 * 262144 + n1 % 64 * 4096 + n2 % 64 * 64 + n3 % 64 ≥ 65536) && Utf8.valid ((n0 % 8 * 262144 + n1 % 64 * 4096 + n2 % 64 * 64 + n3 % 64 : Nat) : Int)) = true then (n0 % 8 * 262144 + n1 % 64 * 4096 + n2 % 64 * 64 + n3 % 64, 4) else (Utf8.runeError, 1) := by
   unfold zfu; rw [if_neg hA, if_neg nB, if_neg nC, if_pos (by simp [hD.2.1, hD.2.2.1, hD.2.2.2]; omega)]
  rw [l]; unfold decI; rw [if_neg (show ¬ ((n0 : Int) < 128) by omega), if_neg nB', if_neg nC', if_pos (show (240 ≤ (n0 : Int) ∧ (n0 : Int) < 248) ∧ C1 = true ∧ C2 = true ∧ C3 = true from ⟨by omega, hD.2⟩), ← e]
  by_cases hv : n0 % 8 * 262144 + n1 % 64 * 4096 + n2 % 64 * 64 + n3 % 64 ≥ 65536 ∧ Utf8.valid ((n0 % 8 * 262144 + n1 % 64 * 4096 + n2 % 64 * 64 + n3 % 64 : Nat) : Int) = true
  ·rw [if_pos (by simp only [Bool.and_eq_true, decide_eq_true_eq]; exact hv), if_pos ⟨by omega, hv.2⟩]
  ·rw [if_neg (by simp only [Bool.and_eq_true, decide_eq_true_eq]; exact hv), if_neg (by intro hh; exact hv ⟨by omega, hh.2⟩)]; rfl
 have nD : ¬ ((n0 / 8 == 30 && C1 && C2 && C3) = true) := by
  intro hh; simp at hh; exact hD ⟨by omega, hh.1.1.2, hh.1.2, hh.2⟩
 have nD' : ¬ ((240 ≤ (n0 : Int) ∧ (n0 : Int) < 248) ∧ C1 = true ∧ C2 = true ∧ C3 = true) := fun hh => hD ⟨by omega, hh.2⟩
 have l : zfu n0 n1 n2 n3 C1 C2 C3 = (Utf8.runeError, 1) := by unfold zfu; rw [if_neg hA, if_neg nB, if_neg nC, if_neg nD]
 rw [l]; unfold decI; rw [if_neg (show ¬ ((n0 : Int) < 128) by omega), if_neg nB', if_neg nC', if_neg nD']; rfl
theorem zeb (bs : List Int) (h : zaj bs) (i : Nat) : (((Utf8.decode (zv bs) i).1 : Int), (Utf8.decode (zv bs) i).2) = za1 (bs.drop i) := by
 have b0 := h.at0 (i + 0)
 have b1 := h.at0 (i + 1)
 have b2 := h.at0 (i + 2)
 have b3 := h.at0 (i + 3)
 have e1 : Utf8.decode (zv bs) i = zfu (at0 bs (i + 0)).toNat (at0 bs (i + 1)).toNat (at0 bs (i + 2)).toNat (at0 bs (i + 3)).toNat (zaP (bs.drop i) 1) (zaP (bs.drop i) 2) (zaP (bs.drop i) 3) := by
  rw [← zgI bs h i 1, ← zgI bs h i 2, ← zgI bs h i 3, ← zcX bs h (i + 0), ← zcX bs h (i + 1), ← zcX bs h (i + 2), ← zcX bs h (i + 3)]
  rfl
 have k1 : zaP (bs.drop i) 1 = true → 128 ≤ (at0 bs (i + 1)).toNat ∧ (at0 bs (i + 1)).toNat ≤ 191 := by intro hc; simp [zaP, zbU] at hc; omega
 have k2 : zaP (bs.drop i) 2 = true → 128 ≤ (at0 bs (i + 2)).toNat ∧ (at0 bs (i + 2)).toNat ≤ 191 := by intro hc; simp [zaP, zbU] at hc; omega
 have k3 : zaP (bs.drop i) 3 = true → 128 ≤ (at0 bs (i + 3)).toNat ∧ (at0 bs (i + 3)).toNat ≤ 191 := by intro hc; simp [zaP, zbU] at hc; omega
 rw [e1, decN_is _ _ _ _ _ _ _ (by omega) k1 k2 k3, Int.toNat_of_nonneg b0.1, Int.toNat_of_nonneg b1.1, Int.toNat_of_nonneg b2.1, Int.toNat_of_nonneg b3.1]
 simp only [decI, za1, v2, v3, v4, zbU]
def zgF (c : Int) : Nat := if c < 128 then 1 else if c < 192 ∨ 248 ≤ c then 0 else if c < 224 then 2 else if c < 240 then 3 else 4
def zcc (l : List Int) (n : Nat) : Int :=
 if n = 1 then at0 l 0
 else if n = 2 then (if zaP l 1 = true then v2 l else -1)
 else if n = 3 then (if zaP l 1 = true ∧ zaP l 2 = true then v3 l else -1)
 else (if zaP l 1 = true ∧ zaP l 2 = true ∧ zaP l 3 = true then v4 l else -1)
def zbm (v : Int) : List Int :=
 if v < 128 then [v] else if v < 2048 then [192 + v / 64, 128 + v % 64] else if v < 65536 then [224 + v / 4096, 128 + v / 64 % 64, 128 + v % 64]
 else [240 + v / 262144, 128 + v / 4096 % 64, 128 + v / 64 % 64, 128 + v % 64]
theorem zg0 (v : Int) (h0 : 0 ≤ v) (h1 : v ≤ 2097151) : zaj (zbm v) := by
 intro n hn
 unfold zbm at hn
 split at hn
 ·simp at hn; omega
 ·split at hn
  ·simp at hn; omega
  ·split at hn <;> simp at hn <;> omega
theorem zgG {xs ys : List Int} (hx : zaj xs) (hy : zaj ys) (h : zv xs = zv ys) : xs = ys := by
 have hl : xs.length = ys.length := by rw [← zai, ← zai, h]
 apply List.ext_getElem hl
 intro i h1 h2
 have e := zcX xs hx i
 rw [h, zcX ys hy i] at e
 have a := hx.at0 i
 have b := hy.at0 i
 have : at0 xs i = at0 ys i := by omega
 simpa [at0, h1, h2] using this
theorem zcL {r : Int} (h : Utf8.valid r = true) : 0 ≤ r ∧ r ≤ 1114111 := by
 simp [Utf8.valid] at h; omega
theorem zbr {l : List Int} {k : Nat} (h : zaP l k = true) : k < l.length ∧ 128 ≤ at0 l k ∧ at0 l k ≤ 191 := by
 simp [zaP] at h; omega
theorem take_at (l : List Int) : ∀ n, n ≤ l.length → l.take n = (List.range n).map (at0 l) := by
 intro n hn
 apply List.ext_getElem (by simp; omega)
 intro i h1 h2
 simp at h1 h2
 simp [at0, show i < l.length by omega]
theorem zj5 (l : List Int) (hb : zaj l) (h : zgF (at0 l 0) = 0 ∨ l.length < zgF (at0 l 0)) (hne : 0 < l.length) : za1 l = (65533, 1) := by
 have b0 := hb.at0 0
 unfold zgF at h
 unfold za1
 by_cases hA : at0 l 0 < 128
 ·rw [if_pos hA] at h; omega
 rw [if_neg hA]
 rw [if_neg hA] at h
 by_cases hB : at0 l 0 < 192 ∨ 248 ≤ at0 l 0
 ·rw [if_neg (by omega), if_neg (by omega), if_neg (by omega)]
 rw [if_neg hB] at h
 by_cases hC : at0 l 0 < 224
 ·rw [if_pos hC] at h
  rw [if_neg (by intro hh; have := zbr hh.2; omega), if_neg (by omega), if_neg (by omega)]
 rw [if_neg hC] at h
 by_cases hD : at0 l 0 < 240
 ·rw [if_pos hD] at h
  rw [if_neg (by omega), if_neg (by intro hh; have := zbr hh.2.2; omega), if_neg (by omega)]
 rw [if_neg hD] at h
 rw [if_neg (by omega), if_neg (by omega), if_neg (by intro hh; have := zbr hh.2.2.2; omega)]
theorem zlx (l : List Int) (hb : zaj l) (n : Nat) (hn : n = zgF (at0 l 0)) (h1 : 1 ≤ n) (h2 : n ≤ l.length) :
  (Utf8.valid (zcc l n) = false → za1 l = (65533, 1)) ∧
  (Utf8.valid (zcc l n) = true → ¬ zbm (zcc l n) = l.take n → za1 l = (65533, 1)) ∧
  (Utf8.valid (zcc l n) = true → zbm (zcc l n) = l.take n → za1 l = (zcc l n, n)) := by
 have b0 := hb.at0 0
 have ht := take_at l n h2
 have neg : Utf8.valid (-1) = true → False := by decide
 unfold zgF at hn
 unfold za1
 by_cases hA : at0 l 0 < 128
 ·rw [if_pos hA] at hn
  subst hn
  have e : zcc l 1 = at0 l 0 := by simp [zcc]
  rw [e, if_pos hA]
  have hv : Utf8.valid (at0 l 0) = true := by simp [Utf8.valid]; omega
  have he : zbm (at0 l 0) = l.take 1 := by rw [ht]; simp [zbm, hA, List.range_succ]
  exact ⟨by rw [hv]; simp, fun _ h => absurd he h, fun _ _ => rfl⟩
 rw [if_neg hA] at hn ⊢
 by_cases hB : at0 l 0 < 192 ∨ 248 ≤ at0 l 0
 ·rw [if_pos hB] at hn; omega
 rw [if_neg hB] at hn
 by_cases hC : at0 l 0 < 224
 ·rw [if_pos hC] at hn
  subst hn
  have e : zcc l 2 = if zaP l 1 = true then v2 l else -1 := by simp [zcc]
  rw [e]
  by_cases hc : zaP l 1 = true
  ·obtain ⟨_, c1, c2⟩ := zbr hc
   rw [if_pos hc, if_pos (show (192 ≤ at0 l 0 ∧ at0 l 0 < 224) ∧ zaP l 1 = true from ⟨by omega, hc⟩)]
   have hv : Utf8.valid (v2 l) = true := by
    have : 0 ≤ v2 l ∧ v2 l < 2048 := by unfold v2; omega
    simp [Utf8.valid]; omega
   rw [ht]
   refine ⟨by rw [hv]; simp, fun _ h => ?_, fun _ h => ?_⟩
   ·rw [if_neg]
    intro h3
    apply h
    unfold v2 at h3 ⊢
    rw [zbm, if_neg (by omega), if_pos (by omega)]
    simp [List.range_succ]; omega
   ·rw [if_pos]
    have hl := congrArg List.length h
    unfold zbm at hl
    split at hl
    ·simp at hl
    ·omega
  ·rw [if_neg hc, if_neg (by intro hh; exact hc hh.2), if_neg (by omega), if_neg (by omega)]
   exact ⟨fun _ => rfl, fun h => absurd h neg, fun h => absurd h neg⟩
 rw [if_neg hC] at hn
 rw [if_neg (by omega)]
 by_cases hD : at0 l 0 < 240
 ·rw [if_pos hD] at hn
  subst hn
  have e : zcc l 3 = if zaP l 1 = true ∧ zaP l 2 = true then v3 l else -1 := by simp [zcc]
  rw [e]
  by_cases hc : zaP l 1 = true ∧ zaP l 2 = true
  ·obtain ⟨_, c1, c2⟩ := zbr hc.1
   obtain ⟨_, c3, c4⟩ := zbr hc.2
   rw [if_pos hc, if_pos (show (224 ≤ at0 l 0 ∧ at0 l 0 < 240) ∧ zaP l 1 = true ∧ zaP l 2 = true from ⟨by omega, hc⟩)]
   rw [ht]
   refine ⟨fun h => by rw [if_neg (by rw [h]; simp)], fun hv h => ?_, fun hv h => ?_⟩
   ·rw [if_neg]
    rintro ⟨h3, _⟩
    apply h
    unfold v3 at h3 ⊢
    rw [zbm, if_neg (by omega), if_neg (by omega), if_pos (by omega)]
    simp [List.range_succ]; omega
   ·rw [if_pos]
    refine ⟨?_, hv⟩
    have hl := congrArg List.length h
    unfold zbm at hl
    split at hl
    ·simp at hl
    ·split at hl
     ·simp at hl
     ·omega
  ·rw [if_neg hc, if_neg (by intro hh; exact hc hh.2), if_neg (by omega)]
   exact ⟨fun _ => rfl, fun h => absurd h neg, fun h => absurd h neg⟩
 rw [if_neg hD] at hn
 rw [if_neg (by omega)]
 subst hn
 have e : zcc l 4 = if zaP l 1 = true ∧ zaP l 2 = true ∧ zaP l 3 = true then v4 l else -1 := by simp [zcc]
 rw [e]
 by_cases hc : zaP l 1 = true ∧ zaP l 2 = true ∧ zaP l 3 = true
 ·obtain ⟨_, c1, c2⟩ := zbr hc.1
  obtain ⟨_, c3, c4⟩ := zbr hc.2.1
  obtain ⟨_, c5, c6⟩ := zbr hc.2.2
  rw [if_pos hc, if_pos (show (240 ≤ at0 l 0 ∧ at0 l 0 < 248) ∧ zaP l 1 = true ∧ zaP l 2 = true ∧ zaP l 3 = true from ⟨by omega, hc⟩)]
  rw [ht]
  refine ⟨fun h => by rw [if_neg (by rw [h]; simp)], fun hv h => ?_, fun hv h => ?_⟩
  ·rw [if_neg]
   rintro ⟨h3, _⟩
   apply h
   unfold v4 at h3 ⊢
   rw [zbm, if_neg (by omega), if_neg (by omega), if_neg (by omega)]
   simp [List.range_succ]; omega
  ·rw [if_pos]
   refine ⟨?_, hv⟩
   have hl := congrArg List.length h
   unfold zbm at hl
   split at hl
   ·simp at hl
   ·split at hl
    ·simp at hl
    ·split at hl
     ·simp at hl
     ·omega
 ·rw [if_neg hc, if_neg (by intro hh; exact hc hh.2)]
  exact ⟨fun _ => rfl, fun h => absurd h neg, fun h => absurd h neg⟩
theorem zbE (l : List Int) : 1 ≤ (za1 l).2 := by
 unfold za1
 repeat' split
 all_goals simp
theorem zfa (l : List Int) (h : 0 < l.length) : (za1 l).2 ≤ l.length := by
 unfold za1
 repeat' split
 all_goals simp
 all_goals first | omega | (rename_i hh _ ; have := zbr hh.2; omega) | (rename_i hh _ ; have := zbr hh.2.2; omega) | (rename_i hh _ ; have := zbr hh.2.2.2; omega)
def zaa (r : Int) : Int := if Utf8.valid r = false ∨ r < 32 ∨ (127 ≤ r ∧ r ≤ 159) then 65533 else r
theorem zcH (r : Int) : 0 ≤ zaa r ∧ zaa r ≤ 1114111 := by
 unfold zaa
 split
 ·omega
 ·rename_i h
  have hv : Utf8.valid r = true := by
   cases hv : Utf8.valid r
   ·exact absurd (.inl hv) h
   ·rfl
  exact zcL hv
def zbd (r : Int) : Int := if r = 9 then 32 else zaa r
def zbt : Nat → List Int → List Int
 | 0, _ => []
 | f + 1, l => if l.length = 0 then [] else zbd (za1 l).1 :: zbt f (l.drop (za1 l).2)
theorem zf2 : ∀ (f g : Nat) (l : List Int), l.length ≤ f → l.length ≤ g → zbt f l = zbt g l
 | 0, 0, _, _, _ => rfl
 | 0, g + 1, l, h, _ => by simp [zbt]; exact List.eq_nil_of_length_eq_zero (by omega)
 | f + 1, 0, l, _, h => by simp [zbt]; exact List.eq_nil_of_length_eq_zero (by omega)
 | f + 1, g + 1, l, h, k => by
  simp only [zbt]
  split
  ·rfl
  ·have := zbE l
   rw [zf2 f g _ (by simp; omega) (by simp; omega)]
def zp (l : List Int) : List Int := zbt l.length l
theorem zhg (l : List Int) (h : l.length = 0) : zp l = [] := by
 have e : l = [] := List.eq_nil_of_length_eq_zero h
 subst e; rfl
theorem zf5 (l : List Int) (h : 0 < l.length) : zp l = zbd (za1 l).1 :: zp (l.drop (za1 l).2) := by
 have hp := zbE l
 unfold zp
 obtain ⟨m, hm⟩ : ∃ m, l.length = m + 1 := ⟨l.length - 1, by omega⟩
 rw [hm]
 simp only [zbt]
 rw [if_neg (by omega)]
 rw [zf2 m _ _ (by simp; omega) (Nat.le_refl _)]
theorem zaN (l : List Int) : (zp l).length ≤ l.length := by
 have : ∀ f (l : List Int), l.length ≤ f → (zbt f l).length ≤ l.length := by
  intro f
  induction f with
  | zero => intro l _; simp [zbt]
  | succ f ih =>
   intro l h
   simp only [zbt]
   split
   ·simp
   ·have hp := zbE l
    have := ih (l.drop (za1 l).2) (by simp; omega)
    simp at this ⊢
    omega
 exact this _ _ (Nat.le_refl _)
theorem zdF {P : Program} (w : World) (src dst e : TypeId) (hs : P.underlying src = some (.slice e)) (he : P.underlying e = some (.int .u8)) (hd : P.underlying dst = some .string)
  (v : Value) (zs : List Int) (h : zag w .u8 v zs) : (convert src dst v).run P w = .ok (.string (zv zs)) w := by
 obtain ⟨ao, cap, rfl, hcap, hr⟩ := h
 rw [run_convert_bytes_string w src dst e _ _ _ hs he hd]
 by_cases h0 : zs.length = 0
 ·have e0 : zs = [] := List.eq_nil_of_length_eq_zero h0
  subst e0
  cases ao with
  | none => rfl
  | some a => rfl
 ·obtain ⟨b, off, rfl, hc⟩ := hr (by omega)
  refine run_bytesToString w _ _ _ zs ?_
  have hl := run_loadCells_list (P := P) (w := w) ⟨b, off, none⟩ (zs.map (Value.int .u8)) (fun j v hj => by
   simp only [List.getElem?_map, Option.map_eq_some_iff] at hj
   obtain ⟨x, hx, rfl⟩ := hj
   have hjl : j < zs.length := (List.getElem?_eq_some_iff.1 hx).1
   have := hc j hjl
   rw [at0, hx] at this
   rw [Addr.add_lit]; simpa using this)
  simpa using hl
end Go.Proofs.YtmlkpdbfnffoaaaGreatDoor

namespace Go.Proofs.YtmlkpdbfnffoaaaGreatDoor
open Go.ChangeShapes Go.WideShapes Go.ChangeAt Go.RowKit
def zlp (P : Program) (ts : List TypeId) : Bool := ts.all fun t => P.readableRec t && decide (t < P.types.size)
theorem zem {H : Type} {enc : TypeId × Value → H} {P : Program} (hl : laidOutB P = true) {W W' : World} (hb : Below W.heap.size W W') :
  ∀ {ts : List TypeId} {vs : List Value} {ds : List (DataW H)} {ps : List MemPlace}, zlp P ts = true → DataW.TrodAll enc P W 0 (fun _ => true) true ts vs ds ps → DataW.TrodAll enc P W' 0 (fun b => decide (b < W.heap.size)) true ts vs ds ps
 | [], [], [], _, _, h => h
 | [], _ :: _, _, _, _, h => h.elim
 | [], [], _ :: _, _, _, h => h.elim
 | _ :: _, [], _, _, _, h => h.elim
 | _ :: _, _ :: _, [], _, _, h => h.elim
 | t :: ts, v :: vs, d :: ds, ps, hr, h => by
  have hlt := h.lt
  obtain ⟨p, q, h1, h2, e⟩ := h
  simp only [zlp, List.all_cons, Bool.and_eq_true, decide_eq_true_eq] at hr
  exact ⟨p, q, Below.trod hl hr.1.1 hr.1.2 h1 hb (fun x hx => hlt x (by rw [e]; simp [hx])), zem hl hb (by simpa [zlp] using hr.2) h2, e⟩
theorem zmY {H : Type} {enc : TypeId × Value → H} {P : Program} {f : Func} {s : ChangeSpec} {apart fresh handsOn : Bool} {bt : TypeId} {W W' : World} {args : Array Value} {ds gs : List (DataW H)} {before : List MemPlace}
  (hl : laidOutB P = true) (hr : zlp P f.params.toList = true) (hv : varsRowed P s.vars = true) (hres : f.resultTypes = #[bt]) (hbt : P.underlying bt = some .bool)
  (hW : DataW.Whole enc P f.params.toList s.vars apart W args.toList ds gs before)
  (hs : s.fn H (ds ++ gs) = { results := [.lit (.bool true)], args := ds, vars := gs }) (hb : Below W.heap.size W W') :
  s.post enc P f apart fresh handsOn false W args (.bool true) W' := by
 have hW' := hW
 obtain ⟨p, q, hA, hV, rfl, hfz, hnd⟩ := hW
 refine ⟨ds, gs, p ++ q, [], p, q, hW', ?_, ?_, ?_, hb.frame _, fun h => by cases h⟩
 ·rw [hs, hres]
  exact trodAll_mk1 (shut_bool hbt true)
 ·rw [hs]; exact zem hl hb hr hA
 ·rw [hs]; exact Below.trodVars hl hb hv hV
end Go.Proofs.YtmlkpdbfnffoaaaGreatDoor

namespace Go.Proofs.YtmlkpdbfnffoaaaGreatDoor
open Go.RowKit
theorem zk {W : World} {p : Nat} {cs : Array Value} {T : TypeId} {fz : Nat × Nat} (h : W.heap[p]? = some (.cells cs T fz)) (i : Nat) (x : Value) (hx : cs[i]? = some x) : W.cell? ⟨p, i, none⟩ = some x := by simp [World.cell?, h, hx]
theorem Ext.kept {W W' : World} {p : Nat} {o : Obj} (h : Ext W W') (hp : W.heap[p]? = some o) : W'.heap[p]? = some o := (h.heap (Array.getElem?_eq_some_iff.1 hp).1).trans hp
theorem Ext.hk {W W' : World} {p : Nat} {o : Obj} (h : Ext W W') (hp : Hid (W.heap[p]? = some o)) : Hid (W'.heap[p]? = some o) := zi (h.kept (zg hp))
theorem zn (w : World) (o : Obj) : (w.alloc o).heap[w.heap.size]? = some o := by unfold World.alloc; simp
end Go.Proofs.YtmlkpdbfnffoaaaGreatDoor
