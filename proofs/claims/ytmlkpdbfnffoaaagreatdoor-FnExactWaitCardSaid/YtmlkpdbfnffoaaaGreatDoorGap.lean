import Derived.Test.YtmlkpdbfnffoaaaGreatDoorEdW
import Derived.Laws.CopyRow
set_option maxHeartbeats 2000000
set_option maxRecDepth 10000
namespace Go.Proofs.YtmlkpdbfnffoaaaGreatDoor
open Go.RowKit
theorem zhM (cs : List (List Int × Int)) (j : Nat) (hj : j < cs.length) : zaq (cs.take (j + 1)) = zaq (cs.take j) ++ cR cs j := by
 rw [List.take_succ_eq_append_getElem hj, zbV]
 simp [zaq, cR, hj]
theorem zci (cs : List (List Int × Int)) : (zaq cs).length = zaL cs cs.length := by
 have h : ∀ k, k ≤ cs.length → (zaq (cs.take k)).length = zaL cs k := by
  intro k
  induction k with
  | zero => intro _; simp [zaq, zaL]
  | succ k ih => intro hk; rw [zhM cs k (by omega), List.length_append, ih (by omega), zaL]
 have := h cs.length (Nat.le_refl _)
 rwa [List.take_length] at this
theorem zbs (v : Value) (cs : List (List Int × Int)) (w : World) (hv : zaI w v cs) (hl : cs.length + zaL cs cs.length ≤ 16777216) :
  Calls Tryz.prog 324 #[v] w fun e w' => ∃ v', e = .returned v' ∧ w'.ownsRow w.heap.size 21 1 v' (zaq cs).length ((zaq cs).map (Value.int .i32)) ∧ Ext w w' := by
 obtain ⟨ii, hii, hi0, hi1, hi2⟩ := info_parts zcW
 obtain ⟨rs, ao, ca, rfl, hca, hr, hx⟩ := hv
 have HX := zi hx
 have HR := zi hr
 clear hx hr
 go_enter Tryz.func324, Tryz.ntmps324
 go_wp2
 go_loopw [3, 8] (fun o i wr => ∃ (j : Nat), j ≤ cs.length ∧ i = .int .i64 j ∧ Hid (wr.ownsRow w.heap.size 21 1 o (zaq (cs.take j)).length ((zaq (cs.take j)).map (Value.int .i32))) ∧ Ext w wr) (fun _ i _ => cs.length - (intOf i).toNat)
 case atStart => exact ⟨0, Nat.zero_le _, rfl, zi (by simpa [zaq] using zbp _ _ _ _), Ext.refl _⟩
 case round =>
  obtain ⟨j, hj, rfl, HO, hE⟩ := hrel
  by_cases hlt : j < cs.length
  ·obtain ⟨b, off, hao, hc⟩ := (zg HX) (by omega)
   subst hao
   have g1 := hE.cell (hc j hlt).1
   have g2 := hE.cell (hc j hlt).2
   have hIn := (zg HR) j hlt
   obtain ⟨ra, rc, hrv, _⟩ := id hIn
   rw [hrv] at g1 hIn
   have bj : (j : Int) < (cs.length : Int) := by omega
   have HSR := zi (fun W (E : Ext w W) => Src.ints (hIn.ext E))
   have hfl := zhM cs j hlt
   have HFL := zi hfl
   have hb1 : (zaq (cs.take j)).length ≤ 16777216 ∧ (cR cs j).length ≤ 16777216 := by
    have h1 := zci cs
    have h2 : (zaq cs).length = (zaq (cs.take (j + 1))).length + (zaq (cs.drop (j + 1))).length := by rw [← List.length_append, ← zbV, List.take_append_drop]
    rw [hfl, List.length_append] at h2
    omega
   clear hc hIn hrv hfl
   go_wp2_with (at_builtin; go_loud (
    refine zao rfl _ _ 100 rfl w.heap.size 21 ii (.int .i32 0) 1 4 Tryz.underlying100 hii hi0 hi1 hi2 rfl (by decide) _ (zaq (cs.take j)).length _ rfl ((zg HO).alloc _) _ (cR cs j).length ((cR cs j).map (Value.int .i32)) rfl ((zg HSR) _ (hE.alloc _)) (by unfold maxLen; omega) (by omega) (by have := hE.size; simp; omega) ?_
    intro v5 w5 o5 G5 _
    have E5 : Ext w w5 := (hE.alloc _).grown G5 (fun q hq => ((zg HO).lt q hq).1)
    rw [← List.length_append, ← List.map_append, ← zg HFL] at o5
    have HO5 := zi o5
    clear o5 G5))
   go_roundw
   case rel => exact ⟨j + 1, by omega, by go_num, HO5, E5⟩
   case measure => simp [intOf]; omega
  ·obtain rfl : j = cs.length := by omega
   have hb9 : ¬ (cs.length : Int) < (cs.length : Int) := by omega
   rw [List.take_length] at HO
   go_wp2
   go_ret
   exact ⟨_, rfl, zg HO, hE⟩
def zaZ (A B : Nat → Value) (n : Nat) : List Value := (List.range (n * 2)).map (fun q => if q % 2 = 0 then A (q / 2) else B (q / 2))
theorem zdH (A B : Nat → Value) (n : Nat) : (zaZ A B n).length = n * 2 := by simp [zaZ]
theorem zdp (A B : Nat → Value) (n j : Nat) (hj : j < n) : (zaZ A B n)[j * 2]? = some (A j) ∧ (zaZ A B n)[j * 2 + 1]? = some (B j) := by
 unfold zaZ
 constructor
 ·rw [List.getElem?_map, List.getElem?_range (by omega)]
  simp
 ·rw [List.getElem?_map, List.getElem?_range (by omega)]
  have h1 : (j * 2 + 1) % 2 = 1 := by omega
  have h2 : (j * 2 + 1) / 2 = j := by omega
  simp [h1, h2]
theorem zf9 {w : World} {A B : Nat → Value} {n b off : Nat} (h : ∀ j, j < n → w.cell? ⟨b, off + j * 2, none⟩ = some (A j) ∧ w.cell? ⟨b, off + j * 2 + 1, none⟩ = some (B j)) :
  ∀ j u, (zaZ A B n)[j]? = some u → w.cell? ((⟨b, off, none⟩ : Addr).add j) = some u := by
 intro j u hu
 rw [Addr.add_lit]
 have hj : j < n * 2 := by
  have := (List.getElem?_eq_some_iff.1 hu).1
  rwa [zdH] at this
 obtain ⟨h1, h2⟩ := zdp A B n (j / 2) (by omega)
 obtain ⟨c1, c2⟩ := h (j / 2) (by omega)
 by_cases e : j % 2 = 0
 ·have ej : j / 2 * 2 = j := by omega
  rw [ej] at h1 c1
  rw [h1] at hu
  rw [c1]
  exact hu
 ·have ej : j / 2 * 2 + 1 = j := by omega
  rw [ej] at h2
  rw [h2] at hu
  rw [Nat.add_assoc, ej] at c2
  rw [c2]
  exact hu
theorem zgw {A B : Nat → ByteArray} {n : Nat} : ∀ u ∈ zaZ (fun j => .string (A j)) (fun j => .string (B j)) n, u.oneCell' = true := by
 intro u hu
 simp only [zaZ, List.mem_map] at hu
 obtain ⟨q, _, rfl⟩ := hu
 split <;> rfl
def zbk (un : List (ByteArray × ByteArray)) (s : ByteArray × ByteArray) : List (ByteArray × ByteArray) := if 50 < un.length + 1 then (un ++ [s]).drop 1 else un ++ [s]
def unL (tx hf : Nat → ByteArray) (n : Nat) : List (ByteArray × ByteArray) := (List.range n).map (fun j => (tx j, hf j))
theorem zm1 (tx hf : Nat → ByteArray) (n : Nat) : unL tx hf (n + 1) = unL tx hf n ++ [(tx n, hf n)] := by unfold unL; rw [List.range_succ]; simp
theorem zca (tx hf : Nat → ByteArray) (n : Nat) : (unL tx hf n).length = n := by unfold unL; simp
def lnT (un : List (ByteArray × ByteArray)) (j : Nat) : ByteArray := ((un[j]?).getD (noT, noT)).1
def lnH (un : List (ByteArray × ByteArray)) (j : Nat) : ByteArray := ((un[j]?).getD (noT, noT)).2
theorem zdQ {un : List (ByteArray × ByteArray)} {j : Nat} {s : ByteArray × ByteArray} (h : un[j]? = some s) : lnT un j = s.1 := by simp [lnT, h]
theorem zd1 {un : List (ByteArray × ByteArray)} {j : Nat} {s : ByteArray × ByteArray} (h : un[j]? = some s) : lnH un j = s.2 := by simp [lnH, h]
theorem zcP (tx hf : Nat → ByteArray) {n j : Nat} (h : j < n) : (unL tx hf n)[j]? = some (tx j, hf j) := by simp [unL, h]
theorem lnT_un (tx hf : Nat → ByteArray) {n j : Nat} (h : j < n) : lnT (unL tx hf n) j = tx j := zdQ (zcP tx hf h)
theorem lnH_un (tx hf : Nat → ByteArray) {n j : Nat} (h : j < n) : lnH (unL tx hf n) j = hf j := zd1 (zcP tx hf h)
theorem ziW (A B : Nat → Value) (n : Nat) : zaZ A B (n + 1) = zaZ A B n ++ [A n, B n] := by
 unfold zaZ
 rw [show (n + 1) * 2 = n * 2 + 1 + 1 by omega, List.range_succ, List.range_succ]
 simp only [List.map_append, List.map_cons, List.map_nil, List.append_assoc]
 rw [show (n * 2) % 2 = 0 by omega, show (n * 2 + 1) % 2 = 1 by omega, show n * 2 / 2 = n by omega, show (n * 2 + 1) / 2 = n by omega]
 simp
theorem unL_eq (tx hf : Nat → ByteArray) (n : Nat) (un : List (ByteArray × ByteArray)) (h : un = unL tx hf n) : un.length = n := by rw [h, zca]
theorem zhK (un : List (ByteArray × ByteArray)) (s : ByteArray × ByteArray) (h : un.length ≤ 50) : (zbk un s).length ≤ 50 := by
 unfold zbk
 split
 ·simp; omega
 ·simp; omega
theorem ze6 {A B A' B' : Nat → Value} {n : Nat} (h : ∀ j, j < n → A j = A' j ∧ B j = B' j) : zaZ A B n = zaZ A' B' n := by
 unfold zaZ
 refine List.map_congr_left (fun q hq => ?_)
 have hq' : q < n * 2 := List.mem_range.1 hq
 have := h (q / 2) (by omega)
 split
 ·exact this.1
 ·exact this.2
def prL (un : List (ByteArray × ByteArray)) : List Value := zaZ (fun j => .string (lnT un j)) (fun j => .string (lnH un j)) un.length
theorem zi8 (un : List (ByteArray × ByteArray)) (s : ByteArray × ByteArray) : prL (un ++ [s]) = prL un ++ [.string s.1, .string s.2] := by
 unfold prL
 rw [List.length_append, List.length_singleton, ziW]
 have h0 : (un ++ [s])[un.length]? = some s := by simp
 rw [zdQ h0, zd1 h0]
 refine congrArg (· ++ _) (ze6 (fun j hj => ?_))
 have h1 : (un ++ [s])[j]? = un[j]? := List.getElem?_append_left hj
 simp [lnT, lnH, h1]
theorem prL_un (tx hf : Nat → ByteArray) (n : Nat) : prL (unL tx hf n) = zaZ (fun j => .string (tx j)) (fun j => .string (hf j)) n := by
 unfold prL
 rw [zca]
 exact ze6 (fun j hj => ⟨by rw [lnT_un tx hf hj], by rw [lnH_un tx hf hj]⟩)
theorem zm8 (un : List (ByteArray × ByteArray)) (j : Nat) : lnT (un.drop 1) j = lnT un (j + 1) := by simp [lnT]
theorem zmD (un : List (ByteArray × ByteArray)) (j : Nat) : lnH (un.drop 1) j = lnH un (j + 1) := by simp [lnH]
theorem prL_at (un : List (ByteArray × ByteArray)) (j : Nat) (hj : j < un.length) : (prL un)[j * 2]? = some (.string (lnT un j)) ∧ (prL un)[j * 2 + 1]? = some (.string (lnH un j)) := zdp _ _ _ j hj
theorem zlP {w : World} {base : Nat} {T : TypeId} {v : Value} {n : Nat} {A B : Nat → Value} (h : zaR w base T v n A B) : w.ownsRow base T 2 v n (zaZ A B n) := by
 obtain ⟨ys, h1, h2⟩ := h
 have hl : ys.length = n * 2 := h1.1
 have e : ys = zaZ A B n := by
  refine List.ext_getElem? (fun i => ?_)
  by_cases hi : i < n * 2
  ·obtain ⟨a1, a2⟩ := h2 (i / 2) (by omega)
   obtain ⟨b1, b2⟩ := zdp A B n (i / 2) (by omega)
   by_cases e : i % 2 = 0
   ·rw [show i / 2 * 2 = i by omega] at a1 b1
    rw [a1, b1]
   ·rw [show i / 2 * 2 + 1 = i by omega] at a2 b2
    rw [a2, b2]
  ·rw [List.getElem?_eq_none (by omega), List.getElem?_eq_none (by rw [zdH]; omega)]
 rw [← e]
 exact h1
theorem zmR {c : List Int × Int} (h : zbD c) : c.1 ≠ [] := by
 intro e
 unfold zbD at h
 rw [e] at h
 simp at h
theorem zmw (L : List Int) : ∀ c ∈ zd L, zbD c := zco _
def skF (p : Nat → Bool) (n : Nat) : Nat → Nat → Nat
  | 0, i => i
  | f + 1, i => if i < n ∧ p i = true then skF p n f (i + 1) else i
def wdN (p : Nat → Bool) (n : Nat) : Nat := skF (fun j => !p j) n n (skF p n n 0)
theorem Wd.le {p : Nat → Bool} {n r : Nat} (h : Wd p n r) : r ≤ n := by
 obtain ⟨m, _, h2⟩ := h
 exact h2.2.1
def wdR (cs : List (List Int × Int)) : Nat := wdN (fun j => spB (cR cs j)) cs.length
def wdL (cs : List (List Int × Int)) : Nat := wdN (fun j => spB (cR cs (cs.length - 1 - j))) cs.length
structure LD where
 a : ByteArray
 b : ByteArray
 c : ByteArray
 un : List (ByteArray × ByteArray)
 d : Int
section
variable (a b c : ByteArray) (un : List (ByteArray × ByteArray))
def edMv (n : Nat) : LD := ⟨zv (zac ((zd (baL a) ++ zd (baL b)).take n)), zv (zac ((zd (baL a) ++ zd (baL b)).drop n)), c, un, 1⟩
def zer (l r : ByteArray) : LD := ⟨l, r, c, zbk un (a, b), 1⟩
def edLeft : LD := if (zd (baL a)).length = 0 then ⟨a, b, c, un, 2⟩ else edMv a b c un ((zd (baL a)).length - 1)
def edRight : LD := if (zd (baL b)).length = 0 then ⟨a, b, c, un, 2⟩ else edMv a b c un ((zd (baL a)).length + 1)
def edHome : LD := if (zd (baL a)).length = 0 then ⟨a, b, c, un, 0⟩ else edMv a b c un 0
def edEnd : LD := if (zd (baL b)).length = 0 then ⟨a, b, c, un, 0⟩ else edMv a b c un ((zd (baL a)).length + (zd (baL b)).length)
def edWl : LD := if wdL (zd (baL a)) = 0 then ⟨a, b, c, un, 2⟩ else edMv a b c un ((zd (baL a)).length - wdL (zd (baL a)))
def edWr : LD := if wdR (zd (baL b)) = 0 then ⟨a, b, c, un, 2⟩ else edMv a b c un ((zd (baL a)).length + wdR (zd (baL b)))
def zej (rs : List Int) : LD := if rs.length = 0 then ⟨a, b, c, un, 0⟩ else if 300 < (zaq (zj (zp (baL a) ++ rs))).length + (zp (baL b)).length then ⟨a, b, c, un, 2⟩ else zer a b c un (zv (zac (zj (zp (baL a) ++ rs)))) b
def edBack : LD := if (zd (baL a)).length = 0 then ⟨a, b, c, un, 2⟩ else zer a b c un (zv (zac ((zd (baL a)).take ((zd (baL a)).length - 1)))) b
def edDel : LD := if (zd (baL b)).length = 0 then (if (zd (baL a)).length = 0 then ⟨a, b, c, un, 8⟩ else ⟨a, b, c, un, 2⟩) else zer a b c un a (zv (zac ((zd (baL b)).drop 1)))
def edKe : LD := if (zd (baL b)).length = 0 then ⟨a, b, c, un, 2⟩ else ⟨a, noT, b, zbk un (a, b), 1⟩
def edKs : LD := if (zd (baL a)).length = 0 then ⟨a, b, c, un, 2⟩ else ⟨noT, b, a, zbk un (a, b), 1⟩
def edKw : LD := if wdL (zd (baL a)) = 0 then ⟨a, b, c, un, 2⟩ else ⟨zv (zac ((zd (baL a)).take ((zd (baL a)).length - wdL (zd (baL a))))), b, zv (zac ((zd (baL a)).drop ((zd (baL a)).length - wdL (zd (baL a))))), zbk un (a, b), 1⟩
def edYank : LD := if (baL c).length = 0 then ⟨a, b, c, un, 2⟩ else if 300 < (zp (baL a)).length + (zp (baL c)).length + (zp (baL b)).length then ⟨a, b, c, un, 2⟩ else zer a b c un (zv (baL a ++ baL c)) b
def edSwap : LD := if 1 ≤ (zd (baL a)).length ∧ 1 ≤ (zd (baL b)).length then zer a b c un (zv (zac ((zd (baL a)).take ((zd (baL a)).length - 1)) ++ zac ((zd (baL b)).take 1) ++ zac ((zd (baL a)).drop ((zd (baL a)).length - 1)))) (zv (zac ((zd (baL b)).drop 1)))
 else if 2 ≤ (zd (baL a)).length ∧ (zd (baL b)).length = 0 then zer a b c un (zv (zac ((zd (baL a)).take ((zd (baL a)).length - 2)) ++ zac ((zd (baL a)).drop ((zd (baL a)).length - 1)) ++ zac (((zd (baL a)).take ((zd (baL a)).length - 1)).drop ((zd (baL a)).length - 2)))) noT
 else ⟨a, b, c, un, 2⟩
def edUndo : LD := if un.length = 0 then ⟨a, b, c, un, 2⟩ else ⟨lnT un (un.length - 1), lnH un (un.length - 1), c, un.take (un.length - 1), 1⟩
def edF (kd : Int) (rs : List Int) : LD :=
 if kd = 1 ∨ kd = 2 then zej a b c un rs else if kd = 4 then edBack a b c un else if kd = 5 then edDel a b c un else if kd = 6 then edLeft a b c un else if kd = 7 then edRight a b c un
 else if kd = 8 then edHome a b c un else if kd = 9 then edEnd a b c un else if kd = 18 then edWl a b c un else if kd = 19 then edWr a b c un
 else if kd = 12 then edKe a b c un else if kd = 13 then edKs a b c un else if kd = 14 then edKw a b c un else if kd = 15 then edYank a b c un else if kd = 16 then edSwap a b c un else if kd = 17 then edUndo a b c un
 else ⟨a, b, c, un, if kd = 3 then 3 else if kd = 21 then 4 else if kd = 10 then 5 else if kd = 11 then 6 else if kd = 20 then 7 else 0⟩
end
theorem zm6 (un : List (ByteArray × ByteArray)) : unL (lnT un) (lnH un) un.length = un := by
 apply List.ext_getElem?
 intro j
 by_cases h : j < un.length
 ·rw [zcP _ _ h, lnT, lnH, List.getElem?_eq_getElem h]
  rfl
 ·rw [List.getElem?_eq_none (by rw [zca]; omega), List.getElem?_eq_none (by omega)]
def zei (w : World) (v : Value) (un : List (ByteArray × ByteArray)) : Prop := zaH w v un.length (fun j => .string (lnT un j)) (fun j => .string (lnH un j))
theorem zei.ext {w w' : World} {v : Value} {un : List (ByteArray × ByteArray)} (h : zei w v un) (E : Ext w w') : zei w' v un := zaH.ext h E
def LnO (w : World) (base : Nat) (o : LD) (e : Ending) : Prop := ∃ v, e = .returned (.tuple #[.agg #[.string o.a, .string o.b, .string o.c, v], .int .i64 o.d]) ∧ zaR w base 132 v o.un.length (fun j => .string (lnT o.un j)) (fun j => .string (lnH o.un j))
theorem zaF {W : World} {b i : Nat} {cs : Array Value} {T : TypeId} {v : Value} (h : W.heap[b]? = some (.cells cs T (0, 0))) : (W.setCell ⟨b, i, none⟩ v).heap[b]? = some (.cells (cs.setIfInBounds i v) T (0, 0)) := heap_setCell_same W b i _ _ _ h
theorem zaM {W : World} {b i : Nat} {cs cs' : Array Value} {T : TypeId} {v : Value} (h : W.heap[b]? = some (.cells cs T (0, 0))) (e : cs.setIfInBounds i v = cs') : (W.setCell ⟨b, i, none⟩ v).heap[b]? = some (.cells cs' T (0, 0)) := by
 rw [zaF h, e]
theorem zat {W : World} {b c i : Nat} {v : Value} {o : Obj} (h : W.heap[b]? = some o) (hne : b ≠ c) : (W.setCell ⟨c, i, none⟩ v).heap[b]? = some o := (Below.heap_setCell W ⟨c, i, none⟩ v b hne).trans h
def zcN (p : Prop) : Prop := p
theorem zcN.intro {p : Prop} (h : zcN p) : p := h
theorem Src.snaps {w : World} {v : Value} {n : Nat} {tx hf : Nat → ByteArray} (h : zaH w v n (fun j => .string (tx j)) (fun j => .string (hf j))) : Src w 2 v n (zaZ (fun j => .string (tx j)) (fun j => .string (hf j)) n) := by
 refine ⟨zdH _ _ _, zgw, ?_⟩
 obtain ⟨ao, c, rfl, hc, hx⟩ := h
 by_cases h0 : n = 0
 ·subst h0
  cases ao with
  | none => exact .inl ⟨c, rfl, rfl⟩
  | some ad => exact .inr ⟨ad, c, rfl, fun j u hu => by simp [zaZ] at hu⟩
 ·obtain ⟨bb, off, e, hcc⟩ := hx (by omega)
  subst e
  exact .inr ⟨_, c, rfl, zf9 hcc⟩
theorem zdz {w : World} {base : Nat} {T : TypeId} {v : Value} {n : Nat} {A B : Nat → Value} (h : w.ownsRow base T 2 v n (zaZ A B n)) : zaR w base T v n A B := ⟨_, h, fun j hj => zdp A B n j hj⟩
theorem zc8 {w : World} {b : Nat} {T : TypeId} {sz : Nat} {v : Value} {n : Nat} {xs : List Value} (h : w.ownsRow b T sz v n xs) : ∃ a c, v = .slice a n c := by
 rcases h.2 with ⟨rfl, h0⟩ | ⟨g, c, _, rfl, _⟩
 ·exact ⟨none, 0, by rw [h0]⟩
 ·exact ⟨_, c, rfl⟩
theorem zcm (a b c : ByteArray) (v : Value) (n : Nat) (tx hf : Nat → ByteArray) (w : World) (hv : zaH w v n (fun j => .string (tx j)) (fun j => .string (hf j))) (hn : n ≤ 1048576) :
  Calls Tryz.prog 49 #[.agg #[.string a, .string b, .string c, v]] w fun e w' => ∃ ua uc, e = .returned (.agg #[.string a, .string b, .string c, .slice ua n uc]) ∧ Hid (zaR w' w.heap.size 132 (.slice ua n uc) n (fun j => .string (tx j)) (fun j => .string (hf j))) ∧ Ext w w' := by
 obtain ⟨ic, hic, hc0, hc1, hc2⟩ := info_parts zdi
 have HV := zi hv
 obtain ⟨ao, ca, rfl, _, _⟩ := hv
 obtain ⟨V, hV⟩ : ∃ V, V = (w.alloc (.cells #[.string a, .string b, .string c, .slice ao n ca] 37)).alloc (.cells zL4 37) := ⟨_, rfl⟩
 have E0 : Ext w V := by rw [hV]; exact ((Ext.refl w).alloc _).alloc _
 have sz0 : V.heap.size = w.heap.size + 1 + 1 := by rw [hV]; simp
 have HB0 : Hid (V.heap[w.heap.size]? = some (.cells #[.string a, .string b, .string c, .slice ao n ca] 37 (0, 0))) := zi (by rw [hV]; exact ((Ext.refl _).alloc _).kept (zn w _))
 have HB1 : Hid (V.heap[w.heap.size + 1]? = some (.cells zL4 37 (0, 0))) := zi (by rw [hV]; have h := zn (w.alloc (.cells #[.string a, .string b, .string c, .slice ao n ca] 37)) (.cells zL4 37); rw [show (w.alloc (.cells #[.string a, .string b, .string c, .slice ao n ca] 37)).heap.size = w.heap.size + 1 by simp] at h; exact h)
 have HO := zi (zcl V 132 2)
 have HSR := zi (Src.snaps ((zg HV).ext (E0.alloc (.cells #[] 132))))
 obtain ⟨V2, hV2⟩ : ∃ V2, V2 = V.alloc (.cells #[] 132) := ⟨_, rfl⟩
 have EV : Ext V V2 := by rw [hV2]; exact (Ext.refl V).alloc _
 have sz2 : V2.heap.size = w.heap.size + 1 + 1 + 1 := by rw [hV2]; simp [sz0]
 rw [← hV2] at HO HSR
 have HVV : Hid (V2 = ((w.alloc (.cells #[.string a, .string b, .string c, .slice ao n ca] 37)).alloc (.cells zL4 37)).alloc (.cells #[] 132)) := zi (by rw [hV2, hV])
 rw [sz0] at HO
 clear hV hV2
 go_enter Tryz.func49, Tryz.ntmps49
 go_wp2_with (at_builtin; refine zcN.intro ?_)
 show wpList _ _ _ _ _ _
 rw [← zg HVV]
 clear HVV
 refine zao rfl _ _ 35 rfl (w.heap.size + 1 + 1) 132 ic (.agg #[.string noT, .string noT]) 2 32 Tryz.underlying35 hic hc0 hc1 hc2 rfl (by decide) _ 0 [] rfl (zg HO) _ n (zaZ (fun j => .string (tx j)) (fun j => .string (hf j)) n) rfl (zg HSR) (by unfold maxLen; omega) (by omega) (by omega) ?_
 intro v2 w2 o2 G2 _
 have X2 := Fr.grown (S := fun q => q = w.heap.size + 1 + 1) (Fr.of_ext EV) G2 (fun q hq => by cases hq; rfl)
 have E2 : Ext w w2 := X2.ext E0 (fun q hq => by omega)
 rw [Nat.zero_add, List.nil_append] at o2
 obtain ⟨a2, c2, rfl⟩ := zc8 o2
 replace HB0 := zi (X2.kept (zg HB0) (by omega))
 replace HB1 := zi (X2.kept (zg HB1) (by omega))
 have HO2 := zi (zdz o2)
 have x3 := zk (zg HB0) 3 _ rfl
 have f0 : ∀ i, w2.frozen? ⟨w.heap.size, i, none⟩ = false := fun i => Lib.frozen_of_heap (zg HB0) i
 have infoL : (Tryz.prog.info? 37).map (·.size) = some 4 := by kernel_rfl
 have HB0s : Hid ((w2.setCell ⟨w.heap.size, 3, none⟩ (.slice a2 n c2)).heap[w.heap.size]? = some (.cells #[.string a, .string b, .string c, .slice a2 n c2] 37 (0, 0))) := zi (zaM (zg HB0) rfl)
 have HB1s : Hid ((w2.setCell ⟨w.heap.size, 3, none⟩ (.slice a2 n c2)).heap[w.heap.size + 1]? = some (.cells zL4 37 (0, 0))) := zi (zat (zg HB1) (by omega))
 clear o2 G2 X2
 go_wp2_with (first
  | (refine zm rfl 37 _ rfl (w.heap.size) rfl _ _ _ _ (zg HB0s) Tryz.underlying37 rfl infoL ?_)
  | (refine zy rfl 37 _ _ rfl rfl (w.heap.size + 1) rfl _ _ _ rfl (zg HB1s) infoL rfl (by simp [Value.oneCell']) ?_; intro U HB9 hU9; have HU9 := zi hU9; have HB9' := zi HB9; clear hU9 HB9))
 have HB9 := zg HB9'
 have hU : Fr (fun q => q = w.heap.size ∨ q = w.heap.size + 1) w2 U := (Fr.setCell (S := fun q => q = w.heap.size ∨ q = w.heap.size + 1) (Fr.refl _ _) (a := ⟨w.heap.size, 3, none⟩) (.inl rfl) _).tr ((zg HU9).mono (fun q hq => .inr hq))
 clear HU9 HB9' x3 f0
 have v0 := zk HB9 0 _ rfl
 have v1 := zk HB9 1 _ rfl
 have v2 := zk HB9 2 _ rfl
 have v3 := zk HB9 3 _ rfl
 exact bodyPost_ret (v := .agg #[.string a, .string b, .string c, .slice a2 n c2]) (by simp [results, Tryz.results49, go_sem, v0, v1, v2, v3]) rfl ⟨a2, c2, rfl, zi (((zg HO2).fr hU (fun g hg e9 => by have := ((zg HO2).lt g hg).1; omega)).mono (by omega)), hU.ext E2 (fun q hq => by omega)⟩
theorem zir (a b c : ByteArray) (v : Value) (n : Nat) (tx hf : Nat → ByteArray) (w : World) (hv : zaH w v n (fun j => .string (tx j)) (fun j => .string (hf j))) (hn : n ≤ 1048576) :
  Calls Tryz.prog 89 #[.agg #[.string a, .string b, .string c, v]] w fun e w' => ∃ ua uc, e = .returned (.agg #[.string a, .string b, .string c, .slice ua n uc]) ∧ Hid (zaR w' w.heap.size 132 (.slice ua n uc) n (fun j => .string (tx j)) (fun j => .string (hf j))) ∧ Ext w w' := by
 obtain ⟨ic, hic, hc0, hc1, hc2⟩ := info_parts zdi
 have HSR := zi (fun W (hW : Ext w W) => Src.snaps (hv.ext hW))
 obtain ⟨ao, ca, rfl, _, _⟩ := hv
 have infoL : (Tryz.prog.info? 37).map (·.size) = some 4 := by kernel_rfl
 have HA0 : Hid (((w.alloc (.cells #[.string a, .string b, .string c, .slice ao n ca] 37)).alloc (.cells zL4 37)).heap[w.heap.size]? = some (.cells #[.string a, .string b, .string c, .slice ao n ca] 37 (0, 0))) := zi (((Ext.refl _).alloc _).kept (zn w _))
 have HA2 : Hid ((((w.alloc (.cells #[.string a, .string b, .string c, .slice ao n ca] 37)).alloc (.cells zL4 37)).alloc (.cells zL4 37)).heap[w.heap.size + 1 + 1]? = some (.cells zL4 37 (0, 0))) := zi (by have h := zn ((w.alloc (.cells #[.string a, .string b, .string c, .slice ao n ca] 37)).alloc (.cells zL4 37)) (.cells zL4 37); rw [show ((w.alloc (.cells #[.string a, .string b, .string c, .slice ao n ca] 37)).alloc (.cells zL4 37)).heap.size = w.heap.size + 1 + 1 by simp] at h; exact h)
 have HA1 : Hid ((((w.alloc (.cells #[.string a, .string b, .string c, .slice ao n ca] 37)).alloc (.cells zL4 37)).alloc (.cells zL4 37)).heap[w.heap.size + 1]? = some (.cells zL4 37 (0, 0))) := zi (by refine ((Ext.refl _).alloc _).kept ?_; have h := zn (w.alloc (.cells #[.string a, .string b, .string c, .slice ao n ca] 37)) (.cells zL4 37); rw [show (w.alloc (.cells #[.string a, .string b, .string c, .slice ao n ca] 37)).heap.size = w.heap.size + 1 by simp] at h; exact h)
 have HAE : Hid (Ext w (((w.alloc (.cells #[.string a, .string b, .string c, .slice ao n ca] 37)).alloc (.cells zL4 37)).alloc (.cells zL4 37))) := zi ((((Ext.refl w).alloc _).alloc _).alloc _)
 have HAs : Hid ((((w.alloc (.cells #[.string a, .string b, .string c, .slice ao n ca] 37)).alloc (.cells zL4 37)).alloc (.cells zL4 37)).heap.size = w.heap.size + 1 + 1 + 1) := zi (by simp)
 go_enter Tryz.func89, Tryz.ntmps89
 go_wp2_with (first
  | (refine zm rfl 37 _ rfl (w.heap.size) rfl _ _ _ _ (zg HA0) Tryz.underlying37 rfl infoL ?_)
  | (refine zy rfl 37 _ _ rfl rfl (w.heap.size + 1 + 1) rfl _ _ _ rfl (zg HA2) infoL rfl (by simp [Value.oneCell']) ?_; intro U HB9 hU9; have k3 : U.cell? ⟨w.heap.size, 3, none⟩ = some (.slice ao n ca) := zk (hU9.kept (((Ext.refl _).alloc _).kept (zg HA0)) (by omega)) 3 _ rfl; have HU9 := zi hU9; have HB2 := zi HB9; clear hU9 HB9)
  | (at_builtin; refine zcN.intro ?_))
 show wpList _ _ _ _ _ _
 have E0 : Ext w U := (zg HU9).ext (zg HAE) (fun q hq => by omega)
 have zU : w.heap.size + 1 + 1 + 1 ≤ U.heap.size := Nat.le_trans (Nat.le_of_eq (zg HAs).symm) (zg HU9).size
 have HB0 := zi ((zg HU9).kept (((Ext.refl _).alloc _).kept (zg HA0)) (by omega))
 have HB1 := zi ((zg HU9).kept (zg HA1) (by omega))
 clear HU9 HA0 HA1 HA2 HAE HAs k3 HB0
 refine zao rfl _ _ 35 rfl U.heap.size 132 ic (.agg #[.string noT, .string noT]) 2 32 Tryz.underlying35 hic hc0 hc1 hc2 rfl (by decide) _ 0 [] rfl (zbp _ _ _ _) _ n (zaZ (fun j => .string (tx j)) (fun j => .string (hf j)) n) rfl ((zg HSR) _ E0) (by unfold maxLen; omega) (by omega) (Nat.le_refl _) ?_
 intro v2 w2 o2 G2 _
 have X2 : Ext U w2 := (Ext.refl U).grown G2 (fun q hq => by cases hq)
 have E2 := E0.trans X2
 rw [Nat.zero_add, List.nil_append] at o2
 obtain ⟨a2, c2, rfl⟩ := zc8 o2
 replace HB1 := X2.hk HB1
 replace HB2 := X2.hk HB2
 have HO2 := zi (zdz o2)
 have y3 := zk (zg HB2) 3 _ rfl
 have f2 : ∀ i, w2.frozen? ⟨w.heap.size + 1 + 1, i, none⟩ = false := fun i => Lib.frozen_of_heap (zg HB2) i
 have HB2s : Hid ((w2.setCell ⟨w.heap.size + 1 + 1, 3, none⟩ (.slice a2 n c2)).heap[w.heap.size + 1 + 1]? = some (.cells #[.string a, .string b, .string c, .slice a2 n c2] 37 (0, 0))) := zi (zaM (zg HB2) rfl)
 have HB1s : Hid ((w2.setCell ⟨w.heap.size + 1 + 1, 3, none⟩ (.slice a2 n c2)).heap[w.heap.size + 1]? = some (.cells zL4 37 (0, 0))) := zi (zat (zg HB1) (by omega))
 clear o2 G2 HSR
 go_wp2_with (first
  | (refine zm rfl 37 _ rfl (w.heap.size + 1 + 1) rfl _ _ _ _ (zg HB2s) Tryz.underlying37 rfl infoL ?_)
  | (refine zy rfl 37 _ _ rfl rfl (w.heap.size + 1) rfl _ _ _ rfl (zg HB1s) infoL rfl (by simp [Value.oneCell']) ?_; intro Y HB9 hU9; have HU9 := zi hU9; have HB9' := zi HB9; clear hU9 HB9))
 have HB9 := zg HB9'
 have hU : Fr (fun q => q = w.heap.size + 1 + 1 ∨ q = w.heap.size + 1) w2 Y := (Fr.setCell (S := fun q => q = w.heap.size + 1 + 1 ∨ q = w.heap.size + 1) (Fr.refl _ _) (a := ⟨w.heap.size + 1 + 1, 3, none⟩) (.inl rfl) _).tr ((zg HU9).mono (fun q hq => .inr hq))
 clear HU9 HB9' y3 f2
 have v0 := zk HB9 0 _ rfl
 have v1 := zk HB9 1 _ rfl
 have v2 := zk HB9 2 _ rfl
 have v3 := zk HB9 3 _ rfl
 exact bodyPost_ret (v := .agg #[.string a, .string b, .string c, .slice a2 n c2]) (by simp [results, Tryz.results89, go_sem, v0, v1, v2, v3]) rfl ⟨a2, c2, rfl, zi (((zg HO2).fr hU (fun g hg e9 => by have := ((zg HO2).lt g hg).1; omega)).mono (by omega)), hU.ext E2 (fun q hq => by omega)⟩
def zc9 : Nat → List Int → List Int
 | 0, _ => []
 | f + 1, l => if l.length = 0 then [] else (za1 l).1 :: zc9 f (l.drop (za1 l).2)
def za7 (l : List Int) : List Int := zc9 l.length l
theorem zfW : ∀ (f g : Nat) (l : List Int), l.length ≤ f → l.length ≤ g → zc9 f l = zc9 g l
 | 0, 0, _, _, _ => rfl
 | 0, g + 1, l, h, _ => by simp [zc9]; exact List.eq_nil_of_length_eq_zero (by omega)
 | f + 1, 0, l, _, h => by simp [zc9]; exact List.eq_nil_of_length_eq_zero (by omega)
 | f + 1, g + 1, l, h1, h2 => by
  simp only [zc9]
  split
  ·rfl
  ·have hp := zbE l
   rw [zfW f g _ (by simp; omega) (by simp; omega)]
theorem zd2 (l : List Int) (h : 0 < l.length) : za7 l = (za1 l).1 :: za7 (l.drop (za1 l).2) := by
 unfold za7
 obtain ⟨m, hm⟩ : ∃ m, l.length = m + 1 := ⟨l.length - 1, by omega⟩
 have hp := zbE l
 rw [hm]
 simp only [zc9]
 rw [if_neg (by omega), zfW m _ _ (by simp; omega) (Nat.le_refl _)]
theorem zfT (l : List Int) : zp l = (za7 l).map zbd := by
 have : ∀ f (l : List Int), zbt f l = (zc9 f l).map zbd := by
  intro f
  induction f with
  | zero => intro l; rfl
  | succ f ih =>
   intro l
   simp only [zbt, zc9]
   split
   ·rfl
   ·rw [ih]; rfl
 exact this _ _
theorem zhR : ∀ (xs : List Int), (∀ x ∈ xs, Utf8.valid x = true) → za7 (zcj xs) = xs
 | [], _ => rfl
 | x :: xs, h => by
  have hp := zjN x
  rw [zcj, zd2 _ (by simp; omega), zit x (h x (by simp))]
  simp only
  rw [List.drop_left, zhR xs (fun y hy => h y (by simp [hy]))]
def zdA (l : List Int) : Prop := zcj (za7 l) = l
theorem zf4 (l : List Int) : zaC l = l ↔ (∀ r ∈ za7 l, zaa r = r) ∧ (za7 l ≠ [] → 0 < wid (at0 (za7 l) 0)) ∧ zdA l := by
 constructor
 ·intro h
  have hc := zjU _ (zgR l)
  have he : za7 l = fl (zp l) := by
   have := zhR (fl (zp l)) (fun x hx => (hc x hx).1)
   rw [← zc5, h] at this
   exact this
  refine ⟨fun r hr => ?_, fun hne => ?_, ?_⟩
  ·rw [he] at hr
   exact (hc r hr).shown
  ·rw [he] at hne ⊢
   unfold fl at hne ⊢
   split
   ·rename_i e; rw [if_pos e] at hne; exact absurd rfl hne
   ·split
    ·assumption
    ·show 0 < wid 9676
     decide
  ·unfold zdA
   rw [he, ← zc5, h]
 ·rintro ⟨h1, h2, h3⟩
  have hm : zp l = za7 l := by
   rw [zfT]
   conv => rhs; rw [← List.map_id (za7 l)]
   refine List.map_congr_left fun r hr => ?_
   have := h1 r hr
   unfold zbd
   split
   ·rename_i e
    subst e
    exact absurd this (by decide)
   ·exact this
  rw [zc5, hm]
  have hf : fl (za7 l) = za7 l := by
   unfold fl
   split
   ·rename_i e; exact e.symm
   ·rename_i e
    rw [if_pos (h2 e)]
  rw [hf]
  exact h3
theorem zdd (bs : List Int) (hb : zaj bs) (w : World) (hl : bs.length ≤ 16777216) :
  Calls Tryz.prog 198 #[.string (zv bs)] w fun e w' => e = .returned (.int .i64 ((zp bs).length : Int)) ∧ Ext w w' := by
 obtain ⟨S, hS⟩ : ∃ S, S = zv bs := ⟨_, rfl⟩
 have hss : S.size = bs.length := by rw [hS, zai]
 have HS := zi hS
 have HSS := zi hss
 rw [← hS]
 clear hS hss
 go_enter Tryz.func198, Tryz.ntmps198
 go_wp2
 go_loopw [2] (fun o wr => ∃ (k : Nat) (acc : List Int), k ≤ bs.length ∧ Hid (Mid bs k acc) ∧ wr.heap[w.heap.size]? = some (.stringIter S k) ∧ o = .int .i64 (acc.length : Int) ∧ Ext w wr) (fun _ wr => bs.length - wr.iterPos w.heap.size)
 case atStart => exact ⟨0, [], Nat.zero_le _, ⟨by simp, by simp⟩, World.iter_heap w S 0, rfl, (Ext.refl _).alloc _⟩
 case round =>
  obtain ⟨k, acc, hk, HM, hit, rfl, hext⟩ := hrel
  have hszr : w.heap.size < wr.heap.size := (Array.getElem?_eq_some_iff.1 hit).1
  by_cases hlt : k < bs.length
  ·obtain ⟨r, m, hd⟩ : ∃ r m, za1 (bs.drop k) = (r, m) := ⟨_, _, rfl⟩
   have hp := zbE (bs.drop k)
   have hq := zfa (bs.drop k) (by simp; omega)
   have HM2 : Hid (Mid bs (k + m) (acc ++ [zbd r])) := by
    have := HM.out.step hlt
    rw [hd] at this
    exact this
   have hdec := zeb bs hb k
   rw [hd] at hp hq hdec
   rw [← HS.out] at hdec
   simp only [Prod.mk.injEq] at hdec
   have hnx := fun ty => Lib.run_next_any_at (P := Tryz.prog) wr w.heap.size S k ty hit (by rw [HSS.out]; exact hlt)
   rw [hdec.1, hdec.2] at hnx
   simp only [List.length_drop] at hp hq
   have hal := HM.out.2
   have hm2 : k + m ≤ bs.length := by omega
   have hit1 := Lib.iterAt_heap wr w.heap.size S k (k + m) hit
   have hext1 : Ext w (wr.iterAt w.heap.size S (k + m)) := hext.grown (zcD _ _ _ _) (fun k hk => by simp at hk; omega)
   have hP : bs.length - (wr.iterAt w.heap.size S (k + m)).iterPos w.heap.size < bs.length - wr.iterPos w.heap.size := by
    simp only [World.iterPos, hit1, hit]; omega
   have HP := zi hP
   have HI := zi hit1
   have hw : IntKind.i64.wrap ((acc.length : Int) + 1) = (acc.length : Int) + 1 := by rw [IntKind.wrap_i64]; omega
   have hlen : Hid (((acc ++ [zbd r]).length : Int) = (acc.length : Int) + 1) := by show _ = _; simp
   clear hdec hd hP hit1
   go_wp2
   go_roundw
   case rel => exact ⟨k + m, _, hm2, HM2, zg HI, by rw [hlen.out], hext1⟩
   case measure => exact zg HP
  ·have HE : Hid (acc = zp bs) := HM.out.done (by omega)
   have hnx := fun ty => Lib.run_next_end_at (P := Tryz.prog) wr w.heap.size S k ty hit (by rw [HSS.out]; omega)
   go_wp2
   go_ret
   rw [← HE.out]
   exact ⟨rfl, hext⟩
theorem decL_bd (l : List Int) (hb : zaj l) : 0 ≤ (za1 l).1 ∧ (za1 l).1 ≤ 1114111 := by
 have h0 := hb.at0 0
 unfold za1
 split
 ·dsimp only; omega
 ·split
  ·rename_i h1 h2
   have c1 := zbr h2.2
   split
   ·dsimp only; unfold v2; omega
   ·dsimp only; omega
  ·split
   ·split
    ·rename_i h5; exact zcL h5.2
    ·dsimp only; omega
   ·split
    ·split
     ·rename_i h5; exact zcL h5.2
     ·dsimp only; omega
    ·dsimp only; omega
theorem wid_bd' (r : Int) : 0 ≤ wid r ∧ wid r ≤ 2 := by
 unfold wid
 repeat' split
 all_goals omega
theorem zjK (bs : List Int) (hb : zaj bs) (w : World) (hl : bs.length ≤ 16777216) (hT : zcB w) (vb : Bool) (hvb : vb = true ↔ zdA bs)
  (hval : ∀ W, Ext w W → Calls Tryz.prog 247 #[.string (zv bs)] W fun e w' => e = .returned (.bool vb) ∧ Ext W w')
  (ok : Bool) (hok : ok = true ↔ zaC bs = bs) :
  Calls Tryz.prog 197 #[.string (zv bs)] w fun e w' => e = .returned (.bool ok) ∧ Ext w w' := by
 rw [zf4] at hok
 obtain ⟨S, hS⟩ : ∃ S, S = zv bs := ⟨_, rfl⟩
 have hss : S.size = bs.length := by rw [hS, zai]
 have HS := zi hS
 have HSS := zi hss
 rw [← hS] at hval ⊢
 have HVAL := zi hval
 have HT := zi hT
 have HOK := zi hok
 have HVB := zi hvb
 clear hS hss hval hT hok hvb
 go_enter Tryz.func197, Tryz.ntmps197
 go_wp2
 go_loopw [] (fun wr => ∃ (k : Nat) (acc : List Int), k ≤ bs.length ∧ Hid (za7 bs = acc ++ za7 (bs.drop k) ∧ (∀ r ∈ acc, zaa r = r) ∧ (0 < k → acc ≠ [] ∧ 0 < wid (at0 acc 0)) ∧ (k = 0 → acc = [])) ∧ wr.heap[w.heap.size]? = some (.stringIter S k) ∧ Ext w wr) (fun wr => bs.length - wr.iterPos w.heap.size)
 case atStart => exact ⟨0, [], Nat.zero_le _, zi ⟨by simp, by simp, by simp, by simp⟩, World.iter_heap w S 0, (Ext.refl _).alloc _⟩
 case round =>
  obtain ⟨k, acc, hk, HM, hit, hext⟩ := hrel
  have hszr : w.heap.size < wr.heap.size := (Array.getElem?_eq_some_iff.1 hit).1
  by_cases hlt : k < bs.length
  ·obtain ⟨r, m, hd⟩ : ∃ r m, za1 (bs.drop k) = (r, m) := ⟨_, _, rfl⟩
   have hp := zbE (bs.drop k)
   have hq := zfa (bs.drop k) (by simp; omega)
   have hrb := decL_bd (bs.drop k) (hb.drop k)
   have hstep := zd2 (bs.drop k) (by simp; omega)
   have hdec := zeb bs hb k
   rw [hd] at hp hq hdec hrb hstep
   rw [← HS.out] at hdec
   simp only [Prod.mk.injEq] at hdec
   simp only [List.drop_drop] at hstep
   have hnx := fun ty => Lib.run_next_any_at (P := Tryz.prog) wr w.heap.size S k ty hit (by rw [HSS.out]; exact hlt)
   rw [hdec.1, hdec.2] at hnx
   simp only [List.length_drop] at hp hq
   have hm2 : k + m ≤ bs.length := by omega
   have hit1 := Lib.iterAt_heap wr w.heap.size S k (k + m) hit
   have hext1 : Ext w (wr.iterAt w.heap.size S (k + m)) := hext.grown (zcD _ _ _ _) (fun k hk => by simp at hk; omega)
   have hP : bs.length - (wr.iterAt w.heap.size S (k + m)).iterPos w.heap.size < bs.length - wr.iterPos w.heap.size := by
    simp only [World.iterPos, hit1, hit]; omega
   have HP := zi hP
   have HI := zi hit1
   have hrun : Hid (za7 bs = (acc ++ [r]) ++ za7 (bs.drop (k + m))) := by
    refine zi ?_
    rw [(zg HM).1, hstep]
    simp
   have HX1 := zi hext1
   clear hdec hd hP hit1 hstep hext1
   by_cases hsr : zaa r = r
   ·by_cases hk0 : k = 0
    ·subst hk0
     have hacc : acc = [] := (zg HM).2.2.2 rfl
     subst hacc
     simp only [Nat.zero_add] at HX1 HI hrun hm2 HP hnx
     have T1 := zi ((zg HT).below (zg HX1).below)
     have hwb := wid_bd' r
     go_wp2_with fail
     refine (zbw _ _).mono ?_
     rintro e w2 ⟨rfl, rfl⟩
     rw [hsr]
     go_wp2_with fail
     refine (zeI r _ (by omega) (by omega) (zg T1)).mono ?_
     rintro e w3 ⟨rfl, hb3⟩
     have F3 := Ext.of_below hb3
     have X3 := (zg HX1).trans F3
     have hI3 : w3.heap[w.heap.size]? = some (.stringIter S m) := by
      rw [F3.heap (by rw [Lib.iterAt_size]; exact hszr)]
      exact zg HI
     have HI3 := zi hI3
     have HP3 : Hid (bs.length - w3.iterPos w.heap.size < bs.length - wr.iterPos w.heap.size) := by
      refine zi ?_
      simp only [World.iterPos, hI3, hit]; omega
     clear hb3 hI3
     by_cases hw0 : wid r = 0
     ·have hno : Hid (ok = false) := by
       refine zi ?_
       cases ok
       ·rfl
       ·exfalso
        have h1 := ((zg HOK).1 rfl).2.1 (by rw [zg hrun]; simp)
        rw [zg hrun] at h1
        simp [at0] at h1
        omega
      go_wp2
      go_ret
      exact ⟨by rw [hno.out]; rfl, X3⟩
     ·have hwp : 0 < wid r := by omega
      have HM' : Hid (za7 bs = ([] ++ [r]) ++ za7 (bs.drop m) ∧ (∀ x ∈ [] ++ [r], zaa x = x) ∧ (0 < m → [] ++ [r] ≠ [] ∧ 0 < wid (at0 ([] ++ [r]) 0)) ∧ (m = 0 → ([] : List Int) ++ [r] = [])) :=
       zi ⟨zg hrun, by simpa using hsr, fun _ => ⟨by simp, by simpa [at0] using hwp⟩, fun h => by omega⟩
      go_wp2
      go_roundw
      case rel => exact ⟨m, [] ++ [r], hm2, HM', zg HI3, X3⟩
      case measure => exact zg HP3
    ·have HM' : Hid (za7 bs = (acc ++ [r]) ++ za7 (bs.drop (k + m)) ∧ (∀ x ∈ acc ++ [r], zaa x = x) ∧ (0 < k + m → acc ++ [r] ≠ [] ∧ 0 < wid (at0 (acc ++ [r]) 0)) ∧ (k + m = 0 → acc ++ [r] = [])) := by
      have h1 := zg HM
      have h2 := h1.2.2.1 (by omega)
      have hal : 0 < acc.length := List.length_pos_iff.2 h2.1
      refine zi ⟨zg hrun, fun x hx => ?_, fun _ => ⟨by simp, ?_⟩, fun h => by omega⟩
      ·rcases List.mem_append.1 hx with h | h
       ·exact h1.2.1 x h
       ·simp at h; rw [h]; exact hsr
      ·have : at0 (acc ++ [r]) 0 = at0 acc 0 := by unfold at0; rw [List.getElem?_append_left hal]
       rw [this]; exact h2.2
     have hkI : ((k : Int) == 0) = false := by rw [beq_eq_false_iff_ne]; omega
     have hkI2 : ¬ ((k : Int) = 0) := by omega
     go_wp2_with fail
     refine (zbw _ _).mono ?_
     rintro e w2 ⟨rfl, rfl⟩
     rw [hsr]
     go_wp2
     go_roundw
     case rel => exact ⟨k + m, acc ++ [r], hm2, HM', zg HI, zg HX1⟩
     case measure => exact zg HP
   ·have hno : Hid (ok = false) := by
     refine zi ?_
     cases ok
     ·rfl
     ·exact absurd (((zg HOK).1 rfl).1 r (by rw [zg hrun]; simp)) hsr
    go_wp2_with fail
    refine (zbw _ _).mono ?_
    rintro e w2 ⟨rfl, rfl⟩
    go_wp2
    go_ret
    exact ⟨by rw [hno.out]; rfl, zg HX1⟩
  ·obtain rfl : k = bs.length := by omega
   have hre : za7 bs = acc := by
    have h1 := (zg HM).1
    rw [List.drop_length] at h1
    rw [h1, show za7 ([] : List Int) = [] from rfl, List.append_nil]
   have hov : Hid (ok = vb) := by
    refine zi ?_
    have h1 := (zg HM).2.1
    have h2 := (zg HM).2.2.1
    have h3 := (zg HM).2.2.2
    have e : ok = true ↔ vb = true := by
     rw [(zg HOK), (zg HVB), hre]
     refine ⟨fun h => h.2.2, fun h => ⟨h1, fun hne => ?_, h⟩⟩
     rcases Nat.eq_zero_or_pos bs.length with e0 | e0
     ·exact absurd (h3 e0) hne
     ·exact (h2 e0).2
    cases ok <;> cases vb <;> simp_all
   have hnx := fun ty => Lib.run_next_end_at (P := Tryz.prog) wr w.heap.size S bs.length ty hit (by rw [HSS.out]; omega)
   clear hre
   go_wp2_with fail
   refine ((zg HVAL) _ hext).mono ?_
   rintro e w2 ⟨rfl, F2⟩
   go_wp2
   go_ret
   exact ⟨by rw [hov.out]; rfl, hext.trans F2⟩
theorem zim {xs ys : List Int} (hx : zaj xs) (hy : zaj ys) (h : xs ≠ ys) : ((zv xs).toList == (zv ys).toList) = false := by
 rw [beq_eq_false_iff_ne, zbg, zbg]
 intro e
 exact h (zgG hx hy (WideShapes.bytes_inj e))
theorem zcx (bs : List Int) (hb : zaj bs) (w : World) (hl : bs.length ≤ 8000000) :
  Calls Tryz.prog 113 #[.string (zv bs)] w fun e w' => e = .returned (.int .i64 ((zp bs).length : Int)) ∧ Ext w w' := by
 obtain ⟨v0, w0, hrun, h0, E0⟩ := zea (P := Tryz.prog) w _ _ _ Tryz.underlying9 Tryz.underlying25 Tryz.underlying5 bs hb
 have H0 := zi h0
 clear h0
 go_enter Tryz.func113, Tryz.ntmps113
 go_wp2_with fail
 refine (zbZ bs hb v0 w0 (zg H0) (by omega)).mono ?_
 rintro e w1 ⟨v1, rfl, o1, F1⟩
 obtain ⟨ao, cap, hv1, _, _⟩ := zaf o1
 subst hv1
 clear o1
 go_wp2
 go_ret
 exact ⟨rfl, E0.trans F1⟩
theorem zfi (bs : List Int) (hb : zaj bs) (w : World) (hl : bs.length ≤ 4194304) (ok : Bool) (hok : ok = true ↔ (bs.length ≤ 1200 ∧ (zp bs).length ≤ 300 ∧ zaC bs = bs)) :
  Calls Tryz.prog 73 #[.string (zv bs), .int .i64 300] w fun e w' => e = .returned (.bool ok) ∧ Ext w w' := by
 have hsz := zai bs
 have HOK := zi hok
 clear hok
 by_cases h1 : bs.length ≤ 1200
 ·have h1I : (bs.length : Int) ≤ 1200 := by omega
  go_enter Tryz.func73, Tryz.ntmps73
  go_wp2_with fail
  refine (zcx bs hb w (by omega)).mono ?_
  rintro e w1 ⟨rfl, F1⟩
  by_cases h2 : (zp bs).length ≤ 300
  ·have h2I : ((zp bs).length : Int) ≤ 300 := by omega
   go_wp2_with fail
   refine (zcS bs hb w1 (by omega)).mono ?_
   rintro e w2 ⟨rfl, F2⟩
   by_cases h3 : zaC bs = bs
   ·have ht : ok = true := (zg HOK).2 ⟨h1, h2, h3⟩
    subst ht
    rw [h3]
    go_wp2
    go_ret
    exact ⟨rfl, F1.trans F2⟩
   ·have hf : ok = false := by
     cases ok
     ·rfl
     ·exact absurd ((zg HOK).1 rfl).2.2 h3
    subst hf
    have hneb := zim (zdc bs) hb h3
    go_wp2
    go_ret
    exact ⟨rfl, F1.trans F2⟩
  ·have h2I : ¬ ((zp bs).length : Int) ≤ 300 := by omega
   have hf : ok = false := by
    cases ok
    ·rfl
    ·exact absurd ((zg HOK).1 rfl).2.1 h2
   subst hf
   go_wp2
   go_ret
   exact ⟨rfl, F1⟩
 ·have h1I : ¬ (bs.length : Int) ≤ 1200 := by omega
  have hf : ok = false := by
   cases ok
   ·rfl
   ·exact absurd ((zg HOK).1 rfl).1 h1
  subst hf
  go_enter Tryz.func73, Tryz.ntmps73
  go_wp2
  go_ret
  exact ⟨rfl, Ext.refl _⟩
theorem zbW (bs : List Int) : (zd bs).length ≤ bs.length := Nat.le_trans (zc2 _ _) (zaN bs)
theorem zmh (bs : List Int) : (zd bs).length + zaL (zd bs) (zd bs).length ≤ 2 * bs.length + 1 := by
 have h1 := zfc (zp bs) (zp bs).length
 have h2 := zaN bs
 have h3 := zbW bs
 have h4 : zaL (zd bs) (zd bs).length ≤ (zp bs).length + 1 := h1
 omega
theorem zkk (bs : List Int) (j : Nat) : (cR (zd bs) j).length ≤ bs.length + 1 := by
 have h1 := zcJ (zp bs) (zp bs).length j
 have h2 := zaN bs
 have h3 : (cR (zd bs) j).length ≤ (zp bs).length + 1 := h1
 omega
theorem zmv (bs : List Int) (j : Nat) : zbv (cR (zd bs) j) := zdD _ _ j
theorem zfH (xs ys : List (List Int × Int)) : ∀ k, k ≤ xs.length → zaL (xs ++ ys) k = zaL xs k
 | 0, _ => rfl
 | k + 1, h => by rw [zaL, zaL, zfH xs ys k (by omega), zdI, if_pos (by omega)]
theorem zhf (xs ys : List (List Int × Int)) : ∀ k, k ≤ ys.length → zaL (xs ++ ys) (xs.length + k) = zaL xs xs.length + zaL ys k
 | 0, _ => by rw [Nat.add_zero, zfH xs ys _ (Nat.le_refl _)]; rfl
 | k + 1, h => by
  rw [← Nat.add_assoc, zaL, zhf xs ys k (by omega), zdI, if_neg (by omega), show xs.length + k - xs.length = k by omega, zaL]
  omega
structure Cuts (cs : List (List Int × Int)) (N : Nat) : Prop where
 wide : zcO cs
 len : cs.length ≤ N
 sum : cs.length + zaL cs cs.length ≤ 2 * N + N
 runes : ∀ j, (cR cs j).length ≤ N + 1
 i32 : ∀ j, zbv (cR cs j)
theorem zce (bs : List Int) : Cuts (zd bs) (bs.length + 1) :=
 ⟨zkM bs, by have := zbW bs; omega, by have := zmh bs; omega, fun j => by have := zkk bs j; omega, zmv bs⟩
theorem Cuts.app {xs ys : List (List Int × Int)} {N M : Nat} (hx : Cuts xs N) (hy : Cuts ys M) : Cuts (xs ++ ys) (N + M) := by
 have h1 := hx.len
 have h2 := hy.len
 have h3 := hx.sum
 have h4 := hy.sum
 refine ⟨hx.wide.app hy.wide, by rw [List.length_append]; omega, ?_, fun j => ?_, fun j => ?_⟩
 ·rw [List.length_append, zhf xs ys _ (Nat.le_refl _)]
  omega
 ·rw [zdI]
  split
  ·have := hx.runes j; omega
  ·have := hy.runes (j - xs.length); omega
 ·rw [zdI]
  split
  ·exact hx.i32 j
  ·exact hy.i32 _
theorem zk3 (cs : List (List Int × Int)) (k : Nat) : ∀ n, k ≤ n → zaL cs k ≤ zaL cs n := by
 intro n
 induction n with
 | zero => intro h; rw [show k = 0 by omega]; exact Nat.le_refl _
 | succ n ih =>
  intro h
  by_cases e : k = n + 1
  ·subst e; exact Nat.le_refl _
  ·have := ih (by omega); rw [zaL]; omega
theorem Cuts.part {cs : List (List Int × Int)} {N : Nat} (h : Cuts cs N) (s e : Nat) : ((cs.take e).drop s).length + zaL ((cs.take e).drop s) ((cs.take e).drop s).length ≤ 3 * N ∧ ∀ j, zbv (cR ((cs.take e).drop s) j) := by
 have h1 := h.sum
 have hl : ((cs.take e).drop s).length = min e cs.length - s := by simp
 refine ⟨?_, fun j => ?_⟩
 ·by_cases hse : s ≤ min e cs.length
  ·have e1 := zi9 cs s e (min e cs.length - s) (by omega)
   have e2 := zk3 cs (s + (min e cs.length - s)) cs.length (by omega)
   rw [hl]
   omega
  ·have h0 : (cs.take e).drop s = [] := List.eq_nil_of_length_eq_zero (by omega)
   rw [h0]
   simp [zaL]
 ·unfold cR
  cases hj : ((cs.take e).drop s)[j]? with
  | none => intro x hx; cases hx
  | some u =>
   obtain ⟨q, hq⟩ := List.mem_iff_getElem?.1 (List.mem_of_mem_take (List.mem_of_mem_drop (List.mem_of_getElem? hj)))
   have := h.i32 q
   unfold cR at this
   rw [hq] at this
   exact this
theorem zdh (bs : List Int) (hb : zaj bs) (w : World) (hl : bs.length ≤ 8000000) :
  Calls Tryz.prog 121 #[.string (zv bs)] w fun e w' => ∃ v rs, e = .returned v ∧ zak w' w.heap.size v rs (zd bs) ∧ Ext w w' := by
 obtain ⟨v0, w0, hrun, h0, E0⟩ := zea (P := Tryz.prog) w _ _ _ Tryz.underlying9 Tryz.underlying25 Tryz.underlying5 bs hb
 have hcl := zaN bs
 have H0 := zi h0
 go_enter Tryz.func121, Tryz.ntmps121
 go_wp2_with fail
 refine (zbZ bs hb v0 w0 (zg H0) (by omega)).mono ?_
 rintro e w1 ⟨v1, rfl, o1, E1⟩
 go_wp2_with fail
 refine (zbJ v1 (zp bs) w1 (zaf o1) (zcK bs) (by omega)).mono ?_
 rintro e w2 ⟨v2, rs2, rfl, o2, E2⟩
 have O2 := zi o2
 clear o1 o2
 go_wp2
 go_ret
 exact ⟨_, _, rfl, zak.mono (zg O2) (E0.trans E1).size, (E0.trans E1).trans E2⟩
theorem zbG (bs : List Int) (hb : zaj bs) (w : World) (hl : bs.length ≤ 8000000) (hT : zcB w) :
  Calls Tryz.prog 204 #[.string (zv bs)] w fun e w' => ∃ v rs, e = .returned v ∧ zak w' w.heap.size v rs (zd bs) ∧ Ext w w' := by
 obtain ⟨v0, w0, hrun, h0, E0⟩ := zea (P := Tryz.prog) w _ _ _ Tryz.underlying9 Tryz.underlying25 Tryz.underlying5 bs hb
 have hcl := zaN bs
 have H0 := zi h0
 have HT := zi hT
 go_enter Tryz.func204, Tryz.ntmps204
 go_wp2_with fail
 refine (zhH bs hb v0 w0 (zg H0) (by omega)).mono ?_
 rintro e w1 ⟨v1, rfl, o1, E1⟩
 have T1 := zi ((zg HT).below (E0.trans E1).below)
 go_wp2_with fail
 refine (zcp v1 (zp bs) w1 (zaf o1) (zcK bs) (by omega) (zg T1)).mono ?_
 rintro e w2 ⟨v2, rs2, rfl, o2, E2⟩
 have O2 := zi o2
 clear o1 o2
 go_wp2
 go_ret
 exact ⟨_, _, rfl, zak.mono (zg O2) (E0.trans E1).size, (E0.trans E1).trans E2⟩
theorem zak.ys {w : World} {b : Nat} {v : Value} {rs : List Value} {cs : List (List Int × Int)} (h : zak w b v rs cs) : ∃ ys, w.ownsRow b 203 2 v cs.length ys ∧ (∀ j, j < cs.length → ys[j * 2]? = some (rV rs j) ∧ ys[j * 2 + 1]? = some (.int .i64 (cW cs j))) ∧ Src w 2 v cs.length ys := by
 obtain ⟨h0, ⟨ys, h1, h2⟩, h3, h4⟩ := h
 refine ⟨ys, h1, h2, h1.1, fun u hu => ?_, ?_⟩
 ·obtain ⟨i, hi⟩ := List.mem_iff_getElem?.1 hu
  have hil : i < cs.length * 2 := by rw [← h1.1]; exact (List.getElem?_eq_some_iff.1 hi).1
  have hj := h2 (i / 2) (by omega)
  rcases Nat.mod_two_eq_zero_or_one i with e | e
  ·rw [show i / 2 * 2 = i by omega, hi] at hj
   obtain rfl := Option.some.inj hj.1
   rcases (h3 (i / 2) (by omega)).2 with ⟨e2, _⟩ | ⟨g, cap, cur, e2, _⟩ <;> rw [e2] <;> rfl
  ·rw [show i / 2 * 2 + 1 = i by omega, hi] at hj
   obtain rfl := Option.some.inj hj.2
   rfl
 ·rcases h1.2 with ⟨rfl, e0⟩ | ⟨g, cap, cur, rfl, _⟩
  ·exact .inl ⟨0, rfl, e0⟩
  ·exact .inr ⟨_, cap, rfl, h1.cells rfl⟩
theorem zak.append {w w' : World} {b b2 : Nat} {v1 v2 v' : Value} {rs1 rs2 : List Value} {cs1 cs2 : List (List Int × Int)} {ys1 ys2 : List Value} (h1 : zak w b v1 rs1 cs1) (h2 : zak w b2 v2 rs2 cs2) (hb : b ≤ b2) (hlt : ∀ g, zdN v1 rs1 cs1.length g → g < b2)
  (o1 : w.ownsRow b 203 2 v1 cs1.length ys1) (k1 : ∀ j, j < cs1.length → ys1[j * 2]? = some (rV rs1 j) ∧ ys1[j * 2 + 1]? = some (.int .i64 (cW cs1 j))) (k2 : ∀ j, j < cs2.length → ys2[j * 2]? = some (rV rs2 j) ∧ ys2[j * 2 + 1]? = some (.int .i64 (cW cs2 j)))
  (o' : w'.ownsRow b 203 2 v' (cs1.length + cs2.length) (ys1 ++ ys2)) (hg : w.grownBy w' v1.ownBlock) : zak w' b v' (rs1 ++ rs2) (cs1 ++ cs2) := by
 have l1 : rs1.length = cs1.length := h1.1
 have l2 : rs2.length = cs2.length := h2.1
 have ly : ys1.length = cs1.length * 2 := o1.1
 have fr : Fr (fun g => v1.ownBlock = some g) w w' := (Fr.refl _ w).grown hg (fun k hk => hk)
 have rv : ∀ j, rV (rs1 ++ rs2) j = if j < cs1.length then rV rs1 j else rV rs2 (j - cs1.length) := by
  intro j
  unfold rV
  split
  ·rename_i h; rw [List.getElem?_append_left (by omega)]
  ·rename_i h; rw [List.getElem?_append_right (by omega), l1]
 have lt1 : ∀ j g, j < cs1.length → (rV rs1 j).ownBlock = some g → g < b2 := fun j g hj hgg => hlt g (.inr ⟨j, hj, hgg⟩)
 have ge2 : ∀ j g, j < cs2.length → (rV rs2 j).ownBlock = some g → b2 ≤ g := fun j g hj hgg => ((h2.2.2.1 j hj).lt g hgg).1
 refine ⟨by simp [l1, l2], ⟨_, by rw [List.length_append]; exact o', fun j hj => ?_⟩, fun j hj => ?_, fun i j g hij hj => ?_⟩
 ·rw [rv, zdS]
  split
  ·rename_i h
   have := k1 j h
   rw [List.getElem?_append_left (by omega), List.getElem?_append_left (by omega)]
   exact this
  ·rename_i h
   simp at hj
   have := k2 (j - cs1.length) (by omega)
   rw [List.getElem?_append_right (by omega), List.getElem?_append_right (by omega), ly, show j * 2 - cs1.length * 2 = (j - cs1.length) * 2 by omega, show j * 2 + 1 - cs1.length * 2 = (j - cs1.length) * 2 + 1 by omega]
   exact this
 ·rw [rv, zdI]
  split
  ·rename_i h
   exact fr.owns (h1.2.2.1 j h) (fun g hgg e => zaW o1 (h1.2.2.1 j h) (by decide) e hgg)
  ·rename_i h
   simp at hj
   refine zas (fr.owns (h2.2.2.1 _ (by omega)) (fun g hgg e => ?_)) hb
   have a := ge2 _ g (by omega) hgg
   have c := hlt g (.inl e)
   omega
 ·rw [rv, rv]
  simp at hj
  intro hi
  by_cases hi1 : i < cs1.length
  ·rw [if_pos hi1] at hi
   by_cases hj1 : j < cs1.length
   ·rw [if_pos hj1]
    exact h1.2.2.2 i j g hij hj1 hi
   ·rw [if_neg hj1]
    intro e
    have a := lt1 i g hi1 hi
    have c := ge2 _ g (by omega) e
    omega
  ·rw [if_neg hi1] at hi
   rw [if_neg (by omega)]
   exact h2.2.2.2 _ _ g (by omega) (by omega) hi
theorem zak.lt {w : World} {b : Nat} {v : Value} {rs : List Value} {cs : List (List Int × Int)} (h : zak w b v rs cs) {g : Nat} (hg : zdN v rs cs.length g) : b ≤ g ∧ g < w.heap.size := by
 rcases hg with hg | ⟨j, hj, hg⟩
 ·obtain ⟨ys, o, _⟩ := h.2.1
  exact o.lt g hg
 ·exact (h.2.2.1 j hj).lt g hg
theorem zaI.cut {w : World} {a : Option Addr} {n c : Nat} {cs : List (List Int × Int)} (h : zaI w (.slice a n c) cs) (s e Z : Nat) (hse : s ≤ e) (he : e ≤ cs.length) (hZ : e - s ≤ Z) (a' : Option Addr) (ha : a' = a.map (fun x => x.add (s * 2)) ∨ e - s = 0) : zaI w (.slice a' (e - s) Z) ((cs.take e).drop s) := by
 have hlen : ((cs.take e).drop s).length = e - s := by simp; omega
 by_cases h0 : e - s = 0
 ·exact ⟨[], a', Z, by rw [hlen], by omega, fun j hj => by omega, fun hp => by omega⟩
 obtain ⟨rs, ao, ca, e1, hca, hr, hx⟩ := h
 simp only [Value.slice.injEq] at e1
 obtain ⟨rfl, rfl, rfl⟩ := e1
 obtain ⟨b, off, rfl, hc⟩ := hx (by omega)
 have ha' : a' = some ⟨b, off + s * 2, none⟩ := by
  rcases ha with rfl | ha
  ·simp [Addr.add]
  ·omega
 subst ha'
 refine ⟨(List.range (e - s)).map (fun j => rV rs (s + j)), _, Z, by rw [hlen], by omega, fun j hj => ?_, fun _ => ⟨b, off + s * 2, rfl, fun j hj => ?_⟩⟩
 ·rw [hlen] at hj
  rw [(zk1 cs s e j (by omega)).1]
  have e2 : rV ((List.range (e - s)).map (fun j => rV rs (s + j))) j = rV rs (s + j) := by
   conv => lhs; unfold rV
   rw [List.getElem?_map, List.getElem?_range hj]
   rfl
  rw [e2]
  exact hr (s + j) (by omega)
 ·rw [hlen] at hj
  have e2 : rV ((List.range (e - s)).map (fun j => rV rs (s + j))) j = rV rs (s + j) := by
   conv => lhs; unfold rV
   rw [List.getElem?_map, List.getElem?_range hj]
   rfl
  rw [e2, (zk1 cs s e j (by omega)).2, show off + s * 2 + j * 2 = off + (s + j) * 2 by omega]
  exact hc (s + j) (by omega)
section
variable {P : Program}
theorem zhv (w : World) (dT sT ty elem : TypeId) (sz g o dLen dCap : Nat) (a : Addr) (sLen sCap : Nat) (cur : Array Value) (t : TypeId) (cs : List Value)
  (hu : P.underlying dT = some (.slice elem)) (hs : (P.info? elem).map (·.size) = some sz)
  (hg : w.heap[g]? = some (.cells cur t (0, 0))) (hn : cs.length = Nat.min sLen dLen * sz)
  (hsrc : ∀ j v, cs[j]? = some v → w.cell? (a.add j) = some v) (hfit : o + cs.length ≤ cur.size) (h1 : ∀ v ∈ cs, v.oneCell' = true) :
  (Builtin.copy_ #[dT, sT] ty #[.slice (some ⟨g, o, none⟩) dLen dCap, .slice (some a) sLen sCap]).run P w =
   .ok (goInt (Nat.min sLen dLen)) (w.setRow g (cur.toList.take o ++ cs ++ cur.toList.drop (o + cs.length)).toArray) := by
 have hl := run_loadCells_list (P := P) w a cs hsrc
 have hst := run_storeCells_at P g o t cs 0 cur w hg (by simpa using hfit) h1
 cases hq : P.info? elem with
 | none => simp [hq] at hs
 | some i =>
  have hi : i.size = sz := by simpa [hq] using hs
  simp [Builtin.copy_, run_underlying hu, Builtin.lenOf, Builtin.firstCells, sizeOf, typeInfo, hq, hi, ← hn, hl, hst]
end
def seg {α : Type} (l : List α) (o : Nat) (p : List α) : List α := l.take o ++ p ++ l.drop (o + p.length)
theorem zeP {α : Type} (l : List α) (o : Nat) (p : List α) (h : o + p.length ≤ l.length) : (seg l o p).length = l.length := by
 unfold seg
 simp
 omega
theorem zdW {α : Type} (l : List α) (o : Nat) (p : List α) (h : o + p.length ≤ l.length) (j : Nat) : (seg l o p)[j]? = if j < o then l[j]? else if j < o + p.length then p[j - o]? else l[j]? := by
 unfold seg
 have ho : (l.take o).length = o := by rw [List.length_take]; omega
 by_cases h1 : j < o
 ·rw [if_pos h1, List.append_assoc, List.getElem?_append_left (by omega), List.getElem?_take, if_pos h1]
 ·rw [if_neg h1, List.append_assoc, List.getElem?_append_right (by omega), ho]
  by_cases h2 : j < o + p.length
  ·rw [if_pos h2, List.getElem?_append_left (by omega)]
  ·rw [if_neg h2, List.getElem?_append_right (by omega), List.getElem?_drop]
   congr 1
   omega
def zam (rs : List Value) (cs : List (List Int × Int)) : Nat → List Value
 | 0 => []
 | k + 1 => zam rs cs k ++ [rV rs k, .int .i64 (cW cs k)]
theorem zbh (rs : List Value) (cs : List (List Int × Int)) : ∀ k, (zam rs cs k).length = k * 2
 | 0 => rfl
 | k + 1 => by rw [zam, List.length_append, zbh rs cs k]; simp; omega
theorem zds (rs : List Value) (cs : List (List Int × Int)) : ∀ k j, j < k → (zam rs cs k)[j * 2]? = some (rV rs j) ∧ (zam rs cs k)[j * 2 + 1]? = some (.int .i64 (cW cs j))
 | 0, j, h => by omega
 | k + 1, j, h => by
  have hl := zbh rs cs k
  rw [zam]
  by_cases e : j = k
  ·subst e
   rw [List.getElem?_append_right (by omega), List.getElem?_append_right (by omega), hl]
   simp
  ·rw [List.getElem?_append_left (by omega), List.getElem?_append_left (by omega)]
   exact zds rs cs k j (by omega)
def RS (P : Nat) (W : World) (v : Value) (xs : List Int) : Prop := ∀ W', Fr (fun q => q = P) W W' → zag W' .i32 v xs
theorem RS.fr {P : Nat} {W W' : World} {v : Value} {xs : List Int} (h : RS P W v xs) (f : Fr (fun q => q = P) W W') : RS P W' v xs := fun _ f2 => h _ (f.tr f2)
theorem RS.ext {P : Nat} {W W' : World} {v : Value} {xs : List Int} (h : RS P W v xs) (f : Ext W W') : RS P W' v xs := h.fr (Fr.of_ext f)
theorem RS.now {P : Nat} {W : World} {v : Value} {xs : List Int} (h : RS P W v xs) : zag W .i32 v xs := h W (Fr.refl _ _)
structure zaY (P : Nat) (W : World) (cl : List Value) (rl rr : List Value) (A B : List (List Int × Int)) : Prop where
 len : cl.length = 600
 fit : A.length + B.length ≤ 300
 na : rl.length = A.length
 nb : rr.length = B.length
 la : ∀ j, j < A.length → cl[j * 2]? = some (rV rl j) ∧ cl[j * 2 + 1]? = some (.int .i64 (cW A j))
 lb : ∀ j, j < B.length → cl[(300 - B.length + j) * 2]? = some (rV rr j) ∧ cl[(300 - B.length + j) * 2 + 1]? = some (.int .i64 (cW B j))
 ra : ∀ j, j < A.length → RS P W (rV rl j) (cR A j)
 rb : ∀ j, j < B.length → RS P W (rV rr j) (cR B j)
 one : ∀ v ∈ cl, v.oneCell' = true
theorem zaY.fr {P : Nat} {W W' : World} {cl rl rr : List Value} {A B : List (List Int × Int)} (h : zaY P W cl rl rr A B) (f : Fr (fun q => q = P) W W') : zaY P W' cl rl rr A B :=
 ⟨h.len, h.fit, h.na, h.nb, h.la, h.lb, fun j hj => (h.ra j hj).fr f, fun j hj => (h.rb j hj).fr f, h.one⟩
def edC (cl : List Value) (fr bh : Int) (k : ByteArray) (u : Value) : Array Value := (cl ++ [.int .i64 fr, .int .i64 bh, .string k, u]).toArray
theorem ziv {cl : List Value} {fr bh : Int} {k : ByteArray} {u : Value} (h : cl.length = 600) : (edC cl fr bh k u)[600]? = some (.int .i64 fr) ∧ (edC cl fr bh k u)[601]? = some (.int .i64 bh) ∧ (edC cl fr bh k u)[602]? = some (.string k) ∧ (edC cl fr bh k u)[603]? = some u := by
 unfold edC
 simp [h]
theorem zjt {cl : List Value} {fr bh : Int} {k : ByteArray} {u : Value} (h : cl.length = 600) : (edC cl fr bh k u).size = 604 := by
 unfold edC
 simp [h]
theorem zdV {cl : List Value} {fr bh : Int} {k : ByteArray} {u : Value} (h : cl.length = 600) (j : Nat) (hj : j < 600) : (edC cl fr bh k u)[j]? = cl[j]? := by
 unfold edC
 simp [List.getElem?_append, h, hj]
theorem zk2 {cl p : List Value} {fr bh : Int} {k : ByteArray} {u : Value} (h : cl.length = 600) (o : Nat) (hp : o + p.length ≤ 600) : ((edC cl fr bh k u).toList.take o ++ p ++ (edC cl fr bh k u).toList.drop (o + p.length)).toArray = edC (seg cl o p) fr bh k u := by
 unfold edC seg
 rw [List.take_append_of_le_length (by omega), List.drop_append_of_le_length (by omega)]
 simp
theorem zed {cl : List Value} {fr bh fr' : Int} {k : ByteArray} {u : Value} (h : cl.length = 600) : (edC cl fr bh k u).setIfInBounds 600 (.int .i64 fr') = edC cl fr' bh k u := by
 unfold edC
 simp [h]
theorem zgE {cl : List Value} {fr bh bh' : Int} {k : ByteArray} {u : Value} (h : cl.length = 600) : (edC cl fr bh k u).setIfInBounds 601 (.int .i64 bh') = edC cl fr bh' k u := by
 unfold edC
 simp [h]
theorem zde (xs ys : List Value) (j : Nat) : rV (xs ++ ys) j = if j < xs.length then rV xs j else rV ys (j - xs.length) := by
 unfold rV
 by_cases h : j < xs.length
 ·rw [if_pos h, List.getElem?_append_left h]
 ·rw [if_neg h, List.getElem?_append_right (by omega)]
theorem zaY.insert {P : Nat} {W : World} {cl rl rr rs : List Value} {A B cs : List (List Int × Int)} (h : zaY P W cl rl rr A B) (hrs : rs.length = cs.length) (hfit : A.length + cs.length + B.length ≤ 300) (hr : ∀ j, j < cs.length → RS P W (rV rs j) (cR cs j)) (h1 : ∀ v ∈ zam rs cs cs.length, v.oneCell' = true) :
  zaY P W (seg cl (A.length * 2) (zam rs cs cs.length)) (rl ++ rs) rr (A ++ cs) B := by
 have hl := h.len
 have hc := zbh rs cs cs.length
 have hs : A.length * 2 + (zam rs cs cs.length).length ≤ cl.length := by omega
 refine ⟨by rw [zeP _ _ _ hs, hl], by rw [List.length_append]; omega, by rw [List.length_append, List.length_append, h.na, hrs], h.nb, fun j hj => ?_, fun j hj => ?_, fun j hj => ?_, h.rb, fun v hv => ?_⟩
 ·rw [List.length_append] at hj
  have e1 := zdW cl (A.length * 2) (zam rs cs cs.length) hs (j * 2)
  have e2 := zdW cl (A.length * 2) (zam rs cs cs.length) hs (j * 2 + 1)
  by_cases e : j < A.length
  ·rw [if_pos (show j * 2 < A.length * 2 by omega)] at e1
   rw [if_pos (show j * 2 + 1 < A.length * 2 by omega)] at e2
   exact ⟨by rw [e1, zde, h.na, if_pos e]; exact (h.la j e).1, by rw [e2, zdS, if_pos e]; exact (h.la j e).2⟩
  ·have h2 := zds rs cs cs.length (j - A.length) (by omega)
   rw [if_neg (show ¬ j * 2 < A.length * 2 by omega), if_pos (show j * 2 < A.length * 2 + (zam rs cs cs.length).length by omega), show j * 2 - A.length * 2 = (j - A.length) * 2 by omega] at e1
   rw [if_neg (show ¬ j * 2 + 1 < A.length * 2 by omega), if_pos (show j * 2 + 1 < A.length * 2 + (zam rs cs cs.length).length by omega), show j * 2 + 1 - A.length * 2 = (j - A.length) * 2 + 1 by omega] at e2
   exact ⟨by rw [e1, zde, h.na, if_neg e]; exact h2.1, by rw [e2, zdS, if_neg e]; exact h2.2⟩
 ·have e1 := zdW cl (A.length * 2) (zam rs cs cs.length) hs ((300 - B.length + j) * 2)
  have e2 := zdW cl (A.length * 2) (zam rs cs cs.length) hs ((300 - B.length + j) * 2 + 1)
  rw [if_neg (show ¬ (300 - B.length + j) * 2 < A.length * 2 by omega), if_neg (show ¬ (300 - B.length + j) * 2 < A.length * 2 + (zam rs cs cs.length).length by omega)] at e1
  rw [if_neg (show ¬ (300 - B.length + j) * 2 + 1 < A.length * 2 by omega), if_neg (show ¬ (300 - B.length + j) * 2 + 1 < A.length * 2 + (zam rs cs cs.length).length by omega)] at e2
  exact ⟨by rw [e1]; exact (h.lb j hj).1, by rw [e2]; exact (h.lb j hj).2⟩
 ·rw [List.length_append] at hj
  rw [zde, zdI, h.na]
  by_cases e : j < A.length
  ·rw [if_pos e, if_pos e]
   exact h.ra j e
  ·rw [if_neg e, if_neg e]
   exact hr _ (by omega)
 ·unfold seg at hv
  rcases List.mem_append.1 hv with hv | hv
  ·rcases List.mem_append.1 hv with hv | hv
   ·exact h.one v (List.mem_of_mem_take hv)
   ·exact h1 v hv
  ·exact h.one v (List.mem_of_mem_drop hv)
theorem zaY.left {P : Nat} {W : World} {cl rl rr : List Value} {A B : List (List Int × Int)} {fr bh : Int} {k : ByteArray} {u : Value} {T : TypeId} (h : zaY P W cl rl rr A B) (hP : W.heap[P]? = some (.cells (edC cl fr bh k u) T (0, 0))) (c : Nat) (hc : A.length ≤ c) : zaI W (.slice (some ⟨P, 0, none⟩) A.length c) A := by
 refine ⟨rl, _, c, rfl, hc, fun j hj => (h.ra j hj).now, fun _ => ⟨P, 0, rfl, fun j hj => ?_⟩⟩
 have hl := h.len
 have hf := h.fit
 have h1 := h.la j hj
 rw [cell_of_row W P _ _ _ _ hP, cell_of_row W P _ _ _ _ hP, Nat.zero_add, zdV hl _ (by omega), zdV hl _ (by omega)]
 exact h1
theorem zaY.right {P : Nat} {W : World} {cl rl rr : List Value} {A B : List (List Int × Int)} {fr bh : Int} {k : ByteArray} {u : Value} {T : TypeId} (h : zaY P W cl rl rr A B) (hP : W.heap[P]? = some (.cells (edC cl fr bh k u) T (0, 0))) (c : Nat) (hc : B.length ≤ c) : zaI W (.slice (some ⟨P, (300 - B.length) * 2, none⟩) B.length c) B := by
 refine ⟨rr, _, c, rfl, hc, fun j hj => (h.rb j hj).now, fun _ => ⟨P, (300 - B.length) * 2, rfl, fun j hj => ?_⟩⟩
 have hl := h.len
 have hf := h.fit
 have h1 := h.lb j hj
 rw [cell_of_row W P _ _ _ _ hP, cell_of_row W P _ _ _ _ hP, ← Nat.add_mul, zdV hl _ (by omega), zdV hl _ (by omega)]
 exact h1
end Go.Proofs.YtmlkpdbfnffoaaaGreatDoor
