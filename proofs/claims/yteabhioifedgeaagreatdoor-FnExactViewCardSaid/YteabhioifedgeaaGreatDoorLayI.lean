import Derived.Test.YteabhioifedgeaaGreatDoorWrapW
import Derived.Test.YteabhioifedgeaaGreatDoorSizeB
import Derived.Test.YteabhioifedgeaaGreatDoorSes
import Derived.Test.YteabhioifedgeaaGreatDoorCells
import Derived.Test.YteabhioifedgeaaGreatDoorWhole
import Derived.Deep.AppendLies
import Derived.Deep.RegionHeldLaw
import Derived.Test.YteabhioifedgeaaGreatDoorAllOk
import Derived.Test.YteabhioifedgeaaGreatDoorWrapS
import Derived.Deep.SlicePairs
namespace Go.Proofs.YteabhioifedgeaaGreatDoor
open Go.RowKit

/-- The clusters of a text. -/
def cutC (bs : List Int) : List (List Int × Int) := clusC (cleanL bs)
/-- Every cluster has a width of 1 or 2. -/
def Wides (cs : List (List Int × Int)) : Prop := ∀ j, j < cs.length → 1 ≤ cW cs j ∧ cW cs j ≤ 2
theorem cW_none (cs : List (List Int × Int)) (j : Nat) (h : cs.length ≤ j) : cW cs j = 0 := by simp [cW, List.getElem?_eq_none h]
theorem Wides.all {cs : List (List Int × Int)} (h : Wides cs) (j : Nat) : 0 ≤ cW cs j ∧ cW cs j ≤ 2 := by
  by_cases hj : j < cs.length
  · have := h j hj; omega
  · rw [cW_none cs j (by omega)]; omega
theorem cW_app (xs ys : List (List Int × Int)) (j : Nat) : cW (xs ++ ys) j = if j < xs.length then cW xs j else cW ys (j - xs.length) := by
  unfold cW
  split
  · rename_i h; rw [List.getElem?_append_left h]
  · rename_i h; rw [List.getElem?_append_right (by omega)]
theorem cR_app (xs ys : List (List Int × Int)) (j : Nat) : cR (xs ++ ys) j = if j < xs.length then cR xs j else cR ys (j - xs.length) := by
  unfold cR
  split
  · rename_i h; rw [List.getElem?_append_left h]
  · rename_i h; rw [List.getElem?_append_right (by omega)]
theorem Wides.app {xs ys : List (List Int × Int)} (hx : Wides xs) (hy : Wides ys) : Wides (xs ++ ys) := by
  intro j hj
  rw [cW_app]
  split
  · rename_i h; exact hx j h
  · rename_i h; simp at hj; exact hy _ (by omega)
theorem clF_pos (xs : List Int) : ∀ k j, j < (clF xs k).length → 1 ≤ cW (clF xs k) j
  | 0, j, h => by simp [clF] at h
  | k + 1, j, h => by
    have ih := clF_pos xs k
    rw [clF, clStep] at h ⊢
    split
    · rename_i h1
      rw [if_pos h1] at h
      rw [cW_push]
      split
      · omega
      · rename_i h2; simp at h; exact ih j (by omega)
    · rename_i h1
      rw [if_neg h1] at h
      split
      · rename_i h2
        rw [if_pos h2] at h
        simp at h
        subst h
        simp [cW]
      · rename_i h2
        rw [if_neg h2] at h
        simp at h
        rw [cW_set _ _ _ _ (by omega)]
        split
        · exact ih _ (by omega)
        · exact ih j h
theorem cutC_wides (bs : List Int) : Wides (cutC bs) := fun j hj => ⟨clF_pos _ _ j hj, (clF_wid _ _ j).2⟩
theorem pw_strict {cs : List (List Int × Int)} (h : Wides cs) {s e : Nat} (hse : s < e) (he : e ≤ cs.length) : pw cs s < pw cs e := by
  have h1 := pw_mono cs h.all s (e - 1) (by omega)
  have h2 := h (e - 1) (by omega)
  obtain ⟨k, rfl⟩ : ∃ k, e = k + 1 := ⟨e - 1, by omega⟩
  rw [pw]
  simp at h1 h2
  omega
/-- The row of a place, of the first i starts. -/
def rwF (S : List Int) (p : Int) : Nat → Nat
  | 0 => 0
  | i + 1 => if at0 S i ≤ p then i else rwF S p i
theorem rwF_lt (S : List Int) (p : Int) : ∀ i, 0 < i → rwF S p i < i
  | 0, h => by omega
  | i + 1, _ => by
    rw [rwF]
    split
    · omega
    · by_cases h0 : i = 0
      · subst h0; simp [rwF]
      · have := rwF_lt S p i (by omega); omega
theorem rwF_le (S : List Int) (p : Int) (h0 : at0 S 0 ≤ p) : ∀ i, at0 S (rwF S p i) ≤ p
  | 0 => h0
  | i + 1 => by
    rw [rwF]
    split
    · assumption
    · exact rwF_le S p h0 i
theorem rwF_above (S : List Int) (p : Int) : ∀ i j, rwF S p i < j → j < i → p < at0 S j
  | 0, j, _, h => by omega
  | i + 1, j, h1, h2 => by
    rw [rwF] at h1
    split at h1
    · omega
    · rename_i h
      by_cases e : j = i
      · subst e; omega
      · exact rwF_above S p i j h1 (by omega)
/-- The one row that holds a place. -/
theorem rwF_only {S : List Int} {p : Int} {m i : Nat} (hm : i < m) (h1 : at0 S i ≤ p) (h2 : ∀ j, i < j → j < m → p < at0 S j) (h0 : at0 S 0 ≤ p) : rwF S p m = i := by
  have a := rwF_lt S p m (by omega)
  have b := rwF_le S p h0 m
  by_cases e : rwF S p m < i
  · have := rwF_above S p m i e hm; omega
  · by_cases e2 : i < rwF S p m
    · have := h2 _ e2 a; omega
    · omega
section
variable (cs : List (List Int × Int)) (cols : Nat) (p rows : Nat)
def stS : List Int := (stF cs cols cs.length).1
def layRow0 : Nat := rwF (stS cs cols) p (stS cs cols).length
def layCol0 : Int := pw cs p - pw cs (at0 (stS cs cols) (layRow0 cs cols p)).toNat
/-- The cursor stands behind a full last row. -/
def LayFull : Prop := p = cs.length ∧ layCol0 cs cols p = cols
abbrev layD : Decidable (LayFull cs cols p) := inferInstanceAs (Decidable (p = cs.length ∧ layCol0 cs cols p = cols))
def layS : List Int := @ite _ (LayFull cs cols p) (layD cs cols p) (stS cs cols ++ [(p : Int)]) (stS cs cols)
def layRow : Nat := @ite _ (LayFull cs cols p) (layD cs cols p) (layRow0 cs cols p + 1) (layRow0 cs cols p)
def layCol : Int := @ite _ (LayFull cs cols p) (layD cs cols p) (0) (layCol0 cs cols p)
def layFr : Nat := layRow cs cols p + 1 - rows
def layCnt : Nat := min (layFr cs cols p rows + rows) (layS cs cols p).length - layFr cs cols p rows
/-- The clusters of row i. -/
def layC (i : Nat) : List (List Int × Int) := (cs.take (at0 (layS cs cols p ++ [(cs.length : Int)]) (i + 1)).toNat).drop (at0 (layS cs cols p ++ [(cs.length : Int)]) i).toNat
def layT (i : Nat) : ByteArray := toBA (textC (layC cs cols p (layFr cs cols p rows + i)))
end
variable {cs : List (List Int × Int)} {cols p : Nat}
theorem stS_row (hw : Wides cs) (hc : 2 ≤ cols) : RowOk cs cols (stS cs cols) (stF cs cols cs.length).2 cs.length := rowOk cs cols (by omega) hw.all cs.length
theorem layRow0_lt : layRow0 cs cols p < (stS cs cols).length := rwF_lt _ _ _ (by have := (stF_ok cs cols cs.length).one; exact this)
theorem stS_zero : at0 (stS cs cols) 0 = 0 := (stF_ok cs cols cs.length).at00
theorem layRow0_le : at0 (stS cs cols) (layRow0 cs cols p) ≤ (p : Int) := rwF_le _ _ (by rw [stS_zero]; omega) _
theorem layRow0_above {j : Nat} (h1 : layRow0 cs cols p < j) (h2 : j < (stS cs cols).length) : (p : Int) < at0 (stS cs cols) j := rwF_above _ _ _ _ h1 h2
theorem stS_nonneg {i : Nat} (hi : i < (stS cs cols).length) : 0 ≤ at0 (stS cs cols) i ∧ at0 (stS cs cols) i ≤ (cs.length : Int) := (stF_ok cs cols cs.length).le i hi
/-- The program's test for a full row is the specification's. -/
theorem full_iff (hw : Wides cs) (hc : 2 ≤ cols) (hp : p ≤ cs.length) : LayFull cs cols p ↔ layCol0 cs cols p = cols := by
  refine ⟨fun h => h.2, fun h => ⟨?_, h⟩⟩
  by_cases e : p = cs.length
  · exact e
  exfalso
  have hlt := layRow0_lt (cs := cs) (cols := cols) (p := p)
  have hle := layRow0_le (cs := cs) (cols := cols) (p := p)
  have ok := stS_row hw hc
  have hn := stS_nonneg hlt
  unfold layCol0 at h
  by_cases hl : layRow0 cs cols p + 1 < (stS cs cols).length
  · have h1 := (ok.rows _ hl).1
    have h2 := layRow0_above (cs := cs) (cols := cols) (p := p) (show layRow0 cs cols p < layRow0 cs cols p + 1 by omega) hl
    have h3 := stS_nonneg hl
    have h4 := pw_strict hw (s := p) (e := (at0 (stS cs cols) (layRow0 cs cols p + 1)).toNat) (by omega) (by omega)
    omega
  · have h1 := ok.le
    have h2 := ok.eq
    have h3 : (stS cs cols).length - 1 = layRow0 cs cols p := by omega
    rw [h3] at h2
    have h4 := pw_strict hw (s := p) (e := cs.length) (by omega) (Nat.le_refl _)
    omega
theorem layCol0_bd (hw : Wides cs) (hc : 2 ≤ cols) (hp : p ≤ cs.length) : 0 ≤ layCol0 cs cols p ∧ layCol0 cs cols p ≤ cols := by
  have hlt := layRow0_lt (cs := cs) (cols := cols) (p := p)
  have hle := layRow0_le (cs := cs) (cols := cols) (p := p)
  have ok := stS_row hw hc
  have hn := stS_nonneg hlt
  unfold layCol0
  have h0 := pw_mono cs hw.all (at0 (stS cs cols) (layRow0 cs cols p)).toNat p (by omega)
  refine ⟨by omega, ?_⟩
  by_cases hl : layRow0 cs cols p + 1 < (stS cs cols).length
  · have h1 := (ok.rows _ hl).1
    have h2 := layRow0_above (cs := cs) (cols := cols) (p := p) (show layRow0 cs cols p < layRow0 cs cols p + 1 by omega) hl
    have h3 := stS_nonneg hl
    have h4 := pw_mono cs hw.all p (at0 (stS cs cols) (layRow0 cs cols p + 1)).toNat (by omega)
    omega
  · have h1 := ok.le
    have h2 := ok.eq
    have h3 : (stS cs cols).length - 1 = layRow0 cs cols p := by omega
    rw [h3] at h2
    have h4 := pw_mono cs hw.all p cs.length hp
    omega
theorem layS_len : (layS cs cols p).length ≤ cs.length + 2 := by
  have := (stF_ok cs cols cs.length).len
  unfold layS
  split
  · simp [stS]; omega
  · simp [stS]; omega
theorem layRow_lt : layRow cs cols p < (layS cs cols p).length := by
  have := layRow0_lt (cs := cs) (cols := cols) (p := p)
  unfold layRow layS
  split
  · simp; omega
  · exact this
/-- The width of clusters together. -/
def wsum (cs : List (List Int × Int)) : Int := pw cs cs.length
theorem pw_app (xs ys : List (List Int × Int)) : ∀ k, k ≤ xs.length → pw (xs ++ ys) k = pw xs k
  | 0, _ => rfl
  | k + 1, h => by rw [pw, pw, pw_app xs ys k (by omega), cW_app, if_pos (by omega)]
theorem pw_sub (cs : List (List Int × Int)) (s e : Nat) : ∀ j, s + j ≤ e → pw ((cs.take e).drop s) j = pw cs (s + j) - pw cs s
  | 0, _ => by simp [pw]
  | j + 1, h => by rw [pw, pw_sub cs s e j (by omega), (sub_R cs s e j (by omega)).2, ← Nat.add_assoc, pw]; omega
theorem wsum_sub (cs : List (List Int × Int)) (s e : Nat) (hse : s ≤ e) (he : e ≤ cs.length) : wsum ((cs.take e).drop s) = pw cs e - pw cs s := by
  unfold wsum
  rw [List.length_drop, List.length_take, show min e cs.length - s = e - s by omega, pw_sub cs s e _ (by omega), show s + (e - s) = e by omega]
end Go.Proofs.YteabhioifedgeaaGreatDoor

namespace Go.Proofs.YteabhioifedgeaaGreatDoor
open Go.RowKit

abbrev noX : ByteArray := { data := #[] }
/-- The last row that a view shows of n rows: not before R. -/
def lastV (t : Nat → ByteArray) (R : Nat) : Nat → Nat
  | 0 => R
  | n + 1 => if lastV t R n < n ∧ t n ≠ noX then n else lastV t R n
theorem lastV_ge (t : Nat → ByteArray) (R : Nat) : ∀ n, R ≤ lastV t R n
  | 0 => Nat.le_refl _
  | n + 1 => by
    have := lastV_ge t R n
    unfold lastV
    split <;> omega
theorem lastV_or (t : Nat → ByteArray) (R : Nat) : ∀ n, lastV t R n = R ∨ lastV t R n < n
  | 0 => .inl rfl
  | n + 1 => by
    unfold lastV
    split
    · exact .inr (by omega)
    · rcases lastV_or t R n with h | h
      · exact .inl h
      · exact .inr (by omega)
theorem lastV_lt (t : Nat → ByteArray) (R : Nat) (n : Nat) (h : R < n) : lastV t R n < n := by
  rcases lastV_or t R n with h1 | h1 <;> omega
/-- Rows without text at the end change nothing. -/
theorem lastV_blank (t : Nat → ByteArray) (R : Nat) (m : Nat) : ∀ n, m ≤ n → (∀ i, m ≤ i → i < n → t i = noX) → lastV t R n = lastV t R m
  | 0, h, _ => by rw [show m = 0 by omega]
  | n + 1, h, hb => by
    by_cases e : m = n + 1
    · rw [e]
    · have ih := lastV_blank t R m n (by omega) (fun i h1 h2 => hb i h1 (by omega))
      rw [show lastV t R (n + 1) = if lastV t R n < n ∧ t n ≠ noX then n else lastV t R n from rfl, if_neg (fun hh => hh.2 (hb n (by omega) (by omega)))]
      exact ih
theorem lastV_top (t : Nat → ByteArray) (R j : Nat) (h : R ≤ j) (ht : j = R ∨ t j ≠ noX) : lastV t R (j + 1) = j := by
  unfold lastV
  split
  · rfl
  · rename_i hn
    have h1 := lastV_ge t R j
    rcases ht with rfl | ht
    · rcases lastV_or t j j with h2 | h2
      · exact h2
      · omega
    · have : ¬ lastV t R j < j := fun e => hn ⟨e, ht⟩
      rcases lastV_or t R j with h2 | h2 <;> omega
theorem lay_row_lt {cs : List (List Int × Int)} {cols p rows : Nat} (hr : 1 ≤ rows) : layRow cs cols p - layFr cs cols p rows < layCnt cs cols p rows ∧ layFr cs cols p rows ≤ layRow cs cols p := by
  have h1 := layRow_lt (cs := cs) (cols := cols) (p := p)
  unfold layCnt layFr
  omega
end Go.Proofs.YteabhioifedgeaaGreatDoor

namespace Go.Proofs.YteabhioifedgeaaGreatDoor
open Go.RowKit

/-- Texts as cells. -/
def strL (tx : Nat → ByteArray) (n : Nat) : List Value := (List.range n).map (fun j => .string (tx j))
theorem strL_len (tx : Nat → ByteArray) (n : Nat) : (strL tx n).length = n * 1 := by simp [strL]
theorem strL_at (tx : Nat → ByteArray) (n j : Nat) (hj : j < n) : (strL tx n)[j]? = some (.string (tx j)) := by simp [strL, hj]
theorem strL_succ (tx : Nat → ByteArray) (n : Nat) : strL tx (n + 1) = strL tx n ++ [.string (tx n)] := by simp [strL, List.range_succ]
theorem strL_congr {tx ty : Nat → ByteArray} {n : Nat} (h : ∀ j, j < n → tx j = ty j) : strL tx n = strL ty n := by
  unfold strL
  apply List.map_congr_left
  intro j hj
  rw [h j (List.mem_range.1 hj)]
theorem strL_one {tx : Nat → ByteArray} {n : Nat} : ∀ u ∈ strL tx n, u.oneCell' = true := by
  intro u hu
  simp only [strL, List.mem_map] at hu
  obtain ⟨q, _, rfl⟩ := hu
  rfl
theorem strL_news {w : World} {ad : Addr} {n ca : Nat} {tx : Nat → ByteArray} (h : Row1At w (.slice (some ad) n ca) n (fun j => .string (tx j))) : ∀ j u, (strL tx n)[j]? = some u → w.cell? (ad.add j) = some u := by
  intro j u hu
  have hj : j < n := by
    have := (List.getElem?_eq_some_iff.1 hu).1
    simpa [strL] using this
  obtain ⟨ao, ca', e, _, hx⟩ := h
  simp only [Value.slice.injEq] at e
  obtain ⟨rfl, -, rfl⟩ := e
  obtain ⟨b, off, e, hc⟩ := hx (by omega)
  obtain rfl := Option.some.inj e
  rw [strL_at tx n j hj] at hu
  rw [Addr.add_lit, hc j hj]
  exact hu
theorem own_strL {w : World} {base : Nat} {T : TypeId} {v : Value} {n : Nat} {tx : Nat → ByteArray} (h : w.ownsRow base T 1 v n (strL tx n)) : Own1 w base T v n (fun j => .string (tx j)) :=
  ⟨_, h, fun j hj => strL_at tx n j hj⟩
theorem Own1.slice {w : World} {base : Nat} {T : TypeId} {v : Value} {n : Nat} {A : Nat → Value} (h : Own1 w base T v n A) : ∃ a c, v = .slice a n c := by
  rcases h.form with ⟨rfl, rfl⟩ | ⟨g, c, rfl⟩
  · exact ⟨none, 0, rfl⟩
  · exact ⟨some ⟨g, 0, none⟩, c, rfl⟩
theorem Own1.away {w : World} {base : Nat} {T : TypeId} {v : Value} {n : Nat} {A : Nat → Value} (h : Own1 w base T v n A) (a : Addr) (hne : v.ownBlock ≠ some a.block) (u : Value) : Own1 (w.setCell a u) base T v n A := by
  obtain ⟨ys, h1, h2⟩ := h
  exact ⟨ys, owns_setCell h1 hne u, h2⟩
section
variable {P : Program} {w : World}
theorem step_append_own {ops : Array Oper} {o : Oper} {a : Act} {K : Act → World → Prop} {Q : Exit → Act → World → Prop} {E : Prop} (hgd : o.guard = none) (s x : Operand) (t : TypeId)
    (ho : o.op = .call { callee := .builtin .append, args := #[s, x], argTypes := #[t, t] })
    (base : Nat) (e : TypeId) (i : TypeInfo) (z : Value) (size bytes : Nat) (ht : P.underlying t = some (.slice e)) (hi : P.info? e = some i) (hz : i.zero = some z)
    (hsize : i.size = size) (hby : i.bytes = bytes) (hzs : z.cells.size = size) (hsz : 0 < size)
    (v : Value) (n : Nat) (xs : List Value) (hs : a.eval s = v) (hown : w.ownsRow base e size v n xs)
    (ad : Addr) (m c : Nat) (news : List Value) (hx : a.eval x = .slice (some ad) m c) (hl : news.length = m * size) (hnews : ∀ j u, news[j]? = some u → w.cell? (ad.add j) = some u) (h1 : ∀ u ∈ news, u.oneCell' = true)
    (h63 : n + m ≤ maxLen) (hbytes : (n + m) * bytes ≤ 140737488355328) (hbase : base ≤ w.heap.size)
    (h : ∀ v' w', w'.ownsRow base e size v' (n + m) (xs ++ news) → w.grownBy w' v.ownBlock → (v' = .slice none 0 0 ↔ v = .slice none 0 0 ∧ m = 0) → K (a.put o.dst v') w') :
    if Region.wanted o (yielded ops a.tmps) = true then Oper.wp P o a w K Q else E := by
  rw [if_pos (by simp [Region.wanted, hgd])]
  exact wp_append_own w s x t ho base e i z size bytes ht hi hz hsize hby hzs hsz v n xs hs hown ad m c news hx hl hnews h1 h63 hbytes hbase h
end
/-- What an append may take: a slice (nil too) of m elements that reads as these cells. -/
def Src (w : World) (size : Nat) (x : Value) (m : Nat) (news : List Value) : Prop :=
  news.length = m * size ∧ (∀ u ∈ news, u.oneCell' = true) ∧ ((∃ c, x = .slice none 0 c ∧ m = 0) ∨ ∃ ad c, x = .slice (some ad) m c ∧ ∀ j u, news[j]? = some u → w.cell? (ad.add j) = some u)
theorem Src.ext {w w' : World} {size : Nat} {x : Value} {m : Nat} {news : List Value} (h : Src w size x m news) (he : Ext w w') : Src w' size x m news := by
  obtain ⟨h1, h2, h3⟩ := h
  refine ⟨h1, h2, ?_⟩
  rcases h3 with h3 | ⟨ad, c, e, h3⟩
  · exact .inl h3
  · exact .inr ⟨ad, c, e, fun j u hj => he.cell (h3 j u hj)⟩
theorem Src.strs {w : World} {v : Value} {n : Nat} {tx : Nat → ByteArray} (h : Row1At w v n (fun j => .string (tx j))) : Src w 1 v n (strL tx n) := by
  refine ⟨strL_len _ _, strL_one, ?_⟩
  obtain ⟨ao, c, rfl, hc, hx⟩ := id h
  cases ao with
  | some ad => exact .inr ⟨ad, c, rfl, strL_news h⟩
  | none =>
    refine .inl ⟨c, ?_⟩
    by_cases h0 : 0 < n
    · obtain ⟨b, o, e, _⟩ := hx h0
      cases e
    · have : n = 0 := by omega
      subst this
      exact ⟨rfl, rfl⟩
theorem Src.ints {w : World} {k : IntKind} {v : Value} {zs : List Int} (h : IntsAt w k v zs) : Src w 1 v zs.length (zs.map (Value.int k)) := by
  refine ⟨by simp, fun u hu => by obtain ⟨x, _, rfl⟩ := List.mem_map.1 hu; rfl, ?_⟩
  obtain ⟨ao, c, rfl, hc, hx⟩ := h
  by_cases h0 : 0 < zs.length
  · obtain ⟨b, o, rfl, h2⟩ := hx h0
    refine .inr ⟨_, c, rfl, fun j u hj => ?_⟩
    simp only [List.getElem?_map, Option.map_eq_some_iff] at hj
    obtain ⟨x, hx, rfl⟩ := hj
    have hjl : j < zs.length := (List.getElem?_eq_some_iff.1 hx).1
    have := h2 j hjl
    rw [at0, hx] at this
    rw [Addr.add_lit]; simpa using this
  · have e0 : zs = [] := List.eq_nil_of_length_eq_zero (by omega)
    subst e0
    cases ao with
    | none => exact .inl ⟨c, rfl, rfl⟩
    | some ad => exact .inr ⟨ad, c, rfl, fun j u hj => by simp at hj⟩
/-- The elements of a literal slice that the walk has just made. -/
theorem Src.made {w : World} {size : Nat} (zs : List Value) (n : Nat) (t : TypeId) (hl : zs.length = n * size) (h1 : ∀ u ∈ zs, u.oneCell' = true) : Src (w.alloc (.cells zs.toArray t)) size (.slice (some ⟨w.heap.size, 0, none⟩) n n) n zs :=
  ⟨hl, h1, .inr ⟨_, _, rfl, fun j u hj => by rw [Addr.add_lit, Nat.zero_add]; exact cells_of (new_block w _) j u (by simpa using hj)⟩⟩
section
variable {P : Program} {w : World}
theorem run_app_none (base : Nat) (t ty e : TypeId) (i : TypeInfo) (size : Nat) (ht : P.underlying t = some (.slice e)) (hi : P.info? e = some i)
    (v : Value) (n c : Nat) (xs : List Value) (hown : w.ownsRow base e size v n xs) :
    (Builtin.append_ #[t, t] ty #[v, .slice none 0 c]).run P w = .ok v w := by
  rcases hown.2 with ⟨rfl, rfl⟩ | ⟨g, cap, cur, rfl, _, _, hnc, _⟩
  · simp [Builtin.append_, run_underlying ht, sizeOf, typeInfo, hi, Builtin.lenOf, Builtin.firstCells]
  · simp [Builtin.append_, run_underlying ht, sizeOf, typeInfo, hi, Builtin.lenOf, Builtin.firstCells, hnc, storeCells]
/-- append onto an owned row, whatever the source. -/
theorem wp_app {o : Oper} {a : Act} {K : Act → World → Prop} {Q : Exit → Act → World → Prop} (s x : Operand) (t : TypeId)
    (ho : o.op = .call { callee := .builtin .append, args := #[s, x], argTypes := #[t, t] })
    (base : Nat) (e : TypeId) (i : TypeInfo) (z : Value) (size bytes : Nat) (ht : P.underlying t = some (.slice e)) (hi : P.info? e = some i) (hz : i.zero = some z)
    (hsize : i.size = size) (hby : i.bytes = bytes) (hzs : z.cells.size = size) (hsz : 0 < size)
    (v : Value) (n : Nat) (xs : List Value) (hs : a.eval s = v) (hown : w.ownsRow base e size v n xs)
    (y : Value) (m : Nat) (news : List Value) (hx : a.eval x = y) (hsrc : Src w size y m news)
    (h63 : n + m ≤ maxLen) (hbytes : (n + m) * bytes ≤ 140737488355328) (hbase : base ≤ w.heap.size)
    (h : ∀ v' w', w'.ownsRow base e size v' (n + m) (xs ++ news) → w.grownBy w' v.ownBlock → (v' = .slice none 0 0 ↔ v = .slice none 0 0 ∧ m = 0) → K (a.put o.dst v') w') : o.wp P a w K Q := by
  obtain ⟨h1, h2, h3⟩ := hsrc
  rcases h3 with ⟨c, rfl, rfl⟩ | ⟨ad, c, rfl, h3⟩
  · have hn : news = [] := List.eq_nil_of_length_eq_zero (by omega)
    subst hn
    have hr := run_app_none (P := P) (w := w) base t o.type e i size ht hi v n c xs hown
    unfold Oper.wp execOp
    simp only [ho, resolve, invoke, builtin, Sem.run_bind, Sem.run_pure, Result.andThen_ok, List.map_toArray, List.map_cons, List.map_nil, hs, hx, hr]
    exact h v w (by simpa using hown) (World.grownBy.refl w _) (by simp)
  · exact wp_append_own w s x t ho base e i z size bytes ht hi hz hsize hby hzs hsz v n xs hs hown ad m c news hx h1 h3 h2 h63 hbytes hbase h
theorem wpList_app {ops : Array Oper} {rest : List Oper} {o : Oper} {a : Act} {Q : Exit → Act → World → Prop} (hgd : o.guard = none) (s x : Operand) (t : TypeId)
    (ho : o.op = .call { callee := .builtin .append, args := #[s, x], argTypes := #[t, t] })
    (base : Nat) (e : TypeId) (i : TypeInfo) (z : Value) (size bytes : Nat) (ht : P.underlying t = some (.slice e)) (hi : P.info? e = some i) (hz : i.zero = some z)
    (hsize : i.size = size) (hby : i.bytes = bytes) (hzs : z.cells.size = size) (hsz : 0 < size)
    (v : Value) (n : Nat) (xs : List Value) (hs : a.eval s = v) (hown : w.ownsRow base e size v n xs)
    (y : Value) (m : Nat) (news : List Value) (hx : a.eval x = y) (hsrc : Src w size y m news)
    (h63 : n + m ≤ maxLen) (hbytes : (n + m) * bytes ≤ 140737488355328) (hbase : base ≤ w.heap.size)
    (h : ∀ v' w', w'.ownsRow base e size v' (n + m) (xs ++ news) → w.grownBy w' v.ownBlock → (v' = .slice none 0 0 ↔ v = .slice none 0 0 ∧ m = 0) → wpList P ops Q rest (a.put o.dst v') w') : wpList P ops Q (o :: rest) a w :=
  wpList_plain hgd fun _ hK => wp_app s x t ho base e i z size bytes ht hi hz hsize hby hzs hsz v n xs hs hown y m news hx hsrc h63 hbytes hbase fun v' w' h2 h3 h4 => hK _ _ (h v' w' h2 h3 h4)
theorem step_app {ops : Array Oper} {o : Oper} {a : Act} {K : Act → World → Prop} {Q : Exit → Act → World → Prop} {E : Prop} (hgd : o.guard = none) (s x : Operand) (t : TypeId)
    (ho : o.op = .call { callee := .builtin .append, args := #[s, x], argTypes := #[t, t] })
    (base : Nat) (e : TypeId) (i : TypeInfo) (z : Value) (size bytes : Nat) (ht : P.underlying t = some (.slice e)) (hi : P.info? e = some i) (hz : i.zero = some z)
    (hsize : i.size = size) (hby : i.bytes = bytes) (hzs : z.cells.size = size) (hsz : 0 < size)
    (v : Value) (n : Nat) (xs : List Value) (hs : a.eval s = v) (hown : w.ownsRow base e size v n xs)
    (y : Value) (m : Nat) (news : List Value) (hx : a.eval x = y) (hsrc : Src w size y m news)
    (h63 : n + m ≤ maxLen) (hbytes : (n + m) * bytes ≤ 140737488355328) (hbase : base ≤ w.heap.size)
    (h : ∀ v' w', w'.ownsRow base e size v' (n + m) (xs ++ news) → w.grownBy w' v.ownBlock → (v' = .slice none 0 0 ↔ v = .slice none 0 0 ∧ m = 0) → K (a.put o.dst v') w') :
    if Region.wanted o (yielded ops a.tmps) = true then Oper.wp P o a w K Q else E := by
  rw [if_pos (by simp [Region.wanted, hgd])]
  exact wp_app s x t ho base e i z size bytes ht hi hz hsize hby hzs hsz v n xs hs hown y m news hx hsrc h63 hbytes hbase h
end
theorem owns_nil (w : World) (base : Nat) (e : TypeId) (size : Nat) : w.ownsRow base e size (.slice none 0 0) 0 [] := ⟨by simp, .inl ⟨rfl, rfl⟩⟩
theorem owns_empty (w : World) (e : TypeId) (size : Nat) : (w.alloc (.cells #[] e)).ownsRow w.heap.size e size (.slice (some ⟨w.heap.size, 0, none⟩) 0 0) 0 [] := ⟨by simp, .inr ⟨w.heap.size, 0, #[], rfl, Nat.le_refl _, new_block w _, Nat.le_refl _, by unfold maxLen; omega, by simp, by simp⟩⟩
end Go.Proofs.YteabhioifedgeaaGreatDoor

namespace Go.Proofs.YteabhioifedgeaaGreatDoor
open Go.RowKit

theorem cutC_len (bs : List Int) : (cutC bs).length ≤ bs.length := Nat.le_trans (clF_len _ _) (cleanL_len bs)
theorem cutC_fit (bs : List Int) : (cutC bs).length + sumR (cutC bs) (cutC bs).length ≤ 2 * bs.length + 1 := by
  have h1 := clF_sum (cleanL bs) (cleanL bs).length
  have h2 := cleanL_len bs
  have h3 := cutC_len bs
  have h4 : sumR (cutC bs) (cutC bs).length ≤ (cleanL bs).length + 1 := h1
  omega
theorem cutC_runes (bs : List Int) (j : Nat) : (cR (cutC bs) j).length ≤ bs.length + 1 := by
  have h1 := clF_runes (cleanL bs) (cleanL bs).length j
  have h2 := cleanL_len bs
  have h3 : (cR (cutC bs) j).length ≤ (cleanL bs).length + 1 := h1
  omega
theorem cutC_i32 (bs : List Int) (j : Nat) : I32s (cR (cutC bs) j) := clF_i32 _ _ j
theorem sumR_left (xs ys : List (List Int × Int)) : ∀ k, k ≤ xs.length → sumR (xs ++ ys) k = sumR xs k
  | 0, _ => rfl
  | k + 1, h => by rw [sumR, sumR, sumR_left xs ys k (by omega), cR_app, if_pos (by omega)]
theorem sumR_right (xs ys : List (List Int × Int)) : ∀ k, k ≤ ys.length → sumR (xs ++ ys) (xs.length + k) = sumR xs xs.length + sumR ys k
  | 0, _ => by rw [Nat.add_zero, sumR_left xs ys _ (Nat.le_refl _)]; rfl
  | k + 1, h => by
    rw [← Nat.add_assoc, sumR, sumR_right xs ys k (by omega), cR_app, if_neg (by omega), show xs.length + k - xs.length = k by omega, sumR]
    omega
/-- What holds of the clusters of texts. -/
structure Cuts (cs : List (List Int × Int)) (N : Nat) : Prop where
  wide : Wides cs
  len : cs.length ≤ N
  sum : cs.length + sumR cs cs.length ≤ 2 * N + N
  runes : ∀ j, (cR cs j).length ≤ N + 1
  i32 : ∀ j, I32s (cR cs j)
theorem cuts_one (bs : List Int) : Cuts (cutC bs) (bs.length + 1) :=
  ⟨cutC_wides bs, by have := cutC_len bs; omega, by have := cutC_fit bs; omega, fun j => by have := cutC_runes bs j; omega, cutC_i32 bs⟩
theorem Cuts.app {xs ys : List (List Int × Int)} {N M : Nat} (hx : Cuts xs N) (hy : Cuts ys M) : Cuts (xs ++ ys) (N + M) := by
  have h1 := hx.len
  have h2 := hy.len
  have h3 := hx.sum
  have h4 := hy.sum
  refine ⟨hx.wide.app hy.wide, by rw [List.length_append]; omega, ?_, fun j => ?_, fun j => ?_⟩
  · rw [List.length_append, sumR_right xs ys _ (Nat.le_refl _)]
    omega
  · rw [cR_app]
    split
    · have := hx.runes j; omega
    · have := hy.runes (j - xs.length); omega
  · rw [cR_app]
    split
    · exact hx.i32 j
    · exact hy.i32 _
theorem sumR_up (cs : List (List Int × Int)) (k : Nat) : ∀ n, k ≤ n → sumR cs k ≤ sumR cs n := by
  intro n
  induction n with
  | zero => intro h; rw [show k = 0 by omega]; exact Nat.le_refl _
  | succ n ih =>
    intro h
    by_cases e : k = n + 1
    · subst e; exact Nat.le_refl _
    · have := ih (by omega); rw [sumR]; omega
theorem Cuts.part {cs : List (List Int × Int)} {N : Nat} (h : Cuts cs N) (s e : Nat) : ((cs.take e).drop s).length + sumR ((cs.take e).drop s) ((cs.take e).drop s).length ≤ 3 * N ∧ ∀ j, I32s (cR ((cs.take e).drop s) j) := by
  have h1 := h.sum
  have hl : ((cs.take e).drop s).length = min e cs.length - s := by simp
  refine ⟨?_, fun j => ?_⟩
  · by_cases hse : s ≤ min e cs.length
    · have e1 := sumR_sub cs s e (min e cs.length - s) (by omega)
      have e2 := sumR_up cs (s + (min e cs.length - s)) cs.length (by omega)
      rw [hl]
      omega
    · have h0 : (cs.take e).drop s = [] := List.eq_nil_of_length_eq_zero (by omega)
      rw [h0]
      simp [sumR]
  · unfold cR
    cases hj : ((cs.take e).drop s)[j]? with
    | none => intro x hx; cases hx
    | some u =>
      obtain ⟨q, hq⟩ := List.mem_iff_getElem?.1 (List.mem_of_mem_take (List.mem_of_mem_drop (List.mem_of_getElem? hj)))
      have := h.i32 q
      unfold cR at this
      rw [hq] at this
      exact this
set_option maxRecDepth 10000 in
set_option maxHeartbeats 1000000 in
theorem l4Cut_any (bs : List Int) (hb : Bytes bs) (w : World) (hl : bs.length ≤ 8000000) :
    Calls Tryz.prog 171 #[.string (toBA bs)] w fun e w' => ∃ v rs, e = .returned v ∧ OwnCls w' w.heap.size v rs (cutC bs) ∧ Ext w w' := by
  obtain ⟨v0, w0, hrun, h0, E0⟩ := run_s2i (P := Tryz.prog) w _ _ _ Tryz.underlying9 Tryz.underlying22 Tryz.underlying5 bs hb
  have hcl := cleanL_len bs
  have H0 := hide h0
  go_enter Tryz.func171, Tryz.ntmps171
  go_wp2_with fail
  refine (specClean_any bs hb v0 w0 (unhide H0) (by omega)).mono ?_
  rintro e w1 ⟨v1, rfl, o1, E1⟩
  go_wp2_with fail
  refine (specClusters_any v1 (cleanL bs) w1 (ints_of_owns o1) (cleanL_i32 bs) (by omega)).mono ?_
  rintro e w2 ⟨v2, rs2, rfl, o2, E2⟩
  have O2 := hide o2
  clear o1 o2
  go_wp2
  go_ret
  exact ⟨_, _, rfl, OwnCls.mono (unhide O2) (E0.trans E1).size, (E0.trans E1).trans E2⟩
set_option maxRecDepth 10000 in
set_option maxHeartbeats 1000000 in
theorem clustersOf_any (bs : List Int) (hb : Bytes bs) (w : World) (hl : bs.length ≤ 8000000) (hT : Laid w) :
    Calls Tryz.prog 251 #[.string (toBA bs)] w fun e w' => ∃ v rs, e = .returned v ∧ OwnCls w' w.heap.size v rs (cutC bs) ∧ Ext w w' := by
  obtain ⟨v0, w0, hrun, h0, E0⟩ := run_s2i (P := Tryz.prog) w _ _ _ Tryz.underlying9 Tryz.underlying22 Tryz.underlying5 bs hb
  have hcl := cleanL_len bs
  have H0 := hide h0
  have HT := hide hT
  go_enter Tryz.func251, Tryz.ntmps251
  go_wp2_with fail
  refine (implClean_any bs hb v0 w0 (unhide H0) (by omega)).mono ?_
  rintro e w1 ⟨v1, rfl, o1, E1⟩
  have T1 := hide ((unhide HT).below (E0.trans E1).below)
  go_wp2_with fail
  refine (implClusters_any v1 (cleanL bs) w1 (ints_of_owns o1) (cleanL_i32 bs) (by omega) (unhide T1)).mono ?_
  rintro e w2 ⟨v2, rs2, rfl, o2, E2⟩
  have O2 := hide o2
  clear o1 o2
  go_wp2
  go_ret
  exact ⟨_, _, rfl, OwnCls.mono (unhide O2) (E0.trans E1).size, (E0.trans E1).trans E2⟩
/-- The cells of clusters. -/
theorem OwnCls.ys {w : World} {b : Nat} {v : Value} {rs : List Value} {cs : List (List Int × Int)} (h : OwnCls w b v rs cs) : ∃ ys, w.ownsRow b 261 2 v cs.length ys ∧ (∀ j, j < cs.length → ys[j * 2]? = some (rV rs j) ∧ ys[j * 2 + 1]? = some (.int .i64 (cW cs j))) ∧ Src w 2 v cs.length ys := by
  obtain ⟨h0, ⟨ys, h1, h2⟩, h3, h4⟩ := h
  refine ⟨ys, h1, h2, h1.1, fun u hu => ?_, ?_⟩
  · obtain ⟨i, hi⟩ := List.mem_iff_getElem?.1 hu
    have hil : i < cs.length * 2 := by rw [← h1.1]; exact (List.getElem?_eq_some_iff.1 hi).1
    have hj := h2 (i / 2) (by omega)
    rcases Nat.mod_two_eq_zero_or_one i with e | e
    · rw [show i / 2 * 2 = i by omega, hi] at hj
      obtain rfl := Option.some.inj hj.1
      rcases (h3 (i / 2) (by omega)).2 with ⟨e2, _⟩ | ⟨g, cap, cur, e2, _⟩ <;> rw [e2] <;> rfl
    · rw [show i / 2 * 2 + 1 = i by omega, hi] at hj
      obtain rfl := Option.some.inj hj.2
      rfl
  · rcases h1.2 with ⟨rfl, e0⟩ | ⟨g, cap, cur, rfl, _⟩
    · exact .inl ⟨0, rfl, e0⟩
    · exact .inr ⟨_, cap, rfl, h1.cells rfl⟩
/-- Clusters appended to clusters. -/
theorem OwnCls.append {w w' : World} {b b2 : Nat} {v1 v2 v' : Value} {rs1 rs2 : List Value} {cs1 cs2 : List (List Int × Int)} {ys1 ys2 : List Value} (h1 : OwnCls w b v1 rs1 cs1) (h2 : OwnCls w b2 v2 rs2 cs2) (hb : b ≤ b2) (hlt : ∀ g, Foot v1 rs1 cs1.length g → g < b2)
    (o1 : w.ownsRow b 261 2 v1 cs1.length ys1) (k1 : ∀ j, j < cs1.length → ys1[j * 2]? = some (rV rs1 j) ∧ ys1[j * 2 + 1]? = some (.int .i64 (cW cs1 j))) (k2 : ∀ j, j < cs2.length → ys2[j * 2]? = some (rV rs2 j) ∧ ys2[j * 2 + 1]? = some (.int .i64 (cW cs2 j)))
    (o' : w'.ownsRow b 261 2 v' (cs1.length + cs2.length) (ys1 ++ ys2)) (hg : w.grownBy w' v1.ownBlock) : OwnCls w' b v' (rs1 ++ rs2) (cs1 ++ cs2) := by
  have l1 : rs1.length = cs1.length := h1.1
  have l2 : rs2.length = cs2.length := h2.1
  have ly : ys1.length = cs1.length * 2 := o1.1
  have fr : Fr (fun g => v1.ownBlock = some g) w w' := (Fr.refl _ w).grown hg (fun k hk => hk)
  have rv : ∀ j, rV (rs1 ++ rs2) j = if j < cs1.length then rV rs1 j else rV rs2 (j - cs1.length) := by
    intro j
    unfold rV
    split
    · rename_i h; rw [List.getElem?_append_left (by omega)]
    · rename_i h; rw [List.getElem?_append_right (by omega), l1]
  have lt1 : ∀ j g, j < cs1.length → (rV rs1 j).ownBlock = some g → g < b2 := fun j g hj hgg => hlt g (.inr ⟨j, hj, hgg⟩)
  have ge2 : ∀ j g, j < cs2.length → (rV rs2 j).ownBlock = some g → b2 ≤ g := fun j g hj hgg => ((h2.2.2.1 j hj).lt g hgg).1
  refine ⟨by simp [l1, l2], ⟨_, by rw [List.length_append]; exact o', fun j hj => ?_⟩, fun j hj => ?_, fun i j g hij hj => ?_⟩
  · rw [rv, cW_app]
    split
    · rename_i h
      have := k1 j h
      rw [List.getElem?_append_left (by omega), List.getElem?_append_left (by omega)]
      exact this
    · rename_i h
      simp at hj
      have := k2 (j - cs1.length) (by omega)
      rw [List.getElem?_append_right (by omega), List.getElem?_append_right (by omega), ly, show j * 2 - cs1.length * 2 = (j - cs1.length) * 2 by omega, show j * 2 + 1 - cs1.length * 2 = (j - cs1.length) * 2 + 1 by omega]
      exact this
  · rw [rv, cR_app]
    split
    · rename_i h
      exact fr.owns (h1.2.2.1 j h) (fun g hgg e => owns_apart o1 (h1.2.2.1 j h) (by decide) e hgg)
    · rename_i h
      simp at hj
      refine owns_mono (fr.owns (h2.2.2.1 _ (by omega)) (fun g hgg e => ?_)) hb
      have a := ge2 _ g (by omega) hgg
      have c := hlt g (.inl e)
      omega
  · rw [rv, rv]
    simp at hj
    intro hi
    by_cases hi1 : i < cs1.length
    · rw [if_pos hi1] at hi
      by_cases hj1 : j < cs1.length
      · rw [if_pos hj1]
        exact h1.2.2.2 i j g hij hj1 hi
      · rw [if_neg hj1]
        intro e
        have a := lt1 i g hi1 hi
        have c := ge2 _ g (by omega) e
        omega
    · rw [if_neg hi1] at hi
      rw [if_neg (by omega)]
      exact h2.2.2.2 _ _ g (by omega) (by omega) hi
/-- Where clusters lie. -/
theorem OwnCls.lt {w : World} {b : Nat} {v : Value} {rs : List Value} {cs : List (List Int × Int)} (h : OwnCls w b v rs cs) {g : Nat} (hg : Foot v rs cs.length g) : b ≤ g ∧ g < w.heap.size := by
  rcases hg with hg | ⟨j, hj, hg⟩
  · obtain ⟨ys, o, _⟩ := h.2.1
    exact o.lt g hg
  · exact (h.2.2.1 j hj).lt g hg
end Go.Proofs.YteabhioifedgeaaGreatDoor

namespace Go.Proofs.YteabhioifedgeaaGreatDoor
open Go.ChangeShapes Go.WideShapes Go.ChangeAt Go.RowKit Go.Deep

/-- A block's value. -/
def blV (v : Value) (row col : Int) : Value := .agg #[v, .int .i64 row, .int .i64 col]
end Go.Proofs.YteabhioifedgeaaGreatDoor

namespace Go.Proofs.YteabhioifedgeaaGreatDoor
open Go.RowKit

set_option maxRecDepth 10000 in
set_option maxHeartbeats 1000000 in
theorem widthOf_any (v : Value) (cs : List (List Int × Int)) (w : World) (hv : ClsAt w v cs) (hl : cs.length ≤ 16777216) (hW : ∀ j, 0 ≤ cW cs j ∧ cW cs j ≤ 2) :
    Calls Tryz.prog 282 #[v] w fun e w' => e = .returned (.int .i64 (wsum cs)) ∧ Ext w w' := by
  obtain ⟨ra, ao, ca, rfl, hca, hra, hxa⟩ := hv
  have HF : Hid (wsum cs = pw cs cs.length) := rfl
  obtain ⟨n, hn⟩ : ∃ n, n = cs.length := ⟨_, rfl⟩
  rw [← hn] at hca hra hxa hl HF ⊢
  have HX := hide hxa
  have HR := hide hra
  have HB := hide (pw_bd cs hW)
  have HW := hide hW
  clear hn hxa hra hW
  go_enter Tryz.func282, Tryz.ntmps282
  go_wp2
  go_loopw [3, 8] (fun s i wr => ∃ k : Nat, k ≤ n ∧ i = .int .i64 k ∧ s = .int .i64 (pw cs k) ∧ Ext w wr) (fun _ i _ => n - (intOf i).toNat)
  case atStart => exact ⟨0, Nat.zero_le _, rfl, rfl, Ext.refl _⟩
  case round =>
    obtain ⟨k, hk, rfl, rfl, hext⟩ := hrel
    by_cases hlt : k < n
    · obtain ⟨b, off, hao, hc⟩ := (unhide HX) (by omega)
      subst hao
      have g1 := hext.cell (hc k hlt).1
      have g2 := hext.cell (hc k hlt).2
      obtain ⟨a2, c2, hrv, hc2, hrx⟩ := (unhide HR) k hlt
      rw [hrv] at g1
      clear hc hrx hrv hc2
      have bk : (k : Int) < (n : Int) := by omega
      have b1 := (unhide HB) k
      have b2 := (unhide HW) k
      have hst : Hid (pw cs (k + 1) = pw cs k + cW cs k) := rfl
      go_wp2
      go_roundw
      case rel => exact ⟨k + 1, by omega, by go_num, by rw [unhide hst], hext.alloc _⟩
      case measure => simp [intOf]; omega
    · obtain rfl : k = n := by omega
      have hb9 : ¬ (k : Int) < (k : Int) := by omega
      go_wp2
      go_ret
      exact ⟨ret_int (unhide HF).symm, hext⟩
/-- Rows of clusters, row i of them from place S i on up to S (i + 1). -/
def rowsC (cs : List (List Int × Int)) (S : List Int) (i : Nat) : List (List Int × Int) := (cs.take (at0 S (i + 1)).toNat).drop (at0 S i).toNat
theorem rowsC_len (cs : List (List Int × Int)) (S : List Int) (i : Nat) (h : (at0 S (i + 1)).toNat ≤ cs.length) : (rowsC cs S i).length = (at0 S (i + 1)).toNat - (at0 S i).toNat := by
  unfold rowsC
  rw [List.length_drop, List.length_take]
  omega
theorem ClsAt.take {w : World} {ao : Option Addr} {c n : Nat} {cs : List (List Int × Int)} (h : ClsAt w (.slice ao n c) cs) (x : Nat) (hx : x ≤ cs.length) : ClsAt w (.slice ao x c) (cs.take x) := by
  obtain ⟨rs, ao', cap, e, hc, hr, hcell⟩ := h
  simp only [Value.slice.injEq] at e
  obtain ⟨rfl, rfl, rfl⟩ := e
  have hl : (cs.take x).length = x := by simp; omega
  have hR : ∀ j, j < x → cR (cs.take x) j = cR cs j ∧ cW (cs.take x) j = cW cs j := fun j hj => by
    unfold cR cW
    rw [List.getElem?_take_of_lt hj]
    exact ⟨rfl, rfl⟩
  refine ⟨rs, ao, c, by rw [hl], by omega, fun j hj => ?_, fun hp => ?_⟩
  · rw [(hR j (by omega)).1]
    exact hr j (by omega)
  · obtain ⟨b, off, e2, h2⟩ := hcell (by omega)
    refine ⟨b, off, e2, fun j hj => ?_⟩
    rw [(hR j (by omega)).2]
    exact h2 j (by omega)
theorem wsum_row (cs : List (List Int × Int)) (S : List Int) (i x : Nat) (hx : x ≤ (at0 S (i + 1)).toNat - (at0 S i).toNat) (hle : (at0 S i).toNat ≤ (at0 S (i + 1)).toNat) (hS : (at0 S (i + 1)).toNat ≤ cs.length) : wsum ((rowsC cs S i).take x) = pw cs ((at0 S i).toNat + x) - pw cs (at0 S i).toNat := by
  have e : (rowsC cs S i).take x = (cs.take ((at0 S i).toNat + x)).drop (at0 S i).toNat := by
    unfold rowsC
    rw [List.take_drop, List.take_take]
    congr 2
    omega
  rw [e, wsum_sub cs _ _ (by omega) (by omega)]
theorem pw_take (cs : List (List Int × Int)) (x : Nat) : ∀ j, j ≤ x → pw (cs.take x) j = pw cs j
  | 0, _ => rfl
  | j + 1, h => by
    rw [pw, pw, pw_take cs x j (by omega)]
    unfold cW
    rw [List.getElem?_take_of_lt (by omega)]
/-- The starts and the end. -/
def stE (S : List Int) (cs : List (List Int × Int)) : List Int := S ++ [(cs.length : Int)]
set_option maxRecDepth 10000 in
set_option maxHeartbeats 4000000 in
theorem placeOf_any (v : Value) (cs : List (List Int × Int)) (cols p : Nat) (w : World) (hw : Wides cs) (hc : 2 ≤ cols) (hp : p ≤ cs.length) (hl : cs.length ≤ 16777216)
    (hv : CssAt w v (stS cs cols).length (rowsC cs (stS cs cols ++ [(cs.length : Int)]))) :
    Calls Tryz.prog 253 #[.int .i64 p, v] w fun e w' => e = .returned (.tuple #[.int .i64 (layRow0 cs cols p), .int .i64 (layCol0 cs cols p)]) ∧ Ext w w' := by
  have h1 : 1 ≤ (stS cs cols).length := (stF_ok cs cols cs.length).one
  have hlen : (stS cs cols).length ≤ cs.length + 1 := (stF_ok cs cols cs.length).len
  have atT : ∀ i, i < (stS cs cols).length → at0 (stS cs cols ++ [(cs.length : Int)]) i = at0 (stS cs cols) i := fun i hi => by rw [at0_app, if_neg (by omega)]
  have atE : at0 (stS cs cols ++ [(cs.length : Int)]) (stS cs cols).length = (cs.length : Int) := by rw [at0_app, if_pos rfl]
  have hmono : ∀ i, i + 1 < (stS cs cols).length → at0 (stS cs cols) i < at0 (stS cs cols) (i + 1) := fun i hi => ((stS_row hw hc).rows i hi).2.2
  have hnn := fun i hi => stS_nonneg (cs := cs) (cols := cols) (i := i) hi
  have hrow0 : ∀ i, i < (stS cs cols).length → at0 (stS cs cols) i ≤ (p : Int) → (∀ j, i < j → j < (stS cs cols).length → (p : Int) < at0 (stS cs cols) j) → layRow0 cs cols p = i ∧ layCol0 cs cols p = pw cs p - pw cs (at0 (stS cs cols) i).toNat := by
    intro i hi a b
    have e := rwF_only (S := stS cs cols) (p := p) hi a b (by rw [stS_zero]; omega)
    have e2 : layRow0 cs cols p = i := e
    exact ⟨e2, by unfold layCol0; rw [e2]⟩
  have hmono2 : ∀ d i, i + d < (stS cs cols).length → at0 (stS cs cols) i ≤ at0 (stS cs cols) (i + d) := by
    intro d
    induction d with
    | zero => intro i _; exact Int.le_refl _
    | succ d ih => intro i hi; have a := ih i (by omega); have b := hmono (i + d) (by omega); rw [← Nat.add_assoc]; omega
  obtain ⟨rv, ⟨ao, ca, rfl, hca, hxa⟩, hrw⟩ := hv
  obtain ⟨b, off, rfl, hcell⟩ := hxa (by omega)
  have HC := hide hcell
  have hS0 : at0 (stS cs cols) 0 = 0 := stS_zero
  clear hcell hxa
  generalize hS : stS cs cols = S at h1 hlen atT atE hmono hnn hrow0 hmono2 hca hrw HC hS0 ⊢
  obtain ⟨m, hm⟩ : ∃ m, S.length = m + 1 := ⟨S.length - 1, by omega⟩
  have hshape : ∀ i, i < m + 1 → ∃ ra rc, rv i = .slice ra ((at0 (S ++ [(cs.length : Int)]) (i + 1)).toNat - (at0 S i).toNat) rc ∧ ((at0 (S ++ [(cs.length : Int)]) (i + 1)).toNat - (at0 S i).toNat ≤ rc) ∧ ClsAt w (rv i) (rowsC cs (S ++ [(cs.length : Int)]) i) := by
    intro i hi
    have h := hrw i (by omega)
    obtain ⟨_, ra, rc, e, hc, _⟩ := id h
    have hle : (at0 (S ++ [(cs.length : Int)]) (i + 1)).toNat ≤ cs.length := by
      by_cases e2 : i + 1 < S.length
      · rw [atT _ e2]; have := hnn _ e2; omega
      · rw [show i + 1 = S.length by omega, atE]; simp
    rw [rowsC_len cs _ i hle, atT i (by omega)] at e hc
    exact ⟨ra, rc, e, hc, h⟩
  have hT1 : ∀ i, i < m → at0 (S ++ [(cs.length : Int)]) (i + 1) = at0 S (i + 1) := fun i hi => atT _ (by omega)
  have hwide : ∀ i x j, 0 ≤ cW ((rowsC cs (S ++ [(cs.length : Int)]) i).take x) j ∧ cW ((rowsC cs (S ++ [(cs.length : Int)]) i).take x) j ≤ 2 := by
    intro i x j
    unfold rowsC
    have : ∀ (l : List (List Int × Int)), (∀ u ∈ l, u ∈ cs) → 0 ≤ cW l j ∧ cW l j ≤ 2 := by
      intro l hl
      unfold cW
      cases hj : l[j]? with
      | none => simp
      | some u =>
        obtain ⟨q, hq⟩ := List.mem_iff_getElem?.1 (hl u (List.mem_of_getElem? hj))
        have := hw.all q
        unfold cW at this
        rw [hq] at this
        exact this
    exact this _ (fun u hu => List.mem_of_mem_take (List.mem_of_mem_drop (List.mem_of_mem_take hu)))
  have HSH := hide hshape
  have HWD := hide hwide
  have HMO := hide hmono
  have HM2 := hide hmono2
  have HNN := hide hnn
  have HT1 := hide hT1
  have HR0 := hide hrow0
  have HTE := hide atE
  rw [hm] at hca hlen ⊢
  clear hshape hwide hmono hmono2 hnn hT1 hrow0 atT atE hrw hS
  have hwm : IntKind.i64.wrap (((m + 1 : Nat) : Int) - 1) = (m : Int) := by rw [IntKind.wrap_i64]; omega
  go_enter Tryz.func253, Tryz.ntmps253
  go_wp2
  go_loopw [0, 16] (fun x i wr => ∃ k y : Nat, k ≤ m ∧ i = .int .i64 k ∧ x = .int .i64 y ∧ Hid ((p : Int) = at0 S k + (y : Int)) ∧ wr = w) (fun _ i _ => m - (intOf i).toNat)
  case atStart => exact ⟨0, p, Nat.zero_le _, rfl, rfl, hide (by rw [hS0]; simp), rfl⟩
  case round =>
    obtain ⟨k, y, hk, rfl, rfl, HP, rfl⟩ := hrel
    have h0 := (unhide HNN) k (by omega)
    obtain ⟨ra, rc, he, hrc, hcl⟩ := (unhide HSH) k (by omega)
    have g1 := (unhide HC) k (by omega)
    obtain ⟨s0, hs0⟩ : ∃ s0 : Nat, at0 S k = (s0 : Int) := ⟨(at0 S k).toNat, by omega⟩
    obtain ⟨s1, hs1⟩ : ∃ s1 : Nat, at0 (stE S cs) (k + 1) = (s1 : Int) := by
      by_cases e : k < m
      · have := (unhide HNN) (k + 1) (by omega)
        exact ⟨(at0 S (k + 1)).toNat, by show at0 (S ++ [(cs.length : Int)]) (k + 1) = _; rw [(unhide HT1) k e]; omega⟩
      · have e2 : k + 1 = S.length := by omega
        exact ⟨cs.length, by show at0 (S ++ [(cs.length : Int)]) (k + 1) = _; rw [e2, unhide HTE]⟩
    have hs01 : s0 ≤ s1 ∧ s1 ≤ cs.length := by
      have hq := hs1
      unfold stE at hq
      by_cases e : k < m
      · have a := (unhide HNN) (k + 1) (by omega)
        have b := (unhide HMO) k (by omega)
        rw [(unhide HT1) k e] at hq
        omega
      · rw [show k + 1 = S.length by omega, unhide HTE] at hq
        omega
    obtain ⟨L, hL⟩ : ∃ L, s1 = s0 + L := ⟨s1 - s0, by omega⟩
    have hLe : (at0 (S ++ [(cs.length : Int)]) (k + 1)).toNat - (at0 S k).toNat = L := by
      have hq := hs1
      unfold stE at hq
      rw [hq, hs0]
      omega
    rw [hLe] at he hrc
    rw [he] at g1 hcl
    have hpy : p = s0 + y := by have := unhide HP; omega
    have HCL := hide hcl
    have hrl : (rowsC cs (S ++ [(cs.length : Int)]) k).length = L := by
      have hq := hs1
      unfold stE at hq
      have e1 : at0 (S ++ [(cs.length : Int)]) k = (s0 : Int) := by rw [at0_app, if_neg (by omega), hs0]
      rw [rowsC_len _ _ _ (by rw [hq]; simp; omega), hq, e1]
      simp
      omega
    have hcolv : y ≤ L → wsum ((rowsC cs (S ++ [(cs.length : Int)]) k).take y) = pw cs p - pw cs (at0 S k).toNat := by
      intro hy
      have hq := hs1
      unfold stE at hq
      have e1 : at0 (S ++ [(cs.length : Int)]) k = (s0 : Int) := by rw [at0_app, if_neg (by omega), hs0]
      rw [wsum_row cs _ k y (by rw [hq, e1]; omega) (by rw [hq, e1]; omega) (by rw [hq]; omega), e1, hs0, hpy]
      rfl
    have HCV := hide hcolv
    have HRL := hide hrl
    have HS0 := hide hs0
    have HS1 := hide hs1
    clear hcl he hcolv hrl hLe hs1 hs0 h0
    by_cases hlt : k < m
    · have bk : (k : Int) < (m : Int) := by omega
      by_cases hin : y < L
      · have hfin : Hid (layRow0 cs cols p = k ∧ layCol0 cs cols p = pw cs p - pw cs (at0 S k).toNat) := by
          refine hide ((unhide HR0) k (by omega) (by rw [unhide HS0]; omega) (fun j hj hj2 => ?_))
          have a := (unhide HM2) (j - (k + 1)) (k + 1) (by omega)
          have hq := unhide HS1
          unfold stE at hq
          rw [show k + 1 + (j - (k + 1)) = j by omega, ← (unhide HT1) k hlt, hq] at a
          omega
        have hyL : (y : Int) < (L : Int) := by omega
        have hyc : (y : Int) ≤ (rc : Int) := by omega
        have hcon := hide (widthOf_any (.slice ra y rc) _ wr ((unhide HCL).take y (by rw [unhide HRL]; omega)) (by rw [List.length_take, unhide HRL]; omega) ((unhide HWD) k y))
        obtain ⟨b2, o2, rfl⟩ : ∃ b2 o2, ra = some ⟨b2, o2, none⟩ := by
          obtain ⟨_, ao', _, e, _, _, hx⟩ := unhide HCL
          obtain ⟨b2, o2, e2, _⟩ := hx (by rw [unhide HRL]; omega)
          simp only [Value.slice.injEq] at e
          exact ⟨b2, o2, by rw [e.1, e2]⟩
        go_wp2_with fail
        refine (unhide hcon).mono ?_
        rintro e w2 ⟨rfl, F2⟩
        go_wp2
        go_ret2
        refine ⟨?_, F2⟩
        rw [(unhide HCV) (by omega), (unhide hfin).1, (unhide hfin).2]
        rfl
      · have hyL : ¬ (y : Int) < (L : Int) := by omega
        have hwL : IntKind.i64.wrap ((y : Int) - (L : Int)) = ((y - L : Nat) : Int) := by rw [IntKind.wrap_i64]; omega
        have HP2 : Hid ((p : Int) = at0 S (k + 1) + ((y - L : Nat) : Int)) := by
          have hq := unhide HS1
          unfold stE at hq
          rw [(unhide HT1) k hlt] at hq
          refine hide ?_
          rw [hq]
          omega
        go_wp2
        go_roundw
        case rel => exact ⟨k + 1, y - L, by omega, by go_num, rfl, HP2, trivial⟩
        case measure => simp [intOf]; omega
    · obtain rfl : k = m := by omega
      have hb9 : ¬ (k : Int) < (k : Int) := by omega
      have hs1e : s1 = cs.length := by
        have hq := unhide HS1
        unfold stE at hq
        rw [show k + 1 = S.length by omega, unhide HTE] at hq
        omega
      have hyL : y ≤ L := by omega
      have hfin : Hid (layRow0 cs cols p = k ∧ layCol0 cs cols p = pw cs p - pw cs (at0 S k).toNat) := hide ((unhide HR0) k (by omega) (by rw [unhide HS0]; omega) (fun j hj hj2 => by omega))
      have hyc : (y : Int) ≤ (rc : Int) := by omega
      have hcon := hide (widthOf_any (.slice ra y rc) _ wr ((unhide HCL).take y (by rw [unhide HRL]; omega)) (by rw [List.length_take, unhide HRL]; omega) ((unhide HWD) k y))
      rcases Nat.eq_zero_or_pos L with hL0 | hL0
      · have hy0 : y = 0 := by omega
        subst hy0
        subst hL0
        cases ra
        all_goals
          go_wp2_with fail
          refine (unhide hcon).mono ?_
          rintro e w2 ⟨rfl, F2⟩
          go_wp2
          go_ret2
          refine ⟨?_, F2⟩
          have e9 := (unhide HCV) (by omega)
          rw [List.take_zero] at e9
          rw [e9, (unhide hfin).1, (unhide hfin).2]
          rfl
      · obtain ⟨b2, o2, rfl⟩ : ∃ b2 o2, ra = some ⟨b2, o2, none⟩ := by
          obtain ⟨_, ao', _, e, _, _, hx⟩ := unhide HCL
          obtain ⟨b2, o2, e2, _⟩ := hx (by rw [unhide HRL]; omega)
          simp only [Value.slice.injEq] at e
          exact ⟨b2, o2, by rw [e.1, e2]⟩
        go_wp2_with fail
        refine (unhide hcon).mono ?_
        rintro e w2 ⟨rfl, F2⟩
        go_wp2
        go_ret2
        refine ⟨?_, F2⟩
        rw [(unhide HCV) (by omega), (unhide hfin).1, (unhide hfin).2]
        rfl
set_option maxRecDepth 10000 in
set_option maxHeartbeats 2000000 in
theorem textsOf_any (v : Value) (R : Nat) (C : Nat → List (List Int × Int)) (w : World) (hv : CssAt w v R C) (hR : R ≤ 1048576) (hl : ∀ i, i < R → (C i).length + sumR (C i) (C i).length ≤ 16777216) (hI : ∀ i, i < R → ∀ j, j < (C i).length → I32s (cR (C i) j)) :
    Calls Tryz.prog 254 #[v] w fun e w' => ∃ v', e = .returned v' ∧ Own1 w' w.heap.size 9 v' R (fun i => .string (toBA (textC (C i)))) ∧ Ext w w' := by
  obtain ⟨ic, hic, hc0, hc1, hc2⟩ := info_parts infoStrs
  obtain ⟨rv, ⟨ao, ca, rfl, hca, hxa⟩, hrw⟩ := hv
  have HX := hide hxa
  have HRW := hide hrw
  have HL := hide hl
  have HI := hide hI
  clear hxa hrw hl hI
  go_enter Tryz.func254, Tryz.ntmps254
  go_wp2
  go_loopw [3, 8] (fun o i wr => ∃ k : Nat, k ≤ R ∧ i = .int .i64 k ∧ Hid (wr.ownsRow w.heap.size 9 1 o k (strL (fun i => toBA (textC (C i))) k)) ∧ Ext w wr) (fun _ i _ => R - (intOf i).toNat)
  case atStart => exact ⟨0, Nat.zero_le _, rfl, hide (owns_nil _ _ _ _), Ext.refl _⟩
  case round =>
    obtain ⟨k, hk, rfl, HO, hext⟩ := hrel
    have hsz := hext.size
    by_cases hlt : k < R
    · obtain ⟨b, off, hao, hc⟩ := (unhide HX) (by omega)
      subst hao
      have g1 := hext.cell (hc k hlt)
      clear hc
      have bk : (k : Int) < (R : Int) := by omega
      have hcon := hide (implTextOf_any (rv k) (C k) wr (((unhide HRW) k hlt).ext hext) ((unhide HL) k hlt) ((unhide HI) k hlt))
      have hst : Hid (strL (fun i => toBA (textC (C i))) (k + 1) = strL (fun i => toBA (textC (C i))) k ++ [.string (toBA (textC (C k)))]) := hide (strL_succ _ _)
      go_wp2_with (first
        | (go_at_call 283; refine (unhide hcon).mono ?_; rintro e w4 ⟨rfl, F4⟩; have HO4 := hide (F4.owns (unhide HO)); have E4 := hext.trans F4; have hs4 := E4.size; clear F4)
        | (at_builtin; go_must (refine wpList_app rfl _ _ 24 rfl w.heap.size 9 ic (.string { data := #[] }) 1 16 Tryz.underlying24 hic hc0 hc1 hc2 rfl (by decide) _ _ _ rfl ((unhide HO4).alloc _) _ 1 [.string (toBA (textC (C k)))] rfl (Src.made _ _ _ rfl (by simp [Value.oneCell'])) (by unfold maxLen; omega) (by omega) (by simp; omega) ?_); intro v5 w5 o5 G5 _; rw [← unhide hst] at o5; have HO5 := hide o5; have E5 := hide ((E4.alloc _).grown G5 (fun q hq => ((unhide HO4).lt q hq).1)); clear o5 G5))
      go_roundw
      case rel => exact ⟨k + 1, by omega, by go_num, HO5, unhide E5⟩
      case measure => simp [intOf]; omega
    · obtain rfl : k = R := by omega
      have hb9 : ¬ (k : Int) < (k : Int) := by omega
      go_wp2
      go_ret
      exact ⟨_, rfl, own_strL (unhide HO), hext⟩
end Go.Proofs.YteabhioifedgeaaGreatDoor
