import Derived.Test.YtmomcccgjjjldaaDoorBase
namespace Go.Proofs.YtmomcccgjjjldaaDoor
open Go.RowKit
def toBA (ns : List Int) : ByteArray := ns.foldl (fun r n => r.push (UInt8.ofNat n.toNat)) ByteArray.empty
theorem toBA_foldl (ns : List Int) : ∀ s : ByteArray, (ns.foldl (fun r n => r.push (UInt8.ofNat n.toNat)) s).data.toList = s.data.toList ++ ns.map (fun n => UInt8.ofNat n.toNat) := by
  induction ns with
  | nil => intro s; simp
  | cons n ns ih => intro s; rw [List.foldl_cons, ih]; simp
theorem toBA_list (ns : List Int) : (toBA ns).data.toList = ns.map (fun n => UInt8.ofNat n.toNat) := by
  rw [toBA, toBA_foldl]; rfl
theorem toBA_size (ns : List Int) : (toBA ns).size = ns.length := by
  have := congrArg List.length (toBA_list ns)
  simpa using this
def Bytes (ns : List Int) : Prop := ∀ n ∈ ns, 0 ≤ n ∧ n ≤ 255
theorem Bytes.at0 {ns : List Int} (h : Bytes ns) (i : Nat) : 0 ≤ at0 ns i ∧ at0 ns i ≤ 255 := by
  unfold Go.Proofs.YtmomcccgjjjldaaDoor.at0
  cases hi : ns[i]? with
  | none => simp
  | some x => exact h x (List.mem_of_getElem? hi)
theorem Bytes.drop {ns : List Int} (h : Bytes ns) (i : Nat) : Bytes (ns.drop i) := fun n hn => h n (List.mem_of_mem_drop hn)
theorem at0_drop (ns : List Int) (i j : Nat) : at0 (ns.drop i) j = at0 ns (i + j) := by simp [at0]
theorem toBA_get (ns : List Int) (h : Bytes ns) (i : Nat) : ((toBA ns).get! i).toNat = (at0 ns i).toNat := by
  have hb := h.at0 i
  have e : (toBA ns).get! i = ((toBA ns).data.toList[i]?).getD 0 := by
    show (toBA ns).data[i]! = _
    rw [getElem!_def]
    rw [Array.getElem?_toList]
    cases (toBA ns).data[i]? <;> rfl
  rw [e, toBA_list]
  unfold at0 at hb ⊢
  cases hi : ns[i]? with
  | none => simp [hi]
  | some x =>
    simp only [hi, Option.getD_some] at hb
    simp [hi]
    omega
def cont (l : List Int) (k : Nat) : Bool := decide (k < l.length) && decide (128 ≤ at0 l k) && decide (at0 l k ≤ 191)
def v2 (l : List Int) : Int := at0 l 0 % 32 * 64 + at0 l 1 - 128
def v3 (l : List Int) : Int := (at0 l 0 % 16 * 64 + at0 l 1 - 128) * 64 + at0 l 2 - 128
def v4 (l : List Int) : Int := ((at0 l 0 % 8 * 64 + at0 l 1 - 128) * 64 + at0 l 2 - 128) * 64 + at0 l 3 - 128
def decL (l : List Int) : Int × Nat :=
  if at0 l 0 < 128 then (at0 l 0, 1)
  else if (192 ≤ at0 l 0 ∧ at0 l 0 < 224) ∧ cont l 1 = true then (if 128 ≤ v2 l then (v2 l, 2) else (65533, 1))
  else if (224 ≤ at0 l 0 ∧ at0 l 0 < 240) ∧ cont l 1 = true ∧ cont l 2 = true then (if 2048 ≤ v3 l ∧ Utf8.valid (v3 l) = true then (v3 l, 3) else (65533, 1))
  else if (240 ≤ at0 l 0 ∧ at0 l 0 < 248) ∧ cont l 1 = true ∧ cont l 2 = true ∧ cont l 3 = true then (if 65536 ≤ v4 l ∧ Utf8.valid (v4 l) = true then (v4 l, 4) else (65533, 1))
  else (65533, 1)
theorem cont_nat (bs : List Int) (h : Bytes bs) (i k : Nat) : (decide (i + k < (toBA bs).size) && ((at0 bs (i + k)).toNat / 64 == 2)) = cont (bs.drop i) k := by
  have hb := h.at0 (i + k)
  rw [toBA_size]
  unfold cont
  rw [at0_drop]
  rw [Bool.eq_iff_iff]
  simp
  omega
def decN (n0 n1 n2 n3 : Nat) (C1 C2 C3 : Bool) : Nat × Nat :=
  if n0 < 128 then (n0, 1)
  else if (n0 / 32 == 6 && C1) = true then (if n0 % 32 * 64 + n1 % 64 ≥ 128 then (n0 % 32 * 64 + n1 % 64, 2) else (Utf8.runeError, 1))
  else if (n0 / 16 == 14 && C1 && C2) = true then (if (decide (n0 % 16 * 4096 + n1 % 64 * 64 + n2 % 64 ≥ 2048) && Utf8.valid ((n0 % 16 * 4096 + n1 % 64 * 64 + n2 % 64 : Nat) : Int)) = true then (n0 % 16 * 4096 + n1 % 64 * 64 + n2 % 64, 3) else (Utf8.runeError, 1))
  else if (n0 / 8 == 30 && C1 && C2 && C3) = true then (if (decide (n0 % 8 * 262144 + n1 % 64 * 4096 + n2 % 64 * 64 + n3 % 64 ≥ 65536) && Utf8.valid ((n0 % 8 * 262144 + n1 % 64 * 4096 + n2 % 64 * 64 + n3 % 64 : Nat) : Int)) = true then (n0 % 8 * 262144 + n1 % 64 * 4096 + n2 % 64 * 64 + n3 % 64, 4) else (Utf8.runeError, 1))
  else (Utf8.runeError, 1)
def decI (x0 x1 x2 x3 : Int) (C1 C2 C3 : Bool) : Int × Nat :=
  if x0 < 128 then (x0, 1)
  else if (192 ≤ x0 ∧ x0 < 224) ∧ C1 = true then (if 128 ≤ x0 % 32 * 64 + x1 - 128 then (x0 % 32 * 64 + x1 - 128, 2) else (65533, 1))
  else if (224 ≤ x0 ∧ x0 < 240) ∧ C1 = true ∧ C2 = true then (if 2048 ≤ (x0 % 16 * 64 + x1 - 128) * 64 + x2 - 128 ∧ Utf8.valid ((x0 % 16 * 64 + x1 - 128) * 64 + x2 - 128) = true then ((x0 % 16 * 64 + x1 - 128) * 64 + x2 - 128, 3) else (65533, 1))
  else if (240 ≤ x0 ∧ x0 < 248) ∧ C1 = true ∧ C2 = true ∧ C3 = true then (if 65536 ≤ ((x0 % 8 * 64 + x1 - 128) * 64 + x2 - 128) * 64 + x3 - 128 ∧ Utf8.valid (((x0 % 8 * 64 + x1 - 128) * 64 + x2 - 128) * 64 + x3 - 128) = true then (((x0 % 8 * 64 + x1 - 128) * 64 + x2 - 128) * 64 + x3 - 128, 4) else (65533, 1))
  else (65533, 1)
theorem decN_is (n0 n1 n2 n3 : Nat) (C1 C2 C3 : Bool) (b0 : n0 ≤ 255) (k1 : C1 = true → 128 ≤ n1 ∧ n1 ≤ 191) (k2 : C2 = true → 128 ≤ n2 ∧ n2 ≤ 191) (k3 : C3 = true → 128 ≤ n3 ∧ n3 ≤ 191) :
    (((decN n0 n1 n2 n3 C1 C2 C3).1 : Int), (decN n0 n1 n2 n3 C1 C2 C3).2) = decI n0 n1 n2 n3 C1 C2 C3 := by
  by_cases hA : n0 < 128
  · have l : decN n0 n1 n2 n3 C1 C2 C3 = (n0, 1) := by unfold decN; rw [if_pos hA]
    rw [l]; unfold decI; rw [if_pos (by omega)]
  by_cases hB : (192 ≤ n0 ∧ n0 < 224) ∧ C1 = true
  · have k := k1 hB.2
    have e : (((n0 % 32 * 64 + n1 % 64 : Nat)) : Int) = (n0 : Int) % 32 * 64 + (n1 : Int) - 128 := by omega
    have l : decN n0 n1 n2 n3 C1 C2 C3 = if n0 % 32 * 64 + n1 % 64 ≥ 128 then (n0 % 32 * 64 + n1 % 64, 2) else (Utf8.runeError, 1) := by
      unfold decN; rw [if_neg hA, if_pos (by simp [hB.2]; omega)]
    rw [l]; unfold decI; rw [if_neg (show ¬ ((n0 : Int) < 128) by omega), if_pos (show (192 ≤ (n0 : Int) ∧ (n0 : Int) < 224) ∧ C1 = true from ⟨by omega, hB.2⟩), ← e]
    by_cases hv : n0 % 32 * 64 + n1 % 64 ≥ 128
    · rw [if_pos hv, if_pos (by omega)]
    · rw [if_neg hv, if_neg (by omega)]; rfl
  have nB : ¬ ((n0 / 32 == 6 && C1) = true) := by
    intro hh; simp at hh; exact hB ⟨by omega, hh.2⟩
  have nB' : ¬ ((192 ≤ (n0 : Int) ∧ (n0 : Int) < 224) ∧ C1 = true) := fun hh => hB ⟨by omega, hh.2⟩
  by_cases hC : (224 ≤ n0 ∧ n0 < 240) ∧ C1 = true ∧ C2 = true
  · have j1 := k1 hC.2.1
    have j2 := k2 hC.2.2
    have e : (((n0 % 16 * 4096 + n1 % 64 * 64 + n2 % 64 : Nat)) : Int) = ((n0 : Int) % 16 * 64 + (n1 : Int) - 128) * 64 + (n2 : Int) - 128 := by omega
    have l : decN n0 n1 n2 n3 C1 C2 C3 = if (decide (n0 % 16 * 4096 + n1 % 64 * 64 + n2 % 64 ≥ 2048) && Utf8.valid ((n0 % 16 * 4096 + n1 % 64 * 64 + n2 % 64 : Nat) : Int)) = true then (n0 % 16 * 4096 + n1 % 64 * 64 + n2 % 64, 3) else (Utf8.runeError, 1) := by
      unfold decN; rw [if_neg hA, if_neg nB, if_pos (by simp [hC.2.1, hC.2.2]; omega)]
    rw [l]; unfold decI; rw [if_neg (show ¬ ((n0 : Int) < 128) by omega), if_neg nB', if_pos (show (224 ≤ (n0 : Int) ∧ (n0 : Int) < 240) ∧ C1 = true ∧ C2 = true from ⟨by omega, hC.2⟩), ← e]
    by_cases hv : n0 % 16 * 4096 + n1 % 64 * 64 + n2 % 64 ≥ 2048 ∧ Utf8.valid ((n0 % 16 * 4096 + n1 % 64 * 64 + n2 % 64 : Nat) : Int) = true
    · rw [if_pos (by simp only [Bool.and_eq_true, decide_eq_true_eq]; exact hv), if_pos ⟨by omega, hv.2⟩]
    · rw [if_neg (by simp only [Bool.and_eq_true, decide_eq_true_eq]; exact hv), if_neg (by intro hh; exact hv ⟨by omega, hh.2⟩)]; rfl
  have nC : ¬ ((n0 / 16 == 14 && C1 && C2) = true) := by
    intro hh; simp at hh; exact hC ⟨by omega, hh.1.2, hh.2⟩
  have nC' : ¬ ((224 ≤ (n0 : Int) ∧ (n0 : Int) < 240) ∧ C1 = true ∧ C2 = true) := fun hh => hC ⟨by omega, hh.2⟩
  by_cases hD : (240 ≤ n0 ∧ n0 < 248) ∧ C1 = true ∧ C2 = true ∧ C3 = true
  · have j1 := k1 hD.2.1
    have j2 := k2 hD.2.2.1
    have j3 := k3 hD.2.2.2
    have e : (((n0 % 8 * 262144 + n1 % 64 * 4096 + n2 % 64 * 64 + n3 % 64 : Nat)) : Int) = (((n0 : Int) % 8 * 64 + (n1 : Int) - 128) * 64 + (n2 : Int) - 128) * 64 + (n3 : Int) - 128 := by omega
    have l : decN n0 n1 n2 n3 C1 C2 C3 = if (decide (n0 % 8 * 262144 + n1 % 64 * 4096 + n2 % 64 * 64 + n3 % 64 ≥ 65536) && Utf8.valid ((n0 % 8 * 262144 + n1 % 64 * 4096 + n2 % 64 * 64 + n3 % 64 : Nat) : Int)) = true then (n0 % 8 * 262144 + n1 % 64 * 4096 + n2 % 64 * 64 + n3 % 64, 4) else (Utf8.runeError, 1) := by
      unfold decN; rw [if_neg hA, if_neg nB, if_neg nC, if_pos (by simp [hD.2.1, hD.2.2.1, hD.2.2.2]; omega)]
    rw [l]; unfold decI; rw [if_neg (show ¬ ((n0 : Int) < 128) by omega), if_neg nB', if_neg nC', if_pos (show (240 ≤ (n0 : Int) ∧ (n0 : Int) < 248) ∧ C1 = true ∧ C2 = true ∧ C3 = true from ⟨by omega, hD.2⟩), ← e]
    by_cases hv : n0 % 8 * 262144 + n1 % 64 * 4096 + n2 % 64 * 64 + n3 % 64 ≥ 65536 ∧ Utf8.valid ((n0 % 8 * 262144 + n1 % 64 * 4096 + n2 % 64 * 64 + n3 % 64 : Nat) : Int) = true
    · rw [if_pos (by simp only [Bool.and_eq_true, decide_eq_true_eq]; exact hv), if_pos ⟨by omega, hv.2⟩]
    · rw [if_neg (by simp only [Bool.and_eq_true, decide_eq_true_eq]; exact hv), if_neg (by intro hh; exact hv ⟨by omega, hh.2⟩)]; rfl
  have nD : ¬ ((n0 / 8 == 30 && C1 && C2 && C3) = true) := by
    intro hh; simp at hh; exact hD ⟨by omega, hh.1.1.2, hh.1.2, hh.2⟩
  have nD' : ¬ ((240 ≤ (n0 : Int) ∧ (n0 : Int) < 248) ∧ C1 = true ∧ C2 = true ∧ C3 = true) := fun hh => hD ⟨by omega, hh.2⟩
  have l : decN n0 n1 n2 n3 C1 C2 C3 = (Utf8.runeError, 1) := by unfold decN; rw [if_neg hA, if_neg nB, if_neg nC, if_neg nD]
  rw [l]; unfold decI; rw [if_neg (show ¬ ((n0 : Int) < 128) by omega), if_neg nB', if_neg nC', if_neg nD']; rfl
theorem decode_is (bs : List Int) (h : Bytes bs) (i : Nat) : (((Utf8.decode (toBA bs) i).1 : Int), (Utf8.decode (toBA bs) i).2) = decL (bs.drop i) := by
  have b0 := h.at0 (i + 0)
  have b1 := h.at0 (i + 1)
  have b2 := h.at0 (i + 2)
  have b3 := h.at0 (i + 3)
  have e1 : Utf8.decode (toBA bs) i = decN (at0 bs (i + 0)).toNat (at0 bs (i + 1)).toNat (at0 bs (i + 2)).toNat (at0 bs (i + 3)).toNat (cont (bs.drop i) 1) (cont (bs.drop i) 2) (cont (bs.drop i) 3) := by
    rw [← cont_nat bs h i 1, ← cont_nat bs h i 2, ← cont_nat bs h i 3, ← toBA_get bs h (i + 0), ← toBA_get bs h (i + 1), ← toBA_get bs h (i + 2), ← toBA_get bs h (i + 3)]
    rfl
  have k1 : cont (bs.drop i) 1 = true → 128 ≤ (at0 bs (i + 1)).toNat ∧ (at0 bs (i + 1)).toNat ≤ 191 := by intro hc; simp [cont, at0_drop] at hc; omega
  have k2 : cont (bs.drop i) 2 = true → 128 ≤ (at0 bs (i + 2)).toNat ∧ (at0 bs (i + 2)).toNat ≤ 191 := by intro hc; simp [cont, at0_drop] at hc; omega
  have k3 : cont (bs.drop i) 3 = true → 128 ≤ (at0 bs (i + 3)).toNat ∧ (at0 bs (i + 3)).toNat ≤ 191 := by intro hc; simp [cont, at0_drop] at hc; omega
  rw [e1, decN_is _ _ _ _ _ _ _ (by omega) k1 k2 k3, Int.toNat_of_nonneg b0.1, Int.toNat_of_nonneg b1.1, Int.toNat_of_nonneg b2.1, Int.toNat_of_nonneg b3.1]
  simp only [decI, decL, v2, v3, v4, at0_drop]
def need (c : Int) : Nat := if c < 128 then 1 else if c < 192 ∨ 248 ≤ c then 0 else if c < 224 then 2 else if c < 240 then 3 else 4
def valL (l : List Int) (n : Nat) : Int :=
  if n = 1 then at0 l 0
  else if n = 2 then (if cont l 1 = true then v2 l else -1)
  else if n = 3 then (if cont l 1 = true ∧ cont l 2 = true then v3 l else -1)
  else (if cont l 1 = true ∧ cont l 2 = true ∧ cont l 3 = true then v4 l else -1)
def encL (v : Int) : List Int :=
  if v < 128 then [v] else if v < 2048 then [192 + v / 64, 128 + v % 64] else if v < 65536 then [224 + v / 4096, 128 + v / 64 % 64, 128 + v % 64]
  else [240 + v / 262144, 128 + v / 4096 % 64, 128 + v / 64 % 64, 128 + v % 64]
theorem encL_bytes (v : Int) (h0 : 0 ≤ v) (h1 : v ≤ 2097151) : Bytes (encL v) := by
  intro n hn
  unfold encL at hn
  split at hn
  · simp at hn; omega
  · split at hn
    · simp at hn; omega
    · split at hn <;> simp at hn <;> omega
theorem toBA_inj {xs ys : List Int} (hx : Bytes xs) (hy : Bytes ys) (h : toBA xs = toBA ys) : xs = ys := by
  have hl : xs.length = ys.length := by rw [← toBA_size, ← toBA_size, h]
  apply List.ext_getElem hl
  intro i h1 h2
  have e := toBA_get xs hx i
  rw [h, toBA_get ys hy i] at e
  have a := hx.at0 i
  have b := hy.at0 i
  have : at0 xs i = at0 ys i := by omega
  simpa [at0, h1, h2] using this
theorem valid_bd {r : Int} (h : Utf8.valid r = true) : 0 ≤ r ∧ r ≤ 1114111 := by
  simp [Utf8.valid] at h; omega
theorem cont_len {l : List Int} {k : Nat} (h : cont l k = true) : k < l.length ∧ 128 ≤ at0 l k ∧ at0 l k ≤ 191 := by
  simp [cont] at h; omega
theorem take_at (l : List Int) : ∀ n, n ≤ l.length → l.take n = (List.range n).map (at0 l) := by
  intro n hn
  apply List.ext_getElem (by simp; omega)
  intro i h1 h2
  simp at h1 h2
  simp [at0, show i < l.length by omega]
theorem rune_short (l : List Int) (hb : Bytes l) (h : need (at0 l 0) = 0 ∨ l.length < need (at0 l 0)) (hne : 0 < l.length) : decL l = (65533, 1) := by
  have b0 := hb.at0 0
  unfold need at h
  unfold decL
  by_cases hA : at0 l 0 < 128
  · rw [if_pos hA] at h; omega
  rw [if_neg hA]
  rw [if_neg hA] at h
  by_cases hB : at0 l 0 < 192 ∨ 248 ≤ at0 l 0
  · rw [if_neg (by omega), if_neg (by omega), if_neg (by omega)]
  rw [if_neg hB] at h
  by_cases hC : at0 l 0 < 224
  · rw [if_pos hC] at h
    rw [if_neg (by intro hh; have := cont_len hh.2; omega), if_neg (by omega), if_neg (by omega)]
  rw [if_neg hC] at h
  by_cases hD : at0 l 0 < 240
  · rw [if_pos hD] at h
    rw [if_neg (by omega), if_neg (by intro hh; have := cont_len hh.2.2; omega), if_neg (by omega)]
  rw [if_neg hD] at h
  rw [if_neg (by omega), if_neg (by omega), if_neg (by intro hh; have := cont_len hh.2.2.2; omega)]
theorem rune_long (l : List Int) (hb : Bytes l) (n : Nat) (hn : n = need (at0 l 0)) (h1 : 1 ≤ n) (h2 : n ≤ l.length) :
    (Utf8.valid (valL l n) = false → decL l = (65533, 1)) ∧
    (Utf8.valid (valL l n) = true → ¬ encL (valL l n) = l.take n → decL l = (65533, 1)) ∧
    (Utf8.valid (valL l n) = true → encL (valL l n) = l.take n → decL l = (valL l n, n)) := by
  have b0 := hb.at0 0
  have ht := take_at l n h2
  have neg : Utf8.valid (-1) = true → False := by decide
  unfold need at hn
  unfold decL
  by_cases hA : at0 l 0 < 128
  · rw [if_pos hA] at hn
    subst hn
    have e : valL l 1 = at0 l 0 := by simp [valL]
    rw [e, if_pos hA]
    have hv : Utf8.valid (at0 l 0) = true := by simp [Utf8.valid]; omega
    have he : encL (at0 l 0) = l.take 1 := by rw [ht]; simp [encL, hA, List.range_succ]
    exact ⟨by rw [hv]; simp, fun _ h => absurd he h, fun _ _ => rfl⟩
  rw [if_neg hA] at hn ⊢
  by_cases hB : at0 l 0 < 192 ∨ 248 ≤ at0 l 0
  · rw [if_pos hB] at hn; omega
  rw [if_neg hB] at hn
  by_cases hC : at0 l 0 < 224
  · rw [if_pos hC] at hn
    subst hn
    have e : valL l 2 = if cont l 1 = true then v2 l else -1 := by simp [valL]
    rw [e]
    by_cases hc : cont l 1 = true
    · obtain ⟨_, c1, c2⟩ := cont_len hc
      rw [if_pos hc, if_pos (show (192 ≤ at0 l 0 ∧ at0 l 0 < 224) ∧ cont l 1 = true from ⟨by omega, hc⟩)]
      have hv : Utf8.valid (v2 l) = true := by
        have : 0 ≤ v2 l ∧ v2 l < 2048 := by unfold v2; omega
        simp [Utf8.valid]; omega
      rw [ht]
      refine ⟨by rw [hv]; simp, fun _ h => ?_, fun _ h => ?_⟩
      · rw [if_neg]
        intro h3
        apply h
        unfold v2 at h3 ⊢
        rw [encL, if_neg (by omega), if_pos (by omega)]
        simp [List.range_succ]; omega
      · rw [if_pos]
        have hl := congrArg List.length h
        unfold encL at hl
        split at hl
        · simp at hl
        · omega
    · rw [if_neg hc, if_neg (by intro hh; exact hc hh.2), if_neg (by omega), if_neg (by omega)]
      exact ⟨fun _ => rfl, fun h => absurd h neg, fun h => absurd h neg⟩
  rw [if_neg hC] at hn
  rw [if_neg (by omega)]
  by_cases hD : at0 l 0 < 240
  · rw [if_pos hD] at hn
    subst hn
    have e : valL l 3 = if cont l 1 = true ∧ cont l 2 = true then v3 l else -1 := by simp [valL]
    rw [e]
    by_cases hc : cont l 1 = true ∧ cont l 2 = true
    · obtain ⟨_, c1, c2⟩ := cont_len hc.1
      obtain ⟨_, c3, c4⟩ := cont_len hc.2
      rw [if_pos hc, if_pos (show (224 ≤ at0 l 0 ∧ at0 l 0 < 240) ∧ cont l 1 = true ∧ cont l 2 = true from ⟨by omega, hc⟩)]
      rw [ht]
      refine ⟨fun h => by rw [if_neg (by rw [h]; simp)], fun hv h => ?_, fun hv h => ?_⟩
      · rw [if_neg]
        rintro ⟨h3, _⟩
        apply h
        unfold v3 at h3 ⊢
        rw [encL, if_neg (by omega), if_neg (by omega), if_pos (by omega)]
        simp [List.range_succ]; omega
      · rw [if_pos]
        refine ⟨?_, hv⟩
        have hl := congrArg List.length h
        unfold encL at hl
        split at hl
        · simp at hl
        · split at hl
          · simp at hl
          · omega
    · rw [if_neg hc, if_neg (by intro hh; exact hc hh.2), if_neg (by omega)]
      exact ⟨fun _ => rfl, fun h => absurd h neg, fun h => absurd h neg⟩
  rw [if_neg hD] at hn
  rw [if_neg (by omega)]
  subst hn
  have e : valL l 4 = if cont l 1 = true ∧ cont l 2 = true ∧ cont l 3 = true then v4 l else -1 := by simp [valL]
  rw [e]
  by_cases hc : cont l 1 = true ∧ cont l 2 = true ∧ cont l 3 = true
  · obtain ⟨_, c1, c2⟩ := cont_len hc.1
    obtain ⟨_, c3, c4⟩ := cont_len hc.2.1
    obtain ⟨_, c5, c6⟩ := cont_len hc.2.2
    rw [if_pos hc, if_pos (show (240 ≤ at0 l 0 ∧ at0 l 0 < 248) ∧ cont l 1 = true ∧ cont l 2 = true ∧ cont l 3 = true from ⟨by omega, hc⟩)]
    rw [ht]
    refine ⟨fun h => by rw [if_neg (by rw [h]; simp)], fun hv h => ?_, fun hv h => ?_⟩
    · rw [if_neg]
      rintro ⟨h3, _⟩
      apply h
      unfold v4 at h3 ⊢
      rw [encL, if_neg (by omega), if_neg (by omega), if_neg (by omega)]
      simp [List.range_succ]; omega
    · rw [if_pos]
      refine ⟨?_, hv⟩
      have hl := congrArg List.length h
      unfold encL at hl
      split at hl
      · simp at hl
      · split at hl
        · simp at hl
        · split at hl
          · simp at hl
          · omega
  · rw [if_neg hc, if_neg (by intro hh; exact hc hh.2)]
    exact ⟨fun _ => rfl, fun h => absurd h neg, fun h => absurd h neg⟩
theorem decL_pos (l : List Int) : 1 ≤ (decL l).2 := by
  unfold decL
  repeat' split
  all_goals simp
theorem decL_len (l : List Int) (h : 0 < l.length) : (decL l).2 ≤ l.length := by
  unfold decL
  repeat' split
  all_goals simp
  all_goals first | omega | (rename_i hh _ ; have := cont_len hh.2; omega) | (rename_i hh _ ; have := cont_len hh.2.2; omega) | (rename_i hh _ ; have := cont_len hh.2.2.2; omega)
def shownI (r : Int) : Int := if Utf8.valid r = false ∨ r < 32 ∨ (127 ≤ r ∧ r ≤ 159) then 65533 else r
theorem shownI_bd (r : Int) : 0 ≤ shownI r ∧ shownI r ≤ 1114111 := by
  unfold shownI
  split
  · omega
  · rename_i h
    have hv : Utf8.valid r = true := by
      cases hv : Utf8.valid r
      · exact absurd (.inl hv) h
      · rfl
    exact valid_bd hv
def cleanR (r : Int) : Int := if r = 9 then 32 else shownI r
def cleanF : Nat → List Int → List Int
  | 0, _ => []
  | f + 1, l => if l.length = 0 then [] else cleanR (decL l).1 :: cleanF f (l.drop (decL l).2)
theorem cleanF_fuel : ∀ (f g : Nat) (l : List Int), l.length ≤ f → l.length ≤ g → cleanF f l = cleanF g l
  | 0, 0, _, _, _ => rfl
  | 0, g + 1, l, h, _ => by simp [cleanF]; exact List.eq_nil_of_length_eq_zero (by omega)
  | f + 1, 0, l, _, h => by simp [cleanF]; exact List.eq_nil_of_length_eq_zero (by omega)
  | f + 1, g + 1, l, h, k => by
    simp only [cleanF]
    split
    · rfl
    · have := decL_pos l
      rw [cleanF_fuel f g _ (by simp; omega) (by simp; omega)]
def cleanL (l : List Int) : List Int := cleanF l.length l
theorem cleanL_nil (l : List Int) (h : l.length = 0) : cleanL l = [] := by
  have e : l = [] := List.eq_nil_of_length_eq_zero h
  subst e; rfl
theorem cleanL_step (l : List Int) (h : 0 < l.length) : cleanL l = cleanR (decL l).1 :: cleanL (l.drop (decL l).2) := by
  have hp := decL_pos l
  unfold cleanL
  obtain ⟨m, hm⟩ : ∃ m, l.length = m + 1 := ⟨l.length - 1, by omega⟩
  rw [hm]
  simp only [cleanF]
  rw [if_neg (by omega)]
  rw [cleanF_fuel m _ _ (by simp; omega) (Nat.le_refl _)]
theorem cleanL_len (l : List Int) : (cleanL l).length ≤ l.length := by
  have : ∀ f (l : List Int), l.length ≤ f → (cleanF f l).length ≤ l.length := by
    intro f
    induction f with
    | zero => intro l _; simp [cleanF]
    | succ f ih =>
      intro l h
      simp only [cleanF]
      split
      · simp
      · have hp := decL_pos l
        have := ih (l.drop (decL l).2) (by simp; omega)
        simp at this ⊢
        omega
  exact this _ _ (Nat.le_refl _)
theorem run_b2s {P : Program} (w : World) (src dst e : TypeId) (hs : P.underlying src = some (.slice e)) (he : P.underlying e = some (.int .u8)) (hd : P.underlying dst = some .string)
    (v : Value) (zs : List Int) (h : IntsAt w .u8 v zs) : (convert src dst v).run P w = .ok (.string (toBA zs)) w := by
  obtain ⟨ao, cap, rfl, hcap, hr⟩ := h
  rw [run_convert_bytes_string w src dst e _ _ _ hs he hd]
  by_cases h0 : zs.length = 0
  · have e0 : zs = [] := List.eq_nil_of_length_eq_zero h0
    subst e0
    cases ao with
    | none => rfl
    | some a => rfl
  · obtain ⟨b, off, rfl, hc⟩ := hr (by omega)
    refine run_bytesToString w _ _ _ zs ?_
    have hl := run_loadCells_list (P := P) (w := w) ⟨b, off, none⟩ (zs.map (Value.int .u8)) (fun j v hj => by
      simp only [List.getElem?_map, Option.map_eq_some_iff] at hj
      obtain ⟨x, hx, rfl⟩ := hj
      have hjl : j < zs.length := (List.getElem?_eq_some_iff.1 hx).1
      have := hc j hjl
      rw [at0, hx] at this
      rw [Addr.add_lit]; simpa using this)
    simpa using hl
end Go.Proofs.YtmomcccgjjjldaaDoor
