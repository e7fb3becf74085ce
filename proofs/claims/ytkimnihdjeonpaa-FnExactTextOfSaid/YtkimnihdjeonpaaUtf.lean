import Derived.Test.YtkimnihdjeonpaaBase
namespace Go.Proofs.Ytkimnihdjeonpaa
open Go.RowKit
def toBA (ns : List Int) : ByteArray := ns.foldl (fun r n => r.push (UInt8.ofNat n.toNat)) ByteArray.empty
theorem toBA_foldl (ns : List Int) : ∀ s : ByteArray, (ns.foldl (fun r n => r.push (UInt8.ofNat n.toNat)) s).data.toList = s.data.toList ++ ns.map (fun n => UInt8.ofNat n.toNat) := by
  induction ns with
  | nil => intro s; simp
  | cons n ns ih => intro s; rw [List.foldl_cons, ih]; simp
theorem toBA_list (ns : List Int) : (toBA ns).data.toList = ns.map (fun n => UInt8.ofNat n.toNat) := by
  rw [toBA, toBA_foldl]; rfl
theorem toBA_size (ns : List Int) : (toBA ns).size = ns.length := by
  have := congrArg List.length (toBA_list ns)
  simpa using this
def Bytes (ns : List Int) : Prop := ∀ n ∈ ns, 0 ≤ n ∧ n ≤ 255
theorem Bytes.at0 {ns : List Int} (h : Bytes ns) (i : Nat) : 0 ≤ at0 ns i ∧ at0 ns i ≤ 255 := by
  unfold Go.Proofs.Ytkimnihdjeonpaa.at0
  cases hi : ns[i]? with
  | none => simp
  | some x => exact h x (List.mem_of_getElem? hi)
theorem Bytes.drop {ns : List Int} (h : Bytes ns) (i : Nat) : Bytes (ns.drop i) := fun n hn => h n (List.mem_of_mem_drop hn)
theorem toBA_get (ns : List Int) (h : Bytes ns) (i : Nat) : ((toBA ns).get! i).toNat = (at0 ns i).toNat := by
  have hb := h.at0 i
  have e : (toBA ns).get! i = ((toBA ns).data.toList[i]?).getD 0 := by
    show (toBA ns).data[i]! = _
    rw [getElem!_def]
    rw [Array.getElem?_toList]
    cases (toBA ns).data[i]? <;> rfl
  rw [e, toBA_list]
  unfold at0 at hb ⊢
  cases hi : ns[i]? with
  | none => simp [hi]
  | some x =>
    simp only [hi, Option.getD_some] at hb
    simp [hi]
    omega
def encL (v : Int) : List Int :=
  if v < 128 then [v] else if v < 2048 then [192 + v / 64, 128 + v % 64] else if v < 65536 then [224 + v / 4096, 128 + v / 64 % 64, 128 + v % 64]
  else [240 + v / 262144, 128 + v / 4096 % 64, 128 + v / 64 % 64, 128 + v % 64]
theorem encL_bytes (v : Int) (h0 : 0 ≤ v) (h1 : v ≤ 2097151) : Bytes (encL v) := by
  intro n hn
  unfold encL at hn
  split at hn
  · simp at hn; omega
  · split at hn
    · simp at hn; omega
    · split at hn <;> simp at hn <;> omega
theorem valid_bd {r : Int} (h : Utf8.valid r = true) : 0 ≤ r ∧ r ≤ 1114111 := by
  simp [Utf8.valid] at h; omega
theorem run_b2s {P : Program} (w : World) (src dst e : TypeId) (hs : P.underlying src = some (.slice e)) (he : P.underlying e = some (.int .u8)) (hd : P.underlying dst = some .string)
    (v : Value) (zs : List Int) (h : IntsAt w .u8 v zs) : (convert src dst v).run P w = .ok (.string (toBA zs)) w := by
  obtain ⟨ao, cap, rfl, hcap, hr⟩ := h
  rw [run_convert_bytes_string w src dst e _ _ _ hs he hd]
  by_cases h0 : zs.length = 0
  · have e0 : zs = [] := List.eq_nil_of_length_eq_zero h0
    subst e0
    cases ao with
    | none => rfl
    | some a => rfl
  · obtain ⟨b, off, rfl, hc⟩ := hr (by omega)
    refine run_bytesToString w _ _ _ zs ?_
    have hl := run_loadCells_list (P := P) (w := w) ⟨b, off, none⟩ (zs.map (Value.int .u8)) (fun j v hj => by
      simp only [List.getElem?_map, Option.map_eq_some_iff] at hj
      obtain ⟨x, hx, rfl⟩ := hj
      have hjl : j < zs.length := (List.getElem?_eq_some_iff.1 hx).1
      have := hc j hjl
      rw [at0, hx] at this
      rw [Addr.add_lit]; simpa using this)
    simpa using hl
end Go.Proofs.Ytkimnihdjeonpaa
