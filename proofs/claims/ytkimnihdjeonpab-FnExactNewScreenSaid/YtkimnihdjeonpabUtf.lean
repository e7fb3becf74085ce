import Derived.Test.YtkimnihdjeonpabBase
namespace Go.Proofs.Ytkimnihdjeonpab
open Go.RowKit
def toBA (ns : List Int) : ByteArray := ns.foldl (fun r n => r.push (UInt8.ofNat n.toNat)) ByteArray.empty
theorem toBA_foldl (ns : List Int) : ∀ s : ByteArray, (ns.foldl (fun r n => r.push (UInt8.ofNat n.toNat)) s).data.toList = s.data.toList ++ ns.map (fun n => UInt8.ofNat n.toNat) := by
  induction ns with
  | nil => intro s; simp
  | cons n ns ih => intro s; rw [List.foldl_cons, ih]; simp
theorem toBA_list (ns : List Int) : (toBA ns).data.toList = ns.map (fun n => UInt8.ofNat n.toNat) := by
  rw [toBA, toBA_foldl]; rfl
theorem toBA_size (ns : List Int) : (toBA ns).size = ns.length := by
  have := congrArg List.length (toBA_list ns)
  simpa using this
def Bytes (ns : List Int) : Prop := ∀ n ∈ ns, 0 ≤ n ∧ n ≤ 255
theorem Bytes.drop {ns : List Int} (h : Bytes ns) (i : Nat) : Bytes (ns.drop i) := fun n hn => h n (List.mem_of_mem_drop hn)
def v2 (l : List Int) : Int := at0 l 0 % 32 * 64 + at0 l 1 - 128
theorem run_b2s {P : Program} (w : World) (src dst e : TypeId) (hs : P.underlying src = some (.slice e)) (he : P.underlying e = some (.int .u8)) (hd : P.underlying dst = some .string)
    (v : Value) (zs : List Int) (h : IntsAt w .u8 v zs) : (convert src dst v).run P w = .ok (.string (toBA zs)) w := by
  obtain ⟨ao, cap, rfl, hcap, hr⟩ := h
  rw [run_convert_bytes_string w src dst e _ _ _ hs he hd]
  by_cases h0 : zs.length = 0
  · have e0 : zs = [] := List.eq_nil_of_length_eq_zero h0
    subst e0
    cases ao with
    | none => rfl
    | some a => rfl
  · obtain ⟨b, off, rfl, hc⟩ := hr (by omega)
    refine run_bytesToString w _ _ _ zs ?_
    have hl := run_loadCells_list (P := P) (w := w) ⟨b, off, none⟩ (zs.map (Value.int .u8)) (fun j v hj => by
      simp only [List.getElem?_map, Option.map_eq_some_iff] at hj
      obtain ⟨x, hx, rfl⟩ := hj
      have hjl : j < zs.length := (List.getElem?_eq_some_iff.1 hx).1
      have := hc j hjl
      rw [at0, hx] at this
      rw [Addr.add_lit]; simpa using this)
    simpa using hl
end Go.Proofs.Ytkimnihdjeonpab
