import Derived.Test.YtmlkpdbfnffoaaaGreatDoorBlocks
import Derived.Test.YtmlkpdbfnffoaaaGreatDoorProg
namespace Go.Proofs.YtmlkpdbfnffoaaaGreatDoor
open Go.RowKit
set_option maxHeartbeats 1000000
set_option maxRecDepth 10000
def za9 (r : Int) : List Int := if Utf8.valid r = true then zbm r else [239, 191, 189]
theorem ze0 (r : Int) : (za9 r).length ≤ 4 := by
 unfold za9 zbm
 (repeat' split) <;> simp
theorem zdw (r : Int) : zaj (za9 r) := by
 unfold za9
 split
 ·rename_i h
  have := zcL h
  exact zg0 r this.1 (by omega)
 ·intro n hn; simp at hn; omega
theorem zal {w : World} (zs : List Value) (t : TypeId) : ∀ j u, zs[j]? = some u → (w.alloc (.cells zs.toArray t)).cell? ((⟨w.heap.size, 0, none⟩ : Addr).add j) = some u := by
 intro j u h
 rw [Addr.add_lit, Nat.zero_add, World.cell?_alloc_at _ _ _ _ rfl]
 simpa using h
theorem zbI : (Tryz.prog.info? 5).map (fun i => (i.zero, i.size, i.bytes)) = some (some (.int .u8 0), 1, 1) := by kernel_rfl
theorem zjb {r : Int} (h0 : 0 ≤ r) (h1 : r ≤ 127) : za9 r = [r] := by
 rw [za9, if_pos (by simp [Utf8.valid]; omega), zbm, if_pos (by omega)]
theorem zjo {r : Int} (h0 : 128 ≤ r) (h1 : r ≤ 2047) : za9 r = [192 + r / 64, 128 + r % 64] := by
 rw [za9, if_pos (by simp [Utf8.valid]; omega), zbm, if_neg (by omega), if_pos (by omega)]
theorem zez {r : Int} (h : (2048 ≤ r ∧ r < 55296) ∨ (57343 < r ∧ r ≤ 65535)) : za9 r = [224 + r / 4096, 128 + r / 64 % 64, 128 + r % 64] := by
 rw [za9, if_pos (by simp [Utf8.valid]; omega), zbm, if_neg (by omega), if_neg (by omega), if_pos (by omega)]
theorem zhV {r : Int} (h0 : 65536 ≤ r) (h1 : r ≤ 1114111) : za9 r = [240 + r / 262144, 128 + r / 4096 % 64, 128 + r / 64 % 64, 128 + r % 64] := by
 rw [za9, if_pos (by simp [Utf8.valid]; omega), zbm, if_neg (by omega), if_neg (by omega), if_neg (by omega)]
theorem zha {r : Int} (h : r < 0 ∨ (55296 ≤ r ∧ r ≤ 57343) ∨ 1114111 < r) : za9 r = [239, 191, 189] := by
 rw [za9, if_neg (by simp [Utf8.valid]; omega)]
theorem zgW (base : Nat) (v : Value) (n : Nat) (xs : List Value) (r : Int) (w : World) (hb : base ≤ w.heap.size) (hn : n ≤ 1073741824) (hown : w.ownsRow base 5 1 v n xs) (h0 : 0 ≤ r) (h1 : r ≤ 127) :
  Calls Tryz.prog 296 #[v, .int .i32 r] w fun e w' => ∃ v', e = .returned v' ∧ w'.ownsRow base 5 1 v' (n + 1) (xs ++ ([r]).map (Value.int .u8)) ∧ (∃ o, (w.alloc o).grownBy w' v.ownBlock) := by
 obtain ⟨i0, hi, hz0, hz1, hz2⟩ := info_parts zbI
 go_enter Tryz.func296, Tryz.ntmps296
 go_wp2_with (at_builtin; go_must (refine wpList_append_own _ rfl _ _ 25 rfl base 5 i0 (.int .u8 0) 1 1 Tryz.underlying25 hi hz0 hz1 hz2 rfl (by decide) _ _ _ rfl (hown.alloc _) ⟨w.heap.size, 0, none⟩ 1 1 (([r]).map (Value.int .u8)) rfl rfl (zal _ _) (ints_oneCell _ _) ?_ ?_ ?_ ?_))
 ·unfold maxLen; omega
 ·omega
 ·first | omega | (simp; omega)
 ·intro v' w2 hown' hgrow _
  go_wp2
  go_ret
  exact ⟨_, rfl, hown', ⟨_, hgrow⟩⟩
theorem ziF (base : Nat) (v : Value) (n : Nat) (xs : List Value) (r : Int) (w : World) (hb : base ≤ w.heap.size) (hn : n ≤ 1073741824) (hown : w.ownsRow base 5 1 v n xs) (h0 : 128 ≤ r) (h1 : r ≤ 2047) :
  Calls Tryz.prog 323 #[v, .int .i32 r] w fun e w' => ∃ v', e = .returned v' ∧ w'.ownsRow base 5 1 v' (n + 2) (xs ++ ([192 + r / 64, 128 + r % 64]).map (Value.int .u8)) ∧ (∃ o, (w.alloc o).grownBy w' v.ownBlock) := by
 obtain ⟨i0, hi, hz0, hz1, hz2⟩ := info_parts zbI
 go_enter Tryz.func323, Tryz.ntmps323
 go_wp2_with (at_builtin; go_must (refine wpList_append_own _ rfl _ _ 25 rfl base 5 i0 (.int .u8 0) 1 1 Tryz.underlying25 hi hz0 hz1 hz2 rfl (by decide) _ _ _ rfl (hown.alloc _) ⟨w.heap.size, 0, none⟩ 2 2 (([192 + r / 64, 128 + r % 64]).map (Value.int .u8)) rfl rfl (zal _ _) (ints_oneCell _ _) ?_ ?_ ?_ ?_))
 ·unfold maxLen; omega
 ·omega
 ·first | omega | (simp; omega)
 ·intro v' w2 hown' hgrow _
  go_wp2
  go_ret
  exact ⟨_, rfl, hown', ⟨_, hgrow⟩⟩
theorem zjs (base : Nat) (v : Value) (n : Nat) (xs : List Value) (r : Int) (w : World) (hb : base ≤ w.heap.size) (hn : n ≤ 1073741824) (hown : w.ownsRow base 5 1 v n xs) (h0 : 2048 ≤ r) (h1 : r < 55296) :
  Calls Tryz.prog 323 #[v, .int .i32 r] w fun e w' => ∃ v', e = .returned v' ∧ w'.ownsRow base 5 1 v' (n + 3) (xs ++ ([224 + r / 4096, 128 + r / 64 % 64, 128 + r % 64]).map (Value.int .u8)) ∧ (∃ o, (w.alloc o).grownBy w' v.ownBlock) := by
 obtain ⟨i0, hi, hz0, hz1, hz2⟩ := info_parts zbI
 go_enter Tryz.func323, Tryz.ntmps323
 go_wp2_with (at_builtin; go_must (refine wpList_append_own _ rfl _ _ 25 rfl base 5 i0 (.int .u8 0) 1 1 Tryz.underlying25 hi hz0 hz1 hz2 rfl (by decide) _ _ _ rfl (hown.alloc _) ⟨w.heap.size, 0, none⟩ 3 3 (([224 + r / 4096, 128 + r / 64 % 64, 128 + r % 64]).map (Value.int .u8)) rfl rfl (zal _ _) (ints_oneCell _ _) ?_ ?_ ?_ ?_))
 ·unfold maxLen; omega
 ·omega
 ·first | omega | (simp; omega)
 ·intro v' w2 hown' hgrow _
  go_wp2
  go_ret
  exact ⟨_, rfl, hown', ⟨_, hgrow⟩⟩
theorem zjG (base : Nat) (v : Value) (n : Nat) (xs : List Value) (r : Int) (w : World) (hb : base ≤ w.heap.size) (hn : n ≤ 1073741824) (hown : w.ownsRow base 5 1 v n xs) (h0 : 57343 < r) (h1 : r ≤ 65535) :
  Calls Tryz.prog 323 #[v, .int .i32 r] w fun e w' => ∃ v', e = .returned v' ∧ w'.ownsRow base 5 1 v' (n + 3) (xs ++ ([224 + r / 4096, 128 + r / 64 % 64, 128 + r % 64]).map (Value.int .u8)) ∧ (∃ o, (w.alloc o).grownBy w' v.ownBlock) := by
 obtain ⟨i0, hi, hz0, hz1, hz2⟩ := info_parts zbI
 go_enter Tryz.func323, Tryz.ntmps323
 go_wp2_with (at_builtin; go_must (refine wpList_append_own _ rfl _ _ 25 rfl base 5 i0 (.int .u8 0) 1 1 Tryz.underlying25 hi hz0 hz1 hz2 rfl (by decide) _ _ _ rfl (hown.alloc _) ⟨w.heap.size, 0, none⟩ 3 3 (([224 + r / 4096, 128 + r / 64 % 64, 128 + r % 64]).map (Value.int .u8)) rfl rfl (zal _ _) (ints_oneCell _ _) ?_ ?_ ?_ ?_))
 ·unfold maxLen; omega
 ·omega
 ·first | omega | (simp; omega)
 ·intro v' w2 hown' hgrow _
  go_wp2
  go_ret
  exact ⟨_, rfl, hown', ⟨_, hgrow⟩⟩
theorem zhJ (base : Nat) (v : Value) (n : Nat) (xs : List Value) (r : Int) (w : World) (hb : base ≤ w.heap.size) (hn : n ≤ 1073741824) (hown : w.ownsRow base 5 1 v n xs) (h0 : 65536 ≤ r) (h1 : r ≤ 1114111) :
  Calls Tryz.prog 323 #[v, .int .i32 r] w fun e w' => ∃ v', e = .returned v' ∧ w'.ownsRow base 5 1 v' (n + 4) (xs ++ ([240 + r / 262144, 128 + r / 4096 % 64, 128 + r / 64 % 64, 128 + r % 64]).map (Value.int .u8)) ∧ (∃ o, (w.alloc o).grownBy w' v.ownBlock) := by
 obtain ⟨i0, hi, hz0, hz1, hz2⟩ := info_parts zbI
 go_enter Tryz.func323, Tryz.ntmps323
 go_wp2_with (at_builtin; go_must (refine wpList_append_own _ rfl _ _ 25 rfl base 5 i0 (.int .u8 0) 1 1 Tryz.underlying25 hi hz0 hz1 hz2 rfl (by decide) _ _ _ rfl (hown.alloc _) ⟨w.heap.size, 0, none⟩ 4 4 (([240 + r / 262144, 128 + r / 4096 % 64, 128 + r / 64 % 64, 128 + r % 64]).map (Value.int .u8)) rfl rfl (zal _ _) (ints_oneCell _ _) ?_ ?_ ?_ ?_))
 ·unfold maxLen; omega
 ·omega
 ·first | omega | (simp; omega)
 ·intro v' w2 hown' hgrow _
  go_wp2
  go_ret
  exact ⟨_, rfl, hown', ⟨_, hgrow⟩⟩
theorem ziD (base : Nat) (v : Value) (n : Nat) (xs : List Value) (r : Int) (w : World) (hb : base ≤ w.heap.size) (hn : n ≤ 1073741824) (hown : w.ownsRow base 5 1 v n xs) (h0 : 55296 ≤ r) (h1 : r ≤ 57343) :
  Calls Tryz.prog 323 #[v, .int .i32 r] w fun e w' => ∃ v', e = .returned v' ∧ w'.ownsRow base 5 1 v' (n + 3) (xs ++ ([239, 191, 189]).map (Value.int .u8)) ∧ (∃ o, (w.alloc o).grownBy w' v.ownBlock) := by
 obtain ⟨i0, hi, hz0, hz1, hz2⟩ := info_parts zbI
 go_enter Tryz.func323, Tryz.ntmps323
 go_wp2_with (at_builtin; go_must (refine wpList_append_own _ rfl _ _ 25 rfl base 5 i0 (.int .u8 0) 1 1 Tryz.underlying25 hi hz0 hz1 hz2 rfl (by decide) _ _ _ rfl (hown.alloc _) ⟨w.heap.size, 0, none⟩ 3 3 (([239, 191, 189]).map (Value.int .u8)) rfl rfl (zal _ _) (ints_oneCell _ _) ?_ ?_ ?_ ?_))
 ·unfold maxLen; omega
 ·omega
 ·first | omega | (simp; omega)
 ·intro v' w2 hown' hgrow _
  go_wp2
  go_ret
  exact ⟨_, rfl, hown', ⟨_, hgrow⟩⟩
theorem zin (base : Nat) (v : Value) (n : Nat) (xs : List Value) (r : Int) (w : World) (hb : base ≤ w.heap.size) (hn : n ≤ 1073741824) (hown : w.ownsRow base 5 1 v n xs) (h0 : 1114111 < r) (h1 : r ≤ 2147483647) :
  Calls Tryz.prog 323 #[v, .int .i32 r] w fun e w' => ∃ v', e = .returned v' ∧ w'.ownsRow base 5 1 v' (n + 3) (xs ++ ([239, 191, 189]).map (Value.int .u8)) ∧ (∃ o, (w.alloc o).grownBy w' v.ownBlock) := by
 obtain ⟨i0, hi, hz0, hz1, hz2⟩ := info_parts zbI
 go_enter Tryz.func323, Tryz.ntmps323
 go_wp2_with (at_builtin; go_must (refine wpList_append_own _ rfl _ _ 25 rfl base 5 i0 (.int .u8 0) 1 1 Tryz.underlying25 hi hz0 hz1 hz2 rfl (by decide) _ _ _ rfl (hown.alloc _) ⟨w.heap.size, 0, none⟩ 3 3 (([239, 191, 189]).map (Value.int .u8)) rfl rfl (zal _ _) (ints_oneCell _ _) ?_ ?_ ?_ ?_))
 ·unfold maxLen; omega
 ·omega
 ·first | omega | (simp; omega)
 ·intro v' w2 hown' hgrow _
  go_wp2
  go_ret
  exact ⟨_, rfl, hown', ⟨_, hgrow⟩⟩
theorem ziT (base : Nat) (v : Value) (n : Nat) (xs : List Value) (r : Int) (w : World) (hb : base ≤ w.heap.size) (hn : n ≤ 1073741824) (hown : w.ownsRow base 5 1 v n xs) (h0 : r < 0) (h1 : -2147483648 ≤ r) :
  Calls Tryz.prog 323 #[v, .int .i32 r] w fun e w' => ∃ v', e = .returned v' ∧ w'.ownsRow base 5 1 v' (n + 3) (xs ++ ([239, 191, 189]).map (Value.int .u8)) ∧ (∃ o, (w.alloc o).grownBy w' v.ownBlock) := by
 obtain ⟨i0, hi, hz0, hz1, hz2⟩ := info_parts zbI
 go_enter Tryz.func323, Tryz.ntmps323
 go_wp2_with (at_builtin; go_must (refine wpList_append_own _ rfl _ _ 25 rfl base 5 i0 (.int .u8 0) 1 1 Tryz.underlying25 hi hz0 hz1 hz2 rfl (by decide) _ _ _ rfl (hown.alloc _) ⟨w.heap.size, 0, none⟩ 3 3 (([239, 191, 189]).map (Value.int .u8)) rfl rfl (zal _ _) (ints_oneCell _ _) ?_ ?_ ?_ ?_))
 ·unfold maxLen; omega
 ·omega
 ·first | omega | (simp; omega)
 ·intro v' w2 hown' hgrow _
  go_wp2
  go_ret
  exact ⟨_, rfl, hown', ⟨_, hgrow⟩⟩
theorem zie (base : Nat) (v : Value) (n : Nat) (xs : List Value) (r : Int) (w : World) (hb : base ≤ w.heap.size) (hn : n ≤ 1073741824) (hown : w.ownsRow base 5 1 v n xs) (h0 : -2147483648 ≤ r) (h1 : r ≤ 2147483647) (hA : ¬ (0 ≤ r ∧ r ≤ 127)) :
  Calls Tryz.prog 323 #[v, .int .i32 r] w fun e w' => ∃ v', e = .returned v' ∧ w'.ownsRow base 5 1 v' (n + (za9 r).length) (xs ++ (za9 r).map (Value.int .u8)) ∧ (∃ o, (w.alloc o).grownBy w' v.ownBlock) := by
 rcases (show r < 0 ∨ (128 ≤ r ∧ r ≤ 2047) ∨ (2048 ≤ r ∧ r < 55296) ∨ (55296 ≤ r ∧ r ≤ 57343) ∨ (57343 < r ∧ r ≤ 65535) ∨ (65536 ≤ r ∧ r ≤ 1114111) ∨ 1114111 < r by omega) with h | h | h | h | h | h | h
 ·rw [zha (by omega)]; exact ziT base v n xs r w hb hn hown h h0
 ·rw [zjo h.1 h.2]; exact ziF base v n xs r w hb hn hown h.1 h.2
 ·rw [zez (.inl h)]; exact zjs base v n xs r w hb hn hown h.1 h.2
 ·rw [zha (by omega)]; exact ziD base v n xs r w hb hn hown h.1 h.2
 ·rw [zez (.inr h)]; exact zjG base v n xs r w hb hn hown h.1 h.2
 ·rw [zhV h.1 h.2]; exact zhJ base v n xs r w hb hn hown h.1 h.2
 ·rw [zha (by omega)]; exact zin base v n xs r w hb hn hown h h1
theorem zg2 (base : Nat) (v : Value) (n : Nat) (xs : List Value) (r : Int) (w : World) (hb : base ≤ w.heap.size) (hn : n ≤ 1073741824) (hown : w.ownsRow base 5 1 v n xs) (h0 : -2147483648 ≤ r) (h1 : r ≤ 2147483647) :
  Calls Tryz.prog 296 #[v, .int .i32 r] w fun e w' => ∃ v', e = .returned v' ∧ w'.ownsRow base 5 1 v' (n + (za9 r).length) (xs ++ (za9 r).map (Value.int .u8)) ∧ (∃ o, (w.alloc o).grownBy w' v.ownBlock) := by
 by_cases hA : 0 ≤ r ∧ r ≤ 127
 ·rw [zjb hA.1 hA.2]; exact zgW base v n xs r w hb hn hown hA.1 hA.2
 ·have hc := zi (zie base v n xs r w hb hn hown h0 h1 hA)
  rcases (show r < 0 ∨ 128 ≤ r by omega) with h | h
  all_goals
   go_enter Tryz.func296, Tryz.ntmps296
   go_wp2_with fail
   refine (zg hc).mono ?_
   rintro e w1 ⟨v', rfl, h2, h3⟩
   go_wp2
   go_ret
   exact ⟨_, rfl, h2, h3⟩
end Go.Proofs.YtmlkpdbfnffoaaaGreatDoor
