import Derived.Test.YtmlkpdbfnffoaaaGreatDoorBlocks
import Derived.Test.YtmlkpdbfnffoaaaGreatDoorProg
namespace Go.Proofs.YtmlkpdbfnffoaaaGreatDoor
open Go.RowKit
set_option maxHeartbeats 1000000
set_option maxRecDepth 10000
def zbc (r : Int) : List Int := if Utf8.valid r = true then zbr r else [239, 191, 189]
theorem ze1 (r : Int) : (zbc r).length ≤ 4 := by
 unfold zbc zbr
 (repeat' split) <;> simp
theorem zdD (r : Int) : zak (zbc r) := by
 unfold zbc
 split
 ·rename_i h
  have := zcN h
  exact zgZ r this.1 (by omega)
 ·intro n hn; simp at hn; omega
theorem zan {w : World} (zs : List Value) (t : TypeId) : ∀ j u, zs[j]? = some u → (w.alloc (.cells zs.toArray t)).cell? ((⟨w.heap.size, 0, none⟩ : Addr).add j) = some u := by
 intro j u h
 rw [Addr.add_lit, Nat.zero_add, World.cell?_alloc_at _ _ _ _ rfl]
 simpa using h
theorem zbS : (Tryz.prog.info? 5).map (fun i => (i.zero, i.size, i.bytes)) = some (some (.int .u8 0), 1, 1) := by kernel_rfl
theorem zjR {r : Int} (h0 : 0 ≤ r) (h1 : r ≤ 127) : zbc r = [r] := by
 rw [zbc, if_pos (by simp [Utf8.valid]; omega), zbr, if_pos (by omega)]
theorem zjl {r : Int} (h0 : 128 ≤ r) (h1 : r ≤ 2047) : zbc r = [192 + r / 64, 128 + r % 64] := by
 rw [zbc, if_pos (by simp [Utf8.valid]; omega), zbr, if_neg (by omega), if_pos (by omega)]
theorem zeH {r : Int} (h : (2048 ≤ r ∧ r < 55296) ∨ (57343 < r ∧ r ≤ 65535)) : zbc r = [224 + r / 4096, 128 + r / 64 % 64, 128 + r % 64] := by
 rw [zbc, if_pos (by simp [Utf8.valid]; omega), zbr, if_neg (by omega), if_neg (by omega), if_pos (by omega)]
theorem zh2 {r : Int} (h0 : 65536 ≤ r) (h1 : r ≤ 1114111) : zbc r = [240 + r / 262144, 128 + r / 4096 % 64, 128 + r / 64 % 64, 128 + r % 64] := by
 rw [zbc, if_pos (by simp [Utf8.valid]; omega), zbr, if_neg (by omega), if_neg (by omega), if_neg (by omega)]
theorem zgQ {r : Int} (h : r < 0 ∨ (55296 ≤ r ∧ r ≤ 57343) ∨ 1114111 < r) : zbc r = [239, 191, 189] := by
 rw [zbc, if_neg (by simp [Utf8.valid]; omega)]
theorem zhc (base : Nat) (v : Value) (n : Nat) (xs : List Value) (r : Int) (w : World) (hb : base ≤ w.heap.size) (hn : n ≤ 1073741824) (hown : w.ownsRow base 5 1 v n xs) (h0 : 0 ≤ r) (h1 : r ≤ 127) :
  zp Tryz.prog 296 #[v, .int .i32 r] w fun e w' => ∃ v', e = .returned v' ∧ w'.ownsRow base 5 1 v' (n + 1) (xs ++ ([r]).map (Value.int .u8)) ∧ (∃ o, (w.alloc o).grownBy w' v.ownBlock) := by
 obtain ⟨i0, hi, hz0, hz1, hz2⟩ := info_parts zbS
 go_enter Tryz.func296, Tryz.ntmps296
 go_wp2_with (at_builtin; go_must (refine wpList_append_own _ rfl _ _ 25 rfl base 5 i0 (.int .u8 0) 1 1 Tryz.underlying25 hi hz0 hz1 hz2 rfl (by decide) _ _ _ rfl (hown.alloc _) ⟨w.heap.size, 0, none⟩ 1 1 (([r]).map (Value.int .u8)) rfl rfl (zan _ _) (ints_oneCell _ _) ?_ ?_ ?_ ?_))
 ·unfold maxLen; omega
 ·omega
 ·first | omega | (simp; omega)
 ·intro v' w2 hown' hgrow _
  go_wp2
  go_ret
  exact ⟨_, rfl, hown', ⟨_, hgrow⟩⟩
theorem ziw (base : Nat) (v : Value) (n : Nat) (xs : List Value) (r : Int) (w : World) (hb : base ≤ w.heap.size) (hn : n ≤ 1073741824) (hown : w.ownsRow base 5 1 v n xs) (h0 : 128 ≤ r) (h1 : r ≤ 2047) :
  zp Tryz.prog 323 #[v, .int .i32 r] w fun e w' => ∃ v', e = .returned v' ∧ w'.ownsRow base 5 1 v' (n + 2) (xs ++ ([192 + r / 64, 128 + r % 64]).map (Value.int .u8)) ∧ (∃ o, (w.alloc o).grownBy w' v.ownBlock) := by
 obtain ⟨i0, hi, hz0, hz1, hz2⟩ := info_parts zbS
 go_enter Tryz.func323, Tryz.ntmps323
 go_wp2_with (at_builtin; go_must (refine wpList_append_own _ rfl _ _ 25 rfl base 5 i0 (.int .u8 0) 1 1 Tryz.underlying25 hi hz0 hz1 hz2 rfl (by decide) _ _ _ rfl (hown.alloc _) ⟨w.heap.size, 0, none⟩ 2 2 (([192 + r / 64, 128 + r % 64]).map (Value.int .u8)) rfl rfl (zan _ _) (ints_oneCell _ _) ?_ ?_ ?_ ?_))
 ·unfold maxLen; omega
 ·omega
 ·first | omega | (simp; omega)
 ·intro v' w2 hown' hgrow _
  go_wp2
  go_ret
  exact ⟨_, rfl, hown', ⟨_, hgrow⟩⟩
theorem zjY (base : Nat) (v : Value) (n : Nat) (xs : List Value) (r : Int) (w : World) (hb : base ≤ w.heap.size) (hn : n ≤ 1073741824) (hown : w.ownsRow base 5 1 v n xs) (h0 : 2048 ≤ r) (h1 : r < 55296) :
  zp Tryz.prog 323 #[v, .int .i32 r] w fun e w' => ∃ v', e = .returned v' ∧ w'.ownsRow base 5 1 v' (n + 3) (xs ++ ([224 + r / 4096, 128 + r / 64 % 64, 128 + r % 64]).map (Value.int .u8)) ∧ (∃ o, (w.alloc o).grownBy w' v.ownBlock) := by
 obtain ⟨i0, hi, hz0, hz1, hz2⟩ := info_parts zbS
 go_enter Tryz.func323, Tryz.ntmps323
 go_wp2_with (at_builtin; go_must (refine wpList_append_own _ rfl _ _ 25 rfl base 5 i0 (.int .u8 0) 1 1 Tryz.underlying25 hi hz0 hz1 hz2 rfl (by decide) _ _ _ rfl (hown.alloc _) ⟨w.heap.size, 0, none⟩ 3 3 (([224 + r / 4096, 128 + r / 64 % 64, 128 + r % 64]).map (Value.int .u8)) rfl rfl (zan _ _) (ints_oneCell _ _) ?_ ?_ ?_ ?_))
 ·unfold maxLen; omega
 ·omega
 ·first | omega | (simp; omega)
 ·intro v' w2 hown' hgrow _
  go_wp2
  go_ret
  exact ⟨_, rfl, hown', ⟨_, hgrow⟩⟩
theorem zjg (base : Nat) (v : Value) (n : Nat) (xs : List Value) (r : Int) (w : World) (hb : base ≤ w.heap.size) (hn : n ≤ 1073741824) (hown : w.ownsRow base 5 1 v n xs) (h0 : 57343 < r) (h1 : r ≤ 65535) :
  zp Tryz.prog 323 #[v, .int .i32 r] w fun e w' => ∃ v', e = .returned v' ∧ w'.ownsRow base 5 1 v' (n + 3) (xs ++ ([224 + r / 4096, 128 + r / 64 % 64, 128 + r % 64]).map (Value.int .u8)) ∧ (∃ o, (w.alloc o).grownBy w' v.ownBlock) := by
 obtain ⟨i0, hi, hz0, hz1, hz2⟩ := info_parts zbS
 go_enter Tryz.func323, Tryz.ntmps323
 go_wp2_with (at_builtin; go_must (refine wpList_append_own _ rfl _ _ 25 rfl base 5 i0 (.int .u8 0) 1 1 Tryz.underlying25 hi hz0 hz1 hz2 rfl (by decide) _ _ _ rfl (hown.alloc _) ⟨w.heap.size, 0, none⟩ 3 3 (([224 + r / 4096, 128 + r / 64 % 64, 128 + r % 64]).map (Value.int .u8)) rfl rfl (zan _ _) (ints_oneCell _ _) ?_ ?_ ?_ ?_))
 ·unfold maxLen; omega
 ·omega
 ·first | omega | (simp; omega)
 ·intro v' w2 hown' hgrow _
  go_wp2
  go_ret
  exact ⟨_, rfl, hown', ⟨_, hgrow⟩⟩
theorem zhy (base : Nat) (v : Value) (n : Nat) (xs : List Value) (r : Int) (w : World) (hb : base ≤ w.heap.size) (hn : n ≤ 1073741824) (hown : w.ownsRow base 5 1 v n xs) (h0 : 65536 ≤ r) (h1 : r ≤ 1114111) :
  zp Tryz.prog 323 #[v, .int .i32 r] w fun e w' => ∃ v', e = .returned v' ∧ w'.ownsRow base 5 1 v' (n + 4) (xs ++ ([240 + r / 262144, 128 + r / 4096 % 64, 128 + r / 64 % 64, 128 + r % 64]).map (Value.int .u8)) ∧ (∃ o, (w.alloc o).grownBy w' v.ownBlock) := by
 obtain ⟨i0, hi, hz0, hz1, hz2⟩ := info_parts zbS
 go_enter Tryz.func323, Tryz.ntmps323
 go_wp2_with (at_builtin; go_must (refine wpList_append_own _ rfl _ _ 25 rfl base 5 i0 (.int .u8 0) 1 1 Tryz.underlying25 hi hz0 hz1 hz2 rfl (by decide) _ _ _ rfl (hown.alloc _) ⟨w.heap.size, 0, none⟩ 4 4 (([240 + r / 262144, 128 + r / 4096 % 64, 128 + r / 64 % 64, 128 + r % 64]).map (Value.int .u8)) rfl rfl (zan _ _) (ints_oneCell _ _) ?_ ?_ ?_ ?_))
 ·unfold maxLen; omega
 ·omega
 ·first | omega | (simp; omega)
 ·intro v' w2 hown' hgrow _
  go_wp2
  go_ret
  exact ⟨_, rfl, hown', ⟨_, hgrow⟩⟩
theorem ziy (base : Nat) (v : Value) (n : Nat) (xs : List Value) (r : Int) (w : World) (hb : base ≤ w.heap.size) (hn : n ≤ 1073741824) (hown : w.ownsRow base 5 1 v n xs) (h0 : 55296 ≤ r) (h1 : r ≤ 57343) :
  zp Tryz.prog 323 #[v, .int .i32 r] w fun e w' => ∃ v', e = .returned v' ∧ w'.ownsRow base 5 1 v' (n + 3) (xs ++ ([239, 191, 189]).map (Value.int .u8)) ∧ (∃ o, (w.alloc o).grownBy w' v.ownBlock) := by
 obtain ⟨i0, hi, hz0, hz1, hz2⟩ := info_parts zbS
 go_enter Tryz.func323, Tryz.ntmps323
 go_wp2_with (at_builtin; go_must (refine wpList_append_own _ rfl _ _ 25 rfl base 5 i0 (.int .u8 0) 1 1 Tryz.underlying25 hi hz0 hz1 hz2 rfl (by decide) _ _ _ rfl (hown.alloc _) ⟨w.heap.size, 0, none⟩ 3 3 (([239, 191, 189]).map (Value.int .u8)) rfl rfl (zan _ _) (ints_oneCell _ _) ?_ ?_ ?_ ?_))
 ·unfold maxLen; omega
 ·omega
 ·first | omega | (simp; omega)
 ·intro v' w2 hown' hgrow _
  go_wp2
  go_ret
  exact ⟨_, rfl, hown', ⟨_, hgrow⟩⟩
theorem ziO (base : Nat) (v : Value) (n : Nat) (xs : List Value) (r : Int) (w : World) (hb : base ≤ w.heap.size) (hn : n ≤ 1073741824) (hown : w.ownsRow base 5 1 v n xs) (h0 : 1114111 < r) (h1 : r ≤ 2147483647) :
  zp Tryz.prog 323 #[v, .int .i32 r] w fun e w' => ∃ v', e = .returned v' ∧ w'.ownsRow base 5 1 v' (n + 3) (xs ++ ([239, 191, 189]).map (Value.int .u8)) ∧ (∃ o, (w.alloc o).grownBy w' v.ownBlock) := by
 obtain ⟨i0, hi, hz0, hz1, hz2⟩ := info_parts zbS
 go_enter Tryz.func323, Tryz.ntmps323
 go_wp2_with (at_builtin; go_must (refine wpList_append_own _ rfl _ _ 25 rfl base 5 i0 (.int .u8 0) 1 1 Tryz.underlying25 hi hz0 hz1 hz2 rfl (by decide) _ _ _ rfl (hown.alloc _) ⟨w.heap.size, 0, none⟩ 3 3 (([239, 191, 189]).map (Value.int .u8)) rfl rfl (zan _ _) (ints_oneCell _ _) ?_ ?_ ?_ ?_))
 ·unfold maxLen; omega
 ·omega
 ·first | omega | (simp; omega)
 ·intro v' w2 hown' hgrow _
  go_wp2
  go_ret
  exact ⟨_, rfl, hown', ⟨_, hgrow⟩⟩
theorem ziu (base : Nat) (v : Value) (n : Nat) (xs : List Value) (r : Int) (w : World) (hb : base ≤ w.heap.size) (hn : n ≤ 1073741824) (hown : w.ownsRow base 5 1 v n xs) (h0 : r < 0) (h1 : -2147483648 ≤ r) :
  zp Tryz.prog 323 #[v, .int .i32 r] w fun e w' => ∃ v', e = .returned v' ∧ w'.ownsRow base 5 1 v' (n + 3) (xs ++ ([239, 191, 189]).map (Value.int .u8)) ∧ (∃ o, (w.alloc o).grownBy w' v.ownBlock) := by
 obtain ⟨i0, hi, hz0, hz1, hz2⟩ := info_parts zbS
 go_enter Tryz.func323, Tryz.ntmps323
 go_wp2_with (at_builtin; go_must (refine wpList_append_own _ rfl _ _ 25 rfl base 5 i0 (.int .u8 0) 1 1 Tryz.underlying25 hi hz0 hz1 hz2 rfl (by decide) _ _ _ rfl (hown.alloc _) ⟨w.heap.size, 0, none⟩ 3 3 (([239, 191, 189]).map (Value.int .u8)) rfl rfl (zan _ _) (ints_oneCell _ _) ?_ ?_ ?_ ?_))
 ·unfold maxLen; omega
 ·omega
 ·first | omega | (simp; omega)
 ·intro v' w2 hown' hgrow _
  go_wp2
  go_ret
  exact ⟨_, rfl, hown', ⟨_, hgrow⟩⟩
theorem ziM (base : Nat) (v : Value) (n : Nat) (xs : List Value) (r : Int) (w : World) (hb : base ≤ w.heap.size) (hn : n ≤ 1073741824) (hown : w.ownsRow base 5 1 v n xs) (h0 : -2147483648 ≤ r) (h1 : r ≤ 2147483647) (hA : ¬ (0 ≤ r ∧ r ≤ 127)) :
  zp Tryz.prog 323 #[v, .int .i32 r] w fun e w' => ∃ v', e = .returned v' ∧ w'.ownsRow base 5 1 v' (n + (zbc r).length) (xs ++ (zbc r).map (Value.int .u8)) ∧ (∃ o, (w.alloc o).grownBy w' v.ownBlock) := by
 rcases (show r < 0 ∨ (128 ≤ r ∧ r ≤ 2047) ∨ (2048 ≤ r ∧ r < 55296) ∨ (55296 ≤ r ∧ r ≤ 57343) ∨ (57343 < r ∧ r ≤ 65535) ∨ (65536 ≤ r ∧ r ≤ 1114111) ∨ 1114111 < r by omega) with h | h | h | h | h | h | h
 ·rw [zgQ (by omega)]; exact ziu base v n xs r w hb hn hown h h0
 ·rw [zjl h.1 h.2]; exact ziw base v n xs r w hb hn hown h.1 h.2
 ·rw [zeH (.inl h)]; exact zjY base v n xs r w hb hn hown h.1 h.2
 ·rw [zgQ (by omega)]; exact ziy base v n xs r w hb hn hown h.1 h.2
 ·rw [zeH (.inr h)]; exact zjg base v n xs r w hb hn hown h.1 h.2
 ·rw [zh2 h.1 h.2]; exact zhy base v n xs r w hb hn hown h.1 h.2
 ·rw [zgQ (by omega)]; exact ziO base v n xs r w hb hn hown h h1
theorem zgR (base : Nat) (v : Value) (n : Nat) (xs : List Value) (r : Int) (w : World) (hb : base ≤ w.heap.size) (hn : n ≤ 1073741824) (hown : w.ownsRow base 5 1 v n xs) (h0 : -2147483648 ≤ r) (h1 : r ≤ 2147483647) :
  zp Tryz.prog 296 #[v, .int .i32 r] w fun e w' => ∃ v', e = .returned v' ∧ w'.ownsRow base 5 1 v' (n + (zbc r).length) (xs ++ (zbc r).map (Value.int .u8)) ∧ (∃ o, (w.alloc o).grownBy w' v.ownBlock) := by
 by_cases hA : 0 ≤ r ∧ r ≤ 127
 ·rw [zjR hA.1 hA.2]; exact zhc base v n xs r w hb hn hown hA.1 hA.2
 ·have hc := zi (ziM base v n xs r w hb hn hown h0 h1 hA)
  rcases (show r < 0 ∨ 128 ≤ r by omega) with h | h
  all_goals
   go_enter Tryz.func296, Tryz.ntmps296
   go_wp2_with fail
   refine (zg hc).mono ?_
   rintro e w1 ⟨v', rfl, h2, h3⟩
   go_wp2
   go_ret
   exact ⟨_, rfl, h2, h3⟩
end Go.Proofs.YtmlkpdbfnffoaaaGreatDoor
