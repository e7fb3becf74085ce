import Derived.Test.YtmomcccgjjjldaaDoorUtf
import Derived.Test.YtmomcccgjjjldaaDoorProg
namespace Go.Proofs.YtmomcccgjjjldaaDoor
open Go.RowKit
def encR (r : Int) : List Int := if Utf8.valid r = true then encL r else [239, 191, 189]
theorem encR_len (r : Int) : (encR r).length ≤ 4 := by
  unfold encR encL
  (repeat' split) <;> simp
theorem encR_bytes (r : Int) : Bytes (encR r) := by
  unfold encR
  split
  · rename_i h
    have := valid_bd h
    exact encL_bytes r this.1 (by omega)
  · intro n hn; simp at hn; omega
theorem news_cells {w : World} (zs : List Value) (t : TypeId) : ∀ j u, zs[j]? = some u → (w.alloc (.cells zs.toArray t)).cell? ((⟨w.heap.size, 0, none⟩ : Addr).add j) = some u := by
  intro j u h
  rw [Addr.add_lit, Nat.zero_add, World.cell?_alloc_at _ _ _ _ rfl]
  simpa using h
theorem infoByteA : (Tryd.prog.info? 5).map (fun i => (i.zero, i.size, i.bytes)) = some (some (.int .u8 0), 1, 1) := by kernel_rfl
theorem encR_one {r : Int} (h0 : 0 ≤ r) (h1 : r ≤ 127) : encR r = [r] := by
  rw [encR, if_pos (by simp [Utf8.valid]; omega), encL, if_pos (by omega)]
theorem encR_two {r : Int} (h0 : 128 ≤ r) (h1 : r ≤ 2047) : encR r = [192 + r / 64, 128 + r % 64] := by
  rw [encR, if_pos (by simp [Utf8.valid]; omega), encL, if_neg (by omega), if_pos (by omega)]
theorem encR_three {r : Int} (h : (2048 ≤ r ∧ r < 55296) ∨ (57343 < r ∧ r ≤ 65535)) : encR r = [224 + r / 4096, 128 + r / 64 % 64, 128 + r % 64] := by
  rw [encR, if_pos (by simp [Utf8.valid]; omega), encL, if_neg (by omega), if_neg (by omega), if_pos (by omega)]
theorem encR_four {r : Int} (h0 : 65536 ≤ r) (h1 : r ≤ 1114111) : encR r = [240 + r / 262144, 128 + r / 4096 % 64, 128 + r / 64 % 64, 128 + r % 64] := by
  rw [encR, if_pos (by simp [Utf8.valid]; omega), encL, if_neg (by omega), if_neg (by omega), if_neg (by omega)]
theorem encR_bad {r : Int} (h : r < 0 ∨ (55296 ≤ r ∧ r ≤ 57343) ∨ 1114111 < r) : encR r = [239, 191, 189] := by
  rw [encR, if_neg (by simp [Utf8.valid]; omega)]
set_option maxRecDepth 10000 in
set_option maxHeartbeats 1000000 in
theorem AppendRune_one (base : Nat) (v : Value) (n : Nat) (xs : List Value) (r : Int) (w : World) (hb : base ≤ w.heap.size) (hn : n ≤ 1073741824) (hown : w.ownsRow base 5 1 v n xs) (h0 : 0 ≤ r) (h1 : r ≤ 127) :
    Calls Tryd.prog 22 #[v, .int .i32 r] w fun e w' => ∃ v', e = .returned v' ∧ w'.ownsRow base 5 1 v' (n + 1) (xs ++ ([r]).map (Value.int .u8)) ∧ (∃ o, (w.alloc o).grownBy w' v.ownBlock) := by
  obtain ⟨i0, hi, hz0, hz1, hz2⟩ := info_parts infoByteA
  go_enter Tryd.func22, Tryd.ntmps22
  go_wp2_with (at_builtin; go_must (refine wpList_append_own _ rfl _ _ 22 rfl base 5 i0 (.int .u8 0) 1 1 Tryd.underlying22 hi hz0 hz1 hz2 rfl (by decide) _ _ _ rfl (hown.alloc _) ⟨w.heap.size, 0, none⟩ 1 1 (([r]).map (Value.int .u8)) rfl rfl (news_cells _ _) (ints_oneCell _ _) ?_ ?_ ?_ ?_))
  · unfold maxLen; omega
  · omega
  · first | omega | (simp; omega)
  · intro v' w2 hown' hgrow _
    go_wp2
    go_ret
    exact ⟨_, rfl, hown', ⟨_, hgrow⟩⟩
set_option maxRecDepth 10000 in
set_option maxHeartbeats 1000000 in
theorem NonASCII_two (base : Nat) (v : Value) (n : Nat) (xs : List Value) (r : Int) (w : World) (hb : base ≤ w.heap.size) (hn : n ≤ 1073741824) (hown : w.ownsRow base 5 1 v n xs) (h0 : 128 ≤ r) (h1 : r ≤ 2047) :
    Calls Tryd.prog 31 #[v, .int .i32 r] w fun e w' => ∃ v', e = .returned v' ∧ w'.ownsRow base 5 1 v' (n + 2) (xs ++ ([192 + r / 64, 128 + r % 64]).map (Value.int .u8)) ∧ (∃ o, (w.alloc o).grownBy w' v.ownBlock) := by
  obtain ⟨i0, hi, hz0, hz1, hz2⟩ := info_parts infoByteA
  go_enter Tryd.func31, Tryd.ntmps31
  go_wp2_with (at_builtin; go_must (refine wpList_append_own _ rfl _ _ 22 rfl base 5 i0 (.int .u8 0) 1 1 Tryd.underlying22 hi hz0 hz1 hz2 rfl (by decide) _ _ _ rfl (hown.alloc _) ⟨w.heap.size, 0, none⟩ 2 2 (([192 + r / 64, 128 + r % 64]).map (Value.int .u8)) rfl rfl (news_cells _ _) (ints_oneCell _ _) ?_ ?_ ?_ ?_))
  · unfold maxLen; omega
  · omega
  · first | omega | (simp; omega)
  · intro v' w2 hown' hgrow _
    go_wp2
    go_ret
    exact ⟨_, rfl, hown', ⟨_, hgrow⟩⟩
set_option maxRecDepth 10000 in
set_option maxHeartbeats 1000000 in
theorem NonASCII_lo (base : Nat) (v : Value) (n : Nat) (xs : List Value) (r : Int) (w : World) (hb : base ≤ w.heap.size) (hn : n ≤ 1073741824) (hown : w.ownsRow base 5 1 v n xs) (h0 : 2048 ≤ r) (h1 : r < 55296) :
    Calls Tryd.prog 31 #[v, .int .i32 r] w fun e w' => ∃ v', e = .returned v' ∧ w'.ownsRow base 5 1 v' (n + 3) (xs ++ ([224 + r / 4096, 128 + r / 64 % 64, 128 + r % 64]).map (Value.int .u8)) ∧ (∃ o, (w.alloc o).grownBy w' v.ownBlock) := by
  obtain ⟨i0, hi, hz0, hz1, hz2⟩ := info_parts infoByteA
  go_enter Tryd.func31, Tryd.ntmps31
  go_wp2_with (at_builtin; go_must (refine wpList_append_own _ rfl _ _ 22 rfl base 5 i0 (.int .u8 0) 1 1 Tryd.underlying22 hi hz0 hz1 hz2 rfl (by decide) _ _ _ rfl (hown.alloc _) ⟨w.heap.size, 0, none⟩ 3 3 (([224 + r / 4096, 128 + r / 64 % 64, 128 + r % 64]).map (Value.int .u8)) rfl rfl (news_cells _ _) (ints_oneCell _ _) ?_ ?_ ?_ ?_))
  · unfold maxLen; omega
  · omega
  · first | omega | (simp; omega)
  · intro v' w2 hown' hgrow _
    go_wp2
    go_ret
    exact ⟨_, rfl, hown', ⟨_, hgrow⟩⟩
set_option maxRecDepth 10000 in
set_option maxHeartbeats 1000000 in
theorem NonASCII_hi (base : Nat) (v : Value) (n : Nat) (xs : List Value) (r : Int) (w : World) (hb : base ≤ w.heap.size) (hn : n ≤ 1073741824) (hown : w.ownsRow base 5 1 v n xs) (h0 : 57343 < r) (h1 : r ≤ 65535) :
    Calls Tryd.prog 31 #[v, .int .i32 r] w fun e w' => ∃ v', e = .returned v' ∧ w'.ownsRow base 5 1 v' (n + 3) (xs ++ ([224 + r / 4096, 128 + r / 64 % 64, 128 + r % 64]).map (Value.int .u8)) ∧ (∃ o, (w.alloc o).grownBy w' v.ownBlock) := by
  obtain ⟨i0, hi, hz0, hz1, hz2⟩ := info_parts infoByteA
  go_enter Tryd.func31, Tryd.ntmps31
  go_wp2_with (at_builtin; go_must (refine wpList_append_own _ rfl _ _ 22 rfl base 5 i0 (.int .u8 0) 1 1 Tryd.underlying22 hi hz0 hz1 hz2 rfl (by decide) _ _ _ rfl (hown.alloc _) ⟨w.heap.size, 0, none⟩ 3 3 (([224 + r / 4096, 128 + r / 64 % 64, 128 + r % 64]).map (Value.int .u8)) rfl rfl (news_cells _ _) (ints_oneCell _ _) ?_ ?_ ?_ ?_))
  · unfold maxLen; omega
  · omega
  · first | omega | (simp; omega)
  · intro v' w2 hown' hgrow _
    go_wp2
    go_ret
    exact ⟨_, rfl, hown', ⟨_, hgrow⟩⟩
set_option maxRecDepth 10000 in
set_option maxHeartbeats 1000000 in
theorem NonASCII_four (base : Nat) (v : Value) (n : Nat) (xs : List Value) (r : Int) (w : World) (hb : base ≤ w.heap.size) (hn : n ≤ 1073741824) (hown : w.ownsRow base 5 1 v n xs) (h0 : 65536 ≤ r) (h1 : r ≤ 1114111) :
    Calls Tryd.prog 31 #[v, .int .i32 r] w fun e w' => ∃ v', e = .returned v' ∧ w'.ownsRow base 5 1 v' (n + 4) (xs ++ ([240 + r / 262144, 128 + r / 4096 % 64, 128 + r / 64 % 64, 128 + r % 64]).map (Value.int .u8)) ∧ (∃ o, (w.alloc o).grownBy w' v.ownBlock) := by
  obtain ⟨i0, hi, hz0, hz1, hz2⟩ := info_parts infoByteA
  go_enter Tryd.func31, Tryd.ntmps31
  go_wp2_with (at_builtin; go_must (refine wpList_append_own _ rfl _ _ 22 rfl base 5 i0 (.int .u8 0) 1 1 Tryd.underlying22 hi hz0 hz1 hz2 rfl (by decide) _ _ _ rfl (hown.alloc _) ⟨w.heap.size, 0, none⟩ 4 4 (([240 + r / 262144, 128 + r / 4096 % 64, 128 + r / 64 % 64, 128 + r % 64]).map (Value.int .u8)) rfl rfl (news_cells _ _) (ints_oneCell _ _) ?_ ?_ ?_ ?_))
  · unfold maxLen; omega
  · omega
  · first | omega | (simp; omega)
  · intro v' w2 hown' hgrow _
    go_wp2
    go_ret
    exact ⟨_, rfl, hown', ⟨_, hgrow⟩⟩
set_option maxRecDepth 10000 in
set_option maxHeartbeats 1000000 in
theorem NonASCII_sur (base : Nat) (v : Value) (n : Nat) (xs : List Value) (r : Int) (w : World) (hb : base ≤ w.heap.size) (hn : n ≤ 1073741824) (hown : w.ownsRow base 5 1 v n xs) (h0 : 55296 ≤ r) (h1 : r ≤ 57343) :
    Calls Tryd.prog 31 #[v, .int .i32 r] w fun e w' => ∃ v', e = .returned v' ∧ w'.ownsRow base 5 1 v' (n + 3) (xs ++ ([239, 191, 189]).map (Value.int .u8)) ∧ (∃ o, (w.alloc o).grownBy w' v.ownBlock) := by
  obtain ⟨i0, hi, hz0, hz1, hz2⟩ := info_parts infoByteA
  go_enter Tryd.func31, Tryd.ntmps31
  go_wp2_with (at_builtin; go_must (refine wpList_append_own _ rfl _ _ 22 rfl base 5 i0 (.int .u8 0) 1 1 Tryd.underlying22 hi hz0 hz1 hz2 rfl (by decide) _ _ _ rfl (hown.alloc _) ⟨w.heap.size, 0, none⟩ 3 3 (([239, 191, 189]).map (Value.int .u8)) rfl rfl (news_cells _ _) (ints_oneCell _ _) ?_ ?_ ?_ ?_))
  · unfold maxLen; omega
  · omega
  · first | omega | (simp; omega)
  · intro v' w2 hown' hgrow _
    go_wp2
    go_ret
    exact ⟨_, rfl, hown', ⟨_, hgrow⟩⟩
set_option maxRecDepth 10000 in
set_option maxHeartbeats 1000000 in
theorem NonASCII_far (base : Nat) (v : Value) (n : Nat) (xs : List Value) (r : Int) (w : World) (hb : base ≤ w.heap.size) (hn : n ≤ 1073741824) (hown : w.ownsRow base 5 1 v n xs) (h0 : 1114111 < r) (h1 : r ≤ 2147483647) :
    Calls Tryd.prog 31 #[v, .int .i32 r] w fun e w' => ∃ v', e = .returned v' ∧ w'.ownsRow base 5 1 v' (n + 3) (xs ++ ([239, 191, 189]).map (Value.int .u8)) ∧ (∃ o, (w.alloc o).grownBy w' v.ownBlock) := by
  obtain ⟨i0, hi, hz0, hz1, hz2⟩ := info_parts infoByteA
  go_enter Tryd.func31, Tryd.ntmps31
  go_wp2_with (at_builtin; go_must (refine wpList_append_own _ rfl _ _ 22 rfl base 5 i0 (.int .u8 0) 1 1 Tryd.underlying22 hi hz0 hz1 hz2 rfl (by decide) _ _ _ rfl (hown.alloc _) ⟨w.heap.size, 0, none⟩ 3 3 (([239, 191, 189]).map (Value.int .u8)) rfl rfl (news_cells _ _) (ints_oneCell _ _) ?_ ?_ ?_ ?_))
  · unfold maxLen; omega
  · omega
  · first | omega | (simp; omega)
  · intro v' w2 hown' hgrow _
    go_wp2
    go_ret
    exact ⟨_, rfl, hown', ⟨_, hgrow⟩⟩
set_option maxRecDepth 10000 in
set_option maxHeartbeats 1000000 in
theorem NonASCII_neg (base : Nat) (v : Value) (n : Nat) (xs : List Value) (r : Int) (w : World) (hb : base ≤ w.heap.size) (hn : n ≤ 1073741824) (hown : w.ownsRow base 5 1 v n xs) (h0 : r < 0) (h1 : -2147483648 ≤ r) :
    Calls Tryd.prog 31 #[v, .int .i32 r] w fun e w' => ∃ v', e = .returned v' ∧ w'.ownsRow base 5 1 v' (n + 3) (xs ++ ([239, 191, 189]).map (Value.int .u8)) ∧ (∃ o, (w.alloc o).grownBy w' v.ownBlock) := by
  obtain ⟨i0, hi, hz0, hz1, hz2⟩ := info_parts infoByteA
  go_enter Tryd.func31, Tryd.ntmps31
  go_wp2_with (at_builtin; go_must (refine wpList_append_own _ rfl _ _ 22 rfl base 5 i0 (.int .u8 0) 1 1 Tryd.underlying22 hi hz0 hz1 hz2 rfl (by decide) _ _ _ rfl (hown.alloc _) ⟨w.heap.size, 0, none⟩ 3 3 (([239, 191, 189]).map (Value.int .u8)) rfl rfl (news_cells _ _) (ints_oneCell _ _) ?_ ?_ ?_ ?_))
  · unfold maxLen; omega
  · omega
  · first | omega | (simp; omega)
  · intro v' w2 hown' hgrow _
    go_wp2
    go_ret
    exact ⟨_, rfl, hown', ⟨_, hgrow⟩⟩
set_option maxRecDepth 10000 in
theorem NonASCII_any (base : Nat) (v : Value) (n : Nat) (xs : List Value) (r : Int) (w : World) (hb : base ≤ w.heap.size) (hn : n ≤ 1073741824) (hown : w.ownsRow base 5 1 v n xs) (h0 : -2147483648 ≤ r) (h1 : r ≤ 2147483647) (hA : ¬ (0 ≤ r ∧ r ≤ 127)) :
    Calls Tryd.prog 31 #[v, .int .i32 r] w fun e w' => ∃ v', e = .returned v' ∧ w'.ownsRow base 5 1 v' (n + (encR r).length) (xs ++ (encR r).map (Value.int .u8)) ∧ (∃ o, (w.alloc o).grownBy w' v.ownBlock) := by
  rcases (show r < 0 ∨ (128 ≤ r ∧ r ≤ 2047) ∨ (2048 ≤ r ∧ r < 55296) ∨ (55296 ≤ r ∧ r ≤ 57343) ∨ (57343 < r ∧ r ≤ 65535) ∨ (65536 ≤ r ∧ r ≤ 1114111) ∨ 1114111 < r by omega) with h | h | h | h | h | h | h
  · rw [encR_bad (by omega)]; exact NonASCII_neg base v n xs r w hb hn hown h h0
  · rw [encR_two h.1 h.2]; exact NonASCII_two base v n xs r w hb hn hown h.1 h.2
  · rw [encR_three (.inl h)]; exact NonASCII_lo base v n xs r w hb hn hown h.1 h.2
  · rw [encR_bad (by omega)]; exact NonASCII_sur base v n xs r w hb hn hown h.1 h.2
  · rw [encR_three (.inr h)]; exact NonASCII_hi base v n xs r w hb hn hown h.1 h.2
  · rw [encR_four h.1 h.2]; exact NonASCII_four base v n xs r w hb hn hown h.1 h.2
  · rw [encR_bad (by omega)]; exact NonASCII_far base v n xs r w hb hn hown h h1
set_option maxRecDepth 10000 in
set_option maxHeartbeats 1000000 in
theorem AppendRune_any (base : Nat) (v : Value) (n : Nat) (xs : List Value) (r : Int) (w : World) (hb : base ≤ w.heap.size) (hn : n ≤ 1073741824) (hown : w.ownsRow base 5 1 v n xs) (h0 : -2147483648 ≤ r) (h1 : r ≤ 2147483647) :
    Calls Tryd.prog 22 #[v, .int .i32 r] w fun e w' => ∃ v', e = .returned v' ∧ w'.ownsRow base 5 1 v' (n + (encR r).length) (xs ++ (encR r).map (Value.int .u8)) ∧ (∃ o, (w.alloc o).grownBy w' v.ownBlock) := by
  by_cases hA : 0 ≤ r ∧ r ≤ 127
  · rw [encR_one hA.1 hA.2]; exact AppendRune_one base v n xs r w hb hn hown hA.1 hA.2
  · have hc := hide (NonASCII_any base v n xs r w hb hn hown h0 h1 hA)
    rcases (show r < 0 ∨ 128 ≤ r by omega) with h | h
    all_goals
      go_enter Tryd.func22, Tryd.ntmps22
      go_wp2_with fail
      refine (unhide hc).mono ?_
      rintro e w1 ⟨v', rfl, h2, h3⟩
      go_wp2
      go_ret
      exact ⟨_, rfl, h2, h3⟩
end Go.Proofs.YtmomcccgjjjldaaDoor
