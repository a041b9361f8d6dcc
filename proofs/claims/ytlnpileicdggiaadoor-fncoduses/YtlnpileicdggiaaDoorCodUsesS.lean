/- The contract of CodUses of the model. -/
import Derived.Test.YtlnpileicdggiaaDoorCodUses
namespace Go.Proofs.YtlnpileicdggiaaDoor
open Go.RowKit
set_option linter.unusedVariables false
set_option maxHeartbeats 4000000 in
theorem spec_CodUses_0 (k d a f n : Int) (w : World) (hk : 0 ≤ k ∧ k < 16) (hq : sok k d a a f n = true) (hA0 : hA k = false) (hB0 : hB k = false) : Calls Tryd.prog 26 #[.agg #[.int .i64 k, .int .i64 d, .int .i64 a, .int .i64 a, .int .i64 f, .int .i64 n]] w (UsP w []) := by
  obtain ⟨i0, hi, hz0, hz1, hz2⟩ := info_parts info_int
  have HK := Lib.hid hk
  clear hk
  have F0 := Fr.alloc w (.cells #[.int .i64 k, .int .i64 d, .int .i64 a, .int .i64 a, .int .i64 f, .int .i64 n] 24)
  have F1 := F0.trans (Fr.alloc _ (.cells #[] 3))
  have O1 := Lib.hid (owns_empty' w.heap.size (w.alloc (.cells #[.int .i64 k, .int .i64 d, .int .i64 a, .int .i64 a, .int .i64 f, .int .i64 n] 24)) (w.heap.size + 1) (by simp) (by omega))
  have B1 := Lib.hid ((Box.new w k d a a f n 24).fr (Fr.alloc _ (.cells #[] 3)))
  go_enter Tryd.func26, Tryd.ntmps26
  go_wp2_with fail
  refine (spec_CodOk _ _ _ _ _ _ _).mono ?_
  rintro e u2 ⟨rfl, f1⟩
  obtain ⟨c0, c1, c2, c3, c4, c5⟩ := B1.out.fr f1
  have O2 := O1.out.fr f1
  have F2 := F1.trans f1
  have hsz := F2.size
  clear f1 F1 F0
  go_wp2_with (go_at_call 40; refine (spec_l2Has _ HK.out _).mono ?_; rintro e w' ⟨rfl, rfl⟩)
  go_ret
  exact ⟨_, rfl, O2, F2⟩
set_option maxHeartbeats 4000000 in
theorem spec_CodUses_1 (k d a b f n : Int) (w : World) (hk : 0 ≤ k ∧ k < 16) (hq : sok k d a b f n = true) (hA1 : hA k = true) (hB1 : hB k = true) (hab : a < b) (ha : ¬ 0 < a) : Calls Tryd.prog 26 #[.agg #[.int .i64 k, .int .i64 d, .int .i64 a, .int .i64 b, .int .i64 f, .int .i64 n]] w (UsP w [b]) := by
  obtain ⟨i0, hi, hz0, hz1, hz2⟩ := info_parts info_int
  have HK := Lib.hid hk
  clear hk
  have F0 := Fr.alloc w (.cells #[.int .i64 k, .int .i64 d, .int .i64 a, .int .i64 b, .int .i64 f, .int .i64 n] 24)
  have F1 := F0.trans (Fr.alloc _ (.cells #[] 3))
  have O1 := Lib.hid (owns_empty' w.heap.size (w.alloc (.cells #[.int .i64 k, .int .i64 d, .int .i64 a, .int .i64 b, .int .i64 f, .int .i64 n] 24)) (w.heap.size + 1) (by simp) (by omega))
  have B1 := Lib.hid ((Box.new w k d a b f n 24).fr (Fr.alloc _ (.cells #[] 3)))
  go_enter Tryd.func26, Tryd.ntmps26
  go_wp2_with fail
  refine (spec_CodOk _ _ _ _ _ _ _).mono ?_
  rintro e u2 ⟨rfl, f1⟩
  obtain ⟨c0, c1, c2, c3, c4, c5⟩ := B1.out.fr f1
  have O2 := O1.out.fr f1
  have F2 := F1.trans f1
  have hsz := F2.size
  clear f1 F1 F0
  go_wp2_with (first | (go_at_call 40; refine (spec_l2Has _ HK.out _).mono ?_; rintro e w' ⟨rfl, rfl⟩) | (at_builtin; refine wpList_append_own _ rfl _ _ 36 rfl w.heap.size 3 i0 (.int .i64 0) 1 8 Tryd.underlying36 hi hz0 hz1 hz2 rfl (by decide) _ _ _ rfl (World.ownsRow.alloc O2 _) _ 1 1 [.int .i64 b] rfl rfl (cell_one_at _ _ _ _ (by simp)) (fun x hx => by simp at hx; subst hx; rfl) (show 0 + 1 ≤ maxLen by decide) (show (0 + 1) * 8 ≤ 140737488355328 by decide) (by simp; omega) ?_; intro v1 w4 hown1 hg1 _))
  have F4 : Fr w w4 := Below.grown (F2.trans (Fr.alloc _ _)) hg1 (by simp; omega) (fun q hq => (O2.lt q hq).1)
  go_ret
  exact ⟨_, rfl, hown1, F4⟩
set_option maxHeartbeats 4000000 in
theorem spec_CodUses_2 (k d a b f n : Int) (w : World) (hk : 0 ≤ k ∧ k < 16) (hq : sok k d a b f n = true) (hA1 : hA k = true) (hB1 : hB k = true) (hab : a < b) (ha : 0 < a) : Calls Tryd.prog 26 #[.agg #[.int .i64 k, .int .i64 d, .int .i64 a, .int .i64 b, .int .i64 f, .int .i64 n]] w (UsP w [a, b]) := by
  obtain ⟨i0, hi, hz0, hz1, hz2⟩ := info_parts info_int
  have HK := Lib.hid hk
  clear hk
  have F0 := Fr.alloc w (.cells #[.int .i64 k, .int .i64 d, .int .i64 a, .int .i64 b, .int .i64 f, .int .i64 n] 24)
  have F1 := F0.trans (Fr.alloc _ (.cells #[] 3))
  have O1 := Lib.hid (owns_empty' w.heap.size (w.alloc (.cells #[.int .i64 k, .int .i64 d, .int .i64 a, .int .i64 b, .int .i64 f, .int .i64 n] 24)) (w.heap.size + 1) (by simp) (by omega))
  have B1 := Lib.hid ((Box.new w k d a b f n 24).fr (Fr.alloc _ (.cells #[] 3)))
  go_enter Tryd.func26, Tryd.ntmps26
  go_wp2_with fail
  refine (spec_CodOk _ _ _ _ _ _ _).mono ?_
  rintro e u2 ⟨rfl, f1⟩
  obtain ⟨c0, c1, c2, c3, c4, c5⟩ := B1.out.fr f1
  have O2 := O1.out.fr f1
  have F2 := F1.trans f1
  have hsz := F2.size
  clear f1 F1 F0
  go_wp2_with (first | (go_at_call 40; refine (spec_l2Has _ HK.out _).mono ?_; rintro e w' ⟨rfl, rfl⟩) | (at_builtin; refine wpList_append_own _ rfl _ _ 36 rfl w.heap.size 3 i0 (.int .i64 0) 1 8 Tryd.underlying36 hi hz0 hz1 hz2 rfl (by decide) _ _ _ rfl (World.ownsRow.alloc hown1 _) _ 1 1 [.int .i64 b] rfl rfl (cell_one_at _ _ _ _ (by simp)) (fun x hx => by simp at hx; subst hx; rfl) (show 1 + 1 ≤ maxLen by decide) (show (1 + 1) * 8 ≤ 140737488355328 by decide) (by have := hg1.size; simp at this ⊢; omega) ?_; intro v2 w5 hown2 hg2 _) | (at_builtin; refine wpList_append_own _ rfl _ _ 36 rfl w.heap.size 3 i0 (.int .i64 0) 1 8 Tryd.underlying36 hi hz0 hz1 hz2 rfl (by decide) _ _ _ rfl (World.ownsRow.alloc O2 _) _ 1 1 [.int .i64 a] rfl rfl (cell_one_at _ _ _ _ (by simp)) (fun x hx => by simp at hx; subst hx; rfl) (show 0 + 1 ≤ maxLen by decide) (show (0 + 1) * 8 ≤ 140737488355328 by decide) (by simp; omega) ?_; intro v1 w4 hown1 hg1 _))
  have F4 : Fr w w4 := Below.grown (F2.trans (Fr.alloc _ _)) hg1 (by simp; omega) (fun q hq => (O2.lt q hq).1)
  have F5 : Fr w w5 := Below.grown (F4.trans (Fr.alloc _ _)) hg2 (by have := F4.size; simp; omega) (fun q hq => (hown1.lt q hq).1)
  go_ret
  exact ⟨_, rfl, hown2, F5⟩
set_option maxHeartbeats 4000000 in
theorem spec_CodUses_3 (k d a b f n : Int) (w : World) (hk : 0 ≤ k ∧ k < 16) (hq : sok k d a b f n = true) (hA1 : hA k = true) (hB1 : hB k = true) (hab : b < a) (ha : ¬ 0 < b) : Calls Tryd.prog 26 #[.agg #[.int .i64 k, .int .i64 d, .int .i64 a, .int .i64 b, .int .i64 f, .int .i64 n]] w (UsP w [a]) := by
  obtain ⟨i0, hi, hz0, hz1, hz2⟩ := info_parts info_int
  have HK := Lib.hid hk
  clear hk
  have F0 := Fr.alloc w (.cells #[.int .i64 k, .int .i64 d, .int .i64 a, .int .i64 b, .int .i64 f, .int .i64 n] 24)
  have F1 := F0.trans (Fr.alloc _ (.cells #[] 3))
  have O1 := Lib.hid (owns_empty' w.heap.size (w.alloc (.cells #[.int .i64 k, .int .i64 d, .int .i64 a, .int .i64 b, .int .i64 f, .int .i64 n] 24)) (w.heap.size + 1) (by simp) (by omega))
  have B1 := Lib.hid ((Box.new w k d a b f n 24).fr (Fr.alloc _ (.cells #[] 3)))
  go_enter Tryd.func26, Tryd.ntmps26
  go_wp2_with fail
  refine (spec_CodOk _ _ _ _ _ _ _).mono ?_
  rintro e u2 ⟨rfl, f1⟩
  obtain ⟨c0, c1, c2, c3, c4, c5⟩ := B1.out.fr f1
  have O2 := O1.out.fr f1
  have F2 := F1.trans f1
  have hsz := F2.size
  clear f1 F1 F0
  go_wp2_with (first | (go_at_call 40; refine (spec_l2Has _ HK.out _).mono ?_; rintro e w' ⟨rfl, rfl⟩) | (at_builtin; refine wpList_append_own _ rfl _ _ 36 rfl w.heap.size 3 i0 (.int .i64 0) 1 8 Tryd.underlying36 hi hz0 hz1 hz2 rfl (by decide) _ _ _ rfl (World.ownsRow.alloc O2 _) _ 1 1 [.int .i64 a] rfl rfl (cell_one_at _ _ _ _ (by simp)) (fun x hx => by simp at hx; subst hx; rfl) (show 0 + 1 ≤ maxLen by decide) (show (0 + 1) * 8 ≤ 140737488355328 by decide) (by simp; omega) ?_; intro v1 w4 hown1 hg1 _))
  have F4 : Fr w w4 := Below.grown (F2.trans (Fr.alloc _ _)) hg1 (by simp; omega) (fun q hq => (O2.lt q hq).1)
  go_ret
  exact ⟨_, rfl, hown1, F4⟩
set_option maxHeartbeats 4000000 in
theorem spec_CodUses_4 (k d a b f n : Int) (w : World) (hk : 0 ≤ k ∧ k < 16) (hq : sok k d a b f n = true) (hA1 : hA k = true) (hB1 : hB k = true) (hab : b < a) (ha : 0 < b) : Calls Tryd.prog 26 #[.agg #[.int .i64 k, .int .i64 d, .int .i64 a, .int .i64 b, .int .i64 f, .int .i64 n]] w (UsP w [b, a]) := by
  obtain ⟨i0, hi, hz0, hz1, hz2⟩ := info_parts info_int
  have HK := Lib.hid hk
  clear hk
  have F0 := Fr.alloc w (.cells #[.int .i64 k, .int .i64 d, .int .i64 a, .int .i64 b, .int .i64 f, .int .i64 n] 24)
  have F1 := F0.trans (Fr.alloc _ (.cells #[] 3))
  have O1 := Lib.hid (owns_empty' w.heap.size (w.alloc (.cells #[.int .i64 k, .int .i64 d, .int .i64 a, .int .i64 b, .int .i64 f, .int .i64 n] 24)) (w.heap.size + 1) (by simp) (by omega))
  have B1 := Lib.hid ((Box.new w k d a b f n 24).fr (Fr.alloc _ (.cells #[] 3)))
  go_enter Tryd.func26, Tryd.ntmps26
  go_wp2_with fail
  refine (spec_CodOk _ _ _ _ _ _ _).mono ?_
  rintro e u2 ⟨rfl, f1⟩
  obtain ⟨c0, c1, c2, c3, c4, c5⟩ := B1.out.fr f1
  have O2 := O1.out.fr f1
  have F2 := F1.trans f1
  have hsz := F2.size
  clear f1 F1 F0
  go_wp2_with (first | (go_at_call 40; refine (spec_l2Has _ HK.out _).mono ?_; rintro e w' ⟨rfl, rfl⟩) | (at_builtin; refine wpList_append_own _ rfl _ _ 36 rfl w.heap.size 3 i0 (.int .i64 0) 1 8 Tryd.underlying36 hi hz0 hz1 hz2 rfl (by decide) _ _ _ rfl (World.ownsRow.alloc hown1 _) _ 1 1 [.int .i64 a] rfl rfl (cell_one_at _ _ _ _ (by simp)) (fun x hx => by simp at hx; subst hx; rfl) (show 1 + 1 ≤ maxLen by decide) (show (1 + 1) * 8 ≤ 140737488355328 by decide) (by have := hg1.size; simp at this ⊢; omega) ?_; intro v2 w5 hown2 hg2 _) | (at_builtin; refine wpList_append_own _ rfl _ _ 36 rfl w.heap.size 3 i0 (.int .i64 0) 1 8 Tryd.underlying36 hi hz0 hz1 hz2 rfl (by decide) _ _ _ rfl (World.ownsRow.alloc O2 _) _ 1 1 [.int .i64 b] rfl rfl (cell_one_at _ _ _ _ (by simp)) (fun x hx => by simp at hx; subst hx; rfl) (show 0 + 1 ≤ maxLen by decide) (show (0 + 1) * 8 ≤ 140737488355328 by decide) (by simp; omega) ?_; intro v1 w4 hown1 hg1 _))
  have F4 : Fr w w4 := Below.grown (F2.trans (Fr.alloc _ _)) hg1 (by simp; omega) (fun q hq => (O2.lt q hq).1)
  have F5 : Fr w w5 := Below.grown (F4.trans (Fr.alloc _ _)) hg2 (by have := F4.size; simp; omega) (fun q hq => (hown1.lt q hq).1)
  go_ret
  exact ⟨_, rfl, hown2, F5⟩
set_option maxHeartbeats 4000000 in
theorem spec_CodUses_5 (k d a f n : Int) (w : World) (hk : 0 ≤ k ∧ k < 16) (hq : sok k d a a f n = true) (hA1 : hA k = true) (hB1 : hB k = true) (ha : ¬ 0 < a) : Calls Tryd.prog 26 #[.agg #[.int .i64 k, .int .i64 d, .int .i64 a, .int .i64 a, .int .i64 f, .int .i64 n]] w (UsP w []) := by
  obtain ⟨i0, hi, hz0, hz1, hz2⟩ := info_parts info_int
  have HK := Lib.hid hk
  clear hk
  have F0 := Fr.alloc w (.cells #[.int .i64 k, .int .i64 d, .int .i64 a, .int .i64 a, .int .i64 f, .int .i64 n] 24)
  have F1 := F0.trans (Fr.alloc _ (.cells #[] 3))
  have O1 := Lib.hid (owns_empty' w.heap.size (w.alloc (.cells #[.int .i64 k, .int .i64 d, .int .i64 a, .int .i64 a, .int .i64 f, .int .i64 n] 24)) (w.heap.size + 1) (by simp) (by omega))
  have B1 := Lib.hid ((Box.new w k d a a f n 24).fr (Fr.alloc _ (.cells #[] 3)))
  go_enter Tryd.func26, Tryd.ntmps26
  go_wp2_with fail
  refine (spec_CodOk _ _ _ _ _ _ _).mono ?_
  rintro e u2 ⟨rfl, f1⟩
  obtain ⟨c0, c1, c2, c3, c4, c5⟩ := B1.out.fr f1
  have O2 := O1.out.fr f1
  have F2 := F1.trans f1
  have hsz := F2.size
  clear f1 F1 F0
  go_wp2_with (go_at_call 40; refine (spec_l2Has _ HK.out _).mono ?_; rintro e w' ⟨rfl, rfl⟩)
  go_ret
  exact ⟨_, rfl, O2, F2⟩
set_option maxHeartbeats 4000000 in
theorem spec_CodUses_6 (k d a f n : Int) (w : World) (hk : 0 ≤ k ∧ k < 16) (hq : sok k d a a f n = true) (hA1 : hA k = true) (hB1 : hB k = true) (ha : 0 < a) : Calls Tryd.prog 26 #[.agg #[.int .i64 k, .int .i64 d, .int .i64 a, .int .i64 a, .int .i64 f, .int .i64 n]] w (UsP w [a]) := by
  obtain ⟨i0, hi, hz0, hz1, hz2⟩ := info_parts info_int
  have HK := Lib.hid hk
  clear hk
  have F0 := Fr.alloc w (.cells #[.int .i64 k, .int .i64 d, .int .i64 a, .int .i64 a, .int .i64 f, .int .i64 n] 24)
  have F1 := F0.trans (Fr.alloc _ (.cells #[] 3))
  have O1 := Lib.hid (owns_empty' w.heap.size (w.alloc (.cells #[.int .i64 k, .int .i64 d, .int .i64 a, .int .i64 a, .int .i64 f, .int .i64 n] 24)) (w.heap.size + 1) (by simp) (by omega))
  have B1 := Lib.hid ((Box.new w k d a a f n 24).fr (Fr.alloc _ (.cells #[] 3)))
  go_enter Tryd.func26, Tryd.ntmps26
  go_wp2_with fail
  refine (spec_CodOk _ _ _ _ _ _ _).mono ?_
  rintro e u2 ⟨rfl, f1⟩
  obtain ⟨c0, c1, c2, c3, c4, c5⟩ := B1.out.fr f1
  have O2 := O1.out.fr f1
  have F2 := F1.trans f1
  have hsz := F2.size
  clear f1 F1 F0
  go_wp2_with (first | (go_at_call 40; refine (spec_l2Has _ HK.out _).mono ?_; rintro e w' ⟨rfl, rfl⟩) | (at_builtin; refine wpList_append_own _ rfl _ _ 36 rfl w.heap.size 3 i0 (.int .i64 0) 1 8 Tryd.underlying36 hi hz0 hz1 hz2 rfl (by decide) _ _ _ rfl (World.ownsRow.alloc O2 _) _ 1 1 [.int .i64 a] rfl rfl (cell_one_at _ _ _ _ (by simp)) (fun x hx => by simp at hx; subst hx; rfl) (show 0 + 1 ≤ maxLen by decide) (show (0 + 1) * 8 ≤ 140737488355328 by decide) (by simp; omega) ?_; intro v1 w4 hown1 hg1 _))
  have F4 : Fr w w4 := Below.grown (F2.trans (Fr.alloc _ _)) hg1 (by simp; omega) (fun q hq => (O2.lt q hq).1)
  go_ret
  exact ⟨_, rfl, hown1, F4⟩
set_option maxHeartbeats 4000000 in
theorem spec_CodUses_7 (k d a f n : Int) (w : World) (hk : 0 ≤ k ∧ k < 16) (hq : sok k d a a f n = true) (hA1 : hA k = true) (hB1 : hB k = false) (ha : ¬ 0 < a) : Calls Tryd.prog 26 #[.agg #[.int .i64 k, .int .i64 d, .int .i64 a, .int .i64 a, .int .i64 f, .int .i64 n]] w (UsP w []) := by
  obtain ⟨i0, hi, hz0, hz1, hz2⟩ := info_parts info_int
  have HK := Lib.hid hk
  clear hk
  have F0 := Fr.alloc w (.cells #[.int .i64 k, .int .i64 d, .int .i64 a, .int .i64 a, .int .i64 f, .int .i64 n] 24)
  have F1 := F0.trans (Fr.alloc _ (.cells #[] 3))
  have O1 := Lib.hid (owns_empty' w.heap.size (w.alloc (.cells #[.int .i64 k, .int .i64 d, .int .i64 a, .int .i64 a, .int .i64 f, .int .i64 n] 24)) (w.heap.size + 1) (by simp) (by omega))
  have B1 := Lib.hid ((Box.new w k d a a f n 24).fr (Fr.alloc _ (.cells #[] 3)))
  go_enter Tryd.func26, Tryd.ntmps26
  go_wp2_with fail
  refine (spec_CodOk _ _ _ _ _ _ _).mono ?_
  rintro e u2 ⟨rfl, f1⟩
  obtain ⟨c0, c1, c2, c3, c4, c5⟩ := B1.out.fr f1
  have O2 := O1.out.fr f1
  have F2 := F1.trans f1
  have hsz := F2.size
  clear f1 F1 F0
  go_wp2_with (go_at_call 40; refine (spec_l2Has _ HK.out _).mono ?_; rintro e w' ⟨rfl, rfl⟩)
  go_ret
  exact ⟨_, rfl, O2, F2⟩
set_option maxHeartbeats 4000000 in
theorem spec_CodUses_8 (k d a b f n : Int) (w : World) (hk : 0 ≤ k ∧ k < 16) (hq : sok k d a b f n = true) (hA1 : hA k = true) (hB1 : hB k = false) (hab : b < a) (ha : 0 < a) : Calls Tryd.prog 26 #[.agg #[.int .i64 k, .int .i64 d, .int .i64 a, .int .i64 b, .int .i64 f, .int .i64 n]] w (UsP w [a]) := by
  obtain ⟨i0, hi, hz0, hz1, hz2⟩ := info_parts info_int
  have HK := Lib.hid hk
  clear hk
  have F0 := Fr.alloc w (.cells #[.int .i64 k, .int .i64 d, .int .i64 a, .int .i64 b, .int .i64 f, .int .i64 n] 24)
  have F1 := F0.trans (Fr.alloc _ (.cells #[] 3))
  have O1 := Lib.hid (owns_empty' w.heap.size (w.alloc (.cells #[.int .i64 k, .int .i64 d, .int .i64 a, .int .i64 b, .int .i64 f, .int .i64 n] 24)) (w.heap.size + 1) (by simp) (by omega))
  have B1 := Lib.hid ((Box.new w k d a b f n 24).fr (Fr.alloc _ (.cells #[] 3)))
  go_enter Tryd.func26, Tryd.ntmps26
  go_wp2_with fail
  refine (spec_CodOk _ _ _ _ _ _ _).mono ?_
  rintro e u2 ⟨rfl, f1⟩
  obtain ⟨c0, c1, c2, c3, c4, c5⟩ := B1.out.fr f1
  have O2 := O1.out.fr f1
  have F2 := F1.trans f1
  have hsz := F2.size
  clear f1 F1 F0
  go_wp2_with (first | (go_at_call 40; refine (spec_l2Has _ HK.out _).mono ?_; rintro e w' ⟨rfl, rfl⟩) | (at_builtin; refine wpList_append_own _ rfl _ _ 36 rfl w.heap.size 3 i0 (.int .i64 0) 1 8 Tryd.underlying36 hi hz0 hz1 hz2 rfl (by decide) _ _ _ rfl (World.ownsRow.alloc O2 _) _ 1 1 [.int .i64 a] rfl rfl (cell_one_at _ _ _ _ (by simp)) (fun x hx => by simp at hx; subst hx; rfl) (show 0 + 1 ≤ maxLen by decide) (show (0 + 1) * 8 ≤ 140737488355328 by decide) (by simp; omega) ?_; intro v1 w4 hown1 hg1 _))
  have F4 : Fr w w4 := Below.grown (F2.trans (Fr.alloc _ _)) hg1 (by simp; omega) (fun q hq => (O2.lt q hq).1)
  go_ret
  exact ⟨_, rfl, hown1, F4⟩
theorem sok_regs {k d a b f n : Int} (h : sok k d a b f n = true) : (0 ≤ a ∧ 0 ≤ b) ∧ (hA k = false → hB k = false ∧ a = 0 ∧ b = 0) ∧ (hB k = false → b = 0) := by
  have hk := h
  simp only [sok, Bool.and_eq_true, decide_eq_true_eq] at h
  obtain ⟨h0, h1, h2, h3, h4, h5⟩ := h
  simp only [regOk, Bool.or_eq_true, beq_iff_eq, Bool.and_eq_true, decide_eq_true_eq] at h2 h3
  have hAB : hA k = false → hB k = false := by
    rcases kinds (k := k) (by omega) with rfl | rfl | rfl | rfl | rfl | rfl | rfl | rfl | rfl | rfl | rfl | rfl | rfl | rfl | rfl | rfl <;> decide
  refine ⟨by omega, fun ha => ?_, fun hb => ?_⟩
  · have hb := hAB ha
    rw [ha] at h2; rw [hb] at h3
    simp at h2 h3
    exact ⟨hb, h2, h3⟩
  · rw [hb] at h3
    simpa using h3
theorem spec_CodUses (k d a b f n : Int) (w : World) : Calls Tryd.prog 26 #[.agg #[.int .i64 k, .int .i64 d, .int .i64 a, .int .i64 b, .int .i64 f, .int .i64 n]] w (UsP w (usL k d a b f n)) := by
  cases hq : iok k d a b f n
  · have H := Lib.hid (usL_f hq)
    have hs : sok k d a b f n = false := by rw [sok_eq]; exact hq
    clear hq
    have F0 := Fr.alloc w (.cells #[.int .i64 k, .int .i64 d, .int .i64 a, .int .i64 b, .int .i64 f, .int .i64 n] 24)
    have F1 := F0.trans (Fr.alloc _ (.cells #[] 3))
    have O1 := Lib.hid (owns_empty' w.heap.size (w.alloc (.cells #[.int .i64 k, .int .i64 d, .int .i64 a, .int .i64 b, .int .i64 f, .int .i64 n] 24)) (w.heap.size + 1) (by simp) (by omega))
    go_enter Tryd.func26, Tryd.ntmps26
    go_wp2_with fail
    refine (spec_CodOk _ _ _ _ _ _ _).mono ?_
    rintro e u1 ⟨rfl, f1⟩
    have O2 := O1.out.fr f1
    have F2 := F1.trans f1
    go_wp2
    go_ret
    rw [H.out]
    exact ⟨_, rfl, O2, F2⟩
  · rw [usL_t hq]
    have hk : 0 ≤ k ∧ k < 16 := by
      by_cases hk : 0 ≤ k ∧ k < 16
      · exact hk
      · rw [iok_kind hk] at hq; cases hq
    have hs : sok k d a b f n = true := by rw [sok_eq]; exact hq
    obtain ⟨⟨a0, b0⟩, hAf, hBf⟩ := sok_regs hs
    cases hA1 : hA k
    · obtain ⟨hB0, rfl, rfl⟩ := hAf hA1
      exact spec_CodUses_0 k d 0 f n w hk hs hA1 hB0
    · cases hB1 : hB k
      · obtain rfl := hBf hB1
        by_cases ha : 0 < a
        · have e : us2 (min a 0) (max a 0) = [a] := by rw [Int.min_eq_right (by omega), Int.max_eq_left (by omega)]; simp [us2, show ¬ a = 0 by omega]
          rw [e]; exact spec_CodUses_8 k d a 0 f n w hk hs hA1 hB1 (by omega) ha
        · obtain rfl : a = 0 := by omega
          exact spec_CodUses_7 k d 0 f n w hk hs hA1 hB1 ha
      · rcases Int.lt_trichotomy a b with h | h | h
        · rw [Int.min_eq_left (by omega), Int.max_eq_right (by omega)]
          by_cases ha : 0 < a
          · have e : us2 a b = [a, b] := by simp [us2, show ¬ a = 0 by omega, show ¬ b = a by omega]
            rw [e]; exact spec_CodUses_2 k d a b f n w hk hs hA1 hB1 h ha
          · have e : us2 a b = [b] := by simp [us2, show a = 0 by omega, show ¬ b = 0 by omega]
            rw [e]; exact spec_CodUses_1 k d a b f n w hk hs hA1 hB1 h ha
        · subst h
          rw [Int.min_self, Int.max_self]
          by_cases ha : 0 < a
          · have e : us2 a a = [a] := by simp [us2, show ¬ a = 0 by omega]
            rw [e]; exact spec_CodUses_6 k d a f n w hk hs hA1 hB1 ha
          · have e : us2 a a = [] := by simp [us2, show a = 0 by omega]
            rw [e]; exact spec_CodUses_5 k d a f n w hk hs hA1 hB1 ha
        · rw [Int.min_eq_right (by omega), Int.max_eq_left (by omega)]
          by_cases ha : 0 < b
          · have e : us2 b a = [b, a] := by simp [us2, show ¬ b = 0 by omega, show ¬ a = b by omega]
            rw [e]; exact spec_CodUses_4 k d a b f n w hk hs hA1 hB1 h ha
          · have e : us2 b a = [a] := by simp [us2, show b = 0 by omega, show ¬ a = 0 by omega]
            rw [e]; exact spec_CodUses_3 k d a b f n w hk hs hA1 hB1 h ha
end Go.Proofs.YtlnpileicdggiaaDoor
