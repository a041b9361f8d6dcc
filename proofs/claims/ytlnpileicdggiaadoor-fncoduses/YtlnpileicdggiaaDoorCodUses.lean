/- The contracts of CodUses, of the program and of the model. -/
import Derived.Test.YtlnpileicdggiaaDoorCodOkS
import Derived.Test.YtlnpileicdggiaaDoorCodLaws
import Derived.BigRegion
namespace Go.Proofs.YtlnpileicdggiaaDoor
open Go.RowKit
set_option linter.unusedVariables false
theorem info_int : (Tryd.prog.info? 3).map (fun i => (i.zero, i.size, i.bytes)) = some (some (.int .i64 0), 1, 8) := by kernel_rfl
theorem cell_one_new (w : World) (x : Value) (t : TypeId) : ∀ j u, [x][j]? = some u → (w.alloc (.cells #[x] t)).cell? ((⟨w.heap.size, 0, none⟩ : Addr).add j) = some u := by
  intro j u hj
  match j, hj with
  | 0, hj => simp at hj; subst hj; simp [Addr.add]
theorem cell_one_at (w : World) (x : Value) (t : TypeId) (g : Nat) (hg : w.heap.size = g) : ∀ j u, [x][j]? = some u → (w.alloc (.cells #[x] t)).cell? ((⟨g, 0, none⟩ : Addr).add j) = some u := by
  subst hg; exact cell_one_new w x t
/-- A slice that the call made, of the numbers L. -/
def Owns (B : Nat) (u : World) (v : Value) (L : List Int) : Prop := u.ownsRow B 3 1 v L.length (L.map (Value.int .i64))
theorem owns_nil (B : Nat) (u : World) : Owns B u (.slice none 0 0) [] := World.ownsRow_nil _ _ _ _
theorem owns_empty (B : Nat) (w : World) (hB : B ≤ w.heap.size) : Owns B (w.alloc (.cells #[] 3)) (.slice (some ⟨w.heap.size, 0, none⟩) 0 0) [] := by
  refine ⟨rfl, .inr ⟨w.heap.size, 0, #[], rfl, hB, ?_, Nat.le_refl _, Nat.zero_le _, rfl, rfl⟩⟩
  show (w.heap.push _)[w.heap.size]? = _
  simp
theorem owns_empty' (B : Nat) (w : World) (g : Nat) (hg : w.heap.size = g) (hB : B ≤ g) : Owns B (w.alloc (.cells #[] 3)) (.slice (some ⟨g, 0, none⟩) 0 0) [] := by
  subst hg; exact owns_empty B w hB
theorem Owns.fr {B : Nat} {u u' : World} {v : Value} {L : List Int} (h : Owns B u v L) (f : Fr u u') : Owns B u' v L := by
  obtain ⟨h1, h2⟩ := h
  refine ⟨h1, ?_⟩
  rcases h2 with h2 | ⟨g, cap, cur, hv, hB, hg, h3⟩
  · exact .inl h2
  · refine .inr ⟨g, cap, cur, hv, hB, ?_, h3⟩
    have hlt : g < u.heap.size := by
      by_cases hh : g < u.heap.size
      · exact hh
      · rw [Array.getElem?_eq_none (by omega)] at hg; cases hg
    rw [f.block g hlt]; exact hg
/-- The registers that an instruction takes. -/
def us2 (lo hi : Int) : List Int := (if lo = 0 then [] else [lo]) ++ (if hi = lo then [] else [hi])
def usL (k d a b f n : Int) : List Int := if iok k d a b f n = true then us2 (min a b) (max a b) else []
theorem usL_f {k d a b f n : Int} (h : iok k d a b f n = false) : usL k d a b f n = [] := if_neg (by simp [h])
theorem usL_t {k d a b f n : Int} (h : iok k d a b f n = true) : usL k d a b f n = us2 (min a b) (max a b) := if_pos h
def UsP (w : World) (L : List Int) (e : Ending) (w' : World) : Prop := ∃ v, e = .returned v ∧ Owns w.heap.size w' v L ∧ Fr w w'
set_option maxHeartbeats 4000000 in
theorem impl_CodUses_1 (k d a b f n : Int) (w : World) (ht : Tabs w) (hq : iok k d a b f n = true) (hab : a < b) (ha : (a == 0) = true) : Calls Tryd.prog 24 #[.agg #[.int .i64 k, .int .i64 d, .int .i64 a, .int .i64 b, .int .i64 f, .int .i64 n]] w (UsP w [b]) := by
  obtain ⟨i0, hi, hz0, hz1, hz2⟩ := info_parts info_int
  have F0 := Fr.alloc w (.cells #[.int .i64 k, .int .i64 d, .int .i64 a, .int .i64 b, .int .i64 f, .int .i64 n] 24)
  go_enter Tryd.func24, Tryd.ntmps24
  go_wp2_with fail
  refine (impl_CodOk _ _ _ _ _ _ _ (ht.fr F0)).mono ?_
  rintro e u1 ⟨rfl, f1⟩
  obtain ⟨c0, c1, c2, c3, c4, c5⟩ := (Box.new w k d a b f n _).fr f1
  go_wp2_with fail
  go_region
  have F2 : Fr w u1.drew := Below.drew (F0.trans f1)
  clear c0 c1 c2 c3 c4 c5 f1 F0
  generalize u1.drew = u2 at *
  clear u1
  have hsz := F2.size
  go_wp2_with (at_builtin; refine wpList_append_own _ rfl _ _ 36 rfl w.heap.size 3 i0 (.int .i64 0) 1 8 Tryd.underlying36 hi hz0 hz1 hz2 rfl (by decide) _ _ _ rfl (World.ownsRow.alloc (owns_empty w.heap.size _ hsz) _) _ 1 1 [.int .i64 b] rfl rfl (cell_one_at _ _ _ _ (by simp)) (fun x hx => by simp at hx; subst hx; rfl) (show 0 + 1 ≤ maxLen by decide) (show (0 + 1) * 8 ≤ 140737488355328 by decide) (by simp; omega) ?_; intro v1 w4 hown1 hg1 _)
  have F4 : Fr w w4 := Below.grown (F2.trans ((Fr.alloc _ _).trans (Fr.alloc _ _))) hg1 (by simp; omega) (fun q hq => by injection hq with hq; rw [← hq]; exact hsz)
  go_ret
  exact ⟨_, rfl, hown1, F4⟩
set_option maxHeartbeats 4000000 in
theorem impl_CodUses_2 (k d a b f n : Int) (w : World) (ht : Tabs w) (hq : iok k d a b f n = true) (hab : a < b) (ha : (a == 0) = false) : Calls Tryd.prog 24 #[.agg #[.int .i64 k, .int .i64 d, .int .i64 a, .int .i64 b, .int .i64 f, .int .i64 n]] w (UsP w [a, b]) := by
  obtain ⟨i0, hi, hz0, hz1, hz2⟩ := info_parts info_int
  have F0 := Fr.alloc w (.cells #[.int .i64 k, .int .i64 d, .int .i64 a, .int .i64 b, .int .i64 f, .int .i64 n] 24)
  go_enter Tryd.func24, Tryd.ntmps24
  go_wp2_with fail
  refine (impl_CodOk _ _ _ _ _ _ _ (ht.fr F0)).mono ?_
  rintro e u1 ⟨rfl, f1⟩
  obtain ⟨c0, c1, c2, c3, c4, c5⟩ := (Box.new w k d a b f n _).fr f1
  go_wp2_with fail
  go_region
  have F2 : Fr w u1.drew := Below.drew (F0.trans f1)
  clear c0 c1 c2 c3 c4 c5 f1 F0
  generalize u1.drew = u2 at *
  clear u1
  have hsz := F2.size
  go_wp2_with (first | (at_builtin; refine wpList_append_own _ rfl _ _ 36 rfl w.heap.size 3 i0 (.int .i64 0) 1 8 Tryd.underlying36 hi hz0 hz1 hz2 rfl (by decide) _ _ _ rfl (World.ownsRow.alloc hown1 _) _ 1 1 [.int .i64 b] rfl rfl (cell_one_at _ _ _ _ (by simp)) (fun x hx => by simp at hx; subst hx; rfl) (show 1 + 1 ≤ maxLen by decide) (show (1 + 1) * 8 ≤ 140737488355328 by decide) (by have := hg1.size; simp at this ⊢; omega) ?_; intro v2 w5 hown2 hg2 _) | (at_builtin; refine wpList_append_own _ rfl _ _ 36 rfl w.heap.size 3 i0 (.int .i64 0) 1 8 Tryd.underlying36 hi hz0 hz1 hz2 rfl (by decide) _ _ _ rfl (World.ownsRow.alloc (owns_empty w.heap.size _ hsz) _) _ 1 1 [.int .i64 a] rfl rfl (cell_one_at _ _ _ _ (by simp)) (fun x hx => by simp at hx; subst hx; rfl) (show 0 + 1 ≤ maxLen by decide) (show (0 + 1) * 8 ≤ 140737488355328 by decide) (by simp; omega) ?_; intro v1 w4 hown1 hg1 _))
  have F4 : Fr w w4 := Below.grown (F2.trans ((Fr.alloc _ _).trans (Fr.alloc _ _))) hg1 (by simp; omega) (fun q hq => by injection hq with hq; rw [← hq]; exact hsz)
  have F5 : Fr w w5 := Below.grown (F4.trans (Fr.alloc _ _)) hg2 (by have := F4.size; simp; omega) (fun q hq => (hown1.lt q hq).1)
  go_ret
  exact ⟨_, rfl, hown2, F5⟩
set_option maxHeartbeats 4000000 in
theorem impl_CodUses_3 (k d a b f n : Int) (w : World) (ht : Tabs w) (hq : iok k d a b f n = true) (hab : b < a) (ha : (b == 0) = true) : Calls Tryd.prog 24 #[.agg #[.int .i64 k, .int .i64 d, .int .i64 a, .int .i64 b, .int .i64 f, .int .i64 n]] w (UsP w [a]) := by
  obtain ⟨i0, hi, hz0, hz1, hz2⟩ := info_parts info_int
  have F0 := Fr.alloc w (.cells #[.int .i64 k, .int .i64 d, .int .i64 a, .int .i64 b, .int .i64 f, .int .i64 n] 24)
  go_enter Tryd.func24, Tryd.ntmps24
  go_wp2_with fail
  refine (impl_CodOk _ _ _ _ _ _ _ (ht.fr F0)).mono ?_
  rintro e u1 ⟨rfl, f1⟩
  obtain ⟨c0, c1, c2, c3, c4, c5⟩ := (Box.new w k d a b f n _).fr f1
  go_wp2_with fail
  go_region
  have F2 : Fr w u1.drew := Below.drew (F0.trans f1)
  clear c0 c1 c2 c3 c4 c5 f1 F0
  generalize u1.drew = u2 at *
  clear u1
  have hsz := F2.size
  go_wp2_with (at_builtin; refine wpList_append_own _ rfl _ _ 36 rfl w.heap.size 3 i0 (.int .i64 0) 1 8 Tryd.underlying36 hi hz0 hz1 hz2 rfl (by decide) _ _ _ rfl (World.ownsRow.alloc (owns_empty w.heap.size _ hsz) _) _ 1 1 [.int .i64 a] rfl rfl (cell_one_at _ _ _ _ (by simp)) (fun x hx => by simp at hx; subst hx; rfl) (show 0 + 1 ≤ maxLen by decide) (show (0 + 1) * 8 ≤ 140737488355328 by decide) (by simp; omega) ?_; intro v1 w4 hown1 hg1 _)
  have F4 : Fr w w4 := Below.grown (F2.trans ((Fr.alloc _ _).trans (Fr.alloc _ _))) hg1 (by simp; omega) (fun q hq => by injection hq with hq; rw [← hq]; exact hsz)
  go_ret
  exact ⟨_, rfl, hown1, F4⟩
set_option maxHeartbeats 4000000 in
theorem impl_CodUses_4 (k d a b f n : Int) (w : World) (ht : Tabs w) (hq : iok k d a b f n = true) (hab : b < a) (ha : (b == 0) = false) : Calls Tryd.prog 24 #[.agg #[.int .i64 k, .int .i64 d, .int .i64 a, .int .i64 b, .int .i64 f, .int .i64 n]] w (UsP w [b, a]) := by
  obtain ⟨i0, hi, hz0, hz1, hz2⟩ := info_parts info_int
  have F0 := Fr.alloc w (.cells #[.int .i64 k, .int .i64 d, .int .i64 a, .int .i64 b, .int .i64 f, .int .i64 n] 24)
  go_enter Tryd.func24, Tryd.ntmps24
  go_wp2_with fail
  refine (impl_CodOk _ _ _ _ _ _ _ (ht.fr F0)).mono ?_
  rintro e u1 ⟨rfl, f1⟩
  obtain ⟨c0, c1, c2, c3, c4, c5⟩ := (Box.new w k d a b f n _).fr f1
  go_wp2_with fail
  go_region
  have F2 : Fr w u1.drew := Below.drew (F0.trans f1)
  clear c0 c1 c2 c3 c4 c5 f1 F0
  generalize u1.drew = u2 at *
  clear u1
  have hsz := F2.size
  go_wp2_with (first | (at_builtin; refine wpList_append_own _ rfl _ _ 36 rfl w.heap.size 3 i0 (.int .i64 0) 1 8 Tryd.underlying36 hi hz0 hz1 hz2 rfl (by decide) _ _ _ rfl (World.ownsRow.alloc hown1 _) _ 1 1 [.int .i64 a] rfl rfl (cell_one_at _ _ _ _ (by simp)) (fun x hx => by simp at hx; subst hx; rfl) (show 1 + 1 ≤ maxLen by decide) (show (1 + 1) * 8 ≤ 140737488355328 by decide) (by have := hg1.size; simp at this ⊢; omega) ?_; intro v2 w5 hown2 hg2 _) | (at_builtin; refine wpList_append_own _ rfl _ _ 36 rfl w.heap.size 3 i0 (.int .i64 0) 1 8 Tryd.underlying36 hi hz0 hz1 hz2 rfl (by decide) _ _ _ rfl (World.ownsRow.alloc (owns_empty w.heap.size _ hsz) _) _ 1 1 [.int .i64 b] rfl rfl (cell_one_at _ _ _ _ (by simp)) (fun x hx => by simp at hx; subst hx; rfl) (show 0 + 1 ≤ maxLen by decide) (show (0 + 1) * 8 ≤ 140737488355328 by decide) (by simp; omega) ?_; intro v1 w4 hown1 hg1 _))
  have F4 : Fr w w4 := Below.grown (F2.trans ((Fr.alloc _ _).trans (Fr.alloc _ _))) hg1 (by simp; omega) (fun q hq => by injection hq with hq; rw [← hq]; exact hsz)
  have F5 : Fr w w5 := Below.grown (F4.trans (Fr.alloc _ _)) hg2 (by have := F4.size; simp; omega) (fun q hq => (hown1.lt q hq).1)
  go_ret
  exact ⟨_, rfl, hown2, F5⟩
set_option maxHeartbeats 4000000 in
theorem impl_CodUses_5 (k d a f n : Int) (w : World) (ht : Tabs w) (hq : iok k d a a f n = true) (ha : (a == 0) = true) : Calls Tryd.prog 24 #[.agg #[.int .i64 k, .int .i64 d, .int .i64 a, .int .i64 a, .int .i64 f, .int .i64 n]] w (UsP w []) := by
  obtain ⟨i0, hi, hz0, hz1, hz2⟩ := info_parts info_int
  have F0 := Fr.alloc w (.cells #[.int .i64 k, .int .i64 d, .int .i64 a, .int .i64 a, .int .i64 f, .int .i64 n] 24)
  go_enter Tryd.func24, Tryd.ntmps24
  go_wp2_with fail
  refine (impl_CodOk _ _ _ _ _ _ _ (ht.fr F0)).mono ?_
  rintro e u1 ⟨rfl, f1⟩
  obtain ⟨c0, c1, c2, c3, c4, c5⟩ := (Box.new w k d a a f n _).fr f1
  go_wp2_with fail
  go_region
  have F2 : Fr w u1.drew := Below.drew (F0.trans f1)
  clear c0 c1 c2 c3 c4 c5 f1 F0
  generalize u1.drew = u2 at *
  clear u1
  have hsz := F2.size
  go_wp2
  go_ret
  exact ⟨_, rfl, owns_empty w.heap.size _ hsz, F2.trans (Fr.alloc _ _)⟩
set_option maxHeartbeats 4000000 in
theorem impl_CodUses_6 (k d a f n : Int) (w : World) (ht : Tabs w) (hq : iok k d a a f n = true) (ha : (a == 0) = false) : Calls Tryd.prog 24 #[.agg #[.int .i64 k, .int .i64 d, .int .i64 a, .int .i64 a, .int .i64 f, .int .i64 n]] w (UsP w [a]) := by
  obtain ⟨i0, hi, hz0, hz1, hz2⟩ := info_parts info_int
  have F0 := Fr.alloc w (.cells #[.int .i64 k, .int .i64 d, .int .i64 a, .int .i64 a, .int .i64 f, .int .i64 n] 24)
  go_enter Tryd.func24, Tryd.ntmps24
  go_wp2_with fail
  refine (impl_CodOk _ _ _ _ _ _ _ (ht.fr F0)).mono ?_
  rintro e u1 ⟨rfl, f1⟩
  obtain ⟨c0, c1, c2, c3, c4, c5⟩ := (Box.new w k d a a f n _).fr f1
  go_wp2_with fail
  go_region
  have F2 : Fr w u1.drew := Below.drew (F0.trans f1)
  clear c0 c1 c2 c3 c4 c5 f1 F0
  generalize u1.drew = u2 at *
  clear u1
  have hsz := F2.size
  go_wp2_with (at_builtin; refine wpList_append_own _ rfl _ _ 36 rfl w.heap.size 3 i0 (.int .i64 0) 1 8 Tryd.underlying36 hi hz0 hz1 hz2 rfl (by decide) _ _ _ rfl (World.ownsRow.alloc (owns_empty w.heap.size _ hsz) _) _ 1 1 [.int .i64 a] rfl rfl (cell_one_at _ _ _ _ (by simp)) (fun x hx => by simp at hx; subst hx; rfl) (show 0 + 1 ≤ maxLen by decide) (show (0 + 1) * 8 ≤ 140737488355328 by decide) (by simp; omega) ?_; intro v1 w4 hown1 hg1 _)
  have F4 : Fr w w4 := Below.grown (F2.trans ((Fr.alloc _ _).trans (Fr.alloc _ _))) hg1 (by simp; omega) (fun q hq => by injection hq with hq; rw [← hq]; exact hsz)
  go_ret
  exact ⟨_, rfl, hown1, F4⟩
theorem impl_CodUses (k d a b f n : Int) (w : World) (ht : Tabs w) : Calls Tryd.prog 24 #[.agg #[.int .i64 k, .int .i64 d, .int .i64 a, .int .i64 b, .int .i64 f, .int .i64 n]] w (UsP w (usL k d a b f n)) := by
  cases hq : iok k d a b f n
  · have H := Lib.hid (usL_f hq)
    have F0 := Fr.alloc w (.cells #[.int .i64 k, .int .i64 d, .int .i64 a, .int .i64 b, .int .i64 f, .int .i64 n] 24)
    go_enter Tryd.func24, Tryd.ntmps24
    go_wp2_with fail
    refine (impl_CodOk _ _ _ _ _ _ _ (ht.fr F0)).mono ?_
    rintro e u1 ⟨rfl, f1⟩
    go_wp2
    go_ret
    rw [H.out]
    exact ⟨_, rfl, owns_nil _ _, F0.trans f1⟩
  · rw [usL_t hq]
    rcases Int.lt_trichotomy a b with h | h | h
    · rw [Int.min_eq_left (by omega), Int.max_eq_right (by omega)]
      cases ha : (a == 0)
      · have e : us2 a b = [a, b] := by have := beq_eq_false_iff_ne.1 ha; simp [us2, this, show ¬ b = a by omega]
        rw [e]; exact impl_CodUses_2 k d a b f n w ht hq h ha
      · have e : us2 a b = [b] := by have := beq_iff_eq.1 ha; simp [us2, this, show ¬ b = 0 by omega]
        rw [e]; exact impl_CodUses_1 k d a b f n w ht hq h ha
    · subst h
      rw [Int.min_self, Int.max_self]
      cases ha : (a == 0)
      · have e : us2 a a = [a] := by have := beq_eq_false_iff_ne.1 ha; simp [us2, this]
        rw [e]; exact impl_CodUses_6 k d a f n w ht hq ha
      · have e : us2 a a = [] := by have := beq_iff_eq.1 ha; simp [us2, this]
        rw [e]; exact impl_CodUses_5 k d a f n w ht hq ha
    · rw [Int.min_eq_right (by omega), Int.max_eq_left (by omega)]
      cases ha : (b == 0)
      · have e : us2 b a = [b, a] := by have := beq_eq_false_iff_ne.1 ha; simp [us2, this, show ¬ a = b by omega]
        rw [e]; exact impl_CodUses_4 k d a b f n w ht hq h ha
      · have e : us2 b a = [a] := by have := beq_iff_eq.1 ha; simp [us2, this, show ¬ a = 0 by omega]
        rw [e]; exact impl_CodUses_3 k d a b f n w ht hq h ha
end Go.Proofs.YtlnpileicdggiaaDoor
