/- What is taken, put, undone in the program's arrays of places. -/
import Derived.Test.YtddllgjieccikaaN7
namespace Go.Proofs.Ytddllgjieccikaa
open Go.RowKit
set_option linter.unusedVariables false
set_option linter.unusedSimpArgs false
/-- Three cells of a block that may be written. -/
structure Box3 (u : World) (g : Nat) (a b c : Value) : Prop where
  lt : g < u.heap.size
  c0 : u.cell? ⟨g, 0, none⟩ = some a
  c1 : u.cell? ⟨g, 1, none⟩ = some b
  c2 : u.cell? ⟨g, 2, none⟩ = some c
  f0 : u.frozen? ⟨g, 0, none⟩ = false
  f1 : u.frozen? ⟨g, 1, none⟩ = false
  f2 : u.frozen? ⟨g, 2, none⟩ = false
theorem Box3.but {L : List Nat} {u u' : World} {g : Nat} {a b c : Value} (h : Box3 u g a b c) (f : But L u u') (hn : g ∉ L) : Box3 u' g a b c :=
  ⟨Nat.lt_of_lt_of_le h.lt f.size, by rw [f.cell h.lt hn]; exact h.c0, by rw [f.cell h.lt hn]; exact h.c1, by rw [f.cell h.lt hn]; exact h.c2, by rw [f.frozen h.lt hn]; exact h.f0, by rw [f.frozen h.lt hn]; exact h.f1, by rw [f.frozen h.lt hn]; exact h.f2⟩
theorem Box3.new (w : World) (a b c : Value) (t : TypeId) (n : Nat) (hn : w.heap.size = n) : Box3 (w.alloc (.cells #[a, b, c] t)) n a b c := by
  subst hn
  exact ⟨by simp, (alloc_at w _ t _ rfl 0).1, (alloc_at w _ t _ rfl 1).1, (alloc_at w _ t _ rfl 2).1, (alloc_at w _ t _ rfl 0).2, (alloc_at w _ t _ rfl 1).2, (alloc_at w _ t _ rfl 2).2⟩
set_option maxRecDepth 8000 in
set_option maxHeartbeats 2000000 in
theorem impl_take0 (M P : List Int) (f : Nat) (V : List Int) (H : List Bool) (g d : Nat) (w : World) (h : Nb w g M P f 0 V H) :
    Calls Try.prog 69 #[.pointer (some ⟨g, 0, none⟩), .int .i64 d] w fun e w' => e = .returned (.tuple #[.agg #[.int .i64 0, .int .i64 0, .int .i64 0], .bool false]) ∧ Fr w w' := by
  have HF := Lib.hid (Fr.alloc w (.cells #[.int .i64 0, .int .i64 0, .int .i64 0] 79))
  have HZ := Lib.hid (Box3.new w (.int .i64 0) (.int .i64 0) (.int .i64 0) 79 _ rfl)
  have HT := Lib.hid (impl_ring_take0 M P f V H g _ (h.fr HF.out))
  clear h
  go_enter Try.func69, Try.ntmps69
  go_wp2_with fail
  refine HT.out.mono ?_
  rintro e w' ⟨rfl, rfl⟩
  obtain ⟨_, z0, z1, z2, zf0, zf1, zf2⟩ := HZ.out
  go_wp2_with fail
  refine bodyPost_ret (v := .tuple #[.agg #[.int .i64 0, .int .i64 0, .int .i64 0], .bool false]) (by simp [results, Try.results69, go_sem, World.cell?_setCell_other, World.cell?_setCell_same, z0, z1, z2]) rfl ⟨rfl, ?_⟩
  (repeat' first | (with_reducible exact Below.refl _ _) | (with_reducible assumption) | ((with_reducible refine Below.setCell ?_ ?hb _); (case hb => first | exact Nat.le_refl _ | (simp; done) | (simp; omega) | omega)) | ((with_reducible refine Below.alloc ?_ ?hb _); (case hb => first | exact Nat.le_refl _ | (simp; done) | (simp; omega) | omega)) | (with_reducible refine Below.drew ?_))
set_option maxRecDepth 8000 in
set_option maxHeartbeats 4000000 in
theorem impl_take1 (M P : List Int) (f m : Nat) (V : List Int) (H : List Bool) (g d p : Nat) (w : World) (h : Nb w g M P f (m + 1) V H) (hd : d < 8) (hp : p < 20) (hpp : P.getD f 0 = p) :
    Calls Try.prog 69 #[.pointer (some ⟨g, 0, none⟩), .int .i64 d] w fun e w' => e = .returned (.tuple #[.agg #[.int .i64 d, .int .i64 p, .int .i64 (M.getD d 0)], .bool true]) ∧ Nb w' g (M.set d p) P ((f + 1) % 12) m V (H.set p false) ∧ But [g] w w' := by
  have HF := Lib.hid (Fr.alloc w (.cells #[.int .i64 0, .int .i64 0, .int .i64 0] 79))
  have HZ := Lib.hid (Box3.new w (.int .i64 0) (.int .i64 0) (.int .i64 0) 79 _ rfl)
  have hlt := h.lt
  have HT := Lib.hid (impl_ring_take1 M P f m V H g _ (h.fr HF.out))
  rw [hpp] at HT
  clear h hpp
  obtain ⟨k, hk⟩ : ∃ k, (f + 1) % 12 = k := ⟨_, rfl⟩
  rw [hk] at HT ⊢
  clear hk
  obtain ⟨mo, hmo⟩ : ∃ mo, M.getD d 0 = mo := ⟨_, rfl⟩
  have HMO := Lib.hid hmo
  rw [hmo]
  clear hmo
  go_enter Try.func69, Try.ntmps69
  go_wp2_with fail
  refine HT.out.mono ?_
  rintro e u1 ⟨rfl, n1, b1⟩
  have HZ1 := Lib.hid (HZ.out.but b1 (by simp; omega))
  have HB1 := Lib.hid (show But [g] w u1 from (But.of HF.out).trans b1)
  have HN1 := Lib.hid n1
  have hu1 : w.heap.size < u1.heap.size := HZ1.out.lt
  clear n1 b1 HZ HT HF
  have d0 := HN1.out.cM d hd
  rw [HMO.out] at d0
  have hd0 : (0 : Int) ≤ (d : Int) := by omega
  have hd1 : (d : Int) < 8 := by omega
  have hp0 : (0 : Int) ≤ (p : Int) := by omega
  have hp1 : (p : Int) < 20 := by omega
  go_upto_region 5 with fail
  have HN2 := Lib.hid (HN1.out.fr (Fr.alloc u1 (.cells #[.int .i64 d, .int .i64 p, .int .i64 mo] 79)))
  have HZ2 := Lib.hid (HZ1.out.but (L := []) (But.of (Fr.alloc u1 (.cells #[.int .i64 d, .int .i64 p, .int .i64 mo] 79))) (by simp))
  have HA2 := Lib.hid (Box3.new u1 (.int .i64 d) (.int .i64 p) (.int .i64 mo) 79 _ rfl)
  have HB2 := Lib.hid (show But [g] w (u1.alloc (.cells #[.int .i64 d, .int .i64 p, .int .i64 mo] 79)) from HB1.out.trans (But.of (Fr.alloc _ _)))
  clear d0 HN1 HZ1 HB1
  generalize (u1.alloc (.cells #[.int .i64 d, .int .i64 p, .int .i64 mo] 79)) = u2 at *
  have d1 := HN2.out.cM d hd
  have d2 := HN2.out.fz d (by omega)
  go_upto_region 6 with fail
  have hs3 : But [g] u2 (u2.setCell ⟨g, d, none⟩ (.int .i64 p)) := (But.refl _ _).set _ _ _ (.inl (by simp))
  have HN3 := Lib.hid (HN2.out.setM d p hd)
  have HZ3 := Lib.hid (HZ2.out.but hs3 (by simp; omega))
  have HA3 := Lib.hid (HA2.out.but hs3 (by have := HN2.out.lt; simp; omega))
  have HB3 := Lib.hid (HB2.out.trans hs3)
  clear d1 d2 hs3 HN2 HZ2 HA2 HB2
  generalize (u2.setCell ⟨g, d, none⟩ (.int .i64 p)) = u3 at *
  have d1 := HN3.out.cH p hp
  have d2 := HN3.out.fz (42 + p) (by omega)
  go_upto_region 7 with fail
  have hs4 : But [g] u3 (u3.setCell ⟨g, 42 + p, none⟩ (.bool false)) := (But.refl _ _).set _ _ _ (.inl (by simp))
  have HN4 := Lib.hid (HN3.out.setH p false hp)
  have HZ4 := Lib.hid (HZ3.out.but hs4 (by simp; omega))
  have HA4 := Lib.hid (HA3.out.but hs4 (by simp; omega))
  have HB4 := Lib.hid (HB3.out.trans hs4)
  clear d1 d2 hs4 HN3 HZ3 HA3 HB3
  generalize (u3.setCell ⟨g, 42 + p, none⟩ (.bool false)) = u4 at *
  obtain ⟨_, z0, z1, z2, zf0, zf1, zf2⟩ := HZ4.out
  obtain ⟨_, a0, a1, a2, _, _, _⟩ := HA4.out
  have HL := Lib.hid hlt
  go_wp2_with fail
  refine bodyPost_ret (v := .tuple #[.agg #[.int .i64 d, .int .i64 p, .int .i64 mo], .bool true]) (by simp [results, Try.results69, go_sem, World.cell?_setCell_other, World.cell?_setCell_same, z0, z1, z2]) rfl ⟨rfl, ?_, ?_⟩
  · refine HN4.out.but (L := [w.heap.size]) ((((But.refl _ _).set _ _ _ (.inl (by simp))).set _ _ _ (.inl (by simp))).set _ _ _ (.inl (by simp))) (by have := HL.out; simp; omega)
  · exact ((HB4.out.set _ _ _ (.inr (by omega))).set _ _ _ (.inr (by omega))).set _ _ _ (.inr (by omega))
set_option maxRecDepth 8000 in
set_option maxHeartbeats 2000000 in
theorem impl_nput (M P : List Int) (f m : Nat) (V : List Int) (H : List Bool) (g p : Nat) (n : Int) (w : World) (h : Nb w g M P f m V H) (hp : p < 20) :
    Calls Try.prog 72 #[.pointer (some ⟨g, 0, none⟩), .int .i64 p, .int .i64 n] w fun e w' => e = .returned (.tuple #[]) ∧ Nb w' g M P f m (V.set p n) (H.set p true) ∧ But [g] w w' := by
  have HN := Lib.hid h
  have d1 := h.cV p hp
  have d2 := h.fz (22 + p) (by omega)
  have hp0 : (0 : Int) ≤ (p : Int) := by omega
  have hp1 : (p : Int) < 20 := by omega
  clear h
  go_enter Try.func72, Try.ntmps72
  go_upto_region 1 with fail
  have HN1 := Lib.hid (HN.out.setV p n hp)
  have HB1 := Lib.hid ((But.refl [g] w).set g (22 + p) (.int .i64 n) (.inl (by simp)))
  clear d1 d2 HN
  generalize (w.setCell ⟨g, 22 + p, none⟩ (.int .i64 n)) = u1 at *
  have d1 := HN1.out.cH p hp
  have d2 := HN1.out.fz (42 + p) (by omega)
  go_wp2
  (first | refine bodyPost_end (results_none rfl _ _ _) rfl ?_ | refine bodyPost_ret (results_none rfl _ _ _) rfl ?_)
  exact ⟨rfl, HN1.out.setH p true hp, HB1.out.set _ _ _ (.inl (by simp))⟩
set_option maxRecDepth 8000 in
set_option maxHeartbeats 4000000 in
theorem impl_undo (M P : List Int) (f m : Nat) (V : List Int) (H : List Bool) (g d : Nat) (p old : Int) (w : World) (h : Nb w g M P f m V H) (hd : d < 8) (hm : m < 12) :
    Calls Try.prog 77 #[.pointer (some ⟨g, 0, none⟩), .agg #[.int .i64 d, .int .i64 p, .int .i64 old]] w fun e w' => e = .returned (.tuple #[]) ∧ Nb w' g (M.set d old) (P.set ((f + m) % 12) p) f (m + 1) V H ∧ But [g] w w' := by
  have hlt := h.lt
  have HF := Lib.hid (Fr.alloc w (.cells #[.int .i64 d, .int .i64 p, .int .i64 old] 79))
  have HA := Lib.hid (Box3.new w (.int .i64 d) (.int .i64 p) (.int .i64 old) 79 _ rfl)
  have HN := Lib.hid (h.fr HF.out)
  clear h
  go_enter Try.func77, Try.ntmps77
  go_wp2_with fail
  generalize (w.alloc (.cells #[.int .i64 d, .int .i64 p, .int .i64 old] 79)) = u0 at *
  refine wp_region_lots 18 (fun i => if i = 8 then [g] else []) (fun _ _ => True) (fun i v u => match i with | 0 => v = .pointer (some ⟨g, 0, none⟩) | 1 => v = .pointer (some ⟨w.heap.size, 0, none⟩) | 2 => v = .int .i64 d | 3 => v = .pointer (some ⟨w.heap.size, 2, none⟩) | 4 => v = .int .i64 old | 5 => v = .pointer (some ⟨g, 0, none⟩) | 6 => v = .pointer (some ⟨g, 0, none⟩) | 7 => v = .pointer (some ⟨g, d, none⟩) | 8 => Nb u g (M.set d old) P f m V H | _ => True) ?mono (by kernel_rfl) (by kernel_rfl) rfl (by kernel_rfl) trivial ?step ?fin
  case mono =>
    intro i j v u u' hij hsz h hB
    rcases j with _ | _ | _ | _ | _ | _ | _ | _ | _ | j
    · exact h
    · exact h
    · exact h
    · exact h
    · exact h
    · exact h
    · exact h
    · exact h
    · rw [if_neg hij] at hB; exact h.but hB (by simp)
    · trivial
  case step =>
    intro i o ho
    rcases i with _ | _ | _ | _ | _ | _ | _ | _ | _ | i
    · cases ho
      intro fu act u hW hB hsz hL hdep
      replace hB := hB [g] (fun j hj hd k hk => by
        by_cases y8 : j = 8
        · rw [if_pos y8] at hk; simp at hk; simp [hk]
        rw [if_neg y8] at hk
        cases hk)
      obtain ⟨ysl, ha, hy⟩ := hL.puts [4, 5, 6, 7, 8, 9, 10, 11] (by kernel_rfl)
      clear hdep hL hy
      simp only [List.foldl, List.setIfInBounds_toArray, List.set_cons_succ, List.set_cons_zero] at ha
      subst ha
      refine wpOp_step rfl (fun K hK => ?_)
      go_simp
      exact hK _ _ ⟨_, rfl, (fun h => by cases h), rfl, But.refl _ _, trivial⟩
    · cases ho
      intro fu act u hW hB hsz hL hdep
      replace hB := hB [g] (fun j hj hd k hk => by
        by_cases y8 : j = 8
        · rw [if_pos y8] at hk; simp at hk; simp [hk]
        rw [if_neg y8] at hk
        cases hk)
      obtain ⟨ysl, ha, hy⟩ := hL.puts [4, 5, 6, 7, 8, 9, 10, 11] (by kernel_rfl)
      clear hdep hL hy
      simp only [List.foldl, List.setIfInBounds_toArray, List.set_cons_succ, List.set_cons_zero] at ha
      subst ha
      refine wpOp_step rfl (fun K hK => ?_)
      go_simp
      exact hK _ _ ⟨_, rfl, (fun h => by cases h), rfl, But.refl _ _, trivial⟩
    · cases ho
      intro fu act u hW hB hsz hL hdep
      replace hB := hB [] (fun j hj hd k hk => by
        by_cases x8 : j = 8
        · subst x8; exact (dep_no hd (by kernel_rfl)).elim
        rw [if_neg x8] at hk
        cases hk)
      have d1 := hdep { on := 1, ground := .data } (by simp) rfl _ rfl
      obtain ⟨ysl, ha, hy⟩ := hL.puts [4, 5, 6, 7, 8, 9, 10, 11] (by kernel_rfl)
      have e1 : ysl 5 = _ := (hy 5).symm.trans d1
      clear hdep hL hy d1
      simp only [List.foldl, List.setIfInBounds_toArray, List.set_cons_succ, List.set_cons_zero, e1] at ha
      subst ha
      clear e1
      obtain ⟨_, a0, a1, a2, _, _, _⟩ := HA.out.but hB (by simp)
      refine wpOp_step rfl (fun K hK => ?_)
      go_simp
      exact hK _ _ ⟨_, rfl, (fun h => by cases h), rfl, But.refl _ _, trivial⟩
    · cases ho
      intro fu act u hW hB hsz hL hdep
      replace hB := hB [g] (fun j hj hd k hk => by
        by_cases y8 : j = 8
        · rw [if_pos y8] at hk; simp at hk; simp [hk]
        rw [if_neg y8] at hk
        cases hk)
      obtain ⟨ysl, ha, hy⟩ := hL.puts [4, 5, 6, 7, 8, 9, 10, 11] (by kernel_rfl)
      clear hdep hL hy
      simp only [List.foldl, List.setIfInBounds_toArray, List.set_cons_succ, List.set_cons_zero] at ha
      subst ha
      refine wpOp_step rfl (fun K hK => ?_)
      go_simp
      exact hK _ _ ⟨_, rfl, (fun h => by cases h), rfl, But.refl _ _, trivial⟩
    · cases ho
      intro fu act u hW hB hsz hL hdep
      replace hB := hB [] (fun j hj hd k hk => by
        by_cases x8 : j = 8
        · subst x8; exact (dep_no hd (by kernel_rfl)).elim
        rw [if_neg x8] at hk
        cases hk)
      have d3 := hdep { on := 3, ground := .data } (by simp) rfl _ rfl
      obtain ⟨ysl, ha, hy⟩ := hL.puts [4, 5, 6, 7, 8, 9, 10, 11] (by kernel_rfl)
      have e3 : ysl 7 = _ := (hy 7).symm.trans d3
      clear hdep hL hy d3
      simp only [List.foldl, List.setIfInBounds_toArray, List.set_cons_succ, List.set_cons_zero, e3] at ha
      subst ha
      clear e3
      obtain ⟨_, a0, a1, a2, _, _, _⟩ := HA.out.but hB (by simp)
      refine wpOp_step rfl (fun K hK => ?_)
      go_simp
      exact hK _ _ ⟨_, rfl, (fun h => by cases h), rfl, But.refl _ _, trivial⟩
    · cases ho
      intro fu act u hW hB hsz hL hdep
      replace hB := hB [g] (fun j hj hd k hk => by
        by_cases y8 : j = 8
        · rw [if_pos y8] at hk; simp at hk; simp [hk]
        rw [if_neg y8] at hk
        cases hk)
      have d0 := hdep { on := 0, ground := .data } (by simp) rfl _ rfl
      obtain ⟨ysl, ha, hy⟩ := hL.puts [4, 5, 6, 7, 8, 9, 10, 11] (by kernel_rfl)
      have e0 : ysl 4 = _ := (hy 4).symm.trans d0
      clear hdep hL hy d0
      simp only [List.foldl, List.setIfInBounds_toArray, List.set_cons_succ, List.set_cons_zero, e0] at ha
      subst ha
      clear e0
      refine wpOp_step rfl (fun K hK => ?_)
      go_simp
      exact hK _ _ ⟨_, rfl, (fun h => by cases h), rfl, But.refl _ _, trivial⟩
    · cases ho
      intro fu act u hW hB hsz hL hdep
      replace hB := hB [g] (fun j hj hd k hk => by
        by_cases y8 : j = 8
        · rw [if_pos y8] at hk; simp at hk; simp [hk]
        rw [if_neg y8] at hk
        cases hk)
      have d5 := hdep { on := 5, ground := .data } (by simp) rfl _ rfl
      obtain ⟨ysl, ha, hy⟩ := hL.puts [4, 5, 6, 7, 8, 9, 10, 11] (by kernel_rfl)
      have e5 : ysl 9 = _ := (hy 9).symm.trans d5
      clear hdep hL hy d5
      simp only [List.foldl, List.setIfInBounds_toArray, List.set_cons_succ, List.set_cons_zero, e5] at ha
      subst ha
      clear e5
      refine wpOp_step rfl (fun K hK => ?_)
      go_simp
      exact hK _ _ ⟨_, rfl, (fun h => by cases h), rfl, But.refl _ _, trivial⟩
    · cases ho
      intro fu act u hW hB hsz hL hdep
      replace hB := hB [g] (fun j hj hd k hk => by
        by_cases y8 : j = 8
        · rw [if_pos y8] at hk; simp at hk; simp [hk]
        rw [if_neg y8] at hk
        cases hk)
      have d2 := hdep { on := 2, ground := .data } (by simp) rfl _ rfl
      have d6 := hdep { on := 6, ground := .data } (by simp) rfl _ rfl
      obtain ⟨ysl, ha, hy⟩ := hL.puts [4, 5, 6, 7, 8, 9, 10, 11] (by kernel_rfl)
      have e2 : ysl 6 = _ := (hy 6).symm.trans d2
      have e6 : ysl 10 = _ := (hy 10).symm.trans d6
      clear hdep hL hy d2 d6
      simp only [List.foldl, List.setIfInBounds_toArray, List.set_cons_succ, List.set_cons_zero, e2, e6] at ha
      subst ha
      clear e2 e6
      have hk0 : (0 : Int) ≤ (d : Int) := by omega
      have hk1 : (d : Int) < 8 := by omega
      refine wpOp_step rfl (fun K hK => ?_)
      go_simp
      exact hK _ _ ⟨_, rfl, (fun h => by cases h), rfl, But.refl _ _, trivial⟩
    · cases ho
      intro fu act u hW hB hsz hL hdep
      replace hB := hB [] (fun j hj hd k hk => by
        by_cases x8 : j = 8
        · exact absurd x8 hj
        rw [if_neg x8] at hk
        cases hk)
      have d4 := hdep { on := 4, ground := .data } (by simp) rfl _ rfl
      have d7 := hdep { on := 7, ground := .data } (by simp) rfl _ rfl
      obtain ⟨ysl, ha, hy⟩ := hL.puts [4, 5, 6, 7, 8, 9, 10, 11] (by kernel_rfl)
      have e4 : ysl 8 = _ := (hy 8).symm.trans d4
      have e7 : ysl 11 = _ := (hy 11).symm.trans d7
      clear hdep hL hy d4 d7
      simp only [List.foldl, List.setIfInBounds_toArray, List.set_cons_succ, List.set_cons_zero, e4, e7] at ha
      subst ha
      clear e4 e7
      have h1 := HN.out.but hB (by simp)
      have d1 := h1.cM d hd
      have d2 := h1.fz d (by omega)
      refine wpOp_step rfl (fun K hK => ?_)
      go_simp
      exact hK _ _ ⟨_, rfl, (fun _ => rfl), h1.setM d old hd, (But.refl _ _).set _ _ _ (.inl (by simp)), trivial⟩
    · exact absurd ho (by simp)
  case fin =>
    intro act u hW hsz hB hL hsf
    replace hB := hB [g] (fun j k hk => by
      by_cases y8 : j = 8
      · rw [if_pos y8] at hk; simp at hk; simp [hk]
      rw [if_neg y8] at hk
      cases hk)
    have d8 := hsf 8 _ rfl
    obtain ⟨ysl, ha, hy⟩ := hL.puts [4, 5, 6, 7, 8, 9, 10, 11] (by kernel_rfl)
    clear hL hsf hy
    simp only [List.foldl, List.setIfInBounds_toArray, List.set_cons_succ, List.set_cons_zero] at ha
    subst ha
    have HB1 := Lib.hid (show But [g] w u from (But.of HF.out).trans hB)
    have HN1 := Lib.hid d8
    have HA1 := Lib.hid (HA.out.but hB (by simp; omega))
    clear hB d8 hW hsz
    go_wp2_with fail
    refine wp_region_lots 18 (fun i => if i = 5 then [g] else []) (fun _ _ => True) (fun i v u => match i with | 0 => v = .pointer (some ⟨g, 0, none⟩) | 1 => v = .pointer (some ⟨g, 0, none⟩) | 2 => v = .pointer (some ⟨g, 8, none⟩) | 3 => v = .pointer (some ⟨w.heap.size, 1, none⟩) | 4 => v = .int .i64 p | 5 => Nb u g (M.set d old) (P.set ((f + m) % 12) p) f (m + 1) V H ∧ True | _ => True) ?mono (by kernel_rfl) (by kernel_rfl) rfl (by kernel_rfl) trivial ?step ?fin
    case mono =>
      intro i j v u u' hij hsz h hB
      rcases j with _ | _ | _ | _ | _ | _ | j
      · exact h
      · exact h
      · exact h
      · exact h
      · exact h
      · rw [if_neg hij] at hB; exact ⟨h.1.but hB (by simp), trivial⟩
      · trivial
    case step =>
      intro i o ho
      rcases i with _ | _ | _ | _ | _ | _ | i
      · cases ho
        intro fu act u hW hB hsz hL hdep
        replace hB := hB [g] (fun j hj hd k hk => by
          by_cases y5 : j = 5
          · rw [if_pos y5] at hk; simp at hk; simp [hk]
          rw [if_neg y5] at hk
          cases hk)
        obtain ⟨ysl, ha, hy⟩ := hL.puts [12, 13, 14, 15, 16, 17] (by kernel_rfl)
        clear hdep hL hy
        simp only [List.foldl, List.setIfInBounds_toArray, List.set_cons_succ, List.set_cons_zero] at ha
        subst ha
        refine wpOp_step rfl (fun K hK => ?_)
        go_simp
        exact hK _ _ ⟨_, rfl, (fun h => by cases h), rfl, But.refl _ _, trivial⟩
      · cases ho
        intro fu act u hW hB hsz hL hdep
        replace hB := hB [g] (fun j hj hd k hk => by
          by_cases y5 : j = 5
          · rw [if_pos y5] at hk; simp at hk; simp [hk]
          rw [if_neg y5] at hk
          cases hk)
        have d0 := hdep { on := 0, ground := .data } (by simp) rfl _ rfl
        obtain ⟨ysl, ha, hy⟩ := hL.puts [12, 13, 14, 15, 16, 17] (by kernel_rfl)
        have e0 : ysl 12 = _ := (hy 12).symm.trans d0
        clear hdep hL hy d0
        simp only [List.foldl, List.setIfInBounds_toArray, List.set_cons_succ, List.set_cons_zero, e0] at ha
        subst ha
        clear e0
        refine wpOp_step rfl (fun K hK => ?_)
        go_simp
        exact hK _ _ ⟨_, rfl, (fun h => by cases h), rfl, But.refl _ _, trivial⟩
      · cases ho
        intro fu act u hW hB hsz hL hdep
        replace hB := hB [g] (fun j hj hd k hk => by
          by_cases y5 : j = 5
          · rw [if_pos y5] at hk; simp at hk; simp [hk]
          rw [if_neg y5] at hk
          cases hk)
        have d1 := hdep { on := 1, ground := .data } (by simp) rfl _ rfl
        obtain ⟨ysl, ha, hy⟩ := hL.puts [12, 13, 14, 15, 16, 17] (by kernel_rfl)
        have e1 : ysl 13 = _ := (hy 13).symm.trans d1
        clear hdep hL hy d1
        simp only [List.foldl, List.setIfInBounds_toArray, List.set_cons_succ, List.set_cons_zero, e1] at ha
        subst ha
        clear e1
        refine wpOp_step rfl (fun K hK => ?_)
        go_simp
        exact hK _ _ ⟨_, rfl, (fun h => by cases h), rfl, But.refl _ _, trivial⟩
      · cases ho
        intro fu act u hW hB hsz hL hdep
        replace hB := hB [g] (fun j hj hd k hk => by
          by_cases y5 : j = 5
          · rw [if_pos y5] at hk; simp at hk; simp [hk]
          rw [if_neg y5] at hk
          cases hk)
        obtain ⟨ysl, ha, hy⟩ := hL.puts [12, 13, 14, 15, 16, 17] (by kernel_rfl)
        clear hdep hL hy
        simp only [List.foldl, List.setIfInBounds_toArray, List.set_cons_succ, List.set_cons_zero] at ha
        subst ha
        refine wpOp_step rfl (fun K hK => ?_)
        go_simp
        exact hK _ _ ⟨_, rfl, (fun h => by cases h), rfl, But.refl _ _, trivial⟩
      · cases ho
        intro fu act u hW hB hsz hL hdep
        replace hB := hB [] (fun j hj hd k hk => by
          by_cases x5 : j = 5
          · subst x5; exact (dep_no hd (by kernel_rfl)).elim
          rw [if_neg x5] at hk
          cases hk)
        have d3 := hdep { on := 3, ground := .data } (by simp) rfl _ rfl
        obtain ⟨ysl, ha, hy⟩ := hL.puts [12, 13, 14, 15, 16, 17] (by kernel_rfl)
        have e3 : ysl 15 = _ := (hy 15).symm.trans d3
        clear hdep hL hy d3
        simp only [List.foldl, List.setIfInBounds_toArray, List.set_cons_succ, List.set_cons_zero, e3] at ha
        subst ha
        clear e3
        obtain ⟨_, a0, a1, a2, _, _, _⟩ := HA1.out.but hB (by simp)
        refine wpOp_step rfl (fun K hK => ?_)
        go_simp
        exact hK _ _ ⟨_, rfl, (fun h => by cases h), rfl, But.refl _ _, trivial⟩
      · cases ho
        intro fu act u hW hB hsz hL hdep
        replace hB := hB [] (fun j hj hd k hk => by
          by_cases x5 : j = 5
          · exact absurd x5 hj
          rw [if_neg x5] at hk
          cases hk)
        have d2 := hdep { on := 2, ground := .data } (by simp) rfl _ rfl
        have d4 := hdep { on := 4, ground := .data } (by simp) rfl _ rfl
        obtain ⟨ysl, ha, hy⟩ := hL.puts [12, 13, 14, 15, 16, 17] (by kernel_rfl)
        have e2 : ysl 14 = _ := (hy 14).symm.trans d2
        have e4 : ysl 16 = _ := (hy 16).symm.trans d4
        clear hdep hL hy d2 d4
        simp only [List.foldl, List.setIfInBounds_toArray, List.set_cons_succ, List.set_cons_zero, e2, e4] at ha
        subst ha
        clear e2 e4
        refine wpOp_step rfl (fun K hK => ?_)
        go_simp
        refine (impl_ring_put (M.set d old) P f m V H g p u (HN1.out.but hB (by simp)) hm).mono ?_
        rintro e u' ⟨rfl, n', b'⟩
        go_simp
        exact hK _ _ ⟨_, rfl, (fun h => by cases h), ⟨n', trivial⟩, b', trivial⟩
      · exact absurd ho (by simp)
    case fin =>
      intro act u hW hsz hB hL hsf
      replace hB := hB [g] (fun j k hk => by
        by_cases y5 : j = 5
        · rw [if_pos y5] at hk; simp at hk; simp [hk]
        rw [if_neg y5] at hk
        cases hk)
      have d5 := hsf 5 _ rfl
      obtain ⟨ysl, ha, hy⟩ := hL.puts [12, 13, 14, 15, 16, 17] (by kernel_rfl)
      obtain ⟨n5, _⟩ := d5
      clear hL hsf hy
      simp only [List.foldl, List.setIfInBounds_toArray, List.set_cons_succ, List.set_cons_zero] at ha
      subst ha
      have HB2 := Lib.hid (show But [g] w u from HB1.out.trans hB)
      clear hB
      go_wp2
      (first | refine bodyPost_end (results_none rfl _ _ _) rfl ?_ | refine bodyPost_ret (results_none rfl _ _ _) rfl ?_)
      exact ⟨rfl, n5, HB2.out⟩

end Go.Proofs.Ytddllgjieccikaa
