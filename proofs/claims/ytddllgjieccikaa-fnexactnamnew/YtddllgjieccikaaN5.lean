/- The program's arrays of places, and its ring. -/
import Derived.Test.YtddllgjieccikaaN4
import Derived.Test.YtddllgjieccikaaRegion4
namespace Go.Proofs.Ytddllgjieccikaa
open Go.RowKit
set_option linter.unusedVariables false
set_option linter.unusedSimpArgs false
/-- Arrays of places, in one block that may be written: what holds the registers; a ring: where its first is, how many; words; whether they are there. -/
structure Nb (u : World) (g : Nat) (M P : List Int) (f m : Nat) (V : List Int) (H : List Bool) : Prop where
  lt : g < u.heap.size
  Ml : M.length = 8
  Pl : P.length = 12
  Vl : V.length = 20
  Hl : H.length = 20
  f12 : f < 12
  m12 : m ≤ 12
  cM : ∀ i, i < 8 → u.cell? ⟨g, i, none⟩ = some (.int .i64 (M.getD i 0))
  cP : ∀ i, i < 12 → u.cell? ⟨g, 8 + i, none⟩ = some (.int .i64 (P.getD i 0))
  cf : u.cell? ⟨g, 20, none⟩ = some (.int .i64 f)
  cm : u.cell? ⟨g, 21, none⟩ = some (.int .i64 m)
  cV : ∀ i, i < 20 → u.cell? ⟨g, 22 + i, none⟩ = some (.int .i64 (V.getD i 0))
  cH : ∀ i, i < 20 → u.cell? ⟨g, 42 + i, none⟩ = some (.bool (H.getD i false))
  fz : ∀ i, i < 62 → u.frozen? ⟨g, i, none⟩ = false
theorem Nb.but {L : List Nat} {u u' : World} {g : Nat} {M P : List Int} {f m : Nat} {V : List Int} {H : List Bool} (h : Nb u g M P f m V H) (k : But L u u') (hn : g ∉ L) : Nb u' g M P f m V H :=
  ⟨Nat.lt_of_lt_of_le h.lt k.size, h.Ml, h.Pl, h.Vl, h.Hl, h.f12, h.m12, fun i hi => by rw [k.cell h.lt hn]; exact h.cM i hi, fun i hi => by rw [k.cell h.lt hn]; exact h.cP i hi, by rw [k.cell h.lt hn]; exact h.cf, by rw [k.cell h.lt hn]; exact h.cm,
   fun i hi => by rw [k.cell h.lt hn]; exact h.cV i hi, fun i hi => by rw [k.cell h.lt hn]; exact h.cH i hi, fun i hi => by rw [k.frozen h.lt hn]; exact h.fz i hi⟩
theorem Nb.fr {u u' : World} {g : Nat} {M P : List Int} {f m : Nat} {V : List Int} {H : List Bool} (h : Nb u g M P f m V H) (k : Fr u u') : Nb u' g M P f m V H := h.but (L := []) (But.of k) (by simp)
theorem oth {u : World} {g i j : Nat} {v : Value} (h : i ≠ j) : (u.setCell ⟨g, j, none⟩ v).cell? ⟨g, i, none⟩ = u.cell? ⟨g, i, none⟩ := World.cell?_setCell_other _ _ _ _ (by simp; try omega)
theorem Nb.setM {u : World} {g : Nat} {M P : List Int} {f m : Nat} {V : List Int} {H : List Bool} (h : Nb u g M P f m V H) (k : Nat) (v : Int) (hk : k < 8) : Nb (u.setCell ⟨g, k, none⟩ (.int .i64 v)) g (M.set k v) P f m V H := by
  exact ⟨by have := h.lt; simpa [World.setCell] using this, by rw [List.length_set]; exact h.Ml, h.Pl, h.Vl, h.Hl, h.f12, h.m12, fun i hi => by
    rw [getD_set]
    by_cases e : k = i
    · subst e
      rw [World.cell?_setCell_same _ _ _ (h.cM k hk), if_pos ⟨rfl, by rw [h.Ml]; exact hk⟩]
    · rw [oth (by omega), if_neg (fun h => e h.1)]
      exact h.cM i hi, fun i hi => by rw [oth (by omega)]; exact h.cP i hi, by rw [oth (by omega)]; exact h.cf, by rw [oth (by omega)]; exact h.cm, fun i hi => by rw [oth (by omega)]; exact h.cV i hi, fun i hi => by rw [oth (by omega)]; exact h.cH i hi, fun i hi => by rw [World.frozen?_setCell]; exact h.fz i hi⟩
theorem Nb.setP {u : World} {g : Nat} {M P : List Int} {f m : Nat} {V : List Int} {H : List Bool} (h : Nb u g M P f m V H) (k : Nat) (v : Int) (hk : k < 12) : Nb (u.setCell ⟨g, 8 + k, none⟩ (.int .i64 v)) g M (P.set k v) f m V H := by
  exact ⟨by have := h.lt; simpa [World.setCell] using this, h.Ml, by rw [List.length_set]; exact h.Pl, h.Vl, h.Hl, h.f12, h.m12, fun i hi => by rw [oth (by omega)]; exact h.cM i hi, fun i hi => by
    rw [getD_set]
    by_cases e : k = i
    · subst e
      rw [World.cell?_setCell_same _ _ _ (h.cP k hk), if_pos ⟨rfl, by rw [h.Pl]; exact hk⟩]
    · rw [oth (by omega), if_neg (fun h => e h.1)]
      exact h.cP i hi, by rw [oth (by omega)]; exact h.cf, by rw [oth (by omega)]; exact h.cm, fun i hi => by rw [oth (by omega)]; exact h.cV i hi, fun i hi => by rw [oth (by omega)]; exact h.cH i hi, fun i hi => by rw [World.frozen?_setCell]; exact h.fz i hi⟩
theorem Nb.setf {u : World} {g : Nat} {M P : List Int} {f m : Nat} {V : List Int} {H : List Bool} (h : Nb u g M P f m V H) (k : Nat) (hk : k < 12) : Nb (u.setCell ⟨g, 20, none⟩ (.int .i64 (k : Int))) g M P k m V H := by
  exact ⟨by have := h.lt; simpa [World.setCell] using this, h.Ml, h.Pl, h.Vl, h.Hl, hk, h.m12, fun i hi => by rw [oth (by omega)]; exact h.cM i hi, fun i hi => by rw [oth (by omega)]; exact h.cP i hi, World.cell?_setCell_same _ _ _ h.cf, by rw [oth (by omega)]; exact h.cm, fun i hi => by rw [oth (by omega)]; exact h.cV i hi, fun i hi => by rw [oth (by omega)]; exact h.cH i hi, fun i hi => by rw [World.frozen?_setCell]; exact h.fz i hi⟩
theorem Nb.setm {u : World} {g : Nat} {M P : List Int} {f m : Nat} {V : List Int} {H : List Bool} (h : Nb u g M P f m V H) (k : Nat) (hk : k ≤ 12) : Nb (u.setCell ⟨g, 21, none⟩ (.int .i64 (k : Int))) g M P f k V H := by
  exact ⟨by have := h.lt; simpa [World.setCell] using this, h.Ml, h.Pl, h.Vl, h.Hl, h.f12, hk, fun i hi => by rw [oth (by omega)]; exact h.cM i hi, fun i hi => by rw [oth (by omega)]; exact h.cP i hi, by rw [oth (by omega)]; exact h.cf, World.cell?_setCell_same _ _ _ h.cm, fun i hi => by rw [oth (by omega)]; exact h.cV i hi, fun i hi => by rw [oth (by omega)]; exact h.cH i hi, fun i hi => by rw [World.frozen?_setCell]; exact h.fz i hi⟩
theorem Nb.setV {u : World} {g : Nat} {M P : List Int} {f m : Nat} {V : List Int} {H : List Bool} (h : Nb u g M P f m V H) (k : Nat) (v : Int) (hk : k < 20) : Nb (u.setCell ⟨g, 22 + k, none⟩ (.int .i64 v)) g M P f m (V.set k v) H := by
  exact ⟨by have := h.lt; simpa [World.setCell] using this, h.Ml, h.Pl, by rw [List.length_set]; exact h.Vl, h.Hl, h.f12, h.m12, fun i hi => by rw [oth (by omega)]; exact h.cM i hi, fun i hi => by rw [oth (by omega)]; exact h.cP i hi, by rw [oth (by omega)]; exact h.cf, by rw [oth (by omega)]; exact h.cm, fun i hi => by
    rw [getD_set]
    by_cases e : k = i
    · subst e
      rw [World.cell?_setCell_same _ _ _ (h.cV k hk), if_pos ⟨rfl, by rw [h.Vl]; exact hk⟩]
    · rw [oth (by omega), if_neg (fun h => e h.1)]
      exact h.cV i hi, fun i hi => by rw [oth (by omega)]; exact h.cH i hi, fun i hi => by rw [World.frozen?_setCell]; exact h.fz i hi⟩
theorem Nb.setH {u : World} {g : Nat} {M P : List Int} {f m : Nat} {V : List Int} {H : List Bool} (h : Nb u g M P f m V H) (k : Nat) (v : Bool) (hk : k < 20) : Nb (u.setCell ⟨g, 42 + k, none⟩ (.bool v)) g M P f m V (H.set k v) := by
  exact ⟨by have := h.lt; simpa [World.setCell] using this, h.Ml, h.Pl, h.Vl, by rw [List.length_set]; exact h.Hl, h.f12, h.m12, fun i hi => by rw [oth (by omega)]; exact h.cM i hi, fun i hi => by rw [oth (by omega)]; exact h.cP i hi, by rw [oth (by omega)]; exact h.cf, by rw [oth (by omega)]; exact h.cm, fun i hi => by rw [oth (by omega)]; exact h.cV i hi, fun i hi => by
    rw [getD_setB]
    by_cases e : k = i
    · subst e
      rw [World.cell?_setCell_same _ _ _ (h.cH k hk), if_pos ⟨rfl, by rw [h.Hl]; exact hk⟩]
    · rw [oth (by omega), if_neg (fun h => e h.1)]
      exact h.cH i hi, fun i hi => by rw [World.frozen?_setCell]; exact h.fz i hi⟩
/-- What the ring holds, in order. -/
def ringL (P : List Int) (f m : Nat) : List Int := (List.range m).map fun (k : Nat) => P.getD ((f + k) % 12) 0
theorem ringL_len (P : List Int) (f m : Nat) : (ringL P f m).length = m := by simp [ringL]
theorem ringL_at (P : List Int) (f m i : Nat) (h : i < m) : (ringL P f m).getD i 0 = P.getD ((f + i) % 12) 0 := by simp [ringL, List.getD_eq_getElem?_getD, h]
theorem ringL_take (P : List Int) (f m : Nat) : ringL P ((f + 1) % 12) m = (ringL P f (m + 1)).drop 1 := by
  apply List.ext_getElem
  · simp [ringL]
  · intro i h1 h2
    simp only [ringL, List.getElem_map, List.getElem_range, List.getElem_drop]
    congr 1
    omega
theorem ringL_put (P : List Int) (f m : Nat) (v : Int) (hp : P.length = 12) (hf : f < 12) (hm : m < 12) : ringL (P.set ((f + m) % 12) v) f (m + 1) = ringL P f m ++ [v] := by
  apply List.ext_getElem
  · simp [ringL]
  · intro i h1 h2
    have hi : i < m + 1 := by simpa [ringL] using h1
    rw [List.getElem_append]
    simp only [ringL, List.getElem_map, List.getElem_range]
    rw [getD_set]
    by_cases e : i < m
    · rw [if_neg (by omega), dif_pos (by simpa [ringL] using e)]
    · have e2 : i = m := by omega
      subst e2
      rw [if_pos ⟨rfl, by rw [hp]; omega⟩, dif_neg (by simp)]
      simp
set_option maxHeartbeats 1000000 in
theorem impl_place (M P : List Int) (f m : Nat) (V : List Int) (H : List Bool) (g i : Nat) (w : World) (h : Nb w g M P f m V H) (hi : i ≤ 100) :
    Calls Try.prog 84 #[.pointer (some ⟨g, 8, none⟩), .int .i64 i] w fun e w' => e = .returned (.int .i64 (((f + i) % 12 : Nat) : Int)) ∧ w = w' := by
  have d0 := h.cf
  have hf := h.f12
  clear h
  go_enter Try.func84, Try.ntmps84
  go_wp2
  go_ret
  exact ⟨ret_int (by push_cast; rfl), rfl⟩
set_option maxRecDepth 8000 in
set_option maxHeartbeats 2000000 in
theorem impl_ring_put (M P : List Int) (f m : Nat) (V : List Int) (H : List Bool) (g : Nat) (v0 : Int) (w : World) (h : Nb w g M P f m V H) (hm : m < 12) :
    Calls Try.prog 49 #[.pointer (some ⟨g, 8, none⟩), .int .i64 v0] w fun e w' => e = .returned (.tuple #[]) ∧ Nb w' g M (P.set ((f + m) % 12) v0) f (m + 1) V H ∧ But [g] w w' := by
  have HN := Lib.hid h
  have hf := h.f12
  have HP := Lib.hid (fun (u : World) (hB : But [] w u) => impl_place M P f m V H g m u (h.but hB (by simp)) (by omega))
  obtain ⟨k, hk⟩ : ∃ k, (f + m) % 12 = k := ⟨_, rfl⟩
  have hk12 : k < 12 := by omega
  rw [hk] at HP ⊢
  clear h hk
  go_enter Try.func49, Try.ntmps49
  go_upto_region 0 with fail
  refine wp_region_lots 22 (fun i => if i = 11 then [g] else []) (fun _ _ => True) (fun i v u => match i with | 0 => v = .pointer (some ⟨g, 8, none⟩) | 1 => v = .pointer (some ⟨g, 8, none⟩) | 2 => v = .pointer (some ⟨g, 8, none⟩) | 3 => v = .pointer (some ⟨g, 8, none⟩) | 4 => v = .pointer (some ⟨g, 21, none⟩) | 5 => v = .int .i64 m | 6 => v = .int .i64 k | 7 => v = .int .i64 v0 | 8 => v = .pointer (some ⟨g, 8, none⟩) | 9 => v = .pointer (some ⟨g, 8, none⟩) | 10 => v = .pointer (some ⟨g, 8 + k, none⟩) | 11 => Nb u g M (P.set k v0) f m V H | _ => True) ?mono (by kernel_rfl) (by kernel_rfl) rfl (by kernel_rfl) trivial ?step ?fin
  case mono =>
    intro i j v u u' hij hsz h hB
    rcases j with _ | _ | _ | _ | _ | _ | _ | _ | _ | _ | _ | _ | j
    · exact h
    · exact h
    · exact h
    · exact h
    · exact h
    · exact h
    · exact h
    · exact h
    · exact h
    · exact h
    · exact h
    · rw [if_neg hij] at hB; exact h.but hB (by simp)
    · trivial
  case step =>
    intro i o ho
    rcases i with _ | _ | _ | _ | _ | _ | _ | _ | _ | _ | _ | _ | i
    · cases ho
      intro fu act u hW hB hsz hL hdep
      replace hB := hB [g] (fun j hj hd k hk => by
        by_cases y11 : j = 11
        · rw [if_pos y11] at hk; simp at hk; simp [hk]
        rw [if_neg y11] at hk
        cases hk)
      obtain ⟨ysl, ha, hy⟩ := hL.puts [4, 5, 6, 7, 8, 9, 10, 11, 12, 13, 14] (by kernel_rfl)
      clear hdep hL hy
      simp only [List.foldl, List.setIfInBounds_toArray, List.set_cons_succ, List.set_cons_zero] at ha
      subst ha
      refine wpOp_step rfl (fun K hK => ?_)
      go_simp
      exact hK _ _ ⟨_, rfl, (fun h => by cases h), rfl, But.refl _ _, trivial⟩
    · cases ho
      intro fu act u hW hB hsz hL hdep
      replace hB := hB [g] (fun j hj hd k hk => by
        by_cases y11 : j = 11
        · rw [if_pos y11] at hk; simp at hk; simp [hk]
        rw [if_neg y11] at hk
        cases hk)
      obtain ⟨ysl, ha, hy⟩ := hL.puts [4, 5, 6, 7, 8, 9, 10, 11, 12, 13, 14] (by kernel_rfl)
      clear hdep hL hy
      simp only [List.foldl, List.setIfInBounds_toArray, List.set_cons_succ, List.set_cons_zero] at ha
      subst ha
      refine wpOp_step rfl (fun K hK => ?_)
      go_simp
      exact hK _ _ ⟨_, rfl, (fun h => by cases h), rfl, But.refl _ _, trivial⟩
    · cases ho
      intro fu act u hW hB hsz hL hdep
      replace hB := hB [g] (fun j hj hd k hk => by
        by_cases y11 : j = 11
        · rw [if_pos y11] at hk; simp at hk; simp [hk]
        rw [if_neg y11] at hk
        cases hk)
      obtain ⟨ysl, ha, hy⟩ := hL.puts [4, 5, 6, 7, 8, 9, 10, 11, 12, 13, 14] (by kernel_rfl)
      clear hdep hL hy
      simp only [List.foldl, List.setIfInBounds_toArray, List.set_cons_succ, List.set_cons_zero] at ha
      subst ha
      refine wpOp_step rfl (fun K hK => ?_)
      go_simp
      exact hK _ _ ⟨_, rfl, (fun h => by cases h), rfl, But.refl _ _, trivial⟩
    · cases ho
      intro fu act u hW hB hsz hL hdep
      replace hB := hB [g] (fun j hj hd k hk => by
        by_cases y11 : j = 11
        · rw [if_pos y11] at hk; simp at hk; simp [hk]
        rw [if_neg y11] at hk
        cases hk)
      have d2 := hdep { on := 2, ground := .data } (by simp) rfl _ rfl
      obtain ⟨ysl, ha, hy⟩ := hL.puts [4, 5, 6, 7, 8, 9, 10, 11, 12, 13, 14] (by kernel_rfl)
      have e2 : ysl 6 = _ := (hy 6).symm.trans d2
      clear hdep hL hy d2
      simp only [List.foldl, List.setIfInBounds_toArray, List.set_cons_succ, List.set_cons_zero, e2] at ha
      subst ha
      clear e2
      refine wpOp_step rfl (fun K hK => ?_)
      go_simp
      exact hK _ _ ⟨_, rfl, (fun h => by cases h), rfl, But.refl _ _, trivial⟩
    · cases ho
      intro fu act u hW hB hsz hL hdep
      replace hB := hB [g] (fun j hj hd k hk => by
        by_cases y11 : j = 11
        · rw [if_pos y11] at hk; simp at hk; simp [hk]
        rw [if_neg y11] at hk
        cases hk)
      have d3 := hdep { on := 3, ground := .data } (by simp) rfl _ rfl
      obtain ⟨ysl, ha, hy⟩ := hL.puts [4, 5, 6, 7, 8, 9, 10, 11, 12, 13, 14] (by kernel_rfl)
      have e3 : ysl 7 = _ := (hy 7).symm.trans d3
      clear hdep hL hy d3
      simp only [List.foldl, List.setIfInBounds_toArray, List.set_cons_succ, List.set_cons_zero, e3] at ha
      subst ha
      clear e3
      refine wpOp_step rfl (fun K hK => ?_)
      go_simp
      exact hK _ _ ⟨_, rfl, (fun h => by cases h), rfl, But.refl _ _, trivial⟩
    · cases ho
      intro fu act u hW hB hsz hL hdep
      replace hB := hB [] (fun j hj hd k hk => by
        by_cases x11 : j = 11
        · subst x11; exact (dep_no hd (by kernel_rfl)).elim
        rw [if_neg x11] at hk
        cases hk)
      have d4 := hdep { on := 4, ground := .data } (by simp) rfl _ rfl
      obtain ⟨ysl, ha, hy⟩ := hL.puts [4, 5, 6, 7, 8, 9, 10, 11, 12, 13, 14] (by kernel_rfl)
      have e4 : ysl 8 = _ := (hy 8).symm.trans d4
      clear hdep hL hy d4
      simp only [List.foldl, List.setIfInBounds_toArray, List.set_cons_succ, List.set_cons_zero, e4] at ha
      subst ha
      clear e4
      have d0 := (HN.out.but hB (by simp)).cm
      refine wpOp_step rfl (fun K hK => ?_)
      go_simp
      exact hK _ _ ⟨_, rfl, (fun h => by cases h), rfl, But.refl _ _, trivial⟩
    · cases ho
      intro fu act u hW hB hsz hL hdep
      replace hB := hB [] (fun j hj hd k hk => by
        by_cases x11 : j = 11
        · subst x11; exact (dep_no hd (by kernel_rfl)).elim
        rw [if_neg x11] at hk
        cases hk)
      have d1 := hdep { on := 1, ground := .data } (by simp) rfl _ rfl
      have d5 := hdep { on := 5, ground := .data } (by simp) rfl _ rfl
      obtain ⟨ysl, ha, hy⟩ := hL.puts [4, 5, 6, 7, 8, 9, 10, 11, 12, 13, 14] (by kernel_rfl)
      have e1 : ysl 5 = _ := (hy 5).symm.trans d1
      have e5 : ysl 9 = _ := (hy 9).symm.trans d5
      clear hdep hL hy d1 d5
      simp only [List.foldl, List.setIfInBounds_toArray, List.set_cons_succ, List.set_cons_zero, e1, e5] at ha
      subst ha
      clear e1 e5
      refine wpOp_step rfl (fun K hK => ?_)
      go_simp
      refine (HP.out u hB).mono ?_
      rintro e u' ⟨rfl, rfl⟩
      go_simp
      exact hK _ _ ⟨_, rfl, (fun h => by cases h), rfl, But.refl _ _, trivial⟩
    · cases ho
      intro fu act u hW hB hsz hL hdep
      replace hB := hB [g] (fun j hj hd k hk => by
        by_cases y11 : j = 11
        · rw [if_pos y11] at hk; simp at hk; simp [hk]
        rw [if_neg y11] at hk
        cases hk)
      obtain ⟨ysl, ha, hy⟩ := hL.puts [4, 5, 6, 7, 8, 9, 10, 11, 12, 13, 14] (by kernel_rfl)
      clear hdep hL hy
      simp only [List.foldl, List.setIfInBounds_toArray, List.set_cons_succ, List.set_cons_zero] at ha
      subst ha
      refine wpOp_step rfl (fun K hK => ?_)
      go_simp
      exact hK _ _ ⟨_, rfl, (fun h => by cases h), rfl, But.refl _ _, trivial⟩
    · cases ho
      intro fu act u hW hB hsz hL hdep
      replace hB := hB [g] (fun j hj hd k hk => by
        by_cases y11 : j = 11
        · rw [if_pos y11] at hk; simp at hk; simp [hk]
        rw [if_neg y11] at hk
        cases hk)
      have d0 := hdep { on := 0, ground := .data } (by simp) rfl _ rfl
      obtain ⟨ysl, ha, hy⟩ := hL.puts [4, 5, 6, 7, 8, 9, 10, 11, 12, 13, 14] (by kernel_rfl)
      have e0 : ysl 4 = _ := (hy 4).symm.trans d0
      clear hdep hL hy d0
      simp only [List.foldl, List.setIfInBounds_toArray, List.set_cons_succ, List.set_cons_zero, e0] at ha
      subst ha
      clear e0
      refine wpOp_step rfl (fun K hK => ?_)
      go_simp
      exact hK _ _ ⟨_, rfl, (fun h => by cases h), rfl, But.refl _ _, trivial⟩
    · cases ho
      intro fu act u hW hB hsz hL hdep
      replace hB := hB [g] (fun j hj hd k hk => by
        by_cases y11 : j = 11
        · rw [if_pos y11] at hk; simp at hk; simp [hk]
        rw [if_neg y11] at hk
        cases hk)
      have d8 := hdep { on := 8, ground := .data } (by simp) rfl _ rfl
      obtain ⟨ysl, ha, hy⟩ := hL.puts [4, 5, 6, 7, 8, 9, 10, 11, 12, 13, 14] (by kernel_rfl)
      have e8 : ysl 12 = _ := (hy 12).symm.trans d8
      clear hdep hL hy d8
      simp only [List.foldl, List.setIfInBounds_toArray, List.set_cons_succ, List.set_cons_zero, e8] at ha
      subst ha
      clear e8
      refine wpOp_step rfl (fun K hK => ?_)
      go_simp
      exact hK _ _ ⟨_, rfl, (fun h => by cases h), rfl, But.refl _ _, trivial⟩
    · cases ho
      intro fu act u hW hB hsz hL hdep
      replace hB := hB [g] (fun j hj hd k hk => by
        by_cases y11 : j = 11
        · rw [if_pos y11] at hk; simp at hk; simp [hk]
        rw [if_neg y11] at hk
        cases hk)
      have d6 := hdep { on := 6, ground := .data } (by simp) rfl _ rfl
      have d9 := hdep { on := 9, ground := .data } (by simp) rfl _ rfl
      obtain ⟨ysl, ha, hy⟩ := hL.puts [4, 5, 6, 7, 8, 9, 10, 11, 12, 13, 14] (by kernel_rfl)
      have e6 : ysl 10 = _ := (hy 10).symm.trans d6
      have e9 : ysl 13 = _ := (hy 13).symm.trans d9
      clear hdep hL hy d6 d9
      simp only [List.foldl, List.setIfInBounds_toArray, List.set_cons_succ, List.set_cons_zero, e6, e9] at ha
      subst ha
      clear e6 e9
      have hk0 : (0 : Int) ≤ (k : Int) := by omega
      have hk1 : (k : Int) < 12 := by omega
      refine wpOp_step rfl (fun K hK => ?_)
      go_simp
      exact hK _ _ ⟨_, rfl, (fun h => by cases h), rfl, But.refl _ _, trivial⟩
    · cases ho
      intro fu act u hW hB hsz hL hdep
      replace hB := hB [] (fun j hj hd k hk => by
        by_cases x11 : j = 11
        · exact absurd x11 hj
        rw [if_neg x11] at hk
        cases hk)
      have d7 := hdep { on := 7, ground := .data } (by simp) rfl _ rfl
      have d10 := hdep { on := 10, ground := .data } (by simp) rfl _ rfl
      obtain ⟨ysl, ha, hy⟩ := hL.puts [4, 5, 6, 7, 8, 9, 10, 11, 12, 13, 14] (by kernel_rfl)
      have e7 : ysl 11 = _ := (hy 11).symm.trans d7
      have e10 : ysl 14 = _ := (hy 14).symm.trans d10
      clear hdep hL hy d7 d10
      simp only [List.foldl, List.setIfInBounds_toArray, List.set_cons_succ, List.set_cons_zero, e7, e10] at ha
      subst ha
      clear e7 e10
      have h1 := HN.out.but hB (by simp)
      have d1 := h1.cP k hk12
      have d2 := h1.fz (8 + k) (by omega)
      refine wpOp_step rfl (fun K hK => ?_)
      go_simp
      exact hK _ _ ⟨_, rfl, (fun _ => rfl), h1.setP k v0 hk12, (But.refl _ _).set _ _ _ (.inl (by simp)), trivial⟩
    · exact absurd ho (by simp)
  case fin =>
    intro act u hW hsz hB hL hsf
    replace hB := hB [g] (fun j k hk => by
      by_cases y11 : j = 11
      · rw [if_pos y11] at hk; simp at hk; simp [hk]
      rw [if_neg y11] at hk
      cases hk)
    have d11 := hsf 11 _ rfl
    obtain ⟨ysl, ha, hy⟩ := hL.puts [4, 5, 6, 7, 8, 9, 10, 11, 12, 13, 14] (by kernel_rfl)
    clear hL hsf hy
    simp only [List.foldl, List.setIfInBounds_toArray, List.set_cons_succ, List.set_cons_zero] at ha
    subst ha
    have HN1 := Lib.hid d11
    have HB1 := Lib.hid hB
    clear hB d11 hW hsz
    have d1 := HN1.out.cm
    have d2 := HN1.out.fz 21 (by omega)
    have hm12' : m < 12 := hm
    go_wp2
    (first | refine bodyPost_end (results_none rfl _ _ _) rfl ?_ | refine bodyPost_ret (results_none rfl _ _ _) rfl ?_)
    refine ⟨rfl, ?_, ?_⟩
    · have := HN1.out.setm (m + 1) (by omega)
      simpa using this
    · exact HB1.out.set g 21 _ (.inl (by simp))
set_option maxRecDepth 8000 in
set_option maxHeartbeats 2000000 in
theorem impl_ring_take0 (M P : List Int) (f : Nat) (V : List Int) (H : List Bool) (g : Nat) (w : World) (h : Nb w g M P f 0 V H) :
    Calls Try.prog 89 #[.pointer (some ⟨g, 8, none⟩)] w fun e w' => e = .returned (.tuple #[.int .i64 0, .bool false]) ∧ w = w' := by
  have d0 := h.cm
  clear h
  go_enter Try.func89, Try.ntmps89
  go_wp2
  refine bodyPost_ret (v := .tuple #[.int .i64 0, .bool false]) (by simp [results, Try.results89, go_sem]) rfl ?_
  exact ⟨rfl, rfl⟩
set_option maxRecDepth 8000 in
set_option maxHeartbeats 2000000 in
theorem impl_ring_take1 (M P : List Int) (f m : Nat) (V : List Int) (H : List Bool) (g : Nat) (w : World) (h : Nb w g M P f (m + 1) V H) :
    Calls Try.prog 89 #[.pointer (some ⟨g, 8, none⟩)] w fun e w' => e = .returned (.tuple #[.int .i64 (P.getD f 0), .bool true]) ∧ Nb w' g M P ((f + 1) % 12) m V H ∧ But [g] w w' := by
  have HN := Lib.hid h
  have hf := h.f12
  have hm := h.m12
  have d0 := h.cm
  have d1 := h.cf
  have d2 := h.cP f hf
  have hne : (((m + 1 : Nat) : Int) == 0) = false := by simp; omega
  clear h
  generalize P.getD f 0 = z at *
  obtain ⟨k, hk⟩ : ∃ k, (f + 1) % 12 = k := ⟨_, rfl⟩
  have hk12 : k < 12 := by omega
  rw [hk]
  have HKK := Lib.hid hk
  clear hk
  go_enter Try.func89, Try.ntmps89
  go_wp2_with fail
  go_quiet (fail)
  have HN1 := Lib.hid (HN.out.but (L := []) ((But.refl [] w).drewN nq) (by simp))
  have HB1 := Lib.hid ((But.refl [g] w).drewN nq)
  have HP := Lib.hid (fun (u : World) (hu : u = w.drewN nq) => impl_place M P f (m + 1) V H g 1 u (by rw [hu]; exact HN1.out) (by omega))
  rw [HKK.out] at HP
  generalize w.drewN nq = u1 at *
  clear d0 d1 d2 hne
  go_wp2_with fail
  refine (HP.out _ rfl).mono ?_
  rintro e w' ⟨rfl, rfl⟩
  have d1 := HN1.out.cf
  have d2 := HN1.out.fz 20 (by omega)
  have HN2 := Lib.hid (HN1.out.setf k hk12)
  have HB2 := Lib.hid (HB1.out.set g 20 (.int .i64 (k : Int)) (.inl (by simp)))
  clear HN1 HB1
  go_upto_region 5 with fail
  generalize (u1.setCell ⟨g, 20, none⟩ (.int .i64 (k : Int))) = u2 at *
  clear d1 d2
  have d1 := HN2.out.cm
  have d2 := HN2.out.fz 21 (by omega)
  go_wp2
  refine bodyPost_ret (v := .tuple #[.int .i64 z, .bool true]) (by simp [results, Try.results89, go_sem]) rfl ?_
  refine ⟨rfl, ?_, ?_⟩
  · have := HN2.out.setm m (by omega)
    simpa using this
  · exact HB2.out.set g 21 _ (.inl (by simp))

end Go.Proofs.Ytddllgjieccikaa
