/- A machine, copied: of the program and of the model. -/
import Derived.Test.YtbjapncfgancoaaDoorPl3
namespace Go.Proofs.YtbjapncfgancoaaDoor
open Go.RowKit
set_option linter.unusedVariables false
set_option linter.unusedSimpArgs false
/-- Behind a copy of a machine: it lies in new rows. -/
def CpS (s : St) (w : World) (e : Ending) (w' : World) : Prop := ∃ gr gc gm cr cc cm, e = .returned (.agg #[.int .i64 s.pc, .slice (some ⟨gr, 0, none⟩) 8 cr, .slice (some ⟨gc, 0, none⟩) 5 cc, .slice (some ⟨gm, 0, none⟩) 256 cm]) ∧ Own w' gr gc gm s ∧ w.heap.size ≤ gr ∧ w.heap.size ≤ gc ∧ w.heap.size ≤ gm ∧ Fr w w'
/-- A new row. -/
def Nrow (B : Nat) (xs : List Int) (v : Value) (u : World) : Prop := ∃ g c, v = .slice (some ⟨g, 0, none⟩) xs.length c ∧ B ≤ g ∧ Ro u g xs
theorem Nrow.but {B : Nat} {xs : List Int} {v : Value} {u u' : World} {L : List Nat} (h : Nrow B xs v u) (f : But L u u') (hL : ∀ k, k ∈ L → k < B) : Nrow B xs v u' := by
  obtain ⟨g, c, e, hB, r⟩ := h
  exact ⟨g, c, e, hB, r.but f (fun hm => by have := hL g hm; omega)⟩
/-- Four cells of a block that may be written. -/
structure Box4 (u : World) (g : Nat) (a b c d : Value) : Prop where
  lt : g < u.heap.size
  c0 : u.cell? ⟨g, 0, none⟩ = some a
  c1 : u.cell? ⟨g, 1, none⟩ = some b
  c2 : u.cell? ⟨g, 2, none⟩ = some c
  c3 : u.cell? ⟨g, 3, none⟩ = some d
  f0 : u.frozen? ⟨g, 0, none⟩ = false
  f1 : u.frozen? ⟨g, 1, none⟩ = false
  f2 : u.frozen? ⟨g, 2, none⟩ = false
  f3 : u.frozen? ⟨g, 3, none⟩ = false
theorem Box4.but {L : List Nat} {u u' : World} {g : Nat} {a b c d : Value} (h : Box4 u g a b c d) (f : But L u u') (hn : g ∉ L) : Box4 u' g a b c d :=
  ⟨Nat.lt_of_lt_of_le h.lt f.size, by rw [f.cell h.lt hn]; exact h.c0, by rw [f.cell h.lt hn]; exact h.c1, by rw [f.cell h.lt hn]; exact h.c2, by rw [f.cell h.lt hn]; exact h.c3, by rw [f.frozen h.lt hn]; exact h.f0, by rw [f.frozen h.lt hn]; exact h.f1, by rw [f.frozen h.lt hn]; exact h.f2, by rw [f.frozen h.lt hn]; exact h.f3⟩
theorem Box4.fr {u u' : World} {g : Nat} {a b c d : Value} (h : Box4 u g a b c d) (f : Fr u u') : Box4 u' g a b c d := h.but (L := []) (But.of f) (by simp)
theorem Box4.new (w : World) (a b c d : Value) (t : TypeId) (n : Nat) (hn : w.heap.size = n) : Box4 (w.alloc (.cells #[a, b, c, d] t)) n a b c d := by
  subst hn
  exact ⟨by simp, (alloc_at w _ t _ rfl 0).1, (alloc_at w _ t _ rfl 1).1, (alloc_at w _ t _ rfl 2).1, (alloc_at w _ t _ rfl 3).1, (alloc_at w _ t _ rfl 0).2, (alloc_at w _ t _ rfl 1).2, (alloc_at w _ t _ rfl 2).2, (alloc_at w _ t _ rfl 3).2⟩
/-- Four stores into a block. -/
theorem Box4.set {u : World} {g : Nat} {a b c d : Value} (h : Box4 u g a b c d) (a' b' c' d' : Value) : Box4 ((((u.setCell ⟨g, 0, none⟩ a').setCell ⟨g, 1, none⟩ b').setCell ⟨g, 2, none⟩ c').setCell ⟨g, 3, none⟩ d') g a' b' c' d' := by
  have c0 := h.c0
  have c1 := h.c1
  have c2 := h.c2
  have c3 := h.c3
  have f0 := h.f0
  have f1 := h.f1
  have f2 := h.f2
  have f3 := h.f3
  have hl := h.lt
  refine ⟨by simpa [World.setCell] using hl, ?_, ?_, ?_, ?_, ?_, ?_, ?_, ?_⟩
  all_goals simp [World.frozen?_setCell, World.cell?_setCell_other, World.cell?_setCell_same, c0, c1, c2, c3, f0, f1, f2, f3]
theorem But.set4 {L : List Nat} {w w' : World} (h : But L w w') (g : Nat) (a b c d : Value) (hg : g ∈ L ∨ w.heap.size ≤ g) : But L w ((((w'.setCell ⟨g, 0, none⟩ a).setCell ⟨g, 1, none⟩ b).setCell ⟨g, 2, none⟩ c).setCell ⟨g, 3, none⟩ d) :=
  (((h.set g 0 a hg).set g 1 b hg).set g 2 c hg).set g 3 d hg
def clSF (B b : Nat) (s : St) (aR aC aM : Option Addr) (cR cC cM : Nat) : Nat → Value → World → Prop
  | 0, v, _ => v = .pointer (some ⟨b, 0, none⟩)
  | 1, v, _ => v = .int .i64 s.pc
  | 2, v, _ => v = .pointer (some ⟨b, 1, none⟩)
  | 3, v, _ => v = .slice aR s.R.length cR
  | 4, v, u => Nrow B s.R v u
  | 5, v, _ => v = .pointer (some ⟨b, 2, none⟩)
  | 6, v, _ => v = .slice aC s.C.length cC
  | 7, v, u => Nrow B s.C v u
  | 8, v, _ => v = .pointer (some ⟨b, 3, none⟩)
  | 9, v, _ => v = .slice aM s.M.length cM
  | 10, v, u => Nrow B s.M v u
  | 11, v, u => ∃ gr gc gm cr cc cm, v = .agg #[.int .i64 s.pc, .slice (some ⟨gr, 0, none⟩) 8 cr, .slice (some ⟨gc, 0, none⟩) 5 cc, .slice (some ⟨gm, 0, none⟩) 256 cm] ∧ Own u gr gc gm s ∧ B ≤ gr ∧ B ≤ gc ∧ B ≤ gm
  | _, _, _ => True
set_option maxRecDepth 8000 in
set_option maxHeartbeats 4000000 in
theorem impl_clone (s : St) (aR aC aM : Option Addr) (cR cC cM : Nat) (w : World) (h : SrcS w s aR aC aM) (hl1 : s.R.length = 8) (hl2 : s.C.length = 5) (hl3 : s.M.length = 256) :
    Calls Tryd.prog 55 #[.agg #[.int .i64 (s).pc, .slice aR (s).R.length cR, .slice aC (s).C.length cC, .slice aM (s).M.length cM]] w (CpS s w) := by
  obtain ⟨i0, hi, hz0, hz1, hz2⟩ := info_parts info_intV
  have F2 : Fr w ((w.alloc (.cells #[.int .i64 s.pc, .slice aR s.R.length cR, .slice aC s.C.length cC, .slice aM s.M.length cM] 26)).alloc (.cells #[.int .i64 0, .slice none 0 0, .slice none 0 0, .slice none 0 0] 26)) := by
    (repeat' first | (with_reducible exact Below.refl _ _) | (with_reducible assumption) | ((with_reducible refine Below.setCell ?_ ?hb _); (case hb => first | exact Nat.le_refl _ | (simp; done) | (simp; omega) | omega)) | ((with_reducible refine Below.alloc ?_ ?hb _); (case hb => first | exact Nat.le_refl _ | (simp; done) | (simp; omega) | omega)) | (with_reducible refine Below.drew ?_))
  have HF := Lib.hid F2
  have HB := Lib.hid ((Box4.new w (.int .i64 s.pc) (.slice aR s.R.length cR) (.slice aC s.C.length cC) (.slice aM s.M.length cM) 26 _ rfl).fr (Fr.alloc _ (.cells #[.int .i64 0, .slice none 0 0, .slice none 0 0, .slice none 0 0] 26)))
  have HZ := Lib.hid (Box4.new (w.alloc (.cells #[.int .i64 s.pc, .slice aR s.R.length cR, .slice aC s.C.length cC, .slice aM s.M.length cM] 26)) (.int .i64 0) (.slice none 0 0) (.slice none 0 0) (.slice none 0 0) 26 (w.heap.size + 1) (by simp))
  have HS := Lib.hid h
  have H1 := Lib.hid hl1
  have H2 := Lib.hid hl2
  have H3 := Lib.hid hl3
  clear F2 h hl1 hl2 hl3
  go_enter Tryd.func55, Tryd.ntmps55
  go_wp2_with fail
  generalize hu : ((w.alloc (.cells #[.int .i64 s.pc, .slice aR s.R.length cR, .slice aC s.C.length cC, .slice aM s.M.length cM] 26)).alloc (.cells #[.int .i64 0, .slice none 0 0, .slice none 0 0, .slice none 0 0] 26)) = u0 at *
  have hu0 : u0.heap.size = w.heap.size + 2 := by rw [← hu]; simp
  clear hu
  refine wp_region_rows 15 12 [] (fun _ => []) lb0_in (fun i => i == 4 || i == 7 || i == 10) (clSF u0.heap.size w.heap.size s aR aC aM cR cC cM) ?mono (by kernel_rfl) (by kernel_rfl) rfl (by kernel_rfl) (by kernel_rfl) (by decide) ?step ?fin
  case mono =>
    intro i j v u u' hi hij hdj hsz h hB
    rcases j with _ | _ | _ | _ | _ | _ | _ | _ | _ | _ | _ | _ | j
    · exact h
    · exact h
    · exact h
    · exact h
    · exact h.but hB (fun k hk => by cases hk)
    · exact h
    · exact h
    · exact h.but hB (fun k hk => by cases hk)
    · exact h
    · exact h
    · exact h.but hB (fun k hk => by cases hk)
    · obtain ⟨gr, gc, gm, cr, cc, cm, e, ho, hh⟩ := h
      exact ⟨gr, gc, gm, cr, cc, cm, e, ho.but hB (by simp) (by simp) (by simp), hh⟩
    · trivial
  case step =>
    intro i o ho hiz
    rcases i with _ | _ | _ | _ | _ | _ | _ | _ | _ | _ | _ | _ | _ | i
    · clear hiz
      cases ho
      intro act u hB hL hdep hap hnw
      replace hB := hB [] (fun j _ k hk => lb0_in j k hk)
      obtain ⟨ysl, ha, hy⟩ := hL.puts [3, 4, 5, 6, 7, 8, 9, 10, 11, 12, 13, 14] (by kernel_rfl)
      clear hdep hL hy hap hnw
      simp only [List.foldl, List.setIfInBounds_toArray, List.set_cons_succ, List.set_cons_zero] at ha
      subst ha
      refine wpOp_step rfl (fun K hK => ?_)
      go_simp
      exact hK _ _ ⟨_, rfl, (fun h => by cases h), rfl, But.refl _ _, (fun h => by cases h)⟩
    · clear hiz
      cases ho
      intro act u hB hL hdep hap hnw
      replace hB := hB [] (fun j _ k hk => lb0_in j k hk)
      have d0 := hdep { on := 0, ground := .data } (by simp) rfl _ rfl
      obtain ⟨ysl, ha, hy⟩ := hL.puts [3, 4, 5, 6, 7, 8, 9, 10, 11, 12, 13, 14] (by kernel_rfl)
      have e0 : ysl 3 = _ := (hy 3).symm.trans d0
      clear hdep hL hy hap hnw d0
      simp only [List.foldl, List.setIfInBounds_toArray, List.set_cons_succ, List.set_cons_zero, e0] at ha
      subst ha
      clear e0
      have Bx := HB.out.but hB (by simp)
      obtain ⟨lt, c0, c1, c2, c3, _, _, _, _⟩ := Bx
      refine wpOp_step rfl (fun K hK => ?_)
      go_simp
      exact hK _ _ ⟨_, rfl, (fun h => by cases h), rfl, But.refl _ _, (fun h => by cases h)⟩
    · clear hiz
      cases ho
      intro act u hB hL hdep hap hnw
      replace hB := hB [] (fun j _ k hk => lb0_in j k hk)
      obtain ⟨ysl, ha, hy⟩ := hL.puts [3, 4, 5, 6, 7, 8, 9, 10, 11, 12, 13, 14] (by kernel_rfl)
      clear hdep hL hy hap hnw
      simp only [List.foldl, List.setIfInBounds_toArray, List.set_cons_succ, List.set_cons_zero] at ha
      subst ha
      refine wpOp_step rfl (fun K hK => ?_)
      go_simp
      exact hK _ _ ⟨_, rfl, (fun h => by cases h), rfl, But.refl _ _, (fun h => by cases h)⟩
    · clear hiz
      cases ho
      intro act u hB hL hdep hap hnw
      replace hB := hB [] (fun j _ k hk => lb0_in j k hk)
      have d2 := hdep { on := 2, ground := .data } (by simp) rfl _ rfl
      obtain ⟨ysl, ha, hy⟩ := hL.puts [3, 4, 5, 6, 7, 8, 9, 10, 11, 12, 13, 14] (by kernel_rfl)
      have e2 : ysl 5 = _ := (hy 5).symm.trans d2
      clear hdep hL hy hap hnw d2
      simp only [List.foldl, List.setIfInBounds_toArray, List.set_cons_succ, List.set_cons_zero, e2] at ha
      subst ha
      clear e2
      have Bx := HB.out.but hB (by simp)
      obtain ⟨lt, c0, c1, c2, c3, _, _, _, _⟩ := Bx
      refine wpOp_step rfl (fun K hK => ?_)
      go_simp
      exact hK _ _ ⟨_, rfl, (fun h => by cases h), rfl, But.refl _ _, (fun h => by cases h)⟩
    · clear hiz
      cases ho
      intro act u hB hL hdep hap hnw
      replace hB := hB [] (fun j _ k hk => lb0_in j k hk)
      have d3 := hdep { on := 3, ground := .data } (by simp) rfl _ rfl
      obtain ⟨ysl, ha, hy⟩ := hL.puts [3, 4, 5, 6, 7, 8, 9, 10, 11, 12, 13, 14] (by kernel_rfl)
      have e3 : ysl 6 = _ := (hy 6).symm.trans d3
      clear hdep hL hy hap hnw d3
      simp only [List.foldl, List.setIfInBounds_toArray, List.set_cons_succ, List.set_cons_zero, e3] at ha
      subst ha
      clear e3
      refine wpOp_step rfl (fun K hK => ?_)
      go_simp
      refine (slices_Clone s.R aR cR u (HS.out.R.fr (fr_but HF.out hB (fun k hk => by cases hk))) (by have h1 := H1.out; have h2 := H2.out; have h3 := H3.out; omega) (by have h1 := H1.out; have h2 := H2.out; have h3 := H3.out; omega)).mono ?_
      rintro e u' ⟨g, c, rfl, hg, hRo, f⟩
      go_simp
      exact hK _ _ ⟨_, rfl, (fun h => by cases h), ⟨g, c, rfl, Nat.le_trans hB.size hg, hRo⟩, But.of f, (fun _ p hp => by cases hp; exact ⟨hg, hRo.lt⟩)⟩
    · clear hiz
      cases ho
      intro act u hB hL hdep hap hnw
      replace hB := hB [] (fun j _ k hk => lb0_in j k hk)
      obtain ⟨ysl, ha, hy⟩ := hL.puts [3, 4, 5, 6, 7, 8, 9, 10, 11, 12, 13, 14] (by kernel_rfl)
      clear hdep hL hy hap hnw
      simp only [List.foldl, List.setIfInBounds_toArray, List.set_cons_succ, List.set_cons_zero] at ha
      subst ha
      refine wpOp_step rfl (fun K hK => ?_)
      go_simp
      exact hK _ _ ⟨_, rfl, (fun h => by cases h), rfl, But.refl _ _, (fun h => by cases h)⟩
    · clear hiz
      cases ho
      intro act u hB hL hdep hap hnw
      replace hB := hB [] (fun j _ k hk => lb0_in j k hk)
      have d5 := hdep { on := 5, ground := .data } (by simp) rfl _ rfl
      obtain ⟨ysl, ha, hy⟩ := hL.puts [3, 4, 5, 6, 7, 8, 9, 10, 11, 12, 13, 14] (by kernel_rfl)
      have e5 : ysl 8 = _ := (hy 8).symm.trans d5
      clear hdep hL hy hap hnw d5
      simp only [List.foldl, List.setIfInBounds_toArray, List.set_cons_succ, List.set_cons_zero, e5] at ha
      subst ha
      clear e5
      have Bx := HB.out.but hB (by simp)
      obtain ⟨lt, c0, c1, c2, c3, _, _, _, _⟩ := Bx
      refine wpOp_step rfl (fun K hK => ?_)
      go_simp
      exact hK _ _ ⟨_, rfl, (fun h => by cases h), rfl, But.refl _ _, (fun h => by cases h)⟩
    · clear hiz
      cases ho
      intro act u hB hL hdep hap hnw
      replace hB := hB [] (fun j _ k hk => lb0_in j k hk)
      have d6 := hdep { on := 6, ground := .data } (by simp) rfl _ rfl
      obtain ⟨ysl, ha, hy⟩ := hL.puts [3, 4, 5, 6, 7, 8, 9, 10, 11, 12, 13, 14] (by kernel_rfl)
      have e6 : ysl 9 = _ := (hy 9).symm.trans d6
      clear hdep hL hy hap hnw d6
      simp only [List.foldl, List.setIfInBounds_toArray, List.set_cons_succ, List.set_cons_zero, e6] at ha
      subst ha
      clear e6
      refine wpOp_step rfl (fun K hK => ?_)
      go_simp
      refine (slices_Clone s.C aC cC u (HS.out.C.fr (fr_but HF.out hB (fun k hk => by cases hk))) (by have h1 := H1.out; have h2 := H2.out; have h3 := H3.out; omega) (by have h1 := H1.out; have h2 := H2.out; have h3 := H3.out; omega)).mono ?_
      rintro e u' ⟨g, c, rfl, hg, hRo, f⟩
      go_simp
      exact hK _ _ ⟨_, rfl, (fun h => by cases h), ⟨g, c, rfl, Nat.le_trans hB.size hg, hRo⟩, But.of f, (fun _ p hp => by cases hp; exact ⟨hg, hRo.lt⟩)⟩
    · clear hiz
      cases ho
      intro act u hB hL hdep hap hnw
      replace hB := hB [] (fun j _ k hk => lb0_in j k hk)
      obtain ⟨ysl, ha, hy⟩ := hL.puts [3, 4, 5, 6, 7, 8, 9, 10, 11, 12, 13, 14] (by kernel_rfl)
      clear hdep hL hy hap hnw
      simp only [List.foldl, List.setIfInBounds_toArray, List.set_cons_succ, List.set_cons_zero] at ha
      subst ha
      refine wpOp_step rfl (fun K hK => ?_)
      go_simp
      exact hK _ _ ⟨_, rfl, (fun h => by cases h), rfl, But.refl _ _, (fun h => by cases h)⟩
    · clear hiz
      cases ho
      intro act u hB hL hdep hap hnw
      replace hB := hB [] (fun j _ k hk => lb0_in j k hk)
      have d8 := hdep { on := 8, ground := .data } (by simp) rfl _ rfl
      obtain ⟨ysl, ha, hy⟩ := hL.puts [3, 4, 5, 6, 7, 8, 9, 10, 11, 12, 13, 14] (by kernel_rfl)
      have e8 : ysl 11 = _ := (hy 11).symm.trans d8
      clear hdep hL hy hap hnw d8
      simp only [List.foldl, List.setIfInBounds_toArray, List.set_cons_succ, List.set_cons_zero, e8] at ha
      subst ha
      clear e8
      have Bx := HB.out.but hB (by simp)
      obtain ⟨lt, c0, c1, c2, c3, _, _, _, _⟩ := Bx
      refine wpOp_step rfl (fun K hK => ?_)
      go_simp
      exact hK _ _ ⟨_, rfl, (fun h => by cases h), rfl, But.refl _ _, (fun h => by cases h)⟩
    · clear hiz
      cases ho
      intro act u hB hL hdep hap hnw
      replace hB := hB [] (fun j _ k hk => lb0_in j k hk)
      have d9 := hdep { on := 9, ground := .data } (by simp) rfl _ rfl
      obtain ⟨ysl, ha, hy⟩ := hL.puts [3, 4, 5, 6, 7, 8, 9, 10, 11, 12, 13, 14] (by kernel_rfl)
      have e9 : ysl 12 = _ := (hy 12).symm.trans d9
      clear hdep hL hy hap hnw d9
      simp only [List.foldl, List.setIfInBounds_toArray, List.set_cons_succ, List.set_cons_zero, e9] at ha
      subst ha
      clear e9
      refine wpOp_step rfl (fun K hK => ?_)
      go_simp
      refine (slices_Clone s.M aM cM u (HS.out.M.fr (fr_but HF.out hB (fun k hk => by cases hk))) (by have h1 := H1.out; have h2 := H2.out; have h3 := H3.out; omega) (by have h1 := H1.out; have h2 := H2.out; have h3 := H3.out; omega)).mono ?_
      rintro e u' ⟨g, c, rfl, hg, hRo, f⟩
      go_simp
      exact hK _ _ ⟨_, rfl, (fun h => by cases h), ⟨g, c, rfl, Nat.le_trans hB.size hg, hRo⟩, But.of f, (fun _ p hp => by cases hp; exact ⟨hg, hRo.lt⟩)⟩
    · clear hiz
      cases ho
      intro act u hB hL hdep hap hnw
      replace hB := hB [] (fun j _ k hk => lb0_in j k hk)
      have d1 := hdep { on := 1, ground := .data } (by simp) rfl _ rfl
      have d4 := hdep { on := 4, ground := .data } (by simp) rfl _ rfl
      have d7 := hdep { on := 7, ground := .data } (by simp) rfl _ rfl
      have d10 := hdep { on := 10, ground := .data } (by simp) rfl _ rfl
      obtain ⟨ysl, ha, hy⟩ := hL.puts [3, 4, 5, 6, 7, 8, 9, 10, 11, 12, 13, 14] (by kernel_rfl)
      have e1 : ysl 4 = _ := (hy 4).symm.trans d1
      obtain ⟨g4, c4, h4, hB4, r4⟩ := d4
      have e4 : ysl 7 = .slice (some ⟨g4, 0, none⟩) (s.R).length c4 := (hy 7).symm.trans h4
      obtain ⟨g7, c7, h7, hB7, r7⟩ := d7
      have e7 : ysl 10 = .slice (some ⟨g7, 0, none⟩) (s.C).length c7 := (hy 10).symm.trans h7
      obtain ⟨g10, c10, h10, hB10, r10⟩ := d10
      have e10 : ysl 13 = .slice (some ⟨g10, 0, none⟩) (s.M).length c10 := (hy 13).symm.trans h10
      have ne1 := hap { on := 4, ground := .data } (by simp) { on := 7, ground := .data } (by simp) rfl rfl (by decide) rfl rfl _ _ rfl rfl g4 g7 (by rw [h4]; rfl) (by rw [h7]; rfl)
      have ne2 := hap { on := 4, ground := .data } (by simp) { on := 10, ground := .data } (by simp) rfl rfl (by decide) rfl rfl _ _ rfl rfl g4 g10 (by rw [h4]; rfl) (by rw [h10]; rfl)
      have ne3 := hap { on := 7, ground := .data } (by simp) { on := 10, ground := .data } (by simp) rfl rfl (by decide) rfl rfl _ _ rfl rfl g7 g10 (by rw [h7]; rfl) (by rw [h10]; rfl)
      clear hdep hL hy hap hnw d1 h4 h7 h10
      simp only [List.foldl, List.setIfInBounds_toArray, List.set_cons_succ, List.set_cons_zero, e1, e4, e7, e10] at ha
      subst ha
      clear e1 e4 e7 e10
      refine wpOp_step rfl (fun K hK => ?_)
      go_simp
      exact hK _ _ ⟨_, rfl, (fun h => by cases h), ⟨g4, g7, g10, c4, c7, c10, by rw [H1.out, H2.out, H3.out], ⟨r4, r7, r10, ne1, ne2, ne3⟩, hB4, hB7, hB10⟩, But.refl _ _, (fun h => by cases h)⟩
    · exact absurd rfl hiz
    · exact absurd ho (by simp)
  case fin =>
    intro act u hB hL hsf hap hnw
    have d11 := hsf 11 _ rfl (by decide)
    obtain ⟨ysl, ha, hy⟩ := hL.puts [3, 4, 5, 6, 7, 8, 9, 10, 11, 12, 13, 14] (by kernel_rfl)
    obtain ⟨gr, gc, gm, cr, cc, cm, h11, ho, h1, h2, h3⟩ := d11
    have e11 : ysl 14 = .agg #[.int .i64 s.pc, .slice (some ⟨gr, 0, none⟩) 8 cr, .slice (some ⟨gc, 0, none⟩) 5 cc, .slice (some ⟨gm, 0, none⟩) 256 cm] := (hy 14).symm.trans h11
    clear hL hsf hy hap hnw h11
    simp only [List.foldl, List.setIfInBounds_toArray, List.set_cons_succ, List.set_cons_zero, e11] at ha
    subst ha
    clear e11
    have Bz := HZ.out.but hB (by simp)
    have Bz0 := Bz
    obtain ⟨lt, c0, c1, c2, c3, f0, f1, f2, f3⟩ := Bz0
    refine wpOp_step rfl (fun K hK => ?_)
    go_simp
    refine hK _ _ ?_
    have Bn := Bz.set (.int .i64 s.pc) (.slice (some ⟨gr, 0, none⟩) 8 cr) (.slice (some ⟨gc, 0, none⟩) 5 cc) (.slice (some ⟨gm, 0, none⟩) 256 cm)
    have z0 := Bn.c0
    have z1 := Bn.c1
    have z2 := Bn.c2
    have z3 := Bn.c3
    have hB4 := hB.trans (But.of (L := []) (w := u) (Below.refl _ _))
    have HFin := Lib.hid (show Fr w _ from fr_but HF.out ((hB.mono (L' := [w.heap.size + 1]) (fun k hk _ => by cases hk)).set4 (w.heap.size + 1) (.int .i64 s.pc) (.slice (some ⟨gr, 0, none⟩) 8 cr) (.slice (some ⟨gc, 0, none⟩) 5 cc) (.slice (some ⟨gm, 0, none⟩) 256 cm) (.inl (by simp))) (fun k hk => by have := List.mem_singleton.1 hk; omega))
    have HO := Lib.hid (ho.but ((But.refl _ _).set4 (w.heap.size + 1) (.int .i64 s.pc) (.slice (some ⟨gr, 0, none⟩) 8 cr) (.slice (some ⟨gc, 0, none⟩) 5 cc) (.slice (some ⟨gm, 0, none⟩) 256 cm) (L := [w.heap.size + 1]) (.inl (by simp))) (by simp; omega) (by simp; omega) (by simp; omega))
    clear Bn ho Bz c0 c1 c2 c3 f0 f1 f2 f3 hB4
    generalize ((((u.setCell ⟨w.heap.size + 1, 0, none⟩ (.int .i64 s.pc)).setCell ⟨w.heap.size + 1, 1, none⟩ (.slice (some ⟨gr, 0, none⟩) 8 cr)).setCell ⟨w.heap.size + 1, 2, none⟩ (.slice (some ⟨gc, 0, none⟩) 5 cc)).setCell ⟨w.heap.size + 1, 3, none⟩ (.slice (some ⟨gm, 0, none⟩) 256 cm)) = u9 at *
    go_wp2
    refine bodyPost_ret (v := .agg #[.int .i64 s.pc, .slice (some ⟨gr, 0, none⟩) 8 cr, .slice (some ⟨gc, 0, none⟩) 5 cc, .slice (some ⟨gm, 0, none⟩) 256 cm]) (by simp [results, Tryd.results55, go_sem, z0, z1, z2, z3]) rfl ⟨gr, gc, gm, cr, cc, cm, rfl, HO.out, by omega, by omega, by omega, HFin.out⟩
def NrowC (B : Nat) (xs : List Int) (v : Value) (u : World) : Prop := ∃ g c, v = .slice (some ⟨g, 0, none⟩) xs.length c ∧ B ≤ g ∧ Ro u g xs ∧ Ca u g xs.length c
theorem NrowC.but {B : Nat} {xs : List Int} {v : Value} {u u' : World} {L : List Nat} (h : NrowC B xs v u) (f : But L u u') (hL : ∀ k, k ∈ L → k < B) : NrowC B xs v u' := by
  obtain ⟨g, c, e, hB, r, k⟩ := h
  exact ⟨g, c, e, hB, r.but f (fun hm => by have := hL g hm; omega), k.but f (fun hm => by have := hL g hm; omega)⟩
/-- Behind a copy of a machine: it lies in new rows; its registers have the room that is said. -/
def CpT (s : St) (w : World) (e : Ending) (w' : World) : Prop := ∃ gr gc gm cr cc cm, e = .returned (.agg #[.int .i64 s.pc, .slice (some ⟨gr, 0, none⟩) 8 cr, .slice (some ⟨gc, 0, none⟩) 5 cc, .slice (some ⟨gm, 0, none⟩) 256 cm]) ∧ Own w' gr gc gm s ∧ w.heap.size ≤ gr ∧ w.heap.size ≤ gc ∧ w.heap.size ≤ gm ∧ Fr w w' ∧ Ca w' gr 8 cr
def cpSF (B b : Nat) (s : St) (aR aC aM : Option Addr) (cR cC cM : Nat) : Nat → Value → World → Prop
  | 0, v, _ => v = .pointer (some ⟨b, 0, none⟩)
  | 1, v, _ => v = .int .i64 s.pc
  | 2, v, _ => ∃ g : Nat, v = .slice (some ⟨g, 0, none⟩) 0 0
  | 3, v, _ => v = .pointer (some ⟨b, 1, none⟩)
  | 4, v, _ => v = .slice aR s.R.length cR
  | 5, v, u => NrowC B s.R v u
  | 6, v, _ => ∃ g : Nat, v = .slice (some ⟨g, 0, none⟩) 0 0
  | 7, v, _ => v = .pointer (some ⟨b, 2, none⟩)
  | 8, v, _ => v = .slice aC s.C.length cC
  | 9, v, u => NrowC B s.C v u
  | 10, v, _ => ∃ g : Nat, v = .slice (some ⟨g, 0, none⟩) 0 0
  | 11, v, _ => v = .pointer (some ⟨b, 3, none⟩)
  | 12, v, _ => v = .slice aM s.M.length cM
  | 13, v, u => NrowC B s.M v u
  | 14, v, u => ∃ gr gc gm cr cc cm, v = .agg #[.int .i64 s.pc, .slice (some ⟨gr, 0, none⟩) 8 cr, .slice (some ⟨gc, 0, none⟩) 5 cc, .slice (some ⟨gm, 0, none⟩) 256 cm] ∧ Own u gr gc gm s ∧ B ≤ gr ∧ B ≤ gc ∧ B ≤ gm ∧ Ca u gr 8 cr
  | _, _, _ => True
set_option maxRecDepth 8000 in
set_option maxHeartbeats 4000000 in
theorem spec_l4CopyT (s : St) (aR aC aM : Option Addr) (cR cC cM : Nat) (w : World) (h : SrcS w s aR aC aM) (hl1 : s.R.length = 8) (hl2 : s.C.length = 5) (hl3 : s.M.length = 256) :
    Calls Tryd.prog 48 #[.agg #[.int .i64 (s).pc, .slice aR (s).R.length cR, .slice aC (s).C.length cC, .slice aM (s).M.length cM]] w (CpT s w) := by
  obtain ⟨sR, oR, rfl, lR, kR⟩ := h.R (by omega)
  obtain ⟨sC, oC, rfl, lC, kC⟩ := h.C (by omega)
  obtain ⟨sM, oM, rfl, lM, kM⟩ := h.M (by omega)
  have KR := Lib.hid (fun (u : World) (f : Fr w u) => show ∀ i, i < s.R.length → u.cell? ⟨sR, oR + i, none⟩ = some (ivl s.R i) from fun i hi => by rw [f.cell lR]; exact kR i hi)
  have KC := Lib.hid (fun (u : World) (f : Fr w u) => show ∀ i, i < s.C.length → u.cell? ⟨sC, oC + i, none⟩ = some (ivl s.C i) from fun i hi => by rw [f.cell lC]; exact kC i hi)
  have KM := Lib.hid (fun (u : World) (f : Fr w u) => show ∀ i, i < s.M.length → u.cell? ⟨sM, oM + i, none⟩ = some (ivl s.M i) from fun i hi => by rw [f.cell lM]; exact kM i hi)
  clear kR kC kM
  obtain ⟨i0, hi, hz0, hz1, hz2⟩ := info_parts info_intV
  have F2 : Fr w ((w.alloc (.cells #[.int .i64 s.pc, .slice (some ⟨sR, oR, none⟩) s.R.length cR, .slice (some ⟨sC, oC, none⟩) s.C.length cC, .slice (some ⟨sM, oM, none⟩) s.M.length cM] 26)).alloc (.cells #[.int .i64 0, .slice none 0 0, .slice none 0 0, .slice none 0 0] 26)) := by
    (repeat' first | (with_reducible exact Below.refl _ _) | (with_reducible assumption) | ((with_reducible refine Below.setCell ?_ ?hb _); (case hb => first | exact Nat.le_refl _ | (simp; done) | (simp; omega) | omega)) | ((with_reducible refine Below.alloc ?_ ?hb _); (case hb => first | exact Nat.le_refl _ | (simp; done) | (simp; omega) | omega)) | (with_reducible refine Below.drew ?_))
  have HF := Lib.hid F2
  have HB := Lib.hid ((Box4.new w (.int .i64 s.pc) (.slice (some ⟨sR, oR, none⟩) s.R.length cR) (.slice (some ⟨sC, oC, none⟩) s.C.length cC) (.slice (some ⟨sM, oM, none⟩) s.M.length cM) 26 _ rfl).fr (Fr.alloc _ (.cells #[.int .i64 0, .slice none 0 0, .slice none 0 0, .slice none 0 0] 26)))
  have HZ := Lib.hid (Box4.new (w.alloc (.cells #[.int .i64 s.pc, .slice (some ⟨sR, oR, none⟩) s.R.length cR, .slice (some ⟨sC, oC, none⟩) s.C.length cC, .slice (some ⟨sM, oM, none⟩) s.M.length cM] 26)) (.int .i64 0) (.slice none 0 0) (.slice none 0 0) (.slice none 0 0) 26 (w.heap.size + 1) (by simp))
  have HS := Lib.hid h
  have H1 := Lib.hid hl1
  have H2 := Lib.hid hl2
  have H3 := Lib.hid hl3
  clear F2 h hl1 hl2 hl3
  go_enter Tryd.func48, Tryd.ntmps48
  go_wp2_with fail
  generalize hu : ((w.alloc (.cells #[.int .i64 s.pc, .slice (some ⟨sR, oR, none⟩) s.R.length cR, .slice (some ⟨sC, oC, none⟩) s.C.length cC, .slice (some ⟨sM, oM, none⟩) s.M.length cM] 26)).alloc (.cells #[.int .i64 0, .slice none 0 0, .slice none 0 0, .slice none 0 0] 26)) = u0 at *
  have hu0 : u0.heap.size = w.heap.size + 2 := by rw [← hu]; simp
  clear hu
  refine wp_region_rows 18 15 [] (fun _ => []) lb0_in (fun i => i == 5 || i == 9 || i == 13) (cpSF u0.heap.size w.heap.size s (some ⟨sR, oR, none⟩) (some ⟨sC, oC, none⟩) (some ⟨sM, oM, none⟩) cR cC cM) ?mono (by kernel_rfl) (by kernel_rfl) rfl (by kernel_rfl) (by kernel_rfl) (by decide) ?step ?fin
  case mono =>
    intro i j v u u' hi hij hdj hsz h hB
    rcases j with _ | _ | _ | _ | _ | _ | _ | _ | _ | _ | _ | _ | _ | _ | _ | j
    · exact h
    · exact h
    · exact h
    · exact h
    · exact h
    · exact h.but hB (fun k hk => by cases hk)
    · exact h
    · exact h
    · exact h
    · exact h.but hB (fun k hk => by cases hk)
    · exact h
    · exact h
    · exact h
    · exact h.but hB (fun k hk => by cases hk)
    · obtain ⟨gr, gc, gm, cr, cc, cm, e, ho, hh1, hh2, hh3, hk⟩ := h
      exact ⟨gr, gc, gm, cr, cc, cm, e, ho.but hB (by simp) (by simp) (by simp), hh1, hh2, hh3, hk.but hB (by simp)⟩
    · trivial
  case step =>
    intro i o ho hiz
    rcases i with _ | _ | _ | _ | _ | _ | _ | _ | _ | _ | _ | _ | _ | _ | _ | _ | i
    · clear hiz
      cases ho
      intro act u hB hL hdep hap hnw
      replace hB := hB [] (fun j _ k hk => lb0_in j k hk)
      obtain ⟨ysl, ha, hy⟩ := hL.puts [3, 4, 5, 6, 7, 8, 9, 10, 11, 12, 13, 14, 15, 16, 17] (by kernel_rfl)
      clear hdep hL hy hap hnw
      simp only [List.foldl, List.setIfInBounds_toArray, List.set_cons_succ, List.set_cons_zero] at ha
      subst ha
      refine wpOp_step rfl (fun K hK => ?_)
      go_simp
      exact hK _ _ ⟨_, rfl, (fun h => by cases h), rfl, But.refl _ _, (fun h => by cases h)⟩
    · clear hiz
      cases ho
      intro act u hB hL hdep hap hnw
      replace hB := hB [] (fun j _ k hk => lb0_in j k hk)
      have d0 := hdep { on := 0, ground := .data } (by simp) rfl _ rfl
      obtain ⟨ysl, ha, hy⟩ := hL.puts [3, 4, 5, 6, 7, 8, 9, 10, 11, 12, 13, 14, 15, 16, 17] (by kernel_rfl)
      have e0 : ysl 3 = _ := (hy 3).symm.trans d0
      clear hdep hL hy hap hnw d0
      simp only [List.foldl, List.setIfInBounds_toArray, List.set_cons_succ, List.set_cons_zero, e0] at ha
      subst ha
      clear e0
      have Bx := HB.out.but hB (by simp)
      obtain ⟨lt, c0, c1, c2, c3, _, _, _, _⟩ := Bx
      refine wpOp_step rfl (fun K hK => ?_)
      go_simp
      exact hK _ _ ⟨_, rfl, (fun h => by cases h), rfl, But.refl _ _, (fun h => by cases h)⟩
    · clear hiz
      cases ho
      intro act u hB hL hdep hap hnw
      replace hB := hB [] (fun j _ k hk => lb0_in j k hk)
      obtain ⟨ysl, ha, hy⟩ := hL.puts [3, 4, 5, 6, 7, 8, 9, 10, 11, 12, 13, 14, 15, 16, 17] (by kernel_rfl)
      clear hdep hL hy hap hnw
      simp only [List.foldl, List.setIfInBounds_toArray, List.set_cons_succ, List.set_cons_zero] at ha
      subst ha
      refine wpOp_step rfl (fun K hK => ?_)
      go_simp
      exact hK _ _ ⟨_, rfl, (fun h => by cases h), ⟨_, rfl⟩, But.of (Fr.alloc _ _), (fun h => by cases h)⟩
    · clear hiz
      cases ho
      intro act u hB hL hdep hap hnw
      replace hB := hB [] (fun j _ k hk => lb0_in j k hk)
      obtain ⟨ysl, ha, hy⟩ := hL.puts [3, 4, 5, 6, 7, 8, 9, 10, 11, 12, 13, 14, 15, 16, 17] (by kernel_rfl)
      clear hdep hL hy hap hnw
      simp only [List.foldl, List.setIfInBounds_toArray, List.set_cons_succ, List.set_cons_zero] at ha
      subst ha
      refine wpOp_step rfl (fun K hK => ?_)
      go_simp
      exact hK _ _ ⟨_, rfl, (fun h => by cases h), rfl, But.refl _ _, (fun h => by cases h)⟩
    · clear hiz
      cases ho
      intro act u hB hL hdep hap hnw
      replace hB := hB [] (fun j _ k hk => lb0_in j k hk)
      have d3 := hdep { on := 3, ground := .data } (by simp) rfl _ rfl
      obtain ⟨ysl, ha, hy⟩ := hL.puts [3, 4, 5, 6, 7, 8, 9, 10, 11, 12, 13, 14, 15, 16, 17] (by kernel_rfl)
      have e3 : ysl 6 = _ := (hy 6).symm.trans d3
      clear hdep hL hy hap hnw d3
      simp only [List.foldl, List.setIfInBounds_toArray, List.set_cons_succ, List.set_cons_zero, e3] at ha
      subst ha
      clear e3
      have Bx := HB.out.but hB (by simp)
      obtain ⟨lt, c0, c1, c2, c3, _, _, _, _⟩ := Bx
      refine wpOp_step rfl (fun K hK => ?_)
      go_simp
      exact hK _ _ ⟨_, rfl, (fun h => by cases h), rfl, But.refl _ _, (fun h => by cases h)⟩
    · clear hiz
      cases ho
      intro act u hB hL hdep hap hnw
      replace hB := hB [] (fun j _ k hk => lb0_in j k hk)
      have d2 := hdep { on := 2, ground := .data } (by simp) rfl _ rfl
      have d4 := hdep { on := 4, ground := .data } (by simp) rfl _ rfl
      obtain ⟨ysl, ha, hy⟩ := hL.puts [3, 4, 5, 6, 7, 8, 9, 10, 11, 12, 13, 14, 15, 16, 17] (by kernel_rfl)
      obtain ⟨b2, h2⟩ := d2
      have e2 : ysl 5 = .slice (some ⟨b2, 0, none⟩) 0 0 := (hy 5).symm.trans h2
      have e4 : ysl 7 = _ := (hy 7).symm.trans d4
      clear hdep hL hy hap hnw d4 h2
      simp only [List.foldl, List.setIfInBounds_toArray, List.set_cons_succ, List.set_cons_zero, e2, e4] at ha
      subst ha
      clear e2 e4
      refine wpOp_step rfl (fun K hK => ?_)
      rw [if_pos (by simp [Region.wanted])]
      refine wp_append_new _ _ 22 rfl 3 i0 (.int .i64 0) Tryd.underlying22 hi hz0 hz1 hz2 _ rfl ⟨sR, oR, none⟩ _ _ (s.R.map (Value.int .i64)) rfl (by simp) (cells_of s.R (KR.out u (fr_but HF.out hB (fun k hk => by cases hk)))) (ints_one _) (by have h1 := H1.out; have h2 := H2.out; have h3 := H3.out; omega) (by have h1 := H1.out; have h2 := H2.out; have h3 := H3.out; omega) ?_
      intro cp zs hzs
      refine hK _ _ ⟨_, rfl, (fun h => by cases h), ⟨_, cp, rfl, hB.size, ro_new u.drew s.R zs _, ca_new u.drew s.R zs cp (hzs rfl)⟩, But.of ((Below.drew (Below.refl _ _)).alloc (Nat.le_refl _) _), (fun _ p hp => by cases hp; exact ⟨Nat.le_refl _, by simp⟩)⟩
    · clear hiz
      cases ho
      intro act u hB hL hdep hap hnw
      replace hB := hB [] (fun j _ k hk => lb0_in j k hk)
      obtain ⟨ysl, ha, hy⟩ := hL.puts [3, 4, 5, 6, 7, 8, 9, 10, 11, 12, 13, 14, 15, 16, 17] (by kernel_rfl)
      clear hdep hL hy hap hnw
      simp only [List.foldl, List.setIfInBounds_toArray, List.set_cons_succ, List.set_cons_zero] at ha
      subst ha
      refine wpOp_step rfl (fun K hK => ?_)
      go_simp
      exact hK _ _ ⟨_, rfl, (fun h => by cases h), ⟨_, rfl⟩, But.of (Fr.alloc _ _), (fun h => by cases h)⟩
    · clear hiz
      cases ho
      intro act u hB hL hdep hap hnw
      replace hB := hB [] (fun j _ k hk => lb0_in j k hk)
      obtain ⟨ysl, ha, hy⟩ := hL.puts [3, 4, 5, 6, 7, 8, 9, 10, 11, 12, 13, 14, 15, 16, 17] (by kernel_rfl)
      clear hdep hL hy hap hnw
      simp only [List.foldl, List.setIfInBounds_toArray, List.set_cons_succ, List.set_cons_zero] at ha
      subst ha
      refine wpOp_step rfl (fun K hK => ?_)
      go_simp
      exact hK _ _ ⟨_, rfl, (fun h => by cases h), rfl, But.refl _ _, (fun h => by cases h)⟩
    · clear hiz
      cases ho
      intro act u hB hL hdep hap hnw
      replace hB := hB [] (fun j _ k hk => lb0_in j k hk)
      have d7 := hdep { on := 7, ground := .data } (by simp) rfl _ rfl
      obtain ⟨ysl, ha, hy⟩ := hL.puts [3, 4, 5, 6, 7, 8, 9, 10, 11, 12, 13, 14, 15, 16, 17] (by kernel_rfl)
      have e7 : ysl 10 = _ := (hy 10).symm.trans d7
      clear hdep hL hy hap hnw d7
      simp only [List.foldl, List.setIfInBounds_toArray, List.set_cons_succ, List.set_cons_zero, e7] at ha
      subst ha
      clear e7
      have Bx := HB.out.but hB (by simp)
      obtain ⟨lt, c0, c1, c2, c3, _, _, _, _⟩ := Bx
      refine wpOp_step rfl (fun K hK => ?_)
      go_simp
      exact hK _ _ ⟨_, rfl, (fun h => by cases h), rfl, But.refl _ _, (fun h => by cases h)⟩
    · clear hiz
      cases ho
      intro act u hB hL hdep hap hnw
      replace hB := hB [] (fun j _ k hk => lb0_in j k hk)
      have d6 := hdep { on := 6, ground := .data } (by simp) rfl _ rfl
      have d8 := hdep { on := 8, ground := .data } (by simp) rfl _ rfl
      obtain ⟨ysl, ha, hy⟩ := hL.puts [3, 4, 5, 6, 7, 8, 9, 10, 11, 12, 13, 14, 15, 16, 17] (by kernel_rfl)
      obtain ⟨b6, h6⟩ := d6
      have e6 : ysl 9 = .slice (some ⟨b6, 0, none⟩) 0 0 := (hy 9).symm.trans h6
      have e8 : ysl 11 = _ := (hy 11).symm.trans d8
      clear hdep hL hy hap hnw d8 h6
      simp only [List.foldl, List.setIfInBounds_toArray, List.set_cons_succ, List.set_cons_zero, e6, e8] at ha
      subst ha
      clear e6 e8
      refine wpOp_step rfl (fun K hK => ?_)
      rw [if_pos (by simp [Region.wanted])]
      refine wp_append_new _ _ 22 rfl 3 i0 (.int .i64 0) Tryd.underlying22 hi hz0 hz1 hz2 _ rfl ⟨sC, oC, none⟩ _ _ (s.C.map (Value.int .i64)) rfl (by simp) (cells_of s.C (KC.out u (fr_but HF.out hB (fun k hk => by cases hk)))) (ints_one _) (by have h1 := H1.out; have h2 := H2.out; have h3 := H3.out; omega) (by have h1 := H1.out; have h2 := H2.out; have h3 := H3.out; omega) ?_
      intro cp zs hzs
      refine hK _ _ ⟨_, rfl, (fun h => by cases h), ⟨_, cp, rfl, hB.size, ro_new u.drew s.C zs _, ca_new u.drew s.C zs cp (hzs rfl)⟩, But.of ((Below.drew (Below.refl _ _)).alloc (Nat.le_refl _) _), (fun _ p hp => by cases hp; exact ⟨Nat.le_refl _, by simp⟩)⟩
    · clear hiz
      cases ho
      intro act u hB hL hdep hap hnw
      replace hB := hB [] (fun j _ k hk => lb0_in j k hk)
      obtain ⟨ysl, ha, hy⟩ := hL.puts [3, 4, 5, 6, 7, 8, 9, 10, 11, 12, 13, 14, 15, 16, 17] (by kernel_rfl)
      clear hdep hL hy hap hnw
      simp only [List.foldl, List.setIfInBounds_toArray, List.set_cons_succ, List.set_cons_zero] at ha
      subst ha
      refine wpOp_step rfl (fun K hK => ?_)
      go_simp
      exact hK _ _ ⟨_, rfl, (fun h => by cases h), ⟨_, rfl⟩, But.of (Fr.alloc _ _), (fun h => by cases h)⟩
    · clear hiz
      cases ho
      intro act u hB hL hdep hap hnw
      replace hB := hB [] (fun j _ k hk => lb0_in j k hk)
      obtain ⟨ysl, ha, hy⟩ := hL.puts [3, 4, 5, 6, 7, 8, 9, 10, 11, 12, 13, 14, 15, 16, 17] (by kernel_rfl)
      clear hdep hL hy hap hnw
      simp only [List.foldl, List.setIfInBounds_toArray, List.set_cons_succ, List.set_cons_zero] at ha
      subst ha
      refine wpOp_step rfl (fun K hK => ?_)
      go_simp
      exact hK _ _ ⟨_, rfl, (fun h => by cases h), rfl, But.refl _ _, (fun h => by cases h)⟩
    · clear hiz
      cases ho
      intro act u hB hL hdep hap hnw
      replace hB := hB [] (fun j _ k hk => lb0_in j k hk)
      have d11 := hdep { on := 11, ground := .data } (by simp) rfl _ rfl
      obtain ⟨ysl, ha, hy⟩ := hL.puts [3, 4, 5, 6, 7, 8, 9, 10, 11, 12, 13, 14, 15, 16, 17] (by kernel_rfl)
      have e11 : ysl 14 = _ := (hy 14).symm.trans d11
      clear hdep hL hy hap hnw d11
      simp only [List.foldl, List.setIfInBounds_toArray, List.set_cons_succ, List.set_cons_zero, e11] at ha
      subst ha
      clear e11
      have Bx := HB.out.but hB (by simp)
      obtain ⟨lt, c0, c1, c2, c3, _, _, _, _⟩ := Bx
      refine wpOp_step rfl (fun K hK => ?_)
      go_simp
      exact hK _ _ ⟨_, rfl, (fun h => by cases h), rfl, But.refl _ _, (fun h => by cases h)⟩
    · clear hiz
      cases ho
      intro act u hB hL hdep hap hnw
      replace hB := hB [] (fun j _ k hk => lb0_in j k hk)
      have d10 := hdep { on := 10, ground := .data } (by simp) rfl _ rfl
      have d12 := hdep { on := 12, ground := .data } (by simp) rfl _ rfl
      obtain ⟨ysl, ha, hy⟩ := hL.puts [3, 4, 5, 6, 7, 8, 9, 10, 11, 12, 13, 14, 15, 16, 17] (by kernel_rfl)
      obtain ⟨b10, h10⟩ := d10
      have e10 : ysl 13 = .slice (some ⟨b10, 0, none⟩) 0 0 := (hy 13).symm.trans h10
      have e12 : ysl 15 = _ := (hy 15).symm.trans d12
      clear hdep hL hy hap hnw d12 h10
      simp only [List.foldl, List.setIfInBounds_toArray, List.set_cons_succ, List.set_cons_zero, e10, e12] at ha
      subst ha
      clear e10 e12
      refine wpOp_step rfl (fun K hK => ?_)
      rw [if_pos (by simp [Region.wanted])]
      refine wp_append_new _ _ 22 rfl 3 i0 (.int .i64 0) Tryd.underlying22 hi hz0 hz1 hz2 _ rfl ⟨sM, oM, none⟩ _ _ (s.M.map (Value.int .i64)) rfl (by simp) (cells_of s.M (KM.out u (fr_but HF.out hB (fun k hk => by cases hk)))) (ints_one _) (by have h1 := H1.out; have h2 := H2.out; have h3 := H3.out; omega) (by have h1 := H1.out; have h2 := H2.out; have h3 := H3.out; omega) ?_
      intro cp zs hzs
      refine hK _ _ ⟨_, rfl, (fun h => by cases h), ⟨_, cp, rfl, hB.size, ro_new u.drew s.M zs _, ca_new u.drew s.M zs cp (hzs rfl)⟩, But.of ((Below.drew (Below.refl _ _)).alloc (Nat.le_refl _) _), (fun _ p hp => by cases hp; exact ⟨Nat.le_refl _, by simp⟩)⟩
    · clear hiz
      cases ho
      intro act u hB hL hdep hap hnw
      replace hB := hB [] (fun j _ k hk => lb0_in j k hk)
      have d1 := hdep { on := 1, ground := .data } (by simp) rfl _ rfl
      have d5 := hdep { on := 5, ground := .data } (by simp) rfl _ rfl
      have d9 := hdep { on := 9, ground := .data } (by simp) rfl _ rfl
      have d13 := hdep { on := 13, ground := .data } (by simp) rfl _ rfl
      obtain ⟨ysl, ha, hy⟩ := hL.puts [3, 4, 5, 6, 7, 8, 9, 10, 11, 12, 13, 14, 15, 16, 17] (by kernel_rfl)
      have e1 : ysl 4 = _ := (hy 4).symm.trans d1
      obtain ⟨g5, c5, h5, hB5, r5, k5⟩ := d5
      have e5 : ysl 8 = .slice (some ⟨g5, 0, none⟩) (s.R).length c5 := (hy 8).symm.trans h5
      obtain ⟨g9, c9, h9, hB9, r9, k9⟩ := d9
      have e9 : ysl 12 = .slice (some ⟨g9, 0, none⟩) (s.C).length c9 := (hy 12).symm.trans h9
      obtain ⟨g13, c13, h13, hB13, r13, k13⟩ := d13
      have e13 : ysl 16 = .slice (some ⟨g13, 0, none⟩) (s.M).length c13 := (hy 16).symm.trans h13
      have ne1 := hap { on := 5, ground := .data } (by simp) { on := 9, ground := .data } (by simp) rfl rfl (by decide) rfl rfl _ _ rfl rfl g5 g9 (by rw [h5]; rfl) (by rw [h9]; rfl)
      have ne2 := hap { on := 5, ground := .data } (by simp) { on := 13, ground := .data } (by simp) rfl rfl (by decide) rfl rfl _ _ rfl rfl g5 g13 (by rw [h5]; rfl) (by rw [h13]; rfl)
      have ne3 := hap { on := 9, ground := .data } (by simp) { on := 13, ground := .data } (by simp) rfl rfl (by decide) rfl rfl _ _ rfl rfl g9 g13 (by rw [h9]; rfl) (by rw [h13]; rfl)
      clear hdep hL hy hap hnw d1 h5 h9 h13
      simp only [List.foldl, List.setIfInBounds_toArray, List.set_cons_succ, List.set_cons_zero, e1, e5, e9, e13] at ha
      subst ha
      clear e1 e5 e9 e13
      refine wpOp_step rfl (fun K hK => ?_)
      go_simp
      exact hK _ _ ⟨_, rfl, (fun h => by cases h), ⟨g5, g9, g13, c5, c9, c13, by rw [H1.out, H2.out, H3.out], ⟨r5, r9, r13, ne1, ne2, ne3⟩, hB5, hB9, hB13, by have k := k5; rw [H1.out] at k; exact k⟩, But.refl _ _, (fun h => by cases h)⟩
    · exact absurd rfl hiz
    · exact absurd ho (by simp)
  case fin =>
    intro act u hB hL hsf hap hnw
    have d14 := hsf 14 _ rfl (by decide)
    obtain ⟨ysl, ha, hy⟩ := hL.puts [3, 4, 5, 6, 7, 8, 9, 10, 11, 12, 13, 14, 15, 16, 17] (by kernel_rfl)
    obtain ⟨gr, gc, gm, cr, cc, cm, h14, ho, h1, h2, h3, kr⟩ := d14
    have e14 : ysl 17 = .agg #[.int .i64 s.pc, .slice (some ⟨gr, 0, none⟩) 8 cr, .slice (some ⟨gc, 0, none⟩) 5 cc, .slice (some ⟨gm, 0, none⟩) 256 cm] := (hy 17).symm.trans h14
    clear hL hsf hy hap hnw h14
    simp only [List.foldl, List.setIfInBounds_toArray, List.set_cons_succ, List.set_cons_zero, e14] at ha
    subst ha
    clear e14
    have Bz := HZ.out.but hB (by simp)
    have Bz0 := Bz
    obtain ⟨lt, c0, c1, c2, c3, f0, f1, f2, f3⟩ := Bz0
    refine wpOp_step rfl (fun K hK => ?_)
    go_simp
    refine hK _ _ ?_
    have Bn := Bz.set (.int .i64 s.pc) (.slice (some ⟨gr, 0, none⟩) 8 cr) (.slice (some ⟨gc, 0, none⟩) 5 cc) (.slice (some ⟨gm, 0, none⟩) 256 cm)
    have z0 := Bn.c0
    have z1 := Bn.c1
    have z2 := Bn.c2
    have z3 := Bn.c3
    have hB4 := hB.trans (But.of (L := []) (w := u) (Below.refl _ _))
    have HFin := Lib.hid (show Fr w _ from fr_but HF.out ((hB.mono (L' := [w.heap.size + 1]) (fun k hk _ => by cases hk)).set4 (w.heap.size + 1) (.int .i64 s.pc) (.slice (some ⟨gr, 0, none⟩) 8 cr) (.slice (some ⟨gc, 0, none⟩) 5 cc) (.slice (some ⟨gm, 0, none⟩) 256 cm) (.inl (by simp))) (fun k hk => by have := List.mem_singleton.1 hk; omega))
    have HO := Lib.hid (ho.but ((But.refl _ _).set4 (w.heap.size + 1) (.int .i64 s.pc) (.slice (some ⟨gr, 0, none⟩) 8 cr) (.slice (some ⟨gc, 0, none⟩) 5 cc) (.slice (some ⟨gm, 0, none⟩) 256 cm) (L := [w.heap.size + 1]) (.inl (by simp))) (by simp; omega) (by simp; omega) (by simp; omega))
    have HKr := Lib.hid (kr.but ((But.refl _ _).set4 (w.heap.size + 1) (.int .i64 s.pc) (.slice (some ⟨gr, 0, none⟩) 8 cr) (.slice (some ⟨gc, 0, none⟩) 5 cc) (.slice (some ⟨gm, 0, none⟩) 256 cm) (L := [w.heap.size + 1]) (.inl (by simp))) (by simp; omega))
    clear Bn ho kr Bz c0 c1 c2 c3 f0 f1 f2 f3 hB4
    generalize ((((u.setCell ⟨w.heap.size + 1, 0, none⟩ (.int .i64 s.pc)).setCell ⟨w.heap.size + 1, 1, none⟩ (.slice (some ⟨gr, 0, none⟩) 8 cr)).setCell ⟨w.heap.size + 1, 2, none⟩ (.slice (some ⟨gc, 0, none⟩) 5 cc)).setCell ⟨w.heap.size + 1, 3, none⟩ (.slice (some ⟨gm, 0, none⟩) 256 cm)) = u9 at *
    go_wp2
    refine bodyPost_ret (v := .agg #[.int .i64 s.pc, .slice (some ⟨gr, 0, none⟩) 8 cr, .slice (some ⟨gc, 0, none⟩) 5 cc, .slice (some ⟨gm, 0, none⟩) 256 cm]) (by simp [results, Tryd.results48, go_sem, z0, z1, z2, z3]) rfl ⟨gr, gc, gm, cr, cc, cm, rfl, HO.out, by omega, by omega, by omega, HFin.out, HKr.out⟩
theorem spec_l4Copy (s : St) (aR aC aM : Option Addr) (cR cC cM : Nat) (w : World) (h : SrcS w s aR aC aM) (hl1 : s.R.length = 8) (hl2 : s.C.length = 5) (hl3 : s.M.length = 256) :
    Calls Tryd.prog 48 #[.agg #[.int .i64 (s).pc, .slice aR (s).R.length cR, .slice aC (s).C.length cC, .slice aM (s).M.length cM]] w (CpS s w) := by
  refine (spec_l4CopyT s aR aC aM cR cC cM w h hl1 hl2 hl3).mono ?_
  rintro e w' ⟨gr, gc, gm, cr, cc, cm, he, ho, h1, h2, h3, f, _⟩
  exact ⟨gr, gc, gm, cr, cc, cm, he, ho, h1, h2, h3, f⟩

end Go.Proofs.YtbjapncfgancoaaDoor
