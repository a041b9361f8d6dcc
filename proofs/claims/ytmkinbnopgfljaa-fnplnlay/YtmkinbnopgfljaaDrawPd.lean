/- The draws of chapter 4: some machine, some numbers; nothing that was there has turned. -/
import Derived.Test.YtmkinbnopgfljaaDrawPln
namespace Go.Proofs.Ytmkinbnopgfljaa
open Go.RowKit
set_option linter.unusedVariables false
set_option linter.unusedSimpArgs false
/-- A machine whose rows can be read, also when blocks below W have turned. -/
def SrcW (W : Nat) (s : St) (aR aC aM : Option Addr) (u : World) : Prop := ∀ L u', But L u u' → (∀ k, k ∈ L → k < W) → SrcS u' s aR aC aM
theorem SrcW.now {W : Nat} {s : St} {aR aC aM : Option Addr} {u : World} (h : SrcW W s aR aC aM u) : SrcS u s aR aC aM := h [] u (But.refl _ _) (fun k hk => by cases hk)
theorem SrcW.but {W : Nat} {s : St} {aR aC aM : Option Addr} {u u' : World} {L : List Nat} (h : SrcW W s aR aC aM u) (f : But L u u') (hL : ∀ k, k ∈ L → k < W) : SrcW W s aR aC aM u' := fun L' u2 f' hL' =>
  h (L ++ L') u2 ((f.mono (fun k m _ => List.mem_append_left _ m)).trans (f'.mono (fun k m _ => List.mem_append_right _ m))) (fun k m => by
    rcases List.mem_append.1 m with e | e
    · exact hL k e
    · exact hL' k e)
def ManyS (xs : Array Value → Prop) (w : World) (e : Ending) (w' : World) : Prop := ∃ s aR aC aM cR cC cM r, xs r ∧ Few20 s ∧ e = .returned (.tuple (#[.agg #[.int .i64 (s).pc, .slice aR (s).R.length cR, .slice aC (s).C.length cC, .slice aM (s).M.length cM]] ++ r)) ∧ SrcS w' s aR aC aM ∧ Fr w w'
/-- The machine, in the draw's region. -/
def MW (W : Nat) (v : Value) (u : World) : Prop := ∃ s aR aC aM cR cC cM, Few20 s ∧ v = .agg #[.int .i64 (s).pc, .slice aR (s).R.length cR, .slice aC (s).C.length cC, .slice aM (s).M.length cM] ∧ SrcW W s aR aC aM u
theorem MW.but {W : Nat} {v : Value} {u u' : World} {L : List Nat} (h : MW W v u) (f : But L u u') (hL : ∀ k, k ∈ L → k < W) : MW W v u' := by
  obtain ⟨s, aR, aC, aM, cR, cC, cM, hf, e, hs⟩ := h
  exact ⟨s, aR, aC, aM, cR, cC, cM, hf, e, hs.but f hL⟩
/-- .. and in the box Z. -/
def MZ (W Z : Nat) (u : World) : Prop := ∃ s aR aC aM cR cC cM, Few20 s ∧ Box4 u Z (.int .i64 s.pc) (.slice aR s.R.length cR) (.slice aC s.C.length cC) (.slice aM s.M.length cM) ∧ SrcW W s aR aC aM u
theorem MZ.but {W Z : Nat} {u u' : World} {L : List Nat} (h : MZ W Z u) (f : But L u u') (hL : ∀ k, k ∈ L → k < W) (hZ : Z ∉ L) : MZ W Z u' := by
  obtain ⟨s, aR, aC, aM, cR, cC, cM, hf, e, hs⟩ := h
  exact ⟨s, aR, aC, aM, cR, cC, cM, hf, e.but f hZ, hs.but f hL⟩
/-- The reader, with so many operations to come, each of which may read much. -/
def RdK (B b X : Nat) (f : Nat) (u : World) : Prop := ∃ M, M + 60000 * f ≤ X ∧ Rd B M u b
theorem wdk_pure {B b X f : Nat} {u : World} (h : RdK B b X (f + 1) u) : RdK B b X f u := by
  obtain ⟨M, hM, r⟩ := h
  exact ⟨M, by omega, r⟩
theorem rdK_start {B b N X f : Nat} {u : World} (h : Rd B N u b) (hX : N + 60000 * f ≤ X) : RdK B b X f u.drew := ⟨N, hX, h.drew⟩
theorem drew_mw {B N b W : Nat} {u u' : World} {e : Ending} (hW : W ≤ u.heap.size) (h : DrewS B N b u e u') : ∃ v, e = .returned v ∧ MW W v u' ∧ Rd B N u' b ∧ u.grownBy u' (some b) := by
  obtain ⟨s, aR, aC, aM, cR, cC, cM, hf, rfl, r, g, hS⟩ := h
  exact ⟨_, rfl, ⟨s, aR, aC, aM, cR, cC, cM, hf, rfl, fun L u2 f hL => hS L u2 f (fun k m => by have := hL k m; omega)⟩, r, g⟩
theorem MW.cells {W : Nat} {v : Value} {u : World} (h : MW W v u) : ∃ s aR aC aM cR cC cM, Few20 s ∧ v = .agg #[.int .i64 (s).pc, .slice aR (s).R.length cR, .slice aC (s).C.length cC, .slice aM (s).M.length cM] ∧ SrcW W s aR aC aM u := h
theorem rd_low {B N b : Nat} {u u' : World} {L : List Nat} (h : Rd B N u b) (f : But L u u') (hL : ∀ k, k ∈ L → B ≤ k ∧ k ≠ b) : Rd B N u' b := by
  obtain ⟨h1, h2, s, len, cap, p, h3, h4, h5, h6, h7, h8⟩ := h
  have hb : b ∉ L := fun m => by have := hL b m; omega
  refine ⟨h1, Nat.lt_of_lt_of_le h2 f.size, s, len, cap, p, by rw [f.cell h2 hb]; exact h3, by rw [f.cell h2 hb]; exact h4, by rw [f.frozen h2 hb]; exact h5, h6, h7, ?_⟩
  rcases h8 with h8 | ⟨sb, so, z, hs, hsb, hcz, hz⟩
  · exact .inl h8
  · exact .inr ⟨sb, so, z, hs, hsb, fun i hi => by rw [f.cell (by omega) (fun m => by have := hL sb m; omega)]; exact hcz i hi, hz⟩
def lySF (W b Z : Nat) : Nat → Value → World → Prop
  | 1, v, u => MW W v u
  | 3, v, _ => ∃ x : Int, v = .int .i64 x
  | 4, v, u => RowP W 3 (fun _ => True) v u
  | 5, v, u => RowP W 6 (fun x => 0 ≤ x ∧ x < 3) v u
  | 7, v, _ => ∃ x : Int, 0 ≤ x ∧ x < 6 ∧ v = .int .i64 x
  | 8, v, u => CelP W (fun x => 0 ≤ x ∧ x < 3) v u
  | 9, v, _ => ∃ x : Int, 0 ≤ x ∧ x < 3 ∧ v = .int .i64 x
  | 10, v, u => CelP W (fun _ => True) v u
  | 11, v, _ => ∃ x : Int, v = .int .i64 x
  | 13, v, _ => ∃ x : Int, v = .int .i64 x
  | 14, _, u => MZ W Z u
  | 15, v, _ => ∃ x : Int, v = .int .i64 x
  | 16, v, _ => ∃ x : Int, v = .int .i64 x
  | _, v, _ => v = .pointer (some ⟨b, 0, none⟩)
def numNum (r : Array Value) : Prop := ∃ x y : Int, r = #[.int .i64 x, .int .i64 y]
set_option maxRecDepth 8000 in
set_option maxHeartbeats 4000000 in
theorem DrawPlnLay (s : Option Addr) (len cap : Nat) (w : World) (h : Code1 w.heap.size w s len cap) : Calls Try.prog 24 #[.slice s len cap] w (ManyS numNum w) := by
  have HZ := Lib.hid (Box4.new w (.int .i64 0) (.slice none 0 0) (.slice none 0 0) (.slice none 0 0) 26 _ rfl)
  have HF := Lib.hid (Fr.alloc w (.cells #[.int .i64 0, .slice none 0 0, .slice none 0 0, .slice none 0 0] 26))
  have hs0 : (w.alloc (.cells #[.int .i64 0, .slice none 0 0, .slice none 0 0, .slice none 0 0] 26)).heap.size = w.heap.size + 1 := by simp
  have HC := Lib.hid (h.below HF.out)
  clear h
  go_enter Try.func24, Try.ntmps24
  go_wp2_with fail
  generalize (w.alloc (.cells #[.int .i64 0, .slice none 0 0, .slice none 0 0, .slice none 0 0] 26)) = w0 at *
  refine (opens _ s len cap w0 HC.out).mono ?_
  rintro e w1 ⟨rfl, r1, b1⟩
  have hs1 := b1.size
  rw [hs0] at r1
  have lb := r1.lt
  have HZ1 := Lib.hid (HZ.out.below b1 (by omega))
  have HB1 := Lib.hid (HF.out.trans b1)
  have HR := Lib.hid r1
  clear r1 HC HZ HF b1
  go_wp2_with fail
  generalize hZ : w.heap.size = Z at *
  generalize hb : Z + 1 = b at *
  refine wp_region_lots 22 (fun i => if i = 1 then [b] else if i = 3 then [b] else if i = 7 then [b] else if i = 13 then [b] else if i = 14 then [Z] else []) (RdK Z b 2000000) (lySF w1.heap.size b Z) ?mono (by kernel_rfl) (by kernel_rfl) rfl (by kernel_rfl) (rdK_start (f := 17) HR.out (by omega)) ?step ?fin
  case mono =>
    intro i j v u u' hij hsz h hB
    have hB2 : But (if i = 1 then [b] else if i = 3 then [b] else if i = 7 then [b] else if i = 13 then [b] else if i = 14 then [Z] else []) u u' := hB
    have hLk : ∀ k, k ∈ (if i = 1 then [b] else if i = 3 then [b] else if i = 7 then [b] else if i = 13 then [b] else if i = 14 then [Z] else []) → k < w1.heap.size := by
      intro k hk
      by_cases y1 : i = 1
      · rw [if_pos y1] at hk; simp at hk; omega
      rw [if_neg y1] at hk
      by_cases y3 : i = 3
      · rw [if_pos y3] at hk; simp at hk; omega
      rw [if_neg y3] at hk
      by_cases y7 : i = 7
      · rw [if_pos y7] at hk; simp at hk; omega
      rw [if_neg y7] at hk
      by_cases y13 : i = 13
      · rw [if_pos y13] at hk; simp at hk; omega
      rw [if_neg y13] at hk
      by_cases y14 : i = 14
      · rw [if_pos y14] at hk; simp at hk; omega
      rw [if_neg y14] at hk
      cases hk
    rcases j with _ | _ | _ | _ | _ | _ | _ | _ | _ | _ | _ | _ | _ | _ | _ | _ | _ | j
    · exact h
    · exact MW.but h hB2 hLk
    · exact h
    · exact h
    · exact RowP.but h hB2 hLk
    · exact RowP.but h hB2 hLk
    · exact h
    · exact h
    · exact CelP.but h hB2 hLk
    · exact h
    · exact CelP.but h hB2 hLk
    · exact h
    · exact h
    · exact h
    · refine MZ.but h hB2 hLk (fun hm => ?_)
      by_cases y1 : i = 1
      · rw [if_pos y1] at hm; simp at hm; omega
      rw [if_neg y1] at hm
      by_cases y3 : i = 3
      · rw [if_pos y3] at hm; simp at hm; omega
      rw [if_neg y3] at hm
      by_cases y7 : i = 7
      · rw [if_pos y7] at hm; simp at hm; omega
      rw [if_neg y7] at hm
      by_cases y13 : i = 13
      · rw [if_pos y13] at hm; simp at hm; omega
      rw [if_neg y13] at hm
      rw [if_neg hij] at hm
      cases hm
    · exact h
    · exact h
    · exact h
  case step =>
    intro i o ho
    rcases i with _ | _ | _ | _ | _ | _ | _ | _ | _ | _ | _ | _ | _ | _ | _ | _ | _ | i
    · cases ho
      intro fu act u hW hB hsz hL hdep
      replace hB := hB [b, Z] (fun j hj hd k hk => by
        by_cases y1 : j = 1
        · rw [if_pos y1] at hk; simp at hk; simp [hk]
        rw [if_neg y1] at hk
        by_cases y3 : j = 3
        · rw [if_pos y3] at hk; simp at hk; simp [hk]
        rw [if_neg y3] at hk
        by_cases y7 : j = 7
        · rw [if_pos y7] at hk; simp at hk; simp [hk]
        rw [if_neg y7] at hk
        by_cases y13 : j = 13
        · rw [if_pos y13] at hk; simp at hk; simp [hk]
        rw [if_neg y13] at hk
        by_cases y14 : j = 14
        · rw [if_pos y14] at hk; simp at hk; simp [hk]
        rw [if_neg y14] at hk
        cases hk)
      obtain ⟨ysl, ha, hy⟩ := hL.puts [8, 9, 10, 11, 12, 13, 14, 15, 16, 17, 18, 19, 20, 21, 3, 4] (by kernel_rfl)
      clear hdep hL hy
      simp only [List.foldl, List.setIfInBounds_toArray, List.set_cons_succ, List.set_cons_zero] at ha
      subst ha
      refine wpOp_step rfl (fun K hK => ?_)
      go_simp
      exact hK _ _ ⟨_, rfl, (fun h => by cases h), rfl, But.refl _ _, wdk_pure hW⟩
    · cases ho
      intro fu act u hW hB hsz hL hdep
      replace hB := hB [b, Z] (fun j hj hd k hk => by
        by_cases y1 : j = 1
        · rw [if_pos y1] at hk; simp at hk; simp [hk]
        rw [if_neg y1] at hk
        by_cases y3 : j = 3
        · rw [if_pos y3] at hk; simp at hk; simp [hk]
        rw [if_neg y3] at hk
        by_cases y7 : j = 7
        · rw [if_pos y7] at hk; simp at hk; simp [hk]
        rw [if_neg y7] at hk
        by_cases y13 : j = 13
        · rw [if_pos y13] at hk; simp at hk; simp [hk]
        rw [if_neg y13] at hk
        by_cases y14 : j = 14
        · rw [if_pos y14] at hk; simp at hk; simp [hk]
        rw [if_neg y14] at hk
        cases hk)
      have d0 := hdep { on := 0, ground := .data } (by simp) rfl _ rfl
      obtain ⟨ysl, ha, hy⟩ := hL.puts [8, 9, 10, 11, 12, 13, 14, 15, 16, 17, 18, 19, 20, 21, 3, 4] (by kernel_rfl)
      have e0 : ysl 8 = _ := (hy 8).symm.trans d0
      clear hdep hL hy d0
      simp only [List.foldl, List.setIfInBounds_toArray, List.set_cons_succ, List.set_cons_zero, e0] at ha
      subst ha
      clear e0
      obtain ⟨M, hM, hR⟩ := hW
      refine wpOp_step rfl (fun K hK => ?_)
      go_simp
      refine (l20Pln Z M b _ u hR (by omega) (by omega) (by omega)).mono ?_
      rintro e u' hdr
      obtain ⟨v, rfl, hmw, r, g⟩ := drew_mw hsz hdr
      go_simp
      exact hK _ _ ⟨_, rfl, (fun h => by cases h), hmw, but_row g, ⟨M + 50000, by omega, r⟩⟩
    · cases ho
      intro fu act u hW hB hsz hL hdep
      replace hB := hB [b, Z] (fun j hj hd k hk => by
        by_cases y1 : j = 1
        · rw [if_pos y1] at hk; simp at hk; simp [hk]
        rw [if_neg y1] at hk
        by_cases y3 : j = 3
        · rw [if_pos y3] at hk; simp at hk; simp [hk]
        rw [if_neg y3] at hk
        by_cases y7 : j = 7
        · rw [if_pos y7] at hk; simp at hk; simp [hk]
        rw [if_neg y7] at hk
        by_cases y13 : j = 13
        · rw [if_pos y13] at hk; simp at hk; simp [hk]
        rw [if_neg y13] at hk
        by_cases y14 : j = 14
        · rw [if_pos y14] at hk; simp at hk; simp [hk]
        rw [if_neg y14] at hk
        cases hk)
      obtain ⟨ysl, ha, hy⟩ := hL.puts [8, 9, 10, 11, 12, 13, 14, 15, 16, 17, 18, 19, 20, 21, 3, 4] (by kernel_rfl)
      clear hdep hL hy
      simp only [List.foldl, List.setIfInBounds_toArray, List.set_cons_succ, List.set_cons_zero] at ha
      subst ha
      refine wpOp_step rfl (fun K hK => ?_)
      go_simp
      exact hK _ _ ⟨_, rfl, (fun h => by cases h), rfl, But.refl _ _, wdk_pure hW⟩
    · cases ho
      intro fu act u hW hB hsz hL hdep
      replace hB := hB [b, Z] (fun j hj hd k hk => by
        by_cases y1 : j = 1
        · rw [if_pos y1] at hk; simp at hk; simp [hk]
        rw [if_neg y1] at hk
        by_cases y3 : j = 3
        · rw [if_pos y3] at hk; simp at hk; simp [hk]
        rw [if_neg y3] at hk
        by_cases y7 : j = 7
        · rw [if_pos y7] at hk; simp at hk; simp [hk]
        rw [if_neg y7] at hk
        by_cases y13 : j = 13
        · rw [if_pos y13] at hk; simp at hk; simp [hk]
        rw [if_neg y13] at hk
        by_cases y14 : j = 14
        · rw [if_pos y14] at hk; simp at hk; simp [hk]
        rw [if_neg y14] at hk
        cases hk)
      have d2 := hdep { on := 2, ground := .data } (by simp) rfl _ rfl
      obtain ⟨ysl, ha, hy⟩ := hL.puts [8, 9, 10, 11, 12, 13, 14, 15, 16, 17, 18, 19, 20, 21, 3, 4] (by kernel_rfl)
      have e2 : ysl 10 = _ := (hy 10).symm.trans d2
      clear hdep hL hy d2
      simp only [List.foldl, List.setIfInBounds_toArray, List.set_cons_succ, List.set_cons_zero, e2] at ha
      subst ha
      clear e2
      obtain ⟨M, hM, hR⟩ := hW
      refine wpOp_step rfl (fun K hK => ?_)
      go_simp
      refine (pick Z M b _ u hR (by omega)).mono ?_
      rintro e u' ⟨x, x0, x1, rfl, r, g⟩
      go_simp
      exact hK _ _ ⟨_, rfl, (fun h => by cases h), ⟨x, rfl⟩, but_row g, ⟨M + 1, by omega, r⟩⟩
    · cases ho
      intro fu act u hW hB hsz hL hdep
      replace hB := hB [b, Z] (fun j hj hd k hk => by
        by_cases y1 : j = 1
        · rw [if_pos y1] at hk; simp at hk; simp [hk]
        rw [if_neg y1] at hk
        by_cases y3 : j = 3
        · rw [if_pos y3] at hk; simp at hk; simp [hk]
        rw [if_neg y3] at hk
        by_cases y7 : j = 7
        · rw [if_pos y7] at hk; simp at hk; simp [hk]
        rw [if_neg y7] at hk
        by_cases y13 : j = 13
        · rw [if_pos y13] at hk; simp at hk; simp [hk]
        rw [if_neg y13] at hk
        by_cases y14 : j = 14
        · rw [if_pos y14] at hk; simp at hk; simp [hk]
        rw [if_neg y14] at hk
        cases hk)
      have d3 := hdep { on := 3, ground := .data } (by simp) rfl _ rfl
      obtain ⟨ysl, ha, hy⟩ := hL.puts [8, 9, 10, 11, 12, 13, 14, 15, 16, 17, 18, 19, 20, 21, 3, 4] (by kernel_rfl)
      obtain ⟨x3, h3⟩ := d3
      have e3 : ysl 11 = .int .i64 x3 := (hy 11).symm.trans h3
      clear hdep hL hy h3
      simp only [List.foldl, List.setIfInBounds_toArray, List.set_cons_succ, List.set_cons_zero, e3] at ha
      subst ha
      clear e3
      obtain ⟨M, hM, hR⟩ := hW
      refine wpOp_step rfl (fun K hK => ?_)
      go_simp
      refine hK _ _ ⟨_, rfl, (fun h => by cases h), ⟨u.heap.size, hsz, by simp, rfl, fun i hi => ?_⟩, But.of (Fr.alloc _ _), ⟨M, by omega, hR.alloc _⟩⟩
      have hi2 : i = 0 ∨ i = 1 ∨ i = 2 := by omega
      rcases hi2 with rfl | rfl | rfl
      · exact ⟨_, trivial, by simp; rfl⟩
      · exact ⟨_, trivial, by simp; rfl⟩
      · exact ⟨_, trivial, by simp; rfl⟩
    · cases ho
      intro fu act u hW hB hsz hL hdep
      replace hB := hB [b, Z] (fun j hj hd k hk => by
        by_cases y1 : j = 1
        · rw [if_pos y1] at hk; simp at hk; simp [hk]
        rw [if_neg y1] at hk
        by_cases y3 : j = 3
        · rw [if_pos y3] at hk; simp at hk; simp [hk]
        rw [if_neg y3] at hk
        by_cases y7 : j = 7
        · rw [if_pos y7] at hk; simp at hk; simp [hk]
        rw [if_neg y7] at hk
        by_cases y13 : j = 13
        · rw [if_pos y13] at hk; simp at hk; simp [hk]
        rw [if_neg y13] at hk
        by_cases y14 : j = 14
        · rw [if_pos y14] at hk; simp at hk; simp [hk]
        rw [if_neg y14] at hk
        cases hk)
      obtain ⟨ysl, ha, hy⟩ := hL.puts [8, 9, 10, 11, 12, 13, 14, 15, 16, 17, 18, 19, 20, 21, 3, 4] (by kernel_rfl)
      clear hdep hL hy
      simp only [List.foldl, List.setIfInBounds_toArray, List.set_cons_succ, List.set_cons_zero] at ha
      subst ha
      obtain ⟨M, hM, hR⟩ := hW
      refine wpOp_step rfl (fun K hK => ?_)
      go_simp
      refine hK _ _ ⟨_, rfl, (fun h => by cases h), ⟨u.heap.size, hsz, by simp, rfl, fun i hi => ?_⟩, But.of (Fr.alloc _ _), ⟨M, by omega, hR.alloc _⟩⟩
      have hi2 : i = 0 ∨ i = 1 ∨ i = 2 ∨ i = 3 ∨ i = 4 ∨ i = 5 := by omega
      rcases hi2 with rfl | rfl | rfl | rfl | rfl | rfl
      · exact ⟨0, by decide, by simp⟩
      · exact ⟨0, by decide, by simp⟩
      · exact ⟨0, by decide, by simp⟩
      · exact ⟨0, by decide, by simp⟩
      · exact ⟨1, by decide, by simp⟩
      · exact ⟨2, by decide, by simp⟩
    · cases ho
      intro fu act u hW hB hsz hL hdep
      replace hB := hB [b, Z] (fun j hj hd k hk => by
        by_cases y1 : j = 1
        · rw [if_pos y1] at hk; simp at hk; simp [hk]
        rw [if_neg y1] at hk
        by_cases y3 : j = 3
        · rw [if_pos y3] at hk; simp at hk; simp [hk]
        rw [if_neg y3] at hk
        by_cases y7 : j = 7
        · rw [if_pos y7] at hk; simp at hk; simp [hk]
        rw [if_neg y7] at hk
        by_cases y13 : j = 13
        · rw [if_pos y13] at hk; simp at hk; simp [hk]
        rw [if_neg y13] at hk
        by_cases y14 : j = 14
        · rw [if_pos y14] at hk; simp at hk; simp [hk]
        rw [if_neg y14] at hk
        cases hk)
      obtain ⟨ysl, ha, hy⟩ := hL.puts [8, 9, 10, 11, 12, 13, 14, 15, 16, 17, 18, 19, 20, 21, 3, 4] (by kernel_rfl)
      clear hdep hL hy
      simp only [List.foldl, List.setIfInBounds_toArray, List.set_cons_succ, List.set_cons_zero] at ha
      subst ha
      refine wpOp_step rfl (fun K hK => ?_)
      go_simp
      exact hK _ _ ⟨_, rfl, (fun h => by cases h), rfl, But.refl _ _, wdk_pure hW⟩
    · cases ho
      intro fu act u hW hB hsz hL hdep
      replace hB := hB [b, Z] (fun j hj hd k hk => by
        by_cases y1 : j = 1
        · rw [if_pos y1] at hk; simp at hk; simp [hk]
        rw [if_neg y1] at hk
        by_cases y3 : j = 3
        · rw [if_pos y3] at hk; simp at hk; simp [hk]
        rw [if_neg y3] at hk
        by_cases y7 : j = 7
        · rw [if_pos y7] at hk; simp at hk; simp [hk]
        rw [if_neg y7] at hk
        by_cases y13 : j = 13
        · rw [if_pos y13] at hk; simp at hk; simp [hk]
        rw [if_neg y13] at hk
        by_cases y14 : j = 14
        · rw [if_pos y14] at hk; simp at hk; simp [hk]
        rw [if_neg y14] at hk
        cases hk)
      have d6 := hdep { on := 6, ground := .data } (by simp) rfl _ rfl
      obtain ⟨ysl, ha, hy⟩ := hL.puts [8, 9, 10, 11, 12, 13, 14, 15, 16, 17, 18, 19, 20, 21, 3, 4] (by kernel_rfl)
      have e6 : ysl 14 = _ := (hy 14).symm.trans d6
      clear hdep hL hy d6
      simp only [List.foldl, List.setIfInBounds_toArray, List.set_cons_succ, List.set_cons_zero, e6] at ha
      subst ha
      clear e6
      obtain ⟨M, hM, hR⟩ := hW
      refine wpOp_step rfl (fun K hK => ?_)
      go_simp
      refine (pick Z M b _ u hR (by omega)).mono ?_
      rintro e u' ⟨x, x0, x1, rfl, r, g⟩
      go_simp
      exact hK _ _ ⟨_, rfl, (fun h => by cases h), ⟨x, x0, x1 (by omega), rfl⟩, but_row g, ⟨M + 1, by omega, r⟩⟩
    · cases ho
      intro fu act u hW hB hsz hL hdep
      replace hB := hB [b, Z] (fun j hj hd k hk => by
        by_cases y1 : j = 1
        · rw [if_pos y1] at hk; simp at hk; simp [hk]
        rw [if_neg y1] at hk
        by_cases y3 : j = 3
        · rw [if_pos y3] at hk; simp at hk; simp [hk]
        rw [if_neg y3] at hk
        by_cases y7 : j = 7
        · rw [if_pos y7] at hk; simp at hk; simp [hk]
        rw [if_neg y7] at hk
        by_cases y13 : j = 13
        · rw [if_pos y13] at hk; simp at hk; simp [hk]
        rw [if_neg y13] at hk
        by_cases y14 : j = 14
        · rw [if_pos y14] at hk; simp at hk; simp [hk]
        rw [if_neg y14] at hk
        cases hk)
      have d5 := hdep { on := 5, ground := .data } (by simp) rfl _ rfl
      have d7 := hdep { on := 7, ground := .data } (by simp) rfl _ rfl
      obtain ⟨ysl, ha, hy⟩ := hL.puts [8, 9, 10, 11, 12, 13, 14, 15, 16, 17, 18, 19, 20, 21, 3, 4] (by kernel_rfl)
      obtain ⟨g5, gw5, gl5, h5, hc5⟩ := d5
      have e5 : ysl 13 = .slice (some ⟨g5, 0, none⟩) 6 6 := (hy 13).symm.trans h5
      obtain ⟨x7, x70, x71, h7⟩ := d7
      have e7 : ysl 15 = .int .i64 x7 := (hy 15).symm.trans h7
      clear hdep hL hy h5 h7
      simp only [List.foldl, List.setIfInBounds_toArray, List.set_cons_succ, List.set_cons_zero, e5, e7] at ha
      subst ha
      clear e5 e7
      obtain ⟨n8, hn8, hc8⟩ := hc5 x7.toNat (by omega)
      refine wpOp_step rfl (fun K hK => ?_)
      go_simp
      exact hK _ _ ⟨_, rfl, (fun h => by cases h), ⟨g5, x7.toNat, gw5, gl5, rfl, n8, hn8, hc8⟩, But.refl _ _, wdk_pure hW⟩
    · cases ho
      intro fu act u hW hB hsz hL hdep
      replace hB := hB [b, Z] (fun j hj hd k hk => by
        by_cases y1 : j = 1
        · rw [if_pos y1] at hk; simp at hk; simp [hk]
        rw [if_neg y1] at hk
        by_cases y3 : j = 3
        · rw [if_pos y3] at hk; simp at hk; simp [hk]
        rw [if_neg y3] at hk
        by_cases y7 : j = 7
        · rw [if_pos y7] at hk; simp at hk; simp [hk]
        rw [if_neg y7] at hk
        by_cases y13 : j = 13
        · rw [if_pos y13] at hk; simp at hk; simp [hk]
        rw [if_neg y13] at hk
        by_cases y14 : j = 14
        · rw [if_pos y14] at hk; simp at hk; simp [hk]
        rw [if_neg y14] at hk
        cases hk)
      have d8 := hdep { on := 8, ground := .data } (by simp) rfl _ rfl
      obtain ⟨ysl, ha, hy⟩ := hL.puts [8, 9, 10, 11, 12, 13, 14, 15, 16, 17, 18, 19, 20, 21, 3, 4] (by kernel_rfl)
      obtain ⟨g8, o8, gw8, gl8, h8, n8, hn8, hc8⟩ := d8
      have e8 : ysl 16 = .pointer (some ⟨g8, o8, none⟩) := (hy 16).symm.trans h8
      clear hdep hL hy h8
      simp only [List.foldl, List.setIfInBounds_toArray, List.set_cons_succ, List.set_cons_zero, e8] at ha
      subst ha
      clear e8
      refine wpOp_step rfl (fun K hK => ?_)
      go_simp
      exact hK _ _ ⟨_, rfl, (fun h => by cases h), ⟨n8, hn8.1, hn8.2, rfl⟩, But.refl _ _, wdk_pure hW⟩
    · cases ho
      intro fu act u hW hB hsz hL hdep
      replace hB := hB [b, Z] (fun j hj hd k hk => by
        by_cases y1 : j = 1
        · rw [if_pos y1] at hk; simp at hk; simp [hk]
        rw [if_neg y1] at hk
        by_cases y3 : j = 3
        · rw [if_pos y3] at hk; simp at hk; simp [hk]
        rw [if_neg y3] at hk
        by_cases y7 : j = 7
        · rw [if_pos y7] at hk; simp at hk; simp [hk]
        rw [if_neg y7] at hk
        by_cases y13 : j = 13
        · rw [if_pos y13] at hk; simp at hk; simp [hk]
        rw [if_neg y13] at hk
        by_cases y14 : j = 14
        · rw [if_pos y14] at hk; simp at hk; simp [hk]
        rw [if_neg y14] at hk
        cases hk)
      have d4 := hdep { on := 4, ground := .data } (by simp) rfl _ rfl
      have d9 := hdep { on := 9, ground := .data } (by simp) rfl _ rfl
      obtain ⟨ysl, ha, hy⟩ := hL.puts [8, 9, 10, 11, 12, 13, 14, 15, 16, 17, 18, 19, 20, 21, 3, 4] (by kernel_rfl)
      obtain ⟨g4, gw4, gl4, h4, hc4⟩ := d4
      have e4 : ysl 12 = .slice (some ⟨g4, 0, none⟩) 3 3 := (hy 12).symm.trans h4
      obtain ⟨x9, x90, x91, h9⟩ := d9
      have e9 : ysl 17 = .int .i64 x9 := (hy 17).symm.trans h9
      clear hdep hL hy h4 h9
      simp only [List.foldl, List.setIfInBounds_toArray, List.set_cons_succ, List.set_cons_zero, e4, e9] at ha
      subst ha
      clear e4 e9
      obtain ⟨n10, hn10, hc10⟩ := hc4 x9.toNat (by omega)
      refine wpOp_step rfl (fun K hK => ?_)
      go_simp
      exact hK _ _ ⟨_, rfl, (fun h => by cases h), ⟨g4, x9.toNat, gw4, gl4, rfl, n10, hn10, hc10⟩, But.refl _ _, wdk_pure hW⟩
    · cases ho
      intro fu act u hW hB hsz hL hdep
      replace hB := hB [b, Z] (fun j hj hd k hk => by
        by_cases y1 : j = 1
        · rw [if_pos y1] at hk; simp at hk; simp [hk]
        rw [if_neg y1] at hk
        by_cases y3 : j = 3
        · rw [if_pos y3] at hk; simp at hk; simp [hk]
        rw [if_neg y3] at hk
        by_cases y7 : j = 7
        · rw [if_pos y7] at hk; simp at hk; simp [hk]
        rw [if_neg y7] at hk
        by_cases y13 : j = 13
        · rw [if_pos y13] at hk; simp at hk; simp [hk]
        rw [if_neg y13] at hk
        by_cases y14 : j = 14
        · rw [if_pos y14] at hk; simp at hk; simp [hk]
        rw [if_neg y14] at hk
        cases hk)
      have d10 := hdep { on := 10, ground := .data } (by simp) rfl _ rfl
      obtain ⟨ysl, ha, hy⟩ := hL.puts [8, 9, 10, 11, 12, 13, 14, 15, 16, 17, 18, 19, 20, 21, 3, 4] (by kernel_rfl)
      obtain ⟨g10, o10, gw10, gl10, h10, n10, hn10, hc10⟩ := d10
      have e10 : ysl 18 = .pointer (some ⟨g10, o10, none⟩) := (hy 18).symm.trans h10
      clear hdep hL hy h10
      simp only [List.foldl, List.setIfInBounds_toArray, List.set_cons_succ, List.set_cons_zero, e10] at ha
      subst ha
      clear e10
      refine wpOp_step rfl (fun K hK => ?_)
      go_simp
      exact hK _ _ ⟨_, rfl, (fun h => by cases h), ⟨n10, rfl⟩, But.refl _ _, wdk_pure hW⟩
    · cases ho
      intro fu act u hW hB hsz hL hdep
      replace hB := hB [b, Z] (fun j hj hd k hk => by
        by_cases y1 : j = 1
        · rw [if_pos y1] at hk; simp at hk; simp [hk]
        rw [if_neg y1] at hk
        by_cases y3 : j = 3
        · rw [if_pos y3] at hk; simp at hk; simp [hk]
        rw [if_neg y3] at hk
        by_cases y7 : j = 7
        · rw [if_pos y7] at hk; simp at hk; simp [hk]
        rw [if_neg y7] at hk
        by_cases y13 : j = 13
        · rw [if_pos y13] at hk; simp at hk; simp [hk]
        rw [if_neg y13] at hk
        by_cases y14 : j = 14
        · rw [if_pos y14] at hk; simp at hk; simp [hk]
        rw [if_neg y14] at hk
        cases hk)
      obtain ⟨ysl, ha, hy⟩ := hL.puts [8, 9, 10, 11, 12, 13, 14, 15, 16, 17, 18, 19, 20, 21, 3, 4] (by kernel_rfl)
      clear hdep hL hy
      simp only [List.foldl, List.setIfInBounds_toArray, List.set_cons_succ, List.set_cons_zero] at ha
      subst ha
      refine wpOp_step rfl (fun K hK => ?_)
      go_simp
      exact hK _ _ ⟨_, rfl, (fun h => by cases h), rfl, But.refl _ _, wdk_pure hW⟩
    · cases ho
      intro fu act u hW hB hsz hL hdep
      replace hB := hB [b, Z] (fun j hj hd k hk => by
        by_cases y1 : j = 1
        · rw [if_pos y1] at hk; simp at hk; simp [hk]
        rw [if_neg y1] at hk
        by_cases y3 : j = 3
        · rw [if_pos y3] at hk; simp at hk; simp [hk]
        rw [if_neg y3] at hk
        by_cases y7 : j = 7
        · rw [if_pos y7] at hk; simp at hk; simp [hk]
        rw [if_neg y7] at hk
        by_cases y13 : j = 13
        · rw [if_pos y13] at hk; simp at hk; simp [hk]
        rw [if_neg y13] at hk
        by_cases y14 : j = 14
        · rw [if_pos y14] at hk; simp at hk; simp [hk]
        rw [if_neg y14] at hk
        cases hk)
      have d12 := hdep { on := 12, ground := .data } (by simp) rfl _ rfl
      obtain ⟨ysl, ha, hy⟩ := hL.puts [8, 9, 10, 11, 12, 13, 14, 15, 16, 17, 18, 19, 20, 21, 3, 4] (by kernel_rfl)
      have e12 : ysl 20 = _ := (hy 20).symm.trans d12
      clear hdep hL hy d12
      simp only [List.foldl, List.setIfInBounds_toArray, List.set_cons_succ, List.set_cons_zero, e12] at ha
      subst ha
      clear e12
      obtain ⟨M, hM, hR⟩ := hW
      refine wpOp_step rfl (fun K hK => ?_)
      go_simp
      refine (l20Word Z M b _ u hR (by omega) (by omega) (by omega)).mono ?_
      rintro e u' ⟨x, rfl, r, g⟩
      go_simp
      exact hK _ _ ⟨_, rfl, (fun h => by cases h), ⟨x, rfl⟩, but_row g, ⟨M + 8, by omega, r⟩⟩
    · cases ho
      intro fu act u hW hB hsz hL hdep
      replace hB := hB [b] (fun j hj hd k hk => by
        by_cases x14 : j = 14
        · exact absurd x14 hj
        by_cases y1 : j = 1
        · rw [if_pos y1] at hk; simp at hk; simp [hk]
        rw [if_neg y1] at hk
        by_cases y3 : j = 3
        · rw [if_pos y3] at hk; simp at hk; simp [hk]
        rw [if_neg y3] at hk
        by_cases y7 : j = 7
        · rw [if_pos y7] at hk; simp at hk; simp [hk]
        rw [if_neg y7] at hk
        by_cases y13 : j = 13
        · rw [if_pos y13] at hk; simp at hk; simp [hk]
        rw [if_neg y13] at hk
        rw [if_neg x14] at hk
        cases hk)
      have d1 := hdep { on := 1, ground := .data } (by simp) rfl _ rfl
      obtain ⟨ysl, ha, hy⟩ := hL.puts [8, 9, 10, 11, 12, 13, 14, 15, 16, 17, 18, 19, 20, 21, 3, 4] (by kernel_rfl)
      obtain ⟨s1, aR, aC, aM, cR, cC, cM, hf1, h1, hs1x⟩ := d1
      have e1 : ysl 9 = .agg #[.int .i64 s1.pc, .slice aR s1.R.length cR, .slice aC s1.C.length cC, .slice aM s1.M.length cM] := (hy 9).symm.trans h1
      clear hdep hL hy h1
      simp only [List.foldl, List.setIfInBounds_toArray, List.set_cons_succ, List.set_cons_zero, e1] at ha
      subst ha
      clear e1
      obtain ⟨M, hM, hR⟩ := hW
      have Bx0 := HZ1.out.but hB (by simp; omega)
      have Bx1 := Bx0
      obtain ⟨_, y0, y1, y2, y3, o0, o1, o2, o3⟩ := Bx1
      refine wpOp_step rfl (fun K hK => ?_)
      go_simp
      have bZ : Z < u.heap.size := by omega
      have fZ := (But.refl [Z] u).set4 Z (.int .i64 s1.pc) (.slice aR s1.R.length cR) (.slice aC s1.C.length cC) (.slice aM s1.M.length cM) (.inl (by simp))
      exact hK _ _ ⟨undef, rfl, (fun _ => rfl), ⟨s1, aR, aC, aM, cR, cC, cM, hf1, Bx0.set _ _ _ _, hs1x.but fZ (fun k m => by have := List.mem_singleton.1 m; omega)⟩, fZ, ⟨M, by omega, rd_low hR fZ (fun k m => by have := List.mem_singleton.1 m; omega)⟩⟩
    · cases ho
      intro fu act u hW hB hsz hL hdep
      replace hB := hB [b, Z] (fun j hj hd k hk => by
        by_cases y1 : j = 1
        · rw [if_pos y1] at hk; simp at hk; simp [hk]
        rw [if_neg y1] at hk
        by_cases y3 : j = 3
        · rw [if_pos y3] at hk; simp at hk; simp [hk]
        rw [if_neg y3] at hk
        by_cases y7 : j = 7
        · rw [if_pos y7] at hk; simp at hk; simp [hk]
        rw [if_neg y7] at hk
        by_cases y13 : j = 13
        · rw [if_pos y13] at hk; simp at hk; simp [hk]
        rw [if_neg y13] at hk
        by_cases y14 : j = 14
        · rw [if_pos y14] at hk; simp at hk; simp [hk]
        rw [if_neg y14] at hk
        cases hk)
      have d11 := hdep { on := 11, ground := .data } (by simp) rfl _ rfl
      obtain ⟨ysl, ha, hy⟩ := hL.puts [8, 9, 10, 11, 12, 13, 14, 15, 16, 17, 18, 19, 20, 21, 3, 4] (by kernel_rfl)
      obtain ⟨x11, h11⟩ := d11
      have e11 : ysl 19 = .int .i64 x11 := (hy 19).symm.trans h11
      clear hdep hL hy h11
      simp only [List.foldl, List.setIfInBounds_toArray, List.set_cons_succ, List.set_cons_zero, e11] at ha
      subst ha
      clear e11
      refine wpOp_step rfl (fun K hK => ?_)
      go_simp
      exact hK _ _ ⟨_, rfl, (fun h => by cases h), ⟨x11, rfl⟩, But.refl _ _, wdk_pure hW⟩
    · cases ho
      intro fu act u hW hB hsz hL hdep
      replace hB := hB [b, Z] (fun j hj hd k hk => by
        by_cases y1 : j = 1
        · rw [if_pos y1] at hk; simp at hk; simp [hk]
        rw [if_neg y1] at hk
        by_cases y3 : j = 3
        · rw [if_pos y3] at hk; simp at hk; simp [hk]
        rw [if_neg y3] at hk
        by_cases y7 : j = 7
        · rw [if_pos y7] at hk; simp at hk; simp [hk]
        rw [if_neg y7] at hk
        by_cases y13 : j = 13
        · rw [if_pos y13] at hk; simp at hk; simp [hk]
        rw [if_neg y13] at hk
        by_cases y14 : j = 14
        · rw [if_pos y14] at hk; simp at hk; simp [hk]
        rw [if_neg y14] at hk
        cases hk)
      have d13 := hdep { on := 13, ground := .data } (by simp) rfl _ rfl
      obtain ⟨ysl, ha, hy⟩ := hL.puts [8, 9, 10, 11, 12, 13, 14, 15, 16, 17, 18, 19, 20, 21, 3, 4] (by kernel_rfl)
      obtain ⟨x13, h13⟩ := d13
      have e13 : ysl 21 = .int .i64 x13 := (hy 21).symm.trans h13
      clear hdep hL hy h13
      simp only [List.foldl, List.setIfInBounds_toArray, List.set_cons_succ, List.set_cons_zero, e13] at ha
      subst ha
      clear e13
      refine wpOp_step rfl (fun K hK => ?_)
      go_simp
      exact hK _ _ ⟨_, rfl, (fun h => by cases h), ⟨x13, rfl⟩, But.refl _ _, wdk_pure hW⟩
    · exact absurd ho (by simp)
  case fin =>
    intro act u hW hsz hB hL hsf
    replace hB := hB [b, Z] (fun j k hk => by
      by_cases y1 : j = 1
      · rw [if_pos y1] at hk; simp at hk; simp [hk]
      rw [if_neg y1] at hk
      by_cases y3 : j = 3
      · rw [if_pos y3] at hk; simp at hk; simp [hk]
      rw [if_neg y3] at hk
      by_cases y7 : j = 7
      · rw [if_pos y7] at hk; simp at hk; simp [hk]
      rw [if_neg y7] at hk
      by_cases y13 : j = 13
      · rw [if_pos y13] at hk; simp at hk; simp [hk]
      rw [if_neg y13] at hk
      by_cases y14 : j = 14
      · rw [if_pos y14] at hk; simp at hk; simp [hk]
      rw [if_neg y14] at hk
      cases hk)
    have d14 := hsf 14 _ rfl
    have d15 := hsf 15 _ rfl
    have d16 := hsf 16 _ rfl
    obtain ⟨ysl, ha, hy⟩ := hL.puts [8, 9, 10, 11, 12, 13, 14, 15, 16, 17, 18, 19, 20, 21, 3, 4] (by kernel_rfl)
    obtain ⟨s14, aR, aC, aM, cR, cC, cM, hf14, bx14, hs14⟩ := d14
    obtain ⟨x15, h15⟩ := d15
    have e15 : ysl 3 = .int .i64 x15 := (hy 3).symm.trans h15
    obtain ⟨x16, h16⟩ := d16
    have e16 : ysl 4 = .int .i64 x16 := (hy 4).symm.trans h16
    clear hL hsf hy h15 h16
    simp only [List.foldl, List.setIfInBounds_toArray, List.set_cons_succ, List.set_cons_zero, e15, e16] at ha
    subst ha
    clear e15 e16
    have HBf := Lib.hid (show Fr w u from fr_but HB1.out hB (fun k m => by simp at m; omega))
    obtain ⟨_, z0, z1, z2, z3, _, _, _, _⟩ := bx14
    clear hB hW
    go_wp2_with fail
    refine bodyPost_ret (v := .tuple #[.agg #[.int .i64 s14.pc, .slice aR s14.R.length cR, .slice aC s14.C.length cC, .slice aM s14.M.length cM], .int .i64 x15, .int .i64 x16]) (by simp [results, Try.results24, go_sem, z0, z1, z2, z3]) rfl ⟨s14, aR, aC, aM, cR, cC, cM, #[.int .i64 x15, .int .i64 x16], ⟨x15, x16, rfl⟩, hf14, rfl, hs14.now, HBf.out⟩
end Go.Proofs.Ytmkinbnopgfljaa
