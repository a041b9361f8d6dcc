/- The draws of chapter 4: some machine, some numbers; nothing that was there has turned. -/
import Derived.Test.YtmkinbnopgfljaaDrawPln
namespace Go.Proofs.Ytmkinbnopgfljaa
open Go.RowKit
set_option linter.unusedVariables false
set_option linter.unusedSimpArgs false
/-- A machine whose rows can be read, also when blocks below W have turned. -/
def SrcW (W : Nat) (s : St) (aR aC aM : Option Addr) (u : World) : Prop := ∀ L u', But L u u' → (∀ k, k ∈ L → k < W) → SrcS u' s aR aC aM
theorem SrcW.but {W : Nat} {s : St} {aR aC aM : Option Addr} {u u' : World} {L : List Nat} (h : SrcW W s aR aC aM u) (f : But L u u') (hL : ∀ k, k ∈ L → k < W) : SrcW W s aR aC aM u' := fun L' u2 f' hL' =>
  h (L ++ L') u2 ((f.mono (fun k m _ => List.mem_append_left _ m)).trans (f'.mono (fun k m _ => List.mem_append_right _ m))) (fun k m => by
    rcases List.mem_append.1 m with e | e
    · exact hL k e
    · exact hL' k e)
/-- The machine, in the draw's region. -/
def MW (W : Nat) (v : Value) (u : World) : Prop := ∃ s aR aC aM cR cC cM, Few20 s ∧ v = .agg #[.int .i64 (s).pc, .slice aR (s).R.length cR, .slice aC (s).C.length cC, .slice aM (s).M.length cM] ∧ SrcW W s aR aC aM u
theorem MW.but {W : Nat} {v : Value} {u u' : World} {L : List Nat} (h : MW W v u) (f : But L u u') (hL : ∀ k, k ∈ L → k < W) : MW W v u' := by
  obtain ⟨s, aR, aC, aM, cR, cC, cM, hf, e, hs⟩ := h
  exact ⟨s, aR, aC, aM, cR, cC, cM, hf, e, hs.but f hL⟩
/-- .. and in the box Z. -/
def MZ (W Z : Nat) (u : World) : Prop := ∃ s aR aC aM cR cC cM, Few20 s ∧ Box4 u Z (.int .i64 s.pc) (.slice aR s.R.length cR) (.slice aC s.C.length cC) (.slice aM s.M.length cM) ∧ SrcW W s aR aC aM u
theorem MZ.but {W Z : Nat} {u u' : World} {L : List Nat} (h : MZ W Z u) (f : But L u u') (hL : ∀ k, k ∈ L → k < W) (hZ : Z ∉ L) : MZ W Z u' := by
  obtain ⟨s, aR, aC, aM, cR, cC, cM, hf, e, hs⟩ := h
  exact ⟨s, aR, aC, aM, cR, cC, cM, hf, e.but f hZ, hs.but f hL⟩
theorem MW.cells {W : Nat} {v : Value} {u : World} (h : MW W v u) : ∃ s aR aC aM cR cC cM, Few20 s ∧ v = .agg #[.int .i64 (s).pc, .slice aR (s).R.length cR, .slice aC (s).C.length cC, .slice aM (s).M.length cM] ∧ SrcW W s aR aC aM u := h
def DrewN (w : World) (e : Ending) (w' : World) : Prop := ∃ (xs : List Int) (ao : Option Addr) (cap : Nat), xs.length ≤ 300 ∧ e = .returned (.slice ao xs.length cap) ∧ Src w' xs.length (ivl xs) ao ∧ Fr w w'
set_option maxRecDepth 8000 in
set_option maxHeartbeats 2000000 in
theorem DrawPlnNew (s : Option Addr) (len cap : Nat) (w : World) (h : Code1 w.heap.size w s len cap) : Calls Try.prog 18 #[.slice s len cap] w (DrewN w) := by
  obtain ⟨i0, hi, hz0, hz1, hz2⟩ := info_parts info_intV
  have hmx : maxLen = 9223372036854775807 := rfl
  go_enter Try.func18, Try.ntmps18
  go_wp2_with fail
  refine (opens _ s len cap w h).mono ?_
  rintro e w1 ⟨rfl, r1, b1⟩
  have HB := Lib.hid b1
  have lb := r1.lt
  clear b1 h
  go_wp2_with fail
  refine (l20Words _ _ _ w1 r1 (by omega)).mono ?_
  rintro e w2 ⟨xs, ao, cap2, hxl, hxo, rfl, how, r2, g2⟩
  have D2 := Lib.hid (show DG w.heap.size w1 w.heap.size (0 + 20000) w2 (.slice ao xs.length cap2) xs from ⟨r2, how, lb, g2⟩)
  clear how r2 g2 r1 hxo
  go_wp2_with fail
  refine (odd _ _ _ _ _ D2.out.rd (by omega) (by omega) (by omega)).mono ?_
  rintro e w2' ⟨v2, rfl, r3, g3⟩
  have D3 := Lib.hid (D2.out.step r3 g3)
  clear r3 g3 D2
  cases v2
  · go_wp2_with fail
    refine (odd _ _ _ _ _ D3.out.rd (by omega) (by omega) (by omega)).mono ?_
    rintro e w3 ⟨v3, rfl, r3, g3⟩
    have E3 := Lib.hid (D3.out.step r3 g3)
    clear r3 g3 D3
    cases v3
    · go_wp2_with fail
      go_ret
      obtain ⟨ao2, cap2, hv2, hV2⟩ := ownsI_vc (B := w1.heap.size) E3.out.own
      exact ⟨xs, ao2, cap2, by first | omega | (simp; omega), by rw [hv2]; rfl, hV2.src, Below.trans HB.out (grown_below E3.out.grw (Nat.le_refl _) HB.out.size)⟩
    · go_wp2_with fail
      refine (pick _ _ _ _ _ E3.out.rd (by omega)).mono ?_
      rintro e w4 ⟨x4, x40, x41, rfl, r4, g4⟩
      have x42 := x41 (by omega)
      have HB4 := Lib.hid (show Fr w w4 from Below.trans HB.out (grown_below (grown_trans E3.out.grw g4) (Nat.le_refl _) HB.out.size))
      clear r4 g4 E3 x41
      have hx4 : x4 = 0 ∨ x4 = 1 := by omega
      clear x40 x42
      rcases hx4 with rfl | rfl
      · skip
        go_wp2_with (at_make; refine wpList_make_full _ rfl _ _ 22 rfl w4.heap.size 3 i0 (.int .i64 0) 1 Try.underlying22 hi hz0 hz1 .i64 .i64 (256 : Int) (256 : Int) 256 rfl rfl rfl rfl (by rw [hz2]; omega) (by omega) (Nat.le_refl _) ?_; intro w5 hown hg)
        go_ret
        rw [made_zero] at hown
        have hro := (ro_own hown).1
        refine ⟨zeros 256, some ⟨w4.heap.size, 0, none⟩, 256, by simp [zeros], by simp [zeros], hro.src, ?_⟩
        exact Fr.trans HB4.out (grown_fr hg)
      · skip
        go_wp2_with (at_make; refine wpList_make_full _ rfl _ _ 22 rfl w4.heap.size 3 i0 (.int .i64 0) 1 Try.underlying22 hi hz0 hz1 .i64 .i64 (257 : Int) (257 : Int) 257 rfl rfl rfl rfl (by rw [hz2]; omega) (by omega) (Nat.le_refl _) ?_; intro w5 hown hg)
        go_ret
        rw [made_zero] at hown
        have hro := (ro_own hown).1
        refine ⟨zeros 257, some ⟨w4.heap.size, 0, none⟩, 257, by simp [zeros], by simp [zeros], hro.src, ?_⟩
        exact Fr.trans HB4.out (grown_fr hg)
  · go_wp2_with (at_builtin; refine wpList_append_own _ rfl _ _ 22 rfl w1.heap.size 3 i0 (.int .i64 0) 1 8 Try.underlying22 hi hz0 hz1 hz2 rfl (by decide) _ _ _ rfl (World.ownsRow.alloc D3.out.own _) _ 1 1 [.int .i64 (-1)] rfl rfl (cell_str_at _ _ _ _ (by simp)) (fun x hx => by simp at hx; subst hx; rfl) (show xs.length + 1 ≤ maxLen by omega) (by omega) (by simp; have := D3.out.grw.size; omega) ?_; intro v1 w7 hown1 hg1 _)
    have D8 := Lib.hid ((D3.out.alloc _).app1 hown1 hg1)
    clear D3 hown1 hg1
    refine (odd _ _ _ _ _ D8.out.rd (by omega) (by omega) (by omega)).mono ?_
    rintro e w3 ⟨v3, rfl, r3, g3⟩
    have E3 := Lib.hid (D8.out.step r3 g3)
    clear r3 g3 D8
    cases v3
    · go_wp2_with fail
      go_ret
      obtain ⟨ao2, cap2, hv2, hV2⟩ := ownsI_vc (B := w1.heap.size) E3.out.own
      exact ⟨xs ++ [-1], ao2, cap2, by first | omega | (simp; omega), by rw [hv2]; rfl, hV2.src, Below.trans HB.out (grown_below E3.out.grw (Nat.le_refl _) HB.out.size)⟩
    · go_wp2_with fail
      refine (pick _ _ _ _ _ E3.out.rd (by omega)).mono ?_
      rintro e w4 ⟨x4, x40, x41, rfl, r4, g4⟩
      have x42 := x41 (by omega)
      have HB4 := Lib.hid (show Fr w w4 from Below.trans HB.out (grown_below (grown_trans E3.out.grw g4) (Nat.le_refl _) HB.out.size))
      clear r4 g4 E3 x41
      have hx4 : x4 = 0 ∨ x4 = 1 := by omega
      clear x40 x42
      rcases hx4 with rfl | rfl
      · skip
        go_wp2_with (at_make; refine wpList_make_full _ rfl _ _ 22 rfl w4.heap.size 3 i0 (.int .i64 0) 1 Try.underlying22 hi hz0 hz1 .i64 .i64 (256 : Int) (256 : Int) 256 rfl rfl rfl rfl (by rw [hz2]; omega) (by omega) (Nat.le_refl _) ?_; intro w5 hown hg)
        go_ret
        rw [made_zero] at hown
        have hro := (ro_own hown).1
        refine ⟨zeros 256, some ⟨w4.heap.size, 0, none⟩, 256, by simp [zeros], by simp [zeros], hro.src, ?_⟩
        exact Fr.trans HB4.out (grown_fr hg)
      · skip
        go_wp2_with (at_make; refine wpList_make_full _ rfl _ _ 22 rfl w4.heap.size 3 i0 (.int .i64 0) 1 Try.underlying22 hi hz0 hz1 .i64 .i64 (257 : Int) (257 : Int) 257 rfl rfl rfl rfl (by rw [hz2]; omega) (by omega) (Nat.le_refl _) ?_; intro w5 hown hg)
        go_ret
        rw [made_zero] at hown
        have hro := (ro_own hown).1
        refine ⟨zeros 257, some ⟨w4.heap.size, 0, none⟩, 257, by simp [zeros], by simp [zeros], hro.src, ?_⟩
        exact Fr.trans HB4.out (grown_fr hg)

end Go.Proofs.Ytmkinbnopgfljaa
