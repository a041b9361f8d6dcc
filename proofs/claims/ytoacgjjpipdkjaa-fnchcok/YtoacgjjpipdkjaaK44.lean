/- The draws of chapter 7 that answer a cache. Caches that are the same. -/
import Derived.Test.YtoacgjjpipdkjaaK43
import Derived.Test.YtoacgjjpipdkjaaK20
import Derived.Test.YtoacgjjpipdkjaaGh3
namespace Go.Proofs.Ytoacgjjpipdkjaa
open Go.RowKit
set_option linter.unusedVariables false
set_option linter.unusedSimpArgs false
theorem grown_below7 {w0 w1 w2 : World} {b : Nat} (e : w0.heap.size = b) (b1 : Below w0.heap.size w0 w1) (g2 : w1.grownBy w2 (some b)) : Fr w0 w2 := by
  subst e
  exact Below.trans b1 (grown_below g2 (Nat.le_refl _) b1.size)
/-- A cache that was drawn, and nothing that was there has turned. -/
def OneC (w : World) (e : Ending) (w' : World) : Prop := ∃ M X aM aL cM cL, FewC M X ∧ M.length ≤ cM ∧ e = .returned (caV aM aL M X cM cL) ∧ SrcC w' M X aM aL ∧ Fr w w'
/-- .. and a place .. -/
def TwoC (w : World) (e : Ending) (w' : World) : Prop := ∃ M X aM aL cM cL, ∃ at1 : Int, FewC M X ∧ M.length ≤ cM ∧ (-1 ≤ at1 ∧ at1 < 257) ∧ e = .returned (.tuple #[caV aM aL M X cM cL, .int .i64 at1]) ∧ SrcC w' M X aM aL ∧ Fr w w'
/-- .. and a number. -/
def ThreeC (w : World) (e : Ending) (w' : World) : Prop := ∃ M X aM aL cM cL, ∃ at1 n1 : Int, FewC M X ∧ M.length ≤ cM ∧ (-1 ≤ at1 ∧ at1 < 257) ∧ e = .returned (.tuple #[caV aM aL M X cM cL, .int .i64 at1, .int .i64 n1]) ∧ SrcC w' M X aM aL ∧ Fr w w'
set_option maxHeartbeats 2000000 in
theorem DrawChcOk (s : Option Addr) (len cap : Nat) (w : World) (h : Code1 w.heap.size w s len cap) : Calls Try.prog 46 #[.slice s len cap] w (OneC w) := by
  have HZ := Lib.hid (Box2.new w (.slice none 0 0) (.slice none 0 0) 30 _ rfl)
  have HF := Lib.hid (Fr.alloc w (.cells #[.slice none 0 0, .slice none 0 0] 30))
  have hs0 : (w.alloc (.cells #[.slice none 0 0, .slice none 0 0] 30)).heap.size = w.heap.size + 1 := by simp
  have HC := Lib.hid (h.below HF.out)
  clear h
  go_enter Try.func46, Try.ntmps46
  go_wp2_with fail
  generalize (w.alloc (.cells #[.slice none 0 0, .slice none 0 0] 30)) = w0 at *
  refine (opens _ s len cap w0 HC.out).mono ?_
  rintro e w1 ⟨rfl, r1, b1⟩
  have hs1 := b1.size
  rw [hs0] at r1
  have lb := r1.lt
  go_wp2_with fail
  refine (l20Chc _ _ _ _ w1 r1 (by omega) (by omega) (by omega)).mono ?_
  rintro e w2 ⟨M, X, aM, aL, cM, cL, hf, hc, rfl, r2, g2, hS, _⟩
  have HZ2 := Lib.hid ((HZ.out.fr b1).but (but_row g2) (by simp))
  have HB2 := Lib.hid (HF.out.trans (grown_below7 hs0 b1 g2))
  have HS2 := Lib.hid hS
  have HR2 := Lib.hid r2
  clear hS r2 g2 r1 HZ HF HC
  obtain ⟨_, z0, z1, o0, o1⟩ := HZ2.out
  dsimp only [caV]
  go_wp2_with fail
  refine bodyPost_ret (v := .agg #[.slice aM M.length cM, .slice aL X.length cL]) (by simp [results, Try.results46, go_sem, z0, z1]) rfl ⟨M, X, aM, aL, cM, cL, hf, hc, rfl, ?_, ?_⟩
  · exact HS2.out [w.heap.size] _ ((But.refl [w.heap.size] w2).set2 w.heap.size _ _ (.inl (by simp))) (fun k m => by have := List.mem_singleton.1 m; omega)
  · exact fr_but HB2.out ((But.refl [w.heap.size] w2).set2 w.heap.size _ _ (.inl (by simp))) (fun k m => by have := List.mem_singleton.1 m; omega)
set_option maxHeartbeats 2000000 in
theorem DrawChcAll (s : Option Addr) (len cap : Nat) (w : World) (h : Code1 w.heap.size w s len cap) : Calls Try.prog 59 #[.slice s len cap] w (OneC w) := by
  have HZ := Lib.hid (Box2.new w (.slice none 0 0) (.slice none 0 0) 30 _ rfl)
  have HF := Lib.hid (Fr.alloc w (.cells #[.slice none 0 0, .slice none 0 0] 30))
  have hs0 : (w.alloc (.cells #[.slice none 0 0, .slice none 0 0] 30)).heap.size = w.heap.size + 1 := by simp
  have HC := Lib.hid (h.below HF.out)
  clear h
  go_enter Try.func59, Try.ntmps59
  go_wp2_with fail
  generalize (w.alloc (.cells #[.slice none 0 0, .slice none 0 0] 30)) = w0 at *
  refine (opens _ s len cap w0 HC.out).mono ?_
  rintro e w1 ⟨rfl, r1, b1⟩
  have hs1 := b1.size
  rw [hs0] at r1
  have lb := r1.lt
  go_wp2_with fail
  refine (l20Chc _ _ _ _ w1 r1 (by omega) (by omega) (by omega)).mono ?_
  rintro e w2 ⟨M, X, aM, aL, cM, cL, hf, hc, rfl, r2, g2, hS, _⟩
  have HZ2 := Lib.hid ((HZ.out.fr b1).but (but_row g2) (by simp))
  have HB2 := Lib.hid (HF.out.trans (grown_below7 hs0 b1 g2))
  have HS2 := Lib.hid hS
  have HR2 := Lib.hid r2
  clear hS r2 g2 r1 HZ HF HC
  obtain ⟨_, z0, z1, o0, o1⟩ := HZ2.out
  dsimp only [caV]
  go_wp2_with fail
  refine bodyPost_ret (v := .agg #[.slice aM M.length cM, .slice aL X.length cL]) (by simp [results, Try.results59, go_sem, z0, z1]) rfl ⟨M, X, aM, aL, cM, cL, hf, hc, rfl, ?_, ?_⟩
  · exact HS2.out [w.heap.size] _ ((But.refl [w.heap.size] w2).set2 w.heap.size _ _ (.inl (by simp))) (fun k m => by have := List.mem_singleton.1 m; omega)
  · exact fr_but HB2.out ((But.refl [w.heap.size] w2).set2 w.heap.size _ _ (.inl (by simp))) (fun k m => by have := List.mem_singleton.1 m; omega)
set_option maxHeartbeats 2000000 in
theorem DrawChcLook (s : Option Addr) (len cap : Nat) (w : World) (h : Code1 w.heap.size w s len cap) : Calls Try.prog 60 #[.slice s len cap] w (TwoC w) := by
  have HZ := Lib.hid (Box2.new w (.slice none 0 0) (.slice none 0 0) 30 _ rfl)
  have HF := Lib.hid (Fr.alloc w (.cells #[.slice none 0 0, .slice none 0 0] 30))
  have hs0 : (w.alloc (.cells #[.slice none 0 0, .slice none 0 0] 30)).heap.size = w.heap.size + 1 := by simp
  have HC := Lib.hid (h.below HF.out)
  clear h
  go_enter Try.func60, Try.ntmps60
  go_wp2_with fail
  generalize (w.alloc (.cells #[.slice none 0 0, .slice none 0 0] 30)) = w0 at *
  refine (opens _ s len cap w0 HC.out).mono ?_
  rintro e w1 ⟨rfl, r1, b1⟩
  have hs1 := b1.size
  rw [hs0] at r1
  have lb := r1.lt
  go_wp2_with fail
  refine (l20Chc _ _ _ _ w1 r1 (by omega) (by omega) (by omega)).mono ?_
  rintro e w2 ⟨M, X, aM, aL, cM, cL, hf, hc, rfl, r2, g2, hS, _⟩
  have HZ2 := Lib.hid ((HZ.out.fr b1).but (but_row g2) (by simp))
  have HB2 := Lib.hid (HF.out.trans (grown_below7 hs0 b1 g2))
  have HS2 := Lib.hid hS
  have HR2 := Lib.hid r2
  clear hS r2 g2 r1 HZ HF HC
  go_wp2_with fail
  refine (pick _ _ _ _ w2 HR2.out (by omega)).mono ?_
  rintro e w3 ⟨x3, x30, x31, rfl, r3, g3⟩
  have HZ3 := Lib.hid (HZ2.out.but (but_row g3) (by simp; try omega))
  have HB3 := Lib.hid (fr_but HB2.out (but_row g3) (fun k m => by simp at m; omega))
  have HS3 := Lib.hid (fun L u' (f : But L w3 u') (hL : ∀ k, k ∈ L → k < w1.heap.size) => HS2.out ((w.heap.size + 1) :: L) u' (((show But [w.heap.size + 1] w2 w3 by have := but_row g3; simpa [hs0] using this).mono (fun k m _ => by have := List.mem_singleton.1 m; subst this; exact List.mem_cons_self)).trans (f.mono (fun k m _ => List.mem_cons_of_mem _ m))) (fun k m => by
    rcases List.mem_cons.1 m with e | e
    · omega
    · exact hL k e))
  have HR3 := Lib.hid r3
  clear r3 g3 HZ2 HB2 HS2 HR2
  replace x31 := x31 (by omega)
  obtain ⟨_, z0, z1, o0, o1⟩ := HZ3.out
  dsimp only [caV]
  go_wp2_with fail
  refine bodyPost_ret (v := .tuple #[.agg #[.slice aM M.length cM, .slice aL X.length cL], .int .i64 (x3 - 1)]) (by simp [results, Try.results60, go_sem, z0, z1]) rfl ⟨M, X, aM, aL, cM, cL, x3 - 1, hf, hc, ⟨by omega, by omega⟩, rfl, ?_, ?_⟩
  · exact HS3.out [w.heap.size] _ ((But.refl [w.heap.size] w3).set2 w.heap.size _ _ (.inl (by simp))) (fun k m => by have := List.mem_singleton.1 m; omega)
  · exact fr_but HB3.out ((But.refl [w.heap.size] w3).set2 w.heap.size _ _ (.inl (by simp))) (fun k m => by have := List.mem_singleton.1 m; omega)
set_option maxHeartbeats 2000000 in
theorem DrawChcRead (s : Option Addr) (len cap : Nat) (w : World) (h : Code1 w.heap.size w s len cap) : Calls Try.prog 55 #[.slice s len cap] w (TwoC w) := by
  have HZ := Lib.hid (Box2.new w (.slice none 0 0) (.slice none 0 0) 30 _ rfl)
  have HF := Lib.hid (Fr.alloc w (.cells #[.slice none 0 0, .slice none 0 0] 30))
  have hs0 : (w.alloc (.cells #[.slice none 0 0, .slice none 0 0] 30)).heap.size = w.heap.size + 1 := by simp
  have HC := Lib.hid (h.below HF.out)
  clear h
  go_enter Try.func55, Try.ntmps55
  go_wp2_with fail
  generalize (w.alloc (.cells #[.slice none 0 0, .slice none 0 0] 30)) = w0 at *
  refine (opens _ s len cap w0 HC.out).mono ?_
  rintro e w1 ⟨rfl, r1, b1⟩
  have hs1 := b1.size
  rw [hs0] at r1
  have lb := r1.lt
  go_wp2_with fail
  refine (l20Chc _ _ _ _ w1 r1 (by omega) (by omega) (by omega)).mono ?_
  rintro e w2 ⟨M, X, aM, aL, cM, cL, hf, hc, rfl, r2, g2, hS, _⟩
  have HZ2 := Lib.hid ((HZ.out.fr b1).but (but_row g2) (by simp))
  have HB2 := Lib.hid (HF.out.trans (grown_below7 hs0 b1 g2))
  have HS2 := Lib.hid hS
  have HR2 := Lib.hid r2
  clear hS r2 g2 r1 HZ HF HC
  go_wp2_with fail
  refine (pick _ _ _ _ w2 HR2.out (by omega)).mono ?_
  rintro e w3 ⟨x3, x30, x31, rfl, r3, g3⟩
  have HZ3 := Lib.hid (HZ2.out.but (but_row g3) (by simp; try omega))
  have HB3 := Lib.hid (fr_but HB2.out (but_row g3) (fun k m => by simp at m; omega))
  have HS3 := Lib.hid (fun L u' (f : But L w3 u') (hL : ∀ k, k ∈ L → k < w1.heap.size) => HS2.out ((w.heap.size + 1) :: L) u' (((show But [w.heap.size + 1] w2 w3 by have := but_row g3; simpa [hs0] using this).mono (fun k m _ => by have := List.mem_singleton.1 m; subst this; exact List.mem_cons_self)).trans (f.mono (fun k m _ => List.mem_cons_of_mem _ m))) (fun k m => by
    rcases List.mem_cons.1 m with e | e
    · omega
    · exact hL k e))
  have HR3 := Lib.hid r3
  clear r3 g3 HZ2 HB2 HS2 HR2
  replace x31 := x31 (by omega)
  obtain ⟨_, z0, z1, o0, o1⟩ := HZ3.out
  dsimp only [caV]
  go_wp2_with fail
  refine bodyPost_ret (v := .tuple #[.agg #[.slice aM M.length cM, .slice aL X.length cL], .int .i64 (x3 - 1)]) (by simp [results, Try.results55, go_sem, z0, z1]) rfl ⟨M, X, aM, aL, cM, cL, x3 - 1, hf, hc, ⟨by omega, by omega⟩, rfl, ?_, ?_⟩
  · exact HS3.out [w.heap.size] _ ((But.refl [w.heap.size] w3).set2 w.heap.size _ _ (.inl (by simp))) (fun k m => by have := List.mem_singleton.1 m; omega)
  · exact fr_but HB3.out ((But.refl [w.heap.size] w3).set2 w.heap.size _ _ (.inl (by simp))) (fun k m => by have := List.mem_singleton.1 m; omega)
set_option maxHeartbeats 2000000 in
theorem DrawChcWrite (s : Option Addr) (len cap : Nat) (w : World) (h : Code1 w.heap.size w s len cap) : Calls Try.prog 56 #[.slice s len cap] w (ThreeC w) := by
  have HZ := Lib.hid (Box2.new w (.slice none 0 0) (.slice none 0 0) 30 _ rfl)
  have HF := Lib.hid (Fr.alloc w (.cells #[.slice none 0 0, .slice none 0 0] 30))
  have hs0 : (w.alloc (.cells #[.slice none 0 0, .slice none 0 0] 30)).heap.size = w.heap.size + 1 := by simp
  have HC := Lib.hid (h.below HF.out)
  clear h
  go_enter Try.func56, Try.ntmps56
  go_wp2_with fail
  generalize (w.alloc (.cells #[.slice none 0 0, .slice none 0 0] 30)) = w0 at *
  refine (opens _ s len cap w0 HC.out).mono ?_
  rintro e w1 ⟨rfl, r1, b1⟩
  have hs1 := b1.size
  rw [hs0] at r1
  have lb := r1.lt
  go_wp2_with fail
  refine (l20Chc _ _ _ _ w1 r1 (by omega) (by omega) (by omega)).mono ?_
  rintro e w2 ⟨M, X, aM, aL, cM, cL, hf, hc, rfl, r2, g2, hS, _⟩
  have HZ2 := Lib.hid ((HZ.out.fr b1).but (but_row g2) (by simp))
  have HB2 := Lib.hid (HF.out.trans (grown_below7 hs0 b1 g2))
  have HS2 := Lib.hid hS
  have HR2 := Lib.hid r2
  clear hS r2 g2 r1 HZ HF HC
  go_wp2_with fail
  refine (pick _ _ _ _ w2 HR2.out (by omega)).mono ?_
  rintro e w3 ⟨x3, x30, x31, rfl, r3, g3⟩
  have HZ3 := Lib.hid (HZ2.out.but (but_row g3) (by simp; try omega))
  have HB3 := Lib.hid (fr_but HB2.out (but_row g3) (fun k m => by simp at m; omega))
  have HS3 := Lib.hid (fun L u' (f : But L w3 u') (hL : ∀ k, k ∈ L → k < w1.heap.size) => HS2.out ((w.heap.size + 1) :: L) u' (((show But [w.heap.size + 1] w2 w3 by have := but_row g3; simpa [hs0] using this).mono (fun k m _ => by have := List.mem_singleton.1 m; subst this; exact List.mem_cons_self)).trans (f.mono (fun k m _ => List.mem_cons_of_mem _ m))) (fun k m => by
    rcases List.mem_cons.1 m with e | e
    · omega
    · exact hL k e))
  have HR3 := Lib.hid r3
  clear r3 g3 HZ2 HB2 HS2 HR2
  replace x31 := x31 (by omega)
  go_wp2_with fail
  refine (l20Word _ _ _ 9 w3 HR3.out (by omega) (by omega) (by omega)).mono ?_
  rintro e w4 ⟨x4, rfl, r4, g4⟩
  have HZ4 := Lib.hid (HZ3.out.but (but_row g4) (by simp; try omega))
  have HB4 := Lib.hid (fr_but HB3.out (but_row g4) (fun k m => by simp at m; omega))
  have HS4 := Lib.hid (fun L u' (f : But L w4 u') (hL : ∀ k, k ∈ L → k < w1.heap.size) => HS3.out ((w.heap.size + 1) :: L) u' (((show But [w.heap.size + 1] w3 w4 by have := but_row g4; simpa [hs0] using this).mono (fun k m _ => by have := List.mem_singleton.1 m; subst this; exact List.mem_cons_self)).trans (f.mono (fun k m _ => List.mem_cons_of_mem _ m))) (fun k m => by
    rcases List.mem_cons.1 m with e | e
    · omega
    · exact hL k e))
  have HR4 := Lib.hid r4
  clear r4 g4 HZ3 HB3 HS3 HR3
  obtain ⟨_, z0, z1, o0, o1⟩ := HZ4.out
  dsimp only [caV]
  go_wp2_with fail
  refine bodyPost_ret (v := .tuple #[.agg #[.slice aM M.length cM, .slice aL X.length cL], .int .i64 (x3 - 1), .int .i64 x4]) (by simp [results, Try.results56, go_sem, z0, z1]) rfl ⟨M, X, aM, aL, cM, cL, x3 - 1, x4, hf, hc, ⟨by omega, by omega⟩, rfl, ?_, ?_⟩
  · exact HS4.out [w.heap.size] _ ((But.refl [w.heap.size] w4).set2 w.heap.size _ _ (.inl (by simp))) (fun k m => by have := List.mem_singleton.1 m; omega)
  · exact fr_but HB4.out ((But.refl [w.heap.size] w4).set2 w.heap.size _ _ (.inl (by simp))) (fun k m => by have := List.mem_singleton.1 m; omega)
set_option maxHeartbeats 2000000 in
theorem DrawChcLay (s : Option Addr) (len cap : Nat) (w : World) (h : Code1 w.heap.size w s len cap) : Calls Try.prog 58 #[.slice s len cap] w (ThreeC w) := by
  have HZ := Lib.hid (Box2.new w (.slice none 0 0) (.slice none 0 0) 30 _ rfl)
  have HF := Lib.hid (Fr.alloc w (.cells #[.slice none 0 0, .slice none 0 0] 30))
  have hs0 : (w.alloc (.cells #[.slice none 0 0, .slice none 0 0] 30)).heap.size = w.heap.size + 1 := by simp
  have HC := Lib.hid (h.below HF.out)
  clear h
  go_enter Try.func58, Try.ntmps58
  go_wp2_with fail
  generalize (w.alloc (.cells #[.slice none 0 0, .slice none 0 0] 30)) = w0 at *
  refine (opens _ s len cap w0 HC.out).mono ?_
  rintro e w1 ⟨rfl, r1, b1⟩
  have hs1 := b1.size
  rw [hs0] at r1
  have lb := r1.lt
  go_wp2_with fail
  refine (l20Chc _ _ _ _ w1 r1 (by omega) (by omega) (by omega)).mono ?_
  rintro e w2 ⟨M, X, aM, aL, cM, cL, hf, hc, rfl, r2, g2, hS, _⟩
  have HZ2 := Lib.hid ((HZ.out.fr b1).but (but_row g2) (by simp))
  have HB2 := Lib.hid (HF.out.trans (grown_below7 hs0 b1 g2))
  have HS2 := Lib.hid hS
  have HR2 := Lib.hid r2
  clear hS r2 g2 r1 HZ HF HC
  go_wp2_with fail
  refine (pick _ _ _ _ w2 HR2.out (by omega)).mono ?_
  rintro e w3 ⟨x3, x30, x31, rfl, r3, g3⟩
  have HZ3 := Lib.hid (HZ2.out.but (but_row g3) (by simp; try omega))
  have HB3 := Lib.hid (fr_but HB2.out (but_row g3) (fun k m => by simp at m; omega))
  have HS3 := Lib.hid (fun L u' (f : But L w3 u') (hL : ∀ k, k ∈ L → k < w1.heap.size) => HS2.out ((w.heap.size + 1) :: L) u' (((show But [w.heap.size + 1] w2 w3 by have := but_row g3; simpa [hs0] using this).mono (fun k m _ => by have := List.mem_singleton.1 m; subst this; exact List.mem_cons_self)).trans (f.mono (fun k m _ => List.mem_cons_of_mem _ m))) (fun k m => by
    rcases List.mem_cons.1 m with e | e
    · omega
    · exact hL k e))
  have HR3 := Lib.hid r3
  clear r3 g3 HZ2 HB2 HS2 HR2
  replace x31 := x31 (by omega)
  go_wp2_with fail
  refine (l20Word _ _ _ 9 w3 HR3.out (by omega) (by omega) (by omega)).mono ?_
  rintro e w4 ⟨x4, rfl, r4, g4⟩
  have HZ4 := Lib.hid (HZ3.out.but (but_row g4) (by simp; try omega))
  have HB4 := Lib.hid (fr_but HB3.out (but_row g4) (fun k m => by simp at m; omega))
  have HS4 := Lib.hid (fun L u' (f : But L w4 u') (hL : ∀ k, k ∈ L → k < w1.heap.size) => HS3.out ((w.heap.size + 1) :: L) u' (((show But [w.heap.size + 1] w3 w4 by have := but_row g4; simpa [hs0] using this).mono (fun k m _ => by have := List.mem_singleton.1 m; subst this; exact List.mem_cons_self)).trans (f.mono (fun k m _ => List.mem_cons_of_mem _ m))) (fun k m => by
    rcases List.mem_cons.1 m with e | e
    · omega
    · exact hL k e))
  have HR4 := Lib.hid r4
  clear r4 g4 HZ3 HB3 HS3 HR3
  obtain ⟨_, z0, z1, o0, o1⟩ := HZ4.out
  dsimp only [caV]
  go_wp2_with fail
  refine bodyPost_ret (v := .tuple #[.agg #[.slice aM M.length cM, .slice aL X.length cL], .int .i64 (x3 - 1), .int .i64 x4]) (by simp [results, Try.results58, go_sem, z0, z1]) rfl ⟨M, X, aM, aL, cM, cL, x3 - 1, x4, hf, hc, ⟨by omega, by omega⟩, rfl, ?_, ?_⟩
  · exact HS4.out [w.heap.size] _ ((But.refl [w.heap.size] w4).set2 w.heap.size _ _ (.inl (by simp))) (fun k m => by have := List.mem_singleton.1 m; omega)
  · exact fr_but HB4.out ((But.refl [w.heap.size] w4).set2 w.heap.size _ _ (.inl (by simp))) (fun k m => by have := List.mem_singleton.1 m; omega)

set_option maxRecDepth 8000 in
set_option maxHeartbeats 4000000 in
theorem laws_haChc_same (M : List Int) (X Y : List La) (aM aL bM bL : Option Addr) (cM cL dM dL : Nat) (u : World) (h1 : SrcC u M X aM aL) (h2 : SrcC u M Y bM bL) (he : lns X = lns Y) (hf : FewC M X) :
    Calls Try.prog 52 #[caV aM aL M X cM cL, caV bM bL M Y dM dL] u fun e u' => e = .returned (.bool true) ∧ Fr u u' := by
  have hl : Y.length = X.length := by have e1 := congrArg List.length he; simpa [lns] using e1.symm
  have hn : ∀ i, (X.getD i la0).n = (Y.getD i la0).n := fun i => by rw [← lns_get, ← lns_get, he]
  have HL := Lib.hid hl
  have HN := Lib.hid hn
  unfold caV
  rw [hl]
  have F0 : Fr u ((u.alloc (.cells #[.slice aM M.length cM, .slice aL X.length cL] 30)).alloc (.cells #[.slice bM M.length dM, .slice bL X.length dL] 30)) := by (repeat' first | (with_reducible exact Below.refl _ _) | (with_reducible assumption) | ((with_reducible refine Below.setCell ?_ ?hb _); (case hb => first | exact Nat.le_refl _ | (simp; done) | (simp; omega) | omega)) | ((with_reducible refine Below.alloc ?_ ?hb _); (case hb => first | exact Nat.le_refl _ | (simp; done) | (simp; omega) | omega)) | (with_reducible refine Below.drew ?_))
  have HF := Lib.hid F0
  have H1 := Lib.hid (h1.fr F0)
  have H2 := Lib.hid (h2.fr F0)
  have Y1 := Lib.hid ((Box2.new u (.slice aM M.length cM) (.slice aL X.length cL) 30 _ rfl).fr (Fr.alloc _ (.cells #[.slice bM M.length dM, .slice bL X.length dL] 30)))
  have Y2 := Lib.hid (Box2.new (u.alloc (.cells #[.slice aM M.length cM, .slice aL X.length cL] 30)) (.slice bM M.length dM) (.slice bL X.length dL) 30 (u.heap.size + 1) (by simp))
  have hfM := hf.M
  have hfL := hf.L
  have HB := Lib.hid hf.W
  clear F0 h1 h2 hl he hf hn
  go_enter Try.func52, Try.ntmps52
  go_upto_region 1 with fail
  generalize ((u.alloc (.cells #[.slice aM M.length cM, .slice aL X.length cL] 30)).alloc (.cells #[.slice bM M.length dM, .slice bL X.length dL] 30)) = u0 at *
  obtain ⟨_, c0, c1, _, _⟩ := Y1.out
  obtain ⟨_, x0, x1, _, _⟩ := Y2.out
  go_wp2_with fail
  refine (laws_haIntso _ _ (fun i => M.getD i 0) _ _ _ _ H1.out.M H2.out.M hfM).mono ?_
  rintro e u1 ⟨rfl, m, hm⟩
  have f : Fr u0 u1 := by rw [← hm]; exact Below.drewN (Below.refl _ _) _
  have F1 := Lib.hid f
  have Z1 := Lib.hid (Y1.out.fr f)
  have Z2 := Lib.hid (Y2.out.fr f)
  have HS1 := Lib.hid (H1.out.L.fr f)
  have HS2 := Lib.hid (H2.out.L.fr f)
  clear hm m c0 c1 x0 x1 f Y1 Y2 H1 H2
  obtain ⟨_, y0, y1, _, _⟩ := Z1.out
  obtain ⟨_, z0, z1, _, _⟩ := Z2.out
  go_wp2_with fail
  clear y0 y1 z0 z1
  go_loopw [5] (fun i wr => ∃ p : Nat, p ≤ X.length ∧ i = .int .i64 p ∧ Fr u1 wr) (fun i _ => X.length - (intOf i).toNat)
  case atStart => exact ⟨0, Nat.zero_le _, rfl, Below.refl _ _⟩
  case round =>
    obtain ⟨p, hp, rfl, hf⟩ := hrel
    have HFr := Lib.hid hf
    obtain ⟨_, y0, y1, _, _⟩ := Z1.out.fr hf
    obtain ⟨_, z0, z1, _, _⟩ := Z2.out.fr hf
    by_cases hlt : p < X.length
    · obtain ⟨g1, o1, rfl, hg1, r1⟩ := HS1.out.at0 (by omega)
      obtain ⟨g2, o2, rfl, hg2, r2⟩ := HS2.out.at0 (by rw [HL.out]; omega)
      obtain ⟨d0, d1, d2, d3⟩ := line_at (range_fr r1 hf hg1) p hlt
      obtain ⟨e0, e1, e2, e3⟩ := line_at (range_fr r2 hf hg2) p (by rw [HL.out]; exact hlt)
      have hlt' : (p : Int) < (X.length : Int) := by omega
      have hp0 : (0 : Int) ≤ (p : Int) := Int.natCast_nonneg _
      have W1 := Lib.hid (fun v (f : Fr wr v) => (HS1.out.wd p hlt).fr (Fr.trans HFr.out f))
      have W2 := Lib.hid (fun v (f : Fr wr v) => (HS2.out.wd p (by rw [HL.out]; exact hlt)).fr (Fr.trans HFr.out f))
      have hbp := HB.out p hlt
      have hnp := HN.out p
      clear hf r1 r2
      generalize X.getD p la0 = l1 at *
      generalize Y.getD p la0 = l2 at *
      obtain ⟨n1, b1, k1⟩ := l1
      obtain ⟨n2, b2, k2⟩ := l2
      simp only at hnp
      subst hnp
      simp only at d0 d1 d2 d3 e0 e1 e2 e3 hbp
      have sg1 : g1 < wr.heap.size := Nat.lt_of_lt_of_le hg1 HFr.out.size
      have sg2 : g2 < wr.heap.size := Nat.lt_of_lt_of_le hg2 HFr.out.size
      go_upto_region 8 with fail
      go_wp2_with fail
      refine (laws_haIntso _ _ (fun i => n1.W.getD i 0) _ _ _ _ (W1.out _ (by (repeat' first | (with_reducible exact Below.refl _ _) | (with_reducible assumption) | ((with_reducible refine Below.setCell ?_ ?hb _); (case hb => first | exact Nat.le_refl _ | (simp; done) | (simp; omega) | omega)) | ((with_reducible refine Below.alloc ?_ ?hb _); (case hb => first | exact Nat.le_refl _ | (simp; done) | (simp; omega) | omega)) | (with_reducible refine Below.drew ?_)))) (W2.out _ (by (repeat' first | (with_reducible exact Below.refl _ _) | (with_reducible assumption) | ((with_reducible refine Below.setCell ?_ ?hb _); (case hb => first | exact Nat.le_refl _ | (simp; done) | (simp; omega) | omega)) | ((with_reducible refine Below.alloc ?_ ?hb _); (case hb => first | exact Nat.le_refl _ | (simp; done) | (simp; omega) | omega)) | (with_reducible refine Below.drew ?_)))) hbp).mono ?_
      rintro e v ⟨rfl, m, hm⟩
      have f : Fr wr v := by rw [← hm]; exact fr_drewN (by (repeat' first | (with_reducible exact Below.refl _ _) | (with_reducible assumption) | ((with_reducible refine Below.setCell ?_ ?hb _); (case hb => first | exact Nat.le_refl _ | (simp; done) | (simp; omega) | omega)) | ((with_reducible refine Below.alloc ?_ ?hb _); (case hb => first | exact Nat.le_refl _ | (simp; done) | (simp; omega) | omega)) | (with_reducible refine Below.drew ?_))) _
      have FV := Lib.hid f
      clear f hm m d0 d1 d2 d3 e0 e1 e2 e3 y0 y1 z0 z1
      go_wp2
      go_roundw
      case rel => exact ⟨p + 1, by omega, by go_num, Fr.trans HFr.out FV.out⟩
      case measure => simp [intOf]; omega
    · have hge : ¬ (p : Int) < (X.length : Int) := by omega
      clear hf
      go_wp2
      go_ret
      exact ⟨rfl, Fr.trans (Fr.trans HF.out F1.out) HFr.out⟩

end Go.Proofs.Ytoacgjjpipdkjaa
