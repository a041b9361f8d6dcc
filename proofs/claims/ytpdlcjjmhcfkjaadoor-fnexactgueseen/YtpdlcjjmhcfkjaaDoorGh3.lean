/- What the laws of chapter 5 call: guessers copied, compared, marked, held. -/
import Derived.Test.YtpdlcjjmhcfkjaaDoorGh2
import Derived.Test.YtpdlcjjmhcfkjaaDoorPh
namespace Go.Proofs.YtpdlcjjmhcfkjaaDoor
open Go.RowKit
set_option linter.unusedVariables false
set_option linter.unusedSimpArgs false
/-- The block of a row, if it is not empty. -/
def bkS (n : Nat) (ao : Option Addr) : List Nat := if 0 < n then (ao.map (·.block)).toList else []
def blk5 (x : Gu) (aS aC : Option Addr) : List Nat := bkS x.S.length aS ++ bkS x.C.length aC
theorem mem_bkS {n : Nat} {ao : Option Addr} {k : Nat} (h : k ∈ bkS n ao) : 0 < n ∧ ∃ b : Addr, ao = some b ∧ b.block = k := by
  unfold bkS at h
  split at h
  · rename_i h0
    cases ao with
    | none => simp at h
    | some b => simp at h; exact ⟨h0, b, rfl, h.symm⟩
  · simp at h
theorem bkS_mem {n : Nat} {b : Addr} (h : 0 < n) : b.block ∈ bkS n (some b) := by simp [bkS, h]
theorem VcG.blk {B : Nat} {u : World} {x : Gu} {aS aC : Option Addr} (h : VcG B u x aS aC) : ∀ k, k ∈ blk5 x aS aC → B ≤ k ∧ k < u.heap.size := fun k hk => by
  rcases List.mem_append.1 hk with hk | hk
  · obtain ⟨h0, b, rfl, rfl⟩ := mem_bkS hk
    obtain ⟨g, e, hB, hl, _⟩ := h.S.at0 h0
    cases e
    exact ⟨hB, hl⟩
  · obtain ⟨h0, b, rfl, rfl⟩ := mem_bkS hk
    obtain ⟨g, e, hB, hl, _⟩ := h.C.at0 h0
    cases e
    exact ⟨hB, hl⟩
theorem Vc4.but' {B : Nat} {L : List Nat} {u u' : World} {S : List Sl} {ao : Option Addr} (h : Vc4 B u S ao) (f : But L u u') (hn : ∀ k, k ∈ bkS S.length ao → k ∉ L) : Vc4 B u' S ao := by
  refine ⟨fun h0 => ?_⟩
  obtain ⟨g, rfl, hB, hl, hc, ht⟩ := h.at0 h0
  have hg : g ∉ L := hn g (bkS_mem (b := ⟨g, 0, none⟩) h0)
  exact ⟨g, rfl, hB, Nat.lt_of_lt_of_le hl f.size, range_but hc f hl hg, there_but ht f hl hg⟩
theorem Vc.but' {B : Nat} {L : List Nat} {u u' : World} {n : Nat} {c : Nat → Value} {ao : Option Addr} (h : Vc B u n c ao) (f : But L u u') (hn : ∀ k, k ∈ bkS n ao → k ∉ L) : Vc B u' n c ao := by
  refine ⟨fun h0 => ?_⟩
  obtain ⟨g, rfl, b, l, hc, hf⟩ := h.at0 h0
  have hg : g ∉ L := hn g (bkS_mem (b := ⟨g, 0, none⟩) h0)
  exact ⟨g, rfl, b, Nat.lt_of_lt_of_le l f.size, fun i hi => by rw [f.cell l hg]; exact hc i hi, fun i hi => by rw [f.frozen l hg]; exact hf i hi⟩
theorem VcG.but {B : Nat} {L : List Nat} {u u' : World} {x : Gu} {aS aC : Option Addr} (h : VcG B u x aS aC) (f : But L u u') (hn : ∀ k, k ∈ blk5 x aS aC → k ∉ L) : VcG B u' x aS aC :=
  ⟨h.S.but' f (fun k hk => hn k (List.mem_append_left _ hk)), h.C.but' f (fun k hk => hn k (List.mem_append_right _ hk)), h.ap⟩
theorem VcG.apart {B : Nat} {u : World} {x : Gu} {aS aC : Option Addr} (h : VcG B u x aS aC) : ∀ k, k ∈ bkS x.S.length aS → k ∉ bkS x.C.length aC := fun k h1 h2 => by
  obtain ⟨p1, b, e1, rfl⟩ := mem_bkS h1
  obtain ⟨p2, c, e2, e3⟩ := mem_bkS h2
  exact h.ap p1 p2 b c e1 e2 e3.symm
structure Few5 (x : Gu) : Prop where
  S : x.S.length ≤ 1048576
  C : x.C.length ≤ 1048576
theorem bel_but {B : Nat} {L : List Nat} {u u' : World} (f : But L u u') (hL : ∀ k, k ∈ L → B ≤ k) (hB : B ≤ u.heap.size) : Below B u u' :=
  ⟨f.os, f.tape, f.output, f.size, fun k hk => f.block k (by omega) (fun hm => by have := hL k hm; omega)⟩
theorem laws_markIntS0 (w : World) (ao : Option Addr) (cap : Nat) (k : Int) :
    Calls Tryd.prog 51 #[.slice ao 0 cap, .int .i64 k] w fun e w' => e = .returned (.int .i64 k) ∧ w = w' := by
  go_enter Tryd.func51, Tryd.ntmps51
  go_wp2_with fail
  go_loopw [1, 5] (fun q i wr => q = .int .i64 k ∧ i = .int .i64 0 ∧ w = wr) (fun _ _ _ => 0)
  case atStart => exact ⟨rfl, rfl, rfl⟩
  case round =>
    obtain ⟨rfl, rfl, rfl⟩ := hrel
    go_wp2_with fail
    go_ret
    exact ⟨rfl, rfl⟩
theorem laws_markInts5 (B : Nat) (u : World) (xs : List Int) (ao : Option Addr) (cap : Nat) (k : Int) (h : Vc B u xs.length (ivl xs) ao) (hB0 : B ≤ u.heap.size) (hn : xs.length ≤ 1048576) (k0 : 1 ≤ k) (k1 : k ≤ 10000000) :
    Calls Tryd.prog 51 #[.slice ao xs.length cap, .int .i64 k] u fun e u' => e = .returned (.int .i64 (k + xs.length)) ∧ Vc B u' xs.length (fun i => .int .i64 (k + i)) ao ∧ But (bkS xs.length ao) u u' := by
  by_cases h0 : 0 < xs.length
  · refine (laws_markIntS B u xs.length (fun i => xs.getD i 0) ao cap k h hB0 hn k0 k1).mono ?_
    rintro e u' ⟨he, hv, hg, _⟩
    refine ⟨he, hv, ?_⟩
    have := but_row hg
    simpa [bkS, h0] using this
  · have hz : xs.length = 0 := by omega
    rw [hz]
    refine (laws_markIntS0 u ao cap k).mono ?_
    rintro e u' ⟨he, rfl⟩
    exact ⟨by simpa using he, Vc.nil _ _ _ _, But.refl _ _⟩
theorem laws_markSlots5 (B : Nat) (u : World) (S : List Sl) (ao : Option Addr) (cap : Nat) (k : Int) (h : Vc4 B u S ao) (hn : S.length ≤ 1048576) (k0 : 1 ≤ k) (k1 : k ≤ 10000000) :
    Calls Tryd.prog 50 #[.slice ao S.length cap, .int .i64 k] u fun e u' => e = .returned (.int .i64 (k + 4 * S.length)) ∧ Vc4 B u' (mkS k S.length) ao ∧ But (bkS S.length ao) u u' := by
  by_cases h0 : 0 < S.length
  · obtain ⟨g, rfl, hB, hl, hc, ht⟩ := h.at0 h0
    refine (laws_markSlotS1 u g S cap k ⟨hl, hc, ht⟩ hn k0 k1).mono ?_
    rintro e u' ⟨he, hr, hb⟩
    exact ⟨he, hr.vc hB, by simpa [bkS, h0] using hb⟩
  · have hz : S.length = 0 := by omega
    rw [hz]
    refine (laws_markSlotS0 u ao cap k).mono ?_
    rintro e u' ⟨he, rfl⟩
    exact ⟨by simpa using he, Vc4.nil _ _ _, But.refl _ _⟩
set_option maxHeartbeats 1000000 in
theorem laws_szGue (x : Gu) (aS aC : Option Addr) (cS cC : Nat) (left : Int) (w : World) (h1 : x.S.length ≤ 9223372036854775807) (h2 : x.C.length ≤ 9223372036854775807) (l0 : 0 ≤ left) (l1 : left ≤ 1048576) :
    Calls Tryd.prog 8 #[.agg #[.slice aS x.S.length cS, .slice aC x.C.length cC], .int .i64 left] w fun e w' => (∃ r : Int, e = .returned (.int .i64 r) ∧ ((0 ≤ r ∧ Few5 x) ∨ r = -1)) ∧ Fr w w' := by
  have HF := Lib.hid (Fr.alloc w (.cells #[.slice aS x.S.length cS, .slice aC x.C.length cC] 25))
  go_enter Tryd.func8, Tryd.ntmps8
  go_wp2_with fail
  refine (laws_szSlotS _ _ _ _ _ h1 l0 l1).mono ?_
  rintro e w' ⟨⟨r1, rfl, q1⟩, rfl⟩
  rcases q1 with ⟨r10, r11⟩ | ⟨rfl, _⟩
  · have n1 : ¬ r1 < 0 := by omega
    go_wp2_with fail
    refine (laws_szIntS _ _ _ _ _ h2 r10 (by omega)).mono ?_
    rintro e w' ⟨⟨r2, rfl, q2⟩, rfl⟩
    rcases q2 with ⟨r20, r21⟩ | ⟨rfl, _⟩
    · have n2 : ¬ r2 < 0 := by omega
      go_wp2_with fail
      go_ret
      exact ⟨⟨_, rfl, .inl ⟨r20, ⟨by omega, by omega⟩⟩⟩, HF.out⟩
    · go_wp2_with fail
      go_ret
      exact ⟨⟨_, rfl, .inr rfl⟩, HF.out⟩
  · go_wp2_with fail
    go_ret
    exact ⟨⟨_, rfl, .inr rfl⟩, HF.out⟩
set_option maxRecDepth 4000 in
set_option maxHeartbeats 2000000 in
theorem laws_eqGue_same (B1 B2 : Nat) (u : World) (x : Gu) (aS aC bS bC : Option Addr) (cS cC dS dC : Nat) (h1 : VcG B1 u x aS aC) (h2 : VcG B2 u x bS bC) (hn : Few5 x) :
    Calls Tryd.prog 12 #[.agg #[.slice aS x.S.length cS, .slice aC x.C.length cC], .agg #[.slice bS x.S.length dS, .slice bC x.C.length dC]] u fun e u' => e = .returned (.bool true) ∧ Fr u u' := by
  have F0 : Fr u ((u.alloc (.cells #[.slice aS x.S.length cS, .slice aC x.C.length cC] 30)).alloc (.cells #[.slice bS x.S.length dS, .slice bC x.C.length dC] 30)) := by (repeat' first | (with_reducible exact Below.refl _ _) | (with_reducible assumption) | ((with_reducible refine Below.setCell ?_ ?hb _); (case hb => first | exact Nat.le_refl _ | (simp; done) | (simp; omega) | omega)) | ((with_reducible refine Below.alloc ?_ ?hb _); (case hb => first | exact Nat.le_refl _ | (simp; done) | (simp; omega) | omega)) | (with_reducible refine Below.drew ?_))
  have H1 := Lib.hid (h1.fr F0)
  have H2 := Lib.hid (h2.fr F0)
  have Y1 : Hid (Box2 ((u.alloc (.cells #[.slice aS x.S.length cS, .slice aC x.C.length cC] 30)).alloc (.cells #[.slice bS x.S.length dS, .slice bC x.C.length dC] 30)) u.heap.size (.slice aS x.S.length cS) (.slice aC x.C.length cC)) := Lib.hid ((Box2.new _ _ _ _ _ rfl).fr (Fr.alloc _ _))
  have Y2 : Hid (Box2 ((u.alloc (.cells #[.slice aS x.S.length cS, .slice aC x.C.length cC] 30)).alloc (.cells #[.slice bS x.S.length dS, .slice bC x.C.length dC] 30)) (u.heap.size + 1) (.slice bS x.S.length dS) (.slice bC x.C.length dC)) := Lib.hid (Box2.new _ _ _ _ _ (by simp))
  have F1 := Lib.hid F0
  clear F0 h1 h2
  go_enter Tryd.func12, Tryd.ntmps12
  go_wp2_with fail
  generalize ((u.alloc (.cells #[.slice aS x.S.length cS, .slice aC x.C.length cC] 30)).alloc (.cells #[.slice bS x.S.length dS, .slice bC x.C.length dC] 30)) = u0 at *
  refine (laws_eqSlotS_same u0 x.S _ _ _ _ H1.out.S.src H2.out.S.src hn.S).mono ?_
  rintro e u1 ⟨rfl, f1⟩
  have H3 := Lib.hid (H1.out.fr f1)
  have H4 := Lib.hid (H2.out.fr f1)
  have Y3 := Lib.hid (Y1.out.fr f1)
  have Y4 := Lib.hid (Y2.out.fr f1)
  have F3 := Lib.hid (F1.out.trans f1)
  clear f1 H1 H2 Y1 Y2 F1
  obtain ⟨_, x0, x1, _, _⟩ := Y3.out
  obtain ⟨_, y0, y1, _, _⟩ := Y4.out
  go_wp2_with fail
  refine (laws_eqIntS_same _ _ _ _ (fun i => x.C.getD i 0) _ _ _ _ H3.out.C H4.out.C hn.C).mono ?_
  rintro e u2 ⟨rfl, m2, hm2⟩
  have f2 : Fr u1 u2 := by rw [← hm2]; exact Below.drewN (Below.refl _ _) _
  have F5 := Lib.hid (F3.out.trans f2)
  clear f2 hm2 m2 H3 H4 Y3 Y4 F3 x0 x1 y0 y1
  go_wp2_with fail
  go_ret
  exact ⟨rfl, F5.out⟩
/-- Behind toGueState: the guesser, in new rows. -/
def ToG (x : Gu) (w : World) (e : Ending) (w' : World) : Prop := ∃ gS gC, e = .returned (.agg #[.slice (some ⟨gS, 0, none⟩) x.S.length x.S.length, .slice (some ⟨gC, 0, none⟩) x.C.length x.C.length]) ∧ VcG w.heap.size w' x (some ⟨gS, 0, none⟩) (some ⟨gC, 0, none⟩) ∧ w.heap.size ≤ gS ∧ w.heap.size ≤ gC ∧ gS < w'.heap.size ∧ gC < w'.heap.size ∧ Fr w w'
theorem Box2.s0 {u : World} {g : Nat} {a b : Value} (h : Box2 u g a b) (a' : Value) : Box2 (u.setCell ⟨g, 0, none⟩ a') g a' b :=
  ⟨by simpa [World.setCell] using h.lt, World.cell?_setCell_same _ _ _ h.c0, by rw [World.cell?_setCell_other _ _ _ _ (by simp)]; exact h.c1, by rw [World.frozen?_setCell]; exact h.f0, by rw [World.frozen?_setCell]; exact h.f1⟩
theorem Box2.s1 {u : World} {g : Nat} {a b : Value} (h : Box2 u g a b) (b' : Value) : Box2 (u.setCell ⟨g, 1, none⟩ b') g a b' :=
  ⟨by simpa [World.setCell] using h.lt, by rw [World.cell?_setCell_other _ _ _ _ (by simp)]; exact h.c0, World.cell?_setCell_same _ _ _ h.c1, by rw [World.frozen?_setCell]; exact h.f0, by rw [World.frozen?_setCell]; exact h.f1⟩
set_option maxRecDepth 4000 in
set_option maxHeartbeats 2000000 in
theorem laws_toGue (x : Gu) (aS aC : Option Addr) (cS cC : Nat) (w : World) (h : Src4 w x.S aS) (hc : Src w x.C.length (ivl x.C) aC) (hn : Few5 x) :
    Calls Tryd.prog 10 #[.agg #[.slice aS x.S.length cS, .slice aC x.C.length cC]] w (ToG x w) := by
  have F0 : Fr w (((w.alloc (.cells #[.slice aS x.S.length cS, .slice aC x.C.length cC] 25)).alloc (.cells #[.slice none 0 0, .slice none 0 0] 30)).alloc (.cells #[.slice none 0 0, .slice none 0 0] 30)) := by (repeat' first | (with_reducible exact Below.refl _ _) | (with_reducible assumption) | ((with_reducible refine Below.setCell ?_ ?hb _); (case hb => first | exact Nat.le_refl _ | (simp; done) | (simp; omega) | omega)) | ((with_reducible refine Below.alloc ?_ ?hb _); (case hb => first | exact Nat.le_refl _ | (simp; done) | (simp; omega) | omega)) | (with_reducible refine Below.drew ?_))
  have HF := Lib.hid F0
  have X1 : Hid (Box2 (((w.alloc (.cells #[.slice aS x.S.length cS, .slice aC x.C.length cC] 25)).alloc (.cells #[.slice none 0 0, .slice none 0 0] 30)).alloc (.cells #[.slice none 0 0, .slice none 0 0] 30)) w.heap.size (.slice aS x.S.length cS) (.slice aC x.C.length cC)) := Lib.hid (((Box2.new _ _ _ _ _ rfl).fr (Fr.alloc _ _)).fr (Fr.alloc _ _))
  have X2 : Hid (Box2 (((w.alloc (.cells #[.slice aS x.S.length cS, .slice aC x.C.length cC] 25)).alloc (.cells #[.slice none 0 0, .slice none 0 0] 30)).alloc (.cells #[.slice none 0 0, .slice none 0 0] 30)) (w.heap.size + 1) (.slice none 0 0) (.slice none 0 0)) := Lib.hid ((Box2.new _ _ _ _ _ (by simp)).fr (Fr.alloc _ _))
  have X3 : Hid (Box2 (((w.alloc (.cells #[.slice aS x.S.length cS, .slice aC x.C.length cC] 25)).alloc (.cells #[.slice none 0 0, .slice none 0 0] 30)).alloc (.cells #[.slice none 0 0, .slice none 0 0] 30)) (w.heap.size + 2) (.slice none 0 0) (.slice none 0 0)) := Lib.hid (Box2.new _ _ _ _ _ (by simp))
  have HS := Lib.hid h
  have HC := Lib.hid hc
  have hz : w.heap.size + 3 = (((w.alloc (.cells #[.slice aS x.S.length cS, .slice aC x.C.length cC] 25)).alloc (.cells #[.slice none 0 0, .slice none 0 0] 30)).alloc (.cells #[.slice none 0 0, .slice none 0 0] 30)).heap.size := by simp
  clear F0 h hc
  go_enter Tryd.func10, Tryd.ntmps10
  go_wp2_with fail
  generalize (((w.alloc (.cells #[.slice aS x.S.length cS, .slice aC x.C.length cC] 25)).alloc (.cells #[.slice none 0 0, .slice none 0 0] 30)).alloc (.cells #[.slice none 0 0, .slice none 0 0] 30)) = u0 at *
  refine (laws_toSlotS _ x.S _ _ (HS.out.fr HF.out) hn.S).mono ?_
  rintro e v1 ⟨g1, rfl, b1, r1, f1⟩
  rw [← hz] at b1
  have hl1 := r1.lt
  have hst : But [w.heap.size + 2] v1 (v1.setCell ⟨w.heap.size + 2, 0, none⟩ (.slice (some ⟨g1, 0, none⟩) x.S.length x.S.length)) := (But.refl _ _).set _ _ _ (.inl (by simp))
  have Y1 := Lib.hid ((X1.out.fr f1).but hst (by simp <;> omega))
  have Y2 := Lib.hid ((X2.out.fr f1).but hst (by simp <;> omega))
  have Y3 := Lib.hid ((X3.out.fr f1).s0 (.slice (some ⟨g1, 0, none⟩) x.S.length x.S.length))
  have R2 := Lib.hid (r1.but hst (by simp <;> omega))
  have HF2 := Lib.hid (show Fr w _ from fr_but (HF.out.trans f1) hst (fun k hk => by have := List.mem_singleton.1 hk; omega))
  have hz2 : v1.heap.size = (v1.setCell ⟨w.heap.size + 2, 0, none⟩ (.slice (some ⟨g1, 0, none⟩) x.S.length x.S.length)).heap.size := by simp [World.setCell]
  obtain ⟨_, x0, x1, _, _⟩ := X1.out.fr f1
  obtain ⟨_, y0, y1, yf0, yf1⟩ := X3.out.fr f1
  clear hst r1 f1 HF X1 X2 X3 hz
  go_wp2_with fail
  clear x0 x1 y0 y1 yf0 yf1
  generalize (v1.setCell ⟨w.heap.size + 2, 0, none⟩ (.slice (some ⟨g1, 0, none⟩) x.S.length x.S.length)) = v2 at *
  refine (laws_toIntS _ _ _ _ (fun i => x.C.getD i 0) (HC.out.fr HF2.out) hn.C).mono ?_
  rintro e v3 ⟨g3, rfl, b3, l3, V3, f3⟩
  obtain ⟨_, y0, y1, yf0, yf1⟩ := Y3.out.fr f3
  obtain ⟨_, x0, x1, xf0, xf1⟩ := Y2.out.fr f3
  have R4 := Lib.hid (R2.out.fr f3)
  have HF4 := Lib.hid (HF2.out.trans f3)
  have HV3 := Lib.hid V3
  have hs3 := f3.size
  clear V3 f3 R2 HF2 Y1 Y2 Y3
  go_wp2_with fail
  refine bodyPost_ret (v := .agg #[.slice (some ⟨g1, 0, none⟩) x.S.length x.S.length, .slice (some ⟨g3, 0, none⟩) x.C.length x.C.length]) (by simp [results, Tryd.results10, go_sem, World.cell?_setCell_other, World.cell?_setCell_same, x0, x1, y0, y1]) rfl ⟨g1, g3, rfl, ⟨?_, ?_, fun _ _ b c hb hc => by cases hb; cases hc; show g1 ≠ g3; omega⟩, by omega, by omega, ?_, ?_, ?_⟩
  · refine (R4.out.but (L := [w.heap.size + 1, w.heap.size + 2]) (((But.refl _ _).set _ _ _ (.inl (by simp))).set2 _ _ _ (.inl (by simp))) (by simp <;> omega)).vc (by omega)
  · refine (HV3.out.mono (by omega)).but (L := [w.heap.size + 1, w.heap.size + 2]) (((But.refl _ _).set _ _ _ (.inl (by simp))).set2 _ _ _ (.inl (by simp))) (fun b hb => by cases hb; simp <;> omega)
  · simp [World.setCell]; omega
  · simp [World.setCell]; omega
  · exact fr_but HF4.out (((But.refl _ _).set _ _ _ (.inl (by simp))).set2 _ _ _ (.inl (by simp)) : But [w.heap.size + 1, w.heap.size + 2] _ _) (fun k hk => by simp at hk; omega)
/-- .. as a value. -/
def ToH (x : Gu) (v : Value) (u : World) : Prop := ∃ gS gC B, v = .agg #[.slice (some ⟨gS, 0, none⟩) x.S.length x.S.length, .slice (some ⟨gC, 0, none⟩) x.C.length x.C.length] ∧ VcG B u x (some ⟨gS, 0, none⟩) (some ⟨gC, 0, none⟩)
theorem ToH.but {x : Gu} {v : Value} {u u' : World} (h : ToH x v u) (f : But [] u u') : ToH x v u' := by
  obtain ⟨gS, gC, B, e, V⟩ := h
  exact ⟨gS, gC, B, e, V.but f (fun k _ => by simp)⟩
/-- A marked guesser. -/
structure VcM (B : Nat) (u : World) (x : Gu) (k : Int) (aS aC : Option Addr) : Prop where
  S : Vc4 B u (mkS k x.S.length) aS
  C : Vc B u x.C.length (fun i => .int .i64 (k + 4 * x.S.length + i)) aC
theorem VcM.fr {B : Nat} {u u' : World} {x : Gu} {k : Int} {aS aC : Option Addr} (h : VcM B u x k aS aC) (f : Fr u u') : VcM B u' x k aS aC := ⟨h.S.fr f, h.C.fr f⟩
theorem VcM.but {B : Nat} {L : List Nat} {u u' : World} {x : Gu} {k : Int} {aS aC : Option Addr} (h : VcM B u x k aS aC) (f : But L u u') (hn : ∀ k, k ∈ blk5 x aS aC → k ∉ L) : VcM B u' x k aS aC :=
  ⟨h.S.but' f (fun k hk => hn k (List.mem_append_left _ (by rwa [mkS_len] at hk))), h.C.but' f (fun k hk => hn k (List.mem_append_right _ hk))⟩
set_option maxRecDepth 4000 in
set_option maxHeartbeats 2000000 in
theorem laws_markGue (B : Nat) (x : Gu) (aS aC : Option Addr) (cS cC : Nat) (k : Int) (u : World) (h : VcG B u x aS aC) (hB : B ≤ u.heap.size) (hn : Few5 x) (k0 : 1 ≤ k) (k1 : k ≤ 1000000) :
    Calls Tryd.prog 15 #[.agg #[.slice aS x.S.length cS, .slice aC x.C.length cC], .int .i64 k] u fun e u' => e = .returned (.int .i64 (k + 4 * x.S.length + x.C.length)) ∧ VcM B u' x k aS aC ∧ But (blk5 x aS aC) u u' ∧ Below B u u' := by
  have F0 : Fr u (u.alloc (.cells #[.slice aS x.S.length cS, .slice aC x.C.length cC] 30)) := Fr.alloc _ _
  have X0 : Hid (Box2 (u.alloc (.cells #[.slice aS x.S.length cS, .slice aC x.C.length cC] 30)) u.heap.size (.slice aS x.S.length cS) (.slice aC x.C.length cC)) := Lib.hid (Box2.new _ _ _ _ _ rfl)
  have V0 := Lib.hid (h.fr F0)
  have HK := Lib.hid h.blk
  have h1 := hn.S
  have h2 := hn.C
  have HF := Lib.hid F0
  clear F0 h hn
  go_enter Tryd.func15, Tryd.ntmps15
  go_wp2_with fail
  generalize (u.alloc (.cells #[.slice aS x.S.length cS, .slice aC x.C.length cC] 30)) = u0 at *
  have hs0 : B ≤ u0.heap.size := Nat.le_trans hB HF.out.size
  refine (laws_markSlots5 B _ x.S _ _ _ V0.out.S h1 k0 (by omega)).mono ?_
  rintro e u1 ⟨rfl, M1, q1⟩
  have hub : ∀ j, j ∈ bkS x.S.length aS → B ≤ j ∧ j < u.heap.size := fun j hj => HK.out j (List.mem_append_left _ hj)
  have X1 := Lib.hid (X0.out.but q1 (fun hm => by have := hub _ hm; omega))
  have C1 := Lib.hid (V0.out.C.but' q1 (fun j hj hm => V0.out.apart j hm hj))
  have N1 := Lib.hid M1
  have Q1 := Lib.hid (But.wide (L' := blk5 x aS aC) q1 (fun k hk => List.mem_append_left _ hk))
  have hs1 : B ≤ u1.heap.size := Nat.le_trans hs0 q1.size
  clear M1 q1 X0 hub
  obtain ⟨_, x0, x1, _, _⟩ := X1.out
  go_wp2_with fail
  refine (laws_markInts5 B _ x.C _ _ _ C1.out hs1 h2 (by omega) (by omega)).mono ?_
  rintro e u2 ⟨rfl, M2, q2⟩
  have N2 := Lib.hid (N1.out.but' q2 (fun j hj hm => by rw [mkS_len] at hj; exact V0.out.apart j hj hm))
  have O2 := Lib.hid M2
  have Q2 := Lib.hid (But.wide (L' := blk5 x aS aC) q2 (fun k hk => List.mem_append_right _ hk))
  clear M2 q2 X1 C1 N1 x0 x1
  go_wp2_with fail
  go_ret
  have hb := ((But.of HF.out).trans Q1.out).trans Q2.out
  exact ⟨rfl, ⟨N2.out, O2.out⟩, hb, bel_but hb (fun k hk => (HK.out k hk).1) hB⟩
set_option maxRecDepth 4000 in
set_option maxHeartbeats 2000000 in
theorem laws_heldGue (B : Nat) (x : Gu) (aS aC : Option Addr) (cS cC : Nat) (k : Int) (u : World) (h : VcM B u x k aS aC) (hn : Few5 x) (k0 : 1 ≤ k) (k1 : k ≤ 1000000) :
    Calls Tryd.prog 16 #[.agg #[.slice aS x.S.length cS, .slice aC x.C.length cC], .int .i64 k] u fun e u' => e = .returned (.int .i64 (k + 4 * x.S.length + x.C.length)) ∧ Fr u u' := by
  have F0 : Fr u (u.alloc (.cells #[.slice aS x.S.length cS, .slice aC x.C.length cC] 30)) := Fr.alloc _ _
  have X0 : Hid (Box2 (u.alloc (.cells #[.slice aS x.S.length cS, .slice aC x.C.length cC] 30)) u.heap.size (.slice aS x.S.length cS) (.slice aC x.C.length cC)) := Lib.hid (Box2.new _ _ _ _ _ rfl)
  have V0 := Lib.hid (h.fr F0)
  have h1 := hn.S
  have h2 := hn.C
  have HF := Lib.hid F0
  clear F0 h hn
  go_enter Tryd.func16, Tryd.ntmps16
  go_wp2_with fail
  generalize (u.alloc (.cells #[.slice aS x.S.length cS, .slice aC x.C.length cC] 30)) = u0 at *
  refine (laws_heldSlotS u0 x.S.length _ _ _ V0.out.S.src h1 k0 (by omega)).mono ?_
  rintro e u1 ⟨rfl, rfl⟩
  have n1 : ¬ k + 4 * (x.S.length : Int) < 0 := by omega
  obtain ⟨_, x0, x1, _, _⟩ := X0.out
  go_wp2_with fail
  refine (laws_heldIntS B _ _ _ _ _ V0.out.C h2 (by omega) (by omega)).mono ?_
  rintro e u2 ⟨rfl, f2⟩
  have n2 : ¬ k + 4 * (x.S.length : Int) + (x.C.length : Int) < 0 := by omega
  have F2 := Lib.hid (HF.out.trans f2)
  clear f2 x0 x1
  go_wp2_with fail
  go_ret
  exact ⟨rfl, F2.out⟩

end Go.Proofs.YtpdlcjjmhcfkjaaDoor
