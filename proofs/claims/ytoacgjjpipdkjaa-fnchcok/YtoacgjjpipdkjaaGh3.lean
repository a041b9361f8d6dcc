/- What the laws of chapter 5 call: guessers copied, compared, marked, held. Rows of numbers that begin at an offset: compared, marked, held. -/
import Derived.Test.YtoacgjjpipdkjaaGh
import Derived.Test.YtoacgjjpipdkjaaPh
namespace Go.Proofs.Ytoacgjjpipdkjaa
open Go.RowKit
set_option linter.unusedVariables false
set_option linter.unusedSimpArgs false
/-- The block of a row, if it is not empty. -/
def bkS (n : Nat) (ao : Option Addr) : List Nat := if 0 < n then (ao.map (·.block)).toList else []
def blk5 (x : Gu) (aS aC : Option Addr) : List Nat := bkS x.S.length aS ++ bkS x.C.length aC
theorem mem_bkS {n : Nat} {ao : Option Addr} {k : Nat} (h : k ∈ bkS n ao) : 0 < n ∧ ∃ b : Addr, ao = some b ∧ b.block = k := by
  unfold bkS at h
  split at h
  · rename_i h0
    cases ao with
    | none => simp at h
    | some b => simp at h; exact ⟨h0, b, rfl, h.symm⟩
  · simp at h
theorem bkS_mem {n : Nat} {b : Addr} (h : 0 < n) : b.block ∈ bkS n (some b) := by simp [bkS, h]
theorem Vc4.but' {B : Nat} {L : List Nat} {u u' : World} {S : List Sl} {ao : Option Addr} (h : Vc4 B u S ao) (f : But L u u') (hn : ∀ k, k ∈ bkS S.length ao → k ∉ L) : Vc4 B u' S ao := by
  refine ⟨fun h0 => ?_⟩
  obtain ⟨g, rfl, hB, hl, hc, ht⟩ := h.at0 h0
  have hg : g ∉ L := hn g (bkS_mem (b := ⟨g, 0, none⟩) h0)
  exact ⟨g, rfl, hB, Nat.lt_of_lt_of_le hl f.size, range_but hc f hl hg, there_but ht f hl hg⟩
theorem Vc.but' {B : Nat} {L : List Nat} {u u' : World} {n : Nat} {c : Nat → Value} {ao : Option Addr} (h : Vc B u n c ao) (f : But L u u') (hn : ∀ k, k ∈ bkS n ao → k ∉ L) : Vc B u' n c ao := by
  refine ⟨fun h0 => ?_⟩
  obtain ⟨g, rfl, b, l, hc, hf⟩ := h.at0 h0
  have hg : g ∉ L := hn g (bkS_mem (b := ⟨g, 0, none⟩) h0)
  exact ⟨g, rfl, b, Nat.lt_of_lt_of_le l f.size, fun i hi => by rw [f.cell l hg]; exact hc i hi, fun i hi => by rw [f.frozen l hg]; exact hf i hi⟩
theorem VcG.but {B : Nat} {L : List Nat} {u u' : World} {x : Gu} {aS aC : Option Addr} (h : VcG B u x aS aC) (f : But L u u') (hn : ∀ k, k ∈ blk5 x aS aC → k ∉ L) : VcG B u' x aS aC :=
  ⟨h.S.but' f (fun k hk => hn k (List.mem_append_left _ hk)), h.C.but' f (fun k hk => hn k (List.mem_append_right _ hk)), h.ap⟩
theorem VcG.apart {B : Nat} {u : World} {x : Gu} {aS aC : Option Addr} (h : VcG B u x aS aC) : ∀ k, k ∈ bkS x.S.length aS → k ∉ bkS x.C.length aC := fun k h1 h2 => by
  obtain ⟨p1, b, e1, rfl⟩ := mem_bkS h1
  obtain ⟨p2, c, e2, e3⟩ := mem_bkS h2
  exact h.ap p1 p2 b c e1 e2 e3.symm
theorem laws_markIntS0 (w : World) (ao : Option Addr) (cap : Nat) (k : Int) :
    Calls Try.prog 34 #[.slice ao 0 cap, .int .i64 k] w fun e w' => e = .returned (.int .i64 k) ∧ w = w' := by
  go_enter Try.func34, Try.ntmps34
  go_wp2_with fail
  go_loopw [1, 5] (fun q i wr => q = .int .i64 k ∧ i = .int .i64 0 ∧ w = wr) (fun _ _ _ => 0)
  case atStart => exact ⟨rfl, rfl, rfl⟩
  case round =>
    obtain ⟨rfl, rfl, rfl⟩ := hrel
    go_wp2_with fail
    go_ret
    exact ⟨rfl, rfl⟩
theorem laws_markInts5 (B : Nat) (u : World) (xs : List Int) (ao : Option Addr) (cap : Nat) (k : Int) (h : Vc B u xs.length (ivl xs) ao) (hB0 : B ≤ u.heap.size) (hn : xs.length ≤ 1048576) (k0 : 1 ≤ k) (k1 : k ≤ 10000000) :
    Calls Try.prog 34 #[.slice ao xs.length cap, .int .i64 k] u fun e u' => e = .returned (.int .i64 (k + xs.length)) ∧ Vc B u' xs.length (fun i => .int .i64 (k + i)) ao ∧ But (bkS xs.length ao) u u' := by
  by_cases h0 : 0 < xs.length
  · refine (laws_markIntS B u xs.length (fun i => xs.getD i 0) ao cap k h hB0 hn k0 k1).mono ?_
    rintro e u' ⟨he, hv, hg, _⟩
    refine ⟨he, hv, ?_⟩
    have := but_row hg
    simpa [bkS, h0] using this
  · have hz : xs.length = 0 := by omega
    rw [hz]
    refine (laws_markIntS0 u ao cap k).mono ?_
    rintro e u' ⟨he, rfl⟩
    exact ⟨by simpa using he, Vc.nil _ _ _ _, But.refl _ _⟩
theorem Box2.s0 {u : World} {g : Nat} {a b : Value} (h : Box2 u g a b) (a' : Value) : Box2 (u.setCell ⟨g, 0, none⟩ a') g a' b :=
  ⟨by simpa [World.setCell] using h.lt, World.cell?_setCell_same _ _ _ h.c0, by rw [World.cell?_setCell_other _ _ _ _ (by simp)]; exact h.c1, by rw [World.frozen?_setCell]; exact h.f0, by rw [World.frozen?_setCell]; exact h.f1⟩
theorem Box2.s1 {u : World} {g : Nat} {a b : Value} (h : Box2 u g a b) (b' : Value) : Box2 (u.setCell ⟨g, 1, none⟩ b') g a b' :=
  ⟨by simpa [World.setCell] using h.lt, by rw [World.cell?_setCell_other _ _ _ _ (by simp)]; exact h.c0, World.cell?_setCell_same _ _ _ h.c1, by rw [World.frozen?_setCell]; exact h.f0, by rw [World.frozen?_setCell]; exact h.f1⟩
/-- .. as a value. -/
def ToH (x : Gu) (v : Value) (u : World) : Prop := ∃ gS gC B, v = .agg #[.slice (some ⟨gS, 0, none⟩) x.S.length x.S.length, .slice (some ⟨gC, 0, none⟩) x.C.length x.C.length] ∧ VcG B u x (some ⟨gS, 0, none⟩) (some ⟨gC, 0, none⟩)
theorem ToH.but {x : Gu} {v : Value} {u u' : World} (h : ToH x v u) (f : But [] u u') : ToH x v u' := by
  obtain ⟨gS, gC, B, e, V⟩ := h
  exact ⟨gS, gC, B, e, V.but f (fun k _ => by simp)⟩
/-- A marked guesser. -/
structure VcM (B : Nat) (u : World) (x : Gu) (k : Int) (aS aC : Option Addr) : Prop where
  S : Vc4 B u (mkS k x.S.length) aS
  C : Vc B u x.C.length (fun i => .int .i64 (k + 4 * x.S.length + i)) aC
theorem VcM.fr {B : Nat} {u u' : World} {x : Gu} {k : Int} {aS aC : Option Addr} (h : VcM B u x k aS aC) (f : Fr u u') : VcM B u' x k aS aC := ⟨h.S.fr f, h.C.fr f⟩
theorem VcM.but {B : Nat} {L : List Nat} {u u' : World} {x : Gu} {k : Int} {aS aC : Option Addr} (h : VcM B u x k aS aC) (f : But L u u') (hn : ∀ k, k ∈ blk5 x aS aC → k ∉ L) : VcM B u' x k aS aC :=
  ⟨h.S.but' f (fun k hk => hn k (List.mem_append_left _ (by rwa [mkS_len] at hk))), h.C.but' f (fun k hk => hn k (List.mem_append_right _ hk))⟩
/-- n values lie at ao, at some offset of a block from B on, and may be written. -/
structure Vo (B : Nat) (u : World) (n : Nat) (c : Nat → Value) (ao : Option Addr) : Prop where
  at0 : 0 < n → ∃ g o, ao = some ⟨g, o, none⟩ ∧ B ≤ g ∧ g < u.heap.size ∧ (∀ i, i < n → u.cell? ⟨g, o + i, none⟩ = some (c i)) ∧ ∀ i, i < n → u.frozen? ⟨g, o + i, none⟩ = false
theorem Vo.src {B : Nat} {u : World} {n : Nat} {c : Nat → Value} {ao : Option Addr} (h : Vo B u n c ao) : Src u n c ao := fun h0 => by
  obtain ⟨g, o, e, _, hl, hc, _⟩ := h.at0 h0
  exact ⟨g, o, e, hl, hc⟩
theorem Vc.vo {B : Nat} {u : World} {n : Nat} {c : Nat → Value} {ao : Option Addr} (h : Vc B u n c ao) : Vo B u n c ao := by
  refine ⟨fun h0 => ?_⟩
  obtain ⟨g, e, hB, hl, hc, hf⟩ := h.at0 h0
  exact ⟨g, 0, e, hB, hl, fun i hi => by rw [Nat.zero_add]; exact hc i hi, fun i hi => by rw [Nat.zero_add]; exact hf i hi⟩
theorem Vo.nil (B : Nat) (u : World) (c : Nat → Value) (ao : Option Addr) : Vo B u 0 c ao := ⟨fun h => absurd h (Nat.lt_irrefl 0)⟩
theorem Vo.but' {B : Nat} {L : List Nat} {u u' : World} {n : Nat} {c : Nat → Value} {ao : Option Addr} (h : Vo B u n c ao) (f : But L u u') (hn : ∀ k, k ∈ bkS n ao → k ∉ L) : Vo B u' n c ao := by
  refine ⟨fun h0 => ?_⟩
  obtain ⟨g, o, rfl, b, l, hc, hf⟩ := h.at0 h0
  have hg : g ∉ L := hn g (bkS_mem (b := ⟨g, o, none⟩) h0)
  exact ⟨g, o, rfl, b, Nat.lt_of_lt_of_le l f.size, fun i hi => by rw [f.cell l hg]; exact hc i hi, fun i hi => by rw [f.frozen l hg]; exact hf i hi⟩
theorem Vo.fr {B : Nat} {u u' : World} {n : Nat} {c : Nat → Value} {ao : Option Addr} (h : Vo B u n c ao) (f : Fr u u') : Vo B u' n c ao := h.but' (L := []) (But.of f) (fun k _ => by simp)
theorem Vo.mono {B B' : Nat} {u : World} {n : Nat} {c : Nat → Value} {ao : Option Addr} (h : Vo B u n c ao) (hB : B' ≤ B) : Vo B' u n c ao := by
  refine ⟨fun h0 => ?_⟩
  obtain ⟨g, o, e, h1, r⟩ := h.at0 h0
  exact ⟨g, o, e, by omega, r⟩
/-- The row behind p stores, at an offset. -/
structure Puo (g o n : Nat) (c c' : Nat → Value) (u : World) (p : Nat) (wr : World) : Prop where
  grw : But [g] u wr
  cel : ∀ i, i < n → wr.cell? ⟨g, o + i, none⟩ = some (if i < p then c' i else c i)
  fro : ∀ i, i < n → wr.frozen? ⟨g, o + i, none⟩ = false
theorem Puo.next {g o n : Nat} {c c' : Nat → Value} {u wr : World} {p : Nat} (h : Puo g o n c c' u p wr) (hp : p < n) (z : Value) (hz : z = c' p) : Puo g o n c c' u (p + 1) (wr.setCell ⟨g, o + p, none⟩ z) := by
  refine ⟨h.grw.set _ _ _ (.inl (by simp)), fun i hi => ?_, fun i hi => by rw [World.frozen?_setCell]; exact h.fro i hi⟩
  by_cases e : i = p
  · subst e
    rw [World.cell?_setCell_same _ _ _ (h.cel i hi), hz]
    simp
  · rw [World.cell?_setCell_other _ _ _ _ (by simp; try omega), h.cel i hi]
    have e1 : i < p ↔ i < p + 1 := by omega
    simp only [e1]
set_option maxRecDepth 4000 in
set_option maxHeartbeats 2000000 in
theorem laws_eqIntSo (u : World) (n : Nat) (c : Nat → Int) (ao1 ao2 : Option Addr) (cap1 cap2 : Nat) (h1 : Src u n (fun i => .int .i64 (c i)) ao1) (h2 : Src u n (fun i => .int .i64 (c i)) ao2) (hn : n ≤ 1048576) :
    Calls Try.prog 33 #[.slice ao1 n cap1, .slice ao2 n cap2] u fun e u' => e = .returned (.bool true) ∧ ∃ m, u.drewN m = u' := by
  go_enter Try.func33, Try.ntmps33
  go_wp2_with fail
  go_loopw [5] (fun i wr => ∃ (p m : Nat), p ≤ n ∧ i = .int .i64 p ∧ u.drewN m = wr) (fun i _ => n - (intOf i).toNat)
  case atStart => exact ⟨0, 0, Nat.zero_le _, rfl, rfl⟩
  case round =>
    obtain ⟨p, m, hp, rfl, rfl⟩ := hrel
    by_cases hlt : p < n
    · obtain ⟨g1, o1, rfl, _, hc1⟩ := h1 (by omega)
      obtain ⟨g2, o2, rfl, _, hc2⟩ := h2 (by omega)
      have d1 := hc1 p hlt
      have d2 := hc2 p hlt
      have hlt' : (p : Int) < (n : Int) := by omega
      clear h1 h2 hc1 hc2
      go_wp2_with fail
      go_quiet (fail)
      go_wp2
      go_roundw
      case rel => exact ⟨p + 1, _, by omega, by go_num, rfl⟩
      case measure => simp [intOf]; omega
    · have hge : ¬ (p : Int) < (n : Int) := by omega
      clear h1 h2
      go_wp2
      go_ret
      exact ⟨rfl, m, rfl⟩
set_option maxRecDepth 4000 in
set_option maxHeartbeats 2000000 in
theorem laws_haIntso (u : World) (n : Nat) (c : Nat → Int) (ao1 ao2 : Option Addr) (cap1 cap2 : Nat) (h1 : Src u n (fun i => .int .i64 (c i)) ao1) (h2 : Src u n (fun i => .int .i64 (c i)) ao2) (hn : n ≤ 1048576) :
    Calls Try.prog 54 #[.slice ao1 n cap1, .slice ao2 n cap2] u fun e u' => e = .returned (.bool true) ∧ ∃ m, u.drewN m = u' := by
  go_enter Try.func54, Try.ntmps54
  go_wp2_with fail
  go_loopw [5] (fun i wr => ∃ (p m : Nat), p ≤ n ∧ i = .int .i64 p ∧ u.drewN m = wr) (fun i _ => n - (intOf i).toNat)
  case atStart => exact ⟨0, 0, Nat.zero_le _, rfl, rfl⟩
  case round =>
    obtain ⟨p, m, hp, rfl, rfl⟩ := hrel
    by_cases hlt : p < n
    · obtain ⟨g1, o1, rfl, _, hc1⟩ := h1 (by omega)
      obtain ⟨g2, o2, rfl, _, hc2⟩ := h2 (by omega)
      have d1 := hc1 p hlt
      have d2 := hc2 p hlt
      have hlt' : (p : Int) < (n : Int) := by omega
      clear h1 h2 hc1 hc2
      go_wp2_with fail
      go_quiet (fail)
      go_wp2
      go_roundw
      case rel => exact ⟨p + 1, _, by omega, by go_num, rfl⟩
      case measure => simp [intOf]; omega
    · have hge : ¬ (p : Int) < (n : Int) := by omega
      clear h1 h2
      go_wp2
      go_ret
      exact ⟨rfl, m, rfl⟩
set_option maxRecDepth 4000 in
set_option maxHeartbeats 2000000 in
theorem laws_heldIntSo (u : World) (n : Nat) (ao : Option Addr) (cap : Nat) (k : Int) (h : Src u n (fun i => .int .i64 (k + i)) ao) (hn : n ≤ 1048576) (k0 : 1 ≤ k) (k1 : k ≤ 10000000) :
    Calls Try.prog 35 #[.slice ao n cap, .int .i64 k] u fun e u' => e = .returned (.int .i64 (k + n)) ∧ Fr u u' := by
  go_enter Try.func35, Try.ntmps35
  go_wp2_with fail
  go_loopw [1, 5] (fun q i wr => ∃ p : Nat, p ≤ n ∧ q = .int .i64 (k + p) ∧ i = .int .i64 p ∧ Fr u wr) (fun _ i _ => n - (intOf i).toNat)
  case atStart => exact ⟨0, Nat.zero_le _, by simp, rfl, Below.refl _ _⟩
  case round =>
    obtain ⟨p, hp, rfl, rfl, hF⟩ := hrel
    have HF := Lib.hid hF
    by_cases hlt : p < n
    · obtain ⟨g, o, rfl, hgl, hc⟩ := h (by omega)
      have hsz := hF.size
      have hlt' : (p : Int) < (n : Int) := by omega
      have d1 : wr.cell? ⟨g, o + p, none⟩ = _ := (hF.cell hgl).trans (hc p hlt)
      have hgl2 : g < wr.heap.size := by omega
      clear h hc hF
      go_wp2
      go_roundw
      case rel => exact ⟨p + 1, by omega, by go_num, by go_num, HF.out⟩
      case measure => simp [intOf]; omega
    · have hge : ¬ (p : Int) < (n : Int) := by omega
      have e : p = n := by omega
      subst e
      clear h hF
      go_wp2_with fail
      go_ret
      exact ⟨rfl, HF.out⟩
end Go.Proofs.Ytoacgjjpipdkjaa
