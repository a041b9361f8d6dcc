/- Rows of numbers that begin at an offset: compared, marked, held. -/
import Derived.Test.YtoacgjjpipdkjaaGh3
namespace Go.Proofs.Ytoacgjjpipdkjaa
open Go.RowKit
set_option linter.unusedVariables false
set_option linter.unusedSimpArgs false
/-- n values lie at ao, at some offset of a block from B on, and may be written. -/
structure Vo (B : Nat) (u : World) (n : Nat) (c : Nat → Value) (ao : Option Addr) : Prop where
  at0 : 0 < n → ∃ g o, ao = some ⟨g, o, none⟩ ∧ B ≤ g ∧ g < u.heap.size ∧ (∀ i, i < n → u.cell? ⟨g, o + i, none⟩ = some (c i)) ∧ ∀ i, i < n → u.frozen? ⟨g, o + i, none⟩ = false
theorem Vo.src {B : Nat} {u : World} {n : Nat} {c : Nat → Value} {ao : Option Addr} (h : Vo B u n c ao) : Src u n c ao := fun h0 => by
  obtain ⟨g, o, e, _, hl, hc, _⟩ := h.at0 h0
  exact ⟨g, o, e, hl, hc⟩
theorem Vc.vo {B : Nat} {u : World} {n : Nat} {c : Nat → Value} {ao : Option Addr} (h : Vc B u n c ao) : Vo B u n c ao := by
  refine ⟨fun h0 => ?_⟩
  obtain ⟨g, e, hB, hl, hc, hf⟩ := h.at0 h0
  exact ⟨g, 0, e, hB, hl, fun i hi => by rw [Nat.zero_add]; exact hc i hi, fun i hi => by rw [Nat.zero_add]; exact hf i hi⟩
theorem Vo.nil (B : Nat) (u : World) (c : Nat → Value) (ao : Option Addr) : Vo B u 0 c ao := ⟨fun h => absurd h (Nat.lt_irrefl 0)⟩
theorem Vo.but' {B : Nat} {L : List Nat} {u u' : World} {n : Nat} {c : Nat → Value} {ao : Option Addr} (h : Vo B u n c ao) (f : But L u u') (hn : ∀ k, k ∈ bkS n ao → k ∉ L) : Vo B u' n c ao := by
  refine ⟨fun h0 => ?_⟩
  obtain ⟨g, o, rfl, b, l, hc, hf⟩ := h.at0 h0
  have hg : g ∉ L := hn g (bkS_mem (b := ⟨g, o, none⟩) h0)
  exact ⟨g, o, rfl, b, Nat.lt_of_lt_of_le l f.size, fun i hi => by rw [f.cell l hg]; exact hc i hi, fun i hi => by rw [f.frozen l hg]; exact hf i hi⟩
theorem Vo.fr {B : Nat} {u u' : World} {n : Nat} {c : Nat → Value} {ao : Option Addr} (h : Vo B u n c ao) (f : Fr u u') : Vo B u' n c ao := h.but' (L := []) (But.of f) (fun k _ => by simp)
theorem Vo.mono {B B' : Nat} {u : World} {n : Nat} {c : Nat → Value} {ao : Option Addr} (h : Vo B u n c ao) (hB : B' ≤ B) : Vo B' u n c ao := by
  refine ⟨fun h0 => ?_⟩
  obtain ⟨g, o, e, h1, r⟩ := h.at0 h0
  exact ⟨g, o, e, by omega, r⟩
/-- The row behind p stores, at an offset. -/
structure Puo (g o n : Nat) (c c' : Nat → Value) (u : World) (p : Nat) (wr : World) : Prop where
  grw : But [g] u wr
  cel : ∀ i, i < n → wr.cell? ⟨g, o + i, none⟩ = some (if i < p then c' i else c i)
  fro : ∀ i, i < n → wr.frozen? ⟨g, o + i, none⟩ = false
theorem Puo.next {g o n : Nat} {c c' : Nat → Value} {u wr : World} {p : Nat} (h : Puo g o n c c' u p wr) (hp : p < n) (z : Value) (hz : z = c' p) : Puo g o n c c' u (p + 1) (wr.setCell ⟨g, o + p, none⟩ z) := by
  refine ⟨h.grw.set _ _ _ (.inl (by simp)), fun i hi => ?_, fun i hi => by rw [World.frozen?_setCell]; exact h.fro i hi⟩
  by_cases e : i = p
  · subst e
    rw [World.cell?_setCell_same _ _ _ (h.cel i hi), hz]
    simp
  · rw [World.cell?_setCell_other _ _ _ _ (by simp; try omega), h.cel i hi]
    have e1 : i < p ↔ i < p + 1 := by omega
    simp only [e1]
set_option maxRecDepth 4000 in
set_option maxHeartbeats 2000000 in
theorem laws_eqIntSo (u : World) (n : Nat) (c : Nat → Int) (ao1 ao2 : Option Addr) (cap1 cap2 : Nat) (h1 : Src u n (fun i => .int .i64 (c i)) ao1) (h2 : Src u n (fun i => .int .i64 (c i)) ao2) (hn : n ≤ 1048576) :
    Calls Try.prog 33 #[.slice ao1 n cap1, .slice ao2 n cap2] u fun e u' => e = .returned (.bool true) ∧ ∃ m, u.drewN m = u' := by
  go_enter Try.func33, Try.ntmps33
  go_wp2_with fail
  go_loopw [5] (fun i wr => ∃ (p m : Nat), p ≤ n ∧ i = .int .i64 p ∧ u.drewN m = wr) (fun i _ => n - (intOf i).toNat)
  case atStart => exact ⟨0, 0, Nat.zero_le _, rfl, rfl⟩
  case round =>
    obtain ⟨p, m, hp, rfl, rfl⟩ := hrel
    by_cases hlt : p < n
    · obtain ⟨g1, o1, rfl, _, hc1⟩ := h1 (by omega)
      obtain ⟨g2, o2, rfl, _, hc2⟩ := h2 (by omega)
      have d1 := hc1 p hlt
      have d2 := hc2 p hlt
      have hlt' : (p : Int) < (n : Int) := by omega
      clear h1 h2 hc1 hc2
      go_wp2_with fail
      go_quiet (fail)
      go_wp2
      go_roundw
      case rel => exact ⟨p + 1, _, by omega, by go_num, rfl⟩
      case measure => simp [intOf]; omega
    · have hge : ¬ (p : Int) < (n : Int) := by omega
      clear h1 h2
      go_wp2
      go_ret
      exact ⟨rfl, m, rfl⟩
set_option maxRecDepth 4000 in
set_option maxHeartbeats 2000000 in
theorem laws_heldIntSo (u : World) (n : Nat) (ao : Option Addr) (cap : Nat) (k : Int) (h : Src u n (fun i => .int .i64 (k + i)) ao) (hn : n ≤ 1048576) (k0 : 1 ≤ k) (k1 : k ≤ 10000000) :
    Calls Try.prog 35 #[.slice ao n cap, .int .i64 k] u fun e u' => e = .returned (.int .i64 (k + n)) ∧ Fr u u' := by
  go_enter Try.func35, Try.ntmps35
  go_wp2_with fail
  go_loopw [1, 5] (fun q i wr => ∃ p : Nat, p ≤ n ∧ q = .int .i64 (k + p) ∧ i = .int .i64 p ∧ Fr u wr) (fun _ i _ => n - (intOf i).toNat)
  case atStart => exact ⟨0, Nat.zero_le _, by simp, rfl, Below.refl _ _⟩
  case round =>
    obtain ⟨p, hp, rfl, rfl, hF⟩ := hrel
    have HF := Lib.hid hF
    by_cases hlt : p < n
    · obtain ⟨g, o, rfl, hgl, hc⟩ := h (by omega)
      have hsz := hF.size
      have hlt' : (p : Int) < (n : Int) := by omega
      have d1 : wr.cell? ⟨g, o + p, none⟩ = _ := (hF.cell hgl).trans (hc p hlt)
      have hgl2 : g < wr.heap.size := by omega
      clear h hc hF
      go_wp2
      go_roundw
      case rel => exact ⟨p + 1, by omega, by go_num, by go_num, HF.out⟩
      case measure => simp [intOf]; omega
    · have hge : ¬ (p : Int) < (n : Int) := by omega
      have e : p = n := by omega
      subst e
      clear h hF
      go_wp2_with fail
      go_ret
      exact ⟨rfl, HF.out⟩
end Go.Proofs.Ytoacgjjpipdkjaa
