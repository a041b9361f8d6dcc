/- Slices of values: copied, compared, marked, held. -/
import Derived.Deep.QuietTactic
import Derived.BigQuiet
import Derived.OwnWalk
import Derived.Test.YtmkinbnopgfljaaSp
import Derived.Test.YtmkinbnopgfljaaTx
namespace Go.Proofs.Ytmkinbnopgfljaa
open Go.RowKit
set_option linter.unusedVariables false
set_option linter.unusedSimpArgs false

/-- n values, told by c, lie at ao, in a block from B on. -/
structure Vc (B : Nat) (u : World) (n : Nat) (c : Nat → Value) (ao : Option Addr) : Prop where
  at0 : 0 < n → ∃ g, ao = some ⟨g, 0, none⟩ ∧ B ≤ g ∧ g < u.heap.size ∧ (∀ i, i < n → u.cell? ⟨g, i, none⟩ = some (c i)) ∧ ∀ i, i < n → u.frozen? ⟨g, i, none⟩ = false
/-- n values, told by c, are read at ao. -/
def Src (u : World) (n : Nat) (c : Nat → Value) (ao : Option Addr) : Prop :=
  0 < n → ∃ g o, ao = some ⟨g, o, none⟩ ∧ g < u.heap.size ∧ ∀ i, i < n → u.cell? ⟨g, o + i, none⟩ = some (c i)
theorem Vc.src {B : Nat} {u : World} {n : Nat} {c : Nat → Value} {ao : Option Addr} (h : Vc B u n c ao) : Src u n c ao := fun h0 => by
  obtain ⟨g, e, _, hl, hc, _⟩ := h.at0 h0
  exact ⟨g, 0, e, hl, fun i hi => by rw [Nat.zero_add]; exact hc i hi⟩
theorem Src.fr {u u' : World} {n : Nat} {c : Nat → Value} {ao : Option Addr} (h : Src u n c ao) (f : Fr u u') : Src u' n c ao := fun h0 => by
  obtain ⟨g, o, e, hl, hc⟩ := h h0
  exact ⟨g, o, e, Nat.lt_of_lt_of_le hl f.size, fun i hi => by rw [f.cell hl]; exact hc i hi⟩
theorem Vc.nil (B : Nat) (u : World) (c : Nat → Value) (ao : Option Addr) : Vc B u 0 c ao := ⟨fun h => absurd h (Nat.lt_irrefl 0)⟩
theorem Vc.fr {B : Nat} {u u' : World} {n : Nat} {c : Nat → Value} {ao : Option Addr} (h : Vc B u n c ao) (f : Fr u u') : Vc B u' n c ao := by
  refine ⟨fun h0 => ?_⟩
  obtain ⟨g, e, hB, hlt, hc, hf⟩ := h.at0 h0
  exact ⟨g, e, hB, Nat.lt_of_lt_of_le hlt f.size, fun i hi => by rw [f.cell (show g < u.heap.size by omega)]; exact hc i hi, fun i hi => by rw [f.frozen (show g < u.heap.size by omega)]; exact hf i hi⟩
/-- What lies below B' stays where only what lies from B' on turned. -/
theorem Vc.low {B B' : Nat} {u u' : World} {n : Nat} {c : Nat → Value} {ao : Option Addr} (h : Vc B u n c ao) (f : Below B' u u') (hlt : 0 < n → ∀ g, ao = some ⟨g, 0, none⟩ → g < B') : Vc B u' n c ao := by
  refine ⟨fun h0 => ?_⟩
  obtain ⟨g, e, hB, hl, hc, hf⟩ := h.at0 h0
  have := f.size
  have hg := hlt h0 g e
  exact ⟨g, e, hB, by omega, fun i hi => by rw [f.cell (show g < B' by omega)]; exact hc i hi, fun i hi => by rw [f.frozen (show g < B' by omega)]; exact hf i hi⟩
theorem Vc.mono {B B' : Nat} {u : World} {n : Nat} {c : Nat → Value} {ao : Option Addr} (h : Vc B u n c ao) (hB : B' ≤ B) : Vc B' u n c ao := by
  refine ⟨fun h0 => ?_⟩
  obtain ⟨g, e, h1, r⟩ := h.at0 h0
  exact ⟨g, e, by omega, r⟩
theorem Vc.cong {B : Nat} {u : World} {n : Nat} {c c' : Nat → Value} {ao : Option Addr} (h : Vc B u n c ao) (e : ∀ i, i < n → c i = c' i) : Vc B u n c' ao := by
  refine ⟨fun h0 => ?_⟩
  obtain ⟨g, e1, h1, h2, h3, h4⟩ := h.at0 h0
  exact ⟨g, e1, h1, h2, fun i hi => by rw [← e i hi]; exact h3 i hi, h4⟩
/-- A row that the call owns, as values. -/
theorem own_vc {B : Nat} {u : World} {e : TypeId} {v : Value} {n : Nat} {xs : List Value} (h : u.ownsRow B e 1 v n xs) : ∃ ao cap, v = .slice ao n cap ∧ Vc B u n (fun i => xs.getD i (.int .i64 0)) ao ∧ (∀ g, ao = some g → B ≤ g.block) := by
  obtain ⟨hl, hc⟩ := h
  rcases hc with ⟨rfl, rfl⟩ | ⟨g, cap, cur, rfl, hB, hg, hcap, _, hcs, hxs⟩
  · exact ⟨none, 0, rfl, Vc.nil _ _ _ _, fun g h => by cases h⟩
  · refine ⟨_, cap, rfl, ⟨fun h0 => ⟨g, rfl, hB, ?_, fun i hi => ?_, fun i hi => ?_⟩⟩, fun q hq => by cases hq; exact hB⟩
    · by_cases hh : g < u.heap.size
      · exact hh
      · rw [Array.getElem?_eq_none (by omega)] at hg; cases hg
    · simp only [World.cell?, hg]
      have h1 : (cur.toList.take (n * 1))[i]? = xs[i]? := by rw [hxs]
      rw [List.getElem?_take_of_lt (by omega), List.getElem?_eq_getElem (by omega : i < xs.length)] at h1
      simpa [List.getD, List.getElem?_eq_getElem (by omega : i < xs.length)] using h1
    · simp [World.frozen?, hg]
theorem fr_row {u u' : World} (f : Fr u u') (row : Option Nat) : u.grownBy u' row := ⟨f.os, f.tape, f.output, f.size, fun k hk _ => f.block k hk⟩
/-- Rows elsewhere stay. -/
theorem Vc.grown {B : Nat} {u u' : World} {n : Nat} {c : Nat → Value} {ao ro : Option Addr} (h : Vc B u n c ao) (f : u.grownBy u' (ro.map (·.block))) (hne : 0 < n → ∀ g b, ao = some ⟨g, 0, none⟩ → ro = some b → g ≠ b.block) : Vc B u' n c ao := by
  refine ⟨fun h0 => ?_⟩
  obtain ⟨g, e, hB, hl, hc, hf⟩ := h.at0 h0
  have hb : u'.heap[g]? = u.heap[g]? := f.block g hl (fun h => by
    cases ro with
    | none => cases h
    | some b =>
      have h' : g = b.block := Option.some.inj h
      exact hne h0 g b e rfl h')
  exact ⟨g, e, hB, Nat.lt_of_lt_of_le hl f.size, fun i hi => by rw [World.cell?_of_block hb]; exact hc i hi, fun i hi => by rw [World.frozen?_of_block hb]; exact hf i hi⟩
/-- The row behind p stores. -/
structure Put (g n : Nat) (c c' : Nat → Value) (u : World) (p : Nat) (wr : World) : Prop where
  grw : u.grownBy wr (some g)
  cel : ∀ i, i < n → wr.cell? ⟨g, i, none⟩ = some (if i < p then c' i else c i)
  fro : ∀ i, i < n → wr.frozen? ⟨g, i, none⟩ = false
theorem Put.next {g n : Nat} {c c' : Nat → Value} {u wr : World} {p : Nat} (h : Put g n c c' u p wr) (hp : p < n) (z : Value) (hz : z = c' p) : Put g n c c' u (p + 1) (wr.setCell ⟨g, p, none⟩ z) := by
  refine ⟨grown_trans h.grw (grown_set _ _ _ _), fun i hi => ?_, fun i hi => by rw [World.frozen?_setCell]; exact h.fro i hi⟩
  by_cases e : i = p
  · subst e
    rw [World.cell?_setCell_same _ _ _ (h.cel i hi), hz]
    simp
  · rw [World.cell?_setCell_other _ _ _ _ (by simp; try omega), h.cel i hi]
    have e1 : i < p ↔ i < p + 1 := by omega
    simp only [e1]
theorem Put.fr {g n : Nat} {c c' : Nat → Value} {u wr wr' : World} {p : Nat} (h : Put g n c c' u p wr) (f : Fr wr wr') (hg : g < wr.heap.size) : Put g n c c' u p wr' :=
  ⟨grown_trans h.grw (fr_row f _), fun i hi => by rw [f.cell (show g < wr.heap.size from hg)]; exact h.cel i hi, fun i hi => by rw [f.frozen (show g < wr.heap.size from hg)]; exact h.fro i hi⟩
theorem grown_fr {w w' : World} (h : w.grownBy w' none) : Fr w w' := ⟨h.os, h.tape, h.output, h.size, fun k hk => h.block k hk (by simp)⟩
theorem info_intV : (Try.prog.info? 3).map (fun i => (i.zero, i.size, i.bytes)) = some (some (.int .i64 0), 1, 8) := by kernel_rfl
set_option maxRecDepth 4000 in
set_option maxHeartbeats 2000000 in
theorem laws_haInts_same (B1 B2 : Nat) (u : World) (n : Nat) (c : Nat → Int) (ao1 ao2 : Option Addr) (cap1 cap2 : Nat) (h1 : Vc B1 u n (fun i => .int .i64 (c i)) ao1) (h2 : Vc B2 u n (fun i => .int .i64 (c i)) ao2) (hn : n ≤ 1048576) :
    Calls Try.prog 23 #[.slice ao1 n cap1, .slice ao2 n cap2] u fun e u' => e = .returned (.bool true) ∧ ∃ m, u.drewN m = u' := by
  go_enter Try.func23, Try.ntmps23
  go_wp2_with fail
  go_loopw [5] (fun i wr => ∃ (p m : Nat), p ≤ n ∧ i = .int .i64 p ∧ u.drewN m = wr) (fun i _ => n - (intOf i).toNat)
  case atStart => exact ⟨0, 0, Nat.zero_le _, rfl, rfl⟩
  case round =>
    obtain ⟨p, m, hp, rfl, rfl⟩ := hrel
    by_cases hlt : p < n
    · obtain ⟨g1, rfl, _, _, hc1, _⟩ := h1.at0 (by omega)
      obtain ⟨g2, rfl, _, _, hc2, _⟩ := h2.at0 (by omega)
      have d1 := hc1 p hlt
      have d2 := hc2 p hlt
      have hlt' : (p : Int) < (n : Int) := by omega
      clear h1 h2 hc1 hc2
      go_wp2_with fail
      go_quiet (fail)
      go_wp2
      go_roundw
      case rel => exact ⟨p + 1, _, by omega, by go_num, rfl⟩
      case measure => simp [intOf]; omega
    · have hge : ¬ (p : Int) < (n : Int) := by omega
      clear h1 h2
      go_wp2
      go_ret
      exact ⟨rfl, m, rfl⟩
end Go.Proofs.Ytmkinbnopgfljaa
