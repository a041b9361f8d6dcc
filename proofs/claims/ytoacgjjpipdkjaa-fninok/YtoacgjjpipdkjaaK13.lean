/- The model's ChcRead, ChcWrite, ChcLay. All that is seen, of the model; a new cache, of the model and of the program. A new cache, of the model and of the program. -/
import Derived.Test.YtoacgjjpipdkjaaK8
namespace Go.Proofs.Ytoacgjjpipdkjaa
open Go.RowKit
set_option linter.unusedVariables false
set_option linter.unusedSimpArgs false
/-- A cache that was handed over: its rows may be written, and lie apart. -/
structure VcH7 (B : Nat) (u : World) (M : List Int) (X : List La) (aM aL : Option Addr) : Prop where
  rM : Vc B u M.length (ivl M) aM
  rL : 0 < X.length → ∃ g, aL = some ⟨g, 0, none⟩ ∧ B ≤ g ∧ RoL u g X
  w : WdO B u X
  pL : ∀ k, k ∈ bkS X.length aL → ∀ i, i < X.length → k ∉ wbk (X.getD i la0)
  pM : ∀ k, k ∈ bkS M.length aM → k ∉ bkS X.length aL ∧ ∀ i, i < X.length → k ∉ wbk (X.getD i la0)
theorem VcH7.nil (B : Nat) (u : World) : VcH7 B u [] [] none none :=
  ⟨Vc.nil _ _ _ _, fun h => absurd h (by simp), ⟨fun i hi => absurd hi (Nat.not_lt_zero _), fun i j hi => absurd hi (Nat.not_lt_zero _)⟩, fun k _ i hi => absurd hi (Nat.not_lt_zero _), fun k hk => by simp [bkS] at hk⟩
theorem VcH7.mono {B B' : Nat} {u : World} {M : List Int} {X : List La} {aM aL : Option Addr} (h : VcH7 B u M X aM aL) (hB : B' ≤ B) : VcH7 B' u M X aM aL :=
  ⟨h.rM.mono hB, fun h0 => by obtain ⟨g, e, hb, r⟩ := h.rL h0; exact ⟨g, e, by omega, r⟩, h.w.mono hB, h.pL, h.pM⟩
theorem VcH7.src {B : Nat} {u : World} {M : List Int} {X : List La} {aM aL : Option Addr} (h : VcH7 B u M X aM aL) : SrcC u M X aM aL :=
  ⟨h.rM.src, ⟨fun h0 => by obtain ⟨g, e, hb, r⟩ := h.rL h0; exact ⟨g, 0, e, r.lt, r.rng⟩, fun i hi => (h.w.wd i hi).src⟩⟩
end Go.Proofs.Ytoacgjjpipdkjaa
