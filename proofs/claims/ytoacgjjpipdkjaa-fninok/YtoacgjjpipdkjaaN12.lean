/- Places copied, of the model. The model's NamPut, NamFree. -/
import Derived.Test.YtoacgjjpipdkjaaN7
namespace Go.Proofs.Ytoacgjjpipdkjaa
open Go.RowKit
set_option linter.unusedVariables false
set_option linter.unusedSimpArgs false
/-- A copy of places that was handed over: four rows apart, of which the second may be none. -/
structure OwC (B : Nat) (u : World) (x : Nm) (g1 : Nat) (aF : Option Addr) (cF g3 g4 : Nat) : Prop where
  b1 : B ≤ g1
  b3 : B ≤ g3
  b4 : B ≤ g4
  M : Ro u g1 x.M
  F : Rc B u x.F aF cF
  V : Ro u g3 x.V
  H : RoB u g4 x.H
  a13 : g1 ≠ g3
  a14 : g1 ≠ g4
  a34 : g3 ≠ g4
  aF : ∀ g, aF = some ⟨g, 0, none⟩ → 0 < x.F.length → g1 ≠ g ∧ g3 ≠ g ∧ g4 ≠ g
theorem rc_bk {B : Nat} {u : World} {xs : List Int} {ao : Option Addr} {c k : Nat} (h : Rc B u xs ao c) (hk : k ∈ bkS xs.length ao) : ∃ g, ao = some ⟨g, 0, none⟩ ∧ 0 < xs.length ∧ k = g := by
  obtain ⟨h0, b, e, rfl⟩ := mem_bkS hk
  rcases h with ⟨h1, _⟩ | ⟨g, e2, _⟩
  · omega
  · rw [e] at e2
    cases e2
    exact ⟨g, e, h0, rfl⟩
theorem OwC.vc {B : Nat} {u : World} {x : Nm} {g1 : Nat} {aF : Option Addr} {cF g3 g4 : Nat} (h : OwC B u x g1 aF cF g3 g4) : VcNm B u x (some ⟨g1, 0, none⟩) aF (some ⟨g3, 0, none⟩) (some ⟨g4, 0, none⟩) := by
  refine VcNm.mk' (vo_ro h.M h.b1) h.F.vc.vo (vo_ro h.V h.b3) (vo_rob h.H h.b4) (fun k h1 h2 => ?_) (bkS_ap h.a13) (bkS_ap h.a14) (fun k h1 h2 => ?_) (fun k h1 h2 => ?_) (bkS_ap h.a34)
  · obtain ⟨g, e, h0, rfl⟩ := rc_bk h.F h2
    exact (h.aF _ e h0).1 (bkS_new h1).symm
  · obtain ⟨g, e, h0, rfl⟩ := rc_bk h.F h1
    exact (h.aF _ e h0).2.1 (bkS_new h2).symm
  · obtain ⟨g, e, h0, rfl⟩ := rc_bk h.F h1
    exact (h.aF _ e h0).2.2 (bkS_new h2).symm
theorem OwC.src {B : Nat} {u : World} {x : Nm} {g1 : Nat} {aF : Option Addr} {cF g3 g4 : Nat} (h : OwC B u x g1 aF cF g3 g4) : SrcN u x (some ⟨g1, 0, none⟩) aF (some ⟨g3, 0, none⟩) (some ⟨g4, 0, none⟩) := h.vc.src
theorem OwC.mono {B B' : Nat} {u : World} {x : Nm} {g1 : Nat} {aF : Option Addr} {cF g3 g4 : Nat} (h : OwC B u x g1 aF cF g3 g4) (hB : B' ≤ B) : OwC B' u x g1 aF cF g3 g4 :=
  ⟨by have := h.b1; omega, by have := h.b3; omega, by have := h.b4; omega, h.M, h.F.mono hB, h.V, h.H, h.a13, h.a14, h.a34, h.aF⟩
/-- What lies below turns nothing of it. -/
theorem OwC.but {B : Nat} {L : List Nat} {u u' : World} {x : Nm} {g1 : Nat} {aF : Option Addr} {cF g3 g4 : Nat} (h : OwC B u x g1 aF cF g3 g4) (f : But L u u') (hL : ∀ k, k ∈ L → k < B) : OwC B u' x g1 aF cF g3 g4 :=
  ⟨h.b1, h.b3, h.b4, h.M.but f (fun hm => by have := hL _ hm; have := h.b1; omega), h.F.but f hL, h.V.but f (fun hm => by have := hL _ hm; have := h.b3; omega), h.H.but f (fun hm => by have := hL _ hm; have := h.b4; omega), h.a13, h.a14, h.a34, h.aF⟩
end Go.Proofs.Ytoacgjjpipdkjaa
