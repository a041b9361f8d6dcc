/- A code that came in, seen from a later world. -/
import Derived.Test.YtecdmafhjfnloaaGreatDoorDrawCod
namespace Go.Proofs.YtecdmafhjfnloaaGreatDoor
open Go.RowKit
theorem Code1.up {w u : World} {s : Option Addr} {len cap : Nat} (h : Code1 w.heap.size w s len cap) (f : Fr w u) : Code1 u.heap.size u s len cap := by
  obtain ⟨h1, h2, h3, h4, h5⟩ := h.below f
  refine ⟨Nat.le_refl _, h2, h3, ?_, h5⟩
  rcases h4 with h4 | ⟨sb, so, z, e, hlt, hc, hz⟩
  · exact .inl h4
  · exact .inr ⟨sb, so, z, e, Nat.lt_of_lt_of_le hlt f.size, hc, hz⟩
end Go.Proofs.YtecdmafhjfnloaaGreatDoor
