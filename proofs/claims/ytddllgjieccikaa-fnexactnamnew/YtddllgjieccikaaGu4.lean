/- Rows cloned; the program's GueLearn. -/
import Derived.Test.YtddllgjieccikaaGu3
namespace Go.Proofs.Ytddllgjieccikaa
open Go.RowKit
set_option linter.unusedVariables false
set_option linter.unusedSimpArgs false
/-- A row of numbers that the call owns, with the room that its slice says; or an empty one. -/
def Rc (B : Nat) (u : World) (xs : List Int) (ao : Option Addr) (c : Nat) : Prop := (xs.length = 0 ∧ c = 0) ∨ ∃ g, ao = some ⟨g, 0, none⟩ ∧ B ≤ g ∧ Ro u g xs ∧ Ca u g xs.length c ∧ 0 < xs.length
theorem Rc.but {B : Nat} {u u' : World} {xs : List Int} {ao : Option Addr} {c : Nat} {L : List Nat} (h : Rc B u xs ao c) (f : But L u u') (hL : ∀ k, k ∈ L → k < B) : Rc B u' xs ao c := by
  rcases h with h | ⟨g, e, hB, r, k, h0⟩
  · exact .inl h
  · exact .inr ⟨g, e, hB, r.but f (fun hm => by have := hL g hm; omega), k.but f (fun hm => by have := hL g hm; omega), h0⟩
theorem Rc.fr {B : Nat} {u u' : World} {xs : List Int} {ao : Option Addr} {c : Nat} (h : Rc B u xs ao c) (f : Fr u u') : Rc B u' xs ao c := h.but (L := []) (But.of f) (by simp)
theorem Rc.mono {B B' : Nat} {u : World} {xs : List Int} {ao : Option Addr} {c : Nat} (h : Rc B u xs ao c) (hB : B' ≤ B) : Rc B' u xs ao c := by
  rcases h with h | ⟨g, e, h1, r⟩
  · exact .inl h
  · exact .inr ⟨g, e, by omega, r⟩
theorem Rc.vc {B : Nat} {u : World} {xs : List Int} {ao : Option Addr} {c : Nat} (h : Rc B u xs ao c) : Vc B u xs.length (ivl xs) ao := by
  rcases h with h | ⟨g, rfl, hB, r, _, _⟩
  · rw [h.1]; exact Vc.nil _ _ _ _
  · exact ⟨fun _ => ⟨g, rfl, hB, r.lt, r.cel, r.fro⟩⟩
/-- Nothing is appended. -/
theorem wp_append_zero {P : Program} {Q : Exit → Act → World → Prop} {o : Oper} {a : Act} {w : World} {K : Act → World → Prop} (s x : Operand) (t : TypeId) (ho : o.op = .call { callee := .builtin .append, args := #[s, x], argTypes := #[t, t] })
    (e : TypeId) (ti : TypeInfo) (ht : P.underlying t = some (.slice e)) (hi : P.info? e = some ti) (ao : Option Addr) (n c : Nat) (hn : n ≤ c) (hs : a.eval s = .slice ao n c) (ax : Option Addr) (cx : Nat) (hx : a.eval x = .slice ax 0 cx)
    (h : K (a.put o.dst (.slice ao n c)) w) : o.wp P a w K Q := by
  have hsz : (sizeOf e).run P w = .ok ti.size w := by simp [sizeOf, typeInfo, hi]
  unfold Oper.wp execOp
  have hrun : (Builtin.append_ #[t, t] o.type #[.slice ao n c, .slice ax 0 cx]).run P w = .ok (.slice ao n c) w := by
    cases ao <;> cases ax <;> simp [Builtin.append_, run_underlying ht, sizeOf, typeInfo, hi, Builtin.lenOf, hn, Builtin.firstCells, storeCells, loadCells, loadCellsFrom]
  simp only [ho, resolve, invoke, builtin, Sem.run_bind, Sem.run_pure, Result.andThen_ok, List.map_toArray, List.map_cons, List.map_nil, hs, hx, hrun]
  exact h
end Go.Proofs.Ytddllgjieccikaa
