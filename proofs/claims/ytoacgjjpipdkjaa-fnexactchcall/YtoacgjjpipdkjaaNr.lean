/- Several rows of values, in blocks apart from each other. No program is named here. -/
import Derived.Test.YtoacgjjpipdkjaaNb0
namespace Go.Proofs.Ytoacgjjpipdkjaa
open Go.RowKit
set_option linter.unusedVariables false
set_option linter.unusedSimpArgs false
/-- A row: how many values, which, where. -/
structure Rw where
  n : Nat
  c : Nat → Value
  ao : Option Addr
def Rw.b (r : Rw) : List Nat := bkS r.n r.ao
def blkR (rs : List Rw) : List Nat := rs.flatMap Rw.b
/-- Rows lie in blocks from B on, apart, and may be written. -/
structure Rws (B : Nat) (u : World) (rs : List Rw) : Prop where
  all : ∀ r, r ∈ rs → Vo B u r.n r.c r.ao
  ap : (blkR rs).Nodup
theorem Rws.but {B : Nat} {L : List Nat} {u u' : World} {rs : List Rw} (h : Rws B u rs) (f : But L u u') (hn : ∀ k, k ∈ blkR rs → k ∉ L) : Rws B u' rs :=
  ⟨fun r hr => (h.all r hr).but' f (fun k hk => hn k (List.mem_flatMap.2 ⟨r, hr, hk⟩)), h.ap⟩
theorem Rws.fr {B : Nat} {u u' : World} {rs : List Rw} (h : Rws B u rs) (f : Fr u u') : Rws B u' rs := h.but (L := []) (But.of f) (fun k _ => by simp)
theorem Rws.mono {B B' : Nat} {u : World} {rs : List Rw} (h : Rws B u rs) (hB : B' ≤ B) : Rws B' u rs := ⟨fun r hr => (h.all r hr).mono hB, h.ap⟩
theorem Rws.nil (B : Nat) (u : World) : Rws B u [] := ⟨fun r h => (by cases h), List.nodup_nil⟩
theorem blkR_cons (r : Rw) (rs : List Rw) : blkR (r :: rs) = r.b ++ blkR rs := rfl
theorem blkR_app (a b : List Rw) : blkR (a ++ b) = blkR a ++ blkR b := List.flatMap_append
/-- A row more, in a block that none of the others has. -/
theorem Rws.cons {B : Nat} {u : World} {r : Rw} {rs : List Rw} (h : Rws B u rs) (hr : Vo B u r.n r.c r.ao) (hn : ∀ k, k ∈ r.b → k ∉ blkR rs) : Rws B u (r :: rs) := by
  refine ⟨fun q hq => ?_, ?_⟩
  · rcases List.mem_cons.1 hq with rfl | hq
    · exact hr
    · exact h.all q hq
  · rw [blkR_cons, List.nodup_append]
    refine ⟨?_, h.ap, fun a ha b hb e => hn a ha (e ▸ hb)⟩
    unfold Rw.b bkS
    split
    · cases r.ao <;> simp
    · simp
/-- The blocks of two different rows differ. -/
theorem Rws.apart {B : Nat} {u : World} {a b : List Rw} {r q : Rw} (h : Rws B u (a ++ r :: b)) (hq : q ∈ a ∨ q ∈ b) : ∀ k, k ∈ q.b → k ∉ r.b := fun k hk hr => by
  have hd := h.ap
  rw [blkR_app, blkR_cons, List.nodup_append] at hd
  obtain ⟨_, h2, h3⟩ := hd
  rw [List.nodup_append] at h2
  rcases hq with hq | hq
  · exact h3 k (List.mem_flatMap.2 ⟨q, hq, hk⟩) k (List.mem_append_left _ hr) rfl
  · exact h2.2.2 k hr k (List.mem_flatMap.2 ⟨q, hq, hk⟩) rfl
/-- One row's values turn; the others stand. -/
theorem Rws.turn {B : Nat} {u u' : World} {a b : List Rw} {r : Rw} {c' : Nat → Value} (h : Rws B u (a ++ r :: b)) (f : But r.b u u') (hv : Vo B u' r.n c' r.ao) : Rws B u' (a ++ ⟨r.n, c', r.ao⟩ :: b) := by
  refine ⟨fun q hq => ?_, ?_⟩
  · rcases List.mem_append.1 hq with hq | hq
    · exact (h.all q (List.mem_append_left _ hq)).but' f (h.apart (.inl hq))
    · rcases List.mem_cons.1 hq with rfl | hq
      · exact hv
      · exact (h.all q (List.mem_append_right _ (List.mem_cons_of_mem _ hq))).but' f (h.apart (.inr hq))
  · have := h.ap
    rw [blkR_app, blkR_cons] at this ⊢
    exact this
theorem Vo.cong {B : Nat} {u : World} {n : Nat} {c c' : Nat → Value} {ao : Option Addr} (h : Vo B u n c ao) (e : ∀ i, i < n → c i = c' i) : Vo B u n c' ao := by
  refine ⟨fun h0 => ?_⟩
  obtain ⟨g, o, e1, h1, h2, h3, h4⟩ := h.at0 h0
  exact ⟨g, o, e1, h1, h2, fun i hi => by rw [← e i hi]; exact h3 i hi, h4⟩
end Go.Proofs.Ytoacgjjpipdkjaa
