/- What the laws of chapter 5 call: guessers copied, compared, marked, held. Rows of numbers that begin at an offset: compared, marked, held. -/
import Derived.Test.YtoacgjjpipdkjaaGh
import Derived.Test.YtoacgjjpipdkjaaPh
namespace Go.Proofs.Ytoacgjjpipdkjaa
open Go.RowKit
set_option linter.unusedVariables false
set_option linter.unusedSimpArgs false
/-- The block of a row, if it is not empty. -/
def bkS (n : Nat) (ao : Option Addr) : List Nat := if 0 < n then (ao.map (·.block)).toList else []
def blk5 (x : Gu) (aS aC : Option Addr) : List Nat := bkS x.S.length aS ++ bkS x.C.length aC
theorem mem_bkS {n : Nat} {ao : Option Addr} {k : Nat} (h : k ∈ bkS n ao) : 0 < n ∧ ∃ b : Addr, ao = some b ∧ b.block = k := by
  unfold bkS at h
  split at h
  · rename_i h0
    cases ao with
    | none => simp at h
    | some b => simp at h; exact ⟨h0, b, rfl, h.symm⟩
  · simp at h
theorem bkS_mem {n : Nat} {b : Addr} (h : 0 < n) : b.block ∈ bkS n (some b) := by simp [bkS, h]
theorem Vc4.but' {B : Nat} {L : List Nat} {u u' : World} {S : List Sl} {ao : Option Addr} (h : Vc4 B u S ao) (f : But L u u') (hn : ∀ k, k ∈ bkS S.length ao → k ∉ L) : Vc4 B u' S ao := by
  refine ⟨fun h0 => ?_⟩
  obtain ⟨g, rfl, hB, hl, hc, ht⟩ := h.at0 h0
  have hg : g ∉ L := hn g (bkS_mem (b := ⟨g, 0, none⟩) h0)
  exact ⟨g, rfl, hB, Nat.lt_of_lt_of_le hl f.size, range_but hc f hl hg, there_but ht f hl hg⟩
theorem Vc.but' {B : Nat} {L : List Nat} {u u' : World} {n : Nat} {c : Nat → Value} {ao : Option Addr} (h : Vc B u n c ao) (f : But L u u') (hn : ∀ k, k ∈ bkS n ao → k ∉ L) : Vc B u' n c ao := by
  refine ⟨fun h0 => ?_⟩
  obtain ⟨g, rfl, b, l, hc, hf⟩ := h.at0 h0
  have hg : g ∉ L := hn g (bkS_mem (b := ⟨g, 0, none⟩) h0)
  exact ⟨g, rfl, b, Nat.lt_of_lt_of_le l f.size, fun i hi => by rw [f.cell l hg]; exact hc i hi, fun i hi => by rw [f.frozen l hg]; exact hf i hi⟩
theorem VcG.but {B : Nat} {L : List Nat} {u u' : World} {x : Gu} {aS aC : Option Addr} (h : VcG B u x aS aC) (f : But L u u') (hn : ∀ k, k ∈ blk5 x aS aC → k ∉ L) : VcG B u' x aS aC :=
  ⟨h.S.but' f (fun k hk => hn k (List.mem_append_left _ hk)), h.C.but' f (fun k hk => hn k (List.mem_append_right _ hk)), h.ap⟩
theorem VcG.apart {B : Nat} {u : World} {x : Gu} {aS aC : Option Addr} (h : VcG B u x aS aC) : ∀ k, k ∈ bkS x.S.length aS → k ∉ bkS x.C.length aC := fun k h1 h2 => by
  obtain ⟨p1, b, e1, rfl⟩ := mem_bkS h1
  obtain ⟨p2, c, e2, e3⟩ := mem_bkS h2
  exact h.ap p1 p2 b c e1 e2 e3.symm
/-- .. as a value. -/
def ToH (x : Gu) (v : Value) (u : World) : Prop := ∃ gS gC B, v = .agg #[.slice (some ⟨gS, 0, none⟩) x.S.length x.S.length, .slice (some ⟨gC, 0, none⟩) x.C.length x.C.length] ∧ VcG B u x (some ⟨gS, 0, none⟩) (some ⟨gC, 0, none⟩)
theorem ToH.but {x : Gu} {v : Value} {u u' : World} (h : ToH x v u) (f : But [] u u') : ToH x v u' := by
  obtain ⟨gS, gC, B, e, V⟩ := h
  exact ⟨gS, gC, B, e, V.but f (fun k _ => by simp)⟩
/-- A marked guesser. -/
structure VcM (B : Nat) (u : World) (x : Gu) (k : Int) (aS aC : Option Addr) : Prop where
  S : Vc4 B u (mkS k x.S.length) aS
  C : Vc B u x.C.length (fun i => .int .i64 (k + 4 * x.S.length + i)) aC
theorem VcM.fr {B : Nat} {u u' : World} {x : Gu} {k : Int} {aS aC : Option Addr} (h : VcM B u x k aS aC) (f : Fr u u') : VcM B u' x k aS aC := ⟨h.S.fr f, h.C.fr f⟩
theorem VcM.but {B : Nat} {L : List Nat} {u u' : World} {x : Gu} {k : Int} {aS aC : Option Addr} (h : VcM B u x k aS aC) (f : But L u u') (hn : ∀ k, k ∈ blk5 x aS aC → k ∉ L) : VcM B u' x k aS aC :=
  ⟨h.S.but' f (fun k hk => hn k (List.mem_append_left _ (by rwa [mkS_len] at hk))), h.C.but' f (fun k hk => hn k (List.mem_append_right _ hk))⟩
/-- n values lie at ao, at some offset of a block from B on, and may be written. -/
structure Vo (B : Nat) (u : World) (n : Nat) (c : Nat → Value) (ao : Option Addr) : Prop where
  at0 : 0 < n → ∃ g o, ao = some ⟨g, o, none⟩ ∧ B ≤ g ∧ g < u.heap.size ∧ (∀ i, i < n → u.cell? ⟨g, o + i, none⟩ = some (c i)) ∧ ∀ i, i < n → u.frozen? ⟨g, o + i, none⟩ = false
theorem Vo.src {B : Nat} {u : World} {n : Nat} {c : Nat → Value} {ao : Option Addr} (h : Vo B u n c ao) : Src u n c ao := fun h0 => by
  obtain ⟨g, o, e, _, hl, hc, _⟩ := h.at0 h0
  exact ⟨g, o, e, hl, hc⟩
theorem Vc.vo {B : Nat} {u : World} {n : Nat} {c : Nat → Value} {ao : Option Addr} (h : Vc B u n c ao) : Vo B u n c ao := by
  refine ⟨fun h0 => ?_⟩
  obtain ⟨g, e, hB, hl, hc, hf⟩ := h.at0 h0
  exact ⟨g, 0, e, hB, hl, fun i hi => by rw [Nat.zero_add]; exact hc i hi, fun i hi => by rw [Nat.zero_add]; exact hf i hi⟩
theorem Vo.nil (B : Nat) (u : World) (c : Nat → Value) (ao : Option Addr) : Vo B u 0 c ao := ⟨fun h => absurd h (Nat.lt_irrefl 0)⟩
theorem Vo.but' {B : Nat} {L : List Nat} {u u' : World} {n : Nat} {c : Nat → Value} {ao : Option Addr} (h : Vo B u n c ao) (f : But L u u') (hn : ∀ k, k ∈ bkS n ao → k ∉ L) : Vo B u' n c ao := by
  refine ⟨fun h0 => ?_⟩
  obtain ⟨g, o, rfl, b, l, hc, hf⟩ := h.at0 h0
  have hg : g ∉ L := hn g (bkS_mem (b := ⟨g, o, none⟩) h0)
  exact ⟨g, o, rfl, b, Nat.lt_of_lt_of_le l f.size, fun i hi => by rw [f.cell l hg]; exact hc i hi, fun i hi => by rw [f.frozen l hg]; exact hf i hi⟩
theorem Vo.fr {B : Nat} {u u' : World} {n : Nat} {c : Nat → Value} {ao : Option Addr} (h : Vo B u n c ao) (f : Fr u u') : Vo B u' n c ao := h.but' (L := []) (But.of f) (fun k _ => by simp)
theorem Vo.mono {B B' : Nat} {u : World} {n : Nat} {c : Nat → Value} {ao : Option Addr} (h : Vo B u n c ao) (hB : B' ≤ B) : Vo B' u n c ao := by
  refine ⟨fun h0 => ?_⟩
  obtain ⟨g, o, e, h1, r⟩ := h.at0 h0
  exact ⟨g, o, e, by omega, r⟩
end Go.Proofs.Ytoacgjjpipdkjaa
