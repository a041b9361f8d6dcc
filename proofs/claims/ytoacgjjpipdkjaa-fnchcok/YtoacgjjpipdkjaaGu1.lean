/- What is ok, of guessers: the program's and the model's. New guessers; what slots learn. Arrays of slots that learn; the program's GueLearn. Rows cloned; the program's GueLearn. -/
import Derived.Laws.Cover3
import Derived.Deep.Upon
import Derived.Test.YtoacgjjpipdkjaaGu0
import Derived.Test.YtoacgjjpipdkjaaPl0
namespace Go.Proofs.Ytoacgjjpipdkjaa
open Go.RowKit
set_option linter.unusedVariables false
set_option linter.unusedSimpArgs false
section
variable {P : Program} {Q : Exit → Act → World → Prop}
end
/-- Two cells of a block that may be written. -/
structure Box2 (u : World) (g : Nat) (a b : Value) : Prop where
  lt : g < u.heap.size
  c0 : u.cell? ⟨g, 0, none⟩ = some a
  c1 : u.cell? ⟨g, 1, none⟩ = some b
  f0 : u.frozen? ⟨g, 0, none⟩ = false
  f1 : u.frozen? ⟨g, 1, none⟩ = false
theorem Box2.but {L : List Nat} {u u' : World} {g : Nat} {a b : Value} (h : Box2 u g a b) (f : But L u u') (hn : g ∉ L) : Box2 u' g a b :=
  ⟨Nat.lt_of_lt_of_le h.lt f.size, by rw [f.cell h.lt hn]; exact h.c0, by rw [f.cell h.lt hn]; exact h.c1, by rw [f.frozen h.lt hn]; exact h.f0, by rw [f.frozen h.lt hn]; exact h.f1⟩
theorem Box2.fr {u u' : World} {g : Nat} {a b : Value} (h : Box2 u g a b) (f : Fr u u') : Box2 u' g a b := h.but (L := []) (But.of f) (by simp)
theorem Box2.new (w : World) (a b : Value) (t : TypeId) (n : Nat) (hn : w.heap.size = n) : Box2 (w.alloc (.cells #[a, b] t)) n a b := by
  subst hn
  exact ⟨by simp, (alloc_at w _ t _ rfl 0).1, (alloc_at w _ t _ rfl 1).1, (alloc_at w _ t _ rfl 0).2, (alloc_at w _ t _ rfl 1).2⟩
theorem Box2.set {u : World} {g : Nat} {a b : Value} (h : Box2 u g a b) (a' b' : Value) : Box2 ((u.setCell ⟨g, 0, none⟩ a').setCell ⟨g, 1, none⟩ b') g a' b' := by
  have c0 := h.c0
  have c1 := h.c1
  have f0 := h.f0
  have f1 := h.f1
  have hl := h.lt
  refine ⟨by simpa [World.setCell] using hl, ?_, ?_, ?_, ?_⟩
  all_goals simp [World.frozen?_setCell, World.cell?_setCell_other, World.cell?_setCell_same, c0, c1, f0, f1]
theorem But.set2 {L : List Nat} {w w' : World} (h : But L w w') (g : Nat) (a b : Value) (hg : g ∈ L ∨ w.heap.size ≤ g) : But L w ((w'.setCell ⟨g, 0, none⟩ a).setCell ⟨g, 1, none⟩ b) :=
  (h.set g 0 a hg).set g 1 b hg
/-- Slots lie in block g, and may be written. -/
structure Ro4 (u : World) (g : Nat) (S : List Sl) : Prop where
  lt : g < u.heap.size
  rng : u.rangeAt g 0 (cls S)
  thr : u.there g 0 (4 * S.length)
theorem Ro4.but {L : List Nat} {u u' : World} {g : Nat} {S : List Sl} (h : Ro4 u g S) (f : But L u u') (hn : g ∉ L) : Ro4 u' g S :=
  ⟨Nat.lt_of_lt_of_le h.lt f.size, range_but h.rng f h.lt hn, there_but h.thr f h.lt hn⟩
theorem Ro4.fr {u u' : World} {g : Nat} {S : List Sl} (h : Ro4 u g S) (f : Fr u u') : Ro4 u' g S := h.but (L := []) (But.of f) (by simp)
theorem Ro4.vc {B : Nat} {u : World} {g : Nat} {S : List Sl} (h : Ro4 u g S) (hB : B ≤ g) : Vc4 B u S (some ⟨g, 0, none⟩) := ⟨fun _ => ⟨g, rfl, hB, h.lt, h.rng, h.thr⟩⟩
/-- A guesser that was handed over: its rows may be written, and lie apart. -/
structure VcG (B : Nat) (u : World) (x : Gu) (aS aC : Option Addr) : Prop where
  S : Vc4 B u x.S aS
  C : Vc B u x.C.length (ivl x.C) aC
  ap : 0 < x.S.length → 0 < x.C.length → ∀ b c, aS = some b → aC = some c → b.block ≠ c.block
theorem VcG.fr {B : Nat} {u u' : World} {x : Gu} {aS aC : Option Addr} (h : VcG B u x aS aC) (f : Fr u u') : VcG B u' x aS aC := ⟨h.S.fr f, h.C.fr f, h.ap⟩
theorem VcG.mono {B B' : Nat} {u : World} {x : Gu} {aS aC : Option Addr} (h : VcG B u x aS aC) (hB : B' ≤ B) : VcG B' u x aS aC := ⟨h.S.mono hB, h.C.mono hB, h.ap⟩
abbrev gu0 : Gu := ⟨[], []⟩
theorem VcG.nil (B : Nat) (u : World) (aS aC : Option Addr) : VcG B u gu0 aS aC := ⟨Vc4.nil _ _ _, Vc.nil _ _ _ _, fun h => absurd h (by simp)⟩
theorem info_partsN {P : Program} {t : TypeId} {z : Value} {n b : Nat} (h : (P.info? t).map (fun i => (i.zero, i.size, i.bytes)) = some (some z, n, b)) : ∃ i, P.info? t = some i ∧ i.zero = some z ∧ i.size = n ∧ i.bytes = b := by
  cases hq : P.info? t with
  | none => simp [hq] at h
  | some i =>
    simp [hq] at h
    exact ⟨i, rfl, h.1, h.2.1, h.2.2⟩
theorem But.setCells {L : List Nat} {w : World} (g : Nat) (hg : g ∈ L ∨ w.heap.size ≤ g) : ∀ (vs : List Value) (o : Nat) (w' : World), But L w w' → But L w (w'.setCells g o vs)
  | [], _, _, h => h
  | v :: r, o, w', h => by
    rw [World.setCells]
    exact But.setCells g hg r (o + 1) _ (h.set g o v hg)
theorem Ro4.slot {u : World} {g : Nat} {S : List Sl} (h : Ro4 u g S) (i : Nat) (hi : i < S.length) : u.cell? ⟨g, i * 4, none⟩ = some (.bool (S.getD i sl0).u) ∧ u.cell? ⟨g, i * 4 + 1, none⟩ = some (.int .i64 (S.getD i sl0).p) ∧ u.cell? ⟨g, i * 4 + 2, none⟩ = some (.int .i64 (S.getD i sl0).t) ∧ u.cell? ⟨g, i * 4 + 3, none⟩ = some (.int .i64 (S.getD i sl0).s) := by
  have := slot_at h.rng i hi
  simpa using this
theorem Ro4.there4 {u : World} {g : Nat} {S : List Sl} (h : Ro4 u g S) (i : Nat) (hi : i < S.length) : u.there g (i * 4) 4 := fun j hj => by
  have := h.thr (i * 4 + j) (by omega)
  rwa [Nat.zero_add] at this
section
variable {Q : Exit → Act → World → Prop}
end
/-- A row of numbers that the call owns, with the room that its slice says; or an empty one. -/
def Rc (B : Nat) (u : World) (xs : List Int) (ao : Option Addr) (c : Nat) : Prop := (xs.length = 0 ∧ c = 0) ∨ ∃ g, ao = some ⟨g, 0, none⟩ ∧ B ≤ g ∧ Ro u g xs ∧ Ca u g xs.length c ∧ 0 < xs.length
theorem Rc.but {B : Nat} {u u' : World} {xs : List Int} {ao : Option Addr} {c : Nat} {L : List Nat} (h : Rc B u xs ao c) (f : But L u u') (hL : ∀ k, k ∈ L → k < B) : Rc B u' xs ao c := by
  rcases h with h | ⟨g, e, hB, r, k, h0⟩
  · exact .inl h
  · exact .inr ⟨g, e, hB, r.but f (fun hm => by have := hL g hm; omega), k.but f (fun hm => by have := hL g hm; omega), h0⟩
theorem Rc.fr {B : Nat} {u u' : World} {xs : List Int} {ao : Option Addr} {c : Nat} (h : Rc B u xs ao c) (f : Fr u u') : Rc B u' xs ao c := h.but (L := []) (But.of f) (by simp)
theorem Rc.mono {B B' : Nat} {u : World} {xs : List Int} {ao : Option Addr} {c : Nat} (h : Rc B u xs ao c) (hB : B' ≤ B) : Rc B' u xs ao c := by
  rcases h with h | ⟨g, e, h1, r⟩
  · exact .inl h
  · exact .inr ⟨g, e, by omega, r⟩
theorem Rc.vc {B : Nat} {u : World} {xs : List Int} {ao : Option Addr} {c : Nat} (h : Rc B u xs ao c) : Vc B u xs.length (ivl xs) ao := by
  rcases h with h | ⟨g, rfl, hB, r, _, _⟩
  · rw [h.1]; exact Vc.nil _ _ _ _
  · exact ⟨fun _ => ⟨g, rfl, hB, r.lt, r.cel, r.fro⟩⟩
/-- Nothing is appended. -/
theorem wp_append_zero {P : Program} {Q : Exit → Act → World → Prop} {o : Oper} {a : Act} {w : World} {K : Act → World → Prop} (s x : Operand) (t : TypeId) (ho : o.op = .call { callee := .builtin .append, args := #[s, x], argTypes := #[t, t] })
    (e : TypeId) (ti : TypeInfo) (ht : P.underlying t = some (.slice e)) (hi : P.info? e = some ti) (ao : Option Addr) (n c : Nat) (hn : n ≤ c) (hs : a.eval s = .slice ao n c) (ax : Option Addr) (cx : Nat) (hx : a.eval x = .slice ax 0 cx)
    (h : K (a.put o.dst (.slice ao n c)) w) : o.wp P a w K Q := by
  have hsz : (sizeOf e).run P w = .ok ti.size w := by simp [sizeOf, typeInfo, hi]
  unfold Oper.wp execOp
  have hrun : (Builtin.append_ #[t, t] o.type #[.slice ao n c, .slice ax 0 cx]).run P w = .ok (.slice ao n c) w := by
    cases ao <;> cases ax <;> simp [Builtin.append_, run_underlying ht, sizeOf, typeInfo, hi, Builtin.lenOf, hn, Builtin.firstCells, storeCells, loadCells, loadCellsFrom]
  simp only [ho, resolve, invoke, builtin, Sem.run_bind, Sem.run_pure, Result.andThen_ok, List.map_toArray, List.map_cons, List.map_nil, hs, hx, hrun]
  exact h
/-- Behind a clone of a row. -/
def CpC (xs : List Int) (w : World) (e : Ending) (w' : World) : Prop := ∃ ao c, e = .returned (.slice ao xs.length c) ∧ Rc w.heap.size w' xs ao c ∧ Fr w w'
set_option maxRecDepth 8000 in
set_option maxHeartbeats 1000000 in
theorem slices_CloneC (xs : List Int) (ao : Option Addr) (cap : Nat) (w : World) (h : Src w xs.length (ivl xs) ao) (hn : xs.length ≤ 100000000) :
    Calls Try.prog 91 #[.slice ao xs.length cap] w (CpC xs w) := by
  obtain ⟨i0, hi, hz0, hz1, hz2⟩ := info_parts info_intV
  by_cases h0 : 0 < xs.length
  · obtain ⟨g, o, rfl, hg, hc⟩ := h h0
    have HC := Lib.hid (fun (t : TypeId) => cells_of xs (u := w.alloc (.cells #[] t)) (g := g) (o := o) (fun i hi => by rw [(Fr.alloc w _).cell (show g < w.heap.size from hg)]; exact hc i hi))
    clear hc h
    have hnil : ∀ (w : World), Sem.run Try.prog (binOp BinOp.eql 22 (.slice (some ⟨g, o, none⟩) xs.length cap) (.slice none 0 0)) w = .ok (.bool false) w := by intro w; kernel_rfl
    go_enter Try.func91, Try.ntmps91
    go_wp2_with (at_builtin; refine wpList_plain rfl fun K hK => wp_append_new _ _ 22 rfl 3 i0 (.int .i64 0) Try.underlying22 hi hz0 hz1 hz2 _ rfl ⟨g, o, none⟩ _ _ (xs.map (Value.int .i64)) rfl (by simp) (HC.out _) (ints_one xs) h0 hn ?_; intro c zs hzs; refine hK _ _ ?_)
    go_ret
    refine ⟨_, c, rfl, .inr ⟨_, rfl, ?_, Ro.drew (by have := ro_new (w.alloc (.cells #[] 3)) xs zs 3; simpa using this), Ca.but (L := []) (by have := ca_new (w.alloc (.cells #[] 3)) xs zs c (hzs rfl); simpa using this) (But.refl _ _).drew (by simp), h0⟩, ?_⟩
    · simp
    · (repeat' first | (with_reducible exact Below.refl _ _) | (with_reducible assumption) | ((with_reducible refine Below.setCell ?_ ?hb _); (case hb => first | exact Nat.le_refl _ | (simp; done) | (simp; omega) | omega)) | ((with_reducible refine Below.alloc ?_ ?hb _); (case hb => first | exact Nat.le_refl _ | (simp; done) | (simp; omega) | omega)) | (with_reducible refine Below.drew ?_))
  · have hz : xs.length = 0 := by omega
    have HZ := Lib.hid hz
    rw [hz]
    clear h h0 hn hz
    cases ao with
    | none =>
      have hnil : ∀ (w : World), Sem.run Try.prog (binOp BinOp.eql 22 (.slice none 0 cap) (.slice none 0 0)) w = .ok (.bool true) w := by intro w; kernel_rfl
      go_enter Try.func91, Try.ntmps91
      go_wp2_with fail
      go_ret
      exact ⟨none, 0, by rw [HZ.out]; rfl, .inl ⟨HZ.out, rfl⟩, Below.refl _ _⟩
    | some g =>
      have hnil : ∀ (w : World), Sem.run Try.prog (binOp BinOp.eql 22 (.slice (some g) 0 cap) (.slice none 0 0)) w = .ok (.bool false) w := by intro w; kernel_rfl
      go_enter Try.func91, Try.ntmps91
      go_wp2_with (at_builtin; refine wpList_plain rfl fun K hK => wp_append_zero _ _ 22 rfl 3 i0 Try.underlying22 hi _ _ _ (Nat.le_refl _) rfl _ _ rfl ?_; refine hK _ _ ?_)
      go_ret
      refine ⟨_, 0, by rw [HZ.out]; rfl, .inl ⟨HZ.out, rfl⟩, ?_⟩
      (repeat' first | (with_reducible exact Below.refl _ _) | (with_reducible assumption) | ((with_reducible refine Below.setCell ?_ ?hb _); (case hb => first | exact Nat.le_refl _ | (simp; done) | (simp; omega) | omega)) | ((with_reducible refine Below.alloc ?_ ?hb _); (case hb => first | exact Nat.le_refl _ | (simp; done) | (simp; omega) | omega)) | (with_reducible refine Below.drew ?_))
end Go.Proofs.Ytoacgjjpipdkjaa
