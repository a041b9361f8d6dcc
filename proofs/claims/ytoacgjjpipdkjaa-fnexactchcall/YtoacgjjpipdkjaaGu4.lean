/- Rows cloned; the program's GueLearn. -/
import Derived.Test.YtoacgjjpipdkjaaGu3
namespace Go.Proofs.Ytoacgjjpipdkjaa
open Go.RowKit
set_option linter.unusedVariables false
set_option linter.unusedSimpArgs false
/-- A row of numbers that the call owns, with the room that its slice says; or an empty one. -/
def Rc (B : Nat) (u : World) (xs : List Int) (ao : Option Addr) (c : Nat) : Prop := (xs.length = 0 ∧ c = 0) ∨ ∃ g, ao = some ⟨g, 0, none⟩ ∧ B ≤ g ∧ Ro u g xs ∧ Ca u g xs.length c ∧ 0 < xs.length
theorem Rc.but {B : Nat} {u u' : World} {xs : List Int} {ao : Option Addr} {c : Nat} {L : List Nat} (h : Rc B u xs ao c) (f : But L u u') (hL : ∀ k, k ∈ L → k < B) : Rc B u' xs ao c := by
  rcases h with h | ⟨g, e, hB, r, k, h0⟩
  · exact .inl h
  · exact .inr ⟨g, e, hB, r.but f (fun hm => by have := hL g hm; omega), k.but f (fun hm => by have := hL g hm; omega), h0⟩
theorem Rc.fr {B : Nat} {u u' : World} {xs : List Int} {ao : Option Addr} {c : Nat} (h : Rc B u xs ao c) (f : Fr u u') : Rc B u' xs ao c := h.but (L := []) (But.of f) (by simp)
theorem Rc.mono {B B' : Nat} {u : World} {xs : List Int} {ao : Option Addr} {c : Nat} (h : Rc B u xs ao c) (hB : B' ≤ B) : Rc B' u xs ao c := by
  rcases h with h | ⟨g, e, h1, r⟩
  · exact .inl h
  · exact .inr ⟨g, e, by omega, r⟩
theorem Rc.vc {B : Nat} {u : World} {xs : List Int} {ao : Option Addr} {c : Nat} (h : Rc B u xs ao c) : Vc B u xs.length (ivl xs) ao := by
  rcases h with h | ⟨g, rfl, hB, r, _, _⟩
  · rw [h.1]; exact Vc.nil _ _ _ _
  · exact ⟨fun _ => ⟨g, rfl, hB, r.lt, r.cel, r.fro⟩⟩
/-- Nothing is appended. -/
theorem wp_append_zero {P : Program} {Q : Exit → Act → World → Prop} {o : Oper} {a : Act} {w : World} {K : Act → World → Prop} (s x : Operand) (t : TypeId) (ho : o.op = .call { callee := .builtin .append, args := #[s, x], argTypes := #[t, t] })
    (e : TypeId) (ti : TypeInfo) (ht : P.underlying t = some (.slice e)) (hi : P.info? e = some ti) (ao : Option Addr) (n c : Nat) (hn : n ≤ c) (hs : a.eval s = .slice ao n c) (ax : Option Addr) (cx : Nat) (hx : a.eval x = .slice ax 0 cx)
    (h : K (a.put o.dst (.slice ao n c)) w) : o.wp P a w K Q := by
  have hsz : (sizeOf e).run P w = .ok ti.size w := by simp [sizeOf, typeInfo, hi]
  unfold Oper.wp execOp
  have hrun : (Builtin.append_ #[t, t] o.type #[.slice ao n c, .slice ax 0 cx]).run P w = .ok (.slice ao n c) w := by
    cases ao <;> cases ax <;> simp [Builtin.append_, run_underlying ht, sizeOf, typeInfo, hi, Builtin.lenOf, hn, Builtin.firstCells, storeCells, loadCells, loadCellsFrom]
  simp only [ho, resolve, invoke, builtin, Sem.run_bind, Sem.run_pure, Result.andThen_ok, List.map_toArray, List.map_cons, List.map_nil, hs, hx, hrun]
  exact h
/-- Behind a clone of a row. -/
def CpC (xs : List Int) (w : World) (e : Ending) (w' : World) : Prop := ∃ ao c, e = .returned (.slice ao xs.length c) ∧ Rc w.heap.size w' xs ao c ∧ Fr w w'
set_option maxRecDepth 8000 in
set_option maxHeartbeats 1000000 in
theorem slices_CloneC (xs : List Int) (ao : Option Addr) (cap : Nat) (w : World) (h : Src w xs.length (ivl xs) ao) (hn : xs.length ≤ 100000000) :
    Calls Try.prog 91 #[.slice ao xs.length cap] w (CpC xs w) := by
  obtain ⟨i0, hi, hz0, hz1, hz2⟩ := info_parts info_intV
  by_cases h0 : 0 < xs.length
  · obtain ⟨g, o, rfl, hg, hc⟩ := h h0
    have HC := Lib.hid (fun (t : TypeId) => cells_of xs (u := w.alloc (.cells #[] t)) (g := g) (o := o) (fun i hi => by rw [(Fr.alloc w _).cell (show g < w.heap.size from hg)]; exact hc i hi))
    clear hc h
    have hnil : ∀ (w : World), Sem.run Try.prog (binOp BinOp.eql 22 (.slice (some ⟨g, o, none⟩) xs.length cap) (.slice none 0 0)) w = .ok (.bool false) w := by intro w; kernel_rfl
    go_enter Try.func91, Try.ntmps91
    go_wp2_with (at_builtin; refine wpList_plain rfl fun K hK => wp_append_new _ _ 22 rfl 3 i0 (.int .i64 0) Try.underlying22 hi hz0 hz1 hz2 _ rfl ⟨g, o, none⟩ _ _ (xs.map (Value.int .i64)) rfl (by simp) (HC.out _) (ints_one xs) h0 hn ?_; intro c zs hzs; refine hK _ _ ?_)
    go_ret
    refine ⟨_, c, rfl, .inr ⟨_, rfl, ?_, Ro.drew (by have := ro_new (w.alloc (.cells #[] 3)) xs zs 3; simpa using this), Ca.but (L := []) (by have := ca_new (w.alloc (.cells #[] 3)) xs zs c (hzs rfl); simpa using this) (But.refl _ _).drew (by simp), h0⟩, ?_⟩
    · simp
    · (repeat' first | (with_reducible exact Below.refl _ _) | (with_reducible assumption) | ((with_reducible refine Below.setCell ?_ ?hb _); (case hb => first | exact Nat.le_refl _ | (simp; done) | (simp; omega) | omega)) | ((with_reducible refine Below.alloc ?_ ?hb _); (case hb => first | exact Nat.le_refl _ | (simp; done) | (simp; omega) | omega)) | (with_reducible refine Below.drew ?_))
  · have hz : xs.length = 0 := by omega
    have HZ := Lib.hid hz
    rw [hz]
    clear h h0 hn hz
    cases ao with
    | none =>
      have hnil : ∀ (w : World), Sem.run Try.prog (binOp BinOp.eql 22 (.slice none 0 cap) (.slice none 0 0)) w = .ok (.bool true) w := by intro w; kernel_rfl
      go_enter Try.func91, Try.ntmps91
      go_wp2_with fail
      go_ret
      exact ⟨none, 0, by rw [HZ.out]; rfl, .inl ⟨HZ.out, rfl⟩, Below.refl _ _⟩
    | some g =>
      have hnil : ∀ (w : World), Sem.run Try.prog (binOp BinOp.eql 22 (.slice (some g) 0 cap) (.slice none 0 0)) w = .ok (.bool false) w := by intro w; kernel_rfl
      go_enter Try.func91, Try.ntmps91
      go_wp2_with (at_builtin; refine wpList_plain rfl fun K hK => wp_append_zero _ _ 22 rfl 3 i0 Try.underlying22 hi _ _ _ (Nat.le_refl _) rfl _ _ rfl ?_; refine hK _ _ ?_)
      go_ret
      refine ⟨_, 0, by rw [HZ.out]; rfl, .inl ⟨HZ.out, rfl⟩, ?_⟩
      (repeat' first | (with_reducible exact Below.refl _ _) | (with_reducible assumption) | ((with_reducible refine Below.setCell ?_ ?hb _); (case hb => first | exact Nat.le_refl _ | (simp; done) | (simp; omega) | omega)) | ((with_reducible refine Below.alloc ?_ ?hb _); (case hb => first | exact Nat.le_refl _ | (simp; done) | (simp; omega) | omega)) | (with_reducible refine Below.drew ?_))
end Go.Proofs.Ytoacgjjpipdkjaa
