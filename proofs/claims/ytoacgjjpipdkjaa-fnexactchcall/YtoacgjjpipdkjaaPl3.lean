/- New rows: copies of rows and machines, of the program and of the model. -/
import Derived.Deep.AppendSrc
import Derived.Laws.CopyOwn
import Derived.Test.YtoacgjjpipdkjaaPl1
namespace Go.Proofs.Ytoacgjjpipdkjaa
open Go.RowKit
set_option linter.unusedVariables false
set_option linter.unusedSimpArgs false
section
variable {P : Program} {Q : Exit → Act → World → Prop}
/-- append onto an empty slice without room: a new row. -/
theorem wp_append_new {o : Oper} {a : Act} {w : World} {K : Act → World → Prop} (s x : Operand) (t : TypeId) (ho : o.op = .call { callee := .builtin .append, args := #[s, x], argTypes := #[t, t] })
    (e : TypeId) (ti : TypeInfo) (z : Value) (ht : P.underlying t = some (.slice e)) (hi : P.info? e = some ti) (hz : ti.zero = some z) (hsize : ti.size = 1) (hby : ti.bytes = 8)
    (g : Addr) (hs : a.eval s = .slice (some g) 0 0) (ad : Addr) (m c : Nat) (news : List Value) (hx : a.eval x = .slice (some ad) m c) (hl : news.length = m)
    (hnews : ∀ j u, news[j]? = some u → w.cell? (ad.add j) = some u) (h1 : ∀ u ∈ news, u.oneCell' = true) (h0 : 0 < m) (hm : m ≤ 100000000)
    (h : ∀ (cap : Nat) (zs : Array Value), (z.cells.size = 1 → m + zs.size = cap ∧ cap ≤ maxLen) → K (a.put o.dst (.slice (some ⟨w.heap.size, 0, none⟩) m cap)) (w.drew.alloc (.cells (news.toArray ++ zs) e))) : o.wp P a w K Q := by
  have hrun := run_append_grow_src (P := P) w t t o.type e ti z ht hi hz (some g) 0 0 [] (run_firstCells_some w.drew ti.size 0 g 0 0 [] (by simp) (fun j u h => by simp at h)) (.slice (some ad) m c) m news
    (_root_.Go.Src.ofSlice w ht ad m c news (by rw [hsize, hl, Nat.mul_one]) hnews h1) (by omega) (by omega) (growslice_fits (by omega) (by rw [hby]; omega))
  simp only [Nat.zero_add, List.nil_append] at hrun
  unfold Oper.wp execOp
  simp only [ho, resolve, invoke, builtin, Sem.run_bind, Sem.run_pure, Result.andThen_ok, List.map_toArray, List.map_cons, List.map_nil, hs, hx, hrun]
  refine h _ _ (fun hz1 => ?_)
  have := grownCap_ge w m 0 e
  refine ⟨?_, grownCap_le_maxLen w m 0 e (by unfold maxLen; omega)⟩
  simp only [Builtin.zeroCells, Array.size_map, Array.size_range, hz1, Nat.mul_one]
  omega
end
theorem ro_new (w : World) (xs : List Int) (zs : Array Value) (e : TypeId) : Ro (w.alloc (.cells ((xs.map (Value.int .i64)).toArray ++ zs) e)) w.heap.size xs := by
  refine ⟨by simp, fun i hi => ?_, fun i hi => (alloc_at w _ e _ rfl i).2⟩
  rw [(alloc_at w _ e _ rfl i).1, Array.getElem?_append_left (by simpa using hi)]
  simp [hi]
/-- A row of numbers has just as much room as its slice says. -/
def Ca (u : World) (g n c : Nat) : Prop := ∃ cur, u.heap[g]? = some (.cells cur 3 (0, 0)) ∧ cur.size = c ∧ n ≤ c ∧ c ≤ maxLen
theorem Ca.but {L : List Nat} {u u' : World} {g n c : Nat} (h : Ca u g n c) (f : But L u u') (hn : g ∉ L) : Ca u' g n c := by
  obtain ⟨cur, h1, h2⟩ := h
  have hg : g < u.heap.size := by
    by_cases hh : g < u.heap.size
    · exact hh
    · rw [Array.getElem?_eq_none (by omega)] at h1; cases h1
  exact ⟨cur, by rw [f.block g hg hn]; exact h1, h2⟩
theorem Ca.set {u : World} {g n c : Nat} (h : Ca u g n c) (Z j : Nat) (v : Value) : Ca (u.setCell ⟨Z, j, none⟩ v) g n c := by
  obtain ⟨cur, h1, h2, h3⟩ := h
  by_cases e : Z = g
  · subst e
    refine ⟨cur.setIfInBounds j v, ?_, by simpa using h2, h3⟩
    simp [World.setCell, Array.getElem?_modify, h1]
  · exact ⟨cur, by rw [Below.heap_setCell _ _ _ _ (by show g ≠ Z; omega)]; exact h1, h2, h3⟩
theorem ca_new (w : World) (xs : List Int) (zs : Array Value) (c : Nat) (hc : xs.length + zs.size = c ∧ c ≤ maxLen) : Ca (w.alloc (.cells ((xs.map (Value.int .i64)).toArray ++ zs) 3)) w.heap.size xs.length c := by
  refine ⟨(xs.map (Value.int .i64)).toArray ++ zs, ?_, by simp [hc.1], by omega, hc.2⟩
  show (w.heap.push _)[w.heap.size]? = _
  simp
theorem ca_own {u : World} {B g c : Nat} {xs : List Int} (h : Ca u g xs.length c) (r : Ro u g xs) (hB : B ≤ g) : u.ownsRow B 3 1 (.slice (some ⟨g, 0, none⟩) xs.length c) xs.length (xs.map (Value.int .i64)) := by
  obtain ⟨cur, h1, h2, h3, h4⟩ := h
  refine ⟨by simp, .inr ⟨g, c, cur, rfl, hB, h1, h3, h4, by simpa using h2, ?_⟩⟩
  rw [Nat.mul_one]
  apply List.ext_getElem?
  intro i
  by_cases hi : i < xs.length
  · have hc := r.cel i hi
    simp only [World.cell?, h1] at hc
    rw [List.getElem?_take_of_lt hi, List.getElem?_map, List.getElem?_eq_getElem hi]
    simpa [List.getD, List.getElem?_eq_getElem hi] using hc
  · rw [List.getElem?_eq_none (by simp; omega), List.getElem?_eq_none (by simp; omega)]
theorem ro_own {u : World} {B g n c : Nat} {e : TypeId} {xs : List Int} (h : u.ownsRow B e 1 (.slice (some ⟨g, 0, none⟩) n c) n (xs.map (Value.int .i64))) : Ro u g xs ∧ B ≤ g ∧ xs.length = n := by
  obtain ⟨hl, hc⟩ := h
  rw [List.length_map, Nat.mul_one] at hl
  rcases hc with ⟨h, _⟩ | ⟨g', cap, cur, hv, hB, hg, hcap, _, hcs, hxs⟩
  · cases h
  · cases hv
    refine ⟨⟨?_, fun i hi => ?_, fun i hi => by simp [World.frozen?, hg]⟩, hB, hl⟩
    · by_cases hh : g < u.heap.size
      · exact hh
      · rw [Array.getElem?_eq_none (by omega)] at hg; cases hg
    · simp only [World.cell?, hg]
      have h1 : (cur.toList.take (n * 1))[i]? = (xs.map (Value.int .i64))[i]? := by rw [hxs]
      rw [List.getElem?_take_of_lt (by omega), List.getElem?_map, List.getElem?_eq_getElem hi] at h1
      simpa [List.getD, List.getElem?_eq_getElem hi] using h1
theorem cells_of (xs : List Int) {u : World} {g o : Nat} (hc : ∀ i, i < xs.length → u.cell? ⟨g, o + i, none⟩ = some (ivl xs i)) : ∀ j v, (xs.map (Value.int .i64))[j]? = some v → u.cell? ((⟨g, o, none⟩ : Addr).add j) = some v := fun j v hj => by
  rw [List.getElem?_map] at hj
  obtain ⟨x, hx, rfl⟩ := Option.map_eq_some_iff.1 hj
  obtain ⟨hlt, hx'⟩ := List.getElem?_eq_some_iff.1 hx
  have h1 := hc j hlt
  simp only [ivl, List.getD_eq_getElem?_getD, hx, Option.getD_some] at h1
  rcases Nat.eq_zero_or_pos j with rfl | h
  · simpa [Addr.add] using h1
  · simpa [Addr.add, show j ≠ 0 by omega] using h1
theorem ints_one (xs : List Int) : ∀ u ∈ xs.map (Value.int .i64), u.oneCell' = true := fun u hu => by
  obtain ⟨_, _, rfl⟩ := List.mem_map.1 hu
  rfl
end Go.Proofs.Ytoacgjjpipdkjaa
