/- FnChcOk's: a word of a line turned; lines copied by append. -/
import Derived.Test.YtoacgjjpipdkjaaK44
import Derived.Test.YtoacgjjpipdkjaaK40
namespace Go.Proofs.Ytoacgjjpipdkjaa
open Go.RowKit
set_option linter.unusedVariables false
set_option linter.unusedSimpArgs false
/-- A word of a row turned. -/
def turnW (W : List Int) (j : Nat) : List Int := W.set j ((W.getD j 0 + 1) % 65536)
theorem turnW_ok {W : List Int} (h : W.all okB = true) (j : Nat) : (turnW W j).all okB = true := by
  refine all_set7 j h ?_
  exact okB7 (by omega) (by omega)
theorem turned_ok {M : List Int} {L : List Ln} (h : OkC ⟨M, L⟩) {k : Nat} (hk : k < 4) (hu : (L.getD k ln0).u = true) {j : Nat} (hj : j < 4) :
    okC ⟨M, L.set k ⟨true, (L.getD k ln0).p, (L.getD k ln0).d, turnW (L.getD k ln0).W j⟩⟩ = (L.getD k ln0).d := by
  have hLl : L.length = 4 := h.Ll
  have hU := okLn_used (okLns_at h.L k (by show k < L.length; omega)) hu
  have hg : (L.set k ⟨true, (L.getD k ln0).p, (L.getD k ln0).d, turnW (L.getD k ln0).W j⟩).getD k ln0 = ⟨true, (L.getD k ln0).p, (L.getD k ln0).d, turnW (L.getD k ln0).W j⟩ := by
    rw [getD_setN, if_pos ⟨rfl, by omega⟩]
  have hWl : (turnW (L.getD k ln0).W j).length = 4 := by rw [turnW, List.length_set]; exact hU.Wl
  cases hd : (L.getD k ln0).d
  · cases hc : okC ⟨M, L.set k ⟨true, (L.getD k ln0).p, false, turnW (L.getD k ln0).W j⟩⟩
    · rfl
    · exfalso
      have h2 := (okC_iff _).1 hc
      rw [hd] at hg
      have h3 := okLns_at h2.L k (by show k < (List.set _ _ _).length; rw [List.length_set]; omega)
      rw [show (Ch.mk M (L.set k ⟨true, (L.getD k ln0).p, false, turnW (L.getD k ln0).W j⟩)).L = L.set k ⟨true, (L.getD k ln0).p, false, turnW (L.getD k ln0).W j⟩ from rfl, hg] at h3
      have h4 := okLn_used h3 rfl
      rcases h4.s with h5 | h5
      · cases h5
      · rcases hU.s with h6 | h6
        · rw [hd] at h6; cases h6
        · have e1 := h5 j hj
          have e2 := h6 j hj
          have hWl0 : (L.getD k ln0).W.length = 4 := hU.Wl
          have e3 : (turnW (L.getD k ln0).W j).getD j 0 = ((L.getD k ln0).W.getD j 0 + 1) % 65536 := by
            rw [turnW, getD_set, if_pos ⟨rfl, by omega⟩]
          have e4 := ok_get hU.W j
          rw [e3] at e1
          have e5 : ((L.getD k ln0).W.getD j 0 + 1) % 65536 = (L.getD k ln0).W.getD j 0 := e1.trans e2.symm
          omega
  · refine okC_of ⟨h.M, h.Ml, by show (List.set _ _ _).length = 4; rw [List.length_set]; exact hLl, okLns_of (p := 4) (fun i hi => ?_) (by show (List.set _ _ _).length ≤ 4; rw [List.length_set]; omega)⟩
    rw [hd] at hg
    by_cases e : k = i
    · subst e
      show okLn M _ ((List.set _ _ _).getD k ln0) = true
      rw [hg]
      exact OkU.ok ⟨rfl, hU.p0, hU.p1, hU.p4, hU.pk, turnW_ok hU.W j, hWl, .inl rfl⟩
    · show okLn M _ ((List.set _ _ _).getD i ln0) = true
      rw [getD_setN, if_neg (fun x => e x.1)]
      exact okLns_at h.L i (by show i < L.length; omega)
theorem wp_append_new48 {P : Program} {Q : Exit → Act → World → Prop} {o : Oper} {a : Act} {w : World} {K : Act → World → Prop} (s x : Operand) (t : TypeId) (ho : o.op = .call { callee := .builtin .append, args := #[s, x], argTypes := #[t, t] })
    (e : TypeId) (ti : TypeInfo) (z : Value) (ht : P.underlying t = some (.slice e)) (hi : P.info? e = some ti) (hz : ti.zero = some z) (hsize : ti.size = 4) (hby : ti.bytes = 48)
    (g : Addr) (hs : a.eval s = .slice (some g) 0 0) (ad : Addr) (m c : Nat) (news : List Value) (hx : a.eval x = .slice (some ad) m c) (hl : news.length = m * 4)
    (hnews : ∀ j u, news[j]? = some u → w.cell? (ad.add j) = some u) (h1 : ∀ u ∈ news, u.oneCell' = true) (h0 : 0 < m) (hm : m ≤ 100000000)
    (h : ∀ (cap : Nat) (zs : Array Value), K (a.put o.dst (.slice (some ⟨w.heap.size, 0, none⟩) m cap)) (w.drew.alloc (.cells (news.toArray ++ zs) e))) : o.wp P a w K Q := by
  have hrun := run_append_grow_src (P := P) w t t o.type e ti z ht hi hz (some g) 0 0 [] (run_firstCells_some w.drew ti.size 0 g 0 0 [] (by simp) (fun j u h => by simp at h)) (.slice (some ad) m c) m news
    (_root_.Go.Src.ofSlice w ht ad m c news (by rw [hsize, hl]) hnews h1) (by omega) (by omega) (growslice_fits (by omega) (by rw [hby]; omega))
  simp only [Nat.zero_add, List.nil_append] at hrun
  unfold Oper.wp execOp
  simp only [ho, resolve, invoke, builtin, Sem.run_bind, Sem.run_pure, Result.andThen_ok, List.map_toArray, List.map_cons, List.map_nil, hs, hx, hrun]
  exact h _ _
/-- append of lines onto an empty slice: new lines. -/
theorem wp_append_lines {o : Oper} {a : Act} {w : World} {K : Act → World → Prop} {Q : Exit → Act → World → Prop} (s x : Operand) (ho : o.op = .call { callee := .builtin .append, args := #[s, x], argTypes := #[28, 28] })
    (g : Addr) (hs : a.eval s = .slice (some g) 0 0) (X : List La) (gx ox cx : Nat) (hx : a.eval x = .slice (some ⟨gx, ox, none⟩) X.length cx) (hr : w.rangeAt gx ox (clL X)) (h0 : 0 < X.length) (hn : X.length ≤ 1000)
    (h : ∀ gX c' w', w.heap.size ≤ gX → RoL w' gX X → Fr w w' → K (a.put o.dst (.slice (some ⟨gX, 0, none⟩) X.length c')) w') : o.wp Try.prog a w K Q := by
  obtain ⟨i0, hi, hz0, hz1, hz2⟩ := info_partsN info_lineV
  refine wp_append_new48 (P := Try.prog) s x 28 ho 59 i0 (lav la0) Try.underlying28 hi hz0 hz1 hz2 g hs ⟨gx, ox, none⟩ X.length cx (clL X) hx (by rw [clL_len, Nat.mul_comm]) (range_add hr) (clL_one X) h0 (by omega) ?_
  intro cap zs
  exact h w.heap.size cap _ (Nat.le_refl _) (rol_new w.drew X zs _) ((Below.drew (Below.refl _ _)).alloc (Nat.le_refl _) _)
theorem rol_src {u : World} {g : Nat} {X : List La} (h : RoL u g X) (hw : ∀ i, i < X.length → WSrc u (X.getD i la0)) : SrcL u X (some ⟨g, 0, none⟩) := ⟨fun _ => ⟨g, 0, rfl, h.lt, h.rng⟩, hw⟩
theorem newL_src (u : World) (i : Nat) (hi : i < newL.length) : WSrc u (newL.getD i la0) := fun h0 => by
  have := newL_n i hi
  omega
theorem few_new {M : List Int} (h : M.length ≤ 1048576) : FewC M newL := ⟨h, by decide, fun i hi => by rw [newL_n i hi]; omega⟩
theorem few_set {M : List Int} {X : List La} (h : FewC M X) (k : Nat) {y : La} (hy : y.n.W.length ≤ 1048576) : FewC M (X.set k y) := by
  refine ⟨h.M, by rw [List.length_set]; exact h.L, fun i hi => ?_⟩
  rw [List.length_set] at hi
  rw [getD_setA]
  split
  · exact hy
  · exact h.W i hi
/-- Lines, one of them turned, in a row of their own. -/
theorem src_set {u : World} {g k : Nat} {X : List La} {y : La} (h : RoL u g (X.set k y)) (hw : ∀ i, i < X.length → WSrc u (X.getD i la0)) (hy : WSrc u y) : SrcL u (X.set k y) (some ⟨g, 0, none⟩) :=
  rol_src h fun i hi => by
    rw [List.length_set] at hi
    rw [getD_setA]
    split
    · exact hy
    · exact hw i hi
/-- Behind the lines' copy: the copied cache lies in box Q. -/
structure AtQ (u3 : World) (M : List Int) (X : List La) (aM : Option Addr) (cM : Nat) (Q gX c6 : Nat) (u7 : World) : Prop where
  bx : Box2 u7 Q (.slice aM M.length cM) (.slice (some ⟨gX, 0, none⟩) X.length c6)
  hQ : u3.heap.size ≤ Q
  hg : u3.heap.size ≤ gX
  nq : gX ≠ Q
  ro : RoL u7 gX X
  fr : Fr u3 u7
theorem atQ_set {u3 u6 : World} {M : List Int} {X : List La} {aM : Option Addr} {cM Q gX c6 : Nat} {a b : Value} (hb : Box2 u6 Q a b) (hQ : u3.heap.size ≤ Q) (hg : Q < gX) (r : RoL u6 gX X) (f : Fr u3 u6) :
    AtQ u3 M X aM cM Q gX c6 ((u6.setCell ⟨Q, 0, none⟩ (.slice aM M.length cM)).setCell ⟨Q, 1, none⟩ (.slice (some ⟨gX, 0, none⟩) X.length c6)) := by
  have hst : But [Q] u6 ((u6.setCell ⟨Q, 0, none⟩ (.slice aM M.length cM)).setCell ⟨Q, 1, none⟩ (.slice (some ⟨gX, 0, none⟩) X.length c6)) := (But.refl _ _).set2 _ _ _ (.inl (by simp))
  exact ⟨hb.set _ _, hQ, by omega, by omega, r.but hst (by simp; omega), fr_but f hst (fun m hm => by simp at hm; omega)⟩
theorem atQ_new {u3 u6 : World} {M : List Int} {X : List La} {aM : Option Addr} {cM gX c6 : Nat} (hg : u3.heap.size ≤ gX) (r : RoL u6 gX X) (f : Fr u3 u6) :
    AtQ u3 M X aM cM u6.heap.size gX c6 (u6.alloc (.cells #[.slice aM M.length cM, .slice (some ⟨gX, 0, none⟩) X.length c6] 30)) :=
  ⟨Box2.new u6 _ _ _ _ rfl, f.size, hg, by have := r.lt; omega, r.fr (Fr.alloc _ _), Fr.trans f (Fr.alloc _ _)⟩
theorem via7 {F P : Nat → Nat → Nat → Nat → World → Prop} {G : Prop} (h1 : (∀ Q E gX c6 u7, F Q E gX c6 u7 → P Q E gX c6 u7) → G) (h2 : ∀ Q E gX c6 u7, F Q E gX c6 u7 → P Q E gX c6 u7) : G := h1 h2

end Go.Proofs.Ytoacgjjpipdkjaa
