/- l20Pln: some machine; the reader has read on; nothing else has turned. -/
import Derived.Test.YtmkinbnopgfljaaDrawWords
import Derived.Test.YtmkinbnopgfljaaRegion4
import Derived.Test.YtmkinbnopgfljaaPh
import Derived.Test.YtmkinbnopgfljaaPl15
namespace Go.Proofs.Ytmkinbnopgfljaa
open Go.RowKit
set_option linter.unusedVariables false
set_option linter.unusedSimpArgs false
theorem Rd.drew {B N b : Nat} {u : World} (h : Rd B N u b) : Rd B N u.drew b := h.row (row := none) ⟨rfl, rfl, rfl, Nat.le_refl _, fun _ _ _ => rfl⟩ nofun
/-- The reader, with so many operations to come. -/
def RdF (B b X : Nat) (f : Nat) (u : World) : Prop := ∃ M, M + 10 * f ≤ X ∧ Rd B M u b
theorem wd_pure {B b X f : Nat} {u : World} (h : RdF B b X (f + 1) u) : RdF B b X f u := by
  obtain ⟨M, hM, r⟩ := h
  exact ⟨M, by omega, r⟩
theorem rdF_start {B b N X f : Nat} {u : World} (h : Rd B N u b) (hX : N + 10 * f ≤ X) : RdF B b X f u.drew := ⟨N, hX, h.drew⟩
/-- A new short row of numbers. -/
def RowP (W n : Nat) (p : Int → Prop) (v : Value) (u : World) : Prop := ∃ g, W ≤ g ∧ g < u.heap.size ∧ v = .slice (some ⟨g, 0, none⟩) n n ∧ ∀ i, i < n → ∃ x : Int, p x ∧ u.cell? ⟨g, i, none⟩ = some (.int .i64 x)
/-- A cell of one. -/
def CelP (W : Nat) (p : Int → Prop) (v : Value) (u : World) : Prop := ∃ g o, W ≤ g ∧ g < u.heap.size ∧ v = .pointer (some ⟨g, o, none⟩) ∧ ∃ x : Int, p x ∧ u.cell? ⟨g, o, none⟩ = some (.int .i64 x)
theorem RowP.but {W n : Nat} {p : Int → Prop} {v : Value} {u u' : World} {L : List Nat} (h : RowP W n p v u) (f : But L u u') (hL : ∀ k, k ∈ L → k < W) : RowP W n p v u' := by
  obtain ⟨g, h1, h2, h3, h4⟩ := h
  exact ⟨g, h1, Nat.lt_of_lt_of_le h2 f.size, h3, fun i hi => by rw [f.cell h2 (fun m => by have := hL g m; omega)]; exact h4 i hi⟩
theorem CelP.but {W : Nat} {p : Int → Prop} {v : Value} {u u' : World} {L : List Nat} (h : CelP W p v u) (f : But L u u') (hL : ∀ k, k ∈ L → k < W) : CelP W p v u' := by
  obtain ⟨g, o, h1, h2, h3, h4⟩ := h
  exact ⟨g, o, h1, Nat.lt_of_lt_of_le h2 f.size, h3, by rw [f.cell h2 (fun m => by have := hL g m; omega)]; exact h4⟩
/-- A machine that is ok, as a value, in new rows. -/
def MV (W : Nat) (v : Value) (u : World) : Prop := ∃ gr gc gm cr cc cm s, OkS s ∧ v = .agg #[.int .i64 s.pc, .slice (some ⟨gr, 0, none⟩) 8 cr, .slice (some ⟨gc, 0, none⟩) 5 cc, .slice (some ⟨gm, 0, none⟩) 256 cm] ∧ Own u gr gc gm s ∧ W ≤ gr ∧ W ≤ gc ∧ W ≤ gm ∧ Ca u gr 8 cr
theorem MV.but {W : Nat} {v : Value} {u u' : World} {L : List Nat} (h : MV W v u) (f : But L u u') (hL : ∀ k, k ∈ L → k < W) : MV W v u' := by
  obtain ⟨gr, gc, gm, cr, cc, cm, s, hk, e, ho, h1, h2, h3, kr⟩ := h
  exact ⟨gr, gc, gm, cr, cc, cm, s, hk, e, ho.but f (fun m => by have := hL _ m; omega) (fun m => by have := hL _ m; omega) (fun m => by have := hL _ m; omega), h1, h2, h3, kr.but f (fun m => by have := hL _ m; omega)⟩
/-- .. and in the box S. -/
def MB (W S : Nat) (u : World) : Prop := ∃ gr gc gm cr cc cm s, OkS s ∧ Box4 u S (.int .i64 s.pc) (.slice (some ⟨gr, 0, none⟩) 8 cr) (.slice (some ⟨gc, 0, none⟩) 5 cc) (.slice (some ⟨gm, 0, none⟩) 256 cm) ∧ Own u gr gc gm s ∧ W ≤ gr ∧ W ≤ gc ∧ W ≤ gm ∧ Ca u gr 8 cr
theorem MB.but {W S : Nat} {u u' : World} {L : List Nat} (h : MB W S u) (f : But L u u') (hL : ∀ k, k ∈ L → k < W) (hS : S ∉ L) : MB W S u' := by
  obtain ⟨gr, gc, gm, cr, cc, cm, s, hk, e, ho, h1, h2, h3, kr⟩ := h
  exact ⟨gr, gc, gm, cr, cc, cm, s, hk, e.but f hS, ho.but f (fun m => by have := hL _ m; omega) (fun m => by have := hL _ m; omega) (fun m => by have := hL _ m; omega), h1, h2, h3, kr.but f (fun m => by have := hL _ m; omega)⟩
/-- Within l20Pln: the machine in the box S, its rows, the reader, the result's box. -/
structure Lp (B : Nat) (w : World) (b N S gr gc gm cr cc cm : Nat) (s : St) (u : World) : Prop where
  rd : Rd B N u b
  grw : w.grownBy u (some b)
  bz : Box4 u w.heap.size (.int .i64 0) (.slice none 0 0) (.slice none 0 0) (.slice none 0 0)
  bs : Box4 u S (.int .i64 s.pc) (.slice (some ⟨gr, 0, none⟩) 8 cr) (.slice (some ⟨gc, 0, none⟩) 5 cc) (.slice (some ⟨gm, 0, none⟩) 256 cm)
  ow : Own u gr gc gm s
  lr : s.R.length = 8
  lc : s.C.length = 5
  lm : s.M.length = 256
  ca : Ca u gr 8 cr
  bw : b < w.heap.size
  zs : w.heap.size < S
  zr : w.heap.size < gr
  zc : w.heap.size < gc
  zm : w.heap.size < gm
  sr : S < gr
  sc : S < gc
  sm : S < gm
theorem grown_but {w u u' : World} {b : Nat} {L : List Nat} (h : w.grownBy u (some b)) (f : But L u u') (hL : ∀ k, k ∈ L → k = b ∨ w.heap.size ≤ k) : w.grownBy u' (some b) :=
  ⟨f.os.trans h.os, f.tape.trans h.tape, f.output.trans h.output, Nat.le_trans h.size f.size, fun k hk hne => by
    rw [f.block k (Nat.lt_of_lt_of_le hk h.size) (fun m => by rcases hL k m with e | e; exact hne (by rw [e]); omega)]; exact h.block k hk hne⟩
theorem Lp.but {B : Nat} {w : World} {b N M S gr gc gm cr cc cm : Nat} {s : St} {u u' : World} {L : List Nat} (h : Lp B w b N S gr gc gm cr cc cm s u) (r : Rd B M u' b) (f : But L u u') (hL : ∀ k, k ∈ L → k = b) : Lp B w b M S gr gc gm cr cc cm s u' := by
  have h0 := h.bw
  have h1 := h.zs
  have h2 := h.zr
  have h3 := h.zc
  have h4 := h.zm
  exact ⟨r, grown_but h.grw f (fun k m => .inl (hL k m)), h.bz.but f (fun m => by have := hL _ m; omega), h.bs.but f (fun m => by have := hL _ m; omega), h.ow.but f (fun m => by have := hL _ m; omega) (fun m => by have := hL _ m; omega) (fun m => by have := hL _ m; omega), h.lr, h.lc, h.lm, h.ca.but f (fun m => by have := hL _ m; omega), h.bw, h.zs, h.zr, h.zc, h.zm, h.sr, h.sc, h.sm⟩
theorem Lp.step {B : Nat} {w : World} {b N M S gr gc gm cr cc cm : Nat} {s : St} {u u' : World} (h : Lp B w b N S gr gc gm cr cc cm s u) (r : Rd B M u' b) (g : u.grownBy u' (some b)) : Lp B w b M S gr gc gm cr cc cm s u' := h.but r (but_row g) (fun k m => by simpa using m)
theorem Lp.setPc {B : Nat} {w : World} {b N S gr gc gm cr cc cm : Nat} {s : St} {u : World} (h : Lp B w b N S gr gc gm cr cc cm s u) (n : Int) : Lp B w b N S gr gc gm cr cc cm { s with pc := n } (u.setCell ⟨S, 0, none⟩ (.int .i64 n)) := by
  have h0 := h.bw
  have h1 := h.zs
  exact ⟨h.rd.setOther _ _ _ (by omega), grown_but h.grw ((But.refl [S] _).set S 0 _ (.inl (by simp))) (fun k m => by have := List.mem_singleton.1 m; omega), h.bz.oth _ _ _ (by omega), h.bs.put0 _, (h.ow.other _ _ _ (Nat.ne_of_lt h.sr) (Nat.ne_of_lt h.sc) (Nat.ne_of_lt h.sm)).pc n, h.lr, h.lc, h.lm, h.ca.set _ _ _, h.bw, h.zs, h.zr, h.zc, h.zm, h.sr, h.sc, h.sm⟩
/-- What a store into the rows leaves. -/
def SetP (gr gc gm cr : Nat) (s : St) (u : World) : Prop := ∃ s2 : St, s2.pc = s.pc ∧ s2.R.length = 8 ∧ s2.C.length = 5 ∧ s2.M.length = 256 ∧ Own u gr gc gm s2 ∧ Ca u gr 8 cr
theorem SetP.but {gr gc gm cr : Nat} {s : St} {u u' : World} {L : List Nat} (h : SetP gr gc gm cr s u) (f : But L u u') (h1 : gr ∉ L) (h2 : gc ∉ L) (h3 : gm ∉ L) : SetP gr gc gm cr s u' := by
  obtain ⟨s2, e, l1, l2, l3, ho, k⟩ := h
  exact ⟨s2, e, l1, l2, l3, ho.but f h1 h2 h3, k.but f h1⟩
theorem Lp.row {B : Nat} {w : World} {b N M S gr gc gm cr cc cm : Nat} {s : St} {u u' : World} {L : List Nat} (h : Lp B w b N S gr gc gm cr cc cm s u) (r : Rd B M u' b) (f : But L u u') (hL : ∀ k, k ∈ L → k = b ∨ k = gr ∨ k = gc ∨ k = gm) (hp : SetP gr gc gm cr s u') : ∃ s2, Lp B w b M S gr gc gm cr cc cm s2 u' := by
  have h0 := h.bw
  have h1 := h.zs
  have h2 := h.zr
  have h3 := h.zc
  have h4 := h.zm
  have h5 := h.sr
  have h6 := h.sc
  have h7 := h.sm
  obtain ⟨s2, e, l1, l2, l3, ho, k⟩ := hp
  have hbs := h.bs.but f (fun m => by have := hL _ m; omega)
  rw [← e] at hbs
  exact ⟨s2, r, grown_but h.grw f (fun k m => by have := hL k m; omega), h.bz.but f (fun m => by have := hL _ m; omega), hbs, ho, l1, l2, l3, k, h.bw, h.zs, h.zr, h.zc, h.zm, h.sr, h.sc, h.sm⟩
theorem Src.but {u u' : World} {n : Nat} {c : Nat → Value} {ao : Option Addr} {L : List Nat} (h : Src u n c ao) (f : But L u u') (hn : ∀ b, ao = some b → b.block ∉ L) : Src u' n c ao := fun h0 => by
  obtain ⟨g, o, e, l, hc⟩ := h h0
  have hg := hn _ e
  exact ⟨g, o, e, Nat.lt_of_lt_of_le l f.size, fun i hi => by rw [f.cell l hg]; exact hc i hi⟩
/-- At the end of l20Pln: a machine whose rows can be read. -/
structure Lq (B : Nat) (w : World) (b N S : Nat) (s : St) (aR aC aM : Option Addr) (cR cC cM : Nat) (u : World) : Prop where
  rd : Rd B N u b
  grw : w.grownBy u (some b)
  bz : Box4 u w.heap.size (.int .i64 0) (.slice none 0 0) (.slice none 0 0) (.slice none 0 0)
  bs : Box4 u S (.int .i64 s.pc) (.slice aR s.R.length cR) (.slice aC s.C.length cC) (.slice aM s.M.length cM)
  src : ∀ L u', But L u u' → (∀ k, k ∈ L → k ≤ w.heap.size ∨ k = S) → SrcS u' s aR aC aM
  few : Few20 s
  bw : b < w.heap.size
  zs : w.heap.size < S
theorem Lp.lq {B : Nat} {w : World} {b N S gr gc gm cr cc cm : Nat} {s : St} {u : World} (h : Lp B w b N S gr gc gm cr cc cm s u) : Lq B w b N S s (some ⟨gr, 0, none⟩) (some ⟨gc, 0, none⟩) (some ⟨gm, 0, none⟩) cr cc cm u := by
  have h1 := h.zs
  have h2 := h.zr
  have h3 := h.zc
  have h4 := h.zm
  have h5 := h.sr
  have h6 := h.sc
  have h7 := h.sm
  exact ⟨h.rd, h.grw, h.bz, by rw [h.lr, h.lc, h.lm]; exact h.bs, fun L u' f hL => (h.ow.but f (fun m => by have := hL _ m; omega) (fun m => by have := hL _ m; omega) (fun m => by have := hL _ m; omega)).src, ⟨by rw [h.lr]; decide, by rw [h.lc]; decide, by rw [h.lm]; decide⟩, h.bw, h.zs⟩
theorem src_take {u : World} {g : Nat} {xs : List Int} (h : Ro u g xs) (hl : xs.length = 256) : Src u 255 (ivl (xs.take 255)) (some ⟨g, 0, none⟩) := fun _ => ⟨g, 0, rfl, h.lt, fun i hi => by
  rw [Nat.zero_add, h.cel i (by omega)]
  simp only [ivl, List.getD_eq_getElem?_getD, List.getElem?_take_of_lt hi]⟩
theorem src_drop {u : World} {g : Nat} {xs : List Int} (h : Ro u g xs) (hl : xs.length = 256) : Src u 255 (ivl (xs.drop 1)) (some ⟨g, 1, none⟩) := fun _ => ⟨g, 1, rfl, h.lt, fun i hi => by
  rw [h.cel (1 + i) (by omega)]
  simp only [ivl, List.getD_eq_getElem?_getD, List.getElem?_drop]⟩
/-- The memory cut by a word. -/
theorem Lp.cut {B : Nat} {w : World} {b N S gr gc gm cr cc cm : Nat} {s : St} {u : World} (h : Lp B w b N S gr gc gm cr cc cm s u) (aM : Option Addr) (cM : Nat) (M' : List Int) (hl : M'.length = 255) (hsrc : ∀ L u', But L u u' → gm ∉ L → Src u' 255 (ivl M') aM) :
    Lq B w b N S ⟨s.pc, s.R, s.C, M'⟩ (some ⟨gr, 0, none⟩) (some ⟨gc, 0, none⟩) aM cr cc cM (u.setCell ⟨S, 3, none⟩ (.slice aM 255 cM)) := by
  have h0 := h.bw
  have h1 := h.zs
  have h2 := h.zr
  have h3 := h.zc
  have h4 := h.zm
  have h5 := h.sr
  have h6 := h.sc
  have h7 := h.sm
  have fS : But [S] u (u.setCell ⟨S, 3, none⟩ (.slice aM 255 cM)) := (But.refl [S] _).set S 3 _ (.inl (by simp))
  refine ⟨h.rd.setOther _ _ _ (by omega), grown_but h.grw fS (fun k m => by have := List.mem_singleton.1 m; omega), h.bz.oth _ _ _ (by omega), ?_, fun L u' f hL => ?_, ⟨by show s.R.length ≤ _; rw [h.lr]; decide, by show s.C.length ≤ _; rw [h.lc]; decide, by show M'.length ≤ _; rw [hl]; decide⟩, h.bw, h.zs⟩
  · show Box4 _ S (.int .i64 s.pc) (.slice _ s.R.length cr) (.slice _ s.C.length cc) (.slice aM M'.length cM)
    rw [h.lr, h.lc, hl]
    exact h.bs.set3 _
  · have f2 : But (S :: L) u u' := (fS.mono (fun k m _ => by have := List.mem_singleton.1 m; subst this; exact List.mem_cons_self)).trans (f.mono (fun k m _ => List.mem_cons_of_mem _ m))
    have nL : ∀ g, w.heap.size < g → g ≠ S → g ∉ S :: L := fun g hg hne m => by
      rcases List.mem_cons.1 m with e | e
      · exact hne e
      · have := hL g e; omega
    have hS := hsrc _ _ f2 (nL _ h4 (by omega))
    refine ⟨(h.ow.R.but f2 (nL _ h2 (by omega))).src, (h.ow.C.but f2 (nL _ h3 (by omega))).src, ?_⟩
    show Src u' M'.length (ivl M') aM
    rw [hl]
    exact hS
/-- A register more. -/
theorem Lp.app {B : Nat} {w : World} {b N S gr gc gm cr cc cm : Nat} {s : St} {u w7 : World} {o : Obj} {v1 : Value} (h : Lp B w b N S gr gc gm cr cc cm s u) (hown : w7.ownsRow (S + 1) 3 1 v1 (8 + 1) (s.R.map (Value.int .i64) ++ [.int .i64 0])) (hg : (u.alloc o).grownBy w7 (some gr)) :
    ∃ ao cap, v1 = .slice ao 9 cap ∧ Lq B w b N S ⟨s.pc, s.R ++ [0], s.C, s.M⟩ ao (some ⟨gc, 0, none⟩) (some ⟨gm, 0, none⟩) cap cc cm (w7.setCell ⟨S, 1, none⟩ (.slice ao 9 cap)) ∧ Box4 w7 S (.int .i64 s.pc) (.slice (some ⟨gr, 0, none⟩) 8 cr) (.slice (some ⟨gc, 0, none⟩) 5 cc) (.slice (some ⟨gm, 0, none⟩) 256 cm) := by
  have h0 := h.bw
  have h1 := h.zs
  have h2 := h.zr
  have h3 := h.zc
  have h4 := h.zm
  have h5 := h.sr
  have h6 := h.sc
  have h7 := h.sm
  have hl : (s.R ++ [(0 : Int)]).length = 9 := by simp [h.lr]
  obtain ⟨ao, cap, hv, hV⟩ := ownsI_vc (B := S + 1) (u := w7) (v := v1) (L := s.R ++ [0]) (by unfold OwnsI; rw [hl]; simpa using hown)
  rw [hl] at hv hV
  have f7 : But [gr] u w7 := (But.of (Fr.alloc u o)).trans (But.mono (but_row hg) (fun k m _ => by simpa using m))
  have bx := h.bs.but f7 (by simp; omega)
  refine ⟨ao, cap, hv, ?_, bx⟩
  have fS : But [S] w7 (w7.setCell ⟨S, 1, none⟩ (.slice ao 9 cap)) := (But.refl [S] _).set S 1 _ (.inl (by simp))
  have rd7 : Rd B N w7 b := (h.rd.alloc o).row hg (fun q hq => by cases hq; omega)
  refine ⟨rd7.setOther _ _ _ (by omega), grown_but (grown_but h.grw f7 (fun k m => by have := List.mem_singleton.1 m; omega)) fS (fun k m => by have := List.mem_singleton.1 m; omega), (h.bz.but f7 (by simp; omega)).oth _ _ _ (by omega), ?_, fun L u' f hL => ?_, ⟨by show (s.R ++ [(0 : Int)]).length ≤ _; rw [hl]; decide, by show s.C.length ≤ _; rw [h.lc]; decide, by show s.M.length ≤ _; rw [h.lm]; decide⟩, h.bw, h.zs⟩
  · show Box4 _ S (.int .i64 s.pc) (.slice ao (s.R ++ [(0 : Int)]).length cap) (.slice _ s.C.length cc) (.slice _ s.M.length cm)
    rw [h.lc, h.lm, hl]
    exact bx.set1 _
  · have f2 : But (S :: L) w7 u' := (fS.mono (fun k m _ => by have := List.mem_singleton.1 m; subst this; exact List.mem_cons_self)).trans (f.mono (fun k m _ => List.mem_cons_of_mem _ m))
    have nL : ∀ g, w.heap.size < g → g ≠ S → g ∉ S :: L := fun g hg hne m => by
      rcases List.mem_cons.1 m with e | e
      · exact hne e
      · have := hL g e; omega
    have c7 := (h.ow.C.but f7 (by simp; exact h.ow.rc.symm)).but f2 (nL _ h3 (by omega))
    have m7 := (h.ow.M.but f7 (by simp; exact h.ow.rm.symm)).but f2 (nL _ h4 (by omega))
    refine ⟨?_, c7.src, m7.src⟩
    show Src u' (s.R ++ [(0 : Int)]).length (ivl (s.R ++ [0])) ao
    rw [hl]
    refine (hV.but f2 (fun b hb m => ?_)).src
    obtain ⟨g, e, hB, _⟩ := hV.at0 (by decide)
    rw [e] at hb
    cases hb
    exact nL g (by omega) (by omega) m
/-- A machine that was drawn. -/
def DrewS (B N b : Nat) (w : World) (e : Ending) (w' : World) : Prop := ∃ s aR aC aM cR cC cM, Few20 s ∧ e = .returned (.agg #[.int .i64 (s).pc, .slice aR (s).R.length cR, .slice aC (s).C.length cC, .slice aM (s).M.length cM]) ∧ Rd B N w' b ∧ w.grownBy w' (some b) ∧ ∀ L u', But L w' u' → (∀ k, k ∈ L → k < w.heap.size) → SrcS u' s aR aC aM
theorem Lq.done {B : Nat} {w : World} {b N M S : Nat} {s : St} {aR aC aM : Option Addr} {cR cC cM : Nat} {u : World} (h : Lq B w b N S s aR aC aM cR cC cM u) (hM : N ≤ M) (v0 v1 v2 v3 : Value) : DrewS B M b w (.returned (.agg #[.int .i64 (s).pc, .slice aR (s).R.length cR, .slice aC (s).C.length cC, .slice aM (s).M.length cM])) ((((u.setCell ⟨w.heap.size, 0, none⟩ v0).setCell ⟨w.heap.size, 1, none⟩ v1).setCell ⟨w.heap.size, 2, none⟩ v2).setCell ⟨w.heap.size, 3, none⟩ v3) := by
  have h0 := h.bw
  have f := (But.refl [w.heap.size] u).set4 w.heap.size v0 v1 v2 v3 (.inl (by simp))
  refine ⟨s, aR, aC, aM, cR, cC, cM, h.few, rfl, ((((h.rd.mono hM).setOther _ _ _ h0).setOther _ _ _ h0).setOther _ _ _ h0).setOther _ _ _ h0, grown_but h.grw f (fun k m => by have := List.mem_singleton.1 m; omega), fun L u' f' hL => ?_⟩
  refine h.src (w.heap.size :: L) u' ((f.mono (fun k m _ => by have := List.mem_singleton.1 m; subst this; exact List.mem_cons_self)).trans (f'.mono (fun k m _ => List.mem_cons_of_mem _ m))) (fun k m => ?_)
  rcases List.mem_cons.1 m with e | e
  · omega
  · have := hL k e; omega
structure Lq0 (B : Nat) (w : World) (b N S gr gc gm cr cc cm : Nat) (s : St) (u : World) : Prop where
  rd : Rd B N u b
  grw : w.grownBy u (some b)
  bz : Box4 u w.heap.size (.int .i64 0) (.slice none 0 0) (.slice none 0 0) (.slice none 0 0)
  bs : Box4 u S (.int .i64 s.pc) (.slice (some ⟨gr, 0, none⟩) 8 cr) (.slice (some ⟨gc, 0, none⟩) 5 cc) (.slice (some ⟨gm, 0, none⟩) 256 cm)
  ow : Own u gr gc gm s
theorem new_okS {ws : List Int} (hl : ws.length ≤ 256) (h : ws.all okB = true) : OkS (newS ws) :=
  ⟨rfl, by show (zeros 8).all okB = true; decide, rfl, by show (zeros 5).all okB = true; decide, rfl, by
    simp only [newS, newM, List.all_append, h, Bool.true_and]
    rw [List.all_eq_true]
    intro x hx
    rw [zeros, List.mem_replicate] at hx
    rw [hx.2]; rfl, newM_len hl, rfl, by show (zeros 5).getD 3 0 < 4; decide⟩
def plSF (W b S : Nat) (v0 : Value) : Nat → Value → World → Prop
  | 0, v, _ => v = v0
  | 1, v, _ => v = .pointer (some ⟨b, 0, none⟩)
  | 2, v, _ => ∃ x : Int, 0 ≤ x ∧ x < 24 ∧ v = .int .i64 x
  | 3, v, u => ∃ a ev, v = .tuple #[a, ev] ∧ MV W a u
  | 4, v, u => ∃ a ev, v = .tuple #[a, ev] ∧ MV W a u
  | 5, v, u => MV W v u
  | 7, _, u => MB W S u
  | _, _, _ => True
def rgSF (W b S fj gx : Nat) (vs : Value) (k : Int) (SP : World → Prop) : Nat → Value → World → Prop
  | 0, v, _ => v = .pointer (some ⟨S, fj, none⟩)
  | 1, v, _ => v = vs
  | 2, v, _ => v = .int .i64 k
  | 3, v, _ => v = .pointer (some ⟨b, 0, none⟩)
  | 4, v, _ => ∃ x : Int, v = .int .i64 x
  | 5, v, _ => v = .pointer (some ⟨b, 0, none⟩)
  | 6, v, _ => ∃ x : Int, v = .int .i64 x
  | 7, v, u => RowP W 2 (fun _ => True) v u
  | 8, v, _ => v = .pointer (some ⟨b, 0, none⟩)
  | 9, v, _ => ∃ x : Int, 0 ≤ x ∧ x < 2 ∧ v = .int .i64 x
  | 10, v, u => CelP W (fun _ => True) v u
  | 11, v, _ => ∃ x : Int, v = .int .i64 x
  | 12, v, _ => v = .pointer (some ⟨gx, k.toNat, none⟩)
  | 13, _, u => SP u
  | _, _, _ => True
def swSF (W b S fj gx : Nat) (vs : Value) (n : Int) (SP : World → Prop) : Nat → Value → World → Prop
  | 0, v, _ => v = .pointer (some ⟨S, fj, none⟩)
  | 1, v, _ => v = vs
  | 2, v, _ => v = .pointer (some ⟨b, 0, none⟩)
  | 3, v, _ => ∃ x : Int, 0 ≤ x ∧ x < n ∧ v = .int .i64 x
  | 4, v, u => RowP W 2 (fun _ => True) v u
  | 5, v, _ => v = .pointer (some ⟨b, 0, none⟩)
  | 6, v, _ => ∃ x : Int, 0 ≤ x ∧ x < 2 ∧ v = .int .i64 x
  | 7, v, u => CelP W (fun _ => True) v u
  | 8, v, _ => ∃ x : Int, v = .int .i64 x
  | 9, v, _ => ∃ x : Int, 0 ≤ x ∧ x < n ∧ v = .pointer (some ⟨gx, x.toNat, none⟩)
  | 10, _, u => SP u
  | _, _, _ => True
def smSF (b S gx : Nat) (vs : Value) (SP : World → Prop) : Nat → Value → World → Prop
  | 0, v, _ => v = .pointer (some ⟨S, 3, none⟩)
  | 1, v, _ => v = vs
  | 2, v, _ => v = .pointer (some ⟨b, 0, none⟩)
  | 3, v, _ => ∃ x : Int, 0 ≤ x ∧ x < 256 ∧ v = .int .i64 x
  | 4, v, _ => ∃ x : Int, 0 ≤ x ∧ x < 256 ∧ v = .pointer (some ⟨gx, x.toNat, none⟩)
  | 5, _, u => SP u
  | _, _, _ => True
set_option maxRecDepth 8000 in
set_option maxHeartbeats 8000000 in
theorem l20Pln (B N b : Nat) (n : Int) (w : World) (h : Rd B N w b) (hN7 : N ≤ 700000000) (n0 : 0 ≤ n) (n1 : n ≤ 1000) :
    Calls Try.prog 35 #[.pointer (some ⟨b, 0, none⟩), .int .i64 n] w (DrewS B (N + 50000) b w) := by
  obtain ⟨i0, hi, hz0, hz1, hz2⟩ := info_parts info_intV
  have hmx : maxLen = 9223372036854775807 := rfl
  have hb := h.lt
  have HZ := Lib.hid (Box4.new w (.int .i64 0) (.slice none 0 0) (.slice none 0 0) (.slice none 0 0) 26 _ rfl)
  have HR := Lib.hid (h.alloc (.cells #[.int .i64 0, .slice none 0 0, .slice none 0 0, .slice none 0 0] 26))
  have HG := Lib.hid (World.grownBy_alloc w (.cells #[.int .i64 0, .slice none 0 0, .slice none 0 0, .slice none 0 0] 26) (some b))
  have hs0 : (w.alloc (.cells #[.int .i64 0, .slice none 0 0, .slice none 0 0, .slice none 0 0] 26)).heap.size = w.heap.size + 1 := by simp
  clear h
  go_enter Try.func35, Try.ntmps35
  go_wp2_with fail
  generalize (w.alloc (.cells #[.int .i64 0, .slice none 0 0, .slice none 0 0, .slice none 0 0] 26)) = w0 at *
  refine (l20Words B N b w0 HR.out (by omega)).mono ?_
  rintro e w1 ⟨xs, ao, cap, hxl, hxo, rfl, how, r1, g1⟩
  have hV : Src w1 xs.length (ivl xs) ao := by
    obtain ⟨ao', cap', hv, hV⟩ := ownsI_vc (B := w0.heap.size) how
    cases hv
    exact hV.src
  have hs1 := g1.size
  have HZ1 := Lib.hid (HZ.out.but (but_row g1) (by simp; omega))
  have HK := Lib.hid (new_okS (ws := xs) (by omega) hxo)
  have HG1 := Lib.hid (grown_trans HG.out g1)
  have HR1 := Lib.hid r1
  have HGW := Lib.hid (show goodW xs = true by simp [goodW, hxo]; omega)
  have HV := Lib.hid hV
  clear HZ HR HG how g1 r1 hxo hV
  go_wp2_with fail
  refine (spec_PlnNew xs ao cap w1 HV.out (by omega)).mono ?_
  rintro e w2 hbeg
  have hcp := hbeg.resolve_right (fun hx => by rw [HGW.out] at hx; cases hx.1)
  obtain ⟨_, gr, gc, gm, cr, cc, cm, rfl, ho, k1, k2, k3, f2⟩ := hcp
  have hs2 := f2.size
  have lgr := ho.R.lt
  have lgc := ho.C.lt
  have lgm := ho.M.lt
  generalize newS xs = s at *
  have HO := Lib.hid ho
  have HF2 := Lib.hid f2
  clear hbeg ho f2 HGW HV hxl
  go_wp2_with fail
  have HL := Lib.hid (show Lq0 B w b (N + 20000) w2.heap.size gr gc gm cr cc cm s (w2.alloc (.cells #[.int .i64 s.pc, .slice (some ⟨gr, 0, none⟩) 8 cr, .slice (some ⟨gc, 0, none⟩) 5 cc, .slice (some ⟨gm, 0, none⟩) 256 cm] 26)) from ⟨(HR1.out.row (fr_row HF2.out none) nofun).alloc _, grown_trans (grown_trans HG1.out (fr_row HF2.out _)) (World.grownBy_alloc _ _ _), (HZ1.out.fr HF2.out).fr (Fr.alloc _ _), Box4.new _ _ _ _ _ _ _ rfl, HO.out.alloc _⟩)
  have hsz3 : ((w2.alloc (.cells #[.int .i64 s.pc, .slice (some ⟨gr, 0, none⟩) 8 cr, .slice (some ⟨gc, 0, none⟩) 5 cc, .slice (some ⟨gm, 0, none⟩) 256 cm] 26))).heap.size = w2.heap.size + 1 := by simp
  generalize (w2.alloc (.cells #[.int .i64 s.pc, .slice (some ⟨gr, 0, none⟩) 8 cr, .slice (some ⟨gc, 0, none⟩) 5 cc, .slice (some ⟨gm, 0, none⟩) 256 cm] 26)) = w3 at *
  generalize w2.heap.size = S at *
  clear HO HF2 HZ1 HG1 HR1
  refine wp_region_lots 93 (fun i => if i = 2 then [b] else if i = 7 then [S] else []) (RdF B b (N + 20100)) (plSF w3.heap.size b S (.agg #[.int .i64 s.pc, .slice (some ⟨gr, 0, none⟩) 8 cr, .slice (some ⟨gc, 0, none⟩) 5 cc, .slice (some ⟨gm, 0, none⟩) 256 cm])) ?mono (by kernel_rfl) (by kernel_rfl) rfl (by kernel_rfl) (rdF_start (f := 8) HL.out.rd (by omega)) ?step ?fin
  case mono =>
    intro i j v u u' hij hsz h hB
    have hB2 : But (if i = 2 then [b] else if i = 7 then [S] else []) u u' := hB
    have hLk : ∀ k, k ∈ (if i = 2 then [b] else if i = 7 then [S] else []) → k < w3.heap.size := by
      intro k hk
      by_cases y2 : i = 2
      · rw [if_pos y2] at hk; simp at hk; omega
      rw [if_neg y2] at hk
      by_cases y7 : i = 7
      · rw [if_pos y7] at hk; simp at hk; omega
      rw [if_neg y7] at hk
      cases hk
    rcases j with _ | _ | _ | _ | _ | _ | _ | _ | j
    · exact h
    · exact h
    · exact h
    · obtain ⟨a, ev, e, m⟩ := h
      exact ⟨a, ev, e, m.but hB2 hLk⟩
    · obtain ⟨a, ev, e, m⟩ := h
      exact ⟨a, ev, e, m.but hB2 hLk⟩
    · exact MV.but h hB2 hLk
    · trivial
    · refine MB.but h hB2 hLk ?_
      rw [if_neg hij]
      split
      · simp; omega
      · simp
    · trivial
  case step =>
    intro i o ho
    rcases i with _ | _ | _ | _ | _ | _ | _ | _ | i
    · cases ho
      intro fu act u hW hB hsz hL hdep
      replace hB := hB [b] (fun j hj hd k hk => by
        by_cases x7 : j = 7
        · subst x7; exact (dep_no hd (by kernel_rfl)).elim
        by_cases y2 : j = 2
        · rw [if_pos y2] at hk; simp at hk; simp [hk]
        rw [if_neg y2] at hk
        rw [if_neg x7] at hk
        cases hk)
      obtain ⟨ysl, ha, hy⟩ := hL.puts [11, 12, 13, 14, 10, 15, 16] (by kernel_rfl)
      clear hdep hL hy
      simp only [List.foldl, List.setIfInBounds_toArray, List.set_cons_succ, List.set_cons_zero] at ha
      subst ha
      have Bx := HL.out.bs.but hB (by simp; omega)
      obtain ⟨_, c0, c1, c2, c3, _, _, _, _⟩ := Bx
      refine wpOp_step rfl (fun K hK => ?_)
      go_simp
      exact hK _ _ ⟨_, rfl, (fun h => by cases h), rfl, But.refl _ _, wd_pure hW⟩
    · cases ho
      intro fu act u hW hB hsz hL hdep
      replace hB := hB [b, S] (fun j hj hd k hk => by
        by_cases y2 : j = 2
        · rw [if_pos y2] at hk; simp at hk; simp [hk]
        rw [if_neg y2] at hk
        by_cases y7 : j = 7
        · rw [if_pos y7] at hk; simp at hk; simp [hk]
        rw [if_neg y7] at hk
        cases hk)
      obtain ⟨ysl, ha, hy⟩ := hL.puts [11, 12, 13, 14, 10, 15, 16] (by kernel_rfl)
      clear hdep hL hy
      simp only [List.foldl, List.setIfInBounds_toArray, List.set_cons_succ, List.set_cons_zero] at ha
      subst ha
      refine wpOp_step rfl (fun K hK => ?_)
      go_simp
      exact hK _ _ ⟨_, rfl, (fun h => by cases h), rfl, But.refl _ _, wd_pure hW⟩
    · cases ho
      intro fu act u hW hB hsz hL hdep
      replace hB := hB [b, S] (fun j hj hd k hk => by
        by_cases y2 : j = 2
        · rw [if_pos y2] at hk; simp at hk; simp [hk]
        rw [if_neg y2] at hk
        by_cases y7 : j = 7
        · rw [if_pos y7] at hk; simp at hk; simp [hk]
        rw [if_neg y7] at hk
        cases hk)
      have d1 := hdep { on := 1, ground := .data } (by simp) rfl _ rfl
      obtain ⟨ysl, ha, hy⟩ := hL.puts [11, 12, 13, 14, 10, 15, 16] (by kernel_rfl)
      have e1 : ysl 12 = _ := (hy 12).symm.trans d1
      clear hdep hL hy d1
      simp only [List.foldl, List.setIfInBounds_toArray, List.set_cons_succ, List.set_cons_zero, e1] at ha
      subst ha
      clear e1
      obtain ⟨M, hM, hR⟩ := hW
      refine wpOp_step rfl (fun K hK => ?_)
      go_simp
      refine (pick B M b _ u hR (by omega)).mono ?_
      rintro e u' ⟨x, x0, x1, rfl, r, g⟩
      go_simp
      exact hK _ _ ⟨_, rfl, (fun h => by cases h), ⟨x, x0, x1 (by omega), rfl⟩, but_row g, ⟨M + 1, by omega, r⟩⟩
    · cases ho
      intro fu act u hW hB hsz hL hdep
      replace hB := hB [b, S] (fun j hj hd k hk => by
        by_cases y2 : j = 2
        · rw [if_pos y2] at hk; simp at hk; simp [hk]
        rw [if_neg y2] at hk
        by_cases y7 : j = 7
        · rw [if_pos y7] at hk; simp at hk; simp [hk]
        rw [if_neg y7] at hk
        cases hk)
      have d0 := hdep { on := 0, ground := .data } (by simp) rfl _ rfl
      have d2 := hdep { on := 2, ground := .data } (by simp) rfl _ rfl
      obtain ⟨ysl, ha, hy⟩ := hL.puts [11, 12, 13, 14, 10, 15, 16] (by kernel_rfl)
      have e0 : ysl 11 = _ := (hy 11).symm.trans d0
      obtain ⟨x2, x20, x21, h2⟩ := d2
      have e2 : ysl 13 = .int .i64 x2 := (hy 13).symm.trans h2
      clear hdep hL hy d0 h2
      simp only [List.foldl, List.setIfInBounds_toArray, List.set_cons_succ, List.set_cons_zero, e0, e2] at ha
      subst ha
      clear e0 e2
      obtain ⟨M, hM, hR⟩ := hW
      have C := spec_PlnRun s (some ⟨gr, 0, none⟩) (some ⟨gc, 0, none⟩) (some ⟨gm, 0, none⟩) cr cc cm x2 u (HL.out.ow.but hB (by simp; omega) (by simp; omega) (by simp; omega)).src HK.out (by omega)
      rw [HK.out.Rl, HK.out.Cl, HK.out.Ml] at C
      refine wpOp_step rfl (fun K hK => ?_)
      go_simp
      refine C.mono ?_
      rintro e u' ⟨hr, hc, hm, c1, c2, c3, ev, rfl, ho', k1, k2, k3, _, _, f', kr⟩
      go_simp
      exact hK _ _ ⟨_, rfl, (fun h => by cases h), ⟨_, ev, rfl, hr, hc, hm, c1, c2, c3, _, run_ok HK.out _, rfl, ho', by omega, by omega, by omega, kr⟩, But.of f', ⟨M, by omega, hR.row (fr_row f' none) nofun⟩⟩
    · cases ho
      intro fu act u hW hB hsz hL hdep
      replace hB := hB [b, S] (fun j hj hd k hk => by
        by_cases y2 : j = 2
        · rw [if_pos y2] at hk; simp at hk; simp [hk]
        rw [if_neg y2] at hk
        by_cases y7 : j = 7
        · rw [if_pos y7] at hk; simp at hk; simp [hk]
        rw [if_neg y7] at hk
        cases hk)
      have d3 := hdep { on := 3, ground := .data } (by simp) rfl _ rfl
      obtain ⟨ysl, ha, hy⟩ := hL.puts [11, 12, 13, 14, 10, 15, 16] (by kernel_rfl)
      obtain ⟨a3, ev3, h3, m3⟩ := d3
      have e3 : ysl 14 = .tuple #[a3, ev3] := (hy 14).symm.trans h3
      clear hdep hL hy h3
      simp only [List.foldl, List.setIfInBounds_toArray, List.set_cons_succ, List.set_cons_zero, e3] at ha
      subst ha
      clear e3
      refine wpOp_step rfl (fun K hK => ?_)
      go_simp
      exact hK _ _ ⟨_, rfl, (fun h => by cases h), ⟨a3, ev3, rfl, m3⟩, But.refl _ _, wd_pure hW⟩
    · cases ho
      intro fu act u hW hB hsz hL hdep
      replace hB := hB [b, S] (fun j hj hd k hk => by
        by_cases y2 : j = 2
        · rw [if_pos y2] at hk; simp at hk; simp [hk]
        rw [if_neg y2] at hk
        by_cases y7 : j = 7
        · rw [if_pos y7] at hk; simp at hk; simp [hk]
        rw [if_neg y7] at hk
        cases hk)
      have d4 := hdep { on := 4, ground := .data } (by simp) rfl _ rfl
      obtain ⟨ysl, ha, hy⟩ := hL.puts [11, 12, 13, 14, 10, 15, 16] (by kernel_rfl)
      obtain ⟨a4, ev4, h4, m4⟩ := d4
      have e4 : ysl 10 = .tuple #[a4, ev4] := (hy 10).symm.trans h4
      clear hdep hL hy h4
      simp only [List.foldl, List.setIfInBounds_toArray, List.set_cons_succ, List.set_cons_zero, e4] at ha
      subst ha
      clear e4
      refine wpOp_step rfl (fun K hK => ?_)
      go_simp
      exact hK _ _ ⟨_, rfl, (fun h => by cases h), m4, But.refl _ _, wd_pure hW⟩
    · cases ho
      intro fu act u hW hB hsz hL hdep
      replace hB := hB [b, S] (fun j hj hd k hk => by
        by_cases y2 : j = 2
        · rw [if_pos y2] at hk; simp at hk; simp [hk]
        rw [if_neg y2] at hk
        by_cases y7 : j = 7
        · rw [if_pos y7] at hk; simp at hk; simp [hk]
        rw [if_neg y7] at hk
        cases hk)
      have d4 := hdep { on := 4, ground := .data } (by simp) rfl _ rfl
      obtain ⟨ysl, ha, hy⟩ := hL.puts [11, 12, 13, 14, 10, 15, 16] (by kernel_rfl)
      obtain ⟨a4, ev4, h4, m4⟩ := d4
      have e4 : ysl 10 = .tuple #[a4, ev4] := (hy 10).symm.trans h4
      clear hdep hL hy h4
      simp only [List.foldl, List.setIfInBounds_toArray, List.set_cons_succ, List.set_cons_zero, e4] at ha
      subst ha
      clear e4
      refine wpOp_step rfl (fun K hK => ?_)
      go_simp
      exact hK _ _ ⟨_, rfl, (fun h => by cases h), trivial, But.refl _ _, wd_pure hW⟩
    · cases ho
      intro fu act u hW hB hsz hL hdep
      replace hB := hB [b] (fun j hj hd k hk => by
        by_cases x7 : j = 7
        · exact absurd x7 hj
        by_cases y2 : j = 2
        · rw [if_pos y2] at hk; simp at hk; simp [hk]
        rw [if_neg y2] at hk
        rw [if_neg x7] at hk
        cases hk)
      have d5 := hdep { on := 5, ground := .data } (by simp) rfl _ rfl
      obtain ⟨ysl, ha, hy⟩ := hL.puts [11, 12, 13, 14, 10, 15, 16] (by kernel_rfl)
      obtain ⟨hr, hc, hm, c1, c2, c3, s1, hk5, h5, ho5, b1, b2, b3, kr5⟩ := d5
      have e5 : ysl 15 = .agg #[.int .i64 s1.pc, .slice (some ⟨hr, 0, none⟩) 8 c1, .slice (some ⟨hc, 0, none⟩) 5 c2, .slice (some ⟨hm, 0, none⟩) 256 c3] := (hy 15).symm.trans h5
      clear hdep hL hy h5
      simp only [List.foldl, List.setIfInBounds_toArray, List.set_cons_succ, List.set_cons_zero, e5] at ha
      subst ha
      clear e5
      obtain ⟨M, hM, hR⟩ := hW
      have Bx0 := HL.out.bs.but hB (by simp; omega)
      have Bx1 := Bx0
      obtain ⟨_, y0, y1, y2, y3, z0, z1, z2, z3⟩ := Bx1
      refine wpOp_step rfl (fun K hK => ?_)
      go_simp
      have bS : b < S := by omega
      exact hK _ _ ⟨undef, rfl, (fun _ => rfl), ⟨hr, hc, hm, c1, c2, c3, s1, hk5, Bx0.set (.int .i64 s1.pc) (.slice (some ⟨hr, 0, none⟩) 8 c1) (.slice (some ⟨hc, 0, none⟩) 5 c2) (.slice (some ⟨hm, 0, none⟩) 256 c3), ho5.but ((But.refl [S] u).set4 S (.int .i64 s1.pc) (.slice (some ⟨hr, 0, none⟩) 8 c1) (.slice (some ⟨hc, 0, none⟩) 5 c2) (.slice (some ⟨hm, 0, none⟩) 256 c3) (.inl (by simp))) (by simp; omega) (by simp; omega) (by simp; omega), b1, b2, b3, kr5.but ((But.refl [S] u).set4 S (.int .i64 s1.pc) (.slice (some ⟨hr, 0, none⟩) 8 c1) (.slice (some ⟨hc, 0, none⟩) 5 c2) (.slice (some ⟨hm, 0, none⟩) 256 c3) (.inl (by simp))) (by simp; omega)⟩, ((But.refl [S] u).set4 S (.int .i64 s1.pc) (.slice (some ⟨hr, 0, none⟩) 8 c1) (.slice (some ⟨hc, 0, none⟩) 5 c2) (.slice (some ⟨hm, 0, none⟩) 256 c3) (.inl (by simp))), ⟨M, by omega, (((hR.setOther _ _ _ bS).setOther _ _ _ bS).setOther _ _ _ bS).setOther _ _ _ bS⟩⟩
    · exact absurd ho (by simp)
  case fin =>
    intro act u hW hsz hB hL hsf
    replace hB := hB [b, S] (fun j k hk => by
      by_cases y2 : j = 2
      · rw [if_pos y2] at hk; simp at hk; simp [hk]
      rw [if_neg y2] at hk
      by_cases y7 : j = 7
      · rw [if_pos y7] at hk; simp at hk; simp [hk]
      rw [if_neg y7] at hk
      cases hk)
    have d7 := hsf 7 _ rfl
    obtain ⟨ysl, ha, hy⟩ := hL.puts [11, 12, 13, 14, 10, 15, 16] (by kernel_rfl)
    obtain ⟨hr, hc, hm, c1, c2, c3, s1, hk7, bx7, ho7, b1, b2, b3, kr7⟩ := d7
    clear hL hsf hy
    simp only [List.foldl, List.setIfInBounds_toArray, List.set_cons_succ, List.set_cons_zero] at ha
    subst ha
    obtain ⟨M, hM, hR⟩ := hW
    have HP := Lib.hid (show Lp B w b M S hr hc hm c1 c2 c3 s1 u from ⟨hR, grown_but HL.out.grw hB (fun k m => by simp at m; omega), HL.out.bz.but hB (by simp; omega), bx7, ho7, hk7.Rl, hk7.Cl, hk7.Ml, kr7, by omega, by omega, by omega, by omega, by omega, by omega, by omega, by omega⟩)
    clear hB hR hk7 bx7 ho7 kr7 HL HK
    clear k1 k2 k3 hs2 hs1 hs0
    clear lgr lgc lgm
    go_wp2_with fail
    refine (pick B M b _ u HP.out.rd (by omega)).mono ?_
    rintro e u1 ⟨x3, x30, x31, rfl, r3, g3⟩
    have HP1 := Lib.hid (HP.out.step r3 g3)
    clear HP r3 g3 x30 x31
    go_upto_if 19 with fail
    go_cut [19] (fun _ wx => ∃ s M, M ≤ N + 30000 ∧ Lp B w b M S hr hc hm c1 c2 c3 s wx)
    case first =>
      cases hx3 : (x3 == 0)
      · go_wp2_with fail
        go_meet
        exact ⟨s1, M + 1, by omega, HP1.out⟩
      · go_wp2_with fail
        go_loopw [6] (fun kk wr => ∃ (k : Int) (s : St) (M0 : Nat), 1 ≤ k ∧ k ≤ 8 ∧ kk = .int .i64 k ∧ (M0 : Int) ≤ N + 21000 + 300 * k ∧ Lp B w b M0 S hr hc hm c1 c2 c3 s wr) (fun kk _ => 8 - (intOf kk).toNat)
        case atStart => exact ⟨1, s1, M + 1, by omega, by omega, rfl, by omega, HP1.out⟩
        case round =>
          clear HP1 hM
          obtain ⟨k, s, M0, kA, kB, rfl, hM0, hLp⟩ := hrel
          have HL := Lib.hid hLp
          clear hLp
          by_cases hk : k < 8
          · go_wp2_with fail
            have zs := HL.out.zs
            have zr := HL.out.zr
            have zc := HL.out.zc
            have zm := HL.out.zm
            have sr := HL.out.sr
            have sc := HL.out.sc
            have sm := HL.out.sm
            have lS := HL.out.bs.lt
            have lr := HL.out.ow.R.lt
            have lc := HL.out.ow.C.lt
            have lm := HL.out.ow.M.lt
            refine wp_region_lots 93 (fun i => if i = 4 then [b] else if i = 6 then [b] else if i = 9 then [b] else if i = 13 then [hr] else []) (RdF B b (M0 + 200)) (rgSF wr.heap.size b S 1 hr (.slice (some ⟨hr, 0, none⟩) 8 c1) k (SetP hr hc hm c1 s)) ?mono (by kernel_rfl) (by kernel_rfl) rfl (by kernel_rfl) (rdF_start (f := 14) HL.out.rd (by omega)) ?step ?fin
            case mono =>
              intro i j v u u' hij hsz h hB
              have hB2 : But (if i = 4 then [b] else if i = 6 then [b] else if i = 9 then [b] else if i = 13 then [hr] else []) u u' := hB
              have hLk : ∀ k, k ∈ (if i = 4 then [b] else if i = 6 then [b] else if i = 9 then [b] else if i = 13 then [hr] else []) → k < wr.heap.size := by
                intro k hk
                by_cases y4 : i = 4
                · rw [if_pos y4] at hk; simp at hk; omega
                rw [if_neg y4] at hk
                by_cases y6 : i = 6
                · rw [if_pos y6] at hk; simp at hk; omega
                rw [if_neg y6] at hk
                by_cases y9 : i = 9
                · rw [if_pos y9] at hk; simp at hk; omega
                rw [if_neg y9] at hk
                by_cases y13 : i = 13
                · rw [if_pos y13] at hk; simp at hk; omega
                rw [if_neg y13] at hk
                cases hk
              rcases j with _ | _ | _ | _ | _ | _ | _ | _ | _ | _ | _ | _ | _ | _ | j
              · exact h
              · exact h
              · exact h
              · exact h
              · exact h
              · exact h
              · exact h
              · exact RowP.but h hB2 hLk
              · exact h
              · exact h
              · exact CelP.but h hB2 hLk
              · exact h
              · exact h
              · have hne : ∀ g, g ≠ b → g ∉ (if i = 4 then [b] else if i = 6 then [b] else if i = 9 then [b] else if i = 13 then [hr] else []) := by
                  intro g hg hm
                  by_cases y4 : i = 4
                  · rw [if_pos y4] at hm; simp at hm; omega
                  rw [if_neg y4] at hm
                  by_cases y6 : i = 6
                  · rw [if_pos y6] at hm; simp at hm; omega
                  rw [if_neg y6] at hm
                  by_cases y9 : i = 9
                  · rw [if_pos y9] at hm; simp at hm; omega
                  rw [if_neg y9] at hm
                  rw [if_neg hij] at hm
                  cases hm
                exact SetP.but h hB2 (hne _ (by omega)) (hne _ (by omega)) (hne _ (by omega))
              · trivial
            case step =>
              intro i o ho
              rcases i with _ | _ | _ | _ | _ | _ | _ | _ | _ | _ | _ | _ | _ | _ | i
              · cases ho
                intro fu act u hW hB hsz hL hdep
                replace hB := hB [b, hr] (fun j hj hd k hk => by
                  by_cases y4 : j = 4
                  · rw [if_pos y4] at hk; simp at hk; simp [hk]
                  rw [if_neg y4] at hk
                  by_cases y6 : j = 6
                  · rw [if_pos y6] at hk; simp at hk; simp [hk]
                  rw [if_neg y6] at hk
                  by_cases y9 : j = 9
                  · rw [if_pos y9] at hk; simp at hk; simp [hk]
                  rw [if_neg y9] at hk
                  by_cases y13 : j = 13
                  · rw [if_pos y13] at hk; simp at hk; simp [hk]
                  rw [if_neg y13] at hk
                  cases hk)
                obtain ⟨ysl, ha, hy⟩ := hL.puts [24, 25, 26, 27, 28, 29, 30, 31, 32, 33, 34, 35, 36] (by kernel_rfl)
                clear hdep hL hy
                simp only [List.foldl, List.setIfInBounds_toArray, List.set_cons_succ, List.set_cons_zero] at ha
                subst ha
                refine wpOp_step rfl (fun K hK => ?_)
                go_simp
                exact hK _ _ ⟨_, rfl, (fun h => by cases h), rfl, But.refl _ _, wd_pure hW⟩
              · cases ho
                intro fu act u hW hB hsz hL hdep
                replace hB := hB [b, hr] (fun j hj hd k hk => by
                  by_cases y4 : j = 4
                  · rw [if_pos y4] at hk; simp at hk; simp [hk]
                  rw [if_neg y4] at hk
                  by_cases y6 : j = 6
                  · rw [if_pos y6] at hk; simp at hk; simp [hk]
                  rw [if_neg y6] at hk
                  by_cases y9 : j = 9
                  · rw [if_pos y9] at hk; simp at hk; simp [hk]
                  rw [if_neg y9] at hk
                  by_cases y13 : j = 13
                  · rw [if_pos y13] at hk; simp at hk; simp [hk]
                  rw [if_neg y13] at hk
                  cases hk)
                have d0 := hdep { on := 0, ground := .data } (by simp) rfl _ rfl
                obtain ⟨ysl, ha, hy⟩ := hL.puts [24, 25, 26, 27, 28, 29, 30, 31, 32, 33, 34, 35, 36] (by kernel_rfl)
                have e0 : ysl 24 = _ := (hy 24).symm.trans d0
                clear hdep hL hy d0
                simp only [List.foldl, List.setIfInBounds_toArray, List.set_cons_succ, List.set_cons_zero, e0] at ha
                subst ha
                clear e0
                have Bx := HL.out.bs.but hB (by simp; omega)
                obtain ⟨_, c0, c1, c2, c3, _, _, _, _⟩ := Bx
                refine wpOp_step rfl (fun K hK => ?_)
                go_simp
                exact hK _ _ ⟨_, rfl, (fun h => by cases h), rfl, But.refl _ _, wd_pure hW⟩
              · cases ho
                intro fu act u hW hB hsz hL hdep
                replace hB := hB [b, hr] (fun j hj hd k hk => by
                  by_cases y4 : j = 4
                  · rw [if_pos y4] at hk; simp at hk; simp [hk]
                  rw [if_neg y4] at hk
                  by_cases y6 : j = 6
                  · rw [if_pos y6] at hk; simp at hk; simp [hk]
                  rw [if_neg y6] at hk
                  by_cases y9 : j = 9
                  · rw [if_pos y9] at hk; simp at hk; simp [hk]
                  rw [if_neg y9] at hk
                  by_cases y13 : j = 13
                  · rw [if_pos y13] at hk; simp at hk; simp [hk]
                  rw [if_neg y13] at hk
                  cases hk)
                obtain ⟨ysl, ha, hy⟩ := hL.puts [24, 25, 26, 27, 28, 29, 30, 31, 32, 33, 34, 35, 36] (by kernel_rfl)
                clear hdep hL hy
                simp only [List.foldl, List.setIfInBounds_toArray, List.set_cons_succ, List.set_cons_zero] at ha
                subst ha
                refine wpOp_step rfl (fun K hK => ?_)
                go_simp
                exact hK _ _ ⟨_, rfl, (fun h => by cases h), rfl, But.refl _ _, wd_pure hW⟩
              · cases ho
                intro fu act u hW hB hsz hL hdep
                replace hB := hB [b, hr] (fun j hj hd k hk => by
                  by_cases y4 : j = 4
                  · rw [if_pos y4] at hk; simp at hk; simp [hk]
                  rw [if_neg y4] at hk
                  by_cases y6 : j = 6
                  · rw [if_pos y6] at hk; simp at hk; simp [hk]
                  rw [if_neg y6] at hk
                  by_cases y9 : j = 9
                  · rw [if_pos y9] at hk; simp at hk; simp [hk]
                  rw [if_neg y9] at hk
                  by_cases y13 : j = 13
                  · rw [if_pos y13] at hk; simp at hk; simp [hk]
                  rw [if_neg y13] at hk
                  cases hk)
                obtain ⟨ysl, ha, hy⟩ := hL.puts [24, 25, 26, 27, 28, 29, 30, 31, 32, 33, 34, 35, 36] (by kernel_rfl)
                clear hdep hL hy
                simp only [List.foldl, List.setIfInBounds_toArray, List.set_cons_succ, List.set_cons_zero] at ha
                subst ha
                refine wpOp_step rfl (fun K hK => ?_)
                go_simp
                exact hK _ _ ⟨_, rfl, (fun h => by cases h), rfl, But.refl _ _, wd_pure hW⟩
              · cases ho
                intro fu act u hW hB hsz hL hdep
                replace hB := hB [b, hr] (fun j hj hd k hk => by
                  by_cases y4 : j = 4
                  · rw [if_pos y4] at hk; simp at hk; simp [hk]
                  rw [if_neg y4] at hk
                  by_cases y6 : j = 6
                  · rw [if_pos y6] at hk; simp at hk; simp [hk]
                  rw [if_neg y6] at hk
                  by_cases y9 : j = 9
                  · rw [if_pos y9] at hk; simp at hk; simp [hk]
                  rw [if_neg y9] at hk
                  by_cases y13 : j = 13
                  · rw [if_pos y13] at hk; simp at hk; simp [hk]
                  rw [if_neg y13] at hk
                  cases hk)
                have d3 := hdep { on := 3, ground := .data } (by simp) rfl _ rfl
                obtain ⟨ysl, ha, hy⟩ := hL.puts [24, 25, 26, 27, 28, 29, 30, 31, 32, 33, 34, 35, 36] (by kernel_rfl)
                have e3 : ysl 27 = _ := (hy 27).symm.trans d3
                clear hdep hL hy d3
                simp only [List.foldl, List.setIfInBounds_toArray, List.set_cons_succ, List.set_cons_zero, e3] at ha
                subst ha
                clear e3
                obtain ⟨M, hM, hR⟩ := hW
                refine wpOp_step rfl (fun K hK => ?_)
                go_simp
                refine (pick B M b _ u hR (by omega)).mono ?_
                rintro e u' ⟨x, x0, x1, rfl, r, g⟩
                go_simp
                exact hK _ _ ⟨_, rfl, (fun h => by cases h), ⟨x, rfl⟩, but_row g, ⟨M + 1, by omega, r⟩⟩
              · cases ho
                intro fu act u hW hB hsz hL hdep
                replace hB := hB [b, hr] (fun j hj hd k hk => by
                  by_cases y4 : j = 4
                  · rw [if_pos y4] at hk; simp at hk; simp [hk]
                  rw [if_neg y4] at hk
                  by_cases y6 : j = 6
                  · rw [if_pos y6] at hk; simp at hk; simp [hk]
                  rw [if_neg y6] at hk
                  by_cases y9 : j = 9
                  · rw [if_pos y9] at hk; simp at hk; simp [hk]
                  rw [if_neg y9] at hk
                  by_cases y13 : j = 13
                  · rw [if_pos y13] at hk; simp at hk; simp [hk]
                  rw [if_neg y13] at hk
                  cases hk)
                obtain ⟨ysl, ha, hy⟩ := hL.puts [24, 25, 26, 27, 28, 29, 30, 31, 32, 33, 34, 35, 36] (by kernel_rfl)
                clear hdep hL hy
                simp only [List.foldl, List.setIfInBounds_toArray, List.set_cons_succ, List.set_cons_zero] at ha
                subst ha
                refine wpOp_step rfl (fun K hK => ?_)
                go_simp
                exact hK _ _ ⟨_, rfl, (fun h => by cases h), rfl, But.refl _ _, wd_pure hW⟩
              · cases ho
                intro fu act u hW hB hsz hL hdep
                replace hB := hB [b, hr] (fun j hj hd k hk => by
                  by_cases y4 : j = 4
                  · rw [if_pos y4] at hk; simp at hk; simp [hk]
                  rw [if_neg y4] at hk
                  by_cases y6 : j = 6
                  · rw [if_pos y6] at hk; simp at hk; simp [hk]
                  rw [if_neg y6] at hk
                  by_cases y9 : j = 9
                  · rw [if_pos y9] at hk; simp at hk; simp [hk]
                  rw [if_neg y9] at hk
                  by_cases y13 : j = 13
                  · rw [if_pos y13] at hk; simp at hk; simp [hk]
                  rw [if_neg y13] at hk
                  cases hk)
                have d5 := hdep { on := 5, ground := .data } (by simp) rfl _ rfl
                obtain ⟨ysl, ha, hy⟩ := hL.puts [24, 25, 26, 27, 28, 29, 30, 31, 32, 33, 34, 35, 36] (by kernel_rfl)
                have e5 : ysl 29 = _ := (hy 29).symm.trans d5
                clear hdep hL hy d5
                simp only [List.foldl, List.setIfInBounds_toArray, List.set_cons_succ, List.set_cons_zero, e5] at ha
                subst ha
                clear e5
                obtain ⟨M, hM, hR⟩ := hW
                refine wpOp_step rfl (fun K hK => ?_)
                go_simp
                refine (l20Word0 B M b u hR (by omega)).mono ?_
                rintro e u' ⟨x, x0, x1, rfl, r, g⟩
                go_simp
                exact hK _ _ ⟨_, rfl, (fun h => by cases h), ⟨x, rfl⟩, but_row g, ⟨M + 8, by omega, r⟩⟩
              · cases ho
                intro fu act u hW hB hsz hL hdep
                replace hB := hB [b, hr] (fun j hj hd k hk => by
                  by_cases y4 : j = 4
                  · rw [if_pos y4] at hk; simp at hk; simp [hk]
                  rw [if_neg y4] at hk
                  by_cases y6 : j = 6
                  · rw [if_pos y6] at hk; simp at hk; simp [hk]
                  rw [if_neg y6] at hk
                  by_cases y9 : j = 9
                  · rw [if_pos y9] at hk; simp at hk; simp [hk]
                  rw [if_neg y9] at hk
                  by_cases y13 : j = 13
                  · rw [if_pos y13] at hk; simp at hk; simp [hk]
                  rw [if_neg y13] at hk
                  cases hk)
                have d4 := hdep { on := 4, ground := .data } (by simp) rfl _ rfl
                have d6 := hdep { on := 6, ground := .data } (by simp) rfl _ rfl
                obtain ⟨ysl, ha, hy⟩ := hL.puts [24, 25, 26, 27, 28, 29, 30, 31, 32, 33, 34, 35, 36] (by kernel_rfl)
                obtain ⟨x4, h4⟩ := d4
                have e4 : ysl 28 = .int .i64 x4 := (hy 28).symm.trans h4
                obtain ⟨x6, h6⟩ := d6
                have e6 : ysl 30 = .int .i64 x6 := (hy 30).symm.trans h6
                clear hdep hL hy h4 h6
                simp only [List.foldl, List.setIfInBounds_toArray, List.set_cons_succ, List.set_cons_zero, e4, e6] at ha
                subst ha
                clear e4 e6
                obtain ⟨M, hM, hR⟩ := hW
                refine wpOp_step rfl (fun K hK => ?_)
                go_simp
                refine hK _ _ ⟨_, rfl, (fun h => by cases h), ⟨u.heap.size, hsz, by simp, rfl, fun i hi => ?_⟩, But.of (Fr.alloc _ _), ⟨M, by omega, hR.alloc _⟩⟩
                have hi2 : i = 0 ∨ i = 1 := by omega
                rcases hi2 with rfl | rfl
                · exact ⟨_, trivial, by simp; rfl⟩
                · exact ⟨_, trivial, by simp; rfl⟩
              · cases ho
                intro fu act u hW hB hsz hL hdep
                replace hB := hB [b, hr] (fun j hj hd k hk => by
                  by_cases y4 : j = 4
                  · rw [if_pos y4] at hk; simp at hk; simp [hk]
                  rw [if_neg y4] at hk
                  by_cases y6 : j = 6
                  · rw [if_pos y6] at hk; simp at hk; simp [hk]
                  rw [if_neg y6] at hk
                  by_cases y9 : j = 9
                  · rw [if_pos y9] at hk; simp at hk; simp [hk]
                  rw [if_neg y9] at hk
                  by_cases y13 : j = 13
                  · rw [if_pos y13] at hk; simp at hk; simp [hk]
                  rw [if_neg y13] at hk
                  cases hk)
                obtain ⟨ysl, ha, hy⟩ := hL.puts [24, 25, 26, 27, 28, 29, 30, 31, 32, 33, 34, 35, 36] (by kernel_rfl)
                clear hdep hL hy
                simp only [List.foldl, List.setIfInBounds_toArray, List.set_cons_succ, List.set_cons_zero] at ha
                subst ha
                refine wpOp_step rfl (fun K hK => ?_)
                go_simp
                exact hK _ _ ⟨_, rfl, (fun h => by cases h), rfl, But.refl _ _, wd_pure hW⟩
              · cases ho
                intro fu act u hW hB hsz hL hdep
                replace hB := hB [b, hr] (fun j hj hd k hk => by
                  by_cases y4 : j = 4
                  · rw [if_pos y4] at hk; simp at hk; simp [hk]
                  rw [if_neg y4] at hk
                  by_cases y6 : j = 6
                  · rw [if_pos y6] at hk; simp at hk; simp [hk]
                  rw [if_neg y6] at hk
                  by_cases y9 : j = 9
                  · rw [if_pos y9] at hk; simp at hk; simp [hk]
                  rw [if_neg y9] at hk
                  by_cases y13 : j = 13
                  · rw [if_pos y13] at hk; simp at hk; simp [hk]
                  rw [if_neg y13] at hk
                  cases hk)
                have d8 := hdep { on := 8, ground := .data } (by simp) rfl _ rfl
                obtain ⟨ysl, ha, hy⟩ := hL.puts [24, 25, 26, 27, 28, 29, 30, 31, 32, 33, 34, 35, 36] (by kernel_rfl)
                have e8 : ysl 32 = _ := (hy 32).symm.trans d8
                clear hdep hL hy d8
                simp only [List.foldl, List.setIfInBounds_toArray, List.set_cons_succ, List.set_cons_zero, e8] at ha
                subst ha
                clear e8
                obtain ⟨M, hM, hR⟩ := hW
                refine wpOp_step rfl (fun K hK => ?_)
                go_simp
                refine (pick B M b _ u hR (by omega)).mono ?_
                rintro e u' ⟨x, x0, x1, rfl, r, g⟩
                go_simp
                exact hK _ _ ⟨_, rfl, (fun h => by cases h), ⟨x, x0, x1 (by omega), rfl⟩, but_row g, ⟨M + 1, by omega, r⟩⟩
              · cases ho
                intro fu act u hW hB hsz hL hdep
                replace hB := hB [b, hr] (fun j hj hd k hk => by
                  by_cases y4 : j = 4
                  · rw [if_pos y4] at hk; simp at hk; simp [hk]
                  rw [if_neg y4] at hk
                  by_cases y6 : j = 6
                  · rw [if_pos y6] at hk; simp at hk; simp [hk]
                  rw [if_neg y6] at hk
                  by_cases y9 : j = 9
                  · rw [if_pos y9] at hk; simp at hk; simp [hk]
                  rw [if_neg y9] at hk
                  by_cases y13 : j = 13
                  · rw [if_pos y13] at hk; simp at hk; simp [hk]
                  rw [if_neg y13] at hk
                  cases hk)
                have d7 := hdep { on := 7, ground := .data } (by simp) rfl _ rfl
                have d9 := hdep { on := 9, ground := .data } (by simp) rfl _ rfl
                obtain ⟨ysl, ha, hy⟩ := hL.puts [24, 25, 26, 27, 28, 29, 30, 31, 32, 33, 34, 35, 36] (by kernel_rfl)
                obtain ⟨g7, gw7, gl7, h7, hc7⟩ := d7
                have e7 : ysl 31 = .slice (some ⟨g7, 0, none⟩) 2 2 := (hy 31).symm.trans h7
                obtain ⟨x9, x90, x91, h9⟩ := d9
                have e9 : ysl 33 = .int .i64 x9 := (hy 33).symm.trans h9
                clear hdep hL hy h7 h9
                simp only [List.foldl, List.setIfInBounds_toArray, List.set_cons_succ, List.set_cons_zero, e7, e9] at ha
                subst ha
                clear e7 e9
                obtain ⟨n10, hn10, hc10⟩ := hc7 x9.toNat (by omega)
                refine wpOp_step rfl (fun K hK => ?_)
                go_simp
                exact hK _ _ ⟨_, rfl, (fun h => by cases h), ⟨g7, x9.toNat, gw7, gl7, rfl, n10, hn10, hc10⟩, But.refl _ _, wd_pure hW⟩
              · cases ho
                intro fu act u hW hB hsz hL hdep
                replace hB := hB [b, hr] (fun j hj hd k hk => by
                  by_cases y4 : j = 4
                  · rw [if_pos y4] at hk; simp at hk; simp [hk]
                  rw [if_neg y4] at hk
                  by_cases y6 : j = 6
                  · rw [if_pos y6] at hk; simp at hk; simp [hk]
                  rw [if_neg y6] at hk
                  by_cases y9 : j = 9
                  · rw [if_pos y9] at hk; simp at hk; simp [hk]
                  rw [if_neg y9] at hk
                  by_cases y13 : j = 13
                  · rw [if_pos y13] at hk; simp at hk; simp [hk]
                  rw [if_neg y13] at hk
                  cases hk)
                have d10 := hdep { on := 10, ground := .data } (by simp) rfl _ rfl
                obtain ⟨ysl, ha, hy⟩ := hL.puts [24, 25, 26, 27, 28, 29, 30, 31, 32, 33, 34, 35, 36] (by kernel_rfl)
                obtain ⟨g10, o10, gw10, gl10, h10, n10, hn10, hc10⟩ := d10
                have e10 : ysl 34 = .pointer (some ⟨g10, o10, none⟩) := (hy 34).symm.trans h10
                clear hdep hL hy h10
                simp only [List.foldl, List.setIfInBounds_toArray, List.set_cons_succ, List.set_cons_zero, e10] at ha
                subst ha
                clear e10
                refine wpOp_step rfl (fun K hK => ?_)
                go_simp
                exact hK _ _ ⟨_, rfl, (fun h => by cases h), ⟨n10, rfl⟩, But.refl _ _, wd_pure hW⟩
              · cases ho
                intro fu act u hW hB hsz hL hdep
                replace hB := hB [b, hr] (fun j hj hd k hk => by
                  by_cases y4 : j = 4
                  · rw [if_pos y4] at hk; simp at hk; simp [hk]
                  rw [if_neg y4] at hk
                  by_cases y6 : j = 6
                  · rw [if_pos y6] at hk; simp at hk; simp [hk]
                  rw [if_neg y6] at hk
                  by_cases y9 : j = 9
                  · rw [if_pos y9] at hk; simp at hk; simp [hk]
                  rw [if_neg y9] at hk
                  by_cases y13 : j = 13
                  · rw [if_pos y13] at hk; simp at hk; simp [hk]
                  rw [if_neg y13] at hk
                  cases hk)
                have d1 := hdep { on := 1, ground := .data } (by simp) rfl _ rfl
                have d2 := hdep { on := 2, ground := .data } (by simp) rfl _ rfl
                obtain ⟨ysl, ha, hy⟩ := hL.puts [24, 25, 26, 27, 28, 29, 30, 31, 32, 33, 34, 35, 36] (by kernel_rfl)
                have e1 : ysl 25 = _ := (hy 25).symm.trans d1
                have e2 : ysl 26 = _ := (hy 26).symm.trans d2
                clear hdep hL hy d1 d2
                simp only [List.foldl, List.setIfInBounds_toArray, List.set_cons_succ, List.set_cons_zero, e1, e2] at ha
                subst ha
                clear e1 e2
                have k0 : 0 ≤ k := by omega
                refine wpOp_step rfl (fun K hK => ?_)
                go_simp
                exact hK _ _ ⟨_, rfl, (fun h => by cases h), rfl, But.refl _ _, wd_pure hW⟩
              · cases ho
                intro fu act u hW hB hsz hL hdep
                replace hB := hB [b] (fun j hj hd k hk => by
                  by_cases x13 : j = 13
                  · exact absurd x13 hj
                  by_cases y4 : j = 4
                  · rw [if_pos y4] at hk; simp at hk; simp [hk]
                  rw [if_neg y4] at hk
                  by_cases y6 : j = 6
                  · rw [if_pos y6] at hk; simp at hk; simp [hk]
                  rw [if_neg y6] at hk
                  by_cases y9 : j = 9
                  · rw [if_pos y9] at hk; simp at hk; simp [hk]
                  rw [if_neg y9] at hk
                  rw [if_neg x13] at hk
                  cases hk)
                have d11 := hdep { on := 11, ground := .data } (by simp) rfl _ rfl
                have d12 := hdep { on := 12, ground := .data } (by simp) rfl _ rfl
                obtain ⟨ysl, ha, hy⟩ := hL.puts [24, 25, 26, 27, 28, 29, 30, 31, 32, 33, 34, 35, 36] (by kernel_rfl)
                obtain ⟨x11, h11⟩ := d11
                have e11 : ysl 35 = .int .i64 x11 := (hy 35).symm.trans h11
                have e12 : ysl 36 = _ := (hy 36).symm.trans d12
                clear hdep hL hy d12 h11
                simp only [List.foldl, List.setIfInBounds_toArray, List.set_cons_succ, List.set_cons_zero, e11, e12] at ha
                subst ha
                clear e11 e12
                obtain ⟨M, hM, hR⟩ := hW
                have Ow := HL.out.ow.but hB (by simp; omega) (by simp; omega) (by simp; omega)
                have cx := Ow.R.cel k.toNat (by rw [HL.out.lr]; omega)
                have fx := Ow.R.fro k.toNat (by rw [HL.out.lr]; omega)
                refine wpOp_step rfl (fun K hK => ?_)
                go_simp
                exact hK _ _ ⟨undef, rfl, (fun _ => rfl), ⟨⟨s.pc, s.R.set k.toNat x11, s.C, s.M⟩, rfl, by simp [HL.out.lr], by simp [HL.out.lc], by simp [HL.out.lm], Ow.setR k.toNat x11 (by rw [HL.out.lr]; omega) s.pc, (HL.out.ca.but hB (by simp; omega)).set hr k.toNat (.int .i64 x11)⟩, (But.refl [hr] u).set hr k.toNat (.int .i64 x11) (.inl (by simp)), ⟨M, by omega, hR.setOther _ _ _ (by omega)⟩⟩
              · exact absurd ho (by simp)
            case fin =>
              intro act u hW hsz hB hL hsf
              replace hB := hB [b, hr] (fun j k hk => by
                by_cases y4 : j = 4
                · rw [if_pos y4] at hk; simp at hk; simp [hk]
                rw [if_neg y4] at hk
                by_cases y6 : j = 6
                · rw [if_pos y6] at hk; simp at hk; simp [hk]
                rw [if_neg y6] at hk
                by_cases y9 : j = 9
                · rw [if_pos y9] at hk; simp at hk; simp [hk]
                rw [if_neg y9] at hk
                by_cases y13 : j = 13
                · rw [if_pos y13] at hk; simp at hk; simp [hk]
                rw [if_neg y13] at hk
                cases hk)
              have d13 := hsf 13 _ rfl
              obtain ⟨ysl, ha, hy⟩ := hL.puts [24, 25, 26, 27, 28, 29, 30, 31, 32, 33, 34, 35, 36] (by kernel_rfl)
              clear hL hsf hy
              simp only [List.foldl, List.setIfInBounds_toArray, List.set_cons_succ, List.set_cons_zero] at ha
              subst ha
              obtain ⟨M, hM, hR⟩ := hW
              obtain ⟨s2, hP2⟩ := HL.out.row hR hB (fun k m => by simp at m; omega) d13
              have HP := Lib.hid hP2
              clear hB hR d13 hP2 HL
              go_wp2
              go_roundw
              case rel => exact ⟨k + 1, s2, M, by omega, by omega, by go_num, by omega, HP.out⟩
              case measure => simp [intOf]; omega
          · have hk' : ¬ k < 8 := hk
            go_wp2_with fail
            refine (pick B M0 b _ wr HL.out.rd (by omega)).mono ?_
            rintro e u2 ⟨x4, x40, x41, rfl, r4, g4⟩
            have HP2 := Lib.hid (HL.out.step r4 g4)
            clear r4 g4 HL
            obtain ⟨_, y0, y1, y2, y3, z0, z1, z2, z3⟩ := HP2.out.bs
            go_wp2_with fail
            go_meet
            exact ⟨_, M0 + 1, by omega, HP2.out.setPc x4⟩
    case rest =>
      clear HP1 hM
      obtain ⟨s, M0, hM0, hLp⟩ := hcut
      have HL0 := Lib.hid hLp
      clear hLp
      go_wp2_with fail
      refine (odd_any B M0 b n _ HL0.out.rd (by omega) n0 (by omega)).mono ?_
      rintro e u5 ⟨v5, rfl, r5, g5⟩
      have HP := Lib.hid (HL0.out.step r5 g5)
      clear HL0 r5 g5
      cases v5
      · skip
        have HQ := Lib.hid HP.out.lq
        obtain ⟨_, y0, y1, y2, y3, _, _, _, _⟩ := HQ.out.bs
        obtain ⟨_, z0, z1, z2, z3, o0, o1, o2, o3⟩ := HQ.out.bz
        have nzs : ¬ S = w.heap.size := by have := HQ.out.zs; omega
        have nzs2 : ¬ w.heap.size = S := by have := HQ.out.zs; omega
        go_wp2_with fail
        refine bodyPost_ret (v := .agg #[.int .i64 s.pc, .slice (some ⟨hr, 0, none⟩) s.R.length c1, .slice (some ⟨hc, 0, none⟩) s.C.length c2, .slice (some ⟨hm, 0, none⟩) s.M.length c3]) (by simp [results, Try.results35, go_sem, z0, z1, z2, z3]) rfl (HQ.out.done (by omega) _ _ _ _)
      · go_wp2_with fail
        refine (pick B _ b _ _ HP.out.rd (by omega)).mono ?_
        rintro e u6 ⟨x6, x60, x61, rfl, r6, g6⟩
        have x62 := x61 (by omega)
        have HL := Lib.hid (HP.out.step r6 g6)
        clear HP r6 g6 x61
        have h6 : x6 = 0 ∨ x6 = 1 ∨ x6 = 2 ∨ x6 = 3 ∨ x6 = 4 ∨ x6 = 5 := by omega
        clear x60 x62
        rcases h6 with rfl | rfl | rfl | rfl | rfl | rfl
        · go_wp2_with fail
          refine (l20Word B _ b _ _ HL.out.rd (by omega) (by omega) (by omega)).mono ?_
          rintro e u7 ⟨x7, rfl, r7, g7⟩
          have HP2 := Lib.hid (HL.out.step r7 g7)
          clear r7 g7 HL
          obtain ⟨_, y0, y1, y2, y3, z0, z1, z2, z3⟩ := HP2.out.bs
          have HP := Lib.hid (HP2.out.setPc x7)
          go_upto_region 22 with fail
          clear HP2 y0 y1 y2 y3 z0 z1 z2 z3
          generalize (u7.setCell ⟨S, 0, none⟩ (.int .i64 x7)) = u9 at *
          have HQ := Lib.hid HP.out.lq
          obtain ⟨_, y0, y1, y2, y3, _, _, _, _⟩ := HQ.out.bs
          obtain ⟨_, z0, z1, z2, z3, o0, o1, o2, o3⟩ := HQ.out.bz
          have nzs : ¬ S = w.heap.size := by have := HQ.out.zs; omega
          have nzs2 : ¬ w.heap.size = S := by have := HQ.out.zs; omega
          go_wp2_with fail
          refine bodyPost_ret (v := .agg #[.int .i64 x7, .slice (some ⟨hr, 0, none⟩) s.R.length c1, .slice (some ⟨hc, 0, none⟩) s.C.length c2, .slice (some ⟨hm, 0, none⟩) s.M.length c3]) (by simp [results, Try.results35, go_sem, z0, z1, z2, z3]) rfl (HQ.out.done (by omega) _ _ _ _)
        · go_wp2_with fail
          have zs := HL.out.zs
          have zr := HL.out.zr
          have zc := HL.out.zc
          have zm := HL.out.zm
          have sr := HL.out.sr
          have sc := HL.out.sc
          have sm := HL.out.sm
          have lS := HL.out.bs.lt
          have lr := HL.out.ow.R.lt
          have lc := HL.out.ow.C.lt
          have lm := HL.out.ow.M.lt
          refine wp_region_lots 93 (fun i => if i = 3 then [b] else if i = 6 then [b] else if i = 10 then [hr] else []) (RdF B b (M0 + 200)) (swSF u6.heap.size b S 1 hr (.slice (some ⟨hr, 0, none⟩) 8 c1) 8 (SetP hr hc hm c1 s)) ?mono (by kernel_rfl) (by kernel_rfl) rfl (by kernel_rfl) (rdF_start (f := 11) HL.out.rd (by omega)) ?step ?fin
          case mono =>
            intro i j v u u' hij hsz h hB
            have hB2 : But (if i = 3 then [b] else if i = 6 then [b] else if i = 10 then [hr] else []) u u' := hB
            have hLk : ∀ k, k ∈ (if i = 3 then [b] else if i = 6 then [b] else if i = 10 then [hr] else []) → k < u6.heap.size := by
              intro k hk
              by_cases y3 : i = 3
              · rw [if_pos y3] at hk; simp at hk; omega
              rw [if_neg y3] at hk
              by_cases y6 : i = 6
              · rw [if_pos y6] at hk; simp at hk; omega
              rw [if_neg y6] at hk
              by_cases y10 : i = 10
              · rw [if_pos y10] at hk; simp at hk; omega
              rw [if_neg y10] at hk
              cases hk
            rcases j with _ | _ | _ | _ | _ | _ | _ | _ | _ | _ | _ | j
            · exact h
            · exact h
            · exact h
            · exact h
            · exact RowP.but h hB2 hLk
            · exact h
            · exact h
            · exact CelP.but h hB2 hLk
            · exact h
            · exact h
            · have hne : ∀ g, g ≠ b → g ∉ (if i = 3 then [b] else if i = 6 then [b] else if i = 10 then [hr] else []) := by
                intro g hg hm
                by_cases y3 : i = 3
                · rw [if_pos y3] at hm; simp at hm; omega
                rw [if_neg y3] at hm
                by_cases y6 : i = 6
                · rw [if_pos y6] at hm; simp at hm; omega
                rw [if_neg y6] at hm
                rw [if_neg hij] at hm
                cases hm
              exact SetP.but h hB2 (hne _ (by omega)) (hne _ (by omega)) (hne _ (by omega))
            · trivial
          case step =>
            intro i o ho
            rcases i with _ | _ | _ | _ | _ | _ | _ | _ | _ | _ | _ | i
            · cases ho
              intro fu act u hW hB hsz hL hdep
              replace hB := hB [b, hr] (fun j hj hd k hk => by
                by_cases y3 : j = 3
                · rw [if_pos y3] at hk; simp at hk; simp [hk]
                rw [if_neg y3] at hk
                by_cases y6 : j = 6
                · rw [if_pos y6] at hk; simp at hk; simp [hk]
                rw [if_neg y6] at hk
                by_cases y10 : j = 10
                · rw [if_pos y10] at hk; simp at hk; simp [hk]
                rw [if_neg y10] at hk
                cases hk)
              obtain ⟨ysl, ha, hy⟩ := hL.puts [57, 58, 59, 60, 61, 62, 63, 64, 65, 66] (by kernel_rfl)
              clear hdep hL hy
              simp only [List.foldl, List.setIfInBounds_toArray, List.set_cons_succ, List.set_cons_zero] at ha
              subst ha
              refine wpOp_step rfl (fun K hK => ?_)
              go_simp
              exact hK _ _ ⟨_, rfl, (fun h => by cases h), rfl, But.refl _ _, wd_pure hW⟩
            · cases ho
              intro fu act u hW hB hsz hL hdep
              replace hB := hB [b, hr] (fun j hj hd k hk => by
                by_cases y3 : j = 3
                · rw [if_pos y3] at hk; simp at hk; simp [hk]
                rw [if_neg y3] at hk
                by_cases y6 : j = 6
                · rw [if_pos y6] at hk; simp at hk; simp [hk]
                rw [if_neg y6] at hk
                by_cases y10 : j = 10
                · rw [if_pos y10] at hk; simp at hk; simp [hk]
                rw [if_neg y10] at hk
                cases hk)
              have d0 := hdep { on := 0, ground := .data } (by simp) rfl _ rfl
              obtain ⟨ysl, ha, hy⟩ := hL.puts [57, 58, 59, 60, 61, 62, 63, 64, 65, 66] (by kernel_rfl)
              have e0 : ysl 57 = _ := (hy 57).symm.trans d0
              clear hdep hL hy d0
              simp only [List.foldl, List.setIfInBounds_toArray, List.set_cons_succ, List.set_cons_zero, e0] at ha
              subst ha
              clear e0
              have Bx := HL.out.bs.but hB (by simp; omega)
              obtain ⟨_, c0, c1, c2, c3, _, _, _, _⟩ := Bx
              refine wpOp_step rfl (fun K hK => ?_)
              go_simp
              exact hK _ _ ⟨_, rfl, (fun h => by cases h), rfl, But.refl _ _, wd_pure hW⟩
            · cases ho
              intro fu act u hW hB hsz hL hdep
              replace hB := hB [b, hr] (fun j hj hd k hk => by
                by_cases y3 : j = 3
                · rw [if_pos y3] at hk; simp at hk; simp [hk]
                rw [if_neg y3] at hk
                by_cases y6 : j = 6
                · rw [if_pos y6] at hk; simp at hk; simp [hk]
                rw [if_neg y6] at hk
                by_cases y10 : j = 10
                · rw [if_pos y10] at hk; simp at hk; simp [hk]
                rw [if_neg y10] at hk
                cases hk)
              obtain ⟨ysl, ha, hy⟩ := hL.puts [57, 58, 59, 60, 61, 62, 63, 64, 65, 66] (by kernel_rfl)
              clear hdep hL hy
              simp only [List.foldl, List.setIfInBounds_toArray, List.set_cons_succ, List.set_cons_zero] at ha
              subst ha
              refine wpOp_step rfl (fun K hK => ?_)
              go_simp
              exact hK _ _ ⟨_, rfl, (fun h => by cases h), rfl, But.refl _ _, wd_pure hW⟩
            · cases ho
              intro fu act u hW hB hsz hL hdep
              replace hB := hB [b, hr] (fun j hj hd k hk => by
                by_cases y3 : j = 3
                · rw [if_pos y3] at hk; simp at hk; simp [hk]
                rw [if_neg y3] at hk
                by_cases y6 : j = 6
                · rw [if_pos y6] at hk; simp at hk; simp [hk]
                rw [if_neg y6] at hk
                by_cases y10 : j = 10
                · rw [if_pos y10] at hk; simp at hk; simp [hk]
                rw [if_neg y10] at hk
                cases hk)
              have d2 := hdep { on := 2, ground := .data } (by simp) rfl _ rfl
              obtain ⟨ysl, ha, hy⟩ := hL.puts [57, 58, 59, 60, 61, 62, 63, 64, 65, 66] (by kernel_rfl)
              have e2 : ysl 59 = _ := (hy 59).symm.trans d2
              clear hdep hL hy d2
              simp only [List.foldl, List.setIfInBounds_toArray, List.set_cons_succ, List.set_cons_zero, e2] at ha
              subst ha
              clear e2
              obtain ⟨M, hM, hR⟩ := hW
              refine wpOp_step rfl (fun K hK => ?_)
              go_simp
              refine (pick B M b _ u hR (by omega)).mono ?_
              rintro e u' ⟨x, x0, x1, rfl, r, g⟩
              go_simp
              exact hK _ _ ⟨_, rfl, (fun h => by cases h), ⟨x, x0, x1 (by omega), rfl⟩, but_row g, ⟨M + 1, by omega, r⟩⟩
            · cases ho
              intro fu act u hW hB hsz hL hdep
              replace hB := hB [b, hr] (fun j hj hd k hk => by
                by_cases y3 : j = 3
                · rw [if_pos y3] at hk; simp at hk; simp [hk]
                rw [if_neg y3] at hk
                by_cases y6 : j = 6
                · rw [if_pos y6] at hk; simp at hk; simp [hk]
                rw [if_neg y6] at hk
                by_cases y10 : j = 10
                · rw [if_pos y10] at hk; simp at hk; simp [hk]
                rw [if_neg y10] at hk
                cases hk)
              obtain ⟨ysl, ha, hy⟩ := hL.puts [57, 58, 59, 60, 61, 62, 63, 64, 65, 66] (by kernel_rfl)
              clear hdep hL hy
              simp only [List.foldl, List.setIfInBounds_toArray, List.set_cons_succ, List.set_cons_zero] at ha
              subst ha
              obtain ⟨M, hM, hR⟩ := hW
              refine wpOp_step rfl (fun K hK => ?_)
              go_simp
              refine hK _ _ ⟨_, rfl, (fun h => by cases h), ⟨u.heap.size, hsz, by simp, rfl, fun i hi => ?_⟩, But.of (Fr.alloc _ _), ⟨M, by omega, hR.alloc _⟩⟩
              have hi2 : i = 0 ∨ i = 1 := by omega
              rcases hi2 with rfl | rfl
              · exact ⟨_, trivial, by simp; rfl⟩
              · exact ⟨_, trivial, by simp; rfl⟩
            · cases ho
              intro fu act u hW hB hsz hL hdep
              replace hB := hB [b, hr] (fun j hj hd k hk => by
                by_cases y3 : j = 3
                · rw [if_pos y3] at hk; simp at hk; simp [hk]
                rw [if_neg y3] at hk
                by_cases y6 : j = 6
                · rw [if_pos y6] at hk; simp at hk; simp [hk]
                rw [if_neg y6] at hk
                by_cases y10 : j = 10
                · rw [if_pos y10] at hk; simp at hk; simp [hk]
                rw [if_neg y10] at hk
                cases hk)
              obtain ⟨ysl, ha, hy⟩ := hL.puts [57, 58, 59, 60, 61, 62, 63, 64, 65, 66] (by kernel_rfl)
              clear hdep hL hy
              simp only [List.foldl, List.setIfInBounds_toArray, List.set_cons_succ, List.set_cons_zero] at ha
              subst ha
              refine wpOp_step rfl (fun K hK => ?_)
              go_simp
              exact hK _ _ ⟨_, rfl, (fun h => by cases h), rfl, But.refl _ _, wd_pure hW⟩
            · cases ho
              intro fu act u hW hB hsz hL hdep
              replace hB := hB [b, hr] (fun j hj hd k hk => by
                by_cases y3 : j = 3
                · rw [if_pos y3] at hk; simp at hk; simp [hk]
                rw [if_neg y3] at hk
                by_cases y6 : j = 6
                · rw [if_pos y6] at hk; simp at hk; simp [hk]
                rw [if_neg y6] at hk
                by_cases y10 : j = 10
                · rw [if_pos y10] at hk; simp at hk; simp [hk]
                rw [if_neg y10] at hk
                cases hk)
              have d5 := hdep { on := 5, ground := .data } (by simp) rfl _ rfl
              obtain ⟨ysl, ha, hy⟩ := hL.puts [57, 58, 59, 60, 61, 62, 63, 64, 65, 66] (by kernel_rfl)
              have e5 : ysl 62 = _ := (hy 62).symm.trans d5
              clear hdep hL hy d5
              simp only [List.foldl, List.setIfInBounds_toArray, List.set_cons_succ, List.set_cons_zero, e5] at ha
              subst ha
              clear e5
              obtain ⟨M, hM, hR⟩ := hW
              refine wpOp_step rfl (fun K hK => ?_)
              go_simp
              refine (pick B M b _ u hR (by omega)).mono ?_
              rintro e u' ⟨x, x0, x1, rfl, r, g⟩
              go_simp
              exact hK _ _ ⟨_, rfl, (fun h => by cases h), ⟨x, x0, x1 (by omega), rfl⟩, but_row g, ⟨M + 1, by omega, r⟩⟩
            · cases ho
              intro fu act u hW hB hsz hL hdep
              replace hB := hB [b, hr] (fun j hj hd k hk => by
                by_cases y3 : j = 3
                · rw [if_pos y3] at hk; simp at hk; simp [hk]
                rw [if_neg y3] at hk
                by_cases y6 : j = 6
                · rw [if_pos y6] at hk; simp at hk; simp [hk]
                rw [if_neg y6] at hk
                by_cases y10 : j = 10
                · rw [if_pos y10] at hk; simp at hk; simp [hk]
                rw [if_neg y10] at hk
                cases hk)
              have d4 := hdep { on := 4, ground := .data } (by simp) rfl _ rfl
              have d6 := hdep { on := 6, ground := .data } (by simp) rfl _ rfl
              obtain ⟨ysl, ha, hy⟩ := hL.puts [57, 58, 59, 60, 61, 62, 63, 64, 65, 66] (by kernel_rfl)
              obtain ⟨g4, gw4, gl4, h4, hc4⟩ := d4
              have e4 : ysl 61 = .slice (some ⟨g4, 0, none⟩) 2 2 := (hy 61).symm.trans h4
              obtain ⟨x6, x60, x61, h6⟩ := d6
              have e6 : ysl 63 = .int .i64 x6 := (hy 63).symm.trans h6
              clear hdep hL hy h4 h6
              simp only [List.foldl, List.setIfInBounds_toArray, List.set_cons_succ, List.set_cons_zero, e4, e6] at ha
              subst ha
              clear e4 e6
              obtain ⟨n7, hn7, hc7⟩ := hc4 x6.toNat (by omega)
              refine wpOp_step rfl (fun K hK => ?_)
              go_simp
              exact hK _ _ ⟨_, rfl, (fun h => by cases h), ⟨g4, x6.toNat, gw4, gl4, rfl, n7, hn7, hc7⟩, But.refl _ _, wd_pure hW⟩
            · cases ho
              intro fu act u hW hB hsz hL hdep
              replace hB := hB [b, hr] (fun j hj hd k hk => by
                by_cases y3 : j = 3
                · rw [if_pos y3] at hk; simp at hk; simp [hk]
                rw [if_neg y3] at hk
                by_cases y6 : j = 6
                · rw [if_pos y6] at hk; simp at hk; simp [hk]
                rw [if_neg y6] at hk
                by_cases y10 : j = 10
                · rw [if_pos y10] at hk; simp at hk; simp [hk]
                rw [if_neg y10] at hk
                cases hk)
              have d7 := hdep { on := 7, ground := .data } (by simp) rfl _ rfl
              obtain ⟨ysl, ha, hy⟩ := hL.puts [57, 58, 59, 60, 61, 62, 63, 64, 65, 66] (by kernel_rfl)
              obtain ⟨g7, o7, gw7, gl7, h7, n7, hn7, hc7⟩ := d7
              have e7 : ysl 64 = .pointer (some ⟨g7, o7, none⟩) := (hy 64).symm.trans h7
              clear hdep hL hy h7
              simp only [List.foldl, List.setIfInBounds_toArray, List.set_cons_succ, List.set_cons_zero, e7] at ha
              subst ha
              clear e7
              refine wpOp_step rfl (fun K hK => ?_)
              go_simp
              exact hK _ _ ⟨_, rfl, (fun h => by cases h), ⟨n7, rfl⟩, But.refl _ _, wd_pure hW⟩
            · cases ho
              intro fu act u hW hB hsz hL hdep
              replace hB := hB [b, hr] (fun j hj hd k hk => by
                by_cases y3 : j = 3
                · rw [if_pos y3] at hk; simp at hk; simp [hk]
                rw [if_neg y3] at hk
                by_cases y6 : j = 6
                · rw [if_pos y6] at hk; simp at hk; simp [hk]
                rw [if_neg y6] at hk
                by_cases y10 : j = 10
                · rw [if_pos y10] at hk; simp at hk; simp [hk]
                rw [if_neg y10] at hk
                cases hk)
              have d1 := hdep { on := 1, ground := .data } (by simp) rfl _ rfl
              have d3 := hdep { on := 3, ground := .data } (by simp) rfl _ rfl
              obtain ⟨ysl, ha, hy⟩ := hL.puts [57, 58, 59, 60, 61, 62, 63, 64, 65, 66] (by kernel_rfl)
              have e1 : ysl 58 = _ := (hy 58).symm.trans d1
              obtain ⟨x3, x30, x31, h3⟩ := d3
              have e3 : ysl 60 = .int .i64 x3 := (hy 60).symm.trans h3
              clear hdep hL hy d1 h3
              simp only [List.foldl, List.setIfInBounds_toArray, List.set_cons_succ, List.set_cons_zero, e1, e3] at ha
              subst ha
              clear e1 e3
              refine wpOp_step rfl (fun K hK => ?_)
              go_simp
              exact hK _ _ ⟨_, rfl, (fun h => by cases h), ⟨x3, x30, x31, rfl⟩, But.refl _ _, wd_pure hW⟩
            · cases ho
              intro fu act u hW hB hsz hL hdep
              replace hB := hB [b] (fun j hj hd k hk => by
                by_cases x10 : j = 10
                · exact absurd x10 hj
                by_cases y3 : j = 3
                · rw [if_pos y3] at hk; simp at hk; simp [hk]
                rw [if_neg y3] at hk
                by_cases y6 : j = 6
                · rw [if_pos y6] at hk; simp at hk; simp [hk]
                rw [if_neg y6] at hk
                rw [if_neg x10] at hk
                cases hk)
              have d8 := hdep { on := 8, ground := .data } (by simp) rfl _ rfl
              have d9 := hdep { on := 9, ground := .data } (by simp) rfl _ rfl
              obtain ⟨ysl, ha, hy⟩ := hL.puts [57, 58, 59, 60, 61, 62, 63, 64, 65, 66] (by kernel_rfl)
              obtain ⟨x8, h8⟩ := d8
              have e8 : ysl 65 = .int .i64 x8 := (hy 65).symm.trans h8
              obtain ⟨x9, x90, x91, h9⟩ := d9
              have e9 : ysl 66 = .pointer (some ⟨hr, x9.toNat, none⟩) := (hy 66).symm.trans h9
              clear hdep hL hy h8 h9
              simp only [List.foldl, List.setIfInBounds_toArray, List.set_cons_succ, List.set_cons_zero, e8, e9] at ha
              subst ha
              clear e8 e9
              obtain ⟨M, hM, hR⟩ := hW
              have Ow := HL.out.ow.but hB (by simp; omega) (by simp; omega) (by simp; omega)
              have cx := Ow.R.cel x9.toNat (by rw [HL.out.lr]; omega)
              have fx := Ow.R.fro x9.toNat (by rw [HL.out.lr]; omega)
              refine wpOp_step rfl (fun K hK => ?_)
              go_simp
              exact hK _ _ ⟨undef, rfl, (fun _ => rfl), ⟨⟨s.pc, s.R.set x9.toNat x8, s.C, s.M⟩, rfl, by simp [HL.out.lr], by simp [HL.out.lc], by simp [HL.out.lm], Ow.setR x9.toNat x8 (by rw [HL.out.lr]; omega) s.pc, (HL.out.ca.but hB (by simp; omega)).set hr x9.toNat (.int .i64 x8)⟩, (But.refl [hr] u).set hr x9.toNat (.int .i64 x8) (.inl (by simp)), ⟨M, by omega, hR.setOther _ _ _ (by omega)⟩⟩
            · exact absurd ho (by simp)
          case fin =>
            intro act u hW hsz hB hL hsf
            replace hB := hB [b, hr] (fun j k hk => by
              by_cases y3 : j = 3
              · rw [if_pos y3] at hk; simp at hk; simp [hk]
              rw [if_neg y3] at hk
              by_cases y6 : j = 6
              · rw [if_pos y6] at hk; simp at hk; simp [hk]
              rw [if_neg y6] at hk
              by_cases y10 : j = 10
              · rw [if_pos y10] at hk; simp at hk; simp [hk]
              rw [if_neg y10] at hk
              cases hk)
            have d10 := hsf 10 _ rfl
            obtain ⟨ysl, ha, hy⟩ := hL.puts [57, 58, 59, 60, 61, 62, 63, 64, 65, 66] (by kernel_rfl)
            clear hL hsf hy
            simp only [List.foldl, List.setIfInBounds_toArray, List.set_cons_succ, List.set_cons_zero] at ha
            subst ha
            obtain ⟨M, hM, hR⟩ := hW
            obtain ⟨s2, hP2⟩ := HL.out.row hR hB (fun k m => by simp at m; omega) d10
            have HP := Lib.hid hP2
            clear hB hR d10 hP2 HL
            have HQ := Lib.hid HP.out.lq
            obtain ⟨_, y0, y1, y2, y3, _, _, _, _⟩ := HQ.out.bs
            obtain ⟨_, z0, z1, z2, z3, o0, o1, o2, o3⟩ := HQ.out.bz
            have nzs : ¬ S = w.heap.size := by have := HQ.out.zs; omega
            have nzs2 : ¬ w.heap.size = S := by have := HQ.out.zs; omega
            go_wp2_with fail
            refine bodyPost_ret (v := .agg #[.int .i64 s2.pc, .slice (some ⟨hr, 0, none⟩) s2.R.length c1, .slice (some ⟨hc, 0, none⟩) s2.C.length c2, .slice (some ⟨hm, 0, none⟩) s2.M.length c3]) (by simp [results, Try.results35, go_sem, z0, z1, z2, z3]) rfl (HQ.out.done (by omega) _ _ _ _)
        · go_wp2_with fail
          have zs := HL.out.zs
          have zr := HL.out.zr
          have zc := HL.out.zc
          have zm := HL.out.zm
          have sr := HL.out.sr
          have sc := HL.out.sc
          have sm := HL.out.sm
          have lS := HL.out.bs.lt
          have lr := HL.out.ow.R.lt
          have lc := HL.out.ow.C.lt
          have lm := HL.out.ow.M.lt
          refine wp_region_lots 93 (fun i => if i = 3 then [b] else if i = 6 then [b] else if i = 10 then [hc] else []) (RdF B b (M0 + 200)) (swSF u6.heap.size b S 2 hc (.slice (some ⟨hc, 0, none⟩) 5 c2) 5 (SetP hr hc hm c1 s)) ?mono (by kernel_rfl) (by kernel_rfl) rfl (by kernel_rfl) (rdF_start (f := 11) HL.out.rd (by omega)) ?step ?fin
          case mono =>
            intro i j v u u' hij hsz h hB
            have hB2 : But (if i = 3 then [b] else if i = 6 then [b] else if i = 10 then [hc] else []) u u' := hB
            have hLk : ∀ k, k ∈ (if i = 3 then [b] else if i = 6 then [b] else if i = 10 then [hc] else []) → k < u6.heap.size := by
              intro k hk
              by_cases y3 : i = 3
              · rw [if_pos y3] at hk; simp at hk; omega
              rw [if_neg y3] at hk
              by_cases y6 : i = 6
              · rw [if_pos y6] at hk; simp at hk; omega
              rw [if_neg y6] at hk
              by_cases y10 : i = 10
              · rw [if_pos y10] at hk; simp at hk; omega
              rw [if_neg y10] at hk
              cases hk
            rcases j with _ | _ | _ | _ | _ | _ | _ | _ | _ | _ | _ | j
            · exact h
            · exact h
            · exact h
            · exact h
            · exact RowP.but h hB2 hLk
            · exact h
            · exact h
            · exact CelP.but h hB2 hLk
            · exact h
            · exact h
            · have hne : ∀ g, g ≠ b → g ∉ (if i = 3 then [b] else if i = 6 then [b] else if i = 10 then [hc] else []) := by
                intro g hg hm
                by_cases y3 : i = 3
                · rw [if_pos y3] at hm; simp at hm; omega
                rw [if_neg y3] at hm
                by_cases y6 : i = 6
                · rw [if_pos y6] at hm; simp at hm; omega
                rw [if_neg y6] at hm
                rw [if_neg hij] at hm
                cases hm
              exact SetP.but h hB2 (hne _ (by omega)) (hne _ (by omega)) (hne _ (by omega))
            · trivial
          case step =>
            intro i o ho
            rcases i with _ | _ | _ | _ | _ | _ | _ | _ | _ | _ | _ | i
            · cases ho
              intro fu act u hW hB hsz hL hdep
              replace hB := hB [b, hc] (fun j hj hd k hk => by
                by_cases y3 : j = 3
                · rw [if_pos y3] at hk; simp at hk; simp [hk]
                rw [if_neg y3] at hk
                by_cases y6 : j = 6
                · rw [if_pos y6] at hk; simp at hk; simp [hk]
                rw [if_neg y6] at hk
                by_cases y10 : j = 10
                · rw [if_pos y10] at hk; simp at hk; simp [hk]
                rw [if_neg y10] at hk
                cases hk)
              obtain ⟨ysl, ha, hy⟩ := hL.puts [69, 70, 71, 72, 73, 74, 75, 76, 77, 78] (by kernel_rfl)
              clear hdep hL hy
              simp only [List.foldl, List.setIfInBounds_toArray, List.set_cons_succ, List.set_cons_zero] at ha
              subst ha
              refine wpOp_step rfl (fun K hK => ?_)
              go_simp
              exact hK _ _ ⟨_, rfl, (fun h => by cases h), rfl, But.refl _ _, wd_pure hW⟩
            · cases ho
              intro fu act u hW hB hsz hL hdep
              replace hB := hB [b, hc] (fun j hj hd k hk => by
                by_cases y3 : j = 3
                · rw [if_pos y3] at hk; simp at hk; simp [hk]
                rw [if_neg y3] at hk
                by_cases y6 : j = 6
                · rw [if_pos y6] at hk; simp at hk; simp [hk]
                rw [if_neg y6] at hk
                by_cases y10 : j = 10
                · rw [if_pos y10] at hk; simp at hk; simp [hk]
                rw [if_neg y10] at hk
                cases hk)
              have d0 := hdep { on := 0, ground := .data } (by simp) rfl _ rfl
              obtain ⟨ysl, ha, hy⟩ := hL.puts [69, 70, 71, 72, 73, 74, 75, 76, 77, 78] (by kernel_rfl)
              have e0 : ysl 69 = _ := (hy 69).symm.trans d0
              clear hdep hL hy d0
              simp only [List.foldl, List.setIfInBounds_toArray, List.set_cons_succ, List.set_cons_zero, e0] at ha
              subst ha
              clear e0
              have Bx := HL.out.bs.but hB (by simp; omega)
              obtain ⟨_, c0, c1, c2, c3, _, _, _, _⟩ := Bx
              refine wpOp_step rfl (fun K hK => ?_)
              go_simp
              exact hK _ _ ⟨_, rfl, (fun h => by cases h), rfl, But.refl _ _, wd_pure hW⟩
            · cases ho
              intro fu act u hW hB hsz hL hdep
              replace hB := hB [b, hc] (fun j hj hd k hk => by
                by_cases y3 : j = 3
                · rw [if_pos y3] at hk; simp at hk; simp [hk]
                rw [if_neg y3] at hk
                by_cases y6 : j = 6
                · rw [if_pos y6] at hk; simp at hk; simp [hk]
                rw [if_neg y6] at hk
                by_cases y10 : j = 10
                · rw [if_pos y10] at hk; simp at hk; simp [hk]
                rw [if_neg y10] at hk
                cases hk)
              obtain ⟨ysl, ha, hy⟩ := hL.puts [69, 70, 71, 72, 73, 74, 75, 76, 77, 78] (by kernel_rfl)
              clear hdep hL hy
              simp only [List.foldl, List.setIfInBounds_toArray, List.set_cons_succ, List.set_cons_zero] at ha
              subst ha
              refine wpOp_step rfl (fun K hK => ?_)
              go_simp
              exact hK _ _ ⟨_, rfl, (fun h => by cases h), rfl, But.refl _ _, wd_pure hW⟩
            · cases ho
              intro fu act u hW hB hsz hL hdep
              replace hB := hB [b, hc] (fun j hj hd k hk => by
                by_cases y3 : j = 3
                · rw [if_pos y3] at hk; simp at hk; simp [hk]
                rw [if_neg y3] at hk
                by_cases y6 : j = 6
                · rw [if_pos y6] at hk; simp at hk; simp [hk]
                rw [if_neg y6] at hk
                by_cases y10 : j = 10
                · rw [if_pos y10] at hk; simp at hk; simp [hk]
                rw [if_neg y10] at hk
                cases hk)
              have d2 := hdep { on := 2, ground := .data } (by simp) rfl _ rfl
              obtain ⟨ysl, ha, hy⟩ := hL.puts [69, 70, 71, 72, 73, 74, 75, 76, 77, 78] (by kernel_rfl)
              have e2 : ysl 71 = _ := (hy 71).symm.trans d2
              clear hdep hL hy d2
              simp only [List.foldl, List.setIfInBounds_toArray, List.set_cons_succ, List.set_cons_zero, e2] at ha
              subst ha
              clear e2
              obtain ⟨M, hM, hR⟩ := hW
              refine wpOp_step rfl (fun K hK => ?_)
              go_simp
              refine (pick B M b _ u hR (by omega)).mono ?_
              rintro e u' ⟨x, x0, x1, rfl, r, g⟩
              go_simp
              exact hK _ _ ⟨_, rfl, (fun h => by cases h), ⟨x, x0, x1 (by omega), rfl⟩, but_row g, ⟨M + 1, by omega, r⟩⟩
            · cases ho
              intro fu act u hW hB hsz hL hdep
              replace hB := hB [b, hc] (fun j hj hd k hk => by
                by_cases y3 : j = 3
                · rw [if_pos y3] at hk; simp at hk; simp [hk]
                rw [if_neg y3] at hk
                by_cases y6 : j = 6
                · rw [if_pos y6] at hk; simp at hk; simp [hk]
                rw [if_neg y6] at hk
                by_cases y10 : j = 10
                · rw [if_pos y10] at hk; simp at hk; simp [hk]
                rw [if_neg y10] at hk
                cases hk)
              obtain ⟨ysl, ha, hy⟩ := hL.puts [69, 70, 71, 72, 73, 74, 75, 76, 77, 78] (by kernel_rfl)
              clear hdep hL hy
              simp only [List.foldl, List.setIfInBounds_toArray, List.set_cons_succ, List.set_cons_zero] at ha
              subst ha
              obtain ⟨M, hM, hR⟩ := hW
              refine wpOp_step rfl (fun K hK => ?_)
              go_simp
              refine hK _ _ ⟨_, rfl, (fun h => by cases h), ⟨u.heap.size, hsz, by simp, rfl, fun i hi => ?_⟩, But.of (Fr.alloc _ _), ⟨M, by omega, hR.alloc _⟩⟩
              have hi2 : i = 0 ∨ i = 1 := by omega
              rcases hi2 with rfl | rfl
              · exact ⟨_, trivial, by simp; rfl⟩
              · exact ⟨_, trivial, by simp; rfl⟩
            · cases ho
              intro fu act u hW hB hsz hL hdep
              replace hB := hB [b, hc] (fun j hj hd k hk => by
                by_cases y3 : j = 3
                · rw [if_pos y3] at hk; simp at hk; simp [hk]
                rw [if_neg y3] at hk
                by_cases y6 : j = 6
                · rw [if_pos y6] at hk; simp at hk; simp [hk]
                rw [if_neg y6] at hk
                by_cases y10 : j = 10
                · rw [if_pos y10] at hk; simp at hk; simp [hk]
                rw [if_neg y10] at hk
                cases hk)
              obtain ⟨ysl, ha, hy⟩ := hL.puts [69, 70, 71, 72, 73, 74, 75, 76, 77, 78] (by kernel_rfl)
              clear hdep hL hy
              simp only [List.foldl, List.setIfInBounds_toArray, List.set_cons_succ, List.set_cons_zero] at ha
              subst ha
              refine wpOp_step rfl (fun K hK => ?_)
              go_simp
              exact hK _ _ ⟨_, rfl, (fun h => by cases h), rfl, But.refl _ _, wd_pure hW⟩
            · cases ho
              intro fu act u hW hB hsz hL hdep
              replace hB := hB [b, hc] (fun j hj hd k hk => by
                by_cases y3 : j = 3
                · rw [if_pos y3] at hk; simp at hk; simp [hk]
                rw [if_neg y3] at hk
                by_cases y6 : j = 6
                · rw [if_pos y6] at hk; simp at hk; simp [hk]
                rw [if_neg y6] at hk
                by_cases y10 : j = 10
                · rw [if_pos y10] at hk; simp at hk; simp [hk]
                rw [if_neg y10] at hk
                cases hk)
              have d5 := hdep { on := 5, ground := .data } (by simp) rfl _ rfl
              obtain ⟨ysl, ha, hy⟩ := hL.puts [69, 70, 71, 72, 73, 74, 75, 76, 77, 78] (by kernel_rfl)
              have e5 : ysl 74 = _ := (hy 74).symm.trans d5
              clear hdep hL hy d5
              simp only [List.foldl, List.setIfInBounds_toArray, List.set_cons_succ, List.set_cons_zero, e5] at ha
              subst ha
              clear e5
              obtain ⟨M, hM, hR⟩ := hW
              refine wpOp_step rfl (fun K hK => ?_)
              go_simp
              refine (pick B M b _ u hR (by omega)).mono ?_
              rintro e u' ⟨x, x0, x1, rfl, r, g⟩
              go_simp
              exact hK _ _ ⟨_, rfl, (fun h => by cases h), ⟨x, x0, x1 (by omega), rfl⟩, but_row g, ⟨M + 1, by omega, r⟩⟩
            · cases ho
              intro fu act u hW hB hsz hL hdep
              replace hB := hB [b, hc] (fun j hj hd k hk => by
                by_cases y3 : j = 3
                · rw [if_pos y3] at hk; simp at hk; simp [hk]
                rw [if_neg y3] at hk
                by_cases y6 : j = 6
                · rw [if_pos y6] at hk; simp at hk; simp [hk]
                rw [if_neg y6] at hk
                by_cases y10 : j = 10
                · rw [if_pos y10] at hk; simp at hk; simp [hk]
                rw [if_neg y10] at hk
                cases hk)
              have d4 := hdep { on := 4, ground := .data } (by simp) rfl _ rfl
              have d6 := hdep { on := 6, ground := .data } (by simp) rfl _ rfl
              obtain ⟨ysl, ha, hy⟩ := hL.puts [69, 70, 71, 72, 73, 74, 75, 76, 77, 78] (by kernel_rfl)
              obtain ⟨g4, gw4, gl4, h4, hc4⟩ := d4
              have e4 : ysl 73 = .slice (some ⟨g4, 0, none⟩) 2 2 := (hy 73).symm.trans h4
              obtain ⟨x6, x60, x61, h6⟩ := d6
              have e6 : ysl 75 = .int .i64 x6 := (hy 75).symm.trans h6
              clear hdep hL hy h4 h6
              simp only [List.foldl, List.setIfInBounds_toArray, List.set_cons_succ, List.set_cons_zero, e4, e6] at ha
              subst ha
              clear e4 e6
              obtain ⟨n7, hn7, hc7⟩ := hc4 x6.toNat (by omega)
              refine wpOp_step rfl (fun K hK => ?_)
              go_simp
              exact hK _ _ ⟨_, rfl, (fun h => by cases h), ⟨g4, x6.toNat, gw4, gl4, rfl, n7, hn7, hc7⟩, But.refl _ _, wd_pure hW⟩
            · cases ho
              intro fu act u hW hB hsz hL hdep
              replace hB := hB [b, hc] (fun j hj hd k hk => by
                by_cases y3 : j = 3
                · rw [if_pos y3] at hk; simp at hk; simp [hk]
                rw [if_neg y3] at hk
                by_cases y6 : j = 6
                · rw [if_pos y6] at hk; simp at hk; simp [hk]
                rw [if_neg y6] at hk
                by_cases y10 : j = 10
                · rw [if_pos y10] at hk; simp at hk; simp [hk]
                rw [if_neg y10] at hk
                cases hk)
              have d7 := hdep { on := 7, ground := .data } (by simp) rfl _ rfl
              obtain ⟨ysl, ha, hy⟩ := hL.puts [69, 70, 71, 72, 73, 74, 75, 76, 77, 78] (by kernel_rfl)
              obtain ⟨g7, o7, gw7, gl7, h7, n7, hn7, hc7⟩ := d7
              have e7 : ysl 76 = .pointer (some ⟨g7, o7, none⟩) := (hy 76).symm.trans h7
              clear hdep hL hy h7
              simp only [List.foldl, List.setIfInBounds_toArray, List.set_cons_succ, List.set_cons_zero, e7] at ha
              subst ha
              clear e7
              refine wpOp_step rfl (fun K hK => ?_)
              go_simp
              exact hK _ _ ⟨_, rfl, (fun h => by cases h), ⟨n7, rfl⟩, But.refl _ _, wd_pure hW⟩
            · cases ho
              intro fu act u hW hB hsz hL hdep
              replace hB := hB [b, hc] (fun j hj hd k hk => by
                by_cases y3 : j = 3
                · rw [if_pos y3] at hk; simp at hk; simp [hk]
                rw [if_neg y3] at hk
                by_cases y6 : j = 6
                · rw [if_pos y6] at hk; simp at hk; simp [hk]
                rw [if_neg y6] at hk
                by_cases y10 : j = 10
                · rw [if_pos y10] at hk; simp at hk; simp [hk]
                rw [if_neg y10] at hk
                cases hk)
              have d1 := hdep { on := 1, ground := .data } (by simp) rfl _ rfl
              have d3 := hdep { on := 3, ground := .data } (by simp) rfl _ rfl
              obtain ⟨ysl, ha, hy⟩ := hL.puts [69, 70, 71, 72, 73, 74, 75, 76, 77, 78] (by kernel_rfl)
              have e1 : ysl 70 = _ := (hy 70).symm.trans d1
              obtain ⟨x3, x30, x31, h3⟩ := d3
              have e3 : ysl 72 = .int .i64 x3 := (hy 72).symm.trans h3
              clear hdep hL hy d1 h3
              simp only [List.foldl, List.setIfInBounds_toArray, List.set_cons_succ, List.set_cons_zero, e1, e3] at ha
              subst ha
              clear e1 e3
              refine wpOp_step rfl (fun K hK => ?_)
              go_simp
              exact hK _ _ ⟨_, rfl, (fun h => by cases h), ⟨x3, x30, x31, rfl⟩, But.refl _ _, wd_pure hW⟩
            · cases ho
              intro fu act u hW hB hsz hL hdep
              replace hB := hB [b] (fun j hj hd k hk => by
                by_cases x10 : j = 10
                · exact absurd x10 hj
                by_cases y3 : j = 3
                · rw [if_pos y3] at hk; simp at hk; simp [hk]
                rw [if_neg y3] at hk
                by_cases y6 : j = 6
                · rw [if_pos y6] at hk; simp at hk; simp [hk]
                rw [if_neg y6] at hk
                rw [if_neg x10] at hk
                cases hk)
              have d8 := hdep { on := 8, ground := .data } (by simp) rfl _ rfl
              have d9 := hdep { on := 9, ground := .data } (by simp) rfl _ rfl
              obtain ⟨ysl, ha, hy⟩ := hL.puts [69, 70, 71, 72, 73, 74, 75, 76, 77, 78] (by kernel_rfl)
              obtain ⟨x8, h8⟩ := d8
              have e8 : ysl 77 = .int .i64 x8 := (hy 77).symm.trans h8
              obtain ⟨x9, x90, x91, h9⟩ := d9
              have e9 : ysl 78 = .pointer (some ⟨hc, x9.toNat, none⟩) := (hy 78).symm.trans h9
              clear hdep hL hy h8 h9
              simp only [List.foldl, List.setIfInBounds_toArray, List.set_cons_succ, List.set_cons_zero, e8, e9] at ha
              subst ha
              clear e8 e9
              obtain ⟨M, hM, hR⟩ := hW
              have Ow := HL.out.ow.but hB (by simp; omega) (by simp; omega) (by simp; omega)
              have cx := Ow.C.cel x9.toNat (by rw [HL.out.lc]; omega)
              have fx := Ow.C.fro x9.toNat (by rw [HL.out.lc]; omega)
              refine wpOp_step rfl (fun K hK => ?_)
              go_simp
              exact hK _ _ ⟨undef, rfl, (fun _ => rfl), ⟨⟨s.pc, s.R, s.C.set x9.toNat x8, s.M⟩, rfl, by simp [HL.out.lr], by simp [HL.out.lc], by simp [HL.out.lm], Ow.setC x9.toNat x8 (by rw [HL.out.lc]; omega) s.pc, (HL.out.ca.but hB (by simp; omega)).set hc x9.toNat (.int .i64 x8)⟩, (But.refl [hc] u).set hc x9.toNat (.int .i64 x8) (.inl (by simp)), ⟨M, by omega, hR.setOther _ _ _ (by omega)⟩⟩
            · exact absurd ho (by simp)
          case fin =>
            intro act u hW hsz hB hL hsf
            replace hB := hB [b, hc] (fun j k hk => by
              by_cases y3 : j = 3
              · rw [if_pos y3] at hk; simp at hk; simp [hk]
              rw [if_neg y3] at hk
              by_cases y6 : j = 6
              · rw [if_pos y6] at hk; simp at hk; simp [hk]
              rw [if_neg y6] at hk
              by_cases y10 : j = 10
              · rw [if_pos y10] at hk; simp at hk; simp [hk]
              rw [if_neg y10] at hk
              cases hk)
            have d10 := hsf 10 _ rfl
            obtain ⟨ysl, ha, hy⟩ := hL.puts [69, 70, 71, 72, 73, 74, 75, 76, 77, 78] (by kernel_rfl)
            clear hL hsf hy
            simp only [List.foldl, List.setIfInBounds_toArray, List.set_cons_succ, List.set_cons_zero] at ha
            subst ha
            obtain ⟨M, hM, hR⟩ := hW
            obtain ⟨s2, hP2⟩ := HL.out.row hR hB (fun k m => by simp at m; omega) d10
            have HP := Lib.hid hP2
            clear hB hR d10 hP2 HL
            have HQ := Lib.hid HP.out.lq
            obtain ⟨_, y0, y1, y2, y3, _, _, _, _⟩ := HQ.out.bs
            obtain ⟨_, z0, z1, z2, z3, o0, o1, o2, o3⟩ := HQ.out.bz
            have nzs : ¬ S = w.heap.size := by have := HQ.out.zs; omega
            have nzs2 : ¬ w.heap.size = S := by have := HQ.out.zs; omega
            go_wp2_with fail
            refine bodyPost_ret (v := .agg #[.int .i64 s2.pc, .slice (some ⟨hr, 0, none⟩) s2.R.length c1, .slice (some ⟨hc, 0, none⟩) s2.C.length c2, .slice (some ⟨hm, 0, none⟩) s2.M.length c3]) (by simp [results, Try.results35, go_sem, z0, z1, z2, z3]) rfl (HQ.out.done (by omega) _ _ _ _)
        · obtain ⟨_, y0, y1, y2, y3, z0, z1, z2, z3⟩ := HL.out.bs
          by_cases hcm : c3 = 1
          · subst hcm
            go_upto_region 22 with fail
            have HQ := Lib.hid (HL.out.cut (some ⟨hm, 0, none⟩) 0 (s.M.take 255) (by simp [HL.out.lm]) (fun L u' f hn => src_take (HL.out.ow.M.but f hn) HL.out.lm))
            clear y0 y1 y2 y3 z0 z1 z2 z3
            generalize (u6.setCell ⟨S, 3, none⟩ (.slice (some ⟨hm, 0, none⟩) 255 0)) = u9 at *
            obtain ⟨_, y0, y1, y2, y3, _, _, _, _⟩ := HQ.out.bs
            obtain ⟨_, z0, z1, z2, z3, o0, o1, o2, o3⟩ := HQ.out.bz
            have nzs : ¬ S = w.heap.size := by have := HQ.out.zs; omega
            have nzs2 : ¬ w.heap.size = S := by have := HQ.out.zs; omega
            go_wp2_with fail
            refine bodyPost_ret (v := .agg #[.int .i64 s.pc, .slice (some ⟨hr, 0, none⟩) s.R.length c1, .slice (some ⟨hc, 0, none⟩) s.C.length c2, .slice (some ⟨hm, 0, none⟩) (s.M.take 255).length 0]) (by simp [results, Try.results35, go_sem, z0, z1, z2, z3]) rfl (HQ.out.done (by omega) _ _ _ _)
          · go_upto_region 22 with fail
            have HQ := Lib.hid (HL.out.cut (some ⟨hm, 1, none⟩) (c3 - 1) (s.M.drop 1) (by simp [HL.out.lm]) (fun L u' f hn => src_drop (HL.out.ow.M.but f hn) HL.out.lm))
            clear y0 y1 y2 y3 z0 z1 z2 z3
            generalize (u6.setCell ⟨S, 3, none⟩ (.slice (some ⟨hm, 1, none⟩) 255 (c3 - 1))) = u9 at *
            obtain ⟨_, y0, y1, y2, y3, _, _, _, _⟩ := HQ.out.bs
            obtain ⟨_, z0, z1, z2, z3, o0, o1, o2, o3⟩ := HQ.out.bz
            have nzs : ¬ S = w.heap.size := by have := HQ.out.zs; omega
            have nzs2 : ¬ w.heap.size = S := by have := HQ.out.zs; omega
            go_wp2_with fail
            refine bodyPost_ret (v := .agg #[.int .i64 s.pc, .slice (some ⟨hr, 0, none⟩) s.R.length c1, .slice (some ⟨hc, 0, none⟩) s.C.length c2, .slice (some ⟨hm, 1, none⟩) (s.M.drop 1).length (c3 - 1)]) (by simp [results, Try.results35, go_sem, z0, z1, z2, z3]) rfl (HQ.out.done (by omega) _ _ _ _)
        · obtain ⟨_, y0, y1, y2, y3, z0, z1, z2, z3⟩ := HL.out.bs
          have hca := HL.out.ca
          have hlr := HL.out.lr
          rw [← hlr] at hca
          have how := ca_own (B := S + 1) hca HL.out.ow.R HL.out.sr
          rw [hlr] at how
          have HOW := Lib.hid how
          have hSl := HL.out.bs.lt
          have hzs := HL.out.zs
          have hsr := HL.out.sr
          clear how hca hlr
          have m1 : ¬ S = u6.heap.size := by omega
          have m2 : ¬ u6.heap.size = S := by omega
          go_upto_region 22 with (at_builtin; refine wpList_append_own _ rfl _ _ 22 rfl (S + 1) 3 i0 (.int .i64 0) 1 8 Try.underlying22 hi hz0 hz1 hz2 rfl (by decide) _ _ _ rfl (World.ownsRow.alloc HOW.out _) _ 1 1 [.int .i64 0] rfl rfl (cell_str_at _ _ _ _ (by simp)) (fun x hx => by simp at hx; subst hx; rfl) (show 8 + 1 ≤ maxLen by omega) (by omega) (by simp; omega) ?_; intro v1 w7 hown1 hg1 _; have HA := Lib.hid (HL.out.app hown1 hg1); obtain ⟨ao, cap, hv, hq, hbx⟩ := HA.out; subst hv; obtain ⟨_, p0, p1, p2, p3, o0, o1, o2, o3⟩ := hbx; clear hown1 hg1 y0 y1 y2 y3 z0 z1 z2 z3)
          have HQ := Lib.hid hq
          clear p0 p1 p2 p3 o0 o1 o2 o3 HA hq
          generalize (w7.setCell ⟨S, 1, none⟩ (.slice ao 9 cap)) = u9 at *
          obtain ⟨_, y0, y1, y2, y3, _, _, _, _⟩ := HQ.out.bs
          obtain ⟨_, z0, z1, z2, z3, o0, o1, o2, o3⟩ := HQ.out.bz
          have nzs : ¬ S = w.heap.size := by have := HQ.out.zs; omega
          have nzs2 : ¬ w.heap.size = S := by have := HQ.out.zs; omega
          go_wp2_with fail
          refine bodyPost_ret (v := .agg #[.int .i64 s.pc, .slice ao (s.R ++ [0]).length cap, .slice (some ⟨hc, 0, none⟩) s.C.length c2, .slice (some ⟨hm, 0, none⟩) s.M.length c3]) (by simp [results, Try.results35, go_sem, z0, z1, z2, z3]) rfl (HQ.out.done (by omega) _ _ _ _)
        · go_wp2_with fail
          have zs := HL.out.zs
          have zr := HL.out.zr
          have zc := HL.out.zc
          have zm := HL.out.zm
          have sr := HL.out.sr
          have sc := HL.out.sc
          have sm := HL.out.sm
          have lS := HL.out.bs.lt
          have lr := HL.out.ow.R.lt
          have lc := HL.out.ow.C.lt
          have lm := HL.out.ow.M.lt
          refine wp_region_lots 93 (fun i => if i = 3 then [b] else if i = 5 then [hm] else []) (RdF B b (M0 + 200)) (smSF b S hm (.slice (some ⟨hm, 0, none⟩) 256 c3) (SetP hr hc hm c1 s)) ?mono (by kernel_rfl) (by kernel_rfl) rfl (by kernel_rfl) (rdF_start (f := 6) HL.out.rd (by omega)) ?step ?fin
          case mono =>
            intro i j v u u' hij hsz h hB
            have hB2 : But (if i = 3 then [b] else if i = 5 then [hm] else []) u u' := hB
            have hLk : ∀ k, k ∈ (if i = 3 then [b] else if i = 5 then [hm] else []) → k < u6.heap.size := by
              intro k hk
              by_cases y3 : i = 3
              · rw [if_pos y3] at hk; simp at hk; omega
              rw [if_neg y3] at hk
              by_cases y5 : i = 5
              · rw [if_pos y5] at hk; simp at hk; omega
              rw [if_neg y5] at hk
              cases hk
            rcases j with _ | _ | _ | _ | _ | _ | j
            · exact h
            · exact h
            · exact h
            · exact h
            · exact h
            · have hne : ∀ g, g ≠ b → g ∉ (if i = 3 then [b] else if i = 5 then [hm] else []) := by
                intro g hg hm
                by_cases y3 : i = 3
                · rw [if_pos y3] at hm; simp at hm; omega
                rw [if_neg y3] at hm
                rw [if_neg hij] at hm
                cases hm
              exact SetP.but h hB2 (hne _ (by omega)) (hne _ (by omega)) (hne _ (by omega))
            · trivial
          case step =>
            intro i o ho
            rcases i with _ | _ | _ | _ | _ | _ | i
            · cases ho
              intro fu act u hW hB hsz hL hdep
              replace hB := hB [b, hm] (fun j hj hd k hk => by
                by_cases y3 : j = 3
                · rw [if_pos y3] at hk; simp at hk; simp [hk]
                rw [if_neg y3] at hk
                by_cases y5 : j = 5
                · rw [if_pos y5] at hk; simp at hk; simp [hk]
                rw [if_neg y5] at hk
                cases hk)
              obtain ⟨ysl, ha, hy⟩ := hL.puts [45, 46, 47, 48, 49] (by kernel_rfl)
              clear hdep hL hy
              simp only [List.foldl, List.setIfInBounds_toArray, List.set_cons_succ, List.set_cons_zero] at ha
              subst ha
              refine wpOp_step rfl (fun K hK => ?_)
              go_simp
              exact hK _ _ ⟨_, rfl, (fun h => by cases h), rfl, But.refl _ _, wd_pure hW⟩
            · cases ho
              intro fu act u hW hB hsz hL hdep
              replace hB := hB [b, hm] (fun j hj hd k hk => by
                by_cases y3 : j = 3
                · rw [if_pos y3] at hk; simp at hk; simp [hk]
                rw [if_neg y3] at hk
                by_cases y5 : j = 5
                · rw [if_pos y5] at hk; simp at hk; simp [hk]
                rw [if_neg y5] at hk
                cases hk)
              have d0 := hdep { on := 0, ground := .data } (by simp) rfl _ rfl
              obtain ⟨ysl, ha, hy⟩ := hL.puts [45, 46, 47, 48, 49] (by kernel_rfl)
              have e0 : ysl 45 = _ := (hy 45).symm.trans d0
              clear hdep hL hy d0
              simp only [List.foldl, List.setIfInBounds_toArray, List.set_cons_succ, List.set_cons_zero, e0] at ha
              subst ha
              clear e0
              have Bx := HL.out.bs.but hB (by simp; omega)
              obtain ⟨_, c0, c1, c2, c3, _, _, _, _⟩ := Bx
              refine wpOp_step rfl (fun K hK => ?_)
              go_simp
              exact hK _ _ ⟨_, rfl, (fun h => by cases h), rfl, But.refl _ _, wd_pure hW⟩
            · cases ho
              intro fu act u hW hB hsz hL hdep
              replace hB := hB [b, hm] (fun j hj hd k hk => by
                by_cases y3 : j = 3
                · rw [if_pos y3] at hk; simp at hk; simp [hk]
                rw [if_neg y3] at hk
                by_cases y5 : j = 5
                · rw [if_pos y5] at hk; simp at hk; simp [hk]
                rw [if_neg y5] at hk
                cases hk)
              obtain ⟨ysl, ha, hy⟩ := hL.puts [45, 46, 47, 48, 49] (by kernel_rfl)
              clear hdep hL hy
              simp only [List.foldl, List.setIfInBounds_toArray, List.set_cons_succ, List.set_cons_zero] at ha
              subst ha
              refine wpOp_step rfl (fun K hK => ?_)
              go_simp
              exact hK _ _ ⟨_, rfl, (fun h => by cases h), rfl, But.refl _ _, wd_pure hW⟩
            · cases ho
              intro fu act u hW hB hsz hL hdep
              replace hB := hB [b, hm] (fun j hj hd k hk => by
                by_cases y3 : j = 3
                · rw [if_pos y3] at hk; simp at hk; simp [hk]
                rw [if_neg y3] at hk
                by_cases y5 : j = 5
                · rw [if_pos y5] at hk; simp at hk; simp [hk]
                rw [if_neg y5] at hk
                cases hk)
              have d2 := hdep { on := 2, ground := .data } (by simp) rfl _ rfl
              obtain ⟨ysl, ha, hy⟩ := hL.puts [45, 46, 47, 48, 49] (by kernel_rfl)
              have e2 : ysl 47 = _ := (hy 47).symm.trans d2
              clear hdep hL hy d2
              simp only [List.foldl, List.setIfInBounds_toArray, List.set_cons_succ, List.set_cons_zero, e2] at ha
              subst ha
              clear e2
              obtain ⟨M, hM, hR⟩ := hW
              refine wpOp_step rfl (fun K hK => ?_)
              go_simp
              refine (pick B M b _ u hR (by omega)).mono ?_
              rintro e u' ⟨x, x0, x1, rfl, r, g⟩
              go_simp
              exact hK _ _ ⟨_, rfl, (fun h => by cases h), ⟨x, x0, x1 (by omega), rfl⟩, but_row g, ⟨M + 1, by omega, r⟩⟩
            · cases ho
              intro fu act u hW hB hsz hL hdep
              replace hB := hB [b, hm] (fun j hj hd k hk => by
                by_cases y3 : j = 3
                · rw [if_pos y3] at hk; simp at hk; simp [hk]
                rw [if_neg y3] at hk
                by_cases y5 : j = 5
                · rw [if_pos y5] at hk; simp at hk; simp [hk]
                rw [if_neg y5] at hk
                cases hk)
              have d1 := hdep { on := 1, ground := .data } (by simp) rfl _ rfl
              have d3 := hdep { on := 3, ground := .data } (by simp) rfl _ rfl
              obtain ⟨ysl, ha, hy⟩ := hL.puts [45, 46, 47, 48, 49] (by kernel_rfl)
              have e1 : ysl 46 = _ := (hy 46).symm.trans d1
              obtain ⟨x3, x30, x31, h3⟩ := d3
              have e3 : ysl 48 = .int .i64 x3 := (hy 48).symm.trans h3
              clear hdep hL hy d1 h3
              simp only [List.foldl, List.setIfInBounds_toArray, List.set_cons_succ, List.set_cons_zero, e1, e3] at ha
              subst ha
              clear e1 e3
              refine wpOp_step rfl (fun K hK => ?_)
              go_simp
              exact hK _ _ ⟨_, rfl, (fun h => by cases h), ⟨x3, x30, x31, rfl⟩, But.refl _ _, wd_pure hW⟩
            · cases ho
              intro fu act u hW hB hsz hL hdep
              replace hB := hB [b] (fun j hj hd k hk => by
                by_cases x5 : j = 5
                · exact absurd x5 hj
                by_cases y3 : j = 3
                · rw [if_pos y3] at hk; simp at hk; simp [hk]
                rw [if_neg y3] at hk
                rw [if_neg x5] at hk
                cases hk)
              have d4 := hdep { on := 4, ground := .data } (by simp) rfl _ rfl
              obtain ⟨ysl, ha, hy⟩ := hL.puts [45, 46, 47, 48, 49] (by kernel_rfl)
              obtain ⟨x4, x40, x41, h4⟩ := d4
              have e4 : ysl 49 = .pointer (some ⟨hm, x4.toNat, none⟩) := (hy 49).symm.trans h4
              clear hdep hL hy h4
              simp only [List.foldl, List.setIfInBounds_toArray, List.set_cons_succ, List.set_cons_zero, e4] at ha
              subst ha
              clear e4
              obtain ⟨M, hM, hR⟩ := hW
              have Ow := HL.out.ow.but hB (by simp; omega) (by simp; omega) (by simp; omega)
              have cx := Ow.M.cel x4.toNat (by rw [HL.out.lm]; omega)
              have fx := Ow.M.fro x4.toNat (by rw [HL.out.lm]; omega)
              refine wpOp_step rfl (fun K hK => ?_)
              go_simp
              exact hK _ _ ⟨undef, rfl, (fun _ => rfl), ⟨⟨s.pc, s.R, s.C, s.M.set x4.toNat (-1)⟩, rfl, by simp [HL.out.lr], by simp [HL.out.lc], by simp [HL.out.lm], Ow.setM x4.toNat (-1) (by rw [HL.out.lm]; omega) s.pc, (HL.out.ca.but hB (by simp; omega)).set hm x4.toNat (.int .i64 (-1))⟩, (But.refl [hm] u).set hm x4.toNat (.int .i64 (-1)) (.inl (by simp)), ⟨M, by omega, hR.setOther _ _ _ (by omega)⟩⟩
            · exact absurd ho (by simp)
          case fin =>
            intro act u hW hsz hB hL hsf
            replace hB := hB [b, hm] (fun j k hk => by
              by_cases y3 : j = 3
              · rw [if_pos y3] at hk; simp at hk; simp [hk]
              rw [if_neg y3] at hk
              by_cases y5 : j = 5
              · rw [if_pos y5] at hk; simp at hk; simp [hk]
              rw [if_neg y5] at hk
              cases hk)
            have d5 := hsf 5 _ rfl
            obtain ⟨ysl, ha, hy⟩ := hL.puts [45, 46, 47, 48, 49] (by kernel_rfl)
            clear hL hsf hy
            simp only [List.foldl, List.setIfInBounds_toArray, List.set_cons_succ, List.set_cons_zero] at ha
            subst ha
            obtain ⟨M, hM, hR⟩ := hW
            obtain ⟨s2, hP2⟩ := HL.out.row hR hB (fun k m => by simp at m; omega) d5
            have HP := Lib.hid hP2
            clear hB hR d5 hP2 HL
            have HQ := Lib.hid HP.out.lq
            obtain ⟨_, y0, y1, y2, y3, _, _, _, _⟩ := HQ.out.bs
            obtain ⟨_, z0, z1, z2, z3, o0, o1, o2, o3⟩ := HQ.out.bz
            have nzs : ¬ S = w.heap.size := by have := HQ.out.zs; omega
            have nzs2 : ¬ w.heap.size = S := by have := HQ.out.zs; omega
            go_wp2_with fail
            refine bodyPost_ret (v := .agg #[.int .i64 s2.pc, .slice (some ⟨hr, 0, none⟩) s2.R.length c1, .slice (some ⟨hc, 0, none⟩) s2.C.length c2, .slice (some ⟨hm, 0, none⟩) s2.M.length c3]) (by simp [results, Try.results35, go_sem, z0, z1, z2, z3]) rfl (HQ.out.done (by omega) _ _ _ _)

end Go.Proofs.Ytmkinbnopgfljaa
