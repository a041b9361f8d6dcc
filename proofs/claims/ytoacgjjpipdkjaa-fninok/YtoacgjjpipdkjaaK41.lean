/- A cache that is drawn: what holds from step to step. A drawn cache: the memory, the box, what is odd at last. -/
import Derived.Deep.RegionLaw
import Derived.Test.YtoacgjjpipdkjaaK36
import Derived.Test.YtoacgjjpipdkjaaK0
import Derived.Test.YtoacgjjpipdkjaaDrawT
import Derived.Test.YtoacgjjpipdkjaaRegion
namespace Go.Proofs.Ytoacgjjpipdkjaa
open Go.RowKit
set_option linter.unusedVariables false
set_option linter.unusedSimpArgs false
/-- Behind a draw of a cache: it may be read whatever turns below; if nothing is odd it is ok, and its rows are new. -/
def DrewC (B N b : Nat) (n : Int) (w : World) (e : Ending) (w' : World) : Prop := ∃ M X aM aL cM cL, FewC M X ∧ M.length ≤ cM ∧ e = .returned (caV aM aL M X cM cL) ∧ Rd B N w' b ∧ w.grownBy w' (some b) ∧ (∀ L u', But L w' u' → (∀ k, k ∈ L → k < w.heap.size) → SrcC u' M X aM aL) ∧ (n = 0 → VcH7 w.heap.size w' M X aM aL ∧ RmC w' M X aM cM cL ∧ OkC ⟨M, lns X⟩)
/-- The cache that is drawn lies in box Z. -/
structure LC (B b N Z : Nat) (w u : World) (M : List Int) (X : List La) (aM aL : Option Addr) (cM cL : Nat) : Prop where
  rd : Rd B N u b
  gr : w.grownBy u (some b)
  z0 : Box2 u w.heap.size (.slice none 0 0) (.slice none 0 0)
  bx : Box2 u Z (.slice aM M.length cM) (.slice aL X.length cL)
  V : VcH7 (w.heap.size + 1) u M X aM aL
  nz : ∀ m, m ∈ kbl M X aM aL → m ≠ Z
  rm : RmC u M X aM cM cL
  ok : OkC ⟨M, lns X⟩
  zb : w.heap.size < Z
  bw : b < w.heap.size
theorem LC.but {B b N N' Z : Nat} {w u u' : World} {M : List Int} {X : List La} {aM aL : Option Addr} {cM cL : Nat} (h : LC B b N Z w u M X aM aL cM cL) (r : Rd B N' u' b) (f : But [b] u u') : LC B b N' Z w u' M X aM aL cM cL := by
  have zb := h.zb
  have bw := h.bw
  have hk : ∀ m, m ∈ kbl M X aM aL → m ∉ [b] := fun m hm hx => by have := (h.V.bl m hm).1; simp at hx; omega
  refine ⟨r, ⟨f.os.trans h.gr.os, f.tape.trans h.gr.tape, f.output.trans h.gr.output, Nat.le_trans h.gr.size f.size, fun k hk hn => (f.block k (Nat.lt_of_lt_of_le hk h.gr.size) (fun e => hn (by simp at e; rw [e]))).trans (h.gr.block k hk hn)⟩, h.z0.but f (by simp; omega), h.bx.but f (by simp; omega), h.V.apart f hk, h.nz, h.rm.but f (fun m hm => hk m (List.mem_append_left _ hm)) (fun i hi m hm => hk m (List.mem_append_right _ (List.mem_append_right _ (wbks_mem hi hm)))), h.ok, zb, bw⟩
theorem LC.step {B b N N' Z : Nat} {w u u' : World} {M : List Int} {X : List La} {aM aL : Option Addr} {cM cL : Nat} (h : LC B b N Z w u M X aM aL cM cL) (r : Rd B N' u' b) (g : u.grownBy u' (some b)) : LC B b N' Z w u' M X aM aL cM cL := h.but r (by have := but_row g; simpa using this)
theorem LC.fr {B b N Z : Nat} {w u u' : World} {M : List Int} {X : List La} {aM aL : Option Addr} {cM cL : Nat} (h : LC B b N Z w u M X aM aL cM cL) (f : Fr u u') : LC B b N Z w u' M X aM aL cM cL := h.but (h.rd.row (fr_row f none) (by simp)) (But.of f)
theorem LC.mono {B b N N' Z : Nat} {w u : World} {M : List Int} {X : List La} {aM aL : Option Addr} {cM cL : Nat} (h : LC B b N Z w u M X aM aL cM cL) (hN : N ≤ N') : LC B b N' Z w u M X aM aL cM cL := { h with rd := h.rd.mono hN }
/-- Another cache, in new rows, is laid into the box. -/
theorem LC.put {B b N Z : Nat} {w u u' : World} {M M' : List Int} {X X' : List La} {aM aL a1 a2 : Option Addr} {cM cL d1 d2 : Nat} (h : LC B b N Z w u M X aM aL cM cL) (f : Fr u u') (V : VcH7 u.heap.size u' M' X' a1 a2) (rm : RmC u' M' X' a1 d1 d2) (ok : OkC ⟨M', lns X'⟩) : LC B b N Z w ((u'.setCell ⟨Z, 0, none⟩ (.slice a1 M'.length d1)).setCell ⟨Z, 1, none⟩ (.slice a2 X'.length d2)) M' X' a1 a2 d1 d2 := by
  have zb := h.zb
  have bw := h.bw
  have zl := h.bx.lt
  have hw := h.gr.size
  have h1 := h.fr f
  have hst : But [Z] u' ((u'.setCell ⟨Z, 0, none⟩ (.slice a1 M'.length d1)).setCell ⟨Z, 1, none⟩ (.slice a2 X'.length d2)) := (But.refl _ _).set2 _ _ _ (.inl (by simp))
  have hk : ∀ m, m ∈ kbl M' X' a1 a2 → m ∉ [Z] := fun m hm hx => by have := (V.bl m hm).1; simp at hx; omega
  refine ⟨(h1.rd.setOther _ _ _ (by omega)).setOther _ _ _ (by omega), ⟨hst.os.trans h1.gr.os, hst.tape.trans h1.gr.tape, hst.output.trans h1.gr.output, Nat.le_trans h1.gr.size hst.size, fun k hk hn => (hst.block k (Nat.lt_of_lt_of_le hk h1.gr.size) (by simp; omega)).trans (h1.gr.block k hk hn)⟩, h1.z0.but hst (by simp; omega), h1.bx.set _ _, (V.mono (by omega)).apart hst hk, fun m hm e => by have := (V.bl m hm).1; omega, rm.but hst (fun m hm => hk m (List.mem_append_left _ hm)) (fun i hi m hm => hk m (List.mem_append_right _ (List.mem_append_right _ (wbks_mem hi hm)))), ok, zb, bw⟩
theorem okC_few {M : List Int} {X : List La} (h : OkC ⟨M, lns X⟩) : FewC M X := (okA_few (.inl h) rfl).few
theorem grown_but7 {w u u' : World} {b : Nat} {L : List Nat} (h : w.grownBy u (some b)) (f : But L u u') (hL : ∀ k, k ∈ L → k = b ∨ w.heap.size ≤ k) : w.grownBy u' (some b) :=
  ⟨f.os.trans h.os, f.tape.trans h.tape, f.output.trans h.output, Nat.le_trans h.size f.size, fun k hk hne => by
    rw [f.block k (Nat.lt_of_lt_of_le hk h.size) (fun m => by rcases hL k m with e | e; exact hne (by rw [e]); omega)]; exact h.block k hk hne⟩
theorem all_set7 {l : List Int} {n : Int} (i : Nat) (h : l.all okB = true) (hn : okB n = true) : (l.set i n).all okB = true := by
  rw [List.all_eq_true] at h ⊢
  intro x hx
  rcases List.mem_or_eq_of_mem_set hx with h1 | h1
  · exact h x h1
  · rw [h1]; exact hn
/-- A memory is drawn: it lies in block G. -/
structure L1 (B b N G : Nat) (w u : World) (xs : List Int) : Prop where
  rd : Rd B N u b
  gr : w.grownBy u (some b)
  z0 : Box2 u w.heap.size (.slice none 0 0) (.slice none 0 0)
  ro : Ro u G xs
  l : xs.length = 256
  ok : xs.all okB = true
  zg : w.heap.size < G
  bw : b < w.heap.size
theorem L1.step {B b N N' G : Nat} {w u u' : World} {xs : List Int} (h : L1 B b N G w u xs) (r : Rd B N' u' b) (g : u.grownBy u' (some b)) : L1 B b N' G w u' xs := by
  have f : But [b] u u' := by have := but_row g; simpa using this
  have h1 := h.zg
  have h2 := h.bw
  exact ⟨r, grown_but7 h.gr f (fun k m => .inl (by simpa using m)), h.z0.but f (by simp; omega), h.ro.but f (by simp; omega), h.l, h.ok, h1, h2⟩
theorem L1.set {B b N G : Nat} {w u : World} {xs : List Int} (h : L1 B b N G w u xs) (k : Nat) (x : Int) (hk : k < 256) (hx : okB x = true) : L1 B b N G w (u.setCell ⟨G, k, none⟩ (.int .i64 x)) (xs.set k x) := by
  have h1 := h.zg
  have h2 := h.bw
  have f : But [G] u (u.setCell ⟨G, k, none⟩ (.int .i64 x)) := (But.refl _ _).set _ _ _ (.inl (by simp))
  exact ⟨h.rd.setOther _ _ _ (by omega), grown_but7 h.gr f (fun k m => .inr (by simp at m; omega)), h.z0.but f (by simp; omega), h.ro.set k x (by rw [h.l]; exact hk), by rw [List.length_set]; exact h.l, all_set7 k h.ok hx, h1, h2⟩
theorem L1.new {B b N : Nat} {w : World} (h : Rd B N w b) : L1 B b N (w.heap.size + 1) w ((w.alloc (.cells #[.slice none 0 0, .slice none 0 0] 30)).alloc (.cells z256 3)) (List.replicate 256 (0 : Int)) := by
  refine ⟨(h.alloc _).alloc _, grown_trans (World.grownBy_alloc _ _ _) (World.grownBy_alloc _ _ _), (Box2.new w _ _ _ _ rfl).fr (Fr.alloc _ _), ?_, by rw [List.length_replicate], ?_, by omega, h.lt⟩
  · have := z256_ro (w.alloc (.cells #[.slice none 0 0, .slice none 0 0] 30))
    rwa [show (w.alloc (.cells #[.slice none 0 0, .slice none 0 0] 30)).heap.size = w.heap.size + 1 by simp] at this
  · rw [List.all_eq_true]
    intro x hx
    rw [List.mem_replicate] at hx
    rw [hx.2]
    rfl
theorem Rd.but7 {B N b : Nat} {L : List Nat} {u u' : World} (h : Rd B N u b) (f : But L u u') (hL : ∀ k, k ∈ L → b < k) : Rd B N u' b := by
  obtain ⟨hB, hb, s, len, cap, p, h0, h1, hf, hp, hl, hy⟩ := h
  have hn : b ∉ L := fun m => by have := hL b m; omega
  exact ⟨hB, Nat.lt_of_lt_of_le hb f.size, s, len, cap, p, by rw [f.cell hb hn]; exact h0, by rw [f.cell hb hn]; exact h1, by rw [f.frozen hb hn]; exact hf, hp, hl, hy.below (f.below (Nat.le_of_lt (Nat.lt_of_le_of_lt hB hb)) (fun k m => by have := hL k m; omega))⟩
theorem odd7 (B N b : Nat) (n : Int) (w : World) (h : Rd B N w b) (hN : N ≤ 1000000000) (n0 : 0 ≤ n) (n1 : n ≤ 1000000000) :
    Calls Try.prog 90 #[.pointer (some ⟨b, 0, none⟩), .int .i64 n] w (fun e w' => ∃ v : Bool, (n = 0 → v = false) ∧ e = .returned (.bool v) ∧ Rd B (N + 1) w' b ∧ w.grownBy w' (some b)) := by
  by_cases hn : n = 0
  · subst hn
    refine (odd0 b w).mono ?_
    rintro e w' ⟨rfl, rfl⟩
    exact ⟨false, fun _ => rfl, rfl, h.mono (by omega), grown_refl _ _⟩
  · refine (odd B N b n w h hN (by omega) n1).mono ?_
    rintro e w' ⟨v, rfl, r, g⟩
    exact ⟨v, fun h => absurd h hn, rfl, r, g⟩
/-- At the end: a cache that can be read. -/
structure LQ (B b N Z : Nat) (w u : World) (M : List Int) (X : List La) (aM aL : Option Addr) (cM cL : Nat) : Prop where
  rd : Rd B N u b
  gr : w.grownBy u (some b)
  z0 : Box2 u w.heap.size (.slice none 0 0) (.slice none 0 0)
  bx : Box2 u Z (.slice aM M.length cM) (.slice aL X.length cL)
  src : ∀ L u', But L u u' → (∀ k, k ∈ L → k ≤ w.heap.size ∨ k = Z) → SrcC u' M X aM aL
  few : FewC M X
  le : M.length ≤ cM
  zb : w.heap.size < Z
  bw : b < w.heap.size
theorem LQ.done {B b N N' Z : Nat} {n : Int} {w u : World} {M : List Int} {X : List La} {aM aL : Option Addr} {cM cL : Nat} (h : LQ B b N Z w u M X aM aL cM cL) (hN : N ≤ N') (hn : n ≠ 0) : DrewC B N' b n w (.returned (caV aM aL M X cM cL)) ((u.setCell ⟨w.heap.size, 0, none⟩ (.slice aM M.length cM)).setCell ⟨w.heap.size, 1, none⟩ (.slice aL X.length cL)) := by
  have h0 := h.bw
  have f := (But.refl [w.heap.size] u).set2 w.heap.size (.slice aM M.length cM) (.slice aL X.length cL) (.inl (by simp))
  refine ⟨M, X, aM, aL, cM, cL, h.few, h.le, rfl, ((h.rd.mono hN).setOther _ _ _ h0).setOther _ _ _ h0, grown_but7 h.gr f (fun k m => .inr (by simp at m; omega)), fun L u' f' hL => ?_, fun e => absurd e hn⟩
  refine h.src (w.heap.size :: L) u' ((f.mono (fun k m _ => by have := List.mem_singleton.1 m; subst this; exact List.mem_cons_self)).trans (f'.mono (fun k m _ => List.mem_cons_of_mem _ m))) (fun k m => ?_)
  rcases List.mem_cons.1 m with e | e
  · omega
  · have := hL k e; omega
theorem LC.nL {B b N Z : Nat} {w u : World} {M : List Int} {X : List La} {aM aL : Option Addr} {cM cL : Nat} (h : LC B b N Z w u M X aM aL cM cL) {L : List Nat} (hL : ∀ k, k ∈ L → k ≤ w.heap.size ∨ k = Z) : ∀ m, m ∈ kbl M X aM aL → m ∉ L := fun m hm hx => by
  have h1 := (h.V.bl m hm).1
  have h2 := h.nz m hm
  have := hL m hx
  omega
/-- The lines' row, as it was left by a store, the reader having read on. -/
theorem LC.row {B b N N' Z : Nat} {w u u' : World} {M : List Int} {X : List La} {aM : Option Addr} {cM cL g : Nat} {l : La} (h : LC B b N Z w u M X aM (some ⟨g, 0, none⟩) cM cL) (r : Rd B N' u' b) (F : But [b, g] u u') (k : Nat) (hl : X.getD k la0 = l) (x : Int) (hR : RoL u' g (X.set k ⟨⟨l.n.u, x, l.n.d, l.n.W⟩, l.a, l.c⟩)) : LQ B b N' Z w u' M (X.set k ⟨⟨l.n.u, x, l.n.d, l.n.W⟩, l.a, l.c⟩) aM (some ⟨g, 0, none⟩) cM cL := by
  subst hl
  have zb := h.zb
  have bw := h.bw
  have hl : X.length = 4 := by have := h.ok.Ll; simpa using this
  have fw := okC_few h.ok
  obtain ⟨g', e, hg, _⟩ := h.V.rL (by omega)
  cases e
  have hgk : g ∈ bkS X.length (some ⟨g, 0, none⟩) := bkS_mem (b := ⟨g, 0, none⟩) (by omega)
  have hgz := h.nz g (List.mem_append_right _ (List.mem_append_left _ hgk))
  have hw : ∀ i, ((X.set k ⟨⟨(X.getD k la0).n.u, x, (X.getD k la0).n.d, (X.getD k la0).n.W⟩, (X.getD k la0).a, (X.getD k la0).c⟩).getD i la0).n.W = (X.getD i la0).n.W ∧ ((X.set k ⟨⟨(X.getD k la0).n.u, x, (X.getD k la0).n.d, (X.getD k la0).n.W⟩, (X.getD k la0).a, (X.getD k la0).c⟩).getD i la0).a = (X.getD i la0).a := fun i => by
    rw [getD_setA]
    split
    · rename_i e
      rw [← e.1]
      exact ⟨rfl, rfl⟩
    · exact ⟨rfl, rfl⟩
  have nb : ∀ m, m ∈ kbl M X aM (some ⟨g, 0, none⟩) → m ≠ b := fun m hm e => by have := (h.V.bl m hm).1; omega
  refine ⟨r, grown_but7 h.gr F (fun k m => by simp at m; omega), h.z0.but F (by simp; omega), by rw [List.length_set]; exact h.bx.but F (by simp; omega), fun L u2 f hL => ?_, ⟨fw.M, by rw [List.length_set]; exact fw.L, fun i hi => by rw [(hw i).1]; exact fw.W _ (by rwa [List.length_set] at hi)⟩, h.rm.le, zb, bw⟩
  have hgL : g ∉ L := fun m => by have := hL g m; omega
  have nL := h.nL hL
  refine ⟨((h.V.rM.but' F (fun m hm hx => ?_)).but' f (fun m hm => nL m (List.mem_append_left _ hm))).src, fun _ => ?_, fun i hi => ?_⟩
  · simp at hx
    rcases hx with e | e
    · exact nb m (List.mem_append_left _ hm) e
    · exact (h.V.pM m hm).1 (e ▸ hgk)
  · have r1 := hR.but f hgL
    exact ⟨g, 0, rfl, r1.lt, r1.rng⟩
  · rw [List.length_set] at hi
    rw [WSrc, (hw i).1, (hw i).2]
    refine (((h.V.w.wd i hi).but' F (fun m hm hx => ?_)).but' f (fun m hm => nL m (List.mem_append_right _ (List.mem_append_right _ (wbks_mem hi hm))))).src
    simp at hx
    rcases hx with e | e
    · exact nb m (List.mem_append_right _ (List.mem_append_right _ (wbks_mem hi hm))) e
    · exact h.V.pL g hgk i hi (e ▸ hm)
/-- A new short row of numbers. -/
def RowP7 (W n : Nat) (v : Value) (u : World) : Prop := ∃ g, W ≤ g ∧ g < u.heap.size ∧ v = .slice (some ⟨g, 0, none⟩) n n ∧ ∀ i, i < n → ∃ x : Int, u.cell? ⟨g, i, none⟩ = some (.int .i64 x)
/-- A cell of one. -/
def CelP7 (W : Nat) (v : Value) (u : World) : Prop := ∃ g o, W ≤ g ∧ g < u.heap.size ∧ v = .pointer (some ⟨g, o, none⟩) ∧ ∃ x : Int, u.cell? ⟨g, o, none⟩ = some (.int .i64 x)
theorem RowP7.but {W n : Nat} {v : Value} {u u' : World} {L : List Nat} (h : RowP7 W n v u) (f : But L u u') (hL : ∀ k, k ∈ L → k < W) : RowP7 W n v u' := by
  obtain ⟨g, h1, h2, h3, h4⟩ := h
  exact ⟨g, h1, Nat.lt_of_lt_of_le h2 f.size, h3, fun i hi => by rw [f.cell h2 (fun m => by have := hL g m; omega)]; exact h4 i hi⟩
theorem CelP7.but {W : Nat} {v : Value} {u u' : World} {L : List Nat} (h : CelP7 W v u) (f : But L u u') (hL : ∀ k, k ∈ L → k < W) : CelP7 W v u' := by
  obtain ⟨g, o, h1, h2, h3, h4⟩ := h
  exact ⟨g, o, h1, Nat.lt_of_lt_of_le h2 f.size, h3, by rw [f.cell h2 (fun m => by have := hL g m; omega)]; exact h4⟩
def LnP (g k : Nat) (X : List La) (l : La) (u : World) : Prop := ∃ x : Int, RoL u g (X.set k ⟨⟨l.n.u, x, l.n.d, l.n.W⟩, l.a, l.c⟩)
theorem LnP.but {g k : Nat} {X : List La} {l : La} {u u' : World} {L : List Nat} (h : LnP g k X l u) (f : But L u u') (hn : g ∉ L) : LnP g k X l u' := by
  obtain ⟨x, r⟩ := h
  exact ⟨x, r.but f hn⟩
end Go.Proofs.Ytoacgjjpipdkjaa
