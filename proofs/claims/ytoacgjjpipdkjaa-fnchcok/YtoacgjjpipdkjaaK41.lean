/- A cache that is drawn: what holds from step to step. A drawn cache: the memory, the box, what is odd at last. -/
import Derived.Deep.RegionLaw
import Derived.Test.YtoacgjjpipdkjaaK36
import Derived.Test.YtoacgjjpipdkjaaK40
import Derived.Test.YtoacgjjpipdkjaaDrawT
import Derived.Test.YtoacgjjpipdkjaaRegion
namespace Go.Proofs.Ytoacgjjpipdkjaa
open Go.RowKit
set_option linter.unusedVariables false
set_option linter.unusedSimpArgs false
/-- Behind a draw of a cache: it may be read whatever turns below; if nothing is odd it is ok, and its rows are new. -/
def DrewC (B N b : Nat) (n : Int) (w : World) (e : Ending) (w' : World) : Prop := ∃ M X aM aL cM cL, FewC M X ∧ M.length ≤ cM ∧ e = .returned (caV aM aL M X cM cL) ∧ Rd B N w' b ∧ w.grownBy w' (some b) ∧ (∀ L u', But L w' u' → (∀ k, k ∈ L → k < w.heap.size) → SrcC u' M X aM aL) ∧ (n = 0 → VcH7 w.heap.size w' M X aM aL ∧ RmC w' M X aM cM cL ∧ OkC ⟨M, lns X⟩)
/-- The cache that is drawn lies in box Z. -/
structure LC (B b N Z : Nat) (w u : World) (M : List Int) (X : List La) (aM aL : Option Addr) (cM cL : Nat) : Prop where
  rd : Rd B N u b
  gr : w.grownBy u (some b)
  z0 : Box2 u w.heap.size (.slice none 0 0) (.slice none 0 0)
  bx : Box2 u Z (.slice aM M.length cM) (.slice aL X.length cL)
  V : VcH7 (w.heap.size + 1) u M X aM aL
  nz : ∀ m, m ∈ kbl M X aM aL → m ≠ Z
  rm : RmC u M X aM cM cL
  ok : OkC ⟨M, lns X⟩
  zb : w.heap.size < Z
  bw : b < w.heap.size
theorem LC.but {B b N N' Z : Nat} {w u u' : World} {M : List Int} {X : List La} {aM aL : Option Addr} {cM cL : Nat} (h : LC B b N Z w u M X aM aL cM cL) (r : Rd B N' u' b) (f : But [b] u u') : LC B b N' Z w u' M X aM aL cM cL := by
  have zb := h.zb
  have bw := h.bw
  have hk : ∀ m, m ∈ kbl M X aM aL → m ∉ [b] := fun m hm hx => by have := (h.V.bl m hm).1; simp at hx; omega
  refine ⟨r, ⟨f.os.trans h.gr.os, f.tape.trans h.gr.tape, f.output.trans h.gr.output, Nat.le_trans h.gr.size f.size, fun k hk hn => (f.block k (Nat.lt_of_lt_of_le hk h.gr.size) (fun e => hn (by simp at e; rw [e]))).trans (h.gr.block k hk hn)⟩, h.z0.but f (by simp; omega), h.bx.but f (by simp; omega), h.V.apart f hk, h.nz, h.rm.but f (fun m hm => hk m (List.mem_append_left _ hm)) (fun i hi m hm => hk m (List.mem_append_right _ (List.mem_append_right _ (wbks_mem hi hm)))), h.ok, zb, bw⟩
theorem LC.step {B b N N' Z : Nat} {w u u' : World} {M : List Int} {X : List La} {aM aL : Option Addr} {cM cL : Nat} (h : LC B b N Z w u M X aM aL cM cL) (r : Rd B N' u' b) (g : u.grownBy u' (some b)) : LC B b N' Z w u' M X aM aL cM cL := h.but r (by have := but_row g; simpa using this)
theorem LC.fr {B b N Z : Nat} {w u u' : World} {M : List Int} {X : List La} {aM aL : Option Addr} {cM cL : Nat} (h : LC B b N Z w u M X aM aL cM cL) (f : Fr u u') : LC B b N Z w u' M X aM aL cM cL := h.but (h.rd.row (fr_row f none) (by simp)) (But.of f)
theorem LC.mono {B b N N' Z : Nat} {w u : World} {M : List Int} {X : List La} {aM aL : Option Addr} {cM cL : Nat} (h : LC B b N Z w u M X aM aL cM cL) (hN : N ≤ N') : LC B b N' Z w u M X aM aL cM cL := { h with rd := h.rd.mono hN }
/-- Another cache, in new rows, is laid into the box. -/
theorem LC.put {B b N Z : Nat} {w u u' : World} {M M' : List Int} {X X' : List La} {aM aL a1 a2 : Option Addr} {cM cL d1 d2 : Nat} (h : LC B b N Z w u M X aM aL cM cL) (f : Fr u u') (V : VcH7 u.heap.size u' M' X' a1 a2) (rm : RmC u' M' X' a1 d1 d2) (ok : OkC ⟨M', lns X'⟩) : LC B b N Z w ((u'.setCell ⟨Z, 0, none⟩ (.slice a1 M'.length d1)).setCell ⟨Z, 1, none⟩ (.slice a2 X'.length d2)) M' X' a1 a2 d1 d2 := by
  have zb := h.zb
  have bw := h.bw
  have zl := h.bx.lt
  have hw := h.gr.size
  have h1 := h.fr f
  have hst : But [Z] u' ((u'.setCell ⟨Z, 0, none⟩ (.slice a1 M'.length d1)).setCell ⟨Z, 1, none⟩ (.slice a2 X'.length d2)) := (But.refl _ _).set2 _ _ _ (.inl (by simp))
  have hk : ∀ m, m ∈ kbl M' X' a1 a2 → m ∉ [Z] := fun m hm hx => by have := (V.bl m hm).1; simp at hx; omega
  refine ⟨(h1.rd.setOther _ _ _ (by omega)).setOther _ _ _ (by omega), ⟨hst.os.trans h1.gr.os, hst.tape.trans h1.gr.tape, hst.output.trans h1.gr.output, Nat.le_trans h1.gr.size hst.size, fun k hk hn => (hst.block k (Nat.lt_of_lt_of_le hk h1.gr.size) (by simp; omega)).trans (h1.gr.block k hk hn)⟩, h1.z0.but hst (by simp; omega), h1.bx.set _ _, (V.mono (by omega)).apart hst hk, fun m hm e => by have := (V.bl m hm).1; omega, rm.but hst (fun m hm => hk m (List.mem_append_left _ hm)) (fun i hi m hm => hk m (List.mem_append_right _ (List.mem_append_right _ (wbks_mem hi hm)))), ok, zb, bw⟩
theorem readA_ok {c : Ch} (h : OkC c) {a : Int} (ha : plcB a = true) : OkC (readA c a) := by
  rw [readA, (okC_iff c).2 h, ha]
  exact bringC_ok h ha
theorem writeA_ok {c : Ch} (h : OkC c) {a n : Int} (ha : plcB a = true) (hn : okB n = true) : OkC (writeA c a n) := by
  rw [writeA, (okC_iff c).2 h, ha, hn]
  exact writeC_ok h ha hn
theorem layA_ok {c : Ch} (h : OkC c) {a n : Int} (ha : plcB a = true) (hn : okB n = true) : OkC (layA c a n) := by
  rw [layA, (okC_iff c).2 h, ha, hn]
  exact layC_ok h ha hn
theorem newC7_ok {M : List Int} (h : M.all okB = true) (hl : M.length = 256) : OkC (newC7 M) := by
  have hw : wordsB M 256 = true := by simp only [wordsB, h, hl]; rfl
  rw [newC7, hw]
  exact newOk hw
theorem okC_few {M : List Int} {X : List La} (h : OkC ⟨M, lns X⟩) : FewC M X := (okA_few (.inl h) rfl).few
theorem row2_bd {w w1 : World} {b : Nat} {v0 v1 : Int} {t : TypeId} (hb : b < w.heap.size) (hg : (w.alloc (.cells #[.int .i64 v0, .int .i64 v1] t)).grownBy w1 (some b)) (x : Int) (x0 : 0 ≤ x) (x1 : x < 2) (h0 : 0 ≤ v0 ∧ v0 < 256) (h1 : 0 ≤ v1 ∧ v1 < 256) :
    ∃ v : Int, (0 ≤ v ∧ v < 256) ∧ w1.cell? ⟨w.heap.size, x.toNat, none⟩ = some (.int .i64 v) := by
  rw [row_at hb hg]
  have : x = 0 ∨ x = 1 := by omega
  rcases this with rfl | rfl
  · exact ⟨v0, h0, rfl⟩
  · exact ⟨v1, h1, rfl⟩

theorem grown_but7 {w u u' : World} {b : Nat} {L : List Nat} (h : w.grownBy u (some b)) (f : But L u u') (hL : ∀ k, k ∈ L → k = b ∨ w.heap.size ≤ k) : w.grownBy u' (some b) :=
  ⟨f.os.trans h.os, f.tape.trans h.tape, f.output.trans h.output, Nat.le_trans h.size f.size, fun k hk hne => by
    rw [f.block k (Nat.lt_of_lt_of_le hk h.size) (fun m => by rcases hL k m with e | e; exact hne (by rw [e]); omega)]; exact h.block k hk hne⟩
theorem okB7 {v : Int} (h0 : 0 ≤ v) (h1 : v < 65536) : okB v = true := by unfold okB; simp; omega
theorem all_set7 {l : List Int} {n : Int} (i : Nat) (h : l.all okB = true) (hn : okB n = true) : (l.set i n).all okB = true := by
  rw [List.all_eq_true] at h ⊢
  intro x hx
  rcases List.mem_or_eq_of_mem_set hx with h1 | h1
  · exact h x h1
  · rw [h1]; exact hn
theorem plcB7 {a : Int} (h0 : 0 ≤ a) (h1 : a < 256) : plcB a = true := by unfold plcB; simp; omega
/-- A memory is drawn: it lies in block G. -/
structure L1 (B b N G : Nat) (w u : World) (xs : List Int) : Prop where
  rd : Rd B N u b
  gr : w.grownBy u (some b)
  z0 : Box2 u w.heap.size (.slice none 0 0) (.slice none 0 0)
  ro : Ro u G xs
  l : xs.length = 256
  ok : xs.all okB = true
  zg : w.heap.size < G
  bw : b < w.heap.size
theorem L1.step {B b N N' G : Nat} {w u u' : World} {xs : List Int} (h : L1 B b N G w u xs) (r : Rd B N' u' b) (g : u.grownBy u' (some b)) : L1 B b N' G w u' xs := by
  have f : But [b] u u' := by have := but_row g; simpa using this
  have h1 := h.zg
  have h2 := h.bw
  exact ⟨r, grown_but7 h.gr f (fun k m => .inl (by simpa using m)), h.z0.but f (by simp; omega), h.ro.but f (by simp; omega), h.l, h.ok, h1, h2⟩
theorem L1.set {B b N G : Nat} {w u : World} {xs : List Int} (h : L1 B b N G w u xs) (k : Nat) (x : Int) (hk : k < 256) (hx : okB x = true) : L1 B b N G w (u.setCell ⟨G, k, none⟩ (.int .i64 x)) (xs.set k x) := by
  have h1 := h.zg
  have h2 := h.bw
  have f : But [G] u (u.setCell ⟨G, k, none⟩ (.int .i64 x)) := (But.refl _ _).set _ _ _ (.inl (by simp))
  exact ⟨h.rd.setOther _ _ _ (by omega), grown_but7 h.gr f (fun k m => .inr (by simp at m; omega)), h.z0.but f (by simp; omega), h.ro.set k x (by rw [h.l]; exact hk), by rw [List.length_set]; exact h.l, all_set7 k h.ok hx, h1, h2⟩
theorem L1.new {B b N : Nat} {w : World} (h : Rd B N w b) : L1 B b N (w.heap.size + 1) w ((w.alloc (.cells #[.slice none 0 0, .slice none 0 0] 30)).alloc (.cells z256 3)) (List.replicate 256 (0 : Int)) := by
  refine ⟨(h.alloc _).alloc _, grown_trans (World.grownBy_alloc _ _ _) (World.grownBy_alloc _ _ _), (Box2.new w _ _ _ _ rfl).fr (Fr.alloc _ _), ?_, by rw [List.length_replicate], ?_, by omega, h.lt⟩
  · have := z256_ro (w.alloc (.cells #[.slice none 0 0, .slice none 0 0] 30))
    rwa [show (w.alloc (.cells #[.slice none 0 0, .slice none 0 0] 30)).heap.size = w.heap.size + 1 by simp] at this
  · rw [List.all_eq_true]
    intro x hx
    rw [List.mem_replicate] at hx
    rw [hx.2]
    rfl
/-- A first cache is laid into a new box. -/
theorem L1.lc {B b N G : Nat} {w u u' : World} {xs M : List Int} {X : List La} {aM aL : Option Addr} {cM cL : Nat} (h : L1 B b N G w u xs) (f : Fr u u') (V : VcH7 u.heap.size u' M X aM aL) (rm : RmC u' M X aM cM cL) (ok : OkC ⟨M, lns X⟩) (t : TypeId) : LC B b N u'.heap.size w (u'.alloc (.cells #[.slice aM M.length cM, .slice aL X.length cL] t)) M X aM aL cM cL := by
  have h1 := h.zg
  have h2 := h.bw
  have h3 := h.ro.lt
  have h4 := f.size
  have f2 := Fr.alloc u' (.cells #[.slice aM M.length cM, .slice aL X.length cL] t)
  refine ⟨(h.rd.row (fr_row f none) (by simp)).alloc _, grown_but7 (L := []) (grown_but7 (L := []) h.gr (But.of f) (fun k m => by cases m)) (But.of f2) (fun k m => by cases m), (h.z0.fr f).fr f2, Box2.new _ _ _ _ _ rfl, (V.mono (by omega)).apart (L := []) (But.of f2) (fun k _ => by simp), fun m hm e => ?_, rm.fr f2, ok, by omega, h2⟩
  have := (V.bl m hm).2
  omega
theorem clL_set : ∀ (X : List La) (k r : Nat) (y : La) (v : Value), k < X.length → r < 4 → lac y = (lac (X.getD k la0)).set r v → clL (X.set k y) = (clL X).set (k * 4 + r) v
  | [], k, r, y, v, h, _, _ => absurd h (by simp)
  | x :: R, 0, r, y, v, _, hr, hv => by
    have hv' : lac y = (lac x).set r v := hv
    show lac y ++ clL R = (lac x ++ clL R).set (0 * 4 + r) v
    rw [List.set_append_left _ _ (by simp [lac]; omega), hv']
    congr 2
    omega
  | x :: R, k + 1, r, y, v, h, hr, hv => by
    have ih := clL_set R k r y v (by simpa using h) hr (by simpa using hv)
    show lac x ++ clL (R.set k y) = (lac x ++ clL R).set ((k + 1) * 4 + r) v
    rw [List.set_append_right _ _ (by simp [lac]; omega), ih]
    congr 2
    simp [lac]
    omega
theorem RoL.set1 {u : World} {g : Nat} {X : List La} (h : RoL u g X) (k r : Nat) (y : La) (v : Value) (hk : k < X.length) (hr : r < 4) (hv : lac y = (lac (X.getD k la0)).set r v) : RoL (u.setCell ⟨g, k * 4 + r, none⟩ v) g (X.set k y) := by
  have hp : k * 4 + r < (clL X).length := by rw [clL_len]; omega
  have hold := h.rng _ _ (List.getElem?_eq_getElem hp)
  rw [Nat.zero_add] at hold
  have hcell : ∀ j x, (clL (X.set k y))[j]? = some x → (u.setCell ⟨g, k * 4 + r, none⟩ v).cell? ⟨g, j, none⟩ = some x := fun j x hx => by
    rw [clL_set X k r y v hk hr hv, List.getElem?_set] at hx
    by_cases e : k * 4 + r = j
    · subst e
      rw [if_pos rfl, if_pos hp] at hx
      cases hx
      exact World.cell?_setCell_same _ _ _ hold
    · rw [if_neg e] at hx
      have := h.rng j x hx
      rw [Nat.zero_add] at this
      rw [World.cell?_setCell_other _ _ _ _ (by simp; try omega)]
      exact this
  refine ⟨by have := h.lt; simpa [World.setCell] using this, fun j x hx => by rw [Nat.zero_add]; exact hcell j x hx, fun j hj => ?_⟩
  rw [List.length_set] at hj
  have ht := h.thr j hj
  have hj2 : j < (clL (X.set k y)).length := by rw [clL_len, List.length_set]; exact hj
  rw [Nat.zero_add] at ht ⊢
  refine ⟨?_, by rw [World.frozen?_setCell]; exact ht.2⟩
  rw [hcell j _ (List.getElem?_eq_getElem hj2)]
  rfl
theorem Box2.set0 {u : World} {g : Nat} {a b : Value} (h : Box2 u g a b) (a' : Value) : Box2 (u.setCell ⟨g, 0, none⟩ a') g a' b := by
  have c0 := h.c0
  have c1 := h.c1
  have f0 := h.f0
  have f1 := h.f1
  have hl := h.lt
  refine ⟨by simpa [World.setCell] using hl, ?_, ?_, ?_, ?_⟩
  all_goals simp [World.frozen?_setCell, World.cell?_setCell_other, World.cell?_setCell_same, c0, c1, f0, f1]
theorem Box2.set1 {u : World} {g : Nat} {a b : Value} (h : Box2 u g a b) (b' : Value) : Box2 (u.setCell ⟨g, 1, none⟩ b') g a b' := by
  have c0 := h.c0
  have c1 := h.c1
  have f0 := h.f0
  have f1 := h.f1
  have hl := h.lt
  refine ⟨by simpa [World.setCell] using hl, ?_, ?_, ?_, ?_⟩
  all_goals simp [World.frozen?_setCell, World.cell?_setCell_other, World.cell?_setCell_same, c0, c1, f0, f1]
theorem Rd.but7 {B N b : Nat} {L : List Nat} {u u' : World} (h : Rd B N u b) (f : But L u u') (hL : ∀ k, k ∈ L → b < k) : Rd B N u' b := by
  obtain ⟨hB, hb, s, len, cap, p, h0, h1, hf, hp, hl, hy⟩ := h
  have hn : b ∉ L := fun m => by have := hL b m; omega
  exact ⟨hB, Nat.lt_of_lt_of_le hb f.size, s, len, cap, p, by rw [f.cell hb hn]; exact h0, by rw [f.cell hb hn]; exact h1, by rw [f.frozen hb hn]; exact hf, hp, hl, hy.below (f.below (Nat.le_of_lt (Nat.lt_of_le_of_lt hB hb)) (fun k m => by have := hL k m; omega))⟩
theorem odd7 (B N b : Nat) (n : Int) (w : World) (h : Rd B N w b) (hN : N ≤ 1000000000) (n0 : 0 ≤ n) (n1 : n ≤ 1000000000) :
    Calls Try.prog 90 #[.pointer (some ⟨b, 0, none⟩), .int .i64 n] w (fun e w' => ∃ v : Bool, (n = 0 → v = false) ∧ e = .returned (.bool v) ∧ Rd B (N + 1) w' b ∧ w.grownBy w' (some b)) := by
  by_cases hn : n = 0
  · subst hn
    refine (odd0 b w).mono ?_
    rintro e w' ⟨rfl, rfl⟩
    exact ⟨false, fun _ => rfl, rfl, h.mono (by omega), grown_refl _ _⟩
  · refine (odd B N b n w h hN (by omega) n1).mono ?_
    rintro e w' ⟨v, rfl, r, g⟩
    exact ⟨v, fun h => absurd h hn, rfl, r, g⟩
/-- At the end: a cache that can be read. -/
structure LQ (B b N Z : Nat) (w u : World) (M : List Int) (X : List La) (aM aL : Option Addr) (cM cL : Nat) : Prop where
  rd : Rd B N u b
  gr : w.grownBy u (some b)
  z0 : Box2 u w.heap.size (.slice none 0 0) (.slice none 0 0)
  bx : Box2 u Z (.slice aM M.length cM) (.slice aL X.length cL)
  src : ∀ L u', But L u u' → (∀ k, k ∈ L → k ≤ w.heap.size ∨ k = Z) → SrcC u' M X aM aL
  few : FewC M X
  le : M.length ≤ cM
  zb : w.heap.size < Z
  bw : b < w.heap.size
theorem LQ.done {B b N N' Z : Nat} {n : Int} {w u : World} {M : List Int} {X : List La} {aM aL : Option Addr} {cM cL : Nat} (h : LQ B b N Z w u M X aM aL cM cL) (hN : N ≤ N') (hn : n ≠ 0) : DrewC B N' b n w (.returned (caV aM aL M X cM cL)) ((u.setCell ⟨w.heap.size, 0, none⟩ (.slice aM M.length cM)).setCell ⟨w.heap.size, 1, none⟩ (.slice aL X.length cL)) := by
  have h0 := h.bw
  have f := (But.refl [w.heap.size] u).set2 w.heap.size (.slice aM M.length cM) (.slice aL X.length cL) (.inl (by simp))
  refine ⟨M, X, aM, aL, cM, cL, h.few, h.le, rfl, ((h.rd.mono hN).setOther _ _ _ h0).setOther _ _ _ h0, grown_but7 h.gr f (fun k m => .inr (by simp at m; omega)), fun L u' f' hL => ?_, fun e => absurd e hn⟩
  refine h.src (w.heap.size :: L) u' ((f.mono (fun k m _ => by have := List.mem_singleton.1 m; subst this; exact List.mem_cons_self)).trans (f'.mono (fun k m _ => List.mem_cons_of_mem _ m))) (fun k m => ?_)
  rcases List.mem_cons.1 m with e | e
  · omega
  · have := hL k e; omega
theorem LQ.doneL {B b N N' Z nM nX : Nat} {n : Int} {w u : World} {M : List Int} {X : List La} {aM aL : Option Addr} {cM cL : Nat} (h : LQ B b N Z w u M X aM aL cM cL) (hN : N ≤ N') (hn : n ≠ 0) (hM : M.length = nM) (hX : X.length = nX) : DrewC B N' b n w (.returned (.agg #[.slice aM nM cM, .slice aL nX cL])) ((u.setCell ⟨w.heap.size, 0, none⟩ (.slice aM nM cM)).setCell ⟨w.heap.size, 1, none⟩ (.slice aL nX cL)) := by
  subst hM
  subst hX
  exact h.done hN hn
theorem LC.done0 {B b N N' Z : Nat} {n : Int} {w u : World} {M : List Int} {X : List La} {aM aL : Option Addr} {cM cL : Nat} (h : LC B b N Z w u M X aM aL cM cL) (hN : N ≤ N') : DrewC B N' b n w (.returned (caV aM aL M X cM cL)) ((u.setCell ⟨w.heap.size, 0, none⟩ (.slice aM M.length cM)).setCell ⟨w.heap.size, 1, none⟩ (.slice aL X.length cL)) := by
  have h0 := h.bw
  have f := (But.refl [w.heap.size] u).set2 w.heap.size (.slice aM M.length cM) (.slice aL X.length cL) (.inl (by simp))
  have hk : ∀ m, m ∈ kbl M X aM aL → m ∉ [w.heap.size] := fun m hm hx => by have := (h.V.bl m hm).1; simp at hx; omega
  have V := h.V.apart f hk
  refine ⟨M, X, aM, aL, cM, cL, okC_few h.ok, h.rm.le, rfl, ((h.rd.mono hN).setOther _ _ _ h0).setOther _ _ _ h0, grown_but7 h.gr f (fun k m => .inr (by simp at m; omega)), fun L u' f' hL => (V.apart f' (fun m hm hx => by have h1 := (V.bl m hm).1; have := hL m hx; omega)).src, fun _ => ⟨V.mono (by omega), h.rm.but f (fun m hm => hk m (List.mem_append_left _ hm)) (fun i hi m hm => hk m (List.mem_append_right _ (List.mem_append_right _ (wbks_mem hi hm)))), h.ok⟩⟩
theorem LC.nL {B b N Z : Nat} {w u : World} {M : List Int} {X : List La} {aM aL : Option Addr} {cM cL : Nat} (h : LC B b N Z w u M X aM aL cM cL) {L : List Nat} (hL : ∀ k, k ∈ L → k ≤ w.heap.size ∨ k = Z) : ∀ m, m ∈ kbl M X aM aL → m ∉ L := fun m hm hx => by
  have h1 := (h.V.bl m hm).1
  have h2 := h.nz m hm
  have := hL m hx
  omega
theorem but_cons {Z : Nat} {L : List Nat} {u v u' : World} (f : But [Z] u v) (f' : But L v u') : But (Z :: L) u u' :=
  (f.mono (fun k m _ => by have := List.mem_singleton.1 m; subst this; exact List.mem_cons_self)).trans (f'.mono (fun k m _ => List.mem_cons_of_mem _ m))
theorem cons_bd {Z W : Nat} {L : List Nat} (hL : ∀ k, k ∈ L → k ≤ W ∨ k = Z) : ∀ k, k ∈ Z :: L → k ≤ W ∨ k = Z := fun k m => by
  rcases List.mem_cons.1 m with e | e
  · exact .inr e
  · exact hL k e
/-- The memory from its second word on. -/
theorem LC.cutM {B b N Z : Nat} {w u : World} {M : List Int} {X : List La} {aL : Option Addr} {cM cL g : Nat} (h : LC B b N Z w u M X (some ⟨g, 0, none⟩) aL cM cL) : LQ B b N Z w (u.setCell ⟨Z, 0, none⟩ (.slice (some ⟨g, 1, none⟩) 255 (cM - 1))) (M.drop 1) X (some ⟨g, 1, none⟩) aL (cM - 1) cL := by
  have zb := h.zb
  have bw := h.bw
  have hl : M.length = 256 := h.ok.Ml
  have hd : (M.drop 1).length = 255 := by rw [List.length_drop, hl]
  have hc := h.rm.le
  have fZ : But [Z] u (u.setCell ⟨Z, 0, none⟩ (.slice (some ⟨g, 1, none⟩) 255 (cM - 1))) := (But.refl _ _).set _ _ _ (.inl (by simp))
  have fw := okC_few h.ok
  refine ⟨h.rd.setOther _ _ _ (by omega), grown_but7 h.gr fZ (fun k m => .inr (by simp at m; omega)), h.z0.but fZ (by simp; omega), by rw [hd]; exact h.bx.set0 _, fun L u' f hL => ?_, ⟨by rw [hd]; decide, fw.L, fw.W⟩, by omega, zb, bw⟩
  have S := (h.V.apart (but_cons fZ f) (h.nL (cons_bd hL))).src
  refine ⟨?_, S.L⟩
  rw [hd]
  intro _
  obtain ⟨g', o, e, lt, hc2⟩ := S.M (by omega)
  cases e
  refine ⟨g, 1, rfl, lt, fun i hi => ?_⟩
  have := hc2 (1 + i) (by omega)
  rw [Nat.zero_add] at this
  rw [this]
  simp only [ivl, List.getD_eq_getElem?_getD, List.getElem?_drop]
/-- The lines from the second on. -/
theorem LC.cutL {B b N Z : Nat} {w u : World} {M : List Int} {X : List La} {aM : Option Addr} {cM cL g : Nat} (h : LC B b N Z w u M X aM (some ⟨g, 0, none⟩) cM cL) : LQ B b N Z w (u.setCell ⟨Z, 1, none⟩ (.slice (some ⟨g, 4, none⟩) 3 (cL - 1))) M (X.drop 1) aM (some ⟨g, 4, none⟩) cM (cL - 1) := by
  have zb := h.zb
  have bw := h.bw
  have hl : X.length = 4 := by have := h.ok.Ll; simpa using this
  have hd : (X.drop 1).length = 3 := by rw [List.length_drop, hl]
  have fZ : But [Z] u (u.setCell ⟨Z, 1, none⟩ (.slice (some ⟨g, 4, none⟩) 3 (cL - 1))) := (But.refl _ _).set _ _ _ (.inl (by simp))
  have fw := okC_few h.ok
  have hg : ∀ i, (X.drop 1).getD i la0 = X.getD (i + 1) la0 := fun i => by simp only [List.getD_eq_getElem?_getD, List.getElem?_drop]; rw [Nat.add_comm]
  refine ⟨h.rd.setOther _ _ _ (by omega), grown_but7 h.gr fZ (fun k m => .inr (by simp at m; omega)), h.z0.but fZ (by simp; omega), by rw [hd]; exact h.bx.set1 _, fun L u' f hL => ?_, ⟨fw.M, by rw [hd]; decide, fun i hi => by rw [hg]; exact fw.W _ (by omega)⟩, h.rm.le, zb, bw⟩
  have S := (h.V.apart (but_cons fZ f) (h.nL (cons_bd hL))).src
  refine ⟨S.M, fun _ => ?_, fun i hi => by rw [hg]; exact S.L.wd _ (by omega)⟩
  obtain ⟨g', o, e, lt, hc2⟩ := S.L.at0 (by omega)
  cases e
  refine ⟨g, 4, rfl, lt, fun j v hv => ?_⟩
  have := hc2 (4 + j) v (by
    obtain ⟨x, a, c, d, rfl⟩ := four_of hl
    show (lac x ++ clL [a, c, d])[4 + j]? = some v
    rw [List.getElem?_append_right (by simp [lac])]
    rw [show 4 + j - (lac x).length = j by simp [lac]]
    exact hv)
  rwa [Nat.zero_add] at this
/-- One cell of a line. -/
theorem LC.set1 {B b N Z : Nat} {w u : World} {M : List Int} {X : List La} {aM : Option Addr} {cM cL g : Nat} (h : LC B b N Z w u M X aM (some ⟨g, 0, none⟩) cM cL) (k r : Nat) (y : La) (v : Value) (hk : k < 4) (hr : r < 4) (hv : lac y = (lac (X.getD k la0)).set r v) (hW : y.n.W = (X.getD k la0).n.W) (hya : y.a = (X.getD k la0).a) : LQ B b N Z w (u.setCell ⟨g, k * 4 + r, none⟩ v) M (X.set k y) aM (some ⟨g, 0, none⟩) cM cL := by
  have zb := h.zb
  have bw := h.bw
  have hl : X.length = 4 := by have := h.ok.Ll; simpa using this
  have fw := okC_few h.ok
  obtain ⟨g', e, hg, hR⟩ := h.V.rL (by omega)
  cases e
  have hgk : g ∈ bkS X.length (some ⟨g, 0, none⟩) := bkS_mem (b := ⟨g, 0, none⟩) (by omega)
  have hgz := h.nz g (List.mem_append_right _ (List.mem_append_left _ hgk))
  have fG : But [g] u (u.setCell ⟨g, k * 4 + r, none⟩ v) := (But.refl _ _).set _ _ _ (.inl (by simp))
  have hn : ∀ i, (X.set k y).getD i la0 = if k = i ∧ i < X.length then y else X.getD i la0 := fun i => getD_setA
  have hw : ∀ i, ((X.set k y).getD i la0).n.W = (X.getD i la0).n.W ∧ ((X.set k y).getD i la0).a = (X.getD i la0).a := fun i => by
    rw [hn]
    split
    · rename_i e
      rw [← e.1]
      exact ⟨hW, hya⟩
    · exact ⟨rfl, rfl⟩
  refine ⟨h.rd.setOther _ _ _ (by omega), grown_but7 h.gr fG (fun k m => .inr (by simp at m; omega)), h.z0.but fG (by simp; omega), by rw [List.length_set]; exact h.bx.but fG (by simp; omega), fun L u' f hL => ?_, ⟨fw.M, by rw [List.length_set]; exact fw.L, fun i hi => by rw [(hw i).1]; exact fw.W _ (by rwa [List.length_set] at hi)⟩, h.rm.le, zb, bw⟩
  have hgL : g ∉ L := fun m => by have := hL g m; omega
  have nL := h.nL hL
  refine ⟨(h.V.rM.but' (but_cons fG f) (fun m hm hx => ?_)).src, fun _ => ?_, fun i hi => ?_⟩
  · rcases List.mem_cons.1 hx with e | e
    · exact (h.V.pM m hm).1 (e ▸ hgk)
    · exact nL m (List.mem_append_left _ hm) e
  · have r1 := (hR.set1 k r y v (by omega) hr hv).but f hgL
    exact ⟨g, 0, rfl, r1.lt, r1.rng⟩
  · rw [List.length_set] at hi
    rw [WSrc, (hw i).1, (hw i).2]
    refine ((h.V.w.wd i hi).but' (but_cons fG f) (fun m hm hx => ?_)).src
    rcases List.mem_cons.1 hx with e | e
    · exact h.V.pL g hgk i hi (e ▸ hm)
    · exact nL m (List.mem_append_right _ (List.mem_append_right _ (wbks_mem hi hm))) e
theorem LC.w4 {B b N Z : Nat} {w u : World} {M : List Int} {X : List La} {aM aL : Option Addr} {cM cL : Nat} (h : LC B b N Z w u M X aM aL cM cL) (k : Nat) (hk : k < 4) : (X.getD k la0).n.W.length ≤ 1000 := by
  have := okLn_W (okLns_at h.ok.L k (by rw [h.ok.Ll]; exact hk))
  rw [show (Ch.mk M (lns X)).L = lns X from rfl, lns_get] at this
  omega
/-- A line with a word more. -/
def laApp (l : La) (g c : Nat) : La := ⟨{ l.n with W := l.n.W ++ [1] }, some ⟨g, 0, none⟩, c⟩
theorem LC.app {B b N Z : Nat} {w u v3 : World} {M : List Int} {X : List La} {aM : Option Addr} {cM cL g g2 c2 : Nat} (h : LC B b N Z w u M X aM (some ⟨g, 0, none⟩) cM cL) (k : Nat) (hk : k < 4) (F : But (wbk (X.getD k la0)) u v3) (hR : Ro v3 g2 ((X.getD k la0).n.W ++ [1])) (hg2 : (0 < (X.getD k la0).n.W.length ∧ (X.getD k la0).a = some ⟨g2, 0, none⟩) ∨ u.heap.size ≤ g2) : LQ B b N Z w (v3.setCell ⟨g, k * 4 + 3, none⟩ (.slice (some ⟨g2, 0, none⟩) ((X.getD k la0).n.W.length + 1) c2)) M (X.set k (laApp (X.getD k la0) g2 c2)) aM (some ⟨g, 0, none⟩) cM cL := by
  have zb := h.zb
  have bw := h.bw
  have zl := h.bx.lt
  have hl : X.length = 4 := by have := h.ok.Ll; simpa using this
  have fw := okC_few h.ok
  have h4 := h.w4 k hk
  obtain ⟨g', e, hg, hRL⟩ := h.V.rL (by omega)
  cases e
  have gl := hRL.lt
  have hgk : g ∈ bkS X.length (some ⟨g, 0, none⟩) := bkS_mem (b := ⟨g, 0, none⟩) (by omega)
  have hgz := h.nz g (List.mem_append_right _ (List.mem_append_left _ hgk))
  have hwk : ∀ m, m ∈ wbk (X.getD k la0) → m ∈ kbl M X aM (some ⟨g, 0, none⟩) := fun m hm => List.mem_append_right _ (List.mem_append_right _ (wbks_mem (by omega) hm))
  have hwb : ∀ m, m ∈ wbk (X.getD k la0) → w.heap.size + 1 ≤ m := fun m hm => (h.V.bl m (hwk m hm)).1
  have g2w : g2 ∈ wbk (X.getD k la0) ∨ u.heap.size ≤ g2 := by
    rcases hg2 with ⟨h0, e⟩ | h1
    · exact .inl (by show g2 ∈ bkS _ _; rw [e]; exact bkS_mem (b := ⟨g2, 0, none⟩) h0)
    · exact .inr h1
  have g2g : g2 ≠ g := fun e => by
    rcases g2w with h1 | h1
    · exact h.V.pL g hgk k (by omega) (e ▸ h1)
    · omega
  have fG : But [g] v3 (v3.setCell ⟨g, k * 4 + 3, none⟩ (.slice (some ⟨g2, 0, none⟩) ((X.getD k la0).n.W.length + 1) c2)) := (But.refl _ _).set _ _ _ (.inl (by simp))
  have hn : ∀ i, (X.set k (laApp (X.getD k la0) g2 c2)).getD i la0 = if k = i ∧ i < X.length then laApp (X.getD k la0) g2 c2 else X.getD i la0 := fun i => getD_setA
  refine ⟨(h.rd.but7 F (fun m hm => by have := hwb m hm; omega)).setOther _ _ _ (by omega), grown_but7 (grown_but7 h.gr F (fun m hm => .inr (by have := hwb m hm; omega))) fG (fun k m => .inr (by simp at m; omega)), (h.z0.but F (fun m => by have := hwb _ m; omega)).but fG (by simp; omega), by rw [List.length_set]; exact (h.bx.but F (fun m => h.nz _ (hwk _ m) rfl)).but fG (by simp; omega), fun L u' f hL => ?_, ⟨fw.M, by rw [List.length_set]; exact fw.L, fun i hi => ?_⟩, h.rm.le, zb, bw⟩
  · have hgL : g ∉ L := fun m => by have := hL g m; omega
    have nL := h.nL hL
    have f2 := but_cons fG f
    refine ⟨((h.V.rM.but' F (fun m hm hx => (h.V.pM m hm).2 k (by omega) hx)).but' f2 (fun m hm hx => ?_)).src, fun _ => ?_, fun i hi => ?_⟩
    · rcases List.mem_cons.1 hx with e | e
      · exact (h.V.pM m hm).1 (e ▸ hgk)
      · exact nL m (List.mem_append_left _ hm) e
    · have r1 := ((hRL.but F (h.V.pL g hgk k (by omega))).set1 k 3 (laApp (X.getD k la0) g2 c2) _ (by omega) (by omega) (by simp [lac, laApp])).but f hgL
      exact ⟨g, 0, rfl, r1.lt, r1.rng⟩
    · rw [List.length_set] at hi
      rw [hn]
      split
      · refine (hR.but f2 (fun hx => ?_)).src
        rcases List.mem_cons.1 hx with e | e
        · exact g2g e
        · rcases g2w with h1 | h1
          · exact nL g2 (hwk g2 h1) e
          · have := hL g2 e; omega
      · rename_i e
        have ne : i ≠ k := fun x => e ⟨x.symm, hi⟩
        refine (((h.V.w.wd i hi).but' F (fun m hm hx => h.V.w.ap i k hi (by omega) ne m hm hx)).but' f2 (fun m hm hx => ?_)).src
        rcases List.mem_cons.1 hx with e | e
        · exact h.V.pL g hgk i hi (e ▸ hm)
        · exact nL m (List.mem_append_right _ (List.mem_append_right _ (wbks_mem hi hm))) e
  · rw [hn]
    split
    · show ((X.getD k la0).n.W ++ [1]).length ≤ _
      rw [List.length_append, List.length_singleton]
      omega
    · exact fw.W _ (by rwa [List.length_set] at hi)
theorem LQ.frQ {B b N Z : Nat} {w u u' : World} {M : List Int} {X : List La} {aM aL : Option Addr} {cM cL : Nat} (h : LQ B b N Z w u M X aM aL cM cL) (f : Fr u u') : LQ B b N Z w u' M X aM aL cM cL :=
  ⟨h.rd.row (fr_row f none) (by simp), grown_but7 (L := []) h.gr (But.of f) (fun k m => by cases m), h.z0.fr f, h.bx.fr f, fun L u2 f2 hL => h.src L u2 ((But.of (L := L) f).trans f2) hL, h.few, h.le, h.zb, h.bw⟩
theorem LQ.drewQ {B b N Z : Nat} {w u : World} {M : List Int} {X : List La} {aM aL : Option Addr} {cM cL : Nat} (h : LQ B b N Z w u M X aM aL cM cL) : LQ B b N Z w u.drew M X aM aL cM cL := h.frQ (Below.drew (Below.refl _ _))
/-- A line's words, to be lengthened. -/
theorem LC.rc {B b N Z : Nat} {w u : World} {M : List Int} {X : List La} {aM aL : Option Addr} {cM cL : Nat} (h : LC B b N Z w u M X aM aL cM cL) (k : Nat) (hk : k < 4) : Rc (w.heap.size + 1) u (X.getD k la0).n.W (X.getD k la0).a (X.getD k la0).c := by
  have hl : X.length = 4 := by have := h.ok.Ll; simpa using this
  rcases h.rm.rW k (by omega) with h0 | ⟨g, e, hc, h0⟩
  · exact .inl h0
  · obtain ⟨g', e', hB, hlt, hcel, hf⟩ := (h.V.w.wd k (by omega)).at0 h0
    rw [e] at e'
    cases e'
    exact .inr ⟨g, e, hB, ⟨hlt, hcel, hf⟩, hc, h0⟩
theorem LC.setU {B b N Z : Nat} {w u : World} {M : List Int} {X : List La} {aM : Option Addr} {cM cL g : Nat} {l : La} (h : LC B b N Z w u M X aM (some ⟨g, 0, none⟩) cM cL) (k : Nat) (hk : k < 4) (hl : X.getD k la0 = l) (v : Bool) : LQ B b N Z w (u.setCell ⟨g, k * 4, none⟩ (.bool v)) M (X.set k ⟨⟨v, l.n.p, l.n.d, l.n.W⟩, l.a, l.c⟩) aM (some ⟨g, 0, none⟩) cM cL := by
  subst hl
  have := h.set1 k 0 ⟨⟨v, (X.getD k la0).n.p, (X.getD k la0).n.d, (X.getD k la0).n.W⟩, (X.getD k la0).a, (X.getD k la0).c⟩ (.bool v) hk (by omega) rfl rfl rfl
  rwa [Nat.add_zero] at this
theorem LC.setD {B b N Z : Nat} {w u : World} {M : List Int} {X : List La} {aM : Option Addr} {cM cL g : Nat} {l : La} (h : LC B b N Z w u M X aM (some ⟨g, 0, none⟩) cM cL) (k : Nat) (hk : k < 4) (hl : X.getD k la0 = l) (v : Bool) : LQ B b N Z w (u.setCell ⟨g, k * 4 + 2, none⟩ (.bool v)) M (X.set k ⟨⟨l.n.u, l.n.p, v, l.n.W⟩, l.a, l.c⟩) aM (some ⟨g, 0, none⟩) cM cL := by
  subst hl
  exact h.set1 k 2 ⟨⟨(X.getD k la0).n.u, (X.getD k la0).n.p, v, (X.getD k la0).n.W⟩, (X.getD k la0).a, (X.getD k la0).c⟩ (.bool v) hk (by omega) rfl rfl rfl
theorem LC.appL {B b N Z : Nat} {w u v3 : World} {M : List Int} {X : List La} {aM : Option Addr} {cM cL g g2 c2 : Nat} {l : La} (h : LC B b N Z w u M X aM (some ⟨g, 0, none⟩) cM cL) (k : Nat) (hk : k < 4) (hl : X.getD k la0 = l) (F : But (bkS l.n.W.length l.a) u v3) (hR : Ro v3 g2 (l.n.W ++ [1])) (hg2 : (0 < l.n.W.length ∧ l.a = some ⟨g2, 0, none⟩) ∨ u.heap.size ≤ g2) : LQ B b N Z w (v3.setCell ⟨g, k * 4 + 3, none⟩ (.slice (some ⟨g2, 0, none⟩) (l.n.W.length + 1) c2)) M (X.set k (laApp l g2 c2)) aM (some ⟨g, 0, none⟩) cM cL := by
  subst hl
  exact h.app k hk F hR hg2
/-- The lines' row, as it was left by a store, the reader having read on. -/
theorem LC.row {B b N N' Z : Nat} {w u u' : World} {M : List Int} {X : List La} {aM : Option Addr} {cM cL g : Nat} {l : La} (h : LC B b N Z w u M X aM (some ⟨g, 0, none⟩) cM cL) (r : Rd B N' u' b) (F : But [b, g] u u') (k : Nat) (hl : X.getD k la0 = l) (x : Int) (hR : RoL u' g (X.set k ⟨⟨l.n.u, x, l.n.d, l.n.W⟩, l.a, l.c⟩)) : LQ B b N' Z w u' M (X.set k ⟨⟨l.n.u, x, l.n.d, l.n.W⟩, l.a, l.c⟩) aM (some ⟨g, 0, none⟩) cM cL := by
  subst hl
  have zb := h.zb
  have bw := h.bw
  have hl : X.length = 4 := by have := h.ok.Ll; simpa using this
  have fw := okC_few h.ok
  obtain ⟨g', e, hg, _⟩ := h.V.rL (by omega)
  cases e
  have hgk : g ∈ bkS X.length (some ⟨g, 0, none⟩) := bkS_mem (b := ⟨g, 0, none⟩) (by omega)
  have hgz := h.nz g (List.mem_append_right _ (List.mem_append_left _ hgk))
  have hw : ∀ i, ((X.set k ⟨⟨(X.getD k la0).n.u, x, (X.getD k la0).n.d, (X.getD k la0).n.W⟩, (X.getD k la0).a, (X.getD k la0).c⟩).getD i la0).n.W = (X.getD i la0).n.W ∧ ((X.set k ⟨⟨(X.getD k la0).n.u, x, (X.getD k la0).n.d, (X.getD k la0).n.W⟩, (X.getD k la0).a, (X.getD k la0).c⟩).getD i la0).a = (X.getD i la0).a := fun i => by
    rw [getD_setA]
    split
    · rename_i e
      rw [← e.1]
      exact ⟨rfl, rfl⟩
    · exact ⟨rfl, rfl⟩
  have nb : ∀ m, m ∈ kbl M X aM (some ⟨g, 0, none⟩) → m ≠ b := fun m hm e => by have := (h.V.bl m hm).1; omega
  refine ⟨r, grown_but7 h.gr F (fun k m => by simp at m; omega), h.z0.but F (by simp; omega), by rw [List.length_set]; exact h.bx.but F (by simp; omega), fun L u2 f hL => ?_, ⟨fw.M, by rw [List.length_set]; exact fw.L, fun i hi => by rw [(hw i).1]; exact fw.W _ (by rwa [List.length_set] at hi)⟩, h.rm.le, zb, bw⟩
  have hgL : g ∉ L := fun m => by have := hL g m; omega
  have nL := h.nL hL
  refine ⟨((h.V.rM.but' F (fun m hm hx => ?_)).but' f (fun m hm => nL m (List.mem_append_left _ hm))).src, fun _ => ?_, fun i hi => ?_⟩
  · simp at hx
    rcases hx with e | e
    · exact nb m (List.mem_append_left _ hm) e
    · exact (h.V.pM m hm).1 (e ▸ hgk)
  · have r1 := hR.but f hgL
    exact ⟨g, 0, rfl, r1.lt, r1.rng⟩
  · rw [List.length_set] at hi
    rw [WSrc, (hw i).1, (hw i).2]
    refine (((h.V.w.wd i hi).but' F (fun m hm hx => ?_)).but' f (fun m hm => nL m (List.mem_append_right _ (List.mem_append_right _ (wbks_mem hi hm))))).src
    simp at hx
    rcases hx with e | e
    · exact nb m (List.mem_append_right _ (List.mem_append_right _ (wbks_mem hi hm))) e
    · exact h.V.pL g hgk i hi (e ▸ hm)
theorem Rd.drew7 {B N b : Nat} {u : World} (h : Rd B N u b) : Rd B N u.drew b := h.row (row := none) ⟨rfl, rfl, rfl, Nat.le_refl _, fun _ _ _ => rfl⟩ nofun
/-- The reader, with so many operations to come. -/
def RdF7 (B b X : Nat) (f : Nat) (u : World) : Prop := ∃ N, N + 10 * f ≤ X ∧ Rd B N u b
theorem wd_pure7 {B b X f : Nat} {u : World} (h : RdF7 B b X (f + 1) u) : RdF7 B b X f u := by
  obtain ⟨N, hN, r⟩ := h
  exact ⟨N, by omega, r⟩
theorem rdF7_start {B b N X f : Nat} {u : World} (h : Rd B N u b) (hX : N + 10 * f ≤ X) : RdF7 B b X f u.drew := ⟨N, hX, h.drew7⟩
/-- A new short row of numbers. -/
def RowP7 (W n : Nat) (v : Value) (u : World) : Prop := ∃ g, W ≤ g ∧ g < u.heap.size ∧ v = .slice (some ⟨g, 0, none⟩) n n ∧ ∀ i, i < n → ∃ x : Int, u.cell? ⟨g, i, none⟩ = some (.int .i64 x)
/-- A cell of one. -/
def CelP7 (W : Nat) (v : Value) (u : World) : Prop := ∃ g o, W ≤ g ∧ g < u.heap.size ∧ v = .pointer (some ⟨g, o, none⟩) ∧ ∃ x : Int, u.cell? ⟨g, o, none⟩ = some (.int .i64 x)
theorem RowP7.but {W n : Nat} {v : Value} {u u' : World} {L : List Nat} (h : RowP7 W n v u) (f : But L u u') (hL : ∀ k, k ∈ L → k < W) : RowP7 W n v u' := by
  obtain ⟨g, h1, h2, h3, h4⟩ := h
  exact ⟨g, h1, Nat.lt_of_lt_of_le h2 f.size, h3, fun i hi => by rw [f.cell h2 (fun m => by have := hL g m; omega)]; exact h4 i hi⟩
theorem CelP7.but {W : Nat} {v : Value} {u u' : World} {L : List Nat} (h : CelP7 W v u) (f : But L u u') (hL : ∀ k, k ∈ L → k < W) : CelP7 W v u' := by
  obtain ⟨g, o, h1, h2, h3, h4⟩ := h
  exact ⟨g, o, h1, Nat.lt_of_lt_of_le h2 f.size, h3, by rw [f.cell h2 (fun m => by have := hL g m; omega)]; exact h4⟩
def LnP (g k : Nat) (X : List La) (l : La) (u : World) : Prop := ∃ x : Int, RoL u g (X.set k ⟨⟨l.n.u, x, l.n.d, l.n.W⟩, l.a, l.c⟩)
theorem LnP.but {g k : Nat} {X : List La} {l : La} {u u' : World} {L : List Nat} (h : LnP g k X l u) (f : But L u u') (hn : g ∉ L) : LnP g k X l u' := by
  obtain ⟨x, r⟩ := h
  exact ⟨x, r.but f hn⟩
def lnSF (W b Z g cL j : Nat) (SP : World → Prop) : Nat → Value → World → Prop
  | 0, v, _ => v = .pointer (some ⟨Z, 1, none⟩)
  | 1, v, _ => v = .slice (some ⟨g, 0, none⟩) 4 cL
  | 2, v, _ => v = .int .i64 (j : Int)
  | 3, v, _ => v = .pointer (some ⟨Z, 1, none⟩)
  | 4, v, _ => v = .slice (some ⟨g, 0, none⟩) 4 cL
  | 5, v, _ => v = .int .i64 (j : Int)
  | 6, v, _ => v = .pointer (some ⟨g, j * 4, none⟩)
  | 7, v, _ => v = .pointer (some ⟨g, j * 4 + 1, none⟩)
  | 8, v, _ => ∃ x : Int, v = .int .i64 x
  | 9, v, u => RowP7 W 3 v u
  | 10, v, _ => v = .pointer (some ⟨b, 0, none⟩)
  | 11, v, _ => ∃ x : Int, 0 ≤ x ∧ x < 3 ∧ v = .int .i64 x
  | 12, v, u => CelP7 W v u
  | 13, v, _ => ∃ x : Int, v = .int .i64 x
  | 14, v, _ => ∃ x : Int, v = .int .i64 x
  | 15, v, _ => v = .pointer (some ⟨g, j * 4, none⟩)
  | 16, v, _ => v = .pointer (some ⟨g, j * 4 + 1, none⟩)
  | 17, _, u => SP u
  | _, _, _ => True

end Go.Proofs.Ytoacgjjpipdkjaa
