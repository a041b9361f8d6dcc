/- The program's cache in one block: its words, then its lines of five cells. The words behind all lines; a line let go, of the program. A line brought in, of the program. A line seen, read, written, laid, of the program. -/
import Derived.Deep.RegionLaw
import Derived.Test.YtoacgjjpipdkjaaK13
import Derived.Test.YtoacgjjpipdkjaaK2
namespace Go.Proofs.Ytoacgjjpipdkjaa
open Go.RowKit
set_option linter.unusedVariables false
set_option linter.unusedSimpArgs false
/-- What a line has behind it: the words of its own block. -/
abbrev rif (g : Nat) : Value := .iface 103 (.pointer (some ⟨g, 0, none⟩))
structure RK (u : World) (g : Nat) (M : List Int) (X : List La) : Prop where
  lt : g < u.heap.size
  Xl : X.length = 4
  Ml : M.length = 256
  M : ∀ i, i < 256 → u.cell? ⟨g, i, none⟩ = some (.int .i64 (M.getD i 0))
  c0 : ∀ k, k < 4 → u.cell? ⟨g, 256 + k * 5, none⟩ = some (.bool (X.getD k la0).n.u)
  c1 : ∀ k, k < 4 → u.cell? ⟨g, 256 + k * 5 + 1, none⟩ = some (.int .i64 (X.getD k la0).n.p)
  c2 : ∀ k, k < 4 → u.cell? ⟨g, 256 + k * 5 + 2, none⟩ = some (.bool (X.getD k la0).n.d)
  c3 : ∀ k, k < 4 → u.cell? ⟨g, 256 + k * 5 + 3, none⟩ = some (.slice (X.getD k la0).a (X.getD k la0).n.W.length (X.getD k la0).c)
  c4 : ∀ k, k < 4 → u.cell? ⟨g, 256 + k * 5 + 4, none⟩ = some (rif g)
  fro : ∀ i, i < 276 → u.frozen? ⟨g, i, none⟩ = false
theorem RK.but {L : List Nat} {u u' : World} {g : Nat} {M : List Int} {X : List La} (h : RK u g M X) (f : But L u u') (hn : g ∉ L) : RK u' g M X :=
  ⟨Nat.lt_of_lt_of_le h.lt f.size, h.Xl, h.Ml, fun i hi => by rw [f.cell h.lt hn]; exact h.M i hi, fun i hi => by rw [f.cell h.lt hn]; exact h.c0 i hi, fun i hi => by rw [f.cell h.lt hn]; exact h.c1 i hi, fun i hi => by rw [f.cell h.lt hn]; exact h.c2 i hi, fun i hi => by rw [f.cell h.lt hn]; exact h.c3 i hi, fun i hi => by rw [f.cell h.lt hn]; exact h.c4 i hi, fun i hi => by rw [f.frozen h.lt hn]; exact h.fro i hi⟩
theorem RK.fr {u u' : World} {g : Nat} {M : List Int} {X : List La} (h : RK u g M X) (f : Fr u u') : RK u' g M X := h.but (L := []) (But.of f) (by simp)
theorem RK.ro {u : World} {g : Nat} {M : List Int} {X : List La} (h : RK u g M X) : Ro u g M :=
  ⟨h.lt, fun i hi => h.M i (by rw [← h.Ml]; exact hi), fun i hi => h.fro i (by have := h.Ml; omega)⟩
theorem RK.setM {u : World} {g : Nat} {M : List Int} {X : List La} (h : RK u g M X) (i : Nat) (v : Int) (hi : i < 256) : RK (u.setCell ⟨g, i, none⟩ (.int .i64 v)) g (M.set i v) X := by
  have far : ∀ j, j ≠ i → (u.setCell ⟨g, i, none⟩ (.int .i64 v)).cell? ⟨g, j, none⟩ = u.cell? ⟨g, j, none⟩ := fun j hj => World.cell?_setCell_other _ _ _ _ (by simp; try omega)
  refine ⟨by have := h.lt; simpa [World.setCell] using this, h.Xl, by rw [List.length_set]; exact h.Ml, fun j hj => ?_, fun k hk => by rw [far _ (by omega)]; exact h.c0 k hk, fun k hk => by rw [far _ (by omega)]; exact h.c1 k hk, fun k hk => by rw [far _ (by omega)]; exact h.c2 k hk, fun k hk => by rw [far _ (by omega)]; exact h.c3 k hk, fun k hk => by rw [far _ (by omega)]; exact h.c4 k hk, fun j hj => by rw [World.frozen?_setCell]; exact h.fro j hj⟩
  rw [getD_set]
  by_cases e : i = j
  · subst e
    rw [World.cell?_setCell_same _ _ _ (h.M i hi), if_pos ⟨rfl, by rw [h.Ml]; exact hi⟩]
  · rw [far j (fun e' => e e'.symm), if_neg (fun h => e h.1)]
    exact h.M j hj
/-- Line k is turned to y. -/
theorem RK.turn {u u' : World} {g : Nat} {M : List Int} {X : List La} (h : RK u g M X) (k : Nat) (y : La) (hk : k < 4) (hs : u.heap.size ≤ u'.heap.size) (hf : ∀ i, u'.frozen? ⟨g, i, none⟩ = u.frozen? ⟨g, i, none⟩)
    (hout : ∀ i, i < 256 + k * 5 ∨ 256 + k * 5 + 4 ≤ i → u'.cell? ⟨g, i, none⟩ = u.cell? ⟨g, i, none⟩)
    (h0 : u'.cell? ⟨g, 256 + k * 5, none⟩ = some (.bool y.n.u)) (h1 : u'.cell? ⟨g, 256 + k * 5 + 1, none⟩ = some (.int .i64 y.n.p)) (h2 : u'.cell? ⟨g, 256 + k * 5 + 2, none⟩ = some (.bool y.n.d)) (h3 : u'.cell? ⟨g, 256 + k * 5 + 3, none⟩ = some (.slice y.a y.n.W.length y.c)) : RK u' g M (X.set k y) := by
  have hX := h.Xl
  have pick : ∀ j, j < 4 → (X.set k y).getD j la0 = if k = j then y else X.getD j la0 := fun j hj => by
    rw [getD_setA]
    by_cases e : k = j
    · rw [if_pos ⟨e, by omega⟩, if_pos e]
    · rw [if_neg (fun h => e h.1), if_neg e]
  refine ⟨Nat.lt_of_lt_of_le h.lt hs, by rw [List.length_set]; exact hX, h.Ml, fun i hi => by rw [hout i (by omega)]; exact h.M i hi, fun j hj => ?_, fun j hj => ?_, fun j hj => ?_, fun j hj => ?_, fun j hj => by rw [hout _ (by omega)]; exact h.c4 j hj, fun i hi => by rw [hf]; exact h.fro i hi⟩
  all_goals
    rw [pick j hj]
    by_cases e : k = j
    · rw [if_pos e, ← e]
      assumption
    · rw [if_neg e, hout _ (by omega)]
      first | exact h.c0 j hj | exact h.c1 j hj | exact h.c2 j hj | exact h.c3 j hj
theorem setCell_in {u : World} {g i : Nat} {v x : Value} (h : u.cell? ⟨g, i, none⟩ = some x) : (u.setCell ⟨g, i, none⟩ v).cell? ⟨g, i, none⟩ = some v := World.cell?_setCell_same _ _ _ h
theorem setCell_out {u : World} {g i j : Nat} {v : Value} (h : j ≠ i) : (u.setCell ⟨g, i, none⟩ v).cell? ⟨g, j, none⟩ = u.cell? ⟨g, j, none⟩ := World.cell?_setCell_other _ _ _ _ (by simp; try omega)
theorem setCell_sz {u : World} {g i : Nat} {v : Value} : (u.setCell ⟨g, i, none⟩ v).heap.size = u.heap.size := by simp
/-- A whole line is stored. -/
theorem RK.setL {u : World} {g : Nat} {M : List Int} {X : List La} (h : RK u g M X) (k : Nat) (y : La) (hk : k < 4) : RK (u.setCells g (256 + k * 5) (lac y)) g M (X.set k y) := by
  have hb : But [g] u (u.setCells g (256 + k * 5) (lac y)) := But.setCells g (.inl (by simp)) _ _ _ (But.refl _ _)
  have hth : ∀ j, j < 4 → (u.cell? ⟨g, 256 + k * 5 + j, none⟩).isSome = true := fun j hj => by
    rcases j with _ | _ | _ | _ | j
    · rw [Nat.add_zero, h.c0 k hk]; rfl
    · rw [h.c1 k hk]; rfl
    · rw [h.c2 k hk]; rfl
    · rw [h.c3 k hk]; rfl
    · omega
  have hin := World.cell?_setCells_in g (lac y) (256 + k * 5) u hth
  refine h.turn k y hk hb.size (fun i => World.frozen?_setCells _ _ _ _ _) (fun i hi => World.cell?_setCells_out g (lac y) (256 + k * 5) u ⟨g, i, none⟩ (fun _ _ => by show i < 256 + k * 5 ∨ 256 + k * 5 + 4 ≤ i; exact hi)) ?_ ?_ ?_ ?_
  · have := hin 0 (by simp [lac]); rwa [Nat.add_zero] at this
  · exact hin 1 (by simp [lac])
  · exact hin 2 (by simp [lac])
  · exact hin 3 (by simp [lac])
theorem RK.there {u : World} {g : Nat} {M : List Int} {X : List La} (h : RK u g M X) (k : Nat) (hk : k < 4) : u.there g (256 + k * 5) 4 := fun j hj => by
  refine ⟨?_, h.fro _ (by omega)⟩
  rcases j with _ | _ | _ | _ | j
  · rw [Nat.add_zero, h.c0 k hk]; rfl
  · rw [h.c1 k hk]; rfl
  · rw [h.c2 k hk]; rfl
  · rw [h.c3 k hk]; rfl
  · omega
/-- A cache in block g, that a call owns; below w0 nothing has turned. -/
structure OwP (w0 u : World) (g : Nat) (M : List Int) (X : List La) : Prop where
  f : Fr w0 u
  b : w0.heap.size ≤ g
  r : RK u g M X
  w : WdO w0.heap.size u X
  ap : ∀ i, i < X.length → g ∉ wbk (X.getD i la0)
theorem OwP.fr {w0 u u' : World} {g : Nat} {M : List Int} {X : List La} (h : OwP w0 u g M X) (f : Fr u u') : OwP w0 u' g M X := ⟨Fr.trans h.f f, h.b, h.r.fr f, h.w.fr f, h.ap⟩
theorem OwP.setM {w0 u : World} {g : Nat} {M : List Int} {X : List La} (h : OwP w0 u g M X) (i : Nat) (v : Int) (hi : i < 256) : OwP w0 (u.setCell ⟨g, i, none⟩ (.int .i64 v)) g (M.set i v) X := by
  have hb : But [g] u (u.setCell ⟨g, i, none⟩ (.int .i64 v)) := (But.refl _ _).set _ _ _ (.inl (by simp))
  exact ⟨fr_but h.f hb (fun m hm => by have := h.b; simp at hm; omega), h.b, h.r.setM i v hi, h.w.but hb (fun i hi m hm hx => by rw [List.mem_singleton.1 hx] at hm; exact h.ap i hi hm), h.ap⟩
/-- Line k is turned to y, whose words are its own; L: the blocks that were written. -/
theorem OwP.turn' {w0 u u' : World} {g : Nat} {M : List Int} {X : List La} {L : List Nat} (h : OwP w0 u g M X) (k : Nat) (y : La) (hk : k < 4) (hb : But L u u') (hL : ∀ m, m ∈ L → w0.heap.size ≤ m) (hn : ∀ i, i < X.length → i ≠ k → ∀ m, m ∈ wbk (X.getD i la0) → m ∉ L) (hr : RK u' g M (X.set k y)) (hy : Vc w0.heap.size u' y.n.W.length (ivl y.n.W) y.a) (hg : g ∉ wbk y) (hap : ∀ i, i < X.length → i ≠ k → ∀ m, m ∈ wbk y → m ∉ wbk (X.getD i la0)) : OwP w0 u' g M (X.set k y) := by
  refine ⟨fr_but h.f hb hL, h.b, hr, ⟨fun i hi => ?_, fun i j hi hj hij m h1 h2 => ?_⟩, fun i hi => ?_⟩
  · rw [List.length_set] at hi
    rw [getD_setA]
    split
    · exact hy
    · rename_i hne
      exact (h.w.wd i hi).but' hb (hn i hi (fun e => hne ⟨e.symm, hi⟩))
  · rw [List.length_set] at hi hj
    rw [getD_setA] at h1 h2
    split at h1
    · rename_i e
      rw [if_neg (fun e' => hij (e.1.symm.trans e'.1))] at h2
      exact hap j hj (fun e' => hij (e.1.symm.trans e'.symm)) m h1 h2
    · split at h2
      · rename_i e
        exact hap i hi (fun e' => hij (e'.trans e.1)) m h2 h1
      · exact h.w.ap i j hi hj hij m h1 h2
  · rw [List.length_set] at hi
    rw [getD_setA]
    split
    · exact hg
    · exact h.ap i hi
theorem OwP.turn {w0 u u' : World} {g : Nat} {M : List Int} {X : List La} (h : OwP w0 u g M X) (k : Nat) (y : La) (hk : k < 4) (hb : But [g] u u') (hr : RK u' g M (X.set k y)) (hy : Vc w0.heap.size u y.n.W.length (ivl y.n.W) y.a) (hg : g ∉ wbk y) (hap : ∀ i, i < X.length → i ≠ k → ∀ m, m ∈ wbk y → m ∉ wbk (X.getD i la0)) : OwP w0 u' g M (X.set k y) :=
  h.turn' k y hk hb (fun m hm => by have := h.b; simp at hm; omega) (fun i hi _ m hm hx => by rw [List.mem_singleton.1 hx] at hm; exact h.ap i hi hm) hr (hy.but' hb (fun m hm hx => by rw [List.mem_singleton.1 hx] at hm; exact hg hm)) hg hap
theorem OwP.zero {w0 u : World} {g : Nat} {M : List Int} {X : List La} (h : OwP w0 u g M X) (k : Nat) (hk : k < 4) : OwP w0 (u.setCells g (256 + k * 5) (lac la0)) g M (X.set k la0) :=
  h.turn k la0 hk (But.setCells g (.inl (by simp)) _ _ _ (But.refl _ _)) (h.r.setL k la0 hk) (Vc.nil _ _ _ _) (by rw [la0_wbk]; simp) (fun i _ _ m hm => by rw [la0_wbk] at hm; cases hm)
/-- Behind a method that turns the cache to c. -/
def PoU (w0 : World) (g : Nat) (c : Ch) (e : Ending) (w' : World) : Prop := ∃ X, e = .returned (.tuple #[]) ∧ lns X = c.L ∧ OwP w0 w' g c.M X
/-- Behind one that answers a number, too. -/
def PoN (w0 : World) (g : Nat) (c : Ch) (n : Int) (e : Ending) (w' : World) : Prop := ∃ X, e = .returned (.int .i64 n) ∧ lns X = c.L ∧ OwP w0 w' g c.M X

theorem me_look (a : Addr) (w : World) : (method 235 103 (.pointer (some a)) "loop.example/harbinger/impl.look").run Try.prog w = .ok (128, .pointer (some a)) w := by kernel_rfl
theorem na_look (a : Addr) (w : World) : (nilAhead 235 103 (.pointer (some a)) "loop.example/harbinger/impl.look").run Try.prog w = .ok (some false) w := by kernel_rfl
theorem ml_look (a : Addr) (w : World) : (method 235 104 (.pointer (some a)) "loop.example/harbinger/impl.look").run Try.prog w = .ok (133, .pointer (some a)) w := by kernel_rfl
theorem nl_look (a : Addr) (w : World) : (nilAhead 235 104 (.pointer (some a)) "loop.example/harbinger/impl.look").run Try.prog w = .ok (some false) w := by kernel_rfl
theorem me_read (a : Addr) (w : World) : (method 235 103 (.pointer (some a)) "loop.example/harbinger/impl.read").run Try.prog w = .ok (129, .pointer (some a)) w := by kernel_rfl
theorem na_read (a : Addr) (w : World) : (nilAhead 235 103 (.pointer (some a)) "loop.example/harbinger/impl.read").run Try.prog w = .ok (some false) w := by kernel_rfl
theorem ml_read (a : Addr) (w : World) : (method 235 104 (.pointer (some a)) "loop.example/harbinger/impl.read").run Try.prog w = .ok (134, .pointer (some a)) w := by kernel_rfl
theorem nl_read (a : Addr) (w : World) : (nilAhead 235 104 (.pointer (some a)) "loop.example/harbinger/impl.read").run Try.prog w = .ok (some false) w := by kernel_rfl
theorem me_write (a : Addr) (w : World) : (method 235 103 (.pointer (some a)) "loop.example/harbinger/impl.write").run Try.prog w = .ok (130, .pointer (some a)) w := by kernel_rfl
theorem na_write (a : Addr) (w : World) : (nilAhead 235 103 (.pointer (some a)) "loop.example/harbinger/impl.write").run Try.prog w = .ok (some false) w := by kernel_rfl
theorem ml_write (a : Addr) (w : World) : (method 235 104 (.pointer (some a)) "loop.example/harbinger/impl.write").run Try.prog w = .ok (135, .pointer (some a)) w := by kernel_rfl
theorem nl_write (a : Addr) (w : World) : (nilAhead 235 104 (.pointer (some a)) "loop.example/harbinger/impl.write").run Try.prog w = .ok (some false) w := by kernel_rfl
theorem me_lay (a : Addr) (w : World) : (method 235 103 (.pointer (some a)) "loop.example/harbinger/impl.lay").run Try.prog w = .ok (127, .pointer (some a)) w := by kernel_rfl
theorem na_lay (a : Addr) (w : World) : (nilAhead 235 103 (.pointer (some a)) "loop.example/harbinger/impl.lay").run Try.prog w = .ok (some false) w := by kernel_rfl
theorem ml_lay (a : Addr) (w : World) : (method 235 104 (.pointer (some a)) "loop.example/harbinger/impl.lay").run Try.prog w = .ok (132, .pointer (some a)) w := by kernel_rfl
theorem nl_lay (a : Addr) (w : World) : (nilAhead 235 104 (.pointer (some a)) "loop.example/harbinger/impl.lay").run Try.prog w = .ok (some false) w := by kernel_rfl
theorem ram_look (g i : Nat) (a v : Int) (w : World) (ha : a = (i : Int)) (hi : i < 256) (h : w.cell? ⟨g, i, none⟩ = some (.int .i64 v)) :
    Calls Try.prog 128 #[.pointer (some ⟨g, 0, none⟩), .int .i64 a] w fun e w' => e = .returned (.int .i64 v) ∧ w = w' := by
  subst ha
  have h0 : (0 : Int) ≤ (i : Int) := Int.natCast_nonneg _
  have h1 : (i : Int) < 256 := by omega
  go_enter Try.func128, Try.ntmps128
  go_wp2
  go_ret
  exact ⟨rfl, rfl⟩
theorem ram_read (g i : Nat) (a v : Int) (w : World) (ha : a = (i : Int)) (hi : i < 256) (h : w.cell? ⟨g, i, none⟩ = some (.int .i64 v)) :
    Calls Try.prog 129 #[.pointer (some ⟨g, 0, none⟩), .int .i64 a] w fun e w' => e = .returned (.int .i64 v) ∧ w = w' := by
  subst ha
  go_enter Try.func129, Try.ntmps129
  go_wp2_with (go_at_call 128; refine (ram_look g i (i : Int) v w rfl hi h).mono ?_; rintro e w' ⟨rfl, rfl⟩)
  go_ret
  exact ⟨rfl, rfl⟩
theorem ram_write (g i : Nat) (a v x : Int) (w : World) (ha : a = (i : Int)) (hi : i < 256) (h : w.cell? ⟨g, i, none⟩ = some (.int .i64 x)) (hf : w.frozen? ⟨g, i, none⟩ = false) :
    Calls Try.prog 130 #[.pointer (some ⟨g, 0, none⟩), .int .i64 a, .int .i64 v] w fun e w' => e = .returned (.tuple #[]) ∧ w.setCell ⟨g, i, none⟩ (.int .i64 v) = w' := by
  subst ha
  have h0 : (0 : Int) ≤ (i : Int) := Int.natCast_nonneg _
  have h1 : (i : Int) < 256 := by omega
  go_enter Try.func130, Try.ntmps130
  go_wp2
  (first | refine bodyPost_end (results_none rfl _ _ _) rfl ?_ | refine bodyPost_ret (results_none rfl _ _ _) rfl ?_)
  exact ⟨rfl, rfl⟩
theorem ram_lay (g i : Nat) (a v x : Int) (w : World) (ha : a = (i : Int)) (hi : i < 256) (h : w.cell? ⟨g, i, none⟩ = some (.int .i64 x)) (hf : w.frozen? ⟨g, i, none⟩ = false) :
    Calls Try.prog 127 #[.pointer (some ⟨g, 0, none⟩), .int .i64 a, .int .i64 v] w fun e w' => e = .returned (.tuple #[]) ∧ w.setCell ⟨g, i, none⟩ (.int .i64 v) = w' := by
  subst ha
  go_enter Try.func127, Try.ntmps127
  go_wp2_with (go_at_call 130; refine (ram_write g i (i : Int) v x w rfl hi h hf).mono ?_; rintro e w' ⟨rfl, rfl⟩)
  (first | refine bodyPost_end (results_none rfl _ _ _) rfl ?_ | refine bodyPost_ret (results_none rfl _ _ _) rfl ?_)
  exact ⟨rfl, rfl⟩
set_option maxRecDepth 100000 in
set_option maxHeartbeats 4000000 in
theorem line_evict (w0 : World) (g k o : Nat) (M : List Int) (X : List La) (w : World) (h : OwP w0 w g M X) (ho : OkC ⟨M, lns X⟩) (hk : k < 4) (hoo : 256 + k * 5 = o) :
    Calls Try.prog 131 #[.pointer (some ⟨g, o, none⟩)] w fun e w' => e = .returned (.tuple #[]) ∧ OwP w0 w' g (backC ⟨M, lns X⟩ k).M (X.set k la0) := by
  have HO := Lib.hid h
  have HOK := Lib.hid ho
  have HN := Lib.hid (lns_get X k)
  have HLk : Hid (okLn M (k : Int) (X.getD k la0).n = true) := Lib.hid (by have := okLns_at ho.L k (by rw [ho.Ll]; exact hk); rwa [show (Ch.mk M (lns X)).L = lns X from rfl, lns_get] at this)
  have HW := Lib.hid (h.w.wd k (by rw [h.r.Xl]; exact hk))
  have HG := Lib.hid (h.ap k (by rw [h.r.Xl]; exact hk))
  have hlt := h.r.lt
  have c0 := h.r.c0 k hk
  have c1 := h.r.c1 k hk
  have c2 := h.r.c2 k hk
  have c3 := h.r.c3 k hk
  have c4 := h.r.c4 k hk
  rw [hoo] at c0 c1 c2 c3 c4
  have Hoo := Lib.hid hoo
  have ho256 : 256 ≤ o := by omega
  generalize hl : X.getD k la0 = l at *
  have HL := Lib.hid hl
  clear hl h ho hoo
  have FIN : ∀ (v : World) (M' : List Int), OwP w0 v g M' X → (backC ⟨M, lns X⟩ k).M = M' → ∀ v2, v.setCells g o (lac la0) = v2 → OwP w0 v2 g (backC ⟨M, lns X⟩ k).M (X.set k la0) := fun v M' hv he v2 hv2 => by
    rw [he, ← hv2, ← Hoo.out]
    exact hv.zero k hk
  have FI := Lib.hid FIN
  clear FIN
  cases hd : l.n.d
  · rw [hd] at c2
    have EM := Lib.hid (show (backC ⟨M, lns X⟩ k).M = M by simp only [backC]; rw [HN.out, hd]; rfl)
    have TH := Lib.hid (HO.out.r.there k hk)
    rw [Hoo.out] at TH
    obtain ⟨v2, hv2⟩ : ∃ v2, w.setCells g o (lac la0) = v2 := ⟨_, rfl⟩
    have HV2 := Lib.hid hv2
    clear hv2
    go_enter Try.func131, Try.ntmps131
    go_wp2_with (refine wpList_store_line rfl _ _ rfl g o la0 rfl rfl TH.out v2 HV2.out ?_)
    (first | refine bodyPost_end (results_none rfl _ _ _) rfl ?_ | refine bodyPost_ret (results_none rfl _ _ _) rfl ?_)
    exact ⟨rfl, FI.out w M HO.out EM.out v2 HV2.out⟩
  · rw [hd] at c2
    have hU := okLn_used HLk.out (okLn_d HLk.out hd)
    obtain ⟨N, hN⟩ := Int.eq_ofNat_of_zero_le hU.p0
    have hN2 : N ≤ 252 := by have := hU.p1; omega
    have hWl := hU.Wl
    have EM := Lib.hid (show (backC ⟨M, lns X⟩ k).M = putN M N l.n.W 4 by simp only [backC]; rw [HN.out, hd, hN]; rfl)
    obtain ⟨gW, hgW, _, hgWl, kW, _⟩ := HW.out.at0 (by omega)
    have HKW := Lib.hid kW
    have HNW : Hid (g ≠ gW) := Lib.hid (fun e => HG.out (by show g ∈ bkS l.n.W.length l.a; rw [hgW, e]; exact bkS_mem (b := ⟨gW, 0, none⟩) (by omega)))
    have HWL := Lib.hid hWl
    rw [hgW, hWl] at c3
    rw [hN] at c1
    have HN1 := Lib.hid hN
    clear kW hgW hN hWl hd hlt HW HG hU c0
    go_enter Try.func131, Try.ntmps131
    go_wp2_with fail
    clear c1 c2 c3 c4
    go_loopw [15] (fun i wr => ∃ j : Nat, j ≤ 4 ∧ i = .int .i64 j ∧ OwP w0 wr g (putN M N l.n.W j) X ∧ But [g] w wr) (fun i _ => 4 - (intOf i).toNat)
    case atStart => exact ⟨0, by omega, rfl, HO.out, But.refl _ _⟩
    case round =>
      obtain ⟨j, hj, rfl, hO, hb⟩ := hrel
      have OV := Lib.hid hO
      have BV := Lib.hid hb
      by_cases hjl : j < 4
      · have hj4 : (j : Int) < 4 := by omega
        have c0 := hO.r.c0 k hk
        have c1 := hO.r.c1 k hk
        have c2 := hO.r.c2 k hk
        have c3 := hO.r.c3 k hk
        have c4 := hO.r.c4 k hk
        rw [Hoo.out] at c0 c1 c2 c3 c4
        rw [HL.out, HN1.out] at c1
        clear c0 c2 c3
        have kw : wr.cell? ⟨gW, j, none⟩ = some (.int .i64 (l.n.W.getD j 0)) := by
          rw [hb.cell hgWl (by have := HNW.out; simp; omega)]; exact HKW.out j (by have := HWL.out; omega)
        have km := hO.r.M (N + j) (by omega)
        have kf := hO.r.fro (N + j) (by omega)
        have hj0 : (0 : Int) ≤ (j : Int) := Int.natCast_nonneg _
        have hw1 : IntKind.i64.wrap ((N : Int) + (j : Int)) = (N : Int) + (j : Int) := IntWalk.i64_in _ (by omega)
        have hNx : putN M N l.n.W (j + 1) = (putN M N l.n.W j).set (N + j) (l.n.W.getD j 0) := rfl
        have HNx := Lib.hid hNx
        clear hO hb hNx
        generalize (putN M N l.n.W j).getD (N + j) 0 = mv at km
        generalize hz : l.n.W.getD j 0 = z at *
        clear hz
        go_wp2_with fail
        have hme := fun w => me_write ⟨g, 0, none⟩ w
        have hna := fun w => na_write ⟨g, 0, none⟩ w
        go_region_held3 (fun v => v.cell? ⟨g, o + 1, none⟩ = some (.int .i64 (N : Int)) ∧ v.cell? ⟨g, o + 4, none⟩ = some (rif g))
          (first | (go_keep; done) | (refine ⟨?_, ?_⟩ <;> exact (setCell_out (by omega)).trans (by assumption)))
          (first | (go_at_call 130; refine (ram_write g (N + j) ((N : Int) + (j : Int)) z mv wr.drew (by omega) (by omega) km kf).mono ?_; rintro e v1 ⟨rfl, rfl⟩))
        go_wp2
        clear hw1
        go_roundw
        case rel =>
          refine ⟨j + 1, by omega, by go_num, ?_, ?_⟩
          · rw [HNx.out]
            exact (OV.out.setM (N + j) z (by omega)).fr (Below.drew (Below.refl _ _))
          · exact (BV.out.set g (N + j) (.int .i64 z) (.inl (by simp))).drew
        case measure => simp [intOf]; omega
      · have hge : ¬ (j : Int) < 4 := by omega
        obtain rfl : j = 4 := by omega
        clear hO hb
        have TH := Lib.hid (OV.out.r.there k hk)
        rw [Hoo.out] at TH
        obtain ⟨v2, hv2⟩ : ∃ v2, wr.setCells g o (lac la0) = v2 := ⟨_, rfl⟩
        have HV2 := Lib.hid hv2
        clear hv2
        go_wp2_with (refine wpList_store_line rfl _ _ rfl g o la0 rfl rfl TH.out v2 HV2.out ?_)
        (first | refine bodyPost_end (results_none rfl _ _ _) rfl ?_ | refine bodyPost_ret (results_none rfl _ _ _) rfl ?_)
        exact ⟨rfl, FI.out wr _ OV.out EM.out v2 HV2.out⟩

theorem four_take (M : List Int) (N j : Nat) (hj : j < 4) : (four M N).take (j + 1) = (four M N).take j ++ [M.getD (N + j) 0] := by
  rw [List.take_add_one]
  congr 1
  have : (four M N)[j]? = some (M.getD (N + j) 0) := by simp [four, hj]
  rw [this]; rfl
theorem thr {L : List Nat} {w v u : World} {g i : Nat} (f : Fr w v) (b : But L v u) (hg : g < w.heap.size) (hn : g ∉ L) : u.cell? ⟨g, i, none⟩ = w.cell? ⟨g, i, none⟩ := (b.cell (Nat.lt_of_lt_of_le hg f.size) hn).trans (f.cell hg)
theorem thrF {L : List Nat} {w v u : World} {g i : Nat} (f : Fr w v) (b : But L v u) (hg : g < w.heap.size) (hn : g ∉ L) : u.frozen? ⟨g, i, none⟩ = w.frozen? ⟨g, i, none⟩ := (b.frozen (Nat.lt_of_lt_of_le hg f.size) hn).trans (f.frozen hg)
theorem load_next {w0 wr v3 : World} {g k o : Nat} {M1 : List Int} {X : List La} {N : Int} {W : List Int} {ao : Option Addr} {c : Nat} {x : Int} {g2 c2 : Nat} (hk : k < 4) (hX : X.length = 4) (OV : OwP w0 wr g M1 (X.set k ⟨⟨true, N, false, W⟩, ao, c⟩)) (hg : g ∉ bkS W.length ao) (R3 : Ro v3 g2 (W ++ [x])) (C3 : Ca v3 g2 (W ++ [x]).length c2) (hB3 : w0.heap.size ≤ g2) (hgo : (0 < W.length ∧ ao = some ⟨g2, 0, none⟩) ∨ wr.heap.size ≤ g2) (FS : But (bkS W.length ao) wr v3) (hoo : 256 + k * 5 = o) :
    OwP w0 (v3.setCell ⟨g, o + 3, none⟩ (.slice (some ⟨g2, 0, none⟩) (W ++ [x]).length c2)) g M1 (X.set k ⟨⟨true, N, false, W ++ [x]⟩, some ⟨g2, 0, none⟩, c2⟩) ∧ Rc w0.heap.size (v3.setCell ⟨g, o + 3, none⟩ (.slice (some ⟨g2, 0, none⟩) (W ++ [x]).length c2)) (W ++ [x]) (some ⟨g2, 0, none⟩) c2 := by
  subst hoo
  have hgy : (X.set k ⟨⟨true, N, false, W⟩, ao, c⟩).getD k la0 = ⟨⟨true, N, false, W⟩, ao, c⟩ := by rw [getD_setA, if_pos ⟨rfl, by omega⟩]
  have hkl : k < (X.set k ⟨⟨true, N, false, W⟩, ao, c⟩).length := by rw [List.length_set]; omega
  have hgl := OV.r.lt
  have hne : ¬ g = g2 := fun e => by
    subst e
    rcases hgo with ⟨h0, e⟩ | h
    · exact hg (by rw [e]; exact bkS_mem (b := ⟨g, 0, none⟩) h0)
    · omega
  have rk := OV.r.but FS hg
  have d0 := rk.c0 k hk
  have d1 := rk.c1 k hk
  have d2 := rk.c2 k hk
  have d3 := rk.c3 k hk
  rw [hgy] at d0 d1 d2 d3
  have hR4 := R3.other g (256 + k * 5 + 3) (.slice (some ⟨g2, 0, none⟩) (W ++ [x]).length c2) hne
  have hwk := OV.w.bk k hkl
  have hwa := OV.w.ap
  rw [show wbk ((X.set k ⟨⟨true, N, false, W⟩, ao, c⟩).getD k la0) = bkS W.length ao by rw [hgy]] at hwk
  refine ⟨?_, .inr ⟨g2, rfl, hB3, hR4, C3.set _ _ _, by simp⟩⟩
  have h := OV.turn' (L := g :: bkS W.length ao) (u' := v3.setCell ⟨g, 256 + k * 5 + 3, none⟩ (.slice (some ⟨g2, 0, none⟩) (W ++ [x]).length c2)) k ⟨⟨true, N, false, W ++ [x]⟩, some ⟨g2, 0, none⟩, c2⟩ hk
    ((FS.mono (fun m hm _ => List.mem_cons_of_mem _ hm)).set _ _ _ (.inl (List.mem_cons_self ..)))
    (fun m hm => by
      rcases List.mem_cons.1 hm with rfl | hm
      · exact OV.b
      · exact (hwk m hm).1)
    (fun i hi hik m hm hx => by
      rcases List.mem_cons.1 hx with rfl | hx
      · exact OV.ap i hi hm
      · exact hwa i k hi hkl hik m hm (by rw [hgy]; exact hx))
    (rk.turn k _ hk (by simp) (fun i => by rw [World.frozen?_setCell]) (fun i hi => setCell_out (by omega)) (by rw [setCell_out (by omega)]; exact d0) (by rw [setCell_out (by omega)]; exact d1) (by rw [setCell_out (by omega)]; exact d2) (setCell_in d3))
    ⟨fun _ => ⟨g2, rfl, hB3, hR4.lt, hR4.cel, hR4.fro⟩⟩
    (fun hm => hne (bkS_one hm))
    (fun i hi hik m hm hx => by
      have hm' := bkS_one hm
      subst hm'
      rcases hgo with ⟨h0, e⟩ | hl
      · exact hwa k i hkl hi (Ne.symm hik) _ (by rw [hgy, e]; exact bkS_mem (b := ⟨m, 0, none⟩) h0) hx
      · have := (OV.w.bk i hi m hx).2; omega)
  rwa [List.set_set] at h
set_option maxRecDepth 100000 in
set_option maxHeartbeats 8000000 in
theorem line_load (w0 : World) (g k o : Nat) (M : List Int) (X : List La) (a : Int) (w : World) (h : OwP w0 w g M X) (ho : OkC ⟨M, lns X⟩) (ha : plcB a = true) (hks : slotOf a = k) (hoo : 256 + k * 5 = o) :
    Calls Try.prog 136 #[.pointer (some ⟨g, o, none⟩), .int .i64 a] w (PoU w0 g (bringC ⟨M, lns X⟩ a)) := by
  have hk : k < 4 := by rw [← hks]; exact slotOf_lt a
  obtain ⟨a0, a1⟩ := (plcB_iff a).1 ha
  obtain ⟨N, hN⟩ : ∃ N : Nat, blkA a = (N : Int) := ⟨(a - a % 4).toNat, by unfold blkA; omega⟩
  have hN2 : N ≤ 252 := by unfold blkA at hN; omega
  have HO := Lib.hid h
  have HOK := Lib.hid ho
  have Hoo := Lib.hid hoo
  have hlt := h.r.lt
  have c0 := h.r.c0 k hk
  have c1 := h.r.c1 k hk
  have c2 := h.r.c2 k hk
  have c3 := h.r.c3 k hk
  rw [hoo] at c0 c1 c2 c3
  have hBr : ∀ b, holdsL (X.getD k la0).n a = b → bringC ⟨M, lns X⟩ a = if b = true then ⟨M, lns X⟩ else ⟨(backC ⟨M, lns X⟩ k).M, (backC ⟨M, lns X⟩ k).L.set k ⟨true, blkA a, false, four (backC ⟨M, lns X⟩ k).M (blkA a).toNat⟩⟩ := fun b hb => by
    simp only [bringC, heldC, hks]
    rw [lns_get, hb]
  have HBr := Lib.hid hBr
  have HH := Lib.hid (fun w => impl_holds (X.getD k la0) a w a0 (by omega))
  have HE := Lib.hid (fun w h => line_evict w0 g k o M X w h ho hk hoo)
  have ho256 : 256 ≤ o := by omega
  have HNb := Lib.hid hN
  have HB := Lib.hid (fun w => impl_blockOf a w a0 (by omega))
  rw [hN] at HB
  have hN0 : (0 : Int) ≤ (N : Int) := Int.natCast_nonneg _
  clear h ho hoo hBr hks hN ha
  generalize X.getD k la0 = l at *
  go_enter Try.func136, Try.ntmps136
  go_wp2_with fail
  refine (HH.out _).mono ?_
  rintro e u1 ⟨rfl, f1⟩
  have HO1 := Lib.hid (HO.out.fr f1)
  clear f1 c0 c1 c2 c3 HH HO
  cases hh : holdsL l.n a
  · have HQ := Lib.hid (HBr.out false hh)
    clear HBr hh
    go_wp2_with fail
    refine (HE.out u1 HO1.out).mono ?_
    rintro e u2 ⟨rfl, hO2⟩
    have HO2 := Lib.hid hO2
    have HM2 := Lib.hid hO2.r.Ml
    obtain ⟨M1, hM1⟩ : ∃ M1, (backC ⟨M, lns X⟩ k).M = M1 := ⟨_, rfl⟩
    rw [hM1] at HO2 HM2
    have HMq := Lib.hid hM1
    have hlt2 := hO2.r.lt
    have hXl : X.length = 4 := by have := HO1.out.r.Xl; exact this
    have hg0 : (X.set k la0).getD k la0 = la0 := by rw [getD_setA]; split <;> simp_all
    have d0 := hO2.r.c0 k hk
    have d1 := hO2.r.c1 k hk
    have d2 := hO2.r.c2 k hk
    have d3 := hO2.r.c3 k hk
    have q0 := hO2.r.fro (256 + k * 5) (by omega)
    have q1 := hO2.r.fro (256 + k * 5 + 1) (by omega)
    rw [Hoo.out] at d0 d1 d2 d3 q0 q1
    rw [hg0] at d0 d1 d2 d3
    have HXl := Lib.hid hXl
    clear hO2 hM1 hg0 HE HO1 hlt hXl
    go_upto_region 3 with (go_at_call 104; refine (HB.out _).mono ?_; rintro e w' ⟨rfl, rfl⟩)
    have hb3 : But [g] u2 ((u2.setCell ⟨g, o, none⟩ (.bool true)).setCell ⟨g, o + 1, none⟩ (.int .i64 (N : Int))) := ((But.refl _ _).set _ _ _ (.inl (by simp))).set _ _ _ (.inl (by simp))
    have HO3 : Hid (OwP w0 ((u2.setCell ⟨g, o, none⟩ (.bool true)).setCell ⟨g, o + 1, none⟩ (.int .i64 (N : Int))) g M1 (X.set k ⟨⟨true, (N : Int), false, []⟩, none, 0⟩)) := Lib.hid (by
      have ht := HO2.out.turn k ⟨⟨true, (N : Int), false, []⟩, none, 0⟩ hk hb3 (HO2.out.r.turn k _ hk hb3.size (fun i => by rw [World.frozen?_setCell, World.frozen?_setCell]) (fun i hi => by rw [Hoo.out] at hi; rw [setCell_out (by omega), setCell_out (by omega)]) (by rw [Hoo.out, setCell_out (by omega)]; exact setCell_in d0) (by rw [Hoo.out]; exact setCell_in (by rw [setCell_out (by omega)]; exact d1)) (by rw [Hoo.out, setCell_out (by omega), setCell_out (by omega)]; exact d2) (by rw [Hoo.out, setCell_out (by omega), setCell_out (by omega)]; exact d3)) (Vc.nil _ _ _ _) (by simp [bkS]) (fun i _ _ m hm => by simp [bkS] at hm)
      rwa [List.set_set] at ht)
    generalize ((u2.setCell ⟨g, o, none⟩ (.bool true)).setCell ⟨g, o + 1, none⟩ (.int .i64 (N : Int))) = u3 at *
    clear d0 d1 d2 d3 q0 q1 hb3 HO2 hlt2
    go_wp2_with fail
    go_loopw [23] (fun i wr => ∃ (j : Nat) (ao : Option Addr) (c : Nat), j ≤ 4 ∧ i = .int .i64 j ∧ OwP w0 wr g M1 (X.set k ⟨⟨true, (N : Int), false, (four M1 N).take j⟩, ao, c⟩) ∧ Rc w0.heap.size wr ((four M1 N).take j) ao c) (fun i _ => 4 - (intOf i).toNat)
    case atStart => exact ⟨0, none, 0, by omega, rfl, HO3.out, .inl ⟨rfl, rfl⟩⟩
    case round =>
      obtain ⟨j, ao, c, hj, rfl, hO, hR⟩ := hrel
      clear HO3
      have OV := Lib.hid hO
      have RV := Lib.hid hR
      have hgy : (X.set k ⟨⟨true, (N : Int), false, (four M1 N).take j⟩, ao, c⟩).getD k la0 = ⟨⟨true, (N : Int), false, (four M1 N).take j⟩, ao, c⟩ := by rw [getD_setA, if_pos ⟨rfl, by rw [HXl.out]; exact hk⟩]
      by_cases hjl : j < 4
      · have hj4 : (j : Int) < 4 := by omega
        have c1 := hO.r.c1 k hk
        have c3 := hO.r.c3 k hk
        have c4 := hO.r.c4 k hk
        have f3 := hO.r.fro (256 + k * 5 + 3) (by omega)
        rw [Hoo.out] at c1 c3 c4 f3
        rw [hgy] at c1 c3
        have HG := Lib.hid (show g ∉ bkS ((four M1 N).take j).length ao by have := hO.ap k (by rw [List.length_set, HXl.out]; exact hk); rw [hgy] at this; exact this)
        have km := hO.r.M (N + j) (by omega)
        have hj0 : (0 : Int) ≤ (j : Int) := Int.natCast_nonneg _
        have hw1 : IntKind.i64.wrap ((N : Int) + (j : Int)) = (N : Int) + (j : Int) := IntWalk.i64_in _ (by omega)
        have HT := Lib.hid (four_take M1 N j hjl)
        have hgl := hO.r.lt
        have hbl := hO.f.size
        have hWl : Hid (((four M1 N).take j).length ≤ 1000) := Lib.hid (by simp; omega)
        clear hO hR hgy
        generalize M1.getD (N + j) 0 = x at *
        obtain ⟨W, hW⟩ : ∃ W, W = (four M1 N).take j := ⟨_, rfl⟩
        rw [← hW] at OV RV c3 HG HT hWl
        have HWq := Lib.hid hW
        clear hW
        simp only at c1 c3
        have hme := fun w => me_read ⟨g, 0, none⟩ w
        have hna := fun w => na_read ⟨g, 0, none⟩ w
        go_wp2_with fail
        go_region_law (first
            | (go_simp; go_at_call 129; refine (ram_read g (N + j) ((N : Int) + (j : Int)) x wr.drew (by omega) (by omega) km).mono ?_; rintro e v1 ⟨rfl, rfl⟩)
            | (rw [if_pos (by simp [Region.wanted])]; refine wp_append_rc _ _ rfl w0.heap.size W ao c rfl (RV.out.fr (by (repeat' first | (with_reducible exact Below.refl _ _) | (with_reducible assumption) | ((with_reducible refine Below.setCell ?_ ?hb _); (case hb => first | exact Nat.le_refl _ | (simp; done) | (simp; omega) | omega)) | ((with_reducible refine Below.alloc ?_ ?hb _); (case hb => first | exact Nat.le_refl _ | (simp; done) | (simp; omega) | omega)) | (with_reducible refine Below.drew ?_)))) x _ rfl (by simp) hWl.out (by simp; omega) ?_; intro g2 c2 v3 r3 ca3 hB3 hgo3 b3; have x1 := (thr (by (repeat' first | (with_reducible exact Below.refl _ _) | (with_reducible assumption) | ((with_reducible refine Below.setCell ?_ ?hb _); (case hb => first | exact Nat.le_refl _ | (simp; done) | (simp; omega) | omega)) | ((with_reducible refine Below.alloc ?_ ?hb _); (case hb => first | exact Nat.le_refl _ | (simp; done) | (simp; omega) | omega)) | (with_reducible refine Below.drew ?_))) b3 hgl HG.out).trans c1; have x3 := (thr (by (repeat' first | (with_reducible exact Below.refl _ _) | (with_reducible assumption) | ((with_reducible refine Below.setCell ?_ ?hb _); (case hb => first | exact Nat.le_refl _ | (simp; done) | (simp; omega) | omega)) | ((with_reducible refine Below.alloc ?_ ?hb _); (case hb => first | exact Nat.le_refl _ | (simp; done) | (simp; omega) | omega)) | (with_reducible refine Below.drew ?_))) b3 hgl HG.out).trans c3; have x4 := (thr (by (repeat' first | (with_reducible exact Below.refl _ _) | (with_reducible assumption) | ((with_reducible refine Below.setCell ?_ ?hb _); (case hb => first | exact Nat.le_refl _ | (simp; done) | (simp; omega) | omega)) | ((with_reducible refine Below.alloc ?_ ?hb _); (case hb => first | exact Nat.le_refl _ | (simp; done) | (simp; omega) | omega)) | (with_reducible refine Below.drew ?_))) b3 hgl HG.out).trans c4; have y3 := (thrF (by (repeat' first | (with_reducible exact Below.refl _ _) | (with_reducible assumption) | ((with_reducible refine Below.setCell ?_ ?hb _); (case hb => first | exact Nat.le_refl _ | (simp; done) | (simp; omega) | omega)) | ((with_reducible refine Below.alloc ?_ ?hb _); (case hb => first | exact Nat.le_refl _ | (simp; done) | (simp; omega) | omega)) | (with_reducible refine Below.drew ?_))) b3 hgl HG.out).trans f3; have R3 := Lib.hid r3; have C3 := Lib.hid ca3; have FB := Lib.hid (fun j => (thr (i := j) (show Fr wr _ by (repeat' first | (with_reducible exact Below.refl _ _) | (with_reducible assumption) | ((with_reducible refine Below.setCell ?_ ?hb _); (case hb => first | exact Nat.le_refl _ | (simp; done) | (simp; omega) | omega)) | ((with_reducible refine Below.alloc ?_ ?hb _); (case hb => first | exact Nat.le_refl _ | (simp; done) | (simp; omega) | omega)) | (with_reducible refine Below.drew ?_))) b3 hgl HG.out)); have FZ := Lib.hid (fun j => (thrF (i := j) (show Fr wr _ by (repeat' first | (with_reducible exact Below.refl _ _) | (with_reducible assumption) | ((with_reducible refine Below.setCell ?_ ?hb _); (case hb => first | exact Nat.le_refl _ | (simp; done) | (simp; omega) | omega)) | ((with_reducible refine Below.alloc ?_ ?hb _); (case hb => first | exact Nat.le_refl _ | (simp; done) | (simp; omega) | omega)) | (with_reducible refine Below.drew ?_))) b3 hgl HG.out)); have FS := Lib.hid (But.trans (But.of (show Fr wr _ by (repeat' first | (with_reducible exact Below.refl _ _) | (with_reducible assumption) | ((with_reducible refine Below.setCell ?_ ?hb _); (case hb => first | exact Nat.le_refl _ | (simp; done) | (simp; omega) | omega)) | ((with_reducible refine Below.alloc ?_ ?hb _); (case hb => first | exact Nat.le_refl _ | (simp; done) | (simp; omega) | omega)) | (with_reducible refine Below.drew ?_)))) b3); have hgo4 := Lib.hid (hgo3.imp id (fun h => Nat.le_trans (show Fr wr _ by (repeat' first | (with_reducible exact Below.refl _ _) | (with_reducible assumption) | ((with_reducible refine Below.setCell ?_ ?hb _); (case hb => first | exact Nat.le_refl _ | (simp; done) | (simp; omega) | omega)) | ((with_reducible refine Below.alloc ?_ ?hb _); (case hb => first | exact Nat.le_refl _ | (simp; done) | (simp; omega) | omega)) | (with_reducible refine Below.drew ?_))).size h)); clear r3 ca3 b3 hgo3))
        all_goals
          have hn := load_next hk HXl.out OV.out HG.out R3.out C3.out hB3 hgo4.out FS.out Hoo.out
          rw [show (W ++ [x]).length = W.length + 1 by simp] at hn
          have HX4 := Lib.hid hn
          clear hn c1 c3 c4 f3 x1 x3 x4 y3 FB FZ R3 C3 FS hgo4 hw1 km hme hna
          go_wp2
          go_roundw
          case rel =>
            refine ⟨j + 1, some ⟨g2, 0, none⟩, c2, by omega, by go_num, ?_, ?_⟩
            · rw [HT.out]; exact HX4.out.1
            · rw [HT.out]; exact HX4.out.2
          case measure => simp [intOf]; omega
      · have hge : ¬ (j : Int) < 4 := by omega
        obtain rfl : j = 4 := by omega
        clear hO hR
        go_wp2
        (first | refine bodyPost_end (results_none rfl _ _ _) rfl ?_ | refine bodyPost_ret (results_none rfl _ _ _) rfl ?_)
        have e4 : (four M1 N).take 4 = four M1 N := List.take_of_length_le (by rw [four_len]; omega)
        rw [HQ.out, if_neg (by decide), HMq.out]
        refine ⟨_, rfl, ?_, OV.out⟩
        rw [lns_set, e4, HNb.out]
        simp only [backC, List.set_set, Int.toNat_natCast]
  · have HQ := Lib.hid (HBr.out true hh)
    clear HBr hh
    go_wp2
    (first | refine bodyPost_end (results_none rfl _ _ _) rfl ?_ | refine bodyPost_ret (results_none rfl _ _ _) rfl ?_)
    rw [HQ.out]
    exact ⟨X, rfl, rfl, HO1.out⟩

/-- The word of a line that holds the place. -/
theorem look_held {M : List Int} {X : List La} {a : Int} {k : Nat} (hks : slotOf a = k) (h : holdsL (X.getD k la0).n a = true) : lookC ⟨M, lns X⟩ a = (X.getD k la0).n.W.getD (a % 4).toNat 0 := by
  simp only [lookC, heldC, hks, lns_get, h, if_true]
theorem look_not {M : List Int} {X : List La} {a : Int} {k : Nat} (hks : slotOf a = k) (h : holdsL (X.getD k la0).n a = false) : lookC ⟨M, lns X⟩ a = M.getD a.toNat 0 := by
  simp only [lookC, heldC, hks, lns_get, h]; rfl
set_option maxRecDepth 100000 in
set_option maxHeartbeats 1000000 in
theorem line_look (w0 : World) (g k o : Nat) (M : List Int) (X : List La) (a : Int) (w : World) (h : OwP w0 w g M X) (ho : OkC ⟨M, lns X⟩) (ha : plcB a = true) (hks : slotOf a = k) (hoo : 256 + k * 5 = o) :
    Calls Try.prog 133 #[.pointer (some ⟨g, o, none⟩), .int .i64 a] w fun e w' => e = .returned (.int .i64 (lookC ⟨M, lns X⟩ a)) ∧ Fr w w' := by
  have hk : k < 4 := by rw [← hks]; exact slotOf_lt a
  obtain ⟨a0, a1⟩ := (plcB_iff a).1 ha
  have HO := Lib.hid h
  have Hoo := Lib.hid hoo
  have hlt := h.r.lt
  have c0 := h.r.c0 k hk
  have c1 := h.r.c1 k hk
  have c2 := h.r.c2 k hk
  have c3 := h.r.c3 k hk
  rw [hoo] at c0 c1 c2 c3
  have HH := Lib.hid (fun w => impl_holds (X.getD k la0) a w a0 (by omega))
  have HKs := Lib.hid hks
  have hlk := okLns_at ho.L k (by rw [ho.Ll]; exact hk)
  rw [show (Ch.mk M (lns X)).L = lns X from rfl, lns_get] at hlk
  have HLk := Lib.hid hlk
  clear h ho hoo hks ha hlk
  cases hh : holdsL (X.getD k la0).n a
  · have HQ := Lib.hid (look_not (M := M) HKs.out hh)
    rw [HQ.out]
    rw [hh] at HH
    have hme := fun w => me_look ⟨g, 0, none⟩ w
    have hna := fun w => na_look ⟨g, 0, none⟩ w
    clear hh HLk
    go_enter Try.func133, Try.ntmps133
    go_wp2_with fail
    refine (HH.out _).mono ?_
    rintro e u1 ⟨rfl, f1⟩
    have HO1 := Lib.hid (HO.out.fr f1)
    have HF := Lib.hid f1
    have c4 := HO1.out.r.c4 k hk
    rw [Hoo.out] at c4
    have km := HO1.out.r.M a.toNat (by omega)
    clear f1 c0 c1 c2 c3
    go_wp2_with (go_at_call 128; refine (ram_look g a.toNat a (M.getD a.toNat 0) u1 (by omega) (by omega) km).mono ?_; rintro e w' ⟨rfl, rfl⟩)
    go_ret
    exact ⟨rfl, HF.out⟩
  · have HQ := Lib.hid (look_held (M := M) HKs.out hh)
    rw [HQ.out]
    rw [hh] at HH
    have hU := okLn_used HLk.out (by simp only [holdsL, Bool.and_eq_true] at hh; exact hh.1)
    have hWl := hU.Wl
    clear hh HLk hU
    have HW := Lib.hid (HO.out.w.wd k (by rw [HO.out.r.Xl]; exact hk))
    generalize X.getD k la0 = l at *
    obtain ⟨b, hb⟩ : ∃ b : Nat, a % 4 = (b : Int) := ⟨(a % 4).toNat, by omega⟩
    have hb4 : b < 4 := by omega
    have hbt : (a % 4).toNat = b := by omega
    rw [hbt]
    obtain ⟨gW, hgW, _, hgWl, kW, _⟩ := HW.out.at0 (by omega)
    have kb := kW b (by omega)
    have HGW := Lib.hid hgW
    have hbl : (b : Int) < (l.n.W.length : Int) := by omega
    have hb0 : (0 : Int) ≤ (b : Int) := Int.natCast_nonneg _
    have hm : Int.tmod a 4 = (b : Int) := by rw [Int.tmod_eq_emod_of_nonneg a0]; exact hb
    have HA := Lib.hid a0
    have HM := Lib.hid hm
    simp only [ivl] at kb
    generalize l.n.W.getD b 0 = z at *
    clear hb hbt kW HW hWl hm hgW
    go_enter Try.func133, Try.ntmps133
    go_wp2_with fail
    refine (HH.out _).mono ?_
    rintro e u1 ⟨rfl, f1⟩
    have HF := Lib.hid f1
    have d3 := (f1.cell hlt).trans c3
    rw [HGW.out] at d3
    have kb1 := (f1.cell hgWl).trans kb
    have hm := HM.out
    clear f1 c0 c1 c2 c3 kb
    go_wp2
    go_ret
    exact ⟨rfl, HF.out⟩
theorem lineC_ok {M : List Int} {X : List La} {c : Ch} (ho : OkC c) (e : lns X = c.L) (hM : M = c.M) : OkC ⟨M, lns X⟩ := by rw [hM, e]; exact ho
set_option maxRecDepth 100000 in
set_option maxHeartbeats 1000000 in
theorem line_read (w0 : World) (g k o : Nat) (M : List Int) (X : List La) (a : Int) (w : World) (h : OwP w0 w g M X) (ho : OkC ⟨M, lns X⟩) (ha : plcB a = true) (hks : slotOf a = k) (hoo : 256 + k * 5 = o) :
    Calls Try.prog 134 #[.pointer (some ⟨g, o, none⟩), .int .i64 a] w (PoN w0 g (bringC ⟨M, lns X⟩ a) (lookC (bringC ⟨M, lns X⟩ a) a)) := by
  have HL := Lib.hid (line_load w0 g k o M X a w h ho ha hks hoo)
  have hb := bringC_ok ho ha
  generalize bringC ⟨M, lns X⟩ a = c at *
  have HK := Lib.hid (fun X1 w1 (e : lns X1 = c.L) h1 => line_look w0 g k o c.M X1 a w1 h1 (lineC_ok hb e rfl) ha hks hoo)
  have HC := Lib.hid (fun X1 (e : lns X1 = c.L) => show (⟨c.M, lns X1⟩ : Ch) = c by rw [e])
  clear h ho ha hks hoo hb
  go_enter Try.func134, Try.ntmps134
  go_wp2_with fail
  refine HL.out.mono ?_
  rintro e u1 ⟨X1, rfl, hX1, hO1⟩
  have HO1 := Lib.hid hO1
  have HX1 := Lib.hid hX1
  have HK1 := Lib.hid (HK.out X1 u1 hX1 hO1)
  rw [HC.out X1 hX1] at HK1
  clear hO1 hX1 HL HK
  go_wp2_with fail
  refine HK1.out.mono ?_
  rintro e u2 ⟨rfl, f2⟩
  have HO2 := Lib.hid (HO1.out.fr f2)
  clear f2
  go_wp2
  go_ret
  exact ⟨X1, rfl, HX1.out, HO2.out⟩
set_option maxRecDepth 100000 in
set_option maxHeartbeats 1000000 in
theorem line_write (w0 : World) (g k o : Nat) (M : List Int) (X : List La) (a n : Int) (w : World) (h : OwP w0 w g M X) (ho : OkC ⟨M, lns X⟩) (ha : plcB a = true) (hks : slotOf a = k) (hoo : 256 + k * 5 = o) :
    Calls Try.prog 135 #[.pointer (some ⟨g, o, none⟩), .int .i64 a, .int .i64 n] w (PoU w0 g (writeC ⟨M, lns X⟩ a n)) := by
  have hk : k < 4 := by rw [← hks]; exact slotOf_lt a
  obtain ⟨a0, a1⟩ := (plcB_iff a).1 ha
  have HL := Lib.hid (line_load w0 g k o M X a w h ho ha hks hoo)
  have hb := bringC_ok ho ha
  have hh := held_used hb (bringC_held ho ha)
  have hw : writeC ⟨M, lns X⟩ a n = ⟨(bringC ⟨M, lns X⟩ a).M, (bringC ⟨M, lns X⟩ a).L.set k (wrL ((bringC ⟨M, lns X⟩ a).L.getD k ln0) a n)⟩ := by rw [← hks]; rfl
  rw [hw]
  rw [hks] at hh
  generalize bringC ⟨M, lns X⟩ a = c at *
  have HH := Lib.hid hh.1
  have Hoo := Lib.hid hoo
  obtain ⟨b, hb'⟩ : ∃ b : Nat, a % 4 = (b : Int) := ⟨(a % 4).toNat, by omega⟩
  have hb4 : b < 4 := by omega
  have HBt := Lib.hid (show (a % 4).toNat = b by omega)
  have HM := Lib.hid (show Int.tmod a 4 = (b : Int) by rw [Int.tmod_eq_emod_of_nonneg a0]; exact hb')
  clear h ho ha hks hoo hb hh hw hb'
  go_enter Try.func135, Try.ntmps135
  go_wp2_with fail
  refine HL.out.mono ?_
  rintro e u1 ⟨X1, rfl, hX1, hO1⟩
  have HO1 := Lib.hid hO1
  have HX1 := Lib.hid hX1
  have HU : Hid (OkU c.M (k : Int) (X1.getD k la0).n) := Lib.hid (by have := HH.out; rwa [← hX1, lns_get] at this)
  have HW := Lib.hid (hO1.w.wd k (by rw [hO1.r.Xl]; exact hk))
  have HG := Lib.hid (hO1.ap k (by rw [hO1.r.Xl]; exact hk))
  have HXl := Lib.hid hO1.r.Xl
  have hlt := hO1.r.lt
  have c0 := hO1.r.c0 k hk
  have c1 := hO1.r.c1 k hk
  have c2 := hO1.r.c2 k hk
  have c3 := hO1.r.c3 k hk
  have q2 := hO1.r.fro (256 + k * 5 + 2) (by omega)
  rw [Hoo.out] at c0 c1 c2 c3 q2
  have HEl : Hid ((lns X1).getD k ln0 = (X1.getD k la0).n) := Lib.hid (lns_get X1 k)
  obtain ⟨l, hl⟩ : ∃ l, X1.getD k la0 = l := ⟨_, rfl⟩
  rw [hl] at HU HW HG HEl c0 c1 c2 c3
  have HLl := Lib.hid hl
  have hWl := HU.out.Wl
  obtain ⟨gW, hgW, hgB, hgWl, kW, kZ⟩ := HW.out.at0 (by omega)
  have kb := kW b (by omega)
  have fb := kZ b (by omega)
  have hne : ¬ g = gW := fun e => HG.out (by show g ∈ bkS l.n.W.length l.a; rw [hgW, e]; exact bkS_mem (b := ⟨gW, 0, none⟩) (by omega))
  have hne' : ¬ gW = g := fun e => hne e.symm
  rw [hgW] at c3
  have hbl : (b : Int) < (l.n.W.length : Int) := by omega
  have hb0 : (0 : Int) ≤ (b : Int) := Int.natCast_nonneg _
  have hm := HM.out
  have HGW := Lib.hid hgW
  have HWl := Lib.hid hWl
  have HKW := Lib.hid kW
  have HKZ := Lib.hid kZ
  have HgB := Lib.hid hgB
  have hnx := Lib.hid (show ∀ i, i < X1.length → i ≠ k → ∀ m, m ∈ wbk (X1.getD i la0) → m ≠ gW from fun i hi hik m hm e => hO1.w.ap i k hi (by rw [hO1.r.Xl]; exact hk) hik m hm (by rw [hl]; show m ∈ bkS l.n.W.length l.a; rw [hgW, e]; exact bkS_mem (b := ⟨gW, 0, none⟩) (by omega)))
  simp only [ivl] at kb
  clear hO1 hX1 HL hl hgW hWl kW kZ hgB HW HM HH
  go_wp2
  (first | refine bodyPost_end (results_none rfl _ _ _) rfl ?_ | refine bodyPost_ret (results_none rfl _ _ _) rfl ?_)
  refine ⟨X1.set k ⟨⟨true, l.n.p, true, l.n.W.set b n⟩, l.a, l.c⟩, rfl, ?_, ?_⟩
  · show lns _ = c.L.set k (wrL (c.L.getD k ln0) a n)
    rw [lns_set, ← HX1.out, HEl.out]
    simp only [wrL, HBt.out, HU.out.u]
  · have hRo : Ro u1 gW l.n.W := ⟨hgWl, fun i hi => HKW.out i hi, fun i hi => HKZ.out i hi⟩
    have hR2 := (hRo.set b n (by have := HWl.out; omega)).other g (o + 2) (.bool true) hne
    have rk : RK (u1.setCell ⟨gW, b, none⟩ (.int .i64 n)) g c.M X1 := HO1.out.r.but (L := [gW]) ((But.refl _ _).set _ _ _ (.inl (by simp))) (by simp; omega)
    have e0 := rk.c0 k hk
    have e1 := rk.c1 k hk
    have e2 := rk.c2 k hk
    have e3 := rk.c3 k hk
    rw [HLl.out] at e0 e1 e2 e3
    rw [HU.out.u] at e0
    refine HO1.out.turn' (L := [g, gW]) k _ hk (((But.refl _ _).set _ _ _ (.inl (by simp))).set _ _ _ (.inl (by simp))) (fun m hm => ?_) (fun i hi hik m hm hx => ?_) (rk.turn k _ hk (by simp) (fun i => by rw [World.frozen?_setCell]) (fun i hi => by rw [Hoo.out] at hi; exact setCell_out (by omega)) (by rw [Hoo.out, setCell_out (by omega)]; rw [Hoo.out] at e0; exact e0) (by rw [Hoo.out, setCell_out (by omega)]; rw [Hoo.out] at e1; exact e1) (by rw [Hoo.out]; rw [Hoo.out] at e2; exact setCell_in e2) (by rw [Hoo.out, setCell_out (by omega)]; rw [Hoo.out] at e3; simp only [List.length_set]; exact e3)) ?_ ?_ ?_
    · have := HO1.out.b
      have := HgB.out
      simp at hm
      rcases hm with rfl | rfl <;> omega
    · simp at hx
      rcases hx with rfl | rfl
      · exact HO1.out.ap i hi hm
      · exact hnx.out i hi hik _ hm rfl
    · refine ⟨fun _ => ⟨gW, HGW.out, HgB.out, hR2.lt, hR2.cel, hR2.fro⟩⟩
    · intro hm
      have hm2 : g ∈ bkS (l.n.W.set b n).length l.a := hm
      rw [HGW.out] at hm2
      exact hne (bkS_one hm2)
    · intro i hi hik m hm hx
      have hm2 : m ∈ bkS (l.n.W.set b n).length l.a := hm
      rw [HGW.out] at hm2
      exact hnx.out i hi hik m hx (bkS_one hm2)
set_option maxRecDepth 100000 in
set_option maxHeartbeats 1000000 in
theorem line_lay (w0 : World) (g k o : Nat) (M : List Int) (X : List La) (a n : Int) (w : World) (h : OwP w0 w g M X) (ho : OkC ⟨M, lns X⟩) (ha : plcB a = true) (hks : slotOf a = k) (hoo : 256 + k * 5 = o) :
    Calls Try.prog 132 #[.pointer (some ⟨g, o, none⟩), .int .i64 a, .int .i64 n] w (PoU w0 g (layC ⟨M, lns X⟩ a n)) := by
  have hk : k < 4 := by rw [← hks]; exact slotOf_lt a
  obtain ⟨a0, a1⟩ := (plcB_iff a).1 ha
  have HO := Lib.hid h
  have Hoo := Lib.hid hoo
  have hlt := h.r.lt
  have c0 := h.r.c0 k hk
  have c1 := h.r.c1 k hk
  have c2 := h.r.c2 k hk
  have c3 := h.r.c3 k hk
  rw [hoo] at c0 c1 c2 c3
  have HH := Lib.hid (fun w => impl_holds (X.getD k la0) a w a0 (by omega))
  have HE := Lib.hid (fun w h => line_evict w0 g k o M X w h ho hk hoo)
  have hBr : ∀ b, holdsL (X.getD k la0).n a = b → layC ⟨M, lns X⟩ a n = if b = true then ⟨(backC ⟨M, lns X⟩ k).M.set a.toNat n, (backC ⟨M, lns X⟩ k).L⟩ else ⟨M.set a.toNat n, lns X⟩ := fun b hb => by
    simp only [layC, heldC, hks]
    rw [lns_get, hb]
  have HBr := Lib.hid hBr
  have hme := fun w => me_lay ⟨g, 0, none⟩ w
  have hna := fun w => na_lay ⟨g, 0, none⟩ w
  clear h ho hoo hks ha hBr
  generalize X.getD k la0 = l at *
  go_enter Try.func132, Try.ntmps132
  go_wp2_with fail
  refine (HH.out _).mono ?_
  rintro e u1 ⟨rfl, f1⟩
  have HO1 := Lib.hid (HO.out.fr f1)
  clear f1 c0 c1 c2 c3 HH HO
  cases hh : holdsL l.n a
  · have HQ := Lib.hid (HBr.out false hh)
    clear HBr hh
    have c4 := HO1.out.r.c4 k hk
    rw [Hoo.out] at c4
    have km := HO1.out.r.M a.toNat (by omega)
    have kf := HO1.out.r.fro a.toNat (by omega)
    go_wp2_with (go_at_call 127; refine (ram_lay g a.toNat a n (M.getD a.toNat 0) u1 (by omega) (by omega) km kf).mono ?_; rintro e w' ⟨rfl, rfl⟩)
    (first | refine bodyPost_end (results_none rfl _ _ _) rfl ?_ | refine bodyPost_ret (results_none rfl _ _ _) rfl ?_)
    rw [HQ.out]
    exact ⟨X, rfl, rfl, HO1.out.setM a.toNat n (by omega)⟩
  · have HQ := Lib.hid (HBr.out true hh)
    clear HBr hh
    go_wp2_with fail
    refine (HE.out u1 HO1.out).mono ?_
    rintro e u2 ⟨rfl, hO2⟩
    have HO2 := Lib.hid hO2
    have c4 := hO2.r.c4 k hk
    rw [Hoo.out] at c4
    have km := hO2.r.M a.toNat (by omega)
    have kf := hO2.r.fro a.toNat (by omega)
    have hlt2 := hO2.r.lt
    clear hO2 hlt HE HO1
    go_wp2_with (go_at_call 127; refine (ram_lay g a.toNat a n ((backC ⟨M, lns X⟩ k).M.getD a.toNat 0) u2 (by omega) (by omega) km kf).mono ?_; rintro e w' ⟨rfl, rfl⟩)
    (first | refine bodyPost_end (results_none rfl _ _ _) rfl ?_ | refine bodyPost_ret (results_none rfl _ _ _) rfl ?_)
    rw [HQ.out]
    exact ⟨X.set k la0, rfl, by rw [lns_set]; rfl, HO2.out.setM a.toNat n (by omega)⟩

end Go.Proofs.Ytoacgjjpipdkjaa
