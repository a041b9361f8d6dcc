/- The program's cache, made of a state. The program's cache, made of a state; a line of it as memory. -/
import Derived.Test.YtoacgjjpipdkjaaK30
import Derived.Test.YtoacgjjpipdkjaaN7
namespace Go.Proofs.Ytoacgjjpipdkjaa
open Go.RowKit
set_option linter.unusedVariables false
set_option linter.unusedSimpArgs false
/-- Behind a clone of a line. -/
def ClL (l : Ln) (w : World) (e : Ending) (w' : World) : Prop := ∃ ao c, e = .returned (lav ⟨l, ao, c⟩) ∧ Rc w.heap.size w' l.W ao c ∧ Fr w w'
set_option maxRecDepth 8000 in
set_option maxHeartbeats 2000000 in
theorem line_clone (l : La) (w : World) (h : WSrc w l) (hn : l.n.W.length ≤ 1000) : Calls Try.prog 96 #[lav l] w (ClL l.n w) := by
  obtain ⟨⟨u, p, d, W⟩, ao, c⟩ := l
  simp only at hn
  have HF := Lib.hid (show Fr w ((w.alloc (.cells #[.bool u, .int .i64 p, .bool d, .slice ao W.length c] 59)).alloc (.cells #[.bool false, .int .i64 0, .bool false, .slice none 0 0] 59)) by (repeat' first | (with_reducible exact Below.refl _ _) | (with_reducible assumption) | ((with_reducible refine Below.setCell ?_ ?hb _); (case hb => first | exact Nat.le_refl _ | (simp; done) | (simp; omega) | omega)) | ((with_reducible refine Below.alloc ?_ ?hb _); (case hb => first | exact Nat.le_refl _ | (simp; done) | (simp; omega) | omega)) | (with_reducible refine Below.drew ?_)))
  have X1 := Lib.hid ((Box4.new w (.bool u) (.int .i64 p) (.bool d) (.slice ao W.length c) 59 _ rfl).fr (Fr.alloc _ (.cells #[.bool false, .int .i64 0, .bool false, .slice none 0 0] 59)))
  have X2 := Lib.hid (Box4.new (w.alloc (.cells #[.bool u, .int .i64 p, .bool d, .slice ao W.length c] 59)) (.bool false) (.int .i64 0) (.bool false) (.slice none 0 0) 59 (w.heap.size + 1) (by simp))
  have hs0 : w.heap.size + 2 ≤ ((w.alloc (.cells #[.bool u, .int .i64 p, .bool d, .slice ao W.length c] 59)).alloc (.cells #[.bool false, .int .i64 0, .bool false, .slice none 0 0] 59)).heap.size := by simp
  have HS := Lib.hid (show Src w W.length (ivl W) ao from h)
  clear h
  go_enter Try.func96, Try.ntmps96
  go_upto_region 1 with fail
  generalize ((w.alloc (.cells #[.bool u, .int .i64 p, .bool d, .slice ao W.length c] 59)).alloc (.cells #[.bool false, .int .i64 0, .bool false, .slice none 0 0] 59)) = u0 at *
  obtain ⟨_, c0, c1, c2, c3, f0, f1, f2, f3⟩ := X1.out
  go_wp2_with fail
  refine (slices_CloneC W ao c u0 (HS.out.fr HF.out) (by omega)).mono ?_
  rintro e u1 ⟨ar, cr, rfl, hR, f9⟩
  have HR := Lib.hid hR
  have HF1 := Lib.hid (Fr.trans HF.out f9)
  have Y1 := Lib.hid (X1.out.fr f9)
  have Y2 := Lib.hid (X2.out.fr f9)
  have hs1 := f9.size
  clear hR f9 X1 X2 c0 c1 c2 c3 f0 f1 f2 f3
  obtain ⟨_, c0, c1, c2, c3, f0, f1, f2, f3⟩ := Y1.out
  go_upto_region 2 with fail
  have hst : But [w.heap.size] u1 (u1.setCell ⟨w.heap.size, 3, none⟩ (.slice ar W.length cr)) := (But.refl _ _).set _ _ _ (.inl (by simp))
  have Z1 := Lib.hid (Y1.out.t3 (.slice ar W.length cr))
  have Z2 := Lib.hid (Y2.out.but hst (by simp))
  have HR1 : Hid (Rc u0.heap.size (u1.setCell ⟨w.heap.size, 3, none⟩ (.slice ar W.length cr)) W ar cr) := Lib.hid (HR.out.but hst (fun k hk => by simp at hk; omega))
  have HF2 := Lib.hid (show Fr w _ from fr_but HF1.out hst (fun m hm => by simp at hm; omega))
  have hs2 := hst.size
  clear hst HR HF1 Y1 Y2 c0 c1 c2 c3 f0 f1 f2 f3
  generalize (u1.setCell ⟨w.heap.size, 3, none⟩ (.slice ar W.length cr)) = u2 at *
  obtain ⟨_, c0, c1, c2, c3, f0, f1, f2, f3⟩ := Z1.out
  obtain ⟨_, y0, y1, y2, y3, q0, q1, q2, q3⟩ := Z2.out
  go_wp2
  have hst : But [w.heap.size + 1] u2 ((((u2.setCell ⟨w.heap.size + 1, 0, none⟩ (.bool u)).setCell ⟨w.heap.size + 1, 1, none⟩ (.int .i64 p)).setCell ⟨w.heap.size + 1, 2, none⟩ (.bool d)).setCell ⟨w.heap.size + 1, 3, none⟩ (.slice ar W.length cr)) := (But.refl _ _).set4 _ _ _ _ _ (.inl (by simp))
  have HX2n := Z2.out.set (.bool u) (.int .i64 p) (.bool d) (.slice ar W.length cr)
  refine bodyPost_ret (v := lav ⟨⟨u, p, d, W⟩, ar, cr⟩) (by simp [results, Try.results96, go_sem, HX2n.c0, HX2n.c1, HX2n.c2, HX2n.c3]) rfl ?_
  exact ⟨ar, cr, rfl, (HR1.out.but hst (fun k hk => by simp at hk; omega)).mono (by omega), fr_but HF2.out hst (fun m hm => by simp at hm; omega)⟩
/-- A cache whose first k lines were set. -/
structure RK0 (u : World) (g : Nat) (M : List Int) (X : List La) (k : Nat) : Prop where
  lt : g < u.heap.size
  Xl : X.length = 4
  Ml : M.length = 256
  M : ∀ i, i < 256 → u.cell? ⟨g, i, none⟩ = some (.int .i64 (M.getD i 0))
  c0 : ∀ k, k < 4 → u.cell? ⟨g, 256 + k * 5, none⟩ = some (.bool (X.getD k la0).n.u)
  c1 : ∀ k, k < 4 → u.cell? ⟨g, 256 + k * 5 + 1, none⟩ = some (.int .i64 (X.getD k la0).n.p)
  c2 : ∀ k, k < 4 → u.cell? ⟨g, 256 + k * 5 + 2, none⟩ = some (.bool (X.getD k la0).n.d)
  c3 : ∀ k, k < 4 → u.cell? ⟨g, 256 + k * 5 + 3, none⟩ = some (.slice (X.getD k la0).a (X.getD k la0).n.W.length (X.getD k la0).c)
  c4 : ∀ i, i < 4 → u.cell? ⟨g, 256 + i * 5 + 4, none⟩ = some (if i < k then rif g else .nilIface)
  fro : ∀ i, i < 276 → u.frozen? ⟨g, i, none⟩ = false
theorem RK0.but {L : List Nat} {u u' : World} {g : Nat} {M : List Int} {X : List La} {k : Nat} (h : RK0 u g M X k) (f : But L u u') (hn : g ∉ L) : RK0 u' g M X k :=
  ⟨Nat.lt_of_lt_of_le h.lt f.size, h.Xl, h.Ml, fun i hi => by rw [f.cell h.lt hn]; exact h.M i hi, fun i hi => by rw [f.cell h.lt hn]; exact h.c0 i hi, fun i hi => by rw [f.cell h.lt hn]; exact h.c1 i hi, fun i hi => by rw [f.cell h.lt hn]; exact h.c2 i hi, fun i hi => by rw [f.cell h.lt hn]; exact h.c3 i hi, fun i hi => by rw [f.cell h.lt hn]; exact h.c4 i hi, fun i hi => by rw [f.frozen h.lt hn]; exact h.fro i hi⟩
theorem RK0.fr {u u' : World} {g : Nat} {M : List Int} {X : List La} {k : Nat} (h : RK0 u g M X k) (f : Fr u u') : RK0 u' g M X k := h.but (L := []) (But.of f) (by simp)
theorem RK0.done {u : World} {g : Nat} {M : List Int} {X : List La} (h : RK0 u g M X 4) : RK u g M X := ⟨h.lt, h.Xl, h.Ml, h.M, h.c0, h.c1, h.c2, h.c3, fun k hk => by rw [h.c4 k hk, if_pos hk], h.fro⟩
abbrev set5 (u : World) (g o : Nat) (y : La) : World := ((((u.setCell ⟨g, o, none⟩ (.bool y.n.u)).setCell ⟨g, o + 1, none⟩ (.int .i64 y.n.p)).setCell ⟨g, o + 2, none⟩ (.bool y.n.d)).setCell ⟨g, o + 3, none⟩ (.slice y.a y.n.W.length y.c)).setCell ⟨g, o + 4, none⟩ (rif g)
theorem RK0.next {u : World} {g : Nat} {M : List Int} {X : List La} {k : Nat} (h : RK0 u g M X k) (y : La) (hk : k < 4) : RK0 (set5 u g (256 + k * 5) y) g M (X.set k y) (k + 1) := by
  have hX := h.Xl
  have out : ∀ i, i < 256 + k * 5 ∨ 256 + k * 5 + 5 ≤ i → (set5 u g (256 + k * 5) y).cell? ⟨g, i, none⟩ = u.cell? ⟨g, i, none⟩ := fun i hi => by
    show (World.setCell _ _ _).cell? _ = _
    rw [setCell_out (by omega), setCell_out (by omega), setCell_out (by omega), setCell_out (by omega), setCell_out (by omega)]
  have h0 : (set5 u g (256 + k * 5) y).cell? ⟨g, 256 + k * 5, none⟩ = some (.bool y.n.u) := by
    show (World.setCell _ _ _).cell? _ = _
    rw [setCell_out (by omega), setCell_out (by omega), setCell_out (by omega), setCell_out (by omega)]
    exact setCell_in (h.c0 k hk)
  have h1 : (set5 u g (256 + k * 5) y).cell? ⟨g, 256 + k * 5 + 1, none⟩ = some (.int .i64 y.n.p) := by
    show (World.setCell _ _ _).cell? _ = _
    rw [setCell_out (by omega), setCell_out (by omega), setCell_out (by omega)]
    exact setCell_in (by rw [setCell_out (by omega)]; exact h.c1 k hk)
  have h2 : (set5 u g (256 + k * 5) y).cell? ⟨g, 256 + k * 5 + 2, none⟩ = some (.bool y.n.d) := by
    show (World.setCell _ _ _).cell? _ = _
    rw [setCell_out (by omega), setCell_out (by omega)]
    exact setCell_in (by rw [setCell_out (by omega), setCell_out (by omega)]; exact h.c2 k hk)
  have h3 : (set5 u g (256 + k * 5) y).cell? ⟨g, 256 + k * 5 + 3, none⟩ = some (.slice y.a y.n.W.length y.c) := by
    show (World.setCell _ _ _).cell? _ = _
    rw [setCell_out (by omega)]
    exact setCell_in (by rw [setCell_out (by omega), setCell_out (by omega), setCell_out (by omega)]; exact h.c3 k hk)
  have h4 : (set5 u g (256 + k * 5) y).cell? ⟨g, 256 + k * 5 + 4, none⟩ = some (rif g) := by
    show (World.setCell _ _ _).cell? _ = _
    exact setCell_in (by rw [setCell_out (by omega), setCell_out (by omega), setCell_out (by omega), setCell_out (by omega)]; exact h.c4 k hk)
  have pick : ∀ j, j < 4 → (X.set k y).getD j la0 = if k = j then y else X.getD j la0 := fun j hj => by
    rw [getD_setA]
    by_cases e : k = j
    · rw [if_pos ⟨e, by omega⟩, if_pos e]
    · rw [if_neg (fun h => e h.1), if_neg e]
  refine ⟨by have := h.lt; simpa [World.setCell] using this, by rw [List.length_set]; exact hX, h.Ml, fun i hi => by rw [out i (by omega)]; exact h.M i hi, fun j hj => ?_, fun j hj => ?_, fun j hj => ?_, fun j hj => ?_, fun j hj => ?_, fun i hi => by simp only [World.frozen?_setCell]; exact h.fro i hi⟩
  · rw [pick j hj]
    by_cases e : k = j
    · rw [if_pos e, ← e]; exact h0
    · rw [if_neg e, out _ (by omega)]; exact h.c0 j hj
  · rw [pick j hj]
    by_cases e : k = j
    · rw [if_pos e, ← e]; exact h1
    · rw [if_neg e, out _ (by omega)]; exact h.c1 j hj
  · rw [pick j hj]
    by_cases e : k = j
    · rw [if_pos e, ← e]; exact h2
    · rw [if_neg e, out _ (by omega)]; exact h.c2 j hj
  · rw [pick j hj]
    by_cases e : k = j
    · rw [if_pos e, ← e]; exact h3
    · rw [if_neg e, out _ (by omega)]; exact h.c3 j hj
  · by_cases e : k = j
    · rw [← e, h4, if_pos (by omega)]
    · rw [out _ (by omega), h.c4 j hj]
      by_cases hjk : j < k
      · rw [if_pos hjk, if_pos (by omega)]
      · rw [if_neg hjk, if_neg (by omega)]
structure OwP0 (w0 u : World) (g : Nat) (M : List Int) (X : List La) (k : Nat) : Prop where
  f : Fr w0 u
  b : w0.heap.size ≤ g
  r : RK0 u g M X k
  w : WdO w0.heap.size u X
  ap : ∀ i, i < X.length → g ∉ wbk (X.getD i la0)
theorem OwP0.fr {w0 u u' : World} {g : Nat} {M : List Int} {X : List La} {k : Nat} (h : OwP0 w0 u g M X k) (f : Fr u u') : OwP0 w0 u' g M X k := ⟨Fr.trans h.f f, h.b, h.r.fr f, h.w.fr f, h.ap⟩
theorem OwP0.done {w0 u : World} {g : Nat} {M : List Int} {X : List La} (h : OwP0 w0 u g M X 4) : OwP w0 u g M X := ⟨h.f, h.b, h.r.done, h.w, h.ap⟩
/-- One line more: its words are new. -/
theorem OwP0.next {w0 u : World} {g : Nat} {M : List Int} {X : List La} {k : Nat} (h : OwP0 w0 u g M X k) (y : La) (hk : k < 4) (hy : Vc w0.heap.size u y.n.W.length (ivl y.n.W) y.a) (hg : g ∉ wbk y) (hap : ∀ i, i < X.length → i ≠ k → ∀ m, m ∈ wbk y → m ∉ wbk (X.getD i la0)) : OwP0 w0 (set5 u g (256 + k * 5) y) g M (X.set k y) (k + 1) := by
  have hb : But [g] u (set5 u g (256 + k * 5) y) := (((((But.refl _ _).set _ _ _ (.inl (by simp))).set _ _ _ (.inl (by simp))).set _ _ _ (.inl (by simp))).set _ _ _ (.inl (by simp))).set _ _ _ (.inl (by simp))
  refine ⟨fr_but h.f hb (fun m hm => by have := h.b; simp at hm; omega), h.b, h.r.next y hk, ⟨fun i hi => ?_, fun i j hi hj hij m h1 h2 => ?_⟩, fun i hi => ?_⟩
  · rw [List.length_set] at hi
    rw [getD_setA]
    split
    · exact hy.but' hb (fun m hm hx => by rw [List.mem_singleton.1 hx] at hm; exact hg hm)
    · exact (h.w.wd i hi).but' hb (fun m hm hx => by rw [List.mem_singleton.1 hx] at hm; exact h.ap i hi hm)
  · rw [List.length_set] at hi hj
    rw [getD_setA] at h1 h2
    split at h1
    · rename_i e
      rw [if_neg (fun e' => hij (e.1.symm.trans e'.1))] at h2
      exact hap j hj (fun e' => hij (e.1.symm.trans e'.symm)) m h1 h2
    · split at h2
      · rename_i e
        exact hap i hi (fun e' => hij (e'.trans e.1)) m h2 h1
      · exact h.w.ap i j hi hj hij m h1 h2
  · rw [List.length_set] at hi
    rw [getD_setA]
    split
    · exact hg
    · exact h.ap i hi
/-- A new block of a cache: the words, and lines that are not set. -/
def l50 : List Value := [.bool false, .int .i64 0, .bool false, .slice none 0 0, .nilIface]
def lz20 : List Value := l50 ++ l50 ++ l50 ++ l50
def ckN (M : List Int) : List Value := M.map (Value.int .i64) ++ lz20
theorem ckN_M (M : List Int) (hM : M.length = 256) (i : Nat) (hi : i < 256) : (ckN M)[i]? = some (.int .i64 (M.getD i 0)) := by
  unfold ckN
  rw [List.getElem?_append_left (by simp; omega)]
  simp [List.getD_eq_getElem?_getD, List.getElem?_eq_getElem (show i < M.length by omega)]
theorem ckN_L (M : List Int) (hM : M.length = 256) (j : Nat) : (ckN M)[256 + j]? = lz20[j]? := by
  unfold ckN
  rw [List.getElem?_append_right (by simp; omega)]
  congr 1
  simp; omega
theorem newL_get (k : Nat) (hk : k < 4) : newL.getD k la0 = la0 := by
  rcases k with _ | _ | _ | _ | k
  · rfl
  · rfl
  · rfl
  · rfl
  · omega
theorem rk0_new (u : World) (t : TypeId) (M : List Int) (hM : M.length = 256) : RK0 (u.alloc (.cells (ckN M).toArray t)) u.heap.size M newL 0 := by
  have A := fun j => (alloc_at u (ckN M).toArray t _ rfl j).1
  have hz : ∀ k, k < 4 → ∀ j v, l50[j]? = some v → lz20[k * 5 + j]? = some v := fun k hk j v hv => by
    have hj : j < 5 := (List.getElem?_eq_some_iff.1 hv).1
    rcases k with _ | _ | _ | _ | k
    · rcases j with _ | _ | _ | _ | _ | j <;> first | exact hv | omega
    · rcases j with _ | _ | _ | _ | _ | j <;> first | exact hv | omega
    · rcases j with _ | _ | _ | _ | _ | j <;> first | exact hv | omega
    · rcases j with _ | _ | _ | _ | _ | j <;> first | exact hv | omega
    · omega
  have B : ∀ k, k < 4 → ∀ j v, l50[j]? = some v → (u.alloc (.cells (ckN M).toArray t)).cell? ⟨u.heap.size, 256 + k * 5 + j, none⟩ = some v := fun k hk j v hv => by
    rw [A, List.getElem?_toArray, Nat.add_assoc, ckN_L M hM, hz k hk j v hv]
  refine ⟨by simp, rfl, hM, fun i hi => ?_, fun k hk => ?_, fun k hk => ?_, fun k hk => ?_, fun k hk => ?_, fun k hk => ?_, fun i _ => (alloc_at u _ t _ rfl i).2⟩
  · rw [A, List.getElem?_toArray, ckN_M M hM i hi]
  · rw [newL_get k hk]; exact B k hk 0 _ rfl
  · rw [newL_get k hk]; exact B k hk 1 _ rfl
  · rw [newL_get k hk]; exact B k hk 2 _ rfl
  · rw [newL_get k hk]; exact B k hk 3 _ rfl
  · rw [if_neg (by omega)]; exact B k hk 4 _ rfl
theorem owp0_new (w0 u : World) (t : TypeId) (M : List Int) (hM : M.length = 256) (f : Fr w0 u) : OwP0 w0 (u.alloc (.cells (ckN M).toArray t)) u.heap.size M newL 0 :=
  ⟨Fr.trans f (Fr.alloc _ _), f.size, rk0_new u t M hM, ⟨fun i hi => by rw [newL_n i hi]; exact Vc.nil _ _ _ _, fun i j hi hj _ k hk => by rw [newL_wbk i hi] at hk; cases hk⟩, fun i hi => by rw [newL_wbk i hi]; simp⟩
theorem foldl_put (A : List Value) : ∀ (i : Nat) (c : Array Value), i + A.length ≤ c.size → ((A.zipIdx i).foldl (fun cs (x : Value × Nat) => cs.setIfInBounds (0 + x.2) x.1) c).toList = c.toList.take i ++ A ++ c.toList.drop (i + A.length) := by
  induction A with
  | nil => intro i c h; simp
  | cons x r ih =>
    intro i c h
    simp only [List.length_cons] at h
    rw [List.zipIdx_cons, List.foldl_cons, ih (i + 1) _ (by simp; omega)]
    apply List.ext_getElem?
    intro j
    simp only [Array.toList_setIfInBounds, Nat.zero_add, List.length_cons]
    rw [show i + (r.length + 1) = i + 1 + r.length by omega]
    have hi : i < c.toList.length := by simp; omega
    have hl : (c.toList.take i).length = i := by rw [List.length_take]; omega
    have hs : (c.toList.set i x).take (i + 1) = c.toList.take i ++ [x] := by
      rw [List.set_eq_take_append_cons_drop, if_pos hi, List.take_append, hl, show i + 1 - i = 1 by omega, List.take_of_length_le (by rw [hl]; omega)]
      rfl
    rw [hs, List.drop_set_of_lt (by omega)]
    simp

theorem setCell_out5 {w : World} {g b j o : Nat} {v0 v1 v2 v3 v4 : Value} (h : b ≠ g) : (((((w.setCell ⟨g, o, none⟩ v0).setCell ⟨g, o + 1, none⟩ v1).setCell ⟨g, o + 2, none⟩ v2).setCell ⟨g, o + 3, none⟩ v3).setCell ⟨g, o + 4, none⟩ v4).cell? ⟨b, j, none⟩ = w.cell? ⟨b, j, none⟩ := by
  rw [World.cell?_setCell_other _ _ _ _ (by simp [h]), World.cell?_setCell_other _ _ _ _ (by simp [h]), World.cell?_setCell_other _ _ _ _ (by simp [h]), World.cell?_setCell_other _ _ _ _ (by simp [h]), World.cell?_setCell_other _ _ _ _ (by simp [h])]
theorem fill_one (place : Nat → Option (Nat × Nat)) (A z : List Value) (hp : place 0 = some (0, A.length)) (hl : A.length ≤ z.length) : Instr.fill place z.toArray [(0, .agg A.toArray)] = some (A ++ z.drop A.length).toArray := by
  have h := foldl_put A 0 z.toArray (by simpa using hl)
  rw [List.take_zero, List.nil_append, Nat.zero_add] at h
  have e : (A.toArray.zipIdx.foldl (fun cs (x : Value × Nat) => cs.setIfInBounds (0 + x.2) x.1) z.toArray) = (A ++ z.drop A.length).toArray := by
    apply Array.toList_inj.1
    rw [← Array.foldl_toList, Array.toList_zipIdx]
    exact h
  have h0 : Instr.fill place z.toArray [(0, .agg A.toArray)] = (if (decide (A.toArray.size ≠ A.length) || decide (0 + A.toArray.size > z.toArray.size)) = true then none else some (A.toArray.zipIdx.foldl (fun cs (x : Value × Nat) => cs.setIfInBounds (0 + x.2) x.1) z.toArray)) := by
    rw [Instr.fill, hp]
    rfl
  rw [h0, if_neg (by simp; omega), e]
set_option maxRecDepth 100000 in
theorem built_eq7 (ps : List (Nat × Value)) : Try.prog.built 101 ps = Instr.fill (#[(0, 256), (256, 20)][·]?) ((List.replicate 256 (Value.int .i64 0)) ++ lz20).toArray ps := by kernel_rfl
theorem built_cache (M : List Int) (hM : M.length = 256) : Try.prog.built 101 [(0, .agg (M.map (Value.int .i64)).toArray)] = some (ckN M).toArray := by
  rw [built_eq7, fill_one _ _ _ (by rw [List.length_map, hM]; rfl) (by rw [List.length_map, hM, List.length_append, List.length_replicate]; omega)]
  congr 3
  rw [List.length_map, hM, List.drop_append_of_le_length (by rw [List.length_replicate]; omega), List.drop_replicate]
  rfl
theorem info_ram : (Try.prog.info? 96).map (·.size) = some 256 := by kernel_rfl
theorem build_line (a b c d : Value) (g : Nat) (w : World) : (Instr.build 98 #[(0, .agg #[a, b, c, d]), (1, rif g)]).run Try.prog w = .ok (.agg #[a, b, c, d, rif g]) w := run_build w _ _ _ (by kernel_rfl)
/-- Behind cacheOf: a cache in a new block. -/
def CoP (M : List Int) (L : List Ln) (w : World) (e : Ending) (w' : World) : Prop := ∃ g X', e = .returned (.pointer (some ⟨g, 0, none⟩)) ∧ lns X' = L ∧ OwP w w' g M X'
set_option maxRecDepth 100000 in
set_option maxHeartbeats 4000000 in
theorem impl_cacheOf (M : List Int) (X : List La) (aM aL : Option Addr) (cM cL : Nat) (w : World) (h : SrcC w M X aM aL) (ho : OkC ⟨M, lns X⟩) :
    Calls Try.prog 68 #[caV aM aL M X cM cL] w (CoP M (lns X) w) := by
  have hM : M.length = 256 := ho.Ml
  have hX : X.length = 4 := by have := ho.Ll; simpa using this
  obtain ⟨gM, oM, rfl, qM, kM⟩ := h.M (by omega)
  have HKM := Lib.hid (fun (u : World) (f : Fr w u) => range_fr (src_range kM) f qM)
  have HF := Lib.hid (Fr.alloc w (.cells #[.slice (some ⟨gM, oM, none⟩) M.length cM, .slice aL X.length cL] 30))
  have HB := Lib.hid (Box2.new w (.slice (some ⟨gM, oM, none⟩) M.length cM) (.slice aL X.length cL) 30 _ rfl)
  have HA := Lib.hid (fun (u : World) => run_arrayAt (P := Try.prog) u 96 _ 256 (some ⟨gM, oM, none⟩) M.length cM Try.underlying96 (by omega))
  have HS := Lib.hid h
  have HM := Lib.hid hM
  have HXl := Lib.hid hX
  have HI := Lib.hid (show (Try.prog.info? 96).map (·.size) = some (M.map (Value.int .i64)).length by rw [info_ram, List.length_map, hM])
  have HW4 : Hid (∀ i, i < 4 → (X.getD i la0).n.W.length ≤ 1000) := Lib.hid (fun i hi => by
    have := okLn_W (okLns_at ho.L i (by rw [ho.Ll]; exact hi))
    rw [show (Ch.mk M (lns X)).L = lns X from rfl, lns_get] at this
    omega)
  have hA := HA.out
  unfold caV
  clear h hM hX kM ho qM
  go_enter Try.func68, Try.ntmps68
  go_upto_region 1 with fail
  generalize (w.alloc (.cells #[.slice (some ⟨gM, oM, none⟩) M.length cM, .slice aL X.length cL] 30)) = u0 at *
  obtain ⟨_, c0, c1, _, _⟩ := HB.out
  go_upto_region 2 with (first
    | (refine wpList_load_mid rfl 96 _ rfl gM oM rfl (M.map (Value.int .i64)) _ (HKM.out _ HF.out) Try.underlying96 rfl HI.out ?_)
    | (refine wpList_plain rfl fun K hK => wp_build_eq 101 _ rfl [(0, .agg (M.map (Value.int .i64)).toArray)] (ckN M).toArray (by first | rfl | (simp [go_sem]; done) | (simp; done) | kernel_rfl) (built_cache M HM.out) ?_; refine hK _ _ ?_))
  have FU : Fr w u0 := HF.out
  have HZ := Lib.hid (owp0_new w u0 101 M HM.out FU)
  have HB1 := Lib.hid (HB.out.fr (Fr.alloc u0 (.cells (ckN M).toArray 101)))
  clear c0 c1 HKM hA HA FU
  generalize (u0.alloc (.cells (ckN M).toArray 101)) = u1 at *
  generalize u0.heap.size = g at *
  obtain ⟨_, c0, c1, _, _⟩ := HB1.out
  go_wp2_with fail
  clear c0 c1
  go_loopw [15] (fun i wr => ∃ (k : Nat) (X1 : List La), k ≤ 4 ∧ i = .int .i64 k ∧ OwP0 w wr g M X1 k ∧ ∀ i, i < k → (X1.getD i la0).n = (X.getD i la0).n) (fun i _ => 4 - (intOf i).toNat)
  case atStart => exact ⟨0, newL, by omega, rfl, HZ.out, fun i hi => absurd hi (Nat.not_lt_zero _)⟩
  case round =>
    obtain ⟨k, X1, hk, rfl, hO, hE⟩ := hrel
    have OV := Lib.hid hO
    have EV := Lib.hid hE
    clear HZ
    by_cases hk4 : k < 4
    · have hkX : (k : Int) < (X.length : Int) := by have := HXl.out; omega
      have hk0 : (0 : Int) ≤ (k : Int) := Int.natCast_nonneg _
      have hk4i : (k : Int) < 4 := by omega
      have hS := HS.out.fr hO.f
      obtain ⟨gL, oL, rfl, hgl2, hrg⟩ := hS.L.at0 (by rw [HXl.out]; decide)
      obtain ⟨d0, d1, d2, d3⟩ := line_at hrg k (by rw [HXl.out]; exact hk4)
      have HWd := Lib.hid (hS.L.wd k (by rw [HXl.out]; exact hk4))
      have HWn := Lib.hid (HW4.out k hk4)
      have hgg := hO.r.lt
      clear hO hE hS hrg
      generalize hl : X.getD k la0 = l at *
      have HLl := Lib.hid hl
      clear hl
      have hbd := fun a b c d u => build_line a b c d g u
      have X5 : Hid (Box4 (wr.alloc (.cells #[.bool l.n.u, .int .i64 l.n.p, .bool l.n.d, .slice l.a l.n.W.length l.c] 59)) wr.heap.size (.bool l.n.u) (.int .i64 l.n.p) (.bool l.n.d) (.slice l.a l.n.W.length l.c)) := Lib.hid (Box4.new _ _ _ _ _ _ _ rfl)
      have FX := Lib.hid (Fr.alloc wr (.cells #[.bool l.n.u, .int .i64 l.n.p, .bool l.n.d, .slice l.a l.n.W.length l.c] 59))
      have hsz : wr.heap.size < (wr.alloc (.cells #[.bool l.n.u, .int .i64 l.n.p, .bool l.n.d, .slice l.a l.n.W.length l.c] 59)).heap.size := by simp
      go_upto_region 5 with fail
      generalize (wr.alloc (.cells #[.bool l.n.u, .int .i64 l.n.p, .bool l.n.d, .slice l.a l.n.W.length l.c] 59)) = u2 at *
      generalize wr.heap.size = gb at *
      have HO2 := Lib.hid (OV.out.fr FX.out)
      have HW2 := Lib.hid (HWd.out.fr FX.out)
      clear d0 d1 d2 d3 HWd
      obtain ⟨_, x0, x1, x2, x3, _, _, _, _⟩ := X5.out
      go_region_held3 (fun v => v.cell? ⟨gb, 0, none⟩ = some (.bool l.n.u) ∧ v.cell? ⟨gb, 1, none⟩ = some (.int .i64 l.n.p) ∧ v.cell? ⟨gb, 2, none⟩ = some (.bool l.n.d) ∧ v.cell? ⟨gb, 3, none⟩ = some (.slice l.a l.n.W.length l.c))
        (first | (go_keep; done) | (refine ⟨?_, ?_, ?_, ?_⟩ <;> exact (setCell_out5 (by omega)).trans (by assumption)))
        (first
          | (go_at_call 96; refine (line_clone l _ (HW2.out.fr (Below.drew (Below.refl _ _))) HWn.out).mono ?_; rintro e u3 ⟨ao, c, rfl, hR, f3⟩; have F3 := Lib.hid (show Fr u2 u3 from Fr.trans (Below.drew (Below.refl _ _)) f3); have HR := Lib.hid hR; have HO3 := Lib.hid (HO2.out.fr F3.out); have X6 := Lib.hid (X5.out.fr F3.out); obtain ⟨_, y0, y1, y2, y3, _, _, _, _⟩ := X6.out; have b0 := HO3.out.r.c0 k hk4; have b1 := HO3.out.r.c1 k hk4; have b2 := HO3.out.r.c2 k hk4; have b3 := HO3.out.r.c3 k hk4; have b4 := HO3.out.r.c4 k hk4; have q0 := HO3.out.r.fro (256 + k * 5) (by omega); have q1 := HO3.out.r.fro (256 + k * 5 + 1) (by omega); have q2 := HO3.out.r.fro (256 + k * 5 + 2) (by omega); have q3 := HO3.out.r.fro (256 + k * 5 + 3) (by omega); have q4 := HO3.out.r.fro (256 + k * 5 + 4) (by omega); clear hR f3))
      have hB2 : w.heap.size ≤ u2.heap.size := HO2.out.f.size
      have hn : OwP0 w (set5 u3 g (256 + k * 5) ⟨l.n, ao, c⟩) g M (X1.set k ⟨l.n, ao, c⟩) (k + 1) := HO3.out.next ⟨l.n, ao, c⟩ hk4 (HR.out.vc.mono hB2) (fun hm => by
          have h1 := (HR.out.vc.bk g hm).1
          have h2 := HO2.out.r.lt
          have hdr : u2.drew.heap.size = u2.heap.size := rfl
          omega) (fun i hi _ m hm hx => by
          have h1 := (HR.out.vc.bk m hm).1
          have h2 := (HO2.out.w.bk i hi m hx).2
          have hdr : u2.drew.heap.size = u2.heap.size := rfl
          omega)
      have HN := Lib.hid hn
      have HE2 : Hid (∀ i, i < k + 1 → ((X1.set k ⟨l.n, ao, c⟩).getD i la0).n = (X.getD i la0).n) := Lib.hid (fun i hi => by
        rw [getD_setA]
        by_cases e : k = i
        · rw [if_pos ⟨e, by have := HO2.out.r.Xl; omega⟩, ← e, HLl.out]
        · rw [if_neg (fun h => e h.1)]
          exact EV.out i (by omega))
      clear hn b0 b1 b2 b3 b4 q0 q1 q2 q3 q4 y0 y1 y2 y3 x0 x1 x2 x3 HO3 X6 HR F3 hB2
      obtain ⟨v4, hv4⟩ : ∃ v4, set5 u3 g (256 + k * 5) ⟨l.n, ao, c⟩ = v4 := ⟨_, rfl⟩
      rw [hv4] at HN
      go_wp2
      go_roundw
      case rel => exact ⟨k + 1, X1.set k ⟨l.n, ao, c⟩, by omega, by go_num, HN.out, HE2.out⟩
      case measure => simp [intOf]; omega
    · have hge : ¬ (k : Int) < (X.length : Int) := by have := HXl.out; omega
      obtain rfl : k = 4 := by omega
      clear hO hE
      go_wp2
      go_ret
      refine ⟨g, X1, rfl, ?_, OV.out.done⟩
      have hl1 := OV.out.r.Xl
      apply List.ext_getElem
      · simp [hl1, HXl.out]
      · intro i h1 h2
        have hi : i < 4 := by simpa [hl1] using h1
        have e1 := lns_get X1 i
        have e2 := lns_get X i
        rw [List.getD_eq_getElem?_getD, List.getElem?_eq_getElem h1, Option.getD_some] at e1
        rw [List.getD_eq_getElem?_getD, List.getElem?_eq_getElem h2, Option.getD_some] at e2
        rw [e1, e2, EV.out i hi]
abbrev lif (g o : Nat) : Value := .iface 104 (.pointer (some ⟨g, o, none⟩))
set_option maxRecDepth 8000 in
theorem impl_through (g : Nat) (a : Int) (k : Nat) (w : World) (ha : plcB a = true) (hks : slotOf a = k) :
    Calls Try.prog 69 #[.pointer (some ⟨g, 0, none⟩), .int .i64 a] w fun e w' => e = .returned (lif g (256 + k * 5)) ∧ Fr w w' := by
  have hk : k < 4 := by rw [← hks]; exact slotOf_lt a
  obtain ⟨a0, a1⟩ := (plcB_iff a).1 ha
  have P := fun w => impl_indexOf a w a0 (by omega)
  rw [show a / 4 % 4 = (k : Int) by rw [← slotOf_int, hks]] at P
  have HP := Lib.hid P
  have hk4 : (k : Int) < 4 := by omega
  have hk0 : (0 : Int) ≤ (k : Int) := Int.natCast_nonneg _
  clear P ha hks
  go_enter Try.func69, Try.ntmps69
  go_wp2_with fail
  go_region_held3 (fun v => True) (first | trivial | (go_keep; done))
    (first | (go_at_call 97; refine (HP.out _).mono ?_; rintro e u1 ⟨rfl, rfl⟩))
  all_goals
    go_wp2
    go_ret
    exact ⟨rfl, by (repeat' first | (with_reducible exact Below.refl _ _) | (with_reducible assumption) | ((with_reducible refine Below.setCell ?_ ?hb _); (case hb => first | exact Nat.le_refl _ | (simp; done) | (simp; omega) | omega)) | ((with_reducible refine Below.alloc ?_ ?hb _); (case hb => first | exact Nat.le_refl _ | (simp; done) | (simp; omega) | omega)) | (with_reducible refine Below.drew ?_))⟩

end Go.Proofs.Ytoacgjjpipdkjaa
