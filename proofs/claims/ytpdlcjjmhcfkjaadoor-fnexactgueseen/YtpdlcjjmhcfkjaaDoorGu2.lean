/- New guessers; what slots learn. -/
import Derived.Deep.Upon
import Derived.Test.YtpdlcjjmhcfkjaaDoorGu1
import Derived.Test.YtpdlcjjmhcfkjaaDoorPl4
namespace Go.Proofs.YtpdlcjjmhcfkjaaDoor
open Go.RowKit
set_option linter.unusedVariables false
set_option linter.unusedSimpArgs false
/-- Two cells of a block that may be written. -/
structure Box2 (u : World) (g : Nat) (a b : Value) : Prop where
  lt : g < u.heap.size
  c0 : u.cell? ⟨g, 0, none⟩ = some a
  c1 : u.cell? ⟨g, 1, none⟩ = some b
  f0 : u.frozen? ⟨g, 0, none⟩ = false
  f1 : u.frozen? ⟨g, 1, none⟩ = false
theorem Box2.but {L : List Nat} {u u' : World} {g : Nat} {a b : Value} (h : Box2 u g a b) (f : But L u u') (hn : g ∉ L) : Box2 u' g a b :=
  ⟨Nat.lt_of_lt_of_le h.lt f.size, by rw [f.cell h.lt hn]; exact h.c0, by rw [f.cell h.lt hn]; exact h.c1, by rw [f.frozen h.lt hn]; exact h.f0, by rw [f.frozen h.lt hn]; exact h.f1⟩
theorem Box2.fr {u u' : World} {g : Nat} {a b : Value} (h : Box2 u g a b) (f : Fr u u') : Box2 u' g a b := h.but (L := []) (But.of f) (by simp)
theorem Box2.new (w : World) (a b : Value) (t : TypeId) (n : Nat) (hn : w.heap.size = n) : Box2 (w.alloc (.cells #[a, b] t)) n a b := by
  subst hn
  exact ⟨by simp, (alloc_at w _ t _ rfl 0).1, (alloc_at w _ t _ rfl 1).1, (alloc_at w _ t _ rfl 0).2, (alloc_at w _ t _ rfl 1).2⟩
theorem Box2.set {u : World} {g : Nat} {a b : Value} (h : Box2 u g a b) (a' b' : Value) : Box2 ((u.setCell ⟨g, 0, none⟩ a').setCell ⟨g, 1, none⟩ b') g a' b' := by
  have c0 := h.c0
  have c1 := h.c1
  have f0 := h.f0
  have f1 := h.f1
  have hl := h.lt
  refine ⟨by simpa [World.setCell] using hl, ?_, ?_, ?_, ?_⟩
  all_goals simp [World.frozen?_setCell, World.cell?_setCell_other, World.cell?_setCell_same, c0, c1, f0, f1]
theorem But.set2 {L : List Nat} {w w' : World} (h : But L w w') (g : Nat) (a b : Value) (hg : g ∈ L ∨ w.heap.size ≤ g) : But L w ((w'.setCell ⟨g, 0, none⟩ a).setCell ⟨g, 1, none⟩ b) :=
  (h.set g 0 a hg).set g 1 b hg
/-- Slots lie in block g, and may be written. -/
structure Ro4 (u : World) (g : Nat) (S : List Sl) : Prop where
  lt : g < u.heap.size
  rng : u.rangeAt g 0 (cls S)
  thr : u.there g 0 (4 * S.length)
theorem Ro4.but {L : List Nat} {u u' : World} {g : Nat} {S : List Sl} (h : Ro4 u g S) (f : But L u u') (hn : g ∉ L) : Ro4 u' g S :=
  ⟨Nat.lt_of_lt_of_le h.lt f.size, range_but h.rng f h.lt hn, there_but h.thr f h.lt hn⟩
theorem Ro4.fr {u u' : World} {g : Nat} {S : List Sl} (h : Ro4 u g S) (f : Fr u u') : Ro4 u' g S := h.but (L := []) (But.of f) (by simp)
theorem Ro4.vc {B : Nat} {u : World} {g : Nat} {S : List Sl} (h : Ro4 u g S) (hB : B ≤ g) : Vc4 B u S (some ⟨g, 0, none⟩) := ⟨fun _ => ⟨g, rfl, hB, h.lt, h.rng, h.thr⟩⟩
theorem ro4_block {u : World} {g : Nat} {S : List Sl} {cur : Array Value} {e : TypeId} (hg : u.heap[g]? = some (.cells cur e (0, 0))) (hx : ∀ (j : Nat) (v : Value), (cls S)[j]? = some v → cur[j]? = some v) : Ro4 u g S := by
  have hc : ∀ j, u.cell? ⟨g, j, none⟩ = cur[j]? := fun j => by simp [World.cell?, hg]
  refine ⟨?_, fun j v hv => by rw [Nat.zero_add, hc]; exact hx j v hv, fun j hj => ?_⟩
  · by_cases hh : g < u.heap.size
    · exact hh
    · rw [Array.getElem?_eq_none (by omega)] at hg; cases hg
  · rw [Nat.zero_add]
    refine ⟨?_, by simp [World.frozen?, hg]⟩
    have hl : j < (cls S).length := by rw [cls_len]; exact hj
    rw [hc, hx j _ (List.getElem?_eq_getElem hl)]
    rfl
theorem ro4_new (w : World) (S : List Sl) (zs : Array Value) (e : TypeId) : Ro4 (w.alloc (.cells ((cls S).toArray ++ zs) e)) w.heap.size S := by
  refine ro4_block (cur := (cls S).toArray ++ zs) (heap_alloc_new w _) (fun j v hv => ?_)
  have hl : j < (cls S).length := (List.getElem?_eq_some_iff.1 hv).1
  rw [Array.getElem?_append_left (by simpa using hl)]
  simpa using hv
theorem ro4_own {u : World} {B g n c : Nat} {e : TypeId} {S : List Sl} (h : u.ownsRow B e 4 (.slice (some ⟨g, 0, none⟩) n c) n (cls S)) : Ro4 u g S ∧ B ≤ g := by
  obtain ⟨hl, hc⟩ := h
  rcases hc with ⟨h, _⟩ | ⟨g', cap, cur, hv, hB, hg, hcap, _, hcs, hxs⟩
  · cases h
  · cases hv
    refine ⟨ro4_block hg (fun j v hv => ?_), hB⟩
    have hj : j < (cls S).length := (List.getElem?_eq_some_iff.1 hv).1
    have h1 : (cur.toList.take (n * 4))[j]? = (cls S)[j]? := by rw [hxs]
    rw [List.getElem?_take_of_lt (by omega), hv] at h1
    simpa using h1
/-- A guesser that was handed over: its rows may be written, and lie apart. -/
structure VcG (B : Nat) (u : World) (x : Gu) (aS aC : Option Addr) : Prop where
  S : Vc4 B u x.S aS
  C : Vc B u x.C.length (ivl x.C) aC
  ap : 0 < x.S.length → 0 < x.C.length → ∀ b c, aS = some b → aC = some c → b.block ≠ c.block
theorem VcG.fr {B : Nat} {u u' : World} {x : Gu} {aS aC : Option Addr} (h : VcG B u x aS aC) (f : Fr u u') : VcG B u' x aS aC := ⟨h.S.fr f, h.C.fr f, h.ap⟩
theorem VcG.mono {B B' : Nat} {u : World} {x : Gu} {aS aC : Option Addr} (h : VcG B u x aS aC) (hB : B' ≤ B) : VcG B' u x aS aC := ⟨h.S.mono hB, h.C.mono hB, h.ap⟩
/-- Behind a call that answers a guesser. -/
def GuP (x : Gu) (w : World) (e : Ending) (w' : World) : Prop := ∃ aS aC cS cC, e = .returned (.agg #[.slice aS x.S.length cS, .slice aC x.C.length cC]) ∧ VcG w.heap.size w' x aS aC ∧ Fr w w'
abbrev gu0 : Gu := ⟨[], []⟩
theorem VcG.nil (B : Nat) (u : World) (aS aC : Option Addr) : VcG B u gu0 aS aC := ⟨Vc4.nil _ _ _, Vc.nil _ _ _ _, fun h => absurd h (by simp)⟩
abbrev newG : Gu := ⟨List.replicate 8 sl0, []⟩
theorem info_slotV : (Tryd.prog.info? 51).map (fun i => (i.zero, i.size, i.bytes)) = some (some (slw sl0), 4, 32) := by kernel_rfl
theorem info_partsN {P : Program} {t : TypeId} {z : Value} {n b : Nat} (h : (P.info? t).map (fun i => (i.zero, i.size, i.bytes)) = some (some z, n, b)) : ∃ i, P.info? t = some i ∧ i.zero = some z ∧ i.size = n ∧ i.bytes = b := by
  cases hq : P.info? t with
  | none => simp [hq] at h
  | some i =>
    simp [hq] at h
    exact ⟨i, rfl, h.1, h.2.1, h.2.2⟩
theorem made_slots : (madeCells (slw sl0).cells (8 * 4)).toList = cls newG.S := by kernel_rfl
set_option maxRecDepth 4000 in
set_option maxHeartbeats 1000000 in
theorem impl_GueNew (w : World) : Calls Tryd.prog 22 #[] w fun e w' => ∃ g, e = .returned (.agg #[.slice (some ⟨g, 0, none⟩) 8 8, .slice none 0 0]) ∧ w.heap.size ≤ g ∧ Ro4 w' g newG.S ∧ Fr w w' := by
  obtain ⟨i0, hi, hz0, hz1, hz2⟩ := info_partsN info_slotV
  have HB := Lib.hid (Box2.new w (.slice none 0 0) (.slice none 0 0) 30 _ rfl)
  have HF := Lib.hid (Fr.alloc w (.cells #[.slice none 0 0, .slice none 0 0] 30))
  go_enter Tryd.func22, Tryd.ntmps22
  go_wp2_with (at_make; refine wpList_make_full _ rfl _ _ 28 rfl (w.heap.size + 1) 51 i0 (slw sl0) 4 Tryd.underlying28 hi hz0 hz1 .i64 .i64 (8 : Int) (8 : Int) 8 rfl rfl rfl rfl (by rw [hz2]; decide) (by decide) (by simp) ?_; intro w1 hown hg; have f := grown_fr hg; obtain ⟨lt, c0, c1, f0, f1⟩ := HB.out.fr f)
  have hu0 : (w.alloc (.cells #[.slice none 0 0, .slice none 0 0] 30)).heap.size = w.heap.size + 1 := by simp
  generalize w.alloc (.cells #[.slice none 0 0, .slice none 0 0] 30) = u0 at *
  rw [made_slots] at hown
  have hR := ro4_own (S := newG.S) (g := u0.heap.size) hown
  have hs := HF.out.size
  clear hown hg
  refine bodyPost_ret (v := .agg #[.slice (some ⟨u0.heap.size, 0, none⟩) 8 8, .slice none 0 0]) (by simp [results, Tryd.results22, go_sem, World.cell?_setCell_other, World.cell?_setCell_same, c0, c1, f0, f1, hu0]) rfl ⟨u0.heap.size, rfl, hs, ?_, ?_⟩
  · have hne := hR.2
    exact hR.1.but (L := [w.heap.size]) ((But.refl _ _).set2 w.heap.size _ _ (.inl (by simp))) (by simp; omega)
  · exact fr_but (HF.out.trans f) ((But.refl _ _).set2 w.heap.size _ _ (.inl (by simp)) : But [w.heap.size] _ _) (fun k hk => by have := List.mem_singleton.1 hk; omega)
set_option maxRecDepth 4000 in
set_option maxHeartbeats 1000000 in
theorem spec_GueNew (w : World) : Calls Tryd.prog 79 #[] w fun e w' => ∃ g, e = .returned (.agg #[.slice (some ⟨g, 0, none⟩) 8 8, .slice none 0 0]) ∧ w.heap.size ≤ g ∧ Ro4 w' g newG.S ∧ Fr w w' := by
  obtain ⟨i0, hi, hz0, hz1, hz2⟩ := info_partsN info_slotV
  have HB := Lib.hid (Box2.new w (.slice none 0 0) (.slice none 0 0) 30 _ rfl)
  have HF := Lib.hid (Fr.alloc w (.cells #[.slice none 0 0, .slice none 0 0] 30))
  go_enter Tryd.func79, Tryd.ntmps79
  go_wp2_with (at_make; refine wpList_make_full _ rfl _ _ 28 rfl (w.heap.size + 1) 51 i0 (slw sl0) 4 Tryd.underlying28 hi hz0 hz1 .i64 .i64 (8 : Int) (8 : Int) 8 rfl rfl rfl rfl (by rw [hz2]; decide) (by decide) (by simp) ?_; intro w1 hown hg; have f := grown_fr hg; obtain ⟨lt, c0, c1, f0, f1⟩ := HB.out.fr f)
  have hu0 : (w.alloc (.cells #[.slice none 0 0, .slice none 0 0] 30)).heap.size = w.heap.size + 1 := by simp
  generalize w.alloc (.cells #[.slice none 0 0, .slice none 0 0] 30) = u0 at *
  rw [made_slots] at hown
  have hR := ro4_own (S := newG.S) (g := u0.heap.size) hown
  have hs := HF.out.size
  clear hown hg
  refine bodyPost_ret (v := .agg #[.slice (some ⟨u0.heap.size, 0, none⟩) 8 8, .slice none 0 0]) (by simp [results, Tryd.results79, go_sem, World.cell?_setCell_other, World.cell?_setCell_same, c0, c1, f0, f1, hu0]) rfl ⟨u0.heap.size, rfl, hs, ?_, ?_⟩
  · have hne := hR.2
    exact hR.1.but (L := [w.heap.size]) ((But.refl _ _).set2 w.heap.size _ _ (.inl (by simp))) (by simp; omega)
  · exact fr_but (HF.out.trans f) ((But.refl _ _).set2 w.heap.size _ _ (.inl (by simp)) : But [w.heap.size] _ _) (fun k hk => by have := List.mem_singleton.1 hk; omega)
theorem impl_wrapped5 (x : Int) (w : World) (h0 : -1000000 ≤ x) (h1 : x ≤ 1000000) : Calls Tryd.prog 43 #[.int .i64 x] w fun e w' => e = .returned (.int .i64 (x % 65536)) ∧ w = w' := by
  go_enter Tryd.func43, Tryd.ntmps43
  go_wp2
  go_ret
  exact ⟨ret_int (by rw [IntKind.wrap_u16, IntWalk.wrap64_in _ (by omega)]), rfl⟩
set_option maxHeartbeats 1000000 in
theorem learned_A (u : Bool) (p t s pc tt : Int) (w : World) (p0 : 0 ≤ pc) (p1 : pc < 65536) (s0 : -1000 ≤ s) (s1 : s ≤ 1000) (hst : (u && decide (p = pc)) = false) (hj : (tt != (pc + 1) % 65536) = true) :
    Calls Tryd.prog 88 #[slw ⟨u, p, t, s⟩, .int .i64 pc, .int .i64 tt] w fun e w' => e = .returned (slw ⟨true, pc, tt, 2⟩) ∧ Fr w w' := by
  have E := fun w => impl_stores ⟨u, p, t, s⟩ pc w
  simp only [hst] at E
  have HE := Lib.hid E
  clear E
  have HF := Lib.hid (show Fr w ((w.alloc (.cells #[.bool u, .int .i64 p, .int .i64 t, .int .i64 s] 51)).alloc (.cells #[.bool false, .int .i64 0, .int .i64 0, .int .i64 0] 51)) by (repeat' first | (with_reducible exact Below.refl _ _) | (with_reducible assumption) | ((with_reducible refine Below.setCell ?_ ?hb _); (case hb => first | exact Nat.le_refl _ | (simp; done) | (simp; omega) | omega)) | ((with_reducible refine Below.alloc ?_ ?hb _); (case hb => first | exact Nat.le_refl _ | (simp; done) | (simp; omega) | omega)) | (with_reducible refine Below.drew ?_)))
  have HX := Lib.hid ((Box4.new w (.bool u) (.int .i64 p) (.int .i64 t) (.int .i64 s) 51 _ rfl).fr (Fr.alloc _ (.cells #[.bool false, .int .i64 0, .int .i64 0, .int .i64 0] 51)))
  have HZ := Lib.hid (Box4.new (w.alloc (.cells #[.bool u, .int .i64 p, .int .i64 t, .int .i64 s] 51)) (.bool false) (.int .i64 0) (.int .i64 0) (.int .i64 0) 51 (w.heap.size + 1) (by simp))
  clear hst
  go_enter Tryd.func88, Tryd.ntmps88
  go_wp2_with (go_at_call 43; refine (impl_wrapped5 _ _ (by omega) (by omega)).mono ?_; rintro e w' ⟨rfl, rfl⟩)
  generalize ((w.alloc (.cells #[.bool u, .int .i64 p, .int .i64 t, .int .i64 s] 51)).alloc (.cells #[.bool false, .int .i64 0, .int .i64 0, .int .i64 0] 51)) = u0 at *
  refine (HE.out _).mono ?_
  rintro e u1 ⟨rfl, f1⟩
  have HF1 := Lib.hid (HF.out.trans f1)
  have HFF := HF1
  have HX1 := Lib.hid (HX.out.fr f1)
  have HZ1 := Lib.hid (HZ.out.fr f1)
  clear HF HX HZ f1
  obtain ⟨_, x0, x1, x2, x3, xf0, xf1, xf2, xf3⟩ := HX1.out
  obtain ⟨_, z0, z1, z2, z3, zf0, zf1, zf2, zf3⟩ := HZ1.out
  go_wp2_with fail
  all_goals (refine bodyPost_ret (v := slw ⟨true, pc, tt, 2⟩) (by simp [results, Tryd.results88, go_sem, World.cell?_setCell_other, World.cell?_setCell_same, World.frozen?_setCell, x0, x1, x2, x3, z0, z1, z2, z3]) rfl ⟨rfl, ?_⟩; (repeat (with_reducible refine Below.setCell ?_ (by simp) _)); exact HFF.out)
set_option maxHeartbeats 1000000 in
theorem learned_B (u : Bool) (p t s pc tt : Int) (w : World) (p0 : 0 ≤ pc) (p1 : pc < 65536) (s0 : -1000 ≤ s) (s1 : s ≤ 1000) (hst : (u && decide (p = pc)) = false) (hj : tt = (pc + 1) % 65536) :
    Calls Tryd.prog 88 #[slw ⟨u, p, t, s⟩, .int .i64 pc, .int .i64 tt] w fun e w' => e = .returned (slw ⟨u, p, t, s⟩) ∧ Fr w w' := by
  have E := fun w => impl_stores ⟨u, p, t, s⟩ pc w
  simp only [hst] at E
  have HE := Lib.hid E
  clear E
  have HF := Lib.hid (show Fr w ((w.alloc (.cells #[.bool u, .int .i64 p, .int .i64 t, .int .i64 s] 51)).alloc (.cells #[.bool false, .int .i64 0, .int .i64 0, .int .i64 0] 51)) by (repeat' first | (with_reducible exact Below.refl _ _) | (with_reducible assumption) | ((with_reducible refine Below.setCell ?_ ?hb _); (case hb => first | exact Nat.le_refl _ | (simp; done) | (simp; omega) | omega)) | ((with_reducible refine Below.alloc ?_ ?hb _); (case hb => first | exact Nat.le_refl _ | (simp; done) | (simp; omega) | omega)) | (with_reducible refine Below.drew ?_)))
  have HX := Lib.hid ((Box4.new w (.bool u) (.int .i64 p) (.int .i64 t) (.int .i64 s) 51 _ rfl).fr (Fr.alloc _ (.cells #[.bool false, .int .i64 0, .int .i64 0, .int .i64 0] 51)))
  have HZ := Lib.hid (Box4.new (w.alloc (.cells #[.bool u, .int .i64 p, .int .i64 t, .int .i64 s] 51)) (.bool false) (.int .i64 0) (.int .i64 0) (.int .i64 0) 51 (w.heap.size + 1) (by simp))
  clear hst
  go_enter Tryd.func88, Tryd.ntmps88
  go_wp2_with (go_at_call 43; refine (impl_wrapped5 _ _ (by omega) (by omega)).mono ?_; rintro e w' ⟨rfl, rfl⟩)
  generalize ((w.alloc (.cells #[.bool u, .int .i64 p, .int .i64 t, .int .i64 s] 51)).alloc (.cells #[.bool false, .int .i64 0, .int .i64 0, .int .i64 0] 51)) = u0 at *
  refine (HE.out _).mono ?_
  rintro e u1 ⟨rfl, f1⟩
  have HF1 := Lib.hid (HF.out.trans f1)
  have HFF := HF1
  have HX1 := Lib.hid (HX.out.fr f1)
  have HZ1 := Lib.hid (HZ.out.fr f1)
  clear HF HX HZ f1
  obtain ⟨_, x0, x1, x2, x3, xf0, xf1, xf2, xf3⟩ := HX1.out
  obtain ⟨_, z0, z1, z2, z3, zf0, zf1, zf2, zf3⟩ := HZ1.out
  go_wp2_with fail
  refine (HE.out _).mono ?_
  rintro e u2 ⟨rfl, f2⟩
  have HF2 := Lib.hid (HF1.out.trans f2)
  clear HFF
  have HFF := HF2
  have HX2 := Lib.hid (HX1.out.fr f2)
  have HZ2 := Lib.hid (HZ1.out.fr f2)
  clear HF1 HX1 HZ1 f2 x0 x1 x2 x3 z0 z1 z2 z3 xf0 xf1 xf2 xf3 zf0 zf1 zf2 zf3
  obtain ⟨_, x0, x1, x2, x3, xf0, xf1, xf2, xf3⟩ := HX2.out
  obtain ⟨_, z0, z1, z2, z3, zf0, zf1, zf2, zf3⟩ := HZ2.out
  go_wp2_with fail
  all_goals (refine bodyPost_ret (v := slw ⟨u, p, t, s⟩) (by simp [results, Tryd.results88, go_sem, World.cell?_setCell_other, World.cell?_setCell_same, World.frozen?_setCell, x0, x1, x2, x3, z0, z1, z2, z3]) rfl ⟨rfl, ?_⟩; (repeat (with_reducible refine Below.setCell ?_ (by simp) _)); exact HFF.out)
set_option maxHeartbeats 1000000 in
theorem learned_C (u : Bool) (p t s pc tt : Int) (w : World) (p0 : 0 ≤ pc) (p1 : pc < 65536) (s0 : -1000 ≤ s) (s1 : s ≤ 1000) (hst : (u && decide (p = pc)) = true) (ht : t = tt) (hm : ¬ 3 < s + 1) :
    Calls Tryd.prog 88 #[slw ⟨u, p, t, s⟩, .int .i64 pc, .int .i64 tt] w fun e w' => e = .returned (slw ⟨u, p, t, s + 1⟩) ∧ Fr w w' := by
  subst ht
  have E := fun w => impl_stores ⟨u, p, t, s⟩ pc w
  simp only [hst] at E
  have HE := Lib.hid E
  clear E
  have HF := Lib.hid (show Fr w ((w.alloc (.cells #[.bool u, .int .i64 p, .int .i64 t, .int .i64 s] 51)).alloc (.cells #[.bool false, .int .i64 0, .int .i64 0, .int .i64 0] 51)) by (repeat' first | (with_reducible exact Below.refl _ _) | (with_reducible assumption) | ((with_reducible refine Below.setCell ?_ ?hb _); (case hb => first | exact Nat.le_refl _ | (simp; done) | (simp; omega) | omega)) | ((with_reducible refine Below.alloc ?_ ?hb _); (case hb => first | exact Nat.le_refl _ | (simp; done) | (simp; omega) | omega)) | (with_reducible refine Below.drew ?_)))
  have HX := Lib.hid ((Box4.new w (.bool u) (.int .i64 p) (.int .i64 t) (.int .i64 s) 51 _ rfl).fr (Fr.alloc _ (.cells #[.bool false, .int .i64 0, .int .i64 0, .int .i64 0] 51)))
  have HZ := Lib.hid (Box4.new (w.alloc (.cells #[.bool u, .int .i64 p, .int .i64 t, .int .i64 s] 51)) (.bool false) (.int .i64 0) (.int .i64 0) (.int .i64 0) 51 (w.heap.size + 1) (by simp))
  clear hst
  go_enter Tryd.func88, Tryd.ntmps88
  go_wp2_with (go_at_call 43; refine (impl_wrapped5 _ _ (by omega) (by omega)).mono ?_; rintro e w' ⟨rfl, rfl⟩)
  generalize ((w.alloc (.cells #[.bool u, .int .i64 p, .int .i64 t, .int .i64 s] 51)).alloc (.cells #[.bool false, .int .i64 0, .int .i64 0, .int .i64 0] 51)) = u0 at *
  refine (HE.out _).mono ?_
  rintro e u1 ⟨rfl, f1⟩
  have HF1 := Lib.hid (HF.out.trans f1)
  have HFF := HF1
  have HX1 := Lib.hid (HX.out.fr f1)
  have HZ1 := Lib.hid (HZ.out.fr f1)
  clear HF HX HZ f1
  obtain ⟨_, x0, x1, x2, x3, xf0, xf1, xf2, xf3⟩ := HX1.out
  obtain ⟨_, z0, z1, z2, z3, zf0, zf1, zf2, zf3⟩ := HZ1.out
  go_wp2_with fail
  refine (HE.out _).mono ?_
  rintro e u2 ⟨rfl, f2⟩
  have HF2 := Lib.hid (HF1.out.trans f2)
  clear HFF
  have HFF := HF2
  have HX2 := Lib.hid (HX1.out.fr f2)
  have HZ2 := Lib.hid (HZ1.out.fr f2)
  clear HF1 HX1 HZ1 f2 x0 x1 x2 x3 z0 z1 z2 z3 xf0 xf1 xf2 xf3 zf0 zf1 zf2 zf3
  obtain ⟨_, x0, x1, x2, x3, xf0, xf1, xf2, xf3⟩ := HX2.out
  obtain ⟨_, z0, z1, z2, z3, zf0, zf1, zf2, zf3⟩ := HZ2.out
  go_wp2_with fail
  all_goals (refine bodyPost_ret (v := slw ⟨u, p, t, s + 1⟩) (by simp [results, Tryd.results88, go_sem, World.cell?_setCell_other, World.cell?_setCell_same, World.frozen?_setCell, x0, x1, x2, x3, z0, z1, z2, z3]) rfl ⟨rfl, ?_⟩; (repeat (with_reducible refine Below.setCell ?_ (by simp) _)); exact HFF.out)
set_option maxHeartbeats 1000000 in
theorem learned_G (u : Bool) (p t s pc tt : Int) (w : World) (p0 : 0 ≤ pc) (p1 : pc < 65536) (s0 : -1000 ≤ s) (s1 : s ≤ 1000) (hst : (u && decide (p = pc)) = true) (ht : t = tt) (hm : 3 < s + 1) :
    Calls Tryd.prog 88 #[slw ⟨u, p, t, s⟩, .int .i64 pc, .int .i64 tt] w fun e w' => e = .returned (slw ⟨u, p, t, 3⟩) ∧ Fr w w' := by
  subst ht
  have E := fun w => impl_stores ⟨u, p, t, s⟩ pc w
  simp only [hst] at E
  have HE := Lib.hid E
  clear E
  have HF := Lib.hid (show Fr w ((w.alloc (.cells #[.bool u, .int .i64 p, .int .i64 t, .int .i64 s] 51)).alloc (.cells #[.bool false, .int .i64 0, .int .i64 0, .int .i64 0] 51)) by (repeat' first | (with_reducible exact Below.refl _ _) | (with_reducible assumption) | ((with_reducible refine Below.setCell ?_ ?hb _); (case hb => first | exact Nat.le_refl _ | (simp; done) | (simp; omega) | omega)) | ((with_reducible refine Below.alloc ?_ ?hb _); (case hb => first | exact Nat.le_refl _ | (simp; done) | (simp; omega) | omega)) | (with_reducible refine Below.drew ?_)))
  have HX := Lib.hid ((Box4.new w (.bool u) (.int .i64 p) (.int .i64 t) (.int .i64 s) 51 _ rfl).fr (Fr.alloc _ (.cells #[.bool false, .int .i64 0, .int .i64 0, .int .i64 0] 51)))
  have HZ := Lib.hid (Box4.new (w.alloc (.cells #[.bool u, .int .i64 p, .int .i64 t, .int .i64 s] 51)) (.bool false) (.int .i64 0) (.int .i64 0) (.int .i64 0) 51 (w.heap.size + 1) (by simp))
  clear hst
  go_enter Tryd.func88, Tryd.ntmps88
  go_wp2_with (go_at_call 43; refine (impl_wrapped5 _ _ (by omega) (by omega)).mono ?_; rintro e w' ⟨rfl, rfl⟩)
  generalize ((w.alloc (.cells #[.bool u, .int .i64 p, .int .i64 t, .int .i64 s] 51)).alloc (.cells #[.bool false, .int .i64 0, .int .i64 0, .int .i64 0] 51)) = u0 at *
  refine (HE.out _).mono ?_
  rintro e u1 ⟨rfl, f1⟩
  have HF1 := Lib.hid (HF.out.trans f1)
  have HFF := HF1
  have HX1 := Lib.hid (HX.out.fr f1)
  have HZ1 := Lib.hid (HZ.out.fr f1)
  clear HF HX HZ f1
  obtain ⟨_, x0, x1, x2, x3, xf0, xf1, xf2, xf3⟩ := HX1.out
  obtain ⟨_, z0, z1, z2, z3, zf0, zf1, zf2, zf3⟩ := HZ1.out
  go_wp2_with fail
  refine (HE.out _).mono ?_
  rintro e u2 ⟨rfl, f2⟩
  have HF2 := Lib.hid (HF1.out.trans f2)
  clear HFF
  have HFF := HF2
  have HX2 := Lib.hid (HX1.out.fr f2)
  have HZ2 := Lib.hid (HZ1.out.fr f2)
  clear HF1 HX1 HZ1 f2 x0 x1 x2 x3 z0 z1 z2 z3 xf0 xf1 xf2 xf3 zf0 zf1 zf2 zf3
  obtain ⟨_, x0, x1, x2, x3, xf0, xf1, xf2, xf3⟩ := HX2.out
  obtain ⟨_, z0, z1, z2, z3, zf0, zf1, zf2, zf3⟩ := HZ2.out
  go_wp2_with fail
  all_goals (refine bodyPost_ret (v := slw ⟨u, p, t, 3⟩) (by simp [results, Tryd.results88, go_sem, World.cell?_setCell_other, World.cell?_setCell_same, World.frozen?_setCell, x0, x1, x2, x3, z0, z1, z2, z3]) rfl ⟨rfl, ?_⟩; (repeat (with_reducible refine Below.setCell ?_ (by simp) _)); exact HFF.out)
set_option maxHeartbeats 1000000 in
theorem learned_D (u : Bool) (p t s pc tt : Int) (w : World) (p0 : 0 ≤ pc) (p1 : pc < 65536) (s0 : -1000 ≤ s) (s1 : s ≤ 1000) (hst : (u && decide (p = pc)) = true) (ht : (t == tt) = false) (hs : 0 < s) :
    Calls Tryd.prog 88 #[slw ⟨u, p, t, s⟩, .int .i64 pc, .int .i64 tt] w fun e w' => e = .returned (slw ⟨u, p, t, s - 1⟩) ∧ Fr w w' := by
  have E := fun w => impl_stores ⟨u, p, t, s⟩ pc w
  simp only [hst] at E
  have HE := Lib.hid E
  clear E
  have HF := Lib.hid (show Fr w ((w.alloc (.cells #[.bool u, .int .i64 p, .int .i64 t, .int .i64 s] 51)).alloc (.cells #[.bool false, .int .i64 0, .int .i64 0, .int .i64 0] 51)) by (repeat' first | (with_reducible exact Below.refl _ _) | (with_reducible assumption) | ((with_reducible refine Below.setCell ?_ ?hb _); (case hb => first | exact Nat.le_refl _ | (simp; done) | (simp; omega) | omega)) | ((with_reducible refine Below.alloc ?_ ?hb _); (case hb => first | exact Nat.le_refl _ | (simp; done) | (simp; omega) | omega)) | (with_reducible refine Below.drew ?_)))
  have HX := Lib.hid ((Box4.new w (.bool u) (.int .i64 p) (.int .i64 t) (.int .i64 s) 51 _ rfl).fr (Fr.alloc _ (.cells #[.bool false, .int .i64 0, .int .i64 0, .int .i64 0] 51)))
  have HZ := Lib.hid (Box4.new (w.alloc (.cells #[.bool u, .int .i64 p, .int .i64 t, .int .i64 s] 51)) (.bool false) (.int .i64 0) (.int .i64 0) (.int .i64 0) 51 (w.heap.size + 1) (by simp))
  clear hst
  go_enter Tryd.func88, Tryd.ntmps88
  go_wp2_with (go_at_call 43; refine (impl_wrapped5 _ _ (by omega) (by omega)).mono ?_; rintro e w' ⟨rfl, rfl⟩)
  generalize ((w.alloc (.cells #[.bool u, .int .i64 p, .int .i64 t, .int .i64 s] 51)).alloc (.cells #[.bool false, .int .i64 0, .int .i64 0, .int .i64 0] 51)) = u0 at *
  refine (HE.out _).mono ?_
  rintro e u1 ⟨rfl, f1⟩
  have HF1 := Lib.hid (HF.out.trans f1)
  have HFF := HF1
  have HX1 := Lib.hid (HX.out.fr f1)
  have HZ1 := Lib.hid (HZ.out.fr f1)
  clear HF HX HZ f1
  obtain ⟨_, x0, x1, x2, x3, xf0, xf1, xf2, xf3⟩ := HX1.out
  obtain ⟨_, z0, z1, z2, z3, zf0, zf1, zf2, zf3⟩ := HZ1.out
  go_wp2_with fail
  refine (HE.out _).mono ?_
  rintro e u2 ⟨rfl, f2⟩
  have HF2 := Lib.hid (HF1.out.trans f2)
  clear HFF
  have HFF := HF2
  have HX2 := Lib.hid (HX1.out.fr f2)
  have HZ2 := Lib.hid (HZ1.out.fr f2)
  clear HF1 HX1 HZ1 f2 x0 x1 x2 x3 z0 z1 z2 z3 xf0 xf1 xf2 xf3 zf0 zf1 zf2 zf3
  obtain ⟨_, x0, x1, x2, x3, xf0, xf1, xf2, xf3⟩ := HX2.out
  obtain ⟨_, z0, z1, z2, z3, zf0, zf1, zf2, zf3⟩ := HZ2.out
  go_wp2_with fail
  all_goals (refine bodyPost_ret (v := slw ⟨u, p, t, s - 1⟩) (by simp [results, Tryd.results88, go_sem, World.cell?_setCell_other, World.cell?_setCell_same, World.frozen?_setCell, x0, x1, x2, x3, z0, z1, z2, z3]) rfl ⟨rfl, ?_⟩; (repeat (with_reducible refine Below.setCell ?_ (by simp) _)); exact HFF.out)
set_option maxHeartbeats 1000000 in
theorem learned_E (u : Bool) (p t s pc tt : Int) (w : World) (p0 : 0 ≤ pc) (p1 : pc < 65536) (s0 : -1000 ≤ s) (s1 : s ≤ 1000) (hst : (u && decide (p = pc)) = true) (ht : (t == tt) = false) (hs : ¬ 0 < s) (hj : (tt != (pc + 1) % 65536) = true) :
    Calls Tryd.prog 88 #[slw ⟨u, p, t, s⟩, .int .i64 pc, .int .i64 tt] w fun e w' => e = .returned (slw ⟨u, p, tt, 1⟩) ∧ Fr w w' := by
  have E := fun w => impl_stores ⟨u, p, t, s⟩ pc w
  simp only [hst] at E
  have HE := Lib.hid E
  clear E
  have HF := Lib.hid (show Fr w ((w.alloc (.cells #[.bool u, .int .i64 p, .int .i64 t, .int .i64 s] 51)).alloc (.cells #[.bool false, .int .i64 0, .int .i64 0, .int .i64 0] 51)) by (repeat' first | (with_reducible exact Below.refl _ _) | (with_reducible assumption) | ((with_reducible refine Below.setCell ?_ ?hb _); (case hb => first | exact Nat.le_refl _ | (simp; done) | (simp; omega) | omega)) | ((with_reducible refine Below.alloc ?_ ?hb _); (case hb => first | exact Nat.le_refl _ | (simp; done) | (simp; omega) | omega)) | (with_reducible refine Below.drew ?_)))
  have HX := Lib.hid ((Box4.new w (.bool u) (.int .i64 p) (.int .i64 t) (.int .i64 s) 51 _ rfl).fr (Fr.alloc _ (.cells #[.bool false, .int .i64 0, .int .i64 0, .int .i64 0] 51)))
  have HZ := Lib.hid (Box4.new (w.alloc (.cells #[.bool u, .int .i64 p, .int .i64 t, .int .i64 s] 51)) (.bool false) (.int .i64 0) (.int .i64 0) (.int .i64 0) 51 (w.heap.size + 1) (by simp))
  clear hst
  go_enter Tryd.func88, Tryd.ntmps88
  go_wp2_with (go_at_call 43; refine (impl_wrapped5 _ _ (by omega) (by omega)).mono ?_; rintro e w' ⟨rfl, rfl⟩)
  generalize ((w.alloc (.cells #[.bool u, .int .i64 p, .int .i64 t, .int .i64 s] 51)).alloc (.cells #[.bool false, .int .i64 0, .int .i64 0, .int .i64 0] 51)) = u0 at *
  refine (HE.out _).mono ?_
  rintro e u1 ⟨rfl, f1⟩
  have HF1 := Lib.hid (HF.out.trans f1)
  have HFF := HF1
  have HX1 := Lib.hid (HX.out.fr f1)
  have HZ1 := Lib.hid (HZ.out.fr f1)
  clear HF HX HZ f1
  obtain ⟨_, x0, x1, x2, x3, xf0, xf1, xf2, xf3⟩ := HX1.out
  obtain ⟨_, z0, z1, z2, z3, zf0, zf1, zf2, zf3⟩ := HZ1.out
  go_wp2_with fail
  refine (HE.out _).mono ?_
  rintro e u2 ⟨rfl, f2⟩
  have HF2 := Lib.hid (HF1.out.trans f2)
  clear HFF
  have HFF := HF2
  have HX2 := Lib.hid (HX1.out.fr f2)
  have HZ2 := Lib.hid (HZ1.out.fr f2)
  clear HF1 HX1 HZ1 f2 x0 x1 x2 x3 z0 z1 z2 z3 xf0 xf1 xf2 xf3 zf0 zf1 zf2 zf3
  obtain ⟨_, x0, x1, x2, x3, xf0, xf1, xf2, xf3⟩ := HX2.out
  obtain ⟨_, z0, z1, z2, z3, zf0, zf1, zf2, zf3⟩ := HZ2.out
  go_wp2_with fail
  all_goals (refine bodyPost_ret (v := slw ⟨u, p, tt, 1⟩) (by simp [results, Tryd.results88, go_sem, World.cell?_setCell_other, World.cell?_setCell_same, World.frozen?_setCell, x0, x1, x2, x3, z0, z1, z2, z3]) rfl ⟨rfl, ?_⟩; (repeat (with_reducible refine Below.setCell ?_ (by simp) _)); exact HFF.out)
set_option maxHeartbeats 1000000 in
theorem learned_F (u : Bool) (p t s pc tt : Int) (w : World) (p0 : 0 ≤ pc) (p1 : pc < 65536) (s0 : -1000 ≤ s) (s1 : s ≤ 1000) (hst : (u && decide (p = pc)) = true) (ht : (t == tt) = false) (hs : ¬ 0 < s) (hj : tt = (pc + 1) % 65536) :
    Calls Tryd.prog 88 #[slw ⟨u, p, t, s⟩, .int .i64 pc, .int .i64 tt] w fun e w' => e = .returned (slw ⟨u, p, t, s⟩) ∧ Fr w w' := by
  have E := fun w => impl_stores ⟨u, p, t, s⟩ pc w
  simp only [hst] at E
  have HE := Lib.hid E
  clear E
  have HF := Lib.hid (show Fr w ((w.alloc (.cells #[.bool u, .int .i64 p, .int .i64 t, .int .i64 s] 51)).alloc (.cells #[.bool false, .int .i64 0, .int .i64 0, .int .i64 0] 51)) by (repeat' first | (with_reducible exact Below.refl _ _) | (with_reducible assumption) | ((with_reducible refine Below.setCell ?_ ?hb _); (case hb => first | exact Nat.le_refl _ | (simp; done) | (simp; omega) | omega)) | ((with_reducible refine Below.alloc ?_ ?hb _); (case hb => first | exact Nat.le_refl _ | (simp; done) | (simp; omega) | omega)) | (with_reducible refine Below.drew ?_)))
  have HX := Lib.hid ((Box4.new w (.bool u) (.int .i64 p) (.int .i64 t) (.int .i64 s) 51 _ rfl).fr (Fr.alloc _ (.cells #[.bool false, .int .i64 0, .int .i64 0, .int .i64 0] 51)))
  have HZ := Lib.hid (Box4.new (w.alloc (.cells #[.bool u, .int .i64 p, .int .i64 t, .int .i64 s] 51)) (.bool false) (.int .i64 0) (.int .i64 0) (.int .i64 0) 51 (w.heap.size + 1) (by simp))
  clear hst
  go_enter Tryd.func88, Tryd.ntmps88
  go_wp2_with (go_at_call 43; refine (impl_wrapped5 _ _ (by omega) (by omega)).mono ?_; rintro e w' ⟨rfl, rfl⟩)
  generalize ((w.alloc (.cells #[.bool u, .int .i64 p, .int .i64 t, .int .i64 s] 51)).alloc (.cells #[.bool false, .int .i64 0, .int .i64 0, .int .i64 0] 51)) = u0 at *
  refine (HE.out _).mono ?_
  rintro e u1 ⟨rfl, f1⟩
  have HF1 := Lib.hid (HF.out.trans f1)
  have HFF := HF1
  have HX1 := Lib.hid (HX.out.fr f1)
  have HZ1 := Lib.hid (HZ.out.fr f1)
  clear HF HX HZ f1
  obtain ⟨_, x0, x1, x2, x3, xf0, xf1, xf2, xf3⟩ := HX1.out
  obtain ⟨_, z0, z1, z2, z3, zf0, zf1, zf2, zf3⟩ := HZ1.out
  go_wp2_with fail
  refine (HE.out _).mono ?_
  rintro e u2 ⟨rfl, f2⟩
  have HF2 := Lib.hid (HF1.out.trans f2)
  clear HFF
  have HFF := HF2
  have HX2 := Lib.hid (HX1.out.fr f2)
  have HZ2 := Lib.hid (HZ1.out.fr f2)
  clear HF1 HX1 HZ1 f2 x0 x1 x2 x3 z0 z1 z2 z3 xf0 xf1 xf2 xf3 zf0 zf1 zf2 zf3
  obtain ⟨_, x0, x1, x2, x3, xf0, xf1, xf2, xf3⟩ := HX2.out
  obtain ⟨_, z0, z1, z2, z3, zf0, zf1, zf2, zf3⟩ := HZ2.out
  go_wp2_with fail
  all_goals (refine bodyPost_ret (v := slw ⟨u, p, t, s⟩) (by simp [results, Tryd.results88, go_sem, World.cell?_setCell_other, World.cell?_setCell_same, World.frozen?_setCell, x0, x1, x2, x3, z0, z1, z2, z3]) rfl ⟨rfl, ?_⟩; (repeat (with_reducible refine Below.setCell ?_ (by simp) _)); exact HFF.out)

end Go.Proofs.YtpdlcjjmhcfkjaaDoor
