/- What a guesser has seen, of the model. -/
import Derived.Test.YtpdlcjjmhcfkjaaDoorGu7
import Derived.Test.YtpdlcjjmhcfkjaaDoorGk
namespace Go.Proofs.YtpdlcjjmhcfkjaaDoor
open Go.RowKit
set_option linter.unusedVariables false
set_option linter.unusedSimpArgs false
/-- Behind l5Seen. -/
def SnP (B gS cS : Nat) (S : List Sl) (C : List Int) (w : World) (e : Ending) (w' : World) : Prop := ∃ aC cC, e = .returned (.agg #[.slice (some ⟨gS, 0, none⟩) 8 cS, .slice aC C.length cC]) ∧ Ro4 w' gS S ∧ Src w' C.length (ivl C) aC ∧ Below B w w'
theorem Rc.src {B : Nat} {u : World} {xs : List Int} {ao : Option Addr} {c : Nat} (h : Rc B u xs ao c) : Src u xs.length (ivl xs) ao := h.vc.src
theorem but_below {B : Nat} {L : List Nat} {u u' : World} (f : But L u u') (hL : ∀ k, k ∈ L → B ≤ k) (hB : B ≤ u.heap.size) : Below B u u' :=
  ⟨f.os, f.tape, f.output, f.size, fun k hk => f.block k (by omega) (fun hm => by have := hL k hm; omega)⟩
/-- A row with one more number, out of the law on append. -/
theorem rc_own {u : World} {B n : Nat} {v : Value} {xs : List Int} (h : u.ownsRow B 3 1 v n (xs.map (Value.int .i64))) (h0 : 0 < n) : ∃ ao c, v = .slice ao xs.length c ∧ Rc B u xs ao c := by
  have hl := h.1
  rw [List.length_map, Nat.mul_one] at hl
  have h' := h
  rcases h.2 with ⟨_, hz⟩ | ⟨g, cap, cur, hv, hB, hg, hcap, hmx, hcs, hxs⟩
  · omega
  · subst hv
    obtain ⟨r, hb, _⟩ := ro_own h'
    exact ⟨some ⟨g, 0, none⟩, cap, by rw [hl], .inr ⟨g, rfl, hB, r, ⟨cur, hg, by omega, by omega, hmx⟩, by omega⟩⟩
theorem box_fin {u : World} {b : Nat} {p q : Value} (h : Box2 u (b + 1) p q) (p1 x y : Value) : Box2 (((u.setCell ⟨b, 1, none⟩ p1).setCell ⟨b + 1, 0, none⟩ x).setCell ⟨b + 1, 1, none⟩ y) (b + 1) x y :=
  (h.but (L := [b]) ((But.refl _ _).set b 1 p1 (.inl (by simp))) (by simp)).set x y
set_option maxRecDepth 8000 in
set_option maxHeartbeats 4000000 in
theorem l5Seen_no (B gS cS : Nat) (S : List Sl) (C : List Int) (aC : Option Addr) (cC : Nat) (pc m k d a b f n : Int) (g : Bool) (w : World) (hr : Ro4 w gS S) (hc : Rc B w C aC cC) (hB : B ≤ gS) (hBw : B ≤ w.heap.size) (hap : ∀ x, aC = some ⟨x, 0, none⟩ → 0 < C.length → gS ≠ x) (hl : C.length ≤ 4) (p0 : 0 ≤ pc) (p1 : pc < 65536)
    (hrd : ∀ w, Calls Tryd.prog 72 #[.int .i64 m] w fun e w' => e = .returned (.tuple #[.agg #[.int .i64 k, .int .i64 d, .int .i64 a, .int .i64 b, .int .i64 f, .int .i64 n], .bool g]) ∧ Fr w w') (hg : g = false) :
    Calls Tryd.prog 47 #[.agg #[.slice (some ⟨gS, 0, none⟩) 8 cS, .slice aC C.length cC], .int .i64 pc, .int .i64 m] w (SnP B gS cS S (C) w) := by
  have hgl := hr.lt
  have F2 : Fr w ((w.alloc (.cells #[.slice (some ⟨gS, 0, none⟩) 8 cS, .slice aC C.length cC] 30)).alloc (.cells #[.slice none 0 0, .slice none 0 0] 30)) := by
    (repeat' first | (with_reducible exact Below.refl _ _) | (with_reducible assumption) | ((with_reducible refine Below.setCell ?_ ?hb _); (case hb => first | exact Nat.le_refl _ | (simp; done) | (simp; omega) | omega)) | ((with_reducible refine Below.alloc ?_ ?hb _); (case hb => first | exact Nat.le_refl _ | (simp; done) | (simp; omega) | omega)) | (with_reducible refine Below.drew ?_))
  have HF := Lib.hid F2
  have HB := Lib.hid ((Box2.new w (.slice (some ⟨gS, 0, none⟩) 8 cS) (.slice aC C.length cC) 30 _ rfl).fr (Fr.alloc _ (.cells #[.slice none 0 0, .slice none 0 0] 30)))
  have HZ := Lib.hid (Box2.new (w.alloc (.cells #[.slice (some ⟨gS, 0, none⟩) 8 cS, .slice aC C.length cC] 30)) (.slice none 0 0) (.slice none 0 0) 30 (w.heap.size + 1) (by simp))
  have HS2 := Lib.hid (show ((w.alloc (.cells #[.slice (some ⟨gS, 0, none⟩) 8 cS, .slice aC C.length cC] 30)).alloc (.cells #[.slice none 0 0, .slice none 0 0] 30)).heap.size = w.heap.size + 2 by simp)
  have HR := Lib.hid hr
  have HC := Lib.hid hc
  have HD := Lib.hid hrd
  clear F2 hr hc hrd
  subst hg
  go_enter Tryd.func47, Tryd.ntmps47
  go_wp2_with fail
  generalize ((w.alloc (.cells #[.slice (some ⟨gS, 0, none⟩) 8 cS, .slice aC C.length cC] 30)).alloc (.cells #[.slice none 0 0, .slice none 0 0] 30)) = u0 at *
  refine (HD.out _).mono ?_
  rintro e u1 ⟨rfl, f1⟩
  have HF1 := Lib.hid (HF.out.trans f1)
  have HB1 := Lib.hid (HB.out.fr f1)
  have HZ1 := Lib.hid (HZ.out.fr f1)
  have hs1 : w.heap.size + 2 ≤ u1.heap.size := by have := HS2.out; have := f1.size; omega
  clear HF HB HZ HS2 f1 HD
  go_upto_region 2 with fail
  have F3 := Fr.alloc u1 (.cells #[.int .i64 k, .int .i64 d, .int .i64 a, .int .i64 b, .int .i64 f, .int .i64 n] 43)
  have HI : Hid (Box (u1.alloc (.cells #[.int .i64 k, .int .i64 d, .int .i64 a, .int .i64 b, .int .i64 f, .int .i64 n] 43)) u1.heap.size k d a b f n) := Lib.hid ⟨(alloc_at u1 _ _ _ rfl 0).1, (alloc_at u1 _ _ _ rfl 1).1, (alloc_at u1 _ _ _ rfl 2).1, (alloc_at u1 _ _ _ rfl 3).1, (alloc_at u1 _ _ _ rfl 4).1, (alloc_at u1 _ _ _ rfl 5).1⟩
  have HF3 := Lib.hid (HF1.out.trans F3)
  have HB3 := Lib.hid (HB1.out.fr F3)
  have HZ3 := Lib.hid (HZ1.out.fr F3)
  have hs3 : w.heap.size + 2 ≤ (u1.alloc (.cells #[.int .i64 k, .int .i64 d, .int .i64 a, .int .i64 b, .int .i64 f, .int .i64 n] 43)).heap.size := by have := F3.size; omega
  clear HF1 HB1 HZ1 F3
  generalize hI : u1.heap.size = bI at *
  generalize (u1.alloc (.cells #[.int .i64 k, .int .i64 d, .int .i64 a, .int .i64 b, .int .i64 f, .int .i64 n] 43)) = u3 at *
  obtain ⟨_, c0, c1, cf0, cf1⟩ := HB3.out
  obtain ⟨_, z0, z1, zf0, zf1⟩ := HZ3.out
  obtain ⟨i0, i1, i2, i3, i4, i5⟩ := HI.out
  go_wp2_with fail
  all_goals first | (exfalso; omega) | skip
  refine bodyPost_ret (v := .agg #[.slice (some ⟨gS, 0, none⟩) 8 cS, .slice aC C.length cC]) (by simp [results, Tryd.results47, go_sem, World.cell?_setCell_other, World.cell?_setCell_same, c0, c1, z0, z1]) rfl ?_
  have hst : ∀ p q, But [w.heap.size + 1] u3 ((u3.setCell ⟨w.heap.size + 1, 0, none⟩ p).setCell ⟨w.heap.size + 1, 1, none⟩ q) := fun p q => (But.refl _ _).set2 (w.heap.size + 1) p q (.inl (by simp))
  exact ⟨aC, cC, rfl, (HR.out.fr HF3.out).but (hst _ _) (by simp <;> omega), (HC.out.src.fr (show Fr w _ from fr_but HF3.out (hst _ _) (fun k hk => by have := List.mem_singleton.1 hk; omega))), Below.mono (show Fr w _ from fr_but HF3.out (hst _ _) (fun k hk => by have := List.mem_singleton.1 hk; omega)) hBw⟩
set_option maxRecDepth 8000 in
set_option maxHeartbeats 4000000 in
theorem l5Seen_oth (B gS cS : Nat) (S : List Sl) (C : List Int) (aC : Option Addr) (cC : Nat) (pc m k d a b f n : Int) (g : Bool) (w : World) (hr : Ro4 w gS S) (hc : Rc B w C aC cC) (hB : B ≤ gS) (hBw : B ≤ w.heap.size) (hap : ∀ x, aC = some ⟨x, 0, none⟩ → 0 < C.length → gS ≠ x) (hl : C.length ≤ 4) (p0 : 0 ≤ pc) (p1 : pc < 65536)
    (hrd : ∀ w, Calls Tryd.prog 72 #[.int .i64 m] w fun e w' => e = .returned (.tuple #[.agg #[.int .i64 k, .int .i64 d, .int .i64 a, .int .i64 b, .int .i64 f, .int .i64 n], .bool g]) ∧ Fr w w') (hg : g = true) (hk8 : (k == 8) = false) (hk7 : (k == 7) = false) :
    Calls Tryd.prog 47 #[.agg #[.slice (some ⟨gS, 0, none⟩) 8 cS, .slice aC C.length cC], .int .i64 pc, .int .i64 m] w (SnP B gS cS S (C) w) := by
  have hgl := hr.lt
  have F2 : Fr w ((w.alloc (.cells #[.slice (some ⟨gS, 0, none⟩) 8 cS, .slice aC C.length cC] 30)).alloc (.cells #[.slice none 0 0, .slice none 0 0] 30)) := by
    (repeat' first | (with_reducible exact Below.refl _ _) | (with_reducible assumption) | ((with_reducible refine Below.setCell ?_ ?hb _); (case hb => first | exact Nat.le_refl _ | (simp; done) | (simp; omega) | omega)) | ((with_reducible refine Below.alloc ?_ ?hb _); (case hb => first | exact Nat.le_refl _ | (simp; done) | (simp; omega) | omega)) | (with_reducible refine Below.drew ?_))
  have HF := Lib.hid F2
  have HB := Lib.hid ((Box2.new w (.slice (some ⟨gS, 0, none⟩) 8 cS) (.slice aC C.length cC) 30 _ rfl).fr (Fr.alloc _ (.cells #[.slice none 0 0, .slice none 0 0] 30)))
  have HZ := Lib.hid (Box2.new (w.alloc (.cells #[.slice (some ⟨gS, 0, none⟩) 8 cS, .slice aC C.length cC] 30)) (.slice none 0 0) (.slice none 0 0) 30 (w.heap.size + 1) (by simp))
  have HS2 := Lib.hid (show ((w.alloc (.cells #[.slice (some ⟨gS, 0, none⟩) 8 cS, .slice aC C.length cC] 30)).alloc (.cells #[.slice none 0 0, .slice none 0 0] 30)).heap.size = w.heap.size + 2 by simp)
  have HR := Lib.hid hr
  have HC := Lib.hid hc
  have HD := Lib.hid hrd
  clear F2 hr hc hrd
  subst hg
  have hk8n : ¬ k = 8 := by simpa using hk8
  have hk7n : ¬ k = 7 := by simpa using hk7
  go_enter Tryd.func47, Tryd.ntmps47
  go_wp2_with fail
  generalize ((w.alloc (.cells #[.slice (some ⟨gS, 0, none⟩) 8 cS, .slice aC C.length cC] 30)).alloc (.cells #[.slice none 0 0, .slice none 0 0] 30)) = u0 at *
  refine (HD.out _).mono ?_
  rintro e u1 ⟨rfl, f1⟩
  have HF1 := Lib.hid (HF.out.trans f1)
  have HB1 := Lib.hid (HB.out.fr f1)
  have HZ1 := Lib.hid (HZ.out.fr f1)
  have hs1 : w.heap.size + 2 ≤ u1.heap.size := by have := HS2.out; have := f1.size; omega
  clear HF HB HZ HS2 f1 HD
  go_upto_region 2 with fail
  have F3 := Fr.alloc u1 (.cells #[.int .i64 k, .int .i64 d, .int .i64 a, .int .i64 b, .int .i64 f, .int .i64 n] 43)
  have HI : Hid (Box (u1.alloc (.cells #[.int .i64 k, .int .i64 d, .int .i64 a, .int .i64 b, .int .i64 f, .int .i64 n] 43)) u1.heap.size k d a b f n) := Lib.hid ⟨(alloc_at u1 _ _ _ rfl 0).1, (alloc_at u1 _ _ _ rfl 1).1, (alloc_at u1 _ _ _ rfl 2).1, (alloc_at u1 _ _ _ rfl 3).1, (alloc_at u1 _ _ _ rfl 4).1, (alloc_at u1 _ _ _ rfl 5).1⟩
  have HF3 := Lib.hid (HF1.out.trans F3)
  have HB3 := Lib.hid (HB1.out.fr F3)
  have HZ3 := Lib.hid (HZ1.out.fr F3)
  have hs3 : w.heap.size + 2 ≤ (u1.alloc (.cells #[.int .i64 k, .int .i64 d, .int .i64 a, .int .i64 b, .int .i64 f, .int .i64 n] 43)).heap.size := by have := F3.size; omega
  clear HF1 HB1 HZ1 F3
  generalize hI : u1.heap.size = bI at *
  generalize (u1.alloc (.cells #[.int .i64 k, .int .i64 d, .int .i64 a, .int .i64 b, .int .i64 f, .int .i64 n] 43)) = u3 at *
  obtain ⟨_, c0, c1, cf0, cf1⟩ := HB3.out
  obtain ⟨_, z0, z1, zf0, zf1⟩ := HZ3.out
  obtain ⟨i0, i1, i2, i3, i4, i5⟩ := HI.out
  go_wp2_with fail
  all_goals first | (exfalso; omega) | skip
  refine bodyPost_ret (v := .agg #[.slice (some ⟨gS, 0, none⟩) 8 cS, .slice aC C.length cC]) (by simp [results, Tryd.results47, go_sem, World.cell?_setCell_other, World.cell?_setCell_same, c0, c1, z0, z1]) rfl ?_
  have hst : ∀ p q, But [w.heap.size + 1] u3 ((u3.setCell ⟨w.heap.size + 1, 0, none⟩ p).setCell ⟨w.heap.size + 1, 1, none⟩ q) := fun p q => (But.refl _ _).set2 (w.heap.size + 1) p q (.inl (by simp))
  exact ⟨aC, cC, rfl, (HR.out.fr HF3.out).but (hst _ _) (by simp <;> omega), (HC.out.src.fr (show Fr w _ from fr_but HF3.out (hst _ _) (fun k hk => by have := List.mem_singleton.1 hk; omega))), Below.mono (show Fr w _ from fr_but HF3.out (hst _ _) (fun k hk => by have := List.mem_singleton.1 hk; omega)) hBw⟩
set_option maxRecDepth 8000 in
set_option maxHeartbeats 4000000 in
theorem l5Seen_7n (B gS cS : Nat) (S : List Sl) (C : List Int) (aC : Option Addr) (cC : Nat) (pc m k d a b f n : Int) (g : Bool) (w : World) (hr : Ro4 w gS S) (hc : Rc B w C aC cC) (hB : B ≤ gS) (hBw : B ≤ w.heap.size) (hap : ∀ x, aC = some ⟨x, 0, none⟩ → 0 < C.length → gS ≠ x) (hl : C.length ≤ 4) (p0 : 0 ≤ pc) (p1 : pc < 65536)
    (hrd : ∀ w, Calls Tryd.prog 72 #[.int .i64 m] w fun e w' => e = .returned (.tuple #[.agg #[.int .i64 k, .int .i64 d, .int .i64 a, .int .i64 b, .int .i64 f, .int .i64 n], .bool g]) ∧ Fr w w') (hg : g = true) (hk : k = 7) (hd : ¬ 0 < d) :
    Calls Tryd.prog 47 #[.agg #[.slice (some ⟨gS, 0, none⟩) 8 cS, .slice aC C.length cC], .int .i64 pc, .int .i64 m] w (SnP B gS cS S (C) w) := by
  have hgl := hr.lt
  have F2 : Fr w ((w.alloc (.cells #[.slice (some ⟨gS, 0, none⟩) 8 cS, .slice aC C.length cC] 30)).alloc (.cells #[.slice none 0 0, .slice none 0 0] 30)) := by
    (repeat' first | (with_reducible exact Below.refl _ _) | (with_reducible assumption) | ((with_reducible refine Below.setCell ?_ ?hb _); (case hb => first | exact Nat.le_refl _ | (simp; done) | (simp; omega) | omega)) | ((with_reducible refine Below.alloc ?_ ?hb _); (case hb => first | exact Nat.le_refl _ | (simp; done) | (simp; omega) | omega)) | (with_reducible refine Below.drew ?_))
  have HF := Lib.hid F2
  have HB := Lib.hid ((Box2.new w (.slice (some ⟨gS, 0, none⟩) 8 cS) (.slice aC C.length cC) 30 _ rfl).fr (Fr.alloc _ (.cells #[.slice none 0 0, .slice none 0 0] 30)))
  have HZ := Lib.hid (Box2.new (w.alloc (.cells #[.slice (some ⟨gS, 0, none⟩) 8 cS, .slice aC C.length cC] 30)) (.slice none 0 0) (.slice none 0 0) 30 (w.heap.size + 1) (by simp))
  have HS2 := Lib.hid (show ((w.alloc (.cells #[.slice (some ⟨gS, 0, none⟩) 8 cS, .slice aC C.length cC] 30)).alloc (.cells #[.slice none 0 0, .slice none 0 0] 30)).heap.size = w.heap.size + 2 by simp)
  have HR := Lib.hid hr
  have HC := Lib.hid hc
  have HD := Lib.hid hrd
  clear F2 hr hc hrd
  subst hg hk
  go_enter Tryd.func47, Tryd.ntmps47
  go_wp2_with fail
  generalize ((w.alloc (.cells #[.slice (some ⟨gS, 0, none⟩) 8 cS, .slice aC C.length cC] 30)).alloc (.cells #[.slice none 0 0, .slice none 0 0] 30)) = u0 at *
  refine (HD.out _).mono ?_
  rintro e u1 ⟨rfl, f1⟩
  have HF1 := Lib.hid (HF.out.trans f1)
  have HB1 := Lib.hid (HB.out.fr f1)
  have HZ1 := Lib.hid (HZ.out.fr f1)
  have hs1 : w.heap.size + 2 ≤ u1.heap.size := by have := HS2.out; have := f1.size; omega
  clear HF HB HZ HS2 f1 HD
  go_upto_region 2 with fail
  have F3 := Fr.alloc u1 (.cells #[.int .i64 7, .int .i64 d, .int .i64 a, .int .i64 b, .int .i64 f, .int .i64 n] 43)
  have HI : Hid (Box (u1.alloc (.cells #[.int .i64 7, .int .i64 d, .int .i64 a, .int .i64 b, .int .i64 f, .int .i64 n] 43)) u1.heap.size 7 d a b f n) := Lib.hid ⟨(alloc_at u1 _ _ _ rfl 0).1, (alloc_at u1 _ _ _ rfl 1).1, (alloc_at u1 _ _ _ rfl 2).1, (alloc_at u1 _ _ _ rfl 3).1, (alloc_at u1 _ _ _ rfl 4).1, (alloc_at u1 _ _ _ rfl 5).1⟩
  have HF3 := Lib.hid (HF1.out.trans F3)
  have HB3 := Lib.hid (HB1.out.fr F3)
  have HZ3 := Lib.hid (HZ1.out.fr F3)
  have hs3 : w.heap.size + 2 ≤ (u1.alloc (.cells #[.int .i64 7, .int .i64 d, .int .i64 a, .int .i64 b, .int .i64 f, .int .i64 n] 43)).heap.size := by have := F3.size; omega
  clear HF1 HB1 HZ1 F3
  generalize hI : u1.heap.size = bI at *
  generalize (u1.alloc (.cells #[.int .i64 7, .int .i64 d, .int .i64 a, .int .i64 b, .int .i64 f, .int .i64 n] 43)) = u3 at *
  obtain ⟨_, c0, c1, cf0, cf1⟩ := HB3.out
  obtain ⟨_, z0, z1, zf0, zf1⟩ := HZ3.out
  obtain ⟨i0, i1, i2, i3, i4, i5⟩ := HI.out
  go_wp2_with fail
  all_goals first | (exfalso; omega) | skip
  refine bodyPost_ret (v := .agg #[.slice (some ⟨gS, 0, none⟩) 8 cS, .slice aC C.length cC]) (by simp [results, Tryd.results47, go_sem, World.cell?_setCell_other, World.cell?_setCell_same, c0, c1, z0, z1]) rfl ?_
  have hst : ∀ p q, But [w.heap.size + 1] u3 ((u3.setCell ⟨w.heap.size + 1, 0, none⟩ p).setCell ⟨w.heap.size + 1, 1, none⟩ q) := fun p q => (But.refl _ _).set2 (w.heap.size + 1) p q (.inl (by simp))
  exact ⟨aC, cC, rfl, (HR.out.fr HF3.out).but (hst _ _) (by simp <;> omega), (HC.out.src.fr (show Fr w _ from fr_but HF3.out (hst _ _) (fun k hk => by have := List.mem_singleton.1 hk; omega))), Below.mono (show Fr w _ from fr_but HF3.out (hst _ _) (fun k hk => by have := List.mem_singleton.1 hk; omega)) hBw⟩
set_option maxRecDepth 8000 in
set_option maxHeartbeats 4000000 in
theorem l5Seen_8d (B gS cS : Nat) (S : List Sl) (C : List Int) (aC : Option Addr) (cC : Nat) (pc m k d a b f n : Int) (g : Bool) (w : World) (hr : Ro4 w gS S) (hc : Rc B w C aC cC) (hB : B ≤ gS) (hBw : B ≤ w.heap.size) (hap : ∀ x, aC = some ⟨x, 0, none⟩ → 0 < C.length → gS ≠ x) (hl : C.length ≤ 4) (p0 : 0 ≤ pc) (p1 : pc < 65536)
    (hrd : ∀ w, Calls Tryd.prog 72 #[.int .i64 m] w fun e w' => e = .returned (.tuple #[.agg #[.int .i64 k, .int .i64 d, .int .i64 a, .int .i64 b, .int .i64 f, .int .i64 n], .bool g]) ∧ Fr w w') (hg : g = true) (hk : k = 8) (hd : (d == 0) = false) :
    Calls Tryd.prog 47 #[.agg #[.slice (some ⟨gS, 0, none⟩) 8 cS, .slice aC C.length cC], .int .i64 pc, .int .i64 m] w (SnP B gS cS S (C) w) := by
  have hgl := hr.lt
  have F2 : Fr w ((w.alloc (.cells #[.slice (some ⟨gS, 0, none⟩) 8 cS, .slice aC C.length cC] 30)).alloc (.cells #[.slice none 0 0, .slice none 0 0] 30)) := by
    (repeat' first | (with_reducible exact Below.refl _ _) | (with_reducible assumption) | ((with_reducible refine Below.setCell ?_ ?hb _); (case hb => first | exact Nat.le_refl _ | (simp; done) | (simp; omega) | omega)) | ((with_reducible refine Below.alloc ?_ ?hb _); (case hb => first | exact Nat.le_refl _ | (simp; done) | (simp; omega) | omega)) | (with_reducible refine Below.drew ?_))
  have HF := Lib.hid F2
  have HB := Lib.hid ((Box2.new w (.slice (some ⟨gS, 0, none⟩) 8 cS) (.slice aC C.length cC) 30 _ rfl).fr (Fr.alloc _ (.cells #[.slice none 0 0, .slice none 0 0] 30)))
  have HZ := Lib.hid (Box2.new (w.alloc (.cells #[.slice (some ⟨gS, 0, none⟩) 8 cS, .slice aC C.length cC] 30)) (.slice none 0 0) (.slice none 0 0) 30 (w.heap.size + 1) (by simp))
  have HS2 := Lib.hid (show ((w.alloc (.cells #[.slice (some ⟨gS, 0, none⟩) 8 cS, .slice aC C.length cC] 30)).alloc (.cells #[.slice none 0 0, .slice none 0 0] 30)).heap.size = w.heap.size + 2 by simp)
  have HR := Lib.hid hr
  have HC := Lib.hid hc
  have HD := Lib.hid hrd
  clear F2 hr hc hrd
  subst hg hk
  have hdn : ¬ d = 0 := by simpa using hd
  go_enter Tryd.func47, Tryd.ntmps47
  go_wp2_with fail
  generalize ((w.alloc (.cells #[.slice (some ⟨gS, 0, none⟩) 8 cS, .slice aC C.length cC] 30)).alloc (.cells #[.slice none 0 0, .slice none 0 0] 30)) = u0 at *
  refine (HD.out _).mono ?_
  rintro e u1 ⟨rfl, f1⟩
  have HF1 := Lib.hid (HF.out.trans f1)
  have HB1 := Lib.hid (HB.out.fr f1)
  have HZ1 := Lib.hid (HZ.out.fr f1)
  have hs1 : w.heap.size + 2 ≤ u1.heap.size := by have := HS2.out; have := f1.size; omega
  clear HF HB HZ HS2 f1 HD
  go_upto_region 2 with fail
  have F3 := Fr.alloc u1 (.cells #[.int .i64 8, .int .i64 d, .int .i64 a, .int .i64 b, .int .i64 f, .int .i64 n] 43)
  have HI : Hid (Box (u1.alloc (.cells #[.int .i64 8, .int .i64 d, .int .i64 a, .int .i64 b, .int .i64 f, .int .i64 n] 43)) u1.heap.size 8 d a b f n) := Lib.hid ⟨(alloc_at u1 _ _ _ rfl 0).1, (alloc_at u1 _ _ _ rfl 1).1, (alloc_at u1 _ _ _ rfl 2).1, (alloc_at u1 _ _ _ rfl 3).1, (alloc_at u1 _ _ _ rfl 4).1, (alloc_at u1 _ _ _ rfl 5).1⟩
  have HF3 := Lib.hid (HF1.out.trans F3)
  have HB3 := Lib.hid (HB1.out.fr F3)
  have HZ3 := Lib.hid (HZ1.out.fr F3)
  have hs3 : w.heap.size + 2 ≤ (u1.alloc (.cells #[.int .i64 8, .int .i64 d, .int .i64 a, .int .i64 b, .int .i64 f, .int .i64 n] 43)).heap.size := by have := F3.size; omega
  clear HF1 HB1 HZ1 F3
  generalize hI : u1.heap.size = bI at *
  generalize (u1.alloc (.cells #[.int .i64 8, .int .i64 d, .int .i64 a, .int .i64 b, .int .i64 f, .int .i64 n] 43)) = u3 at *
  obtain ⟨_, c0, c1, cf0, cf1⟩ := HB3.out
  obtain ⟨_, z0, z1, zf0, zf1⟩ := HZ3.out
  obtain ⟨i0, i1, i2, i3, i4, i5⟩ := HI.out
  go_wp2_with fail
  all_goals first | (exfalso; omega) | skip
  refine bodyPost_ret (v := .agg #[.slice (some ⟨gS, 0, none⟩) 8 cS, .slice aC C.length cC]) (by simp [results, Tryd.results47, go_sem, World.cell?_setCell_other, World.cell?_setCell_same, c0, c1, z0, z1]) rfl ?_
  have hst : ∀ p q, But [w.heap.size + 1] u3 ((u3.setCell ⟨w.heap.size + 1, 0, none⟩ p).setCell ⟨w.heap.size + 1, 1, none⟩ q) := fun p q => (But.refl _ _).set2 (w.heap.size + 1) p q (.inl (by simp))
  exact ⟨aC, cC, rfl, (HR.out.fr HF3.out).but (hst _ _) (by simp <;> omega), (HC.out.src.fr (show Fr w _ from fr_but HF3.out (hst _ _) (fun k hk => by have := List.mem_singleton.1 hk; omega))), Below.mono (show Fr w _ from fr_but HF3.out (hst _ _) (fun k hk => by have := List.mem_singleton.1 hk; omega)) hBw⟩
set_option maxRecDepth 8000 in
set_option maxHeartbeats 4000000 in
theorem l5Seen_8z (B gS cS : Nat) (S : List Sl) (C : List Int) (aC : Option Addr) (cC : Nat) (pc m k d a b f n : Int) (g : Bool) (w : World) (hr : Ro4 w gS S) (hc : Rc B w C aC cC) (hB : B ≤ gS) (hBw : B ≤ w.heap.size) (hap : ∀ x, aC = some ⟨x, 0, none⟩ → 0 < C.length → gS ≠ x) (hl : C.length ≤ 4) (p0 : 0 ≤ pc) (p1 : pc < 65536)
    (hrd : ∀ w, Calls Tryd.prog 72 #[.int .i64 m] w fun e w' => e = .returned (.tuple #[.agg #[.int .i64 k, .int .i64 d, .int .i64 a, .int .i64 b, .int .i64 f, .int .i64 n], .bool g]) ∧ Fr w w') (hg : g = true) (hk : k = 8) (hd : d = 0) (h0 : C.length = 0) :
    Calls Tryd.prog 47 #[.agg #[.slice (some ⟨gS, 0, none⟩) 8 cS, .slice aC C.length cC], .int .i64 pc, .int .i64 m] w (SnP B gS cS S (C) w) := by
  have hgl := hr.lt
  have F2 : Fr w ((w.alloc (.cells #[.slice (some ⟨gS, 0, none⟩) 8 cS, .slice aC C.length cC] 30)).alloc (.cells #[.slice none 0 0, .slice none 0 0] 30)) := by
    (repeat' first | (with_reducible exact Below.refl _ _) | (with_reducible assumption) | ((with_reducible refine Below.setCell ?_ ?hb _); (case hb => first | exact Nat.le_refl _ | (simp; done) | (simp; omega) | omega)) | ((with_reducible refine Below.alloc ?_ ?hb _); (case hb => first | exact Nat.le_refl _ | (simp; done) | (simp; omega) | omega)) | (with_reducible refine Below.drew ?_))
  have HF := Lib.hid F2
  have HB := Lib.hid ((Box2.new w (.slice (some ⟨gS, 0, none⟩) 8 cS) (.slice aC C.length cC) 30 _ rfl).fr (Fr.alloc _ (.cells #[.slice none 0 0, .slice none 0 0] 30)))
  have HZ := Lib.hid (Box2.new (w.alloc (.cells #[.slice (some ⟨gS, 0, none⟩) 8 cS, .slice aC C.length cC] 30)) (.slice none 0 0) (.slice none 0 0) 30 (w.heap.size + 1) (by simp))
  have HS2 := Lib.hid (show ((w.alloc (.cells #[.slice (some ⟨gS, 0, none⟩) 8 cS, .slice aC C.length cC] 30)).alloc (.cells #[.slice none 0 0, .slice none 0 0] 30)).heap.size = w.heap.size + 2 by simp)
  have HR := Lib.hid hr
  have HC := Lib.hid hc
  have HD := Lib.hid hrd
  clear F2 hr hc hrd
  subst hg hk hd
  have h00 : ¬ (0 : Int) < (C.length : Int) := by omega
  clear h0
  go_enter Tryd.func47, Tryd.ntmps47
  go_wp2_with fail
  generalize ((w.alloc (.cells #[.slice (some ⟨gS, 0, none⟩) 8 cS, .slice aC C.length cC] 30)).alloc (.cells #[.slice none 0 0, .slice none 0 0] 30)) = u0 at *
  refine (HD.out _).mono ?_
  rintro e u1 ⟨rfl, f1⟩
  have HF1 := Lib.hid (HF.out.trans f1)
  have HB1 := Lib.hid (HB.out.fr f1)
  have HZ1 := Lib.hid (HZ.out.fr f1)
  have hs1 : w.heap.size + 2 ≤ u1.heap.size := by have := HS2.out; have := f1.size; omega
  clear HF HB HZ HS2 f1 HD
  go_upto_region 2 with fail
  have F3 := Fr.alloc u1 (.cells #[.int .i64 8, .int .i64 0, .int .i64 a, .int .i64 b, .int .i64 f, .int .i64 n] 43)
  have HI : Hid (Box (u1.alloc (.cells #[.int .i64 8, .int .i64 0, .int .i64 a, .int .i64 b, .int .i64 f, .int .i64 n] 43)) u1.heap.size 8 0 a b f n) := Lib.hid ⟨(alloc_at u1 _ _ _ rfl 0).1, (alloc_at u1 _ _ _ rfl 1).1, (alloc_at u1 _ _ _ rfl 2).1, (alloc_at u1 _ _ _ rfl 3).1, (alloc_at u1 _ _ _ rfl 4).1, (alloc_at u1 _ _ _ rfl 5).1⟩
  have HF3 := Lib.hid (HF1.out.trans F3)
  have HB3 := Lib.hid (HB1.out.fr F3)
  have HZ3 := Lib.hid (HZ1.out.fr F3)
  have hs3 : w.heap.size + 2 ≤ (u1.alloc (.cells #[.int .i64 8, .int .i64 0, .int .i64 a, .int .i64 b, .int .i64 f, .int .i64 n] 43)).heap.size := by have := F3.size; omega
  clear HF1 HB1 HZ1 F3
  generalize hI : u1.heap.size = bI at *
  generalize (u1.alloc (.cells #[.int .i64 8, .int .i64 0, .int .i64 a, .int .i64 b, .int .i64 f, .int .i64 n] 43)) = u3 at *
  obtain ⟨_, c0, c1, cf0, cf1⟩ := HB3.out
  obtain ⟨_, z0, z1, zf0, zf1⟩ := HZ3.out
  obtain ⟨i0, i1, i2, i3, i4, i5⟩ := HI.out
  go_wp2_with fail
  all_goals first | (exfalso; omega) | skip
  refine bodyPost_ret (v := .agg #[.slice (some ⟨gS, 0, none⟩) 8 cS, .slice aC C.length cC]) (by simp [results, Tryd.results47, go_sem, World.cell?_setCell_other, World.cell?_setCell_same, c0, c1, z0, z1]) rfl ?_
  have hst : ∀ p q, But [w.heap.size + 1] u3 ((u3.setCell ⟨w.heap.size + 1, 0, none⟩ p).setCell ⟨w.heap.size + 1, 1, none⟩ q) := fun p q => (But.refl _ _).set2 (w.heap.size + 1) p q (.inl (by simp))
  exact ⟨aC, cC, rfl, (HR.out.fr HF3.out).but (hst _ _) (by simp <;> omega), (HC.out.src.fr (show Fr w _ from fr_but HF3.out (hst _ _) (fun k hk => by have := List.mem_singleton.1 hk; omega))), Below.mono (show Fr w _ from fr_but HF3.out (hst _ _) (fun k hk => by have := List.mem_singleton.1 hk; omega)) hBw⟩
set_option maxRecDepth 8000 in
set_option maxHeartbeats 4000000 in
theorem l5Seen_8b (B gS cS : Nat) (S : List Sl) (C : List Int) (aC : Option Addr) (cC : Nat) (pc m k d a b f n : Int) (g : Bool) (w : World) (hr : Ro4 w gS S) (hc : Rc B w C aC cC) (hB : B ≤ gS) (hBw : B ≤ w.heap.size) (hap : ∀ x, aC = some ⟨x, 0, none⟩ → 0 < C.length → gS ≠ x) (hl : C.length ≤ 4) (p0 : 0 ≤ pc) (p1 : pc < 65536)
    (hrd : ∀ w, Calls Tryd.prog 72 #[.int .i64 m] w fun e w' => e = .returned (.tuple #[.agg #[.int .i64 k, .int .i64 d, .int .i64 a, .int .i64 b, .int .i64 f, .int .i64 n], .bool g]) ∧ Fr w w') (hg : g = true) (hk : k = 8) (hd : d = 0) (h1 : 1 < C.length) (Cn : List Int) (hCn : C.take (C.length - 1) = Cn) :
    Calls Tryd.prog 47 #[.agg #[.slice (some ⟨gS, 0, none⟩) 8 cS, .slice aC C.length cC], .int .i64 pc, .int .i64 m] w (SnP B gS cS S (Cn) w) := by
  have hgl := hr.lt
  have F2 : Fr w ((w.alloc (.cells #[.slice (some ⟨gS, 0, none⟩) 8 cS, .slice aC C.length cC] 30)).alloc (.cells #[.slice none 0 0, .slice none 0 0] 30)) := by
    (repeat' first | (with_reducible exact Below.refl _ _) | (with_reducible assumption) | ((with_reducible refine Below.setCell ?_ ?hb _); (case hb => first | exact Nat.le_refl _ | (simp; done) | (simp; omega) | omega)) | ((with_reducible refine Below.alloc ?_ ?hb _); (case hb => first | exact Nat.le_refl _ | (simp; done) | (simp; omega) | omega)) | (with_reducible refine Below.drew ?_))
  have HF := Lib.hid F2
  have HB := Lib.hid ((Box2.new w (.slice (some ⟨gS, 0, none⟩) 8 cS) (.slice aC C.length cC) 30 _ rfl).fr (Fr.alloc _ (.cells #[.slice none 0 0, .slice none 0 0] 30)))
  have HZ := Lib.hid (Box2.new (w.alloc (.cells #[.slice (some ⟨gS, 0, none⟩) 8 cS, .slice aC C.length cC] 30)) (.slice none 0 0) (.slice none 0 0) 30 (w.heap.size + 1) (by simp))
  have HS2 := Lib.hid (show ((w.alloc (.cells #[.slice (some ⟨gS, 0, none⟩) 8 cS, .slice aC C.length cC] 30)).alloc (.cells #[.slice none 0 0, .slice none 0 0] 30)).heap.size = w.heap.size + 2 by simp)
  have HR := Lib.hid hr
  have HC := Lib.hid hc
  have HD := Lib.hid hrd
  clear F2 hr hc hrd
  subst hg hk hd
  have HCn := Lib.hid hCn
  clear hCn
  go_enter Tryd.func47, Tryd.ntmps47
  go_wp2_with fail
  generalize ((w.alloc (.cells #[.slice (some ⟨gS, 0, none⟩) 8 cS, .slice aC C.length cC] 30)).alloc (.cells #[.slice none 0 0, .slice none 0 0] 30)) = u0 at *
  refine (HD.out _).mono ?_
  rintro e u1 ⟨rfl, f1⟩
  have HF1 := Lib.hid (HF.out.trans f1)
  have HB1 := Lib.hid (HB.out.fr f1)
  have HZ1 := Lib.hid (HZ.out.fr f1)
  have hs1 : w.heap.size + 2 ≤ u1.heap.size := by have := HS2.out; have := f1.size; omega
  clear HF HB HZ HS2 f1 HD
  go_upto_region 2 with fail
  have F3 := Fr.alloc u1 (.cells #[.int .i64 8, .int .i64 0, .int .i64 a, .int .i64 b, .int .i64 f, .int .i64 n] 43)
  have HI : Hid (Box (u1.alloc (.cells #[.int .i64 8, .int .i64 0, .int .i64 a, .int .i64 b, .int .i64 f, .int .i64 n] 43)) u1.heap.size 8 0 a b f n) := Lib.hid ⟨(alloc_at u1 _ _ _ rfl 0).1, (alloc_at u1 _ _ _ rfl 1).1, (alloc_at u1 _ _ _ rfl 2).1, (alloc_at u1 _ _ _ rfl 3).1, (alloc_at u1 _ _ _ rfl 4).1, (alloc_at u1 _ _ _ rfl 5).1⟩
  have HF3 := Lib.hid (HF1.out.trans F3)
  have HB3 := Lib.hid (HB1.out.fr F3)
  have HZ3 := Lib.hid (HZ1.out.fr F3)
  have hs3 : w.heap.size + 2 ≤ (u1.alloc (.cells #[.int .i64 8, .int .i64 0, .int .i64 a, .int .i64 b, .int .i64 f, .int .i64 n] 43)).heap.size := by have := F3.size; omega
  clear HF1 HB1 HZ1 F3
  generalize hI : u1.heap.size = bI at *
  generalize (u1.alloc (.cells #[.int .i64 8, .int .i64 0, .int .i64 a, .int .i64 b, .int .i64 f, .int .i64 n] 43)) = u3 at *
  obtain ⟨_, c0, c1, cf0, cf1⟩ := HB3.out
  obtain ⟨_, z0, z1, zf0, zf1⟩ := HZ3.out
  obtain ⟨i0, i1, i2, i3, i4, i5⟩ := HI.out
  obtain ⟨q, hq⟩ : ∃ q : Nat, C.length = q + 1 := ⟨C.length - 1, by omega⟩
  have hq' : (C.length : Int) - 1 = (q : Int) := by omega
  have h00 : (0 : Int) < (C.length : Int) := by omega
  have hqc : (q : Int) ≤ (cC : Int) := by
    rcases HC.out with hh | ⟨_, _, _, _, kk, _⟩
    · omega
    · obtain ⟨_, _, _, k1, _⟩ := kk; omega
  obtain ⟨gC, hgC⟩ : ∃ gC, aC = some ⟨gC, 0, none⟩ := by
    rcases HC.out with hh | ⟨gC, e, _⟩
    · omega
    · exact ⟨gC, e⟩
  subst hgC
  have HSr := Lib.hid (HC.out.src.fr HF3.out)
  have HQ := Lib.hid hq
  obtain ⟨i00, hii, hz0, hz1, hz2⟩ := info_parts info_intV
  have hqn : Cn.length = q := by rw [← HCn.out]; simp; omega
  have HQN := Lib.hid hqn
  clear hq hqn
  have hsrc : ∀ u, Fr u3 u → ∀ j v, (Cn.map (Value.int .i64))[j]? = some v → u.cell? ((⟨gC, 0, none⟩ : Addr).add j) = some v := fun u fu => cells_of Cn (o := 0) (fun i hi => by
    have hq := HQ.out
    obtain ⟨g', o', e', hl', hc'⟩ := HSr.out (by omega)
    cases e'
    rw [fu.cell hl']
    have hin : i < q := by have := HQN.out; omega
    have := hc' i (by omega)
    rw [this]
    have hin' : i < C.length - 1 := by omega
    simp only [ivl, ← HCn.out, List.getD_eq_getElem?_getD, List.getElem?_take_of_lt hin'])
  have HSrc := Lib.hid hsrc
  clear hsrc
  go_wp2_with (at_builtin; refine wpList_plain rfl fun K hK => wp_append_new _ _ 23 rfl 3 i00 (.int .i64 0) Tryd.underlying23 hii hz0 hz1 hz2 _ rfl ⟨gC, 0, none⟩ q _ (Cn.map (Value.int .i64)) rfl (by simp [HQN.out]) (HSrc.out _ (by (repeat' first | (with_reducible exact Below.refl _ _) | (with_reducible assumption) | ((with_reducible refine Below.setCell ?_ ?hb _); (case hb => first | exact Nat.le_refl _ | (simp; done) | (simp; omega) | omega)) | ((with_reducible refine Below.alloc ?_ ?hb _); (case hb => first | exact Nat.le_refl _ | (simp; done) | (simp; omega) | omega)) | (with_reducible refine Below.drew ?_)))) (ints_one Cn) (by omega) (by omega) ?_; intro c zs hzs; refine hK _ _ ?_)
  all_goals first | (exfalso; omega) | skip
  obtain ⟨_, y0, y1, _, _⟩ : Box2 (((((u3.setCell ⟨w.heap.size, 1, none⟩ (.slice (some ⟨u3.heap.size + 1, 0, none⟩) q c)).setCell ⟨w.heap.size + 1, 0, none⟩ (.slice (some ⟨gS, 0, none⟩) 8 cS)).setCell ⟨w.heap.size + 1, 1, none⟩ (.slice (some ⟨u3.heap.size + 1, 0, none⟩) q c)).alloc (.cells #[] 3)).alloc (.cells ((Cn.map (Value.int .i64)).toArray ++ zs) 3)) (w.heap.size + 1) (.slice (some ⟨gS, 0, none⟩) 8 cS) (.slice (some ⟨u3.heap.size + 1, 0, none⟩) q c) := ((box_fin HZ3.out _ _ _).fr (Fr.alloc _ _)).fr (Fr.alloc _ _)
  refine bodyPost_ret (v := .agg #[.slice (some ⟨gS, 0, none⟩) 8 cS, .slice (some ⟨u3.heap.size + 1, 0, none⟩) q c]) (by simp [results, Tryd.results47, go_sem, y0, y1]) rfl ?_
  have hst : ∀ p1 p2 p3 o1 o2, But [w.heap.size, w.heap.size + 1] u3 (((((u3.setCell ⟨w.heap.size, 1, none⟩ p1).setCell ⟨w.heap.size + 1, 0, none⟩ p2).setCell ⟨w.heap.size + 1, 1, none⟩ p3).alloc o1).alloc o2).drew := fun p1 p2 p3 o1 o2 => (((((But.refl _ _).set _ _ _ (.inl (by simp))).set _ _ _ (.inl (by simp))).set _ _ _ (.inl (by simp))).alloc _).alloc _ |>.drew
  refine ⟨_, c, by rw [HQN.out], (HR.out.fr HF3.out).but (hst _ _ _ _ _) (by simp <;> omega), ?_, Below.mono (show Fr w _ from fr_but HF3.out (hst _ _ _ _ _) (fun k hk => by simp at hk; omega)) hBw⟩
  refine Ro.src (Ro.drew ?_)
  have := ro_new ((((u3.setCell ⟨w.heap.size, 1, none⟩ (.slice (some ⟨u3.heap.size + 1, 0, none⟩) q c)).setCell ⟨w.heap.size + 1, 0, none⟩ (.slice (some ⟨gS, 0, none⟩) 8 cS)).setCell ⟨w.heap.size + 1, 1, none⟩ (.slice (some ⟨u3.heap.size + 1, 0, none⟩) q c)).alloc (.cells #[] 3)) Cn zs 3
  simpa [World.setCell] using this
set_option maxRecDepth 8000 in
set_option maxHeartbeats 4000000 in
theorem l5Seen_8c (B gS cS : Nat) (S : List Sl) (C : List Int) (aC : Option Addr) (cC : Nat) (pc m k d a b f n : Int) (g : Bool) (w : World) (hr : Ro4 w gS S) (hc : Rc B w C aC cC) (hB : B ≤ gS) (hBw : B ≤ w.heap.size) (hap : ∀ x, aC = some ⟨x, 0, none⟩ → 0 < C.length → gS ≠ x) (hl : C.length ≤ 4) (p0 : 0 ≤ pc) (p1 : pc < 65536)
    (hrd : ∀ w, Calls Tryd.prog 72 #[.int .i64 m] w fun e w' => e = .returned (.tuple #[.agg #[.int .i64 k, .int .i64 d, .int .i64 a, .int .i64 b, .int .i64 f, .int .i64 n], .bool g]) ∧ Fr w w') (hg : g = true) (hk : k = 8) (hd : d = 0) (h1 : C.length = 1) (Cn : List Int) (hCn : C.take (C.length - 1) = Cn) :
    Calls Tryd.prog 47 #[.agg #[.slice (some ⟨gS, 0, none⟩) 8 cS, .slice aC C.length cC], .int .i64 pc, .int .i64 m] w (SnP B gS cS S (Cn) w) := by
  have hgl := hr.lt
  have F2 : Fr w ((w.alloc (.cells #[.slice (some ⟨gS, 0, none⟩) 8 cS, .slice aC C.length cC] 30)).alloc (.cells #[.slice none 0 0, .slice none 0 0] 30)) := by
    (repeat' first | (with_reducible exact Below.refl _ _) | (with_reducible assumption) | ((with_reducible refine Below.setCell ?_ ?hb _); (case hb => first | exact Nat.le_refl _ | (simp; done) | (simp; omega) | omega)) | ((with_reducible refine Below.alloc ?_ ?hb _); (case hb => first | exact Nat.le_refl _ | (simp; done) | (simp; omega) | omega)) | (with_reducible refine Below.drew ?_))
  have HF := Lib.hid F2
  have HB := Lib.hid ((Box2.new w (.slice (some ⟨gS, 0, none⟩) 8 cS) (.slice aC C.length cC) 30 _ rfl).fr (Fr.alloc _ (.cells #[.slice none 0 0, .slice none 0 0] 30)))
  have HZ := Lib.hid (Box2.new (w.alloc (.cells #[.slice (some ⟨gS, 0, none⟩) 8 cS, .slice aC C.length cC] 30)) (.slice none 0 0) (.slice none 0 0) 30 (w.heap.size + 1) (by simp))
  have HS2 := Lib.hid (show ((w.alloc (.cells #[.slice (some ⟨gS, 0, none⟩) 8 cS, .slice aC C.length cC] 30)).alloc (.cells #[.slice none 0 0, .slice none 0 0] 30)).heap.size = w.heap.size + 2 by simp)
  have HR := Lib.hid hr
  have HC := Lib.hid hc
  have HD := Lib.hid hrd
  clear F2 hr hc hrd
  subst hg hk hd
  have HCn := Lib.hid hCn
  have h1a : 0 < C.length := by omega
  have h1b : C.length ≤ 1 := by omega
  clear hCn h1
  go_enter Tryd.func47, Tryd.ntmps47
  go_wp2_with fail
  generalize ((w.alloc (.cells #[.slice (some ⟨gS, 0, none⟩) 8 cS, .slice aC C.length cC] 30)).alloc (.cells #[.slice none 0 0, .slice none 0 0] 30)) = u0 at *
  refine (HD.out _).mono ?_
  rintro e u1 ⟨rfl, f1⟩
  have HF1 := Lib.hid (HF.out.trans f1)
  have HB1 := Lib.hid (HB.out.fr f1)
  have HZ1 := Lib.hid (HZ.out.fr f1)
  have hs1 : w.heap.size + 2 ≤ u1.heap.size := by have := HS2.out; have := f1.size; omega
  clear HF HB HZ HS2 f1 HD
  go_upto_region 2 with fail
  have F3 := Fr.alloc u1 (.cells #[.int .i64 8, .int .i64 0, .int .i64 a, .int .i64 b, .int .i64 f, .int .i64 n] 43)
  have HI : Hid (Box (u1.alloc (.cells #[.int .i64 8, .int .i64 0, .int .i64 a, .int .i64 b, .int .i64 f, .int .i64 n] 43)) u1.heap.size 8 0 a b f n) := Lib.hid ⟨(alloc_at u1 _ _ _ rfl 0).1, (alloc_at u1 _ _ _ rfl 1).1, (alloc_at u1 _ _ _ rfl 2).1, (alloc_at u1 _ _ _ rfl 3).1, (alloc_at u1 _ _ _ rfl 4).1, (alloc_at u1 _ _ _ rfl 5).1⟩
  have HF3 := Lib.hid (HF1.out.trans F3)
  have HB3 := Lib.hid (HB1.out.fr F3)
  have HZ3 := Lib.hid (HZ1.out.fr F3)
  have hs3 : w.heap.size + 2 ≤ (u1.alloc (.cells #[.int .i64 8, .int .i64 0, .int .i64 a, .int .i64 b, .int .i64 f, .int .i64 n] 43)).heap.size := by have := F3.size; omega
  clear HF1 HB1 HZ1 F3
  generalize hI : u1.heap.size = bI at *
  generalize (u1.alloc (.cells #[.int .i64 8, .int .i64 0, .int .i64 a, .int .i64 b, .int .i64 f, .int .i64 n] 43)) = u3 at *
  obtain ⟨_, c0, c1, cf0, cf1⟩ := HB3.out
  obtain ⟨_, z0, z1, zf0, zf1⟩ := HZ3.out
  obtain ⟨i0, i1, i2, i3, i4, i5⟩ := HI.out
  obtain ⟨q, hq⟩ : ∃ q : Nat, C.length = q + 1 := ⟨C.length - 1, by omega⟩
  have hq' : (C.length : Int) - 1 = (q : Int) := by omega
  have h00 : (0 : Int) < (C.length : Int) := by omega
  have hqc : (q : Int) ≤ (cC : Int) := by
    rcases HC.out with hh | ⟨_, _, _, _, kk, _⟩
    · omega
    · obtain ⟨_, _, _, k1, _⟩ := kk; omega
  obtain ⟨gC, hgC⟩ : ∃ gC, aC = some ⟨gC, 0, none⟩ := by
    rcases HC.out with hh | ⟨gC, e, _⟩
    · omega
    · exact ⟨gC, e⟩
  subst hgC
  have HSr := Lib.hid (HC.out.src.fr HF3.out)
  have HQ := Lib.hid hq
  obtain ⟨i00, hii, hz0, hz1, hz2⟩ := info_parts info_intV
  have hqn : Cn.length = q := by rw [← HCn.out]; simp; omega
  have HQN := Lib.hid hqn
  clear hq hqn
  have hq00 : q = 0 := by omega
  subst hq00
  go_wp2_with (at_builtin; refine wpList_plain rfl fun K hK => wp_append_zero _ _ 23 rfl 3 i00 Tryd.underlying23 hii _ _ _ (Nat.le_refl _) rfl _ _ rfl ?_; refine hK _ _ ?_)
  all_goals first | (exfalso; omega) | skip
  obtain ⟨_, y0, y1, _, _⟩ : Box2 ((((u3.setCell ⟨w.heap.size, 1, none⟩ (.slice (some ⟨u3.heap.size, 0, none⟩) 0 0)).setCell ⟨w.heap.size + 1, 0, none⟩ (.slice (some ⟨gS, 0, none⟩) 8 cS)).setCell ⟨w.heap.size + 1, 1, none⟩ (.slice (some ⟨u3.heap.size, 0, none⟩) 0 0)).alloc (.cells #[] 3)) (w.heap.size + 1) (.slice (some ⟨gS, 0, none⟩) 8 cS) (.slice (some ⟨u3.heap.size, 0, none⟩) 0 0) := (box_fin HZ3.out _ _ _).fr (Fr.alloc _ _)
  refine bodyPost_ret (v := .agg #[.slice (some ⟨gS, 0, none⟩) 8 cS, .slice (some ⟨u3.heap.size, 0, none⟩) 0 0]) (by simp [results, Tryd.results47, go_sem, y0, y1]) rfl ?_
  have hst : ∀ p1 p2 p3 o1, But [w.heap.size, w.heap.size + 1] u3 ((((u3.setCell ⟨w.heap.size, 1, none⟩ p1).setCell ⟨w.heap.size + 1, 0, none⟩ p2).setCell ⟨w.heap.size + 1, 1, none⟩ p3).alloc o1) := fun p1 p2 p3 o1 => ((((But.refl _ _).set _ _ _ (.inl (by simp))).set _ _ _ (.inl (by simp))).set _ _ _ (.inl (by simp))).alloc _
  exact ⟨_, 0, by rw [HQN.out], (HR.out.fr HF3.out).but (hst _ _ _ _) (by simp <;> omega), fun h => absurd h (by rw [HQN.out]; decide), Below.mono (show Fr w _ from fr_but HF3.out (hst _ _ _ _) (fun k hk => by simp at hk; omega)) hBw⟩

end Go.Proofs.YtpdlcjjmhcfkjaaDoor
