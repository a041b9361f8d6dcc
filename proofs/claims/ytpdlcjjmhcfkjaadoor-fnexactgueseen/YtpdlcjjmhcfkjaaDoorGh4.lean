/- Guessers whose calls begin at an offset: compared, marked, held. -/
import Derived.Test.YtpdlcjjmhcfkjaaDoorVo
namespace Go.Proofs.YtpdlcjjmhcfkjaaDoor
open Go.RowKit
set_option linter.unusedVariables false
set_option linter.unusedSimpArgs false
structure VcO (B : Nat) (u : World) (x : Gu) (aS aC : Option Addr) : Prop where
  S : Vc4 B u x.S aS
  C : Vo B u x.C.length (ivl x.C) aC
  ap : 0 < x.S.length → 0 < x.C.length → ∀ b c, aS = some b → aC = some c → b.block ≠ c.block
theorem VcG.o {B : Nat} {u : World} {x : Gu} {aS aC : Option Addr} (h : VcG B u x aS aC) : VcO B u x aS aC := ⟨h.S, h.C.vo, h.ap⟩
theorem VcO.fr {B : Nat} {u u' : World} {x : Gu} {aS aC : Option Addr} (h : VcO B u x aS aC) (f : Fr u u') : VcO B u' x aS aC := ⟨h.S.fr f, h.C.fr f, h.ap⟩
theorem VcO.mono {B B' : Nat} {u : World} {x : Gu} {aS aC : Option Addr} (h : VcO B u x aS aC) (hB : B' ≤ B) : VcO B' u x aS aC := ⟨h.S.mono hB, h.C.mono hB, h.ap⟩
theorem VcO.blk {B : Nat} {u : World} {x : Gu} {aS aC : Option Addr} (h : VcO B u x aS aC) : ∀ k, k ∈ blk5 x aS aC → B ≤ k ∧ k < u.heap.size := fun k hk => by
  rcases List.mem_append.1 hk with hk | hk
  · obtain ⟨h0, b, rfl, rfl⟩ := mem_bkS hk
    obtain ⟨g, e, hB, hl, _⟩ := h.S.at0 h0
    cases e
    exact ⟨hB, hl⟩
  · obtain ⟨h0, b, rfl, rfl⟩ := mem_bkS hk
    obtain ⟨g, o, e, hB, hl, _⟩ := h.C.at0 h0
    cases e
    exact ⟨hB, hl⟩
theorem VcO.but {B : Nat} {L : List Nat} {u u' : World} {x : Gu} {aS aC : Option Addr} (h : VcO B u x aS aC) (f : But L u u') (hn : ∀ k, k ∈ blk5 x aS aC → k ∉ L) : VcO B u' x aS aC :=
  ⟨h.S.but' f (fun k hk => hn k (List.mem_append_left _ hk)), h.C.but' f (fun k hk => hn k (List.mem_append_right _ hk)), h.ap⟩
theorem VcO.apart {B : Nat} {u : World} {x : Gu} {aS aC : Option Addr} (h : VcO B u x aS aC) : ∀ k, k ∈ bkS x.S.length aS → k ∉ bkS x.C.length aC := fun k h1 h2 => by
  obtain ⟨p1, b, e1, rfl⟩ := mem_bkS h1
  obtain ⟨p2, c, e2, e3⟩ := mem_bkS h2
  exact h.ap p1 p2 b c e1 e2 e3.symm
/-- Behind a call that answers a guesser whose calls may begin at an offset. -/
def GuO (x : Gu) (w : World) (e : Ending) (w' : World) : Prop := ∃ aS aC cS cC, e = .returned (.agg #[.slice aS x.S.length cS, .slice aC x.C.length cC]) ∧ VcO w.heap.size w' x aS aC ∧ Fr w w'
theorem GuP.o {x : Gu} {w w' : World} {e : Ending} (h : GuP x w e w') : GuO x w e w' := by
  obtain ⟨aS, aC, cS, cC, he, hv, f⟩ := h
  exact ⟨aS, aC, cS, cC, he, hv.o, f⟩
structure VcN (B : Nat) (u : World) (x : Gu) (k : Int) (aS aC : Option Addr) : Prop where
  S : Vc4 B u (mkS k x.S.length) aS
  C : Vo B u x.C.length (fun i => .int .i64 (k + 4 * x.S.length + i)) aC
theorem VcN.fr {B : Nat} {u u' : World} {x : Gu} {k : Int} {aS aC : Option Addr} (h : VcN B u x k aS aC) (f : Fr u u') : VcN B u' x k aS aC := ⟨h.S.fr f, h.C.fr f⟩
theorem VcN.but {B : Nat} {L : List Nat} {u u' : World} {x : Gu} {k : Int} {aS aC : Option Addr} (h : VcN B u x k aS aC) (f : But L u u') (hn : ∀ k, k ∈ blk5 x aS aC → k ∉ L) : VcN B u' x k aS aC :=
  ⟨h.S.but' f (fun k hk => hn k (List.mem_append_left _ (by rwa [mkS_len] at hk))), h.C.but' f (fun k hk => hn k (List.mem_append_right _ hk))⟩
set_option maxRecDepth 4000 in
set_option maxHeartbeats 2000000 in
theorem laws_eqGueO_same (B1 B2 : Nat) (u : World) (x : Gu) (aS aC bS bC : Option Addr) (cS cC dS dC : Nat) (h1 : VcO B1 u x aS aC) (h2 : VcO B2 u x bS bC) (hn : Few5 x) :
    Calls Tryd.prog 12 #[.agg #[.slice aS x.S.length cS, .slice aC x.C.length cC], .agg #[.slice bS x.S.length dS, .slice bC x.C.length dC]] u fun e u' => e = .returned (.bool true) ∧ Fr u u' := by
  have F0 : Fr u ((u.alloc (.cells #[.slice aS x.S.length cS, .slice aC x.C.length cC] 30)).alloc (.cells #[.slice bS x.S.length dS, .slice bC x.C.length dC] 30)) := by (repeat' first | (with_reducible exact Below.refl _ _) | (with_reducible assumption) | ((with_reducible refine Below.setCell ?_ ?hb _); (case hb => first | exact Nat.le_refl _ | (simp; done) | (simp; omega) | omega)) | ((with_reducible refine Below.alloc ?_ ?hb _); (case hb => first | exact Nat.le_refl _ | (simp; done) | (simp; omega) | omega)) | (with_reducible refine Below.drew ?_))
  have H1 := Lib.hid (h1.fr F0)
  have H2 := Lib.hid (h2.fr F0)
  have Y1 : Hid (Box2 ((u.alloc (.cells #[.slice aS x.S.length cS, .slice aC x.C.length cC] 30)).alloc (.cells #[.slice bS x.S.length dS, .slice bC x.C.length dC] 30)) u.heap.size (.slice aS x.S.length cS) (.slice aC x.C.length cC)) := Lib.hid ((Box2.new _ _ _ _ _ rfl).fr (Fr.alloc _ _))
  have Y2 : Hid (Box2 ((u.alloc (.cells #[.slice aS x.S.length cS, .slice aC x.C.length cC] 30)).alloc (.cells #[.slice bS x.S.length dS, .slice bC x.C.length dC] 30)) (u.heap.size + 1) (.slice bS x.S.length dS) (.slice bC x.C.length dC)) := Lib.hid (Box2.new _ _ _ _ _ (by simp))
  have F1 := Lib.hid F0
  clear F0 h1 h2
  go_enter Tryd.func12, Tryd.ntmps12
  go_wp2_with fail
  generalize ((u.alloc (.cells #[.slice aS x.S.length cS, .slice aC x.C.length cC] 30)).alloc (.cells #[.slice bS x.S.length dS, .slice bC x.C.length dC] 30)) = u0 at *
  refine (laws_eqSlotS_same u0 x.S _ _ _ _ H1.out.S.src H2.out.S.src hn.S).mono ?_
  rintro e u1 ⟨rfl, f1⟩
  have H3 := Lib.hid (H1.out.fr f1)
  have H4 := Lib.hid (H2.out.fr f1)
  have Y3 := Lib.hid (Y1.out.fr f1)
  have Y4 := Lib.hid (Y2.out.fr f1)
  have F3 := Lib.hid (F1.out.trans f1)
  clear f1 H1 H2 Y1 Y2 F1
  obtain ⟨_, x0, x1, _, _⟩ := Y3.out
  obtain ⟨_, y0, y1, _, _⟩ := Y4.out
  go_wp2_with fail
  refine (laws_eqIntSo _ _ (fun i => x.C.getD i 0) _ _ _ _ H3.out.C.src H4.out.C.src hn.C).mono ?_
  rintro e u2 ⟨rfl, m2, hm2⟩
  have f2 : Fr u1 u2 := by rw [← hm2]; exact Below.drewN (Below.refl _ _) _
  have F5 := Lib.hid (F3.out.trans f2)
  clear f2 hm2 m2 H3 H4 Y3 Y4 F3 x0 x1 y0 y1
  go_wp2_with fail
  go_ret
  exact ⟨rfl, F5.out⟩
set_option maxRecDepth 4000 in
set_option maxHeartbeats 2000000 in
theorem laws_markGueO (B : Nat) (x : Gu) (aS aC : Option Addr) (cS cC : Nat) (k : Int) (u : World) (h : VcO B u x aS aC) (hB : B ≤ u.heap.size) (hn : Few5 x) (k0 : 1 ≤ k) (k1 : k ≤ 1000000) :
    Calls Tryd.prog 15 #[.agg #[.slice aS x.S.length cS, .slice aC x.C.length cC], .int .i64 k] u fun e u' => e = .returned (.int .i64 (k + 4 * x.S.length + x.C.length)) ∧ VcN B u' x k aS aC ∧ But (blk5 x aS aC) u u' ∧ Below B u u' := by
  have F0 : Fr u (u.alloc (.cells #[.slice aS x.S.length cS, .slice aC x.C.length cC] 30)) := Fr.alloc _ _
  have X0 : Hid (Box2 (u.alloc (.cells #[.slice aS x.S.length cS, .slice aC x.C.length cC] 30)) u.heap.size (.slice aS x.S.length cS) (.slice aC x.C.length cC)) := Lib.hid (Box2.new _ _ _ _ _ rfl)
  have V0 := Lib.hid (h.fr F0)
  have HK := Lib.hid h.blk
  have h1 := hn.S
  have h2 := hn.C
  have HF := Lib.hid F0
  clear F0 h hn
  go_enter Tryd.func15, Tryd.ntmps15
  go_wp2_with fail
  generalize (u.alloc (.cells #[.slice aS x.S.length cS, .slice aC x.C.length cC] 30)) = u0 at *
  have hs0 : B ≤ u0.heap.size := Nat.le_trans hB HF.out.size
  refine (laws_markSlots5 B _ x.S _ _ _ V0.out.S h1 k0 (by omega)).mono ?_
  rintro e u1 ⟨rfl, M1, q1⟩
  have hub : ∀ j, j ∈ bkS x.S.length aS → B ≤ j ∧ j < u.heap.size := fun j hj => HK.out j (List.mem_append_left _ hj)
  have X1 := Lib.hid (X0.out.but q1 (fun hm => by have := hub _ hm; omega))
  have C1 := Lib.hid (V0.out.C.but' q1 (fun j hj hm => V0.out.apart j hm hj))
  have N1 := Lib.hid M1
  have Q1 := Lib.hid (But.wide (L' := blk5 x aS aC) q1 (fun k hk => List.mem_append_left _ hk))
  have hs1 : B ≤ u1.heap.size := Nat.le_trans hs0 q1.size
  clear M1 q1 X0 hub
  obtain ⟨_, x0, x1, _, _⟩ := X1.out
  go_wp2_with fail
  refine (laws_markIntSo B _ _ (fun i => x.C.getD i 0) _ _ _ C1.out h2 (by omega) (by omega)).mono ?_
  rintro e u2 ⟨rfl, M2, q2⟩
  have N2 := Lib.hid (N1.out.but' q2 (fun j hj hm => by rw [mkS_len] at hj; exact V0.out.apart j hj hm))
  have O2 := Lib.hid M2
  have Q2 := Lib.hid (But.wide (L' := blk5 x aS aC) q2 (fun k hk => List.mem_append_right _ hk))
  clear M2 q2 X1 C1 N1 x0 x1
  go_wp2_with fail
  go_ret
  have hb := ((But.of HF.out).trans Q1.out).trans Q2.out
  exact ⟨rfl, ⟨N2.out, O2.out⟩, hb, bel_but hb (fun k hk => (HK.out k hk).1) hB⟩
set_option maxRecDepth 4000 in
set_option maxHeartbeats 2000000 in
theorem laws_heldGueO (B : Nat) (x : Gu) (aS aC : Option Addr) (cS cC : Nat) (k : Int) (u : World) (h : VcN B u x k aS aC) (hn : Few5 x) (k0 : 1 ≤ k) (k1 : k ≤ 1000000) :
    Calls Tryd.prog 16 #[.agg #[.slice aS x.S.length cS, .slice aC x.C.length cC], .int .i64 k] u fun e u' => e = .returned (.int .i64 (k + 4 * x.S.length + x.C.length)) ∧ Fr u u' := by
  have F0 : Fr u (u.alloc (.cells #[.slice aS x.S.length cS, .slice aC x.C.length cC] 30)) := Fr.alloc _ _
  have X0 : Hid (Box2 (u.alloc (.cells #[.slice aS x.S.length cS, .slice aC x.C.length cC] 30)) u.heap.size (.slice aS x.S.length cS) (.slice aC x.C.length cC)) := Lib.hid (Box2.new _ _ _ _ _ rfl)
  have V0 := Lib.hid (h.fr F0)
  have h1 := hn.S
  have h2 := hn.C
  have HF := Lib.hid F0
  clear F0 h hn
  go_enter Tryd.func16, Tryd.ntmps16
  go_wp2_with fail
  generalize (u.alloc (.cells #[.slice aS x.S.length cS, .slice aC x.C.length cC] 30)) = u0 at *
  refine (laws_heldSlotS u0 x.S.length _ _ _ V0.out.S.src h1 k0 (by omega)).mono ?_
  rintro e u1 ⟨rfl, rfl⟩
  have n1 : ¬ k + 4 * (x.S.length : Int) < 0 := by omega
  obtain ⟨_, x0, x1, _, _⟩ := X0.out
  go_wp2_with fail
  refine (laws_heldIntSo _ _ _ _ _ V0.out.C.src h2 (by omega) (by omega)).mono ?_
  rintro e u2 ⟨rfl, f2⟩
  have n2 : ¬ k + 4 * (x.S.length : Int) + (x.C.length : Int) < 0 := by omega
  have F2 := Lib.hid (HF.out.trans f2)
  clear f2 x0 x1
  go_wp2_with fail
  go_ret
  exact ⟨rfl, F2.out⟩

end Go.Proofs.YtpdlcjjmhcfkjaaDoor
