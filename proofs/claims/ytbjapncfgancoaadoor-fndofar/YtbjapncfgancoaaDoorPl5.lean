/- A machine at the beginning of words. -/
import Derived.StillTailTactics
import Derived.Test.YtbjapncfgancoaaDoorPl4
namespace Go.Proofs.YtbjapncfgancoaaDoor
open Go.RowKit
set_option linter.unusedVariables false
set_option linter.unusedSimpArgs false
def zeros (n : Nat) : List Int := List.replicate n 0
def newM (ws : List Int) : List Int := ws ++ zeros (256 - ws.length)
def newS (ws : List Int) : St := ⟨0, zeros 8, zeros 5, newM ws⟩
def goodW (ws : List Int) : Bool := decide (ws.length ≤ 256) && ws.all okB
abbrev noSt : Value := .agg #[.int .i64 0, .slice none 0 0, .slice none 0 0, .slice none 0 0]
/-- Behind PlnNew. -/
def BegP (ws : List Int) (w : World) (e : Ending) (w' : World) : Prop := (goodW ws = true ∧ CpS (newS ws) w e w') ∨ (goodW ws = false ∧ e = .returned noSt ∧ Fr w w')
theorem zeros_len (n : Nat) : (zeros n).length = n := List.length_replicate
theorem newM_len {ws : List Int} (h : ws.length ≤ 256) : (newM ws).length = 256 := by simp [newM, zeros]; omega
theorem own_heap {u : World} {B g n : Nat} {e : TypeId} {vs : List Value} (h : u.ownsRow B e 1 (.slice (some ⟨g, 0, none⟩) n n) n vs) : u.heap[g]? = some (.cells vs.toArray e (0, 0)) := by
  obtain ⟨hl, hc⟩ := h
  rcases hc with ⟨h, _⟩ | ⟨g', cap, cur, hv, hB, hg, hcap, _, hcs, hxs⟩
  · cases h
  · cases hv
    rw [hg]
    congr 2
    rw [← hxs, List.take_of_length_le (by simp [hcs])]
theorem ro_heap {u : World} {g : Nat} {xs : List Int} {e : TypeId} (h : u.heap[g]? = some (.cells (xs.map (Value.int .i64)).toArray e (0, 0))) : Ro u g xs := by
  refine ⟨?_, fun i hi => ?_, fun i hi => by simp [World.frozen?, h]⟩
  · by_cases hh : g < u.heap.size
    · exact hh
    · rw [Array.getElem?_eq_none (by omega)] at h; cases h
  · simp [World.cell?, h, hi]
theorem splice_gen (ws : List Int) (n : Nat) : splice ((zeros n).map (Value.int .i64)) 0 (ws.map (Value.int .i64)) = (ws ++ zeros (n - ws.length)).map (Value.int .i64) := by
  simp [splice, zeros, List.map_append]
theorem splice_new (ws : List Int) (h : ws.length ≤ 256) : splice ((zeros 256).map (Value.int .i64)) 0 (ws.map (Value.int .i64)) = (newM ws).map (Value.int .i64) := splice_gen ws 256
/-- The words, copied over a row of noughts. -/
theorem run_copy_new (ws : List Int) (ao : Option Addr) (cap g : Nat) (u : World) (h : Src u ws.length (ivl ws) ao) (hl : ws.length ≤ 256) (t : TypeId) (hh : u.heap[g]? = some (.cells ((zeros 256).map (Value.int .i64)).toArray t (0, 0))) :
    ∃ u2, Sem.run Tryd.prog (Builtin.copy_ #[22, 22] 3 #[.slice (some ⟨g, 0, none⟩) 256 256, .slice ao ws.length cap]) u = .ok (.int .i64 (ws.length : Int)) u2 ∧ u2.heap[g]? = some (.cells ((newM ws).map (Value.int .i64)).toArray t (0, 0)) ∧ Below g u u2 := by
  obtain ⟨i0, hi, hz0, hz1, hz2⟩ := info_parts info_intV
  by_cases h0 : ws.length = 0
  · obtain rfl : ws = [] := List.eq_nil_of_length_eq_zero h0
    exact ⟨u, run_copy_none u _ _ _ 3 _ _ _ _ _ _ Tryd.underlying22 (by rw [hi]; simp [hz1]) (by simp), by rw [hh]; rfl, Below.refl _ _⟩
  · obtain ⟨b, o, rfl, hb, hc⟩ := h (by omega)
    have hr := run_copy_row (P := Tryd.prog) u 22 22 3 3 g 0 256 256 ⟨b, o, none⟩ ws.length cap ((zeros 256).map (Value.int .i64)).toArray t (ws.map (Value.int .i64)) Tryd.underlying22 (by rw [hi]; simp [hz1]) hh (by rw [List.length_map]; exact (Nat.min_eq_left hl).symm) (cells_of ws hc) (by rw [List.length_map, List.size_toArray, List.length_map, zeros_len]; omega) (ints_one ws)
    rw [List.length_map] at hr
    refine ⟨_, hr, ?_, below_setRow (Below.refl _ _) (Nat.le_refl _) _⟩
    rw [setRow_heap u g _ _ t _ hh]
    have := splice_new ws hl
    rw [← this]
    simp only [splice, List.append_assoc, List.length_map]
/-- A row of noughts out of make. -/
theorem ro_made {u : World} {B g n : Nat} {e : TypeId} (h : u.ownsRow B e 1 (.slice (some ⟨g, 0, none⟩) n n) n (madeCells (Value.int .i64 0).cells (n * 1)).toList) : Ro u g (zeros n) := by
  rw [made_zero] at h
  exact (ro_own h).1
def ipSF (B gm : Nat) (M : List Int) : Nat → Value → World → Prop
  | 0, v, u => ∃ g, v = .slice (some ⟨g, 0, none⟩) 8 8 ∧ B ≤ g ∧ Ro u g (zeros 8)
  | 1, v, u => ∃ g, v = .slice (some ⟨g, 0, none⟩) 5 5 ∧ B ≤ g ∧ Ro u g (zeros 5)
  | 2, v, _ => v = .slice (some ⟨gm, 0, none⟩) 256 256
  | 3, v, u => ∃ gr gc, v = .agg #[.int .i64 0, .slice (some ⟨gr, 0, none⟩) 8 8, .slice (some ⟨gc, 0, none⟩) 5 5, .slice (some ⟨gm, 0, none⟩) 256 256] ∧ Ro u gr (zeros 8) ∧ Ro u gc (zeros 5) ∧ B ≤ gr ∧ B ≤ gc ∧ gr ≠ gc
  | _, _, _ => True
set_option maxRecDepth 8000 in
set_option maxHeartbeats 4000000 in
theorem impl_PlnNew (ws : List Int) (ao : Option Addr) (cap : Nat) (w : World) (h : Src w ws.length (ivl ws) ao) (hn : ws.length ≤ 100000000) :
    Calls Tryd.prog 41 #[.slice ao ws.length cap] w (BegP ws w) := by
  obtain ⟨i0, hi, hz0, hz1, hz2⟩ := info_parts info_intV
  have F1 := Fr.alloc w (.cells #[.int .i64 0, .slice none 0 0, .slice none 0 0, .slice none 0 0] 26)
  have HW := Lib.hid (impl_areWords ws ao cap ws.length _ (h.fr F1) hn)
  have HF := Lib.hid F1
  have HZ := Lib.hid (Box4.new w (.int .i64 0) (.slice none 0 0) (.slice none 0 0) (.slice none 0 0) 26 _ rfl)
  by_cases hl : ws.length ≤ 256
  · have hl' : ¬ (256 : Int) < (ws.length : Int) := by omega
    cases hk : ws.all okB
    · have HG := Lib.hid (show goodW ws = false by simp [goodW, hk])
      rw [hk] at HW
      clear h F1
      go_enter Tryd.func41, Tryd.ntmps41
      go_wp2_with fail
      refine HW.out.mono ?_
      rintro e w' ⟨rfl, rfl⟩
      simp only [Bool.false_and]
      go_wp2
      refine bodyPost_ret (v := noSt) (by simp [results, Tryd.results41, go_sem]) rfl (.inr ⟨HG.out, rfl, ?_⟩)
      (repeat' first | (with_reducible exact Below.refl _ _) | (with_reducible assumption) | ((with_reducible refine Below.setCell ?_ ?hb _); (case hb => first | exact Nat.le_refl _ | (simp; done) | (simp; omega) | omega)) | ((with_reducible refine Below.alloc ?_ ?hb _); (case hb => first | exact Nat.le_refl _ | (simp; done) | (simp; omega) | omega)) | (with_reducible refine Below.drew ?_))
    · have HG := Lib.hid (show goodW ws = true by simp [goodW, hk, hl])
      rw [hk] at HW
      have HS := Lib.hid h
      clear h F1
      go_enter Tryd.func41, Tryd.ntmps41
      go_wp2_with fail
      refine HW.out.mono ?_
      rintro e w' ⟨rfl, rfl⟩
      simp only [Bool.true_and, decide_true]
      have hsz : (w.alloc (.cells #[.int .i64 0, .slice none 0 0, .slice none 0 0, .slice none 0 0] 26)).heap.size = w.heap.size + 1 := by simp
      go_wp2_with ((at_make; refine wpList_plain rfl fun K hK => wp_make_new _ _ 22 rfl 3 i0 (.int .i64 0) Tryd.underlying22 hi hz0 hz1 hz2 256 rfl rfl (by omega) ?_; intro u1 hown hg1; refine hK _ _ ?_; clear hK; rw [hsz] at hown; have HH := own_heap hown; rw [made_zero] at HH; have F2 := Lib.hid (Fr.trans HF.out (grown_fr hg1)); have hs1 := (ro_made hown).lt; have HZ1 := Lib.hid (HZ.out.fr (grown_fr hg1)); obtain ⟨u2, hrun, hh2, hb2⟩ := run_copy_new ws ao cap (w.heap.size + 1) u1 (HS.out.fr F2.out) hl _ HH; clear hown hg1 HW))
      have RM := Lib.hid (ro_heap hh2)
      have F3 := Lib.hid (show Fr w u2 from Below.trans F2.out (hb2.mono (by omega)))
      have HZ2 := Lib.hid (HZ1.out.below hb2 (by omega))
      have hs2 : w.heap.size + 1 < u2.heap.size := RM.out.lt
      clear hh2 hb2 HH HZ1 F2 HZ hs1 HS hrun
      go_wp2_with fail
      refine wp_region_rows 23 4 [] (fun _ => []) lb0_in (fun i => i == 0 || i == 1) (ipSF u2.heap.size (w.heap.size + 1) (newM ws)) ?mono (by kernel_rfl) (by kernel_rfl) rfl (by kernel_rfl) (by kernel_rfl) (by decide) ?step ?fin
      case mono =>
        intro i j v u u' hi hij hdj hsz h hB
        rcases j with _ | _ | _ | _ | j
        · obtain ⟨g, e, b, r⟩ := h
          exact ⟨g, e, b, r.but hB (by simp)⟩
        · obtain ⟨g, e, b, r⟩ := h
          exact ⟨g, e, b, r.but hB (by simp)⟩
        · exact h
        · obtain ⟨gr, gc, e, r1, r2, hh⟩ := h
          exact ⟨gr, gc, e, r1.but hB (by simp), r2.but hB (by simp), hh⟩
        · trivial
      case step =>
        intro i o ho hiz
        rcases i with _ | _ | _ | _ | _ | i
        · clear hiz
          cases ho
          intro act u hB hL hdep hap hnw
          replace hB := hB [] (fun j _ k hk => lb0_in j k hk)
          obtain ⟨y, ha, hy⟩ := hL.puts [19, 20, 21, 22] (by kernel_rfl)
          clear hdep hL hy hap hnw
          simp only [List.foldl, List.setIfInBounds_toArray, List.set_cons_succ, List.set_cons_zero] at ha
          subst ha
          refine wpOp_step rfl (fun K hK => ?_)
          rw [if_pos (by simp [Region.wanted])]
          refine wp_make_new _ _ 22 rfl 3 i0 (.int .i64 0) Tryd.underlying22 hi hz0 hz1 hz2 8 rfl rfl (by omega) ?_
          intro u' hown hg
          have r := ro_made hown
          refine hK _ _ ⟨_, rfl, (fun h => by cases h), ⟨u.heap.size, rfl, hB.size, r⟩, But.of (grown_fr hg), (fun _ p hp => by cases hp; exact ⟨Nat.le_refl _, r.lt⟩)⟩
        · clear hiz
          cases ho
          intro act u hB hL hdep hap hnw
          replace hB := hB [] (fun j _ k hk => lb0_in j k hk)
          obtain ⟨y, ha, hy⟩ := hL.puts [19, 20, 21, 22] (by kernel_rfl)
          clear hdep hL hy hap hnw
          simp only [List.foldl, List.setIfInBounds_toArray, List.set_cons_succ, List.set_cons_zero] at ha
          subst ha
          refine wpOp_step rfl (fun K hK => ?_)
          rw [if_pos (by simp [Region.wanted])]
          refine wp_make_new _ _ 22 rfl 3 i0 (.int .i64 0) Tryd.underlying22 hi hz0 hz1 hz2 5 rfl rfl (by omega) ?_
          intro u' hown hg
          have r := ro_made hown
          refine hK _ _ ⟨_, rfl, (fun h => by cases h), ⟨u.heap.size, rfl, hB.size, r⟩, But.of (grown_fr hg), (fun _ p hp => by cases hp; exact ⟨Nat.le_refl _, r.lt⟩)⟩
        · clear hiz
          cases ho
          intro act u hB hL hdep hap hnw
          replace hB := hB [] (fun j _ k hk => lb0_in j k hk)
          obtain ⟨y, ha, hy⟩ := hL.puts [19, 20, 21, 22] (by kernel_rfl)
          clear hdep hL hy hap hnw
          simp only [List.foldl, List.setIfInBounds_toArray, List.set_cons_succ, List.set_cons_zero] at ha
          subst ha
          refine wpOp_step rfl (fun K hK => ?_)
          go_simp
          exact hK _ _ ⟨_, rfl, (fun h => by cases h), rfl, But.refl _ _, (fun h => by cases h)⟩
        · clear hiz
          cases ho
          intro act u hB hL hdep hap hnw
          replace hB := hB [] (fun j _ k hk => lb0_in j k hk)
          have d0 := hdep { on := 0, ground := .data } (by simp) rfl _ rfl
          have d1 := hdep { on := 1, ground := .data } (by simp) rfl _ rfl
          have d2 := hdep { on := 2, ground := .data } (by simp) rfl _ rfl
          obtain ⟨y, ha, hy⟩ := hL.puts [19, 20, 21, 22] (by kernel_rfl)
          obtain ⟨g0, h0, b0, r0⟩ := d0
          have e0 : y 19 = .slice (some ⟨g0, 0, none⟩) 8 8 := (hy 19).symm.trans h0
          obtain ⟨g1, h1, b1, r1⟩ := d1
          have e1 : y 20 = .slice (some ⟨g1, 0, none⟩) 5 5 := (hy 20).symm.trans h1
          have e2 : y 21 = _ := (hy 21).symm.trans d2
          have ne1 := hap { on := 0, ground := .data } (by simp) { on := 1, ground := .data } (by simp) rfl rfl (by decide) rfl rfl _ _ rfl rfl g0 g1 (by rw [h0]; rfl) (by rw [h1]; rfl)
          clear hdep hL hy hap hnw d2 h0 h1
          simp only [List.foldl, List.setIfInBounds_toArray, List.set_cons_succ, List.set_cons_zero, e0, e1, e2] at ha
          subst ha
          clear e0 e1 e2
          refine wpOp_step rfl (fun K hK => ?_)
          go_simp
          exact hK _ _ ⟨_, rfl, (fun h => by cases h), ⟨g0, g1, rfl, r0, r1, b0, b1, ne1⟩, But.refl _ _, (fun h => by cases h)⟩
        · exact absurd rfl hiz
        · exact absurd ho (by simp)
      case fin =>
        intro act u hB hL hsf hap hnw
        have d3 := hsf 3 _ rfl (by decide)
        obtain ⟨y, ha, hy⟩ := hL.puts [19, 20, 21, 22] (by kernel_rfl)
        obtain ⟨gr, gc, h3, rR, rC, bR, bC, ne⟩ := d3
        have e3 : y 22 = .agg #[.int .i64 0, .slice (some ⟨gr, 0, none⟩) 8 8, .slice (some ⟨gc, 0, none⟩) 5 5, .slice (some ⟨w.heap.size + 1, 0, none⟩) 256 256] := (hy 22).symm.trans h3
        clear hL hsf hy hap hnw h3
        simp only [List.foldl, List.setIfInBounds_toArray, List.set_cons_succ, List.set_cons_zero, e3] at ha
        subst ha
        clear e3
        have Bz := HZ2.out.but hB (by simp)
        have Bz0 := Bz
        obtain ⟨lt, c0, c1, c2, c3, f0, f1, f2, f3⟩ := Bz0
        refine wpOp_step rfl (fun K hK => ?_)
        go_simp
        refine hK _ _ ?_
        have Bn := Bz.set (.int .i64 0) (.slice (some ⟨gr, 0, none⟩) 8 8) (.slice (some ⟨gc, 0, none⟩) 5 5) (.slice (some ⟨w.heap.size + 1, 0, none⟩) 256 256)
        have z0 := Bn.c0
        have z1 := Bn.c1
        have z2 := Bn.c2
        have z3 := Bn.c3
        have BS := (But.refl [w.heap.size] u).set4 w.heap.size (.int .i64 0) (.slice (some ⟨gr, 0, none⟩) 8 8) (.slice (some ⟨gc, 0, none⟩) 5 5) (.slice (some ⟨w.heap.size + 1, 0, none⟩) 256 256) (.inl (by simp))
        have HFin := Lib.hid (show Fr w _ from fr_but (fr_but F3.out hB (fun k hk => by cases hk)) BS (fun k hk => by have := List.mem_singleton.1 hk; omega))
        have HO := Lib.hid (show Own _ gr gc (w.heap.size + 1) (newS ws) from ⟨rR.but BS (by simp; omega), rC.but BS (by simp; omega), (RM.out.but hB (by simp)).but BS (by simp), ne, by omega, by omega⟩)
        clear Bn Bz c0 c1 c2 c3 f0 f1 f2 f3 BS
        generalize ((((u.setCell ⟨w.heap.size, 0, none⟩ (.int .i64 0)).setCell ⟨w.heap.size, 1, none⟩ (.slice (some ⟨gr, 0, none⟩) 8 8)).setCell ⟨w.heap.size, 2, none⟩ (.slice (some ⟨gc, 0, none⟩) 5 5)).setCell ⟨w.heap.size, 3, none⟩ (.slice (some ⟨w.heap.size + 1, 0, none⟩) 256 256)) = u9 at *
        go_wp2
        refine bodyPost_ret (v := .agg #[.int .i64 0, .slice (some ⟨gr, 0, none⟩) 8 8, .slice (some ⟨gc, 0, none⟩) 5 5, .slice (some ⟨w.heap.size + 1, 0, none⟩) 256 256]) (by simp [results, Tryd.results41, go_sem, z0, z1, z2, z3]) rfl (.inl ⟨HG.out, gr, gc, w.heap.size + 1, 8, 5, 256, rfl, HO.out, by omega, by omega, by omega, HFin.out⟩)
  · have hl' : (256 : Int) < (ws.length : Int) := by omega
    have HG := Lib.hid (show goodW ws = false by simp [goodW, hl])
    clear h F1
    go_enter Tryd.func41, Tryd.ntmps41
    go_wp2
    refine bodyPost_ret (v := noSt) (by simp [results, Tryd.results41, go_sem]) rfl (.inr ⟨HG.out, rfl, ?_⟩)
    (repeat' first | (with_reducible exact Below.refl _ _) | (with_reducible assumption) | ((with_reducible refine Below.setCell ?_ ?hb _); (case hb => first | exact Nat.le_refl _ | (simp; done) | (simp; omega) | omega)) | ((with_reducible refine Below.alloc ?_ ?hb _); (case hb => first | exact Nat.le_refl _ | (simp; done) | (simp; omega) | omega)) | (with_reducible refine Below.drew ?_))
def spSF (B : Nat) (x : Nat → Value) : Nat → World → Prop
  | 0, u => ∃ g, x 0 = .slice (some ⟨g, 0, none⟩) 8 8 ∧ B ≤ g ∧ Ro u g (zeros 8)
  | 1, u => ∃ g, x 1 = .slice (some ⟨g, 0, none⟩) 5 5 ∧ B ≤ g ∧ Ro u g (zeros 5)
  | 2, u => ∃ g, x 2 = .slice (some ⟨g, 0, none⟩) 256 256 ∧ B ≤ g ∧ Ro u g (zeros 256)
  | 3, _ => ∃ g0 g1 g2, x 0 = .slice (some ⟨g0, 0, none⟩) 8 8 ∧ x 1 = .slice (some ⟨g1, 0, none⟩) 5 5 ∧ x 2 = .slice (some ⟨g2, 0, none⟩) 256 256 ∧ x 3 = .agg #[.int .i64 0, .slice (some ⟨g0, 0, none⟩) 8 8, .slice (some ⟨g1, 0, none⟩) 5 5, .slice (some ⟨g2, 0, none⟩) 256 256]
  | 4, u => ∃ z, x 4 = .pointer (some ⟨z, 0, none⟩) ∧ B ≤ z ∧ Box4 u z (.int .i64 0) (.slice none 0 0) (.slice none 0 0) (.slice none 0 0)
  | _, _ => True
theorem take_set {ws : List Int} {p : Nat} (hp : p < ws.length) (hl : ws.length ≤ 256) : (ws.take p ++ zeros (256 - p)).set p (ws.getD p 0) = ws.take (p + 1) ++ zeros (256 - (p + 1)) := by
  have e : zeros (256 - p) = 0 :: zeros (256 - (p + 1)) := by
    have : 256 - p = (256 - (p + 1)) + 1 := by omega
    rw [this]; rfl
  have hlen : (ws.take p).length = p := by rw [List.length_take]; omega
  have h2 : ws.take (p + 1) = ws.take p ++ [ws.getD p 0] := by
    rw [List.take_add_one, List.getD_eq_getElem?_getD, List.getElem?_eq_getElem hp]
    rfl
  rw [e, List.set_append_right _ _ (by omega), hlen, Nat.sub_self, List.set_cons_zero, h2, List.append_assoc]
  rfl
def midS (ws : List Int) (p : Nat) : St := ⟨0, zeros 8, zeros 5, ws.take p ++ zeros (256 - p)⟩
theorem mid_len (ws : List Int) (p : Nat) (hp : p ≤ ws.length) (hl : ws.length ≤ 256) : (midS ws p).M.length = 256 := by
  simp [midS, zeros]; omega
theorem ret_no (w : World) (h : w.heap.size = w.heap.size) : True := trivial
end Go.Proofs.YtbjapncfgancoaaDoor
