/- A machine at the beginning of words. -/
import Derived.StillTailTactics
import Derived.Test.YtmkinbnopgfljaaPl4
namespace Go.Proofs.Ytmkinbnopgfljaa
open Go.RowKit
set_option linter.unusedVariables false
set_option linter.unusedSimpArgs false
def zeros (n : Nat) : List Int := List.replicate n 0
def newM (ws : List Int) : List Int := ws ++ zeros (256 - ws.length)
def newS (ws : List Int) : St := ⟨0, zeros 8, zeros 5, newM ws⟩
def goodW (ws : List Int) : Bool := decide (ws.length ≤ 256) && ws.all okB
abbrev noSt : Value := .agg #[.int .i64 0, .slice none 0 0, .slice none 0 0, .slice none 0 0]
/-- Behind PlnNew. -/
def BegP (ws : List Int) (w : World) (e : Ending) (w' : World) : Prop := (goodW ws = true ∧ CpS (newS ws) w e w') ∨ (goodW ws = false ∧ e = .returned noSt ∧ Fr w w')
theorem zeros_len (n : Nat) : (zeros n).length = n := List.length_replicate
theorem newM_len {ws : List Int} (h : ws.length ≤ 256) : (newM ws).length = 256 := by simp [newM, zeros]; omega
theorem own_heap {u : World} {B g n : Nat} {e : TypeId} {vs : List Value} (h : u.ownsRow B e 1 (.slice (some ⟨g, 0, none⟩) n n) n vs) : u.heap[g]? = some (.cells vs.toArray e (0, 0)) := by
  obtain ⟨hl, hc⟩ := h
  rcases hc with ⟨h, _⟩ | ⟨g', cap, cur, hv, hB, hg, hcap, _, hcs, hxs⟩
  · cases h
  · cases hv
    rw [hg]
    congr 2
    rw [← hxs, List.take_of_length_le (by simp [hcs])]
theorem ro_heap {u : World} {g : Nat} {xs : List Int} {e : TypeId} (h : u.heap[g]? = some (.cells (xs.map (Value.int .i64)).toArray e (0, 0))) : Ro u g xs := by
  refine ⟨?_, fun i hi => ?_, fun i hi => by simp [World.frozen?, h]⟩
  · by_cases hh : g < u.heap.size
    · exact hh
    · rw [Array.getElem?_eq_none (by omega)] at h; cases h
  · simp [World.cell?, h, hi]
theorem splice_gen (ws : List Int) (n : Nat) : splice ((zeros n).map (Value.int .i64)) 0 (ws.map (Value.int .i64)) = (ws ++ zeros (n - ws.length)).map (Value.int .i64) := by
  simp [splice, zeros, List.map_append]
theorem splice_new (ws : List Int) (h : ws.length ≤ 256) : splice ((zeros 256).map (Value.int .i64)) 0 (ws.map (Value.int .i64)) = (newM ws).map (Value.int .i64) := splice_gen ws 256
/-- The words, copied over a row of noughts. -/
theorem run_copy_new (ws : List Int) (ao : Option Addr) (cap g : Nat) (u : World) (h : Src u ws.length (ivl ws) ao) (hl : ws.length ≤ 256) (t : TypeId) (hh : u.heap[g]? = some (.cells ((zeros 256).map (Value.int .i64)).toArray t (0, 0))) :
    ∃ u2, Sem.run Try.prog (Builtin.copy_ #[22, 22] 3 #[.slice (some ⟨g, 0, none⟩) 256 256, .slice ao ws.length cap]) u = .ok (.int .i64 (ws.length : Int)) u2 ∧ u2.heap[g]? = some (.cells ((newM ws).map (Value.int .i64)).toArray t (0, 0)) ∧ Below g u u2 := by
  obtain ⟨i0, hi, hz0, hz1, hz2⟩ := info_parts info_intV
  by_cases h0 : ws.length = 0
  · obtain rfl : ws = [] := List.eq_nil_of_length_eq_zero h0
    exact ⟨u, run_copy_none u _ _ _ 3 _ _ _ _ _ _ Try.underlying22 (by rw [hi]; simp [hz1]) (by simp), by rw [hh]; rfl, Below.refl _ _⟩
  · obtain ⟨b, o, rfl, hb, hc⟩ := h (by omega)
    have hr := run_copy_row (P := Try.prog) u 22 22 3 3 g 0 256 256 ⟨b, o, none⟩ ws.length cap ((zeros 256).map (Value.int .i64)).toArray t (ws.map (Value.int .i64)) Try.underlying22 (by rw [hi]; simp [hz1]) hh (by rw [List.length_map]; exact (Nat.min_eq_left hl).symm) (cells_of ws hc) (by rw [List.length_map, List.size_toArray, List.length_map, zeros_len]; omega) (ints_one ws)
    rw [List.length_map] at hr
    refine ⟨_, hr, ?_, below_setRow (Below.refl _ _) (Nat.le_refl _) _⟩
    rw [setRow_heap u g _ _ t _ hh]
    have := splice_new ws hl
    rw [← this]
    simp only [splice, List.append_assoc, List.length_map]
/-- A row of noughts out of make. -/
theorem ro_made {u : World} {B g n : Nat} {e : TypeId} (h : u.ownsRow B e 1 (.slice (some ⟨g, 0, none⟩) n n) n (madeCells (Value.int .i64 0).cells (n * 1)).toList) : Ro u g (zeros n) := by
  rw [made_zero] at h
  exact (ro_own h).1
def ipSF (B gm : Nat) (M : List Int) : Nat → Value → World → Prop
  | 0, v, u => ∃ g, v = .slice (some ⟨g, 0, none⟩) 8 8 ∧ B ≤ g ∧ Ro u g (zeros 8)
  | 1, v, u => ∃ g, v = .slice (some ⟨g, 0, none⟩) 5 5 ∧ B ≤ g ∧ Ro u g (zeros 5)
  | 2, v, _ => v = .slice (some ⟨gm, 0, none⟩) 256 256
  | 3, v, u => ∃ gr gc, v = .agg #[.int .i64 0, .slice (some ⟨gr, 0, none⟩) 8 8, .slice (some ⟨gc, 0, none⟩) 5 5, .slice (some ⟨gm, 0, none⟩) 256 256] ∧ Ro u gr (zeros 8) ∧ Ro u gc (zeros 5) ∧ B ≤ gr ∧ B ≤ gc ∧ gr ≠ gc
  | _, _, _ => True
set_option maxRecDepth 8000 in
set_option maxHeartbeats 4000000 in
theorem impl_PlnNew (ws : List Int) (ao : Option Addr) (cap : Nat) (w : World) (h : Src w ws.length (ivl ws) ao) (hn : ws.length ≤ 100000000) :
    Calls Try.prog 19 #[.slice ao ws.length cap] w (BegP ws w) := by
  obtain ⟨i0, hi, hz0, hz1, hz2⟩ := info_parts info_intV
  have F1 := Fr.alloc w (.cells #[.int .i64 0, .slice none 0 0, .slice none 0 0, .slice none 0 0] 26)
  have HW := Lib.hid (impl_areWords ws ao cap ws.length _ (h.fr F1) hn)
  have HF := Lib.hid F1
  have HZ := Lib.hid (Box4.new w (.int .i64 0) (.slice none 0 0) (.slice none 0 0) (.slice none 0 0) 26 _ rfl)
  by_cases hl : ws.length ≤ 256
  · have hl' : ¬ (256 : Int) < (ws.length : Int) := by omega
    cases hk : ws.all okB
    · have HG := Lib.hid (show goodW ws = false by simp [goodW, hk])
      rw [hk] at HW
      clear h F1
      go_enter Try.func19, Try.ntmps19
      go_wp2_with fail
      refine HW.out.mono ?_
      rintro e w' ⟨rfl, rfl⟩
      simp only [Bool.false_and]
      go_wp2
      refine bodyPost_ret (v := noSt) (by simp [results, Try.results19, go_sem]) rfl (.inr ⟨HG.out, rfl, ?_⟩)
      (repeat' first | (with_reducible exact Below.refl _ _) | (with_reducible assumption) | ((with_reducible refine Below.setCell ?_ ?hb _); (case hb => first | exact Nat.le_refl _ | (simp; done) | (simp; omega) | omega)) | ((with_reducible refine Below.alloc ?_ ?hb _); (case hb => first | exact Nat.le_refl _ | (simp; done) | (simp; omega) | omega)) | (with_reducible refine Below.drew ?_))
    · have HG := Lib.hid (show goodW ws = true by simp [goodW, hk, hl])
      rw [hk] at HW
      have HS := Lib.hid h
      clear h F1
      go_enter Try.func19, Try.ntmps19
      go_wp2_with fail
      refine HW.out.mono ?_
      rintro e w' ⟨rfl, rfl⟩
      simp only [Bool.true_and, decide_true]
      have hsz : (w.alloc (.cells #[.int .i64 0, .slice none 0 0, .slice none 0 0, .slice none 0 0] 26)).heap.size = w.heap.size + 1 := by simp
      go_wp2_with ((at_make; refine wpList_plain rfl fun K hK => wp_make_new _ _ 22 rfl 3 i0 (.int .i64 0) Try.underlying22 hi hz0 hz1 hz2 256 rfl rfl (by omega) ?_; intro u1 hown hg1; refine hK _ _ ?_; clear hK; rw [hsz] at hown; have HH := own_heap hown; rw [made_zero] at HH; have F2 := Lib.hid (Fr.trans HF.out (grown_fr hg1)); have hs1 := (ro_made hown).lt; have HZ1 := Lib.hid (HZ.out.fr (grown_fr hg1)); obtain ⟨u2, hrun, hh2, hb2⟩ := run_copy_new ws ao cap (w.heap.size + 1) u1 (HS.out.fr F2.out) hl _ HH; clear hown hg1 HW))
      have RM := Lib.hid (ro_heap hh2)
      have F3 := Lib.hid (show Fr w u2 from Below.trans F2.out (hb2.mono (by omega)))
      have HZ2 := Lib.hid (HZ1.out.below hb2 (by omega))
      have hs2 : w.heap.size + 1 < u2.heap.size := RM.out.lt
      clear hh2 hb2 HH HZ1 F2 HZ hs1 HS hrun
      go_wp2_with fail
      refine wp_region_rows 23 4 [] (fun _ => []) lb0_in (fun i => i == 0 || i == 1) (ipSF u2.heap.size (w.heap.size + 1) (newM ws)) ?mono (by kernel_rfl) (by kernel_rfl) rfl (by kernel_rfl) (by kernel_rfl) (by decide) ?step ?fin
      case mono =>
        intro i j v u u' hi hij hdj hsz h hB
        rcases j with _ | _ | _ | _ | j
        · obtain ⟨g, e, b, r⟩ := h
          exact ⟨g, e, b, r.but hB (by simp)⟩
        · obtain ⟨g, e, b, r⟩ := h
          exact ⟨g, e, b, r.but hB (by simp)⟩
        · exact h
        · obtain ⟨gr, gc, e, r1, r2, hh⟩ := h
          exact ⟨gr, gc, e, r1.but hB (by simp), r2.but hB (by simp), hh⟩
        · trivial
      case step =>
        intro i o ho hiz
        rcases i with _ | _ | _ | _ | _ | i
        · clear hiz
          cases ho
          intro act u hB hL hdep hap hnw
          replace hB := hB [] (fun j _ k hk => lb0_in j k hk)
          obtain ⟨y, ha, hy⟩ := hL.puts [19, 20, 21, 22] (by kernel_rfl)
          clear hdep hL hy hap hnw
          simp only [List.foldl, List.setIfInBounds_toArray, List.set_cons_succ, List.set_cons_zero] at ha
          subst ha
          refine wpOp_step rfl (fun K hK => ?_)
          rw [if_pos (by simp [Region.wanted])]
          refine wp_make_new _ _ 22 rfl 3 i0 (.int .i64 0) Try.underlying22 hi hz0 hz1 hz2 8 rfl rfl (by omega) ?_
          intro u' hown hg
          have r := ro_made hown
          refine hK _ _ ⟨_, rfl, (fun h => by cases h), ⟨u.heap.size, rfl, hB.size, r⟩, But.of (grown_fr hg), (fun _ p hp => by cases hp; exact ⟨Nat.le_refl _, r.lt⟩)⟩
        · clear hiz
          cases ho
          intro act u hB hL hdep hap hnw
          replace hB := hB [] (fun j _ k hk => lb0_in j k hk)
          obtain ⟨y, ha, hy⟩ := hL.puts [19, 20, 21, 22] (by kernel_rfl)
          clear hdep hL hy hap hnw
          simp only [List.foldl, List.setIfInBounds_toArray, List.set_cons_succ, List.set_cons_zero] at ha
          subst ha
          refine wpOp_step rfl (fun K hK => ?_)
          rw [if_pos (by simp [Region.wanted])]
          refine wp_make_new _ _ 22 rfl 3 i0 (.int .i64 0) Try.underlying22 hi hz0 hz1 hz2 5 rfl rfl (by omega) ?_
          intro u' hown hg
          have r := ro_made hown
          refine hK _ _ ⟨_, rfl, (fun h => by cases h), ⟨u.heap.size, rfl, hB.size, r⟩, But.of (grown_fr hg), (fun _ p hp => by cases hp; exact ⟨Nat.le_refl _, r.lt⟩)⟩
        · clear hiz
          cases ho
          intro act u hB hL hdep hap hnw
          replace hB := hB [] (fun j _ k hk => lb0_in j k hk)
          obtain ⟨y, ha, hy⟩ := hL.puts [19, 20, 21, 22] (by kernel_rfl)
          clear hdep hL hy hap hnw
          simp only [List.foldl, List.setIfInBounds_toArray, List.set_cons_succ, List.set_cons_zero] at ha
          subst ha
          refine wpOp_step rfl (fun K hK => ?_)
          go_simp
          exact hK _ _ ⟨_, rfl, (fun h => by cases h), rfl, But.refl _ _, (fun h => by cases h)⟩
        · clear hiz
          cases ho
          intro act u hB hL hdep hap hnw
          replace hB := hB [] (fun j _ k hk => lb0_in j k hk)
          have d0 := hdep { on := 0, ground := .data } (by simp) rfl _ rfl
          have d1 := hdep { on := 1, ground := .data } (by simp) rfl _ rfl
          have d2 := hdep { on := 2, ground := .data } (by simp) rfl _ rfl
          obtain ⟨y, ha, hy⟩ := hL.puts [19, 20, 21, 22] (by kernel_rfl)
          obtain ⟨g0, h0, b0, r0⟩ := d0
          have e0 : y 19 = .slice (some ⟨g0, 0, none⟩) 8 8 := (hy 19).symm.trans h0
          obtain ⟨g1, h1, b1, r1⟩ := d1
          have e1 : y 20 = .slice (some ⟨g1, 0, none⟩) 5 5 := (hy 20).symm.trans h1
          have e2 : y 21 = _ := (hy 21).symm.trans d2
          have ne1 := hap { on := 0, ground := .data } (by simp) { on := 1, ground := .data } (by simp) rfl rfl (by decide) rfl rfl _ _ rfl rfl g0 g1 (by rw [h0]; rfl) (by rw [h1]; rfl)
          clear hdep hL hy hap hnw d2 h0 h1
          simp only [List.foldl, List.setIfInBounds_toArray, List.set_cons_succ, List.set_cons_zero, e0, e1, e2] at ha
          subst ha
          clear e0 e1 e2
          refine wpOp_step rfl (fun K hK => ?_)
          go_simp
          exact hK _ _ ⟨_, rfl, (fun h => by cases h), ⟨g0, g1, rfl, r0, r1, b0, b1, ne1⟩, But.refl _ _, (fun h => by cases h)⟩
        · exact absurd rfl hiz
        · exact absurd ho (by simp)
      case fin =>
        intro act u hB hL hsf hap hnw
        have d3 := hsf 3 _ rfl (by decide)
        obtain ⟨y, ha, hy⟩ := hL.puts [19, 20, 21, 22] (by kernel_rfl)
        obtain ⟨gr, gc, h3, rR, rC, bR, bC, ne⟩ := d3
        have e3 : y 22 = .agg #[.int .i64 0, .slice (some ⟨gr, 0, none⟩) 8 8, .slice (some ⟨gc, 0, none⟩) 5 5, .slice (some ⟨w.heap.size + 1, 0, none⟩) 256 256] := (hy 22).symm.trans h3
        clear hL hsf hy hap hnw h3
        simp only [List.foldl, List.setIfInBounds_toArray, List.set_cons_succ, List.set_cons_zero, e3] at ha
        subst ha
        clear e3
        have Bz := HZ2.out.but hB (by simp)
        have Bz0 := Bz
        obtain ⟨lt, c0, c1, c2, c3, f0, f1, f2, f3⟩ := Bz0
        refine wpOp_step rfl (fun K hK => ?_)
        go_simp
        refine hK _ _ ?_
        have Bn := Bz.set (.int .i64 0) (.slice (some ⟨gr, 0, none⟩) 8 8) (.slice (some ⟨gc, 0, none⟩) 5 5) (.slice (some ⟨w.heap.size + 1, 0, none⟩) 256 256)
        have z0 := Bn.c0
        have z1 := Bn.c1
        have z2 := Bn.c2
        have z3 := Bn.c3
        have BS := (But.refl [w.heap.size] u).set4 w.heap.size (.int .i64 0) (.slice (some ⟨gr, 0, none⟩) 8 8) (.slice (some ⟨gc, 0, none⟩) 5 5) (.slice (some ⟨w.heap.size + 1, 0, none⟩) 256 256) (.inl (by simp))
        have HFin := Lib.hid (show Fr w _ from fr_but (fr_but F3.out hB (fun k hk => by cases hk)) BS (fun k hk => by have := List.mem_singleton.1 hk; omega))
        have HO := Lib.hid (show Own _ gr gc (w.heap.size + 1) (newS ws) from ⟨rR.but BS (by simp; omega), rC.but BS (by simp; omega), (RM.out.but hB (by simp)).but BS (by simp), ne, by omega, by omega⟩)
        clear Bn Bz c0 c1 c2 c3 f0 f1 f2 f3 BS
        generalize ((((u.setCell ⟨w.heap.size, 0, none⟩ (.int .i64 0)).setCell ⟨w.heap.size, 1, none⟩ (.slice (some ⟨gr, 0, none⟩) 8 8)).setCell ⟨w.heap.size, 2, none⟩ (.slice (some ⟨gc, 0, none⟩) 5 5)).setCell ⟨w.heap.size, 3, none⟩ (.slice (some ⟨w.heap.size + 1, 0, none⟩) 256 256)) = u9 at *
        go_wp2
        refine bodyPost_ret (v := .agg #[.int .i64 0, .slice (some ⟨gr, 0, none⟩) 8 8, .slice (some ⟨gc, 0, none⟩) 5 5, .slice (some ⟨w.heap.size + 1, 0, none⟩) 256 256]) (by simp [results, Try.results19, go_sem, z0, z1, z2, z3]) rfl (.inl ⟨HG.out, gr, gc, w.heap.size + 1, 8, 5, 256, rfl, HO.out, by omega, by omega, by omega, HFin.out⟩)
  · have hl' : (256 : Int) < (ws.length : Int) := by omega
    have HG := Lib.hid (show goodW ws = false by simp [goodW, hl])
    clear h F1
    go_enter Try.func19, Try.ntmps19
    go_wp2
    refine bodyPost_ret (v := noSt) (by simp [results, Try.results19, go_sem]) rfl (.inr ⟨HG.out, rfl, ?_⟩)
    (repeat' first | (with_reducible exact Below.refl _ _) | (with_reducible assumption) | ((with_reducible refine Below.setCell ?_ ?hb _); (case hb => first | exact Nat.le_refl _ | (simp; done) | (simp; omega) | omega)) | ((with_reducible refine Below.alloc ?_ ?hb _); (case hb => first | exact Nat.le_refl _ | (simp; done) | (simp; omega) | omega)) | (with_reducible refine Below.drew ?_))
def spSF (B : Nat) (x : Nat → Value) : Nat → World → Prop
  | 0, u => ∃ g, x 0 = .slice (some ⟨g, 0, none⟩) 8 8 ∧ B ≤ g ∧ Ro u g (zeros 8)
  | 1, u => ∃ g, x 1 = .slice (some ⟨g, 0, none⟩) 5 5 ∧ B ≤ g ∧ Ro u g (zeros 5)
  | 2, u => ∃ g, x 2 = .slice (some ⟨g, 0, none⟩) 256 256 ∧ B ≤ g ∧ Ro u g (zeros 256)
  | 3, _ => ∃ g0 g1 g2, x 0 = .slice (some ⟨g0, 0, none⟩) 8 8 ∧ x 1 = .slice (some ⟨g1, 0, none⟩) 5 5 ∧ x 2 = .slice (some ⟨g2, 0, none⟩) 256 256 ∧ x 3 = .agg #[.int .i64 0, .slice (some ⟨g0, 0, none⟩) 8 8, .slice (some ⟨g1, 0, none⟩) 5 5, .slice (some ⟨g2, 0, none⟩) 256 256]
  | 4, u => ∃ z, x 4 = .pointer (some ⟨z, 0, none⟩) ∧ B ≤ z ∧ Box4 u z (.int .i64 0) (.slice none 0 0) (.slice none 0 0) (.slice none 0 0)
  | _, _ => True
theorem take_set {ws : List Int} {p : Nat} (hp : p < ws.length) (hl : ws.length ≤ 256) : (ws.take p ++ zeros (256 - p)).set p (ws.getD p 0) = ws.take (p + 1) ++ zeros (256 - (p + 1)) := by
  have e : zeros (256 - p) = 0 :: zeros (256 - (p + 1)) := by
    have : 256 - p = (256 - (p + 1)) + 1 := by omega
    rw [this]; rfl
  have hlen : (ws.take p).length = p := by rw [List.length_take]; omega
  have h2 : ws.take (p + 1) = ws.take p ++ [ws.getD p 0] := by
    rw [List.take_add_one, List.getD_eq_getElem?_getD, List.getElem?_eq_getElem hp]
    rfl
  rw [e, List.set_append_right _ _ (by omega), hlen, Nat.sub_self, List.set_cons_zero, h2, List.append_assoc]
  rfl
def midS (ws : List Int) (p : Nat) : St := ⟨0, zeros 8, zeros 5, ws.take p ++ zeros (256 - p)⟩
theorem mid_len (ws : List Int) (p : Nat) (hp : p ≤ ws.length) (hl : ws.length ≤ 256) : (midS ws p).M.length = 256 := by
  simp [midS, zeros]; omega
set_option maxRecDepth 8000 in
set_option maxHeartbeats 4000000 in
theorem spec_PlnNew (ws : List Int) (ao : Option Addr) (cap : Nat) (w : World) (h : Src w ws.length (ivl ws) ao) (hn : ws.length ≤ 100000000) :
    Calls Try.prog 21 #[.slice ao ws.length cap] w (BegP ws w) := by
  obtain ⟨i0, hi, hz0, hz1, hz2⟩ := info_parts info_intV
  have HF := Lib.hid (Fr.alloc w (.cells #[.int .i64 0, .slice none 0 0, .slice none 0 0, .slice none 0 0] 26))
  have HZ := Lib.hid (Box4.new w (.int .i64 0) (.slice none 0 0) (.slice none 0 0) (.slice none 0 0) 26 _ rfl)
  have HS := Lib.hid h
  clear h
  go_enter Try.func21, Try.ntmps21
  go_wp2_with fail
  generalize hu : (w.alloc (.cells #[.int .i64 0, .slice none 0 0, .slice none 0 0, .slice none 0 0] 26)) = u0 at *
  have hu0 : u0.heap.size = w.heap.size + 1 := by rw [← hu]; simp
  clear hu
  refine wp_region_link 35 5 [] (fun _ => []) lb0_in (fun i => i == 0 || i == 1 || i == 2 || i == 4) (spSF u0.heap.size) ?mono (by kernel_rfl) (by kernel_rfl) rfl (by kernel_rfl) (by kernel_rfl) (by decide) ?step ?fin
  case mono =>
    intro i j x v u u' hi hij hdj hsz h hB
    rcases j with _ | _ | _ | _ | _ | j
    · obtain ⟨g, e, b, r⟩ := h
      exact ⟨g, (updX_other x v hij).trans e, b, r.but hB (by simp)⟩
    · obtain ⟨g, e, b, r⟩ := h
      exact ⟨g, (updX_other x v hij).trans e, b, r.but hB (by simp)⟩
    · obtain ⟨g, e, b, r⟩ := h
      exact ⟨g, (updX_other x v hij).trans e, b, r.but hB (by simp)⟩
    · obtain ⟨g0, g1, g2, k0, k1, k2, k3⟩ := h
      exact ⟨g0, g1, g2, (updX_other x v (fun e => by subst e; exact dep_no hdj (by kernel_rfl))).trans k0, (updX_other x v (fun e => by subst e; exact dep_no hdj (by kernel_rfl))).trans k1, (updX_other x v (fun e => by subst e; exact dep_no hdj (by kernel_rfl))).trans k2, (updX_other x v hij).trans k3⟩
    · obtain ⟨z, e, b, r⟩ := h
      exact ⟨z, (updX_other x v hij).trans e, b, r.but hB (by simp)⟩
    · trivial
  case step =>
    intro i o ho hiz
    rcases i with _ | _ | _ | _ | _ | _ | i
    · clear hiz
      cases ho
      intro x act u hB hL hdep hap hnw
      replace hB := hB [] (fun j _ k hk => lb0_in j k hk)
      obtain ⟨y, ha, hy⟩ := hL.puts [5, 6, 7, 8, 3] (by kernel_rfl)
      clear hdep hL hy hap hnw
      simp only [List.foldl, List.setIfInBounds_toArray, List.set_cons_succ, List.set_cons_zero] at ha
      subst ha
      refine wpOp_step rfl (fun K hK => ?_)
      rw [if_pos (by simp [Region.wanted])]
      refine wp_make_new _ _ 22 rfl 3 i0 (.int .i64 0) Try.underlying22 hi hz0 hz1 hz2 8 rfl rfl (by omega) ?_
      intro u' hown hg
      have r := ro_made hown
      refine hK _ _ ⟨_, rfl, (fun h => by cases h), ⟨u.heap.size, updX_same _ _ _, hB.size, r⟩, But.of (grown_fr hg), (fun _ p hp => by cases hp; exact ⟨Nat.le_refl _, r.lt⟩)⟩
    · clear hiz
      cases ho
      intro x act u hB hL hdep hap hnw
      replace hB := hB [] (fun j _ k hk => lb0_in j k hk)
      obtain ⟨y, ha, hy⟩ := hL.puts [5, 6, 7, 8, 3] (by kernel_rfl)
      clear hdep hL hy hap hnw
      simp only [List.foldl, List.setIfInBounds_toArray, List.set_cons_succ, List.set_cons_zero] at ha
      subst ha
      refine wpOp_step rfl (fun K hK => ?_)
      rw [if_pos (by simp [Region.wanted])]
      refine wp_make_new _ _ 22 rfl 3 i0 (.int .i64 0) Try.underlying22 hi hz0 hz1 hz2 5 rfl rfl (by omega) ?_
      intro u' hown hg
      have r := ro_made hown
      refine hK _ _ ⟨_, rfl, (fun h => by cases h), ⟨u.heap.size, updX_same _ _ _, hB.size, r⟩, But.of (grown_fr hg), (fun _ p hp => by cases hp; exact ⟨Nat.le_refl _, r.lt⟩)⟩
    · clear hiz
      cases ho
      intro x act u hB hL hdep hap hnw
      replace hB := hB [] (fun j _ k hk => lb0_in j k hk)
      obtain ⟨y, ha, hy⟩ := hL.puts [5, 6, 7, 8, 3] (by kernel_rfl)
      clear hdep hL hy hap hnw
      simp only [List.foldl, List.setIfInBounds_toArray, List.set_cons_succ, List.set_cons_zero] at ha
      subst ha
      refine wpOp_step rfl (fun K hK => ?_)
      rw [if_pos (by simp [Region.wanted])]
      refine wp_make_new _ _ 22 rfl 3 i0 (.int .i64 0) Try.underlying22 hi hz0 hz1 hz2 256 rfl rfl (by omega) ?_
      intro u' hown hg
      have r := ro_made hown
      refine hK _ _ ⟨_, rfl, (fun h => by cases h), ⟨u.heap.size, updX_same _ _ _, hB.size, r⟩, But.of (grown_fr hg), (fun _ p hp => by cases hp; exact ⟨Nat.le_refl _, r.lt⟩)⟩
    · clear hiz
      cases ho
      intro x act u hB hL hdep hap hnw
      replace hB := hB [] (fun j _ k hk => lb0_in j k hk)
      obtain ⟨q0, d0⟩ := hdep { on := 0, ground := .data } (by simp) rfl _ rfl
      obtain ⟨q1, d1⟩ := hdep { on := 1, ground := .data } (by simp) rfl _ rfl
      obtain ⟨q2, d2⟩ := hdep { on := 2, ground := .data } (by simp) rfl _ rfl
      obtain ⟨y, ha, hy⟩ := hL.puts [5, 6, 7, 8, 3] (by kernel_rfl)
      obtain ⟨g0, h0, b0, r0⟩ := d0
      have e0 : y 5 = .slice (some ⟨g0, 0, none⟩) 8 8 := (hy 5).symm.trans (q0.trans h0)
      obtain ⟨g1, h1, b1, r1⟩ := d1
      have e1 : y 6 = .slice (some ⟨g1, 0, none⟩) 5 5 := (hy 6).symm.trans (q1.trans h1)
      obtain ⟨g2, h2, b2, r2⟩ := d2
      have e2 : y 7 = .slice (some ⟨g2, 0, none⟩) 256 256 := (hy 7).symm.trans (q2.trans h2)
      clear hdep hL hy hap hnw q0 q1 q2
      simp only [List.foldl, List.setIfInBounds_toArray, List.set_cons_succ, List.set_cons_zero, e0, e1, e2] at ha
      subst ha
      clear e0 e1 e2
      refine wpOp_step rfl (fun K hK => ?_)
      go_simp
      exact hK _ _ ⟨_, rfl, (fun h => by cases h), ⟨g0, g1, g2, (updX_other x _ (by decide)).trans h0, (updX_other x _ (by decide)).trans h1, (updX_other x _ (by decide)).trans h2, updX_same _ _ _⟩, But.refl _ _, (fun h => by cases h)⟩
    · clear hiz
      cases ho
      intro x act u hB hL hdep hap hnw
      replace hB := hB [] (fun j _ k hk => lb0_in j k hk)
      obtain ⟨y, ha, hy⟩ := hL.puts [5, 6, 7, 8, 3] (by kernel_rfl)
      clear hdep hL hy hap hnw
      simp only [List.foldl, List.setIfInBounds_toArray, List.set_cons_succ, List.set_cons_zero] at ha
      subst ha
      refine wpOp_step rfl (fun K hK => ?_)
      go_simp
      refine hK _ _ ⟨_, rfl, (fun h => by cases h), ⟨u.heap.size, updX_same _ _ _, hB.size, Box4.new u _ _ _ _ _ _ rfl⟩, But.of (Fr.alloc _ _), (fun _ p hp => by cases hp; exact ⟨Nat.le_refl _, by simp⟩)⟩
    · exact absurd rfl hiz
    · exact absurd ho (by simp)
  case fin =>
    intro x act u hB hL hsf hap hnw
    obtain ⟨q0, d0⟩ := hsf 0 _ rfl (by decide)
    obtain ⟨q1, d1⟩ := hsf 1 _ rfl (by decide)
    obtain ⟨q2, d2⟩ := hsf 2 _ rfl (by decide)
    obtain ⟨q3, d3⟩ := hsf 3 _ rfl (by decide)
    obtain ⟨q4, d4⟩ := hsf 4 _ rfl (by decide)
    obtain ⟨y, ha, hy⟩ := hL.puts [5, 6, 7, 8, 3] (by kernel_rfl)
    obtain ⟨g0, h0, b0, r0⟩ := d0
    have e0 : y 5 = .slice (some ⟨g0, 0, none⟩) 8 8 := (hy 5).symm.trans (q0.trans h0)
    obtain ⟨g1, h1, b1, r1⟩ := d1
    have e1 : y 6 = .slice (some ⟨g1, 0, none⟩) 5 5 := (hy 6).symm.trans (q1.trans h1)
    obtain ⟨g2, h2, b2, r2⟩ := d2
    have e2 : y 7 = .slice (some ⟨g2, 0, none⟩) 256 256 := (hy 7).symm.trans (q2.trans h2)
    obtain ⟨a0, a1, a2, k0, k1, k2, h3⟩ := d3
    have e3 : y 8 = .agg #[.int .i64 0, .slice (some ⟨a0, 0, none⟩) 8 8, .slice (some ⟨a1, 0, none⟩) 5 5, .slice (some ⟨a2, 0, none⟩) 256 256] := (hy 8).symm.trans (q3.trans h3)
    obtain ⟨z, h4, b4, Bz⟩ := d4
    have e4 : y 3 = .pointer (some ⟨z, 0, none⟩) := (hy 3).symm.trans (q4.trans h4)
    have n01 := hap 0 1 _ _ rfl rfl (by decide) (by decide) (by decide) rfl rfl g0 g1 (by rw [q0, h0]; rfl) (by rw [q1, h1]; rfl)
    have n02 := hap 0 2 _ _ rfl rfl (by decide) (by decide) (by decide) rfl rfl g0 g2 (by rw [q0, h0]; rfl) (by rw [q2, h2]; rfl)
    have n12 := hap 1 2 _ _ rfl rfl (by decide) (by decide) (by decide) rfl rfl g1 g2 (by rw [q1, h1]; rfl) (by rw [q2, h2]; rfl)
    have n04 := hap 0 4 _ _ rfl rfl (by decide) (by decide) (by decide) rfl rfl g0 z (by rw [q0, h0]; rfl) (by rw [q4, h4]; rfl)
    have n14 := hap 1 4 _ _ rfl rfl (by decide) (by decide) (by decide) rfl rfl g1 z (by rw [q1, h1]; rfl) (by rw [q4, h4]; rfl)
    have n24 := hap 2 4 _ _ rfl rfl (by decide) (by decide) (by decide) rfl rfl g2 z (by rw [q2, h2]; rfl) (by rw [q4, h4]; rfl)
    obtain rfl : g0 = a0 := by have := h0.symm.trans k0; injection this with h; injection h with h; injection h
    obtain rfl : g1 = a1 := by have := h1.symm.trans k1; injection this with h; injection h with h; injection h
    obtain rfl : g2 = a2 := by have := h2.symm.trans k2; injection this with h; injection h with h; injection h
    clear k0 k1 k2
    clear hL hsf hy hap hnw q0 q1 q2 q3 q4 h0 h1 h2 h3 h4
    simp only [List.foldl, List.setIfInBounds_toArray, List.set_cons_succ, List.set_cons_zero, e0, e1, e2, e3, e4] at ha
    subst ha
    clear e0 e1 e2 e3 e4
    have Bz0 := Bz
    obtain ⟨lt, c0, c1, c2, c3, f0, f1, f2, f3⟩ := Bz0
    refine wpOp_step rfl (fun K hK => ?_)
    go_simp
    refine hK _ _ ?_
    have Bn := Bz.set (.int .i64 0) (.slice (some ⟨g0, 0, none⟩) 8 8) (.slice (some ⟨g1, 0, none⟩) 5 5) (.slice (some ⟨g2, 0, none⟩) 256 256)
    have BS := (But.refl [z] u).set4 z (.int .i64 0) (.slice (some ⟨g0, 0, none⟩) 8 8) (.slice (some ⟨g1, 0, none⟩) 5 5) (.slice (some ⟨g2, 0, none⟩) 256 256) (.inl (by simp))
    have HFin := Lib.hid (show Fr w _ from fr_but (fr_but HF.out hB (fun k hk => by cases hk)) BS (fun k hk => by have := List.mem_singleton.1 hk; omega))
    have HO := Lib.hid (show Own _ g0 g1 g2 (midS ws 0) from ⟨r0.but BS (by simp; omega), r1.but BS (by simp; omega), r2.but BS (by simp; omega), n01, n02, n12⟩)
    have HZ9 := Lib.hid ((HZ.out.but hB (by simp)).but BS (by simp; omega))
    have HB9 := Lib.hid Bn
    clear Bn Bz c0 c1 c2 c3 f0 f1 f2 f3 BS r0 r1 r2 lt hB HZ HF
    generalize ((((u.setCell ⟨z, 0, none⟩ (.int .i64 0)).setCell ⟨z, 1, none⟩ (.slice (some ⟨g0, 0, none⟩) 8 8)).setCell ⟨z, 2, none⟩ (.slice (some ⟨g1, 0, none⟩) 5 5)).setCell ⟨z, 3, none⟩ (.slice (some ⟨g2, 0, none⟩) 256 256)) = u9 at *
    clear u
    by_cases hl : ws.length ≤ 256
    · have hl' : ¬ (256 : Int) < (ws.length : Int) := by omega
      go_wp2_with fail
      go_loopw [4] (fun k wr => ∃ p : Nat, p ≤ ws.length ∧ k = .int .i64 p ∧ (∀ i, i < p → okB (ws.getD i 0) = true) ∧ Own wr g0 g1 g2 (midS ws p) ∧ But [g2] u9 wr) (fun k _ => ws.length - (intOf k).toNat)
      case atStart => exact ⟨0, Nat.zero_le _, rfl, fun i hi => absurd hi (Nat.not_lt_zero _), HO.out, But.refl _ _⟩
      case round =>
        obtain ⟨p, hp, rfl, hok, hO, hB⟩ := hrel
        have HK := Lib.hid hok
        have HOw := Lib.hid hO
        have HBt := Lib.hid hB
        have FW : Fr w wr := fr_but HFin.out hB (fun k hk => by have := List.mem_singleton.1 hk; omega)
        have HFw := Lib.hid FW
        have Zr := HZ9.out.but hB (by simp; omega)
        obtain ⟨zl, zc0, zc1, zc2, zc3, zf0, zf1, zf2, zf3⟩ := Zr
        have Br := HB9.out.but hB (by simp; omega)
        obtain ⟨bl, bc0, bc1, bc2, bc3, _, _, _, _⟩ := Br
        have hzw : ¬ z = w.heap.size := by omega
        have hzw' : ¬ w.heap.size = z := by omega
        by_cases hlt : p < ws.length
        · have hlt' : (p : Int) < (ws.length : Int) := by omega
          have hlt2 : (p : Int) < 256 := by omega
          obtain ⟨g, o, rfl, hgl, hc⟩ := HS.out (by omega)
          have d0 : wr.cell? ⟨g, o + p, none⟩ = some (.int .i64 (ws.getD p 0)) := by rw [FW.cell (show g < w.heap.size from hgl)]; exact hc p hlt
          have hg2 : ¬ g = g2 := by omega
          have e0 := hO.M.cel p (by rw [mid_len ws p hp hl]; omega)
          have e1 := hO.M.fro p (by rw [mid_len ws p hp hl]; omega)
          generalize (midS ws p).M.getD p 0 = ov at e0
          cases hk : okB (ws.getD p 0)
          · have HG := Lib.hid (show goodW ws = false by simp [goodW, all_not hlt hk])
            clear hok hO hB FW hc
            generalize ws.getD p 0 = v at d0 hk
            go_wp2_with (go_at_call 22; refine (spec_WrdOk _ _).mono ?_; rintro e w' ⟨rfl, rfl⟩)
            refine bodyPost_ret (v := noSt) (by simp [results, Try.results21, go_sem, zc0, zc1, zc2, zc3]) rfl (.inr ⟨HG.out, rfl, ?_⟩)
            exact fr_but HFw.out ((But.refl [w.heap.size] wr).set4 w.heap.size _ _ _ _ (.inl (by simp))) (fun k hk => by have := List.mem_singleton.1 hk; omega)
          · have HO2 := Lib.hid (show ∀ i, i < p + 1 → okB (ws.getD i 0) = true from fun i hi => by
              rcases Nat.lt_succ_iff_lt_or_eq.1 hi with h | h
              · exact HK.out i h
              · rw [h]; exact hk)
            have HST := Lib.hid (take_set hlt hl)
            have hv := Lib.hid (rfl : ws.getD p 0 = ws.getD p 0)
            clear hok hO hB FW hc
            generalize ws.getD p 0 = v at d0 hk HST
            go_wp2_with (go_at_call 22; refine (spec_WrdOk _ _).mono ?_; rintro e w' ⟨rfl, rfl⟩)
            go_still_tail 7, (by kernel_rfl)
            change wpList _ _ _ _ _ wr.drew
            have HOd := Lib.hid HOw.out.drew
            have HBd := Lib.hid HBt.out.drew
            have e0' : wr.drew.cell? ⟨g2, p, none⟩ = some (.int .i64 ov) := e0
            have e1' : wr.drew.frozen? ⟨g2, p, none⟩ = false := e1
            generalize wr.drew = w2 at *
            go_wp2
            go_roundw
            case rel =>
              refine ⟨p + 1, by omega, by go_num, HO2.out, ?_, HBd.out.set g2 p _ (.inl (by simp))⟩
              have := HOd.out.setM p v (by rw [mid_len ws p hp hl]; omega) 0
              rw [show (midS ws p).M.set p v = (midS ws (p + 1)).M from HST.out] at this
              exact this
            case measure => simp [intOf]; omega
        · have hge : ¬ (p : Int) < (ws.length : Int) := by omega
          obtain rfl : p = ws.length := by omega
          have HG := Lib.hid (show goodW ws = true by simp [goodW, hl]; exact List.all_eq_true.1 (all_take HK.out (Nat.le_refl _)))
          have HE := Lib.hid (show midS ws ws.length = newS ws by simp [midS, newS, newM])
          clear hok hO hB FW
          go_wp2
          refine bodyPost_ret (v := .agg #[.int .i64 0, .slice (some ⟨g0, 0, none⟩) 8 8, .slice (some ⟨g1, 0, none⟩) 5 5, .slice (some ⟨g2, 0, none⟩) 256 256]) (by simp [results, Try.results21, go_sem, zc0, zc1, zc2, zc3]) rfl (.inl ⟨HG.out, g0, g1, g2, 8, 5, 256, rfl, ?_, by omega, by omega, by omega, ?_⟩)
          · rw [← HE.out]
            exact HOw.out.but ((But.refl [w.heap.size] wr).set4 w.heap.size _ _ _ _ (.inl (by simp))) (by simp; omega) (by simp; omega) (by simp; omega)
          · exact fr_but HFw.out ((But.refl [w.heap.size] wr).set4 w.heap.size _ _ _ _ (.inl (by simp))) (fun k hk => by have := List.mem_singleton.1 hk; omega)
    · have hl' : (256 : Int) < (ws.length : Int) := by omega
      have HG := Lib.hid (show goodW ws = false by simp [goodW, hl])
      obtain ⟨zl, zc0, zc1, zc2, zc3, zf0, zf1, zf2, zf3⟩ := HZ9.out
      go_wp2
      refine bodyPost_ret (v := noSt) (by simp [results, Try.results21, go_sem, zc0, zc1, zc2, zc3]) rfl (.inr ⟨HG.out, rfl, ?_⟩)
      exact fr_but HFin.out ((But.refl [w.heap.size] u9).set4 w.heap.size _ _ _ _ (.inl (by simp))) (fun k hk => by have := List.mem_singleton.1 hk; omega)

end Go.Proofs.Ytmkinbnopgfljaa
