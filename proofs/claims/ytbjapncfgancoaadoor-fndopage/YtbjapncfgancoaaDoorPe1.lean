/- What the laws of chapter 4 run: two words out of a code; one instruction, done. -/
import Derived.Test.YtbjapncfgancoaaDoorPmd
import Derived.Test.YtbjapncfgancoaaDoorPl5
import Derived.Test.YtbjapncfgancoaaDoorDrawInst
namespace Go.Proofs.YtbjapncfgancoaaDoor
open Go.RowKit
set_option linter.unusedVariables false
set_option linter.unusedSimpArgs false
def TwoW (w : World) (e : Ending) (w' : World) : Prop := ∃ a b : Int, okB a = true ∧ okB b = true ∧ e = .returned (.tuple #[.int .i64 a, .int .i64 b]) ∧ w = w'
set_option maxHeartbeats 2000000 in
theorem laws_haWords (B : Nat) (s : Option Addr) (len cap : Nat) (w : World) (h : Code1 B w s len cap) (hl : len ≤ 1048576) :
    Calls Tryd.prog 32 #[.slice s len cap] w (TwoW w) := by
  have HB := Lib.hid h.2.2.2.1
  clear h
  go_enter Tryd.func32, Tryd.ntmps32
  go_wp2_with fail
  go_loopw [4, 5, 6] (fun x y i wr => ∃ (p : Nat) (xv yv : Int), p ≤ len ∧ 0 ≤ xv ∧ xv < 65536 ∧ 0 ≤ yv ∧ yv < 65536 ∧ x = .int .i64 xv ∧ y = .int .i64 yv ∧ i = .int .i64 p ∧ w = wr) (fun _ _ i _ => len - (intOf i).toNat)
  case atStart => exact ⟨0, _, 0, Nat.zero_le _, by omega, by omega, by omega, by omega, rfl, rfl, rfl, rfl⟩
  case round =>
    obtain ⟨p, xv, yv, hp, x0, x1, y0, y1, rfl, rfl, rfl, rfl⟩ := hrel
    by_cases hlt : p < len
    · have hlt' : (p : Int) < (len : Int) := by omega
      by_cases h40 : p < 40
      · have h40' : (p : Int) < 40 := by omega
        have hb := HB.out
        rcases hb with h0 | ⟨sb, so, z, rfl, _, hc, hz⟩
        · omega
        · have c := hc p hlt
          have hzp := hz p
          generalize z p = zp at c hzp
          obtain ⟨z0, z1⟩ := hzp
          clear hc hz
          go_wp2
          go_roundw
          case rel => exact ⟨p + 1, _, _, by omega, by omega, by omega, by omega, by omega, rfl, rfl, by go_num, by trivial⟩
          case measure => simp [intOf]; omega
      · have h40' : ¬ (p : Int) < 40 := by omega
        go_wp2
        refine bodyPost_ret (v := .tuple #[.int .i64 xv, .int .i64 yv]) (by simp [results, Tryd.results32, go_sem]) rfl ⟨xv, yv, okB_mk x0 x1, okB_mk y0 y1, rfl, rfl⟩
    · have hlt' : ¬ (p : Int) < (len : Int) := by omega
      go_wp2
      refine bodyPost_ret (v := .tuple #[.int .i64 xv, .int .i64 yv]) (by simp [results, Tryd.results32, go_sem]) rfl ⟨xv, yv, okB_mk x0 x1, okB_mk y0 y1, rfl, rfl⟩
def hM (pc wd : Int) : List Int := (zeros 256).set pc.toNat wd
def hR (a b : Int) : List Int := (((zeros 8).set 1 a).set 2 b).set 3 12345
def hS (pc wd a b : Int) : St := ⟨pc, hR a b, zeros 5, hM pc wd⟩
theorem zeros_ok (n : Nat) : (zeros n).all okB = true := by
  rw [List.all_eq_true]
  intro x hx
  rw [List.eq_of_mem_replicate hx]
  rfl
theorem hS_ok {pc wd a b : Int} (h0 : 0 ≤ pc) (h1 : pc < 256) (hw : okB wd = true) (ha : okB a = true) (hb : okB b = true) : OkS (hS pc wd a b) :=
  ⟨okB_mk h0 (by show pc < 65536; omega), ok_set (ok_set (ok_set (zeros_ok 8) _ ha) _ hb) _ (by rfl), by simp [hS, hR, zeros], zeros_ok 5, by simp [hS, zeros], ok_set (zeros_ok 256) _ hw, by show ((zeros 256).set _ _).length = 256; rw [List.length_set]; exact zeros_len 256, by simp [hS, hR, zeros], by simp [hS, zeros]⟩
/-- Behind haRun: the machine, and the machine behind its step, in rows apart. -/
def RunQ (pc wd a b : Int) (w : World) (e : Ending) (w' : World) : Prop :=
  ∃ (g1 g2 g3 gr gc gm x1 x2 x3 xr xc xm X0 : Nat), e = .returned (.tuple #[.agg #[.int .i64 pc, .slice (some ⟨g1, 0, none⟩) 8 gr, .slice (some ⟨g2, 0, none⟩) 5 gc, .slice (some ⟨g3, 0, none⟩) 256 gm], .agg #[.int .i64 (stepS (hS pc wd a b) false).1.pc, .slice (some ⟨x1, 0, none⟩) 8 xr, .slice (some ⟨x2, 0, none⟩) 5 xc, .slice (some ⟨x3, 0, none⟩) 256 xm], .agg #[.int .i64 ((stepS (hS pc wd a b) false).2).pc, .int .i64 ((stepS (hS pc wd a b) false).2).w, .int .i64 ((stepS (hS pc wd a b) false).2).why, .int .i64 ((stepS (hS pc wd a b) false).2).d, .int .i64 ((stepS (hS pc wd a b) false).2).v, .int .i64 ((stepS (hS pc wd a b) false).2).ad, .int .i64 ((stepS (hS pc wd a b) false).2).dt]]) ∧ Own w' g1 g2 g3 (hS pc wd a b) ∧ Own w' x1 x2 x3 (stepS (hS pc wd a b) false).1 ∧ (w.heap.size ≤ g1 ∧ w.heap.size ≤ g2 ∧ w.heap.size ≤ g3 ∧ g1 < X0 ∧ g2 < X0 ∧ g3 < X0 ∧ X0 ≤ x1 ∧ X0 ≤ x2 ∧ X0 ≤ x3) ∧ Fr w w'
set_option maxRecDepth 8000 in
set_option maxHeartbeats 8000000 in
theorem laws_haRun (k d ra rb f n pc a b : Int) (hi : iok k d ra rb f n = true) (h0 : 0 ≤ pc) (h1 : pc < 256) (ha : okB a = true) (hb : okB b = true) (w : World) (ht : Tabs w) :
    Calls Tryd.prog 33 #[.agg #[.int .i64 k, .int .i64 d, .int .i64 ra, .int .i64 rb, .int .i64 f, .int .i64 n], .int .i64 pc, .int .i64 a, .int .i64 b] w (RunQ pc (worD k d ra rb f n) a b w) := by
  have F5 : Fr w (((((w.alloc (.cells #[.int .i64 k, .int .i64 d, .int .i64 ra, .int .i64 rb, .int .i64 f, .int .i64 n] 48)).alloc (.cells #[.int .i64 0, .slice none 0 0, .slice none 0 0, .slice none 0 0] 26)).alloc (.cells #[.int .i64 0, .slice none 0 0, .slice none 0 0, .slice none 0 0] 26)).alloc (.cells #[.int .i64 0, .int .i64 0, .int .i64 0, .int .i64 0, .int .i64 0, .int .i64 0, .int .i64 0] 28)).alloc (.cells #[] 3)) := by
    (repeat' first | (with_reducible exact Below.refl _ _) | (with_reducible assumption) | ((with_reducible refine Below.setCell ?_ ?hb _); (case hb => first | exact Nat.le_refl _ | (simp; done) | (simp; omega) | omega)) | ((with_reducible refine Below.alloc ?_ ?hb _); (case hb => first | exact Nat.le_refl _ | (simp; done) | (simp; omega) | omega)) | (with_reducible refine Below.drew ?_))
  have E := impl_PlnNew [] (some ⟨w.heap.size + 4, 0, none⟩) 0 (((((w.alloc (.cells #[.int .i64 k, .int .i64 d, .int .i64 ra, .int .i64 rb, .int .i64 f, .int .i64 n] 48)).alloc (.cells #[.int .i64 0, .slice none 0 0, .slice none 0 0, .slice none 0 0] 26)).alloc (.cells #[.int .i64 0, .slice none 0 0, .slice none 0 0, .slice none 0 0] 26)).alloc (.cells #[.int .i64 0, .int .i64 0, .int .i64 0, .int .i64 0, .int .i64 0, .int .i64 0, .int .i64 0] 28)).alloc (.cells #[] 3)) (fun h => by simp at h) (by simp)
  simp only [List.length_nil] at E
  have HE := Lib.hid E
  have HF := Lib.hid F5
  have HT := Lib.hid ht
  have hwb := worD_bd hi
  obtain ⟨wd, hwd⟩ : ∃ x, worD k d ra rb f n = x := ⟨_, rfl⟩
  rw [hwd] at hwb ⊢
  have HWD := Lib.hid hwd
  have HOK := Lib.hid (hS_ok (wd := wd) h0 h1 (okB_mk hwb.1 hwb.2) ha hb)
  unfold RunQ
  obtain ⟨s2, hs2⟩ : ∃ x, (stepS (hS pc wd a b) false).1 = x := ⟨_, rfl⟩
  obtain ⟨e2, he2⟩ : ∃ x, (stepS (hS pc wd a b) false).2 = x := ⟨_, rfl⟩
  rw [hs2, he2]
  have HS2 := Lib.hid hs2
  have HE2 := Lib.hid he2
  clear hs2 he2 hwd E F5 ht hi hwb ha hb
  go_enter Tryd.func33, Tryd.ntmps33
  go_wp2_with fail
  simp only [Nat.add_assoc, Nat.reduceAdd]
  refine HE.out.mono ?_
  rintro e u1 hbg
  replace hbg := hbg.elim (fun h => h.2) (fun h => absurd h.1 (by decide))
  obtain ⟨g1, g2, g3, gr, gc, gm, rfl, ho0, l1, l2, l3, f1⟩ := hbg
  have ho : Own u1 g1 g2 g3 ⟨0, zeros 8, zeros 5, zeros 256⟩ := ho0
  have l1' : w.heap.size + 5 ≤ g1 := by simpa using l1
  have l2' : w.heap.size + 5 ≤ g2 := by simpa using l2
  have l3' : w.heap.size + 5 ≤ g3 := by simpa using l3
  have bi : Box u1 w.heap.size k d ra rb f n := by
    refine Box.fr ?_ f1
    (repeat (first | (with_reducible assumption) | (with_reducible exact Box.new6 _ _ _ _ _ _ _ _ _ (by first | rfl | simp | (simp; omega))) | (with_reducible refine Box.alloc ?_ _) | (with_reducible refine Box.drew ?_) | (with_reducible refine Box.drewN ?_ _) | (with_reducible refine Box.other ?_ _ _ _ (by omega))))
  have b8 : Box4 u1 (w.heap.size + 1) (.int .i64 0) (.slice none 0 0) (.slice none 0 0) (.slice none 0 0) :=
    ((((Box4.new (w.alloc (.cells #[.int .i64 k, .int .i64 d, .int .i64 ra, .int .i64 rb, .int .i64 f, .int .i64 n] 48)) (.int .i64 0) (.slice none 0 0) (.slice none 0 0) (.slice none 0 0) 26 (w.heap.size + 1) (by simp)).alloc _).alloc _).alloc _).fr f1
  have b9 : Box4 u1 (w.heap.size + 2) (.int .i64 0) (.slice none 0 0) (.slice none 0 0) (.slice none 0 0) := by
    refine Box4.fr ?_ f1
    (repeat (first | (with_reducible assumption) | (with_reducible exact Box4.new _ _ _ _ _ _ _ (by first | rfl | simp | (simp; omega))) | (with_reducible refine Box4.alloc ?_ _) | (with_reducible refine Box4.drew ?_) | (with_reducible refine Box4.drewN ?_ _) | (with_reducible refine Box4.other ?_ _ _ _ (by omega))))
  have b10 : Box7 u1 (w.heap.size + 3) ⟨0, 0, 0, 0, 0, 0, 0⟩ := by
    refine Box7.fr ?_ f1
    (repeat (first | (with_reducible assumption) | (with_reducible exact Box7.new _ _ _ _ (by first | rfl | simp | (simp; omega))) | (with_reducible exact Box7.newv _ _ _ _ _ _ _ _ _ _ (by first | rfl | simp | (simp; omega))) | (with_reducible refine Box7.alloc ?_ _) | (with_reducible refine Box7.drew ?_) | (with_reducible refine Box7.drewN ?_ _) | (with_reducible refine Box7.other ?_ _ _ _ (by omega))))
  have F0 := Fr.alloc u1 (.cells #[.int .i64 pc, .slice (some ⟨g1, 0, none⟩) 8 gr, .slice (some ⟨g2, 0, none⟩) 5 gc, .slice (some ⟨g3, 0, none⟩) 256 gm] 26)
  have HI := Lib.hid (bi.fr F0)
  have H8 := Lib.hid (b8.fr F0)
  have H9 := Lib.hid (b9.fr F0)
  have H10 := Lib.hid (b10.fr F0)
  have HO := Lib.hid (ho.fr F0)
  have hgt := HT.out.two
  have HF1 := Lib.hid (Fr.trans (Fr.trans HF.out f1) F0)
  have HT1 := Lib.hid (HT.out.fr HF1.out)
  have HX := Lib.hid (Box4.new u1 (.int .i64 pc) (.slice (some ⟨g1, 0, none⟩) 8 gr) (.slice (some ⟨g2, 0, none⟩) 5 gc) (.slice (some ⟨g3, 0, none⟩) 256 gm) 26 _ rfl)
  have m1 := ho.R.lt
  have m2 := ho.C.lt
  have m3 := ho.M.lt
  clear ho ho0 l1 l2 l3 f1 bi b8 b9 b10 F0 HF HT HE
  go_wp2_with fail
  generalize (u1.alloc (.cells #[.int .i64 pc, .slice (some ⟨g1, 0, none⟩) 8 gr, .slice (some ⟨g2, 0, none⟩) 5 gc, .slice (some ⟨g3, 0, none⟩) 256 gm] 26)) = u2 at *
  generalize u1.heap.size = X at *
  refine wp_region_lots 43 (fun i => if i = 6 then [g3] else []) (fun _ _ => True) (fun i v u => match i with | 0 => v = .pointer (some ⟨X, 3, none⟩) | 1 => v = .slice (some ⟨g3, 0, none⟩) 256 gm | 2 => v = .int .i64 pc | 3 => v = .agg #[.int .i64 k, .int .i64 d, .int .i64 ra, .int .i64 rb, .int .i64 f, .int .i64 n] | 4 => v = .int .i64 wd | 5 => v = .pointer (some ⟨g3, pc.toNat, none⟩) | 6 => Own u g1 g2 g3 ⟨pc, zeros 8, zeros 5, hM pc wd⟩ | _ => True) ?mono (by kernel_rfl) (by kernel_rfl) rfl (by kernel_rfl) trivial ?step ?fin
  case mono =>
    intro i j v u u' hij hsz h hB
    rcases j with _ | _ | _ | _ | _ | _ | _ | j
    · exact h
    · exact h
    · exact h
    · exact h
    · exact h
    · exact h
    · exact h.but (L := []) (by have hx := hB; simp only [if_neg hij] at hx; exact hx) (by simp) (by simp) (by simp)
    · trivial
  case step =>
    intro i o ho
    rcases i with _ | _ | _ | _ | _ | _ | _ | i
    · cases ho
      intro fu act u hW hB hsz hL hdep
      replace hB := hB [g3] (fun j hj hd k hk => by
        by_cases y6 : j = 6
        · rw [if_pos y6] at hk; simp at hk; simp [hk]
        rw [if_neg y6] at hk
        cases hk)
      obtain ⟨ysl, ha, hy⟩ := hL.puts [18, 19, 20, 21, 22, 23] (by kernel_rfl)
      clear hdep hL hy
      simp only [List.foldl, List.setIfInBounds_toArray, List.set_cons_succ, List.set_cons_zero] at ha
      subst ha
      refine wpOp_step rfl (fun K hK => ?_)
      go_simp
      exact hK _ _ ⟨_, rfl, (fun h => by cases h), rfl, But.refl _ _, trivial⟩
    · cases ho
      intro fu act u hW hB hsz hL hdep
      replace hB := hB [g3] (fun j hj hd k hk => by
        by_cases y6 : j = 6
        · rw [if_pos y6] at hk; simp at hk; simp [hk]
        rw [if_neg y6] at hk
        cases hk)
      have d0 := hdep { on := 0, ground := .data } (by simp) rfl _ rfl
      obtain ⟨ysl, ha, hy⟩ := hL.puts [18, 19, 20, 21, 22, 23] (by kernel_rfl)
      have e0 : ysl 18 = _ := (hy 18).symm.trans d0
      clear hdep hL hy d0
      simp only [List.foldl, List.setIfInBounds_toArray, List.set_cons_succ, List.set_cons_zero, e0] at ha
      subst ha
      clear e0
      obtain ⟨_, c0, c1, c2, c3, _, _, _, _⟩ := HX.out.but hB (by simp; omega)
      refine wpOp_step rfl (fun K hK => ?_)
      go_simp
      exact hK _ _ ⟨_, rfl, (fun h => by cases h), rfl, But.refl _ _, trivial⟩
    · cases ho
      intro fu act u hW hB hsz hL hdep
      replace hB := hB [g3] (fun j hj hd k hk => by
        by_cases y6 : j = 6
        · rw [if_pos y6] at hk; simp at hk; simp [hk]
        rw [if_neg y6] at hk
        cases hk)
      obtain ⟨ysl, ha, hy⟩ := hL.puts [18, 19, 20, 21, 22, 23] (by kernel_rfl)
      clear hdep hL hy
      simp only [List.foldl, List.setIfInBounds_toArray, List.set_cons_succ, List.set_cons_zero] at ha
      subst ha
      refine wpOp_step rfl (fun K hK => ?_)
      go_simp
      exact hK _ _ ⟨_, rfl, (fun h => by cases h), rfl, But.refl _ _, trivial⟩
    · cases ho
      intro fu act u hW hB hsz hL hdep
      replace hB := hB [g3] (fun j hj hd k hk => by
        by_cases y6 : j = 6
        · rw [if_pos y6] at hk; simp at hk; simp [hk]
        rw [if_neg y6] at hk
        cases hk)
      obtain ⟨ysl, ha, hy⟩ := hL.puts [18, 19, 20, 21, 22, 23] (by kernel_rfl)
      clear hdep hL hy
      simp only [List.foldl, List.setIfInBounds_toArray, List.set_cons_succ, List.set_cons_zero] at ha
      subst ha
      obtain ⟨c0, c1, c2, c3, c4, c5⟩ := HI.out.but hB (by simp; omega)
      refine wpOp_step rfl (fun K hK => ?_)
      go_simp
      exact hK _ _ ⟨_, rfl, (fun h => by cases h), rfl, But.refl _ _, trivial⟩
    · cases ho
      intro fu act u hW hB hsz hL hdep
      replace hB := hB [g3] (fun j hj hd k hk => by
        by_cases y6 : j = 6
        · rw [if_pos y6] at hk; simp at hk; simp [hk]
        rw [if_neg y6] at hk
        cases hk)
      have d3 := hdep { on := 3, ground := .data } (by simp) rfl _ rfl
      obtain ⟨ysl, ha, hy⟩ := hL.puts [18, 19, 20, 21, 22, 23] (by kernel_rfl)
      have e3 : ysl 21 = _ := (hy 21).symm.trans d3
      clear hdep hL hy d3
      simp only [List.foldl, List.setIfInBounds_toArray, List.set_cons_succ, List.set_cons_zero, e3] at ha
      subst ha
      clear e3
      refine wpOp_step rfl (fun K hK => ?_)
      go_simp
      have EW := impl_CodWord k d ra rb f n u (HT1.out.but hB (fun k hk => by simp at hk; omega))
      rw [HWD.out] at EW
      refine EW.mono ?_
      rintro e u' ⟨rfl, f'⟩
      go_simp
      exact hK _ _ ⟨_, rfl, (fun h => by cases h), rfl, But.of f', trivial⟩
    · cases ho
      intro fu act u hW hB hsz hL hdep
      replace hB := hB [g3] (fun j hj hd k hk => by
        by_cases y6 : j = 6
        · rw [if_pos y6] at hk; simp at hk; simp [hk]
        rw [if_neg y6] at hk
        cases hk)
      have d1 := hdep { on := 1, ground := .data } (by simp) rfl _ rfl
      have d2 := hdep { on := 2, ground := .data } (by simp) rfl _ rfl
      obtain ⟨ysl, ha, hy⟩ := hL.puts [18, 19, 20, 21, 22, 23] (by kernel_rfl)
      have e1 : ysl 19 = _ := (hy 19).symm.trans d1
      have e2 : ysl 20 = _ := (hy 20).symm.trans d2
      clear hdep hL hy d1 d2
      simp only [List.foldl, List.setIfInBounds_toArray, List.set_cons_succ, List.set_cons_zero, e1, e2] at ha
      subst ha
      clear e1 e2
      have ix0 : 0 ≤ pc := h0
      have ix1 : pc < 256 := h1
      refine wpOp_step rfl (fun K hK => ?_)
      go_simp
      exact hK _ _ ⟨_, rfl, (fun h => by cases h), rfl, But.refl _ _, trivial⟩
    · cases ho
      intro fu act u hW hB hsz hL hdep
      replace hB := hB [] (fun j hj hd k hk => by
        by_cases x6 : j = 6
        · exact absurd x6 hj
        rw [if_neg x6] at hk
        cases hk)
      have d4 := hdep { on := 4, ground := .data } (by simp) rfl _ rfl
      have d5 := hdep { on := 5, ground := .data } (by simp) rfl _ rfl
      obtain ⟨ysl, ha, hy⟩ := hL.puts [18, 19, 20, 21, 22, 23] (by kernel_rfl)
      have e4 : ysl 22 = _ := (hy 22).symm.trans d4
      have e5 : ysl 23 = _ := (hy 23).symm.trans d5
      clear hdep hL hy d4 d5
      simp only [List.foldl, List.setIfInBounds_toArray, List.set_cons_succ, List.set_cons_zero, e4, e5] at ha
      subst ha
      clear e4 e5
      have hm := HO.out.but hB (by simp) (by simp) (by simp)
      have c := hm.M.cel pc.toNat (by rw [zeros_len]; omega)
      have c' := hm.M.fro pc.toNat (by rw [zeros_len]; omega)
      refine wpOp_step rfl (fun K hK => ?_)
      go_simp
      exact hK _ _ ⟨undef, rfl, (fun _ => rfl), hm.setM pc.toNat wd (by rw [zeros_len]; omega) pc, (But.refl [g3] u).set g3 _ _ (.inl (by simp)), trivial⟩
    · exact absurd ho (by simp)
  case fin =>
    intro act u hW hsz hB hL hsf
    replace hB := hB [g3] (fun j k hk => by
      by_cases y6 : j = 6
      · rw [if_pos y6] at hk; simp at hk; simp [hk]
      rw [if_neg y6] at hk
      cases hk)
    have d6 := hsf 6 _ rfl
    obtain ⟨ysl, ha, hy⟩ := hL.puts [18, 19, 20, 21, 22, 23] (by kernel_rfl)
    clear hL hsf hy
    simp only [List.foldl, List.setIfInBounds_toArray, List.set_cons_succ, List.set_cons_zero] at ha
    subst ha
    have HOa := Lib.hid d6
    have HXa := Lib.hid (HX.out.but hB (by simp; omega))
    have H8a := Lib.hid (H8.out.but hB (by simp; omega))
    have H9a := Lib.hid (H9.out.but hB (by simp; omega))
    have H10a := Lib.hid (H10.out.but hB (by simp; omega))
    have HFa := Lib.hid (fr_but HF1.out hB (fun k hk => by simp at hk; omega))
    have q1 := d6.R.cel 1 (by rw [show (St.mk pc (zeros 8) (zeros 5) (hM pc wd)).R.length = 8 from zeros_len 8]; omega)
    have q2 := d6.R.cel 2 (by rw [show (St.mk pc (zeros 8) (zeros 5) (hM pc wd)).R.length = 8 from zeros_len 8]; omega)
    have q3 := d6.R.cel 3 (by rw [show (St.mk pc (zeros 8) (zeros 5) (hM pc wd)).R.length = 8 from zeros_len 8]; omega)
    have r1 := d6.R.fro 1 (by rw [show (St.mk pc (zeros 8) (zeros 5) (hM pc wd)).R.length = 8 from zeros_len 8]; omega)
    have r2 := d6.R.fro 2 (by rw [show (St.mk pc (zeros 8) (zeros 5) (hM pc wd)).R.length = 8 from zeros_len 8]; omega)
    have r3 := d6.R.fro 3 (by rw [show (St.mk pc (zeros 8) (zeros 5) (hM pc wd)).R.length = 8 from zeros_len 8]; omega)
    have n1 : ¬ X = g1 := by omega
    have n2 : ¬ g1 = X := by omega
    have hB3 := Lib.hid hB
    clear hB hW d6 HX HO H8 H9 H10 HF1 HI
    obtain ⟨_, c0, c1, c2, c3, _, _, _, _⟩ := HXa.out
    go_upto_region 7 with fail
    refine wp_gen (fun v => Own v g1 g2 g3 (hS pc wd a b) ∧ But [g1] u v) ⟨?_, ?_⟩ ?_
    · exact ((HOa.out.setR 1 (a) (by show 1 < (zeros 8).length; rw [zeros_len]; omega) pc).setR 2 (b) (by show 2 < ((zeros 8).set 1 a).length; rw [List.length_set, zeros_len]; omega) pc).setR 3 12345 (by show 3 < (((zeros 8).set 1 a).set 2 b).length; rw [List.length_set, List.length_set, zeros_len]; omega) pc
    · (repeat (first | (with_reducible exact But.refl _ _) | (with_reducible assumption) | (with_reducible refine But.alloc ?_ _) | (with_reducible refine But.drew ?_) | (with_reducible refine But.drewN ?_ _) | (with_reducible refine But.set ?_ _ _ _ (by first | (left; simp; done) | (right; simp; done) | (right; omega) | (right; simp; omega)))))
    rintro u4 ⟨ho4, hb4⟩
    have HO4 := Lib.hid ho4
    have HX4 := Lib.hid (HXa.out.but hb4 (by simp; omega))
    have H84 := Lib.hid (H8a.out.but hb4 (by simp; omega))
    have H94 := Lib.hid (H9a.out.but hb4 (by simp; omega))
    have H104 := Lib.hid (H10a.out.but hb4 (by simp; omega))
    have HF4 := Lib.hid (fr_but HFa.out hb4 (fun k hk => by simp at hk; omega))
    have HT4 := Lib.hid ((HT1.out.but (L := [g3]) hB3.out (fun k hk => by simp at hk; omega)).but hb4 (fun k hk => by simp at hk; omega))
    have E := impl_PlnStep (hS pc wd a b) (some ⟨g1, 0, none⟩) (some ⟨g2, 0, none⟩) (some ⟨g3, 0, none⟩) gr gc gm false u4 ho4.src HOK.out HT4.out
    rw [HOK.out.Rl, HOK.out.Cl, HOK.out.Ml] at E
    have ES := Lib.hid E
    have k1 := ho4.R.lt
    have k2 := ho4.C.lt
    have k3 := ho4.M.lt
    clear E ho4 hb4 c0 c1 c2 c3 q1 q2 q3 r1 r2 r3 n1 n2 HOa HXa H8a H9a H10a HFa
    obtain ⟨hl4, c0, c1, c2, c3, _, _, _, _⟩ := HX4.out
    go_wp2_with fail
    refine ES.out.mono ?_
    rintro e u5 hp
    unfold PstP at hp
    rw [HS2.out, HE2.out] at hp
    obtain ⟨x1, x2, x3, xr, xc, xm, rfl, hox, t1, t2, t3, f5⟩ := hp
    have hs5 := f5.size
    have G := Fr.alloc u5 (.cells #[.int .i64 s2.pc, .slice (some ⟨x1, 0, none⟩) 8 xr, .slice (some ⟨x2, 0, none⟩) 5 xc, .slice (some ⟨x3, 0, none⟩) 256 xm] 26)
    have G2 := Fr.trans G (Fr.alloc (u5.alloc (.cells #[.int .i64 s2.pc, .slice (some ⟨x1, 0, none⟩) 8 xr, .slice (some ⟨x2, 0, none⟩) 5 xc, .slice (some ⟨x3, 0, none⟩) 256 xm] 26)) (.cells #[.int .i64 e2.pc, .int .i64 e2.w, .int .i64 e2.why, .int .i64 e2.d, .int .i64 e2.v, .int .i64 e2.ad, .int .i64 e2.dt] 28))
    have HO5 := Lib.hid ((HO4.out.fr f5).fr G2)
    have HOX := Lib.hid (hox.fr G2)
    have HX5 := Lib.hid ((HX4.out.fr f5).fr G2)
    have H85 := Lib.hid ((H84.out.fr f5).fr G2)
    have H95 := Lib.hid ((H94.out.fr f5).fr G2)
    have H105 := Lib.hid ((H104.out.fr f5).fr G2)
    have HF5 := Lib.hid (Fr.trans (Fr.trans HF4.out f5) G2)
    have HX12 := Lib.hid ((Box4.new u5 (.int .i64 s2.pc) (.slice (some ⟨x1, 0, none⟩) 8 xr) (.slice (some ⟨x2, 0, none⟩) 5 xc) (.slice (some ⟨x3, 0, none⟩) 256 xm) 26 _ rfl).fr (Fr.alloc _ (.cells #[.int .i64 e2.pc, .int .i64 e2.w, .int .i64 e2.why, .int .i64 e2.d, .int .i64 e2.v, .int .i64 e2.ad, .int .i64 e2.dt] 28)))
    have HX13 := Lib.hid (Box7.new (u5.alloc (.cells #[.int .i64 s2.pc, .slice (some ⟨x1, 0, none⟩) 8 xr, .slice (some ⟨x2, 0, none⟩) 5 xc, .slice (some ⟨x3, 0, none⟩) 256 xm] 26)) e2 28 (u5.heap.size + 1) (by simp))
    clear f5 G G2 hox c0 c1 c2 c3 HO4 HX4 H84 H94 H104 HF4 HT4 ES
    go_wp2_with fail
    generalize ((u5.alloc (.cells #[.int .i64 s2.pc, .slice (some ⟨x1, 0, none⟩) 8 xr, .slice (some ⟨x2, 0, none⟩) 5 xc, .slice (some ⟨x3, 0, none⟩) 256 xm] 26)).alloc (.cells #[.int .i64 e2.pc, .int .i64 e2.w, .int .i64 e2.why, .int .i64 e2.d, .int .i64 e2.v, .int .i64 e2.ad, .int .i64 e2.dt] 28)) = u6 at *
    refine wp_region_lots 43 (fun i => if i = 3 then [w.heap.size + 1] else if i = 4 then [w.heap.size + 2] else if i = 5 then [w.heap.size + 3] else []) (fun _ _ => True) (fun i v u => match i with | 0 => v = .agg #[.int .i64 pc, .slice (some ⟨g1, 0, none⟩) 8 gr, .slice (some ⟨g2, 0, none⟩) 5 gc, .slice (some ⟨g3, 0, none⟩) 256 gm] | 1 => v = .agg #[.int .i64 s2.pc, .slice (some ⟨x1, 0, none⟩) 8 xr, .slice (some ⟨x2, 0, none⟩) 5 xc, .slice (some ⟨x3, 0, none⟩) 256 xm] | 2 => v = .agg #[.int .i64 (e2).pc, .int .i64 (e2).w, .int .i64 (e2).why, .int .i64 (e2).d, .int .i64 (e2).v, .int .i64 (e2).ad, .int .i64 (e2).dt] | 3 => Box4 u (w.heap.size + 1) (.int .i64 pc) (.slice (some ⟨g1, 0, none⟩) 8 gr) (.slice (some ⟨g2, 0, none⟩) 5 gc) (.slice (some ⟨g3, 0, none⟩) 256 gm) | 4 => Box4 u (w.heap.size + 2) (.int .i64 s2.pc) (.slice (some ⟨x1, 0, none⟩) 8 xr) (.slice (some ⟨x2, 0, none⟩) 5 xc) (.slice (some ⟨x3, 0, none⟩) 256 xm) | 5 => Box7 u (w.heap.size + 3) e2 | _ => True) ?mono (by kernel_rfl) (by kernel_rfl) rfl (by kernel_rfl) trivial ?step ?fin
    case mono =>
      intro i j v u u' hij hsz h hB
      rcases j with _ | _ | _ | _ | _ | _ | j
      · exact h
      · exact h
      · exact h
      · exact h.but hB (fun hm => by
          have hm2 : w.heap.size + 1 ∈ (if i = 3 then [w.heap.size + 1] else if i = 4 then [w.heap.size + 2] else if i = 5 then [w.heap.size + 3] else []) := hm
          have x3 : ¬ i = 3 := hij
          by_cases x4 : i = 4
          · subst x4; simp at hm2
          by_cases x5 : i = 5
          · subst x5; simp at hm2
          rw [if_neg x3, if_neg x4, if_neg x5] at hm2
          cases hm2)
      · exact h.but hB (fun hm => by
          have hm2 : w.heap.size + 2 ∈ (if i = 3 then [w.heap.size + 1] else if i = 4 then [w.heap.size + 2] else if i = 5 then [w.heap.size + 3] else []) := hm
          have x4 : ¬ i = 4 := hij
          by_cases x3 : i = 3
          · subst x3; simp at hm2
          by_cases x5 : i = 5
          · subst x5; simp at hm2
          rw [if_neg x3, if_neg x4, if_neg x5] at hm2
          cases hm2)
      · exact h.but hB (fun hm => by
          have hm2 : w.heap.size + 3 ∈ (if i = 3 then [w.heap.size + 1] else if i = 4 then [w.heap.size + 2] else if i = 5 then [w.heap.size + 3] else []) := hm
          have x5 : ¬ i = 5 := hij
          by_cases x3 : i = 3
          · subst x3; simp at hm2
          by_cases x4 : i = 4
          · subst x4; simp at hm2
          rw [if_neg x3, if_neg x4, if_neg x5] at hm2
          cases hm2)
      · trivial
    case step =>
      intro i o ho
      rcases i with _ | _ | _ | _ | _ | _ | i
      · cases ho
        intro fu act u hW hB hsz hL hdep
        replace hB := hB [w.heap.size + 1, w.heap.size + 2, w.heap.size + 3] (fun j hj hd k hk => by
          by_cases y3 : j = 3
          · rw [if_pos y3] at hk; simp at hk; simp [hk]
          rw [if_neg y3] at hk
          by_cases y4 : j = 4
          · rw [if_pos y4] at hk; simp at hk; simp [hk]
          rw [if_neg y4] at hk
          by_cases y5 : j = 5
          · rw [if_pos y5] at hk; simp at hk; simp [hk]
          rw [if_neg y5] at hk
          cases hk)
        obtain ⟨ysl, ha, hy⟩ := hL.puts [40, 41, 42] (by kernel_rfl)
        clear hdep hL hy
        simp only [List.foldl, List.setIfInBounds_toArray, List.set_cons_succ, List.set_cons_zero] at ha
        subst ha
        obtain ⟨_, c0, c1, c2, c3, _, _, _, _⟩ := HX5.out.but hB (by simp; omega)
        refine wpOp_step rfl (fun K hK => ?_)
        go_simp
        exact hK _ _ ⟨_, rfl, (fun h => by cases h), rfl, But.refl _ _, trivial⟩
      · cases ho
        intro fu act u hW hB hsz hL hdep
        replace hB := hB [w.heap.size + 1, w.heap.size + 2, w.heap.size + 3] (fun j hj hd k hk => by
          by_cases y3 : j = 3
          · rw [if_pos y3] at hk; simp at hk; simp [hk]
          rw [if_neg y3] at hk
          by_cases y4 : j = 4
          · rw [if_pos y4] at hk; simp at hk; simp [hk]
          rw [if_neg y4] at hk
          by_cases y5 : j = 5
          · rw [if_pos y5] at hk; simp at hk; simp [hk]
          rw [if_neg y5] at hk
          cases hk)
        obtain ⟨ysl, ha, hy⟩ := hL.puts [40, 41, 42] (by kernel_rfl)
        clear hdep hL hy
        simp only [List.foldl, List.setIfInBounds_toArray, List.set_cons_succ, List.set_cons_zero] at ha
        subst ha
        obtain ⟨_, c0, c1, c2, c3, _, _, _, _⟩ := HX12.out.but hB (by simp; omega)
        refine wpOp_step rfl (fun K hK => ?_)
        go_simp
        exact hK _ _ ⟨_, rfl, (fun h => by cases h), rfl, But.refl _ _, trivial⟩
      · cases ho
        intro fu act u hW hB hsz hL hdep
        replace hB := hB [w.heap.size + 1, w.heap.size + 2, w.heap.size + 3] (fun j hj hd k hk => by
          by_cases y3 : j = 3
          · rw [if_pos y3] at hk; simp at hk; simp [hk]
          rw [if_neg y3] at hk
          by_cases y4 : j = 4
          · rw [if_pos y4] at hk; simp at hk; simp [hk]
          rw [if_neg y4] at hk
          by_cases y5 : j = 5
          · rw [if_pos y5] at hk; simp at hk; simp [hk]
          rw [if_neg y5] at hk
          cases hk)
        obtain ⟨ysl, ha, hy⟩ := hL.puts [40, 41, 42] (by kernel_rfl)
        clear hdep hL hy
        simp only [List.foldl, List.setIfInBounds_toArray, List.set_cons_succ, List.set_cons_zero] at ha
        subst ha
        obtain ⟨_, c0, c1, c2, c3, c4, c5, c6, _, _, _, _, _, _, _⟩ := HX13.out.but hB (by simp; omega)
        refine wpOp_step rfl (fun K hK => ?_)
        go_simp
        exact hK _ _ ⟨_, rfl, (fun h => by cases h), rfl, But.refl _ _, trivial⟩
      · cases ho
        intro fu act u hW hB hsz hL hdep
        replace hB := hB [w.heap.size + 2, w.heap.size + 3] (fun j hj hd k hk => by
          by_cases x3 : j = 3
          · exact absurd x3 hj
          rw [if_neg x3] at hk
          by_cases y4 : j = 4
          · rw [if_pos y4] at hk; simp at hk; simp [hk]
          rw [if_neg y4] at hk
          by_cases y5 : j = 5
          · rw [if_pos y5] at hk; simp at hk; simp [hk]
          rw [if_neg y5] at hk
          cases hk)
        have d0 := hdep { on := 0, ground := .data } (by simp) rfl _ rfl
        obtain ⟨ysl, ha, hy⟩ := hL.puts [40, 41, 42] (by kernel_rfl)
        have e0 : ysl 40 = _ := (hy 40).symm.trans d0
        clear hdep hL hy d0
        simp only [List.foldl, List.setIfInBounds_toArray, List.set_cons_succ, List.set_cons_zero, e0] at ha
        subst ha
        clear e0
        obtain ⟨_, z0, z1, z2, z3, y0, y1, y2, y3⟩ := H85.out.but hB (by simp)
        refine wpOp_step rfl (fun K hK => ?_)
        go_simp
        exact hK _ _ ⟨undef, rfl, (fun _ => rfl), ((H85.out.but hB (by simp)).set _ _ _ _), (But.refl [w.heap.size + 1] u).set4 _ _ _ _ _ (.inl (by simp)), trivial⟩
      · cases ho
        intro fu act u hW hB hsz hL hdep
        replace hB := hB [w.heap.size + 1, w.heap.size + 3] (fun j hj hd k hk => by
          by_cases x4 : j = 4
          · exact absurd x4 hj
          by_cases y3 : j = 3
          · rw [if_pos y3] at hk; simp at hk; simp [hk]
          rw [if_neg y3] at hk
          rw [if_neg x4] at hk
          by_cases y5 : j = 5
          · rw [if_pos y5] at hk; simp at hk; simp [hk]
          rw [if_neg y5] at hk
          cases hk)
        have d1 := hdep { on := 1, ground := .data } (by simp) rfl _ rfl
        obtain ⟨ysl, ha, hy⟩ := hL.puts [40, 41, 42] (by kernel_rfl)
        have e1 : ysl 41 = _ := (hy 41).symm.trans d1
        clear hdep hL hy d1
        simp only [List.foldl, List.setIfInBounds_toArray, List.set_cons_succ, List.set_cons_zero, e1] at ha
        subst ha
        clear e1
        obtain ⟨_, z0, z1, z2, z3, y0, y1, y2, y3⟩ := H95.out.but hB (by simp)
        refine wpOp_step rfl (fun K hK => ?_)
        go_simp
        exact hK _ _ ⟨undef, rfl, (fun _ => rfl), ((H95.out.but hB (by simp)).set _ _ _ _), (But.refl [w.heap.size + 2] u).set4 _ _ _ _ _ (.inl (by simp)), trivial⟩
      · cases ho
        intro fu act u hW hB hsz hL hdep
        replace hB := hB [w.heap.size + 1, w.heap.size + 2] (fun j hj hd k hk => by
          by_cases x5 : j = 5
          · exact absurd x5 hj
          by_cases y3 : j = 3
          · rw [if_pos y3] at hk; simp at hk; simp [hk]
          rw [if_neg y3] at hk
          by_cases y4 : j = 4
          · rw [if_pos y4] at hk; simp at hk; simp [hk]
          rw [if_neg y4] at hk
          rw [if_neg x5] at hk
          cases hk)
        have d2 := hdep { on := 2, ground := .data } (by simp) rfl _ rfl
        obtain ⟨ysl, ha, hy⟩ := hL.puts [40, 41, 42] (by kernel_rfl)
        have e2 : ysl 42 = _ := (hy 42).symm.trans d2
        clear hdep hL hy d2
        simp only [List.foldl, List.setIfInBounds_toArray, List.set_cons_succ, List.set_cons_zero, e2] at ha
        subst ha
        clear e2
        obtain ⟨_, z0, z1, z2, z3, z4, z5, z6, y0, y1, y2, y3, y4, y5, y6⟩ := H105.out.but hB (by simp)
        refine wpOp_step rfl (fun K hK => ?_)
        go_simp
        exact hK _ _ ⟨undef, rfl, (fun _ => rfl), (((((((H105.out.but hB (by simp)).set0 _).set1 _).set2 _).set3 _).set4 _).set5 _).set6 _, ((((((((But.refl [w.heap.size + 3] u).set _ _ _ (.inl (by simp))).set _ _ _ (.inl (by simp))).set _ _ _ (.inl (by simp))).set _ _ _ (.inl (by simp))).set _ _ _ (.inl (by simp))).set _ _ _ (.inl (by simp))).set _ _ _ (.inl (by simp))), trivial⟩
      · exact absurd ho (by simp)
    case fin =>
      intro act u hW hsz hB hL hsf
      replace hB := hB [w.heap.size + 1, w.heap.size + 2, w.heap.size + 3] (fun j k hk => by
        by_cases y3 : j = 3
        · rw [if_pos y3] at hk; simp at hk; simp [hk]
        rw [if_neg y3] at hk
        by_cases y4 : j = 4
        · rw [if_pos y4] at hk; simp at hk; simp [hk]
        rw [if_neg y4] at hk
        by_cases y5 : j = 5
        · rw [if_pos y5] at hk; simp at hk; simp [hk]
        rw [if_neg y5] at hk
        cases hk)
      have d3 := hsf 3 _ rfl
      have d4 := hsf 4 _ rfl
      have d5 := hsf 5 _ rfl
      obtain ⟨ysl, ha, hy⟩ := hL.puts [40, 41, 42] (by kernel_rfl)
      clear hL hsf hy
      simp only [List.foldl, List.setIfInBounds_toArray, List.set_cons_succ, List.set_cons_zero] at ha
      subst ha
      have HOa := Lib.hid (HO5.out.but hB (by simp; omega) (by simp; omega) (by simp; omega))
      have HOb := Lib.hid (HOX.out.but hB (by simp; omega) (by simp; omega) (by simp; omega))
      have HFb := Lib.hid (fr_but HF5.out hB (fun k hk => by simp at hk; omega))
      obtain ⟨_, a0, a1, a2, a3, _, _, _, _⟩ := d3
      obtain ⟨_, b0, b1, b2, b3, _, _, _, _⟩ := d4
      obtain ⟨_, v0, v1, v2, v3, v4, v5, v6, _, _, _, _, _, _, _⟩ := d5
      clear hB hW
      go_wp2_with fail
      refine bodyPost_ret (v := .tuple #[.agg #[.int .i64 pc, .slice (some ⟨g1, 0, none⟩) 8 gr, .slice (some ⟨g2, 0, none⟩) 5 gc, .slice (some ⟨g3, 0, none⟩) 256 gm], .agg #[.int .i64 s2.pc, .slice (some ⟨x1, 0, none⟩) 8 xr, .slice (some ⟨x2, 0, none⟩) 5 xc, .slice (some ⟨x3, 0, none⟩) 256 xm], .agg #[.int .i64 (e2).pc, .int .i64 (e2).w, .int .i64 (e2).why, .int .i64 (e2).d, .int .i64 (e2).v, .int .i64 (e2).ad, .int .i64 (e2).dt]]) (by simp [results, Tryd.results33, go_sem, a0, a1, a2, a3, b0, b1, b2, b3, v0, v1, v2, v3, v4, v5, v6]) rfl ⟨g1, g2, g3, gr, gc, gm, x1, x2, x3, xr, xc, xm, u4.heap.size, rfl, HOa.out, HOb.out, by omega, HFb.out⟩

end Go.Proofs.YtbjapncfgancoaaDoor
