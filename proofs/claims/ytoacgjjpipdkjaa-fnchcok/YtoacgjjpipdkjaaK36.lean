/- The program's cache, back into a state. The program's ChcRead, ChcWrite, ChcLay, ChcLook. The program's ChcAll. -/
import Derived.Deep.RegionLaw
import Derived.Test.YtoacgjjpipdkjaaK34
import Derived.Test.YtoacgjjpipdkjaaK23
namespace Go.Proofs.Ytoacgjjpipdkjaa
open Go.RowKit
set_option linter.unusedVariables false
set_option linter.unusedSimpArgs false
/-- The lines as they lie in the cache's block. -/
def lk5 (g : Nat) (X : List La) : List Value := X.flatMap fun l => lac l ++ [rif g]
theorem four_of {X : List La} (h : X.length = 4) : ∃ a b c d, X = [a, b, c, d] := by
  match X, h with
  | [a, b, c, d], _ => exact ⟨a, b, c, d, rfl⟩
theorem lk5_len (g : Nat) (X : List La) (h : X.length = 4) : (lk5 g X).length = 20 := by
  obtain ⟨a, b, c, d, rfl⟩ := four_of h
  rfl
theorem RK.range {u : World} {g : Nat} {M : List Int} {X : List La} (h : RK u g M X) : u.rangeAt g 256 (lk5 g X) := by
  obtain ⟨a, b, c, d, rfl⟩ := four_of h.Xl
  intro j v hv
  have hj : j < 20 := (List.getElem?_eq_some_iff.1 hv).1
  rcases j with _ | _ | _ | _ | _ | _ | _ | _ | _ | _ | _ | _ | _ | _ | _ | _ | _ | _ | _ | _ | j
  · cases hv; exact h.c0 0 (by omega)
  · cases hv; exact h.c1 0 (by omega)
  · cases hv; exact h.c2 0 (by omega)
  · cases hv; exact h.c3 0 (by omega)
  · cases hv; exact h.c4 0 (by omega)
  · cases hv; exact h.c0 1 (by omega)
  · cases hv; exact h.c1 1 (by omega)
  · cases hv; exact h.c2 1 (by omega)
  · cases hv; exact h.c3 1 (by omega)
  · cases hv; exact h.c4 1 (by omega)
  · cases hv; exact h.c0 2 (by omega)
  · cases hv; exact h.c1 2 (by omega)
  · cases hv; exact h.c2 2 (by omega)
  · cases hv; exact h.c3 2 (by omega)
  · cases hv; exact h.c4 2 (by omega)
  · cases hv; exact h.c0 3 (by omega)
  · cases hv; exact h.c1 3 (by omega)
  · cases hv; exact h.c2 3 (by omega)
  · cases hv; exact h.c3 3 (by omega)
  · cases hv; exact h.c4 3 (by omega)
  · omega
theorem index_lines (X : List La) (g k : Nat) (hX : X.length = 4) (hk : k < 4) (w : World) : (Instr.index 99 (.agg (lk5 g X).toArray) (.int .i64 (k : Int))).run Try.prog w = .ok (.agg #[.bool (X.getD k la0).n.u, .int .i64 (X.getD k la0).n.p, .bool (X.getD k la0).n.d, .slice (X.getD k la0).a (X.getD k la0).n.W.length (X.getD k la0).c, rif g]) w := by
  obtain ⟨a, b, c, d, rfl⟩ := four_of hX
  rcases k with _ | _ | _ | _ | k
  · kernel_rfl
  · kernel_rfl
  · kernel_rfl
  · kernel_rfl
  · omega
theorem setCell_far {w : World} {g b i j : Nat} {v : Value} (h : b ≠ g) : (w.setCell ⟨g, i, none⟩ v).cell? ⟨b, j, none⟩ = w.cell? ⟨b, j, none⟩ := World.cell?_setCell_other _ _ _ _ (by simp [h])
theorem info_lines : (Try.prog.info? 99).map (·.size) = some 20 := by kernel_rfl
theorem state_next {B g3 k : Nat} {m0 : Value} {L : List Ln} {Y : List La} {aY : Option Addr} {cY : Nat} {u2 u4 u5 v u6 : World} {l : Ln} {ao : Option Addr} {cw gY cY' : Nat} (HC : CpL B g3 m0 L k Y aY cY u4) (HT : But [g3] u2 u4) (hBz : B = u2.heap.size) (F5 : Fr u4 u5) (HR : Rc u4.heap.size u5 l.W ao cw) (hk : k < L.length) (hl : L.getD k ln0 = l) (hB : g3 < B) (hBu : B ≤ u4.heap.size)
    (R6 : RoL u6 gY (Y ++ [⟨l, ao, cw⟩])) (A6 : CaL u6 gY (Y ++ [(⟨l, ao, cw⟩ : La)]).length cY') (hgB : B ≤ gY) (T6 : But (bkS Y.length aY) v u6) (G6 : aY = some ⟨gY, 0, none⟩ ∨ v.heap.size ≤ gY) (Fv : Fr u5 v) :
    CpL B g3 m0 L (k + 1) (Y ++ [⟨l, ao, cw⟩]) (some ⟨gY, 0, none⟩) cY' (u6.setCell ⟨g3, 1, none⟩ (.slice (some ⟨gY, 0, none⟩) (Y.length + 1) cY')) ∧ But [g3] u2 (u6.setCell ⟨g3, 1, none⟩ (.slice (some ⟨gY, 0, none⟩) (Y.length + 1) cY')) := by
  have F4 := Fr.trans F5 Fv
  have hC8 : CpL B g3 m0 L k Y aY cY v := ⟨HC.len, HC.eq, HC.box.fr F4, HC.row.fr F4, HC.wd.fr F4, HC.ap, fun i hi => (HC.rm i hi).fr F4⟩
  have h45 := F5.size
  have h5v := Fv.size
  refine ⟨hC8.next ⟨l, ao, cw⟩ hk hl gY cY' hB ((HR.vc.mono hBu).fr Fv) (HR.rm.fr Fv) (fun m hm i hi hm' => ?_) (fun b hb hm => ?_) R6 A6 hgB G6 T6 (by omega), But.set (L := [g3]) ((HT.trans (But.of F4)).far T6 (fun m hm => ?_)) _ _ _ (.inl (by simp))⟩
  · have h1 := (HR.vc.bk m hm).1
    have h2 := (HC.wd.bk i hi m hm').2
    omega
  · have h1 := (HR.vc.bk b hm).1
    have h2 := (HC.row.bk b hb).2
    omega
  · obtain ⟨h0, b, e, eb⟩ := mem_bkS hm
    rcases HC.row with ⟨z, _⟩ | ⟨g', e', hB', _⟩
    · omega
    · rw [e'] at e
      cases e
      simp only at eb
      omega
set_option maxRecDepth 100000 in
set_option maxHeartbeats 4000000 in
theorem cache_state (w0 : World) (g : Nat) (M : List Int) (X : List La) (w : World) (h : OwP w0 w g M X) (ho : OkC ⟨M, lns X⟩) :
    Calls Try.prog 73 #[.pointer (some ⟨g, 0, none⟩)] w (ChQ7 ⟨M, lns X⟩ w) := by
  have hM := h.r.Ml
  have HXl := Lib.hid h.r.Xl
  have HM := Lib.hid hM
  have HF := Lib.hid (Fr.alloc w (.cells #[.slice none 0 0, .slice none 0 0] 30))
  have HX2 := Lib.hid (Box2.new w (.slice none 0 0) (.slice none 0 0) 30 _ rfl)
  have HO := Lib.hid h
  have HW4 : Hid (∀ i, i < 4 → (X.getD i la0).n.W.length ≤ 1000) := Lib.hid (fun i hi => by
    have := okLn_W (okLns_at ho.L i (by rw [ho.Ll]; exact hi))
    rw [show (Ch.mk M (lns X)).L = lns X from rfl, lns_get] at this
    omega)
  have hs0 : w.heap.size < (w.alloc (.cells #[.slice none 0 0, .slice none 0 0] 30)).heap.size := by simp
  have HIL := Lib.hid (show (Try.prog.info? 99).map (·.size) = some (lk5 g X).length by rw [info_lines, lk5_len g X h.r.Xl])
  clear h ho hM
  go_enter Try.func73, Try.ntmps73
  go_upto_region 1 with fail
  generalize (w.alloc (.cells #[.slice none 0 0, .slice none 0 0] 30)) = u0 at *
  have HO0 := Lib.hid (HO.out.fr HF.out)
  have hlt := HO0.out.r.lt
  have hsc := Lib.hid (slices_CloneC M (some ⟨g, 0, none⟩) 256 u0 HO0.out.r.ro.src (by have := HM.out; omega))
  rw [HM.out] at hsc
  go_wp2_with fail
  refine hsc.out.mono ?_
  rintro e u1 ⟨aR, c, rfl, hR, f1⟩
  rcases hR with ⟨hz, _⟩ | ⟨gM, rfl, hgB, roM, hca, _⟩
  · exfalso; have := HM.out; omega
  have HCap := Lib.hid (show M.length ≤ c by obtain ⟨cur, _, _, h3, _⟩ := hca; exact h3)
  have hsz1 := f1.size
  have hgl := roM.lt
  have FB := Lib.hid (Fr.trans f1 (Fr.alloc u1 (.cells #[.slice (some ⟨gM, 0, none⟩) M.length c, .slice none 0 0] 30)))
  have HCaM := Lib.hid (hca.but (L := []) (But.of (Fr.alloc u1 (.cells #[.slice (some ⟨gM, 0, none⟩) M.length c, .slice none 0 0] 30))) (by simp))
  have HRM := Lib.hid (roM.fr (Fr.alloc u1 (.cells #[.slice (some ⟨gM, 0, none⟩) M.length c, .slice none 0 0] 30)))
  have HX3 := Lib.hid (Box2.new u1 (.slice (some ⟨gM, 0, none⟩) M.length c) (.slice none 0 0) 30 _ rfl)
  have hz2 : u1.heap.size < (u1.alloc (.cells #[.slice (some ⟨gM, 0, none⟩) M.length c, .slice none 0 0] 30)).heap.size := by simp
  have HR1 := Lib.hid (HO0.out.fr FB.out).r.range
  clear f1 roM hca hsc hlt
  go_wp2_with (refine wpList_load_mid rfl 99 _ rfl g 256 rfl (lk5 g X) _ HR1.out Try.underlying99 rfl HIL.out ?_)
  generalize (u1.alloc (.cells #[.slice (some ⟨gM, 0, none⟩) M.length c, .slice none 0 0] 30)) = u2 at *
  generalize hg3 : u1.heap.size = g3 at *
  clear hg3
  replace HX2 := Lib.hid (HX2.out.fr FB.out)
  replace HF := Lib.hid (Fr.trans HF.out FB.out)
  have HO2 := Lib.hid (HO0.out.fr FB.out)
  clear FB HO0 HR1
  have C0 : Hid (CpL u2.heap.size g3 (.slice (some ⟨gM, 0, none⟩) M.length c) (lns X) 0 [] none 0 u2) := Lib.hid ⟨rfl, rfl, HX3.out, .inl ⟨rfl, rfl, rfl⟩, ⟨fun i hi => absurd hi (Nat.not_lt_zero _), fun i j hi => absurd hi (Nat.not_lt_zero _)⟩, fun g hg => (by cases hg), fun i hi => absurd hi (Nat.not_lt_zero _)⟩
  obtain ⟨B, hB⟩ : ∃ B, B = u2.heap.size := ⟨_, rfl⟩
  have HBz := Lib.hid hB
  rw [← hB] at C0 hz2
  have hB2 : B ≤ u2.heap.size := Nat.le_of_eq hB
  clear hB HX3
  go_loopw [16] (fun i wr => ∃ (k : Nat) (Y : List La) (aY : Option Addr) (cY : Nat), k ≤ 4 ∧ i = .int .i64 k ∧ CpL B g3 (.slice (some ⟨gM, 0, none⟩) M.length c) (lns X) k Y aY cY wr ∧ But [g3] u2 wr) (fun i _ => 4 - (intOf i).toNat)
  case atStart => exact ⟨0, [], none, 0, by omega, rfl, C0.out, But.refl _ _⟩
  case round =>
    obtain ⟨k, Y, aY, cY, hk, rfl, hC, hb⟩ := hrel
    have HC := Lib.hid hC
    have HBt := Lib.hid hb
    have hszr := hb.size
    have hf0 : Fr w wr := fr_but HF.out hb (fun m hm => by simp at hm; omega)
    have HF0 := Lib.hid hf0
    by_cases hlt : k < 4
    · have hk4 : (k : Int) < 4 := by omega
      have hk0 : (0 : Int) ≤ (k : Int) := Int.natCast_nonneg _
      have HLk := Lib.hid (lns_get X k)
      have HWd0 := Lib.hid (HO2.out.w.wd k (by rw [HXl.out]; exact hlt))
      clear HWd0
      have HWd := Lib.hid (show WSrc wr (X.getD k la0) from (HO.out.w.wd k (by rw [HXl.out]; exact hlt)).src.fr hf0)
      have HWn := Lib.hid (HW4.out k hlt)
      have hix := fun u => index_lines X g k HXl.out hlt u
      clear hC hb hf0
      generalize hl : X.getD k la0 = l at *
      clear hl
      have HX3r := Lib.hid HC.out.box
      have FX := Lib.hid (Fr.alloc wr (.cells #[.bool l.n.u, .int .i64 l.n.p, .bool l.n.d, .slice l.a l.n.W.length l.c, rif g] 98))
      have hsb : wr.heap.size < (wr.alloc (.cells #[.bool l.n.u, .int .i64 l.n.p, .bool l.n.d, .slice l.a l.n.W.length l.c, rif g] 98)).heap.size := by simp
      have x0 : (wr.alloc (.cells #[.bool l.n.u, .int .i64 l.n.p, .bool l.n.d, .slice l.a l.n.W.length l.c, rif g] 98)).cell? ⟨wr.heap.size, 0, none⟩ = some (.bool l.n.u) := by simp
      have x1 : (wr.alloc (.cells #[.bool l.n.u, .int .i64 l.n.p, .bool l.n.d, .slice l.a l.n.W.length l.c, rif g] 98)).cell? ⟨wr.heap.size, 1, none⟩ = some (.int .i64 l.n.p) := by simp
      have x2 : (wr.alloc (.cells #[.bool l.n.u, .int .i64 l.n.p, .bool l.n.d, .slice l.a l.n.W.length l.c, rif g] 98)).cell? ⟨wr.heap.size, 2, none⟩ = some (.bool l.n.d) := by simp
      have x3 : (wr.alloc (.cells #[.bool l.n.u, .int .i64 l.n.p, .bool l.n.d, .slice l.a l.n.W.length l.c, rif g] 98)).cell? ⟨wr.heap.size, 3, none⟩ = some (.slice l.a l.n.W.length l.c) := by simp
      go_upto_region 5 with fail
      have HB3 := Lib.hid (HX3r.out.fr FX.out)
      have HC3 : Hid (CpL B g3 (.slice (some ⟨gM, 0, none⟩) M.length c) (lns X) k Y aY cY (wr.alloc (.cells #[.bool l.n.u, .int .i64 l.n.p, .bool l.n.d, .slice l.a l.n.W.length l.c, rif g] 98))) := Lib.hid ⟨HC.out.len, HC.out.eq, HB3.out, HC.out.row.fr FX.out, HC.out.wd.fr FX.out, HC.out.ap, fun i hi => (HC.out.rm i hi).fr FX.out⟩
      have HT3 := Lib.hid (HBt.out.trans (But.of FX.out))
      have HW3 := Lib.hid (Src.fr HWd.out FX.out)
      have N5 : Hid (wr.heap.size ∉ bkS Y.length aY) := Lib.hid (fun hm => by
        obtain ⟨h0, b, e, eb⟩ := mem_bkS hm
        rcases HC.out.row with ⟨z, _⟩ | ⟨g', e', hB', r', _⟩
        · omega
        · have := r'.lt
          rw [e'] at e
          cases e
          simp only at eb
          omega)
      clear FX HC HBt HX3r HWd HF0
      generalize (wr.alloc (.cells #[.bool l.n.u, .int .i64 l.n.p, .bool l.n.d, .slice l.a l.n.W.length l.c, rif g] 98)) = u4 at *
      have hszb : u2.heap.size ≤ wr.heap.size := hszr
      generalize wr.heap.size = gb at *
      have hg34 := HB3.out.lt
      have hYl : Hid (Y.length ≤ 1000) := Lib.hid (by have := HC3.out.len; omega)
      have hBr : Hid (B ≤ u4.heap.size) := Lib.hid (by omega)
      have N3 : Hid (g3 ∉ bkS Y.length aY) := Lib.hid (fun hm => by
        obtain ⟨h0, b, e, eb⟩ := mem_bkS hm
        rcases HC3.out.row with ⟨z, _⟩ | ⟨g', e', hB', _⟩
        · omega
        · rw [e'] at e
          cases e
          simp only at eb
          omega)
      obtain ⟨_, b0, b1, q0, q1⟩ := HB3.out
      go_region_law (first
          | (go_simp; go_at_call 96; refine (line_clone l _ (HW3.out.fr (Below.drew (Below.refl _ _))) HWn.out).mono ?_; rintro e u5 ⟨ao, cw, rfl, hR, f5⟩; have F5 := Lib.hid (show Fr u4 u5 from Fr.trans (Below.drew (Below.refl _ _)) f5); have HR := Lib.hid (show Rc u4.heap.size u5 l.n.W ao cw from hR); have HB5 := Lib.hid (HB3.out.fr F5.out); obtain ⟨_, b2, b3, q2, q3⟩ := HB5.out; have y0 := (F5.out.cell hsb).trans x0; have y1 := (F5.out.cell hsb).trans x1; have y2 := (F5.out.cell hsb).trans x2; have y3 := (F5.out.cell hsb).trans x3; have hs5 := F5.out.size; clear hR f5)
          | (rw [if_pos (by simp [Region.wanted])]; refine wp_append_rcL _ _ rfl B Y aY cY rfl (HC3.out.row.fr (Fr.trans F5.out (by (repeat' first | (with_reducible exact Below.refl _ _) | (with_reducible assumption) | ((with_reducible refine Below.setCell ?_ ?hb _); (case hb => first | exact Nat.le_refl _ | (simp; done) | (simp; omega) | omega)) | ((with_reducible refine Below.alloc ?_ ?hb _); (case hb => first | exact Nat.le_refl _ | (simp; done) | (simp; omega) | omega)) | (with_reducible refine Below.drew ?_))))) ⟨l.n, ao, cw⟩ _ rfl (fun j v hv => by first | (rw [(alloc_at u5 _ _ _ rfl j).1]; simpa [lac] using hv) | (show (World.alloc _ _).cell? _ = _; rw [(alloc_at _ _ _ _ rfl j).1]; simpa [lac] using hv)) hYl.out (by simp; omega) ?_; intro gY cY' u6 hr hca hgB2 hgo hbt; have R6 := Lib.hid hr; have A6 := Lib.hid hca; have G6 := Lib.hid hgo; have T6 := Lib.hid hbt; have z0 := (thr (show Fr u4 _ from Fr.trans F5.out (by (repeat' first | (with_reducible exact Below.refl _ _) | (with_reducible assumption) | ((with_reducible refine Below.setCell ?_ ?hb _); (case hb => first | exact Nat.le_refl _ | (simp; done) | (simp; omega) | omega)) | ((with_reducible refine Below.alloc ?_ ?hb _); (case hb => first | exact Nat.le_refl _ | (simp; done) | (simp; omega) | omega)) | (with_reducible refine Below.drew ?_)))) hbt hg34 N3.out).trans b0; have z1 := (thr (show Fr u4 _ from Fr.trans F5.out (by (repeat' first | (with_reducible exact Below.refl _ _) | (with_reducible assumption) | ((with_reducible refine Below.setCell ?_ ?hb _); (case hb => first | exact Nat.le_refl _ | (simp; done) | (simp; omega) | omega)) | ((with_reducible refine Below.alloc ?_ ?hb _); (case hb => first | exact Nat.le_refl _ | (simp; done) | (simp; omega) | omega)) | (with_reducible refine Below.drew ?_)))) hbt hg34 N3.out).trans b1; have p1 := (thrF (show Fr u4 _ from Fr.trans F5.out (by (repeat' first | (with_reducible exact Below.refl _ _) | (with_reducible assumption) | ((with_reducible refine Below.setCell ?_ ?hb _); (case hb => first | exact Nat.le_refl _ | (simp; done) | (simp; omega) | omega)) | ((with_reducible refine Below.alloc ?_ ?hb _); (case hb => first | exact Nat.le_refl _ | (simp; done) | (simp; omega) | omega)) | (with_reducible refine Below.drew ?_)))) hbt hg34 N3.out).trans q1; have v0 := (thr (show Fr u4 _ from Fr.trans F5.out (by (repeat' first | (with_reducible exact Below.refl _ _) | (with_reducible assumption) | ((with_reducible refine Below.setCell ?_ ?hb _); (case hb => first | exact Nat.le_refl _ | (simp; done) | (simp; omega) | omega)) | ((with_reducible refine Below.alloc ?_ ?hb _); (case hb => first | exact Nat.le_refl _ | (simp; done) | (simp; omega) | omega)) | (with_reducible refine Below.drew ?_)))) hbt hsb N5.out).trans x0; have v1 := (thr (show Fr u4 _ from Fr.trans F5.out (by (repeat' first | (with_reducible exact Below.refl _ _) | (with_reducible assumption) | ((with_reducible refine Below.setCell ?_ ?hb _); (case hb => first | exact Nat.le_refl _ | (simp; done) | (simp; omega) | omega)) | ((with_reducible refine Below.alloc ?_ ?hb _); (case hb => first | exact Nat.le_refl _ | (simp; done) | (simp; omega) | omega)) | (with_reducible refine Below.drew ?_)))) hbt hsb N5.out).trans x1; have v2 := (thr (show Fr u4 _ from Fr.trans F5.out (by (repeat' first | (with_reducible exact Below.refl _ _) | (with_reducible assumption) | ((with_reducible refine Below.setCell ?_ ?hb _); (case hb => first | exact Nat.le_refl _ | (simp; done) | (simp; omega) | omega)) | ((with_reducible refine Below.alloc ?_ ?hb _); (case hb => first | exact Nat.le_refl _ | (simp; done) | (simp; omega) | omega)) | (with_reducible refine Below.drew ?_)))) hbt hsb N5.out).trans x2; have v3 := (thr (show Fr u4 _ from Fr.trans F5.out (by (repeat' first | (with_reducible exact Below.refl _ _) | (with_reducible assumption) | ((with_reducible refine Below.setCell ?_ ?hb _); (case hb => first | exact Nat.le_refl _ | (simp; done) | (simp; omega) | omega)) | ((with_reducible refine Below.alloc ?_ ?hb _); (case hb => first | exact Nat.le_refl _ | (simp; done) | (simp; omega) | omega)) | (with_reducible refine Below.drew ?_)))) hbt hsb N5.out).trans x3; clear hr hca hgo hbt))
      all_goals
        have hn := state_next HC3.out HT3.out HBz.out F5.out HR.out (by simp; have := HXl.out; omega) HLk.out hz2 hBr.out R6.out A6.out hgB2 T6.out G6.out (by (repeat' first | (with_reducible exact Below.refl _ _) | (with_reducible assumption) | ((with_reducible refine Below.setCell ?_ ?hb _); (case hb => first | exact Nat.le_refl _ | (simp; done) | (simp; omega) | omega)) | ((with_reducible refine Below.alloc ?_ ?hb _); (case hb => first | exact Nat.le_refl _ | (simp; done) | (simp; omega) | omega)) | (with_reducible refine Below.drew ?_)))
        have HN := Lib.hid hn
        clear hn v0 v1 v2 v3 z0 z1 p1 y0 y1 y2 y3 x0 x1 x2 x3 b0 b1 b2 b3 q0 q1 q2 q3 R6 A6 T6 G6 HR hix
        go_wp2
        go_roundw
        case rel => exact ⟨k + 1, Y ++ [⟨l.n, ao, cw⟩], some ⟨gY, 0, none⟩, cY', by omega, by go_num, HN.out.1, HN.out.2⟩
        case measure => simp [intOf]; omega
    · have hge : ¬ (k : Int) < 4 := by omega
      obtain rfl : k = 4 := by omega
      have HX2r := Lib.hid (HX2.out.but hb (by simp; omega))
      have HRMr := Lib.hid (HRM.out.but hb (by simp; omega))
      have HCar := Lib.hid (HCaM.out.but hb (by simp; omega))
      have HX3r := Lib.hid hC.box
      obtain ⟨_, x0, x1, _, _⟩ := HX3r.out
      obtain ⟨_, z0, z1, q0, q1⟩ := HX2r.out
      have hYl := HC.out.len
      rcases HC.out.row with ⟨hz, _⟩ | ⟨gY, rfl, hgB3, roY, hcaY, _⟩
      · omega
      have HlY := Lib.hid (show Y.length ≤ cY by obtain ⟨_, _, _, h3, _⟩ := hcaY; exact h3)
      clear hcaY
      have HRY := Lib.hid roY
      have HYl := Lib.hid hYl
      clear hC hb hf0 roY hYl
      go_wp2
      have hst : But [w.heap.size] wr ((wr.setCell ⟨w.heap.size, 0, none⟩ (.slice (some ⟨gM, 0, none⟩) M.length c)).setCell ⟨w.heap.size, 1, none⟩ (.slice (some ⟨gY, 0, none⟩) Y.length cY)) := (But.refl _ _).set2 _ _ _ (.inl (by simp))
      have HX2n := HX2r.out.set (.slice (some ⟨gM, 0, none⟩) M.length c) (.slice (some ⟨gY, 0, none⟩) Y.length cY)
      refine bodyPost_ret (v := caV (some ⟨gM, 0, none⟩) (some ⟨gY, 0, none⟩) M Y c cY) (by simp [results, Try.results73, go_sem, HX2n.c0, HX2n.c1]) rfl ?_
      have hK : OwK w.heap.size ((wr.setCell ⟨w.heap.size, 0, none⟩ (.slice (some ⟨gM, 0, none⟩) M.length c)).setCell ⟨w.heap.size, 1, none⟩ (.slice (some ⟨gY, 0, none⟩) Y.length cY)) M Y gM gY := by
        refine ⟨by omega, HRMr.out.but hst (by simp; omega), ⟨by omega, HRY.out.but hst (by simp; omega), (HC.out.wd.but hst (fun i hi m hm hx => ?_)).mono (by omega), fun i hi => HC.out.ap gY rfl i hi⟩, by omega, fun i hi hm => ?_⟩
        · have := (HC.out.wd.bk i hi m hm).1
          simp at hx
          omega
        · have := (HC.out.wd.bk i hi gM hm).1
          omega
      refine ⟨M, Y, _, _, c, cY, rfl, ?_, hK.vcH7, ⟨HCap.out, .inr ⟨gM, rfl, HCar.out.but hst (by simp; omega), by have := HM.out; omega⟩, fun i hi => (HC.out.rm i hi).but hst (fun m hm hx => by have := (HC.out.wd.bk i hi m hm).1; simp at hx; omega), HlY.out⟩, fr_but HF0.out hst (fun m hm => by simp at hm; omega)⟩
      rw [HC.out.eq, List.take_of_length_le (by simp; have := HXl.out; omega)]

set_option maxRecDepth 100000 in
set_option maxHeartbeats 4000000 in
theorem impl_ChcLook (M : List Int) (X : List La) (aM aL : Option Addr) (cM cL : Nat) (a : Int) (w : World) (h : SrcC w M X aM aL) (hf : FewC M X) (hcM : M.length ≤ cM) :
    Calls Try.prog 21 #[caV aM aL M X cM cL, .int .i64 a] w (fun e w' => e = .returned (.int .i64 (lookA ⟨M, lns X⟩ a)) ∧ Fr w w') := by
  have F0 : Fr w (w.alloc (.cells #[.slice aM M.length cM, .slice aL X.length cL] 30)) := Fr.alloc _ _
  have HF := Lib.hid F0
  have HX1 := Lib.hid (Box2.new w (.slice aM M.length cM) (.slice aL X.length cL) 30 _ rfl)
  have HS := Lib.hid (h.fr F0)
  have E := impl_ChcOk M X aM aL cM cL _ (h.fr F0) hf hcM
  have P := fun w => impl_isPlace7 a w
  cases ho : okC ⟨M, lns X⟩
  · rw [ho] at E
    have HE := Lib.hid E
    have HA := Lib.hid (show lookA ⟨M, lns X⟩ a = -1 by simp only [lookA, ho, Bool.false_and]; rfl)
    clear E F0 h ho P
    go_enter Try.func21, Try.ntmps21
    go_upto_region 1 with fail
    generalize (w.alloc (.cells #[.slice aM M.length cM, .slice aL X.length cL] 30)) = u0 at *
    obtain ⟨_, c0, c1, _, _⟩ := HX1.out
    go_wp2_with (first | (go_at_call 47; refine HE.out.mono ?_; rintro e u1 ⟨rfl, hf2⟩; have HF2 := Lib.hid hf2; obtain ⟨_, e0, e1, _, _⟩ := HX1.out.fr hf2; clear hf2))
    go_ret
    rw [HA.out]
    exact ⟨rfl, Fr.trans HF.out HF2.out⟩
  · rw [ho] at E
    have HE := Lib.hid E
    cases hp : plcB a
    · rw [hp] at P
      have HP := Lib.hid P
      have HA := Lib.hid (show lookA ⟨M, lns X⟩ a = -1 by simp only [lookA, ho, hp, Bool.true_and, Bool.false_and]; rfl)
      clear E F0 h ho P hp
      go_enter Try.func21, Try.ntmps21
      go_upto_region 1 with fail
      generalize (w.alloc (.cells #[.slice aM M.length cM, .slice aL X.length cL] 30)) = u0 at *
      obtain ⟨_, c0, c1, _, _⟩ := HX1.out
      go_wp2_with (first | (go_at_call 47; refine HE.out.mono ?_; rintro e u1 ⟨rfl, hf2⟩; have HF2 := Lib.hid hf2; obtain ⟨_, e0, e1, _, _⟩ := HX1.out.fr hf2; clear hf2) | (go_at_call 67; refine (HP.out _).mono ?_; rintro e w' ⟨rfl, rfl⟩))
      go_ret
      rw [HA.out]
      exact ⟨rfl, Fr.trans HF.out HF2.out⟩
    · rw [hp] at P
      have HP := Lib.hid P
      have HA := Lib.hid (show lookA ⟨M, lns X⟩ a = lookC ⟨M, lns X⟩ a by simp only [lookA, ho, hp, Bool.and_true, if_true])
      have HOk := Lib.hid ((okC_iff _).1 ho)
      have HPl := Lib.hid hp
      obtain ⟨k, hk⟩ : ∃ k, slotOf a = k := ⟨_, rfl⟩
      have Hk := Lib.hid hk
      clear E F0 h ho P hp hk
      go_enter Try.func21, Try.ntmps21
      go_upto_region 1 with fail
      generalize (w.alloc (.cells #[.slice aM M.length cM, .slice aL X.length cL] 30)) = u0 at *
      obtain ⟨_, c0, c1, _, _⟩ := HX1.out
      go_upto_region 3 with (first | (go_at_call 47; refine HE.out.mono ?_; rintro e u1 ⟨rfl, hf2⟩; have HF2 := Lib.hid hf2; obtain ⟨_, e0, e1, _, _⟩ := HX1.out.fr hf2; clear hf2) | (go_at_call 67; refine (HP.out _).mono ?_; rintro e w' ⟨rfl, rfl⟩))
      clear c0 c1
      have HC := Lib.hid (impl_cacheOf M X aM aL cM cL u1 (HS.out.fr HF2.out) HOk.out)
      go_wp2_with fail
      refine HC.out.mono ?_
      rintro e u2 ⟨g, X1, rfl, hX1, hO1⟩
      have HO1 := Lib.hid hO1
      have HX1q := Lib.hid hX1
      have HT := Lib.hid (impl_through g a k u2 HPl.out Hk.out)
      clear hO1 hX1 HC e0 e1
      go_wp2_with fail
      refine HT.out.mono ?_
      rintro e u3 ⟨rfl, f3⟩
      have HO3 := Lib.hid (HO1.out.fr f3)
      have hml := fun w => ml_look ⟨g, 256 + k * 5, none⟩ w
      have hnl := fun w => nl_look ⟨g, 256 + k * 5, none⟩ w
      have HL := line_look u1 g k (256 + k * 5) M X1 a u3 HO3.out (by rw [HX1q.out]; exact HOk.out) HPl.out Hk.out rfl
      rw [HX1q.out] at HL
      have HL1 := Lib.hid HL
      clear f3 HL HT HO1
      go_wp2_with fail
      refine HL1.out.mono ?_
      rintro e u4 ⟨rfl, f4⟩
      have HF4 := Lib.hid (Fr.trans (Fr.trans (Fr.trans HF.out HF2.out) HO3.out.f) f4)
      clear f4 hml hnl
      go_wp2
      go_ret
      rw [HA.out]
      exact ⟨rfl, HF4.out⟩
set_option maxRecDepth 100000 in
set_option maxHeartbeats 4000000 in
theorem impl_ChcWrite (M : List Int) (X : List La) (aM aL : Option Addr) (cM cL : Nat) (a n : Int) (w : World) (h : SrcC w M X aM aL) (hf : FewC M X) (hcM : M.length ≤ cM) :
    Calls Try.prog 28 #[caV aM aL M X cM cL, .int .i64 a, .int .i64 n] w (ChQ7 (writeA ⟨M, lns X⟩ a n) w) := by
  have F0 : Fr w ((w.alloc (.cells #[.slice aM M.length cM, .slice aL X.length cL] 30)).alloc (.cells #[.slice none 0 0, .slice none 0 0] 30)) := by (repeat' first | (with_reducible exact Below.refl _ _) | (with_reducible assumption) | ((with_reducible refine Below.setCell ?_ ?hb _); (case hb => first | exact Nat.le_refl _ | (simp; done) | (simp; omega) | omega)) | ((with_reducible refine Below.alloc ?_ ?hb _); (case hb => first | exact Nat.le_refl _ | (simp; done) | (simp; omega) | omega)) | (with_reducible refine Below.drew ?_))
  have HF := Lib.hid F0
  have HX1 := Lib.hid ((Box2.new w (.slice aM M.length cM) (.slice aL X.length cL) 30 _ rfl).fr (Fr.alloc _ (.cells #[.slice none 0 0, .slice none 0 0] 30)))
  have HX2 := Lib.hid (Box2.new (w.alloc (.cells #[.slice aM M.length cM, .slice aL X.length cL] 30)) (.slice none 0 0) (.slice none 0 0) 30 (w.heap.size + 1) (by simp))
  have hs0 : w.heap.size + 2 ≤ ((w.alloc (.cells #[.slice aM M.length cM, .slice aL X.length cL] 30)).alloc (.cells #[.slice none 0 0, .slice none 0 0] 30)).heap.size := by simp
  have HS := Lib.hid (h.fr F0)
  have E := impl_ChcOk M X aM aL cM cL _ (h.fr F0) hf hcM
  have P := fun w => impl_isPlace7 a w
  have Q := fun w => impl_WrdOk n w
  cases ho : okC ⟨M, lns X⟩
  · rw [ho] at E
    have HE := Lib.hid E
    have HA := Lib.hid (show writeA ⟨M, lns X⟩ a n = ch0 by simp only [writeA, ho, Bool.false_and]; rfl)
    clear E F0 h ho P Q
    go_enter Try.func28, Try.ntmps28
    go_upto_region 1 with fail
    generalize ((w.alloc (.cells #[.slice aM M.length cM, .slice aL X.length cL] 30)).alloc (.cells #[.slice none 0 0, .slice none 0 0] 30)) = u0 at *
    obtain ⟨_, c0, c1, _, _⟩ := HX1.out
    go_upto_region 2 with (first | (go_at_call 47; refine HE.out.mono ?_; rintro e u1 ⟨rfl, hf2⟩; have HF2 := Lib.hid hf2; obtain ⟨_, e0, e1, _, _⟩ := HX1.out.fr hf2; clear hf2))
    have HZ2 := Lib.hid (HX2.out.fr HF2.out)
    obtain ⟨_, z0, z1, q0, q1⟩ := HZ2.out
    have hsz := HF2.out.size
    go_wp2
    have hst : But [w.heap.size + 1] u1 ((u1.setCell ⟨w.heap.size + 1, 0, none⟩ (.slice none 0 0)).setCell ⟨w.heap.size + 1, 1, none⟩ (.slice none 0 0)) := (But.refl _ _).set2 _ _ _ (.inl (by simp))
    have HX2n := HZ2.out.set (.slice none 0 0) (.slice none 0 0)
    refine bodyPost_ret (v := .agg #[.slice none 0 0, .slice none 0 0]) (by simp [results, Try.results28, go_sem, HX2n.c0, HX2n.c1]) rfl ?_
    refine ⟨[], [], none, none, 0, 0, rfl, HA.out, VcH7.nil _ _, RmC.nil _, fr_but (Fr.trans HF.out HF2.out) hst (fun m hm => by simp at hm; omega)⟩
  · rw [ho] at E
    have HE := Lib.hid E
    cases hp : plcB a
    · rw [hp] at P
      have HP := Lib.hid P
      have HA := Lib.hid (show writeA ⟨M, lns X⟩ a n = ch0 by simp only [writeA, ho, hp, Bool.true_and, Bool.false_and]; rfl)
      clear E F0 h ho P hp Q
      go_enter Try.func28, Try.ntmps28
      go_upto_region 1 with fail
      generalize ((w.alloc (.cells #[.slice aM M.length cM, .slice aL X.length cL] 30)).alloc (.cells #[.slice none 0 0, .slice none 0 0] 30)) = u0 at *
      obtain ⟨_, c0, c1, _, _⟩ := HX1.out
      go_upto_region 2 with (first | (go_at_call 47; refine HE.out.mono ?_; rintro e u1 ⟨rfl, hf2⟩; have HF2 := Lib.hid hf2; obtain ⟨_, e0, e1, _, _⟩ := HX1.out.fr hf2; clear hf2) | (go_at_call 67; refine (HP.out _).mono ?_; rintro e w' ⟨rfl, rfl⟩))
      have HZ2 := Lib.hid (HX2.out.fr HF2.out)
      obtain ⟨_, z0, z1, q0, q1⟩ := HZ2.out
      have hsz := HF2.out.size
      go_wp2
      have hst : But [w.heap.size + 1] u1 ((u1.setCell ⟨w.heap.size + 1, 0, none⟩ (.slice none 0 0)).setCell ⟨w.heap.size + 1, 1, none⟩ (.slice none 0 0)) := (But.refl _ _).set2 _ _ _ (.inl (by simp))
      have HX2n := HZ2.out.set (.slice none 0 0) (.slice none 0 0)
      refine bodyPost_ret (v := .agg #[.slice none 0 0, .slice none 0 0]) (by simp [results, Try.results28, go_sem, HX2n.c0, HX2n.c1]) rfl ?_
      refine ⟨[], [], none, none, 0, 0, rfl, HA.out, VcH7.nil _ _, RmC.nil _, fr_but (Fr.trans HF.out HF2.out) hst (fun m hm => by simp at hm; omega)⟩
    · rw [hp] at P
      have HP := Lib.hid P
      cases hw : okB n
      · rw [hw] at Q
        have HQ := Lib.hid Q
        have HA := Lib.hid (show writeA ⟨M, lns X⟩ a n = ch0 by simp only [writeA, ho, hp, hw, Bool.true_and, Bool.and_false]; rfl)
        clear E F0 h ho P hp hw Q
        go_enter Try.func28, Try.ntmps28
        go_upto_region 1 with fail
        generalize ((w.alloc (.cells #[.slice aM M.length cM, .slice aL X.length cL] 30)).alloc (.cells #[.slice none 0 0, .slice none 0 0] 30)) = u0 at *
        obtain ⟨_, c0, c1, _, _⟩ := HX1.out
        go_upto_region 2 with (first | (go_at_call 47; refine HE.out.mono ?_; rintro e u1 ⟨rfl, hf2⟩; have HF2 := Lib.hid hf2; obtain ⟨_, e0, e1, _, _⟩ := HX1.out.fr hf2; clear hf2) | (go_at_call 67; refine (HP.out _).mono ?_; rintro e w' ⟨rfl, rfl⟩) | (go_at_call 77; refine (HQ.out _).mono ?_; rintro e w' ⟨rfl, rfl⟩))
        have HZ2 := Lib.hid (HX2.out.fr HF2.out)
        obtain ⟨_, z0, z1, q0, q1⟩ := HZ2.out
        have hsz := HF2.out.size
        go_wp2
        have hst : But [w.heap.size + 1] u1 ((u1.setCell ⟨w.heap.size + 1, 0, none⟩ (.slice none 0 0)).setCell ⟨w.heap.size + 1, 1, none⟩ (.slice none 0 0)) := (But.refl _ _).set2 _ _ _ (.inl (by simp))
        have HX2n := HZ2.out.set (.slice none 0 0) (.slice none 0 0)
        refine bodyPost_ret (v := .agg #[.slice none 0 0, .slice none 0 0]) (by simp [results, Try.results28, go_sem, HX2n.c0, HX2n.c1]) rfl ?_
        refine ⟨[], [], none, none, 0, 0, rfl, HA.out, VcH7.nil _ _, RmC.nil _, fr_but (Fr.trans HF.out HF2.out) hst (fun m hm => by simp at hm; omega)⟩
      · rw [hw] at Q
        have HQ := Lib.hid Q
        have HA := Lib.hid (show writeA ⟨M, lns X⟩ a n = writeC ⟨M, lns X⟩ a n by simp only [writeA, ho, hp, hw, Bool.and_true, if_true])
        have HOk := Lib.hid ((okC_iff _).1 ho)
        have HPl := Lib.hid hp
        have HWk := Lib.hid hw
        obtain ⟨k, hk⟩ : ∃ k, slotOf a = k := ⟨_, rfl⟩
        have Hk := Lib.hid hk
        clear E F0 h ho P hp hw Q hk
        go_enter Try.func28, Try.ntmps28
        go_upto_region 1 with fail
        generalize ((w.alloc (.cells #[.slice aM M.length cM, .slice aL X.length cL] 30)).alloc (.cells #[.slice none 0 0, .slice none 0 0] 30)) = u0 at *
        obtain ⟨_, c0, c1, _, _⟩ := HX1.out
        go_upto_region 3 with (first | (go_at_call 47; refine HE.out.mono ?_; rintro e u1 ⟨rfl, hf2⟩; have HF2 := Lib.hid hf2; obtain ⟨_, e0, e1, _, _⟩ := HX1.out.fr hf2; clear hf2) | (go_at_call 67; refine (HP.out _).mono ?_; rintro e w' ⟨rfl, rfl⟩) | (go_at_call 77; refine (HQ.out _).mono ?_; rintro e w' ⟨rfl, rfl⟩))
        clear c0 c1
        have HC := Lib.hid (impl_cacheOf M X aM aL cM cL u1 (HS.out.fr HF2.out) HOk.out)
        go_wp2_with fail
        refine HC.out.mono ?_
        rintro e u2 ⟨g, X1, rfl, hX1, hO1⟩
        have HO1 := Lib.hid hO1
        have HX1q := Lib.hid hX1
        have HT := Lib.hid (impl_through g a k u2 HPl.out Hk.out)
        clear hO1 hX1 HC e0 e1
        go_wp2_with fail
        refine HT.out.mono ?_
        rintro e u3 ⟨rfl, f3⟩
        have HO3 := Lib.hid (HO1.out.fr f3)
        have hml := fun w => ml_write ⟨g, 256 + k * 5, none⟩ w
        have hnl := fun w => nl_write ⟨g, 256 + k * 5, none⟩ w
        have HL := line_write u1 g k (256 + k * 5) M X1 a n u3 HO3.out (by rw [HX1q.out]; exact HOk.out) HPl.out Hk.out rfl
        rw [HX1q.out] at HL
        have HL1 := Lib.hid HL
        clear f3 HL HT HO1
        obtain ⟨cc, hcc⟩ : ∃ cc, cc = writeC ⟨M, lns X⟩ a n := ⟨_, rfl⟩
        have HOc := Lib.hid (show OkC cc by rw [hcc]; exact writeC_ok HOk.out HPl.out HWk.out)
        rw [← hcc] at HL1 HA
        clear hcc
        go_wp2_with fail
        refine HL1.out.mono ?_
        rintro e u4 ⟨X2, rfl, hX2, hO4⟩
        have HO4 := Lib.hid hO4
        have HX2q := Lib.hid hX2
        have HSt := Lib.hid (cache_state u1 g cc.M X2 u4 hO4 (by rw [hX2]; exact HOc.out))
        clear hO4 hX2 HL1 HO3 hml hnl
        go_wp2_with fail
        refine HSt.out.mono ?_
        rintro e u5 ⟨M3, X3, b1, b2, d1, d2, rfl, h3, V3, q3, f5⟩
        have HV3 := Lib.hid V3
        have H3 := Lib.hid h3
        have HF5 := Lib.hid (Fr.trans (Fr.trans (Fr.trans HF.out HF2.out) HO4.out.f) f5)
        have HZ5 := Lib.hid (((HX2.out.fr HF2.out).fr HO4.out.f).fr f5)
        have hz1 := HF2.out.size
        have hz4 := HO4.out.f.size
        have hz5 := f5.size
        unfold caV
        clear V3 h3 f5 HSt
        obtain ⟨_, z0, z1, p0, p1⟩ := HZ5.out
        go_wp2
        have hst : But [w.heap.size + 1] u5 ((u5.setCell ⟨w.heap.size + 1, 0, none⟩ (.slice b1 M3.length d1)).setCell ⟨w.heap.size + 1, 1, none⟩ (.slice b2 X3.length d2)) := (But.refl _ _).set2 _ _ _ (.inl (by simp))
        have HX2n := HZ5.out.set (.slice b1 M3.length d1) (.slice b2 X3.length d2)
        refine bodyPost_ret (v := .agg #[.slice b1 M3.length d1, .slice b2 X3.length d2]) (by simp [results, Try.results28, go_sem, HX2n.c0, HX2n.c1]) rfl ?_
        refine ⟨M3, X3, b1, b2, d1, d2, rfl, ?_, (HV3.out.apart hst (fun m hm hx => ?_)).mono (by omega), (q3.but hst (fun m hm hx => by have := HV3.out.bl m (List.mem_append_left _ hm); simp at hx; omega) (fun i hi m hm hx => by have := HV3.out.bl m (List.mem_append_right _ (List.mem_append_right _ (wbks_mem hi hm))); simp at hx; omega)), fr_but HF5.out hst (fun m hm => by simp at hm; omega)⟩
        · rw [HA.out, ← H3.out, HX2q.out]
        · have := HV3.out.bl m hm
          simp at hx
          omega
set_option maxRecDepth 100000 in
set_option maxHeartbeats 4000000 in
theorem impl_ChcLay (M : List Int) (X : List La) (aM aL : Option Addr) (cM cL : Nat) (a n : Int) (w : World) (h : SrcC w M X aM aL) (hf : FewC M X) (hcM : M.length ≤ cM) :
    Calls Try.prog 30 #[caV aM aL M X cM cL, .int .i64 a, .int .i64 n] w (ChQ7 (layA ⟨M, lns X⟩ a n) w) := by
  have F0 : Fr w ((w.alloc (.cells #[.slice aM M.length cM, .slice aL X.length cL] 30)).alloc (.cells #[.slice none 0 0, .slice none 0 0] 30)) := by (repeat' first | (with_reducible exact Below.refl _ _) | (with_reducible assumption) | ((with_reducible refine Below.setCell ?_ ?hb _); (case hb => first | exact Nat.le_refl _ | (simp; done) | (simp; omega) | omega)) | ((with_reducible refine Below.alloc ?_ ?hb _); (case hb => first | exact Nat.le_refl _ | (simp; done) | (simp; omega) | omega)) | (with_reducible refine Below.drew ?_))
  have HF := Lib.hid F0
  have HX1 := Lib.hid ((Box2.new w (.slice aM M.length cM) (.slice aL X.length cL) 30 _ rfl).fr (Fr.alloc _ (.cells #[.slice none 0 0, .slice none 0 0] 30)))
  have HX2 := Lib.hid (Box2.new (w.alloc (.cells #[.slice aM M.length cM, .slice aL X.length cL] 30)) (.slice none 0 0) (.slice none 0 0) 30 (w.heap.size + 1) (by simp))
  have hs0 : w.heap.size + 2 ≤ ((w.alloc (.cells #[.slice aM M.length cM, .slice aL X.length cL] 30)).alloc (.cells #[.slice none 0 0, .slice none 0 0] 30)).heap.size := by simp
  have HS := Lib.hid (h.fr F0)
  have E := impl_ChcOk M X aM aL cM cL _ (h.fr F0) hf hcM
  have P := fun w => impl_isPlace7 a w
  have Q := fun w => impl_WrdOk n w
  cases ho : okC ⟨M, lns X⟩
  · rw [ho] at E
    have HE := Lib.hid E
    have HA := Lib.hid (show layA ⟨M, lns X⟩ a n = ch0 by simp only [layA, ho, Bool.false_and]; rfl)
    clear E F0 h ho P Q
    go_enter Try.func30, Try.ntmps30
    go_upto_region 1 with fail
    generalize ((w.alloc (.cells #[.slice aM M.length cM, .slice aL X.length cL] 30)).alloc (.cells #[.slice none 0 0, .slice none 0 0] 30)) = u0 at *
    obtain ⟨_, c0, c1, _, _⟩ := HX1.out
    go_upto_region 2 with (first | (go_at_call 47; refine HE.out.mono ?_; rintro e u1 ⟨rfl, hf2⟩; have HF2 := Lib.hid hf2; obtain ⟨_, e0, e1, _, _⟩ := HX1.out.fr hf2; clear hf2))
    have HZ2 := Lib.hid (HX2.out.fr HF2.out)
    obtain ⟨_, z0, z1, q0, q1⟩ := HZ2.out
    have hsz := HF2.out.size
    go_wp2
    have hst : But [w.heap.size + 1] u1 ((u1.setCell ⟨w.heap.size + 1, 0, none⟩ (.slice none 0 0)).setCell ⟨w.heap.size + 1, 1, none⟩ (.slice none 0 0)) := (But.refl _ _).set2 _ _ _ (.inl (by simp))
    have HX2n := HZ2.out.set (.slice none 0 0) (.slice none 0 0)
    refine bodyPost_ret (v := .agg #[.slice none 0 0, .slice none 0 0]) (by simp [results, Try.results30, go_sem, HX2n.c0, HX2n.c1]) rfl ?_
    refine ⟨[], [], none, none, 0, 0, rfl, HA.out, VcH7.nil _ _, RmC.nil _, fr_but (Fr.trans HF.out HF2.out) hst (fun m hm => by simp at hm; omega)⟩
  · rw [ho] at E
    have HE := Lib.hid E
    cases hp : plcB a
    · rw [hp] at P
      have HP := Lib.hid P
      have HA := Lib.hid (show layA ⟨M, lns X⟩ a n = ch0 by simp only [layA, ho, hp, Bool.true_and, Bool.false_and]; rfl)
      clear E F0 h ho P hp Q
      go_enter Try.func30, Try.ntmps30
      go_upto_region 1 with fail
      generalize ((w.alloc (.cells #[.slice aM M.length cM, .slice aL X.length cL] 30)).alloc (.cells #[.slice none 0 0, .slice none 0 0] 30)) = u0 at *
      obtain ⟨_, c0, c1, _, _⟩ := HX1.out
      go_upto_region 2 with (first | (go_at_call 47; refine HE.out.mono ?_; rintro e u1 ⟨rfl, hf2⟩; have HF2 := Lib.hid hf2; obtain ⟨_, e0, e1, _, _⟩ := HX1.out.fr hf2; clear hf2) | (go_at_call 67; refine (HP.out _).mono ?_; rintro e w' ⟨rfl, rfl⟩))
      have HZ2 := Lib.hid (HX2.out.fr HF2.out)
      obtain ⟨_, z0, z1, q0, q1⟩ := HZ2.out
      have hsz := HF2.out.size
      go_wp2
      have hst : But [w.heap.size + 1] u1 ((u1.setCell ⟨w.heap.size + 1, 0, none⟩ (.slice none 0 0)).setCell ⟨w.heap.size + 1, 1, none⟩ (.slice none 0 0)) := (But.refl _ _).set2 _ _ _ (.inl (by simp))
      have HX2n := HZ2.out.set (.slice none 0 0) (.slice none 0 0)
      refine bodyPost_ret (v := .agg #[.slice none 0 0, .slice none 0 0]) (by simp [results, Try.results30, go_sem, HX2n.c0, HX2n.c1]) rfl ?_
      refine ⟨[], [], none, none, 0, 0, rfl, HA.out, VcH7.nil _ _, RmC.nil _, fr_but (Fr.trans HF.out HF2.out) hst (fun m hm => by simp at hm; omega)⟩
    · rw [hp] at P
      have HP := Lib.hid P
      cases hw : okB n
      · rw [hw] at Q
        have HQ := Lib.hid Q
        have HA := Lib.hid (show layA ⟨M, lns X⟩ a n = ch0 by simp only [layA, ho, hp, hw, Bool.true_and, Bool.and_false]; rfl)
        clear E F0 h ho P hp hw Q
        go_enter Try.func30, Try.ntmps30
        go_upto_region 1 with fail
        generalize ((w.alloc (.cells #[.slice aM M.length cM, .slice aL X.length cL] 30)).alloc (.cells #[.slice none 0 0, .slice none 0 0] 30)) = u0 at *
        obtain ⟨_, c0, c1, _, _⟩ := HX1.out
        go_upto_region 2 with (first | (go_at_call 47; refine HE.out.mono ?_; rintro e u1 ⟨rfl, hf2⟩; have HF2 := Lib.hid hf2; obtain ⟨_, e0, e1, _, _⟩ := HX1.out.fr hf2; clear hf2) | (go_at_call 67; refine (HP.out _).mono ?_; rintro e w' ⟨rfl, rfl⟩) | (go_at_call 77; refine (HQ.out _).mono ?_; rintro e w' ⟨rfl, rfl⟩))
        have HZ2 := Lib.hid (HX2.out.fr HF2.out)
        obtain ⟨_, z0, z1, q0, q1⟩ := HZ2.out
        have hsz := HF2.out.size
        go_wp2
        have hst : But [w.heap.size + 1] u1 ((u1.setCell ⟨w.heap.size + 1, 0, none⟩ (.slice none 0 0)).setCell ⟨w.heap.size + 1, 1, none⟩ (.slice none 0 0)) := (But.refl _ _).set2 _ _ _ (.inl (by simp))
        have HX2n := HZ2.out.set (.slice none 0 0) (.slice none 0 0)
        refine bodyPost_ret (v := .agg #[.slice none 0 0, .slice none 0 0]) (by simp [results, Try.results30, go_sem, HX2n.c0, HX2n.c1]) rfl ?_
        refine ⟨[], [], none, none, 0, 0, rfl, HA.out, VcH7.nil _ _, RmC.nil _, fr_but (Fr.trans HF.out HF2.out) hst (fun m hm => by simp at hm; omega)⟩
      · rw [hw] at Q
        have HQ := Lib.hid Q
        have HA := Lib.hid (show layA ⟨M, lns X⟩ a n = layC ⟨M, lns X⟩ a n by simp only [layA, ho, hp, hw, Bool.and_true, if_true])
        have HOk := Lib.hid ((okC_iff _).1 ho)
        have HPl := Lib.hid hp
        have HWk := Lib.hid hw
        obtain ⟨k, hk⟩ : ∃ k, slotOf a = k := ⟨_, rfl⟩
        have Hk := Lib.hid hk
        clear E F0 h ho P hp hw Q hk
        go_enter Try.func30, Try.ntmps30
        go_upto_region 1 with fail
        generalize ((w.alloc (.cells #[.slice aM M.length cM, .slice aL X.length cL] 30)).alloc (.cells #[.slice none 0 0, .slice none 0 0] 30)) = u0 at *
        obtain ⟨_, c0, c1, _, _⟩ := HX1.out
        go_upto_region 3 with (first | (go_at_call 47; refine HE.out.mono ?_; rintro e u1 ⟨rfl, hf2⟩; have HF2 := Lib.hid hf2; obtain ⟨_, e0, e1, _, _⟩ := HX1.out.fr hf2; clear hf2) | (go_at_call 67; refine (HP.out _).mono ?_; rintro e w' ⟨rfl, rfl⟩) | (go_at_call 77; refine (HQ.out _).mono ?_; rintro e w' ⟨rfl, rfl⟩))
        clear c0 c1
        have HC := Lib.hid (impl_cacheOf M X aM aL cM cL u1 (HS.out.fr HF2.out) HOk.out)
        go_wp2_with fail
        refine HC.out.mono ?_
        rintro e u2 ⟨g, X1, rfl, hX1, hO1⟩
        have HO1 := Lib.hid hO1
        have HX1q := Lib.hid hX1
        have HT := Lib.hid (impl_through g a k u2 HPl.out Hk.out)
        clear hO1 hX1 HC e0 e1
        go_wp2_with fail
        refine HT.out.mono ?_
        rintro e u3 ⟨rfl, f3⟩
        have HO3 := Lib.hid (HO1.out.fr f3)
        have hml := fun w => ml_lay ⟨g, 256 + k * 5, none⟩ w
        have hnl := fun w => nl_lay ⟨g, 256 + k * 5, none⟩ w
        have HL := line_lay u1 g k (256 + k * 5) M X1 a n u3 HO3.out (by rw [HX1q.out]; exact HOk.out) HPl.out Hk.out rfl
        rw [HX1q.out] at HL
        have HL1 := Lib.hid HL
        clear f3 HL HT HO1
        obtain ⟨cc, hcc⟩ : ∃ cc, cc = layC ⟨M, lns X⟩ a n := ⟨_, rfl⟩
        have HOc := Lib.hid (show OkC cc by rw [hcc]; exact layC_ok HOk.out HPl.out HWk.out)
        rw [← hcc] at HL1 HA
        clear hcc
        go_wp2_with fail
        refine HL1.out.mono ?_
        rintro e u4 ⟨X2, rfl, hX2, hO4⟩
        have HO4 := Lib.hid hO4
        have HX2q := Lib.hid hX2
        have HSt := Lib.hid (cache_state u1 g cc.M X2 u4 hO4 (by rw [hX2]; exact HOc.out))
        clear hO4 hX2 HL1 HO3 hml hnl
        go_wp2_with fail
        refine HSt.out.mono ?_
        rintro e u5 ⟨M3, X3, b1, b2, d1, d2, rfl, h3, V3, q3, f5⟩
        have HV3 := Lib.hid V3
        have H3 := Lib.hid h3
        have HF5 := Lib.hid (Fr.trans (Fr.trans (Fr.trans HF.out HF2.out) HO4.out.f) f5)
        have HZ5 := Lib.hid (((HX2.out.fr HF2.out).fr HO4.out.f).fr f5)
        have hz1 := HF2.out.size
        have hz4 := HO4.out.f.size
        have hz5 := f5.size
        unfold caV
        clear V3 h3 f5 HSt
        obtain ⟨_, z0, z1, p0, p1⟩ := HZ5.out
        go_wp2
        have hst : But [w.heap.size + 1] u5 ((u5.setCell ⟨w.heap.size + 1, 0, none⟩ (.slice b1 M3.length d1)).setCell ⟨w.heap.size + 1, 1, none⟩ (.slice b2 X3.length d2)) := (But.refl _ _).set2 _ _ _ (.inl (by simp))
        have HX2n := HZ5.out.set (.slice b1 M3.length d1) (.slice b2 X3.length d2)
        refine bodyPost_ret (v := .agg #[.slice b1 M3.length d1, .slice b2 X3.length d2]) (by simp [results, Try.results30, go_sem, HX2n.c0, HX2n.c1]) rfl ?_
        refine ⟨M3, X3, b1, b2, d1, d2, rfl, ?_, (HV3.out.apart hst (fun m hm hx => ?_)).mono (by omega), (q3.but hst (fun m hm hx => by have := HV3.out.bl m (List.mem_append_left _ hm); simp at hx; omega) (fun i hi m hm hx => by have := HV3.out.bl m (List.mem_append_right _ (List.mem_append_right _ (wbks_mem hi hm))); simp at hx; omega)), fr_but HF5.out hst (fun m hm => by simp at hm; omega)⟩
        · rw [HA.out, ← H3.out, HX2q.out]
        · have := HV3.out.bl m hm
          simp at hx
          omega
set_option maxRecDepth 100000 in
set_option maxHeartbeats 4000000 in
theorem impl_ChcRead (M : List Int) (X : List La) (aM aL : Option Addr) (cM cL : Nat) (a : Int) (w : World) (h : SrcC w M X aM aL) (hf : FewC M X) (hcM : M.length ≤ cM) :
    Calls Try.prog 24 #[caV aM aL M X cM cL, .int .i64 a] w (ChP7 (readA ⟨M, lns X⟩ a) (readN ⟨M, lns X⟩ a) w) := by
  have F0 : Fr w ((w.alloc (.cells #[.slice aM M.length cM, .slice aL X.length cL] 30)).alloc (.cells #[.slice none 0 0, .slice none 0 0] 30)) := by (repeat' first | (with_reducible exact Below.refl _ _) | (with_reducible assumption) | ((with_reducible refine Below.setCell ?_ ?hb _); (case hb => first | exact Nat.le_refl _ | (simp; done) | (simp; omega) | omega)) | ((with_reducible refine Below.alloc ?_ ?hb _); (case hb => first | exact Nat.le_refl _ | (simp; done) | (simp; omega) | omega)) | (with_reducible refine Below.drew ?_))
  have HF := Lib.hid F0
  have HX1 := Lib.hid ((Box2.new w (.slice aM M.length cM) (.slice aL X.length cL) 30 _ rfl).fr (Fr.alloc _ (.cells #[.slice none 0 0, .slice none 0 0] 30)))
  have HX2 := Lib.hid (Box2.new (w.alloc (.cells #[.slice aM M.length cM, .slice aL X.length cL] 30)) (.slice none 0 0) (.slice none 0 0) 30 (w.heap.size + 1) (by simp))
  have hs0 : w.heap.size + 2 ≤ ((w.alloc (.cells #[.slice aM M.length cM, .slice aL X.length cL] 30)).alloc (.cells #[.slice none 0 0, .slice none 0 0] 30)).heap.size := by simp
  have HS := Lib.hid (h.fr F0)
  have E := impl_ChcOk M X aM aL cM cL _ (h.fr F0) hf hcM
  have P := fun w => impl_isPlace7 a w
  cases ho : okC ⟨M, lns X⟩
  · rw [ho] at E
    have HE := Lib.hid E
    have HA := Lib.hid (show readA ⟨M, lns X⟩ a = ch0 by simp only [readA, ho, Bool.false_and]; rfl)
    have HN := Lib.hid (show readN ⟨M, lns X⟩ a = -1 by simp only [readN, ho, Bool.false_and]; rfl)
    clear E F0 h ho P
    go_enter Try.func24, Try.ntmps24
    go_upto_region 1 with fail
    generalize ((w.alloc (.cells #[.slice aM M.length cM, .slice aL X.length cL] 30)).alloc (.cells #[.slice none 0 0, .slice none 0 0] 30)) = u0 at *
    obtain ⟨_, c0, c1, _, _⟩ := HX1.out
    go_upto_region 2 with (first | (go_at_call 47; refine HE.out.mono ?_; rintro e u1 ⟨rfl, hf2⟩; have HF2 := Lib.hid hf2; obtain ⟨_, e0, e1, _, _⟩ := HX1.out.fr hf2; clear hf2))
    have HZ2 := Lib.hid (HX2.out.fr HF2.out)
    obtain ⟨_, z0, z1, q0, q1⟩ := HZ2.out
    have hsz := HF2.out.size
    go_wp2
    have hst : But [w.heap.size + 1] u1 ((u1.setCell ⟨w.heap.size + 1, 0, none⟩ (.slice none 0 0)).setCell ⟨w.heap.size + 1, 1, none⟩ (.slice none 0 0)) := (But.refl _ _).set2 _ _ _ (.inl (by simp))
    have HX2n := HZ2.out.set (.slice none 0 0) (.slice none 0 0)
    refine bodyPost_ret (v := .tuple #[.agg #[.slice none 0 0, .slice none 0 0], .int .i64 (-1)]) (by simp [results, Try.results24, go_sem, HX2n.c0, HX2n.c1]) rfl ?_
    refine ⟨[], [], none, none, 0, 0, by rw [HN.out]; rfl, HA.out, VcH7.nil _ _, RmC.nil _, fr_but (Fr.trans HF.out HF2.out) hst (fun m hm => by simp at hm; omega)⟩
  · rw [ho] at E
    have HE := Lib.hid E
    cases hp : plcB a
    · rw [hp] at P
      have HP := Lib.hid P
      have HA := Lib.hid (show readA ⟨M, lns X⟩ a = ch0 by simp only [readA, ho, hp, Bool.true_and, Bool.false_and]; rfl)
      have HN := Lib.hid (show readN ⟨M, lns X⟩ a = -1 by simp only [readN, ho, hp, Bool.true_and, Bool.false_and]; rfl)
      clear E F0 h ho P hp
      go_enter Try.func24, Try.ntmps24
      go_upto_region 1 with fail
      generalize ((w.alloc (.cells #[.slice aM M.length cM, .slice aL X.length cL] 30)).alloc (.cells #[.slice none 0 0, .slice none 0 0] 30)) = u0 at *
      obtain ⟨_, c0, c1, _, _⟩ := HX1.out
      go_upto_region 2 with (first | (go_at_call 47; refine HE.out.mono ?_; rintro e u1 ⟨rfl, hf2⟩; have HF2 := Lib.hid hf2; obtain ⟨_, e0, e1, _, _⟩ := HX1.out.fr hf2; clear hf2) | (go_at_call 67; refine (HP.out _).mono ?_; rintro e w' ⟨rfl, rfl⟩))
      have HZ2 := Lib.hid (HX2.out.fr HF2.out)
      obtain ⟨_, z0, z1, q0, q1⟩ := HZ2.out
      have hsz := HF2.out.size
      go_wp2
      have hst : But [w.heap.size + 1] u1 ((u1.setCell ⟨w.heap.size + 1, 0, none⟩ (.slice none 0 0)).setCell ⟨w.heap.size + 1, 1, none⟩ (.slice none 0 0)) := (But.refl _ _).set2 _ _ _ (.inl (by simp))
      have HX2n := HZ2.out.set (.slice none 0 0) (.slice none 0 0)
      refine bodyPost_ret (v := .tuple #[.agg #[.slice none 0 0, .slice none 0 0], .int .i64 (-1)]) (by simp [results, Try.results24, go_sem, HX2n.c0, HX2n.c1]) rfl ?_
      refine ⟨[], [], none, none, 0, 0, by rw [HN.out]; rfl, HA.out, VcH7.nil _ _, RmC.nil _, fr_but (Fr.trans HF.out HF2.out) hst (fun m hm => by simp at hm; omega)⟩
    · rw [hp] at P
      have HP := Lib.hid P
      have HA := Lib.hid (show readA ⟨M, lns X⟩ a = bringC ⟨M, lns X⟩ a by simp only [readA, ho, hp, Bool.and_true, if_true])
      have HN := Lib.hid (show readN ⟨M, lns X⟩ a = lookC (bringC ⟨M, lns X⟩ a) a by simp only [readN, ho, hp, Bool.and_true, if_true])
      have HOk := Lib.hid ((okC_iff _).1 ho)
      have HPl := Lib.hid hp
      obtain ⟨k, hk⟩ : ∃ k, slotOf a = k := ⟨_, rfl⟩
      have Hk := Lib.hid hk
      clear E F0 h ho P hp hk
      go_enter Try.func24, Try.ntmps24
      go_upto_region 1 with fail
      generalize ((w.alloc (.cells #[.slice aM M.length cM, .slice aL X.length cL] 30)).alloc (.cells #[.slice none 0 0, .slice none 0 0] 30)) = u0 at *
      obtain ⟨_, c0, c1, _, _⟩ := HX1.out
      go_upto_region 3 with (first | (go_at_call 47; refine HE.out.mono ?_; rintro e u1 ⟨rfl, hf2⟩; have HF2 := Lib.hid hf2; obtain ⟨_, e0, e1, _, _⟩ := HX1.out.fr hf2; clear hf2) | (go_at_call 67; refine (HP.out _).mono ?_; rintro e w' ⟨rfl, rfl⟩))
      clear c0 c1
      have HC := Lib.hid (impl_cacheOf M X aM aL cM cL u1 (HS.out.fr HF2.out) HOk.out)
      go_wp2_with fail
      refine HC.out.mono ?_
      rintro e u2 ⟨g, X1, rfl, hX1, hO1⟩
      have HO1 := Lib.hid hO1
      have HX1q := Lib.hid hX1
      have HT := Lib.hid (impl_through g a k u2 HPl.out Hk.out)
      clear hO1 hX1 HC e0 e1
      go_wp2_with fail
      refine HT.out.mono ?_
      rintro e u3 ⟨rfl, f3⟩
      have HO3 := Lib.hid (HO1.out.fr f3)
      have hml := fun w => ml_read ⟨g, 256 + k * 5, none⟩ w
      have hnl := fun w => nl_read ⟨g, 256 + k * 5, none⟩ w
      have HL := line_read u1 g k (256 + k * 5) M X1 a u3 HO3.out (by rw [HX1q.out]; exact HOk.out) HPl.out Hk.out rfl
      rw [HX1q.out] at HL
      have HL1 := Lib.hid HL
      clear f3 HL HT HO1
      obtain ⟨cc, hcc⟩ : ∃ cc, cc = bringC ⟨M, lns X⟩ a := ⟨_, rfl⟩
      have HOc := Lib.hid (show OkC cc by rw [hcc]; exact bringC_ok HOk.out HPl.out)
      rw [← hcc] at HL1 HA HN
      clear hcc
      obtain ⟨nn, hnn⟩ : ∃ nn, nn = lookC cc a := ⟨_, rfl⟩
      rw [← hnn] at HL1 HN
      clear hnn
      go_wp2_with fail
      refine HL1.out.mono ?_
      rintro e u4 ⟨X2, rfl, hX2, hO4⟩
      have HO4 := Lib.hid hO4
      have HX2q := Lib.hid hX2
      have HSt := Lib.hid (cache_state u1 g cc.M X2 u4 hO4 (by rw [hX2]; exact HOc.out))
      clear hO4 hX2 HL1 HO3 hml hnl
      go_wp2_with fail
      refine HSt.out.mono ?_
      rintro e u5 ⟨M3, X3, b1, b2, d1, d2, rfl, h3, V3, q3, f5⟩
      have HV3 := Lib.hid V3
      have H3 := Lib.hid h3
      have HF5 := Lib.hid (Fr.trans (Fr.trans (Fr.trans HF.out HF2.out) HO4.out.f) f5)
      have HZ5 := Lib.hid (((HX2.out.fr HF2.out).fr HO4.out.f).fr f5)
      have hz1 := HF2.out.size
      have hz4 := HO4.out.f.size
      have hz5 := f5.size
      unfold caV
      clear V3 h3 f5 HSt
      obtain ⟨_, z0, z1, p0, p1⟩ := HZ5.out
      go_wp2
      have hst : But [w.heap.size + 1] u5 ((u5.setCell ⟨w.heap.size + 1, 0, none⟩ (.slice b1 M3.length d1)).setCell ⟨w.heap.size + 1, 1, none⟩ (.slice b2 X3.length d2)) := (But.refl _ _).set2 _ _ _ (.inl (by simp))
      have HX2n := HZ5.out.set (.slice b1 M3.length d1) (.slice b2 X3.length d2)
      refine bodyPost_ret (v := .tuple #[.agg #[.slice b1 M3.length d1, .slice b2 X3.length d2], .int .i64 nn]) (by simp [results, Try.results24, go_sem, HX2n.c0, HX2n.c1]) rfl ?_
      refine ⟨M3, X3, b1, b2, d1, d2, by rw [HN.out], ?_, (HV3.out.apart hst (fun m hm hx => ?_)).mono (by omega), (q3.but hst (fun m hm hx => by have := HV3.out.bl m (List.mem_append_left _ hm); simp at hx; omega) (fun i hi m hm hx => by have := HV3.out.bl m (List.mem_append_right _ (List.mem_append_right _ (wbks_mem hi hm))); simp at hx; omega)), fr_but HF5.out hst (fun m hm => by simp at hm; omega)⟩
      · rw [HA.out, ← H3.out, HX2q.out]
      · have := HV3.out.bl m hm
        simp at hx
        omega

theorem lookN_get (c : Ch) (n i : Nat) (hi : i < n) : (lookN c n).getD i 0 = lookC c (i : Int) := by simp [lookN, List.getD_eq_getElem?_getD, hi]
/-- The first k words are those that are seen, the others nought. -/
def fillN (c : Ch) (k : Nat) : List Int := lookN c k ++ List.replicate (256 - k) 0
theorem fillN_len (c : Ch) (k : Nat) (hk : k ≤ 256) : (fillN c k).length = 256 := by simp [fillN, lookN_len]; omega
theorem fillN_next (c : Ch) (k : Nat) (hk : k < 256) : (fillN c k).set k (lookC c (k : Int)) = fillN c (k + 1) := by
  unfold fillN
  rw [lookN_succ, show 256 - k = (256 - (k + 1)) + 1 by omega, List.replicate_succ]
  rw [List.set_append_right _ _ (by rw [lookN_len]; exact Nat.le_refl _), lookN_len, Nat.sub_self, List.set_cons_zero, List.append_assoc]
  rfl
def z256 : Array Value := ((List.replicate 256 (0 : Int)).map (Value.int .i64)).toArray
theorem z256_ro (w : World) : Ro (w.alloc (.cells z256 3)) w.heap.size (List.replicate 256 (0 : Int)) := by
  have := ro_new w (List.replicate 256 (0 : Int)) #[] 3
  rwa [Array.append_empty] at this
theorem z256_ca (w : World) : Ca (w.alloc (.cells z256 3)) w.heap.size 256 256 := by
  have := ca_new w (List.replicate 256 (0 : Int)) #[] 256 (by rw [List.length_replicate]; exact ⟨rfl, by decide⟩)
  rwa [Array.append_empty, List.length_replicate] at this
theorem fillN_zero (c : Ch) : fillN c 0 = List.replicate 256 0 := rfl
set_option maxRecDepth 100000 in
theorem make_256 (w : World) : (Instr.makeSlice 22 (.int .i64 256) (.int .i64 256)).run Try.prog w = .ok (.slice (some ⟨w.heap.size, 0, none⟩) 256 256) (w.alloc (.cells z256 3)) := by
  kernel_rfl
set_option maxRecDepth 100000 in
set_option maxHeartbeats 4000000 in
theorem cache_all (w0 : World) (g : Nat) (M : List Int) (X : List La) (w : World) (h : OwP w0 w g M X) (ho : OkC ⟨M, lns X⟩) :
    Calls Try.prog 80 #[.pointer (some ⟨g, 0, none⟩)] w (CpC (allC ⟨M, lns X⟩) w) := by
  have HO := Lib.hid h
  have HOK := Lib.hid ho
  have hmk := make_256
  have HF := Lib.hid (Fr.alloc w (.cells z256 3))
  have HR := Lib.hid (z256_ro w)
  have HCa := Lib.hid (z256_ca w)
  clear h ho
  go_enter Try.func80, Try.ntmps80
  go_upto_region 2 with fail
  clear hmk
  generalize (w.alloc (.cells z256 3)) = u0 at *
  have HO0 := Lib.hid (HO.out.fr HF.out)
  have hwl := HR.out.lt
  go_wp2_with fail
  go_loopw [8] (fun i wr => ∃ k : Nat, k ≤ 256 ∧ i = .int .i64 k ∧ Ro wr w.heap.size (fillN ⟨M, lns X⟩ k) ∧ Ca wr w.heap.size 256 256 ∧ But [w.heap.size] u0 wr) (fun i _ => 256 - (intOf i).toNat)
  case atStart => exact ⟨0, by omega, rfl, by rw [fillN_zero]; exact HR.out, HCa.out, But.refl _ _⟩
  case round =>
    obtain ⟨k, hk, rfl, hr, hc, hb⟩ := hrel
    have HRk := Lib.hid hr
    have HCk := Lib.hid hc
    have HBk := Lib.hid hb
    by_cases hlt : k < 256
    · have hlt' : (k : Int) < 256 := by omega
      have hp : Hid (plcB (k : Int) = true) := Lib.hid ((plcB_iff _).2 ⟨by omega, by omega⟩)
      obtain ⟨q, hq⟩ : ∃ q, slotOf (k : Int) = q := ⟨_, rfl⟩
      have Hq := Lib.hid hq
      have HOk : Hid (OwP w0 wr g M X) := Lib.hid (by
        have h0 := HO.out
        have hgw := h0.r.lt
        refine ⟨fr_but HO0.out.f hb (fun m hm => by have := h0.f.size; simp at hm; omega), h0.b, HO0.out.r.but hb (by simp; omega), HO0.out.w.but hb (fun i hi m hm hx => ?_), h0.ap⟩
        have := (h0.w.bk i hi m hm).2
        simp at hx
        omega)
      have HT := Lib.hid (impl_through g (k : Int) q wr hp.out Hq.out)
      have hml := fun w => ml_look ⟨g, 256 + q * 5, none⟩ w
      have hnl := fun w => nl_look ⟨g, 256 + q * 5, none⟩ w
      clear hr hc hb hq
      go_wp2_with fail
      refine HT.out.mono ?_
      rintro e u1 ⟨rfl, f1⟩
      have HO1 := Lib.hid (HOk.out.fr f1)
      have HL := Lib.hid (line_look w0 g q (256 + q * 5) M X (k : Int) u1 HO1.out HOK.out hp.out Hq.out rfl)
      have HF1 := Lib.hid f1
      clear f1 HT
      go_wp2_with fail
      refine HL.out.mono ?_
      rintro e u2 ⟨rfl, f2⟩
      have HF2 := Lib.hid (Fr.trans HF1.out f2)
      have HR2 := Lib.hid (HRk.out.fr HF2.out)
      have r1 := HR2.out.cel k (by rw [fillN_len _ _ hk]; exact hlt)
      have r2 := HR2.out.fro k (by rw [fillN_len _ _ hk]; exact hlt)
      have HN := Lib.hid (fillN_next ⟨M, lns X⟩ k hlt)
      have hk0 : (0 : Int) ≤ (k : Int) := Int.natCast_nonneg _
      clear f2 HL hml hnl
      generalize lookC ⟨M, lns X⟩ (k : Int) = x at *
      generalize (fillN ⟨M, lns X⟩ k).getD k 0 = y at r1
      go_wp2
      go_roundw
      case rel =>
        refine ⟨k + 1, by omega, by go_num, ?_, ?_, ?_⟩
        · rw [← HN.out]; exact HR2.out.set k x (by rw [fillN_len _ _ hk]; exact hlt)
        · exact (HCk.out.but (L := []) (But.of HF2.out) (by simp)).set _ _ _
        · exact (HBk.out.trans (But.of HF2.out)).set _ _ _ (.inl (by simp))
      case measure => simp [intOf]; omega
    · have hge : ¬ (k : Int) < 256 := by omega
      obtain rfl : k = 256 := by omega
      clear hr hc hb
      go_wp2
      go_ret
      have e1 : fillN ⟨M, lns X⟩ 256 = allC ⟨M, lns X⟩ := by simp [fillN, allC_eq]
      have hl : (allC ⟨M, lns X⟩).length = 256 := by rw [allC_eq, lookN_len]
      refine ⟨some ⟨w.heap.size, 0, none⟩, 256, by rw [hl]; rfl, .inr ⟨w.heap.size, rfl, Nat.le_refl _, by rw [← e1]; exact HRk.out, by rw [hl]; exact HCk.out, by omega⟩, fr_but HF.out HBk.out (fun m hm => by simp at hm; omega)⟩
set_option maxRecDepth 100000 in
set_option maxHeartbeats 4000000 in
theorem impl_ChcAll (M : List Int) (X : List La) (aM aL : Option Addr) (cM cL : Nat) (w : World) (h : SrcC w M X aM aL) (hf : FewC M X) (hcM : M.length ≤ cM) :
    Calls Try.prog 32 #[caV aM aL M X cM cL] w (CpC (allA ⟨M, lns X⟩) w) := by
  have F0 : Fr w (w.alloc (.cells #[.slice aM M.length cM, .slice aL X.length cL] 30)) := Fr.alloc _ _
  have HF := Lib.hid F0
  have HX := Lib.hid (Box2.new w (.slice aM M.length cM) (.slice aL X.length cL) 30 _ rfl)
  have HS := Lib.hid (h.fr F0)
  have E := impl_ChcOk M X aM aL cM cL _ (h.fr F0) hf hcM
  cases ho : okC ⟨M, lns X⟩
  · rw [ho] at E
    have HE := Lib.hid E
    have HA := Lib.hid (show allA ⟨M, lns X⟩ = [] by simp only [allA, ho]; rfl)
    clear E F0 h ho
    go_enter Try.func32, Try.ntmps32
    go_wp2_with fail
    generalize (w.alloc (.cells #[.slice aM M.length cM, .slice aL X.length cL] 30)) = u0 at *
    obtain ⟨_, c0, c1, _, _⟩ := HX.out
    go_wp2_with (go_at_call 47; refine HE.out.mono ?_; rintro e u1 ⟨rfl, hf2⟩; have HF2 := Lib.hid hf2; clear hf2)
    go_ret
    rw [HA.out]
    exact ⟨_, 0, rfl, .inl ⟨rfl, rfl⟩, Fr.trans HF.out HF2.out⟩
  · rw [ho] at E
    have HE := Lib.hid E
    have HA := Lib.hid (show allA ⟨M, lns X⟩ = allC ⟨M, lns X⟩ by simp only [allA, ho]; rfl)
    have HOk := Lib.hid ((okC_iff _).1 ho)
    clear E F0 h ho
    go_enter Try.func32, Try.ntmps32
    go_wp2_with fail
    generalize (w.alloc (.cells #[.slice aM M.length cM, .slice aL X.length cL] 30)) = u0 at *
    obtain ⟨_, c0, c1, _, _⟩ := HX.out
    go_wp2_with fail
    refine HE.out.mono ?_
    rintro e u1 ⟨rfl, hf2⟩
    have HF2 := Lib.hid hf2
    have HC := Lib.hid (impl_cacheOf M X aM aL cM cL u1 (HS.out.fr hf2) HOk.out)
    obtain ⟨_, x0, x1, _, _⟩ := HX.out.fr hf2
    clear hf2 c0 c1
    go_wp2_with fail
    refine HC.out.mono ?_
    rintro e u2 ⟨g, X1, rfl, hX1, hO1⟩
    have HAl := Lib.hid (cache_all u1 g M X1 u2 hO1 (by rw [hX1]; exact HOk.out))
    have HXq := Lib.hid hX1
    have HF3 := Lib.hid (Fr.trans (Fr.trans HF.out HF2.out) hO1.f)
    have hs := HF3.out.size
    clear hX1 hO1 HC x0 x1
    go_wp2_with fail
    refine HAl.out.mono ?_
    rintro e u3 ⟨ao, c, rfl, hr, f3⟩
    have HR := Lib.hid hr
    have HF4 := Lib.hid (Fr.trans HF3.out f3)
    clear hr f3 HAl
    go_wp2
    go_ret
    rw [HA.out, ← HXq.out]
    exact ⟨ao, c, rfl, HR.out.mono hs, HF4.out⟩

end Go.Proofs.Ytoacgjjpipdkjaa
