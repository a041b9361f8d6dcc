/- Whole caches copied by the laws, and compared. -/
import Derived.Test.YtiijhklkelaogaaK20
namespace Go.Proofs.Ytiijhklkelaogaa
open Go.RowKit
set_option linter.unusedVariables false
set_option linter.unusedSimpArgs false
/-- Behind a copy of a cache by the laws. -/
def ToC7 (M : List Int) (X : List La) (w : World) (e : Ending) (w' : World) : Prop := ∃ gM gL Y, e = .returned (caV (some ⟨gM, 0, none⟩) (some ⟨gL, 0, none⟩) M Y M.length X.length) ∧ lns Y = lns X ∧ VcH7 w.heap.size w' M Y (some ⟨gM, 0, none⟩) (some ⟨gL, 0, none⟩) ∧ Fr w w'
theorem VcH7.but {B : Nat} {L : List Nat} {u u' : World} {M : List Int} {X : List La} {aM aL : Option Addr} (h : VcH7 B u M X aM aL) (f : But L u u') (hL : ∀ m, m ∈ L → m < B ∨ u.heap.size ≤ m) : VcH7 B u' M X aM aL := by
  refine ⟨h.rM.but' f (fun k hk hm => ?_), fun h0 => ?_, h.w.but f (fun i hi k hk hm => ?_), h.pL, h.pM⟩
  · have h1 := h.rM.bk k hk
    have h2 := hL k hm
    omega
  · obtain ⟨g, e, hb, r⟩ := h.rL h0
    have := r.lt
    exact ⟨g, e, hb, r.but f (fun hm => by have := hL g hm; omega)⟩
  · have h1 := h.w.bk i hi k hk
    have h2 := hL k hm
    omega
theorem VcH7.fr {B : Nat} {u u' : World} {M : List Int} {X : List La} {aM aL : Option Addr} (h : VcH7 B u M X aM aL) (f : Fr u u') : VcH7 B u' M X aM aL := h.but (L := []) (But.of f) (fun m hm => by cases hm)
set_option maxRecDepth 8000 in
set_option maxHeartbeats 2000000 in
theorem laws_toChc (M : List Int) (X : List La) (aM aL : Option Addr) (cM cL : Nat) (w : World) (h : SrcC w M X aM aL) (hf : FewC M X) :
    Calls Try.prog 27 #[caV aM aL M X cM cL] w (ToC7 M X w) := by
  have F0 : Fr w (((w.alloc (.cells #[.slice aM M.length cM, .slice aL X.length cL] 35)).alloc (.cells #[.slice none 0 0, .slice none 0 0] 25)).alloc (.cells #[.slice none 0 0, .slice none 0 0] 25)) := by (repeat' first | (with_reducible exact Below.refl _ _) | (with_reducible assumption) | ((with_reducible refine Below.setCell ?_ ?hb _); (case hb => first | exact Nat.le_refl _ | (simp; done) | (simp; omega) | omega)) | ((with_reducible refine Below.alloc ?_ ?hb _); (case hb => first | exact Nat.le_refl _ | (simp; done) | (simp; omega) | omega)) | (with_reducible refine Below.drew ?_))
  have HF := Lib.hid F0
  have X1 := Lib.hid (((Box2.new w (.slice aM M.length cM) (.slice aL X.length cL) 35 _ rfl).fr (Fr.alloc _ (.cells #[.slice none 0 0, .slice none 0 0] 25))).fr (Fr.alloc _ (.cells #[.slice none 0 0, .slice none 0 0] 25)))
  have X2 := Lib.hid ((Box2.new (w.alloc (.cells #[.slice aM M.length cM, .slice aL X.length cL] 35)) (.slice none 0 0) (.slice none 0 0) 25 (w.heap.size + 1) (by simp)).fr (Fr.alloc _ (.cells #[.slice none 0 0, .slice none 0 0] 25)))
  have X3 := Lib.hid (Box2.new ((w.alloc (.cells #[.slice aM M.length cM, .slice aL X.length cL] 35)).alloc (.cells #[.slice none 0 0, .slice none 0 0] 25)) (.slice none 0 0) (.slice none 0 0) 25 (w.heap.size + 2) (by simp))
  have hs0 : w.heap.size + 3 ≤ (((w.alloc (.cells #[.slice aM M.length cM, .slice aL X.length cL] 35)).alloc (.cells #[.slice none 0 0, .slice none 0 0] 25)).alloc (.cells #[.slice none 0 0, .slice none 0 0] 25)).heap.size := by simp
  have HS := Lib.hid h
  have hfM := hf.M
  have hfL := hf.L
  have HFW := Lib.hid hf.W
  clear F0 h hf
  unfold caV
  go_enter Try.func27, Try.ntmps27
  go_upto_region 2 with fail
  generalize (((w.alloc (.cells #[.slice aM M.length cM, .slice aL X.length cL] 35)).alloc (.cells #[.slice none 0 0, .slice none 0 0] 25)).alloc (.cells #[.slice none 0 0, .slice none 0 0] 25)) = u0 at *
  obtain ⟨_, c0, c1, _, _⟩ := X1.out
  go_wp2_with fail
  refine (laws_toIntS u0 aM M.length cM (fun i => M.getD i 0) (HS.out.M.fr HF.out) hfM).mono ?_
  rintro e u1 ⟨gM, rfl, hg1, hg2, hV, f1⟩
  have V1 := Lib.hid hV
  have F1 := Lib.hid f1
  have hs1 := f1.size
  have Y1 := Lib.hid (X1.out.fr f1)
  have Y2 := Lib.hid (X2.out.fr f1)
  have Y3 := Lib.hid (X3.out.fr f1)
  clear hV f1 X1 X2 X3 c0 c1
  obtain ⟨_, z0, z1, q0, q1⟩ := Y3.out
  go_upto_region 3 with fail
  have hst : But [w.heap.size + 2] u1 (u1.setCell ⟨w.heap.size + 2, 0, none⟩ (.slice (some ⟨gM, 0, none⟩) M.length M.length)) := (But.refl _ _).set _ _ _ (.inl (by simp))
  have A3 := Lib.hid (Y3.out.s0 (.slice (some ⟨gM, 0, none⟩) M.length M.length))
  have A1 := Lib.hid (Y1.out.but hst (by simp))
  have A2 := Lib.hid (Y2.out.but hst (by simp))
  have V2 := Lib.hid (V1.out.but hst (fun b e => by cases e; simp; omega))
  have HF2 := Lib.hid (show Fr w _ from fr_but (Fr.trans HF.out F1.out) hst (fun m hm => by simp at hm; omega))
  have hs2 := hst.size
  have hg3 : gM < (u1.setCell ⟨w.heap.size + 2, 0, none⟩ (.slice (some ⟨gM, 0, none⟩) M.length M.length)).heap.size := by omega
  clear hst Y1 Y2 Y3 V1 F1 HF z0 z1 q0 q1
  generalize (u1.setCell ⟨w.heap.size + 2, 0, none⟩ (.slice (some ⟨gM, 0, none⟩) M.length M.length)) = u2 at *
  obtain ⟨_, c0, c1, _, _⟩ := A1.out
  go_wp2_with fail
  refine (laws_toChcLineS X aL cL u2 (HS.out.L.fr HF2.out) hfL HFW.out).mono ?_
  rintro e u3 ⟨gL, Y, rfl, hY, hO, f3⟩
  have HY := Lib.hid hY
  have HYl := Lib.hid (show Y.length = X.length by have e1 := congrArg List.length hY; simpa [lns] using e1)
  have HO := Lib.hid hO
  have F3 := Lib.hid f3
  have hs3 := f3.size
  have hgL := hO.b
  have hgL2 := hO.r.lt
  have B3 := Lib.hid (A3.out.fr f3)
  have B2 := Lib.hid (A2.out.fr f3)
  have V3 := Lib.hid (V2.out.fr f3)
  clear hY hO f3 A1 A2 A3 V2 c0 c1
  obtain ⟨_, z0, z1, q0, q1⟩ := B3.out
  go_upto_region 4 with fail
  have hst : But [w.heap.size + 2] u3 (u3.setCell ⟨w.heap.size + 2, 1, none⟩ (.slice (some ⟨gL, 0, none⟩) X.length X.length)) := (But.refl _ _).set _ _ _ (.inl (by simp))
  have C3 := Lib.hid (B3.out.s1 (.slice (some ⟨gL, 0, none⟩) X.length X.length))
  have C2 := Lib.hid (B2.out.but hst (by simp))
  have V4 := Lib.hid (V3.out.but hst (fun b e => by cases e; simp; omega))
  have O4 := Lib.hid (HO.out.but hst (by simp; omega) (fun i hi k hk hm => by have := (HO.out.w.bk i hi k hk).1; simp at hm; omega))
  have HF4 := Lib.hid (show Fr w _ from fr_but (Fr.trans HF2.out F3.out) hst (fun m hm => by simp at hm; omega))
  clear hst B3 B2 V3 HO z0 z1 q0 q1
  generalize (u3.setCell ⟨w.heap.size + 2, 1, none⟩ (.slice (some ⟨gL, 0, none⟩) X.length X.length)) = u4 at *
  obtain ⟨_, c0, c1, _, _⟩ := C3.out
  obtain ⟨_, z0, z1, q0, q1⟩ := C2.out
  go_wp2
  have hst : But [w.heap.size + 1] u4 ((u4.setCell ⟨w.heap.size + 1, 0, none⟩ (.slice (some ⟨gM, 0, none⟩) M.length M.length)).setCell ⟨w.heap.size + 1, 1, none⟩ (.slice (some ⟨gL, 0, none⟩) X.length X.length)) := (But.refl _ _).set2 _ _ _ (.inl (by simp))
  have D2 := C2.out.set (.slice (some ⟨gM, 0, none⟩) M.length M.length) (.slice (some ⟨gL, 0, none⟩) X.length X.length)
  refine bodyPost_ret (v := .agg #[.slice (some ⟨gM, 0, none⟩) M.length M.length, .slice (some ⟨gL, 0, none⟩) X.length X.length]) (by simp [results, Try.results27, go_sem, D2.c0, D2.c1]) rfl ?_
  have O5 := O4.out.but hst (by simp; omega) (fun i hi k hk hm => by have := (O4.out.w.bk i hi k hk).1; simp at hm; omega)
  have V5 := V4.out.but hst (fun b e => by cases e; simp; omega)
  refine ⟨gM, gL, Y, by simp only [caV, HYl.out], HY.out, ⟨V5.mono (by omega), fun _ => ⟨gL, rfl, by omega, O5.r⟩, O5.w.mono (by omega), fun k hk i hi => by rw [bkS_one hk]; exact O5.ap i hi, fun k hk => ?_⟩, fr_but HF4.out hst (fun m hm => by simp at hm; omega)⟩
  rw [bkS_one hk]
  refine ⟨fun hm => by have := bkS_one hm; omega, fun i hi hm => by have := (O4.out.w.bk i hi gM hm).1; omega⟩
set_option maxRecDepth 4000 in
set_option maxHeartbeats 2000000 in
theorem laws_eqChcLine_same (n : Ln) (a1 a2 : Option Addr) (c1 c2 : Nat) (u : World) (h1 : Src u n.W.length (ivl n.W) a1) (h2 : Src u n.W.length (ivl n.W) a2) (hn : n.W.length ≤ 1048576) :
    Calls Try.prog 80 #[lav ⟨n, a1, c1⟩, lav ⟨n, a2, c2⟩] u fun e u' => e = .returned (.bool true) ∧ Fr u u' := by
  have F0 : Fr u ((u.alloc (.cells #[.bool n.u, .int .i64 n.p, .bool n.d, .slice a1 n.W.length c1] 50)).alloc (.cells #[.bool n.u, .int .i64 n.p, .bool n.d, .slice a2 n.W.length c2] 50)) := by (repeat' first | (with_reducible exact Below.refl _ _) | (with_reducible assumption) | ((with_reducible refine Below.setCell ?_ ?hb _); (case hb => first | exact Nat.le_refl _ | (simp; done) | (simp; omega) | omega)) | ((with_reducible refine Below.alloc ?_ ?hb _); (case hb => first | exact Nat.le_refl _ | (simp; done) | (simp; omega) | omega)) | (with_reducible refine Below.drew ?_))
  have HF := Lib.hid F0
  have H1 := Lib.hid (h1.fr F0)
  have H2 := Lib.hid (h2.fr F0)
  clear F0 h1 h2
  go_enter Try.func80, Try.ntmps80
  go_wp2_with fail
  refine (laws_eqIntSo _ _ (fun i => n.W.getD i 0) _ _ _ _ H1.out H2.out hn).mono ?_
  rintro e u1 ⟨rfl, m, hm⟩
  have f : Fr u u1 := by rw [← hm]; exact fr_drewN HF.out _
  have F1 := Lib.hid f
  clear f hm m H1 H2
  go_wp2
  go_ret
  exact ⟨rfl, F1.out⟩
set_option maxRecDepth 8000 in
set_option maxHeartbeats 4000000 in
theorem laws_eqChcLineS_same (X Y : List La) (a1 a2 : Option Addr) (c1 c2 : Nat) (u : World) (h1 : SrcL u X a1) (h2 : SrcL u Y a2) (he : lns X = lns Y) (hx : X.length ≤ 1048576) (hb : ∀ i, i < X.length → (X.getD i la0).n.W.length ≤ 1048576) :
    Calls Try.prog 54 #[.slice a1 X.length c1, .slice a2 X.length c2] u fun e u' => e = .returned (.bool true) ∧ Fr u u' := by
  have hl : Y.length = X.length := by have e1 := congrArg List.length he; simpa [lns] using e1.symm
  have hn : ∀ i, (X.getD i la0).n = (Y.getD i la0).n := fun i => by rw [← lns_get, ← lns_get, he]
  have HL := Lib.hid hl
  have HN := Lib.hid hn
  have H1 := Lib.hid h1
  have H2 := Lib.hid h2
  have HB := Lib.hid hb
  clear he hl hn h1 h2 hb
  go_enter Try.func54, Try.ntmps54
  go_wp2_with fail
  go_loopw [5] (fun i wr => ∃ p : Nat, p ≤ X.length ∧ i = .int .i64 p ∧ Fr u wr) (fun i _ => X.length - (intOf i).toNat)
  case atStart => exact ⟨0, Nat.zero_le _, rfl, Below.refl _ _⟩
  case round =>
    obtain ⟨p, hp, rfl, hf⟩ := hrel
    have HF := Lib.hid hf
    by_cases hlt : p < X.length
    · obtain ⟨g1, o1, rfl, hg1, r1⟩ := H1.out.at0 (by omega)
      obtain ⟨g2, o2, rfl, hg2, r2⟩ := H2.out.at0 (by rw [HL.out]; omega)
      have R1 := Lib.hid r1
      have R2 := Lib.hid r2
      obtain ⟨d0, d1, d2, d3⟩ := line_at (range_fr r1 hf hg1) p hlt
      obtain ⟨e0, e1, e2, e3⟩ := line_at (range_fr r2 hf hg2) p (by rw [HL.out]; exact hlt)
      have hlt' : (p : Int) < (X.length : Int) := by omega
      have hp0 : (0 : Int) ≤ (p : Int) := Int.natCast_nonneg _
      have W1 := Lib.hid (fun v (f : Fr wr v) => (H1.out.wd p hlt).fr (Fr.trans HF.out f))
      have W2 := Lib.hid (fun v (f : Fr wr v) => (H2.out.wd p (by rw [HL.out]; exact hlt)).fr (Fr.trans HF.out f))
      have hbp := HB.out p hlt
      have hnp := HN.out p
      clear hf r1 r2
      generalize X.getD p la0 = l1 at *
      generalize Y.getD p la0 = l2 at *
      obtain ⟨n1, b1, k1⟩ := l1
      obtain ⟨n2, b2, k2⟩ := l2
      simp only at hnp
      subst hnp
      simp only at d0 d1 d2 d3 e0 e1 e2 e3 hbp
      have HE := Lib.hid (fun v (f : Fr wr v) => laws_eqChcLine_same n1 b1 b2 k1 k2 v (W1.out v f) (W2.out v f) hbp)
      go_wp2_with fail
      go_region_held3 (fun v => Fr wr v ∧ v.cell? ⟨g1, o1 + p * 4, none⟩ = some (.bool n1.u) ∧ v.cell? ⟨g1, o1 + p * 4 + 1, none⟩ = some (.int .i64 n1.p) ∧ v.cell? ⟨g1, o1 + p * 4 + 2, none⟩ = some (.bool n1.d) ∧ v.cell? ⟨g1, o1 + p * 4 + 3, none⟩ = some (.slice b1 n1.W.length k1) ∧ v.cell? ⟨g2, o2 + p * 4, none⟩ = some (.bool n1.u) ∧ v.cell? ⟨g2, o2 + p * 4 + 1, none⟩ = some (.int .i64 n1.p) ∧ v.cell? ⟨g2, o2 + p * 4 + 2, none⟩ = some (.bool n1.d) ∧ v.cell? ⟨g2, o2 + p * 4 + 3, none⟩ = some (.slice b2 n1.W.length k2))
        (first | exact ⟨Below.drew (Below.refl _ _), d0, d1, d2, d3, e0, e1, e2, e3⟩ | exact ⟨FV.out, x0, x1, x2, x3, y0, y1, y2, y3⟩)
        (first | (go_at_call 80; refine (HE.out _ (Below.drew (Below.refl _ _))).mono ?_; rintro e v ⟨rfl, fv⟩; have FV := Lib.hid (Fr.trans (Below.drew (Below.refl wr.heap.size wr)) fv); have x0 := (FV.out.cell (show g1 < wr.heap.size from Nat.lt_of_lt_of_le hg1 HF.out.size)).trans d0; have x1 := (FV.out.cell (show g1 < wr.heap.size from Nat.lt_of_lt_of_le hg1 HF.out.size)).trans d1; have x2 := (FV.out.cell (show g1 < wr.heap.size from Nat.lt_of_lt_of_le hg1 HF.out.size)).trans d2; have x3 := (FV.out.cell (show g1 < wr.heap.size from Nat.lt_of_lt_of_le hg1 HF.out.size)).trans d3; have y0 := (FV.out.cell (show g2 < wr.heap.size from Nat.lt_of_lt_of_le hg2 HF.out.size)).trans e0; have y1 := (FV.out.cell (show g2 < wr.heap.size from Nat.lt_of_lt_of_le hg2 HF.out.size)).trans e1; have y2 := (FV.out.cell (show g2 < wr.heap.size from Nat.lt_of_lt_of_le hg2 HF.out.size)).trans e2; have y3 := (FV.out.cell (show g2 < wr.heap.size from Nat.lt_of_lt_of_le hg2 HF.out.size)).trans e3; clear fv))
      go_wp2
      go_roundw
      case rel => exact ⟨p + 1, by omega, by go_num, Fr.trans HF.out FV.out⟩
      case measure => simp [intOf]; omega
    · have hge : ¬ (p : Int) < (X.length : Int) := by omega
      clear hf
      go_wp2
      go_ret
      exact ⟨rfl, HF.out⟩
set_option maxRecDepth 4000 in
set_option maxHeartbeats 2000000 in
theorem laws_eqChc_same (M : List Int) (X Y : List La) (aM aL bM bL : Option Addr) (cM cL dM dL : Nat) (u : World) (h1 : SrcC u M X aM aL) (h2 : SrcC u M Y bM bL) (he : lns X = lns Y) (hf : FewC M X) :
    Calls Try.prog 20 #[caV aM aL M X cM cL, caV bM bL M Y dM dL] u fun e u' => e = .returned (.bool true) ∧ Fr u u' := by
  have hl : Y.length = X.length := by have e1 := congrArg List.length he; simpa [lns] using e1.symm
  have HEq := Lib.hid he
  unfold caV
  rw [hl]
  have F0 : Fr u ((u.alloc (.cells #[.slice aM M.length cM, .slice aL X.length cL] 25)).alloc (.cells #[.slice bM M.length dM, .slice bL X.length dL] 25)) := by (repeat' first | (with_reducible exact Below.refl _ _) | (with_reducible assumption) | ((with_reducible refine Below.setCell ?_ ?hb _); (case hb => first | exact Nat.le_refl _ | (simp; done) | (simp; omega) | omega)) | ((with_reducible refine Below.alloc ?_ ?hb _); (case hb => first | exact Nat.le_refl _ | (simp; done) | (simp; omega) | omega)) | (with_reducible refine Below.drew ?_))
  have HF := Lib.hid F0
  have H1 := Lib.hid (h1.fr F0)
  have H2 := Lib.hid (h2.fr F0)
  have Y1 := Lib.hid ((Box2.new u (.slice aM M.length cM) (.slice aL X.length cL) 25 _ rfl).fr (Fr.alloc _ (.cells #[.slice bM M.length dM, .slice bL X.length dL] 25)))
  have Y2 := Lib.hid (Box2.new (u.alloc (.cells #[.slice aM M.length cM, .slice aL X.length cL] 25)) (.slice bM M.length dM) (.slice bL X.length dL) 25 (u.heap.size + 1) (by simp))
  have hfM := hf.M
  have hfL := hf.L
  have HFW := Lib.hid hf.W
  clear F0 h1 h2 hl he hf
  go_enter Try.func20, Try.ntmps20
  go_upto_region 1 with fail
  generalize ((u.alloc (.cells #[.slice aM M.length cM, .slice aL X.length cL] 25)).alloc (.cells #[.slice bM M.length dM, .slice bL X.length dL] 25)) = u0 at *
  obtain ⟨_, c0, c1, _, _⟩ := Y1.out
  obtain ⟨_, x0, x1, _, _⟩ := Y2.out
  go_wp2_with fail
  refine (laws_eqIntSo _ _ (fun i => M.getD i 0) _ _ _ _ H1.out.M H2.out.M hfM).mono ?_
  rintro e u1 ⟨rfl, m, hm⟩
  have f : Fr u0 u1 := by rw [← hm]; exact Below.drewN (Below.refl _ _) _
  have F1 := Lib.hid f
  obtain ⟨_, y0, y1, _, _⟩ := Y1.out.fr f
  obtain ⟨_, z0, z1, _, _⟩ := Y2.out.fr f
  clear hm m c0 c1 x0 x1 f
  go_wp2_with fail
  refine (laws_eqChcLineS_same X Y _ _ _ _ u1 (H1.out.L.fr F1.out) (H2.out.L.fr F1.out) HEq.out hfL HFW.out).mono ?_
  rintro e u2 ⟨rfl, f2⟩
  have F2 := Lib.hid f2
  clear f2 y0 y1 z0 z1
  go_wp2
  go_ret
  exact ⟨rfl, Fr.trans (Fr.trans HF.out F1.out) F2.out⟩

end Go.Proofs.Ytiijhklkelaogaa
