/- What the laws of chapter 7 call: caches measured, and copied. Caches copied by the laws, and compared. Whole caches copied by the laws, and compared. -/
import Derived.Test.YtoacgjjpipdkjaaK13
import Derived.Test.YtoacgjjpipdkjaaGh
namespace Go.Proofs.Ytoacgjjpipdkjaa
open Go.RowKit
set_option linter.unusedVariables false
set_option linter.unusedSimpArgs false
/-- Rows that a cache may have. -/
structure BigC (M : List Int) (X : List La) : Prop where
  M : M.length ≤ 9223372036854775807
  L : X.length ≤ 9223372036854775807
  W : ∀ i, i < X.length → (X.getD i la0).n.W.length ≤ 9223372036854775807
/-- How many words the first i lines have. -/
def sumW (X : List La) : Nat → Nat
  | 0 => 0
  | i + 1 => sumW X i + (X.getD i la0).n.W.length
theorem sumW_le (X : List La) {i j : Nat} (h : i ≤ j) : sumW X i ≤ sumW X j := by
  induction j with
  | zero => rw [Nat.le_zero.1 h]; exact Nat.le_refl _
  | succ j ih =>
    rcases Nat.lt_or_eq_of_le h with h | h
    · exact Nat.le_trans (ih (by omega)) (by simp [sumW])
    · rw [h]; exact Nat.le_refl _
theorem sumW_one (X : List La) {i n : Nat} (h : i < n) : (X.getD i la0).n.W.length ≤ sumW X n := by
  have := sumW_le X (show i + 1 ≤ n from h)
  simp only [sumW] at this
  omega
structure FewT (M : List Int) (X : List La) : Prop where
  T : M.length + X.length + sumW X X.length ≤ 1048576
theorem FewT.few {M : List Int} {X : List La} (h : FewT M X) : FewC M X := by
  have := h.T
  exact ⟨by omega, by omega, fun i hi => by have := sumW_one X hi; omega⟩
set_option maxHeartbeats 1000000 in
theorem laws_szChcLine (l : La) (left : Int) (w : World) (hb : l.n.W.length ≤ 9223372036854775807) (l0 : 0 ≤ left) (l1 : left ≤ 1048576) :
    Calls Try.prog 94 #[lav l, .int .i64 left] w fun e w' => (∃ r : Int, e = .returned (.int .i64 r) ∧ ((0 ≤ r ∧ r + l.n.W.length = left) ∨ r = -1)) ∧ Fr w w' := by
  have HF := Lib.hid (Fr.alloc w (.cells #[.bool l.n.u, .int .i64 l.n.p, .bool l.n.d, .slice l.a l.n.W.length l.c] 93))
  go_enter Try.func94, Try.ntmps94
  go_wp2_with fail
  refine (laws_szIntS _ _ _ _ _ hb l0 l1).mono ?_
  rintro e w' ⟨⟨r, rfl, q⟩, rfl⟩
  rcases q with ⟨r0, r1⟩ | ⟨rfl, _⟩
  · have n1 : ¬ r < 0 := by omega
    go_wp2
    go_ret
    exact ⟨⟨_, rfl, .inl ⟨r0, r1⟩⟩, HF.out⟩
  · go_wp2
    go_ret
    exact ⟨⟨_, rfl, .inr rfl⟩, HF.out⟩
set_option maxRecDepth 4000 in
set_option maxHeartbeats 2000000 in
theorem laws_szChcLineS (X : List La) (ao : Option Addr) (cap : Nat) (left : Int) (w : World) (h : SrcL w X ao) (hx : X.length ≤ 9223372036854775807) (hb : ∀ i, i < X.length → (X.getD i la0).n.W.length ≤ 9223372036854775807) (l0 : 0 ≤ left) (l1 : left ≤ 1048576) :
    Calls Try.prog 62 #[.slice ao X.length cap, .int .i64 left] w fun e w' => (∃ r : Int, e = .returned (.int .i64 r) ∧ ((0 ≤ r ∧ r + X.length + sumW X X.length = left) ∨ r = -1)) ∧ Fr w w' := by
  have h1 : left - (X.length : Int) ≤ 9223372036854775807 := by omega
  have h2 : -9223372036854775808 ≤ left - (X.length : Int) := by omega
  have HS := Lib.hid h
  have HB := Lib.hid hb
  clear h hb
  by_cases hlt : left - (X.length : Int) < 0
  · go_enter Try.func62, Try.ntmps62
    go_wp2
    go_ret
    exact ⟨⟨-1, rfl, .inr rfl⟩, Below.refl _ _⟩
  · obtain ⟨n, hn⟩ : ∃ n, X.length = n := ⟨_, rfl⟩
    rw [hn] at h1 h2 hlt ⊢
    have HN := Lib.hid hn
    clear hn hx
    go_enter Try.func62, Try.ntmps62
    go_wp2_with fail
    go_loopw [1, 5] (fun s i wr => ∃ (k : Nat) (r : Int), k ≤ n ∧ i = .int .i64 k ∧ s = .int .i64 r ∧ 0 ≤ r ∧ r + n + sumW X k = left ∧ Fr w wr) (fun _ i _ => n - (intOf i).toNat)
    case atStart => exact ⟨0, _, Nat.zero_le _, rfl, rfl, by omega, by simp [sumW], Below.refl _ _⟩
    case round =>
      obtain ⟨k, r, hk, rfl, rfl, r0, hr, hf⟩ := hrel
      have HFr := Lib.hid hf
      have HR := Lib.hid hr
      have hr1 : r ≤ 1048576 := by omega
      by_cases hlk : k < n
      · obtain ⟨g, o, rfl, hgl, hrg⟩ := HS.out.at0 (by rw [HN.out]; omega)
        obtain ⟨d0, d1, d2, d3⟩ := line_at (range_fr hrg hf hgl) k (by rw [HN.out]; exact hlk)
        have HL := Lib.hid (fun v => laws_szChcLine (X.getD k la0) r v (HB.out k (by rw [HN.out]; exact hlk)) r0 hr1)
        have HW := Lib.hid (show sumW X (k + 1) = sumW X k + (X.getD k la0).n.W.length from rfl)
        have hlt' : (k : Int) < (n : Int) := by omega
        clear hf hr hrg
        generalize X.getD k la0 = l at *
        go_wp2_with fail
        refine (HL.out _).mono ?_
        rintro e u1 ⟨⟨r', rfl, q⟩, f1⟩
        have F1 := Lib.hid f1
        clear f1
        rcases q with ⟨q0, q1⟩ | rfl
        · have n1 : ¬ r' < 0 := by omega
          have HQ := Lib.hid q1
          clear q1
          go_wp2
          go_roundw
          case rel => exact ⟨k + 1, r', by omega, by go_num, rfl, q0, by rw [HW.out]; have := HQ.out; have := HR.out; omega, Fr.trans HFr.out F1.out⟩
          case measure => simp [intOf]; omega
        · go_wp2
          go_ret
          exact ⟨⟨_, rfl, .inr rfl⟩, Fr.trans HFr.out F1.out⟩
      · have hge : ¬ (k : Int) < (n : Int) := by omega
        obtain rfl : k = n := by omega
        clear hf hr
        go_wp2
        go_ret
        exact ⟨⟨r, rfl, .inl ⟨r0, HR.out⟩⟩, HFr.out⟩
set_option maxHeartbeats 1000000 in
theorem laws_szChc (M : List Int) (X : List La) (aM aL : Option Addr) (cM cL : Nat) (left : Int) (w : World) (h : SrcC w M X aM aL) (hb : BigC M X) (l0 : 0 ≤ left) (l1 : left ≤ 1048576) :
    Calls Try.prog 18 #[caV aM aL M X cM cL, .int .i64 left] w fun e w' => (∃ r : Int, e = .returned (.int .i64 r) ∧ ((0 ≤ r ∧ FewT M X) ∨ r = -1)) ∧ Fr w w' := by
  have F0 := Fr.alloc w (.cells #[.slice aM M.length cM, .slice aL X.length cL] 25)
  have HF := Lib.hid F0
  have HS := Lib.hid (h.fr F0)
  have h1 := hb.M
  have h2 := hb.L
  have h3 := Lib.hid hb.W
  unfold caV
  clear hb F0 h
  go_enter Try.func18, Try.ntmps18
  go_wp2_with fail
  refine (laws_szIntS _ _ _ _ _ h1 l0 l1).mono ?_
  rintro e w' ⟨⟨r1, rfl, q1⟩, rfl⟩
  rcases q1 with ⟨r10, r11⟩ | ⟨rfl, _⟩
  · have n1 : ¬ r1 < 0 := by omega
    have HR1 := Lib.hid r11
    have r12 : r1 ≤ 1048576 := by omega
    clear r11
    go_wp2_with fail
    refine (laws_szChcLineS X _ _ _ _ HS.out.L h2 h3.out r10 r12).mono ?_
    rintro e u ⟨⟨r2, rfl, q2⟩, f2⟩
    have F2 := Lib.hid f2
    clear f2
    rcases q2 with ⟨r20, r21⟩ | rfl
    · have n2 : ¬ r2 < 0 := by omega
      have HR2 := Lib.hid r21
      clear r21
      go_wp2
      go_ret
      exact ⟨⟨_, rfl, .inl ⟨r20, ⟨by have := HR1.out; have := HR2.out; omega⟩⟩⟩, Fr.trans HF.out F2.out⟩
    · go_wp2
      go_ret
      exact ⟨⟨_, rfl, .inr rfl⟩, Fr.trans HF.out F2.out⟩
  · go_wp2
    go_ret
    exact ⟨⟨_, rfl, .inr rfl⟩, HF.out⟩

/-- Behind a copy of a line: its words lie in a new row. -/
def ToL (l : Ln) (w : World) (e : Ending) (w' : World) : Prop := ∃ g, e = .returned (lav ⟨l, some ⟨g, 0, none⟩, l.W.length⟩) ∧ w.heap.size ≤ g ∧ g < w'.heap.size ∧ Vc w.heap.size w' l.W.length (ivl l.W) (some ⟨g, 0, none⟩) ∧ Fr w w'
set_option maxRecDepth 8000 in
set_option maxHeartbeats 2000000 in
theorem laws_toChcLine (l : La) (w : World) (h : WSrc w l) (hn : l.n.W.length ≤ 1048576) :
    Calls Try.prog 95 #[lav l] w (ToL l.n w) := by
  obtain ⟨⟨u, p, d, W⟩, ao, c⟩ := l
  simp only at hn
  have F0 : Fr w (((w.alloc (.cells #[.bool u, .int .i64 p, .bool d, .slice ao W.length c] 93)).alloc (.cells #[.bool false, .int .i64 0, .bool false, .slice none 0 0] 59)).alloc (.cells #[.bool false, .int .i64 0, .bool false, .slice none 0 0] 59)) := by (repeat' first | (with_reducible exact Below.refl _ _) | (with_reducible assumption) | ((with_reducible refine Below.setCell ?_ ?hb _); (case hb => first | exact Nat.le_refl _ | (simp; done) | (simp; omega) | omega)) | ((with_reducible refine Below.alloc ?_ ?hb _); (case hb => first | exact Nat.le_refl _ | (simp; done) | (simp; omega) | omega)) | (with_reducible refine Below.drew ?_))
  have HF := Lib.hid F0
  have X1 := Lib.hid (((Box4.new w (.bool u) (.int .i64 p) (.bool d) (.slice ao W.length c) 93 _ rfl).fr (Fr.alloc _ (.cells #[.bool false, .int .i64 0, .bool false, .slice none 0 0] 59))).fr (Fr.alloc _ (.cells #[.bool false, .int .i64 0, .bool false, .slice none 0 0] 59)))
  have X2 := Lib.hid ((Box4.new (w.alloc (.cells #[.bool u, .int .i64 p, .bool d, .slice ao W.length c] 93)) (.bool false) (.int .i64 0) (.bool false) (.slice none 0 0) 59 (w.heap.size + 1) (by simp)).fr (Fr.alloc _ (.cells #[.bool false, .int .i64 0, .bool false, .slice none 0 0] 59)))
  have X3 := Lib.hid (Box4.new ((w.alloc (.cells #[.bool u, .int .i64 p, .bool d, .slice ao W.length c] 93)).alloc (.cells #[.bool false, .int .i64 0, .bool false, .slice none 0 0] 59)) (.bool false) (.int .i64 0) (.bool false) (.slice none 0 0) 59 (w.heap.size + 2) (by simp))
  have hs0 : w.heap.size + 3 ≤ (((w.alloc (.cells #[.bool u, .int .i64 p, .bool d, .slice ao W.length c] 93)).alloc (.cells #[.bool false, .int .i64 0, .bool false, .slice none 0 0] 59)).alloc (.cells #[.bool false, .int .i64 0, .bool false, .slice none 0 0] 59)).heap.size := by simp
  have HS := Lib.hid (show Src w W.length (ivl W) ao from h)
  clear F0 h
  go_enter Try.func95, Try.ntmps95
  go_upto_region 2 with fail
  generalize (((w.alloc (.cells #[.bool u, .int .i64 p, .bool d, .slice ao W.length c] 93)).alloc (.cells #[.bool false, .int .i64 0, .bool false, .slice none 0 0] 59)).alloc (.cells #[.bool false, .int .i64 0, .bool false, .slice none 0 0] 59)) = u0 at *
  obtain ⟨_, c0, c1, c2, c3, _, _, _, _⟩ := X1.out
  obtain ⟨_, x0, x1, x2, x3, p0, p1, p2, p3⟩ := X3.out
  go_upto_region 5 with fail
  have hst : But [w.heap.size + 2] u0 (((u0.setCell ⟨w.heap.size + 2, 0, none⟩ (.bool u)).setCell ⟨w.heap.size + 2, 1, none⟩ (.int .i64 p)).setCell ⟨w.heap.size + 2, 2, none⟩ (.bool d)) := ((((But.refl _ _).set _ _ _ (.inl (by simp))).set _ _ _ (.inl (by simp))).set _ _ _ (.inl (by simp)))
  have Y3 := Lib.hid (((X3.out.t0 (.bool u)).t1 (.int .i64 p)).t2 (.bool d))
  have Y1 := Lib.hid (X1.out.but hst (by simp))
  have Y2 := Lib.hid (X2.out.but hst (by simp))
  have HF1 := Lib.hid (show Fr w _ from fr_but HF.out hst (fun m hm => by simp at hm; omega))
  have hs1 := hst.size
  clear hst X1 X2 X3 HF c0 c1 c2 c3 x0 x1 x2 x3 p0 p1 p2 p3
  generalize (((u0.setCell ⟨w.heap.size + 2, 0, none⟩ (.bool u)).setCell ⟨w.heap.size + 2, 1, none⟩ (.int .i64 p)).setCell ⟨w.heap.size + 2, 2, none⟩ (.bool d)) = u1 at *
  obtain ⟨_, c0, c1, c2, c3, _, _, _, _⟩ := Y1.out
  go_wp2_with fail
  refine (laws_toIntS u1 ao W.length c (fun i => W.getD i 0) (HS.out.fr HF1.out) hn).mono ?_
  rintro e u2 ⟨g, rfl, hg1, hg2, hV, f2⟩
  have V2 := Lib.hid hV
  have F2 := Lib.hid f2
  have hs2 := f2.size
  have Z3 := Lib.hid (Y3.out.fr f2)
  have Z2 := Lib.hid (Y2.out.fr f2)
  clear hV f2 Y1 Y2 Y3 c0 c1 c2 c3
  obtain ⟨_, x0, x1, x2, x3, p0, p1, p2, p3⟩ := Z3.out
  go_upto_region 6 with fail
  have hst : But [w.heap.size + 2] u2 (u2.setCell ⟨w.heap.size + 2, 3, none⟩ (.slice (some ⟨g, 0, none⟩) W.length W.length)) := (But.refl _ _).set _ _ _ (.inl (by simp))
  have A3 := Lib.hid (Z3.out.t3 (.slice (some ⟨g, 0, none⟩) W.length W.length))
  have A2 := Lib.hid (Z2.out.but hst (by simp))
  have V3 := Lib.hid (V2.out.but hst (fun b e => by cases e; simp; omega))
  have HF2 := Lib.hid (show Fr w _ from fr_but (Fr.trans HF1.out F2.out) hst (fun m hm => by simp at hm; omega))
  have hs3 := hst.size
  clear hst Z3 Z2 V2 F2 HF1 x0 x1 x2 x3 p0 p1 p2 p3
  generalize (u2.setCell ⟨w.heap.size + 2, 3, none⟩ (.slice (some ⟨g, 0, none⟩) W.length W.length)) = u3 at *
  obtain ⟨_, x0, x1, x2, x3, p0, p1, p2, p3⟩ := A3.out
  obtain ⟨_, y0, y1, y2, y3, q0, q1, q2, q3⟩ := A2.out
  go_wp2
  have hst : But [w.heap.size + 1] u3 ((((u3.setCell ⟨w.heap.size + 1, 0, none⟩ (.bool u)).setCell ⟨w.heap.size + 1, 1, none⟩ (.int .i64 p)).setCell ⟨w.heap.size + 1, 2, none⟩ (.bool d)).setCell ⟨w.heap.size + 1, 3, none⟩ (.slice (some ⟨g, 0, none⟩) W.length W.length)) := (But.refl _ _).set4 _ _ _ _ _ (.inl (by simp))
  have B2 := A2.out.set (.bool u) (.int .i64 p) (.bool d) (.slice (some ⟨g, 0, none⟩) W.length W.length)
  refine bodyPost_ret (v := .agg #[.bool u, .int .i64 p, .bool d, .slice (some ⟨g, 0, none⟩) W.length W.length]) (by simp [results, Try.results95, go_sem, B2.c0, B2.c1, B2.c2, B2.c3]) rfl ?_
  have hs4 := hst.size
  exact ⟨g, rfl, by omega, by omega, (V3.out.mono (by omega)).but hst (fun b e => by cases e; simp; omega), fr_but HF2.out hst (fun m hm => by simp at hm; omega)⟩
theorem made_lines (n : Nat) : (madeCells (lav la0).cells (n * 4)).toList = clL (List.replicate n la0) := by
  apply List.ext_getElem?
  intro i
  by_cases hi : i < 4 * n
  · obtain ⟨q, r, rfl, hr⟩ : ∃ q r, i = 4 * q + r ∧ r < 4 := ⟨i / 4, i % 4, by omega, by omega⟩
    have hc := clL_at (List.replicate n la0) q (by simp; omega)
    rw [show (List.replicate n la0).getD q la0 = la0 by simp only [List.getD_eq_getElem?_getD, List.getElem?_replicate]; split <;> rfl] at hc
    have hq : (4 * q + r) % 4 = r := by omega
    rcases r with _ | _ | _ | _ | r
    · rw [Nat.add_zero, hc.1]; simp [madeCells, Value.cells, show 4 * q < n * 4 by omega]
    · rw [hc.2.1]; simp [madeCells, Value.cells, show 4 * q + 1 < n * 4 by omega, hq]
    · rw [hc.2.2.1]; simp [madeCells, Value.cells, show 4 * q + 2 < n * 4 by omega, hq]
    · rw [hc.2.2.2]; simp [madeCells, Value.cells, show 4 * q + 3 < n * 4 by omega, hq]
    · omega
  · rw [List.getElem?_eq_none (by simp [madeCells]; omega), List.getElem?_eq_none (by rw [clL_len]; simp; omega)]
theorem lns_of {L S : List La} (hl : L.length = S.length) (h : ∀ i, i < S.length → (L.getD i la0).n = (S.getD i la0).n) : lns L = lns S := by
  apply List.ext_getElem (by simp [lns, hl])
  intro i h1 h2
  have := h i (by simpa [lns] using h2)
  simp [lns] at h1 h2
  simpa [lns, List.getD_eq_getElem?_getD, List.getElem?_eq_getElem h1, List.getElem?_eq_getElem h2] using this
theorem rep_get (n i : Nat) : (List.replicate n la0).getD i la0 = la0 := by simp only [List.getD_eq_getElem?_getD, List.getElem?_replicate]; split <;> rfl
/-- Behind a copy of lines. -/
def ToLS (X : List La) (w : World) (e : Ending) (w' : World) : Prop := ∃ g Y, e = .returned (.slice (some ⟨g, 0, none⟩) X.length X.length) ∧ lns Y = lns X ∧ OwL w.heap.size w' g Y ∧ Fr w w'
set_option maxRecDepth 8000 in
set_option maxHeartbeats 2000000 in
theorem laws_toChcLineS (X : List La) (ao : Option Addr) (cap : Nat) (w : World) (h : SrcL w X ao) (hx : X.length ≤ 1048576) (hb : ∀ i, i < X.length → (X.getD i la0).n.W.length ≤ 1048576) :
    Calls Try.prog 66 #[.slice ao X.length cap] w (ToLS X w) := by
  obtain ⟨i0, hi, hz0, hz1, hz2⟩ := info_partsN info_lineV
  have hmx : maxLen = 9223372036854775807 := rfl
  have HS := Lib.hid h
  have HB := Lib.hid hb
  obtain ⟨n, hN⟩ : ∃ n, X.length = n := ⟨_, rfl⟩
  rw [hN] at hx
  have HN := Lib.hid hN
  show Calls Try.prog 66 #[.slice ao X.length cap] w (ToLS X w)
  rw [hN]
  clear h hN hb
  go_enter Try.func66, Try.ntmps66
  go_wp2_with (at_make; refine wpList_make_full _ rfl _ _ 28 rfl w.heap.size 59 i0 (lav la0) 4 Try.underlying28 hi hz0 hz1 .i64 .i64 (n : Int) (n : Int) n rfl rfl rfl rfl (by rw [hz2]; omega) (by omega) (Nat.le_refl _) ?_; intro w1 hown hg)
  rw [made_lines] at hown
  have hR := (rol_own hown).1
  have F1 := grown_fr hg
  have O0 : Hid (OwL w.heap.size w1 w.heap.size (List.replicate n la0)) := Lib.hid ⟨Nat.le_refl _, hR, ⟨fun i hi => by rw [rep_get]; exact Vc.nil _ _ _ _, fun i j hi hj _ k hk => by rw [rep_get] at hk; rw [la0_wbk] at hk; cases hk⟩, fun i hi => by rw [rep_get, la0_wbk]; simp⟩
  have HF1 := Lib.hid F1
  clear hown hg hR F1
  go_loopw [4] (fun i wr => ∃ (p : Nat) (Y : List La), p ≤ n ∧ i = .int .i64 p ∧ Y.length = n ∧ (∀ i, i < p → (Y.getD i la0).n = (X.getD i la0).n) ∧ OwL w.heap.size wr w.heap.size Y ∧ Fr w wr) (fun i _ => n - (intOf i).toNat)
  case atStart => exact ⟨0, List.replicate n la0, Nat.zero_le _, rfl, by simp, fun i hi => absurd hi (Nat.not_lt_zero _), O0.out, HF1.out⟩
  case round =>
    obtain ⟨p, Y, hp, rfl, hYl, hYe, hO, hF⟩ := hrel
    have HYl := Lib.hid hYl
    have HYe := Lib.hid hYe
    have HO := Lib.hid hO
    have HF := Lib.hid hF
    have hsz := hF.size
    have hgl := hO.r.lt
    clear hYl hYe hO hF O0 HF1
    by_cases hlt : p < n
    · obtain ⟨g, o, rfl, hgl0, hc⟩ := HS.out.at0 (by rw [HN.out]; omega)
      obtain ⟨d0, d1, d2, d3⟩ := line_at (range_fr hc HF.out hgl0) p (by rw [HN.out]; exact hlt)
      have hlt' : (p : Int) < (n : Int) := by omega
      have HE := Lib.hid (laws_toChcLine (X.getD p la0) wr ((HS.out.wd p (by rw [HN.out]; exact hlt)).fr HF.out) (HB.out p (by rw [HN.out]; exact hlt)))
      obtain ⟨l, hl⟩ : ∃ l, l = X.getD p la0 := ⟨_, rfl⟩
      have HL := Lib.hid hl
      rw [← hl] at d0 d1 d2 d3 HE
      clear hc hl
      go_wp2_with fail
      refine HE.out.mono ?_
      rintro e u1 ⟨gW, rfl, hg1, hg2, hV, f1⟩
      obtain ⟨y, hy⟩ : ∃ y : La, y = ⟨l.n, some ⟨gW, 0, none⟩, l.n.W.length⟩ := ⟨_, rfl⟩
      have hO1 := HO.out.fr f1
      have HT := Lib.hid (hO1.r.there4 p (by rw [HYl.out]; exact hlt))
      have hb2 : But [w.heap.size] u1 (u1.setCells w.heap.size (p * 4) (lac y)) := But.setCells _ (.inl (by simp)) _ _ _ (But.refl _ _)
      have hV' : Vc w.heap.size u1 y.n.W.length (ivl y.n.W) y.a := by rw [hy]; exact hV.mono hsz
      have hyk : ∀ m, m ∈ wbk y → m = gW := fun m hm => by rw [hy] at hm; exact bkS_one hm
      have hO2 := hO1.setL p y (by rw [HYl.out]; exact hlt) hV' (fun hm => by have := hyk _ hm; omega) (fun i hi hik m h1 h2 => by
        have e := hyk _ h1
        have := (HO.out.w.bk i hi m h2).2
        omega)
      have hF2 : Fr w _ := fr_but (HF.out.trans f1) hb2 (fun k hk => by have := List.mem_singleton.1 hk; omega)
      obtain ⟨u2, hu2⟩ : ∃ u2, u1.setCells w.heap.size (p * 4) (lac y) = u2 := ⟨_, rfl⟩
      rw [hu2] at hO2 hF2
      have HU2 := Lib.hid hu2
      have HO2 := Lib.hid hO2
      have HF2 := Lib.hid hF2
      have HYn := Lib.hid (show y.n = l.n by rw [hy])
      have HYy := Lib.hid (show (.agg #[.bool l.n.u, .int .i64 l.n.p, .bool l.n.d, .slice (some ⟨gW, 0, none⟩) l.n.W.length l.n.W.length] : Value) = lav y by rw [hy])
      clear hO1 hb2 hO2 hF2 hu2 f1 d0 d1 d2 d3 HO HF hV hV' hyk hy
      go_wp2_with (refine wpList_store_line rfl _ _ rfl w.heap.size (p * 4) y rfl HYy.out HT.out u2 HU2.out ?_)
      go_roundw
      case rel =>
        refine ⟨p + 1, Y.set p y, by omega, by go_num, by rw [List.length_set]; exact HYl.out, fun i hi => ?_, HO2.out, HF2.out⟩
        rw [getD_setA]
        by_cases e : p = i
        · subst e
          rw [if_pos ⟨rfl, by rw [HYl.out]; exact hlt⟩, HYn.out, HL.out]
        · rw [if_neg (fun h => e h.1)]
          exact HYe.out i (by omega)
      case measure => simp [intOf]; omega
    · have hge : ¬ (p : Int) < (n : Int) := by omega
      have e : p = n := by omega
      subst e
      go_wp2
      go_ret
      refine ⟨_, Y, by rw [HN.out]; rfl, lns_of (by rw [HYl.out, HN.out]) (fun i hi => HYe.out i (by rw [← HN.out]; exact hi)), HO.out, HF.out⟩

/-- Behind a copy of a cache by the laws. -/
def ToC7 (M : List Int) (X : List La) (w : World) (e : Ending) (w' : World) : Prop := ∃ gM gL Y, e = .returned (caV (some ⟨gM, 0, none⟩) (some ⟨gL, 0, none⟩) M Y M.length X.length) ∧ lns Y = lns X ∧ VcH7 w.heap.size w' M Y (some ⟨gM, 0, none⟩) (some ⟨gL, 0, none⟩) ∧ Fr w w'
theorem VcH7.but {B : Nat} {L : List Nat} {u u' : World} {M : List Int} {X : List La} {aM aL : Option Addr} (h : VcH7 B u M X aM aL) (f : But L u u') (hL : ∀ m, m ∈ L → m < B ∨ u.heap.size ≤ m) : VcH7 B u' M X aM aL := by
  refine ⟨h.rM.but' f (fun k hk hm => ?_), fun h0 => ?_, h.w.but f (fun i hi k hk hm => ?_), h.pL, h.pM⟩
  · have h1 := h.rM.bk k hk
    have h2 := hL k hm
    omega
  · obtain ⟨g, e, hb, r⟩ := h.rL h0
    have := r.lt
    exact ⟨g, e, hb, r.but f (fun hm => by have := hL g hm; omega)⟩
  · have h1 := h.w.bk i hi k hk
    have h2 := hL k hm
    omega
theorem VcH7.fr {B : Nat} {u u' : World} {M : List Int} {X : List La} {aM aL : Option Addr} (h : VcH7 B u M X aM aL) (f : Fr u u') : VcH7 B u' M X aM aL := h.but (L := []) (But.of f) (fun m hm => by cases hm)
set_option maxRecDepth 8000 in
set_option maxHeartbeats 2000000 in
theorem laws_toChc (M : List Int) (X : List La) (aM aL : Option Addr) (cM cL : Nat) (w : World) (h : SrcC w M X aM aL) (hf : FewC M X) :
    Calls Try.prog 20 #[caV aM aL M X cM cL] w (ToC7 M X w) := by
  have F0 : Fr w (((w.alloc (.cells #[.slice aM M.length cM, .slice aL X.length cL] 25)).alloc (.cells #[.slice none 0 0, .slice none 0 0] 30)).alloc (.cells #[.slice none 0 0, .slice none 0 0] 30)) := by (repeat' first | (with_reducible exact Below.refl _ _) | (with_reducible assumption) | ((with_reducible refine Below.setCell ?_ ?hb _); (case hb => first | exact Nat.le_refl _ | (simp; done) | (simp; omega) | omega)) | ((with_reducible refine Below.alloc ?_ ?hb _); (case hb => first | exact Nat.le_refl _ | (simp; done) | (simp; omega) | omega)) | (with_reducible refine Below.drew ?_))
  have HF := Lib.hid F0
  have X1 := Lib.hid (((Box2.new w (.slice aM M.length cM) (.slice aL X.length cL) 25 _ rfl).fr (Fr.alloc _ (.cells #[.slice none 0 0, .slice none 0 0] 30))).fr (Fr.alloc _ (.cells #[.slice none 0 0, .slice none 0 0] 30)))
  have X2 := Lib.hid ((Box2.new (w.alloc (.cells #[.slice aM M.length cM, .slice aL X.length cL] 25)) (.slice none 0 0) (.slice none 0 0) 30 (w.heap.size + 1) (by simp)).fr (Fr.alloc _ (.cells #[.slice none 0 0, .slice none 0 0] 30)))
  have X3 := Lib.hid (Box2.new ((w.alloc (.cells #[.slice aM M.length cM, .slice aL X.length cL] 25)).alloc (.cells #[.slice none 0 0, .slice none 0 0] 30)) (.slice none 0 0) (.slice none 0 0) 30 (w.heap.size + 2) (by simp))
  have hs0 : w.heap.size + 3 ≤ (((w.alloc (.cells #[.slice aM M.length cM, .slice aL X.length cL] 25)).alloc (.cells #[.slice none 0 0, .slice none 0 0] 30)).alloc (.cells #[.slice none 0 0, .slice none 0 0] 30)).heap.size := by simp
  have HS := Lib.hid h
  have hfM := hf.M
  have hfL := hf.L
  have HFW := Lib.hid hf.W
  clear F0 h hf
  unfold caV
  go_enter Try.func20, Try.ntmps20
  go_upto_region 2 with fail
  generalize (((w.alloc (.cells #[.slice aM M.length cM, .slice aL X.length cL] 25)).alloc (.cells #[.slice none 0 0, .slice none 0 0] 30)).alloc (.cells #[.slice none 0 0, .slice none 0 0] 30)) = u0 at *
  obtain ⟨_, c0, c1, _, _⟩ := X1.out
  go_wp2_with fail
  refine (laws_toIntS u0 aM M.length cM (fun i => M.getD i 0) (HS.out.M.fr HF.out) hfM).mono ?_
  rintro e u1 ⟨gM, rfl, hg1, hg2, hV, f1⟩
  have V1 := Lib.hid hV
  have F1 := Lib.hid f1
  have hs1 := f1.size
  have Y1 := Lib.hid (X1.out.fr f1)
  have Y2 := Lib.hid (X2.out.fr f1)
  have Y3 := Lib.hid (X3.out.fr f1)
  clear hV f1 X1 X2 X3 c0 c1
  obtain ⟨_, z0, z1, q0, q1⟩ := Y3.out
  go_upto_region 3 with fail
  have hst : But [w.heap.size + 2] u1 (u1.setCell ⟨w.heap.size + 2, 0, none⟩ (.slice (some ⟨gM, 0, none⟩) M.length M.length)) := (But.refl _ _).set _ _ _ (.inl (by simp))
  have A3 := Lib.hid (Y3.out.s0 (.slice (some ⟨gM, 0, none⟩) M.length M.length))
  have A1 := Lib.hid (Y1.out.but hst (by simp))
  have A2 := Lib.hid (Y2.out.but hst (by simp))
  have V2 := Lib.hid (V1.out.but hst (fun b e => by cases e; simp; omega))
  have HF2 := Lib.hid (show Fr w _ from fr_but (Fr.trans HF.out F1.out) hst (fun m hm => by simp at hm; omega))
  have hs2 := hst.size
  have hg3 : gM < (u1.setCell ⟨w.heap.size + 2, 0, none⟩ (.slice (some ⟨gM, 0, none⟩) M.length M.length)).heap.size := by omega
  clear hst Y1 Y2 Y3 V1 F1 HF z0 z1 q0 q1
  generalize (u1.setCell ⟨w.heap.size + 2, 0, none⟩ (.slice (some ⟨gM, 0, none⟩) M.length M.length)) = u2 at *
  obtain ⟨_, c0, c1, _, _⟩ := A1.out
  go_wp2_with fail
  refine (laws_toChcLineS X aL cL u2 (HS.out.L.fr HF2.out) hfL HFW.out).mono ?_
  rintro e u3 ⟨gL, Y, rfl, hY, hO, f3⟩
  have HY := Lib.hid hY
  have HYl := Lib.hid (show Y.length = X.length by have e1 := congrArg List.length hY; simpa [lns] using e1)
  have HO := Lib.hid hO
  have F3 := Lib.hid f3
  have hs3 := f3.size
  have hgL := hO.b
  have hgL2 := hO.r.lt
  have B3 := Lib.hid (A3.out.fr f3)
  have B2 := Lib.hid (A2.out.fr f3)
  have V3 := Lib.hid (V2.out.fr f3)
  clear hY hO f3 A1 A2 A3 V2 c0 c1
  obtain ⟨_, z0, z1, q0, q1⟩ := B3.out
  go_upto_region 4 with fail
  have hst : But [w.heap.size + 2] u3 (u3.setCell ⟨w.heap.size + 2, 1, none⟩ (.slice (some ⟨gL, 0, none⟩) X.length X.length)) := (But.refl _ _).set _ _ _ (.inl (by simp))
  have C3 := Lib.hid (B3.out.s1 (.slice (some ⟨gL, 0, none⟩) X.length X.length))
  have C2 := Lib.hid (B2.out.but hst (by simp))
  have V4 := Lib.hid (V3.out.but hst (fun b e => by cases e; simp; omega))
  have O4 := Lib.hid (HO.out.but hst (by simp; omega) (fun i hi k hk hm => by have := (HO.out.w.bk i hi k hk).1; simp at hm; omega))
  have HF4 := Lib.hid (show Fr w _ from fr_but (Fr.trans HF2.out F3.out) hst (fun m hm => by simp at hm; omega))
  clear hst B3 B2 V3 HO z0 z1 q0 q1
  generalize (u3.setCell ⟨w.heap.size + 2, 1, none⟩ (.slice (some ⟨gL, 0, none⟩) X.length X.length)) = u4 at *
  obtain ⟨_, c0, c1, _, _⟩ := C3.out
  obtain ⟨_, z0, z1, q0, q1⟩ := C2.out
  go_wp2
  have hst : But [w.heap.size + 1] u4 ((u4.setCell ⟨w.heap.size + 1, 0, none⟩ (.slice (some ⟨gM, 0, none⟩) M.length M.length)).setCell ⟨w.heap.size + 1, 1, none⟩ (.slice (some ⟨gL, 0, none⟩) X.length X.length)) := (But.refl _ _).set2 _ _ _ (.inl (by simp))
  have D2 := C2.out.set (.slice (some ⟨gM, 0, none⟩) M.length M.length) (.slice (some ⟨gL, 0, none⟩) X.length X.length)
  refine bodyPost_ret (v := .agg #[.slice (some ⟨gM, 0, none⟩) M.length M.length, .slice (some ⟨gL, 0, none⟩) X.length X.length]) (by simp [results, Try.results20, go_sem, D2.c0, D2.c1]) rfl ?_
  have O5 := O4.out.but hst (by simp; omega) (fun i hi k hk hm => by have := (O4.out.w.bk i hi k hk).1; simp at hm; omega)
  have V5 := V4.out.but hst (fun b e => by cases e; simp; omega)
  refine ⟨gM, gL, Y, by simp only [caV, HYl.out], HY.out, ⟨V5.mono (by omega), fun _ => ⟨gL, rfl, by omega, O5.r⟩, O5.w.mono (by omega), fun k hk i hi => by rw [bkS_one hk]; exact O5.ap i hi, fun k hk => ?_⟩, fr_but HF4.out hst (fun m hm => by simp at hm; omega)⟩
  rw [bkS_one hk]
  refine ⟨fun hm => by have := bkS_one hm; omega, fun i hi hm => by have := (O4.out.w.bk i hi gM hm).1; omega⟩
set_option maxRecDepth 4000 in
set_option maxHeartbeats 2000000 in
theorem laws_eqChcLine_same (n : Ln) (a1 a2 : Option Addr) (c1 c2 : Nat) (u : World) (h1 : Src u n.W.length (ivl n.W) a1) (h2 : Src u n.W.length (ivl n.W) a2) (hn : n.W.length ≤ 1048576) :
    Calls Try.prog 98 #[lav ⟨n, a1, c1⟩, lav ⟨n, a2, c2⟩] u fun e u' => e = .returned (.bool true) ∧ Fr u u' := by
  have F0 : Fr u ((u.alloc (.cells #[.bool n.u, .int .i64 n.p, .bool n.d, .slice a1 n.W.length c1] 59)).alloc (.cells #[.bool n.u, .int .i64 n.p, .bool n.d, .slice a2 n.W.length c2] 59)) := by (repeat' first | (with_reducible exact Below.refl _ _) | (with_reducible assumption) | ((with_reducible refine Below.setCell ?_ ?hb _); (case hb => first | exact Nat.le_refl _ | (simp; done) | (simp; omega) | omega)) | ((with_reducible refine Below.alloc ?_ ?hb _); (case hb => first | exact Nat.le_refl _ | (simp; done) | (simp; omega) | omega)) | (with_reducible refine Below.drew ?_))
  have HF := Lib.hid F0
  have H1 := Lib.hid (h1.fr F0)
  have H2 := Lib.hid (h2.fr F0)
  clear F0 h1 h2
  go_enter Try.func98, Try.ntmps98
  go_wp2_with fail
  refine (laws_eqIntSo _ _ (fun i => n.W.getD i 0) _ _ _ _ H1.out H2.out hn).mono ?_
  rintro e u1 ⟨rfl, m, hm⟩
  have f : Fr u u1 := by rw [← hm]; exact fr_drewN HF.out _
  have F1 := Lib.hid f
  clear f hm m H1 H2
  go_wp2
  go_ret
  exact ⟨rfl, F1.out⟩
set_option maxRecDepth 8000 in
set_option maxHeartbeats 4000000 in
theorem laws_eqChcLineS_same (X Y : List La) (a1 a2 : Option Addr) (c1 c2 : Nat) (u : World) (h1 : SrcL u X a1) (h2 : SrcL u Y a2) (he : lns X = lns Y) (hx : X.length ≤ 1048576) (hb : ∀ i, i < X.length → (X.getD i la0).n.W.length ≤ 1048576) :
    Calls Try.prog 70 #[.slice a1 X.length c1, .slice a2 X.length c2] u fun e u' => e = .returned (.bool true) ∧ Fr u u' := by
  have hl : Y.length = X.length := by have e1 := congrArg List.length he; simpa [lns] using e1.symm
  have hn : ∀ i, (X.getD i la0).n = (Y.getD i la0).n := fun i => by rw [← lns_get, ← lns_get, he]
  have HL := Lib.hid hl
  have HN := Lib.hid hn
  have H1 := Lib.hid h1
  have H2 := Lib.hid h2
  have HB := Lib.hid hb
  clear he hl hn h1 h2 hb
  go_enter Try.func70, Try.ntmps70
  go_wp2_with fail
  go_loopw [5] (fun i wr => ∃ p : Nat, p ≤ X.length ∧ i = .int .i64 p ∧ Fr u wr) (fun i _ => X.length - (intOf i).toNat)
  case atStart => exact ⟨0, Nat.zero_le _, rfl, Below.refl _ _⟩
  case round =>
    obtain ⟨p, hp, rfl, hf⟩ := hrel
    have HF := Lib.hid hf
    by_cases hlt : p < X.length
    · obtain ⟨g1, o1, rfl, hg1, r1⟩ := H1.out.at0 (by omega)
      obtain ⟨g2, o2, rfl, hg2, r2⟩ := H2.out.at0 (by rw [HL.out]; omega)
      have R1 := Lib.hid r1
      have R2 := Lib.hid r2
      obtain ⟨d0, d1, d2, d3⟩ := line_at (range_fr r1 hf hg1) p hlt
      obtain ⟨e0, e1, e2, e3⟩ := line_at (range_fr r2 hf hg2) p (by rw [HL.out]; exact hlt)
      have hlt' : (p : Int) < (X.length : Int) := by omega
      have hp0 : (0 : Int) ≤ (p : Int) := Int.natCast_nonneg _
      have W1 := Lib.hid (fun v (f : Fr wr v) => (H1.out.wd p hlt).fr (Fr.trans HF.out f))
      have W2 := Lib.hid (fun v (f : Fr wr v) => (H2.out.wd p (by rw [HL.out]; exact hlt)).fr (Fr.trans HF.out f))
      have hbp := HB.out p hlt
      have hnp := HN.out p
      clear hf r1 r2
      generalize X.getD p la0 = l1 at *
      generalize Y.getD p la0 = l2 at *
      obtain ⟨n1, b1, k1⟩ := l1
      obtain ⟨n2, b2, k2⟩ := l2
      simp only at hnp
      subst hnp
      simp only at d0 d1 d2 d3 e0 e1 e2 e3 hbp
      have HE := Lib.hid (fun v (f : Fr wr v) => laws_eqChcLine_same n1 b1 b2 k1 k2 v (W1.out v f) (W2.out v f) hbp)
      go_wp2_with fail
      go_region_held3 (fun v => Fr wr v ∧ v.cell? ⟨g1, o1 + p * 4, none⟩ = some (.bool n1.u) ∧ v.cell? ⟨g1, o1 + p * 4 + 1, none⟩ = some (.int .i64 n1.p) ∧ v.cell? ⟨g1, o1 + p * 4 + 2, none⟩ = some (.bool n1.d) ∧ v.cell? ⟨g1, o1 + p * 4 + 3, none⟩ = some (.slice b1 n1.W.length k1) ∧ v.cell? ⟨g2, o2 + p * 4, none⟩ = some (.bool n1.u) ∧ v.cell? ⟨g2, o2 + p * 4 + 1, none⟩ = some (.int .i64 n1.p) ∧ v.cell? ⟨g2, o2 + p * 4 + 2, none⟩ = some (.bool n1.d) ∧ v.cell? ⟨g2, o2 + p * 4 + 3, none⟩ = some (.slice b2 n1.W.length k2))
        (first | exact ⟨Below.drew (Below.refl _ _), d0, d1, d2, d3, e0, e1, e2, e3⟩ | exact ⟨FV.out, x0, x1, x2, x3, y0, y1, y2, y3⟩)
        (first | (go_at_call 98; refine (HE.out _ (Below.drew (Below.refl _ _))).mono ?_; rintro e v ⟨rfl, fv⟩; have FV := Lib.hid (Fr.trans (Below.drew (Below.refl wr.heap.size wr)) fv); have x0 := (FV.out.cell (show g1 < wr.heap.size from Nat.lt_of_lt_of_le hg1 HF.out.size)).trans d0; have x1 := (FV.out.cell (show g1 < wr.heap.size from Nat.lt_of_lt_of_le hg1 HF.out.size)).trans d1; have x2 := (FV.out.cell (show g1 < wr.heap.size from Nat.lt_of_lt_of_le hg1 HF.out.size)).trans d2; have x3 := (FV.out.cell (show g1 < wr.heap.size from Nat.lt_of_lt_of_le hg1 HF.out.size)).trans d3; have y0 := (FV.out.cell (show g2 < wr.heap.size from Nat.lt_of_lt_of_le hg2 HF.out.size)).trans e0; have y1 := (FV.out.cell (show g2 < wr.heap.size from Nat.lt_of_lt_of_le hg2 HF.out.size)).trans e1; have y2 := (FV.out.cell (show g2 < wr.heap.size from Nat.lt_of_lt_of_le hg2 HF.out.size)).trans e2; have y3 := (FV.out.cell (show g2 < wr.heap.size from Nat.lt_of_lt_of_le hg2 HF.out.size)).trans e3; clear fv))
      go_wp2
      go_roundw
      case rel => exact ⟨p + 1, by omega, by go_num, Fr.trans HF.out FV.out⟩
      case measure => simp [intOf]; omega
    · have hge : ¬ (p : Int) < (X.length : Int) := by omega
      clear hf
      go_wp2
      go_ret
      exact ⟨rfl, HF.out⟩
set_option maxRecDepth 4000 in
set_option maxHeartbeats 2000000 in
theorem laws_eqChc_same (M : List Int) (X Y : List La) (aM aL bM bL : Option Addr) (cM cL dM dL : Nat) (u : World) (h1 : SrcC u M X aM aL) (h2 : SrcC u M Y bM bL) (he : lns X = lns Y) (hf : FewC M X) :
    Calls Try.prog 22 #[caV aM aL M X cM cL, caV bM bL M Y dM dL] u fun e u' => e = .returned (.bool true) ∧ Fr u u' := by
  have hl : Y.length = X.length := by have e1 := congrArg List.length he; simpa [lns] using e1.symm
  have HEq := Lib.hid he
  unfold caV
  rw [hl]
  have F0 : Fr u ((u.alloc (.cells #[.slice aM M.length cM, .slice aL X.length cL] 30)).alloc (.cells #[.slice bM M.length dM, .slice bL X.length dL] 30)) := by (repeat' first | (with_reducible exact Below.refl _ _) | (with_reducible assumption) | ((with_reducible refine Below.setCell ?_ ?hb _); (case hb => first | exact Nat.le_refl _ | (simp; done) | (simp; omega) | omega)) | ((with_reducible refine Below.alloc ?_ ?hb _); (case hb => first | exact Nat.le_refl _ | (simp; done) | (simp; omega) | omega)) | (with_reducible refine Below.drew ?_))
  have HF := Lib.hid F0
  have H1 := Lib.hid (h1.fr F0)
  have H2 := Lib.hid (h2.fr F0)
  have Y1 := Lib.hid ((Box2.new u (.slice aM M.length cM) (.slice aL X.length cL) 30 _ rfl).fr (Fr.alloc _ (.cells #[.slice bM M.length dM, .slice bL X.length dL] 30)))
  have Y2 := Lib.hid (Box2.new (u.alloc (.cells #[.slice aM M.length cM, .slice aL X.length cL] 30)) (.slice bM M.length dM) (.slice bL X.length dL) 30 (u.heap.size + 1) (by simp))
  have hfM := hf.M
  have hfL := hf.L
  have HFW := Lib.hid hf.W
  clear F0 h1 h2 hl he hf
  go_enter Try.func22, Try.ntmps22
  go_upto_region 1 with fail
  generalize ((u.alloc (.cells #[.slice aM M.length cM, .slice aL X.length cL] 30)).alloc (.cells #[.slice bM M.length dM, .slice bL X.length dL] 30)) = u0 at *
  obtain ⟨_, c0, c1, _, _⟩ := Y1.out
  obtain ⟨_, x0, x1, _, _⟩ := Y2.out
  go_wp2_with fail
  refine (laws_eqIntSo _ _ (fun i => M.getD i 0) _ _ _ _ H1.out.M H2.out.M hfM).mono ?_
  rintro e u1 ⟨rfl, m, hm⟩
  have f : Fr u0 u1 := by rw [← hm]; exact Below.drewN (Below.refl _ _) _
  have F1 := Lib.hid f
  obtain ⟨_, y0, y1, _, _⟩ := Y1.out.fr f
  obtain ⟨_, z0, z1, _, _⟩ := Y2.out.fr f
  clear hm m c0 c1 x0 x1 f
  go_wp2_with fail
  refine (laws_eqChcLineS_same X Y _ _ _ _ u1 (H1.out.L.fr F1.out) (H2.out.L.fr F1.out) HEq.out hfL HFW.out).mono ?_
  rintro e u2 ⟨rfl, f2⟩
  have F2 := Lib.hid f2
  clear f2 y0 y1 z0 z1
  go_wp2
  go_ret
  exact ⟨rfl, Fr.trans (Fr.trans HF.out F1.out) F2.out⟩

end Go.Proofs.Ytoacgjjpipdkjaa
