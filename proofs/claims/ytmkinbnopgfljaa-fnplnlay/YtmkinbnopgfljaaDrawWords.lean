/- l20Words: words that are good, not too many; the reader has read on; nothing else has turned. -/
import Derived.Test.YtmkinbnopgfljaaDrawI
import Derived.Test.YtmkinbnopgfljaaTr
import Derived.Test.YtmkinbnopgfljaaPl5
namespace Go.Proofs.Ytmkinbnopgfljaa
open Go.RowKit
set_option linter.unusedVariables false
set_option linter.unusedSimpArgs false
/-- A reader in block b, and a row of numbers that the call owns. -/
structure DG (B : Nat) (w : World) (b N : Nat) (u : World) (v : Value) (xs : List Int) : Prop where
  rd : Rd B N u b
  own : u.ownsRow w.heap.size 3 1 v xs.length (xs.map (Value.int .i64))
  lt : b < w.heap.size
  grw : w.grownBy u (some b)
theorem DG.step {B : Nat} {w : World} {b N M : Nat} {u u' : World} {v : Value} {xs : List Int} (h : DG B w b N u v xs) (r : Rd B M u' b) (g : u.grownBy u' (some b)) : DG B w b M u' v xs := by
  refine ⟨r, World.ownsRow.kept h.own g ?_, h.lt, grown_trans h.grw g⟩
  cases hv : v.ownBlock with
  | none => exact .inl rfl
  | some q =>
    right
    intro e
    cases e
    have := (World.ownsRow.lt h.own b hv).1
    have := h.lt
    omega
theorem DG.mono {B : Nat} {w : World} {b N M : Nat} {u : World} {v : Value} {xs : List Int} (h : DG B w b N u v xs) (hM : N ≤ M) : DG B w b M u v xs := h.step (h.rd.mono hM) (grown_refl _ _)
theorem DG.alloc {B : Nat} {w : World} {b N : Nat} {u : World} {v : Value} {xs : List Int} (h : DG B w b N u v xs) (o : Obj) : DG B w b N (u.alloc o) v xs := h.step (h.rd.alloc o) (World.grownBy_alloc _ _ _)
theorem DG.fr {B : Nat} {w : World} {b N : Nat} {u u' : World} {v : Value} {xs : List Int} (h : DG B w b N u v xs) (f : Fr u u') : DG B w b N u' v xs := h.step (h.rd.row (fr_row f none) nofun) (fr_row f _)
theorem DG.app {B : Nat} {w : World} {b N : Nat} {u u' : World} {v v' : Value} {xs ys : List Int} (h : DG B w b N u v xs) (hown : u'.ownsRow w.heap.size 3 1 v' ys.length (ys.map (Value.int .i64))) (g : u.grownBy u' v.ownBlock) : DG B w b N u' v' ys := by
  refine ⟨h.rd.row g (fun q hq => Nat.lt_of_lt_of_le h.lt (World.ownsRow.lt h.own q hq).1), hown, h.lt, ⟨g.os.trans h.grw.os, g.tape.trans h.grw.tape, g.output.trans h.grw.output, Nat.le_trans h.grw.size g.size, fun k hk hne => ?_⟩⟩
  rw [g.block k (Nat.lt_of_lt_of_le hk h.grw.size) (fun e => by have := (World.ownsRow.lt h.own k e.symm).1; omega)]
  exact h.grw.block k hk hne
theorem DG.app1 {B : Nat} {w : World} {b N : Nat} {u u' : World} {v v' : Value} {xs : List Int} {x : Int} (h : DG B w b N u v xs) (hown : u'.ownsRow w.heap.size 3 1 v' (xs.length + 1) (xs.map (Value.int .i64) ++ [Value.int .i64 x])) (g : u.grownBy u' v.ownBlock) : DG B w b N u' v' (xs ++ [x]) :=
  h.app (by simpa using hown) g
theorem okB_bd {v : Int} (h0 : 0 ≤ v) (h1 : v ≤ 65535) : okB v = true := okB_of' h0 (by omega)
theorem all_okB_app {xs : List Int} {x : Int} (h : xs.all okB = true) (hx : okB x = true) : (xs ++ [x]).all okB = true := by simp [h, hx]
theorem all6 (a b c d e f : Int) (p : Int → Prop) (ha : p a) (hb : p b) (hc : p c) (hd : p d) (he : p e) (hf : p f) : ∀ i, i < (#[Value.int .i64 a, .int .i64 b, .int .i64 c, .int .i64 d, .int .i64 e, .int .i64 f]).size → ∃ v : Int, p v ∧ (#[Value.int .i64 a, .int .i64 b, .int .i64 c, .int .i64 d, .int .i64 e, .int .i64 f])[i]? = some (.int .i64 v) := by
  intro i hi
  simp at hi
  have : i = 0 ∨ i = 1 ∨ i = 2 ∨ i = 3 ∨ i = 4 ∨ i = 5 := by omega
  rcases this with rfl | rfl | rfl | rfl | rfl | rfl
  · exact ⟨a, ha, rfl⟩
  · exact ⟨b, hb, rfl⟩
  · exact ⟨c, hc, rfl⟩
  · exact ⟨d, hd, rfl⟩
  · exact ⟨e, he, rfl⟩
  · exact ⟨f, hf, rfl⟩
def firstL : List (List UInt8) := [[108, 117, 105, 32, 114, 49, 32, 49], [115, 101, 116, 32, 114, 49, 32, 50], [97, 100, 100, 105, 32, 114, 49, 32, 114, 48, 32, 50], [115, 101, 116, 32, 114, 49, 32, 51], [97, 100, 100, 105, 32, 114, 49, 32, 114, 48, 32, 50, 48], [115, 101, 116, 32, 114, 49, 32, 48], [98, 97, 99, 107], [106, 117, 109, 112, 32, 114, 48, 32, 49, 50], [97, 100, 100, 105, 32, 114, 53, 32, 114, 53, 32, 49], [103, 101, 116, 32, 114, 54, 32, 48], [97, 100, 100, 105, 32, 114, 54, 32, 114, 54, 32, 49], [115, 101, 116, 32, 114, 54, 32, 48], [98, 97, 99, 107]]
def firstW : List Int := [8705, 62080, 4610, 62144, 4628, 61952, 53248, 28684, 6977, 60416, 7553, 64512, 53248]
theorem tread_first : tread firstL = (firstW, 0) := by kernel_rfl
theorem src_alloc (u : World) (ls : List (List UInt8)) (t : TypeId) : Src (u.alloc (.cells (ls.map (fun x => Value.string (bs x))).toArray t)) ls.length (tv ls) (some ⟨u.heap.size, 0, none⟩) := fun _ => ⟨u.heap.size, 0, rfl, by simp, fun i hi => by
  rw [Nat.zero_add, (alloc_at u _ t _ rfl i).1]
  simp [hi, List.getD_eq_getElem?_getD]⟩
/-- Words that were drawn. -/
def DrewL (B N b : Nat) (w : World) (e : Ending) (w' : World) : Prop :=
  ∃ (xs : List Int) (ao : Option Addr) (cap : Nat), xs.length ≤ 200 ∧ xs.all okB = true ∧ e = .returned (.slice ao xs.length cap) ∧ w'.ownsRow w.heap.size 3 1 (.slice ao xs.length cap) xs.length (xs.map (Value.int .i64)) ∧ Rd B N w' b ∧ w.grownBy w' (some b)
theorem DG.done {B : Nat} {w : World} {b N M : Nat} {u : World} {v : Value} {xs : List Int} (h : DG B w b N u v xs) (hN : N ≤ M) (hx : xs.length ≤ 200) (ho : xs.all okB = true) : DrewL B M b w (.returned v) u := by
  obtain ⟨ao, cap, hv, _⟩ := ownsI_vc (B := w.heap.size) h.own
  subst hv
  exact ⟨xs, ao, cap, hx, ho, rfl, h.own, h.rd.mono hN, h.grw⟩
set_option maxRecDepth 8000 in
set_option maxHeartbeats 8000000 in
theorem l20Words (B N b : Nat) (w : World) (h : Rd B N w b) (hM : N ≤ 800000000) :
    Calls Try.prog 39 #[.pointer (some ⟨b, 0, none⟩)] w (DrewL B (N + 20000) b w) := by
  obtain ⟨i0, hi, hz0, hz1, hz2⟩ := info_parts info_intV
  have hmx : maxLen = 9223372036854775807 := rfl
  have D1 := Lib.hid (show DG B w b N (w.alloc (.cells #[] 3)) (.slice (some ⟨w.heap.size, 0, none⟩) 0 0) [] from ⟨h.alloc _, ownsI_empty _ _ (Nat.le_refl _), h.lt, World.grownBy_alloc _ _ _⟩)
  clear h
  go_enter Try.func39, Try.ntmps39
  go_wp2_with fail
  generalize (w.alloc (.cells #[] 3)) = w1 at *
  refine (pick B _ _ _ _ D1.out.rd (by omega)).mono ?_
  rintro e w2 ⟨x2, x20, x21, rfl, r2, g2⟩
  have D2 := Lib.hid (D1.out.step r2 g2)
  clear r2 g2 D1 x21 x20
  cases hu : (x2 == 0)
  · have D4 := Lib.hid (D2.out.alloc (.cells (firstL.map (fun x => Value.string (bs x))).toArray 9))
    go_wp2_with fail
    go_loopw [3] (fun o wr => ∃ (xs : List Int), xs.length ≤ 10 ∧ xs.all okB = true ∧ ∃ M : Nat, M ≤ N + 10 + 100 * xs.length ∧ DG B w b M wr o xs) (fun o _ => 10 - lenOf o)
    case atStart => exact ⟨[], by simp, rfl, N + 1, by simp, D4.out⟩
    case round =>
      obtain ⟨xs, hxl, hxo, M, hM1, hD⟩ := hrel
      have D3 := Lib.hid hD
      have HO := Lib.hid hxo
      clear hD hxo
      obtain ⟨ao, cap, hv, _⟩ := ownsI_vc (B := w.heap.size) D3.out.own
      subst hv
      by_cases hlt : xs.length < 10
      · skip
        have ht20 : ((xs.length : Nat) : Int) < 20 := by omega
        have ht10 : ((xs.length : Nat) : Int) < 10 := by omega
        go_wp2_with fail
        refine (l20Inst0 B _ _ _ D3.out.rd (by omega)).mono ?_
        rintro e w4 ⟨c0, c1, c2, c3, c4, c5, ck, rfl, r4, g4⟩
        have D5 := Lib.hid (D3.out.step r4 g4)
        have HW := Lib.hid (worD_bd ck)
        clear D3 r4 g4 ck
        go_wp2_with fail
        refine (spec_CodWord _ _ _ _ _ _ _).mono ?_
        rintro e w5 ⟨rfl, f5⟩
        have D6 := Lib.hid (D5.out.fr f5)
        clear D5 f5
        generalize worD c0 c1 c2 c3 c4 c5 = nv at *
        go_wp2_with (at_builtin; refine wpList_append_own _ rfl _ _ 22 rfl w.heap.size 3 i0 (.int .i64 0) 1 8 Try.underlying22 hi hz0 hz1 hz2 rfl (by decide) _ _ _ rfl (World.ownsRow.alloc D6.out.own _) _ 1 1 [.int .i64 nv] rfl rfl (cell_str_at _ _ _ _ (by simp)) (fun x hx => by simp at hx; subst hx; rfl) (show xs.length + 1 ≤ maxLen by omega) (by omega) (by simp; have := D6.out.grw.size; omega) ?_; intro v1 w7 hown1 hg1 _)
        have D8 := (D6.out.alloc _).app1 hown1 hg1
        have HL : lenOf v1 = xs.length + 1 := by
          obtain ⟨ao', cap', hv', _⟩ := ownsI_vc (B := w.heap.size) D8.own
          rw [hv']; simp [lenOf]
        go_roundw
        case rel => exact ⟨xs ++ [nv], by simp; omega, all_okB_app HO.out (okB_of' HW.out.1 HW.out.2), M + 20, by simp; omega, D8⟩
        case measure => rw [HL]; simp [lenOf]; omega
      · skip
        have ht20 : ((xs.length : Nat) : Int) < 20 := by omega
        have ht10 : ¬ ((xs.length : Nat) : Int) < 10 := by omega
        go_wp2_with fail
        refine (pick B _ _ _ _ D3.out.rd (by omega)).mono ?_
        rintro e w9 ⟨x9, x90, x91, rfl, r9, g9⟩
        replace x91 := x91 (by omega)
        have D9 := Lib.hid (D3.out.step r9 g9)
        have HO9 := Lib.hid HO.out
        clear D3 r9 g9 HO
        go_wp2_with fail
        go_loopw [3, 8] (fun o i wr => ∃ (k : Int) (xs : List Int), 0 ≤ k ∧ k ≤ 23 ∧ i = .int .i64 k ∧ (xs.length : Int) + k ≤ 33 ∧ xs.all okB = true ∧ ∃ M : Nat, (M : Int) ≤ N + 2020 + 200 * (23 - k) ∧ DG B w b M wr o xs) (fun _ i _ => (intOf i).toNat)
        case atStart => exact ⟨x9, xs, x90, by omega, rfl, by omega, HO9.out, _, by omega, D9.out⟩
        case round =>
          clear D9 HO9 hxl hM1
          obtain ⟨k, ys, k0, k1, rfl, hyl, hyo, M2, hM2, hD⟩ := hrel
          have E0 := Lib.hid hD
          have HY := Lib.hid hyo
          clear hD hyo
          by_cases hk : 0 < k
          · go_wp2_with fail
            refine (l20Inst0 B _ _ _ E0.out.rd (by omega)).mono ?_
            rintro e v1 ⟨c0, c1, c2, c3, c4, c5, ck, rfl, r1, g1⟩
            have E1 := Lib.hid (E0.out.step r1 g1)
            have HW1 := Lib.hid (worD_bd ck)
            clear E0 r1 g1 ck
            go_wp2_with fail
            refine (spec_CodWord _ _ _ _ _ _ _).mono ?_
            rintro e v2 ⟨rfl, f2⟩
            have E2 := Lib.hid (E1.out.fr f2)
            clear E1 f2
            generalize worD c0 c1 c2 c3 c4 c5 = n1 at *
            go_wp2_with fail
            refine (l20Inst0 B _ _ _ E2.out.rd (by omega)).mono ?_
            rintro e v3 ⟨d0, d1, d2, d3, d4, d5, ck, rfl, r3, g3⟩
            have E3 := Lib.hid (E2.out.step r3 g3)
            have HW2 := Lib.hid (worD_bd ck)
            clear E2 r3 g3 ck
            go_wp2_with fail
            refine (spec_CodWord _ _ _ _ _ _ _).mono ?_
            rintro e v4 ⟨rfl, f4⟩
            have E4 := Lib.hid (E3.out.fr f4)
            clear E3 f4
            generalize worD d0 d1 d2 d3 d4 d5 = n2 at *
            go_wp2_with fail
            refine (l20Inst0 B _ _ _ E4.out.rd (by omega)).mono ?_
            rintro e v5 ⟨b0, b1, b2, b3, b4, b5, ck, rfl, r5, g5⟩
            have E5 := Lib.hid (E4.out.step r5 g5)
            have HW3 := Lib.hid (worD_bd ck)
            clear E4 r5 g5 ck
            go_wp2_with fail
            refine (spec_CodWord _ _ _ _ _ _ _).mono ?_
            rintro e v6 ⟨rfl, f6⟩
            have E6 := Lib.hid (E5.out.fr f6)
            clear E5 f6
            generalize worD b0 b1 b2 b3 b4 b5 = n3 at *
            go_wp2_with fail
            refine (l20Word0 B _ _ _ E6.out.rd (by omega)).mono ?_
            rintro e v7 ⟨n4, n40, n41, rfl, r7, g7⟩
            have E7 := Lib.hid (E6.out.step r7 g7)
            clear E6 r7 g7
            go_wp2_with fail
            refine (pick B _ _ _ _ (E7.out.alloc _).rd (by omega)).mono ?_
            rintro e v8 ⟨y8, y80, y81, rfl, r8, g8⟩
            replace y81 := y81 (by omega)
            obtain ⟨nv, hnv, hcell⟩ := rowN E7.out.rd.lt g8 (fun n => okB n = true) (all4 _ _ _ _ _ (okB_of' HW1.out.1 HW1.out.2) (okB_of' HW2.out.1 HW2.out.2) (okB_of' HW3.out.1 HW3.out.2) (okB_bd n40 n41)) y8 y80 y81
            have HN := Lib.hid hnv
            have E8 := Lib.hid ((E7.out.alloc _).step r8 g8)
            clear E7 r8 g8 hnv HW1 HW2 HW3
            go_wp2_with (at_builtin; refine wpList_append_own _ rfl _ _ 22 rfl w.heap.size 3 i0 (.int .i64 0) 1 8 Try.underlying22 hi hz0 hz1 hz2 rfl (by decide) _ _ _ rfl (World.ownsRow.alloc E8.out.own _) _ 1 1 [.int .i64 nv] rfl rfl (cell_str_at _ _ _ _ (by simp)) (fun x hx => by simp at hx; subst hx; rfl) (show ys.length + 1 ≤ maxLen by omega) (by omega) (by simp; have := E8.out.grw.size; omega) ?_; intro v1 w7 hown1 hg1 _)
            have D8 := (E8.out.alloc _).app1 hown1 hg1
            go_roundw
            case rel => exact ⟨k - 1, ys ++ [nv], by omega, by omega, rfl, by simp; omega, all_okB_app HY.out HN.out, M2 + 20 + 20 + 20 + 8 + 1, by omega, D8⟩
            case measure => simp [intOf]; omega
          · have hk' : ¬ 0 < k := hk
            obtain rfl : k = 0 := by omega
            go_wp2_with fail
            go_ret
            exact E0.out.done (by omega) (by omega) HY.out
  · have D4 := Lib.hid (D2.out.alloc (.cells (firstL.map (fun x => Value.string (bs x))).toArray 9))
    have HS := Lib.hid (src_alloc w2 firstL 9)
    go_wp2_with fail
    refine (spec_TxtRead firstL _ _ _ HS.out (by decide) (by decide)).mono ?_
    rintro e w4 ⟨ao4, cap4, he4, V4, f4⟩
    have D5 := Lib.hid (D4.out.fr f4)
    rw [tread_first] at he4 V4
    obtain ⟨g4, hao, _, _, hc4, _⟩ := V4.at0 (by decide)
    subst hao he4
    have HV : Hid (∀ j u, (firstW.map (Value.int .i64))[j]? = some u → w4.cell? ((⟨g4, 0, none⟩ : Addr).add j) = some u) := fun j u hj => by
      have hj2 : j < firstW.length := by
        by_cases hh : j < firstW.length
        · exact hh
        · rw [List.getElem?_eq_none (by simpa using hh)] at hj; cases hj
      have := hc4 j hj2
      rw [List.getElem?_map, List.getElem?_eq_getElem hj2] at hj
      simp only [Option.map_some, Option.some.injEq] at hj
      subst hj
      have ha : (⟨g4, 0, none⟩ : Addr).add j = ⟨g4, j, none⟩ := by cases j <;> simp [Addr.add]
      rw [ha, this]
      simp [List.getD_eq_getElem?_getD, List.getElem?_eq_getElem hj2]
    clear D4 f4 V4 HS hc4 D2
    go_wp2_with (at_builtin; refine wpList_append_own _ rfl _ _ 22 rfl w.heap.size 3 i0 (.int .i64 0) 1 8 Try.underlying22 hi hz0 hz1 hz2 rfl (by decide) _ _ _ rfl D5.out.own _ 13 _ (firstW.map (Value.int .i64)) rfl rfl (fun j u hj => HV.out j u hj) (fun x hx => by simp [firstW] at hx; rcases hx with rfl | rfl | rfl | rfl | rfl | rfl | rfl | rfl | rfl | rfl | rfl | rfl | rfl <;> rfl) (show ([] : List Int).length + 13 ≤ maxLen by simp; omega) (by simp) (by have := D5.out.grw.size; omega) ?_; intro v1 w7 hown1 hg1 _)
    have D6 := Lib.hid (D5.out.app (ys := firstW) (by simpa [show firstW.length = 13 from rfl] using hown1) hg1)
    clear D5 hown1 hg1 HV
    go_loopw [3] (fun o wr => ∃ (xs : List Int), xs.length ≤ 20 ∧ xs.all okB = true ∧ ∃ M : Nat, M ≤ N + 10 + 100 * xs.length ∧ DG B w b M wr o xs) (fun o _ => 20 - lenOf o)
    case atStart => exact ⟨firstW, by decide, by decide, N + 1, by omega, D6.out⟩
    case round =>
      obtain ⟨xs, hxl, hxo, M, hM1, hD⟩ := hrel
      have D3 := Lib.hid hD
      have HO := Lib.hid hxo
      clear hD hxo
      obtain ⟨ao, cap, hv, _⟩ := ownsI_vc (B := w.heap.size) D3.out.own
      subst hv
      by_cases hlt : xs.length < 20
      · skip
        have ht20 : ((xs.length : Nat) : Int) < 20 := by omega
        go_wp2_with fail
        refine (l20Inst0 B _ _ _ D3.out.rd (by omega)).mono ?_
        rintro e w4 ⟨c0, c1, c2, c3, c4, c5, ck, rfl, r4, g4⟩
        have D5 := Lib.hid (D3.out.step r4 g4)
        have HW := Lib.hid (worD_bd ck)
        clear D3 r4 g4 ck
        go_wp2_with fail
        refine (spec_CodWord _ _ _ _ _ _ _).mono ?_
        rintro e w5 ⟨rfl, f5⟩
        have D6 := Lib.hid (D5.out.fr f5)
        clear D5 f5
        generalize worD c0 c1 c2 c3 c4 c5 = nv at *
        go_wp2_with (at_builtin; refine wpList_append_own _ rfl _ _ 22 rfl w.heap.size 3 i0 (.int .i64 0) 1 8 Try.underlying22 hi hz0 hz1 hz2 rfl (by decide) _ _ _ rfl (World.ownsRow.alloc D6.out.own _) _ 1 1 [.int .i64 nv] rfl rfl (cell_str_at _ _ _ _ (by simp)) (fun x hx => by simp at hx; subst hx; rfl) (show xs.length + 1 ≤ maxLen by omega) (by omega) (by simp; have := D6.out.grw.size; omega) ?_; intro v1 w7 hown1 hg1 _)
        have D8 := (D6.out.alloc _).app1 hown1 hg1
        have HL : lenOf v1 = xs.length + 1 := by
          obtain ⟨ao', cap', hv', _⟩ := ownsI_vc (B := w.heap.size) D8.own
          rw [hv']; simp [lenOf]
        go_roundw
        case rel => exact ⟨xs ++ [nv], by simp; omega, all_okB_app HO.out (okB_of' HW.out.1 HW.out.2), M + 20, by simp; omega, D8⟩
        case measure => rw [HL]; simp [lenOf]; omega
      · skip
        have ht20 : ¬ ((xs.length : Nat) : Int) < 20 := by omega
        have ht10 : ¬ ((xs.length : Nat) : Int) < 10 := by omega
        go_wp2_with fail
        refine (pick B _ _ _ _ D3.out.rd (by omega)).mono ?_
        rintro e w9 ⟨x9, x90, x91, rfl, r9, g9⟩
        replace x91 := x91 (by omega)
        have D9 := Lib.hid (D3.out.step r9 g9)
        have HO9 := Lib.hid HO.out
        clear D3 r9 g9 HO
        go_wp2_with fail
        go_loopw [3, 8] (fun o i wr => ∃ (k : Int) (xs : List Int), 0 ≤ k ∧ k ≤ 23 ∧ i = .int .i64 k ∧ (xs.length : Int) + k ≤ 43 ∧ xs.all okB = true ∧ ∃ M : Nat, (M : Int) ≤ N + 2020 + 200 * (23 - k) ∧ DG B w b M wr o xs) (fun _ i _ => (intOf i).toNat)
        case atStart => exact ⟨x9, xs, x90, by omega, rfl, by omega, HO9.out, _, by omega, D9.out⟩
        case round =>
          clear D9 HO9 hxl hM1
          obtain ⟨k, ys, k0, k1, rfl, hyl, hyo, M2, hM2, hD⟩ := hrel
          have E0 := Lib.hid hD
          have HY := Lib.hid hyo
          clear hD hyo
          by_cases hk : 0 < k
          · go_wp2_with fail
            refine (l20Inst0 B _ _ _ E0.out.rd (by omega)).mono ?_
            rintro e v1 ⟨c0, c1, c2, c3, c4, c5, ck, rfl, r1, g1⟩
            have E1 := Lib.hid (E0.out.step r1 g1)
            have HW1 := Lib.hid (worD_bd ck)
            clear E0 r1 g1 ck
            go_wp2_with fail
            refine (spec_CodWord _ _ _ _ _ _ _).mono ?_
            rintro e v2 ⟨rfl, f2⟩
            have E2 := Lib.hid (E1.out.fr f2)
            clear E1 f2
            generalize worD c0 c1 c2 c3 c4 c5 = n1 at *
            go_wp2_with fail
            refine (l20Inst0 B _ _ _ E2.out.rd (by omega)).mono ?_
            rintro e v3 ⟨d0, d1, d2, d3, d4, d5, ck, rfl, r3, g3⟩
            have E3 := Lib.hid (E2.out.step r3 g3)
            have HW2 := Lib.hid (worD_bd ck)
            clear E2 r3 g3 ck
            go_wp2_with fail
            refine (spec_CodWord _ _ _ _ _ _ _).mono ?_
            rintro e v4 ⟨rfl, f4⟩
            have E4 := Lib.hid (E3.out.fr f4)
            clear E3 f4
            generalize worD d0 d1 d2 d3 d4 d5 = n2 at *
            go_wp2_with fail
            refine (l20Inst0 B _ _ _ E4.out.rd (by omega)).mono ?_
            rintro e v5 ⟨b0, b1, b2, b3, b4, b5, ck, rfl, r5, g5⟩
            have E5 := Lib.hid (E4.out.step r5 g5)
            have HW3 := Lib.hid (worD_bd ck)
            clear E4 r5 g5 ck
            go_wp2_with fail
            refine (spec_CodWord _ _ _ _ _ _ _).mono ?_
            rintro e v6 ⟨rfl, f6⟩
            have E6 := Lib.hid (E5.out.fr f6)
            clear E5 f6
            generalize worD b0 b1 b2 b3 b4 b5 = n3 at *
            go_wp2_with fail
            refine (l20Word0 B _ _ _ E6.out.rd (by omega)).mono ?_
            rintro e v7 ⟨n4, n40, n41, rfl, r7, g7⟩
            have E7 := Lib.hid (E6.out.step r7 g7)
            clear E6 r7 g7
            go_wp2_with fail
            refine (pick B _ _ _ _ (E7.out.alloc _).rd (by omega)).mono ?_
            rintro e v8 ⟨y8, y80, y81, rfl, r8, g8⟩
            replace y81 := y81 (by omega)
            obtain ⟨nv, hnv, hcell⟩ := rowN E7.out.rd.lt g8 (fun n => okB n = true) (all4 _ _ _ _ _ (okB_of' HW1.out.1 HW1.out.2) (okB_of' HW2.out.1 HW2.out.2) (okB_of' HW3.out.1 HW3.out.2) (okB_bd n40 n41)) y8 y80 y81
            have HN := Lib.hid hnv
            have E8 := Lib.hid ((E7.out.alloc _).step r8 g8)
            clear E7 r8 g8 hnv HW1 HW2 HW3
            go_wp2_with (at_builtin; refine wpList_append_own _ rfl _ _ 22 rfl w.heap.size 3 i0 (.int .i64 0) 1 8 Try.underlying22 hi hz0 hz1 hz2 rfl (by decide) _ _ _ rfl (World.ownsRow.alloc E8.out.own _) _ 1 1 [.int .i64 nv] rfl rfl (cell_str_at _ _ _ _ (by simp)) (fun x hx => by simp at hx; subst hx; rfl) (show ys.length + 1 ≤ maxLen by omega) (by omega) (by simp; have := E8.out.grw.size; omega) ?_; intro v1 w7 hown1 hg1 _)
            have D8 := (E8.out.alloc _).app1 hown1 hg1
            go_roundw
            case rel => exact ⟨k - 1, ys ++ [nv], by omega, by omega, rfl, by simp; omega, all_okB_app HY.out HN.out, M2 + 20 + 20 + 20 + 8 + 1, by omega, D8⟩
            case measure => simp [intOf]; omega
          · have hk' : ¬ 0 < k := hk
            obtain rfl : k = 0 := by omega
            obtain ⟨ao2, cap2, hv2, _⟩ := ownsI_vc (B := w.heap.size) E0.out.own
            subst hv2
            go_wp2_with fail
            go_loopw [3] (fun o wr => ∃ (xs : List Int), xs.length ≤ 128 ∧ xs.all okB = true ∧ ∃ M : Nat, M ≤ N + 7000 + 10 * xs.length ∧ DG B w b M wr o xs) (fun o _ => 128 - lenOf o)
            case atStart => exact ⟨ys, by omega, HY.out, M2, by omega, E0.out⟩
            case round =>
              clear E0 HY hM2 hyl
              obtain ⟨xs, hxl, hxo, M, hM1, hD⟩ := hrel
              have D3 := Lib.hid hD
              have HO := Lib.hid hxo
              clear hD hxo
              obtain ⟨ao, cap, hv, _⟩ := ownsI_vc (B := w.heap.size) D3.out.own
              subst hv
              by_cases hlt : xs.length < 128
              · have ht : ((xs.length : Nat) : Int) < 128 := by omega
                go_wp2_with fail
                refine (spec_CodWord _ _ _ _ _ _ _).mono ?_
                rintro e w5 ⟨rfl, f5⟩
                have D6 := Lib.hid (D3.out.fr f5)
                have HW := Lib.hid (worD_bd (k := 1) (d := 2) (a := 2) (b := 0) (f := 0) (n := 1) (by decide +kernel))
                clear D3 f5
                generalize worD 1 2 2 0 0 1 = nw at *
                go_wp2_with fail
                refine (pick B _ _ _ _ (D6.out.alloc _).rd (by omega)).mono ?_
                rintro e v8 ⟨y8, y80, y81, rfl, r8, g8⟩
                replace y81 := y81 (by omega)
                obtain ⟨nv, hnv, hcell⟩ := rowN D6.out.rd.lt g8 (fun n => okB n = true) (all3 _ _ _ _ rfl rfl (okB_of' HW.out.1 HW.out.2)) y8 y80 y81
                have HN := Lib.hid hnv
                have E8 := Lib.hid ((D6.out.alloc _).step r8 g8)
                clear D6 r8 g8 hnv HW
                go_wp2_with (at_builtin; refine wpList_append_own _ rfl _ _ 22 rfl w.heap.size 3 i0 (.int .i64 0) 1 8 Try.underlying22 hi hz0 hz1 hz2 rfl (by decide) _ _ _ rfl (World.ownsRow.alloc E8.out.own _) _ 1 1 [.int .i64 nv] rfl rfl (cell_str_at _ _ _ _ (by simp)) (fun x hx => by simp at hx; subst hx; rfl) (show xs.length + 1 ≤ maxLen by omega) (by omega) (by simp; have := E8.out.grw.size; omega) ?_; intro v1 w7 hown1 hg1 _)
                have D8 := (E8.out.alloc _).app1 hown1 hg1
                have HL : lenOf v1 = xs.length + 1 := by
                  obtain ⟨ao', cap', hv', _⟩ := ownsI_vc (B := w.heap.size) D8.own
                  rw [hv']; simp [lenOf]
                go_roundw
                case rel => exact ⟨xs ++ [nv], by simp; omega, all_okB_app HO.out HN.out, M + 1, by simp; omega, D8⟩
                case measure => rw [HL]; simp [lenOf]; omega
              · have ht : ¬ ((xs.length : Nat) : Int) < 128 := by omega
                go_wp2_with fail
                go_loopw [3, 9] (fun o i wr => ∃ (k : Int) (xs : List Int), 0 ≤ k ∧ k ≤ 16 ∧ i = .int .i64 k ∧ (xs.length : Int) ≤ 128 + k ∧ xs.all okB = true ∧ ∃ M : Nat, (M : Int) ≤ N + 9000 + 10 * k ∧ DG B w b M wr o xs) (fun _ i _ => 16 - (intOf i).toNat)
                case atStart => exact ⟨0, xs, by omega, by omega, rfl, by omega, HO.out, M, by omega, D3.out⟩
                case round =>
                  clear D3 HO hxl hM1 ht hlt
                  obtain ⟨k, zs, k0, k1, rfl, hzl, hzo, M3, hM3, hD⟩ := hrel
                  have E0 := Lib.hid hD
                  have HY := Lib.hid hzo
                  clear hD hzo
                  by_cases hk : k < 16
                  · go_wp2_with fail
                    refine (pick B _ _ _ _ E0.out.rd (by omega)).mono ?_
                    rintro e v7 ⟨y7, y70, y71, rfl, r7, g7⟩
                    replace y71 := y71 (by omega)
                    have E1 := Lib.hid (E0.out.step r7 g7)
                    clear E0 r7 g7
                    go_wp2_with fail
                    refine (pick B _ _ _ _ (E1.out.alloc _).rd (by omega)).mono ?_
                    rintro e v8 ⟨y8, y80, y81, rfl, r8, g8⟩
                    replace y81 := y81 (by omega)
                    obtain ⟨nv, hnv, hcell⟩ := rowN E1.out.rd.lt g8 (fun n => okB n = true) (all6 _ _ _ _ _ _ _ (okB_bd (by omega) (by omega)) (okB_bd (by omega) (by omega)) (okB_bd (by omega) (by omega)) (okB_bd (by omega) (by omega)) (okB_bd (by omega) (by omega)) rfl) y8 y80 y81
                    have HN := Lib.hid hnv
                    have E8 := Lib.hid ((E1.out.alloc _).step r8 g8)
                    clear E1 r8 g8 hnv
                    go_wp2_with (at_builtin; refine wpList_append_own _ rfl _ _ 22 rfl w.heap.size 3 i0 (.int .i64 0) 1 8 Try.underlying22 hi hz0 hz1 hz2 rfl (by decide) _ _ _ rfl (World.ownsRow.alloc E8.out.own _) _ 1 1 [.int .i64 nv] rfl rfl (cell_str_at _ _ _ _ (by simp)) (fun x hx => by simp at hx; subst hx; rfl) (show zs.length + 1 ≤ maxLen by omega) (by omega) (by simp; have := E8.out.grw.size; omega) ?_; intro v1 w7 hown1 hg1 _)
                    have D8 := (E8.out.alloc _).app1 hown1 hg1
                    go_roundw
                    case rel => exact ⟨k + 1, zs ++ [nv], by omega, by omega, rfl, by simp; omega, all_okB_app HY.out HN.out, M3 + 1 + 1, by omega, D8⟩
                    case measure => simp [intOf]; omega
                  · have hk' : ¬ k < 16 := hk
                    go_wp2_with fail
                    go_ret
                    exact E0.out.done (by omega) (by omega) HY.out

end Go.Proofs.Ytmkinbnopgfljaa
