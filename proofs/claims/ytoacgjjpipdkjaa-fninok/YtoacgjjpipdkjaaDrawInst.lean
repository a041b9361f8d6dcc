/- l20Inst: some instruction; the reader has read on; nothing else has turned. l20Inst: some instruction; the reader has read on; nothing else has turned. The draws of chapter 2. A code that came in, seen from a later world. -/
import Derived.Deep.DeepCutAuto
import Derived.Test.YtoacgjjpipdkjaaReader
import Derived.Test.YtoacgjjpipdkjaaCod
import Derived.Test.YtoacgjjpipdkjaaCodOk
namespace Go.Proofs.Ytoacgjjpipdkjaa
open Go.RowKit
set_option linter.unusedVariables false
/-- Within l20Inst: the reader in block b; the instruction in block C; the result in the block that was next when the call began. -/
structure IW (B : Nat) (w : World) (b C M : Nat) (u : World) : Prop where
  rd : Rd B M u b
  gr : w.grownBy u (some b)
  lt : C < u.heap.size
  bz : b < w.heap.size
  zc : w.heap.size < C
  cs : ∀ j, j < 6 → ∃ v : Int, u.cell? ⟨C, j, none⟩ = some (.int .i64 v)
  cf : ∀ j, j < 6 → u.frozen? ⟨C, j, none⟩ = false
  zs : ∀ j, j < 6 → ∃ v : Int, u.cell? ⟨w.heap.size, j, none⟩ = some (.int .i64 v)
  zf : ∀ j, j < 6 → u.frozen? ⟨w.heap.size, j, none⟩ = false
theorem frozen_kept {w w1 : World} {b : Nat} (hg : w.grownBy w1 (some b)) (k o : Nat) (hk : k < w.heap.size) (hne : b < k) : w1.frozen? ⟨k, o, none⟩ = w.frozen? ⟨k, o, none⟩ :=
  World.frozen?_of_block (w := w) (hg.block k hk (fun e => by injection e; omega))
theorem cell_kept' {w w1 : World} {b : Nat} (hg : w.grownBy w1 (some b)) (k o : Nat) (hk : k < w.heap.size) (hne : b < k) : w1.cell? ⟨k, o, none⟩ = w.cell? ⟨k, o, none⟩ :=
  World.cell?_of_block (w := w) (hg.block k hk (fun e => by injection e; omega))
theorem IW.step {B : Nat} {w : World} {b C M M' : Nat} {u u' : World} (h : IW B w b C M u) (r : Rd B M' u' b) (g : u.grownBy u' (some b)) : IW B w b C M' u' := by
  have hz := h.zc
  have hb := h.bz
  have hl := h.lt
  refine ⟨r, grown_trans h.gr g, Nat.lt_of_lt_of_le h.lt g.size, hb, hz, fun j hj => ?_, fun j hj => ?_, fun j hj => ?_, fun j hj => ?_⟩
  · rw [cell_kept' g C j hl (by omega)]; exact h.cs j hj
  · rw [frozen_kept g C j hl (by omega)]; exact h.cf j hj
  · rw [cell_kept' g w.heap.size j (by omega) hb]; exact h.zs j hj
  · rw [frozen_kept g w.heap.size j (by omega) hb]; exact h.zf j hj
theorem IW.mono {B : Nat} {w : World} {b C M M' : Nat} {u : World} (h : IW B w b C M u) (hM : M ≤ M') : IW B w b C M' u := h.step (h.rd.mono hM) (grown_refl _ _)
theorem IW.alloc {B : Nat} {w : World} {b C M : Nat} {u : World} (h : IW B w b C M u) (o : Obj) : IW B w b C M (u.alloc o) := h.step (h.rd.alloc o) (World.grownBy_alloc _ _ _)
theorem Rd.setOther {B N b : Nat} {w : World} (h : Rd B N w b) (C j : Nat) (v : Value) (hC : b < C) : Rd B N (w.setCell ⟨C, j, none⟩ v) b := by
  obtain ⟨h1, h2, s, len, cap, p, h3, h4, h5, h6, h7, h8⟩ := h
  have hb : Below C w (w.setCell ⟨C, j, none⟩ v) := Below.setCell (Below.refl _ _) (show C ≤ C from Nat.le_refl _) _
  exact ⟨h1, Nat.lt_of_lt_of_le h2 hb.size, s, len, cap, p, by rw [hb.cell (show b < C from hC)]; exact h3, by rw [hb.cell (show b < C from hC)]; exact h4, by rw [hb.frozen (show b < C from hC)]; exact h5, h6, h7, h8.below (hb.mono (by omega))⟩
theorem IW.store {B : Nat} {w : World} {b C M : Nat} {u : World} (h : IW B w b C M u) (j : Nat) (hj : j < 6) (v : Int) : IW B w b C M (u.setCell ⟨C, j, none⟩ (.int .i64 v)) := by
  have hz := h.zc
  have hb := h.bz
  have hbel : Below C u (u.setCell ⟨C, j, none⟩ (.int .i64 v)) := Below.setCell (Below.refl _ _) (show C ≤ C from Nat.le_refl _) _
  refine ⟨h.rd.setOther C j _ (by omega), ⟨hbel.os.trans h.gr.os, hbel.tape.trans h.gr.tape, hbel.output.trans h.gr.output, Nat.le_trans h.gr.size hbel.size, fun k hk hne => (hbel.block k (by omega)).trans (h.gr.block k hk hne)⟩, Nat.lt_of_lt_of_le h.lt hbel.size, hb, hz, fun i hi => ?_, fun i hi => ?_, fun i hi => ?_, fun i hi => ?_⟩
  · by_cases e : i = j
    · subst e
      obtain ⟨x, hx⟩ := h.cs i hi
      exact ⟨v, by rw [World.cell?_setCell_same _ _ _ hx]⟩
    · obtain ⟨x, hx⟩ := h.cs i hi
      exact ⟨x, by rw [World.cell?_setCell_other _ _ _ _ (by simp; try omega)]; exact hx⟩
  · rw [World.frozen?_setCell]; exact h.cf i hi
  · rw [hbel.cell (show w.heap.size < C by omega)]; exact h.zs i hi
  · rw [hbel.frozen (show w.heap.size < C by omega)]; exact h.zf i hi
/-- A number out of a short row of numbers. -/
theorem rowN {w w1 : World} {b : Nat} {c : Array Value} {t : TypeId} (hb : b < w.heap.size) (hg : (w.alloc (.cells c t)).grownBy w1 (some b)) (p : Int → Prop) (hc : ∀ i, i < c.size → ∃ v : Int, p v ∧ c[i]? = some (.int .i64 v)) (x : Int) (x0 : 0 ≤ x) (x1 : x < c.size) :
    ∃ v : Int, p v ∧ w1.cell? ⟨w.heap.size, x.toNat, none⟩ = some (.int .i64 v) := by
  rw [row_at hb hg]
  exact hc x.toNat (by omega)
theorem all2 (a b : Int) (p : Int → Prop) (ha : p a) (hb : p b) : ∀ i, i < (#[Value.int .i64 a, .int .i64 b]).size → ∃ v : Int, p v ∧ (#[Value.int .i64 a, .int .i64 b])[i]? = some (.int .i64 v) := by
  intro i hi
  simp at hi
  have : i = 0 ∨ i = 1 := by omega
  rcases this with rfl | rfl
  · exact ⟨a, ha, rfl⟩
  · exact ⟨b, hb, rfl⟩
theorem all3 (a b c : Int) (p : Int → Prop) (ha : p a) (hb : p b) (hc : p c) : ∀ i, i < (#[Value.int .i64 a, .int .i64 b, .int .i64 c]).size → ∃ v : Int, p v ∧ (#[Value.int .i64 a, .int .i64 b, .int .i64 c])[i]? = some (.int .i64 v) := by
  intro i hi
  simp at hi
  have : i = 0 ∨ i = 1 ∨ i = 2 := by omega
  rcases this with rfl | rfl | rfl
  · exact ⟨a, ha, rfl⟩
  · exact ⟨b, hb, rfl⟩
  · exact ⟨c, hc, rfl⟩
theorem all4 (a b c d : Int) (p : Int → Prop) (ha : p a) (hb : p b) (hc : p c) (hd : p d) : ∀ i, i < (#[Value.int .i64 a, .int .i64 b, .int .i64 c, .int .i64 d]).size → ∃ v : Int, p v ∧ (#[Value.int .i64 a, .int .i64 b, .int .i64 c, .int .i64 d])[i]? = some (.int .i64 v) := by
  intro i hi
  simp at hi
  have : i = 0 ∨ i = 1 ∨ i = 2 ∨ i = 3 := by omega
  rcases this with rfl | rfl | rfl | rfl
  · exact ⟨a, ha, rfl⟩
  · exact ⟨b, hb, rfl⟩
  · exact ⟨c, hc, rfl⟩
  · exact ⟨d, hd, rfl⟩
def K16 (v : Int) : Prop := 0 ≤ v ∧ v < 16
theorem all16 (x y : Int) (hx : K16 x) (hy : K16 y) : ∀ i, i < (#[Value.int .i64 0, .int .i64 0, .int .i64 1, .int .i64 1, .int .i64 3, .int .i64 3, .int .i64 4, .int .i64 4, .int .i64 5, .int .i64 6, .int .i64 7, .int .i64 8, .int .i64 9, .int .i64 2, .int .i64 x, .int .i64 y]).size → ∃ v : Int, K16 v ∧ (#[Value.int .i64 0, .int .i64 0, .int .i64 1, .int .i64 1, .int .i64 3, .int .i64 3, .int .i64 4, .int .i64 4, .int .i64 5, .int .i64 6, .int .i64 7, .int .i64 8, .int .i64 9, .int .i64 2, .int .i64 x, .int .i64 y])[i]? = some (.int .i64 v) := by
  intro i hi
  simp at hi
  have : i = 0 ∨ i = 1 ∨ i = 2 ∨ i = 3 ∨ i = 4 ∨ i = 5 ∨ i = 6 ∨ i = 7 ∨ i = 8 ∨ i = 9 ∨ i = 10 ∨ i = 11 ∨ i = 12 ∨ i = 13 ∨ i = 14 ∨ i = 15 := by omega
  rcases this with rfl | rfl | rfl | rfl | rfl | rfl | rfl | rfl | rfl | rfl | rfl | rfl | rfl | rfl | rfl | rfl
  · exact ⟨0, ⟨by omega, by omega⟩, rfl⟩
  · exact ⟨0, ⟨by omega, by omega⟩, rfl⟩
  · exact ⟨1, ⟨by omega, by omega⟩, rfl⟩
  · exact ⟨1, ⟨by omega, by omega⟩, rfl⟩
  · exact ⟨3, ⟨by omega, by omega⟩, rfl⟩
  · exact ⟨3, ⟨by omega, by omega⟩, rfl⟩
  · exact ⟨4, ⟨by omega, by omega⟩, rfl⟩
  · exact ⟨4, ⟨by omega, by omega⟩, rfl⟩
  · exact ⟨5, ⟨by omega, by omega⟩, rfl⟩
  · exact ⟨6, ⟨by omega, by omega⟩, rfl⟩
  · exact ⟨7, ⟨by omega, by omega⟩, rfl⟩
  · exact ⟨8, ⟨by omega, by omega⟩, rfl⟩
  · exact ⟨9, ⟨by omega, by omega⟩, rfl⟩
  · exact ⟨2, ⟨by omega, by omega⟩, rfl⟩
  · exact ⟨x, hx, rfl⟩
  · exact ⟨y, hy, rfl⟩

/-- Behind l20Inst: some instruction. -/
def DrewI (B N b : Nat) (w : World) (e : Ending) (w' : World) : Prop :=
  ∃ k d a x f n : Int, e = .returned (.agg #[.int .i64 k, .int .i64 d, .int .i64 a, .int .i64 x, .int .i64 f, .int .i64 n]) ∧ Rd B N w' b ∧ w.grownBy w' (some b)
theorem odd_any (B N b : Nat) (n : Int) (w : World) (h : Rd B N w b) (hN : N ≤ 1000000000) (n0 : 0 ≤ n) (n1 : n ≤ 1000000000) :
    Calls Try.prog 90 #[.pointer (some ⟨b, 0, none⟩), .int .i64 n] w (Odds B (N + 1) b w) := by
  by_cases hn : 1 ≤ n
  · exact odd B N b n w h hN hn n1
  · have e : n = 0 := by omega
    subst e
    have HR := Lib.hid h
    clear h
    go_enter Try.func90, Try.ntmps90
    go_wp2
    go_ret
    exact ⟨_, rfl, HR.out.mono (by omega), grown_refl _ _⟩
theorem iw_start {B N b : Nat} {w u3 : World} {k : Int} {t t0 : TypeId} (r : Rd B N u3 b) (hb : b < w.heap.size) (g : (w.alloc (.cells #[.int .i64 0, .int .i64 0, .int .i64 0, .int .i64 0, .int .i64 0, .int .i64 0] t0)).grownBy u3 (some b)) :
    IW B w b u3.heap.size N (u3.alloc (.cells #[.int .i64 k, .int .i64 0, .int .i64 0, .int .i64 0, .int .i64 0, .int .i64 0] t)) := by
  have hs := g.size
  simp at hs
  have f := Fr.alloc u3 (.cells #[.int .i64 k, .int .i64 0, .int .i64 0, .int .i64 0, .int .i64 0, .int .i64 0] t)
  refine ⟨r.alloc _, grown_trans (grown_trans (World.grownBy_alloc _ _ _) g) (World.grownBy_alloc _ _ _), by simp, hb, by omega, fun j hj => ?_, fun j hj => by simp, fun j hj => ?_, fun j hj => ?_⟩
  · have h : j = 0 ∨ j = 1 ∨ j = 2 ∨ j = 3 ∨ j = 4 ∨ j = 5 := by omega
    rcases h with rfl | rfl | rfl | rfl | rfl | rfl
    · exact ⟨k, by simp⟩
    all_goals exact ⟨0, by simp⟩
  · refine ⟨0, ?_⟩
    rw [f.cell (show w.heap.size < u3.heap.size by omega), cell_kept' g w.heap.size j (by simp) hb]
    have h : j = 0 ∨ j = 1 ∨ j = 2 ∨ j = 3 ∨ j = 4 ∨ j = 5 := by omega
    rcases h with rfl | rfl | rfl | rfl | rfl | rfl <;> simp
  · rw [f.frozen (show w.heap.size < u3.heap.size by omega), frozen_kept g w.heap.size j (by simp) hb]
    simp
theorem grown_set1 {w u : World} {b : Nat} (h : w.grownBy u (some b)) (Z j : Nat) (v : Value) (hZ : w.heap.size ≤ Z) : w.grownBy (u.setCell ⟨Z, j, none⟩ v) (some b) :=
  ⟨h.os, h.tape, h.output, Nat.le_trans h.size (by simp [World.setCell]), fun k hk hne => by rw [Below.heap_setCell _ _ _ _ (by show k ≠ Z; omega)]; exact h.block k hk hne⟩
theorem grown_sets {w u : World} {b Z : Nat} (h : w.grownBy u (some b)) (hZ : w.heap.size ≤ Z) (v0 v1 v2 v3 v4 v5 : Value) : w.grownBy ((((((u.setCell ⟨Z, 0, none⟩ v0).setCell ⟨Z, 1, none⟩ v1).setCell ⟨Z, 2, none⟩ v2).setCell ⟨Z, 3, none⟩ v3).setCell ⟨Z, 4, none⟩ v4).setCell ⟨Z, 5, none⟩ v5) (some b) :=
  grown_set1 (grown_set1 (grown_set1 (grown_set1 (grown_set1 (grown_set1 h _ _ _ hZ) _ _ _ hZ) _ _ _ hZ) _ _ _ hZ) _ _ _ hZ) _ _ _ hZ
set_option maxRecDepth 100000 in
set_option maxHeartbeats 8000000 in
theorem l20Inst (B N b : Nat) (n : Int) (w : World) (h : Rd B N w b) (hM : N ≤ 900000000) (n0 : 0 ≤ n) (n1 : n ≤ 1000) :
    Calls Try.prog 103 #[.pointer (some ⟨b, 0, none⟩), .int .i64 n] w (DrewI B (N + 30) b w) := by
  have hb := h.lt
  go_enter Try.func103, Try.ntmps103
  go_wp2_with fail
  refine (pick B N b _ _ (h.alloc _) (by omega)).mono ?_
  rintro e u1 ⟨x1, x10, x11, rfl, r1, g1⟩
  go_wp2_with fail
  refine (pick B _ b _ _ r1 (by omega)).mono ?_
  rintro e u2 ⟨x2, x20, x21, rfl, r2, g2⟩
  go_wp2_with fail
  refine (pick B _ b _ _ (r2.alloc _) (by omega)).mono ?_
  rintro e u3 ⟨x3, x30, x31, rfl, r3, g3⟩
  obtain ⟨kv, hk, hcell⟩ := rowN r2.lt g3 K16 (all16 x1 x2 ⟨x10, x11 (by omega)⟩ ⟨x20, x21 (by omega)⟩) x3 x30 (x31 (by omega))
  have x32 := x31 (by omega)
  have HK := Lib.hid hk
  have I0 := Lib.hid (iw_start (k := kv) (t := 108) r3 hb (grown_trans g1 (grown_trans g2 (grown_trans (World.grownBy_alloc _ _ _) g3))))
  go_wp2_with fail
  refine (spec_l2Has _ HK.out _).mono ?_
  rintro e w' ⟨rfl, rfl⟩
  generalize hD kv = xd
  generalize hA kv = xa
  generalize hB kv = xb
  generalize hF kv = xf
  generalize hN kv = xn
  go_upto_if 30 with fail
  clear hcell x30 x31 x32 x10 x11 x20 x21 r1 r2 r3 g1 g2 g3 h
  generalize hC : u3.heap.size = C at *
  generalize (u3.alloc (.cells #[.int .i64 kv, .int .i64 0, .int .i64 0, .int .i64 0, .int .i64 0, .int .i64 0] 108)) = u4 at *
  clear hC
  clear u3
  go_cut [33] (fun _ wx => IW B w b C (N + 6) wx)
  case first =>
    cases xd
    · go_wp2_with fail
      go_meet
      exact I0.out.mono (by omega)
    · go_wp2_with fail
      refine (pick B _ b _ _ (I0.out).rd (by omega)).mono ?_
      rintro e u11 ⟨x11, x110, x111, rfl, r11, g11⟩
      have I11 := (I0.out).step r11 g11
      have x112 := x111 (by omega)
      go_wp2_with fail
      refine (pick B _ b _ _ (I11).rd (by omega)).mono ?_
      rintro e u12 ⟨x12, x120, x121, rfl, r12, g12⟩
      have I12 := (I11).step r12 g12
      have x122 := x121 (by omega)
      go_wp2_with fail
      refine (pick B _ b _ _ (I12.alloc _).rd (by omega)).mono ?_
      rintro e u13 ⟨x13, x130, x131, rfl, r13, g13⟩
      have I13 := (I12.alloc _).step r13 g13
      have x132 := x131 (by omega)
      obtain ⟨v13, _, hv13⟩ := rowN (I12).rd.lt g13 (fun _ => True) (all2 _ _ _ trivial trivial) x13 x130 x132
      obtain ⟨cv13, hcv13⟩ := I13.cs 1 (by omega)
      have hcf13 := I13.cf 1 (by omega)
      go_wp2_with fail
      go_meet
      exact (I13.store 1 (by omega) v13).mono (by omega)
  case rest =>
    have J1 := Lib.hid hcut
    clear hcut I0
    go_upto_if 42 with fail
    go_cut [44] (fun _ wx => IW B w b C (N + 9) wx)
    case first =>
      cases xa
      · go_wp2_with fail
        go_meet
        exact J1.out.mono (by omega)
      · go_wp2_with fail
        refine (pick B _ b _ _ (J1.out).rd (by omega)).mono ?_
        rintro e u14 ⟨x14, x140, x141, rfl, r14, g14⟩
        have I14 := (J1.out).step r14 g14
        have x142 := x141 (by omega)
        go_wp2_with fail
        refine (pick B _ b _ _ (I14).rd (by omega)).mono ?_
        rintro e u15 ⟨x15, x150, x151, rfl, r15, g15⟩
        have I15 := (I14).step r15 g15
        have x152 := x151 (by omega)
        go_wp2_with fail
        refine (pick B _ b _ _ (I15.alloc _).rd (by omega)).mono ?_
        rintro e u16 ⟨x16, x160, x161, rfl, r16, g16⟩
        have I16 := (I15.alloc _).step r16 g16
        have x162 := x161 (by omega)
        obtain ⟨v16, _, hv16⟩ := rowN (I15).rd.lt g16 (fun _ => True) (all2 _ _ _ trivial trivial) x16 x160 x162
        obtain ⟨cv16, hcv16⟩ := I16.cs 2 (by omega)
        have hcf16 := I16.cf 2 (by omega)
        go_wp2_with fail
        go_meet
        exact (I16.store 2 (by omega) v16).mono (by omega)
    case rest =>
      have J2 := Lib.hid hcut
      clear hcut J1
      go_upto_if 53 with fail
      go_cut [55] (fun _ wx => IW B w b C (N + 12) wx)
      case first =>
        cases xb
        · go_wp2_with fail
          go_meet
          exact J2.out.mono (by omega)
        · go_wp2_with fail
          refine (pick B _ b _ _ (J2.out).rd (by omega)).mono ?_
          rintro e u17 ⟨x17, x170, x171, rfl, r17, g17⟩
          have I17 := (J2.out).step r17 g17
          have x172 := x171 (by omega)
          go_wp2_with fail
          refine (pick B _ b _ _ (I17).rd (by omega)).mono ?_
          rintro e u18 ⟨x18, x180, x181, rfl, r18, g18⟩
          have I18 := (I17).step r18 g18
          have x182 := x181 (by omega)
          go_wp2_with fail
          refine (pick B _ b _ _ (I18.alloc _).rd (by omega)).mono ?_
          rintro e u19 ⟨x19, x190, x191, rfl, r19, g19⟩
          have I19 := (I18.alloc _).step r19 g19
          have x192 := x191 (by omega)
          obtain ⟨v19, _, hv19⟩ := rowN (I18).rd.lt g19 (fun _ => True) (all2 _ _ _ trivial trivial) x19 x190 x192
          obtain ⟨cv19, hcv19⟩ := I19.cs 3 (by omega)
          have hcf19 := I19.cf 3 (by omega)
          go_wp2_with fail
          go_meet
          exact (I19.store 3 (by omega) v19).mono (by omega)
      case rest =>
        have J3 := Lib.hid hcut
        clear hcut J2
        go_upto_if 64 with fail
        go_cut [66] (fun _ wx => IW B w b C (N + 14) wx)
        case first =>
          cases xf
          · go_wp2_with fail
            go_meet
            exact J3.out.mono (by omega)
          · go_wp2_with fail
            refine (pick B _ b _ _ (J3.out).rd (by omega)).mono ?_
            rintro e u20 ⟨x20, x200, x201, rfl, r20, g20⟩
            have I20 := (J3.out).step r20 g20
            have x202 := x201 (by omega)
            obtain ⟨kk, hkk⟩ := I20.cs 0 (by omega)
            obtain ⟨cv20, hcv20⟩ := I20.cs 4 (by omega)
            have hcf20 := I20.cf 4 (by omega)
            cases e14 : (kk == 14)
            · cases e15 : (kk == 15)
              · go_wp2_with fail
                go_meet
                exact (I20.store 4 (by omega) x20).mono (by omega)
              · go_wp2_with fail
                refine (pick B _ b _ _ ((I20.store 4 (by omega) x20)).rd (by omega)).mono ?_
                rintro e u21 ⟨x21, x210, x211, rfl, r21, g21⟩
                have I21 := ((I20.store 4 (by omega) x20)).step r21 g21
                have x212 := x211 (by omega)
                obtain ⟨cv21, hcv21⟩ := I21.cs 4 (by omega)
                have hcf21 := I21.cf 4 (by omega)
                go_wp2_with fail
                go_meet
                exact (I21.store 4 (by omega) x21).mono (by omega)
            · go_wp2_with fail
              refine (pick B _ b _ _ ((I20.store 4 (by omega) x20)).rd (by omega)).mono ?_
              rintro e u22 ⟨x22, x220, x221, rfl, r22, g22⟩
              have I22 := ((I20.store 4 (by omega) x20)).step r22 g22
              have x222 := x221 (by omega)
              obtain ⟨cv22, hcv22⟩ := I22.cs 4 (by omega)
              have hcf22 := I22.cf 4 (by omega)
              go_wp2_with fail
              go_meet
              exact (I22.store 4 (by omega) x22).mono (by omega)
        case rest =>
          have J4 := Lib.hid hcut
          clear hcut J3
          go_upto_if 80 with fail
          go_cut [82] (fun _ wx => IW B w b C (N + 20) wx)
          case first =>
            by_cases hxn : 0 < xn
            · go_wp2_with fail
              refine (pick B _ b _ _ (J4.out).rd (by omega)).mono ?_
              rintro e u23 ⟨x23, x230, x231, rfl, r23, g23⟩
              have I23 := (J4.out).step r23 g23
              have x232 := x231 (by omega)
              go_wp2_with fail
              refine (pick B _ b _ _ (I23).rd (by omega)).mono ?_
              rintro e u24 ⟨x24, x240, x241, rfl, r24, g24⟩
              have I24 := (I23).step r24 g24
              have x242 := x241 (by omega)
              go_wp2_with fail
              refine (pick B _ b _ _ (I24).rd (by omega)).mono ?_
              rintro e u25 ⟨x25, x250, x251, rfl, r25, g25⟩
              have I25 := (I24).step r25 g25
              have x252 := x251 (by omega)
              go_wp2_with fail
              refine (pick B _ b _ _ (I25.alloc _).rd (by omega)).mono ?_
              rintro e u26 ⟨x26, x260, x261, rfl, r26, g26⟩
              have I26 := (I25.alloc _).step r26 g26
              have x262 := x261 (by omega)
              obtain ⟨v26, _, hv26⟩ := rowN (I25).rd.lt g26 (fun _ => True) (all3 _ _ _ _ trivial trivial trivial) x26 x260 x262
              obtain ⟨cv26, hcv26⟩ := I26.cs 5 (by omega)
              have hcf26 := I26.cf 5 (by omega)
              obtain ⟨kk, hkk⟩ := I26.cs 0 (by omega)
              cases e12 : (kk == 12)
              · have m12 : (kk != 12) = true := by simp [bne, e12]
                cases e2 : (kk == 2)
                · have m2 : (kk != 2) = true := by simp [bne, e2]
                  go_wp2_with fail
                  refine (pick B _ b _ _ ((I26.store 5 (by omega) v26)).rd (by omega)).mono ?_
                  rintro e u27 ⟨x27, x270, x271, rfl, r27, g27⟩
                  have I27 := ((I26.store 5 (by omega) v26)).step r27 g27
                  have x272 := x271 (by omega)
                  cases e0 : (x27 == 0)
                  · go_wp2_with fail
                    go_meet
                    exact I27.mono (by omega)
                  · go_wp2_with fail
                    refine (pick B _ b _ _ (I27).rd (by omega)).mono ?_
                    rintro e u28 ⟨x28, x280, x281, rfl, r28, g28⟩
                    have I28 := (I27).step r28 g28
                    have x282 := x281 (by omega)
                    obtain ⟨cv28, hcv28⟩ := I28.cs 5 (by omega)
                    have hcf28 := I28.cf 5 (by omega)
                    go_wp2_with fail
                    go_meet
                    exact (I28.store 5 (by omega) _).mono (by omega)
                · have m2 : (kk != 2) = false := by simp [bne, e2]
                  go_wp2_with fail
                  go_meet
                  exact (I26.store 5 (by omega) v26).mono (by omega)
              · have m12 : (kk != 12) = false := by simp [bne, e12]
                go_wp2_with fail
                go_meet
                exact (I26.store 5 (by omega) v26).mono (by omega)
            · go_wp2_with fail
              go_meet
              exact J4.out.mono (by omega)
          case rest =>
            have J5 := Lib.hid hcut
            clear hcut J4
            go_wp2_with fail
            refine (odd_any B _ b n _ J5.out.rd (by omega) n0 (by omega)).mono ?_
            rintro e u6 ⟨v6, rfl, r6, g6⟩
            have J6 := J5.out.step r6 g6
            clear r6 g6 J5
            go_upto_if 112 with fail
            go_cut [113] (fun _ wx => IW B w b C (N + 30) wx)
            case first =>
              cases v6
              · go_wp2_with fail
                go_meet
                exact J6.mono (by omega)
              · go_wp2_with fail
                refine (pick B _ b _ _ (J6).rd (by omega)).mono ?_
                rintro e u29 ⟨x29, x290, x291, rfl, r29, g29⟩
                have I29 := (J6).step r29 g29
                have x292 := x291 (by omega)
                have h5 : x29 = 0 ∨ x29 = 1 ∨ x29 = 2 ∨ x29 = 3 ∨ x29 = 4 := by omega
                clear x290 x291 x292
                rcases h5 with rfl | rfl | rfl | rfl | rfl
                · go_wp2_with fail
                  refine (pick B _ b _ _ (I29.alloc _).rd (by omega)).mono ?_
                  rintro e u30 ⟨x30, x300, x301, rfl, r30, g30⟩
                  have I30 := (I29.alloc _).step r30 g30
                  have x302 := x301 (by omega)
                  obtain ⟨v30, _, hv30⟩ := rowN (I29).rd.lt g30 (fun _ => True) (all2 _ _ _ trivial trivial) x30 x300 x302
                  obtain ⟨cv30, hcv30⟩ := I30.cs 0 (by omega)
                  have hcf30 := I30.cf 0 (by omega)
                  go_wp2_with fail
                  go_meet
                  exact (I30.store 0 (by omega) v30).mono (by omega)
                · go_wp2_with fail
                  refine (pick B _ b _ _ (I29.alloc _).rd (by omega)).mono ?_
                  rintro e u31 ⟨x31, x310, x311, rfl, r31, g31⟩
                  have I31 := (I29.alloc _).step r31 g31
                  have x312 := x311 (by omega)
                  obtain ⟨v31, _, hv31⟩ := rowN (I29).rd.lt g31 (fun _ => True) (all3 _ _ _ _ trivial trivial trivial) x31 x310 x312
                  obtain ⟨cv31, hcv31⟩ := I31.cs 1 (by omega)
                  have hcf31 := I31.cf 1 (by omega)
                  go_wp2_with fail
                  go_meet
                  exact (I31.store 1 (by omega) v31).mono (by omega)
                · go_wp2_with fail
                  refine (pick B _ b _ _ (I29.alloc _).rd (by omega)).mono ?_
                  rintro e u32 ⟨x32, x320, x321, rfl, r32, g32⟩
                  have I32 := (I29.alloc _).step r32 g32
                  have x322 := x321 (by omega)
                  obtain ⟨v32, _, hv32⟩ := rowN (I29).rd.lt g32 (fun _ => True) (all3 _ _ _ _ trivial trivial trivial) x32 x320 x322
                  obtain ⟨cv32, hcv32⟩ := I32.cs 3 (by omega)
                  have hcf32 := I32.cf 3 (by omega)
                  go_wp2_with fail
                  go_meet
                  exact (I32.store 3 (by omega) v32).mono (by omega)
                · go_wp2_with fail
                  refine (pick B _ b _ _ (I29.alloc _).rd (by omega)).mono ?_
                  rintro e u33 ⟨x33, x330, x331, rfl, r33, g33⟩
                  have I33 := (I29.alloc _).step r33 g33
                  have x332 := x331 (by omega)
                  obtain ⟨v33, _, hv33⟩ := rowN (I29).rd.lt g33 (fun _ => True) (all3 _ _ _ _ trivial trivial trivial) x33 x330 x332
                  obtain ⟨cv33, hcv33⟩ := I33.cs 4 (by omega)
                  have hcf33 := I33.cf 4 (by omega)
                  go_wp2_with fail
                  go_meet
                  exact (I33.store 4 (by omega) v33).mono (by omega)
                · go_wp2_with fail
                  refine (pick B _ b _ _ (I29.alloc _).rd (by omega)).mono ?_
                  rintro e u34 ⟨x34, x340, x341, rfl, r34, g34⟩
                  have I34 := (I29.alloc _).step r34 g34
                  have x342 := x341 (by omega)
                  obtain ⟨v34, _, hv34⟩ := rowN (I29).rd.lt g34 (fun _ => True) (all4 _ _ _ _ _ trivial trivial trivial trivial) x34 x340 x342
                  obtain ⟨cv34, hcv34⟩ := I34.cs 5 (by omega)
                  have hcf34 := I34.cf 5 (by omega)
                  go_wp2_with fail
                  go_meet
                  exact (I34.store 5 (by omega) v34).mono (by omega)
            case rest =>
              obtain ⟨k0, h0⟩ := hcut.cs 0 (by omega)
              obtain ⟨k1, h1⟩ := hcut.cs 1 (by omega)
              obtain ⟨k2, h2⟩ := hcut.cs 2 (by omega)
              obtain ⟨k3, h3⟩ := hcut.cs 3 (by omega)
              obtain ⟨k4, h4⟩ := hcut.cs 4 (by omega)
              obtain ⟨k5, h5⟩ := hcut.cs 5 (by omega)
              obtain ⟨z0, e0⟩ := hcut.zs 0 (by omega)
              obtain ⟨z1, e1⟩ := hcut.zs 1 (by omega)
              obtain ⟨z2, e2⟩ := hcut.zs 2 (by omega)
              obtain ⟨z3, e3⟩ := hcut.zs 3 (by omega)
              obtain ⟨z4, e4⟩ := hcut.zs 4 (by omega)
              obtain ⟨z5, e5⟩ := hcut.zs 5 (by omega)
              have f0 := hcut.zf 0 (by omega)
              have f1 := hcut.zf 1 (by omega)
              have f2 := hcut.zf 2 (by omega)
              have f3 := hcut.zf 3 (by omega)
              have f4 := hcut.zf 4 (by omega)
              have f5 := hcut.zf 5 (by omega)
              have hne : ¬ C = w.heap.size := by have := hcut.zc; omega
              have hne' : ¬ w.heap.size = C := by have := hcut.zc; omega
              have HC := Lib.hid hcut
              clear hcut
              go_wp2
              refine bodyPost_ret (v := .agg #[.int .i64 k0, .int .i64 k1, .int .i64 k2, .int .i64 k3, .int .i64 k4, .int .i64 k5]) (by simp [results, Try.results103, go_sem, e0, e1, e2, e3, e4, e5]) rfl ⟨k0, k1, k2, k3, k4, k5, rfl, ?_, ?_⟩
              · exact ((((((HC.out.rd.setOther _ _ _ hb).setOther _ _ _ hb).setOther _ _ _ hb).setOther _ _ _ hb).setOther _ _ _ hb).setOther _ _ _ hb)
              · exact grown_sets HC.out.gr (by omega) _ _ _ _ _ _
end Go.Proofs.Ytoacgjjpipdkjaa
