/- l20Inst with n = 0: an instruction that is ok; the reader has read on; nothing else has turned. -/
import Derived.Test.YtoacgjjpipdkjaaDrawT
import Derived.Test.YtoacgjjpipdkjaaCodSd
namespace Go.Proofs.Ytoacgjjpipdkjaa
open Go.RowKit
set_option linter.unusedVariables false
/-- What each cell of an instruction of kind k may hold. -/
def Qi (k : Int) : Nat → Int → Prop
  | 0, v => v = k
  | 1, v => regOk (hD k) v = true
  | 2, v => regOk (hA k) v = true
  | 3, v => regOk (hB k) v = true
  | 4, v => 0 ≤ v ∧ v ≤ topF k
  | _, v => numOk k v = true
/-- .. with its function not yet decided. -/
def Qf (k : Int) (j : Nat) (v : Int) : Prop := j = 4 ∨ Qi k j v
theorem Qf_out (k : Int) : ∀ i x, ¬ i = 4 → Qf k i x → Qi k i x := fun i x h q => q.resolve_left h
def R8 (v : Int) : Prop := 0 ≤ v ∧ v ≤ 7
def R32 (v : Int) : Prop := 0 ≤ v ∧ v ≤ 31
theorem regOk0 (h : Bool) : regOk h 0 = true := by simp [regOk]
theorem regOkT {h : Bool} (e : h = true) {v : Int} (q : R8 v) : regOk h v = true := by
  obtain ⟨a, b⟩ := q
  simp [regOk, e]
  omega
theorem topF0 (k : Int) (h : K16 k) : 0 ≤ (0 : Int) ∧ (0 : Int) ≤ topF k := by
  refine ⟨by omega, ?_⟩
  rcases kinds h with rfl | rfl | rfl | rfl | rfl | rfl | rfl | rfl | rfl | rfl | rfl | rfl | rfl | rfl | rfl | rfl <;> decide
theorem num0 (k : Int) (h : K16 k) : numOk k 0 = true := by
  rcases kinds h with rfl | rfl | rfl | rfl | rfl | rfl | rfl | rfl | rfl | rfl | rfl | rfl | rfl | rfl | rfl | rfl <;> decide
theorem topFa {k : Int} (h : hF k = true) (e14 : (k == 14) = false) (e15 : (k == 15) = false) {v : Int} (v0 : 0 ≤ v) (v1 : v < 8) : 0 ≤ v ∧ v ≤ topF k := by
  have : k = 0 := by simp [hF, e14, e15] at h; exact h
  subst this
  exact ⟨v0, by simp [topF]; omega⟩
theorem topFb {k : Int} (h : (k == 14) = true ∨ (k == 15) = true) {v : Int} (v0 : 0 ≤ v) (v1 : v < 5) : 0 ≤ v ∧ v ≤ topF k := by
  have e : topF k = 4 := by simp at h; simp [topF, h]
  rw [e]
  omega
theorem numPos {k : Int} (h : K16 k) {xn : Int} (e : hN k = xn) (hx : 0 < xn) {v : Int} (q : R32 v) : numOk k v = true := by
  obtain ⟨a, b⟩ := q
  subst e
  rcases kinds h with rfl | rfl | rfl | rfl | rfl | rfl | rfl | rfl | rfl | rfl | rfl | rfl | rfl | rfl | rfl | rfl <;> simp [numOk, hN] at hx ⊢ <;> omega
theorem numNeg {k : Int} (h : K16 k) {xn : Int} (e : hN k = xn) (hx : 0 < xn) (e12 : (k == 12) = false) (e2 : (k == 2) = false) {v : Int} (q : -32 ≤ v ∧ v ≤ 31) : numOk k v = true := by
  obtain ⟨a, b⟩ := q
  subst e
  rcases kinds h with rfl | rfl | rfl | rfl | rfl | rfl | rfl | rfl | rfl | rfl | rfl | rfl | rfl | rfl | rfl | rfl <;> simp [numOk, hN] at hx e12 e2 ⊢ <;> omega
theorem qi_ok {kv k d a b f n : Int} (h : K16 kv) (q0 : Qi kv 0 k) (q1 : Qi kv 1 d) (q2 : Qi kv 2 a) (q3 : Qi kv 3 b) (q4 : Qi kv 4 f) (q5 : Qi kv 5 n) : iok k d a b f n = true := by
  obtain rfl : kv = k := q0.symm
  rw [← sok_eq]
  simp only [Qi] at q1 q2 q3 q4 q5
  have h' : 0 ≤ kv ∧ kv ≤ 15 := ⟨h.1, by have := h.2; omega⟩
  simp only [sok, q1, q2, q3, q5, Bool.true_and, Bool.and_true, Bool.and_eq_true, decide_eq_true_eq]
  exact ⟨h', q4⟩
/-- Behind l20Inst with n = 0: an instruction that is ok. -/
def DrewV (B N b : Nat) (w : World) (e : Ending) (w' : World) : Prop :=
  ∃ k d a x f n : Int, iok k d a x f n = true ∧ e = .returned (.agg #[.int .i64 k, .int .i64 d, .int .i64 a, .int .i64 x, .int .i64 f, .int .i64 n]) ∧ Rd B N w' b ∧ w.grownBy w' (some b)
/-- Within l20Inst: the reader in block b; the instruction in block C; the result in the block that was next when the call began. -/
structure IV (Q : Nat → Int → Prop) (B : Nat) (w : World) (b C M : Nat) (u : World) : Prop where
  rd : Rd B M u b
  gr : w.grownBy u (some b)
  lt : C < u.heap.size
  bz : b < w.heap.size
  zc : w.heap.size < C
  cs : ∀ j, j < 6 → ∃ v : Int, Q j v ∧ u.cell? ⟨C, j, none⟩ = some (.int .i64 v)
  cf : ∀ j, j < 6 → u.frozen? ⟨C, j, none⟩ = false
  zs : ∀ j, j < 6 → ∃ v : Int, u.cell? ⟨w.heap.size, j, none⟩ = some (.int .i64 v)
  zf : ∀ j, j < 6 → u.frozen? ⟨w.heap.size, j, none⟩ = false
theorem IV.step {Q : Nat → Int → Prop} {B : Nat} {w : World} {b C M M' : Nat} {u u' : World} (h : IV Q B w b C M u) (r : Rd B M' u' b) (g : u.grownBy u' (some b)) : IV Q B w b C M' u' := by
  have hz := h.zc
  have hb := h.bz
  have hl := h.lt
  refine ⟨r, grown_trans h.gr g, Nat.lt_of_lt_of_le h.lt g.size, hb, hz, fun j hj => ?_, fun j hj => ?_, fun j hj => ?_, fun j hj => ?_⟩
  · rw [cell_kept' g C j hl (by omega)]; exact h.cs j hj
  · rw [frozen_kept g C j hl (by omega)]; exact h.cf j hj
  · rw [cell_kept' g w.heap.size j (by omega) hb]; exact h.zs j hj
  · rw [frozen_kept g w.heap.size j (by omega) hb]; exact h.zf j hj
theorem IV.mono {Q : Nat → Int → Prop} {B : Nat} {w : World} {b C M M' : Nat} {u : World} (h : IV Q B w b C M u) (hM : M ≤ M') : IV Q B w b C M' u := h.step (h.rd.mono hM) (grown_refl _ _)
theorem IV.alloc {Q : Nat → Int → Prop} {B : Nat} {w : World} {b C M : Nat} {u : World} (h : IV Q B w b C M u) (o : Obj) : IV Q B w b C M (u.alloc o) := h.step (h.rd.alloc o) (World.grownBy_alloc _ _ _)
theorem IV.store {Q Q2 : Nat → Int → Prop} {B : Nat} {w : World} {b C M : Nat} {u : World} (h : IV Q B w b C M u) (j : Nat) (hj : j < 6) (v : Int) (hq : ∀ i x, ¬ i = j → Q i x → Q2 i x) (hv : Q2 j v) : IV Q2 B w b C M (u.setCell ⟨C, j, none⟩ (.int .i64 v)) := by
  have hz := h.zc
  have hb := h.bz
  have hbel : Below C u (u.setCell ⟨C, j, none⟩ (.int .i64 v)) := Below.setCell (Below.refl _ _) (show C ≤ C from Nat.le_refl _) _
  refine ⟨h.rd.setOther C j _ (by omega), ⟨hbel.os.trans h.gr.os, hbel.tape.trans h.gr.tape, hbel.output.trans h.gr.output, Nat.le_trans h.gr.size hbel.size, fun k hk hne => (hbel.block k (by omega)).trans (h.gr.block k hk hne)⟩, Nat.lt_of_lt_of_le h.lt hbel.size, hb, hz, fun i hi => ?_, fun i hi => ?_, fun i hi => ?_, fun i hi => ?_⟩
  · by_cases e : i = j
    · subst e
      obtain ⟨x, _, hx⟩ := h.cs i hi
      exact ⟨v, hv, by rw [World.cell?_setCell_same _ _ _ hx]⟩
    · obtain ⟨x, hqx, hx⟩ := h.cs i hi
      exact ⟨x, hq i x e hqx, by rw [World.cell?_setCell_other _ _ _ _ (by simp; try omega)]; exact hx⟩
  · rw [World.frozen?_setCell]; exact h.cf i hi
  · rw [hbel.cell (show w.heap.size < C by omega)]; exact h.zs i hi
  · rw [hbel.frozen (show w.heap.size < C by omega)]; exact h.zf i hi
theorem iv_start {B N b : Nat} {w u3 : World} {k : Int} {t t0 : TypeId} (hk : K16 k) (r : Rd B N u3 b) (hb : b < w.heap.size) (g : (w.alloc (.cells #[.int .i64 0, .int .i64 0, .int .i64 0, .int .i64 0, .int .i64 0, .int .i64 0] t0)).grownBy u3 (some b)) :
    IV (Qi k) B w b u3.heap.size N (u3.alloc (.cells #[.int .i64 k, .int .i64 0, .int .i64 0, .int .i64 0, .int .i64 0, .int .i64 0] t)) := by
  have hs := g.size
  simp at hs
  have f := Fr.alloc u3 (.cells #[.int .i64 k, .int .i64 0, .int .i64 0, .int .i64 0, .int .i64 0, .int .i64 0] t)
  refine ⟨r.alloc _, grown_trans (grown_trans (World.grownBy_alloc _ _ _) g) (World.grownBy_alloc _ _ _), by simp, hb, by omega, fun j hj => ?_, fun j hj => by simp, fun j hj => ?_, fun j hj => ?_⟩
  · have h : j = 0 ∨ j = 1 ∨ j = 2 ∨ j = 3 ∨ j = 4 ∨ j = 5 := by omega
    rcases h with rfl | rfl | rfl | rfl | rfl | rfl
    · exact ⟨k, rfl, by simp⟩
    · exact ⟨0, regOk0 _, by simp⟩
    · exact ⟨0, regOk0 _, by simp⟩
    · exact ⟨0, regOk0 _, by simp⟩
    · exact ⟨0, topF0 _ hk, by simp⟩
    · exact ⟨0, num0 _ hk, by simp⟩
  · refine ⟨0, ?_⟩
    rw [f.cell (show w.heap.size < u3.heap.size by omega), cell_kept' g w.heap.size j (by simp) hb]
    have h : j = 0 ∨ j = 1 ∨ j = 2 ∨ j = 3 ∨ j = 4 ∨ j = 5 := by omega
    rcases h with rfl | rfl | rfl | rfl | rfl | rfl <;> simp
  · rw [f.frozen (show w.heap.size < u3.heap.size by omega), frozen_kept g w.heap.size j (by simp) hb]
    simp
set_option maxRecDepth 100000 in
set_option maxHeartbeats 8000000 in
theorem l20Inst0 (B N b : Nat) (w : World) (h : Rd B N w b) (hM : N ≤ 900000000) :
    Calls Try.prog 103 #[.pointer (some ⟨b, 0, none⟩), .int .i64 0] w (DrewV B (N + 20) b w) := by
  have hb := h.lt
  go_enter Try.func103, Try.ntmps103
  go_wp2_with fail
  refine (pick B N b _ _ (h.alloc _) (by omega)).mono ?_
  rintro e u1 ⟨x1, x10, x11, rfl, r1, g1⟩
  go_wp2_with fail
  refine (pick B _ b _ _ r1 (by omega)).mono ?_
  rintro e u2 ⟨x2, x20, x21, rfl, r2, g2⟩
  go_wp2_with fail
  refine (pick B _ b _ _ (r2.alloc _) (by omega)).mono ?_
  rintro e u3 ⟨x3, x30, x31, rfl, r3, g3⟩
  obtain ⟨kv, hk, hcell⟩ := rowN r2.lt g3 K16 (all16 x1 x2 ⟨x10, x11 (by omega)⟩ ⟨x20, x21 (by omega)⟩) x3 x30 (x31 (by omega))
  have x32 := x31 (by omega)
  have HK := Lib.hid hk
  have I0 := Lib.hid (iv_start (k := kv) (t := 108) hk r3 hb (grown_trans g1 (grown_trans g2 (grown_trans (World.grownBy_alloc _ _ _) g3))))
  go_wp2_with fail
  refine (spec_l2Has _ HK.out _).mono ?_
  rintro e w' ⟨rfl, rfl⟩
  generalize hxd : hD kv = xd
  have Xd := Lib.hid hxd
  clear hxd
  generalize hxa : hA kv = xa
  have Xa := Lib.hid hxa
  clear hxa
  generalize hxb : hB kv = xb
  have Xb := Lib.hid hxb
  clear hxb
  generalize hxf : hF kv = xf
  have Xf := Lib.hid hxf
  clear hxf
  generalize hxn : hN kv = xn
  have Xn := Lib.hid hxn
  clear hxn
  go_upto_if 30 with fail
  clear hcell x30 x31 x32 x10 x11 x20 x21 r1 r2 r3 g1 g2 g3 h
  generalize hC : u3.heap.size = C at *
  generalize (u3.alloc (.cells #[.int .i64 kv, .int .i64 0, .int .i64 0, .int .i64 0, .int .i64 0, .int .i64 0] 108)) = u4 at *
  clear hC
  clear u3
  go_cut [33] (fun _ wx => IV (Qi kv) B w b C (N + 6) wx)
  case first =>
    cases xd
    · go_wp2_with fail
      go_meet
      exact I0.out.mono (by omega)
    · go_wp2_with fail
      refine (pick B _ b _ _ (I0.out).rd (by omega)).mono ?_
      rintro e u11 ⟨x11, x110, x111, rfl, r11, g11⟩
      have I11 := (I0.out).step r11 g11
      have x112 := x111 (by omega)
      go_wp2_with fail
      refine (pick B _ b _ _ (I11).rd (by omega)).mono ?_
      rintro e u12 ⟨x12, x120, x121, rfl, r12, g12⟩
      have I12 := (I11).step r12 g12
      have x122 := x121 (by omega)
      go_wp2_with fail
      refine (pick B _ b _ _ (I12.alloc _).rd (by omega)).mono ?_
      rintro e u13 ⟨x13, x130, x131, rfl, r13, g13⟩
      have I13 := (I12.alloc _).step r13 g13
      have x132 := x131 (by omega)
      obtain ⟨v13, hq13, hv13⟩ := rowN (I12).rd.lt g13 R8 (all2 _ _ _ ⟨by omega, by omega⟩ ⟨by omega, by omega⟩) x13 x130 x132
      obtain ⟨cv13, _, hcv13⟩ := I13.cs 1 (by omega)
      have hcf13 := I13.cf 1 (by omega)
      go_wp2_with fail
      go_meet
      exact (I13.store 1 (by omega) v13 (fun _ _ _ q => q) (regOkT Xd.out hq13)).mono (by omega)
  case rest =>
    have J1 := Lib.hid hcut
    clear hcut I0
    go_upto_if 42 with fail
    go_cut [44] (fun _ wx => IV (Qi kv) B w b C (N + 9) wx)
    case first =>
      cases xa
      · go_wp2_with fail
        go_meet
        exact J1.out.mono (by omega)
      · go_wp2_with fail
        refine (pick B _ b _ _ (J1.out).rd (by omega)).mono ?_
        rintro e u14 ⟨x14, x140, x141, rfl, r14, g14⟩
        have I14 := (J1.out).step r14 g14
        have x142 := x141 (by omega)
        go_wp2_with fail
        refine (pick B _ b _ _ (I14).rd (by omega)).mono ?_
        rintro e u15 ⟨x15, x150, x151, rfl, r15, g15⟩
        have I15 := (I14).step r15 g15
        have x152 := x151 (by omega)
        go_wp2_with fail
        refine (pick B _ b _ _ (I15.alloc _).rd (by omega)).mono ?_
        rintro e u16 ⟨x16, x160, x161, rfl, r16, g16⟩
        have I16 := (I15.alloc _).step r16 g16
        have x162 := x161 (by omega)
        obtain ⟨v16, hq16, hv16⟩ := rowN (I15).rd.lt g16 R8 (all2 _ _ _ ⟨by omega, by omega⟩ ⟨by omega, by omega⟩) x16 x160 x162
        obtain ⟨cv16, _, hcv16⟩ := I16.cs 2 (by omega)
        have hcf16 := I16.cf 2 (by omega)
        go_wp2_with fail
        go_meet
        exact (I16.store 2 (by omega) v16 (fun _ _ _ q => q) (regOkT Xa.out hq16)).mono (by omega)
    case rest =>
      have J2 := Lib.hid hcut
      clear hcut J1
      go_upto_if 53 with fail
      go_cut [55] (fun _ wx => IV (Qi kv) B w b C (N + 12) wx)
      case first =>
        cases xb
        · go_wp2_with fail
          go_meet
          exact J2.out.mono (by omega)
        · go_wp2_with fail
          refine (pick B _ b _ _ (J2.out).rd (by omega)).mono ?_
          rintro e u17 ⟨x17, x170, x171, rfl, r17, g17⟩
          have I17 := (J2.out).step r17 g17
          have x172 := x171 (by omega)
          go_wp2_with fail
          refine (pick B _ b _ _ (I17).rd (by omega)).mono ?_
          rintro e u18 ⟨x18, x180, x181, rfl, r18, g18⟩
          have I18 := (I17).step r18 g18
          have x182 := x181 (by omega)
          go_wp2_with fail
          refine (pick B _ b _ _ (I18.alloc _).rd (by omega)).mono ?_
          rintro e u19 ⟨x19, x190, x191, rfl, r19, g19⟩
          have I19 := (I18.alloc _).step r19 g19
          have x192 := x191 (by omega)
          obtain ⟨v19, hq19, hv19⟩ := rowN (I18).rd.lt g19 R8 (all2 _ _ _ ⟨by omega, by omega⟩ ⟨by omega, by omega⟩) x19 x190 x192
          obtain ⟨cv19, _, hcv19⟩ := I19.cs 3 (by omega)
          have hcf19 := I19.cf 3 (by omega)
          go_wp2_with fail
          go_meet
          exact (I19.store 3 (by omega) v19 (fun _ _ _ q => q) (regOkT Xb.out hq19)).mono (by omega)
      case rest =>
        have J3 := Lib.hid hcut
        clear hcut J2
        go_upto_if 64 with fail
        go_cut [66] (fun _ wx => IV (Qi kv) B w b C (N + 14) wx)
        case first =>
          cases xf
          · go_wp2_with fail
            go_meet
            exact J3.out.mono (by omega)
          · go_wp2_with fail
            refine (pick B _ b _ _ (J3.out).rd (by omega)).mono ?_
            rintro e u20 ⟨x20, x200, x201, rfl, r20, g20⟩
            have I20 := (J3.out).step r20 g20
            have x202 := x201 (by omega)
            obtain ⟨kk, hkq, hkk⟩ := I20.cs 0 (by omega)
            obtain rfl : kv = kk := hkq.symm
            obtain ⟨cv20, _, hcv20⟩ := I20.cs 4 (by omega)
            have hcf20 := I20.cf 4 (by omega)
            cases e14 : (kv == 14)
            · cases e15 : (kv == 15)
              · go_wp2_with fail
                go_meet
                exact (I20.store 4 (by omega) x20 (fun _ _ _ q => q) (topFa Xf.out e14 e15 x200 x202)).mono (by omega)
              · go_wp2_with fail
                refine (pick B _ b _ _ (I20.store (Q2 := Qf kv) 4 (by omega) x20 (fun _ _ _ q => .inr q) (.inl rfl)).rd (by omega)).mono ?_
                rintro e u21 ⟨x21, x210, x211, rfl, r21, g21⟩
                have I21 := (I20.store (Q2 := Qf kv) 4 (by omega) x20 (fun _ _ _ q => .inr q) (.inl rfl)).step r21 g21
                have x212 := x211 (by omega)
                obtain ⟨cv21, _, hcv21⟩ := I21.cs 4 (by omega)
                have hcf21 := I21.cf 4 (by omega)
                go_wp2_with fail
                go_meet
                exact (I21.store (Q2 := Qi kv) 4 (by omega) x21 (Qf_out kv) (topFb (.inr e15) x210 x212)).mono (by omega)
            · go_wp2_with fail
              refine (pick B _ b _ _ (I20.store (Q2 := Qf kv) 4 (by omega) x20 (fun _ _ _ q => .inr q) (.inl rfl)).rd (by omega)).mono ?_
              rintro e u22 ⟨x22, x220, x221, rfl, r22, g22⟩
              have I22 := (I20.store (Q2 := Qf kv) 4 (by omega) x20 (fun _ _ _ q => .inr q) (.inl rfl)).step r22 g22
              have x222 := x221 (by omega)
              obtain ⟨cv22, _, hcv22⟩ := I22.cs 4 (by omega)
              have hcf22 := I22.cf 4 (by omega)
              go_wp2_with fail
              go_meet
              exact (I22.store (Q2 := Qi kv) 4 (by omega) x22 (Qf_out kv) (topFb (.inl e14) x220 x222)).mono (by omega)
        case rest =>
          have J4 := Lib.hid hcut
          clear hcut J3
          go_upto_if 80 with fail
          go_cut [82] (fun _ wx => IV (Qi kv) B w b C (N + 20) wx)
          case first =>
            by_cases hxn : 0 < xn
            · go_wp2_with fail
              refine (pick B _ b _ _ (J4.out).rd (by omega)).mono ?_
              rintro e u23 ⟨x23, x230, x231, rfl, r23, g23⟩
              have I23 := (J4.out).step r23 g23
              have x232 := x231 (by omega)
              go_wp2_with fail
              refine (pick B _ b _ _ (I23).rd (by omega)).mono ?_
              rintro e u24 ⟨x24, x240, x241, rfl, r24, g24⟩
              have I24 := (I23).step r24 g24
              have x242 := x241 (by omega)
              go_wp2_with fail
              refine (pick B _ b _ _ (I24).rd (by omega)).mono ?_
              rintro e u25 ⟨x25, x250, x251, rfl, r25, g25⟩
              have I25 := (I24).step r25 g25
              have x252 := x251 (by omega)
              go_wp2_with fail
              refine (pick B _ b _ _ (I25.alloc _).rd (by omega)).mono ?_
              rintro e u26 ⟨x26, x260, x261, rfl, r26, g26⟩
              have I26 := (I25.alloc _).step r26 g26
              have x262 := x261 (by omega)
              obtain ⟨v26, hq26, hv26⟩ := rowN (I25).rd.lt g26 R32 (all3 _ _ _ _ ⟨by omega, by omega⟩ ⟨by omega, by omega⟩ ⟨by omega, by omega⟩) x26 x260 x262
              obtain ⟨cv26, _, hcv26⟩ := I26.cs 5 (by omega)
              have hcf26 := I26.cf 5 (by omega)
              obtain ⟨kk, hkq, hkk⟩ := I26.cs 0 (by omega)
              obtain rfl : kv = kk := hkq.symm
              cases e12 : (kv == 12)
              · have m12 : (kv != 12) = true := by simp [bne, e12]
                cases e2 : (kv == 2)
                · have m2 : (kv != 2) = true := by simp [bne, e2]
                  go_wp2_with fail
                  refine (pick B _ b _ _ ((I26.store (Q2 := Qi kv) 5 (by omega) v26 (fun _ _ _ q => q) (numPos HK.out Xn.out hxn hq26))).rd (by omega)).mono ?_
                  rintro e u27 ⟨x27, x270, x271, rfl, r27, g27⟩
                  have I27 := ((I26.store (Q2 := Qi kv) 5 (by omega) v26 (fun _ _ _ q => q) (numPos HK.out Xn.out hxn hq26))).step r27 g27
                  have x272 := x271 (by omega)
                  cases e0 : (x27 == 0)
                  · go_wp2_with fail
                    go_meet
                    exact I27.mono (by omega)
                  · go_wp2_with fail
                    refine (pick B _ b _ _ (I27).rd (by omega)).mono ?_
                    rintro e u28 ⟨x28, x280, x281, rfl, r28, g28⟩
                    have I28 := (I27).step r28 g28
                    have x282 := x281 (by omega)
                    obtain ⟨cv28, _, hcv28⟩ := I28.cs 5 (by omega)
                    have hcf28 := I28.cf 5 (by omega)
                    go_wp2_with fail
                    go_meet
                    exact (I28.store (Q2 := Qi kv) 5 (by omega) _ (fun _ _ _ q => q) (numNeg HK.out Xn.out hxn e12 e2 ⟨by omega, by omega⟩)).mono (by omega)
                · have m2 : (kv != 2) = false := by simp [bne, e2]
                  go_wp2_with fail
                  go_meet
                  exact (I26.store (Q2 := Qi kv) 5 (by omega) v26 (fun _ _ _ q => q) (numPos HK.out Xn.out hxn hq26)).mono (by omega)
              · have m12 : (kv != 12) = false := by simp [bne, e12]
                go_wp2_with fail
                go_meet
                exact (I26.store (Q2 := Qi kv) 5 (by omega) v26 (fun _ _ _ q => q) (numPos HK.out Xn.out hxn hq26)).mono (by omega)
            · go_wp2_with fail
              go_meet
              exact J4.out.mono (by omega)
          case rest =>
            have J5 := Lib.hid hcut
            clear hcut J4
            go_wp2_with fail
            refine (odd0 b _).mono ?_
            rintro e u6 ⟨rfl, rfl⟩
            have hcut := J5.out
            clear J5
            skip
            obtain ⟨k0, q0, h0⟩ := hcut.cs 0 (by omega)
            obtain ⟨k1, q1, h1⟩ := hcut.cs 1 (by omega)
            obtain ⟨k2, q2, h2⟩ := hcut.cs 2 (by omega)
            obtain ⟨k3, q3, h3⟩ := hcut.cs 3 (by omega)
            obtain ⟨k4, q4, h4⟩ := hcut.cs 4 (by omega)
            obtain ⟨k5, q5, h5⟩ := hcut.cs 5 (by omega)
            obtain ⟨z0, e0⟩ := hcut.zs 0 (by omega)
            obtain ⟨z1, e1⟩ := hcut.zs 1 (by omega)
            obtain ⟨z2, e2⟩ := hcut.zs 2 (by omega)
            obtain ⟨z3, e3⟩ := hcut.zs 3 (by omega)
            obtain ⟨z4, e4⟩ := hcut.zs 4 (by omega)
            obtain ⟨z5, e5⟩ := hcut.zs 5 (by omega)
            have f0 := hcut.zf 0 (by omega)
            have f1 := hcut.zf 1 (by omega)
            have f2 := hcut.zf 2 (by omega)
            have f3 := hcut.zf 3 (by omega)
            have f4 := hcut.zf 4 (by omega)
            have f5 := hcut.zf 5 (by omega)
            have hne : ¬ C = w.heap.size := by have := hcut.zc; omega
            have hne' : ¬ w.heap.size = C := by have := hcut.zc; omega
            have HC := Lib.hid hcut
            clear hcut
            go_wp2
            refine bodyPost_ret (v := .agg #[.int .i64 k0, .int .i64 k1, .int .i64 k2, .int .i64 k3, .int .i64 k4, .int .i64 k5]) (by simp [results, Try.results103, go_sem, e0, e1, e2, e3, e4, e5]) rfl ⟨k0, k1, k2, k3, k4, k5, qi_ok HK.out q0 q1 q2 q3 q4 q5, rfl, ?_, ?_⟩
            · exact ((((((HC.out.rd.setOther _ _ _ hb).setOther _ _ _ hb).setOther _ _ _ hb).setOther _ _ _ hb).setOther _ _ _ hb).setOther _ _ _ hb)
            · exact grown_sets HC.out.gr (by omega) _ _ _ _ _ _

end Go.Proofs.Ytoacgjjpipdkjaa
