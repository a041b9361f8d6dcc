/- The draws of lines (l20Lines, DrawTxtRead): some lines, not many, none of them long; nothing that was there has turned. -/
import Derived.Test.YtecdmafhjfnloaaGreatDoorRl3
import Derived.Test.YtecdmafhjfnloaaGreatDoorDrawCod
import Derived.Test.YtecdmafhjfnloaaGreatDoorCodUp
namespace Go.Proofs.YtecdmafhjfnloaaGreatDoor
open Go.RowKit
set_option linter.unusedVariables false
set_option linter.unusedSimpArgs false

theorem Rd.row {B N b : Nat} {u u' : World} (h : Rd B N u b) {row : Option Nat} (g : u.grownBy u' row) (hr : ∀ q, row = some q → b < q) : Rd B N u' b := by
  obtain ⟨h1, h2, s, len, cap, p, h3, h4, h5, h6, h7, h8⟩ := h
  have hb : ∀ k, k ≤ b → u'.heap[k]? = u.heap[k]? := fun k hk => g.block k (by omega) (fun e => by have := hr k e.symm; omega)
  have hc : ∀ k o, k ≤ b → u'.cell? ⟨k, o, none⟩ = u.cell? ⟨k, o, none⟩ := fun k o hk => World.cell?_of_block (hb k hk)
  refine ⟨h1, Nat.lt_of_lt_of_le h2 g.size, s, len, cap, p, by rw [hc b 0 (Nat.le_refl _)]; exact h3, by rw [hc b 1 (Nat.le_refl _)]; exact h4, ?_, h6, h7, ?_⟩
  · rw [← h5]; exact World.frozen?_of_block (hb b (Nat.le_refl _))
  · rcases h8 with h8 | ⟨sb, so, z, hs, hsb, hcz, hz⟩
    · exact .inl h8
    · exact .inr ⟨sb, so, z, hs, hsb, fun i hi => by rw [hc sb _ (by omega)]; exact hcz i hi, hz⟩
/-- A reader in block b, and beside it a row that the call owns, from B2 on. -/
structure DW (B : Nat) (w : World) (b B2 N : Nat) (e : TypeId) (u : World) (v : Value) (n : Nat) (xs : List Value) : Prop where
  rd : Rd B N u b
  own : u.ownsRow B2 e 1 v n xs
  lt : b < B2
  sz : B2 ≤ u.heap.size
  bel : Below B w u
theorem DW.step {B : Nat} {w : World} {b B2 N M : Nat} {e : TypeId} {u u' : World} {v : Value} {n : Nat} {xs : List Value} (h : DW B w b B2 N e u v n xs) (r : Rd B M u' b) (g : u.grownBy u' (some b)) : DW B w b B2 M e u' v n xs := by
  refine ⟨r, World.ownsRow.kept h.own g ?_, h.lt, Nat.le_trans h.sz g.size, h.bel.trans (grown_below g h.rd.ge (Nat.le_trans h.rd.ge (Nat.le_of_lt h.rd.lt)))⟩
  cases hv : v.ownBlock with
  | none => exact .inl rfl
  | some q =>
    right
    intro e
    cases e
    have := (World.ownsRow.lt h.own b hv).1
    have := h.lt
    omega
theorem DW.mono {B : Nat} {w : World} {b B2 N M : Nat} {e : TypeId} {u : World} {v : Value} {n : Nat} {xs : List Value} (h : DW B w b B2 N e u v n xs) (hM : N ≤ M) : DW B w b B2 M e u v n xs := h.step (h.rd.mono hM) (grown_refl _ _)
theorem DW.alloc {B : Nat} {w : World} {b B2 N : Nat} {e : TypeId} {u : World} {v : Value} {n : Nat} {xs : List Value} (h : DW B w b B2 N e u v n xs) (o : Obj) : DW B w b B2 N e (u.alloc o) v n xs := h.step (h.rd.alloc o) (World.grownBy_alloc _ _ _)
theorem DW.fr {B : Nat} {w : World} {b B2 N : Nat} {e : TypeId} {u u' : World} {v : Value} {n : Nat} {xs : List Value} (h : DW B w b B2 N e u v n xs) (f : Fr u u') : DW B w b B2 N e u' v n xs := h.step (h.rd.row (fr_row f none) nofun) (fr_row f _)
theorem DW.app {B : Nat} {w : World} {b B2 N : Nat} {e : TypeId} {u u' : World} {v v' : Value} {n m : Nat} {xs ys : List Value} (h : DW B w b B2 N e u v n xs) (hown : u'.ownsRow B2 e 1 v' m ys) (g : u.grownBy u' v.ownBlock) : DW B w b B2 N e u' v' m ys :=
  ⟨h.rd.row g (fun q hq => Nat.lt_of_lt_of_le h.lt (World.ownsRow.lt h.own q hq).1), hown, h.lt, Nat.le_trans h.sz g.size,
    Below.grown h.bel g (Nat.le_trans h.rd.ge (Nat.le_of_lt h.rd.lt)) (fun q hq => by have := (World.ownsRow.lt h.own q hq).1; have := h.lt; have := h.rd.ge; omega)⟩
theorem odd0 (b : Nat) (w : World) : Calls Tryz.prog 29 #[.pointer (some ⟨b, 0, none⟩), .int .i64 0] w fun e w' => e = .returned (.bool false) ∧ w = w' := by
  go_enter Tryz.func29, Tryz.ntmps29
  go_wp2
  go_ret
  exact ⟨rfl, rfl⟩
def DrewW (B N b : Nat) (w : World) (e : Ending) (w' : World) : Prop :=
  ∃ n : Int, 0 ≤ n ∧ n ≤ 65535 ∧ e = .returned (.int .i64 n) ∧ Rd B N w' b ∧ w.grownBy w' (some b)
theorem rowB5 {w w1 : World} {b : Nat} {v0 v1 v2 v3 v4 : Int} {t : TypeId} (hb : b < w.heap.size) (hg : (w.alloc (.cells #[.int .i64 v0, .int .i64 v1, .int .i64 v2, .int .i64 v3, .int .i64 v4] t)).grownBy w1 (some b)) (P : Int → Prop) (h0 : P v0) (h1 : P v1) (h2 : P v2) (h3 : P v3) (h4 : P v4) (x : Int) (x0 : 0 ≤ x) (x1 : x < 5) :
    ∃ v : Int, P v ∧ w1.cell? ⟨w.heap.size, x.toNat, none⟩ = some (.int .i64 v) := by
  rw [row_at hb hg]
  have : x = 0 ∨ x = 1 ∨ x = 2 ∨ x = 3 ∨ x = 4 := by omega
  rcases this with rfl | rfl | rfl | rfl | rfl
  · exact ⟨v0, h0, rfl⟩
  · exact ⟨v1, h1, rfl⟩
  · exact ⟨v2, h2, rfl⟩
  · exact ⟨v3, h3, rfl⟩
  · exact ⟨v4, h4, rfl⟩
set_option maxHeartbeats 1000000 in
theorem l20Word0 (B N b : Nat) (w : World) (h : Rd B N w b) (hN : N ≤ 900000000) :
    Calls Tryz.prog 26 #[.pointer (some ⟨b, 0, none⟩), .int .i64 0] w (DrewW B (N + 8) b w) := by
  go_enter Tryz.func26, Tryz.ntmps26
  go_wp2_with fail
  refine (odd0 b w).mono ?_
  rintro e w1 ⟨rfl, rfl⟩
  go_wp2_with fail
  refine (pick B _ b _ w h (by omega)).mono ?_
  rintro e w2 ⟨x2, x20, x21, rfl, r2, g2⟩
  go_wp2_with fail
  refine (pick B _ b _ w2 r2 (by omega)).mono ?_
  rintro e w3 ⟨x3, x30, x31, rfl, r3, g3⟩
  go_wp2_with fail
  refine (pick B _ b _ w3 r3 (by omega)).mono ?_
  rintro e w4 ⟨x4, x40, x41, rfl, r4, g4⟩
  replace x21 := x21 (by omega)
  replace x31 := x31 (by omega)
  replace x41 := x41 (by omega)
  go_wp2_with fail
  refine (pick B _ b _ w4 r4 (by omega)).mono ?_
  rintro e w5 ⟨x5, x50, x51, rfl, r5, g5⟩
  replace x51 := x51 (by omega)
  go_wp2_with fail
  refine (pick B _ b _ w5 r5 (by omega)).mono ?_
  rintro e w6 ⟨x6, x60, x61, rfl, r6, g6⟩
  replace x61 := x61 (by omega)
  go_wp2_with fail
  refine (pick B _ b _ w6 r6 (by omega)).mono ?_
  rintro e w7 ⟨x7, x70, x71, rfl, r7, g7⟩
  replace x71 := x71 (by omega)
  go_wp2_with fail
  refine (pick B _ b _ _ (r7.alloc _) (by omega)).mono ?_
  rintro e w8 ⟨x8, x80, x81, rfl, r8, g8⟩
  replace x81 := x81 (by omega)
  obtain ⟨v, ⟨v0, v1⟩, hv⟩ := rowB5 r7.lt g8 (fun n => 0 ≤ n ∧ n ≤ 65535) ⟨by omega, by omega⟩ ⟨by omega, by omega⟩ ⟨by omega, by omega⟩ ⟨by omega, by omega⟩ ⟨by omega, by omega⟩ x8 x80 x81
  go_wp2
  go_ret
  exact ⟨v, v0, v1, rfl, r8.mono (by omega), grown_trans g2 (grown_trans g3 (grown_trans g4 (grown_trans g5 (grown_trans g6 (grown_trans g7 (grown_trans (World.grownBy_alloc _ _ _) g8))))))⟩
def DrewWs (B : Nat) (w : World) (e : Ending) (w' : World) : Prop :=
  ∃ (xs : List Int) (ao : Option Addr) (cap : Nat), e = .returned (.slice ao xs.length cap) ∧ Vc B w' xs.length (iv xs) ao ∧ xs.length ≤ 100 ∧ Below B w w'
theorem DW.vcI {B : Nat} {w : World} {b B2 N : Nat} {u : World} {v : Value} {xs : List Int} (h : DW B w b B2 N 3 u v xs.length (xs.map (Value.int .i64))) : ∃ ao cap, v = .slice ao xs.length cap ∧ Vc B u xs.length (iv xs) ao := by
  obtain ⟨ao, cap, hv, hV⟩ := ownsI_vc (B := B2) h.own
  exact ⟨ao, cap, hv, hV.mono (Nat.le_trans h.rd.ge (Nat.le_of_lt h.lt))⟩
theorem DW.vcT {B : Nat} {w : World} {b B2 N : Nat} {u : World} {v : Value} {xs : List (List UInt8)} (h : DW B w b B2 N 9 u v xs.length (xs.map (fun x => Value.string (bs x)))) : ∃ ao cap, v = .slice ao xs.length cap ∧ Vc B u xs.length (tv xs) ao := by
  obtain ⟨ao, cap, hv, hV⟩ := ownsT_vc (B := B2) h.own
  exact ⟨ao, cap, hv, hV.mono (Nat.le_trans h.rd.ge (Nat.le_of_lt h.lt))⟩
/-- A slice's length. -/
def lenOf : Value → Nat
  | .slice _ n _ => n
  | _ => 0
set_option maxRecDepth 4000 in
set_option maxHeartbeats 4000000 in
theorem DrawTxtWrite (B : Nat) (s : Option Addr) (len cap : Nat) (w : World) (h : Code1 B w s len cap) : Calls Tryz.prog 6 #[.slice s len cap] w (DrewWs B w) := by
  obtain ⟨i0, hi, hz0, hz1, hz2⟩ := info_parts info_intV
  have hmx : maxLen = 9223372036854775807 := rfl
  have hB := h.1
  go_enter Tryz.func6, Tryz.ntmps6
  go_wp2_with fail
  refine (opens B s len cap w h).mono ?_
  rintro e w1 ⟨rfl, r1, b1⟩
  have D1 := Lib.hid (show DW B w w.heap.size w1.heap.size 0 3 (w1.alloc (.cells #[] 3)) (.slice (some ⟨w1.heap.size, 0, none⟩) 0 0) 0 [] from ⟨r1.alloc _, ownsI_empty _ _ (Nat.le_refl _), r1.lt, by simp, (b1.mono hB).alloc (Nat.le_trans hB (Nat.le_of_lt r1.lt)) _⟩)
  clear h r1 b1
  go_wp2_with fail
  refine (pick B _ _ _ _ D1.out.rd (by omega)).mono ?_
  rintro e w2 ⟨x2, x20, x21, rfl, r2, g2⟩
  replace x21 := x21 (by omega)
  have D2 := Lib.hid (D1.out.step r2 g2)
  clear r2 g2 D1
  generalize hg1 : w1.heap.size = G at *
  go_wp2_with fail
  go_loopw [4, 5] (fun o i wr => ∃ (k : Int) (xs : List Int), 0 ≤ k ∧ k ≤ 11 ∧ i = .int .i64 k ∧ xs.length ≤ (11 - k).toNat ∧ ∃ N : Nat, (N : Int) ≤ 100 + 100 * (11 - k) ∧ DW B w w.heap.size G N 3 wr o xs.length (xs.map (Value.int .i64))) (fun _ i _ => (intOf i).toNat)
  case atStart => exact ⟨x2, [], x20, by omega, rfl, by simp, _, by omega, D2.out⟩
  case round =>
    obtain ⟨k, xs, k0, k1, rfl, hxl, N, hN, hD⟩ := hrel
    have D3 := Lib.hid hD
    clear hD D2
    by_cases hk : 0 < k
    · go_wp2_with fail
      refine (l20Word0 B N _ _ D3.out.rd (by omega)).mono ?_
      rintro e w3 ⟨n3, n30, n31, rfl, r3, g3⟩
      have D4 := Lib.hid (D3.out.step r3 g3)
      clear D3 r3 g3
      go_wp2_with fail
      refine (l20Inst B _ _ 0 _ D4.out.rd (by omega) (by omega) (by omega)).mono ?_
      rintro e w4 ⟨c0, c1, c2, c3, c4, c5, rfl, r4, g4⟩
      have D5 := Lib.hid (D4.out.step r4 g4)
      clear D4 r4 g4
      go_wp2_with fail
      refine (spec_CodWord _ _ _ _ _ _ _).mono ?_
      rintro e w5 ⟨rfl, f5⟩
      have D6 := Lib.hid (D5.out.fr f5)
      clear D5 f5
      go_wp2_with fail
      refine (pick B _ _ _ _ (D6.out.alloc _).rd (by omega)).mono ?_
      rintro e w6 ⟨x6, x60, x61, rfl, r6, g6⟩
      replace x61 := x61 (by omega)
      obtain ⟨v, _, hv⟩ := rowN D6.out.rd.lt g6 (fun _ => True) (all2 _ _ _ trivial trivial) x6 x60 x61
      have D7 := Lib.hid ((D6.out.alloc _).step r6 g6)
      clear D6 r6 g6
      have hsz := D7.out.sz
      go_wp2_with (at_builtin; refine wpList_append_own _ rfl _ _ 23 rfl G 3 i0 (.int .i64 0) 1 8 Tryz.underlying23 hi hz0 hz1 hz2 rfl (by decide) _ _ _ rfl (World.ownsRow.alloc D7.out.own _) _ 1 1 [.int .i64 v] rfl rfl (cell_str_at _ _ _ _ (by simp)) (fun x hx => by simp at hx; subst hx; rfl) (show xs.length + 1 ≤ maxLen by omega) (by omega) (by simp; omega) ?_; intro v1 w7 hown1 hg1 _)
      have D8 := (D7.out.alloc _).app hown1 hg1
      go_roundw
      case rel => exact ⟨k - 1, xs ++ [v], by omega, by omega, rfl, by simp; omega, N + 8 + 30 + 1, by omega, by simpa using D8⟩
      case measure => simp [intOf]; omega
    · have hk' : ¬ 0 < k := hk
      obtain rfl : k = 0 := by omega
      have hxl' : xs.length ≤ 11 := by omega
      go_wp2_with fail
      refine (odd B N _ _ _ D3.out.rd (by omega) (by omega) (by omega)).mono ?_
      rintro e w3 ⟨v3, rfl, r3, g3⟩
      have D4 := Lib.hid (D3.out.step r3 g3)
      clear D3 r3 g3
      cases v3
      · skip
        obtain ⟨zs, N5, hz12, hN5, hD5⟩ : ∃ (zs : List Int) (N5 : Nat), zs.length ≤ 12 ∧ N5 ≤ 900000 ∧ DW B w w.heap.size G N5 3 _ _ zs.length (zs.map (Value.int .i64)) := ⟨xs, N + 1, by omega, by omega, D4.out⟩
        have D5 := Lib.hid hD5
        clear hD5
        go_wp2_with fail
        refine (odd B _ _ _ _ D5.out.rd (by omega) (by omega) (by omega)).mono ?_
        rintro e wo ⟨vo, rfl, ro, go⟩
        have DO := Lib.hid (D5.out.step ro go)
        clear ro go
        cases vo
        · go_wp2_with fail
          go_ret
          obtain ⟨ao, cap, hv, hS⟩ := DW.vcI DO.out
          exact ⟨zs, ao, cap, by rw [← hv]; rfl, hS, by omega, DO.out.bel⟩
        · clear D5
          go_wp2_with fail
          go_loopw [4] (fun o wr => ∃ (ys : List Int) (N : Nat), ys.length ≤ 65 ∧ DW B w w.heap.size G N 3 wr o ys.length (ys.map (Value.int .i64))) (fun o _ => 65 - (lenOf o))
          case atStart => exact ⟨zs, _, by omega, DO.out⟩
          case round =>
            obtain ⟨ys, N', hyl, hD⟩ := hrel
            obtain ⟨ao, cap, hv, hS⟩ := DW.vcI hD
            subst hv
            have D9 := Lib.hid hD
            have HS9 := Lib.hid hS
            have hsz := hD.sz
            clear hD hS DO
            by_cases hy : ys.length ≤ 64
            · have hy' : (ys.length : Int) ≤ 64 := by omega
              go_wp2_with (at_builtin; refine wpList_append_own _ rfl _ _ 23 rfl G 3 i0 (.int .i64 0) 1 8 Tryz.underlying23 hi hz0 hz1 hz2 rfl (by decide) _ _ _ rfl (World.ownsRow.alloc D9.out.own _) _ 1 1 [.int .i64 0] rfl rfl (cell_str_at _ _ _ _ (by simp)) (fun x hx => by simp at hx; subst hx; rfl) (show ys.length + 1 ≤ maxLen by omega) (by omega) (by simp; omega) ?_; intro v1 w7 hown1 hg1 _)
              have D8 := (D9.out.alloc _).app hown1 hg1
              obtain ⟨ao2, cap2, hv2, _⟩ := DW.vcI (xs := ys ++ [0]) (by simpa using D8)
              go_roundw
              case rel => exact ⟨ys ++ [0], _, by simp; omega, by simpa using D8⟩
              case measure => rw [hv2]; simp [lenOf]; omega
            · have hy' : ¬ (ys.length : Int) ≤ 64 := by omega
              go_wp2_with fail
              go_ret
              exact ⟨ys, ao, cap, rfl, HS9.out, by omega, D9.out.bel⟩
      · go_wp2_with fail
        refine (l20Word B _ _ _ _ D4.out.rd (by omega) (by omega) (by omega)).mono ?_
        rintro e w4 ⟨n4, rfl, r4, g4⟩
        have D6 := Lib.hid (D4.out.step r4 g4)
        clear D4 r4 g4
        have hsz := D6.out.sz
        go_wp2_with (at_builtin; refine wpList_append_own _ rfl _ _ 23 rfl G 3 i0 (.int .i64 0) 1 8 Tryz.underlying23 hi hz0 hz1 hz2 rfl (by decide) _ _ _ rfl (World.ownsRow.alloc D6.out.own _) _ 1 1 [.int .i64 n4] rfl rfl (cell_str_at _ _ _ _ (by simp)) (fun x hx => by simp at hx; subst hx; rfl) (show xs.length + 1 ≤ maxLen by omega) (by omega) (by simp; omega) ?_; intro v1 w7 hown1 hg1 _)
        have D8 := (D6.out.alloc _).app hown1 hg1
        obtain ⟨zs, N5, hz12, hN5, hD5⟩ : ∃ (zs : List Int) (N5 : Nat), zs.length ≤ 12 ∧ N5 ≤ 900000 ∧ DW B w w.heap.size G N5 3 _ _ zs.length (zs.map (Value.int .i64)) := ⟨xs ++ [n4], N + 1 + 8, by simp; omega, by omega, by simpa using D8⟩
        have D5 := Lib.hid hD5
        clear hD5
        go_wp2_with fail
        refine (odd B _ _ _ _ D5.out.rd (by omega) (by omega) (by omega)).mono ?_
        rintro e wo ⟨vo, rfl, ro, go⟩
        have DO := Lib.hid (D5.out.step ro go)
        clear ro go
        cases vo
        · go_wp2_with fail
          go_ret
          obtain ⟨ao, cap, hv, hS⟩ := DW.vcI DO.out
          exact ⟨zs, ao, cap, by rw [← hv]; rfl, hS, by omega, DO.out.bel⟩
        · clear D5
          go_wp2_with fail
          go_loopw [4] (fun o wr => ∃ (ys : List Int) (N : Nat), ys.length ≤ 65 ∧ DW B w w.heap.size G N 3 wr o ys.length (ys.map (Value.int .i64))) (fun o _ => 65 - (lenOf o))
          case atStart => exact ⟨zs, _, by omega, DO.out⟩
          case round =>
            obtain ⟨ys, N', hyl, hD⟩ := hrel
            obtain ⟨ao, cap, hv, hS⟩ := DW.vcI hD
            subst hv
            have D9 := Lib.hid hD
            have HS9 := Lib.hid hS
            have hsz := hD.sz
            clear hD hS DO
            by_cases hy : ys.length ≤ 64
            · have hy' : (ys.length : Int) ≤ 64 := by omega
              go_wp2_with (at_builtin; refine wpList_append_own _ rfl _ _ 23 rfl G 3 i0 (.int .i64 0) 1 8 Tryz.underlying23 hi hz0 hz1 hz2 rfl (by decide) _ _ _ rfl (World.ownsRow.alloc D9.out.own _) _ 1 1 [.int .i64 0] rfl rfl (cell_str_at _ _ _ _ (by simp)) (fun x hx => by simp at hx; subst hx; rfl) (show ys.length + 1 ≤ maxLen by omega) (by omega) (by simp; omega) ?_; intro v1 w7 hown1 hg1 _)
              have D8 := (D9.out.alloc _).app hown1 hg1
              obtain ⟨ao2, cap2, hv2, _⟩ := DW.vcI (xs := ys ++ [0]) (by simpa using D8)
              go_roundw
              case rel => exact ⟨ys ++ [0], _, by simp; omega, by simpa using D8⟩
              case measure => rw [hv2]; simp [lenOf]; omega
            · have hy' : ¬ (ys.length : Int) ≤ 64 := by omega
              go_wp2_with fail
              go_ret
              exact ⟨ys, ao, cap, rfl, HS9.out, by omega, D9.out.bel⟩

theorem rowS {w w1 : World} {b : Nat} {t : TypeId} (L : List (List UInt8)) (hb : b < w.heap.size) (hg : (w.alloc (.cells (L.map (fun l => Value.string (bs l))).toArray t)).grownBy w1 (some b)) (x : Int) (x0 : 0 ≤ x) (x1 : x < L.length) :
    ∃ l, l ∈ L ∧ w1.cell? ⟨w.heap.size, x.toNat, none⟩ = some (.string (bs l)) := by
  rw [row_at hb hg]
  obtain ⟨i, hi, rfl⟩ := int_lt x L.length x0 x1
  refine ⟨L[i], List.getElem_mem hi, ?_⟩
  have e : (i : Int).toNat = i := by omega
  rw [e]
  simp [hi]
theorem txtD_len' (k d a b f n : Int) : (txtD k d a b f n).length ≤ 30 := by
  unfold txtD
  split
  · rename_i h; exact txt_len h
  · simp
def LinesP (B b N : Nat) (w : World) (e : Ending) (w' : World) : Prop :=
  ∃ (xs : List (List UInt8)) (v : Value), e = .returned v ∧ xs.length ≤ 14 ∧ (∀ x ∈ xs, x.length ≤ 100) ∧ DW B w b w.heap.size N 9 w' v xs.length (xs.map (fun x => Value.string (bs x)))
set_option maxRecDepth 4000 in
set_option maxHeartbeats 8000000 in
theorem l20Lines (B M b : Nat) (w : World) (h : Rd B M w b) (hM : M ≤ 900000) (hBw : B ≤ w.heap.size) : Calls Tryz.prog 39 #[.pointer (some ⟨b, 0, none⟩), .int .i64 4] w (LinesP B b (M + 2000) w) := by
  obtain ⟨i0, hi, hz0, hz1, hz2⟩ := info_parts info_str
  have hmx : maxLen = 9223372036854775807 := rfl
  have D1 := Lib.hid (show DW B w b w.heap.size M 9 (w.alloc (.cells #[] 9)) (.slice (some ⟨w.heap.size, 0, none⟩) 0 0) 0 [] from ⟨h.alloc _, ownsT_empty _ _ (Nat.le_refl _), h.lt, by simp, (Below.refl _ _).alloc hBw _⟩)
  clear h
  go_enter Tryz.func39, Tryz.ntmps39
  go_wp2_with fail
  refine (pick B _ _ _ _ D1.out.rd (by omega)).mono ?_
  rintro e w2 ⟨x2, x20, x21, rfl, r2, g2⟩
  replace x21 := x21 (by omega)
  have D2 := Lib.hid (D1.out.step r2 g2)
  clear r2 g2 D1
  go_wp2_with fail
  go_loopw [5, 6] (fun o i wr => ∃ (k : Int) (xs : List (List UInt8)), 0 ≤ k ∧ k ≤ 13 ∧ i = .int .i64 k ∧ xs.length ≤ (13 - k).toNat ∧ (∀ x ∈ xs, x.length ≤ 100) ∧ ∃ N : Nat, (N : Int) ≤ M + 100 + 100 * (13 - k) ∧ DW B w b w.heap.size N 9 wr o xs.length (xs.map (fun x => Value.string (bs x)))) (fun _ i _ => (intOf i).toNat)
  case atStart => exact ⟨x2, [], x20, by omega, rfl, by simp, by simp, _, by omega, D2.out⟩
  case round =>
    obtain ⟨k, xs, k0, k1, rfl, hxl, hx, N, hN, hD⟩ := hrel
    have D3 := Lib.hid hD
    have HX := Lib.hid hx
    clear hD D2 hx
    by_cases hk : 0 < k
    · go_wp2_with fail
      refine (pick B N _ _ _ D3.out.rd (by omega)).mono ?_
      rintro e w4 ⟨x4, x40, x41, rfl, r4, g4⟩
      have D4 := Lib.hid (D3.out.step r4 g4)
      clear D3 r4 g4
      by_cases e0 : x4 = 0
      · subst e0
        go_wp2_with fail
        refine (pick B _ _ _ _ (D4.out.alloc _).rd (by omega)).mono ?_
        rintro e w5 ⟨x5, x50, x51, rfl, r5, g5⟩
        replace x51 := x51 (by omega)
        obtain ⟨l, hl, hv⟩ := rowS [[104, 101, 114, 101, 58], [116, 104, 101, 114, 101, 58], [108, 111, 111, 112, 58]] D4.out.rd.lt g5 x5 x50 x51
        replace hl : l.length ≤ 100 := (show ∀ l ∈ ([[104, 101, 114, 101, 58], [116, 104, 101, 114, 101, 58], [108, 111, 111, 112, 58]] : List (List UInt8)), l.length ≤ 100 by decide) l hl
        have D7 := Lib.hid ((D4.out.alloc _).step r5 g5)
        clear r5 g5
        have hsz := D7.out.sz
        go_wp2_with (at_builtin; refine wpList_append_own _ rfl _ _ 25 rfl w.heap.size 9 i0 (.string ByteArray.empty) 1 16 Tryz.underlying25 hi hz0 hz1 hz2 rfl (by decide) _ _ _ rfl (World.ownsRow.alloc D7.out.own _) _ 1 1 [.string (bs l)] rfl rfl (cell_str_at _ _ _ _ (by simp)) (fun x hx => by simp at hx; subst hx; rfl) (show xs.length + 1 ≤ maxLen by omega) (by omega) (by simp; omega) ?_; intro v1 w7 hown1 hg1 _)
        have D8 := (D7.out.alloc _).app hown1 hg1
        go_roundw
        case rel => exact ⟨k - 1, xs ++ [l], by omega, by omega, rfl, by simp; omega, fun x hx => by simp at hx; rcases hx with hx | hx; exact HX.out x hx; subst hx; omega, N + 1 + 1, by omega, by simpa using D8⟩
        case measure => simp [intOf]; omega
      · have e0' : (x4 == 0) = false := by simp [e0]
        by_cases e1 : x4 = 1
        · subst e1
          go_wp2_with fail
          refine (l20Word0 B _ _ _ D4.out.rd (by omega)).mono ?_
          rintro e w5 ⟨n5, n50, n51, rfl, r5, g5⟩
          have D5 := Lib.hid (D4.out.step r5 g5)
          clear r5 g5
          have hI := itoa_le n5 (by omega) (by omega)
          go_wp2_with fail
          refine (spec_l3Plain n5 (by omega) (by omega) _).mono ?_
          rintro e w6 ⟨rfl, f6⟩
          have D6 := Lib.hid (D5.out.fr f6)
          have hsz := D6.out.sz
          have hE : (⟨#[119, 111, 114, 100, 32]⟩ ++ bs (Lib.itoa n5) : ByteArray) = bs ([119, 111, 114, 100, 32] ++ Lib.itoa n5) := bs_app _ _
          have hL : ([119, 111, 114, 100, 32] ++ Lib.itoa n5 : List UInt8).length ≤ 100 := by simp; omega
          generalize Lib.itoa n5 = I at hI hE hL ⊢
          generalize ([119, 111, 114, 100, 32] ++ I : List UInt8) = l at hE hL
          clear f6 D5 D4
          go_wp2_with (at_builtin; refine wpList_append_own _ rfl _ _ 25 rfl w.heap.size 9 i0 (.string ByteArray.empty) 1 16 Tryz.underlying25 hi hz0 hz1 hz2 rfl (by decide) _ _ _ rfl (World.ownsRow.alloc D6.out.own _) _ 1 1 [.string (bs l)] rfl rfl (cell_str_at _ _ _ _ (by simp)) (fun x hx => by simp at hx; subst hx; rfl) (show xs.length + 1 ≤ maxLen by omega) (by omega) (by simp; omega) ?_; intro v1 w7 hown1 hg1 _)
          have D8 := (D6.out.alloc _).app hown1 hg1
          go_roundw
          case rel => exact ⟨k - 1, xs ++ [l], by omega, by omega, rfl, by simp; omega, fun x hx => by simp at hx; rcases hx with hx | hx; exact HX.out x hx; subst hx; omega, N + 1 + 8, by omega, by simpa using D8⟩
          case measure => simp [intOf]; omega
        · have e1' : (x4 == 1) = false := by simp [e1]
          by_cases e2 : x4 = 2
          · subst e2
            go_wp2_with fail
            refine (pick B _ _ _ _ (D4.out.alloc _).rd (by omega)).mono ?_
            rintro e w5 ⟨x5, x50, x51, rfl, r5, g5⟩
            replace x51 := x51 (by omega)
            obtain ⟨l, hl, hv⟩ := rowS [[101, 113, 32, 114, 49, 32, 114, 50, 32, 104, 101, 114, 101], [108, 116, 32, 114, 51, 32, 114, 49, 32, 108, 111, 111, 112], [106, 117, 109, 112, 32, 114, 48, 32, 116, 104, 101, 114, 101], [106, 117, 109, 112, 32, 114, 49, 32, 104, 101, 114, 101]] D4.out.rd.lt g5 x5 x50 x51
            replace hl : l.length ≤ 100 := (show ∀ l ∈ ([[101, 113, 32, 114, 49, 32, 114, 50, 32, 104, 101, 114, 101], [108, 116, 32, 114, 51, 32, 114, 49, 32, 108, 111, 111, 112], [106, 117, 109, 112, 32, 114, 48, 32, 116, 104, 101, 114, 101], [106, 117, 109, 112, 32, 114, 49, 32, 104, 101, 114, 101]] : List (List UInt8)), l.length ≤ 100 by decide) l hl
            have D7 := Lib.hid ((D4.out.alloc _).step r5 g5)
            clear r5 g5
            have hsz := D7.out.sz
            go_wp2_with (at_builtin; refine wpList_append_own _ rfl _ _ 25 rfl w.heap.size 9 i0 (.string ByteArray.empty) 1 16 Tryz.underlying25 hi hz0 hz1 hz2 rfl (by decide) _ _ _ rfl (World.ownsRow.alloc D7.out.own _) _ 1 1 [.string (bs l)] rfl rfl (cell_str_at _ _ _ _ (by simp)) (fun x hx => by simp at hx; subst hx; rfl) (show xs.length + 1 ≤ maxLen by omega) (by omega) (by simp; omega) ?_; intro v1 w7 hown1 hg1 _)
            have D8 := (D7.out.alloc _).app hown1 hg1
            go_roundw
            case rel => exact ⟨k - 1, xs ++ [l], by omega, by omega, rfl, by simp; omega, fun x hx => by simp at hx; rcases hx with hx | hx; exact HX.out x hx; subst hx; omega, N + 1 + 1, by omega, by simpa using D8⟩
            case measure => simp [intOf]; omega
          · have e2' : (x4 == 2) = false := by simp [e2]
            clear e0 e1 e2
            go_wp2_with fail
            refine (l20Inst B _ _ 0 _ D4.out.rd (by omega) (by omega) (by omega)).mono ?_
            rintro e w5 ⟨c0, c1, c2, c3, c4, c5, rfl, r5, g5⟩
            have D5 := Lib.hid (D4.out.step r5 g5)
            clear r5 g5
            have hI := txtD_len' c0 c1 c2 c3 c4 c5
            go_wp2_with fail
            refine (spec_CodText _ _ _ _ _ _ _).mono ?_
            rintro e w6 ⟨rfl, f6⟩
            have D6 := Lib.hid (D5.out.fr f6)
            have hsz := D6.out.sz
            generalize txtD c0 c1 c2 c3 c4 c5 = l at hI ⊢
            clear f6 D5 D4
            go_wp2_with (at_builtin; refine wpList_append_own _ rfl _ _ 25 rfl w.heap.size 9 i0 (.string ByteArray.empty) 1 16 Tryz.underlying25 hi hz0 hz1 hz2 rfl (by decide) _ _ _ rfl (World.ownsRow.alloc D6.out.own _) _ 1 1 [.string (bs l)] rfl rfl (cell_str_at _ _ _ _ (by simp)) (fun x hx => by simp at hx; subst hx; rfl) (show xs.length + 1 ≤ maxLen by omega) (by omega) (by simp; omega) ?_; intro v1 w7 hown1 hg1 _)
            have D8 := (D6.out.alloc _).app hown1 hg1
            go_roundw
            case rel => exact ⟨k - 1, xs ++ [l], by omega, by omega, rfl, by simp; omega, fun x hx => by simp at hx; rcases hx with hx | hx; exact HX.out x hx; subst hx; omega, N + 1 + 30, by omega, by simpa using D8⟩
            case measure => simp [intOf]; omega
    · have hk' : ¬ 0 < k := hk
      obtain rfl : k = 0 := by omega
      have hxl' : xs.length ≤ 13 := by omega
      go_wp2_with fail
      refine (odd B N _ _ _ D3.out.rd (by omega) (by omega) (by omega)).mono ?_
      rintro e w4 ⟨v4, rfl, r4, g4⟩
      have D4 := Lib.hid (D3.out.step r4 g4)
      clear D3 r4 g4
      cases v4
      · go_wp2_with fail
        go_ret
        exact ⟨xs, _, rfl, by omega, HX.out, D4.out.mono (by omega)⟩
      · skip
        go_wp2_with fail
        refine (pick B _ _ _ _ (D4.out.alloc _).rd (by omega)).mono ?_
        rintro e w5 ⟨x5, x50, x51, rfl, r5, g5⟩
        replace x51 := x51 (by omega)
        obtain ⟨l, hl, hv⟩ := rowS [[], [119, 111, 114, 100, 32, 54, 53, 53, 51, 54], [119, 111, 114, 100], [97, 100, 100, 32, 114, 49], [72, 101, 114, 101, 58], [116, 111, 111, 108, 111, 110, 103, 58], [119, 111, 114, 100, 32, 48, 55]] D4.out.rd.lt g5 x5 x50 x51
        replace hl : l.length ≤ 100 := (show ∀ l ∈ ([[], [119, 111, 114, 100, 32, 54, 53, 53, 51, 54], [119, 111, 114, 100], [97, 100, 100, 32, 114, 49], [72, 101, 114, 101, 58], [116, 111, 111, 108, 111, 110, 103, 58], [119, 111, 114, 100, 32, 48, 55]] : List (List UInt8)), l.length ≤ 100 by decide) l hl
        have D7 := Lib.hid ((D4.out.alloc _).step r5 g5)
        clear r5 g5
        have hsz := D7.out.sz
        go_wp2_with (at_builtin; refine wpList_append_own _ rfl _ _ 25 rfl w.heap.size 9 i0 (.string ByteArray.empty) 1 16 Tryz.underlying25 hi hz0 hz1 hz2 rfl (by decide) _ _ _ rfl (World.ownsRow.alloc D7.out.own _) _ 1 1 [.string (bs l)] rfl rfl (cell_str_at _ _ _ _ (by simp)) (fun x hx => by simp at hx; subst hx; rfl) (show xs.length + 1 ≤ maxLen by omega) (by omega) (by simp; omega) ?_; intro v1 w7 hown1 hg1 _)
        have D8 := (D7.out.alloc _).app hown1 hg1
        go_ret
        exact ⟨xs ++ [l], _, rfl, by simp; omega, fun x hx => by simp at hx; rcases hx with hx | hx; exact HX.out x hx; subst hx; omega, (show DW B w b w.heap.size _ 9 _ _ (xs ++ [l]).length ((xs ++ [l]).map (fun x => Value.string (bs x))) by simpa using D8).mono (by omega)⟩
def DrewLs (B : Nat) (w : World) (e : Ending) (w' : World) : Prop :=
  ∃ (ys : List (List UInt8)) (ao : Option Addr) (cap : Nat), e = .returned (.slice ao ys.length cap) ∧ Vc B w' ys.length (tv ys) ao ∧ ys.length ≤ 65 ∧ (∀ x ∈ ys, x.length ≤ 100) ∧ Below B w w'
set_option maxRecDepth 4000 in
set_option maxHeartbeats 4000000 in
theorem DrawTxtRead (B : Nat) (s : Option Addr) (len cap : Nat) (w : World) (h : Code1 B w s len cap) : Calls Tryz.prog 14 #[.slice s len cap] w (DrewLs B w) := by
  obtain ⟨i0, hi, hz0, hz1, hz2⟩ := info_parts info_str
  have hmx : maxLen = 9223372036854775807 := rfl
  have hB := h.1
  go_enter Tryz.func14, Tryz.ntmps14
  go_wp2_with fail
  refine (opens B s len cap w h).mono ?_
  rintro e w1 ⟨rfl, r1, b1⟩
  have hB1 : B ≤ w1.heap.size := Nat.le_trans r1.ge (Nat.le_of_lt r1.lt)
  have HB1 := Lib.hid (b1.mono hB)
  go_wp2_with fail
  refine (l20Lines B _ _ _ r1 (by omega) hB1).mono ?_
  rintro e w2 ⟨zs, vz, rfl, hz14, hzx, D2⟩
  have D5 := Lib.hid (show DW B w w.heap.size w1.heap.size _ 9 w2 vz zs.length (zs.map (fun x => Value.string (bs x))) from ⟨D2.rd, D2.own, D2.lt, D2.sz, HB1.out.trans D2.bel⟩)
  have HZ := Lib.hid hzx
  clear D2 hzx r1 b1 h HB1
  generalize w1.heap.size = G at *
  go_wp2_with fail
  refine (odd B _ _ _ _ D5.out.rd (by omega) (by omega) (by omega)).mono ?_
  rintro e wo ⟨vo, rfl, ro, go⟩
  have DO := Lib.hid (D5.out.step ro go)
  clear ro go
  cases vo
  · go_wp2_with fail
    go_ret
    obtain ⟨ao, cap, hv, hS⟩ := DW.vcT DO.out
    exact ⟨zs, ao, cap, by rw [← hv]; rfl, hS, by omega, HZ.out, DO.out.bel⟩
  · clear D5
    go_wp2_with fail
    go_loopw [4] (fun o wr => ∃ (ys : List (List UInt8)) (N : Nat), ys.length ≤ 65 ∧ DW B w w.heap.size G N 9 wr o ys.length (ys.map (fun x => Value.string (bs x))) ∧ ∀ x ∈ ys, x.length ≤ 100) (fun o _ => 65 - (lenOf o))
    case atStart => exact ⟨zs, _, by omega, DO.out, HZ.out⟩
    case round =>
      obtain ⟨ys, N', hyl, hD, hyx⟩ := hrel
      obtain ⟨ao, cap, hv, hS⟩ := DW.vcT hD
      subst hv
      have D9 := Lib.hid hD
      have HYX := Lib.hid hyx
      clear hyx
      have HS9 := Lib.hid hS
      have hsz := hD.sz
      clear hD hS DO
      by_cases hy : ys.length ≤ 64
      · have hy' : (ys.length : Int) ≤ 64 := by omega
        go_wp2_with (at_builtin; refine wpList_append_own _ rfl _ _ 25 rfl G 9 i0 (.string ByteArray.empty) 1 16 Tryz.underlying25 hi hz0 hz1 hz2 rfl (by decide) _ _ _ rfl (World.ownsRow.alloc D9.out.own _) _ 1 1 [.string ⟨#[119, 97, 105, 116]⟩] rfl rfl (cell_str_at _ _ _ _ (by simp)) (fun x hx => by simp at hx; subst hx; rfl) (show ys.length + 1 ≤ maxLen by omega) (by omega) (by simp; omega) ?_; intro v1 w7 hown1 hg1 _)
        have D8 := (D9.out.alloc _).app hown1 hg1
        obtain ⟨ao2, cap2, hv2, _⟩ := DW.vcT (xs := ys ++ [[119, 97, 105, 116]]) (by simpa using D8)
        go_roundw
        case rel => exact ⟨ys ++ [[119, 97, 105, 116]], _, by simp; omega, by simpa using D8, fun x hx => by simp at hx; rcases hx with hx | hx; exact HYX.out x hx; subst hx; decide⟩
        case measure => rw [hv2]; simp [lenOf]; omega
      · have hy' : ¬ (ys.length : Int) ≤ 64 := by omega
        go_wp2_with fail
        go_ret
        exact ⟨ys, ao, cap, rfl, HS9.out, by omega, HYX.out, D9.out.bel⟩
end Go.Proofs.YtecdmafhjfnloaaGreatDoor
