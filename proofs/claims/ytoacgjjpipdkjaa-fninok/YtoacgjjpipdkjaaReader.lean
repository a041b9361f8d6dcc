/- The reader of a code (l20Rd): what it holds, and the contracts of l20Open, pick and odd. The draws of layer 1: some number (which one makes no difference to the laws); nothing that was there has turned. -/
import Derived.Below
import Derived.Deep.QuietTactic
import Derived.BigQuiet
import Derived.Laws.AppendOwn
import Derived.Test.YtoacgjjpipdkjaaWords
namespace Go.Proofs.Ytoacgjjpipdkjaa
open Go.RowKit
set_option linter.unusedVariables false

/-- The bytes that a reader reads lie below block B. -/
def Bytes (B : Nat) (w : World) (s : Option Addr) (len : Nat) : Prop :=
  len = 0 ∨ ∃ (sb so : Nat) (z : Nat → Int), s = some ⟨sb, so, none⟩ ∧ sb < B ∧ (∀ i, i < len → w.cell? ⟨sb, so + i, none⟩ = some (.int .u8 (z i))) ∧ ∀ i, 0 ≤ z i ∧ z i ≤ 255
/-- A reader lies in block b, from B on; it has read at most N times. -/
def Rd (B N : Nat) (w : World) (b : Nat) : Prop :=
  B ≤ b ∧ b < w.heap.size ∧ ∃ (s : Option Addr) (len cap p : Nat), w.cell? ⟨b, 0, none⟩ = some (.slice s len cap) ∧ w.cell? ⟨b, 1, none⟩ = some (.int .i64 p) ∧ w.frozen? ⟨b, 1, none⟩ = false ∧ p ≤ N ∧ len ≤ 2000 ∧ Bytes B w s len
/-- Behind a call that reads: the number is in bounds, the reader has read on, and nothing else has turned. -/
def Picked (B N b : Nat) (n : Int) (w : World) (e : Ending) (w' : World) : Prop :=
  ∃ x : Int, 0 ≤ x ∧ (1 ≤ n → x < n) ∧ e = .returned (.int .i64 x) ∧ Rd B N w' b ∧ w.grownBy w' (some b)

theorem Rd.mono {B N M : Nat} {w : World} {b : Nat} (h : Rd B N w b) (hN : N ≤ M) : Rd B M w b := by
  obtain ⟨h1, h2, s, len, cap, p, h3, h4, h5, h6, h7⟩ := h
  exact ⟨h1, h2, s, len, cap, p, h3, h4, h5, by omega, h7⟩
theorem grown_refl (w : World) (row : Option Nat) : w.grownBy w row := ⟨rfl, rfl, rfl, Nat.le_refl _, fun _ _ _ => rfl⟩
theorem grown_trans {a b c : World} {row : Option Nat} (h : a.grownBy b row) (k : b.grownBy c row) : a.grownBy c row :=
  ⟨k.os.trans h.os, k.tape.trans h.tape, k.output.trans h.output, Nat.le_trans h.size k.size, fun i hi hne => (k.block i (Nat.lt_of_lt_of_le hi h.size) hne).trans (h.block i hi hne)⟩
theorem grown_set (w : World) (b o : Nat) (v : Value) : w.grownBy (w.setCell ⟨b, o, none⟩ v) (some b) :=
  ⟨rfl, rfl, rfl, by simp [World.setCell], fun k _ hne => Below.heap_setCell _ _ _ _ (fun h => hne (by rw [h]))⟩
theorem grown_drewN {a w : World} {row : Option Nat} (h : a.grownBy w row) (n : Nat) : a.grownBy (w.drewN n) row := ⟨h.os, h.tape, h.output, h.size, h.block⟩
theorem grown_below {w w' : World} {B b : Nat} (h : w.grownBy w' (some b)) (hB : B ≤ b) (hw : B ≤ w.heap.size) : Below B w w' :=
  ⟨h.os, h.tape, h.output, h.size, fun k hk => h.block k (by omega) (fun e => by injection e; omega)⟩
theorem Bytes.below {B : Nat} {w w' : World} {s : Option Addr} {len : Nat} (h : Bytes B w s len) (hb : Below B w w') : Bytes B w' s len := by
  rcases h with h | ⟨sb, so, z, hs, hlt, hc, hz⟩
  · exact .inl h
  · exact .inr ⟨sb, so, z, hs, hlt, fun i hi => by rw [hb.cell (p := ⟨sb, so + i, none⟩) hlt]; exact hc i hi, hz⟩
theorem lt_of_cell {w : World} {a : Addr} {v : Value} (h : w.cell? a = some v) : a.block < w.heap.size := by
  by_cases hlt : a.block < w.heap.size
  · exact hlt
  · have : w.heap[a.block]? = none := Array.getElem?_eq_none (by omega)
    simp [World.cell?, this] at h

theorem pick_in (b p len cap sb so : Nat) (n z : Int) (w : World) (hb : b < w.heap.size) (h0 : w.cell? ⟨b, 0, none⟩ = some (.slice (some ⟨sb, so, none⟩) len cap)) (h1 : w.cell? ⟨b, 1, none⟩ = some (.int .i64 p)) (hf : w.frozen? ⟨b, 1, none⟩ = false)
   (hp : p ≤ 1000000000) (hl : len ≤ 2000) (n1 : 1 ≤ n) (hk : p < len) (hne : sb ≠ b) (hc : w.cell? ⟨sb, so + p, none⟩ = some (.int .u8 z)) (z0 : 0 ≤ z) (z1 : z ≤ 255) :
    Calls Try.prog 92 #[.pointer (some ⟨b, 0, none⟩), .int .i64 n] w fun e w' => e = .returned (.int .i64 (z % n)) ∧ w.setCell ⟨b, 1, none⟩ (.int .i64 (p + 1)) = w' := by
  have hz : ((len : Int) == 0) = false := by simp; omega
  have hne' : ¬ b = sb := by omega
  have hn : ¬ n < 1 := by omega
  have hk' : (p : Int) < (len : Int) := by omega
  go_enter Try.func92, Try.ntmps92
  go_wp2

  go_ret
  exact ⟨rfl, rfl⟩
theorem pick_none (b p len cap : Nat) (s : Option Addr) (n : Int) (w : World) (hb : b < w.heap.size) (h0 : w.cell? ⟨b, 0, none⟩ = some (.slice s len cap)) (h1 : w.cell? ⟨b, 1, none⟩ = some (.int .i64 p)) (hf : w.frozen? ⟨b, 1, none⟩ = false)
   (hp : p ≤ 1000000000) (hn : n < 1 ∨ len = 0) :
    Calls Try.prog 92 #[.pointer (some ⟨b, 0, none⟩), .int .i64 n] w fun e w' => e = .returned (.int .i64 0) ∧ w.setCell ⟨b, 1, none⟩ (.int .i64 (p + 1)) = w' := by
  by_cases h : n < 1
  · clear hn
    go_enter Try.func92, Try.ntmps92
    go_wp2
    go_ret
    exact ⟨rfl, rfl⟩
  · have hz : ((len : Int) == 0) = true := by simp; omega
    clear hn
    go_enter Try.func92, Try.ntmps92
    go_wp2
    go_ret
    exact ⟨rfl, rfl⟩

theorem xor_nonneg (a b : Int) (a0 : 0 ≤ a) (a1 : a < 4611686018427387904) (b0 : 0 ≤ b) (b1 : b < 4611686018427387904) : 0 ≤ bits .xor .i64 a b := by
  obtain ⟨A, rfl⟩ := Int.eq_ofNat_of_zero_le a0
  obtain ⟨C, rfl⟩ := Int.eq_ofNat_of_zero_le b0
  have hx : A ^^^ C < 2 ^ 62 := Nat.xor_lt_two_pow (by omega) (by omega)
  show 0 ≤ IntKind.i64.wrap ((BitVec.ofInt 64 (A : Int) ^^^ BitVec.ofInt 64 (C : Int)).toNat : Int)
  rw [BitVec.toNat_xor, ofInt_u64 A (by omega), ofInt_u64 C (by omega), IntWalk.i64_left, IntWalk.wrap64_in _ (by omega)]
  omega
/-- What a pick past the end leaves: a number in bounds; the count one higher; draws. -/
def OutPost (b p : Nat) (n : Int) (w : World) (e : Ending) (w' : World) : Prop :=
  ∃ (x : Int) (m : Nat), 0 ≤ x ∧ x < n ∧ e = .returned (.int .i64 x) ∧ (w.setCell ⟨b, 1, none⟩ (.int .i64 (p + 1))).drewN m = w'
theorem pick_out (b p len cap sb so : Nat) (n z y : Int) (w : World) (hb : b < w.heap.size) (h0 : w.cell? ⟨b, 0, none⟩ = some (.slice (some ⟨sb, so, none⟩) len cap)) (h1 : w.cell? ⟨b, 1, none⟩ = some (.int .i64 p)) (hf : w.frozen? ⟨b, 1, none⟩ = false)
   (hp : p ≤ 1000000000) (l0 : 1 ≤ len) (hl : len ≤ 2000) (n1 : 1 ≤ n) (hk : len ≤ p) (hne : sb ≠ b) (hc : w.cell? ⟨sb, so + p % len, none⟩ = some (.int .u8 z)) (z0 : 0 ≤ z) (z1 : z ≤ 255)
   (hd : w.cell? ⟨sb, so + (p * 7 + 3) % len, none⟩ = some (.int .u8 y)) (y0 : 0 ≤ y) (y1 : y ≤ 255) :
    Calls Try.prog 92 #[.pointer (some ⟨b, 0, none⟩), .int .i64 n] w (OutPost b p n w) := by
  have hz : ((len : Int) == 0) = false := by simp; omega
  have hne' : ¬ b = sb := by omega
  have hn : ¬ n < 1 := by omega
  have hk' : (len : Int) ≤ (p : Int) := by omega
  have m1 : ((p : Int) % (len : Int)) < (len : Int) := Int.emod_lt_of_pos _ (by omega)
  have m2 : 0 ≤ ((p : Int) % (len : Int)) := Int.emod_nonneg _ (by omega)
  have m3 : (((p : Int) * 7 + 3) % (len : Int)) < (len : Int) := Int.emod_lt_of_pos _ (by omega)
  have m4 : 0 ≤ (((p : Int) * 7 + 3) % (len : Int)) := Int.emod_nonneg _ (by omega)
  have d1 : 0 ≤ ((p : Int) / (len : Int)) := Int.ediv_nonneg (by omega) (by omega)
  have d2 : ((p : Int) / (len : Int)) ≤ (p : Int) := Int.ediv_le_self _ (by omega)
  have X := xor_nonneg (z * 131 + y * 1117 + ↑p * 29 + ↑p / ↑len * 53) ((z * 131 + y * 1117 + ↑p * 29 + ↑p / ↑len * 53) / 64) (by omega) (by omega) (by omega) (by omega)
  go_enter Try.func92, Try.ntmps92
  go_wp2_with fail
  go_quiet (fail)
  go_wp2
  go_ret
  exact ⟨_, _, Int.emod_nonneg _ (by omega), Int.emod_lt_of_pos _ (by omega), rfl, rfl⟩

theorem rd_on {B N b p len cap m : Nat} {s : Option Addr} {w : World} (hB : B ≤ b) (hb : b < w.heap.size) (h0 : w.cell? ⟨b, 0, none⟩ = some (.slice s len cap)) (h1 : w.cell? ⟨b, 1, none⟩ = some (.int .i64 p)) (hf : w.frozen? ⟨b, 1, none⟩ = false)
    (hp : p ≤ N) (hl : len ≤ 2000) (hy : Bytes B w s len) : Rd B (N + 1) ((w.setCell ⟨b, 1, none⟩ (.int .i64 (p + 1))).drewN m) b ∧ w.grownBy ((w.setCell ⟨b, 1, none⟩ (.int .i64 (p + 1))).drewN m) (some b) := by
  have hg : w.grownBy ((w.setCell ⟨b, 1, none⟩ (.int .i64 (p + 1))).drewN m) (some b) := grown_drewN (grown_set _ _ _ _) _
  refine ⟨⟨hB, Nat.lt_of_lt_of_le hb hg.size, s, len, cap, p + 1, ?_, ?_, ?_, by omega, hl, hy.below (grown_below hg hB (by omega))⟩, hg⟩
  · rw [World.cell?_drewN, World.cell?_setCell_other _ _ _ _ (by simp)]; exact h0
  · rw [World.cell?_drewN, World.cell?_setCell_same _ _ _ h1]; rfl
  · rw [World.frozen?_drewN, World.frozen?_setCell]; exact hf

theorem pick (B N b : Nat) (n : Int) (w : World) (h : Rd B N w b) (hN : N ≤ 1000000000) :
    Calls Try.prog 92 #[.pointer (some ⟨b, 0, none⟩), .int .i64 n] w (Picked B (N + 1) b n w) := by
  obtain ⟨hB, hb, s, len, cap, p, h0, h1, hf, hp, hl, hy⟩ := h
  by_cases hn : n < 1 ∨ len = 0
  · refine (pick_none b p len cap s n w hb h0 h1 hf (by omega) hn).mono ?_
    rintro e w' ⟨rfl, rfl⟩
    exact ⟨0, by omega, by omega, rfl, rd_on (m := 0) hB hb h0 h1 hf hp hl hy⟩
  · rcases hy with hy0 | hy0
    · omega
    · obtain ⟨sb, so, z, rfl, hlt, hc, hz⟩ := id hy0
      by_cases hk : p < len
      · refine (pick_in b p len cap sb so n (z p) w hb h0 h1 hf (by omega) hl (by omega) hk (by omega) (hc p hk) (hz p).1 (hz p).2).mono ?_
        rintro e w' ⟨rfl, rfl⟩
        exact ⟨_, Int.emod_nonneg _ (by omega), fun _ => Int.emod_lt_of_pos _ (by omega), rfl, rd_on (m := 0) hB hb h0 h1 hf hp hl (.inr hy0)⟩
      · have q1 : p % len < len := Nat.mod_lt _ (by omega)
        have q2 : (p * 7 + 3) % len < len := Nat.mod_lt _ (by omega)
        refine (pick_out b p len cap sb so n (z (p % len)) (z ((p * 7 + 3) % len)) w hb h0 h1 hf (by omega) (by omega) hl (by omega) (by omega) (by omega) (hc _ q1) (hz _).1 (hz _).2 (hc _ q2) (hz _).1 (hz _).2).mono ?_
        rintro e w' ⟨x, m, x0, x1, rfl, rfl⟩
        exact ⟨x, x0, fun _ => x1, rfl, rd_on hB hb h0 h1 hf hp hl (.inr hy0)⟩

/-- Behind 'odd': some answer. -/
def Odds (B N b : Nat) (w : World) (e : Ending) (w' : World) : Prop :=
  ∃ v : Bool, e = .returned (.bool v) ∧ Rd B N w' b ∧ w.grownBy w' (some b)
theorem odd (B N b : Nat) (n : Int) (w : World) (h : Rd B N w b) (hN : N ≤ 1000000000) (n0 : 1 ≤ n) (n1 : n ≤ 1000000000) :
    Calls Try.prog 90 #[.pointer (some ⟨b, 0, none⟩), .int .i64 n] w (Odds B (N + 1) b w) := by
  go_enter Try.func90, Try.ntmps90
  go_wp2_with fail
  refine (pick B N b n w h hN).mono ?_
  rintro e w' ⟨x, x0, x1, rfl, hr, hg⟩
  go_wp2
  go_ret
  exact ⟨_, rfl, hr, hg⟩

theorem bytes_of_row {w : World} {x : Addr} {len cap : Nat} {zs : List Int} (hl : len ≤ cap) (hz : zs.length = cap) (hcell : ∀ i, i < zs.length → w.cell? (x.add i) = some (.int .u8 (zs.getD i 0))) (hwz : ∀ n ∈ zs, (Lit.int .u8 n).wf = true) : Bytes w.heap.size w (some x) len := by
  by_cases h0 : len = 0
  · exact .inl h0
  · obtain ⟨b, off, spot⟩ := x
    have hc := hcell 0 (by omega)
    have hspot : spot = none := by simpa [Addr.add] using World.cell?_spot hc
    subst hspot
    refine .inr ⟨b, off, fun i => zs.getD i 0, rfl, lt_of_cell hc, fun i hi => ?_, fun i => ?_⟩
    · have := hcell i (by omega)
      rcases Nat.eq_zero_or_pos i with rfl | h
      · simpa [Addr.add] using this
      · simpa [Addr.add, show i ≠ 0 by omega] using this
    by_cases hi : i < zs.length
    · have hm : zs.getD i 0 ∈ zs := by simp [List.getD, List.getElem?_eq_getElem hi]
      have := hwz _ hm
      simp [Lit.wf, IntKind.min, IntKind.max, IntKind.bits, IntKind.signed] at this
      exact this
    · simp [List.getD, List.getElem?_eq_none (Nat.le_of_not_lt hi)]

/-- Behind l20Open: a reader in the next block. -/
def Opened (B : Nat) (w : World) (e : Ending) (w' : World) : Prop :=
  e = .returned (.pointer (some ⟨w.heap.size, 0, none⟩)) ∧ Rd B 0 w' w.heap.size ∧ Below w.heap.size w w'
theorem opened (B : Nat) (s : Option Addr) (len cap : Nat) (w : World) (t : TypeId) (hB : B ≤ w.heap.size) (hl : len ≤ 2000) (hy : Bytes B w s len) :
    Rd B 0 (w.alloc (.cells #[.slice s len cap, .int .i64 0] t)) w.heap.size ∧ Below w.heap.size w (w.alloc (.cells #[.slice s len cap, .int .i64 0] t)) := by
  have hb : Below w.heap.size w (w.alloc (.cells #[.slice s len cap, .int .i64 0] t)) := (Below.refl _ _).alloc (Nat.le_refl _) _
  exact ⟨⟨hB, by simp, s, len, cap, 0, by simp, by simp, by simp, Nat.le_refl _, hl, hy.below (hb.mono hB)⟩, hb⟩
theorem l20Open (B : Nat) (s : Option Addr) (len cap : Nat) (w : World) (hB : B ≤ w.heap.size) (hlc : len ≤ cap) (hcap : cap ≤ maxLen) (hy : Bytes B w s len) (hs : s = none → len = 0) :
    Calls Try.prog 84 #[.slice s len cap] w (Opened B w) := by
  unfold maxLen at hcap
  by_cases hl : 2000 < len
  · obtain ⟨a, rfl⟩ : ∃ a, s = some a := by cases s <;> simp_all
    clear hs
    have hl' : (2000 : Int) < (len : Int) := by omega
    have hy' : Bytes B w (some a) 2000 := by
      rcases hy with h | ⟨sb, so, z, hs, hlt, hc, hz⟩
      · omega
      · exact .inr ⟨sb, so, z, hs, hlt, fun i hi => hc i (by omega), hz⟩
    go_enter Try.func84, Try.ntmps84
    go_wp2
    go_ret
    exact ⟨rfl, opened B (some a) 2000 cap w _ hB (by omega) hy'⟩
  · have hl' : ¬ (2000 : Int) < (len : Int) := by omega
    clear hs
    go_enter Try.func84, Try.ntmps84
    go_wp2
    go_ret
    exact ⟨rfl, opened B s len cap w _ hB (by omega) hy⟩

theorem row_at {w w1 : World} {b : Nat} {c : Array Value} {t : TypeId} (hb : b < w.heap.size) (hg : (w.alloc (.cells c t)).grownBy w1 (some b)) (i : Nat) : w1.cell? ⟨w.heap.size, i, none⟩ = c[i]? := by
  have := hg.block w.heap.size (by simp) (fun e => by injection e; omega)
  rw [World.cell?_of_block (w := w.alloc (.cells c t)) this]
  simp
theorem Rd.alloc {B N b : Nat} {w : World} (h : Rd B N w b) (o : Obj) : Rd B N (w.alloc o) b := by
  obtain ⟨h1, h2, s, len, cap, p, h3, h4, h5, h6, h7, h8⟩ := h
  have hb : Below w.heap.size w (w.alloc o) := (Below.refl _ _).alloc (Nat.le_refl _) _
  exact ⟨h1, by simp; omega, s, len, cap, p, by rw [hb.cell h2]; exact h3, by rw [hb.cell h2]; exact h4, by rw [hb.frozen h2]; exact h5, h6, h7, h8.below (hb.mono (by omega))⟩
theorem Rd.lt {B N b : Nat} {w : World} (h : Rd B N w b) : b < w.heap.size := h.2.1
theorem Rd.ge {B N b : Nat} {w : World} (h : Rd B N w b) : B ≤ b := h.1

/-- A code that came in: its bytes lie below B. -/
def Code1 (B : Nat) (w : World) (s : Option Addr) (len cap : Nat) : Prop := B ≤ w.heap.size ∧ len ≤ cap ∧ cap ≤ maxLen ∧ Bytes B w s len ∧ (s = none → len = 0)
theorem Code1.below {B : Nat} {w w' : World} {s : Option Addr} {len cap : Nat} (h : Code1 B w s len cap) (hb : Below B w w') : Code1 B w' s len cap :=
  ⟨Nat.le_trans h.1 hb.size, h.2.1, h.2.2.1, h.2.2.2.1.below hb, h.2.2.2.2⟩
theorem opens (B : Nat) (s : Option Addr) (len cap : Nat) (w : World) (h : Code1 B w s len cap) : Calls Try.prog 84 #[.slice s len cap] w (Opened B w) :=
  l20Open B s len cap w h.1 h.2.1 h.2.2.1 h.2.2.2.1 h.2.2.2.2
/-- What was drawn, and no old block turned. -/
def One (B : Nat) (w : World) (e : Ending) (w' : World) : Prop := ∃ n : Int, e = .returned (.int .i64 n) ∧ Below B w w'
def Two (B : Nat) (w : World) (e : Ending) (w' : World) : Prop := ∃ n m : Int, e = .returned (.tuple #[.int .i64 n, .int .i64 m]) ∧ Below B w w'
def Three (B : Nat) (w : World) (e : Ending) (w' : World) : Prop := ∃ n m k : Int, e = .returned (.tuple #[.int .i64 n, .int .i64 m, .int .i64 k]) ∧ Below B w w'
end Go.Proofs.Ytoacgjjpipdkjaa
