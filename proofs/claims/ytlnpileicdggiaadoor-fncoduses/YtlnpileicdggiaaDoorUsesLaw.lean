/- What the law on CodUses asks: haIn; what the slots of its two regions hold. -/
import Derived.Test.YtlnpileicdggiaaDoorCodUsesS
import Derived.Test.YtlnpileicdggiaaDoorRows2
import Derived.Test.YtlnpileicdggiaaDoorCodGives
import Derived.Test.YtlnpileicdggiaaDoorCodUp
import Derived.Test.YtlnpileicdggiaaDoorCodFacts
import Derived.Test.YtlnpileicdggiaaDoorRegion
namespace Go.Proofs.YtlnpileicdggiaaDoor
open Go.RowKit
set_option linter.unusedVariables false
set_option maxHeartbeats 2000000 in
theorem laws_haIn (B : Nat) (u : World) (v : Value) (n : Nat) (c : Nat → Int) (ao : Option Addr) (cap : Nat) (z : Int) (h : Sl B u v n c ao cap) (hn : n ≤ 1000) (p0 : Nat) (hp0 : p0 < n) (hz : c p0 = z) :
    Calls Tryd.prog 29 #[v, .int .i64 z] u fun e u' => e = .returned (.bool true) ∧ u = u' := by
  obtain rfl := h.val
  obtain ⟨g, rfl, _, _, hc, _⟩ := h.at0 (by omega)
  have HC := Lib.hid hc
  have HZ := Lib.hid hz
  clear h hc hz
  go_enter Tryd.func29, Tryd.ntmps29
  go_wp2_with fail
  go_loopw [5] (fun i wr => ∃ p : Nat, p ≤ p0 ∧ i = .int .i64 p ∧ u = wr) (fun i _ => n - (intOf i).toNat)
  case atStart => exact ⟨0, Nat.zero_le _, rfl, rfl⟩
  case round =>
    obtain ⟨p, hp, rfl, rfl⟩ := hrel
    have d1 := HC.out p (by omega)
    have hlt' : (p : Int) < (n : Int) := by omega
    cases e : (c p == z)
    · have hne : p ≠ p0 := fun h => by rw [h, HZ.out] at e; simp at e
      go_wp2
      go_roundw
      case rel => exact ⟨p + 1, by omega, by go_num, trivial⟩
      case measure => simp [intOf]; omega
    · go_wp2
      go_ret
      exact ⟨rfl, rfl⟩
theorem Sl.grown {B : Nat} {u u' : World} {v : Value} {n : Nat} {c : Nat → Int} {ao : Option Addr} {cap : Nat} (h : Sl B u v n c ao cap) (hB : 0 < B) (f : u.grownBy u' (some 0)) : Sl B u' v n c ao cap := by
  refine ⟨h.val, fun h0 => ?_⟩
  obtain ⟨g, e, hg, hl, hc, hf⟩ := h.at0 h0
  have hb := f.block g hl (fun e => by injection e; omega)
  exact ⟨g, e, hg, Nat.lt_of_lt_of_le hl f.size, fun i hi => by rw [World.cell?_of_block (w := u) hb]; exact hc i hi, fun i hi => by rw [World.frozen?_of_block (w := u) hb]; exact hf i hi⟩
theorem Sl.lowB {B B' : Nat} {u : World} {v : Value} {n : Nat} {c : Nat → Int} {ao : Option Addr} {cap : Nat} (h : Sl B u v n c ao cap) (hB : B' ≤ B) : Sl B' u v n c ao cap := by
  refine ⟨h.val, fun h0 => ?_⟩
  obtain ⟨g, e, hg, r⟩ := h.at0 h0
  exact ⟨g, e, by omega, r⟩
theorem grown_fr {u u' : World} (f : Fr u u') : u.grownBy u' (some 0) := ⟨f.os, f.tape, f.output, f.size, fun k hk _ => f.block k hk⟩
/-- The slots of the test 'haInts(list, spec.CodUses(c))' and of the two CodGives. -/
def K6 (V C D : Value) (L : List Int) (B : Nat) (z : Int) : Nat → Value → World → Prop
  | 0, v, _ => v = V
  | 1, v, _ => v = C
  | 2, v, u => ∃ ao cap, Sl B u v L.length (fun i => L.getD i 0) ao cap
  | 3, v, _ => v = .bool true
  | 4, v, _ => v = .bool false
  | 5, v, _ => v = .bool false
  | 6, v, _ => v = D
  | 7, v, _ => v = .int .i64 z
  | 8, v, _ => v = D
  | 9, v, _ => v = .int .i64 z
  | 10, v, _ => v = .bool false
  | 11, v, _ => v = .bool false
  | _, _, _ => True
theorem K6.mono {V C D : Value} {L : List Int} {B : Nat} {z : Int} (hB : 0 < B) (i : Nat) (v : Value) (u u' : World) (h : K6 V C D L B z i v u) (g : u.grownBy u' (some 0)) : K6 V C D L B z i v u' := by
  match i, h with
  | 0, h => exact h
  | 1, h => exact h
  | 2, h => obtain ⟨ao, cap, h⟩ := h; exact ⟨ao, cap, h.grown hB g⟩
  | 3, h => exact h
  | 4, h => exact h
  | 5, h => exact h
  | 6, h => exact h
  | 7, h => exact h
  | 8, h => exact h
  | 9, h => exact h
  | 10, h => exact h
  | 11, h => exact h
  | _ + 12, h => trivial
/-- What the registers that an instruction takes are. -/
theorem us_facts {k d a b f n : Int} (h : iok k d a b f n = true) : ((usL k d a b f n).length ≤ 2) ∧ (∀ p, p < (usL k d a b f n).length → 1 ≤ (usL k d a b f n).getD p 0 ∧ (usL k d a b f n).getD p 0 < 8 ∧ (0 < p → (usL k d a b f n).getD (p - 1) 0 < (usL k d a b f n).getD p 0) ∧ ((usL k d a b f n).getD p 0 = a ∨ (usL k d a b f n).getD p 0 = b)) ∧
    (¬ a = 0 → ∃ p, p < (usL k d a b f n).length ∧ (usL k d a b f n).getD p 0 = a) ∧ (¬ b = 0 → ∃ p, p < (usL k d a b f n).length ∧ (usL k d a b f n).getD p 0 = b) := by
  have hs : sok k d a b f n = true := by rw [sok_eq]; exact h
  obtain ⟨_, ⟨a0, a1⟩, ⟨b0, b1⟩, _, _⟩ := sok_bd hs
  rw [usL_t h]
  have key : ∀ lo hi : Int, 0 ≤ lo → hi < 8 → lo ≤ hi → ((us2 lo hi).length ≤ 2) ∧ (∀ p, p < (us2 lo hi).length → 1 ≤ (us2 lo hi).getD p 0 ∧ (us2 lo hi).getD p 0 < 8 ∧ (0 < p → (us2 lo hi).getD (p - 1) 0 < (us2 lo hi).getD p 0) ∧ ((us2 lo hi).getD p 0 = lo ∨ (us2 lo hi).getD p 0 = hi)) ∧
      (¬ lo = 0 → ∃ p, p < (us2 lo hi).length ∧ (us2 lo hi).getD p 0 = lo) ∧ (¬ hi = 0 → ∃ p, p < (us2 lo hi).length ∧ (us2 lo hi).getD p 0 = hi) := by
    intro lo hi l0 h8 hlh
    unfold us2
    by_cases e1 : lo = 0
    · by_cases e2 : hi = lo
      · simp [e1, e2]
      · rw [if_pos e1, if_neg e2]
        refine ⟨by simp, fun p hp => ?_, fun h => absurd e1 h, fun _ => ⟨0, by simp, by simp⟩⟩
        have : p = 0 := by simp at hp; omega
        subst this
        simp; omega
    · by_cases e2 : hi = lo
      · rw [if_neg e1, if_pos e2]
        refine ⟨by simp, fun p hp => ?_, fun _ => ⟨0, by simp, by simp⟩, fun _ => ⟨0, by simp, by simp [e2]⟩⟩
        have : p = 0 := by simp at hp; omega
        subst this
        simp; omega
      · rw [if_neg e1, if_neg e2]
        refine ⟨by simp, fun p hp => ?_, fun _ => ⟨0, by simp, by simp⟩, fun _ => ⟨1, by simp, by simp⟩⟩
        have : p = 0 ∨ p = 1 := by simp at hp; omega
        rcases this with rfl | rfl
        · simp; omega
        · simp; omega
  rcases Int.le_total a b with hab | hab
  · rw [Int.min_eq_left hab, Int.max_eq_right hab]
    exact key a b a0 (by omega) hab
  · rw [Int.min_eq_right hab, Int.max_eq_left hab]
    obtain ⟨h1, h2, h3, h4⟩ := key b a b0 (by omega) hab
    exact ⟨h1, fun p hp => ⟨(h2 p hp).1, (h2 p hp).2.1, (h2 p hp).2.2.1, (h2 p hp).2.2.2.symm⟩, h4, h3⟩
/-- The slots of the law's last test. -/
def K15 (V C : Value) (g : Nat) (a b d : Int) (ea eb : Bool) : Nat → Value → World → Prop
  | 0, v, _ => v = .pointer (some ⟨g, 2, none⟩)
  | 1, v, _ => v = .int .i64 a
  | 2, v, _ => v = .bool ea
  | 3, v, _ => v = .bool ea
  | 4, v, _ => ea = false → v = V
  | 5, v, _ => ea = false → v = .pointer (some ⟨g, 2, none⟩)
  | 6, v, _ => ea = false → v = .int .i64 a
  | 7, v, _ => ea = false → v = .bool true
  | 10, v, _ => v = .pointer (some ⟨g, 3, none⟩)
  | 11, v, _ => v = .int .i64 b
  | 12, v, _ => v = .bool eb
  | 13, v, _ => v = .bool eb
  | 14, v, _ => eb = false → v = V
  | 15, v, _ => eb = false → v = .pointer (some ⟨g, 3, none⟩)
  | 16, v, _ => eb = false → v = .int .i64 b
  | 17, v, _ => eb = false → v = .bool true
  | 21, v, _ => v = C
  | 22, v, _ => v = .int .i64 d
  | 23, v, _ => v = .pointer (some ⟨g, 1, none⟩)
  | 24, v, _ => v = .int .i64 d
  | _, v, _ => v = .bool true
theorem K15.mono {V C : Value} {g : Nat} {a b d : Int} {ea eb : Bool} (i : Nat) (v : Value) (u u' : World) (h : K15 V C g a b d ea eb i v u) (_ : u.grownBy u' (some 0)) : K15 V C g a b d ea eb i v u' := by
  unfold K15 at *
  split at h <;> simp_all
end Go.Proofs.YtlnpileicdggiaaDoor
