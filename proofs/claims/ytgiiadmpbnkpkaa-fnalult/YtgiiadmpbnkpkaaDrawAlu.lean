/- DrawAluDo: a region that draws its order, with calls, new rows and loads in it. -/
import Derived.Test.YtgiiadmpbnkpkaaDraws1
import Derived.Test.YtgiiadmpbnkpkaaRegion
namespace Go.Proofs.Ytgiiadmpbnkpkaa
open Go.RowKit
set_option linter.unusedVariables false
set_option maxRecDepth 100000

theorem arr22 : ∀ (xs : Array Value), xs.size = 22 → ∃ t0 t1 t2 t3 t4 t5 t6 t7 t8 t9 t10 t11 t12 t13 t14 t15 t16 t17 t18 t19 t20 t21, xs = #[t0, t1, t2, t3, t4, t5, t6, t7, t8, t9, t10, t11, t12, t13, t14, t15, t16, t17, t18, t19, t20, t21]
  | ⟨[t0, t1, t2, t3, t4, t5, t6, t7, t8, t9, t10, t11, t12, t13, t14, t15, t16, t17, t18, t19, t20, t21]⟩, _ => ⟨t0, t1, t2, t3, t4, t5, t6, t7, t8, t9, t10, t11, t12, t13, t14, t15, t16, t17, t18, t19, t20, t21, rfl⟩
theorem act22 {ops : Array Oper} {a0 a : Act} (hL : Like ops a0 a) (hn : a0.tmps.size = 22) (hd : a0.defers = []) : ∃ t0 t1 t2 t3 t4 t5 t6 t7 t8 t9 t10 t11 t12 t13 t14 t15 t16 t17 t18 t19 t20 t21, a = ⟨#[t0, t1, t2, t3, t4, t5, t6, t7, t8, t9, t10, t11, t12, t13, t14, t15, t16, t17, t18, t19, t20, t21], []⟩ := by
  obtain ⟨tm, df⟩ := a
  obtain ⟨t0, t1, t2, t3, t4, t5, t6, t7, t8, t9, t10, t11, t12, t13, t14, t15, t16, t17, t18, t19, t20, t21, h⟩ := arr22 tm (hL.2.1.trans hn)
  obtain rfl : df = [] := hL.1.trans hd
  exact ⟨t0, t1, t2, t3, t4, t5, t6, t7, t8, t9, t10, t11, t12, t13, t14, t15, t16, t17, t18, t19, t20, t21, by rw [h]⟩
def aluKinds : Nat → SK
  | 0 => .ptr
  | 1 => .int (fun x => 0 ≤ x ∧ x < 8)
  | 2 => .row 3 (fun _ => True)
  | 3 => .row 8 (fun x => 0 ≤ x ∧ x < 3)
  | 4 => .ptr
  | 5 => .int (fun x => 0 ≤ x ∧ x < 8)
  | 6 => .cell (fun x => 0 ≤ x ∧ x < 3)
  | 7 => .int (fun x => 0 ≤ x ∧ x < 3)
  | 8 => .cell (fun _ => True)
  | 10 => .ptr
  | 12 => .ptr
  | _ => .int (fun _ => True)
theorem int_some {v : Value} (h : ∃ x : Int, True ∧ v = .int .i64 x) : ∃ x : Int, v = .int .i64 x := by
  obtain ⟨x, _, hx⟩ := h
  exact ⟨x, hx⟩
set_option maxHeartbeats 4000000 in
theorem DrawAluDo (B : Nat) (s : Option Addr) (len cap : Nat) (w : World) (h : Code1 B w s len cap) : Calls Try.prog 26 #[.slice s len cap] w (Three B w) := by
  have hB := h.1
  go_enter Try.func26, Try.ntmps26
  go_wp2_with fail
  refine (opens B s len cap w h).mono ?_
  rintro e w1 ⟨rfl, r1, b1⟩
  go_wp2_with fail
  refine wp_region_plan w.heap.size 22 (fun f u => ∃ N, N + 20 * f ≤ 1000 ∧ Rd B N u w.heap.size) (fun i v u => (aluKinds i).holds w.heap.size v u) (by kernel_rfl) (by kernel_rfl) rfl (by kernel_rfl) (fun i v u u' hh hg => SK.mono hh hg) ⟨0, by simp, r1⟩ ?_ ?_
  · intro i o ho
    rcases i with _ | _ | _ | _ | _ | _ | _ | _ | _ | _ | _ | _ | _ | _ | _ | _ | _ | i
    · -- operation 0
      cases ho
      intro f a u hW0 hsz hL hdep
      obtain ⟨N, hN, hW⟩ := hW0
      have s5 := hL.slot 5 (by kernel_rfl)
      obtain ⟨t0, t1, t2, t3, t4, t5, t6, t7, t8, t9, t10, t11, t12, t13, t14, t15, t16, t17, t18, t19, t20, t21, rfl⟩ := act22 hL rfl rfl
      obtain rfl : t5 = _ := s5
      refine wpOp_step rfl (fun K hK => ?_)
      go_simp
      exact hK _ _ ⟨_, rfl, rfl, grown_refl _ _, ⟨N, by omega, hW⟩⟩
    · -- operation 1
      cases ho
      intro f a u hW0 hsz hL hdep
      obtain ⟨N, hN, hW⟩ := hW0
      have d0 := hdep { on := 0, ground := .data } (by simp) rfl _ rfl
      obtain ⟨t0, t1, t2, t3, t4, t5, t6, t7, t8, t9, t10, t11, t12, t13, t14, t15, t16, t17, t18, t19, t20, t21, rfl⟩ := act22 hL rfl rfl
      obtain rfl : t8 = _ := d0
      refine wpOp_step rfl (fun K hK => ?_)
      go_simp
      refine (pick B _ _ _ u hW (by omega)).mono ?_
      rintro e u' ⟨x, x0, x1, rfl, r, g⟩
      go_simp
      exact hK _ _ ⟨_, rfl, ⟨x, ⟨x0, x1 (by omega)⟩, rfl⟩, g, ⟨_, by omega, r⟩⟩
    · -- operation 2
      cases ho
      intro f a u hW0 hsz hL hdep
      obtain ⟨N, hN, hW⟩ := hW0
      have d1 := hdep { on := 1, ground := .data } (by simp) rfl _ rfl
      obtain ⟨t0, t1, t2, t3, t4, t5, t6, t7, t8, t9, t10, t11, t12, t13, t14, t15, t16, t17, t18, t19, t20, t21, rfl⟩ := act22 hL rfl rfl
      obtain ⟨x, _, hx⟩ := d1
      obtain rfl : t9 = _ := hx
      refine wpOp_step rfl (fun K hK => ?_)
      go_simp
      refine hK _ _ ⟨_, rfl, ⟨u.heap.size, hW.lt, by simp, rfl, fun i hi => ?_⟩, World.grownBy_alloc _ _ _, ⟨N, by omega, hW.alloc _⟩⟩
      have : i = 0 ∨ i = 1 ∨ i = 2 := by omega
      rcases this with rfl | rfl | rfl
      · exact ⟨x, trivial, by simp⟩
      · exact ⟨8, trivial, by simp⟩
      · exact ⟨-1, trivial, by simp⟩
    · -- operation 3
      cases ho
      intro f a u hW0 hsz hL hdep
      obtain ⟨N, hN, hW⟩ := hW0
      obtain ⟨t0, t1, t2, t3, t4, t5, t6, t7, t8, t9, t10, t11, t12, t13, t14, t15, t16, t17, t18, t19, t20, t21, rfl⟩ := act22 hL rfl rfl
      refine wpOp_step rfl (fun K hK => ?_)
      go_simp
      refine hK _ _ ⟨_, rfl, ⟨u.heap.size, hW.lt, by simp, rfl, fun i hi => ?_⟩, World.grownBy_alloc _ _ _, ⟨N, by omega, hW.alloc _⟩⟩
      have : i = 0 ∨ i = 1 ∨ i = 2 ∨ i = 3 ∨ i = 4 ∨ i = 5 ∨ i = 6 ∨ i = 7 := by omega
      rcases this with rfl | rfl | rfl | rfl | rfl | rfl | rfl | rfl
      · exact ⟨0, ⟨by omega, by omega⟩, by simp⟩
      · exact ⟨0, ⟨by omega, by omega⟩, by simp⟩
      · exact ⟨0, ⟨by omega, by omega⟩, by simp⟩
      · exact ⟨0, ⟨by omega, by omega⟩, by simp⟩
      · exact ⟨0, ⟨by omega, by omega⟩, by simp⟩
      · exact ⟨0, ⟨by omega, by omega⟩, by simp⟩
      · exact ⟨1, ⟨by omega, by omega⟩, by simp⟩
      · exact ⟨2, ⟨by omega, by omega⟩, by simp⟩
    · -- operation 4
      cases ho
      intro f a u hW0 hsz hL hdep
      obtain ⟨N, hN, hW⟩ := hW0
      have s5 := hL.slot 5 (by kernel_rfl)
      obtain ⟨t0, t1, t2, t3, t4, t5, t6, t7, t8, t9, t10, t11, t12, t13, t14, t15, t16, t17, t18, t19, t20, t21, rfl⟩ := act22 hL rfl rfl
      obtain rfl : t5 = _ := s5
      refine wpOp_step rfl (fun K hK => ?_)
      go_simp
      exact hK _ _ ⟨_, rfl, rfl, grown_refl _ _, ⟨N, by omega, hW⟩⟩
    · -- operation 5
      cases ho
      intro f a u hW0 hsz hL hdep
      obtain ⟨N, hN, hW⟩ := hW0
      have d4 := hdep { on := 4, ground := .data } (by simp) rfl _ rfl
      obtain ⟨t0, t1, t2, t3, t4, t5, t6, t7, t8, t9, t10, t11, t12, t13, t14, t15, t16, t17, t18, t19, t20, t21, rfl⟩ := act22 hL rfl rfl
      obtain rfl : t12 = _ := d4
      refine wpOp_step rfl (fun K hK => ?_)
      go_simp
      refine (pick B _ _ _ u hW (by omega)).mono ?_
      rintro e u' ⟨x, x0, x1, rfl, r, g⟩
      go_simp
      exact hK _ _ ⟨_, rfl, ⟨x, ⟨x0, x1 (by omega)⟩, rfl⟩, g, ⟨_, by omega, r⟩⟩
    · -- operation 6
      cases ho
      intro f a u hW0 hsz hL hdep
      obtain ⟨N, hN, hW⟩ := hW0
      have d3 := hdep { on := 3, ground := .data } (by simp) rfl _ rfl
      have d5 := hdep { on := 5, ground := .data } (by simp) rfl _ rfl
      obtain ⟨t0, t1, t2, t3, t4, t5, t6, t7, t8, t9, t10, t11, t12, t13, t14, t15, t16, t17, t18, t19, t20, t21, rfl⟩ := act22 hL rfl rfl
      obtain ⟨g, g0, g1, hg, hc⟩ := d3
      obtain rfl : t11 = _ := hg
      obtain ⟨x, ⟨x0, x1⟩, hx⟩ := d5
      obtain rfl : t13 = _ := hx
      obtain ⟨n, hn, hcell⟩ := hc x.toNat (by omega)
      refine wpOp_step rfl (fun K hK => ?_)
      go_simp
      exact hK _ _ ⟨_, rfl, ⟨g, x.toNat, g0, g1, rfl, n, hn, hcell⟩, grown_refl _ _, ⟨N, by omega, hW⟩⟩
    · -- operation 7
      cases ho
      intro f a u hW0 hsz hL hdep
      obtain ⟨N, hN, hW⟩ := hW0
      have d6 := hdep { on := 6, ground := .data } (by simp) rfl _ rfl
      obtain ⟨t0, t1, t2, t3, t4, t5, t6, t7, t8, t9, t10, t11, t12, t13, t14, t15, t16, t17, t18, t19, t20, t21, rfl⟩ := act22 hL rfl rfl
      obtain ⟨g, o, g0, g1, hg, n, hn, hcell⟩ := d6
      obtain rfl : t14 = _ := hg
      refine wpOp_step rfl (fun K hK => ?_)
      go_simp
      exact hK _ _ ⟨_, rfl, ⟨n, hn, rfl⟩, grown_refl _ _, ⟨N, by omega, hW⟩⟩
    · -- operation 8
      cases ho
      intro f a u hW0 hsz hL hdep
      obtain ⟨N, hN, hW⟩ := hW0
      have d2 := hdep { on := 2, ground := .data } (by simp) rfl _ rfl
      have d7 := hdep { on := 7, ground := .data } (by simp) rfl _ rfl
      obtain ⟨t0, t1, t2, t3, t4, t5, t6, t7, t8, t9, t10, t11, t12, t13, t14, t15, t16, t17, t18, t19, t20, t21, rfl⟩ := act22 hL rfl rfl
      obtain ⟨g, g0, g1, hg, hc⟩ := d2
      obtain rfl : t10 = _ := hg
      obtain ⟨x, ⟨x0, x1⟩, hx⟩ := d7
      obtain rfl : t15 = _ := hx
      obtain ⟨n, hn, hcell⟩ := hc x.toNat (by omega)
      refine wpOp_step rfl (fun K hK => ?_)
      go_simp
      exact hK _ _ ⟨_, rfl, ⟨g, x.toNat, g0, g1, rfl, n, hn, hcell⟩, grown_refl _ _, ⟨N, by omega, hW⟩⟩
    · -- operation 9
      cases ho
      intro f a u hW0 hsz hL hdep
      obtain ⟨N, hN, hW⟩ := hW0
      have d8 := hdep { on := 8, ground := .data } (by simp) rfl _ rfl
      obtain ⟨t0, t1, t2, t3, t4, t5, t6, t7, t8, t9, t10, t11, t12, t13, t14, t15, t16, t17, t18, t19, t20, t21, rfl⟩ := act22 hL rfl rfl
      obtain ⟨g, o, g0, g1, hg, n, hn, hcell⟩ := d8
      obtain rfl : t16 = _ := hg
      refine wpOp_step rfl (fun K hK => ?_)
      go_simp
      exact hK _ _ ⟨_, rfl, ⟨n, hn, rfl⟩, grown_refl _ _, ⟨N, by omega, hW⟩⟩
    · -- operation 10
      cases ho
      intro f a u hW0 hsz hL hdep
      obtain ⟨N, hN, hW⟩ := hW0
      have s5 := hL.slot 5 (by kernel_rfl)
      obtain ⟨t0, t1, t2, t3, t4, t5, t6, t7, t8, t9, t10, t11, t12, t13, t14, t15, t16, t17, t18, t19, t20, t21, rfl⟩ := act22 hL rfl rfl
      obtain rfl : t5 = _ := s5
      refine wpOp_step rfl (fun K hK => ?_)
      go_simp
      exact hK _ _ ⟨_, rfl, rfl, grown_refl _ _, ⟨N, by omega, hW⟩⟩
    · -- operation 11
      cases ho
      intro f a u hW0 hsz hL hdep
      obtain ⟨N, hN, hW⟩ := hW0
      have d10 := hdep { on := 10, ground := .data } (by simp) rfl _ rfl
      obtain ⟨t0, t1, t2, t3, t4, t5, t6, t7, t8, t9, t10, t11, t12, t13, t14, t15, t16, t17, t18, t19, t20, t21, rfl⟩ := act22 hL rfl rfl
      obtain rfl : t18 = _ := d10
      refine wpOp_step rfl (fun K hK => ?_)
      go_simp
      refine (l20Word B _ _ _ u hW (by omega) (by omega) (by omega)).mono ?_
      rintro e u' ⟨x, rfl, r, g⟩
      go_simp
      exact hK _ _ ⟨_, rfl, ⟨x, trivial, rfl⟩, g, ⟨_, by omega, r⟩⟩
    · -- operation 12
      cases ho
      intro f a u hW0 hsz hL hdep
      obtain ⟨N, hN, hW⟩ := hW0
      have s5 := hL.slot 5 (by kernel_rfl)
      obtain ⟨t0, t1, t2, t3, t4, t5, t6, t7, t8, t9, t10, t11, t12, t13, t14, t15, t16, t17, t18, t19, t20, t21, rfl⟩ := act22 hL rfl rfl
      obtain rfl : t5 = _ := s5
      refine wpOp_step rfl (fun K hK => ?_)
      go_simp
      exact hK _ _ ⟨_, rfl, rfl, grown_refl _ _, ⟨N, by omega, hW⟩⟩
    · -- operation 13
      cases ho
      intro f a u hW0 hsz hL hdep
      obtain ⟨N, hN, hW⟩ := hW0
      have d12 := hdep { on := 12, ground := .data } (by simp) rfl _ rfl
      obtain ⟨t0, t1, t2, t3, t4, t5, t6, t7, t8, t9, t10, t11, t12, t13, t14, t15, t16, t17, t18, t19, t20, t21, rfl⟩ := act22 hL rfl rfl
      obtain rfl : t20 = _ := d12
      refine wpOp_step rfl (fun K hK => ?_)
      go_simp
      refine (l20Word B _ _ _ u hW (by omega) (by omega) (by omega)).mono ?_
      rintro e u' ⟨x, rfl, r, g⟩
      go_simp
      exact hK _ _ ⟨_, rfl, ⟨x, trivial, rfl⟩, g, ⟨_, by omega, r⟩⟩
    · -- operation 14
      cases ho
      intro f a u hW0 hsz hL hdep
      obtain ⟨N, hN, hW⟩ := hW0
      have d9 := hdep { on := 9, ground := .data } (by simp) rfl _ rfl
      obtain ⟨t0, t1, t2, t3, t4, t5, t6, t7, t8, t9, t10, t11, t12, t13, t14, t15, t16, t17, t18, t19, t20, t21, rfl⟩ := act22 hL rfl rfl
      obtain ⟨x, _, hx⟩ := d9
      obtain rfl : t17 = _ := hx
      refine wpOp_step rfl (fun K hK => ?_)
      go_simp
      exact hK _ _ ⟨_, rfl, ⟨x, trivial, rfl⟩, grown_refl _ _, ⟨N, by omega, hW⟩⟩
    · -- operation 15
      cases ho
      intro f a u hW0 hsz hL hdep
      obtain ⟨N, hN, hW⟩ := hW0
      have d11 := hdep { on := 11, ground := .data } (by simp) rfl _ rfl
      obtain ⟨t0, t1, t2, t3, t4, t5, t6, t7, t8, t9, t10, t11, t12, t13, t14, t15, t16, t17, t18, t19, t20, t21, rfl⟩ := act22 hL rfl rfl
      obtain ⟨x, _, hx⟩ := d11
      obtain rfl : t19 = _ := hx
      refine wpOp_step rfl (fun K hK => ?_)
      go_simp
      exact hK _ _ ⟨_, rfl, ⟨x, trivial, rfl⟩, grown_refl _ _, ⟨N, by omega, hW⟩⟩
    · -- operation 16
      cases ho
      intro f a u hW0 hsz hL hdep
      obtain ⟨N, hN, hW⟩ := hW0
      have d13 := hdep { on := 13, ground := .data } (by simp) rfl _ rfl
      obtain ⟨t0, t1, t2, t3, t4, t5, t6, t7, t8, t9, t10, t11, t12, t13, t14, t15, t16, t17, t18, t19, t20, t21, rfl⟩ := act22 hL rfl rfl
      obtain ⟨x, _, hx⟩ := d13
      obtain rfl : t21 = _ := hx
      refine wpOp_step rfl (fun K hK => ?_)
      go_simp
      exact hK _ _ ⟨_, rfl, ⟨x, trivial, rfl⟩, grown_refl _ _, ⟨N, by omega, hW⟩⟩
    · exact absurd ho (by simp)
  · intro f a u hW hg hL hF
    obtain ⟨x, hx⟩ := int_some (hF 14 _ rfl)
    obtain ⟨y, hy⟩ := int_some (hF 15 _ rfl)
    obtain ⟨z, hz⟩ := int_some (hF 16 _ rfl)
    clear hF
    obtain ⟨t0, t1, t2, t3, t4, t5, t6, t7, t8, t9, t10, t11, t12, t13, t14, t15, t16, t17, t18, t19, t20, t21, rfl⟩ := act22 hL rfl rfl
    obtain rfl : t2 = _ := hx
    obtain rfl : t3 = _ := hy
    obtain rfl : t4 = _ := hz
    clear hL hW
    go_wp2
    go_ret3
    exact ⟨x, y, z, rfl, below_of hB b1 hg⟩
end Go.Proofs.Ytgiiadmpbnkpkaa
