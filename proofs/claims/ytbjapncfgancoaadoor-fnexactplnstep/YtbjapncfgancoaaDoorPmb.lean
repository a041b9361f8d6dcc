/- The closure that recovers; the table of methods. -/
import Derived.Recover
import Derived.Test.YtbjapncfgancoaaDoorPma
import Derived.Test.YtbjapncfgancoaaDoorGu1
namespace Go.Proofs.YtbjapncfgancoaaDoor
open Go.RowKit
set_option linter.unusedVariables false
set_option linter.unusedSimpArgs false
theorem step1_panics (X m gr gc gm cr cc cm : Nat) (s : St) (e : Ev) (nx why : Int) (w : World) (h : Mx w m gr gc gm cr cc cm s e nx) (hk : Lens s) (hc : 0 ≤ s.C.getD 3 0 ∧ s.C.getD 3 0 < 65536) (hx : w.cell? ⟨X, 0, none⟩ = some (.pointer (some ⟨m, 0, none⟩))) :
    CallsD Tryd.prog 73 #[.pointer (some ⟨X, 0, none⟩)] (.panicking ({ v := .iface 88 (.int .i64 why), recovered := false } :: [])) w fun r u' w' => r = .returned (.tuple #[]) ∧ u' = .panicking ({ v := .iface 88 (.int .i64 why), recovered := true } :: []) ∧ Mx w' m gr gc gm cr cc cm (stopS s why) { e with why := why } nx ∧ But [m, gr, gc, gm] w w' := by
  have hta : (Instr.typeAssert (.iface 88 (.int .i64 why)) 20 88 true).run Tryd.prog w = .ok (.tuple #[.int .i64 why, .bool true]) w := by kernel_rfl
  refine callsD_of_wpS Tryd.func73 rfl fun c₀ cs hu => ?_
  apply wpS_seq
  apply wpS_region
  simp [wpOpsS, go_sem, recoverD, hu, Tryd.ntmps73, Exit.thenS, hta]
  apply wpS_seq
  apply wpS_region
  simp [wpOpsS, go_sem, Exit.thenS]
  refine wpS_cond (t := true) (by simp [Act.eval]) ?_
  simp only [if_true]
  refine wpS_of_wp ?_
  have HM := Lib.hid h
  clear h
  go_wp2_with fail
  refine (mach_take w m gr gc gm cr cc cm s e nx why HM.out hk hc).mono ?_
  rintro r u' ⟨rfl, hM, hB⟩
  go_wp2_with fail
  simp [bodyPostS, results, Tryd.results73]
  exact ⟨hM, hB⟩
theorem step1_idle (X : Nat) (w : World) :
    CallsD Tryd.prog 73 #[.pointer (some ⟨X, 0, none⟩)] .returning w fun r u' w' => r = .returned (.tuple #[]) ∧ u' = .returning ∧ w' = w := by
  have hta : (Instr.typeAssert .nilIface 20 88 true).run Tryd.prog w = .ok (.tuple #[.int .i64 0, .bool false]) w := by kernel_rfl
  refine callsD_of_wpS Tryd.func73 rfl fun c₀ cs hu => ?_
  apply wpS_seq
  apply wpS_region
  simp [wpOpsS, go_sem, recoverD, hu, Tryd.ntmps73, Exit.thenS, hta]
  apply wpS_seq
  apply wpS_region
  simp [wpOpsS, go_sem, Exit.thenS]
  refine wpS_cond (t := false) (by simp [Act.eval]) ?_
  simp only [Bool.false_eq_true, if_false]
  refine wpS_of_wp (wp_skip ?_)
  cases c₀
  simp_all [bodyPostS, results, Tryd.results73]
def effV (m : Nat) : Array Value := #[.func (.func 92) #[.pointer (some ⟨m, 0, none⟩)] #[], .func (.func 93) #[.pointer (some ⟨m, 0, none⟩)] #[], .func (.func 94) #[.pointer (some ⟨m, 0, none⟩)] #[], .func (.func 95) #[.pointer (some ⟨m, 0, none⟩)] #[], .func (.func 96) #[.pointer (some ⟨m, 0, none⟩)] #[], .func (.func 97) #[.pointer (some ⟨m, 0, none⟩)] #[], .func (.func 98) #[.pointer (some ⟨m, 0, none⟩)] #[], .func (.func 99) #[.pointer (some ⟨m, 0, none⟩)] #[], .func (.func 100) #[.pointer (some ⟨m, 0, none⟩)] #[], .func (.func 101) #[.pointer (some ⟨m, 0, none⟩)] #[], .func (.func 102) #[.pointer (some ⟨m, 0, none⟩)] #[], .func (.func 103) #[.pointer (some ⟨m, 0, none⟩)] #[], .func (.func 104) #[.pointer (some ⟨m, 0, none⟩)] #[], .func (.func 105) #[.pointer (some ⟨m, 0, none⟩)] #[], .func (.func 106) #[.pointer (some ⟨m, 0, none⟩)] #[], .func (.func 107) #[.pointer (some ⟨m, 0, none⟩)] #[]]
set_option maxRecDepth 8000 in
set_option maxHeartbeats 2000000 in
theorem impl_effects (u : World) (m : Nat) : Calls Tryd.prog 77 #[.pointer (some ⟨m, 0, none⟩)] u fun r u' => r = .returned (.agg (effV m)) ∧ Fr u u' := by
  have hmf : ∀ (fn : Fn) (first cap : Array Value) (w : World), (Instr.makeFunc fn first cap).run Tryd.prog w = .ok (.func fn first cap) w := fun _ _ _ _ => rfl
  go_enter Tryd.func77, Tryd.ntmps77
  have hi94 : (Tryd.prog.info? 94).map (·.size) = some 16 := by kernel_rfl
  have h1 : (effV m).all (·.oneCell') = true := by simp [effV, Value.oneCell']
  go_wp2_with (refine wpList_store_new rfl 94 _ _ rfl u u.heap.size rfl (Array.replicate 16 .nilFunc) (effV m) rfl rfl hi94 rfl h1 ?_)
  refine bodyPost_ret (v := .agg (effV m)) (by simp [results, Tryd.results77, go_sem, effV]) rfl ⟨rfl, Fr.alloc _ _⟩
/-- Which method does what. -/
def efF (k : Int) : Nat := if k = 0 then 92 else if k = 1 then 93 else if k = 2 then 94 else if k = 3 then 95 else if k = 4 then 96 else if k = 5 then 97 else if k = 6 then 98 else if k = 7 then 99 else if k = 8 then 100 else if k = 9 then 101 else if k = 10 then 102 else if k = 11 then 103 else if k = 12 then 104 else if k = 13 then 105 else if k = 14 then 106 else 107
theorem ef_any (u : World) (m gr gc gm cr cc cm : Nat) (s : St) (e : Ev) (k d a b f n : Int) (h : Mx u m gr gc gm cr cc cm s e (nx s)) (hk : OkS s) (hi : iok k d a b f n = true) :
    Calls Tryd.prog (efF k) #[.pointer (some ⟨m, 0, none⟩), .agg #[.int .i64 k, .int .i64 d, .int .i64 a, .int .i64 b, .int .i64 f, .int .i64 n]] u (EfP (effS s e k d a b f n) m gr gc gm cr cc cm s e u) := by
  rcases kinds (iok_k hi) with rfl | rfl | rfl | rfl | rfl | rfl | rfl | rfl | rfl | rfl | rfl | rfl | rfl | rfl | rfl | rfl
  · exact ef_alu u m gr gc gm cr cc cm s e d a b f n h hk hi
  · exact ef_addi u m gr gc gm cr cc cm s e d a b f n h hk hi
  · exact ef_lui u m gr gc gm cr cc cm s e d a b f n h hk hi
  · exact ef_load u m gr gc gm cr cc cm s e d a b f n h hk hi
  · exact ef_save u m gr gc gm cr cc cm s e d a b f n h hk hi
  · exact ef_eq u m gr gc gm cr cc cm s e d a b f n h hk hi
  · exact ef_lt u m gr gc gm cr cc cm s e d a b f n h hk hi
  · exact ef_jump u m gr gc gm cr cc cm s e d a b f n h hk hi
  · exact ef_call u m gr gc gm cr cc cm s e d a b f n h hk hi
  · exact ef_mul u m gr gc gm cr cc cm s e d a b f n h hk hi
  · exact ef_swap u m gr gc gm cr cc cm s e d a b f n h hk hi
  · exact ef_wait u m gr gc gm cr cc cm s e d a b f n h hk hi
  · exact ef_sys u m gr gc gm cr cc cm s e d a b f n h hk hi
  · exact ef_back u m gr gc gm cr cc cm s e d a b f n h hk hi
  · exact ef_get u m gr gc gm cr cc cm s e d a b f n h hk hi
  · exact ef_set u m gr gc gm cr cc cm s e d a b f n h hk hi
theorem eff_index (m : Nat) (k : Int) (w : World) (hk : 0 ≤ k ∧ k < 16) : (Instr.index 94 (.agg (effV m)) (.int .i64 k)).run Tryd.prog w = .ok (.func (.func (efF k)) #[.pointer (some ⟨m, 0, none⟩)] #[]) w := by
  rcases kinds hk with rfl | rfl | rfl | rfl | rfl | rfl | rfl | rfl | rfl | rfl | rfl | rfl | rfl | rfl | rfl | rfl <;> kernel_rfl

end Go.Proofs.YtbjapncfgancoaaDoor
