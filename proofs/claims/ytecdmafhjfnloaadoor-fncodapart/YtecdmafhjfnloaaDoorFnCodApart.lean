/- For every two codes (any bytes), law FnCodApart returns true and its arguments read as before (no condition; the tables read as the program's text lays them, which the card ties). -/
import Derived.Test.YtecdmafhjfnloaaDoorCards
import Derived.Test.YtecdmafhjfnloaaDoorTie
import Derived.Test.YtecdmafhjfnloaaDoorLaid2
import Derived.Test.YtecdmafhjfnloaaDoorPlans
import Derived.WalkKit
import Derived.ProofKit
import Derived.OpenShut
import Derived.ShutString
import Derived.SliceStrings
import Derived.ChangeOld
import Derived.Below
import Derived.SevenTiedAt
namespace Go.Proofs.YtecdmafhjfnloaaDoor.fnCodApart
open Go.ChangeShapes Go.WideShapes Go.ChangeAt Go.RowKit
set_option linter.unusedVariables false

def IsRow (k : IntKind) (w : World) (a : Option Addr) (len cap : Nat) (zs : List Int) : Prop :=
  (a = none ∧ len = 0 ∧ cap = 0 ∧ zs = []) ∨
  ∃ x, a = some x ∧ len ≤ cap ∧ cap ≤ maxLen ∧ zs.length = cap ∧ (∀ i, i < zs.length → w.cell? (x.add i) = some (.int k (zs.getD i 0))) ∧ ∀ n ∈ zs, (Lit.int k n).wf = true

set_option maxRecDepth 100000 in
set_option maxHeartbeats 8000000 in
theorem walk (a0 : Option Addr) (len0 cap0 : Nat) (z0 : List Int) (a1 : Option Addr) (len1 cap1 : Nat) (z1 : List Int) (w : World) (ht : Tabs2 w) (w0 : IsRow .u8 w a0 len0 cap0 z0) (w1 : IsRow .u8 w a1 len1 cap1 z1) :
    Calls Tryd.prog 5 #[.slice a0 len0 cap0, .slice a1 len1 cap1] w fun e w' => e = .returned (.bool true) ∧ Below w.heap.size w w' := by
  have HT := Lib.hid ht
  clear ht
  have hc : Code1 w.heap.size w a0 len0 cap0 := by
    rcases w0 with ⟨rfl, rfl, rfl, rfl⟩ | ⟨x, rfl, hl, hm, hz, hcell, hwz⟩
    · exact ⟨Nat.le_refl _, Nat.le_refl _, Nat.zero_le _, .inl rfl, fun _ => rfl⟩
    · exact ⟨Nat.le_refl _, hl, hm, bytes_of_row hl hz hcell hwz, by simp⟩
  have hd : Code1 w.heap.size w a1 len1 cap1 := by
    rcases w1 with ⟨rfl, rfl, rfl, rfl⟩ | ⟨x, rfl, hl, hm, hz, hcell, hwz⟩
    · exact ⟨Nat.le_refl _, Nat.le_refl _, Nat.zero_le _, .inl rfl, fun _ => rfl⟩
    · exact ⟨Nat.le_refl _, hl, hm, bytes_of_row hl hz hcell hwz, by simp⟩
  clear w0 w1
  by_cases hlen : (1048576 : Int) < (len0 : Int)
  · go_enter Tryd.func5, Tryd.ntmps5
    go_wp2
    go_ret
    exact ⟨rfl, Below.refl _ _⟩
  by_cases hlen' : (1048576 : Int) < (len1 : Int)
  · go_enter Tryd.func5, Tryd.ntmps5
    go_wp2
    go_ret
    exact ⟨rfl, Below.refl _ _⟩
  go_enter Tryd.func5, Tryd.ntmps5
  go_wp2_with fail
  refine (DrawCodWord w.heap.size a0 len0 cap0 w hc).mono ?_
  rintro e u1 ⟨k, d, a, b, f, n, rfl, b1⟩
  have F1 : Fr w (u1.alloc (.cells #[.int .i64 k, .int .i64 d, .int .i64 a, .int .i64 b, .int .i64 f, .int .i64 n] 24)) := Fr.trans b1 (Fr.alloc _ _)
  go_wp2_with fail
  refine (DrawCodText _ a1 len1 cap1 _ (hd.up F1)).mono ?_
  rintro e u2 ⟨k', d', a', b', f', n', rfl, f2⟩
  have F2 := (F1.trans f2).trans (Fr.alloc u2 (.cells #[.int .i64 k', .int .i64 d', .int .i64 a', .int .i64 b', .int .i64 f', .int .i64 n'] 24))
  have BC := Lib.hid (((Box.new u1 k d a b f n 24).fr f2).fr (Fr.alloc u2 (.cells #[.int .i64 k', .int .i64 d', .int .i64 a', .int .i64 b', .int .i64 f', .int .i64 n'] 24)))
  have BD := Lib.hid (Box.new u2 k' d' a' b' f' n' 24)
  clear hc hd b1 f2
  go_wp2_with fail
  generalize (u2.alloc (.cells #[.int .i64 k', .int .i64 d', .int .i64 a', .int .i64 b', .int .i64 f', .int .i64 n'] 24)) = u3 at *
  refine wp_region_plan 0 67 (fun _ u => Fr u3 u) (fun i v _ => v = ([.agg #[.int .i64 k, .int .i64 d, .int .i64 a, .int .i64 b, .int .i64 f, .int .i64 n], .int .i64 (worD k d a b f n), .agg #[.int .i64 k, .int .i64 d, .int .i64 a, .int .i64 b, .int .i64 f, .int .i64 n], .int .i64 (worD k d a b f n), .bool false, .bool false, .agg #[.int .i64 k', .int .i64 d', .int .i64 a', .int .i64 b', .int .i64 f', .int .i64 n'], .string (bs (txtD k' d' a' b' f' n')), .agg #[.int .i64 k', .int .i64 d', .int .i64 a', .int .i64 b', .int .i64 f', .int .i64 n'], .string (bs (txtD k' d' a' b' f' n')), .bool false, .bool false] : List Value).getD i undef) (by kernel_rfl) (by kernel_rfl) rfl (by kernel_rfl) (fun _ _ _ _ h _ => h) (Below.drew (Below.refl _ _)) ?step ?fin
  case step =>
    intro i o ho
    rcases i with _ | _ | _ | _ | _ | _ | _ | _ | _ | _ | _ | _ | i
    · cases ho
      intro fu act u hW hsz hL hdep
      obtain ⟨y, ha, hy⟩ := hL.puts [19, 20, 21, 22, 23, 24, 25, 26, 27, 28, 29, 30] (by kernel_rfl)
      clear hdep hL hy
      simp only [List.foldl, List.setIfInBounds_toArray, List.set_cons_succ, List.set_cons_zero] at ha
      subst ha
      obtain ⟨c0, c1, c2, c3, c4, c5⟩ := BC.out.fr hW
      refine wpOp_step rfl (fun K hK => ?_)
      go_simp
      exact hK _ _ ⟨_, rfl, (by first | rfl | simp), grown_refl _ _, hW⟩
    · cases ho
      intro fu act u hW hsz hL hdep
      have d0 : _ = (.agg #[.int .i64 k, .int .i64 d, .int .i64 a, .int .i64 b, .int .i64 f, .int .i64 n] : Value) := hdep { on := 0, ground := .data } (by simp) rfl _ rfl
      obtain ⟨y, ha, hy⟩ := hL.puts [19, 20, 21, 22, 23, 24, 25, 26, 27, 28, 29, 30] (by kernel_rfl)
      have e0 : y 19 = (.agg #[.int .i64 k, .int .i64 d, .int .i64 a, .int .i64 b, .int .i64 f, .int .i64 n] : Value) := (hy 19).symm.trans d0
      clear hdep hL hy d0
      simp only [List.foldl, List.setIfInBounds_toArray, List.set_cons_succ, List.set_cons_zero, e0] at ha
      subst ha
      clear e0
      refine wpOp_step rfl (fun K hK => ?_)
      go_simp
      refine (impl_CodWord _ _ _ _ _ _ u (HT.out.fr (Fr.trans F2 hW)).base).mono ?_
      rintro e u' ⟨rfl, fu2⟩
      go_simp
      exact hK _ _ ⟨_, rfl, (by first | rfl | simp), fr_grown fu2, Fr.trans hW fu2⟩
    · cases ho
      intro fu act u hW hsz hL hdep
      obtain ⟨y, ha, hy⟩ := hL.puts [19, 20, 21, 22, 23, 24, 25, 26, 27, 28, 29, 30] (by kernel_rfl)
      clear hdep hL hy
      simp only [List.foldl, List.setIfInBounds_toArray, List.set_cons_succ, List.set_cons_zero] at ha
      subst ha
      obtain ⟨c0, c1, c2, c3, c4, c5⟩ := BC.out.fr hW
      refine wpOp_step rfl (fun K hK => ?_)
      go_simp
      exact hK _ _ ⟨_, rfl, (by first | rfl | simp), grown_refl _ _, hW⟩
    · cases ho
      intro fu act u hW hsz hL hdep
      have d2 : _ = (.agg #[.int .i64 k, .int .i64 d, .int .i64 a, .int .i64 b, .int .i64 f, .int .i64 n] : Value) := hdep { on := 2, ground := .data } (by simp) rfl _ rfl
      obtain ⟨y, ha, hy⟩ := hL.puts [19, 20, 21, 22, 23, 24, 25, 26, 27, 28, 29, 30] (by kernel_rfl)
      have e2 : y 21 = (.agg #[.int .i64 k, .int .i64 d, .int .i64 a, .int .i64 b, .int .i64 f, .int .i64 n] : Value) := (hy 21).symm.trans d2
      clear hdep hL hy d2
      simp only [List.foldl, List.setIfInBounds_toArray, List.set_cons_succ, List.set_cons_zero, e2] at ha
      subst ha
      clear e2
      refine wpOp_step rfl (fun K hK => ?_)
      go_simp
      refine (spec_CodWord _ _ _ _ _ _ u).mono ?_
      rintro e u' ⟨rfl, fu2⟩
      go_simp
      exact hK _ _ ⟨_, rfl, (by first | rfl | simp), fr_grown fu2, Fr.trans hW fu2⟩
    · cases ho
      intro fu act u hW hsz hL hdep
      have d1 : _ = (.int .i64 (worD k d a b f n) : Value) := hdep { on := 1, ground := .data } (by simp) rfl _ rfl
      have d3 : _ = (.int .i64 (worD k d a b f n) : Value) := hdep { on := 3, ground := .data } (by simp) rfl _ rfl
      obtain ⟨y, ha, hy⟩ := hL.puts [19, 20, 21, 22, 23, 24, 25, 26, 27, 28, 29, 30] (by kernel_rfl)
      have e1 : y 20 = (.int .i64 (worD k d a b f n) : Value) := (hy 20).symm.trans d1
      have e3 : y 22 = (.int .i64 (worD k d a b f n) : Value) := (hy 22).symm.trans d3
      clear hdep hL hy d1 d3
      simp only [List.foldl, List.setIfInBounds_toArray, List.set_cons_succ, List.set_cons_zero, e1, e3] at ha
      subst ha
      clear e1 e3
      refine wpOp_step rfl (fun K hK => ?_)
      go_simp
      exact hK _ _ ⟨_, rfl, (by first | rfl | simp), grown_refl _ _, hW⟩
    · cases ho
      intro fu act u hW hsz hL hdep
      have d4 : _ = (.bool false : Value) := hdep { on := 4, ground := .data } (by simp) rfl _ rfl
      obtain ⟨y, ha, hy⟩ := hL.puts [19, 20, 21, 22, 23, 24, 25, 26, 27, 28, 29, 30] (by kernel_rfl)
      have e4 : y 23 = (.bool false : Value) := (hy 23).symm.trans d4
      clear hdep hL hy d4
      simp only [List.foldl, List.setIfInBounds_toArray, List.set_cons_succ, List.set_cons_zero, e4] at ha
      subst ha
      clear e4
      refine wpOp_step rfl (fun K hK => ?_)
      go_simp
      exact hK _ _ ⟨_, rfl, (by first | rfl | simp), grown_refl _ _, hW⟩
    · cases ho
      intro fu act u hW hsz hL hdep
      have d5 : _ = (.bool false : Value) := hdep { on := 5, ground := .guard } (by simp) rfl _ rfl
      obtain ⟨y, ha, hy⟩ := hL.puts [19, 20, 21, 22, 23, 24, 25, 26, 27, 28, 29, 30] (by kernel_rfl)
      have e5 : y 24 = (.bool false : Value) := (hy 24).symm.trans d5
      clear hdep hL hy d5
      simp only [List.foldl, List.setIfInBounds_toArray, List.set_cons_succ, List.set_cons_zero, e5] at ha
      subst ha
      clear e5
      obtain ⟨c0, c1, c2, c3, c4, c5⟩ := BD.out.fr hW
      refine wpOp_step rfl (fun K hK => ?_)
      go_simp
      exact hK _ _ ⟨_, rfl, (by first | rfl | simp), grown_refl _ _, hW⟩
    · cases ho
      intro fu act u hW hsz hL hdep
      have d5 : _ = (.bool false : Value) := hdep { on := 5, ground := .guard } (by simp) rfl _ rfl
      have d6 : _ = (.agg #[.int .i64 k', .int .i64 d', .int .i64 a', .int .i64 b', .int .i64 f', .int .i64 n'] : Value) := hdep { on := 6, ground := .data } (by simp) rfl _ rfl
      obtain ⟨y, ha, hy⟩ := hL.puts [19, 20, 21, 22, 23, 24, 25, 26, 27, 28, 29, 30] (by kernel_rfl)
      have e5 : y 24 = (.bool false : Value) := (hy 24).symm.trans d5
      have e6 : y 25 = (.agg #[.int .i64 k', .int .i64 d', .int .i64 a', .int .i64 b', .int .i64 f', .int .i64 n'] : Value) := (hy 25).symm.trans d6
      clear hdep hL hy d5 d6
      simp only [List.foldl, List.setIfInBounds_toArray, List.set_cons_succ, List.set_cons_zero, e5, e6] at ha
      subst ha
      clear e5 e6
      refine wpOp_step rfl (fun K hK => ?_)
      go_simp
      refine (impl_CodText _ _ _ _ _ _ u (HT.out.fr (Fr.trans F2 hW))).mono ?_
      rintro e u' ⟨rfl, fu2⟩
      go_simp
      exact hK _ _ ⟨_, rfl, (by first | rfl | simp), fr_grown fu2, Fr.trans hW fu2⟩
    · cases ho
      intro fu act u hW hsz hL hdep
      have d5 : _ = (.bool false : Value) := hdep { on := 5, ground := .guard } (by simp) rfl _ rfl
      obtain ⟨y, ha, hy⟩ := hL.puts [19, 20, 21, 22, 23, 24, 25, 26, 27, 28, 29, 30] (by kernel_rfl)
      have e5 : y 24 = (.bool false : Value) := (hy 24).symm.trans d5
      clear hdep hL hy d5
      simp only [List.foldl, List.setIfInBounds_toArray, List.set_cons_succ, List.set_cons_zero, e5] at ha
      subst ha
      clear e5
      obtain ⟨c0, c1, c2, c3, c4, c5⟩ := BD.out.fr hW
      refine wpOp_step rfl (fun K hK => ?_)
      go_simp
      exact hK _ _ ⟨_, rfl, (by first | rfl | simp), grown_refl _ _, hW⟩
    · cases ho
      intro fu act u hW hsz hL hdep
      have d5 : _ = (.bool false : Value) := hdep { on := 5, ground := .guard } (by simp) rfl _ rfl
      have d8 : _ = (.agg #[.int .i64 k', .int .i64 d', .int .i64 a', .int .i64 b', .int .i64 f', .int .i64 n'] : Value) := hdep { on := 8, ground := .data } (by simp) rfl _ rfl
      obtain ⟨y, ha, hy⟩ := hL.puts [19, 20, 21, 22, 23, 24, 25, 26, 27, 28, 29, 30] (by kernel_rfl)
      have e5 : y 24 = (.bool false : Value) := (hy 24).symm.trans d5
      have e8 : y 27 = (.agg #[.int .i64 k', .int .i64 d', .int .i64 a', .int .i64 b', .int .i64 f', .int .i64 n'] : Value) := (hy 27).symm.trans d8
      clear hdep hL hy d5 d8
      simp only [List.foldl, List.setIfInBounds_toArray, List.set_cons_succ, List.set_cons_zero, e5, e8] at ha
      subst ha
      clear e5 e8
      refine wpOp_step rfl (fun K hK => ?_)
      go_simp
      refine (spec_CodText _ _ _ _ _ _ u).mono ?_
      rintro e u' ⟨rfl, fu2⟩
      go_simp
      exact hK _ _ ⟨_, rfl, (by first | rfl | simp), fr_grown fu2, Fr.trans hW fu2⟩
    · cases ho
      intro fu act u hW hsz hL hdep
      have d5 : _ = (.bool false : Value) := hdep { on := 5, ground := .guard } (by simp) rfl _ rfl
      have d7 : _ = (.string (bs (txtD k' d' a' b' f' n')) : Value) := hdep { on := 7, ground := .data } (by simp) rfl _ rfl
      have d9 : _ = (.string (bs (txtD k' d' a' b' f' n')) : Value) := hdep { on := 9, ground := .data } (by simp) rfl _ rfl
      obtain ⟨y, ha, hy⟩ := hL.puts [19, 20, 21, 22, 23, 24, 25, 26, 27, 28, 29, 30] (by kernel_rfl)
      have e5 : y 24 = (.bool false : Value) := (hy 24).symm.trans d5
      have e7 : y 26 = (.string (bs (txtD k' d' a' b' f' n')) : Value) := (hy 26).symm.trans d7
      have e9 : y 28 = (.string (bs (txtD k' d' a' b' f' n')) : Value) := (hy 28).symm.trans d9
      clear hdep hL hy d5 d7 d9
      simp only [List.foldl, List.setIfInBounds_toArray, List.set_cons_succ, List.set_cons_zero, e5, e7, e9] at ha
      subst ha
      clear e5 e7 e9
      refine wpOp_step rfl (fun K hK => ?_)
      go_simp
      exact hK _ _ ⟨_, rfl, (by first | rfl | simp), grown_refl _ _, hW⟩
    · cases ho
      intro fu act u hW hsz hL hdep
      have d5 : _ = (.bool false : Value) := hdep { on := 5, ground := .data } (by simp) rfl _ rfl
      have d10 : _ = (.bool false : Value) := hdep { on := 10, ground := .data } (by simp) rfl _ rfl
      obtain ⟨y, ha, hy⟩ := hL.puts [19, 20, 21, 22, 23, 24, 25, 26, 27, 28, 29, 30] (by kernel_rfl)
      have e5 : y 24 = (.bool false : Value) := (hy 24).symm.trans d5
      have e10 : y 29 = (.bool false : Value) := (hy 29).symm.trans d10
      clear hdep hL hy d5 d10
      simp only [List.foldl, List.setIfInBounds_toArray, List.set_cons_succ, List.set_cons_zero, e5, e10] at ha
      subst ha
      clear e5 e10
      refine wpOp_step rfl (fun K hK => ?_)
      go_simp
      exact hK _ _ ⟨_, rfl, (by first | rfl | simp), grown_refl _ _, hW⟩
    · exact absurd ho (by simp)
  case fin =>
    intro fu act u hW hg hL hF
    have d11 : _ = (.bool false : Value) := hF 11 _ rfl
    obtain ⟨y, ha, hy⟩ := hL.puts [19, 20, 21, 22, 23, 24, 25, 26, 27, 28, 29, 30] (by kernel_rfl)
    have e11 : y 30 = (.bool false : Value) := (hy 30).symm.trans d11
    clear hL hF hy d11
    simp only [List.foldl, List.setIfInBounds_toArray, List.set_cons_succ, List.set_cons_zero, e11] at ha
    subst ha
    clear e11
    have F3 := F2.trans hW
    have f3 : Fr u3 u := hW
    clear hg hW
    obtain ⟨c0, c1, c2, c3, c4, c5⟩ := BC.out.fr f3
    obtain ⟨p0, p1, p2, p3, p4, p5⟩ := BD.out.fr f3
    cases hi : iok k d a b f n
    · go_wp2_with (go_at_call 18; refine (spec_CodOk _ _ _ _ _ _ _).mono ?_; rintro e u4 ⟨rfl, f4⟩; rw [sok_eq, hi])
      have F4 := F3.trans f4
      replace f3 := f3.trans f4
      clear c0 c1 c2 c3 c4 c5 p0 p1 p2 p3 p4 p5 f4
      refine wp_region_plan 0 67 (fun _ u => Fr u4 u) (fun i v _ => v = ([.agg #[.int .i64 k, .int .i64 d, .int .i64 a, .int .i64 b, .int .i64 f, .int .i64 n], .bool false, .agg #[.int .i64 k, .int .i64 d, .int .i64 a, .int .i64 b, .int .i64 f, .int .i64 n], .bool false, .bool true, .bool true, .bool true, .bool true, .bool true] : List Value).getD i undef) (by kernel_rfl) (by kernel_rfl) rfl (by kernel_rfl) (fun _ _ _ _ h _ => h) (Below.drew (Below.refl _ _)) ?step ?fin
      case step =>
        intro i o ho
        rcases i with _ | _ | _ | _ | _ | _ | _ | _ | _ | i
        · cases ho
          intro fu act u hW hsz hL hdep
          obtain ⟨y, ha, hy⟩ := hL.puts [39, 40, 41, 42, 43, 44, 45, 46, 4] (by kernel_rfl)
          clear hdep hL hy
          simp only [List.foldl, List.setIfInBounds_toArray, List.set_cons_succ, List.set_cons_zero] at ha
          subst ha
          obtain ⟨c0, c1, c2, c3, c4, c5⟩ := BC.out.fr (f3.trans hW)
          refine wpOp_step rfl (fun K hK => ?_)
          go_simp
          exact hK _ _ ⟨_, rfl, (by first | rfl | simp), grown_refl _ _, hW⟩
        · cases ho
          intro fu act u hW hsz hL hdep
          have d0 : _ = (.agg #[.int .i64 k, .int .i64 d, .int .i64 a, .int .i64 b, .int .i64 f, .int .i64 n] : Value) := hdep { on := 0, ground := .data } (by simp) rfl _ rfl
          obtain ⟨y, ha, hy⟩ := hL.puts [39, 40, 41, 42, 43, 44, 45, 46, 4] (by kernel_rfl)
          have e0 : y 39 = (.agg #[.int .i64 k, .int .i64 d, .int .i64 a, .int .i64 b, .int .i64 f, .int .i64 n] : Value) := (hy 39).symm.trans d0
          clear hdep hL hy d0
          simp only [List.foldl, List.setIfInBounds_toArray, List.set_cons_succ, List.set_cons_zero, e0] at ha
          subst ha
          clear e0
          refine wpOp_step rfl (fun K hK => ?_)
          go_simp
          refine (impl_CodOk _ _ _ _ _ _ u (HT.out.fr (Fr.trans F4 hW)).base).mono ?_
          rintro e u' ⟨rfl, fu2⟩
          rw [hi]
          go_simp
          exact hK _ _ ⟨_, rfl, (by first | rfl | simp), fr_grown fu2, Fr.trans hW fu2⟩
        · cases ho
          intro fu act u hW hsz hL hdep
          obtain ⟨y, ha, hy⟩ := hL.puts [39, 40, 41, 42, 43, 44, 45, 46, 4] (by kernel_rfl)
          clear hdep hL hy
          simp only [List.foldl, List.setIfInBounds_toArray, List.set_cons_succ, List.set_cons_zero] at ha
          subst ha
          obtain ⟨c0, c1, c2, c3, c4, c5⟩ := BC.out.fr (f3.trans hW)
          refine wpOp_step rfl (fun K hK => ?_)
          go_simp
          exact hK _ _ ⟨_, rfl, (by first | rfl | simp), grown_refl _ _, hW⟩
        · cases ho
          intro fu act u hW hsz hL hdep
          have d2 : _ = (.agg #[.int .i64 k, .int .i64 d, .int .i64 a, .int .i64 b, .int .i64 f, .int .i64 n] : Value) := hdep { on := 2, ground := .data } (by simp) rfl _ rfl
          obtain ⟨y, ha, hy⟩ := hL.puts [39, 40, 41, 42, 43, 44, 45, 46, 4] (by kernel_rfl)
          have e2 : y 41 = (.agg #[.int .i64 k, .int .i64 d, .int .i64 a, .int .i64 b, .int .i64 f, .int .i64 n] : Value) := (hy 41).symm.trans d2
          clear hdep hL hy d2
          simp only [List.foldl, List.setIfInBounds_toArray, List.set_cons_succ, List.set_cons_zero, e2] at ha
          subst ha
          clear e2
          refine wpOp_step rfl (fun K hK => ?_)
          go_simp
          refine (spec_CodOk _ _ _ _ _ _ u).mono ?_
          rintro e u' ⟨rfl, fu2⟩
          rw [sok_eq, hi]
          go_simp
          exact hK _ _ ⟨_, rfl, (by first | rfl | simp), fr_grown fu2, Fr.trans hW fu2⟩
        · cases ho
          intro fu act u hW hsz hL hdep
          have d1 : _ = (.bool false : Value) := hdep { on := 1, ground := .data } (by simp) rfl _ rfl
          have d3 : _ = (.bool false : Value) := hdep { on := 3, ground := .data } (by simp) rfl _ rfl
          obtain ⟨y, ha, hy⟩ := hL.puts [39, 40, 41, 42, 43, 44, 45, 46, 4] (by kernel_rfl)
          have e1 : y 40 = (.bool false : Value) := (hy 40).symm.trans d1
          have e3 : y 42 = (.bool false : Value) := (hy 42).symm.trans d3
          clear hdep hL hy d1 d3
          simp only [List.foldl, List.setIfInBounds_toArray, List.set_cons_succ, List.set_cons_zero, e1, e3] at ha
          subst ha
          clear e1 e3
          refine wpOp_step rfl (fun K hK => ?_)
          go_simp
          exact hK _ _ ⟨_, rfl, (by first | rfl | simp), grown_refl _ _, hW⟩
        · cases ho
          intro fu act u hW hsz hL hdep
          have d4 : _ = (.bool true : Value) := hdep { on := 4, ground := .data } (by simp) rfl _ rfl
          obtain ⟨y, ha, hy⟩ := hL.puts [39, 40, 41, 42, 43, 44, 45, 46, 4] (by kernel_rfl)
          have e4 : y 43 = (.bool true : Value) := (hy 43).symm.trans d4
          clear hdep hL hy d4
          simp only [List.foldl, List.setIfInBounds_toArray, List.set_cons_succ, List.set_cons_zero, e4] at ha
          subst ha
          clear e4
          refine wpOp_step rfl (fun K hK => ?_)
          go_simp
          exact hK _ _ ⟨_, rfl, (by first | rfl | simp), grown_refl _ _, hW⟩
        · cases ho
          intro fu act u hW hsz hL hdep
          have d5 : _ = (.bool true : Value) := hdep { on := 5, ground := .guard } (by simp) rfl _ rfl
          obtain ⟨y, ha, hy⟩ := hL.puts [39, 40, 41, 42, 43, 44, 45, 46, 4] (by kernel_rfl)
          have e5 : y 44 = (.bool true : Value) := (hy 44).symm.trans d5
          clear hdep hL hy d5
          simp only [List.foldl, List.setIfInBounds_toArray, List.set_cons_succ, List.set_cons_zero, e5] at ha
          subst ha
          clear e5
          refine wpOp_step rfl (fun K hK => ?_)
          go_simp
          refine (laws_haOk u).mono ?_
          rintro e u' ⟨rfl, rfl⟩
          go_simp
          exact hK _ _ ⟨_, rfl, rfl, grown_refl _ _, hW⟩
        · cases ho
          intro fu act u hW hsz hL hdep
          have d5 : _ = (.bool true : Value) := hdep { on := 5, ground := .data } (by simp) rfl _ rfl
          have d6 : _ = (.bool true : Value) := hdep { on := 6, ground := .data } (by simp) rfl _ rfl
          obtain ⟨y, ha, hy⟩ := hL.puts [39, 40, 41, 42, 43, 44, 45, 46, 4] (by kernel_rfl)
          have e5 : y 44 = (.bool true : Value) := (hy 44).symm.trans d5
          have e6 : y 45 = (.bool true : Value) := (hy 45).symm.trans d6
          clear hdep hL hy d5 d6
          simp only [List.foldl, List.setIfInBounds_toArray, List.set_cons_succ, List.set_cons_zero, e5, e6] at ha
          subst ha
          clear e5 e6
          refine wpOp_step rfl (fun K hK => ?_)
          go_simp
          exact hK _ _ ⟨_, rfl, (by first | rfl | simp), grown_refl _ _, hW⟩
        · cases ho
          intro fu act u hW hsz hL hdep
          have d7 : _ = (.bool true : Value) := hdep { on := 7, ground := .data } (by simp) rfl _ rfl
          obtain ⟨y, ha, hy⟩ := hL.puts [39, 40, 41, 42, 43, 44, 45, 46, 4] (by kernel_rfl)
          have e7 : y 46 = (.bool true : Value) := (hy 46).symm.trans d7
          clear hdep hL hy d7
          simp only [List.foldl, List.setIfInBounds_toArray, List.set_cons_succ, List.set_cons_zero, e7] at ha
          subst ha
          clear e7
          refine wpOp_step rfl (fun K hK => ?_)
          go_simp
          exact hK _ _ ⟨_, rfl, (by first | rfl | simp), grown_refl _ _, hW⟩
        · exact absurd ho (by simp)
      case fin =>
        intro fu act u hW hg hL hF
        have d8 : _ = (.bool true : Value) := hF 8 _ rfl
        obtain ⟨y, ha, hy⟩ := hL.puts [39, 40, 41, 42, 43, 44, 45, 46, 4] (by kernel_rfl)
        have e8 : y 4 = (.bool true : Value) := (hy 4).symm.trans d8
        clear hL hF hy d8
        simp only [List.foldl, List.setIfInBounds_toArray, List.set_cons_succ, List.set_cons_zero, e8] at ha
        subst ha
        clear e8
        go_wp2
        go_ret
        exact ⟨rfl, Fr.trans F4 hW⟩
    · cases hj : iok k' d' a' b' f' n'
      · go_wp2_with fail
        refine (spec_CodOk _ _ _ _ _ _ _).mono ?_
        rintro e u5 ⟨rfl, f5⟩
        rw [sok_eq, hi]
        clear c0 c1 c2 c3 c4 c5 p0 p1 p2 p3 p4 p5
        obtain ⟨p0, p1, p2, p3, p4, p5⟩ := BD.out.fr (f3.trans f5)
        go_wp2_with fail
        refine (spec_CodOk _ _ _ _ _ _ _).mono ?_
        rintro e u4 ⟨rfl, f4⟩
        rw [sok_eq, hj]
        go_wp2_with fail
        have F4 := (F3.trans f5).trans f4
        replace f3 := (f3.trans f5).trans f4
        clear p0 p1 p2 p3 p4 p5 f4 f5
        refine wp_region_plan 0 67 (fun _ u => Fr u4 u) (fun i v _ => v = ([.agg #[.int .i64 k, .int .i64 d, .int .i64 a, .int .i64 b, .int .i64 f, .int .i64 n], .bool true, .agg #[.int .i64 k, .int .i64 d, .int .i64 a, .int .i64 b, .int .i64 f, .int .i64 n], .bool true, .bool true, .bool true, .bool true, .bool true, .bool true] : List Value).getD i undef) (by kernel_rfl) (by kernel_rfl) rfl (by kernel_rfl) (fun _ _ _ _ h _ => h) (Below.drew (Below.refl _ _)) ?step ?fin
        case step =>
          intro i o ho
          rcases i with _ | _ | _ | _ | _ | _ | _ | _ | _ | i
          · cases ho
            intro fu act u hW hsz hL hdep
            obtain ⟨y, ha, hy⟩ := hL.puts [39, 40, 41, 42, 43, 44, 45, 46, 4] (by kernel_rfl)
            clear hdep hL hy
            simp only [List.foldl, List.setIfInBounds_toArray, List.set_cons_succ, List.set_cons_zero] at ha
            subst ha
            obtain ⟨c0, c1, c2, c3, c4, c5⟩ := BC.out.fr (f3.trans hW)
            refine wpOp_step rfl (fun K hK => ?_)
            go_simp
            exact hK _ _ ⟨_, rfl, (by first | rfl | simp), grown_refl _ _, hW⟩
          · cases ho
            intro fu act u hW hsz hL hdep
            have d0 : _ = (.agg #[.int .i64 k, .int .i64 d, .int .i64 a, .int .i64 b, .int .i64 f, .int .i64 n] : Value) := hdep { on := 0, ground := .data } (by simp) rfl _ rfl
            obtain ⟨y, ha, hy⟩ := hL.puts [39, 40, 41, 42, 43, 44, 45, 46, 4] (by kernel_rfl)
            have e0 : y 39 = (.agg #[.int .i64 k, .int .i64 d, .int .i64 a, .int .i64 b, .int .i64 f, .int .i64 n] : Value) := (hy 39).symm.trans d0
            clear hdep hL hy d0
            simp only [List.foldl, List.setIfInBounds_toArray, List.set_cons_succ, List.set_cons_zero, e0] at ha
            subst ha
            clear e0
            refine wpOp_step rfl (fun K hK => ?_)
            go_simp
            refine (impl_CodOk _ _ _ _ _ _ u (HT.out.fr (Fr.trans F4 hW)).base).mono ?_
            rintro e u' ⟨rfl, fu2⟩
            rw [hi]
            go_simp
            exact hK _ _ ⟨_, rfl, (by first | rfl | simp), fr_grown fu2, Fr.trans hW fu2⟩
          · cases ho
            intro fu act u hW hsz hL hdep
            obtain ⟨y, ha, hy⟩ := hL.puts [39, 40, 41, 42, 43, 44, 45, 46, 4] (by kernel_rfl)
            clear hdep hL hy
            simp only [List.foldl, List.setIfInBounds_toArray, List.set_cons_succ, List.set_cons_zero] at ha
            subst ha
            obtain ⟨c0, c1, c2, c3, c4, c5⟩ := BC.out.fr (f3.trans hW)
            refine wpOp_step rfl (fun K hK => ?_)
            go_simp
            exact hK _ _ ⟨_, rfl, (by first | rfl | simp), grown_refl _ _, hW⟩
          · cases ho
            intro fu act u hW hsz hL hdep
            have d2 : _ = (.agg #[.int .i64 k, .int .i64 d, .int .i64 a, .int .i64 b, .int .i64 f, .int .i64 n] : Value) := hdep { on := 2, ground := .data } (by simp) rfl _ rfl
            obtain ⟨y, ha, hy⟩ := hL.puts [39, 40, 41, 42, 43, 44, 45, 46, 4] (by kernel_rfl)
            have e2 : y 41 = (.agg #[.int .i64 k, .int .i64 d, .int .i64 a, .int .i64 b, .int .i64 f, .int .i64 n] : Value) := (hy 41).symm.trans d2
            clear hdep hL hy d2
            simp only [List.foldl, List.setIfInBounds_toArray, List.set_cons_succ, List.set_cons_zero, e2] at ha
            subst ha
            clear e2
            refine wpOp_step rfl (fun K hK => ?_)
            go_simp
            refine (spec_CodOk _ _ _ _ _ _ u).mono ?_
            rintro e u' ⟨rfl, fu2⟩
            rw [sok_eq, hi]
            go_simp
            exact hK _ _ ⟨_, rfl, (by first | rfl | simp), fr_grown fu2, Fr.trans hW fu2⟩
          · cases ho
            intro fu act u hW hsz hL hdep
            have d1 : _ = (.bool true : Value) := hdep { on := 1, ground := .data } (by simp) rfl _ rfl
            have d3 : _ = (.bool true : Value) := hdep { on := 3, ground := .data } (by simp) rfl _ rfl
            obtain ⟨y, ha, hy⟩ := hL.puts [39, 40, 41, 42, 43, 44, 45, 46, 4] (by kernel_rfl)
            have e1 : y 40 = (.bool true : Value) := (hy 40).symm.trans d1
            have e3 : y 42 = (.bool true : Value) := (hy 42).symm.trans d3
            clear hdep hL hy d1 d3
            simp only [List.foldl, List.setIfInBounds_toArray, List.set_cons_succ, List.set_cons_zero, e1, e3] at ha
            subst ha
            clear e1 e3
            refine wpOp_step rfl (fun K hK => ?_)
            go_simp
            exact hK _ _ ⟨_, rfl, (by first | rfl | simp), grown_refl _ _, hW⟩
          · cases ho
            intro fu act u hW hsz hL hdep
            have d4 : _ = (.bool true : Value) := hdep { on := 4, ground := .data } (by simp) rfl _ rfl
            obtain ⟨y, ha, hy⟩ := hL.puts [39, 40, 41, 42, 43, 44, 45, 46, 4] (by kernel_rfl)
            have e4 : y 43 = (.bool true : Value) := (hy 43).symm.trans d4
            clear hdep hL hy d4
            simp only [List.foldl, List.setIfInBounds_toArray, List.set_cons_succ, List.set_cons_zero, e4] at ha
            subst ha
            clear e4
            refine wpOp_step rfl (fun K hK => ?_)
            go_simp
            exact hK _ _ ⟨_, rfl, (by first | rfl | simp), grown_refl _ _, hW⟩
          · cases ho
            intro fu act u hW hsz hL hdep
            have d5 : _ = (.bool true : Value) := hdep { on := 5, ground := .guard } (by simp) rfl _ rfl
            obtain ⟨y, ha, hy⟩ := hL.puts [39, 40, 41, 42, 43, 44, 45, 46, 4] (by kernel_rfl)
            have e5 : y 44 = (.bool true : Value) := (hy 44).symm.trans d5
            clear hdep hL hy d5
            simp only [List.foldl, List.setIfInBounds_toArray, List.set_cons_succ, List.set_cons_zero, e5] at ha
            subst ha
            clear e5
            refine wpOp_step rfl (fun K hK => ?_)
            go_simp
            refine (laws_haOk u).mono ?_
            rintro e u' ⟨rfl, rfl⟩
            go_simp
            exact hK _ _ ⟨_, rfl, rfl, grown_refl _ _, hW⟩
          · cases ho
            intro fu act u hW hsz hL hdep
            have d5 : _ = (.bool true : Value) := hdep { on := 5, ground := .data } (by simp) rfl _ rfl
            have d6 : _ = (.bool true : Value) := hdep { on := 6, ground := .data } (by simp) rfl _ rfl
            obtain ⟨y, ha, hy⟩ := hL.puts [39, 40, 41, 42, 43, 44, 45, 46, 4] (by kernel_rfl)
            have e5 : y 44 = (.bool true : Value) := (hy 44).symm.trans d5
            have e6 : y 45 = (.bool true : Value) := (hy 45).symm.trans d6
            clear hdep hL hy d5 d6
            simp only [List.foldl, List.setIfInBounds_toArray, List.set_cons_succ, List.set_cons_zero, e5, e6] at ha
            subst ha
            clear e5 e6
            refine wpOp_step rfl (fun K hK => ?_)
            go_simp
            exact hK _ _ ⟨_, rfl, (by first | rfl | simp), grown_refl _ _, hW⟩
          · cases ho
            intro fu act u hW hsz hL hdep
            have d7 : _ = (.bool true : Value) := hdep { on := 7, ground := .data } (by simp) rfl _ rfl
            obtain ⟨y, ha, hy⟩ := hL.puts [39, 40, 41, 42, 43, 44, 45, 46, 4] (by kernel_rfl)
            have e7 : y 46 = (.bool true : Value) := (hy 46).symm.trans d7
            clear hdep hL hy d7
            simp only [List.foldl, List.setIfInBounds_toArray, List.set_cons_succ, List.set_cons_zero, e7] at ha
            subst ha
            clear e7
            refine wpOp_step rfl (fun K hK => ?_)
            go_simp
            exact hK _ _ ⟨_, rfl, (by first | rfl | simp), grown_refl _ _, hW⟩
          · exact absurd ho (by simp)
        case fin =>
          intro fu act u hW hg hL hF
          have d8 : _ = (.bool true : Value) := hF 8 _ rfl
          obtain ⟨y, ha, hy⟩ := hL.puts [39, 40, 41, 42, 43, 44, 45, 46, 4] (by kernel_rfl)
          have e8 : y 4 = (.bool true : Value) := (hy 4).symm.trans d8
          clear hL hF hy d8
          simp only [List.foldl, List.setIfInBounds_toArray, List.set_cons_succ, List.set_cons_zero, e8] at ha
          subst ha
          clear e8
          go_wp2
          go_ret
          exact ⟨rfl, Fr.trans F4 hW⟩
      · go_wp2_with fail
        refine (spec_CodOk _ _ _ _ _ _ _).mono ?_
        rintro e u5 ⟨rfl, f5⟩
        rw [sok_eq, hi]
        clear c0 c1 c2 c3 c4 c5 p0 p1 p2 p3 p4 p5
        obtain ⟨p0, p1, p2, p3, p4, p5⟩ := BD.out.fr (f3.trans f5)
        go_wp2_with fail
        refine (spec_CodOk _ _ _ _ _ _ _).mono ?_
        rintro e u4 ⟨rfl, f4⟩
        rw [sok_eq, hj]
        go_wp2_with fail
        have F4 := (F3.trans f5).trans f4
        replace f3 := (f3.trans f5).trans f4
        clear p0 p1 p2 p3 p4 p5 f4 f5
        by_cases hab : k = k' ∧ d = d' ∧ a = a' ∧ b = b' ∧ f = f' ∧ n = n'
        · obtain ⟨rfl, rfl, rfl, rfl, rfl, rfl⟩ := hab
          refine wp_region_plan 0 67 (fun _ u => Fr u4 u) (fun i v _ => v = ([.agg #[.int .i64 k, .int .i64 d, .int .i64 a, .int .i64 b, .int .i64 f, .int .i64 n], .int .i64 (worD k d a b f n), .agg #[.int .i64 k, .int .i64 d, .int .i64 a, .int .i64 b, .int .i64 f, .int .i64 n], .int .i64 (worD k d a b f n), .bool true, .agg #[.int .i64 k, .int .i64 d, .int .i64 a, .int .i64 b, .int .i64 f, .int .i64 n], .agg #[.int .i64 k, .int .i64 d, .int .i64 a, .int .i64 b, .int .i64 f, .int .i64 n], .bool true, .bool true, .bool true, .agg #[.int .i64 k, .int .i64 d, .int .i64 a, .int .i64 b, .int .i64 f, .int .i64 n], .string (bs (txtD k d a b f n)), .agg #[.int .i64 k, .int .i64 d, .int .i64 a, .int .i64 b, .int .i64 f, .int .i64 n], .string (bs (txtD k d a b f n)), .bool true, .agg #[.int .i64 k, .int .i64 d, .int .i64 a, .int .i64 b, .int .i64 f, .int .i64 n], .agg #[.int .i64 k, .int .i64 d, .int .i64 a, .int .i64 b, .int .i64 f, .int .i64 n], .bool true, .bool true, .bool true, .bool true] : List Value).getD i undef) (by kernel_rfl) (by kernel_rfl) rfl (by kernel_rfl) (fun _ _ _ _ h _ => h) (Below.drew (Below.refl _ _)) ?step ?fin
          case step =>
            intro i o ho
            rcases i with _ | _ | _ | _ | _ | _ | _ | _ | _ | _ | _ | _ | _ | _ | _ | _ | _ | _ | _ | _ | _ | i
            · cases ho
              intro fu act u hW hsz hL hdep
              obtain ⟨y, ha, hy⟩ := hL.puts [47, 48, 49, 50, 51, 52, 53, 54, 55, 56, 57, 58, 59, 60, 61, 62, 63, 64, 65, 66, 4] (by kernel_rfl)
              clear hdep hL hy
              simp only [List.foldl, List.setIfInBounds_toArray, List.set_cons_succ, List.set_cons_zero] at ha
              subst ha
              obtain ⟨c0, c1, c2, c3, c4, c5⟩ := BC.out.fr (f3.trans hW)
              refine wpOp_step rfl (fun K hK => ?_)
              go_simp
              exact hK _ _ ⟨_, rfl, (by first | rfl | simp), grown_refl _ _, hW⟩
            · cases ho
              intro fu act u hW hsz hL hdep
              have d0 : _ = (.agg #[.int .i64 k, .int .i64 d, .int .i64 a, .int .i64 b, .int .i64 f, .int .i64 n] : Value) := hdep { on := 0, ground := .data } (by simp) rfl _ rfl
              obtain ⟨y, ha, hy⟩ := hL.puts [47, 48, 49, 50, 51, 52, 53, 54, 55, 56, 57, 58, 59, 60, 61, 62, 63, 64, 65, 66, 4] (by kernel_rfl)
              have e0 : y 47 = (.agg #[.int .i64 k, .int .i64 d, .int .i64 a, .int .i64 b, .int .i64 f, .int .i64 n] : Value) := (hy 47).symm.trans d0
              clear hdep hL hy d0
              simp only [List.foldl, List.setIfInBounds_toArray, List.set_cons_succ, List.set_cons_zero, e0] at ha
              subst ha
              clear e0
              refine wpOp_step rfl (fun K hK => ?_)
              go_simp
              refine (impl_CodWord _ _ _ _ _ _ u (HT.out.fr (Fr.trans F4 hW)).base).mono ?_
              rintro e u' ⟨rfl, fu2⟩
              go_simp
              exact hK _ _ ⟨_, rfl, (by first | rfl | simp), fr_grown fu2, Fr.trans hW fu2⟩
            · cases ho
              intro fu act u hW hsz hL hdep
              obtain ⟨y, ha, hy⟩ := hL.puts [47, 48, 49, 50, 51, 52, 53, 54, 55, 56, 57, 58, 59, 60, 61, 62, 63, 64, 65, 66, 4] (by kernel_rfl)
              clear hdep hL hy
              simp only [List.foldl, List.setIfInBounds_toArray, List.set_cons_succ, List.set_cons_zero] at ha
              subst ha
              obtain ⟨c0, c1, c2, c3, c4, c5⟩ := BD.out.fr (f3.trans hW)
              refine wpOp_step rfl (fun K hK => ?_)
              go_simp
              exact hK _ _ ⟨_, rfl, (by first | rfl | simp), grown_refl _ _, hW⟩
            · cases ho
              intro fu act u hW hsz hL hdep
              have d2 : _ = (.agg #[.int .i64 k, .int .i64 d, .int .i64 a, .int .i64 b, .int .i64 f, .int .i64 n] : Value) := hdep { on := 2, ground := .data } (by simp) rfl _ rfl
              obtain ⟨y, ha, hy⟩ := hL.puts [47, 48, 49, 50, 51, 52, 53, 54, 55, 56, 57, 58, 59, 60, 61, 62, 63, 64, 65, 66, 4] (by kernel_rfl)
              have e2 : y 49 = (.agg #[.int .i64 k, .int .i64 d, .int .i64 a, .int .i64 b, .int .i64 f, .int .i64 n] : Value) := (hy 49).symm.trans d2
              clear hdep hL hy d2
              simp only [List.foldl, List.setIfInBounds_toArray, List.set_cons_succ, List.set_cons_zero, e2] at ha
              subst ha
              clear e2
              refine wpOp_step rfl (fun K hK => ?_)
              go_simp
              refine (impl_CodWord _ _ _ _ _ _ u (HT.out.fr (Fr.trans F4 hW)).base).mono ?_
              rintro e u' ⟨rfl, fu2⟩
              go_simp
              exact hK _ _ ⟨_, rfl, (by first | rfl | simp), fr_grown fu2, Fr.trans hW fu2⟩
            · cases ho
              intro fu act u hW hsz hL hdep
              have d1 : _ = (.int .i64 (worD k d a b f n) : Value) := hdep { on := 1, ground := .data } (by simp) rfl _ rfl
              have d3 : _ = (.int .i64 (worD k d a b f n) : Value) := hdep { on := 3, ground := .data } (by simp) rfl _ rfl
              obtain ⟨y, ha, hy⟩ := hL.puts [47, 48, 49, 50, 51, 52, 53, 54, 55, 56, 57, 58, 59, 60, 61, 62, 63, 64, 65, 66, 4] (by kernel_rfl)
              have e1 : y 48 = (.int .i64 (worD k d a b f n) : Value) := (hy 48).symm.trans d1
              have e3 : y 50 = (.int .i64 (worD k d a b f n) : Value) := (hy 50).symm.trans d3
              clear hdep hL hy d1 d3
              simp only [List.foldl, List.setIfInBounds_toArray, List.set_cons_succ, List.set_cons_zero, e1, e3] at ha
              subst ha
              clear e1 e3
              refine wpOp_step rfl (fun K hK => ?_)
              go_simp
              exact hK _ _ ⟨_, rfl, (by first | rfl | simp), grown_refl _ _, hW⟩
            · cases ho
              intro fu act u hW hsz hL hdep
              obtain ⟨y, ha, hy⟩ := hL.puts [47, 48, 49, 50, 51, 52, 53, 54, 55, 56, 57, 58, 59, 60, 61, 62, 63, 64, 65, 66, 4] (by kernel_rfl)
              clear hdep hL hy
              simp only [List.foldl, List.setIfInBounds_toArray, List.set_cons_succ, List.set_cons_zero] at ha
              subst ha
              obtain ⟨c0, c1, c2, c3, c4, c5⟩ := BC.out.fr (f3.trans hW)
              refine wpOp_step rfl (fun K hK => ?_)
              go_simp
              exact hK _ _ ⟨_, rfl, (by first | rfl | simp), grown_refl _ _, hW⟩
            · cases ho
              intro fu act u hW hsz hL hdep
              obtain ⟨y, ha, hy⟩ := hL.puts [47, 48, 49, 50, 51, 52, 53, 54, 55, 56, 57, 58, 59, 60, 61, 62, 63, 64, 65, 66, 4] (by kernel_rfl)
              clear hdep hL hy
              simp only [List.foldl, List.setIfInBounds_toArray, List.set_cons_succ, List.set_cons_zero] at ha
              subst ha
              obtain ⟨c0, c1, c2, c3, c4, c5⟩ := BD.out.fr (f3.trans hW)
              refine wpOp_step rfl (fun K hK => ?_)
              go_simp
              exact hK _ _ ⟨_, rfl, (by first | rfl | simp), grown_refl _ _, hW⟩
            · cases ho
              intro fu act u hW hsz hL hdep
              have d5 : _ = (.agg #[.int .i64 k, .int .i64 d, .int .i64 a, .int .i64 b, .int .i64 f, .int .i64 n] : Value) := hdep { on := 5, ground := .data } (by simp) rfl _ rfl
              have d6 : _ = (.agg #[.int .i64 k, .int .i64 d, .int .i64 a, .int .i64 b, .int .i64 f, .int .i64 n] : Value) := hdep { on := 6, ground := .data } (by simp) rfl _ rfl
              obtain ⟨y, ha, hy⟩ := hL.puts [47, 48, 49, 50, 51, 52, 53, 54, 55, 56, 57, 58, 59, 60, 61, 62, 63, 64, 65, 66, 4] (by kernel_rfl)
              have e5 : y 52 = (.agg #[.int .i64 k, .int .i64 d, .int .i64 a, .int .i64 b, .int .i64 f, .int .i64 n] : Value) := (hy 52).symm.trans d5
              have e6 : y 53 = (.agg #[.int .i64 k, .int .i64 d, .int .i64 a, .int .i64 b, .int .i64 f, .int .i64 n] : Value) := (hy 53).symm.trans d6
              clear hdep hL hy d5 d6
              simp only [List.foldl, List.setIfInBounds_toArray, List.set_cons_succ, List.set_cons_zero, e5, e6] at ha
              subst ha
              clear e5 e6
              refine wpOp_step rfl (fun K hK => ?_)
              go_simp
              exact hK _ _ ⟨_, rfl, (by first | rfl | simp), grown_refl _ _, hW⟩
            · cases ho
              intro fu act u hW hsz hL hdep
              have d4 : _ = (.bool true : Value) := hdep { on := 4, ground := .data } (by simp) rfl _ rfl
              have d7 : _ = (.bool true : Value) := hdep { on := 7, ground := .data } (by simp) rfl _ rfl
              obtain ⟨y, ha, hy⟩ := hL.puts [47, 48, 49, 50, 51, 52, 53, 54, 55, 56, 57, 58, 59, 60, 61, 62, 63, 64, 65, 66, 4] (by kernel_rfl)
              have e4 : y 51 = (.bool true : Value) := (hy 51).symm.trans d4
              have e7 : y 54 = (.bool true : Value) := (hy 54).symm.trans d7
              clear hdep hL hy d4 d7
              simp only [List.foldl, List.setIfInBounds_toArray, List.set_cons_succ, List.set_cons_zero, e4, e7] at ha
              subst ha
              clear e4 e7
              refine wpOp_step rfl (fun K hK => ?_)
              go_simp
              exact hK _ _ ⟨_, rfl, (by first | rfl | simp), grown_refl _ _, hW⟩
            · cases ho
              intro fu act u hW hsz hL hdep
              have d8 : _ = (.bool true : Value) := hdep { on := 8, ground := .data } (by simp) rfl _ rfl
              obtain ⟨y, ha, hy⟩ := hL.puts [47, 48, 49, 50, 51, 52, 53, 54, 55, 56, 57, 58, 59, 60, 61, 62, 63, 64, 65, 66, 4] (by kernel_rfl)
              have e8 : y 55 = (.bool true : Value) := (hy 55).symm.trans d8
              clear hdep hL hy d8
              simp only [List.foldl, List.setIfInBounds_toArray, List.set_cons_succ, List.set_cons_zero, e8] at ha
              subst ha
              clear e8
              refine wpOp_step rfl (fun K hK => ?_)
              go_simp
              exact hK _ _ ⟨_, rfl, (by first | rfl | simp), grown_refl _ _, hW⟩
            · cases ho
              intro fu act u hW hsz hL hdep
              have d9 : _ = (.bool true : Value) := hdep { on := 9, ground := .guard } (by simp) rfl _ rfl
              obtain ⟨y, ha, hy⟩ := hL.puts [47, 48, 49, 50, 51, 52, 53, 54, 55, 56, 57, 58, 59, 60, 61, 62, 63, 64, 65, 66, 4] (by kernel_rfl)
              have e9 : y 56 = (.bool true : Value) := (hy 56).symm.trans d9
              clear hdep hL hy d9
              simp only [List.foldl, List.setIfInBounds_toArray, List.set_cons_succ, List.set_cons_zero, e9] at ha
              subst ha
              clear e9
              obtain ⟨c0, c1, c2, c3, c4, c5⟩ := BC.out.fr (f3.trans hW)
              refine wpOp_step rfl (fun K hK => ?_)
              go_simp
              exact hK _ _ ⟨_, rfl, (by first | rfl | simp), grown_refl _ _, hW⟩
            · cases ho
              intro fu act u hW hsz hL hdep
              have d9 : _ = (.bool true : Value) := hdep { on := 9, ground := .guard } (by simp) rfl _ rfl
              have d10 : _ = (.agg #[.int .i64 k, .int .i64 d, .int .i64 a, .int .i64 b, .int .i64 f, .int .i64 n] : Value) := hdep { on := 10, ground := .data } (by simp) rfl _ rfl
              obtain ⟨y, ha, hy⟩ := hL.puts [47, 48, 49, 50, 51, 52, 53, 54, 55, 56, 57, 58, 59, 60, 61, 62, 63, 64, 65, 66, 4] (by kernel_rfl)
              have e9 : y 56 = (.bool true : Value) := (hy 56).symm.trans d9
              have e10 : y 57 = (.agg #[.int .i64 k, .int .i64 d, .int .i64 a, .int .i64 b, .int .i64 f, .int .i64 n] : Value) := (hy 57).symm.trans d10
              clear hdep hL hy d9 d10
              simp only [List.foldl, List.setIfInBounds_toArray, List.set_cons_succ, List.set_cons_zero, e9, e10] at ha
              subst ha
              clear e9 e10
              refine wpOp_step rfl (fun K hK => ?_)
              go_simp
              refine (impl_CodText _ _ _ _ _ _ u (HT.out.fr (Fr.trans F4 hW))).mono ?_
              rintro e u' ⟨rfl, fu2⟩
              go_simp
              exact hK _ _ ⟨_, rfl, (by first | rfl | simp), fr_grown fu2, Fr.trans hW fu2⟩
            · cases ho
              intro fu act u hW hsz hL hdep
              have d9 : _ = (.bool true : Value) := hdep { on := 9, ground := .guard } (by simp) rfl _ rfl
              obtain ⟨y, ha, hy⟩ := hL.puts [47, 48, 49, 50, 51, 52, 53, 54, 55, 56, 57, 58, 59, 60, 61, 62, 63, 64, 65, 66, 4] (by kernel_rfl)
              have e9 : y 56 = (.bool true : Value) := (hy 56).symm.trans d9
              clear hdep hL hy d9
              simp only [List.foldl, List.setIfInBounds_toArray, List.set_cons_succ, List.set_cons_zero, e9] at ha
              subst ha
              clear e9
              obtain ⟨c0, c1, c2, c3, c4, c5⟩ := BD.out.fr (f3.trans hW)
              refine wpOp_step rfl (fun K hK => ?_)
              go_simp
              exact hK _ _ ⟨_, rfl, (by first | rfl | simp), grown_refl _ _, hW⟩
            · cases ho
              intro fu act u hW hsz hL hdep
              have d9 : _ = (.bool true : Value) := hdep { on := 9, ground := .guard } (by simp) rfl _ rfl
              have d12 : _ = (.agg #[.int .i64 k, .int .i64 d, .int .i64 a, .int .i64 b, .int .i64 f, .int .i64 n] : Value) := hdep { on := 12, ground := .data } (by simp) rfl _ rfl
              obtain ⟨y, ha, hy⟩ := hL.puts [47, 48, 49, 50, 51, 52, 53, 54, 55, 56, 57, 58, 59, 60, 61, 62, 63, 64, 65, 66, 4] (by kernel_rfl)
              have e9 : y 56 = (.bool true : Value) := (hy 56).symm.trans d9
              have e12 : y 59 = (.agg #[.int .i64 k, .int .i64 d, .int .i64 a, .int .i64 b, .int .i64 f, .int .i64 n] : Value) := (hy 59).symm.trans d12
              clear hdep hL hy d9 d12
              simp only [List.foldl, List.setIfInBounds_toArray, List.set_cons_succ, List.set_cons_zero, e9, e12] at ha
              subst ha
              clear e9 e12
              refine wpOp_step rfl (fun K hK => ?_)
              go_simp
              refine (impl_CodText _ _ _ _ _ _ u (HT.out.fr (Fr.trans F4 hW))).mono ?_
              rintro e u' ⟨rfl, fu2⟩
              go_simp
              exact hK _ _ ⟨_, rfl, (by first | rfl | simp), fr_grown fu2, Fr.trans hW fu2⟩
            · cases ho
              intro fu act u hW hsz hL hdep
              have d9 : _ = (.bool true : Value) := hdep { on := 9, ground := .guard } (by simp) rfl _ rfl
              have d11 : _ = (.string (bs (txtD k d a b f n)) : Value) := hdep { on := 11, ground := .data } (by simp) rfl _ rfl
              have d13 : _ = (.string (bs (txtD k d a b f n)) : Value) := hdep { on := 13, ground := .data } (by simp) rfl _ rfl
              obtain ⟨y, ha, hy⟩ := hL.puts [47, 48, 49, 50, 51, 52, 53, 54, 55, 56, 57, 58, 59, 60, 61, 62, 63, 64, 65, 66, 4] (by kernel_rfl)
              have e9 : y 56 = (.bool true : Value) := (hy 56).symm.trans d9
              have e11 : y 58 = (.string (bs (txtD k d a b f n)) : Value) := (hy 58).symm.trans d11
              have e13 : y 60 = (.string (bs (txtD k d a b f n)) : Value) := (hy 60).symm.trans d13
              clear hdep hL hy d9 d11 d13
              simp only [List.foldl, List.setIfInBounds_toArray, List.set_cons_succ, List.set_cons_zero, e9, e11, e13] at ha
              subst ha
              clear e9 e11 e13
              refine wpOp_step rfl (fun K hK => ?_)
              go_simp
              exact hK _ _ ⟨_, rfl, (by first | rfl | simp), grown_refl _ _, hW⟩
            · cases ho
              intro fu act u hW hsz hL hdep
              have d9 : _ = (.bool true : Value) := hdep { on := 9, ground := .guard } (by simp) rfl _ rfl
              obtain ⟨y, ha, hy⟩ := hL.puts [47, 48, 49, 50, 51, 52, 53, 54, 55, 56, 57, 58, 59, 60, 61, 62, 63, 64, 65, 66, 4] (by kernel_rfl)
              have e9 : y 56 = (.bool true : Value) := (hy 56).symm.trans d9
              clear hdep hL hy d9
              simp only [List.foldl, List.setIfInBounds_toArray, List.set_cons_succ, List.set_cons_zero, e9] at ha
              subst ha
              clear e9
              obtain ⟨c0, c1, c2, c3, c4, c5⟩ := BC.out.fr (f3.trans hW)
              refine wpOp_step rfl (fun K hK => ?_)
              go_simp
              exact hK _ _ ⟨_, rfl, (by first | rfl | simp), grown_refl _ _, hW⟩
            · cases ho
              intro fu act u hW hsz hL hdep
              have d9 : _ = (.bool true : Value) := hdep { on := 9, ground := .guard } (by simp) rfl _ rfl
              obtain ⟨y, ha, hy⟩ := hL.puts [47, 48, 49, 50, 51, 52, 53, 54, 55, 56, 57, 58, 59, 60, 61, 62, 63, 64, 65, 66, 4] (by kernel_rfl)
              have e9 : y 56 = (.bool true : Value) := (hy 56).symm.trans d9
              clear hdep hL hy d9
              simp only [List.foldl, List.setIfInBounds_toArray, List.set_cons_succ, List.set_cons_zero, e9] at ha
              subst ha
              clear e9
              obtain ⟨c0, c1, c2, c3, c4, c5⟩ := BD.out.fr (f3.trans hW)
              refine wpOp_step rfl (fun K hK => ?_)
              go_simp
              exact hK _ _ ⟨_, rfl, (by first | rfl | simp), grown_refl _ _, hW⟩
            · cases ho
              intro fu act u hW hsz hL hdep
              have d9 : _ = (.bool true : Value) := hdep { on := 9, ground := .guard } (by simp) rfl _ rfl
              have d15 : _ = (.agg #[.int .i64 k, .int .i64 d, .int .i64 a, .int .i64 b, .int .i64 f, .int .i64 n] : Value) := hdep { on := 15, ground := .data } (by simp) rfl _ rfl
              have d16 : _ = (.agg #[.int .i64 k, .int .i64 d, .int .i64 a, .int .i64 b, .int .i64 f, .int .i64 n] : Value) := hdep { on := 16, ground := .data } (by simp) rfl _ rfl
              obtain ⟨y, ha, hy⟩ := hL.puts [47, 48, 49, 50, 51, 52, 53, 54, 55, 56, 57, 58, 59, 60, 61, 62, 63, 64, 65, 66, 4] (by kernel_rfl)
              have e9 : y 56 = (.bool true : Value) := (hy 56).symm.trans d9
              have e15 : y 62 = (.agg #[.int .i64 k, .int .i64 d, .int .i64 a, .int .i64 b, .int .i64 f, .int .i64 n] : Value) := (hy 62).symm.trans d15
              have e16 : y 63 = (.agg #[.int .i64 k, .int .i64 d, .int .i64 a, .int .i64 b, .int .i64 f, .int .i64 n] : Value) := (hy 63).symm.trans d16
              clear hdep hL hy d9 d15 d16
              simp only [List.foldl, List.setIfInBounds_toArray, List.set_cons_succ, List.set_cons_zero, e9, e15, e16] at ha
              subst ha
              clear e9 e15 e16
              refine wpOp_step rfl (fun K hK => ?_)
              go_simp
              exact hK _ _ ⟨_, rfl, (by first | rfl | simp), grown_refl _ _, hW⟩
            · cases ho
              intro fu act u hW hsz hL hdep
              have d9 : _ = (.bool true : Value) := hdep { on := 9, ground := .guard } (by simp) rfl _ rfl
              have d14 : _ = (.bool true : Value) := hdep { on := 14, ground := .data } (by simp) rfl _ rfl
              have d17 : _ = (.bool true : Value) := hdep { on := 17, ground := .data } (by simp) rfl _ rfl
              obtain ⟨y, ha, hy⟩ := hL.puts [47, 48, 49, 50, 51, 52, 53, 54, 55, 56, 57, 58, 59, 60, 61, 62, 63, 64, 65, 66, 4] (by kernel_rfl)
              have e9 : y 56 = (.bool true : Value) := (hy 56).symm.trans d9
              have e14 : y 61 = (.bool true : Value) := (hy 61).symm.trans d14
              have e17 : y 64 = (.bool true : Value) := (hy 64).symm.trans d17
              clear hdep hL hy d9 d14 d17
              simp only [List.foldl, List.setIfInBounds_toArray, List.set_cons_succ, List.set_cons_zero, e9, e14, e17] at ha
              subst ha
              clear e9 e14 e17
              refine wpOp_step rfl (fun K hK => ?_)
              go_simp
              exact hK _ _ ⟨_, rfl, (by first | rfl | simp), grown_refl _ _, hW⟩
            · cases ho
              intro fu act u hW hsz hL hdep
              have d9 : _ = (.bool true : Value) := hdep { on := 9, ground := .data } (by simp) rfl _ rfl
              have d18 : _ = (.bool true : Value) := hdep { on := 18, ground := .data } (by simp) rfl _ rfl
              obtain ⟨y, ha, hy⟩ := hL.puts [47, 48, 49, 50, 51, 52, 53, 54, 55, 56, 57, 58, 59, 60, 61, 62, 63, 64, 65, 66, 4] (by kernel_rfl)
              have e9 : y 56 = (.bool true : Value) := (hy 56).symm.trans d9
              have e18 : y 65 = (.bool true : Value) := (hy 65).symm.trans d18
              clear hdep hL hy d9 d18
              simp only [List.foldl, List.setIfInBounds_toArray, List.set_cons_succ, List.set_cons_zero, e9, e18] at ha
              subst ha
              clear e9 e18
              refine wpOp_step rfl (fun K hK => ?_)
              go_simp
              exact hK _ _ ⟨_, rfl, (by first | rfl | simp), grown_refl _ _, hW⟩
            · cases ho
              intro fu act u hW hsz hL hdep
              have d19 : _ = (.bool true : Value) := hdep { on := 19, ground := .data } (by simp) rfl _ rfl
              obtain ⟨y, ha, hy⟩ := hL.puts [47, 48, 49, 50, 51, 52, 53, 54, 55, 56, 57, 58, 59, 60, 61, 62, 63, 64, 65, 66, 4] (by kernel_rfl)
              have e19 : y 66 = (.bool true : Value) := (hy 66).symm.trans d19
              clear hdep hL hy d19
              simp only [List.foldl, List.setIfInBounds_toArray, List.set_cons_succ, List.set_cons_zero, e19] at ha
              subst ha
              clear e19
              refine wpOp_step rfl (fun K hK => ?_)
              go_simp
              exact hK _ _ ⟨_, rfl, (by first | rfl | simp), grown_refl _ _, hW⟩
            · exact absurd ho (by simp)
          case fin =>
            intro fu act u hW hg hL hF
            have d20 : _ = (.bool true : Value) := hF 20 _ rfl
            obtain ⟨y, ha, hy⟩ := hL.puts [47, 48, 49, 50, 51, 52, 53, 54, 55, 56, 57, 58, 59, 60, 61, 62, 63, 64, 65, 66, 4] (by kernel_rfl)
            have e20 : y 4 = (.bool true : Value) := (hy 4).symm.trans d20
            clear hL hF hy d20
            simp only [List.foldl, List.setIfInBounds_toArray, List.set_cons_succ, List.set_cons_zero, e20] at ha
            subst ha
            clear e20
            go_wp2
            go_ret
            exact ⟨rfl, Fr.trans F4 hW⟩
        · have nw : (worD k d a b f n == worD k' d' a' b' f' n') = false := by
            simp only [beq_eq_false_iff_ne]; exact fun e => hab (word_inj hi hj e)
          have nt : (txtD k d a b f n == txtD k' d' a' b' f' n') = false := by
            rw [beq_eq_false_iff_ne]
            intro e2
            simp only [txtD, hi, hj, if_true] at e2
            exact hab (txt_inj hi hj e2)
          refine wp_region_plan 0 67 (fun _ u => Fr u4 u) (fun i v _ => v = ([.agg #[.int .i64 k, .int .i64 d, .int .i64 a, .int .i64 b, .int .i64 f, .int .i64 n], .int .i64 (worD k d a b f n), .agg #[.int .i64 k', .int .i64 d', .int .i64 a', .int .i64 b', .int .i64 f', .int .i64 n'], .int .i64 (worD k' d' a' b' f' n'), .bool false, .agg #[.int .i64 k, .int .i64 d, .int .i64 a, .int .i64 b, .int .i64 f, .int .i64 n], .agg #[.int .i64 k', .int .i64 d', .int .i64 a', .int .i64 b', .int .i64 f', .int .i64 n'], .bool false, .bool true, .bool true, .agg #[.int .i64 k, .int .i64 d, .int .i64 a, .int .i64 b, .int .i64 f, .int .i64 n], .string (bs (txtD k d a b f n)), .agg #[.int .i64 k', .int .i64 d', .int .i64 a', .int .i64 b', .int .i64 f', .int .i64 n'], .string (bs (txtD k' d' a' b' f' n')), .bool false, .agg #[.int .i64 k, .int .i64 d, .int .i64 a, .int .i64 b, .int .i64 f, .int .i64 n], .agg #[.int .i64 k', .int .i64 d', .int .i64 a', .int .i64 b', .int .i64 f', .int .i64 n'], .bool false, .bool true, .bool true, .bool true] : List Value).getD i undef) (by kernel_rfl) (by kernel_rfl) rfl (by kernel_rfl) (fun _ _ _ _ h _ => h) (Below.drew (Below.refl _ _)) ?step ?fin
          case step =>
            intro i o ho
            rcases i with _ | _ | _ | _ | _ | _ | _ | _ | _ | _ | _ | _ | _ | _ | _ | _ | _ | _ | _ | _ | _ | i
            · cases ho
              intro fu act u hW hsz hL hdep
              obtain ⟨y, ha, hy⟩ := hL.puts [47, 48, 49, 50, 51, 52, 53, 54, 55, 56, 57, 58, 59, 60, 61, 62, 63, 64, 65, 66, 4] (by kernel_rfl)
              clear hdep hL hy
              simp only [List.foldl, List.setIfInBounds_toArray, List.set_cons_succ, List.set_cons_zero] at ha
              subst ha
              obtain ⟨c0, c1, c2, c3, c4, c5⟩ := BC.out.fr (f3.trans hW)
              refine wpOp_step rfl (fun K hK => ?_)
              go_simp
              exact hK _ _ ⟨_, rfl, (by first | rfl | simp), grown_refl _ _, hW⟩
            · cases ho
              intro fu act u hW hsz hL hdep
              have d0 : _ = (.agg #[.int .i64 k, .int .i64 d, .int .i64 a, .int .i64 b, .int .i64 f, .int .i64 n] : Value) := hdep { on := 0, ground := .data } (by simp) rfl _ rfl
              obtain ⟨y, ha, hy⟩ := hL.puts [47, 48, 49, 50, 51, 52, 53, 54, 55, 56, 57, 58, 59, 60, 61, 62, 63, 64, 65, 66, 4] (by kernel_rfl)
              have e0 : y 47 = (.agg #[.int .i64 k, .int .i64 d, .int .i64 a, .int .i64 b, .int .i64 f, .int .i64 n] : Value) := (hy 47).symm.trans d0
              clear hdep hL hy d0
              simp only [List.foldl, List.setIfInBounds_toArray, List.set_cons_succ, List.set_cons_zero, e0] at ha
              subst ha
              clear e0
              refine wpOp_step rfl (fun K hK => ?_)
              go_simp
              refine (impl_CodWord _ _ _ _ _ _ u (HT.out.fr (Fr.trans F4 hW)).base).mono ?_
              rintro e u' ⟨rfl, fu2⟩
              go_simp
              exact hK _ _ ⟨_, rfl, (by first | rfl | simp), fr_grown fu2, Fr.trans hW fu2⟩
            · cases ho
              intro fu act u hW hsz hL hdep
              obtain ⟨y, ha, hy⟩ := hL.puts [47, 48, 49, 50, 51, 52, 53, 54, 55, 56, 57, 58, 59, 60, 61, 62, 63, 64, 65, 66, 4] (by kernel_rfl)
              clear hdep hL hy
              simp only [List.foldl, List.setIfInBounds_toArray, List.set_cons_succ, List.set_cons_zero] at ha
              subst ha
              obtain ⟨c0, c1, c2, c3, c4, c5⟩ := BD.out.fr (f3.trans hW)
              refine wpOp_step rfl (fun K hK => ?_)
              go_simp
              exact hK _ _ ⟨_, rfl, (by first | rfl | simp), grown_refl _ _, hW⟩
            · cases ho
              intro fu act u hW hsz hL hdep
              have d2 : _ = (.agg #[.int .i64 k', .int .i64 d', .int .i64 a', .int .i64 b', .int .i64 f', .int .i64 n'] : Value) := hdep { on := 2, ground := .data } (by simp) rfl _ rfl
              obtain ⟨y, ha, hy⟩ := hL.puts [47, 48, 49, 50, 51, 52, 53, 54, 55, 56, 57, 58, 59, 60, 61, 62, 63, 64, 65, 66, 4] (by kernel_rfl)
              have e2 : y 49 = (.agg #[.int .i64 k', .int .i64 d', .int .i64 a', .int .i64 b', .int .i64 f', .int .i64 n'] : Value) := (hy 49).symm.trans d2
              clear hdep hL hy d2
              simp only [List.foldl, List.setIfInBounds_toArray, List.set_cons_succ, List.set_cons_zero, e2] at ha
              subst ha
              clear e2
              refine wpOp_step rfl (fun K hK => ?_)
              go_simp
              refine (impl_CodWord _ _ _ _ _ _ u (HT.out.fr (Fr.trans F4 hW)).base).mono ?_
              rintro e u' ⟨rfl, fu2⟩
              go_simp
              exact hK _ _ ⟨_, rfl, (by first | rfl | simp), fr_grown fu2, Fr.trans hW fu2⟩
            · cases ho
              intro fu act u hW hsz hL hdep
              have d1 : _ = (.int .i64 (worD k d a b f n) : Value) := hdep { on := 1, ground := .data } (by simp) rfl _ rfl
              have d3 : _ = (.int .i64 (worD k' d' a' b' f' n') : Value) := hdep { on := 3, ground := .data } (by simp) rfl _ rfl
              obtain ⟨y, ha, hy⟩ := hL.puts [47, 48, 49, 50, 51, 52, 53, 54, 55, 56, 57, 58, 59, 60, 61, 62, 63, 64, 65, 66, 4] (by kernel_rfl)
              have e1 : y 48 = (.int .i64 (worD k d a b f n) : Value) := (hy 48).symm.trans d1
              have e3 : y 50 = (.int .i64 (worD k' d' a' b' f' n') : Value) := (hy 50).symm.trans d3
              clear hdep hL hy d1 d3
              simp only [List.foldl, List.setIfInBounds_toArray, List.set_cons_succ, List.set_cons_zero, e1, e3] at ha
              subst ha
              clear e1 e3
              refine wpOp_step rfl (fun K hK => ?_)
              go_simp
              exact hK _ _ ⟨_, rfl, (by first | rfl | simp [nw]), grown_refl _ _, hW⟩
            · cases ho
              intro fu act u hW hsz hL hdep
              obtain ⟨y, ha, hy⟩ := hL.puts [47, 48, 49, 50, 51, 52, 53, 54, 55, 56, 57, 58, 59, 60, 61, 62, 63, 64, 65, 66, 4] (by kernel_rfl)
              clear hdep hL hy
              simp only [List.foldl, List.setIfInBounds_toArray, List.set_cons_succ, List.set_cons_zero] at ha
              subst ha
              obtain ⟨c0, c1, c2, c3, c4, c5⟩ := BC.out.fr (f3.trans hW)
              refine wpOp_step rfl (fun K hK => ?_)
              go_simp
              exact hK _ _ ⟨_, rfl, (by first | rfl | simp), grown_refl _ _, hW⟩
            · cases ho
              intro fu act u hW hsz hL hdep
              obtain ⟨y, ha, hy⟩ := hL.puts [47, 48, 49, 50, 51, 52, 53, 54, 55, 56, 57, 58, 59, 60, 61, 62, 63, 64, 65, 66, 4] (by kernel_rfl)
              clear hdep hL hy
              simp only [List.foldl, List.setIfInBounds_toArray, List.set_cons_succ, List.set_cons_zero] at ha
              subst ha
              obtain ⟨c0, c1, c2, c3, c4, c5⟩ := BD.out.fr (f3.trans hW)
              refine wpOp_step rfl (fun K hK => ?_)
              go_simp
              exact hK _ _ ⟨_, rfl, (by first | rfl | simp), grown_refl _ _, hW⟩
            · cases ho
              intro fu act u hW hsz hL hdep
              have d5 : _ = (.agg #[.int .i64 k, .int .i64 d, .int .i64 a, .int .i64 b, .int .i64 f, .int .i64 n] : Value) := hdep { on := 5, ground := .data } (by simp) rfl _ rfl
              have d6 : _ = (.agg #[.int .i64 k', .int .i64 d', .int .i64 a', .int .i64 b', .int .i64 f', .int .i64 n'] : Value) := hdep { on := 6, ground := .data } (by simp) rfl _ rfl
              obtain ⟨y, ha, hy⟩ := hL.puts [47, 48, 49, 50, 51, 52, 53, 54, 55, 56, 57, 58, 59, 60, 61, 62, 63, 64, 65, 66, 4] (by kernel_rfl)
              have e5 : y 52 = (.agg #[.int .i64 k, .int .i64 d, .int .i64 a, .int .i64 b, .int .i64 f, .int .i64 n] : Value) := (hy 52).symm.trans d5
              have e6 : y 53 = (.agg #[.int .i64 k', .int .i64 d', .int .i64 a', .int .i64 b', .int .i64 f', .int .i64 n'] : Value) := (hy 53).symm.trans d6
              clear hdep hL hy d5 d6
              simp only [List.foldl, List.setIfInBounds_toArray, List.set_cons_succ, List.set_cons_zero, e5, e6] at ha
              subst ha
              clear e5 e6
              refine wpOp_step rfl (fun K hK => ?_)
              go_simp
              rw [ifs6 hab]
              go_simp
              exact hK _ _ ⟨_, rfl, (by first | rfl | simp), grown_refl _ _, hW⟩
            · cases ho
              intro fu act u hW hsz hL hdep
              have d4 : _ = (.bool false : Value) := hdep { on := 4, ground := .data } (by simp) rfl _ rfl
              have d7 : _ = (.bool false : Value) := hdep { on := 7, ground := .data } (by simp) rfl _ rfl
              obtain ⟨y, ha, hy⟩ := hL.puts [47, 48, 49, 50, 51, 52, 53, 54, 55, 56, 57, 58, 59, 60, 61, 62, 63, 64, 65, 66, 4] (by kernel_rfl)
              have e4 : y 51 = (.bool false : Value) := (hy 51).symm.trans d4
              have e7 : y 54 = (.bool false : Value) := (hy 54).symm.trans d7
              clear hdep hL hy d4 d7
              simp only [List.foldl, List.setIfInBounds_toArray, List.set_cons_succ, List.set_cons_zero, e4, e7] at ha
              subst ha
              clear e4 e7
              refine wpOp_step rfl (fun K hK => ?_)
              go_simp
              exact hK _ _ ⟨_, rfl, (by first | rfl | simp), grown_refl _ _, hW⟩
            · cases ho
              intro fu act u hW hsz hL hdep
              have d8 : _ = (.bool true : Value) := hdep { on := 8, ground := .data } (by simp) rfl _ rfl
              obtain ⟨y, ha, hy⟩ := hL.puts [47, 48, 49, 50, 51, 52, 53, 54, 55, 56, 57, 58, 59, 60, 61, 62, 63, 64, 65, 66, 4] (by kernel_rfl)
              have e8 : y 55 = (.bool true : Value) := (hy 55).symm.trans d8
              clear hdep hL hy d8
              simp only [List.foldl, List.setIfInBounds_toArray, List.set_cons_succ, List.set_cons_zero, e8] at ha
              subst ha
              clear e8
              refine wpOp_step rfl (fun K hK => ?_)
              go_simp
              exact hK _ _ ⟨_, rfl, (by first | rfl | simp), grown_refl _ _, hW⟩
            · cases ho
              intro fu act u hW hsz hL hdep
              have d9 : _ = (.bool true : Value) := hdep { on := 9, ground := .guard } (by simp) rfl _ rfl
              obtain ⟨y, ha, hy⟩ := hL.puts [47, 48, 49, 50, 51, 52, 53, 54, 55, 56, 57, 58, 59, 60, 61, 62, 63, 64, 65, 66, 4] (by kernel_rfl)
              have e9 : y 56 = (.bool true : Value) := (hy 56).symm.trans d9
              clear hdep hL hy d9
              simp only [List.foldl, List.setIfInBounds_toArray, List.set_cons_succ, List.set_cons_zero, e9] at ha
              subst ha
              clear e9
              obtain ⟨c0, c1, c2, c3, c4, c5⟩ := BC.out.fr (f3.trans hW)
              refine wpOp_step rfl (fun K hK => ?_)
              go_simp
              exact hK _ _ ⟨_, rfl, (by first | rfl | simp), grown_refl _ _, hW⟩
            · cases ho
              intro fu act u hW hsz hL hdep
              have d9 : _ = (.bool true : Value) := hdep { on := 9, ground := .guard } (by simp) rfl _ rfl
              have d10 : _ = (.agg #[.int .i64 k, .int .i64 d, .int .i64 a, .int .i64 b, .int .i64 f, .int .i64 n] : Value) := hdep { on := 10, ground := .data } (by simp) rfl _ rfl
              obtain ⟨y, ha, hy⟩ := hL.puts [47, 48, 49, 50, 51, 52, 53, 54, 55, 56, 57, 58, 59, 60, 61, 62, 63, 64, 65, 66, 4] (by kernel_rfl)
              have e9 : y 56 = (.bool true : Value) := (hy 56).symm.trans d9
              have e10 : y 57 = (.agg #[.int .i64 k, .int .i64 d, .int .i64 a, .int .i64 b, .int .i64 f, .int .i64 n] : Value) := (hy 57).symm.trans d10
              clear hdep hL hy d9 d10
              simp only [List.foldl, List.setIfInBounds_toArray, List.set_cons_succ, List.set_cons_zero, e9, e10] at ha
              subst ha
              clear e9 e10
              refine wpOp_step rfl (fun K hK => ?_)
              go_simp
              refine (impl_CodText _ _ _ _ _ _ u (HT.out.fr (Fr.trans F4 hW))).mono ?_
              rintro e u' ⟨rfl, fu2⟩
              go_simp
              exact hK _ _ ⟨_, rfl, (by first | rfl | simp), fr_grown fu2, Fr.trans hW fu2⟩
            · cases ho
              intro fu act u hW hsz hL hdep
              have d9 : _ = (.bool true : Value) := hdep { on := 9, ground := .guard } (by simp) rfl _ rfl
              obtain ⟨y, ha, hy⟩ := hL.puts [47, 48, 49, 50, 51, 52, 53, 54, 55, 56, 57, 58, 59, 60, 61, 62, 63, 64, 65, 66, 4] (by kernel_rfl)
              have e9 : y 56 = (.bool true : Value) := (hy 56).symm.trans d9
              clear hdep hL hy d9
              simp only [List.foldl, List.setIfInBounds_toArray, List.set_cons_succ, List.set_cons_zero, e9] at ha
              subst ha
              clear e9
              obtain ⟨c0, c1, c2, c3, c4, c5⟩ := BD.out.fr (f3.trans hW)
              refine wpOp_step rfl (fun K hK => ?_)
              go_simp
              exact hK _ _ ⟨_, rfl, (by first | rfl | simp), grown_refl _ _, hW⟩
            · cases ho
              intro fu act u hW hsz hL hdep
              have d9 : _ = (.bool true : Value) := hdep { on := 9, ground := .guard } (by simp) rfl _ rfl
              have d12 : _ = (.agg #[.int .i64 k', .int .i64 d', .int .i64 a', .int .i64 b', .int .i64 f', .int .i64 n'] : Value) := hdep { on := 12, ground := .data } (by simp) rfl _ rfl
              obtain ⟨y, ha, hy⟩ := hL.puts [47, 48, 49, 50, 51, 52, 53, 54, 55, 56, 57, 58, 59, 60, 61, 62, 63, 64, 65, 66, 4] (by kernel_rfl)
              have e9 : y 56 = (.bool true : Value) := (hy 56).symm.trans d9
              have e12 : y 59 = (.agg #[.int .i64 k', .int .i64 d', .int .i64 a', .int .i64 b', .int .i64 f', .int .i64 n'] : Value) := (hy 59).symm.trans d12
              clear hdep hL hy d9 d12
              simp only [List.foldl, List.setIfInBounds_toArray, List.set_cons_succ, List.set_cons_zero, e9, e12] at ha
              subst ha
              clear e9 e12
              refine wpOp_step rfl (fun K hK => ?_)
              go_simp
              refine (impl_CodText _ _ _ _ _ _ u (HT.out.fr (Fr.trans F4 hW))).mono ?_
              rintro e u' ⟨rfl, fu2⟩
              go_simp
              exact hK _ _ ⟨_, rfl, (by first | rfl | simp), fr_grown fu2, Fr.trans hW fu2⟩
            · cases ho
              intro fu act u hW hsz hL hdep
              have d9 : _ = (.bool true : Value) := hdep { on := 9, ground := .guard } (by simp) rfl _ rfl
              have d11 : _ = (.string (bs (txtD k d a b f n)) : Value) := hdep { on := 11, ground := .data } (by simp) rfl _ rfl
              have d13 : _ = (.string (bs (txtD k' d' a' b' f' n')) : Value) := hdep { on := 13, ground := .data } (by simp) rfl _ rfl
              obtain ⟨y, ha, hy⟩ := hL.puts [47, 48, 49, 50, 51, 52, 53, 54, 55, 56, 57, 58, 59, 60, 61, 62, 63, 64, 65, 66, 4] (by kernel_rfl)
              have e9 : y 56 = (.bool true : Value) := (hy 56).symm.trans d9
              have e11 : y 58 = (.string (bs (txtD k d a b f n)) : Value) := (hy 58).symm.trans d11
              have e13 : y 60 = (.string (bs (txtD k' d' a' b' f' n')) : Value) := (hy 60).symm.trans d13
              clear hdep hL hy d9 d11 d13
              simp only [List.foldl, List.setIfInBounds_toArray, List.set_cons_succ, List.set_cons_zero, e9, e11, e13] at ha
              subst ha
              clear e9 e11 e13
              refine wpOp_step rfl (fun K hK => ?_)
              go_simp
              exact hK _ _ ⟨_, rfl, (by first | rfl | simp [nt]), grown_refl _ _, hW⟩
            · cases ho
              intro fu act u hW hsz hL hdep
              have d9 : _ = (.bool true : Value) := hdep { on := 9, ground := .guard } (by simp) rfl _ rfl
              obtain ⟨y, ha, hy⟩ := hL.puts [47, 48, 49, 50, 51, 52, 53, 54, 55, 56, 57, 58, 59, 60, 61, 62, 63, 64, 65, 66, 4] (by kernel_rfl)
              have e9 : y 56 = (.bool true : Value) := (hy 56).symm.trans d9
              clear hdep hL hy d9
              simp only [List.foldl, List.setIfInBounds_toArray, List.set_cons_succ, List.set_cons_zero, e9] at ha
              subst ha
              clear e9
              obtain ⟨c0, c1, c2, c3, c4, c5⟩ := BC.out.fr (f3.trans hW)
              refine wpOp_step rfl (fun K hK => ?_)
              go_simp
              exact hK _ _ ⟨_, rfl, (by first | rfl | simp), grown_refl _ _, hW⟩
            · cases ho
              intro fu act u hW hsz hL hdep
              have d9 : _ = (.bool true : Value) := hdep { on := 9, ground := .guard } (by simp) rfl _ rfl
              obtain ⟨y, ha, hy⟩ := hL.puts [47, 48, 49, 50, 51, 52, 53, 54, 55, 56, 57, 58, 59, 60, 61, 62, 63, 64, 65, 66, 4] (by kernel_rfl)
              have e9 : y 56 = (.bool true : Value) := (hy 56).symm.trans d9
              clear hdep hL hy d9
              simp only [List.foldl, List.setIfInBounds_toArray, List.set_cons_succ, List.set_cons_zero, e9] at ha
              subst ha
              clear e9
              obtain ⟨c0, c1, c2, c3, c4, c5⟩ := BD.out.fr (f3.trans hW)
              refine wpOp_step rfl (fun K hK => ?_)
              go_simp
              exact hK _ _ ⟨_, rfl, (by first | rfl | simp), grown_refl _ _, hW⟩
            · cases ho
              intro fu act u hW hsz hL hdep
              have d9 : _ = (.bool true : Value) := hdep { on := 9, ground := .guard } (by simp) rfl _ rfl
              have d15 : _ = (.agg #[.int .i64 k, .int .i64 d, .int .i64 a, .int .i64 b, .int .i64 f, .int .i64 n] : Value) := hdep { on := 15, ground := .data } (by simp) rfl _ rfl
              have d16 : _ = (.agg #[.int .i64 k', .int .i64 d', .int .i64 a', .int .i64 b', .int .i64 f', .int .i64 n'] : Value) := hdep { on := 16, ground := .data } (by simp) rfl _ rfl
              obtain ⟨y, ha, hy⟩ := hL.puts [47, 48, 49, 50, 51, 52, 53, 54, 55, 56, 57, 58, 59, 60, 61, 62, 63, 64, 65, 66, 4] (by kernel_rfl)
              have e9 : y 56 = (.bool true : Value) := (hy 56).symm.trans d9
              have e15 : y 62 = (.agg #[.int .i64 k, .int .i64 d, .int .i64 a, .int .i64 b, .int .i64 f, .int .i64 n] : Value) := (hy 62).symm.trans d15
              have e16 : y 63 = (.agg #[.int .i64 k', .int .i64 d', .int .i64 a', .int .i64 b', .int .i64 f', .int .i64 n'] : Value) := (hy 63).symm.trans d16
              clear hdep hL hy d9 d15 d16
              simp only [List.foldl, List.setIfInBounds_toArray, List.set_cons_succ, List.set_cons_zero, e9, e15, e16] at ha
              subst ha
              clear e9 e15 e16
              refine wpOp_step rfl (fun K hK => ?_)
              go_simp
              rw [ifs6 hab]
              go_simp
              exact hK _ _ ⟨_, rfl, (by first | rfl | simp), grown_refl _ _, hW⟩
            · cases ho
              intro fu act u hW hsz hL hdep
              have d9 : _ = (.bool true : Value) := hdep { on := 9, ground := .guard } (by simp) rfl _ rfl
              have d14 : _ = (.bool false : Value) := hdep { on := 14, ground := .data } (by simp) rfl _ rfl
              have d17 : _ = (.bool false : Value) := hdep { on := 17, ground := .data } (by simp) rfl _ rfl
              obtain ⟨y, ha, hy⟩ := hL.puts [47, 48, 49, 50, 51, 52, 53, 54, 55, 56, 57, 58, 59, 60, 61, 62, 63, 64, 65, 66, 4] (by kernel_rfl)
              have e9 : y 56 = (.bool true : Value) := (hy 56).symm.trans d9
              have e14 : y 61 = (.bool false : Value) := (hy 61).symm.trans d14
              have e17 : y 64 = (.bool false : Value) := (hy 64).symm.trans d17
              clear hdep hL hy d9 d14 d17
              simp only [List.foldl, List.setIfInBounds_toArray, List.set_cons_succ, List.set_cons_zero, e9, e14, e17] at ha
              subst ha
              clear e9 e14 e17
              refine wpOp_step rfl (fun K hK => ?_)
              go_simp
              exact hK _ _ ⟨_, rfl, (by first | rfl | simp), grown_refl _ _, hW⟩
            · cases ho
              intro fu act u hW hsz hL hdep
              have d9 : _ = (.bool true : Value) := hdep { on := 9, ground := .data } (by simp) rfl _ rfl
              have d18 : _ = (.bool true : Value) := hdep { on := 18, ground := .data } (by simp) rfl _ rfl
              obtain ⟨y, ha, hy⟩ := hL.puts [47, 48, 49, 50, 51, 52, 53, 54, 55, 56, 57, 58, 59, 60, 61, 62, 63, 64, 65, 66, 4] (by kernel_rfl)
              have e9 : y 56 = (.bool true : Value) := (hy 56).symm.trans d9
              have e18 : y 65 = (.bool true : Value) := (hy 65).symm.trans d18
              clear hdep hL hy d9 d18
              simp only [List.foldl, List.setIfInBounds_toArray, List.set_cons_succ, List.set_cons_zero, e9, e18] at ha
              subst ha
              clear e9 e18
              refine wpOp_step rfl (fun K hK => ?_)
              go_simp
              exact hK _ _ ⟨_, rfl, (by first | rfl | simp), grown_refl _ _, hW⟩
            · cases ho
              intro fu act u hW hsz hL hdep
              have d19 : _ = (.bool true : Value) := hdep { on := 19, ground := .data } (by simp) rfl _ rfl
              obtain ⟨y, ha, hy⟩ := hL.puts [47, 48, 49, 50, 51, 52, 53, 54, 55, 56, 57, 58, 59, 60, 61, 62, 63, 64, 65, 66, 4] (by kernel_rfl)
              have e19 : y 66 = (.bool true : Value) := (hy 66).symm.trans d19
              clear hdep hL hy d19
              simp only [List.foldl, List.setIfInBounds_toArray, List.set_cons_succ, List.set_cons_zero, e19] at ha
              subst ha
              clear e19
              refine wpOp_step rfl (fun K hK => ?_)
              go_simp
              exact hK _ _ ⟨_, rfl, (by first | rfl | simp), grown_refl _ _, hW⟩
            · exact absurd ho (by simp)
          case fin =>
            intro fu act u hW hg hL hF
            have d20 : _ = (.bool true : Value) := hF 20 _ rfl
            obtain ⟨y, ha, hy⟩ := hL.puts [47, 48, 49, 50, 51, 52, 53, 54, 55, 56, 57, 58, 59, 60, 61, 62, 63, 64, 65, 66, 4] (by kernel_rfl)
            have e20 : y 4 = (.bool true : Value) := (hy 4).symm.trans d20
            clear hL hF hy d20
            simp only [List.foldl, List.setIfInBounds_toArray, List.set_cons_succ, List.set_cons_zero, e20] at ha
            subst ha
            clear e20
            go_wp2
            go_ret
            exact ⟨rfl, Fr.trans F4 hW⟩

set_option maxRecDepth 100000 in
theorem lifted (os : Os) (started : os.Started) (H : Type) (enc : TypeId × Value → H) :
    ReturnsInHanded {} Tryd.checked os 5 .any (fun w args => (Rows.fnCodApartSpec.pre enc Tryd.prog Tryd.f5 [] false w args ∧ laidMetH Tryd.prog laidAll2 w) ∧ sizedMet enc Tryd.prog Tryd.f5 (OpenSpec.ofChange Rows.fnCodApartSpec) false w args)
      (Rows.fnCodApartSpec.post enc Tryd.prog Tryd.f5 false true false false) := by
  refine returnsInHanded_of_change_and (C := Tryd.checked) (X := fun w _ => laidMetH Tryd.prog laidAll2 w) (fun _ _ _ hh h => h.of_heap hh) own started (by kernel_rfl) Tryd.func5
    (ChangeSpec.witness_shaped (enc := enc) (C := Tryd.checked) (os := os) (X := fun w _ => laidMetH Tryd.prog laidAll2 w) false (World.doorLaid Tryd.prog 400 os) #[.slice none 0 0, .slice none 0 0] 8 rfl (World.shaped_of_RefB (by kernel_rfl) (by kernel_rfl)) (by kernel_rfl) (by kernel_rfl) (by kernel_rfl) (door_met2 os _)) ?_
  intro W base args ds gs before hval0 hW _ _ hL _
  have hval : ∀ (j : Nat) t v, Tryd.f5.params[j]? = some t → args[j]? = some v → Value.okWide Tryd.prog W .any base t v := hval0
  have hW' := hW
  obtain ⟨p, q, hA0, hV0, rfl, hfz, hnd⟩ := hW
  have hA : DataW.TrodAll enc Tryd.prog W 0 (fun _ => true) true Tryd.f5.params.toList args.toList ds p := hA0
  have hV : DataW.TrodVars enc Tryd.prog W (fun _ => true) laidNames2 gs q := hV0
  rw [Tryd.params5] at hA hval
  obtain ⟨v0, vs0, d0, ds0, p0, q0, hargs, rfl, rfl, h0, r0⟩ := trodAll_cons hA
  obtain ⟨v1, vs1, d1, ds1, p1, q1, rfl, rfl, rfl, h1, r1⟩ := trodAll_cons r0
  obtain ⟨rfl, rfl, rfl⟩ := trodAll_nil r1
  obtain rfl : args = #[v0, v1] := by cases args; simp_all
  have hV1 := hV
  obtain ⟨g0, g1, g2, rfl⟩ := three_of (trodVars_len hV1)
  obtain ⟨a0, len0, cap0, rfl⟩ := okWide_slice Tryd.underlying22 (hval 0 22 v0 rfl rfl)
  have k0 := h0
  have lt0 : ∀ x ∈ p0, x.block < W.heap.size := by obtain ⟨m, hm⟩ := k0; exact DataW.trod_lt m _ _ _ hm
  obtain ⟨z0, w0⟩ : ∃ zs, IsRow .u8 W a0 len0 cap0 zs := by
    obtain ⟨fuel, hf⟩ := h0
    rcases open_ints Tryd.underlying22 Tryd.underlying5 (by kernel_rfl) hf with ⟨hcs, _⟩ | ⟨x, l, c, zs, hcs, _, hl, hm, hz, _, hcell, hwz⟩
    · simp [Value.cells] at hcs
      obtain ⟨rfl, rfl, rfl⟩ := hcs
      exact ⟨[], .inl ⟨rfl, rfl, rfl, rfl⟩⟩
    · simp [Value.cells] at hcs
      obtain ⟨rfl, rfl, rfl⟩ := hcs
      exact ⟨zs, .inr ⟨_, rfl, hl, hm, by simpa using hz, hcell, hwz⟩⟩
  obtain ⟨a1, len1, cap1, rfl⟩ := okWide_slice Tryd.underlying22 (hval 1 22 v1 rfl rfl)
  have k1 := h1
  have lt1 : ∀ x ∈ p1, x.block < W.heap.size := by obtain ⟨m, hm⟩ := k1; exact DataW.trod_lt m _ _ _ hm
  obtain ⟨z1, w1⟩ : ∃ zs, IsRow .u8 W a1 len1 cap1 zs := by
    obtain ⟨fuel, hf⟩ := h1
    rcases open_ints Tryd.underlying22 Tryd.underlying5 (by kernel_rfl) hf with ⟨hcs, _⟩ | ⟨x, l, c, zs, hcs, _, hl, hm, hz, _, hcell, hwz⟩
    · simp [Value.cells] at hcs
      obtain ⟨rfl, rfl, rfl⟩ := hcs
      exact ⟨[], .inl ⟨rfl, rfl, rfl, rfl⟩⟩
    · simp [Value.cells] at hcs
      obtain ⟨rfl, rfl, rfl⟩ := hcs
      exact ⟨zs, .inr ⟨_, rfl, hl, hm, by simpa using hz, hcell, hwz⟩⟩
  clear hA0 hval0 hV1
  refine (walk a0 len0 cap0 z0 a1 len1 cap1 z1 W (tabs2_of_laid hL) w0 w1).mono fun e W' ⟨he, bel⟩ => ?_
  subst he
  exact ⟨_, rfl, _, _, _, [], _, _, hW', trodAll_mk1 (shut_bool Tryd.underlying4 _), (trodAll_cons_mk (Below.trod laidOut (by kernel_rfl) (of_decide_eq_true (by kernel_rfl)) k0 bel lt0) (trodAll_cons_mk (Below.trod laidOut (by kernel_rfl) (of_decide_eq_true (by kernel_rfl)) k1 bel lt1) trodAll_mk0)), bel.trodVars laidOut (by kernel_rfl) hV, bel.frame _, fun h => by cases h⟩

theorem over : Rows.fnCodApartRow.holds Tryd.pinned (OpenSpec.ofChange Rows.fnCodApartSpec) :=
  OpenClaim.holds_of_wide 5 Tryd.f5 rfl rfl rfl rfl rfl rfl rfl ⟨rfl, rfl, rfl, rfl, rfl⟩ rfl rfl rfl rfl rfl (by kernel_rfl) Tryd.func5 (by kernel_rfl)
    (of_decide_eq_true (by kernel_rfl)) (by unfold Func.isWrapper; first | (rw [if_pos (by decide +kernel)]; kernel_rfl) | (rw [if_neg (by decide +kernel)]; exact ⟨rfl, rfl⟩))
    (fun os started H enc _ => lifted os started H enc)

/-- THE STATEMENT: the tied card. -/
theorem proved : Rows.FnCodApartCardSaid :=
  Claim7.holds_tied_plain_at .later [] [.data, .data, .data, .wider, .data, .data] true (true, "b52127b27052be8e1379b4928e638b8b16f290584df6f950925e06d10987c8aa") true
    over (fun _ h => by cases h) (by kernel_rfl) (fun _ h => by cases h) fnCodApart_row_tie rfl ⟨rfl, rfl⟩ (by kernel_rfl) rfl
    (fun f fn hf hfn => by
      obtain rfl : f = 5 := Option.some.inj ((show Tryd.prog.funcNamed "loop.example/harbinger/laws.FnCodApart" = some 5 by kernel_rfl).symm.trans hf) |>.symm
      obtain rfl : fn = Tryd.f5 := (Option.some.inj (Tryd.func5.symm.trans hfn)).symm
      exact ⟨by kernel_rfl, fun j t ht => by
        rw [Tryd.params5] at ht
        have hm : t ∈ [22, 22] := by simpa using Array.mem_of_getElem? ht
        have hall : ([22, 22].all fun u => !Tryd.prog.wantsStandIn u) = true := by kernel_rfl
        exact (show Tryd.prog.wantsStandIn t = false by simpa using List.all_eq_true.1 hall t hm)⟩)
    (by kernel_rfl)
#print axioms proved
end Go.Proofs.YtecdmafhjfnloaaDoor.fnCodApart
