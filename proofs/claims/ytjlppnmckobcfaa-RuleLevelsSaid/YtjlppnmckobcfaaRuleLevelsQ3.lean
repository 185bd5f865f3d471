/-
  Facts and contracts that the proof of RuleLevels uses.
-/
import Derived.Test.YtjlppnmckobcfaaRows
import Derived.WalkKit
import Derived.Lib.Hide
import Derived.KernelRfl
import Derived.Deep.RegionWith
import Derived.Deep.RegionHeld3
import Derived.Deep.AppendLies
import Derived.Laws.Rows
import Derived.Laws.IdiomCopy
import Derived.Deep.Slices
import Derived.Deep.QuietTactic
import Derived.BigQuiet
import Derived.Lib.QuietBelow
import Derived.StillTailTactics
import Derived.IntWalk
import Derived.OwnWalk
import Derived.OrdersHeld
import Derived.Deep.DeepCutAuto
import Derived.Deep.RegionLaw
import Derived.Deep.LoopGhost
import Derived.Deep.MidRow
import Derived.Laws.Tables
import Derived.Laws.CopyOwn
import Derived.Laws.CopyRow
import Derived.Deep.RegionHeld
import Derived.ProofKit
import Derived.OpenShut
import Derived.Carry
import Derived.ChangeSlices
import Derived.JoinedOf
import Derived.Test.YtjlppnmckobcfaaRuleLevelsQ2
namespace Go.Proofs.Ytjlppnmckobcfaa
open Go.RowKit

theorem row_subW {C : Array Value} {o W : Nat} {L : List Value} (h : (C.toList.drop o).take W = L) (f n : Nat) (hn : f + n ≤ W) : (C.toList.drop (o + f)).take n = (L.drop f).take n := by
  rw [← h, List.drop_take, List.take_take, List.drop_drop, Nat.min_eq_left (by omega)]
theorem row_cellW {C : Array Value} {o W : Nat} {L : List Value} (h : (C.toList.drop o).take W = L) (f : Nat) (hf : f < W) : C[o + f]? = L[f]? := by
  rw [← h, List.getElem?_take_of_lt hf, List.getElem?_drop, Array.getElem?_toList]
/-- A judgment's cells as a piece of its block. -/
theorem jnode_blk {w : World} {b o : Nat} {j : Jd} {su sv sa : Value} (h : JNode w b o j su sv sa) : ∃ (C : Array Value) (T : TypeId) (fr : Nat × Nat), w.heap[b]? = some (.cells C T fr) ∧
    (C.toList.drop o).take 17 = [.bool j.eq, .int .i64 j.u.k, .int .i64 j.u.i, .int .i64 j.u.j, .int .i64 j.u.n, su, .int .i64 j.v.k, .int .i64 j.v.i, .int .i64 j.v.j, .int .i64 j.v.n, sv, .int .i64 j.a.k, .int .i64 j.a.i, .int .i64 j.a.j, .int .i64 j.a.n, sa, .int .i64 j.i] := by
  obtain ⟨x0, x1, x2, x3, x4, x5, x6, x7, x8, x9, x10, x11, x12, x13, x14, x15, x16⟩ := h
  have hb : ∃ (C : Array Value) (T : TypeId) (fr : Nat × Nat), w.heap[b]? = some (.cells C T fr) := by
    have h0 := x0
    unfold World.cell? at h0
    cases e : w.heap[b]? with
    | none => simp [e] at h0
    | some ob =>
      cases ob with
      | cells C T fr => exact ⟨C, T, fr, rfl⟩
      | _ => simp [e] at h0
  obtain ⟨C, T, fr, hC⟩ := hb
  refine ⟨C, T, fr, hC, ?_⟩
  have cell : ∀ q v, w.cell? ⟨b, o + q, none⟩ = some v → C.toList[o + q]? = some v := fun q v h => by rw [cell_of_row w b _ C T fr hC] at h; rw [Array.getElem?_toList]; exact h
  apply List.ext_getElem?
  intro q
  by_cases hq : q < 17
  · rw [List.getElem?_take_of_lt hq, List.getElem?_drop]
    match q, hq with
    | 0, _ => exact cell 0 _ x0
    | 1, _ => exact cell 1 _ x1
    | 2, _ => exact cell 2 _ x2
    | 3, _ => exact cell 3 _ x3
    | 4, _ => exact cell 4 _ x4
    | 5, _ => exact cell 5 _ x5
    | 6, _ => exact cell 6 _ x6
    | 7, _ => exact cell 7 _ x7
    | 8, _ => exact cell 8 _ x8
    | 9, _ => exact cell 9 _ x9
    | 10, _ => exact cell 10 _ x10
    | 11, _ => exact cell 11 _ x11
    | 12, _ => exact cell 12 _ x12
    | 13, _ => exact cell 13 _ x13
    | 14, _ => exact cell 14 _ x14
    | 15, _ => exact cell 15 _ x15
    | 16, _ => exact cell 16 _ x16
    | n + 17, h => exact absurd h (by omega)
  · rw [List.getElem?_eq_none (by simp; omega), List.getElem?_eq_none (by simp; omega)]
def purC (l : List En) : Bool := l.all (fun e => e.a.pureB) && rightC l
def osB (a : Tm) (i : Int) : Bool := (a.k == 1) && (i == (a.i + 1))
def rcls (r : Int) : Nat := if (r == 3 || (r == 6 || r == 4)) = true then 0 else if (r == 25 || (r == 26 || (r == 27 || r == 28))) = true then 1 else 2
/-- What stands ahead of an inner premise. -/
def entB (r : Int) (j : Jd) : En × Bool := if rcls r = 0 then (⟨j.u, j.a.i⟩, !j.eq && osB j.a j.i) else if rcls r = 1 then (⟨j.u, j.a.i⟩, j.eq && osB j.a j.i) else (⟨j.a, j.i⟩, j.eq == (r == 23))
theorem entB_0 {r : Int} (j : Jd) (h : rcls r = 0) : entB r j = (⟨j.u, j.a.i⟩, !j.eq && osB j.a j.i) := by unfold entB; rw [if_pos h]
theorem entB_1 {r : Int} (j : Jd) (h : rcls r = 1) : entB r j = (⟨j.u, j.a.i⟩, j.eq && osB j.a j.i) := by unfold entB; rw [if_neg (by omega), if_pos h]
theorem entB_2 {r : Int} (j : Jd) (h : rcls r = 2) : entB r j = (⟨j.a, j.i⟩, j.eq == (r == 23)) := by unfold entB; rw [if_neg (by omega), if_neg (by omega)]
theorem entB_fine {r : Int} {j : Jd} (h : j.fine) : (entB r j).1.fine := by
  unfold entB
  split
  · exact ⟨h.1, h.2.2.1.2.1⟩
  · split
    · exact ⟨h.1, h.2.2.1.2.1⟩
    · exact ⟨h.2.2.1, h.2.2.2⟩
theorem entB_size {r : Int} {j : Jd} {n : Nat} (hu : j.u.size ≤ n) (ha : j.a.size ≤ n) : (entB r j).1.a.size ≤ n := by
  unfold entB
  split
  · exact hu
  · split
    · exact hu
    · exact ha
/-- An entry and a bool are handed back. -/
def GivesEB (P : Nat → Prop) (x : En) (b : Bool) (w : World) (e : Ending) (w' : World) : Prop := ∃ s' : Value, e = .returned (.tuple #[.agg #[.int .i64 x.a.k, .int .i64 x.a.i, .int .i64 x.a.j, .int .i64 x.a.n, s', .int .i64 x.i], .bool b]) ∧ LiesQ w' (fun b => P b ∨ w.heap.size ≤ b) x.a.kids s' ∧ Kept w w'
/-- A context and a bool are handed back. -/
def GivesPr (x : List En × Bool) (w : World) (e : Ending) (w' : World) : Prop := ∃ s' : Value, e = .returned (.tuple #[s', .bool x.2]) ∧ LiesE w' x.1 s' ∧ Kept w w'
/-- A premise's context. -/
def premB (c : List En) (r kid : Int) (on : List Jd) : List En × Bool :=
  if (purC c && (decide (0 ≤ kid) && decide (kid < Dv.dkidsN r))) = true then
    if Dv.innerB r kid = true then
      match on with
      | [] => ([], false)
      | j :: _ => if rightJ j c.length = true then (if (entB r j).2 = true then (c ++ [(entB r j).1], true) else ([], false)) else ([], false)
    else (c, true)
  else ([], false)
theorem premB_kid0 {c : List En} {r kid : Int} {on : List Jd} (h : decide (kid < 0) = true) : premB c r kid on = ([], false) := by
  unfold premB
  rw [if_neg]
  rw [decide_eq_false (p := 0 ≤ kid) (by have := of_decide_eq_true h; omega)]; simp
theorem premB_kid1 {c : List En} {r kid : Int} {on : List Jd} (h : decide (Dv.dkidsN r ≤ kid) = true) : premB c r kid on = ([], false) := by
  unfold premB
  rw [if_neg]
  rw [decide_eq_false (p := kid < Dv.dkidsN r) (by have := of_decide_eq_true h; omega)]; simp
theorem premB_pure {c : List En} {r kid : Int} {on : List Jd} (h : purC c = false) : premB c r kid on = ([], false) := by
  unfold premB
  rw [if_neg]
  rw [h]; simp
theorem premB_in {c : List En} {r kid : Int} (h0 : decide (kid < 0) = false) (h1 : decide (Dv.dkidsN r ≤ kid) = false) (h2 : purC c = true) : (purC c && (decide (0 ≤ kid) && decide (kid < Dv.dkidsN r))) = true := by
  rw [h2, decide_eq_true (p := 0 ≤ kid) (by have := of_decide_eq_false h0; omega), decide_eq_true (p := kid < Dv.dkidsN r) (by have := of_decide_eq_false h1; omega)]; rfl
theorem premB_outer {c : List En} {r kid : Int} {on : List Jd} (h : (purC c && (decide (0 ≤ kid) && decide (kid < Dv.dkidsN r))) = true) (h3 : Dv.innerB r kid = false) : premB c r kid on = (c, true) := by
  unfold premB
  rw [if_pos h, if_neg (by rw [h3]; decide)]
theorem premB_right {c : List En} {r kid : Int} {j : Jd} {on : List Jd} (h3 : Dv.innerB r kid = true) (h : rightJ j c.length = false) : premB c r kid (j :: on) = ([], false) := by
  unfold premB
  by_cases h0 : (purC c && (decide (0 ≤ kid) && decide (kid < Dv.dkidsN r))) = true
  · rw [if_pos h0, if_pos h3]
    simp only []
    rw [if_neg (by rw [h]; decide)]
  · rw [if_neg h0]
theorem premB_ent {c : List En} {r kid : Int} {j : Jd} {on : List Jd} (h3 : Dv.innerB r kid = true) (h : (entB r j).2 = false) : premB c r kid (j :: on) = ([], false) := by
  unfold premB
  by_cases h0 : (purC c && (decide (0 ≤ kid) && decide (kid < Dv.dkidsN r))) = true
  · rw [if_pos h0, if_pos h3]
    simp only []
    rw [h]
    simp
  · rw [if_neg h0]
theorem premB_all {c : List En} {r kid : Int} {j : Jd} {on : List Jd} (h0 : (purC c && (decide (0 ≤ kid) && decide (kid < Dv.dkidsN r))) = true) (h3 : Dv.innerB r kid = true) (h4 : rightJ j c.length = true) (h5 : (entB r j).2 = true) : premB c r kid (j :: on) = (c ++ [(entB r j).1], true) := by
  unfold premB
  rw [if_pos h0, if_pos h3]
  simp only []
  rw [if_pos h4, if_pos h5]
theorem numbers_range {k i j n : Int} (h : numbersN k i j n = true) : 0 ≤ i ∧ i ≤ 2147483647 := by
  unfold numbersN at h
  repeat' split at h
  all_goals (simp [levelB] at h; omega)
theorem pure_marked {t : Tm} (h : t.pureB = true) : t.markedB = true := by unfold Tm.pureB at h; rw [Bool.and_eq_true] at h; exact h.1
theorem pure_range {t : Tm} (h : t.pureB = true) : 0 ≤ t.i ∧ t.i ≤ 2147483647 := by
  have h1 := pure_marked h
  rw [Tm.markedB_eq, Bool.and_eq_true, Bool.and_eq_true, Tm.nodeB, Bool.and_eq_true] at h1
  have h2 := h1.2.1
  rw [Bool.and_eq_true] at h2
  exact numbers_range h2.2
theorem rightJ_pure {j : Jd} {n : Int} (h : rightJ j n = true) : j.a.pureB = true := by
  unfold rightJ jfitB at h
  simp only [Bool.and_eq_true] at h
  exact h.2.1.2.1

set_option maxRecDepth 20000 in
set_option maxHeartbeats 4000000 in
theorem rulepure_any (l : List En) (w : World) (s : Value) (hl : LiesE w l s) : Calls Try.prog 22 #[s] w fun e w' => e = .returned (.bool (purC l)) ∧ Below w.heap.size w w' := by
  obtain ⟨a, cap, S, rfl, hc, hmx, -, hn, hk⟩ := hl.out
  unfold maxLen at hmx
  have HL := Lib.hid hl
  have HN := Lib.hid hn
  have HK := Lib.hid hk
  clear hn hk hl
  go_enter Try.func22, Try.ntmps22
  go_wp2
  go_loopw [7] (fun iv wr => ∃ k : Nat, k ≤ l.length ∧ iv = .int .i64 k ∧ Hid ((l.take k).all (fun e => e.a.pureB) = true) ∧ Below w.heap.size w wr) (fun iv _ => l.length - (intOf iv).toNat)
  case atStart => exact ⟨0, Nat.zero_le _, rfl, rfl, Below.refl _ _⟩
  case round =>
    obtain ⟨k, hk, rfl, hgood, hb⟩ := hrel
    by_cases hlt : k < l.length
    · obtain ⟨b, o, rfl, hx⟩ := HN.out k hlt
      have hx := hx.below hb hx.lt
      have hq := (HK.out k hlt).keep hb
      obtain ⟨a', cap', S', hS, -⟩ := hq.out
      rw [hS] at hx hq
      have HQ := Lib.hid hq
      have HT := Lib.hid (fun (h : l[k].a.pureB = true) => show (l.take (k + 1)).all (fun e => e.a.pureB) = true by rw [List.take_succ_eq_append_getElem hlt, List.all_append, hgood.out]; simp [h])
      have HO := Lib.hid (fun (h : l[k].a.pureB = false) => show purC l = false by
        unfold purC
        cases e : l.all (fun e => e.a.pureB) with
        | false => rfl
        | true => have := List.all_eq_true.1 e _ (List.getElem_mem hlt); rw [h] at this; cases this)
      obtain ⟨x0, x1, x2, x3, x4, x5⟩ := hx
      clear hS hq
      have hX := bnode_new wr l[k] (.slice a' l[k].a.kids.length cap')
      have hbV : Below wr.heap.size wr (wr.alloc (.cells #[.int .i64 l[k].a.k, .int .i64 l[k].a.i, .int .i64 l[k].a.j, .int .i64 l[k].a.n, (.slice a' l[k].a.kids.length cap'), .int .i64 l[k].i] 52)) := (Below.refl _ _).alloc (Nat.le_refl _) _
      have hqV := HQ.out.keep hbV
      have hbw := below_call hb hbV hb.size
      clear HQ hb hbV
      go_upto_region 4 with fail
      clear x0 x1 x2 x3 x4 x5
      obtain ⟨g, hg⟩ : ∃ g, wr.heap.size = g := ⟨_, rfl⟩
      rw [hg] at hX ⊢
      generalize wr.alloc (.cells #[.int .i64 l[k].a.k, .int .i64 l[k].a.i, .int .i64 l[k].a.j, .int .i64 l[k].a.n, (.slice a' l[k].a.kids.length cap'), .int .i64 l[k].i] 52) = V at hX hqV hbw ⊢
      have HX := Lib.hid hX
      have HQ := Lib.hid hqV
      have HBV := Lib.hid hbw
      clear hqV hbw hg
      obtain ⟨x0, x1, x2, x3, x4, x5⟩ := hX
      go_wp2_with fail
      refine (pure_any l[k].a _ _ HQ.out).mono ?_
      obtain ⟨mb, hmb⟩ : ∃ b, l[k].a.pureB = b := ⟨_, rfl⟩
      rw [hmb]
      have HMB := Lib.hid hmb
      clear hmb
      rintro e w1 ⟨rfl, hb1⟩
      have HB1 := Lib.hid (below_call HBV.out hb1 HBV.out.size)
      clear hb1 x0 x1 x2 x3 x4 x5
      cases mb with
      | false =>
        go_wp2
        go_ret
        exact ⟨ret_bool (HO.out HMB.out).symm, HB1.out⟩
      | true =>
        go_wp2
        go_roundw
        case rel => exact ⟨k + 1, hlt, by go_num, HT.out HMB.out, HB1.out⟩
        case measure => simp [intOf]; omega
    · obtain rfl : k = l.length := by omega
      have HS := Lib.hid (show l.all (fun e => e.a.pureB) = true by have := hgood.out; rw [List.take_length] at this; exact this)
      go_wp2_with fail
      refine (ctxright_any l _ _ (HL.out.keep hb)).mono ?_
      rintro e w1 ⟨rfl, hb1⟩
      have hb01 := below_call hb hb1 hb.size
      clear hb1
      go_wp2
      go_ret
      exact ⟨ret_bool (by unfold purC; rw [HS.out, Bool.true_and]), hb01⟩

set_option maxRecDepth 20000 in
set_option maxHeartbeats 4000000 in
theorem ofsort0_any (i : Int) (u : Tm) (v : Tm) (x : Tm) (P : Nat → Prop) (w : World) (su : Value) (sv : Value) (sx : Value) (hfu : u.fine) (hlu : LiesQ w P u.kids su) (hfv : v.fine) (hlv : LiesQ w P v.kids sv) (hfx : x.fine) (hlx : LiesQ w P x.kids sx) (hri : I64 i) (hx0 : 0 ≤ x.i) (hx1 : x.i ≤ 2147483647) : Calls Try.prog 73 #[.agg #[.bool false, .int .i64 u.k, .int .i64 u.i, .int .i64 u.j, .int .i64 u.n, su, .int .i64 v.k, .int .i64 v.i, .int .i64 v.j, .int .i64 v.n, sv, .int .i64 x.k, .int .i64 x.i, .int .i64 x.j, .int .i64 x.n, sx, .int .i64 i]] w fun e w' => e = .returned (.bool (osB x i)) ∧ Kept w w' := by
  have Gu := Lib.hid hfu
  clear hfu
  obtain ⟨au, cu, Su, rfl, -⟩ := hlu.out
  have Gv := Lib.hid hfv
  clear hfv
  obtain ⟨av, cv, Sv, rfl, -⟩ := hlv.out
  have Gx := Lib.hid hfx
  clear hfx
  obtain ⟨ax, cx, Sx, rfl, -⟩ := hlx.out
  have Ri := Lib.hid hri
  clear hri
  have HX0 := Lib.hid hx0
  have HX1 := Lib.hid hx1
  have ew : IntKind.i64.wrap (x.i + 1) = x.i + 1 := IntWalk.i64_in _ (by omega)
  clear hx0 hx1
  obtain ⟨dj, dj1, dj2⟩ := under_of 34 (by kernel_rfl)
  go_enter Try.func73, Try.ntmps73
  go_upto_region 1 with fail
  refine at_code (fun V0 hV0 => ?_)
  obtain ⟨k2, x1, z3⟩ := alloc1 hV0
  have Kk4 := Lib.hid k2
  clear k2
  have Hx1 := Lib.hid x1
  have Z0 := Lib.hid z3
  clear z3 x1 hV0
  have HLu : Hid (LiesQ V0 (Par w V0.heap.size [] P) u.kids _) := (par_in _ _ hlu).later Kk4.out
  clear hlu
  have HLv : Hid (LiesQ V0 (Par w V0.heap.size [] P) v.kids _) := (par_in _ _ hlv).later Kk4.out
  clear hlv
  have HLx : Hid (LiesQ V0 (Par w V0.heap.size [] P) x.kids _) := (par_in _ _ hlx).later Kk4.out
  clear hlx
  have ld5 := partN_cell (r := V0.heap.size) Hx1.out trivial 11 (.int .i64 x.k) rfl
  have ld6 := partN_cell (r := V0.heap.size) Hx1.out trivial 12 (.int .i64 x.i) rfl
  have ld7 := partN_cell (r := V0.heap.size) Hx1.out trivial 16 (.int .i64 i) rfl
  have kvV0 : SeesN V0 V0.heap.size V0 := seesN_kept _ (kept_refl _)
  by_cases c8 : x.k = 1
  · have ec8 : (x.k == 1) = true := beq_iff_eq.2 c8
    have fc8 : (x.k != 1) = false := by rw [bne, ec8]; rfl
    have Ec8 := Lib.hid ec8
    have Hc8 := Lib.hid c8
    clear c8
    by_cases c9 : i = (x.i + 1)
    · have ec9 : (i == (x.i + 1)) = true := beq_iff_eq.2 c9
      have fc9 : (i != (x.i + 1)) = false := by rw [bne, ec9]; rfl
      have Ec9 := Lib.hid ec9
      have Hc9 := Lib.hid c9
      clear c9
      go_wp2
      go_ret
      exact ⟨ret_bool (Eq.symm (show osB x i = true from by unfold osB; rw [Ec8.out, Ec9.out]; (try rfl))), Kk4.out⟩
    · have ec9 : (i == (x.i + 1)) = false := beq_eq_false_iff_ne.2 c9
      have fc9 : (i != (x.i + 1)) = true := by rw [bne, ec9]; rfl
      have Ec9 := Lib.hid ec9
      have Hc9 := Lib.hid c9
      clear c9
      go_wp2
      go_ret
      exact ⟨ret_bool (Eq.symm (show osB x i = false from by unfold osB; rw [Ec8.out, Ec9.out]; (try rfl))), Kk4.out⟩
  · have ec8 : (x.k == 1) = false := beq_eq_false_iff_ne.2 c8
    have fc8 : (x.k != 1) = true := by rw [bne, ec8]; rfl
    have Ec8 := Lib.hid ec8
    have Hc8 := Lib.hid c8
    clear c8
    go_wp2
    go_ret
    exact ⟨ret_bool (Eq.symm (show osB x i = false from by unfold osB; rw [Ec8.out]; (try rfl))), Kk4.out⟩

set_option maxRecDepth 20000 in
set_option maxHeartbeats 4000000 in
theorem ofsort1_any (i : Int) (u : Tm) (v : Tm) (x : Tm) (P : Nat → Prop) (w : World) (su : Value) (sv : Value) (sx : Value) (hfu : u.fine) (hlu : LiesQ w P u.kids su) (hfv : v.fine) (hlv : LiesQ w P v.kids sv) (hfx : x.fine) (hlx : LiesQ w P x.kids sx) (hri : I64 i) (hx0 : 0 ≤ x.i) (hx1 : x.i ≤ 2147483647) : Calls Try.prog 73 #[.agg #[.bool true, .int .i64 u.k, .int .i64 u.i, .int .i64 u.j, .int .i64 u.n, su, .int .i64 v.k, .int .i64 v.i, .int .i64 v.j, .int .i64 v.n, sv, .int .i64 x.k, .int .i64 x.i, .int .i64 x.j, .int .i64 x.n, sx, .int .i64 i]] w fun e w' => e = .returned (.bool (osB x i)) ∧ Kept w w' := by
  have Gu := Lib.hid hfu
  clear hfu
  obtain ⟨au, cu, Su, rfl, -⟩ := hlu.out
  have Gv := Lib.hid hfv
  clear hfv
  obtain ⟨av, cv, Sv, rfl, -⟩ := hlv.out
  have Gx := Lib.hid hfx
  clear hfx
  obtain ⟨ax, cx, Sx, rfl, -⟩ := hlx.out
  have Ri := Lib.hid hri
  clear hri
  have HX0 := Lib.hid hx0
  have HX1 := Lib.hid hx1
  have ew : IntKind.i64.wrap (x.i + 1) = x.i + 1 := IntWalk.i64_in _ (by omega)
  clear hx0 hx1
  obtain ⟨dj, dj1, dj2⟩ := under_of 34 (by kernel_rfl)
  go_enter Try.func73, Try.ntmps73
  go_upto_region 1 with fail
  refine at_code (fun V0 hV0 => ?_)
  obtain ⟨k2, x1, z3⟩ := alloc1 hV0
  have Kk4 := Lib.hid k2
  clear k2
  have Hx1 := Lib.hid x1
  have Z0 := Lib.hid z3
  clear z3 x1 hV0
  have HLu : Hid (LiesQ V0 (Par w V0.heap.size [] P) u.kids _) := (par_in _ _ hlu).later Kk4.out
  clear hlu
  have HLv : Hid (LiesQ V0 (Par w V0.heap.size [] P) v.kids _) := (par_in _ _ hlv).later Kk4.out
  clear hlv
  have HLx : Hid (LiesQ V0 (Par w V0.heap.size [] P) x.kids _) := (par_in _ _ hlx).later Kk4.out
  clear hlx
  have ld5 := partN_cell (r := V0.heap.size) Hx1.out trivial 11 (.int .i64 x.k) rfl
  have ld6 := partN_cell (r := V0.heap.size) Hx1.out trivial 12 (.int .i64 x.i) rfl
  have ld7 := partN_cell (r := V0.heap.size) Hx1.out trivial 16 (.int .i64 i) rfl
  have kvV0 : SeesN V0 V0.heap.size V0 := seesN_kept _ (kept_refl _)
  by_cases c8 : x.k = 1
  · have ec8 : (x.k == 1) = true := beq_iff_eq.2 c8
    have fc8 : (x.k != 1) = false := by rw [bne, ec8]; rfl
    have Ec8 := Lib.hid ec8
    have Hc8 := Lib.hid c8
    clear c8
    by_cases c9 : i = (x.i + 1)
    · have ec9 : (i == (x.i + 1)) = true := beq_iff_eq.2 c9
      have fc9 : (i != (x.i + 1)) = false := by rw [bne, ec9]; rfl
      have Ec9 := Lib.hid ec9
      have Hc9 := Lib.hid c9
      clear c9
      go_wp2
      go_ret
      exact ⟨ret_bool (Eq.symm (show osB x i = true from by unfold osB; rw [Ec8.out, Ec9.out]; (try rfl))), Kk4.out⟩
    · have ec9 : (i == (x.i + 1)) = false := beq_eq_false_iff_ne.2 c9
      have fc9 : (i != (x.i + 1)) = true := by rw [bne, ec9]; rfl
      have Ec9 := Lib.hid ec9
      have Hc9 := Lib.hid c9
      clear c9
      go_wp2
      go_ret
      exact ⟨ret_bool (Eq.symm (show osB x i = false from by unfold osB; rw [Ec8.out, Ec9.out]; (try rfl))), Kk4.out⟩
  · have ec8 : (x.k == 1) = false := beq_eq_false_iff_ne.2 c8
    have fc8 : (x.k != 1) = true := by rw [bne, ec8]; rfl
    have Ec8 := Lib.hid ec8
    have Hc8 := Lib.hid c8
    clear c8
    go_wp2
    go_ret
    exact ⟨ret_bool (Eq.symm (show osB x i = false from by unfold osB; rw [Ec8.out]; (try rfl))), Kk4.out⟩

def istype0r1_0 : Oper := { dst := some 4, op := Go.Op.fieldAddr 34 (Go.Operand.tmp 1) 3, type := 0, pos := "rule.go:92", after := #[], guard := none }
def istype0r1_1 : Oper := { dst := some 5, op := Go.Op.fieldAddr 32 (Go.Operand.tmp 4) 1, type := 0, pos := "rule.go:92", after := #[{ on := 0, ground := Go.Ground.data }], guard := none }
def istype0r1_2 : Oper := { dst := some 6, op := Go.Op.load 3 (Go.Operand.tmp 5), type := 3, pos := "rule.go:92", after := #[{ on := 1, ground := Go.Ground.data }], guard := none }
def istype0r1_3 : Oper := { dst := some 7, op := Go.Op.fieldAddr 34 (Go.Operand.tmp 1) 0, type := 0, pos := "rule.go:92", after := #[], guard := none }
def istype0r1_4 : Oper := { dst := some 8, op := Go.Op.load 4 (Go.Operand.tmp 7), type := 4, pos := "rule.go:92", after := #[{ on := 3, ground := Go.Ground.data }], guard := none }
def istype0r1_5 : Oper := { dst := some 9, op := Go.Op.unOp Go.UnOp.not 4 (Go.Operand.tmp 8), type := 4, pos := "rule.go:92", after := #[{ on := 4, ground := Go.Ground.data }], guard := none }
def istype0r1_6 : Oper := { dst := some 10, op := Go.Op.move (Go.Operand.tmp 9), type := 4, pos := "rule.go:92", after := #[{ on := 5, ground := Go.Ground.data }], guard := none }
def istype0r1_7 : Oper := { dst := some 11, op := Go.Op.load 34 (Go.Operand.tmp 1), type := 34, pos := "rule.go:92", after := #[{ on := 6, ground := Go.Ground.guard }], guard := some (6, true) }
def istype0r1_8 : Oper := { dst := some 12, op := Go.Op.call { callee := Go.Callee.value (Go.Operand.func 73), args := #[Go.Operand.tmp 11], argTypes := #[34] }, type := 4, pos := "rule.go:92", after := #[{ on := 7, ground := Go.Ground.data }, { on := 6, ground := Go.Ground.chain }, { on := 6, ground := Go.Ground.guard }], guard := some (6, true) }
def istype0r1_9 : Oper := { dst := some 13, op := Go.Op.pick (Go.Operand.tmp 10) (Go.Operand.tmp 12) (Go.Operand.const (Go.Value.bool false)), type := 4, pos := "rule.go:92", after := #[{ on := 6, ground := Go.Ground.data }, { on := 8, ground := Go.Ground.data }, { on := 10, ground := Go.Ground.gcOnly Go.Departure.lateStores }], guard := none }
def istype0r1_10 : Oper := { dst := some 2, op := Go.Op.assign (Go.Operand.tmp 6), type := 3, pos := "rule.go:92", after := #[{ on := 2, ground := Go.Ground.data }, { on := 8, ground := Go.Ground.chain }, { on := 0, ground := Go.Ground.phase }, { on := 1, ground := Go.Ground.phase }, { on := 2, ground := Go.Ground.phase }, { on := 3, ground := Go.Ground.textOnly Go.Departure.lateStores }, { on := 4, ground := Go.Ground.textOnly Go.Departure.lateStores }, { on := 5, ground := Go.Ground.textOnly Go.Departure.lateStores }, { on := 6, ground := Go.Ground.textOnly Go.Departure.lateStores }, { on := 7, ground := Go.Ground.textOnly Go.Departure.lateStores }, { on := 8, ground := Go.Ground.textOnly Go.Departure.lateStoresUnsure }, { on := 9, ground := Go.Ground.textOnly Go.Departure.lateStores }], guard := none }
def istype0r1_11 : Oper := { dst := some 3, op := Go.Op.assign (Go.Operand.tmp 13), type := 4, pos := "rule.go:92", after := #[{ on := 9, ground := Go.Ground.data }, { on := 10, ground := Go.Ground.chain }, { on := 0, ground := Go.Ground.phase }, { on := 1, ground := Go.Ground.phase }, { on := 2, ground := Go.Ground.phase }, { on := 3, ground := Go.Ground.phase }, { on := 4, ground := Go.Ground.phase }, { on := 5, ground := Go.Ground.phase }, { on := 6, ground := Go.Ground.phase }, { on := 7, ground := Go.Ground.phase }, { on := 8, ground := Go.Ground.phase }, { on := 9, ground := Go.Ground.phase }, { on := 10, ground := Go.Ground.phase }], guard := none }
set_option maxRecDepth 20000 in
set_option maxHeartbeats 4000000 in
theorem istype0_any (i : Int) (u : Tm) (v : Tm) (x : Tm) (P : Nat → Prop) (w : World) (su : Value) (sv : Value) (sx : Value) (hfu : u.fine) (hlu : LiesQ w P u.kids su) (hfv : v.fine) (hlv : LiesQ w P v.kids sv) (hfx : x.fine) (hlx : LiesQ w P x.kids sx) (hri : I64 i) (hx0 : 0 ≤ x.i) (hx1 : x.i ≤ 2147483647) : Calls Try.prog 46 #[.agg #[.bool false, .int .i64 u.k, .int .i64 u.i, .int .i64 u.j, .int .i64 u.n, su, .int .i64 v.k, .int .i64 v.i, .int .i64 v.j, .int .i64 v.n, sv, .int .i64 x.k, .int .i64 x.i, .int .i64 x.j, .int .i64 x.n, sx, .int .i64 i]] w fun e w' => e = .returned (.tuple #[.int .i64 (x.i), .bool (osB x i)]) ∧ Kept w w' := by
  have Gu := Lib.hid hfu
  clear hfu
  obtain ⟨au, cu, Su, rfl, -⟩ := hlu.out
  have Gv := Lib.hid hfv
  clear hfv
  obtain ⟨av, cv, Sv, rfl, -⟩ := hlv.out
  have Gx := Lib.hid hfx
  clear hfx
  obtain ⟨ax, cx, Sx, rfl, -⟩ := hlx.out
  have Ri := Lib.hid hri
  clear hri
  have HX0 := Lib.hid hx0
  have HX1 := Lib.hid hx1
  have ew : IntKind.i64.wrap (x.i + 1) = x.i + 1 := IntWalk.i64_in _ (by omega)
  clear hx0 hx1
  obtain ⟨dj, dj1, dj2⟩ := under_of 34 (by kernel_rfl)
  go_enter Try.func46, Try.ntmps46
  go_upto_region 1 with fail
  refine at_code (fun V0 hV0 => ?_)
  obtain ⟨k2, x1, z3⟩ := alloc1 hV0
  have Kk4 := Lib.hid k2
  clear k2
  have Hx1 := Lib.hid x1
  have Z0 := Lib.hid z3
  clear z3 x1 hV0
  have HLu : Hid (LiesQ V0 (Par w V0.heap.size [] P) u.kids _) := (par_in _ _ hlu).later Kk4.out
  clear hlu
  have HLv : Hid (LiesQ V0 (Par w V0.heap.size [] P) v.kids _) := (par_in _ _ hlv).later Kk4.out
  clear hlv
  have HLx : Hid (LiesQ V0 (Par w V0.heap.size [] P) x.kids _) := (par_in _ _ hlx).later Kk4.out
  clear hlx
  have ld5 := partN_cell (r := V0.heap.size) Hx1.out trivial 0 (.bool false) rfl
  have ld6 := partN_cell (r := V0.heap.size) Hx1.out trivial 12 (.int .i64 x.i) rfl
  have kvV0 : SeesN V0 V0.heap.size V0 := seesN_kept _ (kept_refl _)
  go_wp2_with fail
  clear kvV0
  obtain ⟨W7, h8⟩ : ∃ x, World.drew V0 = x := ⟨_, rfl⟩
  have k9 : Kept V0 W7 := by rw [← h8]; exact kept_drew (kept_refl _)
  have Kk10 := Lib.hid k9
  clear k9
  refine wp_region_held_drew (S := SeesN W7 V0.heap.size) (by kernel_rfl) ?_ (fun hHeld => ?_)
  · (try dsimp only)
    rw [h8]
    exact seesN_kept _ (kept_refl _)
  rw [h8] at hHeld ⊢
  clear h8
  refine take_at 0 4 istype0r1_0 (v := ?_) (Or.inl ⟨by rfl, ?_⟩) ?_
  rotate_left 1
  · ((intro w hSw; (try dsimp only at hSw); unfold istype0r1_0; go_simp) <;> with_reducible rfl)
  (try simp only [Act.put, List.setIfInBounds_toArray, List.set_cons_zero, List.set_cons_succ])
  refine take_at 1 5 istype0r1_1 (v := ?_) (Or.inl ⟨by rfl, ?_⟩) ?_
  rotate_left 1
  · ((intro w hSw; (try dsimp only at hSw); unfold istype0r1_1; go_simp) <;> with_reducible rfl)
  (try simp only [Act.put, List.setIfInBounds_toArray, List.set_cons_zero, List.set_cons_succ])
  refine take_at 2 6 istype0r1_2 (v := ?_) (Or.inl ⟨by rfl, ?_⟩) ?_
  rotate_left 1
  · ((intro w hSw; (try dsimp only at hSw); have qV0 := seesN_of Kk10.out hSw; unfold istype0r1_2; go_simp) <;> with_reducible rfl)
  (try simp only [Act.put, List.setIfInBounds_toArray, List.set_cons_zero, List.set_cons_succ])
  refine take_at 3 7 istype0r1_3 (v := ?_) (Or.inl ⟨by rfl, ?_⟩) ?_
  rotate_left 1
  · ((intro w hSw; (try dsimp only at hSw); unfold istype0r1_3; go_simp) <;> with_reducible rfl)
  (try simp only [Act.put, List.setIfInBounds_toArray, List.set_cons_zero, List.set_cons_succ])
  refine take_at 4 8 istype0r1_4 (v := ?_) (Or.inl ⟨by rfl, ?_⟩) ?_
  rotate_left 1
  · ((intro w hSw; (try dsimp only at hSw); have qV0 := seesN_of Kk10.out hSw; unfold istype0r1_4; go_simp) <;> with_reducible rfl)
  (try simp only [Act.put, List.setIfInBounds_toArray, List.set_cons_zero, List.set_cons_succ])
  refine take_at 5 9 istype0r1_5 (v := ?_) (Or.inl ⟨by rfl, ?_⟩) ?_
  rotate_left 1
  · ((intro w hSw; (try dsimp only at hSw); unfold istype0r1_5; go_simp) <;> with_reducible rfl)
  (try simp only [Act.put, List.setIfInBounds_toArray, List.set_cons_zero, List.set_cons_succ])
  refine take_at 6 10 istype0r1_6 (v := ?_) (Or.inl ⟨by rfl, ?_⟩) ?_
  rotate_left 1
  · ((intro w hSw; (try dsimp only at hSw); unfold istype0r1_6; go_simp) <;> with_reducible rfl)
  (try simp only [Act.put, List.setIfInBounds_toArray, List.set_cons_zero, List.set_cons_succ])
  refine take_at 7 11 istype0r1_7 (yields_part (w.heap.size) (0) 34 (.tmp 1) #[.bool false, .int .i64 u.k, .int .i64 u.i, .int .i64 u.j, .int .i64 u.n, (.slice au u.kids.length cu), .int .i64 v.k, .int .i64 v.i, .int .i64 v.j, .int .i64 v.n, (.slice av v.kids.length cv), .int .i64 x.k, .int .i64 x.i, .int .i64 x.j, .int .i64 x.n, (.slice ax x.kids.length cx), .int .i64 i] dj (fun _ h => seesN_blk Hx1.out trivial (seesN_of Kk10.out h)) (by rfl) rfl (by rfl) (by rfl) dj1 (by cases dj <;> first | rfl | exact dj2) (by kernel_rfl)) ?_
  (try simp only [Act.put, List.setIfInBounds_toArray, List.set_cons_zero, List.set_cons_succ])
  refine wpAnyH_ready (rs := [8]) (by kernel_rfl) (by simp) ?_
  refine AllReadyH.cons (o := istype0r1_8) rfl (fun K hK => ?_) ?_
  · unfold istype0r1_8
    go_simp
    refine (ofsort0_any i u v x (Par w V0.heap.size [] P) W7 ((.slice au u.kids.length cu)) ((.slice av v.kids.length cv)) ((.slice ax x.kids.length cx)) Gu.out (HLu.out.later Kk10.out) Gv.out (HLv.out.later Kk10.out) Gx.out (HLx.out.later Kk10.out) Ri.out HX0.out HX1.out).mono ?_
    obtain ⟨rb14, hb13⟩ : ∃ qb, (osB x i) = qb := ⟨_, rfl⟩
    rw [hb13]
    have Hhb13 := Lib.hid hb13
    clear hb13
    rintro e w11 ⟨rfl, k12⟩
    have Kk15 := Lib.hid k12
    clear k12
    cases rb14 with
    | false =>
      clear hHeld
      refine hK.out _ _ (seesN_kept _ Kk15.out) (fun hHeld => ?_)
      clear hK K
      (try simp only [Act.put, List.setIfInBounds_toArray, List.set_cons_zero, List.set_cons_succ])
      refine take_at 9 13 istype0r1_9 (v := ?_) (Or.inl ⟨by rfl, ?_⟩) ?_
      rotate_left 1
      · ((intro w hSw; (try dsimp only at hSw); unfold istype0r1_9; go_simp) <;> with_reducible rfl)
      (try simp only [Act.put, List.setIfInBounds_toArray, List.set_cons_zero, List.set_cons_succ])
      refine take_at 10 2 istype0r1_10 (v := ?_) (Or.inl ⟨by rfl, ?_⟩) ?_
      rotate_left 1
      · ((intro w hSw; (try dsimp only at hSw); unfold istype0r1_10; go_simp) <;> with_reducible rfl)
      (try simp only [Act.put, List.setIfInBounds_toArray, List.set_cons_zero, List.set_cons_succ])
      refine take_at 11 3 istype0r1_11 (v := ?_) (Or.inl ⟨by rfl, ?_⟩) ?_
      rotate_left 1
      · ((intro w hSw; (try dsimp only at hSw); unfold istype0r1_11; go_simp) <;> with_reducible rfl)
      (try simp only [Act.put, List.setIfInBounds_toArray, List.set_cons_zero, List.set_cons_succ])
      refine wpAnyH_done (by kernel_rfl) ?_ _
      clear hHeld
      have kvV0 : SeesN V0 V0.heap.size w11 := seesN_kept _ (kept_trans Kk10.out Kk15.out)
      go_wp2
      go_ret2
      exact ⟨by first | rfl | (rw [show (osB x i) = false from by rw [Hhb13.out]; (try rfl)]; rfl), (kept_trans Kk4.out (kept_trans Kk10.out Kk15.out))⟩
    | true =>
      clear hHeld
      refine hK.out _ _ (seesN_kept _ Kk15.out) (fun hHeld => ?_)
      clear hK K
      (try simp only [Act.put, List.setIfInBounds_toArray, List.set_cons_zero, List.set_cons_succ])
      refine take_at 9 13 istype0r1_9 (v := ?_) (Or.inl ⟨by rfl, ?_⟩) ?_
      rotate_left 1
      · ((intro w hSw; (try dsimp only at hSw); unfold istype0r1_9; go_simp) <;> with_reducible rfl)
      (try simp only [Act.put, List.setIfInBounds_toArray, List.set_cons_zero, List.set_cons_succ])
      refine take_at 10 2 istype0r1_10 (v := ?_) (Or.inl ⟨by rfl, ?_⟩) ?_
      rotate_left 1
      · ((intro w hSw; (try dsimp only at hSw); unfold istype0r1_10; go_simp) <;> with_reducible rfl)
      (try simp only [Act.put, List.setIfInBounds_toArray, List.set_cons_zero, List.set_cons_succ])
      refine take_at 11 3 istype0r1_11 (v := ?_) (Or.inl ⟨by rfl, ?_⟩) ?_
      rotate_left 1
      · ((intro w hSw; (try dsimp only at hSw); unfold istype0r1_11; go_simp) <;> with_reducible rfl)
      (try simp only [Act.put, List.setIfInBounds_toArray, List.set_cons_zero, List.set_cons_succ])
      refine wpAnyH_done (by kernel_rfl) ?_ _
      clear hHeld
      have kvV0 : SeesN V0 V0.heap.size w11 := seesN_kept _ (kept_trans Kk10.out Kk15.out)
      go_wp2
      go_ret2
      exact ⟨by first | rfl | (rw [show (osB x i) = true from by rw [Hhb13.out]; (try rfl)]; rfl), (kept_trans Kk4.out (kept_trans Kk10.out Kk15.out))⟩
  exact AllReadyH.nil

def aretypes0r1_0 : Oper := { dst := some 4, op := Go.Op.fieldAddr 34 (Go.Operand.tmp 1) 3, type := 0, pos := "rule.go:97", after := #[], guard := none }
def aretypes0r1_1 : Oper := { dst := some 5, op := Go.Op.fieldAddr 32 (Go.Operand.tmp 4) 1, type := 0, pos := "rule.go:97", after := #[{ on := 0, ground := Go.Ground.data }], guard := none }
def aretypes0r1_2 : Oper := { dst := some 6, op := Go.Op.load 3 (Go.Operand.tmp 5), type := 3, pos := "rule.go:97", after := #[{ on := 1, ground := Go.Ground.data }], guard := none }
def aretypes0r1_3 : Oper := { dst := some 7, op := Go.Op.fieldAddr 34 (Go.Operand.tmp 1) 0, type := 0, pos := "rule.go:97", after := #[], guard := none }
def aretypes0r1_4 : Oper := { dst := some 8, op := Go.Op.load 4 (Go.Operand.tmp 7), type := 4, pos := "rule.go:97", after := #[{ on := 3, ground := Go.Ground.data }], guard := none }
def aretypes0r1_5 : Oper := { dst := some 9, op := Go.Op.move (Go.Operand.tmp 8), type := 4, pos := "rule.go:97", after := #[{ on := 4, ground := Go.Ground.data }], guard := none }
def aretypes0r1_6 : Oper := { dst := some 10, op := Go.Op.load 34 (Go.Operand.tmp 1), type := 34, pos := "rule.go:97", after := #[{ on := 5, ground := Go.Ground.guard }], guard := some (5, true) }
def aretypes0r1_7 : Oper := { dst := some 11, op := Go.Op.call { callee := Go.Callee.value (Go.Operand.func 73), args := #[Go.Operand.tmp 10], argTypes := #[34] }, type := 4, pos := "rule.go:97", after := #[{ on := 6, ground := Go.Ground.data }, { on := 5, ground := Go.Ground.chain }, { on := 5, ground := Go.Ground.guard }], guard := some (5, true) }
def aretypes0r1_8 : Oper := { dst := some 12, op := Go.Op.pick (Go.Operand.tmp 9) (Go.Operand.tmp 11) (Go.Operand.const (Go.Value.bool false)), type := 4, pos := "rule.go:97", after := #[{ on := 5, ground := Go.Ground.data }, { on := 7, ground := Go.Ground.data }, { on := 9, ground := Go.Ground.gcOnly Go.Departure.lateStores }], guard := none }
def aretypes0r1_9 : Oper := { dst := some 2, op := Go.Op.assign (Go.Operand.tmp 6), type := 3, pos := "rule.go:97", after := #[{ on := 2, ground := Go.Ground.data }, { on := 7, ground := Go.Ground.chain }, { on := 0, ground := Go.Ground.phase }, { on := 1, ground := Go.Ground.phase }, { on := 2, ground := Go.Ground.phase }, { on := 3, ground := Go.Ground.textOnly Go.Departure.lateStores }, { on := 4, ground := Go.Ground.textOnly Go.Departure.lateStores }, { on := 5, ground := Go.Ground.textOnly Go.Departure.lateStores }, { on := 6, ground := Go.Ground.textOnly Go.Departure.lateStores }, { on := 7, ground := Go.Ground.textOnly Go.Departure.lateStoresUnsure }, { on := 8, ground := Go.Ground.textOnly Go.Departure.lateStores }], guard := none }
def aretypes0r1_10 : Oper := { dst := some 3, op := Go.Op.assign (Go.Operand.tmp 12), type := 4, pos := "rule.go:97", after := #[{ on := 8, ground := Go.Ground.data }, { on := 9, ground := Go.Ground.chain }, { on := 0, ground := Go.Ground.phase }, { on := 1, ground := Go.Ground.phase }, { on := 2, ground := Go.Ground.phase }, { on := 3, ground := Go.Ground.phase }, { on := 4, ground := Go.Ground.phase }, { on := 5, ground := Go.Ground.phase }, { on := 6, ground := Go.Ground.phase }, { on := 7, ground := Go.Ground.phase }, { on := 8, ground := Go.Ground.phase }, { on := 9, ground := Go.Ground.phase }], guard := none }
set_option maxRecDepth 20000 in
set_option maxHeartbeats 4000000 in
theorem aretypes0_any (i : Int) (u : Tm) (v : Tm) (x : Tm) (P : Nat → Prop) (w : World) (su : Value) (sv : Value) (sx : Value) (hfu : u.fine) (hlu : LiesQ w P u.kids su) (hfv : v.fine) (hlv : LiesQ w P v.kids sv) (hfx : x.fine) (hlx : LiesQ w P x.kids sx) (hri : I64 i) (hx0 : 0 ≤ x.i) (hx1 : x.i ≤ 2147483647) : Calls Try.prog 47 #[.agg #[.bool false, .int .i64 u.k, .int .i64 u.i, .int .i64 u.j, .int .i64 u.n, su, .int .i64 v.k, .int .i64 v.i, .int .i64 v.j, .int .i64 v.n, sv, .int .i64 x.k, .int .i64 x.i, .int .i64 x.j, .int .i64 x.n, sx, .int .i64 i]] w fun e w' => e = .returned (.tuple #[.int .i64 (x.i), .bool (false)]) ∧ Kept w w' := by
  have Gu := Lib.hid hfu
  clear hfu
  obtain ⟨au, cu, Su, rfl, -⟩ := hlu.out
  have Gv := Lib.hid hfv
  clear hfv
  obtain ⟨av, cv, Sv, rfl, -⟩ := hlv.out
  have Gx := Lib.hid hfx
  clear hfx
  obtain ⟨ax, cx, Sx, rfl, -⟩ := hlx.out
  have Ri := Lib.hid hri
  clear hri
  have HX0 := Lib.hid hx0
  have HX1 := Lib.hid hx1
  have ew : IntKind.i64.wrap (x.i + 1) = x.i + 1 := IntWalk.i64_in _ (by omega)
  clear hx0 hx1
  obtain ⟨dj, dj1, dj2⟩ := under_of 34 (by kernel_rfl)
  go_enter Try.func47, Try.ntmps47
  go_upto_region 1 with fail
  refine at_code (fun V0 hV0 => ?_)
  obtain ⟨k2, x1, z3⟩ := alloc1 hV0
  have Kk4 := Lib.hid k2
  clear k2
  have Hx1 := Lib.hid x1
  have Z0 := Lib.hid z3
  clear z3 x1 hV0
  have HLu : Hid (LiesQ V0 (Par w V0.heap.size [] P) u.kids _) := (par_in _ _ hlu).later Kk4.out
  clear hlu
  have HLv : Hid (LiesQ V0 (Par w V0.heap.size [] P) v.kids _) := (par_in _ _ hlv).later Kk4.out
  clear hlv
  have HLx : Hid (LiesQ V0 (Par w V0.heap.size [] P) x.kids _) := (par_in _ _ hlx).later Kk4.out
  clear hlx
  have ld5 := partN_cell (r := V0.heap.size) Hx1.out trivial 0 (.bool false) rfl
  have ld6 := partN_cell (r := V0.heap.size) Hx1.out trivial 12 (.int .i64 x.i) rfl
  have kvV0 : SeesN V0 V0.heap.size V0 := seesN_kept _ (kept_refl _)
  go_wp2_with fail
  clear kvV0
  obtain ⟨W7, h8⟩ : ∃ x, World.drew V0 = x := ⟨_, rfl⟩
  have k9 : Kept V0 W7 := by rw [← h8]; exact kept_drew (kept_refl _)
  have Kk10 := Lib.hid k9
  clear k9
  refine wp_region_held_drew (S := SeesN W7 V0.heap.size) (by kernel_rfl) ?_ (fun hHeld => ?_)
  · (try dsimp only)
    rw [h8]
    exact seesN_kept _ (kept_refl _)
  rw [h8] at hHeld ⊢
  clear h8
  refine take_at 0 4 aretypes0r1_0 (v := ?_) (Or.inl ⟨by rfl, ?_⟩) ?_
  rotate_left 1
  · ((intro w hSw; (try dsimp only at hSw); unfold aretypes0r1_0; go_simp) <;> with_reducible rfl)
  (try simp only [Act.put, List.setIfInBounds_toArray, List.set_cons_zero, List.set_cons_succ])
  refine take_at 1 5 aretypes0r1_1 (v := ?_) (Or.inl ⟨by rfl, ?_⟩) ?_
  rotate_left 1
  · ((intro w hSw; (try dsimp only at hSw); unfold aretypes0r1_1; go_simp) <;> with_reducible rfl)
  (try simp only [Act.put, List.setIfInBounds_toArray, List.set_cons_zero, List.set_cons_succ])
  refine take_at 2 6 aretypes0r1_2 (v := ?_) (Or.inl ⟨by rfl, ?_⟩) ?_
  rotate_left 1
  · ((intro w hSw; (try dsimp only at hSw); have qV0 := seesN_of Kk10.out hSw; unfold aretypes0r1_2; go_simp) <;> with_reducible rfl)
  (try simp only [Act.put, List.setIfInBounds_toArray, List.set_cons_zero, List.set_cons_succ])
  refine take_at 3 7 aretypes0r1_3 (v := ?_) (Or.inl ⟨by rfl, ?_⟩) ?_
  rotate_left 1
  · ((intro w hSw; (try dsimp only at hSw); unfold aretypes0r1_3; go_simp) <;> with_reducible rfl)
  (try simp only [Act.put, List.setIfInBounds_toArray, List.set_cons_zero, List.set_cons_succ])
  refine take_at 4 8 aretypes0r1_4 (v := ?_) (Or.inl ⟨by rfl, ?_⟩) ?_
  rotate_left 1
  · ((intro w hSw; (try dsimp only at hSw); have qV0 := seesN_of Kk10.out hSw; unfold aretypes0r1_4; go_simp) <;> with_reducible rfl)
  (try simp only [Act.put, List.setIfInBounds_toArray, List.set_cons_zero, List.set_cons_succ])
  refine take_at 5 9 aretypes0r1_5 (v := ?_) (Or.inl ⟨by rfl, ?_⟩) ?_
  rotate_left 1
  · ((intro w hSw; (try dsimp only at hSw); unfold aretypes0r1_5; go_simp) <;> with_reducible rfl)
  (try simp only [Act.put, List.setIfInBounds_toArray, List.set_cons_zero, List.set_cons_succ])
  refine take_at 6 10 aretypes0r1_6 (v := undef) (Or.inr ⟨by rfl, rfl⟩) ?_
  (try simp only [Act.put, List.setIfInBounds_toArray, List.set_cons_zero, List.set_cons_succ])
  refine take_at 7 11 aretypes0r1_7 (v := undef) (Or.inr ⟨by rfl, rfl⟩) ?_
  (try simp only [Act.put, List.setIfInBounds_toArray, List.set_cons_zero, List.set_cons_succ])
  refine take_at 8 12 aretypes0r1_8 (v := ?_) (Or.inl ⟨by rfl, ?_⟩) ?_
  rotate_left 1
  · ((intro w hSw; (try dsimp only at hSw); unfold aretypes0r1_8; go_simp) <;> with_reducible rfl)
  (try simp only [Act.put, List.setIfInBounds_toArray, List.set_cons_zero, List.set_cons_succ])
  refine take_at 9 2 aretypes0r1_9 (v := ?_) (Or.inl ⟨by rfl, ?_⟩) ?_
  rotate_left 1
  · ((intro w hSw; (try dsimp only at hSw); unfold aretypes0r1_9; go_simp) <;> with_reducible rfl)
  (try simp only [Act.put, List.setIfInBounds_toArray, List.set_cons_zero, List.set_cons_succ])
  refine take_at 10 3 aretypes0r1_10 (v := ?_) (Or.inl ⟨by rfl, ?_⟩) ?_
  rotate_left 1
  · ((intro w hSw; (try dsimp only at hSw); unfold aretypes0r1_10; go_simp) <;> with_reducible rfl)
  (try simp only [Act.put, List.setIfInBounds_toArray, List.set_cons_zero, List.set_cons_succ])
  refine wpAnyH_done (by kernel_rfl) ?_ _
  clear hHeld
  have kvV0 : SeesN V0 V0.heap.size W7 := seesN_kept _ Kk10.out
  go_wp2
  go_ret2
  exact ⟨by first | rfl | (rw [show (false) = false from by (try rfl)]; rfl), (kept_trans Kk4.out Kk10.out)⟩

def aretypes1r1_0 : Oper := { dst := some 4, op := Go.Op.fieldAddr 34 (Go.Operand.tmp 1) 3, type := 0, pos := "rule.go:97", after := #[], guard := none }
def aretypes1r1_1 : Oper := { dst := some 5, op := Go.Op.fieldAddr 32 (Go.Operand.tmp 4) 1, type := 0, pos := "rule.go:97", after := #[{ on := 0, ground := Go.Ground.data }], guard := none }
def aretypes1r1_2 : Oper := { dst := some 6, op := Go.Op.load 3 (Go.Operand.tmp 5), type := 3, pos := "rule.go:97", after := #[{ on := 1, ground := Go.Ground.data }], guard := none }
def aretypes1r1_3 : Oper := { dst := some 7, op := Go.Op.fieldAddr 34 (Go.Operand.tmp 1) 0, type := 0, pos := "rule.go:97", after := #[], guard := none }
def aretypes1r1_4 : Oper := { dst := some 8, op := Go.Op.load 4 (Go.Operand.tmp 7), type := 4, pos := "rule.go:97", after := #[{ on := 3, ground := Go.Ground.data }], guard := none }
def aretypes1r1_5 : Oper := { dst := some 9, op := Go.Op.move (Go.Operand.tmp 8), type := 4, pos := "rule.go:97", after := #[{ on := 4, ground := Go.Ground.data }], guard := none }
def aretypes1r1_6 : Oper := { dst := some 10, op := Go.Op.load 34 (Go.Operand.tmp 1), type := 34, pos := "rule.go:97", after := #[{ on := 5, ground := Go.Ground.guard }], guard := some (5, true) }
def aretypes1r1_7 : Oper := { dst := some 11, op := Go.Op.call { callee := Go.Callee.value (Go.Operand.func 73), args := #[Go.Operand.tmp 10], argTypes := #[34] }, type := 4, pos := "rule.go:97", after := #[{ on := 6, ground := Go.Ground.data }, { on := 5, ground := Go.Ground.chain }, { on := 5, ground := Go.Ground.guard }], guard := some (5, true) }
def aretypes1r1_8 : Oper := { dst := some 12, op := Go.Op.pick (Go.Operand.tmp 9) (Go.Operand.tmp 11) (Go.Operand.const (Go.Value.bool false)), type := 4, pos := "rule.go:97", after := #[{ on := 5, ground := Go.Ground.data }, { on := 7, ground := Go.Ground.data }, { on := 9, ground := Go.Ground.gcOnly Go.Departure.lateStores }], guard := none }
def aretypes1r1_9 : Oper := { dst := some 2, op := Go.Op.assign (Go.Operand.tmp 6), type := 3, pos := "rule.go:97", after := #[{ on := 2, ground := Go.Ground.data }, { on := 7, ground := Go.Ground.chain }, { on := 0, ground := Go.Ground.phase }, { on := 1, ground := Go.Ground.phase }, { on := 2, ground := Go.Ground.phase }, { on := 3, ground := Go.Ground.textOnly Go.Departure.lateStores }, { on := 4, ground := Go.Ground.textOnly Go.Departure.lateStores }, { on := 5, ground := Go.Ground.textOnly Go.Departure.lateStores }, { on := 6, ground := Go.Ground.textOnly Go.Departure.lateStores }, { on := 7, ground := Go.Ground.textOnly Go.Departure.lateStoresUnsure }, { on := 8, ground := Go.Ground.textOnly Go.Departure.lateStores }], guard := none }
def aretypes1r1_10 : Oper := { dst := some 3, op := Go.Op.assign (Go.Operand.tmp 12), type := 4, pos := "rule.go:97", after := #[{ on := 8, ground := Go.Ground.data }, { on := 9, ground := Go.Ground.chain }, { on := 0, ground := Go.Ground.phase }, { on := 1, ground := Go.Ground.phase }, { on := 2, ground := Go.Ground.phase }, { on := 3, ground := Go.Ground.phase }, { on := 4, ground := Go.Ground.phase }, { on := 5, ground := Go.Ground.phase }, { on := 6, ground := Go.Ground.phase }, { on := 7, ground := Go.Ground.phase }, { on := 8, ground := Go.Ground.phase }, { on := 9, ground := Go.Ground.phase }], guard := none }
set_option maxRecDepth 20000 in
set_option maxHeartbeats 4000000 in
theorem aretypes1_any (i : Int) (u : Tm) (v : Tm) (x : Tm) (P : Nat → Prop) (w : World) (su : Value) (sv : Value) (sx : Value) (hfu : u.fine) (hlu : LiesQ w P u.kids su) (hfv : v.fine) (hlv : LiesQ w P v.kids sv) (hfx : x.fine) (hlx : LiesQ w P x.kids sx) (hri : I64 i) (hx0 : 0 ≤ x.i) (hx1 : x.i ≤ 2147483647) : Calls Try.prog 47 #[.agg #[.bool true, .int .i64 u.k, .int .i64 u.i, .int .i64 u.j, .int .i64 u.n, su, .int .i64 v.k, .int .i64 v.i, .int .i64 v.j, .int .i64 v.n, sv, .int .i64 x.k, .int .i64 x.i, .int .i64 x.j, .int .i64 x.n, sx, .int .i64 i]] w fun e w' => e = .returned (.tuple #[.int .i64 (x.i), .bool (osB x i)]) ∧ Kept w w' := by
  have Gu := Lib.hid hfu
  clear hfu
  obtain ⟨au, cu, Su, rfl, -⟩ := hlu.out
  have Gv := Lib.hid hfv
  clear hfv
  obtain ⟨av, cv, Sv, rfl, -⟩ := hlv.out
  have Gx := Lib.hid hfx
  clear hfx
  obtain ⟨ax, cx, Sx, rfl, -⟩ := hlx.out
  have Ri := Lib.hid hri
  clear hri
  have HX0 := Lib.hid hx0
  have HX1 := Lib.hid hx1
  have ew : IntKind.i64.wrap (x.i + 1) = x.i + 1 := IntWalk.i64_in _ (by omega)
  clear hx0 hx1
  obtain ⟨dj, dj1, dj2⟩ := under_of 34 (by kernel_rfl)
  go_enter Try.func47, Try.ntmps47
  go_upto_region 1 with fail
  refine at_code (fun V0 hV0 => ?_)
  obtain ⟨k2, x1, z3⟩ := alloc1 hV0
  have Kk4 := Lib.hid k2
  clear k2
  have Hx1 := Lib.hid x1
  have Z0 := Lib.hid z3
  clear z3 x1 hV0
  have HLu : Hid (LiesQ V0 (Par w V0.heap.size [] P) u.kids _) := (par_in _ _ hlu).later Kk4.out
  clear hlu
  have HLv : Hid (LiesQ V0 (Par w V0.heap.size [] P) v.kids _) := (par_in _ _ hlv).later Kk4.out
  clear hlv
  have HLx : Hid (LiesQ V0 (Par w V0.heap.size [] P) x.kids _) := (par_in _ _ hlx).later Kk4.out
  clear hlx
  have ld5 := partN_cell (r := V0.heap.size) Hx1.out trivial 0 (.bool true) rfl
  have ld6 := partN_cell (r := V0.heap.size) Hx1.out trivial 12 (.int .i64 x.i) rfl
  have kvV0 : SeesN V0 V0.heap.size V0 := seesN_kept _ (kept_refl _)
  go_wp2_with fail
  clear kvV0
  obtain ⟨W7, h8⟩ : ∃ x, World.drew V0 = x := ⟨_, rfl⟩
  have k9 : Kept V0 W7 := by rw [← h8]; exact kept_drew (kept_refl _)
  have Kk10 := Lib.hid k9
  clear k9
  refine wp_region_held_drew (S := SeesN W7 V0.heap.size) (by kernel_rfl) ?_ (fun hHeld => ?_)
  · (try dsimp only)
    rw [h8]
    exact seesN_kept _ (kept_refl _)
  rw [h8] at hHeld ⊢
  clear h8
  refine take_at 0 4 aretypes1r1_0 (v := ?_) (Or.inl ⟨by rfl, ?_⟩) ?_
  rotate_left 1
  · ((intro w hSw; (try dsimp only at hSw); unfold aretypes1r1_0; go_simp) <;> with_reducible rfl)
  (try simp only [Act.put, List.setIfInBounds_toArray, List.set_cons_zero, List.set_cons_succ])
  refine take_at 1 5 aretypes1r1_1 (v := ?_) (Or.inl ⟨by rfl, ?_⟩) ?_
  rotate_left 1
  · ((intro w hSw; (try dsimp only at hSw); unfold aretypes1r1_1; go_simp) <;> with_reducible rfl)
  (try simp only [Act.put, List.setIfInBounds_toArray, List.set_cons_zero, List.set_cons_succ])
  refine take_at 2 6 aretypes1r1_2 (v := ?_) (Or.inl ⟨by rfl, ?_⟩) ?_
  rotate_left 1
  · ((intro w hSw; (try dsimp only at hSw); have qV0 := seesN_of Kk10.out hSw; unfold aretypes1r1_2; go_simp) <;> with_reducible rfl)
  (try simp only [Act.put, List.setIfInBounds_toArray, List.set_cons_zero, List.set_cons_succ])
  refine take_at 3 7 aretypes1r1_3 (v := ?_) (Or.inl ⟨by rfl, ?_⟩) ?_
  rotate_left 1
  · ((intro w hSw; (try dsimp only at hSw); unfold aretypes1r1_3; go_simp) <;> with_reducible rfl)
  (try simp only [Act.put, List.setIfInBounds_toArray, List.set_cons_zero, List.set_cons_succ])
  refine take_at 4 8 aretypes1r1_4 (v := ?_) (Or.inl ⟨by rfl, ?_⟩) ?_
  rotate_left 1
  · ((intro w hSw; (try dsimp only at hSw); have qV0 := seesN_of Kk10.out hSw; unfold aretypes1r1_4; go_simp) <;> with_reducible rfl)
  (try simp only [Act.put, List.setIfInBounds_toArray, List.set_cons_zero, List.set_cons_succ])
  refine take_at 5 9 aretypes1r1_5 (v := ?_) (Or.inl ⟨by rfl, ?_⟩) ?_
  rotate_left 1
  · ((intro w hSw; (try dsimp only at hSw); unfold aretypes1r1_5; go_simp) <;> with_reducible rfl)
  (try simp only [Act.put, List.setIfInBounds_toArray, List.set_cons_zero, List.set_cons_succ])
  refine take_at 6 10 aretypes1r1_6 (yields_part (w.heap.size) (0) 34 (.tmp 1) #[.bool true, .int .i64 u.k, .int .i64 u.i, .int .i64 u.j, .int .i64 u.n, (.slice au u.kids.length cu), .int .i64 v.k, .int .i64 v.i, .int .i64 v.j, .int .i64 v.n, (.slice av v.kids.length cv), .int .i64 x.k, .int .i64 x.i, .int .i64 x.j, .int .i64 x.n, (.slice ax x.kids.length cx), .int .i64 i] dj (fun _ h => seesN_blk Hx1.out trivial (seesN_of Kk10.out h)) (by rfl) rfl (by rfl) (by rfl) dj1 (by cases dj <;> first | rfl | exact dj2) (by kernel_rfl)) ?_
  (try simp only [Act.put, List.setIfInBounds_toArray, List.set_cons_zero, List.set_cons_succ])
  refine wpAnyH_ready (rs := [7]) (by kernel_rfl) (by simp) ?_
  refine AllReadyH.cons (o := aretypes1r1_7) rfl (fun K hK => ?_) ?_
  · unfold aretypes1r1_7
    go_simp
    refine (ofsort1_any i u v x (Par w V0.heap.size [] P) W7 ((.slice au u.kids.length cu)) ((.slice av v.kids.length cv)) ((.slice ax x.kids.length cx)) Gu.out (HLu.out.later Kk10.out) Gv.out (HLv.out.later Kk10.out) Gx.out (HLx.out.later Kk10.out) Ri.out HX0.out HX1.out).mono ?_
    obtain ⟨rb14, hb13⟩ : ∃ qb, (osB x i) = qb := ⟨_, rfl⟩
    rw [hb13]
    have Hhb13 := Lib.hid hb13
    clear hb13
    rintro e w11 ⟨rfl, k12⟩
    have Kk15 := Lib.hid k12
    clear k12
    cases rb14 with
    | false =>
      clear hHeld
      refine hK.out _ _ (seesN_kept _ Kk15.out) (fun hHeld => ?_)
      clear hK K
      (try simp only [Act.put, List.setIfInBounds_toArray, List.set_cons_zero, List.set_cons_succ])
      refine take_at 8 12 aretypes1r1_8 (v := ?_) (Or.inl ⟨by rfl, ?_⟩) ?_
      rotate_left 1
      · ((intro w hSw; (try dsimp only at hSw); unfold aretypes1r1_8; go_simp) <;> with_reducible rfl)
      (try simp only [Act.put, List.setIfInBounds_toArray, List.set_cons_zero, List.set_cons_succ])
      refine take_at 9 2 aretypes1r1_9 (v := ?_) (Or.inl ⟨by rfl, ?_⟩) ?_
      rotate_left 1
      · ((intro w hSw; (try dsimp only at hSw); unfold aretypes1r1_9; go_simp) <;> with_reducible rfl)
      (try simp only [Act.put, List.setIfInBounds_toArray, List.set_cons_zero, List.set_cons_succ])
      refine take_at 10 3 aretypes1r1_10 (v := ?_) (Or.inl ⟨by rfl, ?_⟩) ?_
      rotate_left 1
      · ((intro w hSw; (try dsimp only at hSw); unfold aretypes1r1_10; go_simp) <;> with_reducible rfl)
      (try simp only [Act.put, List.setIfInBounds_toArray, List.set_cons_zero, List.set_cons_succ])
      refine wpAnyH_done (by kernel_rfl) ?_ _
      clear hHeld
      have kvV0 : SeesN V0 V0.heap.size w11 := seesN_kept _ (kept_trans Kk10.out Kk15.out)
      go_wp2
      go_ret2
      exact ⟨by first | rfl | (rw [show (osB x i) = false from by rw [Hhb13.out]; (try rfl)]; rfl), (kept_trans Kk4.out (kept_trans Kk10.out Kk15.out))⟩
    | true =>
      clear hHeld
      refine hK.out _ _ (seesN_kept _ Kk15.out) (fun hHeld => ?_)
      clear hK K
      (try simp only [Act.put, List.setIfInBounds_toArray, List.set_cons_zero, List.set_cons_succ])
      refine take_at 8 12 aretypes1r1_8 (v := ?_) (Or.inl ⟨by rfl, ?_⟩) ?_
      rotate_left 1
      · ((intro w hSw; (try dsimp only at hSw); unfold aretypes1r1_8; go_simp) <;> with_reducible rfl)
      (try simp only [Act.put, List.setIfInBounds_toArray, List.set_cons_zero, List.set_cons_succ])
      refine take_at 9 2 aretypes1r1_9 (v := ?_) (Or.inl ⟨by rfl, ?_⟩) ?_
      rotate_left 1
      · ((intro w hSw; (try dsimp only at hSw); unfold aretypes1r1_9; go_simp) <;> with_reducible rfl)
      (try simp only [Act.put, List.setIfInBounds_toArray, List.set_cons_zero, List.set_cons_succ])
      refine take_at 10 3 aretypes1r1_10 (v := ?_) (Or.inl ⟨by rfl, ?_⟩) ?_
      rotate_left 1
      · ((intro w hSw; (try dsimp only at hSw); unfold aretypes1r1_10; go_simp) <;> with_reducible rfl)
      (try simp only [Act.put, List.setIfInBounds_toArray, List.set_cons_zero, List.set_cons_succ])
      refine wpAnyH_done (by kernel_rfl) ?_ _
      clear hHeld
      have kvV0 : SeesN V0 V0.heap.size w11 := seesN_kept _ (kept_trans Kk10.out Kk15.out)
      go_wp2
      go_ret2
      exact ⟨by first | rfl | (rw [show (osB x i) = true from by rw [Hhb13.out]; (try rfl)]; rfl), (kept_trans Kk4.out (kept_trans Kk10.out Kk15.out))⟩
  exact AllReadyH.nil

def entryA0r13_0 : Oper := { dst := some 40, op := Go.Op.fieldAddr 34 (Go.Operand.tmp 3) 3, type := 0, pos := "rule.go:87", after := #[], guard := none }
def entryA0r13_1 : Oper := { dst := some 41, op := Go.Op.load 32 (Go.Operand.tmp 40), type := 32, pos := "rule.go:87", after := #[{ on := 0, ground := Go.Ground.data }], guard := none }
def entryA0r13_2 : Oper := { dst := some 42, op := Go.Op.fieldAddr 34 (Go.Operand.tmp 3) 4, type := 0, pos := "rule.go:87", after := #[], guard := none }
def entryA0r13_3 : Oper := { dst := some 43, op := Go.Op.load 3 (Go.Operand.tmp 42), type := 3, pos := "rule.go:87", after := #[{ on := 2, ground := Go.Ground.data }], guard := none }
def entryA0r13_4 : Oper := { dst := some 44, op := Go.Op.build 52 #[(0, Go.Operand.tmp 41), (1, Go.Operand.tmp 43)], type := 52, pos := "rule.go:87", after := #[{ on := 1, ground := Go.Ground.data }, { on := 3, ground := Go.Ground.data }], guard := none }
def entryA0r13_5 : Oper := { dst := some 45, op := Go.Op.fieldAddr 34 (Go.Operand.tmp 3) 0, type := 0, pos := "rule.go:87", after := #[{ on := 10, ground := Go.Ground.gcOnly Go.Departure.lateStores }], guard := none }
def entryA0r13_6 : Oper := { dst := some 46, op := Go.Op.load 4 (Go.Operand.tmp 45), type := 4, pos := "rule.go:87", after := #[{ on := 5, ground := Go.Ground.data }, { on := 10, ground := Go.Ground.gcOnly Go.Departure.lateStores }], guard := none }
def entryA0r13_7 : Oper := { dst := some 47, op := Go.Op.move (Go.Operand.tmp 0), type := 3, pos := "rule.go:87", after := #[{ on := 10, ground := Go.Ground.gcOnly Go.Departure.lateStores }], guard := none }
def entryA0r13_8 : Oper := { dst := some 48, op := Go.Op.binOp Go.BinOp.eql 3 (Go.Operand.tmp 47) (Go.Operand.const (Go.Value.int Go.IntKind.i64 23)) 3, type := 4, pos := "rule.go:87", after := #[{ on := 7, ground := Go.Ground.data }, { on := 10, ground := Go.Ground.gcOnly Go.Departure.lateStores }], guard := none }
def entryA0r13_9 : Oper := { dst := some 49, op := Go.Op.binOp Go.BinOp.eql 4 (Go.Operand.tmp 46) (Go.Operand.tmp 48) 4, type := 4, pos := "rule.go:87", after := #[{ on := 6, ground := Go.Ground.data }, { on := 8, ground := Go.Ground.data }, { on := 10, ground := Go.Ground.gcOnly Go.Departure.lateStores }], guard := none }
def entryA0r13_10 : Oper := { dst := none, op := Go.Op.store 52 (Go.Operand.tmp 4) (Go.Operand.tmp 44), type := 0, pos := "rule.go:87", after := #[{ on := 4, ground := Go.Ground.data }, { on := 0, ground := Go.Ground.phase }, { on := 1, ground := Go.Ground.phase }, { on := 2, ground := Go.Ground.phase }, { on := 3, ground := Go.Ground.phase }, { on := 4, ground := Go.Ground.phase }, { on := 5, ground := Go.Ground.textOnly Go.Departure.lateStores }, { on := 6, ground := Go.Ground.textOnly Go.Departure.lateStores }, { on := 7, ground := Go.Ground.textOnly Go.Departure.lateStores }, { on := 8, ground := Go.Ground.textOnly Go.Departure.lateStores }, { on := 9, ground := Go.Ground.textOnly Go.Departure.lateStores }], guard := none }
def entryA0r13_11 : Oper := { dst := some 5, op := Go.Op.assign (Go.Operand.tmp 49), type := 4, pos := "rule.go:87", after := #[{ on := 9, ground := Go.Ground.data }, { on := 10, ground := Go.Ground.chain }, { on := 0, ground := Go.Ground.phase }, { on := 1, ground := Go.Ground.phase }, { on := 2, ground := Go.Ground.phase }, { on := 3, ground := Go.Ground.phase }, { on := 4, ground := Go.Ground.phase }, { on := 5, ground := Go.Ground.phase }, { on := 6, ground := Go.Ground.phase }, { on := 7, ground := Go.Ground.phase }, { on := 8, ground := Go.Ground.phase }, { on := 9, ground := Go.Ground.phase }, { on := 10, ground := Go.Ground.phase }], guard := none }
set_option maxRecDepth 20000 in
set_option maxHeartbeats 4000000 in
theorem entryA0_any (i : Int) (u : Tm) (v : Tm) (x : Tm) (P : Nat → Prop) (w : World) (su : Value) (sv : Value) (sx : Value) (hfu : u.fine) (hlu : LiesQ w P u.kids su) (hfv : v.fine) (hlv : LiesQ w P v.kids sv) (hfx : x.fine) (hlx : LiesQ w P x.kids sx) (hri : I64 i) (hx0 : 0 ≤ x.i) (hx1 : x.i ≤ 2147483647) : Calls Try.prog 26 #[.int .i64 23, .agg #[.bool false, .int .i64 u.k, .int .i64 u.i, .int .i64 u.j, .int .i64 u.n, su, .int .i64 v.k, .int .i64 v.i, .int .i64 v.j, .int .i64 v.n, sv, .int .i64 x.k, .int .i64 x.i, .int .i64 x.j, .int .i64 x.n, sx, .int .i64 i]] w (GivesEB P (entB 23 (⟨false, u, v, x, i⟩ : Jd)).1 (entB 23 (⟨false, u, v, x, i⟩ : Jd)).2 w) := by
  have Gu := Lib.hid hfu
  clear hfu
  obtain ⟨au, cu, Su, rfl, -⟩ := hlu.out
  have Gv := Lib.hid hfv
  clear hfv
  obtain ⟨av, cv, Sv, rfl, -⟩ := hlv.out
  have Gx := Lib.hid hfx
  clear hfx
  obtain ⟨ax, cx, Sx, rfl, -⟩ := hlx.out
  have Ri := Lib.hid hri
  clear hri
  have HX0 := Lib.hid hx0
  have HX1 := Lib.hid hx1
  have ew : IntKind.i64.wrap (x.i + 1) = x.i + 1 := IntWalk.i64_in _ (by omega)
  clear hx0 hx1
  obtain ⟨de, de1, de2⟩ := under_of 52 (by kernel_rfl)
  obtain ⟨dj, dj1, dj2⟩ := under_of 34 (by kernel_rfl)
  obtain ⟨du, hu1, hu2⟩ := under_term
  go_enter Try.func26, Try.ntmps26
  go_upto_region 1 with fail
  refine at_code (fun V0 hV0 => ?_)
  obtain ⟨k3, x1, x2, z4⟩ := alloc2 hV0
  have Kk5 := Lib.hid k3
  clear k3
  have Hx1 := Lib.hid x1
  have Hx2 := Lib.hid x2
  have Z0 := Lib.hid z4
  clear z4 x1 x2 hV0
  have HLu : Hid (LiesQ V0 (Par w V0.heap.size [] P) u.kids _) := (par_in _ _ hlu).later Kk5.out
  clear hlu
  have HLv : Hid (LiesQ V0 (Par w V0.heap.size [] P) v.kids _) := (par_in _ _ hlv).later Kk5.out
  clear hlv
  have HLx : Hid (LiesQ V0 (Par w V0.heap.size [] P) x.kids _) := (par_in _ _ hlx).later Kk5.out
  clear hlx
  have ld6 := part_cell (r := (w.heap.size + 1)) Hx1.out (by have := Z0.out; omega) 0 (.bool false) rfl
  have ld7 := part_cell (r := (w.heap.size + 1)) Hx1.out (by have := Z0.out; omega) 16 (.int .i64 i) rfl
  have kvV0 : Sees V0 (w.heap.size + 1) V0 := sees_kept _ (kept_refl _)
  go_wp2_with fail
  clear kvV0
  obtain ⟨W8, h9⟩ : ∃ x, World.drew V0 = x := ⟨_, rfl⟩
  have k10 : Kept V0 W8 := by rw [← h9]; exact kept_drew (kept_refl _)
  have Kk11 := Lib.hid k10
  clear k10
  refine wp_region_held_drew (S := Sees W8 (w.heap.size + 1)) (by kernel_rfl) ?_ (fun hHeld => ?_)
  · (try dsimp only)
    rw [h9]
    exact sees_kept _ (kept_refl _)
  rw [h9] at hHeld ⊢
  clear h9
  refine take_at 0 40 entryA0r13_0 (v := ?_) (Or.inl ⟨by rfl, ?_⟩) ?_
  rotate_left 1
  · ((intro w hSw; (try dsimp only at hSw); unfold entryA0r13_0; go_simp) <;> with_reducible rfl)
  (try simp only [Act.put, List.setIfInBounds_toArray, List.set_cons_zero, List.set_cons_succ])
  refine take_at 1 41 entryA0r13_1 (yields_part (w.heap.size) (11) 32 (.tmp 40) #[.int .i64 x.k, .int .i64 x.i, .int .i64 x.j, .int .i64 x.n, (.slice ax x.kids.length cx)] du (fun _ h => sees_blk Hx1.out (by have := Z0.out; omega) (sees_of Kk11.out h)) (by rfl) rfl (by rfl) (by rfl) hu1 (by cases du <;> first | rfl | exact hu2) size_term) ?_
  (try simp only [Act.put, List.setIfInBounds_toArray, List.set_cons_zero, List.set_cons_succ])
  refine take_at 2 42 entryA0r13_2 (v := ?_) (Or.inl ⟨by rfl, ?_⟩) ?_
  rotate_left 1
  · ((intro w hSw; (try dsimp only at hSw); unfold entryA0r13_2; go_simp) <;> with_reducible rfl)
  (try simp only [Act.put, List.setIfInBounds_toArray, List.set_cons_zero, List.set_cons_succ])
  refine take_at 3 43 entryA0r13_3 (v := ?_) (Or.inl ⟨by rfl, ?_⟩) ?_
  rotate_left 1
  · ((intro w hSw; (try dsimp only at hSw); have qV0 := sees_of Kk11.out hSw; unfold entryA0r13_3; go_simp) <;> with_reducible rfl)
  (try simp only [Act.put, List.setIfInBounds_toArray, List.set_cons_zero, List.set_cons_succ])
  refine take_at 4 44 entryA0r13_4 (v := ?_) (Or.inl ⟨by rfl, ?_⟩) ?_
  rotate_left 1
  · ((intro w hSw; (try dsimp only at hSw); unfold entryA0r13_4; go_simp) <;> with_reducible rfl)
  (try simp only [Act.put, List.setIfInBounds_toArray, List.set_cons_zero, List.set_cons_succ])
  refine take_at 5 45 entryA0r13_5 (v := ?_) (Or.inl ⟨by rfl, ?_⟩) ?_
  rotate_left 1
  · ((intro w hSw; (try dsimp only at hSw); unfold entryA0r13_5; go_simp) <;> with_reducible rfl)
  (try simp only [Act.put, List.setIfInBounds_toArray, List.set_cons_zero, List.set_cons_succ])
  refine take_at 6 46 entryA0r13_6 (v := ?_) (Or.inl ⟨by rfl, ?_⟩) ?_
  rotate_left 1
  · ((intro w hSw; (try dsimp only at hSw); have qV0 := sees_of Kk11.out hSw; unfold entryA0r13_6; go_simp) <;> with_reducible rfl)
  (try simp only [Act.put, List.setIfInBounds_toArray, List.set_cons_zero, List.set_cons_succ])
  refine take_at 7 47 entryA0r13_7 (v := ?_) (Or.inl ⟨by rfl, ?_⟩) ?_
  rotate_left 1
  · ((intro w hSw; (try dsimp only at hSw); unfold entryA0r13_7; go_simp) <;> with_reducible rfl)
  (try simp only [Act.put, List.setIfInBounds_toArray, List.set_cons_zero, List.set_cons_succ])
  refine take_at 8 48 entryA0r13_8 (v := ?_) (Or.inl ⟨by rfl, ?_⟩) ?_
  rotate_left 1
  · ((intro w hSw; (try dsimp only at hSw); unfold entryA0r13_8; go_simp) <;> with_reducible rfl)
  (try simp only [Act.put, List.setIfInBounds_toArray, List.set_cons_zero, List.set_cons_succ])
  refine take_at 9 49 entryA0r13_9 (v := ?_) (Or.inl ⟨by rfl, ?_⟩) ?_
  rotate_left 1
  · ((intro w hSw; (try dsimp only at hSw); unfold entryA0r13_9; go_simp) <;> with_reducible rfl)
  (try simp only [Act.put, List.setIfInBounds_toArray, List.set_cons_zero, List.set_cons_succ])
  refine wpAnyH_ready (rs := [10]) (by kernel_rfl) (by simp) ?_
  refine AllReadyH.cons (o := entryA0r13_10) rfl (fun K hK => ?_) ?_
  · unfold entryA0r13_10
    refine step_store_part rfl 52 (.tmp 4) (.tmp 44) rfl (w.heap.size + 1) 0 #[.int .i64 x.k, .int .i64 x.i, .int .i64 x.j, .int .i64 x.n, (.slice ax x.kids.length cx), .int .i64 i] rfl rfl 52 (by kernel_rfl) (row_ok rfl) _ #[.int .i64 x.k, .int .i64 x.i, .int .i64 x.j, .int .i64 x.n, (.slice ax x.kids.length cx), .int .i64 i] (blk_at Hx2.out Kk11.out) rfl (Nat.le_of_ble_eq_true rfl) ?_
    intro W12 hW12
    clear hHeld
    refine hK.out _ _ (sees_set (kept_refl _) hW12) (fun hHeld => ?_)
    clear hK K
    (try simp only [Act.put])
    refine take_at 11 5 entryA0r13_11 (v := ?_) (Or.inl ⟨by rfl, ?_⟩) ?_
    rotate_left 1
    · ((intro w hSw; (try dsimp only at hSw); unfold entryA0r13_11; go_simp) <;> with_reducible rfl)
    (try simp only [Act.put, List.setIfInBounds_toArray, List.set_cons_zero, List.set_cons_succ])
    refine wpAnyH_done (by kernel_rfl) ?_ _
    clear hHeld
    go_wp2_with fail
    (try simp only [Exit.inBlock, Exit.then])
    refine bodyPost_ret (results_cell_tmp rfl _ _ (w.heap.size + 1) 52 _ _ de rfl (blk_same (blk_at Hx2.out Kk11.out) hW12) de1 (by cases de <;> first | rfl | exact de2) (by kernel_rfl)) rfl ?_
    have hcl : rcls 23 = 2 := by decide
    rw [show entB 23 (⟨false, u, v, x, i⟩ : Jd) = ((⟨x, i⟩ : En), false) from by rw [entB_2 _ hcl]; (try rfl)]
    exact ⟨_, rfl, par_end (par_row' (HLx.out.later Kk11.out) hW12 (by omega) (by have := Z0.out; omega)) (by have := Z0.out; omega), kept_set (kept_trans Kk5.out Kk11.out) hW12 (by omega)⟩
  exact AllReadyH.nil

def entryB0r13_0 : Oper := { dst := some 40, op := Go.Op.fieldAddr 34 (Go.Operand.tmp 3) 3, type := 0, pos := "rule.go:87", after := #[], guard := none }
def entryB0r13_1 : Oper := { dst := some 41, op := Go.Op.load 32 (Go.Operand.tmp 40), type := 32, pos := "rule.go:87", after := #[{ on := 0, ground := Go.Ground.data }], guard := none }
def entryB0r13_2 : Oper := { dst := some 42, op := Go.Op.fieldAddr 34 (Go.Operand.tmp 3) 4, type := 0, pos := "rule.go:87", after := #[], guard := none }
def entryB0r13_3 : Oper := { dst := some 43, op := Go.Op.load 3 (Go.Operand.tmp 42), type := 3, pos := "rule.go:87", after := #[{ on := 2, ground := Go.Ground.data }], guard := none }
def entryB0r13_4 : Oper := { dst := some 44, op := Go.Op.build 52 #[(0, Go.Operand.tmp 41), (1, Go.Operand.tmp 43)], type := 52, pos := "rule.go:87", after := #[{ on := 1, ground := Go.Ground.data }, { on := 3, ground := Go.Ground.data }], guard := none }
def entryB0r13_5 : Oper := { dst := some 45, op := Go.Op.fieldAddr 34 (Go.Operand.tmp 3) 0, type := 0, pos := "rule.go:87", after := #[{ on := 10, ground := Go.Ground.gcOnly Go.Departure.lateStores }], guard := none }
def entryB0r13_6 : Oper := { dst := some 46, op := Go.Op.load 4 (Go.Operand.tmp 45), type := 4, pos := "rule.go:87", after := #[{ on := 5, ground := Go.Ground.data }, { on := 10, ground := Go.Ground.gcOnly Go.Departure.lateStores }], guard := none }
def entryB0r13_7 : Oper := { dst := some 47, op := Go.Op.move (Go.Operand.tmp 0), type := 3, pos := "rule.go:87", after := #[{ on := 10, ground := Go.Ground.gcOnly Go.Departure.lateStores }], guard := none }
def entryB0r13_8 : Oper := { dst := some 48, op := Go.Op.binOp Go.BinOp.eql 3 (Go.Operand.tmp 47) (Go.Operand.const (Go.Value.int Go.IntKind.i64 23)) 3, type := 4, pos := "rule.go:87", after := #[{ on := 7, ground := Go.Ground.data }, { on := 10, ground := Go.Ground.gcOnly Go.Departure.lateStores }], guard := none }
def entryB0r13_9 : Oper := { dst := some 49, op := Go.Op.binOp Go.BinOp.eql 4 (Go.Operand.tmp 46) (Go.Operand.tmp 48) 4, type := 4, pos := "rule.go:87", after := #[{ on := 6, ground := Go.Ground.data }, { on := 8, ground := Go.Ground.data }, { on := 10, ground := Go.Ground.gcOnly Go.Departure.lateStores }], guard := none }
def entryB0r13_10 : Oper := { dst := none, op := Go.Op.store 52 (Go.Operand.tmp 4) (Go.Operand.tmp 44), type := 0, pos := "rule.go:87", after := #[{ on := 4, ground := Go.Ground.data }, { on := 0, ground := Go.Ground.phase }, { on := 1, ground := Go.Ground.phase }, { on := 2, ground := Go.Ground.phase }, { on := 3, ground := Go.Ground.phase }, { on := 4, ground := Go.Ground.phase }, { on := 5, ground := Go.Ground.textOnly Go.Departure.lateStores }, { on := 6, ground := Go.Ground.textOnly Go.Departure.lateStores }, { on := 7, ground := Go.Ground.textOnly Go.Departure.lateStores }, { on := 8, ground := Go.Ground.textOnly Go.Departure.lateStores }, { on := 9, ground := Go.Ground.textOnly Go.Departure.lateStores }], guard := none }
def entryB0r13_11 : Oper := { dst := some 5, op := Go.Op.assign (Go.Operand.tmp 49), type := 4, pos := "rule.go:87", after := #[{ on := 9, ground := Go.Ground.data }, { on := 10, ground := Go.Ground.chain }, { on := 0, ground := Go.Ground.phase }, { on := 1, ground := Go.Ground.phase }, { on := 2, ground := Go.Ground.phase }, { on := 3, ground := Go.Ground.phase }, { on := 4, ground := Go.Ground.phase }, { on := 5, ground := Go.Ground.phase }, { on := 6, ground := Go.Ground.phase }, { on := 7, ground := Go.Ground.phase }, { on := 8, ground := Go.Ground.phase }, { on := 9, ground := Go.Ground.phase }, { on := 10, ground := Go.Ground.phase }], guard := none }
set_option maxRecDepth 20000 in
set_option maxHeartbeats 4000000 in
theorem entryB0_any (r : Int) (i : Int) (u : Tm) (v : Tm) (x : Tm) (P : Nat → Prop) (w : World) (su : Value) (sv : Value) (sx : Value) (hrr : I64 r) (hfu : u.fine) (hlu : LiesQ w P u.kids su) (hfv : v.fine) (hlv : LiesQ w P v.kids sv) (hfx : x.fine) (hlx : LiesQ w P x.kids sx) (hri : I64 i) (hx0 : 0 ≤ x.i) (hx1 : x.i ≤ 2147483647) (h23 : (r == 23) = false) : Calls Try.prog 26 #[.int .i64 r, .agg #[.bool false, .int .i64 u.k, .int .i64 u.i, .int .i64 u.j, .int .i64 u.n, su, .int .i64 v.k, .int .i64 v.i, .int .i64 v.j, .int .i64 v.n, sv, .int .i64 x.k, .int .i64 x.i, .int .i64 x.j, .int .i64 x.n, sx, .int .i64 i]] w (GivesEB P (entB r (⟨false, u, v, x, i⟩ : Jd)).1 (entB r (⟨false, u, v, x, i⟩ : Jd)).2 w) := by
  have Rr := Lib.hid hrr
  clear hrr
  have Gu := Lib.hid hfu
  clear hfu
  obtain ⟨au, cu, Su, rfl, -⟩ := hlu.out
  have Gv := Lib.hid hfv
  clear hfv
  obtain ⟨av, cv, Sv, rfl, -⟩ := hlv.out
  have Gx := Lib.hid hfx
  clear hfx
  obtain ⟨ax, cx, Sx, rfl, -⟩ := hlx.out
  have Ri := Lib.hid hri
  clear hri
  have HX0 := Lib.hid hx0
  have HX1 := Lib.hid hx1
  have ew : IntKind.i64.wrap (x.i + 1) = x.i + 1 := IntWalk.i64_in _ (by omega)
  clear hx0 hx1
  have E23 := Lib.hid h23
  obtain ⟨de, de1, de2⟩ := under_of 52 (by kernel_rfl)
  obtain ⟨dj, dj1, dj2⟩ := under_of 34 (by kernel_rfl)
  obtain ⟨du, hu1, hu2⟩ := under_term
  go_enter Try.func26, Try.ntmps26
  go_upto_region 1 with fail
  refine at_code (fun V0 hV0 => ?_)
  obtain ⟨k3, x1, x2, z4⟩ := alloc2 hV0
  have Kk5 := Lib.hid k3
  clear k3
  have Hx1 := Lib.hid x1
  have Hx2 := Lib.hid x2
  have Z0 := Lib.hid z4
  clear z4 x1 x2 hV0
  have HLu : Hid (LiesQ V0 (Par w V0.heap.size [] P) u.kids _) := (par_in _ _ hlu).later Kk5.out
  clear hlu
  have HLv : Hid (LiesQ V0 (Par w V0.heap.size [] P) v.kids _) := (par_in _ _ hlv).later Kk5.out
  clear hlv
  have HLx : Hid (LiesQ V0 (Par w V0.heap.size [] P) x.kids _) := (par_in _ _ hlx).later Kk5.out
  clear hlx
  have ld6 := part_cell (r := (w.heap.size + 1)) Hx1.out (by have := Z0.out; omega) 0 (.bool false) rfl
  have ld7 := part_cell (r := (w.heap.size + 1)) Hx1.out (by have := Z0.out; omega) 16 (.int .i64 i) rfl
  have kvV0 : Sees V0 (w.heap.size + 1) V0 := sees_kept _ (kept_refl _)
  by_cases c8 : r = 3
  · have ec8 : (r == 3) = true := beq_iff_eq.2 c8
    have fc8 : (r != 3) = false := by rw [bne, ec8]; rfl
    have Ec8 := Lib.hid ec8
    have Hc8 := Lib.hid c8
    clear c8
    go_wp2_with (refine stop_load 34 (.tmp 3) rfl ?_)
    intro _
    refine wpList_load_part (w.heap.size) (0) 34 (.tmp 3) #[.bool false, .int .i64 u.k, .int .i64 u.i, .int .i64 u.j, .int .i64 u.n, (.slice au u.kids.length cu), .int .i64 v.k, .int .i64 v.i, .int .i64 v.j, .int .i64 v.n, (.slice av v.kids.length cv), .int .i64 x.k, .int .i64 x.i, .int .i64 x.j, .int .i64 x.n, (.slice ax x.kids.length cx), .int .i64 i] dj Hx1.out (by rfl) rfl (by rfl) (by rfl) dj1 (by cases dj <;> first | rfl | exact dj2) (by kernel_rfl) ?_
    go_wp2_with fail
    clear kvV0
    refine (istype0_any i u v x (Par w V0.heap.size [] P) V0 ((.slice au u.kids.length cu)) ((.slice av v.kids.length cv)) ((.slice ax x.kids.length cx)) Gu.out HLu.out Gv.out HLv.out Gx.out HLx.out Ri.out HX0.out HX1.out).mono ?_
    rintro e w9 ⟨rfl, k10⟩
    have Kk11 := Lib.hid k10
    clear k10
    have kvV0 : Sees V0 (w.heap.size + 1) w9 := sees_kept _ Kk11.out
    go_wp2_with (refine stop_load 32 (.tmp 20) rfl ?_)
    intro _
    refine wpList_load_part (w.heap.size) (1) 32 (.tmp 20) #[.int .i64 u.k, .int .i64 u.i, .int .i64 u.j, .int .i64 u.n, (.slice au u.kids.length cu)] du (blk_at Hx1.out Kk11.out) (by rfl) rfl (by rfl) (by rfl) hu1 (by cases du <;> first | rfl | exact hu2) size_term ?_
    go_wp2_with (refine stop_store 52 (.tmp 4) (.tmp 23) rfl ?_)
    intro _
    refine wpList_store_part_n (by rfl) 52 (.tmp 4) (.tmp 23) rfl (w.heap.size + 1) 0 #[.int .i64 u.k, .int .i64 u.i, .int .i64 u.j, .int .i64 u.n, (.slice au u.kids.length cu), .int .i64 x.i] (by rfl) (by rfl) 52 (by kernel_rfl) (row_ok rfl) ?_
    intro W12 hW12
    clear kvV0
    subst hW12
    refine ⟨_, #[.int .i64 u.k, .int .i64 u.i, .int .i64 u.j, .int .i64 u.n, (.slice au u.kids.length cu), .int .i64 x.i], (blk_at Hx2.out Kk11.out), rfl, Nat.le_of_ble_eq_true rfl, ?_⟩
    intro W13 hW13
    go_wp2_with fail
    (try simp only [Exit.inBlock, Exit.then])
    refine bodyPost_ret (results_cell_tmp rfl _ _ (w.heap.size + 1) 52 _ _ de rfl (blk_same (blk_at Hx2.out Kk11.out) hW13) de1 (by cases de <;> first | rfl | exact de2) (by kernel_rfl)) rfl ?_
    have hcl : rcls r = 0 := by unfold rcls; rw [Ec8.out]; rfl
    rw [show entB r (⟨false, u, v, x, i⟩ : Jd) = ((⟨u, x.i⟩ : En), (osB x i)) from by rw [entB_0 _ hcl]; (try rfl)]
    exact ⟨_, rfl, par_end (par_row' (HLu.out.later Kk11.out) hW13 (by omega) (by have := Z0.out; omega)) (by have := Z0.out; omega), kept_set (kept_trans Kk5.out Kk11.out) hW13 (by omega)⟩
  · have ec8 : (r == 3) = false := beq_eq_false_iff_ne.2 c8
    have fc8 : (r != 3) = true := by rw [bne, ec8]; rfl
    have Ec8 := Lib.hid ec8
    have Hc8 := Lib.hid c8
    clear c8
    by_cases c14 : r = 6
    · have ec14 : (r == 6) = true := beq_iff_eq.2 c14
      have fc14 : (r != 6) = false := by rw [bne, ec14]; rfl
      have Ec14 := Lib.hid ec14
      have Hc14 := Lib.hid c14
      clear c14
      go_wp2_with (refine stop_load 34 (.tmp 3) rfl ?_)
      intro _
      refine wpList_load_part (w.heap.size) (0) 34 (.tmp 3) #[.bool false, .int .i64 u.k, .int .i64 u.i, .int .i64 u.j, .int .i64 u.n, (.slice au u.kids.length cu), .int .i64 v.k, .int .i64 v.i, .int .i64 v.j, .int .i64 v.n, (.slice av v.kids.length cv), .int .i64 x.k, .int .i64 x.i, .int .i64 x.j, .int .i64 x.n, (.slice ax x.kids.length cx), .int .i64 i] dj Hx1.out (by rfl) rfl (by rfl) (by rfl) dj1 (by cases dj <;> first | rfl | exact dj2) (by kernel_rfl) ?_
      go_wp2_with fail
      clear kvV0
      refine (istype0_any i u v x (Par w V0.heap.size [] P) V0 ((.slice au u.kids.length cu)) ((.slice av v.kids.length cv)) ((.slice ax x.kids.length cx)) Gu.out HLu.out Gv.out HLv.out Gx.out HLx.out Ri.out HX0.out HX1.out).mono ?_
      rintro e w15 ⟨rfl, k16⟩
      have Kk17 := Lib.hid k16
      clear k16
      have kvV0 : Sees V0 (w.heap.size + 1) w15 := sees_kept _ Kk17.out
      go_wp2_with (refine stop_load 32 (.tmp 20) rfl ?_)
      intro _
      refine wpList_load_part (w.heap.size) (1) 32 (.tmp 20) #[.int .i64 u.k, .int .i64 u.i, .int .i64 u.j, .int .i64 u.n, (.slice au u.kids.length cu)] du (blk_at Hx1.out Kk17.out) (by rfl) rfl (by rfl) (by rfl) hu1 (by cases du <;> first | rfl | exact hu2) size_term ?_
      go_wp2_with (refine stop_store 52 (.tmp 4) (.tmp 23) rfl ?_)
      intro _
      refine wpList_store_part_n (by rfl) 52 (.tmp 4) (.tmp 23) rfl (w.heap.size + 1) 0 #[.int .i64 u.k, .int .i64 u.i, .int .i64 u.j, .int .i64 u.n, (.slice au u.kids.length cu), .int .i64 x.i] (by rfl) (by rfl) 52 (by kernel_rfl) (row_ok rfl) ?_
      intro W18 hW18
      clear kvV0
      subst hW18
      refine ⟨_, #[.int .i64 u.k, .int .i64 u.i, .int .i64 u.j, .int .i64 u.n, (.slice au u.kids.length cu), .int .i64 x.i], (blk_at Hx2.out Kk17.out), rfl, Nat.le_of_ble_eq_true rfl, ?_⟩
      intro W19 hW19
      go_wp2_with fail
      (try simp only [Exit.inBlock, Exit.then])
      refine bodyPost_ret (results_cell_tmp rfl _ _ (w.heap.size + 1) 52 _ _ de rfl (blk_same (blk_at Hx2.out Kk17.out) hW19) de1 (by cases de <;> first | rfl | exact de2) (by kernel_rfl)) rfl ?_
      have hcl : rcls r = 0 := by unfold rcls; rw [Ec8.out, Ec14.out]; rfl
      rw [show entB r (⟨false, u, v, x, i⟩ : Jd) = ((⟨u, x.i⟩ : En), (osB x i)) from by rw [entB_0 _ hcl]; (try rfl)]
      exact ⟨_, rfl, par_end (par_row' (HLu.out.later Kk17.out) hW19 (by omega) (by have := Z0.out; omega)) (by have := Z0.out; omega), kept_set (kept_trans Kk5.out Kk17.out) hW19 (by omega)⟩
    · have ec14 : (r == 6) = false := beq_eq_false_iff_ne.2 c14
      have fc14 : (r != 6) = true := by rw [bne, ec14]; rfl
      have Ec14 := Lib.hid ec14
      have Hc14 := Lib.hid c14
      clear c14
      by_cases c20 : r = 4
      · have ec20 : (r == 4) = true := beq_iff_eq.2 c20
        have fc20 : (r != 4) = false := by rw [bne, ec20]; rfl
        have Ec20 := Lib.hid ec20
        have Hc20 := Lib.hid c20
        clear c20
        go_wp2_with (refine stop_load 34 (.tmp 3) rfl ?_)
        intro _
        refine wpList_load_part (w.heap.size) (0) 34 (.tmp 3) #[.bool false, .int .i64 u.k, .int .i64 u.i, .int .i64 u.j, .int .i64 u.n, (.slice au u.kids.length cu), .int .i64 v.k, .int .i64 v.i, .int .i64 v.j, .int .i64 v.n, (.slice av v.kids.length cv), .int .i64 x.k, .int .i64 x.i, .int .i64 x.j, .int .i64 x.n, (.slice ax x.kids.length cx), .int .i64 i] dj Hx1.out (by rfl) rfl (by rfl) (by rfl) dj1 (by cases dj <;> first | rfl | exact dj2) (by kernel_rfl) ?_
        go_wp2_with fail
        clear kvV0
        refine (istype0_any i u v x (Par w V0.heap.size [] P) V0 ((.slice au u.kids.length cu)) ((.slice av v.kids.length cv)) ((.slice ax x.kids.length cx)) Gu.out HLu.out Gv.out HLv.out Gx.out HLx.out Ri.out HX0.out HX1.out).mono ?_
        rintro e w21 ⟨rfl, k22⟩
        have Kk23 := Lib.hid k22
        clear k22
        have kvV0 : Sees V0 (w.heap.size + 1) w21 := sees_kept _ Kk23.out
        go_wp2_with (refine stop_load 32 (.tmp 20) rfl ?_)
        intro _
        refine wpList_load_part (w.heap.size) (1) 32 (.tmp 20) #[.int .i64 u.k, .int .i64 u.i, .int .i64 u.j, .int .i64 u.n, (.slice au u.kids.length cu)] du (blk_at Hx1.out Kk23.out) (by rfl) rfl (by rfl) (by rfl) hu1 (by cases du <;> first | rfl | exact hu2) size_term ?_
        go_wp2_with (refine stop_store 52 (.tmp 4) (.tmp 23) rfl ?_)
        intro _
        refine wpList_store_part_n (by rfl) 52 (.tmp 4) (.tmp 23) rfl (w.heap.size + 1) 0 #[.int .i64 u.k, .int .i64 u.i, .int .i64 u.j, .int .i64 u.n, (.slice au u.kids.length cu), .int .i64 x.i] (by rfl) (by rfl) 52 (by kernel_rfl) (row_ok rfl) ?_
        intro W24 hW24
        clear kvV0
        subst hW24
        refine ⟨_, #[.int .i64 u.k, .int .i64 u.i, .int .i64 u.j, .int .i64 u.n, (.slice au u.kids.length cu), .int .i64 x.i], (blk_at Hx2.out Kk23.out), rfl, Nat.le_of_ble_eq_true rfl, ?_⟩
        intro W25 hW25
        go_wp2_with fail
        (try simp only [Exit.inBlock, Exit.then])
        refine bodyPost_ret (results_cell_tmp rfl _ _ (w.heap.size + 1) 52 _ _ de rfl (blk_same (blk_at Hx2.out Kk23.out) hW25) de1 (by cases de <;> first | rfl | exact de2) (by kernel_rfl)) rfl ?_
        have hcl : rcls r = 0 := by unfold rcls; rw [Ec8.out, Ec14.out, Ec20.out]; rfl
        rw [show entB r (⟨false, u, v, x, i⟩ : Jd) = ((⟨u, x.i⟩ : En), (osB x i)) from by rw [entB_0 _ hcl]; (try rfl)]
        exact ⟨_, rfl, par_end (par_row' (HLu.out.later Kk23.out) hW25 (by omega) (by have := Z0.out; omega)) (by have := Z0.out; omega), kept_set (kept_trans Kk5.out Kk23.out) hW25 (by omega)⟩
      · have ec20 : (r == 4) = false := beq_eq_false_iff_ne.2 c20
        have fc20 : (r != 4) = true := by rw [bne, ec20]; rfl
        have Ec20 := Lib.hid ec20
        have Hc20 := Lib.hid c20
        clear c20
        by_cases c26 : r = 25
        · have ec26 : (r == 25) = true := beq_iff_eq.2 c26
          have fc26 : (r != 25) = false := by rw [bne, ec26]; rfl
          have Ec26 := Lib.hid ec26
          have Hc26 := Lib.hid c26
          clear c26
          go_wp2_with (refine stop_load 34 (.tmp 3) rfl ?_)
          intro _
          refine wpList_load_part (w.heap.size) (0) 34 (.tmp 3) #[.bool false, .int .i64 u.k, .int .i64 u.i, .int .i64 u.j, .int .i64 u.n, (.slice au u.kids.length cu), .int .i64 v.k, .int .i64 v.i, .int .i64 v.j, .int .i64 v.n, (.slice av v.kids.length cv), .int .i64 x.k, .int .i64 x.i, .int .i64 x.j, .int .i64 x.n, (.slice ax x.kids.length cx), .int .i64 i] dj Hx1.out (by rfl) rfl (by rfl) (by rfl) dj1 (by cases dj <;> first | rfl | exact dj2) (by kernel_rfl) ?_
          go_wp2_with fail
          clear kvV0
          refine (aretypes0_any i u v x (Par w V0.heap.size [] P) V0 ((.slice au u.kids.length cu)) ((.slice av v.kids.length cv)) ((.slice ax x.kids.length cx)) Gu.out HLu.out Gv.out HLv.out Gx.out HLx.out Ri.out HX0.out HX1.out).mono ?_
          rintro e w27 ⟨rfl, k28⟩
          have Kk29 := Lib.hid k28
          clear k28
          have kvV0 : Sees V0 (w.heap.size + 1) w27 := sees_kept _ Kk29.out
          go_wp2_with (refine stop_load 32 (.tmp 35) rfl ?_)
          intro _
          refine wpList_load_part (w.heap.size) (1) 32 (.tmp 35) #[.int .i64 u.k, .int .i64 u.i, .int .i64 u.j, .int .i64 u.n, (.slice au u.kids.length cu)] du (blk_at Hx1.out Kk29.out) (by rfl) rfl (by rfl) (by rfl) hu1 (by cases du <;> first | rfl | exact hu2) size_term ?_
          go_wp2_with (refine stop_store 52 (.tmp 4) (.tmp 38) rfl ?_)
          intro _
          refine wpList_store_part_n (by rfl) 52 (.tmp 4) (.tmp 38) rfl (w.heap.size + 1) 0 #[.int .i64 u.k, .int .i64 u.i, .int .i64 u.j, .int .i64 u.n, (.slice au u.kids.length cu), .int .i64 x.i] (by rfl) (by rfl) 52 (by kernel_rfl) (row_ok rfl) ?_
          intro W30 hW30
          clear kvV0
          subst hW30
          refine ⟨_, #[.int .i64 u.k, .int .i64 u.i, .int .i64 u.j, .int .i64 u.n, (.slice au u.kids.length cu), .int .i64 x.i], (blk_at Hx2.out Kk29.out), rfl, Nat.le_of_ble_eq_true rfl, ?_⟩
          intro W31 hW31
          go_wp2_with fail
          (try simp only [Exit.inBlock, Exit.then])
          refine bodyPost_ret (results_cell_tmp rfl _ _ (w.heap.size + 1) 52 _ _ de rfl (blk_same (blk_at Hx2.out Kk29.out) hW31) de1 (by cases de <;> first | rfl | exact de2) (by kernel_rfl)) rfl ?_
          have hcl : rcls r = 1 := by unfold rcls; rw [Ec8.out, Ec14.out, Ec20.out, Ec26.out]; rfl
          rw [show entB r (⟨false, u, v, x, i⟩ : Jd) = ((⟨u, x.i⟩ : En), false) from by rw [entB_1 _ hcl]; (try rfl)]
          exact ⟨_, rfl, par_end (par_row' (HLu.out.later Kk29.out) hW31 (by omega) (by have := Z0.out; omega)) (by have := Z0.out; omega), kept_set (kept_trans Kk5.out Kk29.out) hW31 (by omega)⟩
        · have ec26 : (r == 25) = false := beq_eq_false_iff_ne.2 c26
          have fc26 : (r != 25) = true := by rw [bne, ec26]; rfl
          have Ec26 := Lib.hid ec26
          have Hc26 := Lib.hid c26
          clear c26
          by_cases c32 : r = 26
          · have ec32 : (r == 26) = true := beq_iff_eq.2 c32
            have fc32 : (r != 26) = false := by rw [bne, ec32]; rfl
            have Ec32 := Lib.hid ec32
            have Hc32 := Lib.hid c32
            clear c32
            go_wp2_with (refine stop_load 34 (.tmp 3) rfl ?_)
            intro _
            refine wpList_load_part (w.heap.size) (0) 34 (.tmp 3) #[.bool false, .int .i64 u.k, .int .i64 u.i, .int .i64 u.j, .int .i64 u.n, (.slice au u.kids.length cu), .int .i64 v.k, .int .i64 v.i, .int .i64 v.j, .int .i64 v.n, (.slice av v.kids.length cv), .int .i64 x.k, .int .i64 x.i, .int .i64 x.j, .int .i64 x.n, (.slice ax x.kids.length cx), .int .i64 i] dj Hx1.out (by rfl) rfl (by rfl) (by rfl) dj1 (by cases dj <;> first | rfl | exact dj2) (by kernel_rfl) ?_
            go_wp2_with fail
            clear kvV0
            refine (aretypes0_any i u v x (Par w V0.heap.size [] P) V0 ((.slice au u.kids.length cu)) ((.slice av v.kids.length cv)) ((.slice ax x.kids.length cx)) Gu.out HLu.out Gv.out HLv.out Gx.out HLx.out Ri.out HX0.out HX1.out).mono ?_
            rintro e w33 ⟨rfl, k34⟩
            have Kk35 := Lib.hid k34
            clear k34
            have kvV0 : Sees V0 (w.heap.size + 1) w33 := sees_kept _ Kk35.out
            go_wp2_with (refine stop_load 32 (.tmp 35) rfl ?_)
            intro _
            refine wpList_load_part (w.heap.size) (1) 32 (.tmp 35) #[.int .i64 u.k, .int .i64 u.i, .int .i64 u.j, .int .i64 u.n, (.slice au u.kids.length cu)] du (blk_at Hx1.out Kk35.out) (by rfl) rfl (by rfl) (by rfl) hu1 (by cases du <;> first | rfl | exact hu2) size_term ?_
            go_wp2_with (refine stop_store 52 (.tmp 4) (.tmp 38) rfl ?_)
            intro _
            refine wpList_store_part_n (by rfl) 52 (.tmp 4) (.tmp 38) rfl (w.heap.size + 1) 0 #[.int .i64 u.k, .int .i64 u.i, .int .i64 u.j, .int .i64 u.n, (.slice au u.kids.length cu), .int .i64 x.i] (by rfl) (by rfl) 52 (by kernel_rfl) (row_ok rfl) ?_
            intro W36 hW36
            clear kvV0
            subst hW36
            refine ⟨_, #[.int .i64 u.k, .int .i64 u.i, .int .i64 u.j, .int .i64 u.n, (.slice au u.kids.length cu), .int .i64 x.i], (blk_at Hx2.out Kk35.out), rfl, Nat.le_of_ble_eq_true rfl, ?_⟩
            intro W37 hW37
            go_wp2_with fail
            (try simp only [Exit.inBlock, Exit.then])
            refine bodyPost_ret (results_cell_tmp rfl _ _ (w.heap.size + 1) 52 _ _ de rfl (blk_same (blk_at Hx2.out Kk35.out) hW37) de1 (by cases de <;> first | rfl | exact de2) (by kernel_rfl)) rfl ?_
            have hcl : rcls r = 1 := by unfold rcls; rw [Ec8.out, Ec14.out, Ec20.out, Ec26.out, Ec32.out]; rfl
            rw [show entB r (⟨false, u, v, x, i⟩ : Jd) = ((⟨u, x.i⟩ : En), false) from by rw [entB_1 _ hcl]; (try rfl)]
            exact ⟨_, rfl, par_end (par_row' (HLu.out.later Kk35.out) hW37 (by omega) (by have := Z0.out; omega)) (by have := Z0.out; omega), kept_set (kept_trans Kk5.out Kk35.out) hW37 (by omega)⟩
          · have ec32 : (r == 26) = false := beq_eq_false_iff_ne.2 c32
            have fc32 : (r != 26) = true := by rw [bne, ec32]; rfl
            have Ec32 := Lib.hid ec32
            have Hc32 := Lib.hid c32
            clear c32
            by_cases c38 : r = 27
            · have ec38 : (r == 27) = true := beq_iff_eq.2 c38
              have fc38 : (r != 27) = false := by rw [bne, ec38]; rfl
              have Ec38 := Lib.hid ec38
              have Hc38 := Lib.hid c38
              clear c38
              go_wp2_with (refine stop_load 34 (.tmp 3) rfl ?_)
              intro _
              refine wpList_load_part (w.heap.size) (0) 34 (.tmp 3) #[.bool false, .int .i64 u.k, .int .i64 u.i, .int .i64 u.j, .int .i64 u.n, (.slice au u.kids.length cu), .int .i64 v.k, .int .i64 v.i, .int .i64 v.j, .int .i64 v.n, (.slice av v.kids.length cv), .int .i64 x.k, .int .i64 x.i, .int .i64 x.j, .int .i64 x.n, (.slice ax x.kids.length cx), .int .i64 i] dj Hx1.out (by rfl) rfl (by rfl) (by rfl) dj1 (by cases dj <;> first | rfl | exact dj2) (by kernel_rfl) ?_
              go_wp2_with fail
              clear kvV0
              refine (aretypes0_any i u v x (Par w V0.heap.size [] P) V0 ((.slice au u.kids.length cu)) ((.slice av v.kids.length cv)) ((.slice ax x.kids.length cx)) Gu.out HLu.out Gv.out HLv.out Gx.out HLx.out Ri.out HX0.out HX1.out).mono ?_
              rintro e w39 ⟨rfl, k40⟩
              have Kk41 := Lib.hid k40
              clear k40
              have kvV0 : Sees V0 (w.heap.size + 1) w39 := sees_kept _ Kk41.out
              go_wp2_with (refine stop_load 32 (.tmp 35) rfl ?_)
              intro _
              refine wpList_load_part (w.heap.size) (1) 32 (.tmp 35) #[.int .i64 u.k, .int .i64 u.i, .int .i64 u.j, .int .i64 u.n, (.slice au u.kids.length cu)] du (blk_at Hx1.out Kk41.out) (by rfl) rfl (by rfl) (by rfl) hu1 (by cases du <;> first | rfl | exact hu2) size_term ?_
              go_wp2_with (refine stop_store 52 (.tmp 4) (.tmp 38) rfl ?_)
              intro _
              refine wpList_store_part_n (by rfl) 52 (.tmp 4) (.tmp 38) rfl (w.heap.size + 1) 0 #[.int .i64 u.k, .int .i64 u.i, .int .i64 u.j, .int .i64 u.n, (.slice au u.kids.length cu), .int .i64 x.i] (by rfl) (by rfl) 52 (by kernel_rfl) (row_ok rfl) ?_
              intro W42 hW42
              clear kvV0
              subst hW42
              refine ⟨_, #[.int .i64 u.k, .int .i64 u.i, .int .i64 u.j, .int .i64 u.n, (.slice au u.kids.length cu), .int .i64 x.i], (blk_at Hx2.out Kk41.out), rfl, Nat.le_of_ble_eq_true rfl, ?_⟩
              intro W43 hW43
              go_wp2_with fail
              (try simp only [Exit.inBlock, Exit.then])
              refine bodyPost_ret (results_cell_tmp rfl _ _ (w.heap.size + 1) 52 _ _ de rfl (blk_same (blk_at Hx2.out Kk41.out) hW43) de1 (by cases de <;> first | rfl | exact de2) (by kernel_rfl)) rfl ?_
              have hcl : rcls r = 1 := by unfold rcls; rw [Ec8.out, Ec14.out, Ec20.out, Ec26.out, Ec32.out, Ec38.out]; rfl
              rw [show entB r (⟨false, u, v, x, i⟩ : Jd) = ((⟨u, x.i⟩ : En), false) from by rw [entB_1 _ hcl]; (try rfl)]
              exact ⟨_, rfl, par_end (par_row' (HLu.out.later Kk41.out) hW43 (by omega) (by have := Z0.out; omega)) (by have := Z0.out; omega), kept_set (kept_trans Kk5.out Kk41.out) hW43 (by omega)⟩
            · have ec38 : (r == 27) = false := beq_eq_false_iff_ne.2 c38
              have fc38 : (r != 27) = true := by rw [bne, ec38]; rfl
              have Ec38 := Lib.hid ec38
              have Hc38 := Lib.hid c38
              clear c38
              by_cases c44 : r = 28
              · have ec44 : (r == 28) = true := beq_iff_eq.2 c44
                have fc44 : (r != 28) = false := by rw [bne, ec44]; rfl
                have Ec44 := Lib.hid ec44
                have Hc44 := Lib.hid c44
                clear c44
                go_wp2_with (refine stop_load 34 (.tmp 3) rfl ?_)
                intro _
                refine wpList_load_part (w.heap.size) (0) 34 (.tmp 3) #[.bool false, .int .i64 u.k, .int .i64 u.i, .int .i64 u.j, .int .i64 u.n, (.slice au u.kids.length cu), .int .i64 v.k, .int .i64 v.i, .int .i64 v.j, .int .i64 v.n, (.slice av v.kids.length cv), .int .i64 x.k, .int .i64 x.i, .int .i64 x.j, .int .i64 x.n, (.slice ax x.kids.length cx), .int .i64 i] dj Hx1.out (by rfl) rfl (by rfl) (by rfl) dj1 (by cases dj <;> first | rfl | exact dj2) (by kernel_rfl) ?_
                go_wp2_with fail
                clear kvV0
                refine (aretypes0_any i u v x (Par w V0.heap.size [] P) V0 ((.slice au u.kids.length cu)) ((.slice av v.kids.length cv)) ((.slice ax x.kids.length cx)) Gu.out HLu.out Gv.out HLv.out Gx.out HLx.out Ri.out HX0.out HX1.out).mono ?_
                rintro e w45 ⟨rfl, k46⟩
                have Kk47 := Lib.hid k46
                clear k46
                have kvV0 : Sees V0 (w.heap.size + 1) w45 := sees_kept _ Kk47.out
                go_wp2_with (refine stop_load 32 (.tmp 35) rfl ?_)
                intro _
                refine wpList_load_part (w.heap.size) (1) 32 (.tmp 35) #[.int .i64 u.k, .int .i64 u.i, .int .i64 u.j, .int .i64 u.n, (.slice au u.kids.length cu)] du (blk_at Hx1.out Kk47.out) (by rfl) rfl (by rfl) (by rfl) hu1 (by cases du <;> first | rfl | exact hu2) size_term ?_
                go_wp2_with (refine stop_store 52 (.tmp 4) (.tmp 38) rfl ?_)
                intro _
                refine wpList_store_part_n (by rfl) 52 (.tmp 4) (.tmp 38) rfl (w.heap.size + 1) 0 #[.int .i64 u.k, .int .i64 u.i, .int .i64 u.j, .int .i64 u.n, (.slice au u.kids.length cu), .int .i64 x.i] (by rfl) (by rfl) 52 (by kernel_rfl) (row_ok rfl) ?_
                intro W48 hW48
                clear kvV0
                subst hW48
                refine ⟨_, #[.int .i64 u.k, .int .i64 u.i, .int .i64 u.j, .int .i64 u.n, (.slice au u.kids.length cu), .int .i64 x.i], (blk_at Hx2.out Kk47.out), rfl, Nat.le_of_ble_eq_true rfl, ?_⟩
                intro W49 hW49
                go_wp2_with fail
                (try simp only [Exit.inBlock, Exit.then])
                refine bodyPost_ret (results_cell_tmp rfl _ _ (w.heap.size + 1) 52 _ _ de rfl (blk_same (blk_at Hx2.out Kk47.out) hW49) de1 (by cases de <;> first | rfl | exact de2) (by kernel_rfl)) rfl ?_
                have hcl : rcls r = 1 := by unfold rcls; rw [Ec8.out, Ec14.out, Ec20.out, Ec26.out, Ec32.out, Ec38.out, Ec44.out]; rfl
                rw [show entB r (⟨false, u, v, x, i⟩ : Jd) = ((⟨u, x.i⟩ : En), false) from by rw [entB_1 _ hcl]; (try rfl)]
                exact ⟨_, rfl, par_end (par_row' (HLu.out.later Kk47.out) hW49 (by omega) (by have := Z0.out; omega)) (by have := Z0.out; omega), kept_set (kept_trans Kk5.out Kk47.out) hW49 (by omega)⟩
              · have ec44 : (r == 28) = false := beq_eq_false_iff_ne.2 c44
                have fc44 : (r != 28) = true := by rw [bne, ec44]; rfl
                have Ec44 := Lib.hid ec44
                have Hc44 := Lib.hid c44
                clear c44
                go_wp2_with fail
                clear kvV0
                obtain ⟨W50, h51⟩ : ∃ x, World.drew V0 = x := ⟨_, rfl⟩
                have k52 : Kept V0 W50 := by rw [← h51]; exact kept_drew (kept_refl _)
                have Kk53 := Lib.hid k52
                clear k52
                refine wp_region_held_drew (S := Sees W50 (w.heap.size + 1)) (by kernel_rfl) ?_ (fun hHeld => ?_)
                · (try dsimp only)
                  rw [h51]
                  exact sees_kept _ (kept_refl _)
                rw [h51] at hHeld ⊢
                clear h51
                refine take_at 0 40 entryB0r13_0 (v := ?_) (Or.inl ⟨by rfl, ?_⟩) ?_
                rotate_left 1
                · ((intro w hSw; (try dsimp only at hSw); unfold entryB0r13_0; go_simp) <;> with_reducible rfl)
                (try simp only [Act.put, List.setIfInBounds_toArray, List.set_cons_zero, List.set_cons_succ])
                refine take_at 1 41 entryB0r13_1 (yields_part (w.heap.size) (11) 32 (.tmp 40) #[.int .i64 x.k, .int .i64 x.i, .int .i64 x.j, .int .i64 x.n, (.slice ax x.kids.length cx)] du (fun _ h => sees_blk Hx1.out (by have := Z0.out; omega) (sees_of Kk53.out h)) (by rfl) rfl (by rfl) (by rfl) hu1 (by cases du <;> first | rfl | exact hu2) size_term) ?_
                (try simp only [Act.put, List.setIfInBounds_toArray, List.set_cons_zero, List.set_cons_succ])
                refine take_at 2 42 entryB0r13_2 (v := ?_) (Or.inl ⟨by rfl, ?_⟩) ?_
                rotate_left 1
                · ((intro w hSw; (try dsimp only at hSw); unfold entryB0r13_2; go_simp) <;> with_reducible rfl)
                (try simp only [Act.put, List.setIfInBounds_toArray, List.set_cons_zero, List.set_cons_succ])
                refine take_at 3 43 entryB0r13_3 (v := ?_) (Or.inl ⟨by rfl, ?_⟩) ?_
                rotate_left 1
                · ((intro w hSw; (try dsimp only at hSw); have qV0 := sees_of Kk53.out hSw; unfold entryB0r13_3; go_simp) <;> with_reducible rfl)
                (try simp only [Act.put, List.setIfInBounds_toArray, List.set_cons_zero, List.set_cons_succ])
                refine take_at 4 44 entryB0r13_4 (v := ?_) (Or.inl ⟨by rfl, ?_⟩) ?_
                rotate_left 1
                · ((intro w hSw; (try dsimp only at hSw); unfold entryB0r13_4; go_simp) <;> with_reducible rfl)
                (try simp only [Act.put, List.setIfInBounds_toArray, List.set_cons_zero, List.set_cons_succ])
                refine take_at 5 45 entryB0r13_5 (v := ?_) (Or.inl ⟨by rfl, ?_⟩) ?_
                rotate_left 1
                · ((intro w hSw; (try dsimp only at hSw); unfold entryB0r13_5; go_simp) <;> with_reducible rfl)
                (try simp only [Act.put, List.setIfInBounds_toArray, List.set_cons_zero, List.set_cons_succ])
                refine take_at 6 46 entryB0r13_6 (v := ?_) (Or.inl ⟨by rfl, ?_⟩) ?_
                rotate_left 1
                · ((intro w hSw; (try dsimp only at hSw); have qV0 := sees_of Kk53.out hSw; unfold entryB0r13_6; go_simp) <;> with_reducible rfl)
                (try simp only [Act.put, List.setIfInBounds_toArray, List.set_cons_zero, List.set_cons_succ])
                refine take_at 7 47 entryB0r13_7 (v := ?_) (Or.inl ⟨by rfl, ?_⟩) ?_
                rotate_left 1
                · ((intro w hSw; (try dsimp only at hSw); unfold entryB0r13_7; go_simp) <;> with_reducible rfl)
                (try simp only [Act.put, List.setIfInBounds_toArray, List.set_cons_zero, List.set_cons_succ])
                refine take_at 8 48 entryB0r13_8 (v := ?_) (Or.inl ⟨by rfl, ?_⟩) ?_
                rotate_left 1
                · ((intro w hSw; (try dsimp only at hSw); unfold entryB0r13_8; go_simp) <;> with_reducible rfl)
                (try simp only [Act.put, List.setIfInBounds_toArray, List.set_cons_zero, List.set_cons_succ])
                refine take_at 9 49 entryB0r13_9 (v := ?_) (Or.inl ⟨by rfl, ?_⟩) ?_
                rotate_left 1
                · ((intro w hSw; (try dsimp only at hSw); unfold entryB0r13_9; go_simp) <;> with_reducible rfl)
                (try simp only [Act.put, List.setIfInBounds_toArray, List.set_cons_zero, List.set_cons_succ])
                refine wpAnyH_ready (rs := [10]) (by kernel_rfl) (by simp) ?_
                refine AllReadyH.cons (o := entryB0r13_10) rfl (fun K hK => ?_) ?_
                · unfold entryB0r13_10
                  refine step_store_part rfl 52 (.tmp 4) (.tmp 44) rfl (w.heap.size + 1) 0 #[.int .i64 x.k, .int .i64 x.i, .int .i64 x.j, .int .i64 x.n, (.slice ax x.kids.length cx), .int .i64 i] rfl rfl 52 (by kernel_rfl) (row_ok rfl) _ #[.int .i64 x.k, .int .i64 x.i, .int .i64 x.j, .int .i64 x.n, (.slice ax x.kids.length cx), .int .i64 i] (blk_at Hx2.out Kk53.out) rfl (Nat.le_of_ble_eq_true rfl) ?_
                  intro W54 hW54
                  clear hHeld
                  refine hK.out _ _ (sees_set (kept_refl _) hW54) (fun hHeld => ?_)
                  clear hK K
                  (try simp only [Act.put])
                  refine take_at 11 5 entryB0r13_11 (v := ?_) (Or.inl ⟨by rfl, ?_⟩) ?_
                  rotate_left 1
                  · ((intro w hSw; (try dsimp only at hSw); unfold entryB0r13_11; go_simp) <;> with_reducible rfl)
                  (try simp only [Act.put, List.setIfInBounds_toArray, List.set_cons_zero, List.set_cons_succ])
                  refine wpAnyH_done (by kernel_rfl) ?_ _
                  clear hHeld
                  go_wp2_with fail
                  (try simp only [Exit.inBlock, Exit.then])
                  refine bodyPost_ret (results_cell_tmp rfl _ _ (w.heap.size + 1) 52 _ _ de rfl (blk_same (blk_at Hx2.out Kk53.out) hW54) de1 (by cases de <;> first | rfl | exact de2) (by kernel_rfl)) rfl ?_
                  have hcl : rcls r = 2 := by unfold rcls; rw [Ec8.out, Ec14.out, Ec20.out, Ec26.out, Ec32.out, Ec38.out, Ec44.out]; rfl
                  rw [show entB r (⟨false, u, v, x, i⟩ : Jd) = ((⟨x, i⟩ : En), true) from by rw [entB_2 _ hcl]; (try simp only []); rw [E23.out]; (try rfl)]
                  exact ⟨_, rfl, par_end (par_row' (HLx.out.later Kk53.out) hW54 (by omega) (by have := Z0.out; omega)) (by have := Z0.out; omega), kept_set (kept_trans Kk5.out Kk53.out) hW54 (by omega)⟩
                exact AllReadyH.nil

theorem entry0_any (r i : Int) (u v x : Tm) (P : Nat → Prop) (w : World) (hrr : I64 r) (su sv sx : Value) (hfu : u.fine) (hlu : LiesQ w P u.kids su) (hfv : v.fine) (hlv : LiesQ w P v.kids sv) (hfx : x.fine) (hlx : LiesQ w P x.kids sx) (hri : I64 i) (hx0 : 0 ≤ x.i) (hx1 : x.i ≤ 2147483647) : Calls Try.prog 26 #[.int .i64 r, jv (⟨false, u, v, x, i⟩ : Jd) su sv sx] w (GivesEB P (entB r (⟨false, u, v, x, i⟩ : Jd)).1 (entB r (⟨false, u, v, x, i⟩ : Jd)).2 w) := by
  by_cases h : r = 23
  · subst h; exact entryA0_any i u v x P w su sv sx hfu hlu hfv hlv hfx hlx hri hx0 hx1
  · exact entryB0_any r i u v x P w su sv sx hrr hfu hlu hfv hlv hfx hlx hri hx0 hx1 (by simpa using h)

end Go.Proofs.Ytjlppnmckobcfaa

namespace Go.Proofs.Ytjlppnmckobcfaa
open Go.RowKit

theorem oneE (t : En) (s : Value) (h : s.oneCell' = true := by rfl) : ∀ u ∈ cells6 [(t, s)], u.oneCell' = true := by
  intro u hu
  simp only [cells6, List.mem_cons, List.not_mem_nil, or_false] at hu
  rcases hu with rfl | rfl | rfl | rfl | rfl | rfl <;> first | rfl | exact h
end Go.Proofs.Ytjlppnmckobcfaa

namespace Go.Proofs.Ytjlppnmckobcfaa
open Go.RowKit

theorem bn_drew {w w' : World} {g : Nat} {e : En} {s : Value} (h : Kept w w' ∧ BNode w' g e s) : Kept w w'.drew ∧ w'.drew.cell? ⟨g, 0, none⟩ = some (.int .i64 e.a.k) ∧ w'.drew.cell? ⟨g, 1, none⟩ = some (.int .i64 e.a.i) ∧ w'.drew.cell? ⟨g, 2, none⟩ = some (.int .i64 e.a.j) ∧ w'.drew.cell? ⟨g, 3, none⟩ = some (.int .i64 e.a.n) ∧ w'.drew.cell? ⟨g, 4, none⟩ = some (s) ∧ w'.drew.cell? ⟨g, 5, none⟩ = some (.int .i64 e.i) := ⟨kept_drew h.1, h.2⟩
theorem bn_call {w w' wn : World} {g : Nat} {e : En} {s : Value} (h : Kept w w' ∧ w'.cell? ⟨g, 0, none⟩ = some (.int .i64 e.a.k) ∧ w'.cell? ⟨g, 1, none⟩ = some (.int .i64 e.a.i) ∧ w'.cell? ⟨g, 2, none⟩ = some (.int .i64 e.a.j) ∧ w'.cell? ⟨g, 3, none⟩ = some (.int .i64 e.a.n) ∧ w'.cell? ⟨g, 4, none⟩ = some (s) ∧ w'.cell? ⟨g, 5, none⟩ = some (.int .i64 e.i)) (hb : Below w'.heap.size w' wn) : Kept w wn ∧ wn.cell? ⟨g, 0, none⟩ = some (.int .i64 e.a.k) ∧ wn.cell? ⟨g, 1, none⟩ = some (.int .i64 e.a.i) ∧ wn.cell? ⟨g, 2, none⟩ = some (.int .i64 e.a.j) ∧ wn.cell? ⟨g, 3, none⟩ = some (.int .i64 e.a.n) ∧ wn.cell? ⟨g, 4, none⟩ = some (s) ∧ wn.cell? ⟨g, 5, none⟩ = some (.int .i64 e.i) := ⟨kept_call h.1 hb, BNode.keep h.2 hb⟩
end Go.Proofs.Ytjlppnmckobcfaa

namespace Go.Proofs.Ytjlppnmckobcfaa
open Go.RowKit

theorem cells6_zeros : ∀ n : Nat, (cells6 (List.replicate n ((⟨.zero, 0⟩ : En), Value.slice none 0 0))) = (madeCells #[.int .i64 0, .int .i64 0, .int .i64 0, .int .i64 0, .slice none 0 0, .int .i64 0] (n * 6)).toList := by
  intro n
  apply List.ext_getElem?
  intro j
  by_cases hj : j < n * 6
  · have h5 : j % 6 < 6 := Nat.mod_lt _ (by omega)
    have hd : j / 6 < n := by omega
    have e : j = j / 6 * 6 + j % 6 := by omega
    have h1 := cells6_get (List.replicate n ((⟨.zero, 0⟩ : En), Value.slice none 0 0)) (j / 6) (by simpa using hd) (j % 6) h5
    rw [← e] at h1
    rw [h1]
    simp only [List.getElem_replicate]
    have hz : (madeCells #[Value.int .i64 0, .int .i64 0, .int .i64 0, .int .i64 0, .slice none 0 0, .int .i64 0] (n * 6)).toList[j]? = some (#[Value.int .i64 0, .int .i64 0, .int .i64 0, .int .i64 0, .slice none 0 0, .int .i64 0][j % 6]!) := by simp [madeCells, hj]
    rw [hz]
    generalize j % 6 = q at h5
    match q, h5 with
    | 0, _ => rfl
    | 1, _ => rfl
    | 2, _ => rfl
    | 3, _ => rfl
    | 4, _ => rfl
    | 5, _ => rfl
  · rw [List.getElem?_eq_none (by rw [cells6_length]; simp; omega), List.getElem?_eq_none (by simp [madeCells]; omega)]
theorem fullE_made {B : Nat} {w : World} {g n : Nat} (h : w.ownsRow B 52 6 (.slice (some ⟨g, 0, none⟩) n n) n (madeCells #[.int .i64 0, .int .i64 0, .int .i64 0, .int .i64 0, .slice none 0 0, .int .i64 0] (n * 6)).toList) :
    FullE B w g (List.replicate n ((⟨.zero, 0⟩ : En), .slice none 0 0)) := by
  rw [← cells6_zeros] at h
  have hb : B ≤ g ∧ ∃ cs, w.heap[g]? = some (.cells cs 52 (0, 0)) := by
    obtain ⟨-, ⟨h1, -⟩ | ⟨g', cap, cur, h1, h2, h3, -⟩⟩ := h
    · cases h1
    · obtain rfl : g = g' := by simp only [Value.slice.injEq, Option.some.injEq, Addr.mk.injEq] at h1; exact h1.1.1
      exact ⟨h2, cur, h3⟩
  refine ⟨hb.1, hb.2, fun i hi => ?_, fun p hp => ?_, fun p hp => ?_⟩
  · have cellq : ∀ q, q < 6 → w.cell? ⟨g, i * 6 + q, none⟩ = [Value.int .i64 ((List.replicate n ((⟨.zero, 0⟩ : En), Value.slice none 0 0))[i]).1.a.k, .int .i64 ((List.replicate n ((⟨.zero, 0⟩ : En), Value.slice none 0 0))[i]).1.a.i, .int .i64 ((List.replicate n ((⟨.zero, 0⟩ : En), Value.slice none 0 0))[i]).1.a.j, .int .i64 ((List.replicate n ((⟨.zero, 0⟩ : En), Value.slice none 0 0))[i]).1.a.n, ((List.replicate n ((⟨.zero, 0⟩ : En), Value.slice none 0 0))[i]).2, .int .i64 ((List.replicate n ((⟨.zero, 0⟩ : En), Value.slice none 0 0))[i]).1.i][q]? := fun q hq => by
      rw [h.cellAt (i * 6 + q) (by simp at hi; omega)]; exact cells6_get _ i hi q hq
    exact ⟨cellq 0 (by omega), cellq 1 (by omega), cellq 2 (by omega), cellq 3 (by omega), cellq 4 (by omega), cellq 5 (by omega)⟩
  · rw [(List.mem_replicate.1 hp).2]; exact ⟨zero_fine, by unfold I64; exact ⟨by decide, by decide⟩⟩
  · rw [(List.mem_replicate.1 hp).2]; exact liesP_nil _ _
theorem bn_put6 {w w' : World} {g r o : Nat} {e t : En} {s st : Value} (h : Kept w w' ∧ w'.cell? ⟨g, 0, none⟩ = some (.int .i64 e.a.k) ∧ w'.cell? ⟨g, 1, none⟩ = some (.int .i64 e.a.i) ∧ w'.cell? ⟨g, 2, none⟩ = some (.int .i64 e.a.j) ∧ w'.cell? ⟨g, 3, none⟩ = some (.int .i64 e.a.n) ∧ w'.cell? ⟨g, 4, none⟩ = some (s) ∧ w'.cell? ⟨g, 5, none⟩ = some (.int .i64 e.i)) (hr : w.heap.size ≤ r) (hne : g ≠ r) : Kept w (put6 w' r o t st) ∧ (put6 w' r o t st).cell? ⟨g, 0, none⟩ = some (.int .i64 e.a.k) ∧ (put6 w' r o t st).cell? ⟨g, 1, none⟩ = some (.int .i64 e.a.i) ∧ (put6 w' r o t st).cell? ⟨g, 2, none⟩ = some (.int .i64 e.a.j) ∧ (put6 w' r o t st).cell? ⟨g, 3, none⟩ = some (.int .i64 e.a.n) ∧ (put6 w' r o t st).cell? ⟨g, 4, none⟩ = some (s) ∧ (put6 w' r o t st).cell? ⟨g, 5, none⟩ = some (.int .i64 e.i) := by
  have hc : ∀ q, (put6 w' r o t st).cell? ⟨g, q, none⟩ = w'.cell? ⟨g, q, none⟩ := fun q => World.cell?_of_block (a := ⟨g, q, none⟩) (put6_other _ _ _ _ _ hne)
  exact ⟨put6_below h.1 hr _ _ _, (hc 0).trans h.2.1, (hc 1).trans h.2.2.1, (hc 2).trans h.2.2.2.1, (hc 3).trans h.2.2.2.2.1, (hc 4).trans h.2.2.2.2.2.1, (hc 5).trans h.2.2.2.2.2.2⟩
theorem put5_below {B : Nat} {w w1 : World} (h : Below B w w1) {g : Nat} (hg : B ≤ g) (o : Nat) (t : Tm) (s : Value) : Below B w (put5 w1 g o t s) := by
  unfold put5
  exact ((((h.setCell hg _).setCell hg _).setCell hg _).setCell hg _).setCell hg _
theorem open_free {w : World} {g : Nat} {cs : Array Value} {T : TypeId} (h : w.heap[g]? = some (.cells cs T (0, 0))) (o : Nat) :
    w.frozen? ⟨g, o, none⟩ = false ∧ w.frozen? ⟨g, o + 1, none⟩ = false ∧ w.frozen? ⟨g, o + 2, none⟩ = false ∧ w.frozen? ⟨g, o + 3, none⟩ = false ∧ w.frozen? ⟨g, o + 4, none⟩ = false ∧ w.frozen? ⟨g, o + 5, none⟩ = false :=
  ⟨open_unfrozen h _, open_unfrozen h _, open_unfrozen h _, open_unfrozen h _, open_unfrozen h _, open_unfrozen h _⟩
theorem take_set_map {α β : Type} (f : β → α) {xs : List β} {l : List α} {k : Nat} (hl : xs.length = l.length) (hk : k < l.length) (h : (xs.map f).take k = l.take k) {y : β} (hy : f y = l[k]) : ((xs.set k y).map f).take (k + 1) = l.take (k + 1) := by
  have hk1 : k < (xs.set k y).length := by simp; omega
  rw [List.take_succ_eq_append_getElem (by simpa using hk1), List.take_succ_eq_append_getElem hk]
  congr 1
  · rw [← h]; apply List.ext_getElem?; intro i
    by_cases hi : i < k
    · simp [List.getElem?_take_of_lt hi, List.getElem?_set_ne (Nat.ne_of_gt hi)]
    · simp [List.getElem?_take, hi]
  · simp [hy]
end Go.Proofs.Ytjlppnmckobcfaa

namespace Go.Proofs.Ytjlppnmckobcfaa
open Go.RowKit

set_option maxRecDepth 20000 in
set_option maxHeartbeats 4000000 in
theorem copies_of (l : List Tm) (ih : ∀ x ∈ l, ∀ (w : World) (s : Value), Lies w x.kids s → Calls Try.prog 35 #[tv x s] w (Makes x w))
    (w : World) (s : Value) (hl : Lies w l s) (hlen : l.length ≤ 1000000) : Calls Try.prog 66 #[s] w (MakesAll l w) := by
  obtain ⟨a, cap, S, rfl, hc, hmx, hf, hn, hk⟩ := hl.out
  unfold maxLen at hmx
  obtain ⟨i0, hi, hz0, hz1, hz2⟩ := info_parts info_term
  have IH := Lib.hid ih
  have HN := Lib.hid hn
  have HK := Lib.hid hk
  have HF := Lib.hid hf
  have HI := Lib.hid (And.intro hi (And.intro hz0 (And.intro hz1 hz2)))
  clear ih hn hk hl hf hi hz0 hz1 hz2
  by_cases h0 : l.length = 0
  · obtain rfl : l = [] := List.eq_nil_of_length_eq_zero h0
    go_enter Try.func66, Try.ntmps66
    go_wp2
    go_ret
    exact ⟨_, rfl, liesP_nil _ _, Below.refl _ _⟩
  have e1 : ((l.length : Int) == 0) = false := by simpa using h0
  have e2 : (l.length == 0) = false := by simpa using h0
  clear h0
  go_enter Try.func66, Try.ntmps66
  go_wp2_with (at_make; refine wpList_make_full _ rfl _ _ 30 rfl w.heap.size 32 i0 _ 5 (by kernel_rfl) HI.out.1 HI.out.2.1 HI.out.2.2.1 _ _ _ _ l.length rfl rfl rfl rfl ?bytes ?max ?base ?next)
  case bytes => rw [HI.out.2.2.2]; omega
  case max => unfold maxLen; omega
  case base => exact Nat.le_refl _
  case next =>
  intro w2 hown hgrow
  have hful := full_made hown
  have hbel : Below w.heap.size w w2 := (Below.refl _ _).grown hgrow (Nat.le_refl _) (by simp)
  obtain ⟨g, hg⟩ : ∃ g, w.heap.size = g := ⟨_, rfl⟩
  have HGE := Lib.hid (show w.heap.size ≤ g by omega)
  (try rw [hg] at hful)
  (try rw [hg])
  have hful' : Full w.heap.size w2 g (List.replicate l.length (Tm.zero, .slice none 0 0)) := by rw [hg]; exact hful
  clear hown hgrow hful e1 e2
  have hbel' : Below w.heap.size w w2 := hbel
  clear hbel
  have HG := Lib.hid hg
  clear hg
  go_wp2_with fail
  go_loopw [14] (fun iv wr => ∃ (k : Nat) (xs : List (Tm × Value)), k ≤ l.length ∧ iv = .int .i64 k ∧ Hid (xs.length = l.length) ∧ Hid ((xs.map (·.1)).take k = l.take k) ∧ Full w.heap.size wr g xs ∧ Below w.heap.size w wr) (fun iv _ => l.length - (intOf iv).toNat)
  case atStart => exact ⟨0, _, Nat.zero_le _, rfl, List.length_replicate, rfl, hful', hbel'⟩
  case round =>
    clear hful' hbel'
    obtain ⟨k, xs, hk, rfl, hxl, hxs, hfu, hb⟩ := hrel
    by_cases hlt : k < l.length
    · obtain ⟨b, o, rfl, hx⟩ := HN.out k hlt
      obtain ⟨x0, x1, x2, x3, x4⟩ := hx.below hb hx.lt
      have hq := (HK.out k hlt).keep hb
      obtain ⟨a', cap', S', hS, -⟩ := hq.out
      rw [hS] at x4 hq
      have HXK := Lib.hid (show k < xs.length by have := hxl.out; omega)
      have HM := Lib.hid (List.getElem_mem hlt)
      have hV : Below wr.heap.size wr (wr.alloc (.cells #[.int .i64 l[k].k, .int .i64 l[k].i, .int .i64 l[k].j, .int .i64 l[k].n, .slice a' l[k].kids.length cap'] 32)) := (Below.refl _ _).alloc (Nat.le_refl _) _
      have hqV := hq.keep hV
      have HFV := Lib.hid (hfu.later hV)
      have HKV := Lib.hid (below_call hb hV hb.size)
      have HW := Lib.hid hb.size
      clear hS hq hV hfu hb
      go_wp2_with fail
      refine (IH.out _ HM.out _ _ hqV).mono ?_
      generalize wr.alloc (.cells #[.int .i64 l[k].k, .int .i64 l[k].i, .int .i64 l[k].j, .int .i64 l[k].n, .slice a' l[k].kids.length cap'] 32) = V at HFV HKV hqV ⊢
      rintro ee wn ⟨s2, rfl, hl2, hbn⟩
      obtain ⟨a2, cap2, rfl, -, -⟩ := hl2.out
      have hfn := HFV.out.later hbn
      have HL2 := Lib.hid (HFV.out.fresh HKV.out.size hl2)
      have HKN := Lib.hid (below_call HKV.out hbn HKV.out.size)
      obtain ⟨z0, z1, z2, z3, z4⟩ := hfn.node k HXK.out
      obtain ⟨cs, hcs⟩ := hfn.open'
      obtain ⟨r0, r1, r2, r3, r4, -⟩ := open_free hcs (k * 5)
      have HFN := Lib.hid hfn
      clear hfn hcs hbn hl2 hqV x0 x1 x2 x3 x4
      go_wp2_with fail
      have hFN := HFN.out.fill (t := l[k]) HXK.out (HF.out _ HM.out) HL2.out
      have hkE := put5_below HKN.out HGE.out (k * 5) l[k] (.slice a2 l[k].kids.length cap2)
      clear z0 z1 z2 z3 z4 r0 r1 r2 r3 r4
      go_roundw
      case rel => exact ⟨k + 1, xs.set k (l[k], .slice a2 l[k].kids.length cap2), by omega, by go_num, by show _ = _; rw [List.length_set]; exact hxl.out, take_set_map _ hxl.out hlt hxs.out rfl, hFN, hkE⟩
      case measure => simp [intOf]; omega
    · obtain rfl : k = l.length := by omega
      have hxs' : xs.map (·.1) = l := by
        have h := hxs.out
        rw [List.take_of_length_le (by simp [hxl.out]), List.take_of_length_le (Nat.le_refl _)] at h
        exact h
      have hres := hfu.lies (cap := l.length) (by rw [hxl.out]; exact Nat.le_refl _) (by unfold maxLen; omega)
      rw [hxs', hxl.out] at hres
      go_wp2_with fail
      go_ret
      exact ⟨_, rfl, hres, hb⟩

set_option maxRecDepth 20000 in
set_option maxHeartbeats 4000000 in
theorem copy_any (t : Tm) : ∀ (w : World) (s : Value), Lies w t.kids s → t.size ≤ 1000000 → Calls Try.prog 35 #[tv t s] w (Makes t w) := by
  induction t using Tm.ind with
  | h t ih =>
    intro w s hl hsz
    obtain ⟨a, cap, S, rfl, hc, hm, hf, hn, hk⟩ := hl.out
    rw [t.size_eq] at hsz
    have CP : ∀ (w' : World) (s' : Value), Lies w' t.kids s' → Calls Try.prog 66 #[s'] w' (MakesAll t.kids w') := fun w' s' h' => copies_of t.kids (fun x hx w2 s2 h2 => ih x hx w2 s2 h2 (by have := size_mem _ x hx; omega)) w' s' h' (by have := len_sizes t.kids; omega)
    unfold tv
    unfold maxLen at hm
    obtain ⟨du, hu1, hu2⟩ := under_term
    have HL := Lib.hid hl
    replace CP := Lib.hid CP
    have H0 := boxes_start w t (.slice a t.kids.length cap)
    clear ih hn hk hf hl
    go_enter Try.func35, Try.ntmps35
    go_wp2_with fail
    refine (CP.out _ _ (boxes_lies H0 HL.out)).mono ?_
    generalize (w.alloc (.cells #[.int .i64 t.k, .int .i64 t.i, .int .i64 t.j, .int .i64 t.n, .slice a t.kids.length cap] 32)).alloc (.cells #[.int .i64 0, .int .i64 0, .int .i64 0, .int .i64 0, .slice none 0 0] 32) = V at H0 ⊢
    rintro ee wn ⟨s2, rfl, hl2, hb2⟩
    obtain ⟨a2, cap2, rfl, -, -⟩ := hl2.out
    have hs := Below.size H0
    have hh := boxes_call H0 hb2
    have hl3 : LiesP wn (Own (w.heap.size + 2) wn) t.kids (.slice a2 t.kids.length cap2) := hl2.from (by simpa using hs)
    have hbx := boxes_block hh
    have hbo : wn.heap[w.heap.size]? = some (boxOf t (.slice a t.kids.length cap)) := by
      rw [Below.block hh _ (by omega), Below.heap_alloc _ _ _ (by simp)]; exact alloc_new _ _
    obtain ⟨x0, x1, x2, x3, x4, z0, z1, z2, z3, z4, f0, f1, f2, f3, f4⟩ := boxes_cells hh
    obtain ⟨q0, q1, q2, q3, q4⟩ := five_free hbo
    have HL3 := Lib.hid hl3
    have HBX : Hid ((wn.setCell ⟨w.heap.size, 4, none⟩ (.slice a2 t.kids.length cap2)).heap[w.heap.size + 1]? = some (.cells #[.int .i64 0, .int .i64 0, .int .i64 0, .int .i64 0, .slice none 0 0] 32 (0, 0))) := (Below.heap_setCell _ _ _ _ (by show w.heap.size + 1 ≠ w.heap.size; omega)).trans hbx
    have HBL := Lib.hid (held_below (boxes_held hh))
    clear hl2 hb2 hl3 hbx hbo hh hs H0
    go_wp2
    refine bodyPost_ret (results_cell_row rfl _ _ (w.heap.size + 1) _ _ _ du rfl (five_set HBX.out) hu1 (by cases du <;> first | rfl | exact hu2) size_term) rfl ?_
    refine ⟨_, rfl, ?_, ?_⟩
    · exact liesP_fives (liesP_set HL3.out (by omega) (Nat.le_refl _) _) (by omega) (by omega) _ _ _ _ _
    · exact below_five (HBL.out.setCell (Nat.le_refl _) _) (by omega) _ _ _ _ _
end Go.Proofs.Ytjlppnmckobcfaa

namespace Go.Proofs.Ytjlppnmckobcfaa
open Go.RowKit

theorem wpList_make_room {P : Program} (w : World) {ops : Array Oper} {rest : List Oper} {o : Oper} {a : Act} {Q : Exit → Act → World → Prop}
    (hg : o.guard = none) (l c : Operand) (t : TypeId) (hop : o.op = Op.makeSlice t l c)
    (e : TypeId) (i : TypeInfo) (z : Value) (size : Nat) (h1 : P.underlying t = some (.slice e)) (h2 : P.info? e = some i) (h3 : i.zero = some z) (h4 : i.size = size)
    (kl kc : IntKind) (L C : Int) (n m : Nat) (hl : a.eval l = .int kl L) (hc : a.eval c = .int kc C) (hL : L = (n : Int)) (hC : C = (m : Int)) (hnm : n ≤ m) (b2 : i.bytes * m ≤ 281474976710656) (b3 : m ≤ maxLen)
    (hK : wpList P ops Q rest (a.put o.dst (.slice (some ⟨w.heap.size, 0, none⟩) n m)) (w.alloc (.cells (madeCells z.cells (m * size)) e))) :
    wpList P ops Q (o :: rest) a w := by
  refine wpList_plain hg fun K hK' => ?_
  have h63' : (m : Int) ≤ 9223372036854775807 := by simp [maxLen] at b3; omega
  have hb' : (i.bytes : Int) * (m : Int) ≤ 281474976710656 := by
    have h : ((i.bytes * m : Nat) : Int) ≤ 281474976710656 := by omega
    rwa [Int.natCast_mul] at h
  have hrun := run_make (P := P) w t e i z h1 h2 h3 kl kc n m (by omega) (by omega) hb' h63'
  simp only [Int.toNat_natCast, h4] at hrun
  subst hL
  subst hC
  unfold Oper.wp
  simp [execOp, hop, hl, hc, hrun, Result.andThen]
  exact hK' _ _ hK

/-- A block of N cells of entries, open. -/
def SizeE (w : World) (g N : Nat) : Prop := ∃ cs, w.heap[g]? = some (.cells cs 52 (0, 0)) ∧ cs.size = N
theorem SizeE.later {w w' : World} {g N : Nat} (h : SizeE w g N) (hb : Below w.heap.size w w') : SizeE w' g N := by
  obtain ⟨cs, h1, h2⟩ := h
  exact ⟨cs, (hb.block g (Array.getElem?_eq_some_iff.1 h1).1).trans h1, h2⟩
theorem SizeE.put6 {w : World} {g N o : Nat} {t : En} {s : Value} (h : SizeE w g N) : SizeE (put6 w g o t s) g N := by
  obtain ⟨cs, h1, h2⟩ := h
  exact ⟨_, heap_setCell_same _ _ _ _ _ _ (put5_block _ _ _ h1), by simpa using h2⟩
theorem fullE_own {B g N n : Nat} {w : World} {xs : List (En × Value)} (h : FullE B w g xs) (hs : SizeE w g (N * 6)) (hn : n ≤ xs.length) (hnN : n ≤ N) (hN : N ≤ maxLen) :
    w.ownsRow B 52 6 (.slice (some ⟨g, 0, none⟩) n N) n (cells6 (xs.take n)) := by
  obtain ⟨cs, h1, h2⟩ := hs
  have hl : (xs.take n).length = n := by simp; omega
  refine ⟨by rw [cells6_length, hl], Or.inr ⟨g, N, cs, rfl, h.above, h1, hnN, hN, h2, ?_⟩⟩
  apply List.ext_getElem?
  intro j
  by_cases hj : j < n * 6
  · have h5 : j % 6 < 6 := Nat.mod_lt _ (by omega)
    have hd : j / 6 < n := by omega
    have e : j = j / 6 * 6 + j % 6 := by omega
    have h3 := cells6_get (xs.take n) (j / 6) (by omega) (j % 6) h5
    rw [← e] at h3
    rw [h3, List.getElem?_take_of_lt hj]
    have hc : cs.toList[j]? = w.cell? ⟨g, j, none⟩ := by rw [cell_of_row w g j cs _ _ h1]; simp
    have hnode := h.node (j / 6) (by omega)
    rw [hc]
    simp only [List.getElem_take]
    have hq : ∀ q, q = j % 6 → w.cell? ⟨g, j / 6 * 6 + q, none⟩ = w.cell? ⟨g, j, none⟩ := fun q hq => by rw [hq, ← e]
    generalize hqq : j % 6 = q at h5
    rw [← hq q hqq.symm]
    match q, h5 with
    | 0, _ => exact hnode.c0
    | 1, _ => exact hnode.c1
    | 2, _ => exact hnode.c2
    | 3, _ => exact hnode.c3
    | 4, _ => exact hnode.c4
    | 5, _ => exact hnode.c5
  · rw [List.getElem?_eq_none (by simp; omega), List.getElem?_eq_none (by rw [cells6_length, hl]; omega)]
theorem fullE_made' {B g N n : Nat} {w : World} {xs : List (En × Value)} (h : FullE B w g xs) (hs : SizeE w g (N * 6)) (hn : n ≤ xs.length) (hnN : n ≤ N) (hN : N ≤ maxLen) :
    MadeE B w (.slice (some ⟨g, 0, none⟩) n N) (xs.take n) := by
  have hl : (xs.take n).length = n := by simp; omega
  refine ⟨by rw [hl]; exact fullE_own h hs hn hnN hN, fun p hp => h.fine p (List.mem_of_mem_take hp), fun p hp => ?_⟩
  exact (h.kids p (List.mem_of_mem_take hp)).keep (fun _ _ _ => rfl) (fun b hb _ => ⟨hb.1, by simp only [Value.ownBlock, ne_eq, Option.some.injEq]; exact fun e => hb.2 e.symm⟩)
/-- What Entries hands back: a row of the call's own. -/
def GivesRow (l : List En) (w : World) (e : Ending) (w' : World) : Prop := ∃ (s' : Value) (ps : List (En × Value)), e = .returned s' ∧ MadeE w.heap.size w' s' ps ∧ ps.map (·.1) = l ∧ Below w.heap.size w w'
def en0 : Oper := { dst := some 19, op := Go.Op.move (Go.Operand.tmp 3), type := 22, pos := "tree.go:28", after := #[], guard := none }
def en1 : Oper := { dst := some 20, op := Go.Op.move (Go.Operand.tmp 4), type := 3, pos := "tree.go:28", after := #[], guard := none }
def en2 : Oper := { dst := some 21, op := Go.Op.fieldAddr 52 (Go.Operand.tmp 5) 0, type := 0, pos := "tree.go:28", after := #[], guard := none }
def en3 : Oper := { dst := some 22, op := Go.Op.load 32 (Go.Operand.tmp 21), type := 32, pos := "tree.go:28", after := #[{ on := 2, ground := Go.Ground.data }], guard := none }
def en4 : Oper := { dst := some 23, op := Go.Op.call { callee := Go.Callee.value (Go.Operand.func 35), args := #[Go.Operand.tmp 22], argTypes := #[32] }, type := 32, pos := "tree.go:28", after := #[{ on := 3, ground := Go.Ground.data }], guard := none }
def en5 : Oper := { dst := some 24, op := Go.Op.fieldAddr 52 (Go.Operand.tmp 5) 1, type := 0, pos := "tree.go:28", after := #[], guard := none }
def en6 : Oper := { dst := some 25, op := Go.Op.load 3 (Go.Operand.tmp 24), type := 3, pos := "tree.go:28", after := #[{ on := 5, ground := Go.Ground.data }], guard := none }
def en7 : Oper := { dst := some 26, op := Go.Op.build 52 #[(0, Go.Operand.tmp 23), (1, Go.Operand.tmp 25)], type := 52, pos := "tree.go:28", after := #[{ on := 4, ground := Go.Ground.data }, { on := 6, ground := Go.Ground.data }], guard := none }
def en8 : Oper := { dst := some 27, op := Go.Op.indexAddr 22 (Go.Operand.tmp 19) (Go.Operand.tmp 20), type := 0, pos := "tree.go:28", after := #[{ on := 0, ground := Go.Ground.data }, { on := 1, ground := Go.Ground.data }, { on := 0, ground := Go.Ground.phase }, { on := 1, ground := Go.Ground.phase }, { on := 2, ground := Go.Ground.phase }, { on := 3, ground := Go.Ground.phase }, { on := 4, ground := Go.Ground.phase }, { on := 5, ground := Go.Ground.phase }, { on := 6, ground := Go.Ground.phase }, { on := 7, ground := Go.Ground.phase }], guard := none }
def en9 : Oper := { dst := none, op := Go.Op.store 52 (Go.Operand.tmp 27) (Go.Operand.tmp 26), type := 0, pos := "tree.go:28", after := #[{ on := 8, ground := Go.Ground.data }, { on := 7, ground := Go.Ground.data }, { on := 4, ground := Go.Ground.chain }, { on := 0, ground := Go.Ground.phase }, { on := 1, ground := Go.Ground.phase }, { on := 2, ground := Go.Ground.phase }, { on := 3, ground := Go.Ground.phase }, { on := 4, ground := Go.Ground.phase }, { on := 5, ground := Go.Ground.phase }, { on := 6, ground := Go.Ground.phase }, { on := 7, ground := Go.Ground.phase }], guard := none }
theorem take_set_map2 {α β : Type} (f : β → α) {xs : List β} {l : List α} {k : Nat} (hx : k < xs.length) (hk : k < l.length) (h : (xs.map f).take k = l.take k) {y : β} (hy : f y = l[k]) : ((xs.set k y).map f).take (k + 1) = l.take (k + 1) := by
  have hk1 : k < (xs.set k y).length := by simp; omega
  rw [List.take_succ_eq_append_getElem (by simpa using hk1), List.take_succ_eq_append_getElem hk]
  congr 1
  · rw [← h]; apply List.ext_getElem?; intro i
    by_cases hi : i < k
    · simp [List.getElem?_take_of_lt hi, List.getElem?_set_ne (Nat.ne_of_gt hi)]
    · simp [List.getElem?_take, hi]
  · simp [hy]
set_option maxRecDepth 20000 in
set_option maxHeartbeats 4000000 in
theorem entries_any (l : List En) (w : World) (s : Value) (hl : LiesE w l s) (hlen : l.length ≤ 100000) (hsz : ∀ x ∈ l, x.a.size ≤ 1000000) : Calls Try.prog 24 #[s] w (GivesRow l w) := by
  obtain ⟨a, cap, S, rfl, hc, hmx, hf, hn, hk⟩ := hl.out
  unfold maxLen at hmx
  obtain ⟨i0, hi, hz0, hz1, hz2⟩ := info_parts info_entry
  have HI := Lib.hid (And.intro hi (And.intro hz0 (And.intro hz1 hz2)))
  have HN := Lib.hid hn
  have HK := Lib.hid hk
  have HF := Lib.hid hf
  have HSA := Lib.hid hsz
  clear hn hk hl hf hi hz0 hz1 hz2 hsz
  go_enter Try.func24, Try.ntmps24
  go_wp2_with (at_make; refine wpList_make_room _ rfl _ _ 22 rfl 52 i0 _ 6 (by kernel_rfl) HI.out.1 HI.out.2.1 HI.out.2.2.1 _ _ _ _ l.length (l.length + 1) rfl rfl rfl ?hC ?hnm ?bytes ?max ?next)
  case hC => simp
  case hnm => omega
  case bytes => rw [HI.out.2.2.2]; omega
  case max => unfold maxLen; omega
  have hown := World.ownsRow_lit w (madeCells #[Value.int .i64 0, .int .i64 0, .int .i64 0, .int .i64 0, .slice none 0 0, .int .i64 0] ((l.length + 1) * 6)) (e := 52) (size := 6) (l.length + 1) (Nat.le_refl w.heap.size) (by unfold maxLen; omega) (size_madeCells _ _)
  have hblk := alloc_new w (.cells (madeCells #[Value.int .i64 0, .int .i64 0, .int .i64 0, .int .i64 0, .slice none 0 0, .int .i64 0] ((l.length + 1) * 6)) 52)
  have hbel : Below w.heap.size w (w.alloc (.cells (madeCells #[Value.int .i64 0, .int .i64 0, .int .i64 0, .int .i64 0, .slice none 0 0, .int .i64 0] ((l.length + 1) * 6)) 52)) := (Below.refl _ _).alloc (Nat.le_refl _) _
  have hful := fullE_made hown
  have hsz2 : SizeE (w.alloc (.cells (madeCells #[Value.int .i64 0, .int .i64 0, .int .i64 0, .int .i64 0, .slice none 0 0, .int .i64 0] ((l.length + 1) * 6)) 52)) w.heap.size ((l.length + 1) * 6) := ⟨_, hblk, size_madeCells _ _⟩
  clear hown hblk
  have HGE := Lib.hid (Nat.le_refl w.heap.size)
  generalize w.alloc (.cells (madeCells #[Value.int .i64 0, .int .i64 0, .int .i64 0, .int .i64 0, .slice none 0 0, .int .i64 0] ((l.length + 1) * 6)) 52) = w2 at hbel hful hsz2 ⊢
  go_loopw [14] (fun iv wr => ∃ (k : Nat) (xs : List (En × Value)), k ≤ l.length ∧ iv = .int .i64 k ∧ Hid (xs.length = l.length + 1) ∧ Hid ((xs.map (·.1)).take k = l.take k) ∧ FullE w.heap.size wr w.heap.size xs ∧ SizeE wr w.heap.size ((l.length + 1) * 6) ∧ Below w.heap.size w wr) (fun iv _ => l.length - (intOf iv).toNat)
  case atStart => exact ⟨0, _, Nat.zero_le _, rfl, List.length_replicate, rfl, hful, hsz2, hbel⟩
  case round =>
    clear hful hbel hsz2
    obtain ⟨k, xs, hk, rfl, hxl, hxs, hfu, hse, hb⟩ := hrel
    by_cases hlt : k < l.length
    · obtain ⟨b, o, rfl, hx⟩ := HN.out k hlt
      have hx := hx.below hb hx.lt
      have hq := HK.out k hlt
      obtain ⟨a', cap', S', hS, -⟩ := hq.out
      rw [hS] at hx hq
      have HQ := Lib.hid hq
      have HXK := Lib.hid (show k < xs.length by have := hxl.out; omega)
      have HM := Lib.hid (List.getElem_mem hlt)
      have HSZ := Lib.hid (HSA.out _ HM.out)
      obtain ⟨x0, x1, x2, x3, x4, x5⟩ := hx
      have hglt : w.heap.size < wr.heap.size := hfu.lt
      clear hS hq
      go_upto_region 5 with fail
      have hX := bnode_new wr l[k] (.slice a' l[k].a.kids.length cap')
      have hkV : Kept w (wr.alloc (.cells #[.int .i64 l[k].a.k, .int .i64 l[k].a.i, .int .i64 l[k].a.j, .int .i64 l[k].a.n, (.slice a' l[k].a.kids.length cap'), .int .i64 l[k].i] 52)) := Below.alloc hb hb.size _
      have hfV := hfu.later (w' := wr.alloc (.cells #[.int .i64 l[k].a.k, .int .i64 l[k].a.i, .int .i64 l[k].a.j, .int .i64 l[k].a.n, (.slice a' l[k].a.kids.length cap'), .int .i64 l[k].i] 52)) ((Below.refl _ _).alloc (Nat.le_refl _) _)
      have hsV := hse.later (w' := wr.alloc (.cells #[.int .i64 l[k].a.k, .int .i64 l[k].a.i, .int .i64 l[k].a.j, .int .i64 l[k].a.n, (.slice a' l[k].a.kids.length cap'), .int .i64 l[k].i] 52)) ((Below.refl _ _).alloc (Nat.le_refl _) _)
      obtain ⟨ge, hge⟩ : ∃ ge, wr.heap.size = ge := ⟨_, rfl⟩
      have HNE := Lib.hid (show ge ≠ w.heap.size by omega)
      rw [hge] at hX ⊢
      clear x0 x1 x2 x3 x4 x5 hb hfu hse hge hglt
      generalize wr.alloc (.cells #[.int .i64 l[k].a.k, .int .i64 l[k].a.i, .int .i64 l[k].a.j, .int .i64 l[k].a.n, (.slice a' l[k].a.kids.length cap'), .int .i64 l[k].i] 52) = V at hX hkV hfV hsV ⊢
      have hS0 : Kept w V ∧ BNode V ge l[k] (.slice a' l[k].a.kids.length cap') := ⟨hkV, hX⟩
      have hfx : FullE w.heap.size V.drew w.heap.size xs := hfV.later (Below.drew (Below.refl _ _))
      have hsx : SizeE V.drew w.heap.size ((l.length + 1) * 6) := hsV.later (Below.drew (Below.refl _ _))
      have hwx : w.heap.size ≤ V.drew.heap.size := hkV.size
      obtain ⟨x0, x1, x2, x3, x4, x5⟩ := hX
      refine wp_region_held_drew (S := fun w' => Kept w w' ∧ w'.cell? ⟨ge, 0, none⟩ = some (.int .i64 l[k].a.k) ∧ w'.cell? ⟨ge, 1, none⟩ = some (.int .i64 l[k].a.i) ∧ w'.cell? ⟨ge, 2, none⟩ = some (.int .i64 l[k].a.j) ∧ w'.cell? ⟨ge, 3, none⟩ = some (.int .i64 l[k].a.n) ∧ w'.cell? ⟨ge, 4, none⟩ = some ((.slice a' l[k].a.kids.length cap')) ∧ w'.cell? ⟨ge, 5, none⟩ = some (.int .i64 l[k].i)) (by kernel_rfl) ?_ (fun hHeld => ?_)
      · (try dsimp only)
        (first | exact hS7 | exact hS4 | exact bn_drew hS0)
      generalize V.drew = wx at hHeld hfx hsx hwx ⊢
      have HFU := Lib.hid hfx
      have HSE := Lib.hid hsx
      have HWX := Lib.hid hwx
      clear hkV hfV hsV hS0 x0 x1 x2 x3 x4 x5 hfx hsx hwx
      refine take_at 0 19 en0 (v := ?_) (Or.inl ⟨by rfl, ?_⟩) ?_
      rotate_left 1
      · ((intro w hSw; (try dsimp only at hSw); unfold en0; go_simp) <;> with_reducible rfl)
      (try simp only [Act.put, List.setIfInBounds_toArray, List.set_cons_zero, List.set_cons_succ])
      refine take_at 1 20 en1 (v := ?_) (Or.inl ⟨by rfl, ?_⟩) ?_
      rotate_left 1
      · ((intro w hSw; (try dsimp only at hSw); unfold en1; go_simp) <;> with_reducible rfl)
      (try simp only [Act.put, List.setIfInBounds_toArray, List.set_cons_zero, List.set_cons_succ])
      refine take_at 2 21 en2 (v := ?_) (Or.inl ⟨by rfl, ?_⟩) ?_
      rotate_left 1
      · ((intro w hSw; (try dsimp only at hSw); unfold en2; go_simp) <;> with_reducible rfl)
      (try simp only [Act.put, List.setIfInBounds_toArray, List.set_cons_zero, List.set_cons_succ])
      refine take_at 3 22 en3 (v := ?_) (Or.inl ⟨by rfl, ?_⟩) ?_
      rotate_left 1
      · ((intro w hSw; (try dsimp only at hSw); unfold en3; go_simp) <;> with_reducible rfl)
      (try simp only [Act.put, List.setIfInBounds_toArray, List.set_cons_zero, List.set_cons_succ])
      refine take_at 5 24 en5 (v := ?_) (Or.inl ⟨by rfl, ?_⟩) ?_
      rotate_left 1
      · ((intro w hSw; (try dsimp only at hSw); unfold en5; go_simp) <;> with_reducible rfl)
      (try simp only [Act.put, List.setIfInBounds_toArray, List.set_cons_zero, List.set_cons_succ])
      refine take_at 6 25 en6 (v := ?_) (Or.inl ⟨by rfl, ?_⟩) ?_
      rotate_left 1
      · ((intro w hSw; (try dsimp only at hSw); unfold en6; go_simp) <;> with_reducible rfl)
      (try simp only [Act.put, List.setIfInBounds_toArray, List.set_cons_zero, List.set_cons_succ])
      refine wpAnyH_ready (rs := [4]) (by kernel_rfl) (by simp) ?_
      refine AllReadyH.cons (o := en4) rfl (fun K hK => ?_) ?_
      · unfold en4
        go_simp
        (go_at_call 35; (with_reducible refine Calls.mono (copy_any l[k].a _ _ (kept_lies hHeld.1 HQ.out) HSZ.out) ?_); rintro ee wn ⟨s2, rfl, hl2, hbn⟩; obtain ⟨a2, cap2, rfl, -, -⟩ := hl2.out; have hS4 := bn_call hHeld hbn; have hfn := HFU.out.later hbn; have HSN := Lib.hid (HSE.out.later hbn); have HL2 := Lib.hid (HFU.out.fresh HWX.out hl2); clear hbn hl2 hHeld; obtain ⟨z0, z1, z2, z3, z4, z5⟩ := hfn.node k HXK.out; obtain ⟨cs, hcs⟩ := hfn.open'; obtain ⟨r0, r1, r2, r3, r4, r5⟩ := open_free hcs (k * 6); have HFN := Lib.hid hfn; clear hfn hcs)
        refine hK.out _ _ ?_ (fun hHeld => ?_)
        · (try dsimp only)
          (first | exact hS7 | exact hS4 | exact bn_drew hS0)
        clear hK K
        (try simp only [Act.put, List.setIfInBounds_toArray, List.set_cons_zero, List.set_cons_succ])
        refine take_at 7 26 en7 (v := ?_) (Or.inl ⟨by rfl, ?_⟩) ?_
        rotate_left 1
        · ((intro w hSw; (try dsimp only at hSw); unfold en7; go_simp) <;> with_reducible rfl)
        (try simp only [Act.put, List.setIfInBounds_toArray, List.set_cons_zero, List.set_cons_succ])
        refine take_at 8 27 en8 (v := ?_) (Or.inl ⟨by rfl, ?_⟩) ?_
        rotate_left 1
        · ((intro w hSw; (try dsimp only at hSw); unfold en8; go_simp) <;> with_reducible rfl)
        (try simp only [Act.put, List.setIfInBounds_toArray, List.set_cons_zero, List.set_cons_succ])
        refine wpAnyH_ready (rs := [9]) (by kernel_rfl) (by simp) ?_
        refine AllReadyH.cons (o := en9) rfl (fun K hK => ?_) ?_
        · unfold en9
          go_simp
          have hS7 := bn_put6 (o := k * 6) (t := l[k]) (st := .slice a2 l[k].a.kids.length cap2) hHeld HGE.out HNE.out
          (try clear hHeld)
          refine hK.out _ _ ?_ (fun hHeld => ?_)
          · (try dsimp only)
            (first | exact hS7 | exact hS4 | exact bn_drew hS0)
          clear hK K
          (try simp only [Act.put, List.setIfInBounds_toArray, List.set_cons_zero, List.set_cons_succ])
          refine wpAnyH_done (by kernel_rfl) ?_ _
          clear z0 z1 z2 z3 z4 z5 r0 r1 r2 r3 r4 r5
          have hFN := HFN.out.fill HXK.out (HF.out _ HM.out) HL2.out
          have hSN := HSN.out.put6 (o := k * 6) (t := l[k]) (s := .slice a2 l[k].a.kids.length cap2)
          have hkE := hHeld.1
          clear hHeld
          go_wp2_with fail
          go_roundw
          case rel => exact ⟨k + 1, xs.set k (l[k], .slice a2 l[k].a.kids.length cap2), by omega, by go_num, by show _ = _; rw [List.length_set]; exact hxl.out, take_set_map2 _ HXK.out hlt hxs.out rfl, hFN, hSN, hkE⟩
          case measure => simp [intOf]; omega
        exact AllReadyH.nil
      exact AllReadyH.nil
    · obtain rfl : k = l.length := by omega
      have hxs' : (xs.take l.length).map (·.1) = l := by
        have h := hxs.out
        rw [← List.map_take, List.take_of_length_le (Nat.le_refl l.length)] at h
        exact h
      have hres := fullE_made' (n := l.length) (N := l.length + 1) hfu hse (by have := hxl.out; omega) (by omega) (by unfold maxLen; omega)
      go_wp2_with fail
      go_ret
      exact ⟨_, _, rfl, hres, hxs', hb⟩

def ad0 : Oper := { dst := some 7, op := Go.Op.move (Go.Operand.tmp 0), type := 22, pos := "ctx.go:34", after := #[], guard := none }
def ad1 : Oper := { dst := some 8, op := Go.Op.call { callee := Go.Callee.value (Go.Operand.func 24), args := #[Go.Operand.tmp 7], argTypes := #[22] }, type := 22, pos := "ctx.go:34", after := #[{ on := 0, ground := Go.Ground.data }], guard := none }
def ad2 : Oper := { dst := some 9, op := Go.Op.load 32 (Go.Operand.tmp 4), type := 32, pos := "ctx.go:34", after := #[], guard := none }
def ad3 : Oper := { dst := some 10, op := Go.Op.call { callee := Go.Callee.value (Go.Operand.func 35), args := #[Go.Operand.tmp 9], argTypes := #[32] }, type := 32, pos := "ctx.go:34", after := #[{ on := 2, ground := Go.Ground.data }, { on := 1, ground := Go.Ground.chain }], guard := none }
def ad4 : Oper := { dst := some 11, op := Go.Op.move (Go.Operand.tmp 2), type := 3, pos := "ctx.go:34", after := #[], guard := none }
def ad5 : Oper := { dst := some 12, op := Go.Op.build 52 #[(0, Go.Operand.tmp 10), (1, Go.Operand.tmp 11)], type := 52, pos := "ctx.go:34", after := #[{ on := 3, ground := Go.Ground.data }, { on := 4, ground := Go.Ground.data }], guard := none }
def ad6 : Oper := { dst := some 13, op := Go.Op.buildSlice 22 1 #[(0, Go.Operand.tmp 12)], type := 22, pos := "ctx.go:34", after := #[{ on := 5, ground := Go.Ground.data }], guard := none }
def ad7 : Oper := { dst := some 14, op := Go.Op.call { callee := Go.Callee.builtin Go.Builtin.append, args := #[Go.Operand.tmp 8, Go.Operand.tmp 13], argTypes := #[22, 22] }, type := 22, pos := "ctx.go:34", after := #[{ on := 1, ground := Go.Ground.data }, { on := 6, ground := Go.Ground.data }, { on := 3, ground := Go.Ground.chain }], guard := none }
def ad8 : Oper := { dst := some 6, op := Go.Op.assign (Go.Operand.tmp 14), type := 22, pos := "ctx.go:34", after := #[{ on := 7, ground := Go.Ground.data }, { on := 7, ground := Go.Ground.chain }, { on := 0, ground := Go.Ground.phase }, { on := 1, ground := Go.Ground.phase }, { on := 2, ground := Go.Ground.phase }, { on := 3, ground := Go.Ground.phase }, { on := 4, ground := Go.Ground.phase }, { on := 5, ground := Go.Ground.phase }, { on := 6, ground := Go.Ground.phase }, { on := 7, ground := Go.Ground.phase }], guard := none }
theorem b5_call {w w' wn : World} {g : Nat} {t : Tm} {s : Value} (h : Kept w w' ∧ w'.cell? ⟨g, 0, none⟩ = some (.int .i64 t.k) ∧ w'.cell? ⟨g, 1, none⟩ = some (.int .i64 t.i) ∧ w'.cell? ⟨g, 2, none⟩ = some (.int .i64 t.j) ∧ w'.cell? ⟨g, 3, none⟩ = some (.int .i64 t.n) ∧ w'.cell? ⟨g, 4, none⟩ = some (s)) (hb : Below w'.heap.size w' wn) : Kept w wn ∧ wn.cell? ⟨g, 0, none⟩ = some (.int .i64 t.k) ∧ wn.cell? ⟨g, 1, none⟩ = some (.int .i64 t.i) ∧ wn.cell? ⟨g, 2, none⟩ = some (.int .i64 t.j) ∧ wn.cell? ⟨g, 3, none⟩ = some (.int .i64 t.n) ∧ wn.cell? ⟨g, 4, none⟩ = some (s) := ⟨kept_call h.1 hb, cell_lat hb h.2.1, cell_lat hb h.2.2.1, cell_lat hb h.2.2.2.1, cell_lat hb h.2.2.2.2.1, cell_lat hb h.2.2.2.2.2⟩
theorem b5_drew {w w' : World} {g : Nat} {t : Tm} {s : Value} (h : Kept w w' ∧ w'.cell? ⟨g, 0, none⟩ = some (.int .i64 t.k) ∧ w'.cell? ⟨g, 1, none⟩ = some (.int .i64 t.i) ∧ w'.cell? ⟨g, 2, none⟩ = some (.int .i64 t.j) ∧ w'.cell? ⟨g, 3, none⟩ = some (.int .i64 t.n) ∧ w'.cell? ⟨g, 4, none⟩ = some (s)) : Kept w w'.drew ∧ w'.drew.cell? ⟨g, 0, none⟩ = some (.int .i64 t.k) ∧ w'.drew.cell? ⟨g, 1, none⟩ = some (.int .i64 t.i) ∧ w'.drew.cell? ⟨g, 2, none⟩ = some (.int .i64 t.j) ∧ w'.drew.cell? ⟨g, 3, none⟩ = some (.int .i64 t.n) ∧ w'.drew.cell? ⟨g, 4, none⟩ = some (s) := ⟨kept_drew h.1, h.2⟩
theorem b5_grow {w w' w4 : World} {g : Nat} {t : Tm} {s : Value} {row : Option Nat} (h : Kept w w' ∧ w'.cell? ⟨g, 0, none⟩ = some (.int .i64 t.k) ∧ w'.cell? ⟨g, 1, none⟩ = some (.int .i64 t.i) ∧ w'.cell? ⟨g, 2, none⟩ = some (.int .i64 t.j) ∧ w'.cell? ⟨g, 3, none⟩ = some (.int .i64 t.n) ∧ w'.cell? ⟨g, 4, none⟩ = some (s)) (hg : w'.grownBy w4 row) (hr : ∀ k, row = some k → w.heap.size ≤ k) (hne : row ≠ some g) : Kept w w4 ∧ w4.cell? ⟨g, 0, none⟩ = some (.int .i64 t.k) ∧ w4.cell? ⟨g, 1, none⟩ = some (.int .i64 t.i) ∧ w4.cell? ⟨g, 2, none⟩ = some (.int .i64 t.j) ∧ w4.cell? ⟨g, 3, none⟩ = some (.int .i64 t.n) ∧ w4.cell? ⟨g, 4, none⟩ = some (s) := by
  have hlt : g < w'.heap.size := World.block_lt_of_cell? _ _ h.2.1
  have hb := hg.block g hlt (fun e => hne e.symm)
  have hc : ∀ q, w4.cell? ⟨g, q, none⟩ = w'.cell? ⟨g, q, none⟩ := fun q => World.cell?_of_block (a := ⟨g, q, none⟩) hb
  obtain ⟨hw, x0, x1, x2, x3, x4⟩ := h
  exact ⟨Below.grown hw hg (Below.size hw) hr, (hc _).trans x0, (hc _).trans x1, (hc _).trans x2, (hc _).trans x3, (hc _).trans x4⟩
set_option maxRecDepth 20000 in
set_option maxHeartbeats 4000000 in
theorem ctxadd_any (l : List En) (t : Tm) (i : Int) (w : World) (s st : Value) (hl : LiesE w l s) (ht : Lies w t.kids st) (hft : (⟨t, i⟩ : En).fine) (hlen : l.length ≤ 100000) (hsz : ∀ x ∈ l, x.a.size ≤ 1000000) (hst : t.size ≤ 1000000) : Calls Try.prog 27 #[s, tv t st, .int .i64 i] w (MakesE (l ++ [⟨t, i⟩]) w) := by
  obtain ⟨a, cap, S, rfl, -⟩ := hl.out
  obtain ⟨a2, cap2, S2, rfl, -⟩ := ht.out
  obtain ⟨i0, hi, hz0, hz1, hz2⟩ := info_parts info_entry
  have HI := Lib.hid (And.intro hi (And.intro hz0 (And.intro hz1 hz2)))
  have HL := Lib.hid hl
  have HT := Lib.hid ht
  have HFT := Lib.hid hft
  have HLE := Lib.hid hlen
  have HSA := Lib.hid hsz
  have HST := Lib.hid hst
  have HPL : ∀ ps : List (En × Value), ps.map (·.1) = l → ps.length ≤ 100000 := fun ps h => by have := congrArg List.length h; simp at this; omega
  have HPL := Lib.hid HPL
  unfold tv
  have hX : (w.alloc (.cells #[.int .i64 t.k, .int .i64 t.i, .int .i64 t.j, .int .i64 t.n, (.slice a2 t.kids.length cap2)] 32)).cell? ⟨w.heap.size, 0, none⟩ = some (.int .i64 t.k) ∧ (w.alloc (.cells #[.int .i64 t.k, .int .i64 t.i, .int .i64 t.j, .int .i64 t.n, (.slice a2 t.kids.length cap2)] 32)).cell? ⟨w.heap.size, 1, none⟩ = some (.int .i64 t.i) ∧ (w.alloc (.cells #[.int .i64 t.k, .int .i64 t.i, .int .i64 t.j, .int .i64 t.n, (.slice a2 t.kids.length cap2)] 32)).cell? ⟨w.heap.size, 2, none⟩ = some (.int .i64 t.j) ∧ (w.alloc (.cells #[.int .i64 t.k, .int .i64 t.i, .int .i64 t.j, .int .i64 t.n, (.slice a2 t.kids.length cap2)] 32)).cell? ⟨w.heap.size, 3, none⟩ = some (.int .i64 t.n) ∧ (w.alloc (.cells #[.int .i64 t.k, .int .i64 t.i, .int .i64 t.j, .int .i64 t.n, (.slice a2 t.kids.length cap2)] 32)).cell? ⟨w.heap.size, 4, none⟩ = some ((.slice a2 t.kids.length cap2)) := held_cells (held_start w t (.slice a2 t.kids.length cap2))
  have hkV : Kept w (w.alloc (.cells #[.int .i64 t.k, .int .i64 t.i, .int .i64 t.j, .int .i64 t.n, (.slice a2 t.kids.length cap2)] 32)) := kept_alloc (kept_start w) _
  have hwV : w.heap.size < (w.alloc (.cells #[.int .i64 t.k, .int .i64 t.i, .int .i64 t.j, .int .i64 t.n, (.slice a2 t.kids.length cap2)] 32)).heap.size := by simp
  clear hi hz0 hz1 hz2 hl ht hft hsz hst
  go_enter Try.func27, Try.ntmps27
  go_upto_region 1 with fail
  generalize w.alloc (.cells #[.int .i64 t.k, .int .i64 t.i, .int .i64 t.j, .int .i64 t.n, (.slice a2 t.kids.length cap2)] 32) = V at hX hkV hwV ⊢
  have hS0 : Kept w V ∧ V.cell? ⟨w.heap.size, 0, none⟩ = some (.int .i64 t.k) ∧ V.cell? ⟨w.heap.size, 1, none⟩ = some (.int .i64 t.i) ∧ V.cell? ⟨w.heap.size, 2, none⟩ = some (.int .i64 t.j) ∧ V.cell? ⟨w.heap.size, 3, none⟩ = some (.int .i64 t.n) ∧ V.cell? ⟨w.heap.size, 4, none⟩ = some ((.slice a2 t.kids.length cap2)) := ⟨hkV, hX⟩
  have hwx : w.heap.size ≤ V.drew.heap.size := Nat.le_of_lt hwV
  have hwy : w.heap.size < V.drew.heap.size := hwV
  refine wp_region_held_drew (S := fun w' => Kept w w' ∧ w'.cell? ⟨w.heap.size, 0, none⟩ = some (.int .i64 t.k) ∧ w'.cell? ⟨w.heap.size, 1, none⟩ = some (.int .i64 t.i) ∧ w'.cell? ⟨w.heap.size, 2, none⟩ = some (.int .i64 t.j) ∧ w'.cell? ⟨w.heap.size, 3, none⟩ = some (.int .i64 t.n) ∧ w'.cell? ⟨w.heap.size, 4, none⟩ = some ((.slice a2 t.kids.length cap2))) (by kernel_rfl) ?_ (fun hHeld => ?_)
  · (try dsimp only)
    (first | exact hS7 | exact hS6 | exact hS3 | exact hS1 | exact b5_drew hS0)
  generalize V.drew = wx at hHeld hwx hwy ⊢
  have HWX := Lib.hid hwx
  have HWY := Lib.hid hwy
  clear hS0 hX hkV hwV hwx hwy
  refine take_at 0 7 ad0 (v := ?_) (Or.inl ⟨by rfl, ?_⟩) ?_
  rotate_left 1
  · ((intro w hSw; (try dsimp only at hSw); unfold ad0; go_simp) <;> with_reducible rfl)
  (try simp only [Act.put, List.setIfInBounds_toArray, List.set_cons_zero, List.set_cons_succ])
  refine take_at 2 9 ad2 (v := ?_) (Or.inl ⟨by rfl, ?_⟩) ?_
  rotate_left 1
  · ((intro w hSw; (try dsimp only at hSw); unfold ad2; go_simp) <;> with_reducible rfl)
  (try simp only [Act.put, List.setIfInBounds_toArray, List.set_cons_zero, List.set_cons_succ])
  refine take_at 4 11 ad4 (v := ?_) (Or.inl ⟨by rfl, ?_⟩) ?_
  rotate_left 1
  · ((intro w hSw; (try dsimp only at hSw); unfold ad4; go_simp) <;> with_reducible rfl)
  (try simp only [Act.put, List.setIfInBounds_toArray, List.set_cons_zero, List.set_cons_succ])
  refine wpAnyH_ready (rs := [1]) (by kernel_rfl) (by simp) ?_
  refine AllReadyH.cons (o := ad1) rfl (fun K hK => ?_) ?_
  · unfold ad1
    go_simp
    (go_at_call 24; (with_reducible refine Calls.mono (entries_any l _ _ (HL.out.keep (kept_below hHeld.1)) HLE.out HSA.out) ?_); rintro ee w1 ⟨s1, ps, rfl, hm1, hps, hb1⟩; have hS1 := b5_call hHeld hb1; have HM1 := Lib.hid hm1; have HPS := Lib.hid hps; have HB1 := Lib.hid hb1; clear hm1 hps hb1 hHeld)
    refine hK.out _ _ ?_ (fun hHeld => ?_)
    · (try dsimp only)
      (first | exact hS7 | exact hS6 | exact hS3 | exact hS1 | exact b5_drew hS0)
    clear hK K
    (try simp only [Act.put, List.setIfInBounds_toArray, List.set_cons_zero, List.set_cons_succ])
    refine wpAnyH_ready (rs := [3]) (by kernel_rfl) (by simp) ?_
    refine AllReadyH.cons (o := ad3) rfl (fun K hK => ?_) ?_
    · unfold ad3
      go_simp
      (go_at_call 35; (with_reducible refine Calls.mono (copy_any t _ _ (HT.out.keep (kept_below hHeld.1)) HST.out) ?_); rintro ee w2 ⟨s2, rfl, hl2, hb2⟩; obtain ⟨a3, cap3, rfl, -, -⟩ := hl2.out; have hS3 := b5_call hHeld hb2; have HL2 := Lib.hid hl2; have HB2 := Lib.hid hb2; clear hl2 hb2 hHeld)
      refine hK.out _ _ ?_ (fun hHeld => ?_)
      · (try dsimp only)
        (first | exact hS7 | exact hS6 | exact hS3 | exact hS1 | exact b5_drew hS0)
      clear hK K
      (try simp only [Act.put, List.setIfInBounds_toArray, List.set_cons_zero, List.set_cons_succ])
      refine take_at 5 12 ad5 (v := ?_) (Or.inl ⟨by rfl, ?_⟩) ?_
      rotate_left 1
      · ((intro w hSw; (try dsimp only at hSw); unfold ad5; go_simp) <;> with_reducible rfl)
      (try simp only [Act.put, List.setIfInBounds_toArray, List.set_cons_zero, List.set_cons_succ])
      refine wpAnyH_ready (rs := [6]) (by kernel_rfl) (by simp) ?_
      refine AllReadyH.cons (o := ad6) rfl (fun K hK => ?_) ?_
      · unfold ad6
        go_simp
        have hS6 := b5_call hHeld ((Below.refl _ _).alloc (Nat.le_refl _) (.cells #[.int .i64 t.k, .int .i64 t.i, .int .i64 t.j, .int .i64 t.n, .slice a3 t.kids.length cap3, .int .i64 i] 52) : Below w2.heap.size w2 (w2.alloc (.cells #[.int .i64 t.k, .int .i64 t.i, .int .i64 t.j, .int .i64 t.n, .slice a3 t.kids.length cap3, .int .i64 i] 52)))
        (try clear hHeld)
        refine hK.out _ _ ?_ (fun hHeld => ?_)
        · (try dsimp only)
          (first | exact hS7 | exact hS6 | exact hS3 | exact hS1 | exact b5_drew hS0)
        clear hK K
        (try simp only [Act.put, List.setIfInBounds_toArray, List.set_cons_zero, List.set_cons_succ])
        refine wpAnyH_ready (rs := [7]) (by kernel_rfl) (by simp) ?_
        refine AllReadyH.cons (o := ad7) rfl (fun K hK => ?_) ?_
        · unfold ad7
          refine step_append_lies _ rfl _ _ 22 rfl wx.heap.size 52 i0 _ 6 64 (by kernel_rfl) HI.out.1 HI.out.2.1 HI.out.2.2.1 HI.out.2.2.2 rfl (by decide) s1 ps.length (cells6 ps) rfl (madeE_later (madeE_later HM1.out HB2.out) ((Below.refl _ _).alloc (Nat.le_refl _) _)).own ⟨w2.heap.size, 0, none⟩ 1 1 (cells6 [((⟨t, i⟩ : En), .slice a3 t.kids.length cap3)]) rfl rfl (newsE _ (⟨t, i⟩ : En) _ _) (oneE _ _) (by decide) (by have := HPL.out ps HPS.out; unfold maxLen; omega) (by have := HPL.out ps HPS.out; omega) (by have := HB1.out.size; have := HB2.out.size; simp; omega) _ rfl ?_
          intro g cap4 w3 hown hgrow hat hlt3
          have hS7 := b5_grow hHeld hgrow (fun k h => Nat.le_trans HWX.out (madeE_above HM1.out k h)) (fun e => by have := madeE_above HM1.out _ e; have := HWY.out; omega)
          clear hHeld
          refine hK.out _ _ ?_ (fun hHeld => ?_)
          · (try dsimp only)
            (first | exact hS7 | exact hS6 | exact hS3 | exact hS1 | exact b5_drew hS0)
          clear hK K
          (try simp only [Act.put, List.setIfInBounds_toArray, List.set_cons_zero, List.set_cons_succ])
          refine take_at 8 6 ad8 (v := ?_) (Or.inl ⟨by rfl, ?_⟩) ?_
          rotate_left 1
          · ((intro w hSw; (try dsimp only at hSw); unfold ad8; go_simp) <;> with_reducible rfl)
          (try simp only [Act.put, List.setIfInBounds_toArray, List.set_cons_zero, List.set_cons_succ])
          refine wpAnyH_done (by kernel_rfl) ?_ _
          have hkE := hHeld.1
          clear hHeld
          have hat' : s1.ownBlock = some g ∨ g = w2.heap.size + 1 := by simpa using hat
          have hMN := madeE_push HM1.out (show (⟨t, i⟩ : En).fine from HFT.out) HB1.out.size HB2.out HL2.out _ hown hgrow hat'
          have hres := (madeE_lies hMN).from HWX.out
          rw [List.map_append, HPS.out] at hres
          go_wp2_with fail
          go_ret
          exact ⟨_, rfl, hres, hkE⟩
        exact AllReadyH.nil
      exact AllReadyH.nil
    exact AllReadyH.nil
  exact AllReadyH.nil

end Go.Proofs.Ytjlppnmckobcfaa
