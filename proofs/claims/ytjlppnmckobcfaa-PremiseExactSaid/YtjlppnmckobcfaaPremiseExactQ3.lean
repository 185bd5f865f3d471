/-
  Facts and contracts that the proof of PremiseExact uses.
-/
import Derived.Test.YtjlppnmckobcfaaRows
import Derived.WalkKit
import Derived.Lib.Hide
import Derived.KernelRfl
import Derived.Deep.RegionWith
import Derived.Deep.RegionHeld3
import Derived.Deep.AppendLies
import Derived.Laws.Rows
import Derived.Laws.IdiomCopy
import Derived.Deep.Slices
import Derived.Deep.QuietTactic
import Derived.BigQuiet
import Derived.Lib.QuietBelow
import Derived.StillTailTactics
import Derived.IntWalk
import Derived.OwnWalk
import Derived.OrdersHeld
import Derived.Deep.DeepCutAuto
import Derived.Deep.RegionLaw
import Derived.Deep.LoopGhost
import Derived.Deep.MidRow
import Derived.Laws.Tables
import Derived.Laws.CopyOwn
import Derived.Laws.CopyRow
import Derived.Deep.RegionHeld
import Derived.ProofKit
import Derived.OpenShut
import Derived.Carry
import Derived.ChangeSlices
import Derived.JoinedOf
import Derived.Test.YtjlppnmckobcfaaPremiseExactQ2
namespace Go.Proofs.Ytjlppnmckobcfaa
open Go.RowKit

def lvB (n : Int) : Bool := decide (0 ≤ n) && decide (n ≤ 1000)
theorem level11_any (n : Int) (w : World) : Calls Try.prog 49 #[.int .i64 n] w fun e w' => e = .returned (.bool (lvB n)) ∧ w = w' := by
  by_cases h0 : 0 ≤ n
  · have e0 : decide (0 ≤ n) = true := decide_eq_true h0
    by_cases h1 : n ≤ 1000
    · have e1 : decide (n ≤ 1000) = true := decide_eq_true h1
      go_enter Try.func49, Try.ntmps49
      go_wp2
      go_ret
      exact ⟨ret_bool (by unfold lvB; rw [e0, e1]; rfl), rfl⟩
    · have e1 : decide (n ≤ 1000) = false := decide_eq_false h1
      go_enter Try.func49, Try.ntmps49
      go_wp2
      go_ret
      exact ⟨ret_bool (by unfold lvB; rw [e0, e1]; rfl), rfl⟩
  · have e0 : decide (0 ≤ n) = false := decide_eq_false h0
    go_enter Try.func49, Try.ntmps49
    go_wp2
    go_ret
    exact ⟨ret_bool (by unfold lvB; rw [e0]; rfl), rfl⟩

set_option maxRecDepth 20000 in
set_option maxHeartbeats 2000000 in
theorem ctxright_any (l : List En) (w : World) (s : Value) (hl : LiesE w l s) : Calls Try.prog 43 #[s] w fun e w' => e = .returned (.bool (rightC l)) ∧ Below w.heap.size w w' := by
  obtain ⟨a, cap, S, rfl, hc, hmx, -, hn, hk⟩ := hl.out
  unfold maxLen at hmx
  have HN := Lib.hid hn
  have HK := Lib.hid hk
  clear hn hk hl
  go_enter Try.func43, Try.ntmps43
  go_wp2
  go_loopw [7] (fun iv wr => ∃ k : Nat, k ≤ l.length ∧ iv = .int .i64 k ∧ Hid (rightC (l.take k) = true) ∧ Below w.heap.size w wr) (fun iv _ => l.length - (intOf iv).toNat)
  case atStart => exact ⟨0, Nat.zero_le _, rfl, by simp [Hid, rightC, rightE], Below.refl _ _⟩
  case round =>
    obtain ⟨k, hk, rfl, hgood, hb⟩ := hrel
    by_cases hlt : k < l.length
    · obtain ⟨b, o, rfl, hx⟩ := HN.out k hlt
      have hx := hx.below hb hx.lt
      have hq := (HK.out k hlt).keep hb
      obtain ⟨a', cap', S', hS, -⟩ := hq.out
      rw [hS] at hx hq
      have HQ := Lib.hid hq
      have HT := Lib.hid (rightC_take hlt)
      have HO := Lib.hid (fun h => rightC_of (l := l) hlt h)
      obtain ⟨x0, x1, x2, x3, x4, x5⟩ := hx
      clear hS hq
      have hX := bnode_new wr l[k] (.slice a' l[k].a.kids.length cap')
      have hbV : Below wr.heap.size wr (wr.alloc (.cells #[.int .i64 l[k].a.k, .int .i64 l[k].a.i, .int .i64 l[k].a.j, .int .i64 l[k].a.n, (.slice a' l[k].a.kids.length cap'), .int .i64 l[k].i] 52)) := (Below.refl _ _).alloc (Nat.le_refl _) _
      have hqV := HQ.out.keep hbV
      have hbw := below_call hb hbV hb.size
      clear HQ hb hbV
      go_upto_region 4 with fail
      clear x0 x1 x2 x3 x4 x5
      obtain ⟨g, hg⟩ : ∃ g, wr.heap.size = g := ⟨_, rfl⟩
      rw [hg] at hX ⊢
      generalize wr.alloc (.cells #[.int .i64 l[k].a.k, .int .i64 l[k].a.i, .int .i64 l[k].a.j, .int .i64 l[k].a.n, (.slice a' l[k].a.kids.length cap'), .int .i64 l[k].i] 52) = V at hX hqV hbw ⊢
      have HX := Lib.hid hX
      have HQ := Lib.hid hqV
      have HBV := Lib.hid hbw
      have hk0 := kept_start V
      clear hqV hbw hg
      obtain ⟨x0, x1, x2, x3, x4, x5⟩ := hX
      by_cases h0 : l[k].i < 0
      · have e0 : decide (l[k].i < 0) = true := decide_eq_true h0
        go_wp2
        go_ret
        exact ⟨ret_bool (HO.out (by unfold goodE; rw [decide_eq_false (show ¬ 0 ≤ l[k].i by omega)]; rfl)).symm, HBV.out⟩
      have e0 : decide (l[k].i < 0) = false := decide_eq_false h0
      by_cases h1 : 1000 < l[k].i
      · have e1 : decide (1000 < l[k].i) = true := decide_eq_true h1
        go_wp2
        go_ret
        exact ⟨ret_bool (HO.out (by unfold goodE; rw [decide_eq_false (show ¬ l[k].i ≤ 1000 by omega), Bool.and_false]; rfl)).symm, HBV.out⟩
      have e1 : decide (1000 < l[k].i) = false := decide_eq_false h1
      have g0 : decide (0 ≤ l[k].i) = true := decide_eq_true (by omega)
      have g1 : decide (l[k].i ≤ 1000) = true := decide_eq_true (by omega)
      have G0 := Lib.hid g0
      have G1 := Lib.hid g1
      clear g0 g1
      go_wp2_with fail
      refine (marked_any l[k].a _ _ HQ.out).mono ?_
      obtain ⟨mb, hmb⟩ : ∃ b, l[k].a.markedB = b := ⟨_, rfl⟩
      rw [hmb]
      have HMB := Lib.hid hmb
      clear hmb
      rintro e w1 ⟨rfl, hb1⟩
      have hk1 := kept_call hk0 hb1
      obtain ⟨x0, x1, x2, x3, x4, x5⟩ := HX.out.keep hk1
      clear hb1 hk0
      cases mb with
      | false =>
        go_wp2
        go_ret
        exact ⟨ret_bool (HO.out (by unfold goodE; rw [HMB.out, Bool.and_false]; rfl)).symm, HBV.out.trans (Below.mono hk1 HBV.out.size)⟩
      | true =>
        go_wp2_with fail
        refine (Free_any l[k].a _ _ (kept_lies hk1 HQ.out)).mono ?_
        obtain ⟨fb, hfb⟩ : ∃ b, l[k].a.freeB = b := ⟨_, rfl⟩
        rw [hfb]
        have HFB := Lib.hid hfb
        clear hfb
        rintro e w2 ⟨rfl, hb2⟩
        have hk2 := kept_call hk1 hb2
        clear hb2
        by_cases h3 : (k : Int) < fb
        · have e3 : decide ((k : Int) < fb) = true := decide_eq_true h3
          go_wp2
          go_ret
          exact ⟨ret_bool (HO.out (by unfold goodE; rw [HFB.out, decide_eq_false (show ¬ fb ≤ (k : Int) by omega), Bool.and_false])).symm, HBV.out.trans (Below.mono hk2 HBV.out.size)⟩
        · have e3 : decide ((k : Int) < fb) = false := decide_eq_false h3
          have HS : Hid (goodE k l[k] = true) := by unfold goodE; rw [G0.out, G1.out, HMB.out, HFB.out, decide_eq_true (show fb ≤ (k : Int) by omega)]; rfl
          go_wp2
          go_roundw
          case rel => exact ⟨k + 1, by omega, by go_num, by show _ = true; rw [HT.out, hgood.out, HS.out]; rfl, HBV.out.trans (Below.mono hk2 HBV.out.size)⟩
          case measure => simp [intOf]; omega
    · have : k = l.length := by omega
      subst this
      go_wp2
      go_ret
      exact ⟨ret_bool (by have hg := hgood.out; rw [List.take_length] at hg; exact hg.symm), hb⟩

set_option maxRecDepth 20000 in
set_option maxHeartbeats 2000000 in
theorem refctxright_any (l : List En) (w : World) (s : Value) (hl : LiesE w l s) : Calls Try.prog 48 #[s] w fun e w' => e = .returned (.bool (rightC l)) ∧ Below w.heap.size w w' := by
  obtain ⟨a, cap, S, rfl, hc, hmx, -, hn, hk⟩ := hl.out
  unfold maxLen at hmx
  have HN := Lib.hid hn
  have HK := Lib.hid hk
  clear hn hk hl
  go_enter Try.func48, Try.ntmps48
  go_wp2
  go_loopw [3] (fun iv wr => ∃ k : Nat, k ≤ l.length ∧ iv = .int .i64 k ∧ Hid (rightC (l.take k) = true) ∧ Below w.heap.size w wr) (fun iv _ => l.length - (intOf iv).toNat)
  case atStart => exact ⟨0, Nat.zero_le _, rfl, by simp [Hid, rightC, rightE], Below.refl _ _⟩
  case round =>
    obtain ⟨k, hk, rfl, hgood, hb⟩ := hrel
    by_cases hlt : k < l.length
    · obtain ⟨b, o, rfl, hx⟩ := HN.out k hlt
      have hx := hx.below hb hx.lt
      have hq := (HK.out k hlt).keep hb
      obtain ⟨a', cap', S', hS, -⟩ := hq.out
      rw [hS] at hx hq
      have HQ := Lib.hid hq
      have HT := Lib.hid (rightC_take hlt)
      have HO := Lib.hid (fun h => rightC_of (l := l) hlt h)
      have HX := Lib.hid hx
      have HBV := Lib.hid hb
      have hk0 := kept_start wr
      obtain ⟨x0, x1, x2, x3, x4, x5⟩ := hx
      clear hS hq hb
      obtain ⟨lv, hlv⟩ : ∃ b, lvB l[k].i = b := ⟨_, rfl⟩
      have HLV := Lib.hid hlv
      clear hlv
      go_wp2_with fail
      refine (level11_any l[k].i _).mono ?_
      rw [HLV.out]
      rintro e w0 ⟨rfl, rfl⟩
      cases lv with
      | false =>
        go_wp2
        go_ret
        exact ⟨ret_bool (HO.out (by unfold goodE; have := HLV.out; unfold lvB at this; rw [this]; rfl)).symm, HBV.out⟩
      | true =>
      have HG : Hid (decide (0 ≤ l[k].i) = true ∧ decide (l[k].i ≤ 1000) = true) := by have := HLV.out; unfold lvB at this; rw [Bool.and_eq_true] at this; exact this
      have G0 := Lib.hid HG.out.1
      have G1 := Lib.hid HG.out.2
      go_wp2_with fail
      refine (refmarked_any l[k].a _ _ HQ.out).mono ?_
      obtain ⟨mb, hmb⟩ : ∃ b, l[k].a.markedB = b := ⟨_, rfl⟩
      rw [hmb]
      have HMB := Lib.hid hmb
      clear hmb
      rintro e w1 ⟨rfl, hb1⟩
      have hk1 := kept_call hk0 hb1
      obtain ⟨x0, x1, x2, x3, x4, x5⟩ := HX.out.below hk1 HX.out.lt
      clear hb1 hk0
      cases mb with
      | false =>
        go_wp2
        go_ret
        exact ⟨ret_bool (HO.out (by unfold goodE; rw [HMB.out, Bool.and_false]; rfl)).symm, HBV.out.trans (Below.mono hk1 HBV.out.size)⟩
      | true =>
        go_wp2_with fail
        refine (refFree_any l[k].a _ _ (kept_lies hk1 HQ.out)).mono ?_
        obtain ⟨fb, hfb⟩ : ∃ b, l[k].a.freeB = b := ⟨_, rfl⟩
        rw [hfb]
        have HFB := Lib.hid hfb
        clear hfb
        rintro e w2 ⟨rfl, hb2⟩
        have hk2 := kept_call hk1 hb2
        clear hb2
        by_cases h3 : (k : Int) < fb
        · have e3 : decide ((k : Int) < fb) = true := decide_eq_true h3
          go_wp2
          go_ret
          exact ⟨ret_bool (HO.out (by unfold goodE; rw [HFB.out, decide_eq_false (show ¬ fb ≤ (k : Int) by omega), Bool.and_false])).symm, HBV.out.trans (Below.mono hk2 HBV.out.size)⟩
        · have e3 : decide ((k : Int) < fb) = false := decide_eq_false h3
          have HS : Hid (goodE k l[k] = true) := by unfold goodE; rw [G0.out, G1.out, HMB.out, HFB.out, decide_eq_true (show fb ≤ (k : Int) by omega)]; rfl
          go_wp2
          go_roundw
          case rel => exact ⟨k + 1, by omega, by go_num, by show _ = true; rw [HT.out, hgood.out, HS.out]; rfl, HBV.out.trans (Below.mono hk2 HBV.out.size)⟩
          case measure => simp [intOf]; omega
    · have : k = l.length := by omega
      subst this
      go_wp2
      go_ret
      exact ⟨ret_bool (by have hg := hgood.out; rw [List.take_length] at hg; exact hg.symm), hb⟩

/-- What GreatCtx tells. -/
def NotGreatC (l : List En) (M : Nat) (w : World) (e : Ending) (w' : World) : Prop :=
  ∃ g : Bool, e = .returned (.bool g) ∧ (g = false → l.length ≤ M ∧ ∀ u ∈ l, (u.a.size : Int) ≤ M ∧ u.a.deep ≤ 201) ∧ Below w.heap.size w w'

set_option maxHeartbeats 1000000 in
theorem greatctx_any (l : List En) (M : Nat) (w : World) (ls : Value) (hl : LiesE w l ls) (hM : M ≤ 10000) :
    Calls Try.prog 19 #[ls, .int .i64 M] w (NotGreatC l M w) := by
  obtain ⟨a, cap, S, rfl, hc, hm, -, hn, hk⟩ := hl.out
  unfold maxLen at hm
  have HN := Lib.hid hn
  have HK := Lib.hid hk
  clear hl hn hk
  go_enter Try.func19, Try.ntmps19
  by_cases hlen : M < l.length
  · have e1 : decide ((M : Int) < (l.length : Int)) = true := decide_eq_true (by omega)
    have e2 : decide (M < l.length) = true := decide_eq_true hlen
    go_wp2
    go_ret
    exact ⟨true, rfl, (fun h => by cases h), Below.refl _ _⟩
  have e1 : decide ((M : Int) < (l.length : Int)) = false := decide_eq_false (by omega)
  have e2 : decide (M < l.length) = false := decide_eq_false hlen
  go_wp2
  go_loopw [5, 6] (fun nv iv wr => ∃ (k : Nat) (n : Int), k ≤ l.length ∧ iv = .int .i64 k ∧ nv = .int .i64 n ∧ 0 ≤ n ∧ n ≤ M + 1 ∧ Hid (n ≤ M → ∀ j (h : j < l.length), j < k → ((l[j]).a.size : Int) ≤ M ∧ (l[j]).a.deep ≤ 201) ∧ Kept w wr) (fun _ i _ => l.length - (intOf i).toNat)
  case atStart => exact ⟨0, 0, Nat.zero_le _, rfl, rfl, by omega, by omega, fun _ j _ h => by omega, kept_start _⟩
  case round =>
    obtain ⟨k, n, hk, rfl, rfl, hn1, hn2, hrel, hb⟩ := hrel
    by_cases hlt : k < l.length
    · by_cases hnm : n ≤ M
      · obtain ⟨b, o, rfl, hx⟩ := HN.out k hlt
        obtain ⟨c0, c1, c2, c3, c4, c5⟩ := hx.below hb hx.lt
        have hq := HK.out k hlt
        obtain ⟨a', cap', S', hS, -⟩ := hq.out
        rw [hS] at c4 hq
        have HQ := Lib.hid (hq.keep hb)
        clear hS hq
        go_wp2_with fail
        refine (weigh_any l[k].a _ _ _ _ HQ.out (by omega) (by omega) (by omega) (by omega)).mono ?_
        rintro e w' ⟨r, rfl, hr1, hr2, hr3, hb'⟩
        have HR3 := Lib.hid hr3
        have HB' := kept_call hb hb'
        clear hb' hb hr3 c0 c1 c2 c3 c4 c5
        go_wp2
        go_roundw
        case rel =>
          refine ⟨k + 1, n + r, by omega, by go_num, rfl, by omega, by omega, ?_, HB'⟩
          intro hle j hj hjk
          by_cases e : j = k
          · subst e
            have e4 := HR3.out (by omega)
            omega
          · exact hrel.out hnm j hj (by omega)
        case measure => simp [intOf]; omega
      · go_wp2
        go_ret
        exact ⟨_, rfl, fun h => absurd h (by simp <;> omega), hb⟩
    · have : k = l.length := by omega
      subst this
      go_wp2
      all_goals go_ret
      all_goals
        refine ⟨_, rfl, fun h => ⟨by omega, fun u hu => ?_⟩, hb⟩
        have hle : n ≤ M := by simpa using h
        obtain ⟨j, hj, rfl⟩ := List.getElem_of_mem hu
        exact hrel.out hle j hj hj
end Go.Proofs.Ytjlppnmckobcfaa

namespace Go.Proofs.Ytjlppnmckobcfaa
open Go.RowKit

theorem row_subW {C : Array Value} {o W : Nat} {L : List Value} (h : (C.toList.drop o).take W = L) (f n : Nat) (hn : f + n ≤ W) : (C.toList.drop (o + f)).take n = (L.drop f).take n := by
  rw [← h, List.drop_take, List.take_take, List.drop_drop, Nat.min_eq_left (by omega)]
theorem row_cellW {C : Array Value} {o W : Nat} {L : List Value} (h : (C.toList.drop o).take W = L) (f : Nat) (hf : f < W) : C[o + f]? = L[f]? := by
  rw [← h, List.getElem?_take_of_lt hf, List.getElem?_drop, Array.getElem?_toList]
/-- A judgment's cells as a piece of its block. -/
theorem jnode_blk {w : World} {b o : Nat} {j : Jd} {su sv sa : Value} (h : JNode w b o j su sv sa) : ∃ (C : Array Value) (T : TypeId) (fr : Nat × Nat), w.heap[b]? = some (.cells C T fr) ∧
    (C.toList.drop o).take 17 = [.bool j.eq, .int .i64 j.u.k, .int .i64 j.u.i, .int .i64 j.u.j, .int .i64 j.u.n, su, .int .i64 j.v.k, .int .i64 j.v.i, .int .i64 j.v.j, .int .i64 j.v.n, sv, .int .i64 j.a.k, .int .i64 j.a.i, .int .i64 j.a.j, .int .i64 j.a.n, sa, .int .i64 j.i] := by
  obtain ⟨x0, x1, x2, x3, x4, x5, x6, x7, x8, x9, x10, x11, x12, x13, x14, x15, x16⟩ := h
  have hb : ∃ (C : Array Value) (T : TypeId) (fr : Nat × Nat), w.heap[b]? = some (.cells C T fr) := by
    have h0 := x0
    unfold World.cell? at h0
    cases e : w.heap[b]? with
    | none => simp [e] at h0
    | some ob =>
      cases ob with
      | cells C T fr => exact ⟨C, T, fr, rfl⟩
      | _ => simp [e] at h0
  obtain ⟨C, T, fr, hC⟩ := hb
  refine ⟨C, T, fr, hC, ?_⟩
  have cell : ∀ q v, w.cell? ⟨b, o + q, none⟩ = some v → C.toList[o + q]? = some v := fun q v h => by rw [cell_of_row w b _ C T fr hC] at h; rw [Array.getElem?_toList]; exact h
  apply List.ext_getElem?
  intro q
  by_cases hq : q < 17
  · rw [List.getElem?_take_of_lt hq, List.getElem?_drop]
    match q, hq with
    | 0, _ => exact cell 0 _ x0
    | 1, _ => exact cell 1 _ x1
    | 2, _ => exact cell 2 _ x2
    | 3, _ => exact cell 3 _ x3
    | 4, _ => exact cell 4 _ x4
    | 5, _ => exact cell 5 _ x5
    | 6, _ => exact cell 6 _ x6
    | 7, _ => exact cell 7 _ x7
    | 8, _ => exact cell 8 _ x8
    | 9, _ => exact cell 9 _ x9
    | 10, _ => exact cell 10 _ x10
    | 11, _ => exact cell 11 _ x11
    | 12, _ => exact cell 12 _ x12
    | 13, _ => exact cell 13 _ x13
    | 14, _ => exact cell 14 _ x14
    | 15, _ => exact cell 15 _ x15
    | 16, _ => exact cell 16 _ x16
    | n + 17, h => exact absurd h (by omega)
  · rw [List.getElem?_eq_none (by simp; omega), List.getElem?_eq_none (by simp; omega)]
def purC (l : List En) : Bool := l.all (fun e => e.a.pureB) && rightC l
def osB (a : Tm) (i : Int) : Bool := (a.k == 1) && (i == (a.i + 1))
def rcls (r : Int) : Nat := if (r == 3 || (r == 6 || r == 4)) = true then 0 else if (r == 25 || (r == 26 || (r == 27 || r == 28))) = true then 1 else 2
/-- What stands ahead of an inner premise. -/
def entB (r : Int) (j : Jd) : En × Bool := if rcls r = 0 then (⟨j.u, j.a.i⟩, !j.eq && osB j.a j.i) else if rcls r = 1 then (⟨j.u, j.a.i⟩, j.eq && osB j.a j.i) else (⟨j.a, j.i⟩, j.eq == (r == 23))
theorem entB_0 {r : Int} (j : Jd) (h : rcls r = 0) : entB r j = (⟨j.u, j.a.i⟩, !j.eq && osB j.a j.i) := by unfold entB; rw [if_pos h]
theorem entB_1 {r : Int} (j : Jd) (h : rcls r = 1) : entB r j = (⟨j.u, j.a.i⟩, j.eq && osB j.a j.i) := by unfold entB; rw [if_neg (by omega), if_pos h]
theorem entB_2 {r : Int} (j : Jd) (h : rcls r = 2) : entB r j = (⟨j.a, j.i⟩, j.eq == (r == 23)) := by unfold entB; rw [if_neg (by omega), if_neg (by omega)]
theorem entB_fine {r : Int} {j : Jd} (h : j.fine) : (entB r j).1.fine := by
  unfold entB
  split
  · exact ⟨h.1, h.2.2.1.2.1⟩
  · split
    · exact ⟨h.1, h.2.2.1.2.1⟩
    · exact ⟨h.2.2.1, h.2.2.2⟩
theorem entB_size {r : Int} {j : Jd} {n : Nat} (hu : j.u.size ≤ n) (ha : j.a.size ≤ n) : (entB r j).1.a.size ≤ n := by
  unfold entB
  split
  · exact hu
  · split
    · exact hu
    · exact ha
/-- An entry and a bool are handed back. -/
def GivesEB (P : Nat → Prop) (x : En) (b : Bool) (w : World) (e : Ending) (w' : World) : Prop := ∃ s' : Value, e = .returned (.tuple #[.agg #[.int .i64 x.a.k, .int .i64 x.a.i, .int .i64 x.a.j, .int .i64 x.a.n, s', .int .i64 x.i], .bool b]) ∧ LiesQ w' (fun b => P b ∨ w.heap.size ≤ b) x.a.kids s' ∧ Kept w w'
/-- A context and a bool are handed back. -/
def GivesPr (x : List En × Bool) (w : World) (e : Ending) (w' : World) : Prop := ∃ s' : Value, e = .returned (.tuple #[s', .bool x.2]) ∧ LiesE w' x.1 s' ∧ Kept w w'
/-- A premise's context. -/
def premB (c : List En) (r kid : Int) (on : List Jd) : List En × Bool :=
  if (purC c && (decide (0 ≤ kid) && decide (kid < Dv.dkidsN r))) = true then
    if Dv.innerB r kid = true then
      match on with
      | [] => ([], false)
      | j :: _ => if rightJ j c.length = true then (if (entB r j).2 = true then (c ++ [(entB r j).1], true) else ([], false)) else ([], false)
    else (c, true)
  else ([], false)
theorem premB_kid0 {c : List En} {r kid : Int} {on : List Jd} (h : decide (kid < 0) = true) : premB c r kid on = ([], false) := by
  unfold premB
  rw [if_neg]
  rw [decide_eq_false (p := 0 ≤ kid) (by have := of_decide_eq_true h; omega)]; simp
theorem premB_kid1 {c : List En} {r kid : Int} {on : List Jd} (h : decide (Dv.dkidsN r ≤ kid) = true) : premB c r kid on = ([], false) := by
  unfold premB
  rw [if_neg]
  rw [decide_eq_false (p := kid < Dv.dkidsN r) (by have := of_decide_eq_true h; omega)]; simp
theorem premB_pure {c : List En} {r kid : Int} {on : List Jd} (h : purC c = false) : premB c r kid on = ([], false) := by
  unfold premB
  rw [if_neg]
  rw [h]; simp
theorem premB_in {c : List En} {r kid : Int} (h0 : decide (kid < 0) = false) (h1 : decide (Dv.dkidsN r ≤ kid) = false) (h2 : purC c = true) : (purC c && (decide (0 ≤ kid) && decide (kid < Dv.dkidsN r))) = true := by
  rw [h2, decide_eq_true (p := 0 ≤ kid) (by have := of_decide_eq_false h0; omega), decide_eq_true (p := kid < Dv.dkidsN r) (by have := of_decide_eq_false h1; omega)]; rfl
theorem premB_outer {c : List En} {r kid : Int} {on : List Jd} (h : (purC c && (decide (0 ≤ kid) && decide (kid < Dv.dkidsN r))) = true) (h3 : Dv.innerB r kid = false) : premB c r kid on = (c, true) := by
  unfold premB
  rw [if_pos h, if_neg (by rw [h3]; decide)]
theorem premB_nil {c : List En} {r kid : Int} (h3 : Dv.innerB r kid = true) : premB c r kid [] = ([], false) := by
  unfold premB
  by_cases h0 : (purC c && (decide (0 ≤ kid) && decide (kid < Dv.dkidsN r))) = true
  · rw [if_pos h0, if_pos h3]
  · rw [if_neg h0]
theorem premB_right {c : List En} {r kid : Int} {j : Jd} {on : List Jd} (h3 : Dv.innerB r kid = true) (h : rightJ j c.length = false) : premB c r kid (j :: on) = ([], false) := by
  unfold premB
  by_cases h0 : (purC c && (decide (0 ≤ kid) && decide (kid < Dv.dkidsN r))) = true
  · rw [if_pos h0, if_pos h3]
    simp only []
    rw [if_neg (by rw [h]; decide)]
  · rw [if_neg h0]
theorem premB_ent {c : List En} {r kid : Int} {j : Jd} {on : List Jd} (h3 : Dv.innerB r kid = true) (h : (entB r j).2 = false) : premB c r kid (j :: on) = ([], false) := by
  unfold premB
  by_cases h0 : (purC c && (decide (0 ≤ kid) && decide (kid < Dv.dkidsN r))) = true
  · rw [if_pos h0, if_pos h3]
    simp only []
    rw [h]
    simp
  · rw [if_neg h0]
theorem premB_all {c : List En} {r kid : Int} {j : Jd} {on : List Jd} (h0 : (purC c && (decide (0 ≤ kid) && decide (kid < Dv.dkidsN r))) = true) (h3 : Dv.innerB r kid = true) (h4 : rightJ j c.length = true) (h5 : (entB r j).2 = true) : premB c r kid (j :: on) = (c ++ [(entB r j).1], true) := by
  unfold premB
  rw [if_pos h0, if_pos h3]
  simp only []
  rw [if_pos h4, if_pos h5]
theorem numbers_range {k i j n : Int} (h : numbersN k i j n = true) : 0 ≤ i ∧ i ≤ 2147483647 := by
  unfold numbersN at h
  repeat' split at h
  all_goals (simp [levelB] at h; omega)
theorem pure_marked {t : Tm} (h : t.pureB = true) : t.markedB = true := by unfold Tm.pureB at h; rw [Bool.and_eq_true] at h; exact h.1
theorem pure_range {t : Tm} (h : t.pureB = true) : 0 ≤ t.i ∧ t.i ≤ 2147483647 := by
  have h1 := pure_marked h
  rw [Tm.markedB_eq, Bool.and_eq_true, Bool.and_eq_true, Tm.nodeB, Bool.and_eq_true] at h1
  have h2 := h1.2.1
  rw [Bool.and_eq_true] at h2
  exact numbers_range h2.2
theorem rightJ_pure {j : Jd} {n : Int} (h : rightJ j n = true) : j.a.pureB = true := by
  unfold rightJ jfitB at h
  simp only [Bool.and_eq_true] at h
  exact h.2.1.2.1

set_option maxRecDepth 20000 in
set_option maxHeartbeats 4000000 in
theorem rulepure_any (l : List En) (w : World) (s : Value) (hl : LiesE w l s) : Calls Try.prog 22 #[s] w fun e w' => e = .returned (.bool (purC l)) ∧ Below w.heap.size w w' := by
  obtain ⟨a, cap, S, rfl, hc, hmx, -, hn, hk⟩ := hl.out
  unfold maxLen at hmx
  have HL := Lib.hid hl
  have HN := Lib.hid hn
  have HK := Lib.hid hk
  clear hn hk hl
  go_enter Try.func22, Try.ntmps22
  go_wp2
  go_loopw [7] (fun iv wr => ∃ k : Nat, k ≤ l.length ∧ iv = .int .i64 k ∧ Hid ((l.take k).all (fun e => e.a.pureB) = true) ∧ Below w.heap.size w wr) (fun iv _ => l.length - (intOf iv).toNat)
  case atStart => exact ⟨0, Nat.zero_le _, rfl, rfl, Below.refl _ _⟩
  case round =>
    obtain ⟨k, hk, rfl, hgood, hb⟩ := hrel
    by_cases hlt : k < l.length
    · obtain ⟨b, o, rfl, hx⟩ := HN.out k hlt
      have hx := hx.below hb hx.lt
      have hq := (HK.out k hlt).keep hb
      obtain ⟨a', cap', S', hS, -⟩ := hq.out
      rw [hS] at hx hq
      have HQ := Lib.hid hq
      have HT := Lib.hid (fun (h : l[k].a.pureB = true) => show (l.take (k + 1)).all (fun e => e.a.pureB) = true by rw [List.take_succ_eq_append_getElem hlt, List.all_append, hgood.out]; simp [h])
      have HO := Lib.hid (fun (h : l[k].a.pureB = false) => show purC l = false by
        unfold purC
        cases e : l.all (fun e => e.a.pureB) with
        | false => rfl
        | true => have := List.all_eq_true.1 e _ (List.getElem_mem hlt); rw [h] at this; cases this)
      obtain ⟨x0, x1, x2, x3, x4, x5⟩ := hx
      clear hS hq
      have hX := bnode_new wr l[k] (.slice a' l[k].a.kids.length cap')
      have hbV : Below wr.heap.size wr (wr.alloc (.cells #[.int .i64 l[k].a.k, .int .i64 l[k].a.i, .int .i64 l[k].a.j, .int .i64 l[k].a.n, (.slice a' l[k].a.kids.length cap'), .int .i64 l[k].i] 52)) := (Below.refl _ _).alloc (Nat.le_refl _) _
      have hqV := HQ.out.keep hbV
      have hbw := below_call hb hbV hb.size
      clear HQ hb hbV
      go_upto_region 4 with fail
      clear x0 x1 x2 x3 x4 x5
      obtain ⟨g, hg⟩ : ∃ g, wr.heap.size = g := ⟨_, rfl⟩
      rw [hg] at hX ⊢
      generalize wr.alloc (.cells #[.int .i64 l[k].a.k, .int .i64 l[k].a.i, .int .i64 l[k].a.j, .int .i64 l[k].a.n, (.slice a' l[k].a.kids.length cap'), .int .i64 l[k].i] 52) = V at hX hqV hbw ⊢
      have HX := Lib.hid hX
      have HQ := Lib.hid hqV
      have HBV := Lib.hid hbw
      clear hqV hbw hg
      obtain ⟨x0, x1, x2, x3, x4, x5⟩ := hX
      go_wp2_with fail
      refine (pure_any l[k].a _ _ HQ.out).mono ?_
      obtain ⟨mb, hmb⟩ : ∃ b, l[k].a.pureB = b := ⟨_, rfl⟩
      rw [hmb]
      have HMB := Lib.hid hmb
      clear hmb
      rintro e w1 ⟨rfl, hb1⟩
      have HB1 := Lib.hid (below_call HBV.out hb1 HBV.out.size)
      clear hb1 x0 x1 x2 x3 x4 x5
      cases mb with
      | false =>
        go_wp2
        go_ret
        exact ⟨ret_bool (HO.out HMB.out).symm, HB1.out⟩
      | true =>
        go_wp2
        go_roundw
        case rel => exact ⟨k + 1, hlt, by go_num, HT.out HMB.out, HB1.out⟩
        case measure => simp [intOf]; omega
    · obtain rfl : k = l.length := by omega
      have HS := Lib.hid (show l.all (fun e => e.a.pureB) = true by have := hgood.out; rw [List.take_length] at this; exact this)
      go_wp2_with fail
      refine (ctxright_any l _ _ (HL.out.keep hb)).mono ?_
      rintro e w1 ⟨rfl, hb1⟩
      have hb01 := below_call hb hb1 hb.size
      clear hb1
      go_wp2
      go_ret
      exact ⟨ret_bool (by unfold purC; rw [HS.out, Bool.true_and]), hb01⟩

set_option maxRecDepth 20000 in
set_option maxHeartbeats 4000000 in
theorem ofsort0_any (i : Int) (u : Tm) (v : Tm) (x : Tm) (P : Nat → Prop) (w : World) (su : Value) (sv : Value) (sx : Value) (hfu : u.fine) (hlu : LiesQ w P u.kids su) (hfv : v.fine) (hlv : LiesQ w P v.kids sv) (hfx : x.fine) (hlx : LiesQ w P x.kids sx) (hri : I64 i) (hx0 : 0 ≤ x.i) (hx1 : x.i ≤ 2147483647) : Calls Try.prog 73 #[.agg #[.bool false, .int .i64 u.k, .int .i64 u.i, .int .i64 u.j, .int .i64 u.n, su, .int .i64 v.k, .int .i64 v.i, .int .i64 v.j, .int .i64 v.n, sv, .int .i64 x.k, .int .i64 x.i, .int .i64 x.j, .int .i64 x.n, sx, .int .i64 i]] w fun e w' => e = .returned (.bool (osB x i)) ∧ Kept w w' := by
  have Gu := Lib.hid hfu
  clear hfu
  obtain ⟨au, cu, Su, rfl, -⟩ := hlu.out
  have Gv := Lib.hid hfv
  clear hfv
  obtain ⟨av, cv, Sv, rfl, -⟩ := hlv.out
  have Gx := Lib.hid hfx
  clear hfx
  obtain ⟨ax, cx, Sx, rfl, -⟩ := hlx.out
  have Ri := Lib.hid hri
  clear hri
  have HX0 := Lib.hid hx0
  have HX1 := Lib.hid hx1
  have ew : IntKind.i64.wrap (x.i + 1) = x.i + 1 := IntWalk.i64_in _ (by omega)
  clear hx0 hx1
  obtain ⟨dj, dj1, dj2⟩ := under_of 34 (by kernel_rfl)
  go_enter Try.func73, Try.ntmps73
  go_upto_region 1 with fail
  refine at_code (fun V0 hV0 => ?_)
  obtain ⟨k2, x1, z3⟩ := alloc1 hV0
  have Kk4 := Lib.hid k2
  clear k2
  have Hx1 := Lib.hid x1
  have Z0 := Lib.hid z3
  clear z3 x1 hV0
  have HLu : Hid (LiesQ V0 (Par w V0.heap.size [] P) u.kids _) := (par_in _ _ hlu).later Kk4.out
  clear hlu
  have HLv : Hid (LiesQ V0 (Par w V0.heap.size [] P) v.kids _) := (par_in _ _ hlv).later Kk4.out
  clear hlv
  have HLx : Hid (LiesQ V0 (Par w V0.heap.size [] P) x.kids _) := (par_in _ _ hlx).later Kk4.out
  clear hlx
  have ld5 := partN_cell (r := V0.heap.size) Hx1.out trivial 11 (.int .i64 x.k) rfl
  have ld6 := partN_cell (r := V0.heap.size) Hx1.out trivial 12 (.int .i64 x.i) rfl
  have ld7 := partN_cell (r := V0.heap.size) Hx1.out trivial 16 (.int .i64 i) rfl
  have kvV0 : SeesN V0 V0.heap.size V0 := seesN_kept _ (kept_refl _)
  by_cases c8 : x.k = 1
  · have ec8 : (x.k == 1) = true := beq_iff_eq.2 c8
    have fc8 : (x.k != 1) = false := by rw [bne, ec8]; rfl
    have Ec8 := Lib.hid ec8
    have Hc8 := Lib.hid c8
    clear c8
    by_cases c9 : i = (x.i + 1)
    · have ec9 : (i == (x.i + 1)) = true := beq_iff_eq.2 c9
      have fc9 : (i != (x.i + 1)) = false := by rw [bne, ec9]; rfl
      have Ec9 := Lib.hid ec9
      have Hc9 := Lib.hid c9
      clear c9
      go_wp2
      go_ret
      exact ⟨ret_bool (Eq.symm (show osB x i = true from by unfold osB; rw [Ec8.out, Ec9.out]; (try rfl))), Kk4.out⟩
    · have ec9 : (i == (x.i + 1)) = false := beq_eq_false_iff_ne.2 c9
      have fc9 : (i != (x.i + 1)) = true := by rw [bne, ec9]; rfl
      have Ec9 := Lib.hid ec9
      have Hc9 := Lib.hid c9
      clear c9
      go_wp2
      go_ret
      exact ⟨ret_bool (Eq.symm (show osB x i = false from by unfold osB; rw [Ec8.out, Ec9.out]; (try rfl))), Kk4.out⟩
  · have ec8 : (x.k == 1) = false := beq_eq_false_iff_ne.2 c8
    have fc8 : (x.k != 1) = true := by rw [bne, ec8]; rfl
    have Ec8 := Lib.hid ec8
    have Hc8 := Lib.hid c8
    clear c8
    go_wp2
    go_ret
    exact ⟨ret_bool (Eq.symm (show osB x i = false from by unfold osB; rw [Ec8.out]; (try rfl))), Kk4.out⟩

set_option maxRecDepth 20000 in
set_option maxHeartbeats 4000000 in
theorem ofsort1_any (i : Int) (u : Tm) (v : Tm) (x : Tm) (P : Nat → Prop) (w : World) (su : Value) (sv : Value) (sx : Value) (hfu : u.fine) (hlu : LiesQ w P u.kids su) (hfv : v.fine) (hlv : LiesQ w P v.kids sv) (hfx : x.fine) (hlx : LiesQ w P x.kids sx) (hri : I64 i) (hx0 : 0 ≤ x.i) (hx1 : x.i ≤ 2147483647) : Calls Try.prog 73 #[.agg #[.bool true, .int .i64 u.k, .int .i64 u.i, .int .i64 u.j, .int .i64 u.n, su, .int .i64 v.k, .int .i64 v.i, .int .i64 v.j, .int .i64 v.n, sv, .int .i64 x.k, .int .i64 x.i, .int .i64 x.j, .int .i64 x.n, sx, .int .i64 i]] w fun e w' => e = .returned (.bool (osB x i)) ∧ Kept w w' := by
  have Gu := Lib.hid hfu
  clear hfu
  obtain ⟨au, cu, Su, rfl, -⟩ := hlu.out
  have Gv := Lib.hid hfv
  clear hfv
  obtain ⟨av, cv, Sv, rfl, -⟩ := hlv.out
  have Gx := Lib.hid hfx
  clear hfx
  obtain ⟨ax, cx, Sx, rfl, -⟩ := hlx.out
  have Ri := Lib.hid hri
  clear hri
  have HX0 := Lib.hid hx0
  have HX1 := Lib.hid hx1
  have ew : IntKind.i64.wrap (x.i + 1) = x.i + 1 := IntWalk.i64_in _ (by omega)
  clear hx0 hx1
  obtain ⟨dj, dj1, dj2⟩ := under_of 34 (by kernel_rfl)
  go_enter Try.func73, Try.ntmps73
  go_upto_region 1 with fail
  refine at_code (fun V0 hV0 => ?_)
  obtain ⟨k2, x1, z3⟩ := alloc1 hV0
  have Kk4 := Lib.hid k2
  clear k2
  have Hx1 := Lib.hid x1
  have Z0 := Lib.hid z3
  clear z3 x1 hV0
  have HLu : Hid (LiesQ V0 (Par w V0.heap.size [] P) u.kids _) := (par_in _ _ hlu).later Kk4.out
  clear hlu
  have HLv : Hid (LiesQ V0 (Par w V0.heap.size [] P) v.kids _) := (par_in _ _ hlv).later Kk4.out
  clear hlv
  have HLx : Hid (LiesQ V0 (Par w V0.heap.size [] P) x.kids _) := (par_in _ _ hlx).later Kk4.out
  clear hlx
  have ld5 := partN_cell (r := V0.heap.size) Hx1.out trivial 11 (.int .i64 x.k) rfl
  have ld6 := partN_cell (r := V0.heap.size) Hx1.out trivial 12 (.int .i64 x.i) rfl
  have ld7 := partN_cell (r := V0.heap.size) Hx1.out trivial 16 (.int .i64 i) rfl
  have kvV0 : SeesN V0 V0.heap.size V0 := seesN_kept _ (kept_refl _)
  by_cases c8 : x.k = 1
  · have ec8 : (x.k == 1) = true := beq_iff_eq.2 c8
    have fc8 : (x.k != 1) = false := by rw [bne, ec8]; rfl
    have Ec8 := Lib.hid ec8
    have Hc8 := Lib.hid c8
    clear c8
    by_cases c9 : i = (x.i + 1)
    · have ec9 : (i == (x.i + 1)) = true := beq_iff_eq.2 c9
      have fc9 : (i != (x.i + 1)) = false := by rw [bne, ec9]; rfl
      have Ec9 := Lib.hid ec9
      have Hc9 := Lib.hid c9
      clear c9
      go_wp2
      go_ret
      exact ⟨ret_bool (Eq.symm (show osB x i = true from by unfold osB; rw [Ec8.out, Ec9.out]; (try rfl))), Kk4.out⟩
    · have ec9 : (i == (x.i + 1)) = false := beq_eq_false_iff_ne.2 c9
      have fc9 : (i != (x.i + 1)) = true := by rw [bne, ec9]; rfl
      have Ec9 := Lib.hid ec9
      have Hc9 := Lib.hid c9
      clear c9
      go_wp2
      go_ret
      exact ⟨ret_bool (Eq.symm (show osB x i = false from by unfold osB; rw [Ec8.out, Ec9.out]; (try rfl))), Kk4.out⟩
  · have ec8 : (x.k == 1) = false := beq_eq_false_iff_ne.2 c8
    have fc8 : (x.k != 1) = true := by rw [bne, ec8]; rfl
    have Ec8 := Lib.hid ec8
    have Hc8 := Lib.hid c8
    clear c8
    go_wp2
    go_ret
    exact ⟨ret_bool (Eq.symm (show osB x i = false from by unfold osB; rw [Ec8.out]; (try rfl))), Kk4.out⟩

def istype0r1_0 : Oper := { dst := some 4, op := Go.Op.fieldAddr 34 (Go.Operand.tmp 1) 3, type := 0, pos := "rule.go:92", after := #[], guard := none }
def istype0r1_1 : Oper := { dst := some 5, op := Go.Op.fieldAddr 32 (Go.Operand.tmp 4) 1, type := 0, pos := "rule.go:92", after := #[{ on := 0, ground := Go.Ground.data }], guard := none }
def istype0r1_2 : Oper := { dst := some 6, op := Go.Op.load 3 (Go.Operand.tmp 5), type := 3, pos := "rule.go:92", after := #[{ on := 1, ground := Go.Ground.data }], guard := none }
def istype0r1_3 : Oper := { dst := some 7, op := Go.Op.fieldAddr 34 (Go.Operand.tmp 1) 0, type := 0, pos := "rule.go:92", after := #[], guard := none }
def istype0r1_4 : Oper := { dst := some 8, op := Go.Op.load 4 (Go.Operand.tmp 7), type := 4, pos := "rule.go:92", after := #[{ on := 3, ground := Go.Ground.data }], guard := none }
def istype0r1_5 : Oper := { dst := some 9, op := Go.Op.unOp Go.UnOp.not 4 (Go.Operand.tmp 8), type := 4, pos := "rule.go:92", after := #[{ on := 4, ground := Go.Ground.data }], guard := none }
def istype0r1_6 : Oper := { dst := some 10, op := Go.Op.move (Go.Operand.tmp 9), type := 4, pos := "rule.go:92", after := #[{ on := 5, ground := Go.Ground.data }], guard := none }
def istype0r1_7 : Oper := { dst := some 11, op := Go.Op.load 34 (Go.Operand.tmp 1), type := 34, pos := "rule.go:92", after := #[{ on := 6, ground := Go.Ground.guard }], guard := some (6, true) }
def istype0r1_8 : Oper := { dst := some 12, op := Go.Op.call { callee := Go.Callee.value (Go.Operand.func 73), args := #[Go.Operand.tmp 11], argTypes := #[34] }, type := 4, pos := "rule.go:92", after := #[{ on := 7, ground := Go.Ground.data }, { on := 6, ground := Go.Ground.chain }, { on := 6, ground := Go.Ground.guard }], guard := some (6, true) }
def istype0r1_9 : Oper := { dst := some 13, op := Go.Op.pick (Go.Operand.tmp 10) (Go.Operand.tmp 12) (Go.Operand.const (Go.Value.bool false)), type := 4, pos := "rule.go:92", after := #[{ on := 6, ground := Go.Ground.data }, { on := 8, ground := Go.Ground.data }, { on := 10, ground := Go.Ground.gcOnly Go.Departure.lateStores }], guard := none }
def istype0r1_10 : Oper := { dst := some 2, op := Go.Op.assign (Go.Operand.tmp 6), type := 3, pos := "rule.go:92", after := #[{ on := 2, ground := Go.Ground.data }, { on := 8, ground := Go.Ground.chain }, { on := 0, ground := Go.Ground.phase }, { on := 1, ground := Go.Ground.phase }, { on := 2, ground := Go.Ground.phase }, { on := 3, ground := Go.Ground.textOnly Go.Departure.lateStores }, { on := 4, ground := Go.Ground.textOnly Go.Departure.lateStores }, { on := 5, ground := Go.Ground.textOnly Go.Departure.lateStores }, { on := 6, ground := Go.Ground.textOnly Go.Departure.lateStores }, { on := 7, ground := Go.Ground.textOnly Go.Departure.lateStores }, { on := 8, ground := Go.Ground.textOnly Go.Departure.lateStoresUnsure }, { on := 9, ground := Go.Ground.textOnly Go.Departure.lateStores }], guard := none }
def istype0r1_11 : Oper := { dst := some 3, op := Go.Op.assign (Go.Operand.tmp 13), type := 4, pos := "rule.go:92", after := #[{ on := 9, ground := Go.Ground.data }, { on := 10, ground := Go.Ground.chain }, { on := 0, ground := Go.Ground.phase }, { on := 1, ground := Go.Ground.phase }, { on := 2, ground := Go.Ground.phase }, { on := 3, ground := Go.Ground.phase }, { on := 4, ground := Go.Ground.phase }, { on := 5, ground := Go.Ground.phase }, { on := 6, ground := Go.Ground.phase }, { on := 7, ground := Go.Ground.phase }, { on := 8, ground := Go.Ground.phase }, { on := 9, ground := Go.Ground.phase }, { on := 10, ground := Go.Ground.phase }], guard := none }
set_option maxRecDepth 20000 in
set_option maxHeartbeats 4000000 in
theorem istype0_any (i : Int) (u : Tm) (v : Tm) (x : Tm) (P : Nat → Prop) (w : World) (su : Value) (sv : Value) (sx : Value) (hfu : u.fine) (hlu : LiesQ w P u.kids su) (hfv : v.fine) (hlv : LiesQ w P v.kids sv) (hfx : x.fine) (hlx : LiesQ w P x.kids sx) (hri : I64 i) (hx0 : 0 ≤ x.i) (hx1 : x.i ≤ 2147483647) : Calls Try.prog 46 #[.agg #[.bool false, .int .i64 u.k, .int .i64 u.i, .int .i64 u.j, .int .i64 u.n, su, .int .i64 v.k, .int .i64 v.i, .int .i64 v.j, .int .i64 v.n, sv, .int .i64 x.k, .int .i64 x.i, .int .i64 x.j, .int .i64 x.n, sx, .int .i64 i]] w fun e w' => e = .returned (.tuple #[.int .i64 (x.i), .bool (osB x i)]) ∧ Kept w w' := by
  have Gu := Lib.hid hfu
  clear hfu
  obtain ⟨au, cu, Su, rfl, -⟩ := hlu.out
  have Gv := Lib.hid hfv
  clear hfv
  obtain ⟨av, cv, Sv, rfl, -⟩ := hlv.out
  have Gx := Lib.hid hfx
  clear hfx
  obtain ⟨ax, cx, Sx, rfl, -⟩ := hlx.out
  have Ri := Lib.hid hri
  clear hri
  have HX0 := Lib.hid hx0
  have HX1 := Lib.hid hx1
  have ew : IntKind.i64.wrap (x.i + 1) = x.i + 1 := IntWalk.i64_in _ (by omega)
  clear hx0 hx1
  obtain ⟨dj, dj1, dj2⟩ := under_of 34 (by kernel_rfl)
  go_enter Try.func46, Try.ntmps46
  go_upto_region 1 with fail
  refine at_code (fun V0 hV0 => ?_)
  obtain ⟨k2, x1, z3⟩ := alloc1 hV0
  have Kk4 := Lib.hid k2
  clear k2
  have Hx1 := Lib.hid x1
  have Z0 := Lib.hid z3
  clear z3 x1 hV0
  have HLu : Hid (LiesQ V0 (Par w V0.heap.size [] P) u.kids _) := (par_in _ _ hlu).later Kk4.out
  clear hlu
  have HLv : Hid (LiesQ V0 (Par w V0.heap.size [] P) v.kids _) := (par_in _ _ hlv).later Kk4.out
  clear hlv
  have HLx : Hid (LiesQ V0 (Par w V0.heap.size [] P) x.kids _) := (par_in _ _ hlx).later Kk4.out
  clear hlx
  have ld5 := partN_cell (r := V0.heap.size) Hx1.out trivial 0 (.bool false) rfl
  have ld6 := partN_cell (r := V0.heap.size) Hx1.out trivial 12 (.int .i64 x.i) rfl
  have kvV0 : SeesN V0 V0.heap.size V0 := seesN_kept _ (kept_refl _)
  go_wp2_with fail
  clear kvV0
  obtain ⟨W7, h8⟩ : ∃ x, World.drew V0 = x := ⟨_, rfl⟩
  have k9 : Kept V0 W7 := by rw [← h8]; exact kept_drew (kept_refl _)
  have Kk10 := Lib.hid k9
  clear k9
  refine wp_region_held_drew (S := SeesN W7 V0.heap.size) (by kernel_rfl) ?_ (fun hHeld => ?_)
  · (try dsimp only)
    rw [h8]
    exact seesN_kept _ (kept_refl _)
  rw [h8] at hHeld ⊢
  clear h8
  refine take_at 0 4 istype0r1_0 (v := ?_) (Or.inl ⟨by rfl, ?_⟩) ?_
  rotate_left 1
  · ((intro w hSw; (try dsimp only at hSw); unfold istype0r1_0; go_simp) <;> with_reducible rfl)
  (try simp only [Act.put, List.setIfInBounds_toArray, List.set_cons_zero, List.set_cons_succ])
  refine take_at 1 5 istype0r1_1 (v := ?_) (Or.inl ⟨by rfl, ?_⟩) ?_
  rotate_left 1
  · ((intro w hSw; (try dsimp only at hSw); unfold istype0r1_1; go_simp) <;> with_reducible rfl)
  (try simp only [Act.put, List.setIfInBounds_toArray, List.set_cons_zero, List.set_cons_succ])
  refine take_at 2 6 istype0r1_2 (v := ?_) (Or.inl ⟨by rfl, ?_⟩) ?_
  rotate_left 1
  · ((intro w hSw; (try dsimp only at hSw); have qV0 := seesN_of Kk10.out hSw; unfold istype0r1_2; go_simp) <;> with_reducible rfl)
  (try simp only [Act.put, List.setIfInBounds_toArray, List.set_cons_zero, List.set_cons_succ])
  refine take_at 3 7 istype0r1_3 (v := ?_) (Or.inl ⟨by rfl, ?_⟩) ?_
  rotate_left 1
  · ((intro w hSw; (try dsimp only at hSw); unfold istype0r1_3; go_simp) <;> with_reducible rfl)
  (try simp only [Act.put, List.setIfInBounds_toArray, List.set_cons_zero, List.set_cons_succ])
  refine take_at 4 8 istype0r1_4 (v := ?_) (Or.inl ⟨by rfl, ?_⟩) ?_
  rotate_left 1
  · ((intro w hSw; (try dsimp only at hSw); have qV0 := seesN_of Kk10.out hSw; unfold istype0r1_4; go_simp) <;> with_reducible rfl)
  (try simp only [Act.put, List.setIfInBounds_toArray, List.set_cons_zero, List.set_cons_succ])
  refine take_at 5 9 istype0r1_5 (v := ?_) (Or.inl ⟨by rfl, ?_⟩) ?_
  rotate_left 1
  · ((intro w hSw; (try dsimp only at hSw); unfold istype0r1_5; go_simp) <;> with_reducible rfl)
  (try simp only [Act.put, List.setIfInBounds_toArray, List.set_cons_zero, List.set_cons_succ])
  refine take_at 6 10 istype0r1_6 (v := ?_) (Or.inl ⟨by rfl, ?_⟩) ?_
  rotate_left 1
  · ((intro w hSw; (try dsimp only at hSw); unfold istype0r1_6; go_simp) <;> with_reducible rfl)
  (try simp only [Act.put, List.setIfInBounds_toArray, List.set_cons_zero, List.set_cons_succ])
  refine take_at 7 11 istype0r1_7 (yields_part (w.heap.size) (0) 34 (.tmp 1) #[.bool false, .int .i64 u.k, .int .i64 u.i, .int .i64 u.j, .int .i64 u.n, (.slice au u.kids.length cu), .int .i64 v.k, .int .i64 v.i, .int .i64 v.j, .int .i64 v.n, (.slice av v.kids.length cv), .int .i64 x.k, .int .i64 x.i, .int .i64 x.j, .int .i64 x.n, (.slice ax x.kids.length cx), .int .i64 i] dj (fun _ h => seesN_blk Hx1.out trivial (seesN_of Kk10.out h)) (by rfl) rfl (by rfl) (by rfl) dj1 (by cases dj <;> first | rfl | exact dj2) (by kernel_rfl)) ?_
  (try simp only [Act.put, List.setIfInBounds_toArray, List.set_cons_zero, List.set_cons_succ])
  refine wpAnyH_ready (rs := [8]) (by kernel_rfl) (by simp) ?_
  refine AllReadyH.cons (o := istype0r1_8) rfl (fun K hK => ?_) ?_
  · unfold istype0r1_8
    go_simp
    refine (ofsort0_any i u v x (Par w V0.heap.size [] P) W7 ((.slice au u.kids.length cu)) ((.slice av v.kids.length cv)) ((.slice ax x.kids.length cx)) Gu.out (HLu.out.later Kk10.out) Gv.out (HLv.out.later Kk10.out) Gx.out (HLx.out.later Kk10.out) Ri.out HX0.out HX1.out).mono ?_
    obtain ⟨rb14, hb13⟩ : ∃ qb, (osB x i) = qb := ⟨_, rfl⟩
    rw [hb13]
    have Hhb13 := Lib.hid hb13
    clear hb13
    rintro e w11 ⟨rfl, k12⟩
    have Kk15 := Lib.hid k12
    clear k12
    cases rb14 with
    | false =>
      clear hHeld
      refine hK.out _ _ (seesN_kept _ Kk15.out) (fun hHeld => ?_)
      clear hK K
      (try simp only [Act.put, List.setIfInBounds_toArray, List.set_cons_zero, List.set_cons_succ])
      refine take_at 9 13 istype0r1_9 (v := ?_) (Or.inl ⟨by rfl, ?_⟩) ?_
      rotate_left 1
      · ((intro w hSw; (try dsimp only at hSw); unfold istype0r1_9; go_simp) <;> with_reducible rfl)
      (try simp only [Act.put, List.setIfInBounds_toArray, List.set_cons_zero, List.set_cons_succ])
      refine take_at 10 2 istype0r1_10 (v := ?_) (Or.inl ⟨by rfl, ?_⟩) ?_
      rotate_left 1
      · ((intro w hSw; (try dsimp only at hSw); unfold istype0r1_10; go_simp) <;> with_reducible rfl)
      (try simp only [Act.put, List.setIfInBounds_toArray, List.set_cons_zero, List.set_cons_succ])
      refine take_at 11 3 istype0r1_11 (v := ?_) (Or.inl ⟨by rfl, ?_⟩) ?_
      rotate_left 1
      · ((intro w hSw; (try dsimp only at hSw); unfold istype0r1_11; go_simp) <;> with_reducible rfl)
      (try simp only [Act.put, List.setIfInBounds_toArray, List.set_cons_zero, List.set_cons_succ])
      refine wpAnyH_done (by kernel_rfl) ?_ _
      clear hHeld
      have kvV0 : SeesN V0 V0.heap.size w11 := seesN_kept _ (kept_trans Kk10.out Kk15.out)
      go_wp2
      go_ret2
      exact ⟨by first | rfl | (rw [show (osB x i) = false from by rw [Hhb13.out]; (try rfl)]; rfl), (kept_trans Kk4.out (kept_trans Kk10.out Kk15.out))⟩
    | true =>
      clear hHeld
      refine hK.out _ _ (seesN_kept _ Kk15.out) (fun hHeld => ?_)
      clear hK K
      (try simp only [Act.put, List.setIfInBounds_toArray, List.set_cons_zero, List.set_cons_succ])
      refine take_at 9 13 istype0r1_9 (v := ?_) (Or.inl ⟨by rfl, ?_⟩) ?_
      rotate_left 1
      · ((intro w hSw; (try dsimp only at hSw); unfold istype0r1_9; go_simp) <;> with_reducible rfl)
      (try simp only [Act.put, List.setIfInBounds_toArray, List.set_cons_zero, List.set_cons_succ])
      refine take_at 10 2 istype0r1_10 (v := ?_) (Or.inl ⟨by rfl, ?_⟩) ?_
      rotate_left 1
      · ((intro w hSw; (try dsimp only at hSw); unfold istype0r1_10; go_simp) <;> with_reducible rfl)
      (try simp only [Act.put, List.setIfInBounds_toArray, List.set_cons_zero, List.set_cons_succ])
      refine take_at 11 3 istype0r1_11 (v := ?_) (Or.inl ⟨by rfl, ?_⟩) ?_
      rotate_left 1
      · ((intro w hSw; (try dsimp only at hSw); unfold istype0r1_11; go_simp) <;> with_reducible rfl)
      (try simp only [Act.put, List.setIfInBounds_toArray, List.set_cons_zero, List.set_cons_succ])
      refine wpAnyH_done (by kernel_rfl) ?_ _
      clear hHeld
      have kvV0 : SeesN V0 V0.heap.size w11 := seesN_kept _ (kept_trans Kk10.out Kk15.out)
      go_wp2
      go_ret2
      exact ⟨by first | rfl | (rw [show (osB x i) = true from by rw [Hhb13.out]; (try rfl)]; rfl), (kept_trans Kk4.out (kept_trans Kk10.out Kk15.out))⟩
  exact AllReadyH.nil

def istype1r1_0 : Oper := { dst := some 4, op := Go.Op.fieldAddr 34 (Go.Operand.tmp 1) 3, type := 0, pos := "rule.go:92", after := #[], guard := none }
def istype1r1_1 : Oper := { dst := some 5, op := Go.Op.fieldAddr 32 (Go.Operand.tmp 4) 1, type := 0, pos := "rule.go:92", after := #[{ on := 0, ground := Go.Ground.data }], guard := none }
def istype1r1_2 : Oper := { dst := some 6, op := Go.Op.load 3 (Go.Operand.tmp 5), type := 3, pos := "rule.go:92", after := #[{ on := 1, ground := Go.Ground.data }], guard := none }
def istype1r1_3 : Oper := { dst := some 7, op := Go.Op.fieldAddr 34 (Go.Operand.tmp 1) 0, type := 0, pos := "rule.go:92", after := #[], guard := none }
def istype1r1_4 : Oper := { dst := some 8, op := Go.Op.load 4 (Go.Operand.tmp 7), type := 4, pos := "rule.go:92", after := #[{ on := 3, ground := Go.Ground.data }], guard := none }
def istype1r1_5 : Oper := { dst := some 9, op := Go.Op.unOp Go.UnOp.not 4 (Go.Operand.tmp 8), type := 4, pos := "rule.go:92", after := #[{ on := 4, ground := Go.Ground.data }], guard := none }
def istype1r1_6 : Oper := { dst := some 10, op := Go.Op.move (Go.Operand.tmp 9), type := 4, pos := "rule.go:92", after := #[{ on := 5, ground := Go.Ground.data }], guard := none }
def istype1r1_7 : Oper := { dst := some 11, op := Go.Op.load 34 (Go.Operand.tmp 1), type := 34, pos := "rule.go:92", after := #[{ on := 6, ground := Go.Ground.guard }], guard := some (6, true) }
def istype1r1_8 : Oper := { dst := some 12, op := Go.Op.call { callee := Go.Callee.value (Go.Operand.func 73), args := #[Go.Operand.tmp 11], argTypes := #[34] }, type := 4, pos := "rule.go:92", after := #[{ on := 7, ground := Go.Ground.data }, { on := 6, ground := Go.Ground.chain }, { on := 6, ground := Go.Ground.guard }], guard := some (6, true) }
def istype1r1_9 : Oper := { dst := some 13, op := Go.Op.pick (Go.Operand.tmp 10) (Go.Operand.tmp 12) (Go.Operand.const (Go.Value.bool false)), type := 4, pos := "rule.go:92", after := #[{ on := 6, ground := Go.Ground.data }, { on := 8, ground := Go.Ground.data }, { on := 10, ground := Go.Ground.gcOnly Go.Departure.lateStores }], guard := none }
def istype1r1_10 : Oper := { dst := some 2, op := Go.Op.assign (Go.Operand.tmp 6), type := 3, pos := "rule.go:92", after := #[{ on := 2, ground := Go.Ground.data }, { on := 8, ground := Go.Ground.chain }, { on := 0, ground := Go.Ground.phase }, { on := 1, ground := Go.Ground.phase }, { on := 2, ground := Go.Ground.phase }, { on := 3, ground := Go.Ground.textOnly Go.Departure.lateStores }, { on := 4, ground := Go.Ground.textOnly Go.Departure.lateStores }, { on := 5, ground := Go.Ground.textOnly Go.Departure.lateStores }, { on := 6, ground := Go.Ground.textOnly Go.Departure.lateStores }, { on := 7, ground := Go.Ground.textOnly Go.Departure.lateStores }, { on := 8, ground := Go.Ground.textOnly Go.Departure.lateStoresUnsure }, { on := 9, ground := Go.Ground.textOnly Go.Departure.lateStores }], guard := none }
def istype1r1_11 : Oper := { dst := some 3, op := Go.Op.assign (Go.Operand.tmp 13), type := 4, pos := "rule.go:92", after := #[{ on := 9, ground := Go.Ground.data }, { on := 10, ground := Go.Ground.chain }, { on := 0, ground := Go.Ground.phase }, { on := 1, ground := Go.Ground.phase }, { on := 2, ground := Go.Ground.phase }, { on := 3, ground := Go.Ground.phase }, { on := 4, ground := Go.Ground.phase }, { on := 5, ground := Go.Ground.phase }, { on := 6, ground := Go.Ground.phase }, { on := 7, ground := Go.Ground.phase }, { on := 8, ground := Go.Ground.phase }, { on := 9, ground := Go.Ground.phase }, { on := 10, ground := Go.Ground.phase }], guard := none }
set_option maxRecDepth 20000 in
set_option maxHeartbeats 4000000 in
theorem istype1_any (i : Int) (u : Tm) (v : Tm) (x : Tm) (P : Nat → Prop) (w : World) (su : Value) (sv : Value) (sx : Value) (hfu : u.fine) (hlu : LiesQ w P u.kids su) (hfv : v.fine) (hlv : LiesQ w P v.kids sv) (hfx : x.fine) (hlx : LiesQ w P x.kids sx) (hri : I64 i) (hx0 : 0 ≤ x.i) (hx1 : x.i ≤ 2147483647) : Calls Try.prog 46 #[.agg #[.bool true, .int .i64 u.k, .int .i64 u.i, .int .i64 u.j, .int .i64 u.n, su, .int .i64 v.k, .int .i64 v.i, .int .i64 v.j, .int .i64 v.n, sv, .int .i64 x.k, .int .i64 x.i, .int .i64 x.j, .int .i64 x.n, sx, .int .i64 i]] w fun e w' => e = .returned (.tuple #[.int .i64 (x.i), .bool (false)]) ∧ Kept w w' := by
  have Gu := Lib.hid hfu
  clear hfu
  obtain ⟨au, cu, Su, rfl, -⟩ := hlu.out
  have Gv := Lib.hid hfv
  clear hfv
  obtain ⟨av, cv, Sv, rfl, -⟩ := hlv.out
  have Gx := Lib.hid hfx
  clear hfx
  obtain ⟨ax, cx, Sx, rfl, -⟩ := hlx.out
  have Ri := Lib.hid hri
  clear hri
  have HX0 := Lib.hid hx0
  have HX1 := Lib.hid hx1
  have ew : IntKind.i64.wrap (x.i + 1) = x.i + 1 := IntWalk.i64_in _ (by omega)
  clear hx0 hx1
  obtain ⟨dj, dj1, dj2⟩ := under_of 34 (by kernel_rfl)
  go_enter Try.func46, Try.ntmps46
  go_upto_region 1 with fail
  refine at_code (fun V0 hV0 => ?_)
  obtain ⟨k2, x1, z3⟩ := alloc1 hV0
  have Kk4 := Lib.hid k2
  clear k2
  have Hx1 := Lib.hid x1
  have Z0 := Lib.hid z3
  clear z3 x1 hV0
  have HLu : Hid (LiesQ V0 (Par w V0.heap.size [] P) u.kids _) := (par_in _ _ hlu).later Kk4.out
  clear hlu
  have HLv : Hid (LiesQ V0 (Par w V0.heap.size [] P) v.kids _) := (par_in _ _ hlv).later Kk4.out
  clear hlv
  have HLx : Hid (LiesQ V0 (Par w V0.heap.size [] P) x.kids _) := (par_in _ _ hlx).later Kk4.out
  clear hlx
  have ld5 := partN_cell (r := V0.heap.size) Hx1.out trivial 0 (.bool true) rfl
  have ld6 := partN_cell (r := V0.heap.size) Hx1.out trivial 12 (.int .i64 x.i) rfl
  have kvV0 : SeesN V0 V0.heap.size V0 := seesN_kept _ (kept_refl _)
  go_wp2_with fail
  clear kvV0
  obtain ⟨W7, h8⟩ : ∃ x, World.drew V0 = x := ⟨_, rfl⟩
  have k9 : Kept V0 W7 := by rw [← h8]; exact kept_drew (kept_refl _)
  have Kk10 := Lib.hid k9
  clear k9
  refine wp_region_held_drew (S := SeesN W7 V0.heap.size) (by kernel_rfl) ?_ (fun hHeld => ?_)
  · (try dsimp only)
    rw [h8]
    exact seesN_kept _ (kept_refl _)
  rw [h8] at hHeld ⊢
  clear h8
  refine take_at 0 4 istype1r1_0 (v := ?_) (Or.inl ⟨by rfl, ?_⟩) ?_
  rotate_left 1
  · ((intro w hSw; (try dsimp only at hSw); unfold istype1r1_0; go_simp) <;> with_reducible rfl)
  (try simp only [Act.put, List.setIfInBounds_toArray, List.set_cons_zero, List.set_cons_succ])
  refine take_at 1 5 istype1r1_1 (v := ?_) (Or.inl ⟨by rfl, ?_⟩) ?_
  rotate_left 1
  · ((intro w hSw; (try dsimp only at hSw); unfold istype1r1_1; go_simp) <;> with_reducible rfl)
  (try simp only [Act.put, List.setIfInBounds_toArray, List.set_cons_zero, List.set_cons_succ])
  refine take_at 2 6 istype1r1_2 (v := ?_) (Or.inl ⟨by rfl, ?_⟩) ?_
  rotate_left 1
  · ((intro w hSw; (try dsimp only at hSw); have qV0 := seesN_of Kk10.out hSw; unfold istype1r1_2; go_simp) <;> with_reducible rfl)
  (try simp only [Act.put, List.setIfInBounds_toArray, List.set_cons_zero, List.set_cons_succ])
  refine take_at 3 7 istype1r1_3 (v := ?_) (Or.inl ⟨by rfl, ?_⟩) ?_
  rotate_left 1
  · ((intro w hSw; (try dsimp only at hSw); unfold istype1r1_3; go_simp) <;> with_reducible rfl)
  (try simp only [Act.put, List.setIfInBounds_toArray, List.set_cons_zero, List.set_cons_succ])
  refine take_at 4 8 istype1r1_4 (v := ?_) (Or.inl ⟨by rfl, ?_⟩) ?_
  rotate_left 1
  · ((intro w hSw; (try dsimp only at hSw); have qV0 := seesN_of Kk10.out hSw; unfold istype1r1_4; go_simp) <;> with_reducible rfl)
  (try simp only [Act.put, List.setIfInBounds_toArray, List.set_cons_zero, List.set_cons_succ])
  refine take_at 5 9 istype1r1_5 (v := ?_) (Or.inl ⟨by rfl, ?_⟩) ?_
  rotate_left 1
  · ((intro w hSw; (try dsimp only at hSw); unfold istype1r1_5; go_simp) <;> with_reducible rfl)
  (try simp only [Act.put, List.setIfInBounds_toArray, List.set_cons_zero, List.set_cons_succ])
  refine take_at 6 10 istype1r1_6 (v := ?_) (Or.inl ⟨by rfl, ?_⟩) ?_
  rotate_left 1
  · ((intro w hSw; (try dsimp only at hSw); unfold istype1r1_6; go_simp) <;> with_reducible rfl)
  (try simp only [Act.put, List.setIfInBounds_toArray, List.set_cons_zero, List.set_cons_succ])
  refine take_at 7 11 istype1r1_7 (v := undef) (Or.inr ⟨by rfl, rfl⟩) ?_
  (try simp only [Act.put, List.setIfInBounds_toArray, List.set_cons_zero, List.set_cons_succ])
  refine take_at 8 12 istype1r1_8 (v := undef) (Or.inr ⟨by rfl, rfl⟩) ?_
  (try simp only [Act.put, List.setIfInBounds_toArray, List.set_cons_zero, List.set_cons_succ])
  refine take_at 9 13 istype1r1_9 (v := ?_) (Or.inl ⟨by rfl, ?_⟩) ?_
  rotate_left 1
  · ((intro w hSw; (try dsimp only at hSw); unfold istype1r1_9; go_simp) <;> with_reducible rfl)
  (try simp only [Act.put, List.setIfInBounds_toArray, List.set_cons_zero, List.set_cons_succ])
  refine take_at 10 2 istype1r1_10 (v := ?_) (Or.inl ⟨by rfl, ?_⟩) ?_
  rotate_left 1
  · ((intro w hSw; (try dsimp only at hSw); unfold istype1r1_10; go_simp) <;> with_reducible rfl)
  (try simp only [Act.put, List.setIfInBounds_toArray, List.set_cons_zero, List.set_cons_succ])
  refine take_at 11 3 istype1r1_11 (v := ?_) (Or.inl ⟨by rfl, ?_⟩) ?_
  rotate_left 1
  · ((intro w hSw; (try dsimp only at hSw); unfold istype1r1_11; go_simp) <;> with_reducible rfl)
  (try simp only [Act.put, List.setIfInBounds_toArray, List.set_cons_zero, List.set_cons_succ])
  refine wpAnyH_done (by kernel_rfl) ?_ _
  clear hHeld
  have kvV0 : SeesN V0 V0.heap.size W7 := seesN_kept _ Kk10.out
  go_wp2
  go_ret2
  exact ⟨by first | rfl | (rw [show (false) = false from by (try rfl)]; rfl), (kept_trans Kk4.out Kk10.out)⟩

def aretypes0r1_0 : Oper := { dst := some 4, op := Go.Op.fieldAddr 34 (Go.Operand.tmp 1) 3, type := 0, pos := "rule.go:97", after := #[], guard := none }
def aretypes0r1_1 : Oper := { dst := some 5, op := Go.Op.fieldAddr 32 (Go.Operand.tmp 4) 1, type := 0, pos := "rule.go:97", after := #[{ on := 0, ground := Go.Ground.data }], guard := none }
def aretypes0r1_2 : Oper := { dst := some 6, op := Go.Op.load 3 (Go.Operand.tmp 5), type := 3, pos := "rule.go:97", after := #[{ on := 1, ground := Go.Ground.data }], guard := none }
def aretypes0r1_3 : Oper := { dst := some 7, op := Go.Op.fieldAddr 34 (Go.Operand.tmp 1) 0, type := 0, pos := "rule.go:97", after := #[], guard := none }
def aretypes0r1_4 : Oper := { dst := some 8, op := Go.Op.load 4 (Go.Operand.tmp 7), type := 4, pos := "rule.go:97", after := #[{ on := 3, ground := Go.Ground.data }], guard := none }
def aretypes0r1_5 : Oper := { dst := some 9, op := Go.Op.move (Go.Operand.tmp 8), type := 4, pos := "rule.go:97", after := #[{ on := 4, ground := Go.Ground.data }], guard := none }
def aretypes0r1_6 : Oper := { dst := some 10, op := Go.Op.load 34 (Go.Operand.tmp 1), type := 34, pos := "rule.go:97", after := #[{ on := 5, ground := Go.Ground.guard }], guard := some (5, true) }
def aretypes0r1_7 : Oper := { dst := some 11, op := Go.Op.call { callee := Go.Callee.value (Go.Operand.func 73), args := #[Go.Operand.tmp 10], argTypes := #[34] }, type := 4, pos := "rule.go:97", after := #[{ on := 6, ground := Go.Ground.data }, { on := 5, ground := Go.Ground.chain }, { on := 5, ground := Go.Ground.guard }], guard := some (5, true) }
def aretypes0r1_8 : Oper := { dst := some 12, op := Go.Op.pick (Go.Operand.tmp 9) (Go.Operand.tmp 11) (Go.Operand.const (Go.Value.bool false)), type := 4, pos := "rule.go:97", after := #[{ on := 5, ground := Go.Ground.data }, { on := 7, ground := Go.Ground.data }, { on := 9, ground := Go.Ground.gcOnly Go.Departure.lateStores }], guard := none }
def aretypes0r1_9 : Oper := { dst := some 2, op := Go.Op.assign (Go.Operand.tmp 6), type := 3, pos := "rule.go:97", after := #[{ on := 2, ground := Go.Ground.data }, { on := 7, ground := Go.Ground.chain }, { on := 0, ground := Go.Ground.phase }, { on := 1, ground := Go.Ground.phase }, { on := 2, ground := Go.Ground.phase }, { on := 3, ground := Go.Ground.textOnly Go.Departure.lateStores }, { on := 4, ground := Go.Ground.textOnly Go.Departure.lateStores }, { on := 5, ground := Go.Ground.textOnly Go.Departure.lateStores }, { on := 6, ground := Go.Ground.textOnly Go.Departure.lateStores }, { on := 7, ground := Go.Ground.textOnly Go.Departure.lateStoresUnsure }, { on := 8, ground := Go.Ground.textOnly Go.Departure.lateStores }], guard := none }
def aretypes0r1_10 : Oper := { dst := some 3, op := Go.Op.assign (Go.Operand.tmp 12), type := 4, pos := "rule.go:97", after := #[{ on := 8, ground := Go.Ground.data }, { on := 9, ground := Go.Ground.chain }, { on := 0, ground := Go.Ground.phase }, { on := 1, ground := Go.Ground.phase }, { on := 2, ground := Go.Ground.phase }, { on := 3, ground := Go.Ground.phase }, { on := 4, ground := Go.Ground.phase }, { on := 5, ground := Go.Ground.phase }, { on := 6, ground := Go.Ground.phase }, { on := 7, ground := Go.Ground.phase }, { on := 8, ground := Go.Ground.phase }, { on := 9, ground := Go.Ground.phase }], guard := none }
set_option maxRecDepth 20000 in
set_option maxHeartbeats 4000000 in
theorem aretypes0_any (i : Int) (u : Tm) (v : Tm) (x : Tm) (P : Nat → Prop) (w : World) (su : Value) (sv : Value) (sx : Value) (hfu : u.fine) (hlu : LiesQ w P u.kids su) (hfv : v.fine) (hlv : LiesQ w P v.kids sv) (hfx : x.fine) (hlx : LiesQ w P x.kids sx) (hri : I64 i) (hx0 : 0 ≤ x.i) (hx1 : x.i ≤ 2147483647) : Calls Try.prog 47 #[.agg #[.bool false, .int .i64 u.k, .int .i64 u.i, .int .i64 u.j, .int .i64 u.n, su, .int .i64 v.k, .int .i64 v.i, .int .i64 v.j, .int .i64 v.n, sv, .int .i64 x.k, .int .i64 x.i, .int .i64 x.j, .int .i64 x.n, sx, .int .i64 i]] w fun e w' => e = .returned (.tuple #[.int .i64 (x.i), .bool (false)]) ∧ Kept w w' := by
  have Gu := Lib.hid hfu
  clear hfu
  obtain ⟨au, cu, Su, rfl, -⟩ := hlu.out
  have Gv := Lib.hid hfv
  clear hfv
  obtain ⟨av, cv, Sv, rfl, -⟩ := hlv.out
  have Gx := Lib.hid hfx
  clear hfx
  obtain ⟨ax, cx, Sx, rfl, -⟩ := hlx.out
  have Ri := Lib.hid hri
  clear hri
  have HX0 := Lib.hid hx0
  have HX1 := Lib.hid hx1
  have ew : IntKind.i64.wrap (x.i + 1) = x.i + 1 := IntWalk.i64_in _ (by omega)
  clear hx0 hx1
  obtain ⟨dj, dj1, dj2⟩ := under_of 34 (by kernel_rfl)
  go_enter Try.func47, Try.ntmps47
  go_upto_region 1 with fail
  refine at_code (fun V0 hV0 => ?_)
  obtain ⟨k2, x1, z3⟩ := alloc1 hV0
  have Kk4 := Lib.hid k2
  clear k2
  have Hx1 := Lib.hid x1
  have Z0 := Lib.hid z3
  clear z3 x1 hV0
  have HLu : Hid (LiesQ V0 (Par w V0.heap.size [] P) u.kids _) := (par_in _ _ hlu).later Kk4.out
  clear hlu
  have HLv : Hid (LiesQ V0 (Par w V0.heap.size [] P) v.kids _) := (par_in _ _ hlv).later Kk4.out
  clear hlv
  have HLx : Hid (LiesQ V0 (Par w V0.heap.size [] P) x.kids _) := (par_in _ _ hlx).later Kk4.out
  clear hlx
  have ld5 := partN_cell (r := V0.heap.size) Hx1.out trivial 0 (.bool false) rfl
  have ld6 := partN_cell (r := V0.heap.size) Hx1.out trivial 12 (.int .i64 x.i) rfl
  have kvV0 : SeesN V0 V0.heap.size V0 := seesN_kept _ (kept_refl _)
  go_wp2_with fail
  clear kvV0
  obtain ⟨W7, h8⟩ : ∃ x, World.drew V0 = x := ⟨_, rfl⟩
  have k9 : Kept V0 W7 := by rw [← h8]; exact kept_drew (kept_refl _)
  have Kk10 := Lib.hid k9
  clear k9
  refine wp_region_held_drew (S := SeesN W7 V0.heap.size) (by kernel_rfl) ?_ (fun hHeld => ?_)
  · (try dsimp only)
    rw [h8]
    exact seesN_kept _ (kept_refl _)
  rw [h8] at hHeld ⊢
  clear h8
  refine take_at 0 4 aretypes0r1_0 (v := ?_) (Or.inl ⟨by rfl, ?_⟩) ?_
  rotate_left 1
  · ((intro w hSw; (try dsimp only at hSw); unfold aretypes0r1_0; go_simp) <;> with_reducible rfl)
  (try simp only [Act.put, List.setIfInBounds_toArray, List.set_cons_zero, List.set_cons_succ])
  refine take_at 1 5 aretypes0r1_1 (v := ?_) (Or.inl ⟨by rfl, ?_⟩) ?_
  rotate_left 1
  · ((intro w hSw; (try dsimp only at hSw); unfold aretypes0r1_1; go_simp) <;> with_reducible rfl)
  (try simp only [Act.put, List.setIfInBounds_toArray, List.set_cons_zero, List.set_cons_succ])
  refine take_at 2 6 aretypes0r1_2 (v := ?_) (Or.inl ⟨by rfl, ?_⟩) ?_
  rotate_left 1
  · ((intro w hSw; (try dsimp only at hSw); have qV0 := seesN_of Kk10.out hSw; unfold aretypes0r1_2; go_simp) <;> with_reducible rfl)
  (try simp only [Act.put, List.setIfInBounds_toArray, List.set_cons_zero, List.set_cons_succ])
  refine take_at 3 7 aretypes0r1_3 (v := ?_) (Or.inl ⟨by rfl, ?_⟩) ?_
  rotate_left 1
  · ((intro w hSw; (try dsimp only at hSw); unfold aretypes0r1_3; go_simp) <;> with_reducible rfl)
  (try simp only [Act.put, List.setIfInBounds_toArray, List.set_cons_zero, List.set_cons_succ])
  refine take_at 4 8 aretypes0r1_4 (v := ?_) (Or.inl ⟨by rfl, ?_⟩) ?_
  rotate_left 1
  · ((intro w hSw; (try dsimp only at hSw); have qV0 := seesN_of Kk10.out hSw; unfold aretypes0r1_4; go_simp) <;> with_reducible rfl)
  (try simp only [Act.put, List.setIfInBounds_toArray, List.set_cons_zero, List.set_cons_succ])
  refine take_at 5 9 aretypes0r1_5 (v := ?_) (Or.inl ⟨by rfl, ?_⟩) ?_
  rotate_left 1
  · ((intro w hSw; (try dsimp only at hSw); unfold aretypes0r1_5; go_simp) <;> with_reducible rfl)
  (try simp only [Act.put, List.setIfInBounds_toArray, List.set_cons_zero, List.set_cons_succ])
  refine take_at 6 10 aretypes0r1_6 (v := undef) (Or.inr ⟨by rfl, rfl⟩) ?_
  (try simp only [Act.put, List.setIfInBounds_toArray, List.set_cons_zero, List.set_cons_succ])
  refine take_at 7 11 aretypes0r1_7 (v := undef) (Or.inr ⟨by rfl, rfl⟩) ?_
  (try simp only [Act.put, List.setIfInBounds_toArray, List.set_cons_zero, List.set_cons_succ])
  refine take_at 8 12 aretypes0r1_8 (v := ?_) (Or.inl ⟨by rfl, ?_⟩) ?_
  rotate_left 1
  · ((intro w hSw; (try dsimp only at hSw); unfold aretypes0r1_8; go_simp) <;> with_reducible rfl)
  (try simp only [Act.put, List.setIfInBounds_toArray, List.set_cons_zero, List.set_cons_succ])
  refine take_at 9 2 aretypes0r1_9 (v := ?_) (Or.inl ⟨by rfl, ?_⟩) ?_
  rotate_left 1
  · ((intro w hSw; (try dsimp only at hSw); unfold aretypes0r1_9; go_simp) <;> with_reducible rfl)
  (try simp only [Act.put, List.setIfInBounds_toArray, List.set_cons_zero, List.set_cons_succ])
  refine take_at 10 3 aretypes0r1_10 (v := ?_) (Or.inl ⟨by rfl, ?_⟩) ?_
  rotate_left 1
  · ((intro w hSw; (try dsimp only at hSw); unfold aretypes0r1_10; go_simp) <;> with_reducible rfl)
  (try simp only [Act.put, List.setIfInBounds_toArray, List.set_cons_zero, List.set_cons_succ])
  refine wpAnyH_done (by kernel_rfl) ?_ _
  clear hHeld
  have kvV0 : SeesN V0 V0.heap.size W7 := seesN_kept _ Kk10.out
  go_wp2
  go_ret2
  exact ⟨by first | rfl | (rw [show (false) = false from by (try rfl)]; rfl), (kept_trans Kk4.out Kk10.out)⟩

def aretypes1r1_0 : Oper := { dst := some 4, op := Go.Op.fieldAddr 34 (Go.Operand.tmp 1) 3, type := 0, pos := "rule.go:97", after := #[], guard := none }
def aretypes1r1_1 : Oper := { dst := some 5, op := Go.Op.fieldAddr 32 (Go.Operand.tmp 4) 1, type := 0, pos := "rule.go:97", after := #[{ on := 0, ground := Go.Ground.data }], guard := none }
def aretypes1r1_2 : Oper := { dst := some 6, op := Go.Op.load 3 (Go.Operand.tmp 5), type := 3, pos := "rule.go:97", after := #[{ on := 1, ground := Go.Ground.data }], guard := none }
def aretypes1r1_3 : Oper := { dst := some 7, op := Go.Op.fieldAddr 34 (Go.Operand.tmp 1) 0, type := 0, pos := "rule.go:97", after := #[], guard := none }
def aretypes1r1_4 : Oper := { dst := some 8, op := Go.Op.load 4 (Go.Operand.tmp 7), type := 4, pos := "rule.go:97", after := #[{ on := 3, ground := Go.Ground.data }], guard := none }
def aretypes1r1_5 : Oper := { dst := some 9, op := Go.Op.move (Go.Operand.tmp 8), type := 4, pos := "rule.go:97", after := #[{ on := 4, ground := Go.Ground.data }], guard := none }
def aretypes1r1_6 : Oper := { dst := some 10, op := Go.Op.load 34 (Go.Operand.tmp 1), type := 34, pos := "rule.go:97", after := #[{ on := 5, ground := Go.Ground.guard }], guard := some (5, true) }
def aretypes1r1_7 : Oper := { dst := some 11, op := Go.Op.call { callee := Go.Callee.value (Go.Operand.func 73), args := #[Go.Operand.tmp 10], argTypes := #[34] }, type := 4, pos := "rule.go:97", after := #[{ on := 6, ground := Go.Ground.data }, { on := 5, ground := Go.Ground.chain }, { on := 5, ground := Go.Ground.guard }], guard := some (5, true) }
def aretypes1r1_8 : Oper := { dst := some 12, op := Go.Op.pick (Go.Operand.tmp 9) (Go.Operand.tmp 11) (Go.Operand.const (Go.Value.bool false)), type := 4, pos := "rule.go:97", after := #[{ on := 5, ground := Go.Ground.data }, { on := 7, ground := Go.Ground.data }, { on := 9, ground := Go.Ground.gcOnly Go.Departure.lateStores }], guard := none }
def aretypes1r1_9 : Oper := { dst := some 2, op := Go.Op.assign (Go.Operand.tmp 6), type := 3, pos := "rule.go:97", after := #[{ on := 2, ground := Go.Ground.data }, { on := 7, ground := Go.Ground.chain }, { on := 0, ground := Go.Ground.phase }, { on := 1, ground := Go.Ground.phase }, { on := 2, ground := Go.Ground.phase }, { on := 3, ground := Go.Ground.textOnly Go.Departure.lateStores }, { on := 4, ground := Go.Ground.textOnly Go.Departure.lateStores }, { on := 5, ground := Go.Ground.textOnly Go.Departure.lateStores }, { on := 6, ground := Go.Ground.textOnly Go.Departure.lateStores }, { on := 7, ground := Go.Ground.textOnly Go.Departure.lateStoresUnsure }, { on := 8, ground := Go.Ground.textOnly Go.Departure.lateStores }], guard := none }
def aretypes1r1_10 : Oper := { dst := some 3, op := Go.Op.assign (Go.Operand.tmp 12), type := 4, pos := "rule.go:97", after := #[{ on := 8, ground := Go.Ground.data }, { on := 9, ground := Go.Ground.chain }, { on := 0, ground := Go.Ground.phase }, { on := 1, ground := Go.Ground.phase }, { on := 2, ground := Go.Ground.phase }, { on := 3, ground := Go.Ground.phase }, { on := 4, ground := Go.Ground.phase }, { on := 5, ground := Go.Ground.phase }, { on := 6, ground := Go.Ground.phase }, { on := 7, ground := Go.Ground.phase }, { on := 8, ground := Go.Ground.phase }, { on := 9, ground := Go.Ground.phase }], guard := none }
set_option maxRecDepth 20000 in
set_option maxHeartbeats 4000000 in
theorem aretypes1_any (i : Int) (u : Tm) (v : Tm) (x : Tm) (P : Nat → Prop) (w : World) (su : Value) (sv : Value) (sx : Value) (hfu : u.fine) (hlu : LiesQ w P u.kids su) (hfv : v.fine) (hlv : LiesQ w P v.kids sv) (hfx : x.fine) (hlx : LiesQ w P x.kids sx) (hri : I64 i) (hx0 : 0 ≤ x.i) (hx1 : x.i ≤ 2147483647) : Calls Try.prog 47 #[.agg #[.bool true, .int .i64 u.k, .int .i64 u.i, .int .i64 u.j, .int .i64 u.n, su, .int .i64 v.k, .int .i64 v.i, .int .i64 v.j, .int .i64 v.n, sv, .int .i64 x.k, .int .i64 x.i, .int .i64 x.j, .int .i64 x.n, sx, .int .i64 i]] w fun e w' => e = .returned (.tuple #[.int .i64 (x.i), .bool (osB x i)]) ∧ Kept w w' := by
  have Gu := Lib.hid hfu
  clear hfu
  obtain ⟨au, cu, Su, rfl, -⟩ := hlu.out
  have Gv := Lib.hid hfv
  clear hfv
  obtain ⟨av, cv, Sv, rfl, -⟩ := hlv.out
  have Gx := Lib.hid hfx
  clear hfx
  obtain ⟨ax, cx, Sx, rfl, -⟩ := hlx.out
  have Ri := Lib.hid hri
  clear hri
  have HX0 := Lib.hid hx0
  have HX1 := Lib.hid hx1
  have ew : IntKind.i64.wrap (x.i + 1) = x.i + 1 := IntWalk.i64_in _ (by omega)
  clear hx0 hx1
  obtain ⟨dj, dj1, dj2⟩ := under_of 34 (by kernel_rfl)
  go_enter Try.func47, Try.ntmps47
  go_upto_region 1 with fail
  refine at_code (fun V0 hV0 => ?_)
  obtain ⟨k2, x1, z3⟩ := alloc1 hV0
  have Kk4 := Lib.hid k2
  clear k2
  have Hx1 := Lib.hid x1
  have Z0 := Lib.hid z3
  clear z3 x1 hV0
  have HLu : Hid (LiesQ V0 (Par w V0.heap.size [] P) u.kids _) := (par_in _ _ hlu).later Kk4.out
  clear hlu
  have HLv : Hid (LiesQ V0 (Par w V0.heap.size [] P) v.kids _) := (par_in _ _ hlv).later Kk4.out
  clear hlv
  have HLx : Hid (LiesQ V0 (Par w V0.heap.size [] P) x.kids _) := (par_in _ _ hlx).later Kk4.out
  clear hlx
  have ld5 := partN_cell (r := V0.heap.size) Hx1.out trivial 0 (.bool true) rfl
  have ld6 := partN_cell (r := V0.heap.size) Hx1.out trivial 12 (.int .i64 x.i) rfl
  have kvV0 : SeesN V0 V0.heap.size V0 := seesN_kept _ (kept_refl _)
  go_wp2_with fail
  clear kvV0
  obtain ⟨W7, h8⟩ : ∃ x, World.drew V0 = x := ⟨_, rfl⟩
  have k9 : Kept V0 W7 := by rw [← h8]; exact kept_drew (kept_refl _)
  have Kk10 := Lib.hid k9
  clear k9
  refine wp_region_held_drew (S := SeesN W7 V0.heap.size) (by kernel_rfl) ?_ (fun hHeld => ?_)
  · (try dsimp only)
    rw [h8]
    exact seesN_kept _ (kept_refl _)
  rw [h8] at hHeld ⊢
  clear h8
  refine take_at 0 4 aretypes1r1_0 (v := ?_) (Or.inl ⟨by rfl, ?_⟩) ?_
  rotate_left 1
  · ((intro w hSw; (try dsimp only at hSw); unfold aretypes1r1_0; go_simp) <;> with_reducible rfl)
  (try simp only [Act.put, List.setIfInBounds_toArray, List.set_cons_zero, List.set_cons_succ])
  refine take_at 1 5 aretypes1r1_1 (v := ?_) (Or.inl ⟨by rfl, ?_⟩) ?_
  rotate_left 1
  · ((intro w hSw; (try dsimp only at hSw); unfold aretypes1r1_1; go_simp) <;> with_reducible rfl)
  (try simp only [Act.put, List.setIfInBounds_toArray, List.set_cons_zero, List.set_cons_succ])
  refine take_at 2 6 aretypes1r1_2 (v := ?_) (Or.inl ⟨by rfl, ?_⟩) ?_
  rotate_left 1
  · ((intro w hSw; (try dsimp only at hSw); have qV0 := seesN_of Kk10.out hSw; unfold aretypes1r1_2; go_simp) <;> with_reducible rfl)
  (try simp only [Act.put, List.setIfInBounds_toArray, List.set_cons_zero, List.set_cons_succ])
  refine take_at 3 7 aretypes1r1_3 (v := ?_) (Or.inl ⟨by rfl, ?_⟩) ?_
  rotate_left 1
  · ((intro w hSw; (try dsimp only at hSw); unfold aretypes1r1_3; go_simp) <;> with_reducible rfl)
  (try simp only [Act.put, List.setIfInBounds_toArray, List.set_cons_zero, List.set_cons_succ])
  refine take_at 4 8 aretypes1r1_4 (v := ?_) (Or.inl ⟨by rfl, ?_⟩) ?_
  rotate_left 1
  · ((intro w hSw; (try dsimp only at hSw); have qV0 := seesN_of Kk10.out hSw; unfold aretypes1r1_4; go_simp) <;> with_reducible rfl)
  (try simp only [Act.put, List.setIfInBounds_toArray, List.set_cons_zero, List.set_cons_succ])
  refine take_at 5 9 aretypes1r1_5 (v := ?_) (Or.inl ⟨by rfl, ?_⟩) ?_
  rotate_left 1
  · ((intro w hSw; (try dsimp only at hSw); unfold aretypes1r1_5; go_simp) <;> with_reducible rfl)
  (try simp only [Act.put, List.setIfInBounds_toArray, List.set_cons_zero, List.set_cons_succ])
  refine take_at 6 10 aretypes1r1_6 (yields_part (w.heap.size) (0) 34 (.tmp 1) #[.bool true, .int .i64 u.k, .int .i64 u.i, .int .i64 u.j, .int .i64 u.n, (.slice au u.kids.length cu), .int .i64 v.k, .int .i64 v.i, .int .i64 v.j, .int .i64 v.n, (.slice av v.kids.length cv), .int .i64 x.k, .int .i64 x.i, .int .i64 x.j, .int .i64 x.n, (.slice ax x.kids.length cx), .int .i64 i] dj (fun _ h => seesN_blk Hx1.out trivial (seesN_of Kk10.out h)) (by rfl) rfl (by rfl) (by rfl) dj1 (by cases dj <;> first | rfl | exact dj2) (by kernel_rfl)) ?_
  (try simp only [Act.put, List.setIfInBounds_toArray, List.set_cons_zero, List.set_cons_succ])
  refine wpAnyH_ready (rs := [7]) (by kernel_rfl) (by simp) ?_
  refine AllReadyH.cons (o := aretypes1r1_7) rfl (fun K hK => ?_) ?_
  · unfold aretypes1r1_7
    go_simp
    refine (ofsort1_any i u v x (Par w V0.heap.size [] P) W7 ((.slice au u.kids.length cu)) ((.slice av v.kids.length cv)) ((.slice ax x.kids.length cx)) Gu.out (HLu.out.later Kk10.out) Gv.out (HLv.out.later Kk10.out) Gx.out (HLx.out.later Kk10.out) Ri.out HX0.out HX1.out).mono ?_
    obtain ⟨rb14, hb13⟩ : ∃ qb, (osB x i) = qb := ⟨_, rfl⟩
    rw [hb13]
    have Hhb13 := Lib.hid hb13
    clear hb13
    rintro e w11 ⟨rfl, k12⟩
    have Kk15 := Lib.hid k12
    clear k12
    cases rb14 with
    | false =>
      clear hHeld
      refine hK.out _ _ (seesN_kept _ Kk15.out) (fun hHeld => ?_)
      clear hK K
      (try simp only [Act.put, List.setIfInBounds_toArray, List.set_cons_zero, List.set_cons_succ])
      refine take_at 8 12 aretypes1r1_8 (v := ?_) (Or.inl ⟨by rfl, ?_⟩) ?_
      rotate_left 1
      · ((intro w hSw; (try dsimp only at hSw); unfold aretypes1r1_8; go_simp) <;> with_reducible rfl)
      (try simp only [Act.put, List.setIfInBounds_toArray, List.set_cons_zero, List.set_cons_succ])
      refine take_at 9 2 aretypes1r1_9 (v := ?_) (Or.inl ⟨by rfl, ?_⟩) ?_
      rotate_left 1
      · ((intro w hSw; (try dsimp only at hSw); unfold aretypes1r1_9; go_simp) <;> with_reducible rfl)
      (try simp only [Act.put, List.setIfInBounds_toArray, List.set_cons_zero, List.set_cons_succ])
      refine take_at 10 3 aretypes1r1_10 (v := ?_) (Or.inl ⟨by rfl, ?_⟩) ?_
      rotate_left 1
      · ((intro w hSw; (try dsimp only at hSw); unfold aretypes1r1_10; go_simp) <;> with_reducible rfl)
      (try simp only [Act.put, List.setIfInBounds_toArray, List.set_cons_zero, List.set_cons_succ])
      refine wpAnyH_done (by kernel_rfl) ?_ _
      clear hHeld
      have kvV0 : SeesN V0 V0.heap.size w11 := seesN_kept _ (kept_trans Kk10.out Kk15.out)
      go_wp2
      go_ret2
      exact ⟨by first | rfl | (rw [show (osB x i) = false from by rw [Hhb13.out]; (try rfl)]; rfl), (kept_trans Kk4.out (kept_trans Kk10.out Kk15.out))⟩
    | true =>
      clear hHeld
      refine hK.out _ _ (seesN_kept _ Kk15.out) (fun hHeld => ?_)
      clear hK K
      (try simp only [Act.put, List.setIfInBounds_toArray, List.set_cons_zero, List.set_cons_succ])
      refine take_at 8 12 aretypes1r1_8 (v := ?_) (Or.inl ⟨by rfl, ?_⟩) ?_
      rotate_left 1
      · ((intro w hSw; (try dsimp only at hSw); unfold aretypes1r1_8; go_simp) <;> with_reducible rfl)
      (try simp only [Act.put, List.setIfInBounds_toArray, List.set_cons_zero, List.set_cons_succ])
      refine take_at 9 2 aretypes1r1_9 (v := ?_) (Or.inl ⟨by rfl, ?_⟩) ?_
      rotate_left 1
      · ((intro w hSw; (try dsimp only at hSw); unfold aretypes1r1_9; go_simp) <;> with_reducible rfl)
      (try simp only [Act.put, List.setIfInBounds_toArray, List.set_cons_zero, List.set_cons_succ])
      refine take_at 10 3 aretypes1r1_10 (v := ?_) (Or.inl ⟨by rfl, ?_⟩) ?_
      rotate_left 1
      · ((intro w hSw; (try dsimp only at hSw); unfold aretypes1r1_10; go_simp) <;> with_reducible rfl)
      (try simp only [Act.put, List.setIfInBounds_toArray, List.set_cons_zero, List.set_cons_succ])
      refine wpAnyH_done (by kernel_rfl) ?_ _
      clear hHeld
      have kvV0 : SeesN V0 V0.heap.size w11 := seesN_kept _ (kept_trans Kk10.out Kk15.out)
      go_wp2
      go_ret2
      exact ⟨by first | rfl | (rw [show (osB x i) = true from by rw [Hhb13.out]; (try rfl)]; rfl), (kept_trans Kk4.out (kept_trans Kk10.out Kk15.out))⟩
  exact AllReadyH.nil

def entryA0r13_0 : Oper := { dst := some 40, op := Go.Op.fieldAddr 34 (Go.Operand.tmp 3) 3, type := 0, pos := "rule.go:87", after := #[], guard := none }
def entryA0r13_1 : Oper := { dst := some 41, op := Go.Op.load 32 (Go.Operand.tmp 40), type := 32, pos := "rule.go:87", after := #[{ on := 0, ground := Go.Ground.data }], guard := none }
def entryA0r13_2 : Oper := { dst := some 42, op := Go.Op.fieldAddr 34 (Go.Operand.tmp 3) 4, type := 0, pos := "rule.go:87", after := #[], guard := none }
def entryA0r13_3 : Oper := { dst := some 43, op := Go.Op.load 3 (Go.Operand.tmp 42), type := 3, pos := "rule.go:87", after := #[{ on := 2, ground := Go.Ground.data }], guard := none }
def entryA0r13_4 : Oper := { dst := some 44, op := Go.Op.build 52 #[(0, Go.Operand.tmp 41), (1, Go.Operand.tmp 43)], type := 52, pos := "rule.go:87", after := #[{ on := 1, ground := Go.Ground.data }, { on := 3, ground := Go.Ground.data }], guard := none }
def entryA0r13_5 : Oper := { dst := some 45, op := Go.Op.fieldAddr 34 (Go.Operand.tmp 3) 0, type := 0, pos := "rule.go:87", after := #[{ on := 10, ground := Go.Ground.gcOnly Go.Departure.lateStores }], guard := none }
def entryA0r13_6 : Oper := { dst := some 46, op := Go.Op.load 4 (Go.Operand.tmp 45), type := 4, pos := "rule.go:87", after := #[{ on := 5, ground := Go.Ground.data }, { on := 10, ground := Go.Ground.gcOnly Go.Departure.lateStores }], guard := none }
def entryA0r13_7 : Oper := { dst := some 47, op := Go.Op.move (Go.Operand.tmp 0), type := 3, pos := "rule.go:87", after := #[{ on := 10, ground := Go.Ground.gcOnly Go.Departure.lateStores }], guard := none }
def entryA0r13_8 : Oper := { dst := some 48, op := Go.Op.binOp Go.BinOp.eql 3 (Go.Operand.tmp 47) (Go.Operand.const (Go.Value.int Go.IntKind.i64 23)) 3, type := 4, pos := "rule.go:87", after := #[{ on := 7, ground := Go.Ground.data }, { on := 10, ground := Go.Ground.gcOnly Go.Departure.lateStores }], guard := none }
def entryA0r13_9 : Oper := { dst := some 49, op := Go.Op.binOp Go.BinOp.eql 4 (Go.Operand.tmp 46) (Go.Operand.tmp 48) 4, type := 4, pos := "rule.go:87", after := #[{ on := 6, ground := Go.Ground.data }, { on := 8, ground := Go.Ground.data }, { on := 10, ground := Go.Ground.gcOnly Go.Departure.lateStores }], guard := none }
def entryA0r13_10 : Oper := { dst := none, op := Go.Op.store 52 (Go.Operand.tmp 4) (Go.Operand.tmp 44), type := 0, pos := "rule.go:87", after := #[{ on := 4, ground := Go.Ground.data }, { on := 0, ground := Go.Ground.phase }, { on := 1, ground := Go.Ground.phase }, { on := 2, ground := Go.Ground.phase }, { on := 3, ground := Go.Ground.phase }, { on := 4, ground := Go.Ground.phase }, { on := 5, ground := Go.Ground.textOnly Go.Departure.lateStores }, { on := 6, ground := Go.Ground.textOnly Go.Departure.lateStores }, { on := 7, ground := Go.Ground.textOnly Go.Departure.lateStores }, { on := 8, ground := Go.Ground.textOnly Go.Departure.lateStores }, { on := 9, ground := Go.Ground.textOnly Go.Departure.lateStores }], guard := none }
def entryA0r13_11 : Oper := { dst := some 5, op := Go.Op.assign (Go.Operand.tmp 49), type := 4, pos := "rule.go:87", after := #[{ on := 9, ground := Go.Ground.data }, { on := 10, ground := Go.Ground.chain }, { on := 0, ground := Go.Ground.phase }, { on := 1, ground := Go.Ground.phase }, { on := 2, ground := Go.Ground.phase }, { on := 3, ground := Go.Ground.phase }, { on := 4, ground := Go.Ground.phase }, { on := 5, ground := Go.Ground.phase }, { on := 6, ground := Go.Ground.phase }, { on := 7, ground := Go.Ground.phase }, { on := 8, ground := Go.Ground.phase }, { on := 9, ground := Go.Ground.phase }, { on := 10, ground := Go.Ground.phase }], guard := none }
set_option maxRecDepth 20000 in
set_option maxHeartbeats 4000000 in
theorem entryA0_any (i : Int) (u : Tm) (v : Tm) (x : Tm) (P : Nat → Prop) (w : World) (su : Value) (sv : Value) (sx : Value) (hfu : u.fine) (hlu : LiesQ w P u.kids su) (hfv : v.fine) (hlv : LiesQ w P v.kids sv) (hfx : x.fine) (hlx : LiesQ w P x.kids sx) (hri : I64 i) (hx0 : 0 ≤ x.i) (hx1 : x.i ≤ 2147483647) : Calls Try.prog 26 #[.int .i64 23, .agg #[.bool false, .int .i64 u.k, .int .i64 u.i, .int .i64 u.j, .int .i64 u.n, su, .int .i64 v.k, .int .i64 v.i, .int .i64 v.j, .int .i64 v.n, sv, .int .i64 x.k, .int .i64 x.i, .int .i64 x.j, .int .i64 x.n, sx, .int .i64 i]] w (GivesEB P (entB 23 (⟨false, u, v, x, i⟩ : Jd)).1 (entB 23 (⟨false, u, v, x, i⟩ : Jd)).2 w) := by
  have Gu := Lib.hid hfu
  clear hfu
  obtain ⟨au, cu, Su, rfl, -⟩ := hlu.out
  have Gv := Lib.hid hfv
  clear hfv
  obtain ⟨av, cv, Sv, rfl, -⟩ := hlv.out
  have Gx := Lib.hid hfx
  clear hfx
  obtain ⟨ax, cx, Sx, rfl, -⟩ := hlx.out
  have Ri := Lib.hid hri
  clear hri
  have HX0 := Lib.hid hx0
  have HX1 := Lib.hid hx1
  have ew : IntKind.i64.wrap (x.i + 1) = x.i + 1 := IntWalk.i64_in _ (by omega)
  clear hx0 hx1
  obtain ⟨de, de1, de2⟩ := under_of 52 (by kernel_rfl)
  obtain ⟨dj, dj1, dj2⟩ := under_of 34 (by kernel_rfl)
  obtain ⟨du, hu1, hu2⟩ := under_term
  go_enter Try.func26, Try.ntmps26
  go_upto_region 1 with fail
  refine at_code (fun V0 hV0 => ?_)
  obtain ⟨k3, x1, x2, z4⟩ := alloc2 hV0
  have Kk5 := Lib.hid k3
  clear k3
  have Hx1 := Lib.hid x1
  have Hx2 := Lib.hid x2
  have Z0 := Lib.hid z4
  clear z4 x1 x2 hV0
  have HLu : Hid (LiesQ V0 (Par w V0.heap.size [] P) u.kids _) := (par_in _ _ hlu).later Kk5.out
  clear hlu
  have HLv : Hid (LiesQ V0 (Par w V0.heap.size [] P) v.kids _) := (par_in _ _ hlv).later Kk5.out
  clear hlv
  have HLx : Hid (LiesQ V0 (Par w V0.heap.size [] P) x.kids _) := (par_in _ _ hlx).later Kk5.out
  clear hlx
  have ld6 := part_cell (r := (w.heap.size + 1)) Hx1.out (by have := Z0.out; omega) 0 (.bool false) rfl
  have ld7 := part_cell (r := (w.heap.size + 1)) Hx1.out (by have := Z0.out; omega) 16 (.int .i64 i) rfl
  have kvV0 : Sees V0 (w.heap.size + 1) V0 := sees_kept _ (kept_refl _)
  go_wp2_with fail
  clear kvV0
  obtain ⟨W8, h9⟩ : ∃ x, World.drew V0 = x := ⟨_, rfl⟩
  have k10 : Kept V0 W8 := by rw [← h9]; exact kept_drew (kept_refl _)
  have Kk11 := Lib.hid k10
  clear k10
  refine wp_region_held_drew (S := Sees W8 (w.heap.size + 1)) (by kernel_rfl) ?_ (fun hHeld => ?_)
  · (try dsimp only)
    rw [h9]
    exact sees_kept _ (kept_refl _)
  rw [h9] at hHeld ⊢
  clear h9
  refine take_at 0 40 entryA0r13_0 (v := ?_) (Or.inl ⟨by rfl, ?_⟩) ?_
  rotate_left 1
  · ((intro w hSw; (try dsimp only at hSw); unfold entryA0r13_0; go_simp) <;> with_reducible rfl)
  (try simp only [Act.put, List.setIfInBounds_toArray, List.set_cons_zero, List.set_cons_succ])
  refine take_at 1 41 entryA0r13_1 (yields_part (w.heap.size) (11) 32 (.tmp 40) #[.int .i64 x.k, .int .i64 x.i, .int .i64 x.j, .int .i64 x.n, (.slice ax x.kids.length cx)] du (fun _ h => sees_blk Hx1.out (by have := Z0.out; omega) (sees_of Kk11.out h)) (by rfl) rfl (by rfl) (by rfl) hu1 (by cases du <;> first | rfl | exact hu2) size_term) ?_
  (try simp only [Act.put, List.setIfInBounds_toArray, List.set_cons_zero, List.set_cons_succ])
  refine take_at 2 42 entryA0r13_2 (v := ?_) (Or.inl ⟨by rfl, ?_⟩) ?_
  rotate_left 1
  · ((intro w hSw; (try dsimp only at hSw); unfold entryA0r13_2; go_simp) <;> with_reducible rfl)
  (try simp only [Act.put, List.setIfInBounds_toArray, List.set_cons_zero, List.set_cons_succ])
  refine take_at 3 43 entryA0r13_3 (v := ?_) (Or.inl ⟨by rfl, ?_⟩) ?_
  rotate_left 1
  · ((intro w hSw; (try dsimp only at hSw); have qV0 := sees_of Kk11.out hSw; unfold entryA0r13_3; go_simp) <;> with_reducible rfl)
  (try simp only [Act.put, List.setIfInBounds_toArray, List.set_cons_zero, List.set_cons_succ])
  refine take_at 4 44 entryA0r13_4 (v := ?_) (Or.inl ⟨by rfl, ?_⟩) ?_
  rotate_left 1
  · ((intro w hSw; (try dsimp only at hSw); unfold entryA0r13_4; go_simp) <;> with_reducible rfl)
  (try simp only [Act.put, List.setIfInBounds_toArray, List.set_cons_zero, List.set_cons_succ])
  refine take_at 5 45 entryA0r13_5 (v := ?_) (Or.inl ⟨by rfl, ?_⟩) ?_
  rotate_left 1
  · ((intro w hSw; (try dsimp only at hSw); unfold entryA0r13_5; go_simp) <;> with_reducible rfl)
  (try simp only [Act.put, List.setIfInBounds_toArray, List.set_cons_zero, List.set_cons_succ])
  refine take_at 6 46 entryA0r13_6 (v := ?_) (Or.inl ⟨by rfl, ?_⟩) ?_
  rotate_left 1
  · ((intro w hSw; (try dsimp only at hSw); have qV0 := sees_of Kk11.out hSw; unfold entryA0r13_6; go_simp) <;> with_reducible rfl)
  (try simp only [Act.put, List.setIfInBounds_toArray, List.set_cons_zero, List.set_cons_succ])
  refine take_at 7 47 entryA0r13_7 (v := ?_) (Or.inl ⟨by rfl, ?_⟩) ?_
  rotate_left 1
  · ((intro w hSw; (try dsimp only at hSw); unfold entryA0r13_7; go_simp) <;> with_reducible rfl)
  (try simp only [Act.put, List.setIfInBounds_toArray, List.set_cons_zero, List.set_cons_succ])
  refine take_at 8 48 entryA0r13_8 (v := ?_) (Or.inl ⟨by rfl, ?_⟩) ?_
  rotate_left 1
  · ((intro w hSw; (try dsimp only at hSw); unfold entryA0r13_8; go_simp) <;> with_reducible rfl)
  (try simp only [Act.put, List.setIfInBounds_toArray, List.set_cons_zero, List.set_cons_succ])
  refine take_at 9 49 entryA0r13_9 (v := ?_) (Or.inl ⟨by rfl, ?_⟩) ?_
  rotate_left 1
  · ((intro w hSw; (try dsimp only at hSw); unfold entryA0r13_9; go_simp) <;> with_reducible rfl)
  (try simp only [Act.put, List.setIfInBounds_toArray, List.set_cons_zero, List.set_cons_succ])
  refine wpAnyH_ready (rs := [10]) (by kernel_rfl) (by simp) ?_
  refine AllReadyH.cons (o := entryA0r13_10) rfl (fun K hK => ?_) ?_
  · unfold entryA0r13_10
    refine step_store_part rfl 52 (.tmp 4) (.tmp 44) rfl (w.heap.size + 1) 0 #[.int .i64 x.k, .int .i64 x.i, .int .i64 x.j, .int .i64 x.n, (.slice ax x.kids.length cx), .int .i64 i] rfl rfl 52 (by kernel_rfl) (row_ok rfl) _ #[.int .i64 x.k, .int .i64 x.i, .int .i64 x.j, .int .i64 x.n, (.slice ax x.kids.length cx), .int .i64 i] (blk_at Hx2.out Kk11.out) rfl (Nat.le_of_ble_eq_true rfl) ?_
    intro W12 hW12
    clear hHeld
    refine hK.out _ _ (sees_set (kept_refl _) hW12) (fun hHeld => ?_)
    clear hK K
    (try simp only [Act.put])
    refine take_at 11 5 entryA0r13_11 (v := ?_) (Or.inl ⟨by rfl, ?_⟩) ?_
    rotate_left 1
    · ((intro w hSw; (try dsimp only at hSw); unfold entryA0r13_11; go_simp) <;> with_reducible rfl)
    (try simp only [Act.put, List.setIfInBounds_toArray, List.set_cons_zero, List.set_cons_succ])
    refine wpAnyH_done (by kernel_rfl) ?_ _
    clear hHeld
    go_wp2_with fail
    (try simp only [Exit.inBlock, Exit.then])
    refine bodyPost_ret (results_cell_tmp rfl _ _ (w.heap.size + 1) 52 _ _ de rfl (blk_same (blk_at Hx2.out Kk11.out) hW12) de1 (by cases de <;> first | rfl | exact de2) (by kernel_rfl)) rfl ?_
    have hcl : rcls 23 = 2 := by decide
    rw [show entB 23 (⟨false, u, v, x, i⟩ : Jd) = ((⟨x, i⟩ : En), false) from by rw [entB_2 _ hcl]; (try rfl)]
    exact ⟨_, rfl, par_end (par_row' (HLx.out.later Kk11.out) hW12 (by omega) (by have := Z0.out; omega)) (by have := Z0.out; omega), kept_set (kept_trans Kk5.out Kk11.out) hW12 (by omega)⟩
  exact AllReadyH.nil

def entryB0r13_0 : Oper := { dst := some 40, op := Go.Op.fieldAddr 34 (Go.Operand.tmp 3) 3, type := 0, pos := "rule.go:87", after := #[], guard := none }
def entryB0r13_1 : Oper := { dst := some 41, op := Go.Op.load 32 (Go.Operand.tmp 40), type := 32, pos := "rule.go:87", after := #[{ on := 0, ground := Go.Ground.data }], guard := none }
def entryB0r13_2 : Oper := { dst := some 42, op := Go.Op.fieldAddr 34 (Go.Operand.tmp 3) 4, type := 0, pos := "rule.go:87", after := #[], guard := none }
def entryB0r13_3 : Oper := { dst := some 43, op := Go.Op.load 3 (Go.Operand.tmp 42), type := 3, pos := "rule.go:87", after := #[{ on := 2, ground := Go.Ground.data }], guard := none }
def entryB0r13_4 : Oper := { dst := some 44, op := Go.Op.build 52 #[(0, Go.Operand.tmp 41), (1, Go.Operand.tmp 43)], type := 52, pos := "rule.go:87", after := #[{ on := 1, ground := Go.Ground.data }, { on := 3, ground := Go.Ground.data }], guard := none }
def entryB0r13_5 : Oper := { dst := some 45, op := Go.Op.fieldAddr 34 (Go.Operand.tmp 3) 0, type := 0, pos := "rule.go:87", after := #[{ on := 10, ground := Go.Ground.gcOnly Go.Departure.lateStores }], guard := none }
def entryB0r13_6 : Oper := { dst := some 46, op := Go.Op.load 4 (Go.Operand.tmp 45), type := 4, pos := "rule.go:87", after := #[{ on := 5, ground := Go.Ground.data }, { on := 10, ground := Go.Ground.gcOnly Go.Departure.lateStores }], guard := none }
def entryB0r13_7 : Oper := { dst := some 47, op := Go.Op.move (Go.Operand.tmp 0), type := 3, pos := "rule.go:87", after := #[{ on := 10, ground := Go.Ground.gcOnly Go.Departure.lateStores }], guard := none }
def entryB0r13_8 : Oper := { dst := some 48, op := Go.Op.binOp Go.BinOp.eql 3 (Go.Operand.tmp 47) (Go.Operand.const (Go.Value.int Go.IntKind.i64 23)) 3, type := 4, pos := "rule.go:87", after := #[{ on := 7, ground := Go.Ground.data }, { on := 10, ground := Go.Ground.gcOnly Go.Departure.lateStores }], guard := none }
def entryB0r13_9 : Oper := { dst := some 49, op := Go.Op.binOp Go.BinOp.eql 4 (Go.Operand.tmp 46) (Go.Operand.tmp 48) 4, type := 4, pos := "rule.go:87", after := #[{ on := 6, ground := Go.Ground.data }, { on := 8, ground := Go.Ground.data }, { on := 10, ground := Go.Ground.gcOnly Go.Departure.lateStores }], guard := none }
def entryB0r13_10 : Oper := { dst := none, op := Go.Op.store 52 (Go.Operand.tmp 4) (Go.Operand.tmp 44), type := 0, pos := "rule.go:87", after := #[{ on := 4, ground := Go.Ground.data }, { on := 0, ground := Go.Ground.phase }, { on := 1, ground := Go.Ground.phase }, { on := 2, ground := Go.Ground.phase }, { on := 3, ground := Go.Ground.phase }, { on := 4, ground := Go.Ground.phase }, { on := 5, ground := Go.Ground.textOnly Go.Departure.lateStores }, { on := 6, ground := Go.Ground.textOnly Go.Departure.lateStores }, { on := 7, ground := Go.Ground.textOnly Go.Departure.lateStores }, { on := 8, ground := Go.Ground.textOnly Go.Departure.lateStores }, { on := 9, ground := Go.Ground.textOnly Go.Departure.lateStores }], guard := none }
def entryB0r13_11 : Oper := { dst := some 5, op := Go.Op.assign (Go.Operand.tmp 49), type := 4, pos := "rule.go:87", after := #[{ on := 9, ground := Go.Ground.data }, { on := 10, ground := Go.Ground.chain }, { on := 0, ground := Go.Ground.phase }, { on := 1, ground := Go.Ground.phase }, { on := 2, ground := Go.Ground.phase }, { on := 3, ground := Go.Ground.phase }, { on := 4, ground := Go.Ground.phase }, { on := 5, ground := Go.Ground.phase }, { on := 6, ground := Go.Ground.phase }, { on := 7, ground := Go.Ground.phase }, { on := 8, ground := Go.Ground.phase }, { on := 9, ground := Go.Ground.phase }, { on := 10, ground := Go.Ground.phase }], guard := none }
set_option maxRecDepth 20000 in
set_option maxHeartbeats 4000000 in
theorem entryB0_any (r : Int) (i : Int) (u : Tm) (v : Tm) (x : Tm) (P : Nat → Prop) (w : World) (su : Value) (sv : Value) (sx : Value) (hrr : I64 r) (hfu : u.fine) (hlu : LiesQ w P u.kids su) (hfv : v.fine) (hlv : LiesQ w P v.kids sv) (hfx : x.fine) (hlx : LiesQ w P x.kids sx) (hri : I64 i) (hx0 : 0 ≤ x.i) (hx1 : x.i ≤ 2147483647) (h23 : (r == 23) = false) : Calls Try.prog 26 #[.int .i64 r, .agg #[.bool false, .int .i64 u.k, .int .i64 u.i, .int .i64 u.j, .int .i64 u.n, su, .int .i64 v.k, .int .i64 v.i, .int .i64 v.j, .int .i64 v.n, sv, .int .i64 x.k, .int .i64 x.i, .int .i64 x.j, .int .i64 x.n, sx, .int .i64 i]] w (GivesEB P (entB r (⟨false, u, v, x, i⟩ : Jd)).1 (entB r (⟨false, u, v, x, i⟩ : Jd)).2 w) := by
  have Rr := Lib.hid hrr
  clear hrr
  have Gu := Lib.hid hfu
  clear hfu
  obtain ⟨au, cu, Su, rfl, -⟩ := hlu.out
  have Gv := Lib.hid hfv
  clear hfv
  obtain ⟨av, cv, Sv, rfl, -⟩ := hlv.out
  have Gx := Lib.hid hfx
  clear hfx
  obtain ⟨ax, cx, Sx, rfl, -⟩ := hlx.out
  have Ri := Lib.hid hri
  clear hri
  have HX0 := Lib.hid hx0
  have HX1 := Lib.hid hx1
  have ew : IntKind.i64.wrap (x.i + 1) = x.i + 1 := IntWalk.i64_in _ (by omega)
  clear hx0 hx1
  have E23 := Lib.hid h23
  obtain ⟨de, de1, de2⟩ := under_of 52 (by kernel_rfl)
  obtain ⟨dj, dj1, dj2⟩ := under_of 34 (by kernel_rfl)
  obtain ⟨du, hu1, hu2⟩ := under_term
  go_enter Try.func26, Try.ntmps26
  go_upto_region 1 with fail
  refine at_code (fun V0 hV0 => ?_)
  obtain ⟨k3, x1, x2, z4⟩ := alloc2 hV0
  have Kk5 := Lib.hid k3
  clear k3
  have Hx1 := Lib.hid x1
  have Hx2 := Lib.hid x2
  have Z0 := Lib.hid z4
  clear z4 x1 x2 hV0
  have HLu : Hid (LiesQ V0 (Par w V0.heap.size [] P) u.kids _) := (par_in _ _ hlu).later Kk5.out
  clear hlu
  have HLv : Hid (LiesQ V0 (Par w V0.heap.size [] P) v.kids _) := (par_in _ _ hlv).later Kk5.out
  clear hlv
  have HLx : Hid (LiesQ V0 (Par w V0.heap.size [] P) x.kids _) := (par_in _ _ hlx).later Kk5.out
  clear hlx
  have ld6 := part_cell (r := (w.heap.size + 1)) Hx1.out (by have := Z0.out; omega) 0 (.bool false) rfl
  have ld7 := part_cell (r := (w.heap.size + 1)) Hx1.out (by have := Z0.out; omega) 16 (.int .i64 i) rfl
  have kvV0 : Sees V0 (w.heap.size + 1) V0 := sees_kept _ (kept_refl _)
  by_cases c8 : r = 3
  · have ec8 : (r == 3) = true := beq_iff_eq.2 c8
    have fc8 : (r != 3) = false := by rw [bne, ec8]; rfl
    have Ec8 := Lib.hid ec8
    have Hc8 := Lib.hid c8
    clear c8
    go_wp2_with (refine stop_load 34 (.tmp 3) rfl ?_)
    intro _
    refine wpList_load_part (w.heap.size) (0) 34 (.tmp 3) #[.bool false, .int .i64 u.k, .int .i64 u.i, .int .i64 u.j, .int .i64 u.n, (.slice au u.kids.length cu), .int .i64 v.k, .int .i64 v.i, .int .i64 v.j, .int .i64 v.n, (.slice av v.kids.length cv), .int .i64 x.k, .int .i64 x.i, .int .i64 x.j, .int .i64 x.n, (.slice ax x.kids.length cx), .int .i64 i] dj Hx1.out (by rfl) rfl (by rfl) (by rfl) dj1 (by cases dj <;> first | rfl | exact dj2) (by kernel_rfl) ?_
    go_wp2_with fail
    clear kvV0
    refine (istype0_any i u v x (Par w V0.heap.size [] P) V0 ((.slice au u.kids.length cu)) ((.slice av v.kids.length cv)) ((.slice ax x.kids.length cx)) Gu.out HLu.out Gv.out HLv.out Gx.out HLx.out Ri.out HX0.out HX1.out).mono ?_
    rintro e w9 ⟨rfl, k10⟩
    have Kk11 := Lib.hid k10
    clear k10
    have kvV0 : Sees V0 (w.heap.size + 1) w9 := sees_kept _ Kk11.out
    go_wp2_with (refine stop_load 32 (.tmp 20) rfl ?_)
    intro _
    refine wpList_load_part (w.heap.size) (1) 32 (.tmp 20) #[.int .i64 u.k, .int .i64 u.i, .int .i64 u.j, .int .i64 u.n, (.slice au u.kids.length cu)] du (blk_at Hx1.out Kk11.out) (by rfl) rfl (by rfl) (by rfl) hu1 (by cases du <;> first | rfl | exact hu2) size_term ?_
    go_wp2_with (refine stop_store 52 (.tmp 4) (.tmp 23) rfl ?_)
    intro _
    refine wpList_store_part_n (by rfl) 52 (.tmp 4) (.tmp 23) rfl (w.heap.size + 1) 0 #[.int .i64 u.k, .int .i64 u.i, .int .i64 u.j, .int .i64 u.n, (.slice au u.kids.length cu), .int .i64 x.i] (by rfl) (by rfl) 52 (by kernel_rfl) (row_ok rfl) ?_
    intro W12 hW12
    clear kvV0
    subst hW12
    refine ⟨_, #[.int .i64 u.k, .int .i64 u.i, .int .i64 u.j, .int .i64 u.n, (.slice au u.kids.length cu), .int .i64 x.i], (blk_at Hx2.out Kk11.out), rfl, Nat.le_of_ble_eq_true rfl, ?_⟩
    intro W13 hW13
    go_wp2_with fail
    (try simp only [Exit.inBlock, Exit.then])
    refine bodyPost_ret (results_cell_tmp rfl _ _ (w.heap.size + 1) 52 _ _ de rfl (blk_same (blk_at Hx2.out Kk11.out) hW13) de1 (by cases de <;> first | rfl | exact de2) (by kernel_rfl)) rfl ?_
    have hcl : rcls r = 0 := by unfold rcls; rw [Ec8.out]; rfl
    rw [show entB r (⟨false, u, v, x, i⟩ : Jd) = ((⟨u, x.i⟩ : En), (osB x i)) from by rw [entB_0 _ hcl]; (try rfl)]
    exact ⟨_, rfl, par_end (par_row' (HLu.out.later Kk11.out) hW13 (by omega) (by have := Z0.out; omega)) (by have := Z0.out; omega), kept_set (kept_trans Kk5.out Kk11.out) hW13 (by omega)⟩
  · have ec8 : (r == 3) = false := beq_eq_false_iff_ne.2 c8
    have fc8 : (r != 3) = true := by rw [bne, ec8]; rfl
    have Ec8 := Lib.hid ec8
    have Hc8 := Lib.hid c8
    clear c8
    by_cases c14 : r = 6
    · have ec14 : (r == 6) = true := beq_iff_eq.2 c14
      have fc14 : (r != 6) = false := by rw [bne, ec14]; rfl
      have Ec14 := Lib.hid ec14
      have Hc14 := Lib.hid c14
      clear c14
      go_wp2_with (refine stop_load 34 (.tmp 3) rfl ?_)
      intro _
      refine wpList_load_part (w.heap.size) (0) 34 (.tmp 3) #[.bool false, .int .i64 u.k, .int .i64 u.i, .int .i64 u.j, .int .i64 u.n, (.slice au u.kids.length cu), .int .i64 v.k, .int .i64 v.i, .int .i64 v.j, .int .i64 v.n, (.slice av v.kids.length cv), .int .i64 x.k, .int .i64 x.i, .int .i64 x.j, .int .i64 x.n, (.slice ax x.kids.length cx), .int .i64 i] dj Hx1.out (by rfl) rfl (by rfl) (by rfl) dj1 (by cases dj <;> first | rfl | exact dj2) (by kernel_rfl) ?_
      go_wp2_with fail
      clear kvV0
      refine (istype0_any i u v x (Par w V0.heap.size [] P) V0 ((.slice au u.kids.length cu)) ((.slice av v.kids.length cv)) ((.slice ax x.kids.length cx)) Gu.out HLu.out Gv.out HLv.out Gx.out HLx.out Ri.out HX0.out HX1.out).mono ?_
      rintro e w15 ⟨rfl, k16⟩
      have Kk17 := Lib.hid k16
      clear k16
      have kvV0 : Sees V0 (w.heap.size + 1) w15 := sees_kept _ Kk17.out
      go_wp2_with (refine stop_load 32 (.tmp 20) rfl ?_)
      intro _
      refine wpList_load_part (w.heap.size) (1) 32 (.tmp 20) #[.int .i64 u.k, .int .i64 u.i, .int .i64 u.j, .int .i64 u.n, (.slice au u.kids.length cu)] du (blk_at Hx1.out Kk17.out) (by rfl) rfl (by rfl) (by rfl) hu1 (by cases du <;> first | rfl | exact hu2) size_term ?_
      go_wp2_with (refine stop_store 52 (.tmp 4) (.tmp 23) rfl ?_)
      intro _
      refine wpList_store_part_n (by rfl) 52 (.tmp 4) (.tmp 23) rfl (w.heap.size + 1) 0 #[.int .i64 u.k, .int .i64 u.i, .int .i64 u.j, .int .i64 u.n, (.slice au u.kids.length cu), .int .i64 x.i] (by rfl) (by rfl) 52 (by kernel_rfl) (row_ok rfl) ?_
      intro W18 hW18
      clear kvV0
      subst hW18
      refine ⟨_, #[.int .i64 u.k, .int .i64 u.i, .int .i64 u.j, .int .i64 u.n, (.slice au u.kids.length cu), .int .i64 x.i], (blk_at Hx2.out Kk17.out), rfl, Nat.le_of_ble_eq_true rfl, ?_⟩
      intro W19 hW19
      go_wp2_with fail
      (try simp only [Exit.inBlock, Exit.then])
      refine bodyPost_ret (results_cell_tmp rfl _ _ (w.heap.size + 1) 52 _ _ de rfl (blk_same (blk_at Hx2.out Kk17.out) hW19) de1 (by cases de <;> first | rfl | exact de2) (by kernel_rfl)) rfl ?_
      have hcl : rcls r = 0 := by unfold rcls; rw [Ec8.out, Ec14.out]; rfl
      rw [show entB r (⟨false, u, v, x, i⟩ : Jd) = ((⟨u, x.i⟩ : En), (osB x i)) from by rw [entB_0 _ hcl]; (try rfl)]
      exact ⟨_, rfl, par_end (par_row' (HLu.out.later Kk17.out) hW19 (by omega) (by have := Z0.out; omega)) (by have := Z0.out; omega), kept_set (kept_trans Kk5.out Kk17.out) hW19 (by omega)⟩
    · have ec14 : (r == 6) = false := beq_eq_false_iff_ne.2 c14
      have fc14 : (r != 6) = true := by rw [bne, ec14]; rfl
      have Ec14 := Lib.hid ec14
      have Hc14 := Lib.hid c14
      clear c14
      by_cases c20 : r = 4
      · have ec20 : (r == 4) = true := beq_iff_eq.2 c20
        have fc20 : (r != 4) = false := by rw [bne, ec20]; rfl
        have Ec20 := Lib.hid ec20
        have Hc20 := Lib.hid c20
        clear c20
        go_wp2_with (refine stop_load 34 (.tmp 3) rfl ?_)
        intro _
        refine wpList_load_part (w.heap.size) (0) 34 (.tmp 3) #[.bool false, .int .i64 u.k, .int .i64 u.i, .int .i64 u.j, .int .i64 u.n, (.slice au u.kids.length cu), .int .i64 v.k, .int .i64 v.i, .int .i64 v.j, .int .i64 v.n, (.slice av v.kids.length cv), .int .i64 x.k, .int .i64 x.i, .int .i64 x.j, .int .i64 x.n, (.slice ax x.kids.length cx), .int .i64 i] dj Hx1.out (by rfl) rfl (by rfl) (by rfl) dj1 (by cases dj <;> first | rfl | exact dj2) (by kernel_rfl) ?_
        go_wp2_with fail
        clear kvV0
        refine (istype0_any i u v x (Par w V0.heap.size [] P) V0 ((.slice au u.kids.length cu)) ((.slice av v.kids.length cv)) ((.slice ax x.kids.length cx)) Gu.out HLu.out Gv.out HLv.out Gx.out HLx.out Ri.out HX0.out HX1.out).mono ?_
        rintro e w21 ⟨rfl, k22⟩
        have Kk23 := Lib.hid k22
        clear k22
        have kvV0 : Sees V0 (w.heap.size + 1) w21 := sees_kept _ Kk23.out
        go_wp2_with (refine stop_load 32 (.tmp 20) rfl ?_)
        intro _
        refine wpList_load_part (w.heap.size) (1) 32 (.tmp 20) #[.int .i64 u.k, .int .i64 u.i, .int .i64 u.j, .int .i64 u.n, (.slice au u.kids.length cu)] du (blk_at Hx1.out Kk23.out) (by rfl) rfl (by rfl) (by rfl) hu1 (by cases du <;> first | rfl | exact hu2) size_term ?_
        go_wp2_with (refine stop_store 52 (.tmp 4) (.tmp 23) rfl ?_)
        intro _
        refine wpList_store_part_n (by rfl) 52 (.tmp 4) (.tmp 23) rfl (w.heap.size + 1) 0 #[.int .i64 u.k, .int .i64 u.i, .int .i64 u.j, .int .i64 u.n, (.slice au u.kids.length cu), .int .i64 x.i] (by rfl) (by rfl) 52 (by kernel_rfl) (row_ok rfl) ?_
        intro W24 hW24
        clear kvV0
        subst hW24
        refine ⟨_, #[.int .i64 u.k, .int .i64 u.i, .int .i64 u.j, .int .i64 u.n, (.slice au u.kids.length cu), .int .i64 x.i], (blk_at Hx2.out Kk23.out), rfl, Nat.le_of_ble_eq_true rfl, ?_⟩
        intro W25 hW25
        go_wp2_with fail
        (try simp only [Exit.inBlock, Exit.then])
        refine bodyPost_ret (results_cell_tmp rfl _ _ (w.heap.size + 1) 52 _ _ de rfl (blk_same (blk_at Hx2.out Kk23.out) hW25) de1 (by cases de <;> first | rfl | exact de2) (by kernel_rfl)) rfl ?_
        have hcl : rcls r = 0 := by unfold rcls; rw [Ec8.out, Ec14.out, Ec20.out]; rfl
        rw [show entB r (⟨false, u, v, x, i⟩ : Jd) = ((⟨u, x.i⟩ : En), (osB x i)) from by rw [entB_0 _ hcl]; (try rfl)]
        exact ⟨_, rfl, par_end (par_row' (HLu.out.later Kk23.out) hW25 (by omega) (by have := Z0.out; omega)) (by have := Z0.out; omega), kept_set (kept_trans Kk5.out Kk23.out) hW25 (by omega)⟩
      · have ec20 : (r == 4) = false := beq_eq_false_iff_ne.2 c20
        have fc20 : (r != 4) = true := by rw [bne, ec20]; rfl
        have Ec20 := Lib.hid ec20
        have Hc20 := Lib.hid c20
        clear c20
        by_cases c26 : r = 25
        · have ec26 : (r == 25) = true := beq_iff_eq.2 c26
          have fc26 : (r != 25) = false := by rw [bne, ec26]; rfl
          have Ec26 := Lib.hid ec26
          have Hc26 := Lib.hid c26
          clear c26
          go_wp2_with (refine stop_load 34 (.tmp 3) rfl ?_)
          intro _
          refine wpList_load_part (w.heap.size) (0) 34 (.tmp 3) #[.bool false, .int .i64 u.k, .int .i64 u.i, .int .i64 u.j, .int .i64 u.n, (.slice au u.kids.length cu), .int .i64 v.k, .int .i64 v.i, .int .i64 v.j, .int .i64 v.n, (.slice av v.kids.length cv), .int .i64 x.k, .int .i64 x.i, .int .i64 x.j, .int .i64 x.n, (.slice ax x.kids.length cx), .int .i64 i] dj Hx1.out (by rfl) rfl (by rfl) (by rfl) dj1 (by cases dj <;> first | rfl | exact dj2) (by kernel_rfl) ?_
          go_wp2_with fail
          clear kvV0
          refine (aretypes0_any i u v x (Par w V0.heap.size [] P) V0 ((.slice au u.kids.length cu)) ((.slice av v.kids.length cv)) ((.slice ax x.kids.length cx)) Gu.out HLu.out Gv.out HLv.out Gx.out HLx.out Ri.out HX0.out HX1.out).mono ?_
          rintro e w27 ⟨rfl, k28⟩
          have Kk29 := Lib.hid k28
          clear k28
          have kvV0 : Sees V0 (w.heap.size + 1) w27 := sees_kept _ Kk29.out
          go_wp2_with (refine stop_load 32 (.tmp 35) rfl ?_)
          intro _
          refine wpList_load_part (w.heap.size) (1) 32 (.tmp 35) #[.int .i64 u.k, .int .i64 u.i, .int .i64 u.j, .int .i64 u.n, (.slice au u.kids.length cu)] du (blk_at Hx1.out Kk29.out) (by rfl) rfl (by rfl) (by rfl) hu1 (by cases du <;> first | rfl | exact hu2) size_term ?_
          go_wp2_with (refine stop_store 52 (.tmp 4) (.tmp 38) rfl ?_)
          intro _
          refine wpList_store_part_n (by rfl) 52 (.tmp 4) (.tmp 38) rfl (w.heap.size + 1) 0 #[.int .i64 u.k, .int .i64 u.i, .int .i64 u.j, .int .i64 u.n, (.slice au u.kids.length cu), .int .i64 x.i] (by rfl) (by rfl) 52 (by kernel_rfl) (row_ok rfl) ?_
          intro W30 hW30
          clear kvV0
          subst hW30
          refine ⟨_, #[.int .i64 u.k, .int .i64 u.i, .int .i64 u.j, .int .i64 u.n, (.slice au u.kids.length cu), .int .i64 x.i], (blk_at Hx2.out Kk29.out), rfl, Nat.le_of_ble_eq_true rfl, ?_⟩
          intro W31 hW31
          go_wp2_with fail
          (try simp only [Exit.inBlock, Exit.then])
          refine bodyPost_ret (results_cell_tmp rfl _ _ (w.heap.size + 1) 52 _ _ de rfl (blk_same (blk_at Hx2.out Kk29.out) hW31) de1 (by cases de <;> first | rfl | exact de2) (by kernel_rfl)) rfl ?_
          have hcl : rcls r = 1 := by unfold rcls; rw [Ec8.out, Ec14.out, Ec20.out, Ec26.out]; rfl
          rw [show entB r (⟨false, u, v, x, i⟩ : Jd) = ((⟨u, x.i⟩ : En), false) from by rw [entB_1 _ hcl]; (try rfl)]
          exact ⟨_, rfl, par_end (par_row' (HLu.out.later Kk29.out) hW31 (by omega) (by have := Z0.out; omega)) (by have := Z0.out; omega), kept_set (kept_trans Kk5.out Kk29.out) hW31 (by omega)⟩
        · have ec26 : (r == 25) = false := beq_eq_false_iff_ne.2 c26
          have fc26 : (r != 25) = true := by rw [bne, ec26]; rfl
          have Ec26 := Lib.hid ec26
          have Hc26 := Lib.hid c26
          clear c26
          by_cases c32 : r = 26
          · have ec32 : (r == 26) = true := beq_iff_eq.2 c32
            have fc32 : (r != 26) = false := by rw [bne, ec32]; rfl
            have Ec32 := Lib.hid ec32
            have Hc32 := Lib.hid c32
            clear c32
            go_wp2_with (refine stop_load 34 (.tmp 3) rfl ?_)
            intro _
            refine wpList_load_part (w.heap.size) (0) 34 (.tmp 3) #[.bool false, .int .i64 u.k, .int .i64 u.i, .int .i64 u.j, .int .i64 u.n, (.slice au u.kids.length cu), .int .i64 v.k, .int .i64 v.i, .int .i64 v.j, .int .i64 v.n, (.slice av v.kids.length cv), .int .i64 x.k, .int .i64 x.i, .int .i64 x.j, .int .i64 x.n, (.slice ax x.kids.length cx), .int .i64 i] dj Hx1.out (by rfl) rfl (by rfl) (by rfl) dj1 (by cases dj <;> first | rfl | exact dj2) (by kernel_rfl) ?_
            go_wp2_with fail
            clear kvV0
            refine (aretypes0_any i u v x (Par w V0.heap.size [] P) V0 ((.slice au u.kids.length cu)) ((.slice av v.kids.length cv)) ((.slice ax x.kids.length cx)) Gu.out HLu.out Gv.out HLv.out Gx.out HLx.out Ri.out HX0.out HX1.out).mono ?_
            rintro e w33 ⟨rfl, k34⟩
            have Kk35 := Lib.hid k34
            clear k34
            have kvV0 : Sees V0 (w.heap.size + 1) w33 := sees_kept _ Kk35.out
            go_wp2_with (refine stop_load 32 (.tmp 35) rfl ?_)
            intro _
            refine wpList_load_part (w.heap.size) (1) 32 (.tmp 35) #[.int .i64 u.k, .int .i64 u.i, .int .i64 u.j, .int .i64 u.n, (.slice au u.kids.length cu)] du (blk_at Hx1.out Kk35.out) (by rfl) rfl (by rfl) (by rfl) hu1 (by cases du <;> first | rfl | exact hu2) size_term ?_
            go_wp2_with (refine stop_store 52 (.tmp 4) (.tmp 38) rfl ?_)
            intro _
            refine wpList_store_part_n (by rfl) 52 (.tmp 4) (.tmp 38) rfl (w.heap.size + 1) 0 #[.int .i64 u.k, .int .i64 u.i, .int .i64 u.j, .int .i64 u.n, (.slice au u.kids.length cu), .int .i64 x.i] (by rfl) (by rfl) 52 (by kernel_rfl) (row_ok rfl) ?_
            intro W36 hW36
            clear kvV0
            subst hW36
            refine ⟨_, #[.int .i64 u.k, .int .i64 u.i, .int .i64 u.j, .int .i64 u.n, (.slice au u.kids.length cu), .int .i64 x.i], (blk_at Hx2.out Kk35.out), rfl, Nat.le_of_ble_eq_true rfl, ?_⟩
            intro W37 hW37
            go_wp2_with fail
            (try simp only [Exit.inBlock, Exit.then])
            refine bodyPost_ret (results_cell_tmp rfl _ _ (w.heap.size + 1) 52 _ _ de rfl (blk_same (blk_at Hx2.out Kk35.out) hW37) de1 (by cases de <;> first | rfl | exact de2) (by kernel_rfl)) rfl ?_
            have hcl : rcls r = 1 := by unfold rcls; rw [Ec8.out, Ec14.out, Ec20.out, Ec26.out, Ec32.out]; rfl
            rw [show entB r (⟨false, u, v, x, i⟩ : Jd) = ((⟨u, x.i⟩ : En), false) from by rw [entB_1 _ hcl]; (try rfl)]
            exact ⟨_, rfl, par_end (par_row' (HLu.out.later Kk35.out) hW37 (by omega) (by have := Z0.out; omega)) (by have := Z0.out; omega), kept_set (kept_trans Kk5.out Kk35.out) hW37 (by omega)⟩
          · have ec32 : (r == 26) = false := beq_eq_false_iff_ne.2 c32
            have fc32 : (r != 26) = true := by rw [bne, ec32]; rfl
            have Ec32 := Lib.hid ec32
            have Hc32 := Lib.hid c32
            clear c32
            by_cases c38 : r = 27
            · have ec38 : (r == 27) = true := beq_iff_eq.2 c38
              have fc38 : (r != 27) = false := by rw [bne, ec38]; rfl
              have Ec38 := Lib.hid ec38
              have Hc38 := Lib.hid c38
              clear c38
              go_wp2_with (refine stop_load 34 (.tmp 3) rfl ?_)
              intro _
              refine wpList_load_part (w.heap.size) (0) 34 (.tmp 3) #[.bool false, .int .i64 u.k, .int .i64 u.i, .int .i64 u.j, .int .i64 u.n, (.slice au u.kids.length cu), .int .i64 v.k, .int .i64 v.i, .int .i64 v.j, .int .i64 v.n, (.slice av v.kids.length cv), .int .i64 x.k, .int .i64 x.i, .int .i64 x.j, .int .i64 x.n, (.slice ax x.kids.length cx), .int .i64 i] dj Hx1.out (by rfl) rfl (by rfl) (by rfl) dj1 (by cases dj <;> first | rfl | exact dj2) (by kernel_rfl) ?_
              go_wp2_with fail
              clear kvV0
              refine (aretypes0_any i u v x (Par w V0.heap.size [] P) V0 ((.slice au u.kids.length cu)) ((.slice av v.kids.length cv)) ((.slice ax x.kids.length cx)) Gu.out HLu.out Gv.out HLv.out Gx.out HLx.out Ri.out HX0.out HX1.out).mono ?_
              rintro e w39 ⟨rfl, k40⟩
              have Kk41 := Lib.hid k40
              clear k40
              have kvV0 : Sees V0 (w.heap.size + 1) w39 := sees_kept _ Kk41.out
              go_wp2_with (refine stop_load 32 (.tmp 35) rfl ?_)
              intro _
              refine wpList_load_part (w.heap.size) (1) 32 (.tmp 35) #[.int .i64 u.k, .int .i64 u.i, .int .i64 u.j, .int .i64 u.n, (.slice au u.kids.length cu)] du (blk_at Hx1.out Kk41.out) (by rfl) rfl (by rfl) (by rfl) hu1 (by cases du <;> first | rfl | exact hu2) size_term ?_
              go_wp2_with (refine stop_store 52 (.tmp 4) (.tmp 38) rfl ?_)
              intro _
              refine wpList_store_part_n (by rfl) 52 (.tmp 4) (.tmp 38) rfl (w.heap.size + 1) 0 #[.int .i64 u.k, .int .i64 u.i, .int .i64 u.j, .int .i64 u.n, (.slice au u.kids.length cu), .int .i64 x.i] (by rfl) (by rfl) 52 (by kernel_rfl) (row_ok rfl) ?_
              intro W42 hW42
              clear kvV0
              subst hW42
              refine ⟨_, #[.int .i64 u.k, .int .i64 u.i, .int .i64 u.j, .int .i64 u.n, (.slice au u.kids.length cu), .int .i64 x.i], (blk_at Hx2.out Kk41.out), rfl, Nat.le_of_ble_eq_true rfl, ?_⟩
              intro W43 hW43
              go_wp2_with fail
              (try simp only [Exit.inBlock, Exit.then])
              refine bodyPost_ret (results_cell_tmp rfl _ _ (w.heap.size + 1) 52 _ _ de rfl (blk_same (blk_at Hx2.out Kk41.out) hW43) de1 (by cases de <;> first | rfl | exact de2) (by kernel_rfl)) rfl ?_
              have hcl : rcls r = 1 := by unfold rcls; rw [Ec8.out, Ec14.out, Ec20.out, Ec26.out, Ec32.out, Ec38.out]; rfl
              rw [show entB r (⟨false, u, v, x, i⟩ : Jd) = ((⟨u, x.i⟩ : En), false) from by rw [entB_1 _ hcl]; (try rfl)]
              exact ⟨_, rfl, par_end (par_row' (HLu.out.later Kk41.out) hW43 (by omega) (by have := Z0.out; omega)) (by have := Z0.out; omega), kept_set (kept_trans Kk5.out Kk41.out) hW43 (by omega)⟩
            · have ec38 : (r == 27) = false := beq_eq_false_iff_ne.2 c38
              have fc38 : (r != 27) = true := by rw [bne, ec38]; rfl
              have Ec38 := Lib.hid ec38
              have Hc38 := Lib.hid c38
              clear c38
              by_cases c44 : r = 28
              · have ec44 : (r == 28) = true := beq_iff_eq.2 c44
                have fc44 : (r != 28) = false := by rw [bne, ec44]; rfl
                have Ec44 := Lib.hid ec44
                have Hc44 := Lib.hid c44
                clear c44
                go_wp2_with (refine stop_load 34 (.tmp 3) rfl ?_)
                intro _
                refine wpList_load_part (w.heap.size) (0) 34 (.tmp 3) #[.bool false, .int .i64 u.k, .int .i64 u.i, .int .i64 u.j, .int .i64 u.n, (.slice au u.kids.length cu), .int .i64 v.k, .int .i64 v.i, .int .i64 v.j, .int .i64 v.n, (.slice av v.kids.length cv), .int .i64 x.k, .int .i64 x.i, .int .i64 x.j, .int .i64 x.n, (.slice ax x.kids.length cx), .int .i64 i] dj Hx1.out (by rfl) rfl (by rfl) (by rfl) dj1 (by cases dj <;> first | rfl | exact dj2) (by kernel_rfl) ?_
                go_wp2_with fail
                clear kvV0
                refine (aretypes0_any i u v x (Par w V0.heap.size [] P) V0 ((.slice au u.kids.length cu)) ((.slice av v.kids.length cv)) ((.slice ax x.kids.length cx)) Gu.out HLu.out Gv.out HLv.out Gx.out HLx.out Ri.out HX0.out HX1.out).mono ?_
                rintro e w45 ⟨rfl, k46⟩
                have Kk47 := Lib.hid k46
                clear k46
                have kvV0 : Sees V0 (w.heap.size + 1) w45 := sees_kept _ Kk47.out
                go_wp2_with (refine stop_load 32 (.tmp 35) rfl ?_)
                intro _
                refine wpList_load_part (w.heap.size) (1) 32 (.tmp 35) #[.int .i64 u.k, .int .i64 u.i, .int .i64 u.j, .int .i64 u.n, (.slice au u.kids.length cu)] du (blk_at Hx1.out Kk47.out) (by rfl) rfl (by rfl) (by rfl) hu1 (by cases du <;> first | rfl | exact hu2) size_term ?_
                go_wp2_with (refine stop_store 52 (.tmp 4) (.tmp 38) rfl ?_)
                intro _
                refine wpList_store_part_n (by rfl) 52 (.tmp 4) (.tmp 38) rfl (w.heap.size + 1) 0 #[.int .i64 u.k, .int .i64 u.i, .int .i64 u.j, .int .i64 u.n, (.slice au u.kids.length cu), .int .i64 x.i] (by rfl) (by rfl) 52 (by kernel_rfl) (row_ok rfl) ?_
                intro W48 hW48
                clear kvV0
                subst hW48
                refine ⟨_, #[.int .i64 u.k, .int .i64 u.i, .int .i64 u.j, .int .i64 u.n, (.slice au u.kids.length cu), .int .i64 x.i], (blk_at Hx2.out Kk47.out), rfl, Nat.le_of_ble_eq_true rfl, ?_⟩
                intro W49 hW49
                go_wp2_with fail
                (try simp only [Exit.inBlock, Exit.then])
                refine bodyPost_ret (results_cell_tmp rfl _ _ (w.heap.size + 1) 52 _ _ de rfl (blk_same (blk_at Hx2.out Kk47.out) hW49) de1 (by cases de <;> first | rfl | exact de2) (by kernel_rfl)) rfl ?_
                have hcl : rcls r = 1 := by unfold rcls; rw [Ec8.out, Ec14.out, Ec20.out, Ec26.out, Ec32.out, Ec38.out, Ec44.out]; rfl
                rw [show entB r (⟨false, u, v, x, i⟩ : Jd) = ((⟨u, x.i⟩ : En), false) from by rw [entB_1 _ hcl]; (try rfl)]
                exact ⟨_, rfl, par_end (par_row' (HLu.out.later Kk47.out) hW49 (by omega) (by have := Z0.out; omega)) (by have := Z0.out; omega), kept_set (kept_trans Kk5.out Kk47.out) hW49 (by omega)⟩
              · have ec44 : (r == 28) = false := beq_eq_false_iff_ne.2 c44
                have fc44 : (r != 28) = true := by rw [bne, ec44]; rfl
                have Ec44 := Lib.hid ec44
                have Hc44 := Lib.hid c44
                clear c44
                go_wp2_with fail
                clear kvV0
                obtain ⟨W50, h51⟩ : ∃ x, World.drew V0 = x := ⟨_, rfl⟩
                have k52 : Kept V0 W50 := by rw [← h51]; exact kept_drew (kept_refl _)
                have Kk53 := Lib.hid k52
                clear k52
                refine wp_region_held_drew (S := Sees W50 (w.heap.size + 1)) (by kernel_rfl) ?_ (fun hHeld => ?_)
                · (try dsimp only)
                  rw [h51]
                  exact sees_kept _ (kept_refl _)
                rw [h51] at hHeld ⊢
                clear h51
                refine take_at 0 40 entryB0r13_0 (v := ?_) (Or.inl ⟨by rfl, ?_⟩) ?_
                rotate_left 1
                · ((intro w hSw; (try dsimp only at hSw); unfold entryB0r13_0; go_simp) <;> with_reducible rfl)
                (try simp only [Act.put, List.setIfInBounds_toArray, List.set_cons_zero, List.set_cons_succ])
                refine take_at 1 41 entryB0r13_1 (yields_part (w.heap.size) (11) 32 (.tmp 40) #[.int .i64 x.k, .int .i64 x.i, .int .i64 x.j, .int .i64 x.n, (.slice ax x.kids.length cx)] du (fun _ h => sees_blk Hx1.out (by have := Z0.out; omega) (sees_of Kk53.out h)) (by rfl) rfl (by rfl) (by rfl) hu1 (by cases du <;> first | rfl | exact hu2) size_term) ?_
                (try simp only [Act.put, List.setIfInBounds_toArray, List.set_cons_zero, List.set_cons_succ])
                refine take_at 2 42 entryB0r13_2 (v := ?_) (Or.inl ⟨by rfl, ?_⟩) ?_
                rotate_left 1
                · ((intro w hSw; (try dsimp only at hSw); unfold entryB0r13_2; go_simp) <;> with_reducible rfl)
                (try simp only [Act.put, List.setIfInBounds_toArray, List.set_cons_zero, List.set_cons_succ])
                refine take_at 3 43 entryB0r13_3 (v := ?_) (Or.inl ⟨by rfl, ?_⟩) ?_
                rotate_left 1
                · ((intro w hSw; (try dsimp only at hSw); have qV0 := sees_of Kk53.out hSw; unfold entryB0r13_3; go_simp) <;> with_reducible rfl)
                (try simp only [Act.put, List.setIfInBounds_toArray, List.set_cons_zero, List.set_cons_succ])
                refine take_at 4 44 entryB0r13_4 (v := ?_) (Or.inl ⟨by rfl, ?_⟩) ?_
                rotate_left 1
                · ((intro w hSw; (try dsimp only at hSw); unfold entryB0r13_4; go_simp) <;> with_reducible rfl)
                (try simp only [Act.put, List.setIfInBounds_toArray, List.set_cons_zero, List.set_cons_succ])
                refine take_at 5 45 entryB0r13_5 (v := ?_) (Or.inl ⟨by rfl, ?_⟩) ?_
                rotate_left 1
                · ((intro w hSw; (try dsimp only at hSw); unfold entryB0r13_5; go_simp) <;> with_reducible rfl)
                (try simp only [Act.put, List.setIfInBounds_toArray, List.set_cons_zero, List.set_cons_succ])
                refine take_at 6 46 entryB0r13_6 (v := ?_) (Or.inl ⟨by rfl, ?_⟩) ?_
                rotate_left 1
                · ((intro w hSw; (try dsimp only at hSw); have qV0 := sees_of Kk53.out hSw; unfold entryB0r13_6; go_simp) <;> with_reducible rfl)
                (try simp only [Act.put, List.setIfInBounds_toArray, List.set_cons_zero, List.set_cons_succ])
                refine take_at 7 47 entryB0r13_7 (v := ?_) (Or.inl ⟨by rfl, ?_⟩) ?_
                rotate_left 1
                · ((intro w hSw; (try dsimp only at hSw); unfold entryB0r13_7; go_simp) <;> with_reducible rfl)
                (try simp only [Act.put, List.setIfInBounds_toArray, List.set_cons_zero, List.set_cons_succ])
                refine take_at 8 48 entryB0r13_8 (v := ?_) (Or.inl ⟨by rfl, ?_⟩) ?_
                rotate_left 1
                · ((intro w hSw; (try dsimp only at hSw); unfold entryB0r13_8; go_simp) <;> with_reducible rfl)
                (try simp only [Act.put, List.setIfInBounds_toArray, List.set_cons_zero, List.set_cons_succ])
                refine take_at 9 49 entryB0r13_9 (v := ?_) (Or.inl ⟨by rfl, ?_⟩) ?_
                rotate_left 1
                · ((intro w hSw; (try dsimp only at hSw); unfold entryB0r13_9; go_simp) <;> with_reducible rfl)
                (try simp only [Act.put, List.setIfInBounds_toArray, List.set_cons_zero, List.set_cons_succ])
                refine wpAnyH_ready (rs := [10]) (by kernel_rfl) (by simp) ?_
                refine AllReadyH.cons (o := entryB0r13_10) rfl (fun K hK => ?_) ?_
                · unfold entryB0r13_10
                  refine step_store_part rfl 52 (.tmp 4) (.tmp 44) rfl (w.heap.size + 1) 0 #[.int .i64 x.k, .int .i64 x.i, .int .i64 x.j, .int .i64 x.n, (.slice ax x.kids.length cx), .int .i64 i] rfl rfl 52 (by kernel_rfl) (row_ok rfl) _ #[.int .i64 x.k, .int .i64 x.i, .int .i64 x.j, .int .i64 x.n, (.slice ax x.kids.length cx), .int .i64 i] (blk_at Hx2.out Kk53.out) rfl (Nat.le_of_ble_eq_true rfl) ?_
                  intro W54 hW54
                  clear hHeld
                  refine hK.out _ _ (sees_set (kept_refl _) hW54) (fun hHeld => ?_)
                  clear hK K
                  (try simp only [Act.put])
                  refine take_at 11 5 entryB0r13_11 (v := ?_) (Or.inl ⟨by rfl, ?_⟩) ?_
                  rotate_left 1
                  · ((intro w hSw; (try dsimp only at hSw); unfold entryB0r13_11; go_simp) <;> with_reducible rfl)
                  (try simp only [Act.put, List.setIfInBounds_toArray, List.set_cons_zero, List.set_cons_succ])
                  refine wpAnyH_done (by kernel_rfl) ?_ _
                  clear hHeld
                  go_wp2_with fail
                  (try simp only [Exit.inBlock, Exit.then])
                  refine bodyPost_ret (results_cell_tmp rfl _ _ (w.heap.size + 1) 52 _ _ de rfl (blk_same (blk_at Hx2.out Kk53.out) hW54) de1 (by cases de <;> first | rfl | exact de2) (by kernel_rfl)) rfl ?_
                  have hcl : rcls r = 2 := by unfold rcls; rw [Ec8.out, Ec14.out, Ec20.out, Ec26.out, Ec32.out, Ec38.out, Ec44.out]; rfl
                  rw [show entB r (⟨false, u, v, x, i⟩ : Jd) = ((⟨x, i⟩ : En), true) from by rw [entB_2 _ hcl]; (try simp only []); rw [E23.out]; (try rfl)]
                  exact ⟨_, rfl, par_end (par_row' (HLx.out.later Kk53.out) hW54 (by omega) (by have := Z0.out; omega)) (by have := Z0.out; omega), kept_set (kept_trans Kk5.out Kk53.out) hW54 (by omega)⟩
                exact AllReadyH.nil

theorem entry0_any (r i : Int) (u v x : Tm) (P : Nat → Prop) (w : World) (hrr : I64 r) (su sv sx : Value) (hfu : u.fine) (hlu : LiesQ w P u.kids su) (hfv : v.fine) (hlv : LiesQ w P v.kids sv) (hfx : x.fine) (hlx : LiesQ w P x.kids sx) (hri : I64 i) (hx0 : 0 ≤ x.i) (hx1 : x.i ≤ 2147483647) : Calls Try.prog 26 #[.int .i64 r, jv (⟨false, u, v, x, i⟩ : Jd) su sv sx] w (GivesEB P (entB r (⟨false, u, v, x, i⟩ : Jd)).1 (entB r (⟨false, u, v, x, i⟩ : Jd)).2 w) := by
  by_cases h : r = 23
  · subst h; exact entryA0_any i u v x P w su sv sx hfu hlu hfv hlv hfx hlx hri hx0 hx1
  · exact entryB0_any r i u v x P w su sv sx hrr hfu hlu hfv hlv hfx hlx hri hx0 hx1 (by simpa using h)

def entryA1r13_0 : Oper := { dst := some 40, op := Go.Op.fieldAddr 34 (Go.Operand.tmp 3) 3, type := 0, pos := "rule.go:87", after := #[], guard := none }
def entryA1r13_1 : Oper := { dst := some 41, op := Go.Op.load 32 (Go.Operand.tmp 40), type := 32, pos := "rule.go:87", after := #[{ on := 0, ground := Go.Ground.data }], guard := none }
def entryA1r13_2 : Oper := { dst := some 42, op := Go.Op.fieldAddr 34 (Go.Operand.tmp 3) 4, type := 0, pos := "rule.go:87", after := #[], guard := none }
def entryA1r13_3 : Oper := { dst := some 43, op := Go.Op.load 3 (Go.Operand.tmp 42), type := 3, pos := "rule.go:87", after := #[{ on := 2, ground := Go.Ground.data }], guard := none }
def entryA1r13_4 : Oper := { dst := some 44, op := Go.Op.build 52 #[(0, Go.Operand.tmp 41), (1, Go.Operand.tmp 43)], type := 52, pos := "rule.go:87", after := #[{ on := 1, ground := Go.Ground.data }, { on := 3, ground := Go.Ground.data }], guard := none }
def entryA1r13_5 : Oper := { dst := some 45, op := Go.Op.fieldAddr 34 (Go.Operand.tmp 3) 0, type := 0, pos := "rule.go:87", after := #[{ on := 10, ground := Go.Ground.gcOnly Go.Departure.lateStores }], guard := none }
def entryA1r13_6 : Oper := { dst := some 46, op := Go.Op.load 4 (Go.Operand.tmp 45), type := 4, pos := "rule.go:87", after := #[{ on := 5, ground := Go.Ground.data }, { on := 10, ground := Go.Ground.gcOnly Go.Departure.lateStores }], guard := none }
def entryA1r13_7 : Oper := { dst := some 47, op := Go.Op.move (Go.Operand.tmp 0), type := 3, pos := "rule.go:87", after := #[{ on := 10, ground := Go.Ground.gcOnly Go.Departure.lateStores }], guard := none }
def entryA1r13_8 : Oper := { dst := some 48, op := Go.Op.binOp Go.BinOp.eql 3 (Go.Operand.tmp 47) (Go.Operand.const (Go.Value.int Go.IntKind.i64 23)) 3, type := 4, pos := "rule.go:87", after := #[{ on := 7, ground := Go.Ground.data }, { on := 10, ground := Go.Ground.gcOnly Go.Departure.lateStores }], guard := none }
def entryA1r13_9 : Oper := { dst := some 49, op := Go.Op.binOp Go.BinOp.eql 4 (Go.Operand.tmp 46) (Go.Operand.tmp 48) 4, type := 4, pos := "rule.go:87", after := #[{ on := 6, ground := Go.Ground.data }, { on := 8, ground := Go.Ground.data }, { on := 10, ground := Go.Ground.gcOnly Go.Departure.lateStores }], guard := none }
def entryA1r13_10 : Oper := { dst := none, op := Go.Op.store 52 (Go.Operand.tmp 4) (Go.Operand.tmp 44), type := 0, pos := "rule.go:87", after := #[{ on := 4, ground := Go.Ground.data }, { on := 0, ground := Go.Ground.phase }, { on := 1, ground := Go.Ground.phase }, { on := 2, ground := Go.Ground.phase }, { on := 3, ground := Go.Ground.phase }, { on := 4, ground := Go.Ground.phase }, { on := 5, ground := Go.Ground.textOnly Go.Departure.lateStores }, { on := 6, ground := Go.Ground.textOnly Go.Departure.lateStores }, { on := 7, ground := Go.Ground.textOnly Go.Departure.lateStores }, { on := 8, ground := Go.Ground.textOnly Go.Departure.lateStores }, { on := 9, ground := Go.Ground.textOnly Go.Departure.lateStores }], guard := none }
def entryA1r13_11 : Oper := { dst := some 5, op := Go.Op.assign (Go.Operand.tmp 49), type := 4, pos := "rule.go:87", after := #[{ on := 9, ground := Go.Ground.data }, { on := 10, ground := Go.Ground.chain }, { on := 0, ground := Go.Ground.phase }, { on := 1, ground := Go.Ground.phase }, { on := 2, ground := Go.Ground.phase }, { on := 3, ground := Go.Ground.phase }, { on := 4, ground := Go.Ground.phase }, { on := 5, ground := Go.Ground.phase }, { on := 6, ground := Go.Ground.phase }, { on := 7, ground := Go.Ground.phase }, { on := 8, ground := Go.Ground.phase }, { on := 9, ground := Go.Ground.phase }, { on := 10, ground := Go.Ground.phase }], guard := none }
set_option maxRecDepth 20000 in
set_option maxHeartbeats 4000000 in
theorem entryA1_any (i : Int) (u : Tm) (v : Tm) (x : Tm) (P : Nat → Prop) (w : World) (su : Value) (sv : Value) (sx : Value) (hfu : u.fine) (hlu : LiesQ w P u.kids su) (hfv : v.fine) (hlv : LiesQ w P v.kids sv) (hfx : x.fine) (hlx : LiesQ w P x.kids sx) (hri : I64 i) (hx0 : 0 ≤ x.i) (hx1 : x.i ≤ 2147483647) : Calls Try.prog 26 #[.int .i64 23, .agg #[.bool true, .int .i64 u.k, .int .i64 u.i, .int .i64 u.j, .int .i64 u.n, su, .int .i64 v.k, .int .i64 v.i, .int .i64 v.j, .int .i64 v.n, sv, .int .i64 x.k, .int .i64 x.i, .int .i64 x.j, .int .i64 x.n, sx, .int .i64 i]] w (GivesEB P (entB 23 (⟨true, u, v, x, i⟩ : Jd)).1 (entB 23 (⟨true, u, v, x, i⟩ : Jd)).2 w) := by
  have Gu := Lib.hid hfu
  clear hfu
  obtain ⟨au, cu, Su, rfl, -⟩ := hlu.out
  have Gv := Lib.hid hfv
  clear hfv
  obtain ⟨av, cv, Sv, rfl, -⟩ := hlv.out
  have Gx := Lib.hid hfx
  clear hfx
  obtain ⟨ax, cx, Sx, rfl, -⟩ := hlx.out
  have Ri := Lib.hid hri
  clear hri
  have HX0 := Lib.hid hx0
  have HX1 := Lib.hid hx1
  have ew : IntKind.i64.wrap (x.i + 1) = x.i + 1 := IntWalk.i64_in _ (by omega)
  clear hx0 hx1
  obtain ⟨de, de1, de2⟩ := under_of 52 (by kernel_rfl)
  obtain ⟨dj, dj1, dj2⟩ := under_of 34 (by kernel_rfl)
  obtain ⟨du, hu1, hu2⟩ := under_term
  go_enter Try.func26, Try.ntmps26
  go_upto_region 1 with fail
  refine at_code (fun V0 hV0 => ?_)
  obtain ⟨k3, x1, x2, z4⟩ := alloc2 hV0
  have Kk5 := Lib.hid k3
  clear k3
  have Hx1 := Lib.hid x1
  have Hx2 := Lib.hid x2
  have Z0 := Lib.hid z4
  clear z4 x1 x2 hV0
  have HLu : Hid (LiesQ V0 (Par w V0.heap.size [] P) u.kids _) := (par_in _ _ hlu).later Kk5.out
  clear hlu
  have HLv : Hid (LiesQ V0 (Par w V0.heap.size [] P) v.kids _) := (par_in _ _ hlv).later Kk5.out
  clear hlv
  have HLx : Hid (LiesQ V0 (Par w V0.heap.size [] P) x.kids _) := (par_in _ _ hlx).later Kk5.out
  clear hlx
  have ld6 := part_cell (r := (w.heap.size + 1)) Hx1.out (by have := Z0.out; omega) 0 (.bool true) rfl
  have ld7 := part_cell (r := (w.heap.size + 1)) Hx1.out (by have := Z0.out; omega) 16 (.int .i64 i) rfl
  have kvV0 : Sees V0 (w.heap.size + 1) V0 := sees_kept _ (kept_refl _)
  go_wp2_with fail
  clear kvV0
  obtain ⟨W8, h9⟩ : ∃ x, World.drew V0 = x := ⟨_, rfl⟩
  have k10 : Kept V0 W8 := by rw [← h9]; exact kept_drew (kept_refl _)
  have Kk11 := Lib.hid k10
  clear k10
  refine wp_region_held_drew (S := Sees W8 (w.heap.size + 1)) (by kernel_rfl) ?_ (fun hHeld => ?_)
  · (try dsimp only)
    rw [h9]
    exact sees_kept _ (kept_refl _)
  rw [h9] at hHeld ⊢
  clear h9
  refine take_at 0 40 entryA1r13_0 (v := ?_) (Or.inl ⟨by rfl, ?_⟩) ?_
  rotate_left 1
  · ((intro w hSw; (try dsimp only at hSw); unfold entryA1r13_0; go_simp) <;> with_reducible rfl)
  (try simp only [Act.put, List.setIfInBounds_toArray, List.set_cons_zero, List.set_cons_succ])
  refine take_at 1 41 entryA1r13_1 (yields_part (w.heap.size) (11) 32 (.tmp 40) #[.int .i64 x.k, .int .i64 x.i, .int .i64 x.j, .int .i64 x.n, (.slice ax x.kids.length cx)] du (fun _ h => sees_blk Hx1.out (by have := Z0.out; omega) (sees_of Kk11.out h)) (by rfl) rfl (by rfl) (by rfl) hu1 (by cases du <;> first | rfl | exact hu2) size_term) ?_
  (try simp only [Act.put, List.setIfInBounds_toArray, List.set_cons_zero, List.set_cons_succ])
  refine take_at 2 42 entryA1r13_2 (v := ?_) (Or.inl ⟨by rfl, ?_⟩) ?_
  rotate_left 1
  · ((intro w hSw; (try dsimp only at hSw); unfold entryA1r13_2; go_simp) <;> with_reducible rfl)
  (try simp only [Act.put, List.setIfInBounds_toArray, List.set_cons_zero, List.set_cons_succ])
  refine take_at 3 43 entryA1r13_3 (v := ?_) (Or.inl ⟨by rfl, ?_⟩) ?_
  rotate_left 1
  · ((intro w hSw; (try dsimp only at hSw); have qV0 := sees_of Kk11.out hSw; unfold entryA1r13_3; go_simp) <;> with_reducible rfl)
  (try simp only [Act.put, List.setIfInBounds_toArray, List.set_cons_zero, List.set_cons_succ])
  refine take_at 4 44 entryA1r13_4 (v := ?_) (Or.inl ⟨by rfl, ?_⟩) ?_
  rotate_left 1
  · ((intro w hSw; (try dsimp only at hSw); unfold entryA1r13_4; go_simp) <;> with_reducible rfl)
  (try simp only [Act.put, List.setIfInBounds_toArray, List.set_cons_zero, List.set_cons_succ])
  refine take_at 5 45 entryA1r13_5 (v := ?_) (Or.inl ⟨by rfl, ?_⟩) ?_
  rotate_left 1
  · ((intro w hSw; (try dsimp only at hSw); unfold entryA1r13_5; go_simp) <;> with_reducible rfl)
  (try simp only [Act.put, List.setIfInBounds_toArray, List.set_cons_zero, List.set_cons_succ])
  refine take_at 6 46 entryA1r13_6 (v := ?_) (Or.inl ⟨by rfl, ?_⟩) ?_
  rotate_left 1
  · ((intro w hSw; (try dsimp only at hSw); have qV0 := sees_of Kk11.out hSw; unfold entryA1r13_6; go_simp) <;> with_reducible rfl)
  (try simp only [Act.put, List.setIfInBounds_toArray, List.set_cons_zero, List.set_cons_succ])
  refine take_at 7 47 entryA1r13_7 (v := ?_) (Or.inl ⟨by rfl, ?_⟩) ?_
  rotate_left 1
  · ((intro w hSw; (try dsimp only at hSw); unfold entryA1r13_7; go_simp) <;> with_reducible rfl)
  (try simp only [Act.put, List.setIfInBounds_toArray, List.set_cons_zero, List.set_cons_succ])
  refine take_at 8 48 entryA1r13_8 (v := ?_) (Or.inl ⟨by rfl, ?_⟩) ?_
  rotate_left 1
  · ((intro w hSw; (try dsimp only at hSw); unfold entryA1r13_8; go_simp) <;> with_reducible rfl)
  (try simp only [Act.put, List.setIfInBounds_toArray, List.set_cons_zero, List.set_cons_succ])
  refine take_at 9 49 entryA1r13_9 (v := ?_) (Or.inl ⟨by rfl, ?_⟩) ?_
  rotate_left 1
  · ((intro w hSw; (try dsimp only at hSw); unfold entryA1r13_9; go_simp) <;> with_reducible rfl)
  (try simp only [Act.put, List.setIfInBounds_toArray, List.set_cons_zero, List.set_cons_succ])
  refine wpAnyH_ready (rs := [10]) (by kernel_rfl) (by simp) ?_
  refine AllReadyH.cons (o := entryA1r13_10) rfl (fun K hK => ?_) ?_
  · unfold entryA1r13_10
    refine step_store_part rfl 52 (.tmp 4) (.tmp 44) rfl (w.heap.size + 1) 0 #[.int .i64 x.k, .int .i64 x.i, .int .i64 x.j, .int .i64 x.n, (.slice ax x.kids.length cx), .int .i64 i] rfl rfl 52 (by kernel_rfl) (row_ok rfl) _ #[.int .i64 x.k, .int .i64 x.i, .int .i64 x.j, .int .i64 x.n, (.slice ax x.kids.length cx), .int .i64 i] (blk_at Hx2.out Kk11.out) rfl (Nat.le_of_ble_eq_true rfl) ?_
    intro W12 hW12
    clear hHeld
    refine hK.out _ _ (sees_set (kept_refl _) hW12) (fun hHeld => ?_)
    clear hK K
    (try simp only [Act.put])
    refine take_at 11 5 entryA1r13_11 (v := ?_) (Or.inl ⟨by rfl, ?_⟩) ?_
    rotate_left 1
    · ((intro w hSw; (try dsimp only at hSw); unfold entryA1r13_11; go_simp) <;> with_reducible rfl)
    (try simp only [Act.put, List.setIfInBounds_toArray, List.set_cons_zero, List.set_cons_succ])
    refine wpAnyH_done (by kernel_rfl) ?_ _
    clear hHeld
    go_wp2_with fail
    (try simp only [Exit.inBlock, Exit.then])
    refine bodyPost_ret (results_cell_tmp rfl _ _ (w.heap.size + 1) 52 _ _ de rfl (blk_same (blk_at Hx2.out Kk11.out) hW12) de1 (by cases de <;> first | rfl | exact de2) (by kernel_rfl)) rfl ?_
    have hcl : rcls 23 = 2 := by decide
    rw [show entB 23 (⟨true, u, v, x, i⟩ : Jd) = ((⟨x, i⟩ : En), true) from by rw [entB_2 _ hcl]; (try rfl)]
    exact ⟨_, rfl, par_end (par_row' (HLx.out.later Kk11.out) hW12 (by omega) (by have := Z0.out; omega)) (by have := Z0.out; omega), kept_set (kept_trans Kk5.out Kk11.out) hW12 (by omega)⟩
  exact AllReadyH.nil

def entryB1r13_0 : Oper := { dst := some 40, op := Go.Op.fieldAddr 34 (Go.Operand.tmp 3) 3, type := 0, pos := "rule.go:87", after := #[], guard := none }
def entryB1r13_1 : Oper := { dst := some 41, op := Go.Op.load 32 (Go.Operand.tmp 40), type := 32, pos := "rule.go:87", after := #[{ on := 0, ground := Go.Ground.data }], guard := none }
def entryB1r13_2 : Oper := { dst := some 42, op := Go.Op.fieldAddr 34 (Go.Operand.tmp 3) 4, type := 0, pos := "rule.go:87", after := #[], guard := none }
def entryB1r13_3 : Oper := { dst := some 43, op := Go.Op.load 3 (Go.Operand.tmp 42), type := 3, pos := "rule.go:87", after := #[{ on := 2, ground := Go.Ground.data }], guard := none }
def entryB1r13_4 : Oper := { dst := some 44, op := Go.Op.build 52 #[(0, Go.Operand.tmp 41), (1, Go.Operand.tmp 43)], type := 52, pos := "rule.go:87", after := #[{ on := 1, ground := Go.Ground.data }, { on := 3, ground := Go.Ground.data }], guard := none }
def entryB1r13_5 : Oper := { dst := some 45, op := Go.Op.fieldAddr 34 (Go.Operand.tmp 3) 0, type := 0, pos := "rule.go:87", after := #[{ on := 10, ground := Go.Ground.gcOnly Go.Departure.lateStores }], guard := none }
def entryB1r13_6 : Oper := { dst := some 46, op := Go.Op.load 4 (Go.Operand.tmp 45), type := 4, pos := "rule.go:87", after := #[{ on := 5, ground := Go.Ground.data }, { on := 10, ground := Go.Ground.gcOnly Go.Departure.lateStores }], guard := none }
def entryB1r13_7 : Oper := { dst := some 47, op := Go.Op.move (Go.Operand.tmp 0), type := 3, pos := "rule.go:87", after := #[{ on := 10, ground := Go.Ground.gcOnly Go.Departure.lateStores }], guard := none }
def entryB1r13_8 : Oper := { dst := some 48, op := Go.Op.binOp Go.BinOp.eql 3 (Go.Operand.tmp 47) (Go.Operand.const (Go.Value.int Go.IntKind.i64 23)) 3, type := 4, pos := "rule.go:87", after := #[{ on := 7, ground := Go.Ground.data }, { on := 10, ground := Go.Ground.gcOnly Go.Departure.lateStores }], guard := none }
def entryB1r13_9 : Oper := { dst := some 49, op := Go.Op.binOp Go.BinOp.eql 4 (Go.Operand.tmp 46) (Go.Operand.tmp 48) 4, type := 4, pos := "rule.go:87", after := #[{ on := 6, ground := Go.Ground.data }, { on := 8, ground := Go.Ground.data }, { on := 10, ground := Go.Ground.gcOnly Go.Departure.lateStores }], guard := none }
def entryB1r13_10 : Oper := { dst := none, op := Go.Op.store 52 (Go.Operand.tmp 4) (Go.Operand.tmp 44), type := 0, pos := "rule.go:87", after := #[{ on := 4, ground := Go.Ground.data }, { on := 0, ground := Go.Ground.phase }, { on := 1, ground := Go.Ground.phase }, { on := 2, ground := Go.Ground.phase }, { on := 3, ground := Go.Ground.phase }, { on := 4, ground := Go.Ground.phase }, { on := 5, ground := Go.Ground.textOnly Go.Departure.lateStores }, { on := 6, ground := Go.Ground.textOnly Go.Departure.lateStores }, { on := 7, ground := Go.Ground.textOnly Go.Departure.lateStores }, { on := 8, ground := Go.Ground.textOnly Go.Departure.lateStores }, { on := 9, ground := Go.Ground.textOnly Go.Departure.lateStores }], guard := none }
def entryB1r13_11 : Oper := { dst := some 5, op := Go.Op.assign (Go.Operand.tmp 49), type := 4, pos := "rule.go:87", after := #[{ on := 9, ground := Go.Ground.data }, { on := 10, ground := Go.Ground.chain }, { on := 0, ground := Go.Ground.phase }, { on := 1, ground := Go.Ground.phase }, { on := 2, ground := Go.Ground.phase }, { on := 3, ground := Go.Ground.phase }, { on := 4, ground := Go.Ground.phase }, { on := 5, ground := Go.Ground.phase }, { on := 6, ground := Go.Ground.phase }, { on := 7, ground := Go.Ground.phase }, { on := 8, ground := Go.Ground.phase }, { on := 9, ground := Go.Ground.phase }, { on := 10, ground := Go.Ground.phase }], guard := none }
end Go.Proofs.Ytjlppnmckobcfaa
