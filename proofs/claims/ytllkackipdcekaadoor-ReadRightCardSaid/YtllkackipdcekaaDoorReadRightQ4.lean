/-
  ReadRight holds: for every input the call returns true, and the arguments read as before. No condition.
-/
import Derived.Lib.ItoaNum
import Derived.Lib.ItoaLen
import Derived.Test.YtllkackipdcekaaDoorRows
import Derived.WalkKit
import Derived.Lib.Hide
import Derived.ProofKit
import Derived.LoopTactic
import Derived.Below
import Derived.IntWalk
import Derived.Lib.Strings
import Derived.Laws.Strings2
import Derived.Deep.AppendLies
import Derived.Laws.Rows
import Derived.OwnWalk
import Derived.KernelRfl
import Derived.Deep.RegionHeld3
import Derived.Lib.Builder
import Derived.WalkSmall
import Derived.Maps.GroupsBeside
import Derived.Maps.StringElems
import Derived.Laws.OwnMore
import Derived.Deep.RegionLaw
import Derived.Maps.AppendAt
import Derived.Deep.Cut
import Derived.Deep.DeepCutAuto
import Derived.Maps.OwnOps
import Derived.Maps.OwnSet
import Derived.Lib.MinMax
import Derived.Laws.IdiomCopy
import Derived.Deep.Slices
import Derived.Lib.QuietBelow
import Derived.StillTailTactics
import Derived.BigQuiet
import Derived.Deep.RegionWith
import Derived.OrdersHeld
import Derived.Recover
import Derived.RegionTactic
import Derived.Defers
import Derived.OpenShut
import Derived.Carry
import Derived.SliceStrings
import Derived.Test.YtllkackipdcekaaDoorShelf
import Derived.Lib.AppendIntMem
import Derived.Lib.LaidTab
import Derived.LaidMore
import Derived.LaidSub
import Derived.LaidHandle
import Derived.Stop.Joined
import Derived.JoinedOf
import Derived.Test.YtllkackipdcekaaDoorCards
import Derived.Test.YtllkackipdcekaaDoorTie
import Derived.SevenTiedAt
import Derived.ChangeMaps5
import Derived.Test.YtllkackipdcekaaDoorReadRightQ3
namespace Go.Proofs.YtllkackipdcekaaDoor
open Go.RowKit

set_option maxHeartbeats 1000000 in
theorem refnode_any (t : Tm) (w : World) (s : Value) (hl : Lies w t.kids s) : Calls Tryd.prog 54 #[tv t s] w fun e w' => e = .returned (.bool t.nodeB) ∧ Below w.heap.size w w' := by
  obtain ⟨a, cap, S, hs, hc, hm, -⟩ := hl.out
  subst hs
  unfold maxLen at hm
  have HB := (Below.refl (w.heap.size + 1) (w.alloc (.cells #[.int .i64 t.k, .int .i64 t.i, .int .i64 t.j, .int .i64 t.n, .slice a t.kids.length cap] 26)))
  have HBX := Lib.hid (fun (wr : World) => box_cells (w := w) (wr := wr) (v0 := .int .i64 t.k) (v1 := .int .i64 t.i) (v2 := .int .i64 t.j) (v3 := .int .i64 t.n) (v4 := .slice a t.kids.length cap) (T := 26))
  clear hl
  unfold tv
  go_enter Tryd.func54, Tryd.ntmps54
  cases h3 : ((t.kids.length : Int) == kidsN t.k t.n)
  · go_wp2
    go_region_with (go_at_call 73; refine (refkids_any _ _ _).mono ?_; rintro e w1 ⟨rfl, hb1⟩; have HB2 := below_call HB.drew hb1 (by simp); obtain ⟨d0, d1, d2, d3, d4⟩ := HBX.out _ HB2; clear hb1)
    all_goals
      go_wp2
      go_ret
      exact ⟨ret_bool (by simp only [Tm.nodeB, h3, Bool.false_and]), below_of_box HB2⟩
  · go_wp2
    go_region_held3 (fun w' => w'.cell? ⟨w.heap.size, 0, none⟩ = some (.int .i64 t.k) ∧ w'.cell? ⟨w.heap.size, 1, none⟩ = some (.int .i64 t.i) ∧ w'.cell? ⟨w.heap.size, 2, none⟩ = some (.int .i64 t.j) ∧ w'.cell? ⟨w.heap.size, 3, none⟩ = some (.int .i64 t.n) ∧ w'.cell? ⟨w.heap.size, 4, none⟩ = some (.slice a t.kids.length cap)) (go_keep)
      (first | (go_at_call 73; refine (refkids_any _ _ _).mono ?_; rintro e w1 ⟨rfl, hb1⟩; have HB2 := below_call HB.drew hb1 (by simp); obtain ⟨d0, d1, d2, d3, d4⟩ := HBX.out _ HB2; clear hb1) | (go_at_call 76; refine (refnumbers_any t _ _).mono ?_; rintro e w2 ⟨rfl, hb2⟩; have HB3 := below_call HB2 hb2 (by have := HB2.size; simpa using this); obtain ⟨y0, y1, y2, y3, y4⟩ := HBX.out _ HB3; clear hb2))
    go_wp2
    go_ret
    exact ⟨ret_bool (by simp only [Tm.nodeB, h3, Bool.true_and]), below_of_box HB3⟩

set_option maxHeartbeats 1000000 in
theorem refplain_any (t : Tm) : ∀ (w : World) (s : Value), Lies w t.kids s → Calls Tryd.prog 32 #[tv t s] w fun e w' => e = .returned (.bool t.plainB) ∧ Below w.heap.size w w' := by
  induction t using Tm.ind with
  | h t ih =>
    intro w s hl
    obtain ⟨a, cap, S, rfl, hc, hm, hf, hn, hk⟩ := hl.out
    unfold tv
    unfold maxLen at hm
    have HL := Lib.hid ((hl.keep (w' := w.alloc (.cells #[.int .i64 t.k, .int .i64 t.i, .int .i64 t.j, .int .i64 t.n, .slice a t.kids.length cap] 26)) ((Below.refl _ _).alloc (Nat.le_refl _) _)))
    have HP := Lib.hid (t.plainB_eq)
    have IH := Lib.hid ih
    have HN := Lib.hid hn
    have HK := Lib.hid hk
    have HBX := Lib.hid (fun (wr : World) => box_cells (w := w) (wr := wr) (v0 := .int .i64 t.k) (v1 := .int .i64 t.i) (v2 := .int .i64 t.j) (v3 := .int .i64 t.n) (v4 := .slice a t.kids.length cap) (T := 26))
    clear ih hn hk hf hl
    by_cases hkind : t.k = 1 ∨ t.k = 2 ∨ (13 ≤ t.k ∧ t.k ≤ 23)
    rotate_left
    · have h1 : (t.k == 1) = false := by simp; omega
      have h2 : (t.k == 2) = false := by simp; omega
      have h5 : t.plainB = false := by rw [HP.out, h1, h2]; simp; omega
      have H5 := Lib.hid h5
      clear h5
      have h1' : (t.k != 1) = true := by simp; omega
      have h2' : (t.k != 2) = true := by simp; omega
      have h3 : t.k < 13 ∨ 23 < t.k := by omega
      rcases h3 with h3 | h3
      all_goals
        go_enter Tryd.func32, Tryd.ntmps32
        go_wp2
        go_ret
        exact ⟨ret_bool H5.out.symm, (Below.refl _ _).alloc (Nat.le_refl _) _⟩
    have hkb : (t.k == 1 || (t.k == 2 || (decide (13 ≤ t.k) && decide (t.k ≤ 23)))) = true := by simp; omega
    have HP2 : Hid (t.plainB = (t.nodeB && plains t.kids)) := by have := HP.out; rw [hkb, Bool.true_and] at this; exact this
    clear hkb
    have hk3 : t.k = 1 ∨ t.k = 2 ∨ (¬ t.k = 1 ∧ ¬ t.k = 2 ∧ 13 ≤ t.k ∧ t.k ≤ 23) := by omega
    have hb3 : ((t.k != 1) = false) ∨ ((t.k != 1) = true ∧ (t.k != 2) = false) ∨ ((t.k != 1) = true ∧ (t.k != 2) = true ∧ 13 ≤ t.k ∧ t.k ≤ 23) := by
      rcases hk3 with h | h | h
      · left; simp [h]
      · right; left; simp [h]
      · right; right; simp; omega
    clear hk3 hkind
    cases hn : t.nodeB with
    | false =>
      have h5 : t.plainB = false := by rw [HP2.out, hn]; rfl
      have H5 := Lib.hid h5
      have HNN := Lib.hid hn
      clear h5 hn
      rcases hb3 with h1 | ⟨h1, h2⟩ | ⟨h1, h2, h3, h4⟩
      all_goals
        go_enter Tryd.func32, Tryd.ntmps32
        go_wp2_with fail
        refine (refnode_any t _ _ HL.out).mono ?_
        rintro e w1 ⟨rfl, hb'⟩
        have HB2 := below_call (Below.refl (w.heap.size + 1) (w.alloc (.cells #[.int .i64 t.k, .int .i64 t.i, .int .i64 t.j, .int .i64 t.n, .slice a t.kids.length cap] 26))) hb' (by simp)
        obtain ⟨d0, d1, d2, d3, d4⟩ := HBX.out _ HB2
        clear hb'
        rw [HNN.out]
        go_wp2
        go_ret
        exact ⟨ret_bool H5.out.symm, below_of_box HB2⟩
    | true =>
      have HNN := Lib.hid hn
      clear hn
      rcases hb3 with h1 | ⟨h1, h2⟩ | ⟨h1, h2, h3, h4⟩
      all_goals
        go_enter Tryd.func32, Tryd.ntmps32
        go_wp2_with fail
        refine (refnode_any t _ _ HL.out).mono ?_
        rintro e w1 ⟨rfl, hb'⟩
        have HB2 := below_call (Below.refl (w.heap.size + 1) (w.alloc (.cells #[.int .i64 t.k, .int .i64 t.i, .int .i64 t.j, .int .i64 t.n, .slice a t.kids.length cap] 26))) hb' (by simp)
        obtain ⟨d0, d1, d2, d3, d4⟩ := HBX.out _ HB2
        clear hb'
        rw [HNN.out]
        go_wp2_with fail
        go_loopw [3] (fun iv wr => ∃ k : Nat, k ≤ t.kids.length ∧ iv = .int .i64 k ∧ Hid (plains (t.kids.take k) = true) ∧ Below (w.heap.size + 1) (w.alloc (.cells #[.int .i64 t.k, .int .i64 t.i, .int .i64 t.j, .int .i64 t.n, .slice a t.kids.length cap] 26)) wr) (fun iv _ => t.kids.length - (intOf iv).toNat)
        case atStart => exact ⟨0, Nat.zero_le _, rfl, by simp [Hid, plains], HB2⟩
        case round =>
          obtain ⟨k, hk, rfl, hgood, hb⟩ := hrel
          obtain ⟨d0, d1, d2, d3, d4⟩ := HBX.out _ hb
          have hb0 := below_of_box hb
          by_cases hlt : k < t.kids.length
          · obtain ⟨b, o, rfl, hx⟩ := HN.out k hlt
            have hy := hx.below hb0 hx.lt
            obtain ⟨c0, c1, c2, c3, c4⟩ := hy
            have hq := HK.out k hlt
            obtain ⟨a', cap', S', hS, -⟩ := hq.out
            rw [hS] at c4 hq
            have HQ := Lib.hid (hq.keep hb0)
            clear hS hq
            have HM := Lib.hid (List.getElem_mem hlt)
            have HT := Lib.hid (plains_take t.kids k hlt)
            go_wp2_with fail
            refine (IH.out _ HM.out _ _ HQ.out).mono ?_
            rintro e w2 ⟨rfl, hb'⟩
            have HB3 := below_call hb hb' (by have := hb.size; simpa using this)
            obtain ⟨x0, x1, x2, x3, x4⟩ := HBX.out _ HB3
            clear hb' hb d0 d1 d2 d3 d4 hb0 c0 c1 c2 c3 c4
            cases hp : (t.kids[k]).plainB
            · go_wp2
              go_ret
              exact ⟨ret_bool (by rw [HP2.out, plains_of t.kids k hlt hp, Bool.and_false]), below_of_box HB3⟩
            · go_wp2
              go_roundw
              case rel => exact ⟨k + 1, by omega, by go_num, by show _ = true; rw [HT.out, hgood.out, hp]; rfl, HB3⟩
              case measure => simp [intOf]; omega
          · have : k = t.kids.length := by omega
            subst this
            go_wp2
            go_ret
            exact ⟨ret_bool (by have hg := hgood.out; rw [List.take_length] at hg; rw [HP2.out, HNN.out, hg]; rfl), hb0⟩
end Go.Proofs.YtllkackipdcekaaDoor

namespace Go.Proofs.YtllkackipdcekaaDoor
open Go.RowKit

set_option maxHeartbeats 1000000 in
theorem refmarked_any (t : Tm) : ∀ (w : World) (s : Value), Lies w t.kids s → Calls Tryd.prog 31 #[tv t s] w fun e w' => e = .returned (.bool t.markedB) ∧ Below w.heap.size w w' := by
  induction t using Tm.ind with
  | h t ih =>
    intro w s hl
    obtain ⟨a, cap, S, rfl, hc, hm, hf, hn, hk⟩ := hl.out
    unfold tv
    unfold maxLen at hm
    have HL := Lib.hid ((hl.keep (w' := w.alloc (.cells #[.int .i64 t.k, .int .i64 t.i, .int .i64 t.j, .int .i64 t.n, .slice a t.kids.length cap] 26)) ((Below.refl _ _).alloc (Nat.le_refl _) _)))
    have HP := Lib.hid (t.markedB_eq)
    have IH := Lib.hid ih
    have HN := Lib.hid hn
    have HK := Lib.hid hk
    have HBX := Lib.hid (fun (wr : World) => box_cells (w := w) (wr := wr) (v0 := .int .i64 t.k) (v1 := .int .i64 t.i) (v2 := .int .i64 t.j) (v3 := .int .i64 t.n) (v4 := .slice a t.kids.length cap) (T := 26))
    clear ih hn hk hf hl
    by_cases h1 : t.k < 1
    · have H5 : Hid (t.markedB = false) := by show _ = _; rw [HP.out]; simp; omega
      go_enter Tryd.func31, Tryd.ntmps31
      go_wp2
      go_ret
      exact ⟨ret_bool H5.out.symm, (Below.refl _ _).alloc (Nat.le_refl _) _⟩
    by_cases h2 : 12 < t.k
    · have H5 : Hid (t.markedB = false) := by show _ = _; rw [HP.out]; simp; omega
      go_enter Tryd.func31, Tryd.ntmps31
      go_wp2
      go_ret
      exact ⟨ret_bool H5.out.symm, (Below.refl _ _).alloc (Nat.le_refl _) _⟩
    have hkb : (decide (1 ≤ t.k) && decide (t.k ≤ 12)) = true := by simp; omega
    have HP2 : Hid (t.markedB = (t.nodeB && markeds (t.k == 12) 0 t.kids)) := by have := HP.out; rw [hkb, Bool.true_and] at this; exact this
    clear hkb
    cases hn : t.nodeB with
    | false =>
      have H5 : Hid (t.markedB = false) := by show _ = _; rw [HP2.out, hn]; rfl
      have HNN := Lib.hid hn
      clear hn
      go_enter Tryd.func31, Tryd.ntmps31
      go_wp2_with fail
      refine (refnode_any t _ _ HL.out).mono ?_
      rintro e w1 ⟨rfl, hb'⟩
      have HB2 := below_call (Below.refl (w.heap.size + 1) (w.alloc (.cells #[.int .i64 t.k, .int .i64 t.i, .int .i64 t.j, .int .i64 t.n, .slice a t.kids.length cap] 26))) hb' (by simp)
      obtain ⟨d0, d1, d2, d3, d4⟩ := HBX.out _ HB2
      clear hb'
      rw [HNN.out]
      go_wp2
      go_ret
      exact ⟨ret_bool H5.out.symm, below_of_box HB2⟩
    | true =>
      have HNN := Lib.hid hn
      clear hn
      go_enter Tryd.func31, Tryd.ntmps31
      go_wp2_with fail
      refine (refnode_any t _ _ HL.out).mono ?_
      rintro e w1 ⟨rfl, hb'⟩
      have HB2 := below_call (Below.refl (w.heap.size + 1) (w.alloc (.cells #[.int .i64 t.k, .int .i64 t.i, .int .i64 t.j, .int .i64 t.n, .slice a t.kids.length cap] 26))) hb' (by simp)
      obtain ⟨d0, d1, d2, d3, d4⟩ := HBX.out _ HB2
      clear hb'
      rw [HNN.out]
      go_wp2_with fail
      go_loopw [3] (fun iv wr => ∃ k : Nat, k ≤ t.kids.length ∧ iv = .int .i64 k ∧ Hid (markeds (t.k == 12) 0 (t.kids.take k) = true) ∧ Below (w.heap.size + 1) (w.alloc (.cells #[.int .i64 t.k, .int .i64 t.i, .int .i64 t.j, .int .i64 t.n, .slice a t.kids.length cap] 26)) wr) (fun iv _ => t.kids.length - (intOf iv).toNat)
      case atStart => exact ⟨0, Nat.zero_le _, rfl, by simp [Hid, markeds], HB2⟩
      case round =>
        obtain ⟨k, hk, rfl, hgood, hb⟩ := hrel
        obtain ⟨d0, d1, d2, d3, d4⟩ := HBX.out _ hb
        have hb0 := below_of_box hb
        by_cases hlt : k < t.kids.length
        · obtain ⟨b, o, rfl, hx⟩ := HN.out k hlt
          have hy := hx.below hb0 hx.lt
          obtain ⟨c0, c1, c2, c3, c4⟩ := hy
          have hq := HK.out k hlt
          obtain ⟨a', cap', S', hS, -⟩ := hq.out
          rw [hS] at c4 hq
          have HQ := Lib.hid (hq.keep hb0)
          clear hS hq
          have HM := Lib.hid (List.getElem_mem hlt)
          have HT := Lib.hid (markeds_take (t.k == 12) t.kids 0 k hlt)
          cases e12 : (t.k == 12) <;> cases e2 : ((k : Int) == 2)
          rotate_right
          · have e2' : (k == 2) = ((k : Int) == 2) := by rw [e2]; simp at e2 ⊢; omega
            have hkB : (t.kids[k]).kidB (t.k == 12) k = (t.kids[k]).plainB := by simp [Tm.kidB, e12, e2', e2]
            have HKB := Lib.hid hkB
            clear e2' hkB
            go_wp2_with fail
            refine (refplain_any _ _ _ HQ.out).mono ?_
            rintro e w2 ⟨rfl, hb'⟩
            have HB3 := below_call hb hb' (by have := hb.size; simpa using this)
            obtain ⟨x0, x1, x2, x3, x4⟩ := HBX.out _ HB3
            clear hb' hb d0 d1 d2 d3 d4 hb0 c0 c1 c2 c3 c4
            cases hp : (t.kids[k]).plainB
            · go_wp2
              go_ret
              exact ⟨ret_bool (by rw [HP2.out, markeds_of _ t.kids 0 k hlt (by rw [Nat.zero_add, HKB.out]; exact hp), Bool.and_false]), below_of_box HB3⟩
            · go_wp2
              go_roundw
              case rel => exact ⟨k + 1, by omega, by go_num, by have h1 := HT.out; rw [hgood.out, Nat.zero_add, HKB.out, hp] at h1; show _ = true; first | exact h1 | (rw [e12] at h1; exact h1), HB3⟩
              case measure => simp [intOf]; omega
          all_goals
            have e2' : (k == 2) = ((k : Int) == 2) := by rw [e2]; simp at e2 ⊢; omega
            have hkB : (t.kids[k]).kidB (t.k == 12) k = (t.kids[k]).markedB := by simp [Tm.kidB, e12, e2', e2]
            have HKB := Lib.hid hkB
            clear e2' hkB
            go_wp2_with fail
            refine (IH.out _ HM.out _ _ HQ.out).mono ?_
            rintro e w2 ⟨rfl, hb'⟩
            have HB3 := below_call hb hb' (by have := hb.size; simpa using this)
            obtain ⟨x0, x1, x2, x3, x4⟩ := HBX.out _ HB3
            clear hb' hb d0 d1 d2 d3 d4 hb0 c0 c1 c2 c3 c4
            cases hp : (t.kids[k]).markedB
            · go_wp2
              go_ret
              exact ⟨ret_bool (by rw [HP2.out, markeds_of _ t.kids 0 k hlt (by rw [Nat.zero_add, HKB.out]; exact hp), Bool.and_false]), below_of_box HB3⟩
            · go_wp2
              go_roundw
              case rel => exact ⟨k + 1, by omega, by go_num, by have h1 := HT.out; rw [hgood.out, Nat.zero_add, HKB.out, hp] at h1; show _ = true; first | exact h1 | (rw [e12] at h1; exact h1), HB3⟩
              case measure => simp [intOf]; omega
        · have : k = t.kids.length := by omega
          subst this
          go_wp2
          go_ret
          exact ⟨ret_bool (by have hg := hgood.out; rw [List.take_length] at hg; rw [HP2.out, HNN.out, hg]; rfl), hb0⟩
end Go.Proofs.YtllkackipdcekaaDoor

namespace Go.Proofs.YtllkackipdcekaaDoor
open Go.RowKit

set_option maxHeartbeats 800000 in
theorem refright_any (t : Tm) (w : World) (s : Value) (hl : Lies w t.kids s) : Calls Tryd.prog 16 #[tv t s] w fun e w' => e = .returned (.bool t.rightB) ∧ Below w.heap.size w w' := by
  obtain ⟨a, cap, S, hs, -⟩ := hl.out
  subst hs
  have HB := (Below.refl (w.heap.size + 1) (w.alloc (.cells #[.int .i64 t.k, .int .i64 t.i, .int .i64 t.j, .int .i64 t.n, .slice a t.kids.length cap] 26)))
  have HL := Lib.hid (hl.keep (below_of_box HB))
  have HBX := Lib.hid (fun (wr : World) => box_cells (w := w) (wr := wr) (v0 := .int .i64 t.k) (v1 := .int .i64 t.i) (v2 := .int .i64 t.j) (v3 := .int .i64 t.n) (v4 := .slice a t.kids.length cap) (T := 26))
  have hl0 := Lib.hid hl
  clear hl
  unfold tv
  go_enter Tryd.func16, Tryd.ntmps16
  go_wp2_with fail
  refine (refmarked_any t _ _ HL.out).mono ?_
  rintro e w' ⟨rfl, hb'⟩
  have HB2 := below_call HB hb' (by simp)
  obtain ⟨d0, d1, d2, d3, d4⟩ := HBX.out _ HB2
  clear hb'
  have HL2 := Lib.hid (hl0.out.keep (below_of_box HB2))
  cases hm : t.markedB
  · go_wp2_with fail
    refine (refplain_any t _ _ HL2.out).mono ?_
    rintro e w2 ⟨rfl, hb'⟩
    have HB3 := below_call HB2 hb' (by have := HB2.size; simpa using this)
    clear hb'
    go_wp2
    go_ret
    exact ⟨ret_bool (by simp [Tm.rightB, hm]), below_of_box HB3⟩
  · go_wp2
    go_ret
    exact ⟨ret_bool (by simp [Tm.rightB, hm]), below_of_box HB2⟩

set_option maxHeartbeats 800000 in
theorem refFree_any (t : Tm) (w : World) (s : Value) (hl : Lies w t.kids s) : Calls Tryd.prog 17 #[tv t s] w fun e w' => e = .returned (.int .i64 t.freeB) ∧ Below w.heap.size w w' := by
  obtain ⟨a, cap, S, hs, -⟩ := hl.out
  subst hs
  have HB := (Below.refl (w.heap.size + 1) (w.alloc (.cells #[.int .i64 t.k, .int .i64 t.i, .int .i64 t.j, .int .i64 t.n, .slice a t.kids.length cap] 26)))
  have HL := Lib.hid (hl.keep (below_of_box HB))
  have HBX := Lib.hid (fun (wr : World) => box_cells (w := w) (wr := wr) (v0 := .int .i64 t.k) (v1 := .int .i64 t.i) (v2 := .int .i64 t.j) (v3 := .int .i64 t.n) (v4 := .slice a t.kids.length cap) (T := 26))
  have hl0 := Lib.hid hl
  clear hl
  unfold tv
  go_enter Tryd.func17, Tryd.ntmps17
  go_wp2_with fail
  refine (refright_any t _ _ HL.out).mono ?_
  rintro e w' ⟨rfl, hb'⟩
  have HB2 := below_call HB hb' (by simp)
  obtain ⟨d0, d1, d2, d3, d4⟩ := HBX.out _ HB2
  clear hb'
  have HL2 := Lib.hid (hl0.out.keep (below_of_box HB2))
  cases hr : t.rightB
  · go_wp2
    go_ret
    exact ⟨ret_int (by simp [Tm.freeB, hr]), below_of_box HB2⟩
  · go_wp2_with fail
    refine (reffree_any t _ _ HL2.out hr).mono ?_
    rintro e w2 ⟨rfl, hb'⟩
    have HB3 := below_call HB2 hb' (by have := HB2.size; simpa using this)
    clear hb'
    go_wp2
    go_ret
    exact ⟨ret_int (by simp [Tm.freeB, hr]), below_of_box HB3⟩

end Go.Proofs.YtllkackipdcekaaDoor

namespace Go.Proofs.YtllkackipdcekaaDoor
open Go.RowKit Go.Maps Go.ChangeShapes

theorem readRight_any (s : ByteArray) (l : Names) (v : Value) (i j : Int) (w : World) (hN : TxLies w.heap.size w l v) (hT : TabsR w.heap.size w) : Calls Tryd.prog 4 #[.string s, v, .int .i64 i, .int .i64 j] w fun e w' => e = .returned (.bool true) ∧ Below w.heap.size w w' :=
  readRight_of (fun t w s hl => refright_any t w s hl) (fun t w s hl => refFree_any t w s hl) s l v i j w hN hT
end Go.Proofs.YtllkackipdcekaaDoor

namespace Go.Proofs.YtllkackipdcekaaDoor
open Go.ChangeShapes Go.WideShapes Go.ChangeAt Go.RowKit

theorem own : ownKnob Tryd.prog.godebug = none := by kernel_rfl
theorem laidOut : laidOutB Tryd.prog = true := by kernel_rfl

instance instOpenTm : Inhabited (Tm × Value) := ⟨(.mk 0 0 0 0 [], .nilIface)⟩

end Go.Proofs.YtllkackipdcekaaDoor

namespace Go.Proofs.YtllkackipdcekaaDoor
open Go.ChangeShapes Go.WideShapes Go.ChangeAt Go.RowKit

theorem cells_str : Tryd.prog.cellsOf 9 = 1 := by kernel_rfl
theorem add_plainS (b o i : Nat) : (⟨b, o, none⟩ : Addr).add i = ⟨b, o + i, none⟩ := by simp [Addr.add]
theorem lt_of_cellS {w : World} {b i : Nat} {v : Value} (h : w.cell? ⟨b, i, none⟩ = some v) : b < w.heap.size := by
  rcases Nat.lt_or_ge b w.heap.size with h1 | h1
  · exact h1
  · exfalso
    simp [World.cell?, Array.getElem?_eq_none h1] at h
set_option maxRecDepth 20000 in
theorem open_argSS {H : Type} {enc : TypeId × Value → H} {W : World} {r : Reach} {b0 base : Nat} {sp : Nat → Bool} {hd : Bool} {v : Value} {d : DataW H} {p : List MemPlace} (hv : Value.okWide Tryd.prog W r b0 22 v)
    (h : DataW.Trod enc Tryd.prog W base sp hd 22 v d p) : ∃ l : Names, TxLies W.heap.size W l v := by
  obtain ⟨a0, len0, cap0, rfl⟩ := okWide_slice Tryd.underlying22 hv
  obtain ⟨fuel, hf⟩ := h
  rcases open_strings Tryd.underlying22 Tryd.underlying9 cells_str hf with ⟨hcs, -⟩ | ⟨a, len, cap, zs, hcs, -, hl, hm, hz, -, hcell, -⟩
  · simp [Value.cells] at hcs
    obtain ⟨rfl, rfl, rfl⟩ := hcs
    exact ⟨[], none, 0, rfl, Nat.zero_le _, Nat.zero_le _, fun i hi => absurd hi (Nat.not_lt_zero _)⟩
  · simp [Value.cells] at hcs
    obtain ⟨rfl, rfl, rfl⟩ := hcs
    have hlz : len0 ≤ zs.length := by rw [hz]; split <;> omega
    have hln : ((zs.take len0).map fun s => s.data.toList).length = len0 := by rw [List.length_map, List.length_take, Nat.min_eq_left hlz]
    refine ⟨(zs.take len0).map fun s => s.data.toList, some a, cap0, by rw [hln], by rw [hln]; omega, hm, fun i hi => ?_⟩
    have hi' : i < len0 := by rw [hln] at hi; exact hi
    have h1 := hcell i (by omega)
    obtain ⟨b, o, spot⟩ := a
    have h0 := hcell 0 (by omega)
    have hs : spot = none := by simpa [Addr.add] using World.cell?_spot h0
    clear h0
    subst hs
    rw [add_plainS] at h1
    refine ⟨b, o, rfl, lt_of_cellS h1, ?_⟩
    rw [h1, List.getElem_map, List.getElem_take]
    have hzz : zs.getD i ByteArray.empty = zs[i] := by rw [List.getD_eq_getElem?_getD, List.getElem?_eq_getElem (by omega)]; rfl
    rw [hzz]
end Go.Proofs.YtllkackipdcekaaDoor

namespace Go.Proofs.YtllkackipdcekaaDoor
open Go.RowKit Go.Lib

/-- The library's table stays as it is whatever is made. -/
def Tab (w : World) : Prop := TabBelow Tryd.prog w.heap.size w "internal/strconv.uint64pow10" .u64 pow10Tab
theorem Tab.later {w w' : World} (h : Tab w) (hb : Below w.heap.size w w') : Tab w' := fun _ h2 => TabBelow.here (TabBelow.on h (hb.trans (h2.mono hb.size)))
/-- A variable that holds just these texts. -/
def StrIs (w : World) (name : String) (ss : List (List UInt8)) : Prop := w.var? Tryd.prog name = some (ss.map fun s => Value.string ⟨s.toArray⟩).toArray
theorem StrIs.cell {W : World} {name : String} {ss : List (List UInt8)} {g : Nat} (h : StrIs W name ss) (hg : Tryd.prog.globalNamed name = some g) (i : Nat) (hi : i < ss.length) : W.cell? ⟨g, i, none⟩ = some (.string ⟨(ss[i]).toArray⟩) := by
  have := World.var?_cell hg h i
  simpa [hi] using this
theorem StrIs.on {w w' : World} {name : String} {ss : List (List UInt8)} (h : StrIs w name ss) (hb : Below w.heap.size w w') : StrIs w' name ss := by
  unfold StrIs World.var? at *
  cases hg : Tryd.prog.globalNamed name with
  | none => simp [hg] at h
  | some g =>
    simp only [hg, Option.bind_some] at h ⊢
    have hlt : g < w.heap.size := by
      rcases Nat.lt_or_ge g w.heap.size with h' | h'
      · exact h'
      · rw [Array.getElem?_eq_none h'] at h; simp at h
    rw [hb.block g hlt]
    exact h
/-- What a text of a term is written from. -/
structure WTab (w : World) : Prop where
  pow : Tab w
  syms : StrIs w "tranship/read.symbols" symsW
  heads : StrIs w "tranship/write.heads" headsW
theorem WTab.later {w w' : World} (h : WTab w) (hb : Below w.heap.size w w') : WTab w' := ⟨h.pow.later hb, h.syms.on hb, h.heads.on hb⟩
end Go.Proofs.YtllkackipdcekaaDoor

namespace Go.Proofs.YtllkackipdcekaaDoor
theorem lt_of_cell {w : World} {b i : Nat} {v : Value} (h : w.cell? ⟨b, i, none⟩ = some v) : b < w.heap.size := by
  rcases Nat.lt_or_ge b w.heap.size with h1 | h1
  · exact h1
  · exfalso
    simp [World.cell?, Array.getElem?_eq_none h1] at h
open Go.ChangeShapes Go.WideShapes Go.ChangeAt Go.WideMaps Go.WideElems Go.RowKit

def laidT : List (String × DataW Unit) := Rows.readSymbolsRow.laid
theorem door_met (os : Os) (args : Array Value) : laidMetH Tryd.prog laidT ((World.doorLaid Tryd.prog 400 os).forCall (fun _ _ => 0) ⟨#[], args, []⟩).memory :=
  laidMetH_of_parts3 (fuel := 8) (laidMet_of_run' 8 (by kernel_rfl) (by kernel_rfl)) (by kernel_rfl) (by kernel_rfl)
/-- A table of texts as a row lists it. -/
def strData {H : Type} (ss : List (List UInt8)) : DataW H := .agg (ss.map fun s => .lit (.string s))
theorem cells_of_strs {H : Type} {enc : TypeId × Value → H} {P : Program} {w : World} {base : Nat} {sp : Nat → Bool} {held : Bool} {fuel : Nat} {t e : TypeId} {n : Nat} {cs : List Value} {zs : List (List UInt8)} {p : List MemPlace}
    (ht : P.underlying t = some (.array n e)) (he : P.underlying e = some .string) (hce : P.cellsOf e = 1) (hct : P.cellsOf t = n)
    (h : DataW.trod enc P w base sp held fuel t cs = some (strData zs, p)) : cs = zs.map fun z => Value.string ⟨z.toArray⟩ := by
  cases fuel with
  | zero => simp [DataW.trod] at h
  | succ fuel =>
    simp only [DataW.trod, ht, hce, hct, Nat.mul_one] at h
    split at h
    · rename_i hl
      obtain ⟨xs, hm, hx⟩ := Option.map_eq_some_iff.1 h
      have hxs : xs.map (·.1) = zs.map fun z => (DataW.lit (.string z) : DataW H) := by
        have := congrArg Prod.fst hx
        simpa [strData] using this
      have hxl : xs.length = n := by simpa using Lib.mapM_length hm
      have hzl : zs.length = n := by
        have := congrArg List.length hxs
        simp at this
        omega
      apply List.ext_getElem?
      intro i
      by_cases hi : i < n
      · obtain ⟨b, hb, hf⟩ := Lib.mapM_at hm i i (by simp [hi])
        obtain ⟨z, hc, rfl, _⟩ := DataW.trod_string he hf
        have h1 : cs[i]? = some (.string z) := by
          have := congrArg (·[0]?) hc
          simpa [List.getElem?_take, List.getElem?_drop] using this
        have h2 : (xs.map (·.1))[i]? = some (DataW.lit (.string z.data.toList) : DataW H) := by simp [hb]
        rw [hxs] at h2
        simp only [List.getElem?_map, Option.map_eq_some_iff, DataW.lit.injEq, Lit.string.injEq] at h2
        obtain ⟨z', hz', e2⟩ := h2
        rw [h1, List.getElem?_map, hz']
        subst e2
        simp
      · rw [List.getElem?_eq_none (by omega), List.getElem?_eq_none (by simp; omega)]
    · cases h
theorem strIs_of_head {W : World} {name : String} {zs : List (List UInt8)} {rest : List (String × DataW Unit)} {g : Nat} {t e : TypeId} {n : Nat}
    (hg : Tryd.prog.globalNamed name = some g) (hty : (Tryd.prog.globals[g]?).map (·.type) = some t) (ht : Tryd.prog.underlying t = some (.array n e)) (he : Tryd.prog.underlying e = some .string) (hce : Tryd.prog.cellsOf e = 1) (hct : Tryd.prog.cellsOf t = n)
    (h : laidMet Tryd.prog ((name, strData zs) :: rest) W) : StrIs W name zs := by
  obtain ⟨ps, ⟨g', t', cs, fuel, p, q, hg', ht', hvar, hd, _, _⟩, _⟩ := h
  obtain rfl := Option.some.inj (hg.symm.trans hg')
  obtain rfl := Option.some.inj (hty.symm.trans ht')
  unfold StrIs
  rw [hvar, ← cells_of_strs ht he hce hct hd]
theorem syms_of_laid {W : World} (h : laidMetH Tryd.prog laidT W) : StrIs W "tranship/read.symbols" symsW := by
  have h2 := h.filter fun x => x.1 == "tranship/read.symbols"
  have e : (laidT.filter fun x => x.1 == "tranship/read.symbols") = [("tranship/read.symbols", strData symsW)] := by kernel_rfl
  rw [e] at h2
  rw [MakeChecks.laidMetH_plain _ _ _ (by kernel_rfl)] at h2
  exact strIs_of_head (g := 0) (t := 55) (e := 9) (n := 21) (by kernel_rfl) (by kernel_rfl) Tryd.underlying55 Tryd.underlying9 (by kernel_rfl) (by kernel_rfl) h2
theorem rheads_of_laid {W : World} (h : laidMetH Tryd.prog laidT W) : StrIs W "tranship/read.heads" (headsW.drop 3) := by
  have h2 := h.filter fun x => x.1 == "tranship/read.heads"
  have e : (laidT.filter fun x => x.1 == "tranship/read.heads") = [("tranship/read.heads", strData (headsW.drop 3))] := by kernel_rfl
  rw [e] at h2
  rw [MakeChecks.laidMetH_plain _ _ _ (by kernel_rfl)] at h2
  exact strIs_of_head (g := 2) (t := 55) (e := 9) (n := 21) (by kernel_rfl) (by kernel_rfl) Tryd.underlying55 Tryd.underlying9 (by kernel_rfl) (by kernel_rfl) h2
theorem tabsR_of_laid {W : World} (h : laidMetH Tryd.prog laidT W) : TabsR W.heap.size W := by
  have h1 := syms_of_laid h
  have h2 := rheads_of_laid h
  have c1 : ∀ k < 21, W.cell? ⟨0, k, none⟩ = some (.string ⟨((symsW[k]?).getD []).toArray⟩) := fun k hk => by
    have hl : k < symsW.length := hk
    rw [h1.cell (g := 0) (by kernel_rfl) k hl, List.getElem?_eq_getElem hl]; rfl
  have c2 : ∀ k < 21, W.cell? ⟨2, k, none⟩ = some (.string ⟨(((headsW.drop 3)[k]?).getD []).toArray⟩) := fun k hk => by
    have hl : k < (headsW.drop 3).length := hk
    rw [h2.cell (g := 2) (by kernel_rfl) k hl, List.getElem?_eq_getElem hl]; rfl
  exact ⟨⟨lt_of_cell (c2 0 (by decide)), lt_of_cell (c1 0 (by decide))⟩, c2, c1⟩
end Go.Proofs.YtllkackipdcekaaDoor

namespace Go.Proofs.YtllkackipdcekaaDoor
open Go.ChangeShapes Go.WideShapes

def code (l : List Nat) : List Char := l.map Char.ofNat
def joinN : List (List Nat) → List Nat
  | [] => []
  | [a] => a
  | a :: b :: r => a ++ 32 :: joinN (b :: r)

theorem words_one : ∀ a : List Nat, (a.all fun n => Char.ofNat n != Char.ofNat 32) = true → wordsSigns (code a) = [code a]
  | [], _ => rfl
  | n :: a, h => by
    simp only [List.all_cons, Bool.and_eq_true, bne_iff_ne] at h
    have ih := words_one a h.2
    show wordsSigns (Char.ofNat n :: code a) = _
    rw [wordsSigns]
    · rw [ih]; rfl
    · exact h.1
theorem words_more : ∀ (a : List Nat) (r : List Char), (a.all fun n => Char.ofNat n != Char.ofNat 32) = true → wordsSigns (code a ++ Char.ofNat 32 :: r) = code a :: wordsSigns r
  | [], r, _ => by
    show wordsSigns (Char.ofNat 32 :: r) = _
    rw [show Char.ofNat 32 = _ from rfl, wordsSigns]; rfl
  | n :: a, r, h => by
    simp only [List.all_cons, Bool.and_eq_true, bne_iff_ne] at h
    have ih := words_more a r h.2
    show wordsSigns (Char.ofNat n :: (code a ++ Char.ofNat 32 :: r)) = _
    rw [wordsSigns]
    · rw [ih]; rfl
    · exact h.1
theorem words_join : ∀ ws : List (List Nat), ws ≠ [] → (ws.all fun w => w.all fun n => Char.ofNat n != Char.ofNat 32) = true → wordsSigns (code (joinN ws)) = ws.map code
  | [], h, _ => absurd rfl h
  | [a], _, h => by simp only [List.all_cons, List.all_nil, Bool.and_true] at h; exact words_one a h
  | a :: b :: r, _, h => by
    have h' := h
    rw [List.all_cons, Bool.and_eq_true] at h'
    have ih := words_join (b :: r) (by simp) h'.2
    show wordsSigns (code (a ++ 32 :: joinN (b :: r))) = _
    rw [show code (a ++ 32 :: joinN (b :: r)) = code a ++ Char.ofNat 32 :: code (joinN (b :: r)) from by simp [code], words_more a _ h'.1, ih]; rfl

def cutWords : List (List Nat) := [[104, 97, 114, 110, 101, 115, 115],
  [56, 97, 48, 97, 97, 53, 100, 51, 57, 102, 101, 100, 56, 50, 99, 49, 49, 57, 97, 50, 101, 50, 97, 57, 97, 54, 98, 48, 101, 53, 98, 51, 50, 57, 49, 100, 50, 99, 56, 52, 48, 50, 99, 54, 102, 54, 101, 101, 51, 54, 50, 98, 49, 99, 48, 100, 56, 101, 56, 57, 49, 55, 102, 101],
  [99, 117, 116],
  [97, 116],
  [116, 114, 97, 110, 115, 104, 105, 112, 47, 116, 114, 97, 110, 115, 104, 105, 112, 108, 97, 119, 48, 57, 46, 82, 101, 97, 100, 69, 120, 97, 99, 116],
  [116, 114, 97, 110, 115, 104, 105, 112, 47, 116, 114, 97, 110, 115, 104, 105, 112, 108, 97, 119, 48, 57, 46, 82, 101, 97, 100, 82, 105, 103, 104, 116],
  [116, 114, 97, 110, 115, 104, 105, 112, 47, 116, 114, 97, 110, 115, 104, 105, 112, 108, 97, 119, 48, 57, 46, 82, 101, 97, 100, 66, 101, 104, 105, 110, 100],
  [116, 114, 97, 110, 115, 104, 105, 112, 47, 116, 114, 97, 110, 115, 104, 105, 112, 108, 97, 119, 48, 57, 46, 82, 101, 97, 100, 73, 110, 110, 101, 114],
  [116, 114, 97, 110, 115, 104, 105, 112, 47, 116, 114, 97, 110, 115, 104, 105, 112, 108, 97, 119, 48, 57, 46, 82, 101, 97, 100, 76, 101, 118, 101, 108, 115],
  [116, 114, 97, 110, 115, 104, 105, 112, 47, 116, 114, 97, 110, 115, 104, 105, 112, 108, 97, 119, 48, 57, 46, 82, 101, 97, 100, 83, 121, 109, 98, 111, 108, 115],
  [116, 114, 97, 110, 115, 104, 105, 112, 47, 116, 114, 97, 110, 115, 104, 105, 112, 108, 97, 119, 49, 48, 46, 87, 114, 105, 116, 101, 66, 97, 99, 107],
  [116, 114, 97, 110, 115, 104, 105, 112, 47, 116, 114, 97, 110, 115, 104, 105, 112, 108, 97, 119, 49, 48, 46, 87, 114, 105, 116, 101, 70, 105, 120, 101, 100]]

set_option maxRecDepth 100000 in
theorem cut_words : wordsSigns Tryd.prog.initOrder.toList = cutWords.map code := by
  have h : Tryd.prog.initOrder.toList = code (joinN cutWords) := by
    show (String.ofList (code (joinN cutWords))).toList = _
    exact String.toList_ofList
  rw [h]
  exact words_join cutWords (by simp [cutWords]) (by decide +kernel)

theorem cut_behind : behindMainWord (cutWords.map code) = code [99, 117, 116] :: cutWords.tail.tail.tail.map code := by kernel_rfl
theorem cut_lifts : stripLifts liftWords (code [99, 117, 116] :: cutWords.tail.tail.tail.map code) = ([], code [99, 117, 116] :: cutWords.tail.tail.tail.map code) := by kernel_rfl
theorem cut1 : (code [99, 117, 116] == "gc".toList) = false := by kernel_rfl
theorem cut2 : (code [99, 117, 116] == "spec".toList) = false := by kernel_rfl
theorem cut3 : (code [99, 117, 116] == "cut".toList) = true := by kernel_rfl
theorem cut_all : behindMainWord (wordsSigns Tryd.prog.initOrder.toList) = code [99, 117, 116] :: cutWords.tail.tail.tail.map code := by rw [cut_words, cut_behind]
theorem make_of (P : Program) {c : List Char} {rest : List (List Char)} (h : behindMainWord (wordsSigns P.initOrder.toList) = c :: rest) (h1 : (c == "gc".toList) = false) (h2 : (c == "spec".toList) = false) (h3 : (c == "cut".toList) = true) : P.make = some .cut := by
  unfold Program.make; rw [h]
  simp only [h1, h2, h3, Bool.or_self, Bool.false_eq_true, if_false, Bool.true_or, if_true]
theorem mayEnter_of (P : Program) {c : List Char} {rest : List (List Char)} (h : behindMainWord (wordsSigns P.initOrder.toList) = c :: rest) (h3 : ((stripLifts liftWords (c :: rest)).2.head? == some "cut".toList) = true)
    (h4 : (stripLifts liftWords (c :: rest)).1 = []) (h5 : P.laysLater = false) (h6 : P.bearsReflect = false) (h7 : P.doorFits [] = true) : P.mayEnter = true := by
  unfold Program.mayEnter; rw [h]
  refine Bool.or_eq_true_iff.2 (Or.inr ?_)
  rw [h3, h4, h5, h6, h7]; rfl
theorem row_make : Tryd.prog.make = some .cut := make_of Tryd.prog cut_all cut1 cut2 cut3
theorem row_mayEnter : Tryd.prog.mayEnter = true := mayEnter_of Tryd.prog cut_all (by rw [cut_lifts]; kernel_rfl) (by rw [cut_lifts]) (by kernel_rfl) (by kernel_rfl) (by kernel_rfl)
theorem row_lifts : Tryd.prog.liftsFinal = false := by unfold Program.liftsFinal Program.headLifts; rw [cut_all, cut_lifts]; kernel_rfl
end Go.Proofs.YtllkackipdcekaaDoor

namespace Go.Proofs.YtllkackipdcekaaDoor.lawReadRight
open Go.ChangeShapes Go.WideShapes Go.ChangeAt Go.RowKit Go.ChangeMaps

set_option maxRecDepth 100000 in
theorem lifted (os : Os) (started : os.Started) (H : Type) (enc : TypeId × Value → H) :
    ReturnsInHanded {} Tryd.checked os 4 .any (fun w args => (Rows.readRightSpec.pre enc Tryd.prog Tryd.f4 [] false w args ∧ laidMetH Tryd.prog laidT w) ∧ sizedMet enc Tryd.prog Tryd.f4 (OpenSpec.ofChange Rows.readRightSpec) false w args)
      (Rows.readRightSpec.post enc Tryd.prog Tryd.f4 false true false false) := by
  refine returnsInHanded_of_change_and (C := Tryd.checked) (X := fun w _ => laidMetH Tryd.prog laidT w) (fun _ _ _ hh h => h.of_heap hh) own started (by kernel_rfl) Tryd.func4
    (ChangeSpec.witness_shaped (enc := enc) (C := Tryd.checked) (os := os) (X := fun w _ => laidMetH Tryd.prog laidT w) false (World.doorLaid Tryd.prog 400 os) #[.string ⟨#[]⟩, .slice none 0 0, .int .i64 0, .int .i64 0] 8 rfl (World.shaped_of_RefB (by kernel_rfl) (by kernel_rfl)) (by kernel_rfl) (by kernel_rfl) (by kernel_rfl) (door_met os _)) ?_
  intro W base args ds gs before hval0 hW _ _ hL _
  have hval : ∀ (j : Nat) t v, Tryd.f4.params[j]? = some t → args[j]? = some v → Value.okWide Tryd.prog W .any base t v := hval0
  have hW' := hW
  obtain ⟨p, q, hA0, hV, rfl, hfz, hnd⟩ := hW
  have hA : DataW.TrodAll enc Tryd.prog W 0 (fun _ => true) true Tryd.f4.params.toList args.toList ds p := hA0
  rw [Tryd.params4] at hA hval
  obtain ⟨v0, vs0, d0, ds0, p0, q0, hargs0, rfl, rfl, h0, r0⟩ := trodAll_cons hA
  obtain ⟨v1, vs1, d1, ds1, p1, q1, hargs1, rfl, rfl, h1, r1⟩ := trodAll_cons r0
  obtain ⟨v2, vs2, d2, ds2, p2, q2, hargs2, rfl, rfl, h2, r2⟩ := trodAll_cons r1
  obtain ⟨v3, vs3, d3, ds3, p3, q3, hargs3, rfl, rfl, h3, r3⟩ := trodAll_cons r2
  obtain ⟨rfl, rfl, rfl⟩ := trodAll_nil r3
  obtain rfl : args = #[v0, v1, v2, v3] := by cases args; simp_all
  obtain ⟨rfl, rfl⟩ := trodVars_none hV
  obtain ⟨a0, rfl, rfl, rfl, w0⟩ := open_string Tryd.underlying9 (hval 0 9 v0 rfl rfl) h0
  have h1k := h1
  have hlt1 : ∀ x ∈ p1, x.block < W.heap.size := fun x hx => by have := hW'.lt x (by simp [hx]); simpa using this
  obtain ⟨l1, hl1⟩ := open_argSS (hval 1 22 v1 rfl rfl) h1
  obtain ⟨a2, rfl, rfl, rfl, w2⟩ := open_int Tryd.underlying3 (hval 2 3 v2 rfl rfl) h2
  obtain ⟨a3, rfl, rfl, rfl, w3⟩ := open_int Tryd.underlying3 (hval 3 3 v3 rfl rfl) h3
  clear hA0 hval0
  simp only [List.append_nil] at hW'
  have hT := tabsR_of_laid hL
  refine (readRight_any a0 l1 v1 a2 a3 W hl1 hT).mono fun e W' ⟨he, hb⟩ => ?_
  subst he
  exact ⟨_, rfl, _, _, _, [], _, [], hW', trodAll_cons_mk (shut_bool Tryd.underlying4 _) trodAll_mk0, (trodAll_cons_mk (shut_string Tryd.underlying9 w0) (trodAll_cons_mk (Below.trod laidOut (by kernel_rfl) (of_decide_eq_true (by kernel_rfl)) h1k hb hlt1) (trodAll_cons_mk (shut_int Tryd.underlying3 w2) (trodAll_cons_mk (shut_int Tryd.underlying3 w3) trodAll_mk0)))), rfl, hb.frame _, fun h => by cases h⟩

theorem closed : joinedFacts Tryd.prog 4 Tryd.f4 Rows.readRightSpec Rows.readRightRow = true := by
  unfold joinedFacts
  rw [row_mayEnter, row_lifts, row_make]
  kernel_rfl
theorem readRight_holds : Rows.ReadRightSaid :=
  OpenClaim.holds_of_wide 4 Tryd.f4 rfl rfl rfl rfl rfl rfl rfl ⟨rfl, rfl, rfl, rfl, rfl⟩ rfl rfl rfl rfl rfl (by kernel_rfl) Tryd.func4 closed
    (of_decide_eq_true (by kernel_rfl)) (by unfold Func.isWrapper; first | (rw [if_pos (by decide +kernel)]; kernel_rfl) | (rw [if_neg (by decide +kernel)]; exact ⟨rfl, rfl⟩))
    (fun os started H enc _ => lifted os started H enc)
theorem proved : Rows.ReadRightCardSaid :=
  Claim7.holds_tied_plain_at .later [] [.data, .data] true Rows.readRightCard.stood.harness true
    readRight_holds (fun _ h => by cases h) (by kernel_rfl) (fun _ h => by cases h) readRight_row_tie rfl ⟨rfl, rfl⟩ (by kernel_rfl) rfl
    (fun f fn hf hfn => by
      obtain rfl : f = 4 := Option.some.inj ((show Tryd.prog.funcNamed "tranship/transhiplaw09.ReadRight" = some 4 by kernel_rfl).symm.trans hf) |>.symm
      obtain rfl : fn = Tryd.f4 := (Option.some.inj (Tryd.func4.symm.trans hfn)).symm
      exact ⟨by kernel_rfl, fun j t ht => by
        rw [Tryd.params4] at ht
        have hm : t ∈ [9, 22, 3, 3] := by simpa using Array.mem_of_getElem? ht
        have hall : ([9, 22, 3, 3].all fun u => !Tryd.prog.wantsStandIn u) = true := by kernel_rfl
        exact (show Tryd.prog.wantsStandIn t = false by simpa using List.all_eq_true.1 hall t hm)⟩)
    (by kernel_rfl)
#print axioms proved
end Go.Proofs.YtllkackipdcekaaDoor.lawReadRight
