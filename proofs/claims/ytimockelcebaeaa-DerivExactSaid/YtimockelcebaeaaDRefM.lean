/-
  transhipref11.Nodes and Deep.
-/
import Derived.Test.YtimockelcebaeaaDDeep
import Derived.Test.YtimockelcebaeaaDHeld
namespace Go.Proofs.Ytimockelcebaeaa.Dv
open Go.RowKit

set_option maxHeartbeats 800000 in
theorem drefsize_any (t : Tm) : ∀ (w : World) (s : Value), Lies w t.kids s → t.size ≤ 1000000000000 → Calls Try.prog 52 #[tv t s] w fun e w' => e = .returned (.int .i64 (t.size : Nat)) ∧ Below w.heap.size w w' := by
  induction t using Tm.ind with
  | h t ih =>
    intro w s hl hs
    obtain ⟨a, cap, S, rfl, hc, hm, hf, hn, hk⟩ := hl.out
    unfold tv
    unfold maxLen at hm
    have HSZ := Lib.hid (t.size_eq)
    have IH := Lib.hid ih
    have HN := Lib.hid hn
    have HK := Lib.hid hk
    have HBX := Lib.hid (fun (wr : World) => box_cells (w := w) (wr := wr) (v0 := .int .i64 t.k) (v1 := .int .i64 t.i) (v2 := .slice a t.kids.length cap) (T := 59))
    clear ih hn hk hf hl
    go_enter Try.func52, Try.ntmps52
    go_wp2
    go_loopw [3, 4] (fun n i wr => ∃ k : Nat, k ≤ t.kids.length ∧ i = .int .i64 k ∧ n = .int .i64 ((1 + sizes (t.kids.take k) : Nat) : Int) ∧ Below (w.heap.size + 1) (w.alloc (.cells #[.int .i64 t.k, .int .i64 t.i, .slice a t.kids.length cap] 59)) wr) (fun n i _ => t.kids.length - (intOf i).toNat)
    case atStart => exact ⟨0, Nat.zero_le _, rfl, by simp [sizes], Below.refl _ _⟩
    case round =>
      obtain ⟨k, hk, rfl, rfl, hb⟩ := hrel
      obtain ⟨d0, d1, d2⟩ := HBX.out _ hb
      have hb0 := below_of_box hb
      by_cases hlt : k < t.kids.length
      · obtain ⟨b, o, rfl, hx⟩ := HN.out k hlt
        have hy := hx.below hb0 hx.lt
        obtain ⟨c0, c1, c2⟩ := hy
        have hq := HK.out k hlt
        obtain ⟨a', cap', S', hS, -⟩ := hq.out
        rw [hS] at c2 hq
        have HQ := Lib.hid (hq.keep hb0)
        clear hS hq
        have HM := Lib.hid (List.getElem_mem hlt)
        have HT := Lib.hid (sizes_take t.kids k hlt)
        have h1 := sizes_le t.kids (k + 1)
        have h2 : 1 + sizes (t.kids.take k) + (t.kids[k]).size ≤ 1000000000000 := by rw [sizes_take t.kids k hlt] at h1; rw [HSZ.out] at hs; omega
        clear h1
        go_wp2_with fail
        refine (IH.out _ HM.out _ _ HQ.out (by omega)).mono ?_
        rintro e w2 ⟨rfl, hb'⟩
        have HB3 := below_call hb hb' (by have := hb.size; simpa using this)
        obtain ⟨x0, x1, x2⟩ := HBX.out _ HB3
        clear hb' hb d0 d1 d2 hb0 c0 c1 c2
        go_wp2
        go_roundw
        case rel => exact ⟨k + 1, by omega, by go_num, by rw [HT.out]; (try split) <;> go_num, HB3⟩
        case measure => simp [intOf]; omega
      · have : k = t.kids.length := by omega
        subst this
        go_wp2
        go_ret
        refine ⟨?_, hb0⟩
        rw [List.take_length, HSZ.out, Nat.add_comm]
        rfl

set_option maxHeartbeats 800000 in
theorem drefdeep_any (t : Tm) : ∀ (w : World) (s : Value), Lies w t.kids s → t.size ≤ 1000000000000 → Calls Try.prog 54 #[tv t s] w fun e w' => e = .returned (.int .i64 (t.deep : Nat)) ∧ Below w.heap.size w w' := by
  induction t using Tm.ind with
  | h t ih =>
    intro w s hl hs
    obtain ⟨a, cap, S, rfl, hc, hm, hf, hn, hk⟩ := hl.out
    unfold tv
    unfold maxLen at hm
    have HSZ := Lib.hid (t.size_eq)
    have HDP := Lib.hid (t.deep_eq)
    have IH := Lib.hid ih
    have HN := Lib.hid hn
    have HK := Lib.hid hk
    have HBX := Lib.hid (fun (wr : World) => box_cells (w := w) (wr := wr) (v0 := .int .i64 t.k) (v1 := .int .i64 t.i) (v2 := .slice a t.kids.length cap) (T := 59))
    clear ih hn hk hf hl
    go_enter Try.func54, Try.ntmps54
    go_wp2
    go_loopw [3, 4] (fun n i wr => ∃ k : Nat, k ≤ t.kids.length ∧ i = .int .i64 k ∧ n = .int .i64 ((deeps (t.kids.take k) : Nat) : Int) ∧ Below (w.heap.size + 1) (w.alloc (.cells #[.int .i64 t.k, .int .i64 t.i, .slice a t.kids.length cap] 59)) wr) (fun n i _ => t.kids.length - (intOf i).toNat)
    case atStart => exact ⟨0, Nat.zero_le _, rfl, by simp [deeps], Below.refl _ _⟩
    case round =>
      obtain ⟨k, hk, rfl, rfl, hb⟩ := hrel
      obtain ⟨d0, d1, d2⟩ := HBX.out _ hb
      have hb0 := below_of_box hb
      by_cases hlt : k < t.kids.length
      · obtain ⟨b, o, rfl, hx⟩ := HN.out k hlt
        have hy := hx.below hb0 hx.lt
        obtain ⟨c0, c1, c2⟩ := hy
        have hq := HK.out k hlt
        obtain ⟨a', cap', S', hS, -⟩ := hq.out
        rw [hS] at c2 hq
        have HQ := Lib.hid (hq.keep hb0)
        clear hS hq
        have HM := Lib.hid (List.getElem_mem hlt)
        have HT := Lib.hid (deeps_take t.kids k hlt)
        have h1 := sizes_le t.kids (k + 1)
        have h2 : 1 + sizes (t.kids.take k) + (t.kids[k]).size ≤ 1000000000000 := by rw [sizes_take t.kids k hlt] at h1; rw [HSZ.out] at hs; omega
        clear h1
        go_wp2_with fail
        refine (IH.out _ HM.out _ _ HQ.out (by omega)).mono ?_
        rintro e w2 ⟨rfl, hb'⟩
        have HB3 := below_call hb hb' (by have := hb.size; simpa using this)
        obtain ⟨x0, x1, x2⟩ := HBX.out _ HB3
        clear hb' hb d0 d1 d2 hb0 c0 c1 c2
        go_wp2
        go_roundw
        case rel => exact ⟨k + 1, by omega, by go_num, by rw [HT.out]; (try split) <;> go_num, HB3⟩
        case measure => simp [intOf]; omega
      · have : k = t.kids.length := by omega
        subst this
        have h3 : deeps t.kids ≤ 1000000000000 := by have := deep_le_size t; rw [HDP.out] at this; omega
        go_wp2
        go_ret
        refine ⟨?_, hb0⟩
        rw [List.take_length, HDP.out]
        rfl
end Go.Proofs.Ytimockelcebaeaa.Dv
