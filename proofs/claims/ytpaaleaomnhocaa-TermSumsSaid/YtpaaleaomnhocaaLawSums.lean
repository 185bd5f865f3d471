/-
  The walk of transhiplaw04.TermSums.
-/
import Derived.Test.YtpaaleaomnhocaaWakes4
namespace Go.Proofs.Ytpaaleaomnhocaa
open Go.RowKit

set_option maxHeartbeats 1000000 in
theorem termSums_any (t : Tm) (w : World) (s : Value) (hl : Lies w t.kids s) : Calls Try.prog 7 #[tv t s] w fun e w' => e = .returned (.bool true) ∧ Below w.heap.size w w' := by
  obtain ⟨a, cap, S, rfl, hc, hm, hf, hn, hk⟩ := hl.out
  unfold tv
  unfold maxLen at hm
  have HN := Lib.hid hn
  have HK := Lib.hid hk
  have HL := Lib.hid hl
  have HSZ := Lib.hid t.size_eq
  have HDP := Lib.hid t.deep_eq
  have HBX := Lib.hid (fun (wr : World) => box_cells (w := w) (wr := wr) (v0 := .int .i64 t.k) (v1 := .int .i64 t.i) (v2 := .int .i64 t.j) (v3 := .int .i64 t.n) (v4 := .slice a t.kids.length cap) (T := 24))
  clear hn hk hf hl
  have HB := (Below.refl (w.heap.size + 1) (w.alloc (.cells #[.int .i64 t.k, .int .i64 t.i, .int .i64 t.j, .int .i64 t.n, .slice a t.kids.length cap] 24)))
  go_enter Try.func7, Try.ntmps7
  go_wp2_with fail
  refine (great_any t _ _ _ (HL.out.keep (below_of_box HB)) (by omega) (by omega)).mono ?_
  rintro e w1 ⟨g, rfl, hg, hb'⟩
  have HB1 := below_call HB hb' (by simp)
  have HG := Lib.hid hg
  obtain ⟨d0, d1, d2, d3, d4⟩ := HBX.out _ HB1
  clear hg hb' HB
  cases g with
  | true =>
    go_wp2
    go_ret
    exact ⟨rfl, below_of_box HB1⟩
  | false =>
    have hz := (HG.out rfl).1
    clear HG
    go_wp2_with fail
    go_loopw [3, 4, 5] (fun n d i wr => ∃ k : Nat, k ≤ t.kids.length ∧ i = .int .i64 k ∧ n = .int .i64 ((1 + sizes (t.kids.take k) : Nat) : Int) ∧ d = .int .i64 (deeps (t.kids.take k) : Int) ∧ Below (w.heap.size + 1) (w.alloc (.cells #[.int .i64 t.k, .int .i64 t.i, .int .i64 t.j, .int .i64 t.n, .slice a t.kids.length cap] 24)) wr) (fun _ _ i _ => t.kids.length - (intOf i).toNat)
    case atStart => exact ⟨0, Nat.zero_le _, rfl, by simp [sizes], by simp [deeps], HB1⟩
    case round =>
      obtain ⟨k, hk, rfl, rfl, rfl, hb⟩ := hrel
      obtain ⟨d0, d1, d2, d3, d4⟩ := HBX.out _ hb
      have hb0 := below_of_box hb
      by_cases hlt : k < t.kids.length
      · obtain ⟨b, o, rfl, hx⟩ := HN.out k hlt
        have hy := hx.below hb0 hx.lt
        obtain ⟨c0, c1, c2, c3, c4⟩ := hy
        have hq := HK.out k hlt
        obtain ⟨a', cap', S', hS, -⟩ := hq.out
        rw [hS] at c4 hq
        have HQ := Lib.hid (hq.keep hb0)
        clear hS hq
        have HM := Lib.hid (List.getElem_mem hlt)
        have HT := Lib.hid (sizes_take t.kids k hlt)
        have HT2 := Lib.hid (deeps_take t.kids k hlt)
        have h1 := sizes_le t.kids (k + 1)
        have h2 : 1 + sizes (t.kids.take k) + (t.kids[k]).size ≤ 1000 := by rw [HT.out] at h1; rw [HSZ.out] at hz; omega
        clear h1
        go_wp2_with fail
        refine (size_any _ _ _ HQ.out (by omega)).mono ?_
        rintro e w2 ⟨rfl, hb'⟩
        have HQ2 := Lib.hid (HQ.out.keep hb')
        have HB3 := below_call hb hb' (by have := hb.size; simpa using this)
        have hz3 := hb'.size
        obtain ⟨x0, x1, x2, x3, x4⟩ := HBX.out _ HB3
        have HK4 := Lib.hid (fun i hi => (hb'.cell (p := ⟨b, i, none⟩) (by exact hi)))
        obtain ⟨e0, e1, e2, e3, e4⟩ : Node w2 b (o + k * 5) t.kids[k] (.slice a' t.kids[k].kids.length cap') := Node.below ⟨c0, c1, c2, c3, c4⟩ hb' (Node.lt ⟨c0, c1, c2, c3, c4⟩)
        clear HK4 hb' hb d0 d1 d2 d3 d4 hb0 c0 c1 c2 c3 c4
        go_wp2_with fail
        refine (deep_any _ _ _ HQ2.out (by omega)).mono ?_
        rintro e w3 ⟨rfl, hb'⟩
        have HB4 := below_call HB3 hb' (by have := HB3.size; simpa using this)
        clear hb' HB3
        go_wp2
        go_roundw
        case rel => exact ⟨k + 1, by omega, by go_num, by rw [HT.out]; go_num, by rw [HT2.out]; (try split) <;> go_num, HB4⟩
        case measure => simp [intOf]; omega
      · have : k = t.kids.length := by omega
        subst this
        have h3 : sizes t.kids ≤ 1000 := by rw [HSZ.out] at hz; omega
        have h4 : deeps t.kids ≤ 1000 := by have := deep_le_size t; rw [HDP.out] at this; omega
        go_wp2_with fail
        refine (size_any t _ _ (HL.out.keep hb0) (by omega)).mono ?_
        rintro e w2 ⟨rfl, hb'⟩
        have HB3 := below_call hb hb' (by have := hb.size; simpa using this)
        obtain ⟨x0, x1, x2, x3, x4⟩ := HBX.out _ HB3
        have hse : (t.size : Int) = 1 + sizes t.kids := by rw [HSZ.out]; omega
        have hde : (t.deep : Int) = deeps t.kids + 1 := by rw [HDP.out]; omega
        have HDE := Lib.hid hde
        have hsb : ((t.size : Int) == 1 + sizes t.kids) = true := by simpa using hse
        have HSE := Lib.hid hse
        rw [HSE.out]
        clear hb' hb hb0 d0 d1 d2 d3 d4 hse hde hsb
        go_wp2_with fail
        refine (deep_any t _ _ (HL.out.keep (below_of_box HB3)) (by omega)).mono ?_
        rintro e w3 ⟨rfl, hb'⟩
        rw [HDE.out]
        have HB4 := below_call HB3 hb' (by have := HB3.size; simpa using this)
        clear hb'
        go_wp2_with fail
        refine (wakes4_any _).mono ?_
        rintro e w4 ⟨rfl, hb'⟩
        have HB5 := below_call HB4 hb' (by have := HB4.size; simpa using this)
        go_wp2
        go_ret
        exact ⟨rfl, below_of_box HB5⟩
end Go.Proofs.Ytpaaleaomnhocaa
