/-
  transhipkeep.weigh and Great: where Great says no, the term has no more nodes than that.
-/
import Derived.Test.YtjhdcjjoignioaaDeep
namespace Go.Proofs.Ytjhdcjjoignioaa
open Go.RowKit

def Weighed (t : Tm) (most deep : Int) (w : World) (e : Ending) (w' : World) : Prop :=
  ∃ r : Int, e = .returned (.int .i64 r) ∧ 1 ≤ r ∧ r ≤ most + 1 ∧ (r ≤ most → r = t.size ∧ (t.deep : Int) ≤ deep + 1) ∧ Below w.heap.size w w'

set_option maxHeartbeats 800000 in
theorem weigh_any (t : Tm) : ∀ (w : World) (s : Value) (most deep : Int), Lies w t.kids s → 0 ≤ most → most ≤ 100000 → -1 ≤ deep → deep ≤ 100000 →
    Calls Try.prog 39 #[tv t s, .int .i64 most, .int .i64 deep] w (Weighed t most deep w) := by
  induction t using Tm.ind with
  | h t ih =>
    intro w s most deep hl h0 h1 h2 h3
    obtain ⟨a, cap, S, rfl, hc, hm, hf, hn, hk⟩ := hl.out
    unfold tv
    have hsz := t.size_eq
    have hdp := t.deep_eq
    unfold maxLen at hm
    have IH := Lib.hid ih
    have HN := Lib.hid hn
    have HK := Lib.hid hk
    have HSZ := Lib.hid hsz
    have HDP := Lib.hid hdp
    clear ih hn hk hf hl hsz hdp
    by_cases hd : deep < 0
    · go_enter Try.func39, Try.ntmps39
      go_wp2
      go_ret
      exact ⟨most + 1, rfl, by omega, by omega, fun h => by omega, (Below.refl _ _).alloc (Nat.le_refl _) _⟩
    go_enter Try.func39, Try.ntmps39
    have hcell : ∀ (wr : World), Below (w.heap.size + 1) (w.alloc (.cells #[.int .i64 t.k, .int .i64 t.i, .int .i64 t.j, .int .i64 t.n, .slice a t.kids.length cap] 26)) wr → wr.cell? ⟨w.heap.size, 4, none⟩ = some (.slice a t.kids.length cap) := fun wr h => by
      rw [h.cell (p := ⟨w.heap.size, 4, none⟩) (by exact Nat.lt_succ_self _), World.cell?_alloc_at _ _ _ _ rfl]; rfl
    have HC := Lib.hid hcell
    clear hcell
    go_wp2
    go_loopw [7, 8] (fun nv iv wr => ∃ (k : Nat) (n : Int), k ≤ t.kids.length ∧ iv = .int .i64 k ∧ nv = .int .i64 n ∧ 1 ≤ n ∧ n ≤ most + 1 ∧ Hid (n ≤ most → n = ((1 + sizes (t.kids.take k) : Nat) : Int) ∧ (deeps (t.kids.take k) : Int) ≤ deep) ∧
        Below (w.heap.size + 1) (w.alloc (.cells #[.int .i64 t.k, .int .i64 t.i, .int .i64 t.j, .int .i64 t.n, .slice a t.kids.length cap] 26)) wr) (fun _ i _ => t.kids.length - (intOf i).toNat)
    case atStart => exact ⟨0, 1, Nat.zero_le _, rfl, rfl, by omega, by omega, fun _ => ⟨by simp [sizes], by simp [deeps]; omega⟩, Below.refl _ _⟩
    case round =>
      obtain ⟨k, n, hk, rfl, rfl, hn1, hn2, hrel, hb⟩ := hrel
      have hc4 := HC.out wr hb
      have hb0 : Below w.heap.size w wr := ((Below.refl _ _).alloc (Nat.le_refl _) _).trans (hb.mono (by omega))
      by_cases hlt : k < t.kids.length
      · by_cases hnm : n ≤ most
        · obtain ⟨b, o, rfl, hx⟩ := HN.out k hlt
          have hy := hx.below hb0 hx.lt
          obtain ⟨c0, c1, c2, c3, c4⟩ := hy
          have hq := HK.out k hlt
          obtain ⟨a', cap', S', hS, -⟩ := hq.out
          rw [hS] at c4 hq
          have HQ := Lib.hid (hq.keep hb0)
          clear hS hq
          have HM := Lib.hid (List.getElem_mem hlt)
          have HT := Lib.hid (sizes_take t.kids k hlt)
          have HT2 := Lib.hid (deeps_take t.kids k hlt)
          go_wp2_with fail
          refine (IH.out _ HM.out _ _ _ _ HQ.out (by omega) (by omega) (by omega) (by omega)).mono ?_
          rintro e w' ⟨r, rfl, hr1, hr2, hr3, hb'⟩
          have HR3 := Lib.hid hr3
          have HB' := hb.trans (hb'.mono (by have := hb.size; simpa using this))
          clear hb' hb hb0 hc4 hr3
          go_wp2
          go_roundw
          case rel =>
            refine ⟨k + 1, n + r, by omega, by go_num, rfl, by omega, by omega, ?_, HB'⟩
            intro hle
            obtain ⟨e1, e2⟩ := hrel.out hnm
            obtain ⟨e3, e4⟩ := HR3.out (by omega)
            rw [HT.out, HT2.out, e1, e3]
            exact ⟨by simp; omega, by omega⟩
          case measure => simp [intOf]; omega
        · go_wp2
          go_ret
          exact ⟨n, rfl, by omega, by omega, fun h => absurd h (by omega), hb0⟩
      · have : k = t.kids.length := by omega
        subst this
        go_wp2
        all_goals go_ret
        all_goals
          refine ⟨n, rfl, by omega, by omega, fun h => ?_, hb0⟩
          obtain ⟨e1, e2⟩ := hrel.out h
          rw [List.take_length] at e1 e2
          rw [HSZ.out, HDP.out]
          exact ⟨by rw [e1]; simp; omega, by omega⟩

def NotGreat (t : Tm) (most : Int) (w : World) (e : Ending) (w' : World) : Prop :=
  ∃ g : Bool, e = .returned (.bool g) ∧ (g = false → (t.size : Int) ≤ most ∧ t.deep ≤ 201) ∧ Below w.heap.size w w'

set_option maxHeartbeats 800000 in
theorem great_any (t : Tm) (w : World) (s : Value) (most : Int) (hl : Lies w t.kids s) (h0 : 0 ≤ most) (h1 : most ≤ 100000) :
    Calls Try.prog 22 #[tv t s, .int .i64 most] w (NotGreat t most w) := by
  obtain ⟨a, cap, S, hs, -⟩ := hl.out
  subst hs
  have HB : Below w.heap.size w (w.alloc (.cells #[.int .i64 t.k, .int .i64 t.i, .int .i64 t.j, .int .i64 t.n, .slice a t.kids.length cap] 26)) := (Below.refl _ _).alloc (Nat.le_refl _) _
  have HL := Lib.hid (hl.keep HB)
  clear hl
  unfold tv
  go_enter Try.func22, Try.ntmps22
  go_wp2_with fail
  refine (weigh_any t _ _ _ _ HL.out h0 h1 (by omega) (by omega)).mono ?_
  rintro e w' ⟨r, rfl, hr1, hr2, hr3, hb'⟩
  have HR3 := Lib.hid hr3
  have HB' := HB.trans (hb'.mono HB.size)
  clear hr3 hb' HB
  go_wp2
  go_ret
  refine ⟨_, rfl, fun h => ?_, HB'⟩
  have hrm : r ≤ most := by simpa using h
  obtain ⟨e3, e4⟩ := HR3.out hrm
  omega
end Go.Proofs.Ytjhdcjjoignioaa
