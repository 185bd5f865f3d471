/-
  deriv.Nodes counts the nodes of a term.
-/
import Derived.Test.YtjhdcjjoignioaaRows
import Derived.Test.YtjhdcjjoignioaaDTree
namespace Go.Proofs.Ytjhdcjjoignioaa.Dv
open Go.RowKit

mutual
def Tm.size : Tm → Nat
  | .mk _ _ l => sizes l + 1
def sizes : List Tm → Nat
  | [] => 0
  | t :: r => t.size + sizes r
end

theorem sizes_take (l : List Tm) (k : Nat) (h : k < l.length) : sizes (l.take (k + 1)) = sizes (l.take k) + (l[k]).size := by
  induction l generalizing k with
  | nil => simp at h
  | cons a r ih =>
    cases k with
    | zero => simp [sizes]
    | succ k => simp only [List.take_succ_cons, sizes, List.getElem_cons_succ]; rw [ih k (by simpa using h)]; omega

theorem sizes_le (l : List Tm) (k : Nat) : sizes (l.take k) ≤ sizes l := by
  induction l generalizing k with
  | nil => simp
  | cons a r ih =>
    cases k with
    | zero => simp [sizes]
    | succ k => simp only [List.take_succ_cons, sizes]; have := ih k; omega

theorem Tm.size_eq (t : Tm) : t.size = sizes t.kids + 1 := by cases t; rfl

set_option maxHeartbeats 400000 in
theorem dsize_any (t : Tm) : ∀ (w : World) (s : Value), Lies w t.kids s → t.size ≤ 1000000000000 → Calls Try.prog 36 #[tv t s] w fun e w' => e = .returned (.int .i64 t.size) ∧ Below w.heap.size w w' := by
  induction t using Tm.ind with
  | h t ih =>
    intro w s hl hs
    obtain ⟨a, cap, S, rfl, hc, hm, hf, hn, hk⟩ := hl.out
    unfold tv
    have hsz := t.size_eq
    unfold maxLen at hm
    have IH := Lib.hid ih
    have HN := Lib.hid hn
    have HK := Lib.hid hk
    have HL := Lib.hid hl
    have HSZ := Lib.hid hsz
    clear ih hn hk hf hl hsz
    go_enter Try.func36, Try.ntmps36
    go_wp2
    go_loopw [3, 9] (fun n i wr => ∃ k : Nat, k ≤ t.kids.length ∧ i = .int .i64 k ∧ n = .int .i64 ((1 + sizes (t.kids.take k) : Nat) : Int) ∧ Below w.heap.size w wr) (fun _ i _ => t.kids.length - (intOf i).toNat)
    case atStart => exact ⟨0, Nat.zero_le _, rfl, by simp [sizes], (Below.refl _ _).alloc (Nat.le_refl _) _⟩
    case round =>
      obtain ⟨k, hk, rfl, rfl, hb⟩ := hrel
      by_cases hlt : k < t.kids.length
      · obtain ⟨b, o, rfl, hx⟩ := HN.out k hlt
        have hy := hx.below hb hx.lt
        obtain ⟨c0, c1, c2⟩ := hy
        have hq := HK.out k hlt
        obtain ⟨a', cap', S', hS, -⟩ := hq.out
        rw [hS] at c2 hq
        have HQ := Lib.hid hq
        clear hS hq
        have HM := Lib.hid (List.getElem_mem hlt)
        have HT := Lib.hid (sizes_take t.kids k hlt)
        have h1 := sizes_le t.kids (k + 1)
        have h2 : 1 + sizes (t.kids.take k) + (t.kids[k]).size ≤ 1000000000000 := by rw [HT.out] at h1; rw [HSZ.out] at hs; omega
        clear h1
        have HB : Below w.heap.size w (wr.alloc (.cells #[.int .i64 t.kids[k].k, .int .i64 t.kids[k].i, .slice a' t.kids[k].kids.length cap'] 53)) := hb.alloc hb.size _
        go_wp2_with fail
        refine (IH.out _ HM.out _ _ (HQ.out.keep HB) (by omega)).mono ?_
        rintro e w' ⟨rfl, hb'⟩
        have HB' : Below w.heap.size w w' := HB.trans (hb'.mono HB.size)
        clear hb' HB hb
        go_wp2
        go_roundw
        case rel => exact ⟨k + 1, by omega, by go_num, by rw [HT.out]; go_num, HB'⟩
        case measure => simp [intOf]; omega
      · have : k = t.kids.length := by omega
        subst this
        go_wp2
        go_ret
        refine ⟨?_, hb⟩
        rw [List.take_length, HSZ.out, Nat.add_comm]
        rfl
end Go.Proofs.Ytjhdcjjoignioaa.Dv
