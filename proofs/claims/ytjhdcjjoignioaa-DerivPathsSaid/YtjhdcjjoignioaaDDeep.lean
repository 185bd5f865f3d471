/-
  deriv.Deep measures the depth of a term.
-/
import Derived.Test.YtjhdcjjoignioaaRows
import Derived.Test.YtjhdcjjoignioaaDSize
namespace Go.Proofs.Ytjhdcjjoignioaa.Dv
open Go.RowKit

mutual
def Tm.deep : Tm → Nat
  | .mk _ _ l => deeps l + 1
def deeps : List Tm → Nat
  | [] => 0
  | t :: r => max t.deep (deeps r)
end

theorem deeps_take (l : List Tm) (k : Nat) (h : k < l.length) : deeps (l.take (k + 1)) = max (deeps (l.take k)) (l[k]).deep := by
  induction l generalizing k with
  | nil => simp at h
  | cons a r ih =>
    cases k with
    | zero => simp [deeps]
    | succ k => simp only [List.take_succ_cons, deeps, List.getElem_cons_succ]; rw [ih k (by simpa using h)]; omega

theorem Tm.deep_eq (t : Tm) : t.deep = deeps t.kids + 1 := by cases t; rfl

theorem deep_le_size (t : Tm) : t.deep ≤ t.size := by
  induction t using Tm.ind with
  | h t ih =>
    rw [t.deep_eq, t.size_eq]
    have : ∀ l : List Tm, (∀ x ∈ l, x.deep ≤ x.size) → deeps l ≤ sizes l := by
      intro l hl
      induction l with
      | nil => simp [deeps]
      | cons a r ihr => simp only [deeps, sizes]; have := ihr (fun x hx => hl x (List.mem_cons_of_mem _ hx)); have := hl a List.mem_cons_self; omega
    have := this t.kids ih
    omega

set_option maxHeartbeats 400000 in
theorem ddeep_any (t : Tm) : ∀ (w : World) (s : Value), Lies w t.kids s → t.size ≤ 1000000000000 → Calls Try.prog 37 #[tv t s] w fun e w' => e = .returned (.int .i64 t.deep) ∧ Below w.heap.size w w' := by
  induction t using Tm.ind with
  | h t ih =>
    intro w s hl hs
    obtain ⟨a, cap, S, rfl, hc, hm, hf, hn, hk⟩ := hl.out
    unfold tv
    have hsz := t.deep_eq
    unfold maxLen at hm
    have IH := Lib.hid ih
    have HN := Lib.hid hn
    have HK := Lib.hid hk
    have HSZ := Lib.hid hsz
    clear ih hn hk hf hl hsz
    go_enter Try.func37, Try.ntmps37
    go_wp2
    go_loopw [3, 9] (fun n i wr => ∃ k : Nat, k ≤ t.kids.length ∧ i = .int .i64 k ∧ n = .int .i64 (deeps (t.kids.take k) : Int) ∧ Below w.heap.size w wr) (fun _ i _ => t.kids.length - (intOf i).toNat)
    case atStart => exact ⟨0, Nat.zero_le _, rfl, by simp [deeps], (Below.refl _ _).alloc (Nat.le_refl _) _⟩
    case round =>
      obtain ⟨k, hk, rfl, rfl, hb⟩ := hrel
      by_cases hlt : k < t.kids.length
      · obtain ⟨b, o, rfl, hx⟩ := HN.out k hlt
        have hy := hx.below hb hx.lt
        obtain ⟨c0, c1, c2⟩ := hy
        have hq := HK.out k hlt
        obtain ⟨a', cap', S', hS, -⟩ := hq.out
        rw [hS] at c2 hq
        have HQ := Lib.hid hq
        clear hS hq
        have HM := Lib.hid (List.getElem_mem hlt)
        have HT := Lib.hid (deeps_take t.kids k hlt)
        have h1 := sizes_le t.kids (k + 1)
        have h2 : (t.kids[k]).size ≤ 1000000000000 := by rw [sizes_take t.kids k hlt] at h1; rw [t.size_eq] at hs; omega
        clear h1
        have HB : Below w.heap.size w (wr.alloc (.cells #[.int .i64 t.kids[k].k, .int .i64 t.kids[k].i, .slice a' t.kids[k].kids.length cap'] 53)) := hb.alloc hb.size _
        go_wp2_with fail
        refine (IH.out _ HM.out _ _ (HQ.out.keep HB) (by omega)).mono ?_
        rintro e w' ⟨rfl, hb'⟩
        have HB' : Below w.heap.size w w' := HB.trans (hb'.mono HB.size)
        clear hb' HB hb
        go_wp2
        go_roundw
        case rel => exact ⟨k + 1, by omega, by go_num, by rw [HT.out]; split <;> go_num, HB'⟩
        case measure => simp [intOf]; omega
      · have : k = t.kids.length := by omega
        subst this
        have h3 : deeps t.kids ≤ 1000000000000 := by have := deep_le_size t; rw [HSZ.out] at this; omega
        go_wp2
        go_ret
        refine ⟨?_, hb⟩
        rw [HSZ.out, List.take_length]
        rfl
end Go.Proofs.Ytjhdcjjoignioaa.Dv
