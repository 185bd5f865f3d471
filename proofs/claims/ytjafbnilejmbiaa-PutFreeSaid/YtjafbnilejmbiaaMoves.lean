/-
  Transports in a term: term.moves, erase.moves and the page's Count.
-/
import Derived.Test.YtjafbnilejmbiaaRows
import Derived.Test.YtjafbnilejmbiaaSize
import Derived.Test.YtjafbnilejmbiaaBox
import Derived.Test.YtjafbnilejmbiaaKids
namespace Go.Proofs.Ytjafbnilejmbiaa
open Go.RowKit

mutual
def Tm.count : Tm → Nat
  | .mk k _ _ _ l => (if k = 12 then 1 else 0) + counts l
def counts : List Tm → Nat
  | [] => 0
  | t :: r => t.count + counts r
end

theorem Tm.count_eq (t : Tm) : t.count = (if t.k = 12 then 1 else 0) + counts t.kids := by cases t; rfl

theorem counts_take (l : List Tm) (k : Nat) (h : k < l.length) : counts (l.take (k + 1)) = counts (l.take k) + (l[k]).count := by
  induction l generalizing k with
  | nil => simp at h
  | cons a r ih =>
    cases k with
    | zero => simp [counts]
    | succ k => simp only [List.take_succ_cons, counts, List.getElem_cons_succ]; rw [ih k (by simpa using h)]; omega

theorem counts_le (l : List Tm) (k : Nat) : counts (l.take k) ≤ counts l := by
  induction l generalizing k with
  | nil => simp
  | cons a r ih =>
    cases k with
    | zero => simp [counts]
    | succ k => simp only [List.take_succ_cons, counts]; have := ih k; omega

theorem count_le_size (t : Tm) : t.count ≤ t.size := by
  induction t using Tm.ind with
  | h t ih =>
    rw [t.count_eq, t.size_eq]
    have : ∀ l : List Tm, (∀ x ∈ l, x.count ≤ x.size) → counts l ≤ sizes l := by
      intro l hl
      induction l with
      | nil => simp [counts]
      | cons a r ihr => simp only [counts, sizes]; have := ihr (fun x hx => hl x (List.mem_cons_of_mem _ hx)); have := hl a List.mem_cons_self; omega
    have := this t.kids ih
    split <;> omega

set_option maxHeartbeats 400000 in
theorem moves_any (t : Tm) : ∀ (w : World) (s : Value), Lies w t.kids s → Calls Try.prog 81 #[tv t s] w fun e w' => e = .returned (.bool (decide (0 < t.count))) ∧ Below w.heap.size w w' := by
  induction t using Tm.ind with
  | h t ih =>
    intro w s hl
    obtain ⟨a, cap, S, rfl, hc, hm, hf, hn, hk⟩ := hl.out
    unfold tv
    have hcq := t.count_eq
    unfold maxLen at hm
    have IH := Lib.hid ih
    have HN := Lib.hid hn
    have HK := Lib.hid hk
    have HCQ := Lib.hid hcq
    clear ih hn hk hf hl hcq
    by_cases h12 : t.k = 12
    · have e12 : (t.k == 12) = true := by simpa using h12
      have H12 := Lib.hid h12
      clear h12
      go_enter Try.func81, Try.ntmps81
      go_wp2
      go_ret
      exact ⟨ret_bool (by rw [HCQ.out, if_pos H12.out]; simp; omega), (Below.refl _ _).alloc (Nat.le_refl _) _⟩
    have e12 : (t.k == 12) = false := by simpa using h12
    have H12 := Lib.hid h12
    clear h12
    go_enter Try.func81, Try.ntmps81
    go_wp2
    go_loopw [11] (fun i wr => ∃ k : Nat, k ≤ t.kids.length ∧ i = .int .i64 k ∧ Hid (counts (t.kids.take k) = 0) ∧ Below w.heap.size w wr) (fun i _ => t.kids.length - (intOf i).toNat)
    case atStart => exact ⟨0, Nat.zero_le _, rfl, by simp [counts, Hid], (Below.refl _ _).alloc (Nat.le_refl _) _⟩
    case round =>
      obtain ⟨k, hk, rfl, h0, hb⟩ := hrel
      by_cases hlt : k < t.kids.length
      · obtain ⟨b, o, rfl, hx⟩ := HN.out k hlt
        have hy := hx.below hb hx.lt
        obtain ⟨c0, c1, c2, c3, c4⟩ := hy
        have hq := HK.out k hlt
        obtain ⟨a', cap', S', hS, -⟩ := hq.out
        rw [hS] at c4 hq
        have HQ := Lib.hid hq
        clear hS hq
        have HM := Lib.hid (List.getElem_mem hlt)
        have HT := Lib.hid (counts_take t.kids k hlt)
        have HB : Below w.heap.size w (wr.alloc (.cells #[.int .i64 t.kids[k].k, .int .i64 t.kids[k].i, .int .i64 t.kids[k].j, .int .i64 t.kids[k].n, .slice a' t.kids[k].kids.length cap'] 24)) := hb.alloc hb.size _
        go_wp2_with fail
        refine (IH.out _ HM.out _ _ (HQ.out.keep HB)).mono ?_
        rintro e w' ⟨rfl, hb'⟩
        have HB' : Below w.heap.size w w' := HB.trans (hb'.mono HB.size)
        clear hb' HB hb
        by_cases hcnt : 0 < (t.kids[k]).count
        · have hcd : decide (0 < (t.kids[k]).count) = true := by simpa using hcnt
          go_wp2
          go_ret
          exact ⟨ret_bool (by have := counts_le t.kids (k + 1); rw [HT.out] at this; rw [HCQ.out]; simp; omega), HB'⟩
        · have hcd : decide (0 < (t.kids[k]).count) = false := by simpa using hcnt
          go_wp2
          go_roundw
          case rel => exact ⟨k + 1, by omega, by go_num, by show _ = _; rw [HT.out, h0.out]; omega, HB'⟩
          case measure => simp [intOf]; omega
      · have : k = t.kids.length := by omega
        subst this
        go_wp2
        go_ret
        refine ⟨ret_bool ?_, hb⟩
        have := h0.out
        rw [List.take_length] at this
        rw [HCQ.out, if_neg H12.out, this]; rfl
end Go.Proofs.Ytjafbnilejmbiaa
