/-
  Transports in a term: term.moves, erase.moves and the page's Count.
-/
import Derived.Test.YtjhdcjjoignioaaRows
import Derived.Test.YtjhdcjjoignioaaSize
import Derived.Test.YtjhdcjjoignioaaBox
import Derived.Test.YtjhdcjjoignioaaKids
namespace Go.Proofs.Ytjhdcjjoignioaa
open Go.RowKit

mutual
def Tm.count : Tm → Nat
  | .mk k _ _ _ l => (if k = 12 then 1 else 0) + counts l
def counts : List Tm → Nat
  | [] => 0
  | t :: r => t.count + counts r
end

theorem Tm.count_eq (t : Tm) : t.count = (if t.k = 12 then 1 else 0) + counts t.kids := by cases t; rfl

theorem counts_take (l : List Tm) (k : Nat) (h : k < l.length) : counts (l.take (k + 1)) = counts (l.take k) + (l[k]).count := by
  induction l generalizing k with
  | nil => simp at h
  | cons a r ih =>
    cases k with
    | zero => simp [counts]
    | succ k => simp only [List.take_succ_cons, counts, List.getElem_cons_succ]; rw [ih k (by simpa using h)]; omega

theorem counts_le (l : List Tm) (k : Nat) : counts (l.take k) ≤ counts l := by
  induction l generalizing k with
  | nil => simp
  | cons a r ih =>
    cases k with
    | zero => simp [counts]
    | succ k => simp only [List.take_succ_cons, counts]; have := ih k; omega

theorem count_le_size (t : Tm) : t.count ≤ t.size := by
  induction t using Tm.ind with
  | h t ih =>
    rw [t.count_eq, t.size_eq]
    have : ∀ l : List Tm, (∀ x ∈ l, x.count ≤ x.size) → counts l ≤ sizes l := by
      intro l hl
      induction l with
      | nil => simp [counts]
      | cons a r ihr => simp only [counts, sizes]; have := ihr (fun x hx => hl x (List.mem_cons_of_mem _ hx)); have := hl a List.mem_cons_self; omega
    have := this t.kids ih
    split <;> omega

end Go.Proofs.Ytjhdcjjoignioaa
