/-
  transhipkeep.Twin and Twins: a copy of a term in new memory.
-/
import Derived.Test.YtjhdcjjoignioaaDDesk
import Derived.Test.YtjhdcjjoignioaaQuietTail
import Derived.Test.YtjhdcjjoignioaaDSize
import Derived.BigQuiet
namespace Go.Proofs.Ytjhdcjjoignioaa.Dv
open Go.RowKit

/-- What a call hands back that makes the term u: u by value, its kids in new memory. -/
def Makes (u : Tm) (w : World) (e : Ending) (w' : World) : Prop := ∃ s' : Value, e = .returned (tv u s') ∧ LiesP w' (Own w.heap.size w') u.kids s' ∧ Below w.heap.size w w'
/-- The same for a list. -/
def MakesAll (l : List Tm) (w : World) (e : Ending) (w' : World) : Prop := ∃ s' : Value, e = .returned s' ∧ LiesP w' (Own w.heap.size w') l s' ∧ Below w.heap.size w w'

theorem LiesP.out {w : World} {P : Nat → Prop} {l : List Tm} {s : Value} (h : LiesP w P l s) : ∃ (a : Option Addr) (cap : Nat), s = .slice a l.length cap ∧ l.length ≤ cap ∧ cap ≤ maxLen := by
  cases h with
  | mk l a cap S hc hm hf hn hk => exact ⟨a, cap, rfl, hc, hm⟩

/-- The term in its box, and a result in its own behind it. -/
def Boxes (w : World) (t : Tm) (s : Value) (w' : World) : Prop := Below (w.heap.size + 2) ((w.alloc (boxOf t s)).alloc (.cells #[.int .i64 0, .int .i64 0, .slice none 0 0] 53)) w'
theorem boxes_start (w : World) (t : Tm) (s : Value) : Boxes w t s ((w.alloc (.cells #[.int .i64 t.k, .int .i64 t.i, s] 53)).alloc (.cells #[.int .i64 0, .int .i64 0, .slice none 0 0] 53)) := Below.refl _ _
theorem boxes_held {w w' : World} {t : Tm} {s : Value} (h : Boxes w t s w') : Held w t s w' :=
  ((Below.refl (w.heap.size + 1) (w.alloc (boxOf t s))).alloc (by simp) _).trans (Below.mono h (by omega))
theorem boxes_cells {w w' : World} {t : Tm} {s : Value} (h : Boxes w t s w') : w'.cell? ⟨w.heap.size, 0, none⟩ = some (.int .i64 t.k) ∧ w'.cell? ⟨w.heap.size, 1, none⟩ = some (.int .i64 t.i) ∧ w'.cell? ⟨w.heap.size, 2, none⟩ = some s ∧
    w'.cell? ⟨w.heap.size + 1, 0, none⟩ = some (.int .i64 0) ∧ w'.cell? ⟨w.heap.size + 1, 1, none⟩ = some (.int .i64 0) ∧ w'.cell? ⟨w.heap.size + 1, 2, none⟩ = some (.slice none 0 0) ∧ w'.frozen? ⟨w.heap.size + 1, 0, none⟩ = false ∧ w'.frozen? ⟨w.heap.size + 1, 1, none⟩ = false ∧ w'.frozen? ⟨w.heap.size + 1, 2, none⟩ = false := by
  obtain ⟨h0, h1, h2⟩ := held_cells (boxes_held h)
  have hs : (w.alloc (boxOf t s)).heap.size = w.heap.size + 1 := by simp
  have := box_cells (w := w.alloc (boxOf t s)) (by rw [hs]; exact h)
  rw [hs] at this
  obtain ⟨y0, y1, y2⟩ := this
  have fr : ∀ q, w'.frozen? ⟨w.heap.size + 1, q, none⟩ = false := fun q => by
    rw [Below.frozen h (p := ⟨w.heap.size + 1, q, none⟩) (by simp)]
    unfold World.frozen?
    rw [show (⟨w.heap.size + 1, q, none⟩ : Addr).block = (w.alloc (boxOf t s)).heap.size by simp, alloc_new]
    rfl
  exact ⟨h0, h1, h2, y0, y1, y2, fr _, fr _, fr _⟩
theorem boxes_call {w w1 w2 : World} {t : Tm} {s : Value} (h : Boxes w t s w1) (hb : Below w1.heap.size w1 w2) : Boxes w t s w2 := below_call h hb (by have := Below.size h; simpa using this)
theorem boxes_drew {w w1 : World} {t : Tm} {s : Value} (h : Boxes w t s w1) : Boxes w t s w1.drew := Below.drew h
theorem held_both {w w' : World} {t : Tm} {s : Value} (h : Held w t s w') : Held w t s w' ∧ w'.cell? ⟨w.heap.size, 0, none⟩ = some (.int .i64 t.k) ∧ w'.cell? ⟨w.heap.size, 1, none⟩ = some (.int .i64 t.i) ∧ w'.cell? ⟨w.heap.size, 2, none⟩ = some s := ⟨h, held_cells h⟩
theorem boxes_block {w w1 : World} {t : Tm} {s : Value} (h : Boxes w t s w1) : w1.heap[w.heap.size + 1]? = some (.cells #[.int .i64 0, .int .i64 0, .slice none 0 0] 53 (0, 0)) := by
  rw [Below.block h _ (by omega)]
  exact heap_alloc2_new _ _ _
theorem boxes_lies {w w1 : World} {t : Tm} {s s' : Value} {l : List Tm} (h : Boxes w t s w1) (hl : Lies w l s') : Lies w1 l s' := held_lies (boxes_held h) hl

theorem len_sizes : ∀ l : List Tm, l.length ≤ sizes l
  | [] => by simp
  | t :: r => by have := len_sizes r; have := t.size_eq; simp only [sizes, List.length_cons]; omega

theorem size_mem : ∀ (l : List Tm) (x : Tm), x ∈ l → x.size ≤ sizes l
  | t :: r, x, h => by
    simp only [sizes]
    rcases List.mem_cons.1 h with rfl | h
    · omega
    · have := size_mem r x h; omega

theorem under_term : ∃ d, Try.prog.underlying 53 = some d ∧ (match d with | .struct _ | .array _ _ => true | _ => false) = true := by
  have h : (Try.prog.underlying 53).map (fun d => match d with | .struct _ | .array _ _ => true | _ => false) = some true := by kernel_rfl
  cases e : Try.prog.underlying 53 with
  | none => rw [e] at h; cases h
  | some d => rw [e] at h; exact ⟨d, rfl, Option.some.inj h⟩

theorem size_term : (Try.prog.info? 53).map (·.size) = some 3 := by kernel_rfl

end Go.Proofs.Ytjhdcjjoignioaa.Dv
