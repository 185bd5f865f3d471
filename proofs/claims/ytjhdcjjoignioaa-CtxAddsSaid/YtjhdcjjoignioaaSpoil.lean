/-
  transhipkeep.Spoil turns what a call has made, and nothing else.
-/
import Derived.Test.YtjhdcjjoignioaaFill
namespace Go.Proofs.Ytjhdcjjoignioaa
open Go.RowKit

def spoilt : Tm := .mk (-7) 0 0 0 []
theorem spoilt_fine : spoilt.fine := by simp [spoilt, Tm.fine, I64, Tm.k, Tm.i, Tm.j, Tm.n]
theorem mem_size : ∀ (l : List Tm) (k : Nat) (h : k < l.length), (l[k]).size ≤ sizes l
  | a :: r, 0, _ => by simp only [List.getElem_cons_zero, sizes]; omega
  | a :: r, k + 1, h => by have := mem_size r k (by simpa using h); simp only [List.getElem_cons_succ, sizes]; omega

/-- The box of a spoilt term stays. -/
theorem shr_box {P : Nat → Prop} {H : Nat} (hPH : ∀ b, P b → b < H) {w wr : World} {t : Tm} {s : Value} (hH : H ≤ w.heap.size) (h : Shr P (w.alloc (boxOf t s)) wr) :
    wr.cell? ⟨w.heap.size, 0, none⟩ = some (.int .i64 t.k) ∧ wr.cell? ⟨w.heap.size, 1, none⟩ = some (.int .i64 t.i) ∧ wr.cell? ⟨w.heap.size, 2, none⟩ = some (.int .i64 t.j) ∧ wr.cell? ⟨w.heap.size, 3, none⟩ = some (.int .i64 t.n) ∧ wr.cell? ⟨w.heap.size, 4, none⟩ = some s := by
  have hb := h.2.2.2.1 w.heap.size (by simp) (fun hp => by have := hPH _ hp; omega)
  rw [alloc_new] at hb
  have key : ∀ o, wr.cell? ⟨w.heap.size, o, none⟩ = (#[.int .i64 t.k, .int .i64 t.i, .int .i64 t.j, .int .i64 t.n, s] : Array Value)[o]? := fun o => by
    unfold World.cell?
    rw [show (⟨w.heap.size, o, none⟩ : Addr).block = w.heap.size from rfl, hb]; rfl
  exact ⟨by rw [key]; rfl, by rw [key]; rfl, by rw [key]; rfl, by rw [key]; rfl, by rw [key]; rfl⟩

theorem Shr.refl {P : Nat → Prop} {w : World} (h : Free P w) : Shr P w w := ⟨h, Nat.le_refl _, ⟨rfl, rfl, rfl⟩, fun _ _ _ => rfl, fun l _ hl => ⟨l, rfl, Nat.le_refl _, hl⟩⟩

theorem open_unfrozen {w : World} {b : Nat} {cs : Array Value} {T : TypeId} (h : w.heap[b]? = some (.cells cs T (0, 0))) (q : Nat) : w.frozen? ⟨b, q, none⟩ = false := by
  unfold World.frozen?
  rw [show (⟨b, q, none⟩ : Addr).block = b from rfl, h]; rfl

def Spoils (P : Nat → Prop) (w : World) (e : Ending) (w' : World) : Prop := e = .returned (.tuple #[]) ∧ Shr P w w'

end Go.Proofs.Ytjhdcjjoignioaa
