/-
  The functions that lift.Lift and lift.Rename hand over, each by its contract; two results, the first in memory.
-/
import Derived.Test.YtjhdcjjoignioaaBare
import Derived.Test.YtjhdcjjoignioaaFill
namespace Go.Proofs.Ytjhdcjjoignioaa
open Go.RowKit

theorem results_cell_tmp {P : Program} {fn : Func} {p q : Tmp} {ty : TypeId} (h : fn.results = #[.cell p ty, .tmp q]) (tmps : Array Value) (w : World) (g : Nat) (t : TypeId) (cs : Array Value) (fr : Nat × Nat) (d : TypeDesc)
    (hp : tmps.getD p undef = .pointer (some ⟨g, 0, none⟩)) (hg : w.heap[g]? = some (.cells cs t fr))
    (hu : P.underlying ty = some d) (hd : (match d with | .struct _ | .array _ _ => true | _ => false) = true) (hi : (P.info? ty).map (·.size) = some cs.size) :
    (results fn tmps).run P w = .ok (.tuple #[.agg cs, tmps.getD q undef]) w := by
  have hp' : tmps[p]?.getD undef = .pointer (some ⟨g, 0, none⟩) := by simpa using hp
  simp [results, h, hp', asAddr, run_loadVar_row w g t ty cs fr d hg hu hd hi]

/-- What a call hands back that makes a term, or says that there is none. -/
def Gives (r : Option Tm) (w : World) (e : Ending) (w' : World) : Prop := Below w.heap.size w w' ∧
  ((∃ u s', r = some u ∧ e = .returned (.tuple #[tv u s', .bool true]) ∧ LiesP w' (Own w.heap.size w') u.kids s') ∨ (∃ z : Tm, r = none ∧ z.kids = [] ∧ e = .returned (.tuple #[tv z (.slice none 0 0), .bool false])))

theorem liftc_some (v b c k r : Int) (bf bk : Nat) (w : World) (h : liftF k c v b = some r) (hv : 0 ≤ v) (hv2 : v ≤ 2147483647) (hb : 0 ≤ b) (hb2 : b ≤ 4000000) (hk : I64 k) (hk0 : 0 ≤ k)
    (hc : w.cell? ⟨bf, 0, none⟩ = some (.int .i64 c)) (hck : w.cell? ⟨bk, 0, none⟩ = some (.int .i64 k)) :
    Calls Try.prog 67 #[.int .i64 v, .int .i64 b, .pointer (some ⟨bf, 0, none⟩), .pointer (some ⟨bk, 0, none⟩)] w fun e w' => e = .returned (.tuple #[.int .i64 r, .bool true]) ∧ w = w' := by
  unfold liftF at h
  unfold I64 at hk
  obtain ⟨hk1, hk2⟩ := hk
  by_cases h1 : v - b < c
  · rw [if_pos h1] at h
    obtain rfl := Option.some.inj h
    have e1 : decide (v - b < c) = true := by simpa using h1
    clear h h1
    go_enter Try.func67, Try.ntmps67
    go_wp2
    go_ret2
    exact ⟨rfl, rfl⟩
  · rw [if_neg h1] at h
    by_cases h2 : k > 2147483647 - v
    · rw [if_pos h2] at h; cases h
    · rw [if_neg h2] at h
      obtain rfl := Option.some.inj h
      have e1 : decide (v - b < c) = false := by simpa using h1
      have e2 : decide (2147483647 - v < k) = false := by simpa using h2
      have h2' : k ≤ 2147483647 - v := by omega
      clear h h1 h2
      go_enter Try.func67, Try.ntmps67
      go_wp2
      go_ret2
      exact ⟨rfl, rfl⟩

theorem liftc_none (v b c k : Int) (bf bk : Nat) (w : World) (h : liftF k c v b = none) (hv : 0 ≤ v) (hv2 : v ≤ 2147483647) (hb : 0 ≤ b) (hb2 : b ≤ 4000000) (hk : I64 k) (_ : 0 ≤ k)
    (hc : w.cell? ⟨bf, 0, none⟩ = some (.int .i64 c)) (hck : w.cell? ⟨bk, 0, none⟩ = some (.int .i64 k)) :
    Calls Try.prog 67 #[.int .i64 v, .int .i64 b, .pointer (some ⟨bf, 0, none⟩), .pointer (some ⟨bk, 0, none⟩)] w fun e w' => e = .returned (.tuple #[.int .i64 0, .bool false]) ∧ w = w' := by
  unfold liftF at h
  unfold I64 at hk
  obtain ⟨hk1, hk2⟩ := hk
  by_cases h1 : v - b < c
  · rw [if_pos h1] at h; cases h
  · rw [if_neg h1] at h
    by_cases h2 : k > 2147483647 - v
    · have e1 : decide (v - b < c) = false := by simpa using h1
      have e2 : decide (2147483647 - v < k) = true := by simpa using h2
      clear h h1 h2
      go_enter Try.func67, Try.ntmps67
      go_wp2
      go_ret2
      exact ⟨rfl, rfl⟩
    · rw [if_neg h2] at h; cases h

/-! What a right term has. -/
theorem level_I64 {i : Int} (h : levelB i = true) : I64 i := by simp [levelB] at h; unfold I64; omega
theorem right_fine {t : Tm} (h : t.rightB = true) : t.fine := by
  have hn := t.right_node h
  have hk := Tm.node_kind hn
  have hl := node_length hn
  simp only [Tm.nodeB, Bool.and_eq_true] at hn
  replace hn := hn.2
  have i0 : I64 0 := by unfold I64; omega
  have gn : 0 ≤ givenN t.n → I64 t.n := fun h => by unfold givenN at h; unfold I64; (repeat' split at h) <;> omega
  refine ⟨by unfold I64; omega, ?_⟩
  unfold numbersN at hn
  split at hn
  · simp at hn; exact ⟨by unfold I64; omega, by rw [hn.2.2.1]; exact i0, by rw [hn.2.2.2]; exact i0⟩
  split at hn
  · simp at hn; exact ⟨level_I64 hn.1, by rw [hn.2.1]; exact i0, by rw [hn.2.2]; exact i0⟩
  split at hn
  · simp at hn; exact ⟨level_I64 hn.1, level_I64 hn.2.1, by rw [hn.2.2]; exact i0⟩
  split at hn
  · rename_i h23
    simp at hn
    rw [h23] at hl
    exact ⟨level_I64 hn.1, level_I64 hn.2, gn (by have : kidsN 23 t.n = givenN t.n := rfl; omega)⟩
  · simp at hn; exact ⟨by rw [hn.1]; exact i0, by rw [hn.2.1]; exact i0, by rw [hn.2.2]; exact i0⟩
theorem kidsN_le (k n : Int) : kidsN k n ≤ 12 := by
  have : givenN n ≤ 12 := by unfold givenN; (repeat' split) <;> omega
  unfold kidsN; (repeat' split) <;> omega
theorem right_len {t : Tm} (h : t.rightB = true) : t.kids.length ≤ 12 := by
  have := node_length (t.right_node h); have := kidsN_le t.k t.n; omega
end Go.Proofs.Ytjhdcjjoignioaa
