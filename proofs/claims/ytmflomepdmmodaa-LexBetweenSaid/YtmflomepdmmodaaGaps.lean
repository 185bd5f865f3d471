/-
  lex: a list of ints that is handed in; an array of gaps.
-/
import Derived.Test.YtmflomepdmmodaaLexG
import Derived.OpenShut
import Derived.Carry
import Derived.Deep.Slices
import Derived.ChangeSlices
namespace Go.Proofs.Ytmflomepdmmodaa
open Go.RowKit Go.ChangeShapes Go.WideShapes Go.ChangeAt

/-- Ints that lie behind a slice. -/
structure LiesI (w : World) (l : List Int) (s : Value) : Prop where
  out : ∃ (a : Option Addr) (cap : Nat), s = .slice a l.length cap ∧ l.length ≤ cap ∧ cap ≤ maxLen ∧ ∀ i (h : i < l.length), ∃ b o, a = some ⟨b, o, none⟩ ∧ w.cell? ⟨b, o + i, none⟩ = some (.int .i64 l[i])
theorem LiesI.keep {w w' : World} {l : List Int} {s : Value} (h : LiesI w l s) (hb : Below w.heap.size w w') : LiesI w' l s := by
  obtain ⟨a, cap, hs, hc, hm, hn⟩ := h.out
  refine ⟨a, cap, hs, hc, hm, fun i hi => ?_⟩
  obtain ⟨b, o, ha, hx⟩ := hn i hi
  exact ⟨b, o, ha, (hb.cell (World.block_lt_of_cell? _ _ hx)).trans hx⟩

theorem cells_int : Try.prog.cellsOf 3 = 1 := by kernel_rfl
theorem add_plain' (b o k : Nat) : (⟨b, o, none⟩ : Addr).add k = ⟨b, o + k, none⟩ := by unfold Addr.add; split <;> simp_all
theorem open_argI {H : Type} {enc : TypeId × Value → H} {W : World} {r : Reach} {b0 base : Nat} {sp : Nat → Bool} {hd : Bool} {v : Value} {d : DataW H} {p : List MemPlace} (hv : Value.okWide Try.prog W r b0 34 v)
    (h : DataW.Trod enc Try.prog W base sp hd 34 v d p) : ∃ l : List Int, LiesI W l v := by
  obtain ⟨a0, len0, cap0, rfl⟩ := okWide_slice Try.underlying34 hv
  obtain ⟨fuel, hf⟩ := h
  rcases open_ints Try.underlying34 Try.underlying3 cells_int hf with ⟨hcs, -⟩ | ⟨a, len, cap, zs, hcs, -, hl, hm, hz, -, hcell, -⟩
  · simp [Value.cells] at hcs
    obtain ⟨rfl, rfl, rfl⟩ := hcs
    exact ⟨[], ⟨none, 0, rfl, Nat.le_refl _, by decide, fun i hi => by simp at hi⟩⟩
  · simp [Value.cells] at hcs
    obtain ⟨rfl, rfl, rfl⟩ := hcs
    have hlz : len0 ≤ zs.length := by rw [hz]; split <;> omega
    refine ⟨zs.take len0, ⟨some a, cap0, by rw [List.length_take, Nat.min_eq_left hlz], by rw [List.length_take]; omega, hm, fun i hi => ?_⟩⟩
    rw [List.length_take] at hi
    have h1 := hcell i (by omega)
    obtain ⟨b, o, spot⟩ := a
    have h0 := hcell 0 (by omega)
    have hs : spot = none := by simpa [Addr.add] using World.cell?_spot h0
    clear h0
    subst hs
    refine ⟨b, o, rfl, ?_⟩
    rw [add_plain'] at h1
    rw [h1, List.getElem_take]
    congr 2
    rw [List.getD_eq_getElem?_getD, List.getElem?_eq_getElem (by omega)]; rfl


/-- The five gaps lie in a block. -/
def GA (w : World) (b : Nat) : Prop := ∀ (k : Nat) (g : List UInt8), gapL[k]? = some g → w.cell? ⟨b, k, none⟩ = some (.string ⟨g.toArray⟩)
theorem GA.later {w w' : World} {b : Nat} (h : GA w b) (hb : Below w.heap.size w w') : GA w' b := fun k g e => (hb.cell (World.block_lt_of_cell? _ _ (h k g e))).trans (h k g e)
theorem ga_new (w : World) (T : TypeId) : GA (w.alloc (.cells #[.string ⟨#[32]⟩, .string ⟨#[10]⟩, .string ⟨#[9, 32]⟩, .string ⟨#[59, 32, 97, 32, 40, 32, 98, 10]⟩, .string ⟨#[32, 59, 10, 59, 41, 10]⟩] T)) w.heap.size := by
  intro k g e
  have h := World.news_of_block (alloc_new3 w (.cells #[.string ⟨#[32]⟩, .string ⟨#[10]⟩, .string ⟨#[9, 32]⟩, .string ⟨#[59, 32, 97, 32, 40, 32, 98, 10]⟩, .string ⟨#[32, 59, 10, 59, 41, 10]⟩] T)) k (.string ⟨g.toArray⟩) (by
    match k, e with
    | 0, e => cases e; rfl
    | 1, e => cases e; rfl
    | 2, e => cases e; rfl
    | 3, e => cases e; rfl
    | 4, e => cases e; rfl
    | k + 5, e => cases e)
  rw [add_plain', Nat.zero_add] at h
  exact h
theorem lexL_tokl {l : List UInt8} {o : Option Nat} : ∀ (ts : List Tok) (p : Nat), lexL l p = (ts, o) → ∀ t ∈ ts, t.s.length ≤ l.length
  | [], _, _, _, h => by cases h
  | t :: r, p, h, x, hx => by
    obtain ⟨q, k, n, -, hq, -, rfl, hr⟩ := lexL_inv h
    rcases List.mem_cons.1 hx with rfl | hx
    · show (List.take n (l.drop q)).length ≤ _
      rw [List.length_take, List.length_drop]; omega
    · exact lexL_tokl r _ hr x hx
end Go.Proofs.Ytmflomepdmmodaa
