/-
  Erased terms: plain facts for layer 8; no walk.
-/
import Derived.Test.YtjhdcjjoignioaaBare
namespace Go.Proofs.Ytjhdcjjoignioaa

/-- Without the transports at its top. -/
def Tm.und : Tm → Tm
  | .mk k i j n [a, b, p, x] => if k = 12 then x.und else .mk k i j n [a, b, p, x]
  | t => t
termination_by t => SizeOf.sizeOf t
decreasing_by simp; omega

def purNode (k i j : Int) (l : List Tm) : Tm := if k = 12 then (l[3]?).getD (.mk 0 0 0 0 []) else .mk k i j 0 l
mutual
def Tm.pur : Tm → Tm
  | .mk k i j _ l => purNode k i j (purs l)
def purs : List Tm → List Tm
  | [] => []
  | t :: r => t.pur :: purs r
end
theorem purs_map : ∀ l : List Tm, purs l = l.map Tm.pur
  | [] => rfl
  | t :: r => by simp only [purs, List.map_cons, purs_map r]
theorem Tm.pur_eq (t : Tm) : t.pur = purNode t.k t.i t.j (t.kids.map Tm.pur) := by cases t; simp only [Tm.pur, purs_map]; rfl

theorem und_tr {t a b p x : Tm} (hk : t.k = 12) (h : t.kids = [a, b, p, x]) : t.und = x.und := by
  obtain ⟨k, i, j, n, l⟩ := t
  simp only [Tm.k, Tm.kids] at hk h
  subst hk h
  rw [Tm.und]; simp
theorem und_other {t : Tm} (hk : t.k ≠ 12) : t.und = t := by
  obtain ⟨k, i, j, n, l⟩ := t
  simp only [Tm.k] at hk
  unfold Tm.und
  split
  · rename_i h; cases h; rw [if_neg hk]
  · rfl

theorem marked_node {t : Tm} (h : t.markedB = true) : t.nodeB = true := Tm.right_node (marked_right h)
theorem marked_kind {t : Tm} (h : t.markedB = true) : 1 ≤ t.k ∧ t.k ≤ 12 := by rw [Tm.markedB_eq] at h; simp at h; omega
/-- The kids of a marked transport. -/
theorem marked_tr {t : Tm} (h : t.markedB = true) (hk : t.k = 12) : ∃ a b p x, t.kids = [a, b, p, x] ∧ a.markedB = true ∧ b.markedB = true ∧ p.plainB = true ∧ x.markedB = true := by
  have hn := marked_node h
  rcases marked_shape hn (by omega) (by omega) with ⟨h1, -⟩ | ⟨h1, -⟩ | ⟨-, a, b, p, x, hkids⟩
  · omega
  · omega
  · refine ⟨a, b, p, x, hkids, ?_⟩
    rw [Tm.markedB_eq, hkids, hk] at h
    simp [markeds] at h
    exact ⟨h.2.1, h.2.2.1, h.2.2.2.1, h.2.2.2.2⟩
theorem marked_others {t : Tm} (h : t.markedB = true) (hk : t.k ≠ 12) : ∀ x ∈ t.kids, x.markedB = true := by
  rw [Tm.markedB_eq] at h
  have e : (t.k == 12) = false := by simpa using hk
  rw [e] at h
  simp only [Bool.and_eq_true] at h
  have key : ∀ (l : List Tm) (p : Nat), markeds false p l = true → ∀ x ∈ l, x.markedB = true := by
    intro l
    induction l with
    | nil => intro p _ x hx; cases hx
    | cons a r ih =>
      intro p hm x hx
      simp only [markeds, Bool.false_and, Bool.and_eq_true] at hm
      rcases List.mem_cons.1 hx with rfl | hx
      · simpa using hm.1
      · exact ih _ hm.2 x hx
  exact key _ _ h.2.2

theorem und_marked (t : Tm) : t.markedB = true → t.und.markedB = true ∧ t.und.k ≠ 12 ∧ t.und.size ≤ t.size := by
  induction t using Tm.ind with
  | h t ih =>
    intro h
    by_cases hk : t.k = 12
    · obtain ⟨a, b, p, x, hkids, -, -, -, hx⟩ := marked_tr h hk
      rw [und_tr hk hkids]
      obtain ⟨h1, h2, h3⟩ := ih x (by rw [hkids]; simp) hx
      refine ⟨h1, h2, ?_⟩
      rw [t.size_eq, hkids]
      simp only [sizes]; omega
    · rw [und_other hk]; exact ⟨h, hk, Nat.le_refl _⟩
theorem pur_und (t : Tm) : t.markedB = true → t.pur = .mk t.und.k t.und.i t.und.j 0 (t.und.kids.map Tm.pur) := by
  induction t using Tm.ind with
  | h t ih =>
    intro h
    by_cases hk : t.k = 12
    · obtain ⟨a, b, p, x, hkids, -, -, -, hx⟩ := marked_tr h hk
      rw [und_tr hk hkids, Tm.pur_eq, purNode, if_pos hk, hkids]
      exact ih x (by rw [hkids]; simp) hx
    · rw [und_other hk, Tm.pur_eq, purNode, if_neg hk]
end Go.Proofs.Ytjhdcjjoignioaa
