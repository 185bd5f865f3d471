/-
  What the laws of layer 5 say, on plain trees.
-/
import Derived.Test.YtjhdcjjoignioaaLiftC
import Derived.Test.YtjhdcjjoignioaaInts
import Derived.Test.YtjhdcjjoignioaaTop
import Derived.Test.YtjhdcjjoignioaaDesk
namespace Go.Proofs.Ytjhdcjjoignioaa

theorem liftB_good {t : Tm} {k c : Int} (hk : 0 ≤ k) (hc : 0 ≤ c) (hr : t.rightB = true) : t.liftB k c = (t.each (liftF k c) 0).getD .zero := by
  unfold Tm.liftB; rw [if_neg (by rw [hr]; simp; omega)]
theorem liftB_bad {t : Tm} {k c : Int} (h : k < 0 ∨ c < 0) : t.liftB k c = .zero := by
  unfold Tm.liftB; rw [if_pos (h.elim Or.inl (fun h => Or.inr (Or.inl h)))]
theorem size_pos (t : Tm) : 1 ≤ t.size := by rw [t.size_eq]; omega
theorem liftB_size (t : Tm) (k c : Int) : (t.liftB k c).size ≤ t.size := by
  unfold Tm.liftB
  split
  · have := size_pos t; simpa [Tm.zero, Tm.size, sizes] using this
  · rename_i h
    have hk : 0 ≤ k := by omega
    have hr : t.rightB = true := by cases hr : t.rightB with
      | true => rfl
      | false => exact absurd (Or.inr (Or.inr hr)) h
    cases hx : t.each (liftF k c) 0 with
    | none => have := size_pos t; simpa [Tm.zero, Tm.size, sizes] using this
    | some u => exact Nat.le_of_eq (each_keeps _ (liftF_range k c hk) t 0 u hr hx).2.2
theorem liftB_deep (t : Tm) (k c : Int) (h : t.size ≤ 100000) : (t.liftB k c).deep ≤ 100000 := Nat.le_trans (deep_le_size _) (Nat.le_trans (liftB_size t k c) h)
theorem free_of {t : Tm} (hr : t.rightB = true) : t.freeB = t.freeN := by unfold Tm.freeB; rw [if_pos hr]

/-- A small lift always comes. -/
theorem lift_comes {t : Tm} {k c : Int} (hk : 0 ≤ k) (hk2 : k ≤ 1048576) (hr : t.rightB = true) (hf : t.freeN ≤ 1048576 * 3) (hd : t.deep ≤ 100000) : ∃ u, t.each (liftF k c) 0 = some u := by
  have key : ∀ (t : Tm) (b : Int), 0 ≤ b → t.rightB = true → t.freeN ≤ 1048576 * 3 + b → b + 2 * (t.deep : Int) ≤ 1000000 → ∃ u, t.each (liftF k c) b = some u := by
    intro t
    induction t using Tm.ind with
    | h t ih =>
      intro b hb hr hf hd
      by_cases h2 : t.k = 2
      · rw [Tm.each_var _ _ _ h2]
        rw [t.freeN_eq, if_pos h2] at hf
        unfold liftF
        split
        · exact ⟨_, rfl⟩
        · rw [if_neg (by omega)]; exact ⟨_, rfl⟩
      · rw [Tm.each_node _ _ _ h2]
        rw [t.freeN_eq, if_neg h2] at hf
        have hde := t.deep_eq
        have all : ∀ (l : List Tm) (p : Nat), (∀ q (h : q < l.length), ∃ u, (l[q]).each (liftF k c) (b + bindsN t.k ((p + q : Nat) : Int)) = some u) → ∃ m, optK (fun q x => x.each (liftF k c) (b + bindsN t.k q)) p l = some m := by
          intro l
          induction l with
          | nil => intro p _; exact ⟨[], rfl⟩
          | cons x r ihr =>
            intro p h
            obtain ⟨u, hu⟩ := h 0 (by simp)
            obtain ⟨m, hm⟩ := ihr (p + 1) (fun q hq => by have := h (q + 1) (by simpa using hq); simpa [Nat.add_assoc, Nat.add_comm 1 q] using this)
            simp only [List.getElem_cons_zero, Nat.add_zero] at hu
            exact ⟨u :: m, by simp only [optK, hu, hm, Option.bind_some, Option.map_some]⟩
        obtain ⟨m, hm⟩ := all t.kids 0 (fun q hq => by
          have hbd := binds_range t.k q
          have hfq := frees_get t.k t.kids 0 q hq
          have hdq := deeps_get t.kids q hq
          rw [Nat.zero_add] at hfq ⊢
          exact ih _ (List.getElem_mem hq) _ (by omega) (t.right_kids hr _ (List.getElem_mem hq)) (by omega) (by omega))
        exact ⟨_, by rw [hm]; rfl⟩
  exact key t 0 (Int.le_refl _) hr (by omega) (by omega)

/-- Lifted twice is lifted once by both. -/
theorem liftB_twice {t : Tm} {k m c : Int} (hk : 0 ≤ k) (hm : 0 ≤ m) (hk2 : k ≤ 1048576) (hr : t.rightB = true) (hf : t.freeN ≤ 1048576) (hd : t.deep ≤ 100000) : (t.liftB k c).liftB m c = t.liftB (k + m) c := by
  by_cases hc : c < 0
  · rw [liftB_bad (Or.inr hc), liftB_bad (Or.inr hc)]
  · have hc' : 0 ≤ c := by omega
    obtain ⟨u, hu⟩ := lift_comes (c := c) hk hk2 hr (by omega) hd
    have hru := right_each _ (liftF_range k c hk) t 0 u hr hu
    rw [liftB_good hk hc' hr, liftB_good (by omega) hc' hr, hu, Option.getD_some, liftB_good hm hc' hru]
    have := lift_lift k m c hk hm t 0
    rw [hu, Option.bind_some] at this
    rw [this]

theorem liftB_stays {t : Tm} {k c : Int} (hk : 0 ≤ k) (hr : t.rightB = true) (hc : t.freeN ≤ c) : t.liftB k c = t := by
  have h0 := (t.free_range hr).1
  rw [liftB_good hk (by omega) hr, each_stays _ t 0 hr (Int.le_refl _) (fun v b _ _ _ hv => by unfold liftF; rw [if_pos (by omega)])]; rfl
theorem liftB_zero {t : Tm} {c : Int} (hr : t.rightB = true) (hc : 0 ≤ c) : t.liftB 0 c = t := by
  have h0 : ∀ v b : Int, 0 ≤ v → v ≤ 2147483647 → liftF 0 c v b = some v := fun v b _ hv2 => by
    unfold liftF
    split
    · rfl
    · rw [if_neg (by omega)]; simp
  rw [liftB_good (Int.le_refl _) hc hr, each_stays _ t 0 hr (Int.le_refl _) (fun v b h1 h2 _ _ => h0 v b h1 h2)]; rfl
theorem liftB_keeps {t : Tm} {k : Int} (hk : 0 ≤ k) (hk2 : k ≤ 1048576) (hr : t.rightB = true) (hf : t.freeN ≤ 1048576) (hd : t.deep ≤ 100000) :
    (t.liftB k 0).rightB = true ∧ (t.liftB k 0).markedB = t.markedB ∧ (t.liftB k 0).size = t.size ∧ (t.liftB k 0).freeB = if 0 < t.freeB then t.freeB + k else t.freeB := by
  obtain ⟨u, hu⟩ := lift_comes (c := 0) hk hk2 hr (by omega) hd
  have hru := right_each _ (liftF_range k 0 hk) t 0 u hr hu
  obtain ⟨h1, -, h3⟩ := each_keeps _ (liftF_range k 0 hk) t 0 u hr hu
  have h4 := lift_free k hk t 0 u (Int.le_refl _) hr hu
  rw [liftB_good hk (Int.le_refl _) hr, hu, Option.getD_some, free_of hr, free_of hru]
  exact ⟨hru, h1, h3, h4⟩
end Go.Proofs.Ytjhdcjjoignioaa
