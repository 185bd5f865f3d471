/-
  What the laws of layer 6 say, on plain trees.
-/
import Derived.Test.YtjafbnilejmbiaaStripT
import Derived.Test.YtjafbnilejmbiaaLiftFacts
namespace Go.Proofs.Ytjafbnilejmbiaa

theorem stripB_good {t : Tm} (hr : t.rightB = true) : t.stripB = t.bare := by unfold Tm.stripB; rw [if_pos hr]
theorem stripB_plain {t : Tm} (hr : t.rightB = true) : t.stripB.plainB = true := by rw [stripB_good hr]; exact bare_plain t hr
theorem stripB_again {t : Tm} (hr : t.rightB = true) : t.stripB.stripB = t.stripB := by
  have hp := stripB_plain hr
  rw [stripB_good (plain_right hp), plain_bare _ hp]
theorem stripB_free {t : Tm} (hr : t.rightB = true) : t.stripB.freeB ≤ t.freeB := by
  have hp := stripB_plain hr
  rw [free_of (plain_right hp), free_of hr, stripB_good hr]
  exact bare_free t hr
theorem stripB_lift {t : Tm} {k c : Int} (hk : 0 ≤ k) (hk2 : k ≤ 1048576) (hc : 0 ≤ c) (hr : t.rightB = true) (hf : t.freeN ≤ 1048576) (hd : t.deep ≤ 100000) : (t.liftB k c).stripB = t.stripB.liftB k c := by
  obtain ⟨u, hu⟩ := lift_comes (c := c) hk hk2 hr (by omega) hd
  have hru := right_each _ (liftF_range k c hk) t 0 u hr hu
  have hp := bare_plain t hr
  rw [liftB_good hk hc hr, hu, Option.getD_some, stripB_good hru, stripB_good hr, liftB_good hk hc (plain_right hp), bare_each _ t 0 u hr hu]; rfl
theorem deeps_bound {n : Nat} : ∀ {l : List Tm}, (∀ x ∈ l, x.deep ≤ n) → deeps l ≤ n
  | [], _ => by simp [deeps]
  | a :: r, h => by
    have h1 := h a (List.mem_cons_self ..)
    have h2 := deeps_bound (l := r) (fun x hx => h x (List.mem_cons_of_mem _ hx))
    simp only [deeps]; omega
theorem deep_mem {l : List Tm} {x : Tm} (h : x ∈ l) : x.deep ≤ deeps l := by
  obtain ⟨q, hq, rfl⟩ := List.getElem_of_mem h
  exact deeps_get l q hq
theorem bare_deep (t : Tm) : t.bare.deep ≤ t.deep := by
  induction t using Tm.ind with
  | h t ih =>
    have hall : ∀ x ∈ t.kids.map Tm.bare, x.deep ≤ deeps t.kids := fun x hx => by
      obtain ⟨y, hy, rfl⟩ := List.mem_map.1 hx
      exact Nat.le_trans (ih y hy) (deep_mem hy)
    rw [Tm.bare_eq, Tm.deep_eq, t.deep_eq]
    unfold bareNode
    split
    · refine Nat.succ_le_succ (deeps_bound (fun x hx => ?_))
      have hx2 : x ∈ pickT (barePick t.k) (t.kids.map Tm.bare) := hx
      obtain ⟨i, -, hi⟩ := List.mem_filterMap.1 hx2
      exact hall x (List.mem_of_getElem? hi)
    · exact Nat.succ_le_succ (deeps_bound hall)
theorem stripB_deep (t : Tm) (h : t.deep ≤ 100000) : t.stripB.deep ≤ 100000 := by
  unfold Tm.stripB
  split
  · exact Nat.le_trans (bare_deep t) h
  · simp [Tm.zero, Tm.deep, deeps]
end Go.Proofs.Ytjafbnilejmbiaa
