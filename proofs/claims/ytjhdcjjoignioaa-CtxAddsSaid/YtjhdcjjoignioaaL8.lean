/-
  strip.Strip. What the laws of layer 6 say, on plain trees. What StripMarks says, on plain trees; three boxes. erase.Erase. erase.Related and Count. What the laws of layer 8 say, on plain trees. The page's own erase. The page's own Erase and Related. The layer's own sentence, transhiplaw08.wakes, is true.
-/
import Derived.Test.YtjhdcjjoignioaaBareM
import Derived.Test.YtjhdcjjoignioaaBoxes
import Derived.Test.YtjhdcjjoignioaaRow
import Derived.Test.YtjhdcjjoignioaaLiftFacts
import Derived.Test.YtjhdcjjoignioaaLawKit
import Derived.Test.YtjhdcjjoignioaaPure
import Derived.Test.YtjhdcjjoignioaaAlike
import Derived.Test.YtjhdcjjoignioaaRefMore
import Derived.Test.YtjhdcjjoignioaaEnds
import Derived.Deep.RegionHeld3
import Derived.BigQuiet
import Derived.Lib.QuietBelow
/-! strip.Strip. -/
namespace Go.Proofs.Ytjhdcjjoignioaa
open Go.RowKit

def Tm.stripB (t : Tm) : Tm := if t.rightB = true then t.bare else .zero

set_option maxHeartbeats 2000000 in
theorem strip_any (t : Tm) (w : World) (s : Value) (hl : Lies w t.kids s) : Calls Try.prog 46 #[tv t s] w (Makes t.stripB w) := by
  obtain ⟨a, cap, S, rfl, hc, hm, -, -, -⟩ := hl.out
  have HL := Lib.hid hl
  obtain ⟨du, hu1, hu2⟩ := under_term
  have H0 := boxes_start w t (.slice a t.kids.length cap)
  clear hl
  unfold tv
  cases hr : t.rightB with
  | false =>
    have hres := Lib.hid (show t.stripB = Tm.zero by unfold Tm.stripB; rw [if_neg (by rw [hr]; decide)])
    go_enter Try.func46, Try.ntmps46
    go_wp2_with fail
    refine (right_any t _ _ (boxes_lies H0 HL.out)).mono ?_
    rw [hr]
    rintro e w2 ⟨rfl, hb2⟩
    have H2 := boxes_call H0 hb2
    obtain ⟨-, q1⟩ := boxes_two H2
    obtain ⟨d0, d1, d2, d3, d4⟩ := held_cells (boxes_held H2)
    obtain ⟨z0, z1, z2, z3, z4⟩ := five_cells q1
    obtain ⟨f0, f1, f2, f3, f4⟩ := five_free q1
    clear hb2 H0
    go_wp2
    refine bodyPost_ret (results_cell_row rfl _ _ (w.heap.size + 1) _ _ _ du rfl (five_set q1) hu1 (by cases du <;> first | rfl | exact hu2) size_term) rfl ?_
    rw [hres.out]
    exact ⟨.slice none 0 0, rfl, liesP_nil _ _, below_five (boxes_under H2) (by omega) _ _ _ _ _⟩
  | true =>
    have hres := Lib.hid (show t.stripB = t.bare by unfold Tm.stripB; rw [if_pos hr])
    go_enter Try.func46, Try.ntmps46
    go_wp2_with fail
    refine (right_any t _ _ (boxes_lies H0 HL.out)).mono ?_
    rw [hr]
    rintro e w2 ⟨rfl, hb2⟩
    have H2 := boxes_call H0 hb2
    obtain ⟨-, q1⟩ := boxes_two H2
    obtain ⟨d0, d1, d2, d3, d4⟩ := held_cells (boxes_held H2)
    obtain ⟨z0, z1, z2, z3, z4⟩ := five_cells q1
    obtain ⟨f0, f1, f2, f3, f4⟩ := five_free q1
    clear hb2 H0
    go_wp2_with fail
    refine (sbare_any t w2 _ (boxes_lies H2 HL.out) hr).mono ?_
    rintro e w3 ⟨s3, rfl, hl3, hb3⟩
    obtain ⟨a3, cap3, rfl, -, -⟩ := hl3.out
    have hs2 : w.heap.size + 2 ≤ w2.heap.size := by have := Below.size H2; simpa using this
    have H3 := boxes_call H2 hb3
    clear q1 z0 z1 z2 z3 z4 f0 f1 f2 f3 f4
    obtain ⟨-, q1⟩ := boxes_two H3
    obtain ⟨z0, z1, z2, z3, z4⟩ := five_cells q1
    obtain ⟨f0, f1, f2, f3, f4⟩ := five_free q1
    have HL3 := Lib.hid hl3
    clear hb3 hl3 d0 d1 d2 d3 d4
    go_wp2
    refine bodyPost_ret (results_cell_row rfl _ _ (w.heap.size + 1) _ _ _ du rfl (five_set q1) hu1 (by cases du <;> first | rfl | exact hu2) size_term) rfl ?_
    rw [hres.out]
    exact ⟨_, rfl, liesP_fives HL3.out (by omega) (by omega) _ _ _ _ _, below_five (boxes_under H3) (by omega) _ _ _ _ _⟩
end Go.Proofs.Ytjhdcjjoignioaa

/-! What the laws of layer 6 say, on plain trees. -/
namespace Go.Proofs.Ytjhdcjjoignioaa

theorem stripB_good {t : Tm} (hr : t.rightB = true) : t.stripB = t.bare := by unfold Tm.stripB; rw [if_pos hr]
theorem stripB_plain {t : Tm} (hr : t.rightB = true) : t.stripB.plainB = true := by rw [stripB_good hr]; exact bare_plain t hr
theorem stripB_again {t : Tm} (hr : t.rightB = true) : t.stripB.stripB = t.stripB := by
  have hp := stripB_plain hr
  rw [stripB_good (plain_right hp), plain_bare _ hp]
theorem stripB_free {t : Tm} (hr : t.rightB = true) : t.stripB.freeB ≤ t.freeB := by
  have hp := stripB_plain hr
  rw [free_of (plain_right hp), free_of hr, stripB_good hr]
  exact bare_free t hr
theorem stripB_lift {t : Tm} {k c : Int} (hk : 0 ≤ k) (hk2 : k ≤ 1048576) (hc : 0 ≤ c) (hr : t.rightB = true) (hf : t.freeN ≤ 1048576) (hd : t.deep ≤ 100000) : (t.liftB k c).stripB = t.stripB.liftB k c := by
  obtain ⟨u, hu⟩ := lift_comes (c := c) hk hk2 hr (by omega) hd
  have hru := right_each _ (liftF_range k c hk) t 0 u hr hu
  have hp := bare_plain t hr
  rw [liftB_good hk hc hr, hu, Option.getD_some, stripB_good hru, stripB_good hr, liftB_good hk hc (plain_right hp), bare_each _ t 0 u hr hu]; rfl
theorem deeps_bound {n : Nat} : ∀ {l : List Tm}, (∀ x ∈ l, x.deep ≤ n) → deeps l ≤ n
  | [], _ => by simp [deeps]
  | a :: r, h => by
    have h1 := h a (List.mem_cons_self ..)
    have h2 := deeps_bound (l := r) (fun x hx => h x (List.mem_cons_of_mem _ hx))
    simp only [deeps]; omega
theorem deep_mem {l : List Tm} {x : Tm} (h : x ∈ l) : x.deep ≤ deeps l := by
  obtain ⟨q, hq, rfl⟩ := List.getElem_of_mem h
  exact deeps_get l q hq
theorem bare_deep (t : Tm) : t.bare.deep ≤ t.deep := by
  induction t using Tm.ind with
  | h t ih =>
    have hall : ∀ x ∈ t.kids.map Tm.bare, x.deep ≤ deeps t.kids := fun x hx => by
      obtain ⟨y, hy, rfl⟩ := List.mem_map.1 hx
      exact Nat.le_trans (ih y hy) (deep_mem hy)
    rw [Tm.bare_eq, Tm.deep_eq, t.deep_eq]
    unfold bareNode
    split
    · refine Nat.succ_le_succ (deeps_bound (fun x hx => ?_))
      have hx2 : x ∈ pickT (barePick t.k) (t.kids.map Tm.bare) := hx
      obtain ⟨i, -, hi⟩ := List.mem_filterMap.1 hx2
      exact hall x (List.mem_of_getElem? hi)
    · exact Nat.succ_le_succ (deeps_bound hall)
theorem stripB_deep (t : Tm) (h : t.deep ≤ 100000) : t.stripB.deep ≤ 100000 := by
  unfold Tm.stripB
  split
  · exact Nat.le_trans (bare_deep t) h
  · simp [Tm.zero, Tm.deep, deeps]
end Go.Proofs.Ytjhdcjjoignioaa

/-! What StripMarks says, on plain trees; three boxes. -/
namespace Go.Proofs.Ytjhdcjjoignioaa
open Go.RowKit

theorem three_below {w w' : World} {A B C : Obj} (h : Kept (((w.alloc A).alloc B).alloc C) w') : Below w.heap.size w w' := (below_three w A B C).trans (Below.mono h (below_three w A B C).size)
theorem three_size {w w' : World} {A B C : Obj} (h : Kept (((w.alloc A).alloc B).alloc C) w') : w.heap.size + 1 + 1 < w'.heap.size := by have := Below.size h; simp at this; omega
theorem marks_lam {a b t : Tm} {i j : Int} (ha : a.markedB = true) (hb : b.markedB = true) (ht : t.markedB = true) (h0 : 0 ≤ i) (h1 : i ≤ 1000) (h2 : 0 ≤ j) (h3 : j ≤ 1000) : (Tm.mk 4 i j 0 [a, b, t]).stripB = .mk 14 0 0 0 [a.bare, t.bare] := by
  have hm : (Tm.mk 4 i j 0 [a, b, t]).markedB = true := by rw [Tm.markedB_eq]; simp [Tm.nodeB, mk_k, mk_i, mk_j, mk_n, mk_kids, kidsN, numbersN, levelB, markeds, ha, hb, ht, h0, h1, h2, h3]
  rw [stripB_good (marked_right hm), Tm.bare_eq]; rfl
theorem marks_app {a b t u : Tm} {i j : Int} (ha : a.markedB = true) (hb : b.markedB = true) (ht : t.markedB = true) (hu : u.markedB = true) (h0 : 0 ≤ i) (h1 : i ≤ 1000) (h2 : 0 ≤ j) (h3 : j ≤ 1000) : (Tm.mk 5 i j 0 [a, b, t, u]).stripB = .mk 15 0 0 0 [t.bare, u.bare] := by
  have hm : (Tm.mk 5 i j 0 [a, b, t, u]).markedB = true := by rw [Tm.markedB_eq]; simp [Tm.nodeB, mk_k, mk_i, mk_j, mk_n, mk_kids, kidsN, numbersN, levelB, markeds, ha, hb, ht, hu, h0, h1, h2, h3]
  rw [stripB_good (marked_right hm), Tm.bare_eq]; rfl
end Go.Proofs.Ytjhdcjjoignioaa

/-! erase.Erase. -/
namespace Go.Proofs.Ytjhdcjjoignioaa
open Go.RowKit

def Tm.eraseB (t : Tm) : Tm := if t.markedB = true then t.pur else .zero

set_option maxHeartbeats 2000000 in
theorem erase_any (t : Tm) (w : World) (s : Value) (hl : Lies w t.kids s) : Calls Try.prog 45 #[tv t s] w (Makes t.eraseB w) := by
  obtain ⟨a, cap, S, rfl, hc, hm, -, -, -⟩ := hl.out
  have HL := Lib.hid hl
  obtain ⟨du, hu1, hu2⟩ := under_term
  have H0 := boxes_start w t (.slice a t.kids.length cap)
  clear hl
  unfold tv
  cases hr : t.markedB with
  | false =>
    have hres := Lib.hid (show t.eraseB = Tm.zero by unfold Tm.eraseB; rw [if_neg (by rw [hr]; decide)])
    go_enter Try.func45, Try.ntmps45
    go_wp2_with fail
    refine (marked_any t _ _ (boxes_lies H0 HL.out)).mono ?_
    rw [hr]
    rintro e w2 ⟨rfl, hb2⟩
    have H2 := boxes_call H0 hb2
    obtain ⟨-, q1⟩ := boxes_two H2
    obtain ⟨d0, d1, d2, d3, d4⟩ := held_cells (boxes_held H2)
    obtain ⟨z0, z1, z2, z3, z4⟩ := five_cells q1
    obtain ⟨f0, f1, f2, f3, f4⟩ := five_free q1
    clear hb2 H0
    go_wp2
    refine bodyPost_ret (results_cell_row rfl _ _ (w.heap.size + 1) _ _ _ du rfl (five_set q1) hu1 (by cases du <;> first | rfl | exact hu2) size_term) rfl ?_
    rw [hres.out]
    exact ⟨.slice none 0 0, rfl, liesP_nil _ _, below_five (boxes_under H2) (by omega) _ _ _ _ _⟩
  | true =>
    have hres := Lib.hid (show t.eraseB = t.pur by unfold Tm.eraseB; rw [if_pos hr])
    go_enter Try.func45, Try.ntmps45
    go_wp2_with fail
    refine (marked_any t _ _ (boxes_lies H0 HL.out)).mono ?_
    rw [hr]
    rintro e w2 ⟨rfl, hb2⟩
    have H2 := boxes_call H0 hb2
    obtain ⟨-, q1⟩ := boxes_two H2
    obtain ⟨d0, d1, d2, d3, d4⟩ := held_cells (boxes_held H2)
    obtain ⟨z0, z1, z2, z3, z4⟩ := five_cells q1
    obtain ⟨f0, f1, f2, f3, f4⟩ := five_free q1
    clear hb2 H0
    go_wp2_with fail
    refine (epure_any t.size t w2 _ (Nat.le_refl _) (boxes_lies H2 HL.out) hr).mono ?_
    rintro e w3 ⟨s3, rfl, hl3, hb3⟩
    obtain ⟨a3, cap3, rfl, -, -⟩ := hl3.out
    have hs2 : w.heap.size + 2 ≤ w2.heap.size := by have := Below.size H2; simpa using this
    have H3 := boxes_call H2 hb3
    clear q1 z0 z1 z2 z3 z4 f0 f1 f2 f3 f4
    obtain ⟨-, q1⟩ := boxes_two H3
    obtain ⟨z0, z1, z2, z3, z4⟩ := five_cells q1
    obtain ⟨f0, f1, f2, f3, f4⟩ := five_free q1
    have HL3 := Lib.hid hl3
    clear hb3 hl3 d0 d1 d2 d3 d4
    go_wp2
    refine bodyPost_ret (results_cell_row rfl _ _ (w.heap.size + 1) _ _ _ du rfl (five_set q1) hu1 (by cases du <;> first | rfl | exact hu2) size_term) rfl ?_
    rw [hres.out]
    exact ⟨_, rfl, liesP_fives HL3.out (by omega) (by omega) _ _ _ _ _, below_five (boxes_under H3) (by omega) _ _ _ _ _⟩
end Go.Proofs.Ytjhdcjjoignioaa

/-! erase.Related and Count. -/
namespace Go.Proofs.Ytjhdcjjoignioaa
open Go.RowKit

def relatedB (t u : Tm) : Bool := t.markedB && (u.markedB && sameB t.pur u.pur)
def Tm.countB (t : Tm) : Nat := if t.markedB = true then t.count else 0

end Go.Proofs.Ytjhdcjjoignioaa

/-! What the laws of layer 8 say, on plain trees. -/
namespace Go.Proofs.Ytjhdcjjoignioaa

theorem marked_n {t : Tm} (h : t.markedB = true) : t.n = 0 := by
  have hk := marked_kind h
  have hn := marked_node h
  simp only [Tm.nodeB, Bool.and_eq_true] at hn
  have h2 := hn.2
  unfold numbersN at h2
  (repeat' split at h2) <;> simp at h2 <;> omega

theorem markeds_all {l : List Tm} : ∀ {p : Nat}, (∀ x ∈ l, x.markedB = true) → markeds false p l = true := by
  induction l with
  | nil => intro p _; simp [markeds]
  | cons a r ih =>
    intro p h
    simp only [markeds, Bool.false_and, Bool.and_eq_true]
    exact ⟨by simpa using h a (List.mem_cons_self ..), ih (fun x hx => h x (List.mem_cons_of_mem _ hx))⟩
theorem counts_zero {l : List Tm} : (∀ x ∈ l, x.count = 0) → counts l = 0 := by
  induction l with
  | nil => intro _; simp [counts]
  | cons a r ih =>
    intro h
    have h1 := h a (List.mem_cons_self ..)
    have h2 := ih (fun x hx => h x (List.mem_cons_of_mem _ hx))
    simp only [counts]; omega
theorem counts_mem {l : List Tm} : counts l = 0 → ∀ x ∈ l, x.count = 0 := by
  induction l with
  | nil => intro _ x hx; cases hx
  | cons a r ih =>
    intro h x hx
    simp only [counts] at h
    rcases List.mem_cons.1 hx with rfl | hx
    · omega
    · exact ih (by omega) x hx

/-- A node whose kids are turned into marked ones is marked. -/
theorem marked_map {t : Tm} (f : Tm → Tm) (h : t.markedB = true) (hk : t.k ≠ 12) (hf : ∀ x ∈ t.kids, (f x).markedB = true) : (Tm.mk t.k t.i t.j 0 (t.kids.map f)).markedB = true := by
  have hn := marked_n h
  have h' := h
  have e : (t.k == 12) = false := by simpa using hk
  rw [Tm.markedB_eq, e] at h'
  rw [Tm.markedB_eq]
  simp only [mk_k, mk_kids, e]
  simp only [Bool.and_eq_true] at h' ⊢
  refine ⟨h'.1, ?_, markeds_all (fun x hx => by obtain ⟨y, hy, rfl⟩ := List.mem_map.1 hx; exact hf y hy)⟩
  have h2 := h'.2.1
  simp only [Tm.nodeB, mk_k, mk_i, mk_j, mk_n, mk_kids, List.length_map] at h2 ⊢
  rw [hn] at h2; exact h2

theorem pur_marked (t : Tm) : t.markedB = true → t.pur.markedB = true ∧ t.pur.count = 0 := by
  induction t using Tm.ind with
  | h t ih =>
    intro h
    by_cases hk : t.k = 12
    · obtain ⟨a, b, p, x, hkids, -, -, -, hx⟩ := marked_tr h hk
      rw [Tm.pur_eq, purNode, if_pos hk, hkids]
      exact ih x (by rw [hkids]; simp) hx
    · have hm := marked_others h hk
      rw [Tm.pur_eq, purNode, if_neg hk]
      refine ⟨marked_map _ h hk (fun x hx => (ih x hx (hm x hx)).1), ?_⟩
      rw [Tm.count_eq, if_neg (show ¬ (Tm.mk t.k t.i t.j 0 (t.kids.map Tm.pur)).k = 12 from hk), counts_zero (l := (Tm.mk t.k t.i t.j 0 (t.kids.map Tm.pur)).kids) (fun x hx => by obtain ⟨y, hy, rfl⟩ := List.mem_map.1 hx; exact (ih y hy (hm y hy)).2)]

theorem pur_id (t : Tm) : t.markedB = true → t.count = 0 → t.pur = t := by
  induction t using Tm.ind with
  | h t ih =>
    intro h hc
    rw [Tm.count_eq] at hc
    have hk : t.k ≠ 12 := fun e => by rw [if_pos e] at hc; omega
    rw [if_neg hk] at hc
    have hm := marked_others h hk
    rw [Tm.pur_eq, purNode, if_neg hk]
    have hcm := counts_mem (l := t.kids) (by omega)
    have hall : t.kids.map Tm.pur = t.kids := by
      rw [List.map_congr_left (g := id) (fun x hx => ih x hx (hm x hx) (hcm x hx)), List.map_id]
    rw [hall]
    have e := t.eta
    rw [marked_n h] at e
    exact e

theorem sizes_map_le' (f : Tm → Tm) {l : List Tm} : (∀ x ∈ l, (f x).size ≤ x.size) → sizes (l.map f) ≤ sizes l := by
  induction l with
  | nil => intro _; simp [sizes]
  | cons a r ih =>
    intro h
    have h1 := h a (List.mem_cons_self ..)
    have h2 := ih (fun x hx => h x (List.mem_cons_of_mem _ hx))
    simp only [List.map_cons, sizes]; omega
theorem pur_size (t : Tm) : t.markedB = true → t.pur.size ≤ t.size := by
  induction t using Tm.ind with
  | h t ih =>
    intro h
    by_cases hk : t.k = 12
    · obtain ⟨a, b, p, x, hkids, -, -, -, hx⟩ := marked_tr h hk
      rw [Tm.pur_eq, purNode, if_pos hk, hkids]
      refine Nat.le_trans (ih x (by rw [hkids]; simp) hx) ?_
      rw [t.size_eq, hkids]; simp only [sizes]; omega
    · have hm := marked_others h hk
      rw [Tm.pur_eq, purNode, if_neg hk, Tm.size_eq, t.size_eq]
      have := sizes_map_le' Tm.pur (l := t.kids) (fun x hx => ih x hx (hm x hx))
      simp only [mk_kids]; omega

theorem eraseB_good {t : Tm} (h : t.markedB = true) : t.eraseB = t.pur := by unfold Tm.eraseB; rw [if_pos h]
theorem eraseB_pure {t : Tm} (h : t.markedB = true) : t.eraseB.pureB = true := by
  obtain ⟨h1, h2⟩ := pur_marked t h
  rw [eraseB_good h]; unfold Tm.pureB; rw [h1, h2]; rfl
theorem eraseB_again {t : Tm} (h : t.markedB = true) : t.eraseB.eraseB = t.eraseB := by
  obtain ⟨h1, h2⟩ := pur_marked t h
  rw [eraseB_good h, eraseB_good h1]; exact pur_id _ h1 h2
theorem eraseB_size {t : Tm} (h : t.markedB = true) : t.eraseB.size ≤ t.size := by rw [eraseB_good h]; exact pur_size t h
theorem eraseB_count {t : Tm} (h : t.markedB = true) : (((t.countB : Nat) : Int) == 0) = sameB t.eraseB t := by
  rw [eraseB_good h]; unfold Tm.countB; rw [if_pos h]
  cases hs : sameB t.pur t with
  | true =>
    have e := (sameB_iff _ _).1 hs
    have hc := (pur_marked t h).2
    rw [e] at hc
    rw [hc]; rfl
  | false =>
    have hne : t.count ≠ 0 := fun e => by rw [pur_id t h e, sameB_self] at hs; cases hs
    simp; omega

/-- A transport about a term. -/
theorem tr_marked {t a b p : Tm} {i : Int} (ht : t.markedB = true) (ha : a.markedB = true) (hb : b.markedB = true) (hp : p.plainB = true) (h0 : 0 ≤ i) (h1 : i ≤ 1000) : (Tm.mk 12 i 0 0 [a, b, p, t]).markedB = true := by
  rw [Tm.markedB_eq]; simp [Tm.nodeB, mk_k, mk_i, mk_j, mk_n, mk_kids, kidsN, numbersN, levelB, markeds, ha, hb, ht, hp, h0, h1]
theorem tr_pur (t a b p : Tm) (i : Int) : (Tm.mk 12 i 0 0 [a, b, p, t]).pur = t.pur := by rw [Tm.pur_eq]; rfl
theorem refl_marked {t a : Tm} {i : Int} (ht : t.markedB = true) (ha : a.markedB = true) (h0 : 0 ≤ i) (h1 : i ≤ 1000) : (Tm.mk 11 i 0 0 [a, t]).markedB = true := by
  rw [Tm.markedB_eq]; simp [Tm.nodeB, mk_k, mk_i, mk_j, mk_n, mk_kids, kidsN, numbersN, levelB, markeds, ha, ht, h0, h1]
theorem refl_pur (t a : Tm) (i : Int) : (Tm.mk 11 i 0 0 [a, t]).pur = .mk 11 i 0 0 [a.pur, t.pur] := by rw [Tm.pur_eq]; rfl
theorem moved_one {t a b p : Tm} {i : Int} (ht : t.markedB = true) (ha : a.markedB = true) (hb : b.markedB = true) (hp : p.plainB = true) (h0 : 0 ≤ i) (h1 : i ≤ 1000) : relatedB (Tm.mk 12 i 0 0 [a, b, p, t]) t = true := by
  unfold relatedB; rw [tr_marked ht ha hb hp h0 h1, ht, tr_pur, sameB_self]; rfl
theorem moved_two {t a b p : Tm} {i : Int} (ht : t.markedB = true) (ha : a.markedB = true) (hb : b.markedB = true) (hp : p.plainB = true) (h0 : 0 ≤ i) (h1 : i ≤ 1000) : relatedB (Tm.mk 11 i 0 0 [a, Tm.mk 12 i 0 0 [a, b, p, t]]) (Tm.mk 11 i 0 0 [a, t]) = true := by
  unfold relatedB; rw [refl_marked (tr_marked ht ha hb hp h0 h1) ha h0 h1, refl_marked ht ha h0 h1, refl_pur, refl_pur, tr_pur, sameB_self]; rfl
theorem moved_three {t a b p : Tm} {i : Int} (ht : t.markedB = true) (ha : a.markedB = true) (hb : b.markedB = true) (hp : p.plainB = true) (h0 : 0 ≤ i) (h1 : i ≤ 1000) : (Tm.mk 12 i 0 0 [a, b, p, t]).eraseB = t.eraseB := by
  rw [eraseB_good (tr_marked ht ha hb hp h0 h1), eraseB_good ht, tr_pur]
theorem relatedB_comm (a b : Tm) : relatedB a b = relatedB b a := by
  unfold relatedB
  rw [sameB_comm]
  cases a.markedB <;> cases b.markedB <;> rfl
theorem relatedB_trans {a b c : Tm} (h1 : relatedB a b = true) (h2 : relatedB b c = true) : relatedB a c = true := by
  unfold relatedB at *
  simp only [Bool.and_eq_true] at *
  obtain ⟨a1, a2, a3⟩ := h1
  obtain ⟨b1, b2, b3⟩ := h2
  exact ⟨a1, b2, by rw [(sameB_iff _ _).1 a3]; exact b3⟩
theorem relatedB_self (a : Tm) : relatedB a a = a.markedB := by
  unfold relatedB; rw [sameB_self]; cases a.markedB <;> rfl
end Go.Proofs.Ytjhdcjjoignioaa

/-! The layer's own sentence, transhiplaw08.wakes, is true. -/
namespace Go.Proofs.Ytjhdcjjoignioaa
open Go.RowKit

def var8 (i : Int) : Tm := .mk 2 i 0 0 []
def wake8 : Tm := .mk 12 0 0 0 [var8 1, var8 2, var8 3, var8 0]
def wake8w (w : World) : World := (w.alloc (.cells #[.int .i64 2, .int .i64 1, .int .i64 0, .int .i64 0, .slice none 0 0, .int .i64 2, .int .i64 2, .int .i64 0, .int .i64 0, .slice none 0 0, .int .i64 2, .int .i64 3, .int .i64 0, .int .i64 0, .slice none 0 0, .int .i64 2, .int .i64 0, .int .i64 0, .int .i64 0, .slice none 0 0] 26)).alloc (.cells #[.int .i64 12, .int .i64 0, .int .i64 0, .int .i64 0, .slice (some ⟨w.heap.size, 0, none⟩) 4 4] 26)
theorem wake8_heap (w : World) : (wake8w w).heap[w.heap.size]? = some (.cells #[.int .i64 2, .int .i64 1, .int .i64 0, .int .i64 0, .slice none 0 0, .int .i64 2, .int .i64 2, .int .i64 0, .int .i64 0, .slice none 0 0, .int .i64 2, .int .i64 3, .int .i64 0, .int .i64 0, .slice none 0 0, .int .i64 2, .int .i64 0, .int .i64 0, .int .i64 0, .slice none 0 0] 26) ∧ (wake8w w).heap[w.heap.size + 1]? = some (.cells #[.int .i64 12, .int .i64 0, .int .i64 0, .int .i64 0, .slice (some ⟨w.heap.size, 0, none⟩) 4 4] 26) := by
  refine ⟨?_, heap_alloc2_new _ _ _⟩
  unfold wake8w
  rw [Below.heap_alloc _ _ _ (by simp), alloc_new]
theorem wake8_lies (w : World) : Lies (wake8w w) wake8.kids (.slice (some ⟨w.heap.size, 0, none⟩) 4 4) := by
  obtain ⟨h0, -⟩ := wake8_heap w
  have c0 := fun q => cell_of_row (wake8w w) w.heap.size q _ _ _ h0
  exact Row.lies (ps := [(.mk 2 1 0 0 [], .slice none 0 0), (.mk 2 2 0 0 [], .slice none 0 0), (.mk 2 3 0 0 [], .slice none 0 0), (.mk 2 0 0 0 [], .slice none 0 0)]) ⟨⟨by rw [c0]; rfl, by rw [c0]; rfl, by rw [c0]; rfl, by rw [c0]; rfl, by rw [c0]; rfl⟩, small_fine _ _ _ (small_I64 2 (by decide)) (small_I64 1 (by decide)), lies_nil _, ⟨by rw [c0]; rfl, by rw [c0]; rfl, by rw [c0]; rfl, by rw [c0]; rfl, by rw [c0]; rfl⟩, small_fine _ _ _ (small_I64 2 (by decide)) (small_I64 2 (by decide)), lies_nil _, ⟨by rw [c0]; rfl, by rw [c0]; rfl, by rw [c0]; rfl, by rw [c0]; rfl, by rw [c0]; rfl⟩, small_fine _ _ _ (small_I64 2 (by decide)) (small_I64 3 (by decide)), lies_nil _, ⟨by rw [c0]; rfl, by rw [c0]; rfl, by rw [c0]; rfl, by rw [c0]; rfl, by rw [c0]; rfl⟩, small_fine _ _ _ (small_I64 2 (by decide)) (small_I64 0 (by decide)), lies_nil _, trivial⟩ (by decide) (by decide)
theorem wake8_below (w : World) : Below w.heap.size w (wake8w w) := ((Below.refl _ _).alloc (Nat.le_refl _) _).alloc (by simp) _

end Go.Proofs.Ytjhdcjjoignioaa
