/-
  The kids of a node, each turned by its place: plain facts for the makers of layers 5 to 8; no walk.
-/
import Derived.Test.YtjhdcjjoignioaaEach
namespace Go.Proofs.Ytjhdcjjoignioaa

def Tm.zero : Tm := .mk 0 0 0 0 []

/-- Each kid by its place; nothing, if one has no image. -/
def optK (g : Nat → Tm → Option Tm) : Nat → List Tm → Option (List Tm)
  | _, [] => some []
  | p, t :: r => (g p t).bind fun x => (optK g (p + 1) r).map fun y => x :: y

theorem optK_take (g : Nat → Tm → Option Tm) (l : List Tm) (p k : Nat) (h : k < l.length) : optK g p (l.take (k + 1)) = (optK g p (l.take k)).bind fun m => (g (p + k) l[k]).map fun x => m ++ [x] := by
  induction l generalizing p k with
  | nil => simp at h
  | cons a r ih =>
    cases k with
    | zero => simp only [List.take_succ_cons, List.take_zero, optK, List.getElem_cons_zero, Nat.add_zero, Option.map_some, Option.bind_some, List.nil_append]; cases g p a <;> rfl
    | succ k =>
      simp only [List.take_succ_cons, optK, List.getElem_cons_succ]
      rw [ih (p + 1) k (by simpa using h), show p + 1 + k = p + (k + 1) by omega]
      cases g p a with
      | none => rfl
      | some x => simp only [Option.bind_some]; cases optK g (p + 1) (r.take k) with
        | none => rfl
        | some m => simp only [Option.bind_some, Option.map_some]; cases g (p + (k + 1)) (r[k]'(by simpa using h)) <;> rfl

theorem optK_none (g : Nat → Tm → Option Tm) (l : List Tm) (p k : Nat) (h : k < l.length) (hg : g (p + k) l[k] = none) : optK g p l = none := by
  induction l generalizing p k with
  | nil => simp at h
  | cons a r ih =>
    cases k with
    | zero => simp only [List.getElem_cons_zero, Nat.add_zero] at hg; simp only [optK, hg, Option.bind_none]
    | succ k =>
      simp only [List.getElem_cons_succ] at hg
      simp only [optK]
      rw [ih (p + 1) k (by simpa using h) (by rw [show p + 1 + k = p + (k + 1) by omega]; exact hg)]
      cases g p a <;> rfl

/-- One kid more. -/
theorem optK_next {g : Nat → Tm → Option Tm} {l m : List Tm} {k : Nat} (h : k < l.length) (hm : optK g 0 (l.take k) = some m) {x : Tm} (hx : g k l[k] = some x) : optK g 0 (l.take (k + 1)) = some (m ++ [x]) := by
  rw [optK_take g l 0 k h, hm, Option.bind_some, Nat.zero_add, hx, Option.map_some]
theorem optK_stop {g : Nat → Tm → Option Tm} {l : List Tm} {k : Nat} (h : k < l.length) (hx : g k l[k] = none) : optK g 0 l = none := optK_none g l 0 k h (by rw [Nat.zero_add]; exact hx)
theorem optK_length {g : Nat → Tm → Option Tm} : ∀ {l m : List Tm} {p : Nat}, optK g p l = some m → m.length = l.length
  | [], m, p, h => by simp only [optK, Option.some.injEq] at h; subst h; rfl
  | t :: r, m, p, h => by
    simp only [optK, Option.bind_eq_some_iff, Option.map_eq_some_iff] at h
    obtain ⟨x, _, y, hy, rfl⟩ := h
    simp [optK_length hy]
theorem optK_get {g : Nat → Tm → Option Tm} : ∀ {l m : List Tm} {p : Nat}, optK g p l = some m → ∀ k (h : k < l.length) (h' : k < m.length), g (p + k) l[k] = some m[k]
  | [], m, p, h, k, hk, _ => by simp at hk
  | t :: r, m, p, h, k, hk, hk' => by
    simp only [optK, Option.bind_eq_some_iff, Option.map_eq_some_iff] at h
    obtain ⟨x, hx, y, hy, rfl⟩ := h
    cases k with
    | zero => simpa using hx
    | succ k =>
      have := optK_get hy k (by simpa using hk) (by simpa using hk')
      simp only [List.getElem_cons_succ]
      rw [show p + (k + 1) = p + 1 + k by omega]; exact this
theorem optK_congr {g g' : Nat → Tm → Option Tm} : ∀ (l : List Tm) (p : Nat), (∀ k (h : k < l.length), g (p + k) l[k] = g' (p + k) l[k]) → optK g p l = optK g' p l
  | [], p, _ => rfl
  | t :: r, p, h => by
    have h0 := h 0 (by simp)
    simp only [List.getElem_cons_zero, Nat.add_zero] at h0
    simp only [optK, h0]
    rw [optK_congr r (p + 1) (fun k hk => by have := h (k + 1) (by simpa using hk); simpa [Nat.add_assoc, Nat.add_comm 1 k] using this)]
/-- All of them come. -/
theorem optK_some {g : Nat → Tm → Option Tm} {f : Tm → Tm} : ∀ (l : List Tm) (p : Nat), (∀ k (h : k < l.length), g (p + k) l[k] = some (f l[k])) → optK g p l = some (l.map f)
  | [], p, _ => rfl
  | t :: r, p, h => by
    have h0 := h 0 (by simp)
    simp only [List.getElem_cons_zero, Nat.add_zero] at h0
    simp only [optK, h0, Option.bind_some]
    rw [optK_some r (p + 1) (fun k hk => by have := h (k + 1) (by simpa using hk); simpa [Nat.add_assoc, Nat.add_comm 1 k] using this)]
    rfl

theorem eaches_optK (f : Int → Int → Option Int) (k b : Int) : ∀ (l : List Tm) (p : Nat), eaches f k p b l = optK (fun q t => t.each f (b + bindsN k q)) p l
  | [], p => rfl
  | t :: r, p => by simp only [eaches, optK]; rw [eaches_optK f k b r (p + 1)]

theorem Tm.each_var (f : Int → Int → Option Int) (t : Tm) (b : Int) (h : t.k = 2) : t.each f b = (f t.i b).map (fun v => .mk 2 v 0 0 []) := by rw [t.each_eq, if_pos h]
theorem Tm.each_node (f : Int → Int → Option Int) (t : Tm) (b : Int) (h : t.k ≠ 2) : t.each f b = (optK (fun q x => x.each f (b + bindsN t.k q)) 0 t.kids).map (fun l => .mk t.k t.i t.j t.n l) := by rw [t.each_eq, if_neg h, eaches_optK]

/-- lift.Lift. -/
def Tm.liftB (t : Tm) (k c : Int) : Tm := if k < 0 ∨ c < 0 ∨ t.rightB = false then .zero else (t.each (liftF k c) 0).getD .zero

/-- The page's lift, as it goes: the border moves with the binders, till it is very great. -/
def step62 (c : Int) (k q : Int) : Int := c + (if 4611686018427387904 < c then 0 else bindsN k q)
mutual
def Tm.rlift (k : Int) : Tm → Int → Option Tm
  | .mk K i j n l, c => if K = 2 ∧ c ≤ i ∧ k > 2147483647 - i then none else (rlifts k K 0 c l).map (fun l' => .mk K (if K = 2 ∧ c ≤ i then i + k else i) j n l')
def rlifts (k : Int) : Int → Nat → Int → List Tm → Option (List Tm)
  | _, _, _, [] => some []
  | K, p, c, t :: r => (t.rlift k (step62 c K p)).bind fun x => (rlifts k K (p + 1) c r).map fun y => x :: y
end
theorem rlifts_optK (k K c : Int) : ∀ (l : List Tm) (p : Nat), rlifts k K p c l = optK (fun q t => t.rlift k (step62 c K q)) p l
  | [], p => rfl
  | t :: r, p => by simp only [rlifts, optK]; rw [rlifts_optK k K c r (p + 1)]
theorem Tm.rlift_eq (k : Int) (t : Tm) (c : Int) : t.rlift k c = if t.k = 2 ∧ c ≤ t.i ∧ k > 2147483647 - t.i then none else (optK (fun q x => x.rlift k (step62 c t.k q)) 0 t.kids).map (fun l => .mk t.k (if t.k = 2 ∧ c ≤ t.i then t.i + k else t.i) t.j t.n l) := by
  cases t; simp only [Tm.rlift, rlifts_optK]; rfl

/-- A right term with small variables stays beneath a great border. -/
theorem rlift_stays (k : Int) (t : Tm) : ∀ c, 2147483647 < c → t.rightB = true → t.rlift k c = some t := by
  induction t using Tm.ind with
  | h t ih =>
    intro c hc hr
    rw [Tm.rlift_eq]
    have hv : t.k = 2 → t.i ≤ 2147483647 := fun h => (t.right_var hr h).2
    rw [if_neg (by rintro ⟨h1, h2, -⟩; have := hv h1; omega), if_neg (by rintro ⟨h1, h2⟩; have := hv h1; omega)]
    rw [optK_some (f := id) t.kids 0 (fun q hq => by
      rw [Nat.zero_add]
      refine ih _ (List.getElem_mem hq) _ ?_ (t.right_kids hr _ (List.getElem_mem hq))
      unfold step62; have := binds_range t.k q; split <;> omega)]
    simp [t.eta]

/-- The page's lift is the document's. -/
theorem rlift_each (k : Int) (t : Tm) : ∀ (c b : Int), 0 ≤ b → c + b + 2 * (t.deep : Int) ≤ 4611686018427387904 → t.rightB = true → t.rlift k (c + b) = t.each (liftF k c) b := by
  induction t using Tm.ind with
  | h t ih =>
    intro c b hb hd hr
    rw [Tm.rlift_eq]
    have hm := t.right_kids hr
    by_cases hk : t.k = 2
    · rw [Tm.each_var _ _ _ hk]
      have hv := t.right_var hr hk
      have hkids : t.kids = [] := (sorts_two (t.right_node hr) (by omega)).2
      have he := right_var_eq hr hk
      rw [hkids]
      simp only [optK, Option.map_some, hk, true_and]
      unfold liftF
      by_cases h1 : t.i - b < c
      · rw [if_pos h1, if_neg (by omega), if_neg (by omega)]
        have hj : t.j = 0 := by rw [he]; rfl
        have hn : t.n = 0 := by rw [he]; rfl
        rw [hj, hn]; rfl
      · rw [if_neg h1]
        by_cases h2 : k > 2147483647 - t.i
        · rw [if_pos h2, if_pos ⟨by omega, h2⟩]; rfl
        · rw [if_neg h2, if_neg (by omega), if_pos (by omega)]
          have hj : t.j = 0 := by rw [he]; rfl
          have hn : t.n = 0 := by rw [he]; rfl
          rw [hj, hn]; rfl
    · rw [Tm.each_node _ _ _ hk, if_neg (fun h => hk h.1), if_neg (fun h => hk h.1)]
      rw [optK_congr (g' := fun q x => x.each (liftF k c) (b + bindsN t.k q)) t.kids 0 (fun q hq => by
        have hbd := binds_range t.k q
        have hde : (t.kids[q]).deep + 1 ≤ t.deep := by
          rw [t.deep_eq]
          have : ∀ (l : List Tm) (q : Nat) (h : q < l.length), (l[q]).deep ≤ deeps l := by
            intro l
            induction l with
            | nil => intro q h; simp at h
            | cons a r ihr =>
              intro q h
              cases q with
              | zero => simp only [List.getElem_cons_zero, deeps]; omega
              | succ q => have := ihr q (by simpa using h); simp only [List.getElem_cons_succ, deeps]; omega
          have := this t.kids q hq; omega
        rw [Nat.zero_add]
        have hs : step62 (c + b) t.k q = c + (b + bindsN t.k q) := by unfold step62; rw [if_neg (by omega)]; omega
        rw [hs]
        exact ih _ (List.getElem_mem hq) c (b + bindsN t.k q) (by omega) (by omega) (hm _ (List.getElem_mem hq)))]

/-- Whatever border and step: the page's answer is the program's. -/
theorem rlift_lift (t : Tm) (k c : Int) (_ : 0 ≤ k) (hc : 0 ≤ c) (hd : t.deep ≤ 1000000) (hr : t.rightB = true) : t.rlift k c = t.each (liftF k c) 0 := by
  by_cases h : c ≤ 4000000000000000000
  · have := rlift_each k t c 0 (Int.le_refl _) (by omega) hr
    rwa [Int.add_zero] at this
  · rw [rlift_stays k t c (by omega) hr]
    refine (each_stays _ t 0 hr (Int.le_refl _) (fun v b hv hv2 _ _ => ?_)).symm
    unfold liftF; rw [if_pos (by omega)]

/-- Renaming. -/
def renF (to : List Int) (v b : Int) : Option Int := if v < b then some v else (to[(v - b).toNat]?).map (· + b)
def goodTo (to : List Int) : Bool := to.all fun n => decide (0 ≤ n) && decide (n ≤ 1073741824)
def Tm.renB (t : Tm) (to : List Int) : Option Tm := if t.rightB && goodTo to then t.each (renF to) 0 else none

theorem ren_some (to : List Int) (t : Tm) : ∀ b, 0 ≤ b → t.rightB = true → ((t.each (renF to) b).isSome = true ↔ t.freeN ≤ to.length + b) := by
  induction t using Tm.ind with
  | h t ih =>
    intro b hb hr
    have hm := t.right_kids hr
    by_cases hk : t.k = 2
    · rw [Tm.each_var _ _ _ hk, t.freeN_eq, if_pos hk, Option.isSome_map]
      have hv := t.right_var hr hk
      unfold renF
      by_cases h1 : t.i < b
      · rw [if_pos h1]; simp; omega
      · rw [if_neg h1, Option.isSome_map]
        by_cases h2 : (t.i - b).toNat < to.length
        · simp [h2]; omega
        · simp [h2]; omega
    · rw [Tm.each_node _ _ _ hk, t.freeN_eq, if_neg hk, Option.isSome_map]
      have key : ∀ (l : List Tm) (p : Nat), (∀ x ∈ l, ∀ b, 0 ≤ b → x.rightB = true → ((x.each (renF to) b).isSome = true ↔ x.freeN ≤ to.length + b)) → (∀ x ∈ l, x.rightB = true) → ((optK (fun q x => x.each (renF to) (b + bindsN t.k q)) p l).isSome = true ↔ frees t.k p l ≤ to.length + b) := by
        intro l
        induction l with
        | nil => intro p _ _; simp [optK, frees]; omega
        | cons x r ihr =>
          intro p h1 h2
          have hbd := binds_range t.k (p : Int)
          have e1 := h1 x (List.mem_cons_self ..) (b + bindsN t.k p) (by omega) (h2 x (List.mem_cons_self ..))
          have e2 := ihr (p + 1) (fun y hy => h1 y (List.mem_cons_of_mem _ hy)) (fun y hy => h2 y (List.mem_cons_of_mem _ hy))
          simp only [optK, frees]
          cases hx : x.each (renF to) (b + bindsN t.k p) with
          | none => rw [hx] at e1; simp at e1; simp; omega
          | some x' =>
            rw [hx] at e1; simp at e1
            simp only [Option.bind_some, Option.isSome_map]
            rw [e2]; omega
      exact key t.kids 0 ih hm

/-- Renaming each variable to the one k further is lifting by k. -/
theorem ren_lift (t : Tm) (k : Int) (n : Nat) (hk : 0 ≤ k) (hk2 : k ≤ 1000) (hr : t.rightB = true) (hn : t.freeN ≤ n) (hn2 : n ≤ 1000000) (hd : t.deep ≤ 1000000) : t.each (renF ((List.range n).map fun (i : Nat) => (i : Int) + k)) 0 = t.each (liftF k 0) 0 := by
  have key : ∀ (t : Tm) (b : Int), 0 ≤ b → t.rightB = true → t.freeN ≤ n + b → b + 2 * t.deep ≤ 1000000000 → t.each (renF ((List.range n).map fun (i : Nat) => (i : Int) + k)) b = t.each (liftF k 0) b := by
    intro t
    induction t using Tm.ind with
    | h t ih =>
      intro b hb hr hf hd
      by_cases hk2 : t.k = 2
      · rw [Tm.each_var _ _ _ hk2, Tm.each_var _ _ _ hk2]
        rw [t.freeN_eq, if_pos hk2] at hf
        have hv := t.right_var hr hk2
        unfold renF liftF
        by_cases h1 : t.i < b
        · rw [if_pos h1, if_pos (by omega)]
        · rw [if_neg h1, if_neg (by omega), if_neg (by omega)]
          have hlt : (t.i - b).toNat < n := by omega
          simp only [List.getElem?_map, List.getElem?_range hlt, Option.map_some]
          rw [show ((t.i - b).toNat : Int) + k + b = t.i + k by omega]
      · rw [Tm.each_node _ _ _ hk2, Tm.each_node _ _ _ hk2]
        rw [t.freeN_eq, if_neg hk2] at hf
        rw [optK_congr (g' := fun q x => x.each (liftF k 0) (b + bindsN t.k q)) t.kids 0 (fun q hq => by
          have hbd := binds_range t.k q
          rw [Nat.zero_add]
          have hfk : (t.kids[q]).freeN - bindsN t.k q ≤ frees t.k 0 t.kids := by
            have : ∀ (l : List Tm) (p q : Nat) (h : q < l.length), (l[q]).freeN - bindsN t.k ((p + q : Nat) : Int) ≤ frees t.k p l := by
              intro l
              induction l with
              | nil => intro p q h; simp at h
              | cons a r ihr =>
                intro p q h
                cases q with
                | zero => simp only [List.getElem_cons_zero, frees, Nat.add_zero]; omega
                | succ q => have := ihr (p + 1) q (by simpa using h); simp only [List.getElem_cons_succ, frees]; rw [show p + 1 + q = p + (q + 1) by omega] at this; omega
            have := this t.kids 0 q hq
            simpa using this
          have hde : (t.kids[q]).deep + 1 ≤ t.deep := by
            rw [t.deep_eq]
            have : ∀ (l : List Tm) (q : Nat) (h : q < l.length), (l[q]).deep ≤ deeps l := by
              intro l
              induction l with
              | nil => intro q h; simp at h
              | cons a r ihr =>
                intro q h
                cases q with
                | zero => simp only [List.getElem_cons_zero, deeps]; omega
                | succ q => have := ihr q (by simpa using h); simp only [List.getElem_cons_succ, deeps]; omega
            have := this t.kids q hq; omega
          exact ih _ (List.getElem_mem hq) _ (by omega) (t.right_kids hr _ (List.getElem_mem hq)) (by omega) (by omega))]
  exact key t 0 (Int.le_refl _) hr (by omega) (by omega)
end Go.Proofs.Ytjhdcjjoignioaa
