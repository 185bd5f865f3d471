/-
  Terms with their variables moved by a function: plain facts, no walk. For layers 5 to 8.
-/
import Derived.Test.YtjhdcjjoignioaaFree
namespace Go.Proofs.Ytjhdcjjoignioaa

mutual
/-- Each variable v beneath b binders becomes f v b; nothing if one has no image. -/
def Tm.each (f : Int → Int → Option Int) : Tm → Int → Option Tm
  | .mk k i j n l, b => if k = 2 then (f i b).map (fun v => .mk 2 v 0 0 []) else (eaches f k 0 b l).map (fun l' => .mk k i j n l')
def eaches (f : Int → Int → Option Int) : Int → Nat → Int → List Tm → Option (List Tm)
  | _, _, _, [] => some []
  | k, p, b, t :: r => (t.each f (b + bindsN k p)).bind fun x => (eaches f k (p + 1) b r).map fun y => x :: y
end

theorem Tm.each_eq (f : Int → Int → Option Int) (t : Tm) (b : Int) : t.each f b = if t.k = 2 then (f t.i b).map (fun v => .mk 2 v 0 0 []) else (eaches f t.k 0 b t.kids).map (fun l => .mk t.k t.i t.j t.n l) := by
  cases t; simp only [Tm.each]; rfl

theorem eaches_length (f : Int → Int → Option Int) (k b : Int) : ∀ (l : List Tm) (p : Nat) (m : List Tm), eaches f k p b l = some m → m.length = l.length
  | [], p, m, h => by simp only [eaches, Option.some.injEq] at h; subst h; rfl
  | t :: r, p, m, h => by
    simp only [eaches, Option.bind_eq_some_iff, Option.map_eq_some_iff] at h
    obtain ⟨x, _, y, hy, rfl⟩ := h
    simp [eaches_length f k b r (p + 1) y hy]

/-- Two movements after one another. -/
theorem each_each (f g : Int → Int → Option Int) (t : Tm) : ∀ b, (t.each f b).bind (fun u => u.each g b) = t.each (fun v b => (f v b).bind fun v' => g v' b) b := by
  induction t using Tm.ind with
  | h t ih =>
    intro b
    rw [Tm.each_eq, Tm.each_eq _ t]
    by_cases hk : t.k = 2
    · simp only [hk, if_true]
      cases f t.i b with
      | none => rfl
      | some v => simp only [Option.map_some, Option.bind_some]; rw [Tm.each_eq]; simp [Tm.k, Tm.i]
    · simp only [hk, if_false]
      have key : ∀ (l : List Tm) (p : Nat), (∀ x ∈ l, ∀ b, (x.each f b).bind (fun u => u.each g b) = x.each (fun v b => (f v b).bind fun v' => g v' b) b) →
          (eaches f t.k p b l).bind (fun m => eaches g t.k p b m) = eaches (fun v b => (f v b).bind fun v' => g v' b) t.k p b l := by
        intro l
        induction l with
        | nil => intro p _; simp [eaches]
        | cons x r ihr =>
          intro p h
          simp only [eaches]
          rw [← h x (List.mem_cons_self ..), ← ihr (p + 1) (fun y hy => h y (List.mem_cons_of_mem _ hy))]
          cases x.each f (b + bindsN t.k p) with
          | none => rfl
          | some x' =>
            simp only [Option.bind_some]
            cases eaches f t.k (p + 1) b r with
            | none => simp
            | some r' => simp [eaches]
      rw [← key t.kids 0 ih]
      cases eaches f t.k 0 b t.kids with
      | none => rfl
      | some m => simp only [Option.map_some, Option.bind_some]; rw [Tm.each_eq]; show (if t.k = 2 then _ else _) = _; rw [if_neg hk]; rfl

/-- What is said of the same variables is the same. -/
theorem each_congr (f g : Int → Int → Option Int) (h : ∀ v b, f v b = g v b) (t : Tm) (b : Int) : t.each f b = t.each g b := by
  rw [show f = g from funext fun v => funext fun b => h v b]

theorem right_var_eq {t : Tm} (h : t.rightB = true) (hk : t.k = 2) : t = .mk 2 t.i 0 0 [] := by
  have h2 := t.right_node h
  have h0 : t.kids = [] := (sorts_two h2 (by omega)).2
  simp only [Tm.nodeB, numbersN, hk, Bool.and_eq_true, if_true, decide_eq_true_eq] at h2
  have h3 := h2.2
  have hj : t.j = 0 := by simp at h3; omega
  have hn : t.n = 0 := by simp at h3; omega
  rw [← t.eta, hk, hj, hn, h0]; rfl

/-- A right term stays, where each of its variables stays. -/
theorem each_stays (f : Int → Int → Option Int) (t : Tm) : ∀ b, t.rightB = true → 0 ≤ b → (∀ v c, 0 ≤ v → v ≤ 2147483647 → b ≤ c → v < t.freeN + c - b → f v c = some v) → t.each f b = some t := by
  induction t using Tm.ind with
  | h t ih =>
    intro b hr hb hf
    rw [Tm.each_eq]
    have hm := t.right_kids hr
    by_cases hk : t.k = 2
    · have hv := t.right_var hr hk
      have hfr : t.freeN = t.i + 1 := by rw [t.freeN_eq, if_pos hk]
      rw [if_pos hk, hf t.i b hv.1 hv.2 (Int.le_refl _) (by omega)]
      exact congrArg some (right_var_eq hr hk).symm
    · rw [if_neg hk]
      have hfr : t.freeN = frees t.k 0 t.kids := by rw [t.freeN_eq, if_neg hk]
      have key : ∀ (l : List Tm) (p : Nat), (∀ x ∈ l, ∀ b, x.rightB = true → 0 ≤ b → (∀ v c, 0 ≤ v → v ≤ 2147483647 → b ≤ c → v < x.freeN + c - b → f v c = some v) → x.each f b = some x) → (∀ x ∈ l, x.rightB = true) → frees t.k p l ≤ t.freeN → eaches f t.k p b l = some l := by
        intro l
        induction l with
        | nil => intro p _ _ _; simp [eaches]
        | cons x r ihr =>
          intro p h1 h2 h3
          simp only [frees] at h3
          have hbd := binds_range t.k (p : Int)
          have e1 := h1 x (List.mem_cons_self ..) (b + bindsN t.k p) (h2 x (List.mem_cons_self ..)) (by omega) (fun v c hv hv2 hc hlt => hf v c hv hv2 (by omega) (by omega))
          have e2 := ihr (p + 1) (fun y hy => h1 y (List.mem_cons_of_mem _ hy)) (fun y hy => h2 y (List.mem_cons_of_mem _ hy)) (by omega)
          simp only [eaches, e1, e2, Option.bind_some, Option.map_some]
      rw [key t.kids 0 ih hm (by omega)]
      exact congrArg some t.eta

theorem var_sorts {t : Tm} (h : t.nodeB = true) (hk : t.k = 2) : t.markedB = true ∧ t.plainB = true := by
  have h3 := (sorts_two h (by omega)).1
  unfold Tm.sortsN at h3
  cases hm : t.markedB <;> cases hp : t.plainB <;> simp [hm, hp] at h3 ⊢

/-- Sort and size stay. -/
theorem each_keeps (f : Int → Int → Option Int) (hf : ∀ v b w, 0 ≤ v → v ≤ 2147483647 → f v b = some w → 0 ≤ w ∧ w ≤ 2147483647) (t : Tm) :
    ∀ b u, t.rightB = true → t.each f b = some u → u.markedB = t.markedB ∧ u.plainB = t.plainB ∧ u.size = t.size := by
  induction t using Tm.ind with
  | h t ih =>
    intro b u hr he
    have hm := t.right_kids hr
    rw [Tm.each_eq] at he
    by_cases hk : t.k = 2
    · rw [if_pos hk] at he
      simp only [Option.map_eq_some_iff] at he
      obtain ⟨v, hv, rfl⟩ := he
      have hr2 := t.right_var hr hk
      have hv2 := hf _ _ _ hr2.1 hr2.2 hv
      have hnode : (Tm.mk 2 v 0 0 []).nodeB = true := by simp [Tm.nodeB, Tm.k, Tm.i, Tm.j, Tm.n, Tm.kids, numbersN, kidsN, hv2.1, hv2.2]
      have a1 := var_sorts hnode rfl
      have a2 := var_sorts (t.right_node hr) hk
      refine ⟨by rw [a1.1, a2.1], by rw [a1.2, a2.2], ?_⟩
      rw [right_var_eq hr hk]; simp [Tm.size, sizes]
    · rw [if_neg hk] at he
      simp only [Option.map_eq_some_iff] at he
      obtain ⟨m, hm2, rfl⟩ := he
      have key : ∀ (l : List Tm) (p q : Nat) (m : List Tm), (∀ x ∈ l, ∀ b u, x.rightB = true → x.each f b = some u → u.markedB = x.markedB ∧ u.plainB = x.plainB ∧ u.size = x.size) → (∀ x ∈ l, x.rightB = true) → eaches f t.k p b l = some m →
          plains m = plains l ∧ (∀ tr, markeds tr q m = markeds tr q l) ∧ sizes m = sizes l := by
        intro l
        induction l with
        | nil => intro p q m _ _ h; simp only [eaches, Option.some.injEq] at h; subst h; exact ⟨rfl, fun _ => rfl, rfl⟩
        | cons x r ihr =>
          intro p q m h1 h2 h
          simp only [eaches, Option.bind_eq_some_iff, Option.map_eq_some_iff] at h
          obtain ⟨x', hx, r', hr', rfl⟩ := h
          obtain ⟨e1, e2, e3⟩ := h1 x (List.mem_cons_self ..) _ _ (h2 x (List.mem_cons_self ..)) hx
          obtain ⟨g1, g2, g3⟩ := ihr (p + 1) (q + 1) r' (fun y hy => h1 y (List.mem_cons_of_mem _ hy)) (fun y hy => h2 y (List.mem_cons_of_mem _ hy)) hr'
          exact ⟨by simp only [plains, e2, g1], fun tr => by simp only [markeds, e1, e2, g2], by simp only [sizes, e3, g3]⟩
      obtain ⟨g1, g2, g3⟩ := key t.kids 0 0 m ih hm hm2
      have hlen := eaches_length _ _ _ _ _ _ hm2
      have hnode : (Tm.mk t.k t.i t.j t.n m).nodeB = t.nodeB := by
        show (((m.length : Int) == kidsN t.k t.n) && numbersN t.k t.i t.j t.n) = _
        rw [hlen]; rfl
      refine ⟨?_, ?_, ?_⟩
      · rw [Tm.markedB_eq, Tm.markedB_eq, hnode]; show (_ && (_ && markeds (t.k == 12) 0 m)) = _; rw [g2]; rfl
      · rw [Tm.plainB_eq, Tm.plainB_eq, hnode]; show (_ && (_ && plains m)) = _; rw [g1]; rfl
      · rw [Tm.size_eq, Tm.size_eq]; show sizes m + 1 = _; rw [g3]

def liftF (k from' : Int) (v b : Int) : Option Int := if v - b < from' then some v else if k > 2147483647 - v then none else some (v + k)

/-- Lifted by k and then by m is lifted by k + m. -/
theorem lift_lift (k m c : Int) (hk : 0 ≤ k) (hm : 0 ≤ m) (t : Tm) (b : Int) : (t.each (liftF k c) b).bind (fun u => u.each (liftF m c) b) = t.each (liftF (k + m) c) b := by
  rw [each_each]
  refine each_congr _ _ (fun v b => ?_) t b
  unfold liftF
  by_cases h : v - b < c
  · simp [h]
  · simp only [h, if_false]
    by_cases h1 : k > 2147483647 - v
    · simp only [h1, if_true, Option.bind_none]; rw [if_pos (by omega)]
    · simp only [h1, if_false, Option.bind_some]
      rw [if_neg (by omega)]
      by_cases h2 : m > 2147483647 - (v + k)
      · rw [if_pos h2, if_pos (by omega)]
      · rw [if_neg h2, if_neg (by omega)]; congr 1; omega

theorem frees_nil (k : Int) (p : Nat) : frees k p [] = 0 := by simp only [frees]
theorem frees_cons (k : Int) (p : Nat) (t : Tm) (r : List Tm) : frees k p (t :: r) = max (t.freeN - bindsN k p) (frees k (p + 1) r) := by simp only [frees]

/-- What is free in a lifted term. -/
theorem lift_free (k : Int) (hk0 : 0 ≤ k) (t : Tm) : ∀ b u, 0 ≤ b → t.rightB = true → t.each (liftF k 0) b = some u → u.freeN = if b < t.freeN then t.freeN + k else t.freeN := by
  induction t using Tm.ind with
  | h t ih =>
    intro b u hb hr he
    have hm := t.right_kids hr
    rw [Tm.each_eq] at he
    by_cases hk : t.k = 2
    · rw [if_pos hk] at he
      simp only [Option.map_eq_some_iff] at he
      obtain ⟨v, hv, rfl⟩ := he
      have hfr : t.freeN = t.i + 1 := by rw [t.freeN_eq, if_pos hk]
      have hu : (Tm.mk 2 v 0 0 []).freeN = v + 1 := by rw [Tm.freeN_eq]; rfl
      rw [hu, hfr]
      unfold liftF at hv
      split at hv
      · have := Option.some.inj hv; rw [if_neg (by omega)]; omega
      · split at hv
        · cases hv
        · have := Option.some.inj hv; rw [if_pos (by omega)]; omega
    · rw [if_neg hk] at he
      simp only [Option.map_eq_some_iff] at he
      obtain ⟨m, hm2, rfl⟩ := he
      have key : ∀ (l : List Tm) (p : Nat) (m : List Tm), (∀ x ∈ l, ∀ b u, 0 ≤ b → x.rightB = true → x.each (liftF k 0) b = some u → u.freeN = if b < x.freeN then x.freeN + k else x.freeN) → (∀ x ∈ l, x.rightB = true) → eaches (liftF k 0) t.k p b l = some m →
          frees t.k p m = if b < frees t.k p l then frees t.k p l + k else frees t.k p l := by
        intro l
        induction l with
        | nil => intro p m _ _ h; simp only [eaches, Option.some.injEq] at h; subst h; rw [frees_nil, if_neg (by omega)]
        | cons x r ihr =>
          intro p m h1 h2 h
          simp only [eaches, Option.bind_eq_some_iff, Option.map_eq_some_iff] at h
          obtain ⟨x', hx, r', hr', rfl⟩ := h
          have hbd := binds_range t.k (p : Int)
          have e1 := h1 x (List.mem_cons_self ..) _ _ (by omega) (h2 x (List.mem_cons_self ..)) hx
          have e2 := ihr (p + 1) r' (fun y hy => h1 y (List.mem_cons_of_mem _ hy)) (fun y hy => h2 y (List.mem_cons_of_mem _ hy)) hr'
          rw [frees_cons, frees_cons, e1, e2]
          split <;> split <;> first | (rw [if_pos (by omega)]; done) | (rw [if_pos (by omega)]; omega) | (rw [if_neg (by omega)]; done) | (rw [if_neg (by omega)]; omega)
      have hfr : t.freeN = frees t.k 0 t.kids := by rw [t.freeN_eq, if_neg hk]
      have hu : (Tm.mk t.k t.i t.j t.n m).freeN = frees t.k 0 m := by rw [Tm.freeN_eq]; exact if_neg hk
      rw [hu, hfr]
      exact key t.kids 0 m ih hm hm2

theorem liftF_range (k c : Int) (hk : 0 ≤ k) : ∀ v b w, 0 ≤ v → v ≤ 2147483647 → liftF k c v b = some w → 0 ≤ w ∧ w ≤ 2147483647 := by
  intro v b w h0 h1 h
  unfold liftF at h
  split at h
  · have := Option.some.inj h; omega
  · split at h
    · cases h
    · have := Option.some.inj h; omega

/-- Nothing stands in the way of a small lift. -/
theorem each_some (f : Int → Int → Option Int) (t : Tm) : ∀ b, t.rightB = true → 0 ≤ b → (∀ v c, 0 ≤ v → v ≤ 2147483647 → b ≤ c → v < t.freeN + c - b → (f v c).isSome = true) → (t.each f b).isSome = true := by
  induction t using Tm.ind with
  | h t ih =>
    intro b hr hb hf
    rw [Tm.each_eq]
    have hm := t.right_kids hr
    by_cases hk : t.k = 2
    · have hv := t.right_var hr hk
      have hfr : t.freeN = t.i + 1 := by rw [t.freeN_eq, if_pos hk]
      rw [if_pos hk, Option.isSome_map]
      exact hf t.i b hv.1 hv.2 (Int.le_refl _) (by omega)
    · rw [if_neg hk, Option.isSome_map]
      have hfr : t.freeN = frees t.k 0 t.kids := by rw [t.freeN_eq, if_neg hk]
      have key : ∀ (l : List Tm) (p : Nat), (∀ x ∈ l, ∀ b, x.rightB = true → 0 ≤ b → (∀ v c, 0 ≤ v → v ≤ 2147483647 → b ≤ c → v < x.freeN + c - b → (f v c).isSome = true) → (x.each f b).isSome = true) → (∀ x ∈ l, x.rightB = true) → frees t.k p l ≤ t.freeN → (eaches f t.k p b l).isSome = true := by
        intro l
        induction l with
        | nil => intro p _ _ _; simp [eaches]
        | cons x r ihr =>
          intro p h1 h2 h3
          simp only [frees] at h3
          have hbd := binds_range t.k (p : Int)
          have e1 := h1 x (List.mem_cons_self ..) (b + bindsN t.k p) (h2 x (List.mem_cons_self ..)) (by omega) (fun v c hv hv2 hc hlt => hf v c hv hv2 (by omega) (by omega))
          have e2 := ihr (p + 1) (fun y hy => h1 y (List.mem_cons_of_mem _ hy)) (fun y hy => h2 y (List.mem_cons_of_mem _ hy)) (by omega)
          obtain ⟨x', hx⟩ := Option.isSome_iff_exists.1 e1
          obtain ⟨r', hr'⟩ := Option.isSome_iff_exists.1 e2
          simp [eaches, hx, hr']
      exact key t.kids 0 ih hm (by omega)
end Go.Proofs.Ytjhdcjjoignioaa
