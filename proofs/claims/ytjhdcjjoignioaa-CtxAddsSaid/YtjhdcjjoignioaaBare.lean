/-
  Stripped terms: plain facts for layers 6 to 8; no walk.
-/
import Derived.Test.YtjhdcjjoignioaaOptK
namespace Go.Proofs.Ytjhdcjjoignioaa

theorem mk_k (k i j n : Int) (l : List Tm) : (Tm.mk k i j n l).k = k := rfl
theorem mk_i (k i j n : Int) (l : List Tm) : (Tm.mk k i j n l).i = i := rfl
theorem mk_j (k i j n : Int) (l : List Tm) : (Tm.mk k i j n l).j = j := rfl
theorem mk_n (k i j n : Int) (l : List Tm) : (Tm.mk k i j n l).n = n := rfl
theorem mk_kids (k i j n : Int) (l : List Tm) : (Tm.mk k i j n l).kids = l := rfl

def bareKind (k : Int) : Int := if k = 3 then 13 else if k = 4 then 14 else if k = 5 then 15 else if k = 6 then 16 else if k = 7 then 17 else if k = 8 then 18 else if k = 9 then 19 else if k = 10 then 20 else if k = 11 then 21 else if k = 12 then 23 else k
def barePick (k : Int) : List Nat := if k = 3 then [0, 1] else if k = 4 then [0, 2] else if k = 5 then [2, 3] else if k = 6 then [0, 1] else if k = 7 then [0, 1, 2, 3] else if k = 8 then [2] else if k = 9 then [2] else if k = 10 then [0, 1, 2] else if k = 11 then [0, 1] else [0, 1, 2, 3]
def pickT (p : List Nat) (l : List Tm) : List Tm := p.filterMap fun i => l[i]?
def bareNode (k i j n : Int) (l : List Tm) : Tm := if 3 ≤ k ∧ k ≤ 12 then .mk (bareKind k) (if k = 12 then i else 0) 0 (if k = 12 then 5 else 0) (pickT (barePick k) l) else .mk k i j n l
mutual
def Tm.bare : Tm → Tm
  | .mk k i j n l => bareNode k i j n (bares l)
def bares : List Tm → List Tm
  | [] => []
  | t :: r => t.bare :: bares r
end
theorem bares_map : ∀ l : List Tm, bares l = l.map Tm.bare
  | [] => rfl
  | t :: r => by simp only [bares, List.map_cons, bares_map r]
theorem Tm.bare_eq (t : Tm) : t.bare = bareNode t.k t.i t.j t.n (t.kids.map Tm.bare) := by cases t; simp only [Tm.bare, bares_map]; rfl

theorem kids_two {l : List Tm} (h : l.length = 2) : ∃ a b, l = [a, b] := by
  match l, h with | [a, b], _ => exact ⟨a, b, rfl⟩
theorem kids_three {l : List Tm} (h : l.length = 3) : ∃ a b c, l = [a, b, c] := by
  match l, h with | [a, b, c], _ => exact ⟨a, b, c, rfl⟩
theorem kids_four {l : List Tm} (h : l.length = 4) : ∃ a b c d, l = [a, b, c, d] := by
  match l, h with | [a, b, c, d], _ => exact ⟨a, b, c, d, rfl⟩

theorem node_length {t : Tm} (h : t.nodeB = true) : (t.kids.length : Int) = kidsN t.k t.n := by
  simp only [Tm.nodeB, Bool.and_eq_true, beq_iff_eq] at h; exact h.1

/-- The kids of a marked node, by its kind. -/
theorem marked_shape {t : Tm} (h : t.nodeB = true) (h3 : 3 ≤ t.k) (h12 : t.k ≤ 12) :
    ((t.k = 3 ∨ t.k = 6 ∨ t.k = 11) ∧ ∃ a b, t.kids = [a, b]) ∨ ((t.k = 4 ∨ t.k = 8 ∨ t.k = 9 ∨ t.k = 10) ∧ ∃ a b c, t.kids = [a, b, c]) ∨ ((t.k = 5 ∨ t.k = 7 ∨ t.k = 12) ∧ ∃ a b c d, t.kids = [a, b, c, d]) := by
  have hl := node_length h
  have hk : t.k = 3 ∨ t.k = 4 ∨ t.k = 5 ∨ t.k = 6 ∨ t.k = 7 ∨ t.k = 8 ∨ t.k = 9 ∨ t.k = 10 ∨ t.k = 11 ∨ t.k = 12 := by omega
  rcases hk with e | e | e | e | e | e | e | e | e | e <;> rw [e] at hl <;> simp only [kidsN] at hl <;> simp at hl
  · exact Or.inl ⟨by omega, kids_two (by omega)⟩
  · exact Or.inr (Or.inl ⟨by omega, kids_three (by omega)⟩)
  · exact Or.inr (Or.inr ⟨by omega, kids_four (by omega)⟩)
  · exact Or.inl ⟨by omega, kids_two (by omega)⟩
  · exact Or.inr (Or.inr ⟨by omega, kids_four (by omega)⟩)
  · exact Or.inr (Or.inl ⟨by omega, kids_three (by omega)⟩)
  · exact Or.inr (Or.inl ⟨by omega, kids_three (by omega)⟩)
  · exact Or.inr (Or.inl ⟨by omega, kids_three (by omega)⟩)
  · exact Or.inl ⟨by omega, kids_two (by omega)⟩
  · exact Or.inr (Or.inr ⟨by omega, kids_four (by omega)⟩)

theorem plain_kids {t : Tm} (h : t.plainB = true) : ∀ x ∈ t.kids, x.plainB = true := by
  rw [Tm.plainB_eq] at h; simp only [Bool.and_eq_true] at h; exact plains_mem h.2.2
theorem plain_kind {t : Tm} (h : t.plainB = true) : t.k = 1 ∨ t.k = 2 ∨ 13 ≤ t.k := by
  rw [Tm.plainB_eq] at h; simp at h; omega
theorem plain_right {t : Tm} (h : t.plainB = true) : t.rightB = true := by simp [Tm.rightB, h]
theorem marked_right {t : Tm} (h : t.markedB = true) : t.rightB = true := by simp [Tm.rightB, h]

/-- What is plain stays. -/
theorem plain_bare (t : Tm) : t.plainB = true → t.bare = t := by
  induction t using Tm.ind with
  | h t ih =>
    intro h
    have hk := plain_kind h
    rw [Tm.bare_eq, bareNode, if_neg (by omega)]
    have : t.kids.map Tm.bare = t.kids := by
      have hp := plain_kids h
      conv => rhs; rw [← List.map_id t.kids]
      exact List.map_congr_left (fun x hx => ih x hx (hp x hx))
    rw [this]; exact t.eta

theorem right_cases {t : Tm} (h : t.rightB = true) : t.plainB = true ∨ (t.markedB = true ∧ 3 ≤ t.k ∧ t.k ≤ 12) := by
  cases hp : t.plainB
  · right
    simp [Tm.rightB, hp] at h
    refine ⟨h, ?_⟩
    have hn : t.nodeB = true := Tm.right_node (by simp [Tm.rightB, h])
    have h1 := Tm.node_kind hn
    by_cases h2 : t.k ≤ 2
    · have := (sorts_two hn h2).1
      simp [Tm.sortsN, h, hp] at this
    · rw [Tm.markedB_eq] at h; simp at h; omega
  · exact Or.inl rfl

/-- What is stripped is plain. -/
theorem bare_plain (t : Tm) : t.rightB = true → t.bare.plainB = true := by
  induction t using Tm.ind with
  | h t ih =>
    intro h
    rcases right_cases h with hp | ⟨hm, h3, h12⟩
    · rw [plain_bare t hp]; exact hp
    · have hn := t.right_node h
      have hr := t.right_kids h
      have hnum := hn
      simp only [Tm.nodeB, Bool.and_eq_true] at hnum
      replace hnum := hnum.2
      rw [Tm.bare_eq, bareNode, if_pos ⟨h3, h12⟩, Tm.plainB_eq]
      rcases marked_shape hn h3 h12 with ⟨hk, a, b, hkids⟩ | ⟨hk, a, b, c, hkids⟩ | ⟨hk, a, b, c, d, hkids⟩
      · have ea := ih a (by simp [hkids]) (hr a (by simp [hkids]))
        have eb := ih b (by simp [hkids]) (hr b (by simp [hkids]))
        rcases hk with e | e | e <;> simp [e, hkids, bareKind, barePick, pickT, Tm.nodeB, mk_k, mk_i, mk_j, mk_n, mk_kids, kidsN, numbersN, plains, ea, eb]
      · have ea := ih a (by simp [hkids]) (hr a (by simp [hkids]))
        have eb := ih b (by simp [hkids]) (hr b (by simp [hkids]))
        have ec := ih c (by simp [hkids]) (hr c (by simp [hkids]))
        rcases hk with e | e | e | e <;> simp [e, hkids, bareKind, barePick, pickT, Tm.nodeB, mk_k, mk_i, mk_j, mk_n, mk_kids, kidsN, numbersN, plains, ea, eb, ec]
      · have ea := ih a (by simp [hkids]) (hr a (by simp [hkids]))
        have eb := ih b (by simp [hkids]) (hr b (by simp [hkids]))
        have ec := ih c (by simp [hkids]) (hr c (by simp [hkids]))
        have ed := ih d (by simp [hkids]) (hr d (by simp [hkids]))
        rcases hk with e | e | e
        · simp [e, hkids, bareKind, barePick, pickT, Tm.nodeB, mk_k, mk_i, mk_j, mk_n, mk_kids, kidsN, numbersN, plains, ec, ed]
        · simp [e, hkids, bareKind, barePick, pickT, Tm.nodeB, mk_k, mk_i, mk_j, mk_n, mk_kids, kidsN, numbersN, plains, ea, eb, ec, ed]
        · simp [e, numbersN, levelB] at hnum
          simp [e, hkids, bareKind, barePick, pickT, Tm.nodeB, mk_k, mk_i, mk_j, mk_n, mk_kids, kidsN, givenN, numbersN, plains, ea, eb, ec, ed, hnum, levelB]

theorem bare_bare (t : Tm) (h : t.rightB = true) : t.bare.bare = t.bare := plain_bare _ (bare_plain t h)

/-- No more is free in it. -/
theorem bare_free (t : Tm) : t.rightB = true → t.bare.freeN ≤ t.freeN := by
  induction t using Tm.ind with
  | h t ih =>
    intro h
    rcases right_cases h with hp | ⟨hm, h3, h12⟩
    · rw [plain_bare t hp]; exact Int.le_refl _
    · have hn := t.right_node h
      have hr := t.right_kids h
      rw [Tm.bare_eq, bareNode, if_pos ⟨h3, h12⟩, Tm.freeN_eq, Tm.freeN_eq]
      rcases marked_shape hn h3 h12 with ⟨hk, a, b, hkids⟩ | ⟨hk, a, b, c, hkids⟩ | ⟨hk, a, b, c, d, hkids⟩
      · have ea := ih a (by simp [hkids]) (hr a (by simp [hkids]))
        have eb := ih b (by simp [hkids]) (hr b (by simp [hkids]))
        rcases hk with e | e | e <;> simp [e, hkids, bareKind, barePick, pickT, mk_k, mk_kids, frees, bindsN] <;> omega
      · have ea := ih a (by simp [hkids]) (hr a (by simp [hkids]))
        have eb := ih b (by simp [hkids]) (hr b (by simp [hkids]))
        have ec := ih c (by simp [hkids]) (hr c (by simp [hkids]))
        rcases hk with e | e | e | e <;> simp [e, hkids, bareKind, barePick, pickT, mk_k, mk_kids, frees, bindsN] <;> omega
      · have ea := ih a (by simp [hkids]) (hr a (by simp [hkids]))
        have eb := ih b (by simp [hkids]) (hr b (by simp [hkids]))
        have ec := ih c (by simp [hkids]) (hr c (by simp [hkids]))
        have ed := ih d (by simp [hkids]) (hr d (by simp [hkids]))
        rcases hk with e | e | e <;> simp [e, hkids, bareKind, barePick, pickT, mk_k, mk_kids, frees, bindsN] <;> omega

mutual
/-- Each variable v beneath b binders, in a plain place or not, becomes a term. -/
def Tm.putG (g : Int → Int → Bool → Option Tm) : Tm → Int → Bool → Option Tm
  | .mk k i j n l, b, pl => if k = 2 then g i b pl else (putGs g k 0 b pl l).map (fun l' => .mk k i j n l')
def putGs (g : Int → Int → Bool → Option Tm) : Int → Nat → Int → Bool → List Tm → Option (List Tm)
  | _, _, _, _, [] => some []
  | k, p, b, pl, t :: r => (t.putG g (b + bindsN k p) (pl || (k == 12 && p == 2))).bind fun x => (putGs g k (p + 1) b pl r).map fun y => x :: y
end
theorem putGs_optK (g : Int → Int → Bool → Option Tm) (k b : Int) (pl : Bool) : ∀ (l : List Tm) (p : Nat), putGs g k p b pl l = optK (fun q x => x.putG g (b + bindsN k q) (pl || (k == 12 && q == 2))) p l
  | [], p => rfl
  | t :: r, p => by simp only [putGs, optK]; rw [putGs_optK g k b pl r (p + 1)]
theorem Tm.putG_eq (g : Int → Int → Bool → Option Tm) (t : Tm) (b : Int) (pl : Bool) : t.putG g b pl = if t.k = 2 then g t.i b pl else (optK (fun q x => x.putG g (b + bindsN t.k q) (pl || (t.k == 12 && q == 2))) 0 t.kids).map (fun l => .mk t.k t.i t.j t.n l) := by
  cases t; simp only [Tm.putG, putGs_optK]; rfl
theorem Tm.putG_var (g : Int → Int → Bool → Option Tm) (t : Tm) (b : Int) (pl : Bool) (h : t.k = 2) : t.putG g b pl = g t.i b pl := by rw [t.putG_eq, if_pos h]
theorem Tm.putG_node (g : Int → Int → Bool → Option Tm) (t : Tm) (b : Int) (pl : Bool) (h : t.k ≠ 2) : t.putG g b pl = (optK (fun q x => x.putG g (b + bindsN t.k q) (pl || (t.k == 12 && q == 2))) 0 t.kids).map (fun l => .mk t.k t.i t.j t.n l) := by rw [t.putG_eq, if_neg h]

/-- To move variables is to put variables. -/
theorem each_putG (f : Int → Int → Option Int) (t : Tm) : ∀ b pl, t.each f b = t.putG (fun v b _ => (f v b).map fun v => .mk 2 v 0 0 []) b pl := by
  induction t using Tm.ind with
  | h t ih =>
    intro b pl
    by_cases hk : t.k = 2
    · rw [Tm.each_var _ _ _ hk, Tm.putG_var _ _ _ _ hk]
    · rw [Tm.each_node _ _ _ hk, Tm.putG_node _ _ _ _ hk]
      rw [optK_congr (g' := fun q x => x.putG (fun v b _ => (f v b).map fun v => .mk 2 v 0 0 []) (b + bindsN t.k q) (pl || (t.k == 12 && q == 2))) t.kids 0 (fun q hq => by rw [Nat.zero_add]; exact ih _ (List.getElem_mem hq) _ _)]

theorem optK_bind {g h k : Nat → Tm → Option Tm} : ∀ (l : List Tm) (p : Nat), (∀ q (hq : q < l.length), (g (p + q) l[q]).bind (h (p + q)) = k (p + q) l[q]) → (optK g p l).bind (optK h p) = optK k p l
  | [], p, _ => rfl
  | t :: r, p, H => by
    have h0 := H 0 (by simp)
    simp only [List.getElem_cons_zero, Nat.add_zero] at h0
    have hr := optK_bind r (p + 1) (fun q hq => by have := H (q + 1) (by simpa using hq); simpa [Nat.add_assoc, Nat.add_comm 1 q] using this)
    simp only [optK, ← h0, ← hr]
    cases g p t with
    | none => rfl
    | some x =>
      simp only [Option.bind_some]
      cases optK g (p + 1) r with
      | none => simp
      | some m => simp [optK]

/-- Two substitutions one behind the other. -/
theorem putG_putG (g h : Int → Int → Bool → Option Tm) (d : Int) (t : Tm) : ∀ b pl, (t.putG g b pl).bind (fun u => u.putG h (b + d) pl) = t.putG (fun v b pl => (g v b pl).bind fun x => x.putG h (b + d) pl) b pl := by
  induction t using Tm.ind with
  | h t ih =>
    intro b pl
    by_cases hk : t.k = 2
    · rw [Tm.putG_var _ _ _ _ hk, Tm.putG_var _ _ _ _ hk]
    · rw [Tm.putG_node _ _ _ _ hk, Tm.putG_node _ _ _ _ hk]
      have key := optK_bind (g := fun q x => x.putG g (b + bindsN t.k q) (pl || (t.k == 12 && q == 2))) (h := fun q x => x.putG h (b + d + bindsN t.k q) (pl || (t.k == 12 && q == 2)))
        (k := fun q x => x.putG (fun v b pl => (g v b pl).bind fun x => x.putG h (b + d) pl) (b + bindsN t.k q) (pl || (t.k == 12 && q == 2))) t.kids 0 (fun q hq => by
          have := ih _ (List.getElem_mem hq) (b + bindsN t.k q) (pl || (t.k == 12 && q == 2))
          rw [show b + bindsN t.k q + d = b + d + bindsN t.k q by omega] at this
          rw [Nat.zero_add]; exact this)
      rw [← key]
      cases optK (fun q x => x.putG g (b + bindsN t.k q) (pl || (t.k == 12 && q == 2))) 0 t.kids with
      | none => rfl
      | some m => rw [Option.map_some, Option.bind_some, Option.bind_some, Tm.putG_node _ _ _ _ (by exact hk)]; rfl

theorem deeps_get : ∀ (l : List Tm) (q : Nat) (h : q < l.length), (l[q]).deep ≤ deeps l
  | [], q, h => by simp at h
  | a :: r, q, h => by
    cases q with
    | zero => simp only [List.getElem_cons_zero, deeps]; omega
    | succ q => have := deeps_get r q (by simpa using h); simp only [List.getElem_cons_succ, deeps]; omega
theorem frees_get (k : Int) : ∀ (l : List Tm) (p q : Nat) (h : q < l.length), (l[q]).freeN - bindsN k ((p + q : Nat) : Int) ≤ frees k p l
  | [], p, q, h => by simp at h
  | a :: r, p, q, h => by
    cases q with
    | zero => simp only [List.getElem_cons_zero, frees, Nat.add_zero]; omega
    | succ q => have := frees_get k r (p + 1) q (by simpa using h); simp only [List.getElem_cons_succ, frees]; rw [show p + 1 + q = p + (q + 1) by omega] at this; omega

/-- What is put for the variables that there are is all that counts. -/
theorem putG_congr (g h : Int → Int → Bool → Option Tm) (t : Tm) : ∀ b pl, t.rightB = true → 0 ≤ b → (∀ (v c : Int) (pl : Bool), 0 ≤ v → v ≤ 2147483647 → b ≤ c → c ≤ b + 2 * (t.deep : Int) → v < t.freeN + c - b → g v c pl = h v c pl) → t.putG g b pl = t.putG h b pl := by
  induction t using Tm.ind with
  | h t ih =>
    intro b pl hr hb hg
    have hde := t.deep_eq
    by_cases hk : t.k = 2
    · rw [Tm.putG_var _ _ _ _ hk, Tm.putG_var _ _ _ _ hk]
      have hv := t.right_var hr hk
      have hf : t.freeN = t.i + 1 := by rw [t.freeN_eq, if_pos hk]
      exact hg _ _ _ hv.1 hv.2 (Int.le_refl _) (by omega) (by omega)
    · rw [Tm.putG_node _ _ _ _ hk, Tm.putG_node _ _ _ _ hk]
      have hf : t.freeN = frees t.k 0 t.kids := by rw [t.freeN_eq, if_neg hk]
      rw [optK_congr (g' := fun q x => x.putG h (b + bindsN t.k q) (pl || (t.k == 12 && q == 2))) t.kids 0 (fun q hq => by
        have hbd := binds_range t.k q
        have hfq := frees_get t.k t.kids 0 q hq
        have hdq := deeps_get t.kids q hq
        rw [Nat.zero_add] at hfq ⊢
        exact ih _ (List.getElem_mem hq) _ _ (t.right_kids hr _ (List.getElem_mem hq)) (by omega) (fun v c pl h1 h2 h3 h4 h5 => hg v c pl h1 h2 (by omega) (by omega) (by omega)))]

/-- Stripped and put, in either order. -/
theorem bare_putG (f h : Int → Int → Bool → Option Tm) (hfh : ∀ v b pl x, 0 ≤ v → v ≤ 2147483647 → f v b pl = some x → h v b true = some x.bare) (t : Tm) : ∀ b pl u, t.rightB = true → t.putG f b pl = some u → t.bare.putG h b true = some u.bare := by
  induction t using Tm.ind with
  | h t ih =>
    intro b pl u hR hu
    rcases right_cases hR with hp | ⟨hm, h3, h12⟩
    · rw [plain_bare t hp]
      by_cases hk : t.k = 2
      · rw [Tm.putG_var _ _ _ _ hk] at hu ⊢
        have hv := t.right_var hR hk
        exact hfh _ _ _ _ hv.1 hv.2 hu
      · have hk2 := plain_kind hp
        rw [Tm.putG_node _ _ _ _ hk] at hu ⊢
        simp only [Option.map_eq_some_iff] at hu
        obtain ⟨m, hm, rfl⟩ := hu
        rw [Tm.bare_eq, bareNode, if_neg (by show ¬ (3 ≤ t.k ∧ t.k ≤ 12); omega)]
        have hp' := plain_kids hp
        have : optK (fun q x => x.putG h (b + bindsN t.k q) (true || (t.k == 12 && q == 2))) 0 t.kids = some (m.map Tm.bare) := by
          have key : ∀ (l m : List Tm) (p : Nat), (∀ x ∈ l, x ∈ t.kids) → optK (fun q x => x.putG f (b + bindsN t.k q) (pl || (t.k == 12 && q == 2))) p l = some m → optK (fun q x => x.putG h (b + bindsN t.k q) (true || (t.k == 12 && q == 2))) p l = some (m.map Tm.bare) := by
            intro l
            induction l with
            | nil => intro m p _ hm; simp only [optK, Option.some.injEq] at hm; subst hm; rfl
            | cons x r ihr =>
              intro m p hs hm
              simp only [optK, Option.bind_eq_some_iff, Option.map_eq_some_iff] at hm
              obtain ⟨x', hx, r', hr', rfl⟩ := hm
              have hxm := hs x (List.mem_cons_self ..)
              have e1 := ih x hxm _ _ _ (plain_right (hp' x hxm)) hx
              rw [plain_bare x (hp' x hxm)] at e1
              have e2 := ihr r' (p + 1) (fun y hy => hs y (List.mem_cons_of_mem _ hy)) hr'
              simp only [optK]
              rw [Bool.true_or, e1, e2]; rfl
          exact key t.kids m 0 (fun x hx => hx) hm
        rw [this]; rfl
    · have hn := t.right_node hR
      have hr := t.right_kids hR
      rw [Tm.putG_node _ _ _ _ (by omega)] at hu
      simp only [Option.map_eq_some_iff] at hu
      obtain ⟨m, hm, rfl⟩ := hu
      have hkd : (Tm.mk t.k t.i t.j t.n m).bare = bareNode t.k t.i t.j t.n (m.map Tm.bare) := by rw [Tm.bare_eq]; rfl
      have h312 : 3 ≤ t.k ∧ t.k ≤ 12 := ⟨h3, h12⟩
      have hbn : ∀ l, bareNode t.k t.i t.j t.n l = .mk (bareKind t.k) (if t.k = 12 then t.i else 0) 0 (if t.k = 12 then 5 else 0) (pickT (barePick t.k) l) := fun l => by rw [bareNode, if_pos h312]
      rw [hkd, Tm.bare_eq, hbn, hbn]
      rcases marked_shape hn h3 h12 with ⟨hk, a, b', hkids⟩ | ⟨hk, a, b', c, hkids⟩ | ⟨hk, a, b', c, d, hkids⟩
      · have ea := fun b pl u => ih a (by simp [hkids]) b pl u (hr a (by simp [hkids]))
        have eb := fun b pl u => ih b' (by simp [hkids]) b pl u (hr b' (by simp [hkids]))
        rw [hkids] at hm
        simp only [optK, Option.bind_eq_some_iff, Option.map_eq_some_iff, Option.some.injEq] at hm
        obtain ⟨a', ha, m1, ⟨b'', hb, m2, rfl, rfl⟩, rfl⟩ := hm
        have ga := ea _ _ _ ha
        have gb := eb _ _ _ hb
        rcases hk with e | e | e <;> rw [Tm.putG_node _ _ _ _ (by simp [e, bareKind, mk_k])] <;> simp [e, hkids, bareKind, barePick, pickT, mk_k, mk_i, mk_j, mk_n, mk_kids, optK, bindsN] at ga gb ⊢ <;> simp [ga, gb]
      · have ea := fun b pl u => ih a (by simp [hkids]) b pl u (hr a (by simp [hkids]))
        have eb := fun b pl u => ih b' (by simp [hkids]) b pl u (hr b' (by simp [hkids]))
        have ec := fun b pl u => ih c (by simp [hkids]) b pl u (hr c (by simp [hkids]))
        rw [hkids] at hm
        simp only [optK, Option.bind_eq_some_iff, Option.map_eq_some_iff, Option.some.injEq] at hm
        obtain ⟨a', ha, m1, ⟨b'', hb, m2, ⟨c', hc, m3, rfl, rfl⟩, rfl⟩, rfl⟩ := hm
        have ga := ea _ _ _ ha
        have gb := eb _ _ _ hb
        have gc := ec _ _ _ hc
        rcases hk with e | e | e | e <;> rw [Tm.putG_node _ _ _ _ (by simp [e, bareKind, mk_k])] <;> simp [e, hkids, bareKind, barePick, pickT, mk_k, mk_i, mk_j, mk_n, mk_kids, optK, bindsN] at ga gb gc ⊢ <;> simp [ga, gb, gc]
      · have ea := fun b pl u => ih a (by simp [hkids]) b pl u (hr a (by simp [hkids]))
        have eb := fun b pl u => ih b' (by simp [hkids]) b pl u (hr b' (by simp [hkids]))
        have ec := fun b pl u => ih c (by simp [hkids]) b pl u (hr c (by simp [hkids]))
        have ed := fun b pl u => ih d (by simp [hkids]) b pl u (hr d (by simp [hkids]))
        rw [hkids] at hm
        simp only [optK, Option.bind_eq_some_iff, Option.map_eq_some_iff, Option.some.injEq] at hm
        obtain ⟨a', ha, m1, ⟨b'', hb, m2, ⟨c', hc, m3, ⟨d', hd, m4, rfl, rfl⟩, rfl⟩, rfl⟩, rfl⟩ := hm
        have ga := ea _ _ _ ha
        have gb := eb _ _ _ hb
        have gc := ec _ _ _ hc
        have gd := ed _ _ _ hd
        rcases hk with e | e | e <;> rw [Tm.putG_node _ _ _ _ (by simp [e, bareKind, mk_k])] <;> simp [e, hkids, bareKind, barePick, pickT, mk_k, mk_i, mk_j, mk_n, mk_kids, optK, bindsN] at ga gb gc gd ⊢ <;> simp [ga, gb, gc, gd]

/-- Stripped and moved, in either order. -/
theorem bare_each (f : Int → Int → Option Int) (t : Tm) (b : Int) (u : Tm) (hr : t.rightB = true) (h : t.each f b = some u) : t.bare.each f b = some u.bare := by
  rw [each_putG f t b false] at h
  rw [each_putG f t.bare b true]
  refine bare_putG _ _ (fun v b pl x _ _ hx => ?_) t b false u hr h
  simp only [Option.map_eq_some_iff] at hx ⊢
  obtain ⟨v', h1, rfl⟩ := hx
  exact ⟨v', h1, by rw [Tm.bare_eq]; rfl⟩
end Go.Proofs.Ytjhdcjjoignioaa
