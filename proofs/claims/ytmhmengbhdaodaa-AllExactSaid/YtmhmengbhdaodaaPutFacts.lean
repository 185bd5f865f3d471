/-
  Substitution: plain facts for layer 7; no walk.
-/
import Derived.Test.YtmhmengbhdaodaaL8
namespace Go.Proofs.Ytmhmengbhdaodaa

abbrev varT (v : Int) : Tm := .mk 2 v 0 0 []
def liftG (k : Int) (v b : Int) (_ : Bool) : Option Tm := (liftF k 0 v b).map fun v => .mk 2 v 0 0 []
/-- What is put for a variable beneath b binders, in a plain place or not: for one term, and for a list. -/
def gPut (u : Tm) (v b : Int) (pl : Bool) : Option Tm := if v < b then some (varT v) else if v = b then (if pl = true then u.bare else u).each (liftF b 0) 0 else some (varT (v - 1))
def gAll (l : List Tm) (v b : Int) (pl : Bool) : Option Tm := if v < b then some (varT v) else (l[(v - b).toNat]?).bind fun u => (if pl = true then u.bare else u).each (liftF b 0) 0
def mayB (t u : Tm) : Bool := u.rightB && (t.k == 1 || (t.k == 2 || (t.plainB || u.markedB)))
def fitsB (t u : Tm) : Bool := if t.k ≤ 2 ∨ 12 < t.k then u.rightB else u.markedB
def Tm.putB (t u : Tm) : Tm := if t.rightB = true ∧ mayB t u = true then (t.putG (gPut u) 0 (decide (12 < t.k))).getD .zero else .zero
def Tm.allB (t : Tm) (l : List Tm) : Option Tm := if t.rightB = true ∧ l.all (mayB t) = true then t.putG (gAll l) 0 (decide (12 < t.k)) else none

theorem right_of_kind {t : Tm} (h : t.rightB = true) (hk : 12 < t.k) : t.plainB = true := by
  rcases right_cases h with hp | ⟨-, -, h12⟩
  · exact hp
  · omega
theorem fits_may {t : Tm} (u : Tm) (h : t.rightB = true) : fitsB t u = mayB t u := by
  have hk := Tm.node_kind (t.right_node h)
  unfold fitsB mayB
  by_cases h1 : t.k ≤ 2
  · rw [if_pos (Or.inl h1)]
    have : t.k = 1 ∨ t.k = 2 := by omega
    rcases this with e | e <;> simp [e]
  · by_cases h2 : 12 < t.k
    · rw [if_pos (Or.inr h2), right_of_kind h h2]; simp
    · rw [if_neg (by omega)]
      have hp : t.plainB = false := by
        cases hp : t.plainB with
        | false => rfl
        | true => have := plain_kind hp; omega
      have e1 : (t.k == 1) = false := by simp; omega
      have e2 : (t.k == 2) = false := by simp; omega
      rw [hp, e1, e2]
      cases hm : u.markedB with
      | false => simp
      | true => rw [marked_right hm]; rfl

/-- In which places it counts that a term is plain. -/
theorem flag_kid {t : Tm} (h : t.rightB = true) (pl : Bool) (q : Nat) (hq : q < t.kids.length) : (((pl || decide (12 < t.k)) || (t.k == 12 && q == 2)) || decide (12 < (t.kids[q]).k)) = ((pl || decide (12 < t.k)) || (t.k == 12 && q == 2)) := by
  cases pl with
  | true => rfl
  | false =>
    by_cases h2 : 12 < t.k
    · simp [h2]
    · rcases right_cases h with hp | ⟨hm, h3, h12⟩
      · have hk := plain_kind hp
        have hn : t.kids = [] := (sorts_two (t.right_node h) (by omega)).2
        rw [hn] at hq; simp at hq
      · have e : decide (12 < t.k) = false := by simpa using h2
        rw [e]
        by_cases hk : t.k = 12
        · obtain ⟨a, b, p, x, hkids, ha, hb, hpp, hx⟩ := marked_tr hm hk
          have e12 : (t.k == 12) = true := by simpa using hk
          rw [e12]
          have hq4 : q < 4 := by rw [hkids] at hq; exact hq
          have key : q = 2 ∨ (t.kids[q]).k ≤ 12 := by
            have : q = 0 ∨ q = 1 ∨ q = 2 ∨ q = 3 := by omega
            rcases this with rfl | rfl | rfl | rfl
            · right; simp only [hkids]; exact (marked_kind ha).2
            · right; simp only [hkids]; exact (marked_kind hb).2
            · left; rfl
            · right; simp only [hkids]; exact (marked_kind hx).2
          rcases key with rfl | hle
          · rfl
          · have : decide (12 < (t.kids[q]).k) = false := by simp; omega
            rw [this, Bool.or_false]
        · have hx := marked_kind (marked_others hm hk _ (List.getElem_mem hq))
          have : decide (12 < (t.kids[q]).k) = false := by simp; omega
          rw [this, Bool.or_false]
theorem flag_kid' {t : Tm} (h : t.rightB = true) (q : Nat) (hq : q < t.kids.length) (pl : Bool) : ((pl || decide (12 < t.k) || (t.k == 12 && q == 2)) || decide (12 < (t.kids[q]).k)) = (pl || decide (12 < t.k) || (t.k == 12 && q == 2)) := flag_kid h pl q hq

/-! Each variable has an image. -/
theorem optK_isSome {g : Nat → Tm → Option Tm} : ∀ (l : List Tm) (p : Nat), (∀ k (h : k < l.length), (g (p + k) l[k]).isSome = true) → (optK g p l).isSome = true
  | [], p, _ => rfl
  | t :: r, p, h => by
    have h0 := h 0 (by simp)
    simp only [List.getElem_cons_zero, Nat.add_zero] at h0
    have h1 := optK_isSome (g := g) r (p + 1) (fun k hk => by have := h (k + 1) (by simpa using hk); simpa [Nat.add_assoc, Nat.add_comm 1 k] using this)
    obtain ⟨x, hx⟩ := Option.isSome_iff_exists.1 h0
    obtain ⟨y, hy⟩ := Option.isSome_iff_exists.1 h1
    simp [optK, hx, hy]
theorem putG_some (g : Int → Int → Bool → Option Tm) (t : Tm) : ∀ b pl, t.rightB = true → 0 ≤ b → (∀ (v c : Int) (p : Bool), 0 ≤ v → v ≤ 2147483647 → b ≤ c → c ≤ b + 2 * (t.deep : Int) → v < t.freeN + c - b → (g v c p).isSome = true) → (t.putG g b pl).isSome = true := by
  induction t using Tm.ind with
  | h t ih =>
    intro b pl hr hb hg
    have hde := t.deep_eq
    by_cases hk : t.k = 2
    · rw [Tm.putG_var _ _ _ _ hk]
      have hv := t.right_var hr hk
      have hf : t.freeN = t.i + 1 := by rw [t.freeN_eq, if_pos hk]
      exact hg _ _ _ hv.1 hv.2 (Int.le_refl _) (by omega) (by omega)
    · rw [Tm.putG_node _ _ _ _ hk, Option.isSome_map]
      have hf : t.freeN = frees t.k 0 t.kids := by rw [t.freeN_eq, if_neg hk]
      refine optK_isSome _ _ (fun q hq => ?_)
      have hbd := binds_range t.k q
      have hfq := frees_get t.k t.kids 0 q hq
      have hdq := deeps_get t.kids q hq
      rw [Nat.zero_add] at hfq ⊢
      exact ih _ (List.getElem_mem hq) _ _ (t.right_kids hr _ (List.getElem_mem hq)) (by omega) (fun v c pl h1 h2 h3 h4 h5 => hg v c pl h1 h2 (by omega) (by omega) (by omega))
/-- The same where it counts. -/
theorem putG_congrF (g h : Int → Int → Bool → Option Tm) (t : Tm) : ∀ b pl, t.rightB = true → 0 ≤ b → (∀ (v c : Int) (p : Bool), 0 ≤ v → v ≤ 2147483647 → b ≤ c → c ≤ b + 2 * (t.deep : Int) → v < t.freeN + c - b → (pl = true → p = true) → g v c p = h v c p) → t.putG g b pl = t.putG h b pl := by
  induction t using Tm.ind with
  | h t ih =>
    intro b pl hr hb hg
    have hde := t.deep_eq
    by_cases hk : t.k = 2
    · rw [Tm.putG_var _ _ _ _ hk, Tm.putG_var _ _ _ _ hk]
      have hv := t.right_var hr hk
      have hf : t.freeN = t.i + 1 := by rw [t.freeN_eq, if_pos hk]
      exact hg _ _ _ hv.1 hv.2 (Int.le_refl _) (by omega) (by omega) (fun h => h)
    · rw [Tm.putG_node _ _ _ _ hk, Tm.putG_node _ _ _ _ hk]
      have hf : t.freeN = frees t.k 0 t.kids := by rw [t.freeN_eq, if_neg hk]
      rw [optK_congr (g' := fun q x => x.putG h (b + bindsN t.k q) (pl || (t.k == 12 && q == 2))) t.kids 0 (fun q hq => by
        have hbd := binds_range t.k q
        have hfq := frees_get t.k t.kids 0 q hq
        have hdq := deeps_get t.kids q hq
        rw [Nat.zero_add] at hfq ⊢
        exact ih _ (List.getElem_mem hq) _ _ (t.right_kids hr _ (List.getElem_mem hq)) (by omega) (fun v c p h1 h2 h3 h4 h5 h6 => hg v c p h1 h2 (by omega) (by omega) (by omega) (fun e => h6 (by rw [e]; rfl))))]
theorem putG_id (g : Int → Int → Bool → Option Tm) (t : Tm) (b : Int) (pl : Bool) (hr : t.rightB = true) (hb : 0 ≤ b) (hg : ∀ (v c : Int) (p : Bool), 0 ≤ v → v ≤ 2147483647 → b ≤ c → c ≤ b + 2 * (t.deep : Int) → v < t.freeN + c - b → g v c p = some (varT v)) : t.putG g b pl = some t := by
  have h1 := each_stays (fun v _ => some v) t b hr hb (fun _ _ _ _ _ _ => rfl)
  rw [each_putG _ t b pl] at h1
  rw [putG_congr g _ t b pl hr hb (fun v c p h1 h2 h3 h4 h5 => hg v c p h1 h2 h3 h4 h5)]
  exact h1
theorem liftG_each (k : Int) (t : Tm) (b : Int) (pl : Bool) : t.putG (liftG k) b pl = t.each (liftF k 0) b := (each_putG (liftF k 0) t b pl).symm
theorem var_putG (g : Int → Int → Bool → Option Tm) (v b : Int) (pl : Bool) : (varT v).putG g b pl = g v b pl := Tm.putG_var _ _ _ _ rfl
theorem var_right {v : Int} (h0 : 0 ≤ v) (h1 : v ≤ 2147483647) : (varT v).markedB = true ∧ (varT v).plainB = true ∧ (varT v).rightB = true := by
  have hnode : (varT v).nodeB = true := by simp [Tm.nodeB, mk_k, mk_i, mk_j, mk_n, mk_kids, numbersN, kidsN, h0, h1]
  have a1 := var_sorts hnode rfl
  exact ⟨a1.1, a1.2, marked_right a1.1⟩

/-- Lifted by e, and, beneath what that passes, by b. -/
theorem lift_at (e b : Int) (he : 0 ≤ e) (hb : 0 ≤ b) (t : Tm) (c : Int) (pl : Bool) : (t.putG (liftG e) c pl).bind (fun x => x.putG (liftG b) (c + e) pl) = t.putG (liftG (e + b)) c pl := by
  rw [putG_putG]
  refine congrArg (fun g => t.putG g c pl) (funext fun v => funext fun d => funext fun p => ?_)
  by_cases h : v - d < 0
  · have l1 : liftG e v d p = some (varT v) := by unfold liftG liftF; rw [if_pos h]; rfl
    have l2 : liftG (e + b) v d p = some (varT v) := by unfold liftG liftF; rw [if_pos h]; rfl
    have l3 : liftG b v (d + e) p = some (varT v) := by unfold liftG liftF; rw [if_pos (by omega)]; rfl
    rw [l1, l2, Option.bind_some, var_putG, l3]
  · by_cases h1 : e > 2147483647 - v
    · have l1 : liftG e v d p = none := by unfold liftG liftF; rw [if_neg h, if_pos h1]; rfl
      have l2 : liftG (e + b) v d p = none := by unfold liftG liftF; rw [if_neg h, if_pos (by omega)]; rfl
      rw [l1, l2]; rfl
    · have l1 : liftG e v d p = some (varT (v + e)) := by unfold liftG liftF; rw [if_neg h, if_neg h1]; rfl
      rw [l1, Option.bind_some, var_putG]
      by_cases h2 : b > 2147483647 - (v + e)
      · have l2 : liftG (e + b) v d p = none := by unfold liftG liftF; rw [if_neg h, if_pos (by omega)]; rfl
        have l3 : liftG b (v + e) (d + e) p = none := by unfold liftG liftF; rw [if_neg (by omega), if_pos h2]; rfl
        rw [l2, l3]
      · have l2 : liftG (e + b) v d p = some (varT (v + (e + b))) := by unfold liftG liftF; rw [if_neg h, if_neg (by omega)]; rfl
        have l3 : liftG b (v + e) (d + e) p = some (varT (v + e + b)) := by unfold liftG liftF; rw [if_neg (by omega), if_neg h2]; rfl
        rw [l2, l3, Int.add_assoc]

theorem bareIf_right {u : Tm} (hu : u.rightB = true) (pl : Bool) : (if pl = true then u.bare else u).rightB = true := by
  cases pl with
  | true => exact plain_right (bare_plain u hu)
  | false => exact hu
theorem bareIf_free {u : Tm} (hu : u.rightB = true) (pl : Bool) : (if pl = true then u.bare else u).freeN ≤ u.freeN := by
  cases pl with
  | true => exact bare_free u hu
  | false => exact Int.le_refl _
theorem bareIf_deep (u : Tm) (pl : Bool) : (if pl = true then u.bare else u).deep ≤ u.deep := by
  cases pl with
  | true => exact bare_deep u
  | false => exact Nat.le_refl _
theorem lift_zero {t : Tm} (hr : t.rightB = true) : t.each (liftF 0 0) 0 = some t := by
  refine each_stays _ t 0 hr (Int.le_refl _) (fun v b h1 h2 _ _ => ?_)
  unfold liftF
  split
  · rfl
  · rw [if_neg (by omega)]; simp

/-- Something comes where all is small. -/
theorem gPut_some {u : Tm} (hu : u.rightB = true) (hf : u.freeN ≤ 1048576) (hd : u.deep ≤ 100000) (v c : Int) (p : Bool) (h0 : 0 ≤ c) (h1 : c ≤ 1048576) : (gPut u v c p).isSome = true := by
  unfold gPut
  split
  · rfl
  · split
    · obtain ⟨x, hx⟩ := lift_comes (t := if p = true then u.bare else u) (k := c) (c := 0) h0 h1 (bareIf_right hu p) (by have := bareIf_free hu p; omega) (Nat.le_trans (bareIf_deep u p) hd)
      rw [hx]; rfl
    · rfl
theorem put_comes {t u : Tm} (hr : t.rightB = true) (hu : u.rightB = true) (hf : u.freeN ≤ 1048576) (hdt : t.deep ≤ 100000) (hd : u.deep ≤ 100000) (pl : Bool) : ∃ x, t.putG (gPut u) 0 pl = some x :=
  Option.isSome_iff_exists.1 (putG_some _ t 0 pl hr (Int.le_refl _) (fun v c p _ _ h3 h4 _ => gPut_some hu hf hd v c p h3 (by omega)))

/-! What comes is of the sort of what was there. -/
theorem plains_all {l : List Tm} : (∀ x ∈ l, x.plainB = true) → plains l = true := by
  induction l with
  | nil => intro _; simp [plains]
  | cons a r ih =>
    intro h
    simp only [plains, Bool.and_eq_true]
    exact ⟨h a (List.mem_cons_self ..), ih (fun x hx => h x (List.mem_cons_of_mem _ hx))⟩
theorem markeds_get {tr : Bool} : ∀ {l : List Tm} {p : Nat}, markeds tr p l = true → ∀ q (h : q < l.length), (if (tr && p + q == 2) = true then (l[q]).plainB else (l[q]).markedB) = true
  | [], p, _, q, h => by simp at h
  | a :: r, p, hm, q, h => by
    simp only [markeds] at hm
    replace hm := Bool.and_eq_true_iff.1 hm
    cases q with
    | zero => simp only [List.getElem_cons_zero, Nat.add_zero]; exact hm.1
    | succ q =>
      have := markeds_get hm.2 q (by simpa using h)
      rw [show p + 1 + q = p + (q + 1) by omega] at this
      simp only [List.getElem_cons_succ]; exact this
theorem markeds_put {tr : Bool} : ∀ {l : List Tm} {p : Nat}, (∀ q (h : q < l.length), (if (tr && p + q == 2) = true then (l[q]).plainB else (l[q]).markedB) = true) → markeds tr p l = true
  | [], p, _ => by simp [markeds]
  | a :: r, p, h => by
    simp only [markeds]
    have h0 := h 0 (by simp)
    simp only [List.getElem_cons_zero, Nat.add_zero] at h0
    refine Bool.and_eq_true_iff.2 ⟨h0, markeds_put (fun q hq => ?_)⟩
    have := h (q + 1) (by simpa using hq)
    simp only [List.getElem_cons_succ] at this
    rw [show p + 1 + q = p + (q + 1) by omega]
    exact this
theorem node_same {t : Tm} {m : List Tm} (h : m.length = t.kids.length) : (Tm.mk t.k t.i t.j t.n m).nodeB = t.nodeB := by
  show (((m.length : Int) == kidsN t.k t.n) && numbersN t.k t.i t.j t.n) = _
  rw [h]; rfl
theorem putG_plainT (g : Int → Int → Bool → Option Tm) (hg : ∀ v c x, 0 ≤ v → v ≤ 2147483647 → 0 ≤ c → g v c true = some x → x.plainB = true) (t : Tm) : ∀ b x, 0 ≤ b → t.plainB = true → t.putG g b true = some x → x.plainB = true := by
  induction t using Tm.ind with
  | h t ih =>
    intro b x hb hp hx
    have hr := plain_right hp
    by_cases hk : t.k = 2
    · rw [Tm.putG_var _ _ _ _ hk] at hx
      have hv := t.right_var hr hk
      exact hg _ _ _ hv.1 hv.2 hb hx
    · rw [Tm.putG_node _ _ _ _ hk] at hx
      simp only [Option.map_eq_some_iff] at hx
      obtain ⟨m, hm, rfl⟩ := hx
      have hlen := optK_length hm
      have hall : ∀ y ∈ m, y.plainB = true := fun y hy => by
        obtain ⟨q, hq, rfl⟩ := List.getElem_of_mem hy
        have hq' : q < t.kids.length := by omega
        have := optK_get hm q hq' hq
        have hbd := binds_range t.k q
        rw [Nat.zero_add, Bool.true_or] at this
        exact ih _ (List.getElem_mem hq') _ _ (by omega) (plain_kids hp _ (List.getElem_mem hq')) this
      rw [Tm.plainB_eq] at hp ⊢
      rw [node_same hlen, mk_kids, plains_all hall, mk_k]
      simp only [Bool.and_eq_true] at hp ⊢
      exact ⟨hp.1, hp.2.1, trivial⟩
theorem putG_markedT (g : Int → Int → Bool → Option Tm) (hg : ∀ v c x, 0 ≤ v → v ≤ 2147483647 → 0 ≤ c → g v c true = some x → x.plainB = true) (hgm : ∀ v c x, 0 ≤ v → v ≤ 2147483647 → 0 ≤ c → g v c false = some x → x.markedB = true) (t : Tm) :
    ∀ b x, 0 ≤ b → t.markedB = true → t.putG g b false = some x → x.markedB = true := by
  induction t using Tm.ind with
  | h t ih =>
    intro b x hb hp hx
    have hr := marked_right hp
    by_cases hk : t.k = 2
    · rw [Tm.putG_var _ _ _ _ hk] at hx
      have hv := t.right_var hr hk
      exact hgm _ _ _ hv.1 hv.2 hb hx
    · rw [Tm.putG_node _ _ _ _ hk] at hx
      simp only [Option.map_eq_some_iff] at hx
      obtain ⟨m, hm, rfl⟩ := hx
      have hlen := optK_length hm
      rw [Tm.markedB_eq] at hp ⊢
      simp only [Bool.and_eq_true] at hp
      have hmk := markeds_get hp.2.2
      have hnew : markeds (t.k == 12) 0 m = true := markeds_put (fun q hq => by
        have hq' : q < t.kids.length := by omega
        have h1 := optK_get hm q hq' hq
        have h2 := hmk q hq'
        have hbd := binds_range t.k q
        rw [Nat.zero_add] at h1 h2 ⊢
        cases hf : (t.k == 12 && q == 2) with
        | true =>
          rw [hf] at h1 h2
          rw [if_pos rfl] at h2 ⊢
          exact putG_plainT g hg _ _ _ (by omega) h2 h1
        | false =>
          rw [hf] at h1 h2
          rw [if_neg (by decide)] at h2 ⊢
          exact ih _ (List.getElem_mem hq') _ _ (by omega) h2 h1)
      rw [node_same hlen, mk_kids, mk_k, hnew]
      simp only [Bool.and_eq_true]
      exact ⟨hp.1, hp.2.1, trivial⟩
theorem gPut_plain {u : Tm} (hu : u.rightB = true) : ∀ v c x, 0 ≤ v → v ≤ 2147483647 → 0 ≤ c → gPut u v c true = some x → x.plainB = true := by
  intro v c x h0 h1 hc hx
  unfold gPut at hx
  split at hx
  · cases hx; exact (var_right h0 h1).2.1
  · split at hx
    · rw [if_pos rfl] at hx
      have hp := bare_plain u hu
      rw [(each_keeps _ (liftF_range c 0 hc) _ 0 x (plain_right hp) hx).2.1]; exact hp
    · cases hx; exact (var_right (by omega) (by omega)).2.1
theorem gPut_marked {u : Tm} (hu : u.markedB = true) : ∀ v c x, 0 ≤ v → v ≤ 2147483647 → 0 ≤ c → gPut u v c false = some x → x.markedB = true := by
  intro v c x h0 h1 hc hx
  unfold gPut at hx
  split at hx
  · cases hx; exact (var_right h0 h1).1
  · split at hx
    · rw [if_neg (by decide)] at hx
      rw [(each_keeps _ (liftF_range c 0 hc) _ 0 x (marked_right hu) hx).1]; exact hu
    · cases hx; exact (var_right (by omega) (by omega)).1
theorem putG_kind {g : Int → Int → Bool → Option Tm} {t x : Tm} {b : Int} {pl : Bool} (hk : t.k ≠ 2) (h : t.putG g b pl = some x) : x.k = t.k := by
  rw [Tm.putG_node _ _ _ _ hk] at h
  simp only [Option.map_eq_some_iff] at h
  obtain ⟨m, -, rfl⟩ := h
  rfl
theorem each_kind {f : Int → Int → Option Int} {t x : Tm} {b : Int} (h : t.each f b = some x) : x.k = t.k := by
  by_cases hk : t.k = 2
  · rw [Tm.each_var _ _ _ hk] at h
    simp only [Option.map_eq_some_iff] at h
    obtain ⟨v, -, rfl⟩ := h
    exact hk.symm
  · rw [Tm.each_node _ _ _ hk] at h
    simp only [Option.map_eq_some_iff] at h
    obtain ⟨m, -, rfl⟩ := h
    rfl

/-! What is free in what comes. -/
theorem frees_bound (k : Int) (B : Int) (hB : 0 ≤ B) : ∀ (l : List Tm) (p : Nat), (∀ q (h : q < l.length), (l[q]).freeN - bindsN k ((p + q : Nat) : Int) ≤ B) → frees k p l ≤ B
  | [], p, _ => by simp [frees]; omega
  | a :: r, p, h => by
    have h0 := h 0 (by simp)
    simp only [List.getElem_cons_zero, Nat.add_zero] at h0
    have h1 := frees_bound k B hB r (p + 1) (fun q hq => by have := h (q + 1) (by simpa using hq); rw [show p + 1 + q = p + (q + 1) by omega]; simpa using this)
    simp only [frees]; omega
theorem putG_free {u : Tm} (hu : u.rightB = true) (t : Tm) : ∀ b pl x, t.rightB = true → 0 ≤ b → t.putG (gPut u) b pl = some x → x.freeN ≤ max (t.freeN - 1) (u.freeN + b) := by
  have hu0 := (u.free_range hu).1
  induction t using Tm.ind with
  | h t ih =>
    intro b pl x hr hb hx
    by_cases hk : t.k = 2
    · rw [Tm.putG_var _ _ _ _ hk] at hx
      have hf : t.freeN = t.i + 1 := by rw [t.freeN_eq, if_pos hk]
      have hv : ∀ v, (varT v).freeN = v + 1 := fun v => by rw [Tm.freeN_eq]; rfl
      unfold gPut at hx
      split at hx
      · cases hx; rw [hv]; omega
      · split at hx
        · have h1 := bareIf_free hu pl
          have h3 := bareIf_right hu pl
          generalize (if pl = true then u.bare else u) = W at hx h1 h3
          have h2 := (W.free_range h3).1
          rw [lift_free b hb _ 0 x (Int.le_refl _) h3 hx]
          split <;> omega
        · cases hx; rw [hv]; omega
    · rw [Tm.putG_node _ _ _ _ hk] at hx
      simp only [Option.map_eq_some_iff] at hx
      obtain ⟨m, hm, rfl⟩ := hx
      have hlen := optK_length hm
      have hf : t.freeN = frees t.k 0 t.kids := by rw [t.freeN_eq, if_neg hk]
      rw [Tm.freeN_eq, if_neg (by exact hk)]
      refine frees_bound _ _ (by omega) _ _ (fun q hq => ?_)
      have hq' : q < t.kids.length := by have : q < m.length := hq; omega
      have h1 := optK_get hm q hq' hq
      have hbd := binds_range t.k q
      have hfq := frees_get t.k t.kids 0 q hq'
      rw [Nat.zero_add] at h1 hfq ⊢
      have := ih _ (List.getElem_mem hq') _ _ _ (t.right_kids hr _ (List.getElem_mem hq')) (by omega) h1
      simp only [mk_k, mk_kids]
      omega

/-! Two substitutions. -/
theorem gPut_bare {w : Tm} (hw : w.rightB = true) : ∀ v b pl x, 0 ≤ v → v ≤ 2147483647 → gPut w v b pl = some x → gPut w v b true = some x.bare := by
  intro v b pl x _ _ hx
  unfold gPut at hx ⊢
  split at hx
  · rename_i h; rw [if_pos h]; cases hx; rw [Tm.bare_eq]; rfl
  · rename_i h
    rw [if_neg h]
    split at hx
    · rename_i h2
      rw [if_pos h2, if_pos rfl]
      cases pl with
      | false => exact bare_each _ w 0 x hw hx
      | true =>
        rw [if_pos rfl] at hx
        rw [← bare_bare w hw]
        exact bare_each _ w.bare 0 x (plain_right (bare_plain w hw)) hx
    · rename_i h2; rw [if_neg h2]; cases hx; rw [Tm.bare_eq]; rfl
/-- Lifted by b, and put into beneath b: put into, and lifted. -/
theorem lift_put {u w : Tm} (hu : u.rightB = true) (b : Int) (hb : 0 ≤ b) (hb2 : b ≤ 1048576) (hfu : u.freeN ≤ 1048576) (hdu : u.deep ≤ 100000) (pl : Bool) :
    (u.each (liftF b 0) 0).bind (fun x => x.putG (gPut w) b pl) = (u.putG (gPut w) 0 pl).bind fun y => y.each (liftF b 0) 0 := by
  have e1 := putG_putG (liftG b) (gPut w) b u 0 pl
  have e2 := putG_putG (gPut w) (liftG b) 0 u 0 pl
  rw [liftG_each, Int.zero_add] at e1
  rw [Int.add_zero] at e2
  have e3 : (u.putG (gPut w) 0 pl).bind (fun y => y.each (liftF b 0) 0) = (u.putG (gPut w) 0 pl).bind (fun y => y.putG (liftG b) 0 pl) := by
    refine congrArg (fun f => (u.putG (gPut w) 0 pl).bind f) (funext fun y => ?_)
    rw [liftG_each]
  rw [e1, e3, e2]
  refine putG_congr _ _ u 0 pl hu (Int.le_refl _) (fun v c p h0 h1 h2 h3 h4 => ?_)
  have hdi : (u.deep : Int) ≤ 100000 := by omega
  rw [Int.add_zero]
  by_cases hv : v < c
  · have l1 : liftG b v c p = some (varT v) := by unfold liftG liftF; rw [if_pos (by omega)]; rfl
    have l2 : gPut w v c p = some (varT v) := by unfold gPut; rw [if_pos hv]
    have l3 : gPut w v (c + b) p = some (varT v) := by unfold gPut; rw [if_pos (by omega)]
    rw [l1, l2, Option.bind_some, Option.bind_some, var_putG, var_putG, l3, l1]
  · have l1 : liftG b v c p = some (varT (v + b)) := by unfold liftG liftF; rw [if_neg (by omega), if_neg (by omega)]; rfl
    rw [l1, Option.bind_some, var_putG]
    by_cases he : v = c
    · have l2 : gPut w v c p = (if p = true then w.bare else w).each (liftF c 0) 0 := by unfold gPut; rw [if_neg hv, if_pos he]
      have l3 : gPut w (v + b) (c + b) p = (if p = true then w.bare else w).each (liftF (c + b) 0) 0 := by unfold gPut; rw [if_neg (by omega), if_pos (by omega)]
      rw [l2, l3, ← liftG_each c _ 0 p, ← liftG_each (c + b) _ 0 p, ← lift_at c b (by omega) hb _ 0 p, Int.zero_add]
    · have l2 : gPut w v c p = some (varT (v - 1)) := by unfold gPut; rw [if_neg hv, if_neg he]
      have l3 : gPut w (v + b) (c + b) p = some (varT (v + b - 1)) := by unfold gPut; rw [if_neg (by omega), if_neg (by omega)]
      have l4 : liftG b (v - 1) c p = some (varT (v - 1 + b)) := by unfold liftG liftF; rw [if_neg (by omega), if_neg (by omega)]; rfl
      rw [l2, l3, Option.bind_some, var_putG, l4]
      congr 2; omega
end Go.Proofs.Ytmhmengbhdaodaa
