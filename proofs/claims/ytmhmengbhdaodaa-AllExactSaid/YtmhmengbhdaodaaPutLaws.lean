/-
  What the laws of layer 7 say, and that of layer 8 on what is put, on plain trees.
-/
import Derived.Test.YtmhmengbhdaodaaPutFacts
namespace Go.Proofs.Ytmhmengbhdaodaa

theorem may_right {t u : Tm} (h : mayB t u = true) : u.rightB = true := by unfold mayB at h; simp only [Bool.and_eq_true] at h; exact h.1
theorem putB_good {t u x : Tm} (hr : t.rightB = true) (hm : mayB t u = true) (hx : t.putG (gPut u) 0 (decide (12 < t.k)) = some x) : t.putB u = x := by
  unfold Tm.putB; rw [if_pos ⟨hr, hm⟩, hx]; rfl
theorem may_marked {t u : Tm} (h : u.markedB = true) : mayB t u = true := by unfold mayB; rw [marked_right h, h]; simp
theorem may_plain {t u : Tm} (h : u.rightB = true) (hp : t.plainB = true) : mayB t u = true := by unfold mayB; rw [h, hp]; simp
theorem may_need {t u : Tm} (h : mayB t u = true) (h3 : 3 ≤ t.k) (h12 : t.k ≤ 12) : u.markedB = true := by
  unfold mayB at h
  have hp : t.plainB = false := by
    cases hp : t.plainB with
    | false => rfl
    | true => have := plain_kind hp; omega
  have e1 : (t.k == 1) = false := by simp; omega
  have e2 : (t.k == 2) = false := by simp; omega
  rw [hp, e1, e2] at h
  simpa using (Bool.and_eq_true _ _ ▸ h).2

theorem putB_lift {t u : Tm} (hr : t.rightB = true) (hm : mayB t u = true) (hf : t.freeN ≤ 1048576) (hd : t.deep ≤ 100000) : (t.liftB 1 0).putB u = t := by
  obtain ⟨x, hx⟩ := lift_comes (t := t) (k := 1) (c := 0) (by omega) (by omega) hr (by omega) hd
  obtain ⟨k1, k2, -⟩ := each_keeps _ (liftF_range 1 0 (by omega)) t 0 x hr hx
  have hk := each_kind hx
  have hxr := right_each _ (liftF_range 1 0 (by omega)) t 0 x hr hx
  rw [liftB_good (by omega) (Int.le_refl _) hr, hx, Option.getD_some]
  have hmx : mayB x u = true := by unfold mayB at hm ⊢; rw [hk, k2]; exact hm
  refine putB_good hxr hmx ?_
  rw [hk]
  have e := putG_putG (liftG 1) (gPut u) 0 t 0 (decide (12 < t.k))
  rw [liftG_each, hx, Option.bind_some, Int.add_zero] at e
  rw [e]
  refine putG_id _ t 0 _ hr (Int.le_refl _) (fun v c p h0 h1 h2 h3 h4 => ?_)
  have hdi : (t.deep : Int) ≤ 100000 := by omega
  rw [Int.add_zero]
  by_cases hv : v < c
  · have l1 : liftG 1 v c p = some (varT v) := by unfold liftG liftF; rw [if_pos (by omega)]; rfl
    rw [l1, Option.bind_some, var_putG]; unfold gPut; rw [if_pos hv]
  · have l1 : liftG 1 v c p = some (varT (v + 1)) := by unfold liftG liftF; rw [if_neg (by omega), if_neg (by omega)]; rfl
    rw [l1, Option.bind_some, var_putG]; unfold gPut; rw [if_neg (by omega), if_neg (by omega)]
    congr 2; omega

def varsT (n : Nat) : List Tm := (List.range n).map fun (i : Nat) => varT (i : Int)
theorem varsT_length (n : Nat) : (varsT n).length = n := by simp [varsT]
theorem varsT_succ (n : Nat) : varsT (n + 1) = varsT n ++ [varT (n : Int)] := by simp [varsT, List.range_succ]
theorem varsT_get {n N : Nat} (h : n < N) : (varsT N)[n]? = some (varT (n : Int)) := by simp [varsT, h]
theorem bare_var (v : Int) : (varT v).bare = varT v := by rw [Tm.bare_eq]; rfl
theorem var_lifted {n c : Int} (p : Bool) (h0 : 0 ≤ n) (h1 : n + c ≤ 2147483647) : (if p = true then (varT n).bare else varT n).each (liftF c 0) 0 = some (varT (n + c)) := by
  have e : (if p = true then (varT n).bare else varT n) = varT n := by rw [bare_var]; cases p <;> rfl
  rw [e, Tm.each_var _ _ _ rfl]
  simp only [mk_i]
  unfold liftF
  rw [if_neg (by omega), if_neg (by omega)]; rfl
theorem vars_may (t : Tm) {n : Nat} (hn : n ≤ 1000) : (varsT n).all (mayB t) = true := by
  rw [List.all_eq_true]
  intro x hx
  obtain ⟨i, hi, rfl⟩ := List.mem_map.1 hx
  have := List.mem_range.1 hi
  exact may_marked (var_right (v := (i : Int)) (by omega) (by omega)).1
theorem gAll_in {l : List Tm} {x : Tm} {v c : Int} {n : Nat} (p : Bool) (hv : ¬ v < c) (hn : v - c = n) (hx : l[n]? = some x) : gAll l v c p = (if p = true then x.bare else x).each (liftF c 0) 0 := by
  unfold gAll
  rw [if_neg hv, hn, Int.toNat_natCast, hx, Option.bind_some]

/-- One put is all put. -/
theorem allB_put {t u : Tm} (hr : t.rightB = true) (hm : mayB t u = true) (hf : t.freeN ≤ 100) (hfu : u.freeN ≤ 1048576) (hdt : t.deep ≤ 100000) (hdu : u.deep ≤ 100000) : t.allB (u :: varsT 100) = some (t.putB u) := by
  have hu := may_right hm
  obtain ⟨x, hx⟩ := put_comes hr hu hfu hdt hdu (decide (12 < t.k))
  rw [putB_good hr hm hx]
  unfold Tm.allB
  rw [if_pos ⟨hr, by rw [List.all_cons, hm, vars_may t (by omega)]; rfl⟩, ← hx]
  refine putG_congr _ _ t 0 _ hr (Int.le_refl _) (fun v c p h0 h1 h2 h3 h4 => ?_)
  have hdi : (t.deep : Int) ≤ 100000 := by omega
  unfold gPut
  by_cases hv : v < c
  · unfold gAll; rw [if_pos hv, if_pos hv]
  · by_cases he : v = c
    · rw [if_neg hv, if_pos he, gAll_in (n := 0) p hv (by omega) rfl]
    · obtain ⟨n, hn⟩ : ∃ n : Nat, v - c = (n + 1 : Nat) := ⟨(v - c - 1).toNat, by omega⟩
      rw [if_neg hv, if_neg he, gAll_in (n := n + 1) p hv hn (by rw [List.getElem?_cons_succ]; exact varsT_get (by omega)), var_lifted p (by omega) (by omega)]
      congr 2; omega

/-- What comes is right. -/
theorem put_sorts {u w y : Tm} (hu : u.rightB = true) (hm : mayB u w = true) (hy : u.putG (gPut w) 0 (decide (12 < u.k)) = some y) : y.rightB = true ∧ (u.markedB = true → w.markedB = true → y.markedB = true) ∧ (12 < u.k → y.plainB = true) := by
  have hw := may_right hm
  have hk := Tm.node_kind (u.right_node hu)
  by_cases h12 : 12 < u.k
  · have hp := right_of_kind hu h12
    have e : decide (12 < u.k) = true := by simpa using h12
    rw [e] at hy
    have hyp := putG_plainT _ (gPut_plain hw) u 0 y (Int.le_refl _) hp hy
    refine ⟨plain_right hyp, fun h => ?_, fun _ => hyp⟩
    have := marked_kind h; omega
  · have e : decide (12 < u.k) = false := by simpa using h12
    rw [e] at hy
    have hmk : u.markedB = true := by
      by_cases h2 : u.k ≤ 2
      · have hs := sorts_two (u.right_node hu) h2
        have h3 := hs.1
        unfold Tm.sortsN at h3
        cases hm : u.markedB <;> cases hp : u.plainB <;> simp [hm, hp] at h3 ⊢
      · rcases right_cases hu with hp | ⟨hm, -⟩
        · have := plain_kind hp; omega
        · exact hm
    cases hwm : w.markedB with
    | true =>
      have := putG_markedT _ (gPut_plain hw) (gPut_marked hwm) u 0 y (Int.le_refl _) hmk hy
      exact ⟨marked_right this, fun _ _ => this, fun h => absurd h h12⟩
    | false =>
      have h2 : u.k ≤ 2 := by
        cases Int.decLt 2 u.k with
        | isTrue h => have := may_need hm (by omega) (by omega); rw [hwm] at this; cases this
        | isFalse h => omega
      refine ⟨?_, (fun _ h => by cases h), fun h => absurd h h12⟩
      by_cases hk2 : u.k = 2
      · have hv := u.right_var hu hk2
        rw [Tm.putG_var _ _ _ _ hk2] at hy
        unfold gPut at hy
        rw [if_neg (by omega)] at hy
        split at hy
        · rw [if_neg (by decide), lift_zero hw] at hy; cases hy; exact hw
        · cases hy; exact (var_right (by omega) (by omega)).2.2
      · rw [Tm.putG_node _ _ _ _ hk2, (sorts_two (u.right_node hu) h2).2] at hy
        cases hy
        have e : Tm.mk u.k u.i u.j u.n [] = u := by rw [← (sorts_two (u.right_node hu) h2).2]; exact u.eta
        show (Tm.mk u.k u.i u.j u.n []).rightB = true
        rw [e]; exact hu

/-- Two put one behind the other are put at once. -/
theorem put_twice {t u w x : Tm} (hr : t.rightB = true) (h1 : mayB t u = true) (h2 : mayB t w = true) (h3 : mayB u w = true) (hft : t.freeN ≤ 100) (hfu : u.freeN ≤ 1048576) (hfw : w.freeN ≤ 1048576)
    (hdt : t.deep ≤ 100000) (hdu : u.deep ≤ 100000) (hdw : w.deep ≤ 100000) (hx : t.putB u = x) (hxr : x.rightB = true) (hmx : mayB x w = true) (hdx : x.deep ≤ 100000) : t.allB (u.putB w :: w :: varsT 100) = some (x.putB w) := by
  have hu := may_right h1
  have hw := may_right h2
  obtain ⟨x', hx'⟩ := put_comes hr hu hfu hdt hdu (decide (12 < t.k))
  obtain rfl : x' = x := (putB_good hr h1 hx').symm.trans hx
  obtain ⟨y, hy⟩ := put_comes hu hw hfw hdu hdw (decide (12 < u.k))
  obtain ⟨z, hz⟩ := put_comes hxr hw hfw hdx hdw (decide (12 < x'.k))
  obtain ⟨hyr, hym, -⟩ := put_sorts hu h3 hy
  rw [putB_good hu h3 hy, putB_good hxr hmx hz]
  have hmy : mayB t y = true := by
    have hk := Tm.node_kind (t.right_node hr)
    by_cases hc : 3 ≤ t.k ∧ t.k ≤ 12
    · exact may_marked (hym (may_need h1 hc.1 hc.2) (may_need h2 hc.1 hc.2))
    · rw [← fits_may y hr]; unfold fitsB; rw [if_pos (by omega)]; exact hyr
  unfold Tm.allB
  rw [if_pos ⟨hr, by rw [List.all_cons, List.all_cons, hmy, h2, vars_may t (by omega)]; rfl⟩]
  by_cases hk2 : t.k = 2
  · have hv := t.right_var hr hk2
    have hfr : t.freeN = t.i + 1 := by rw [t.freeN_eq, if_pos hk2]
    have e : decide (12 < t.k) = false := by rw [hk2]; decide
    rw [e, Tm.putG_var _ _ _ _ hk2] at hx'
    rw [e, Tm.putG_var _ _ _ _ hk2]
    unfold gPut at hx'
    rw [if_neg (by omega)] at hx'
    by_cases h0 : t.i = 0
    · rw [if_pos h0, if_neg (by decide), lift_zero hu] at hx'
      cases hx'
      rw [hy] at hz
      cases hz
      rw [gAll_in (n := 0) false (by omega) (by omega) rfl, if_neg (by decide)]
      exact lift_zero hyr
    · rw [if_neg h0] at hx'
      cases hx'
      rw [show decide (12 < (varT (t.i - 1)).k) = false from rfl, var_putG] at hz
      unfold gPut at hz
      rw [if_neg (by omega)] at hz
      by_cases h1' : t.i = 1
      · rw [if_pos (by omega), if_neg (by decide), lift_zero hw] at hz
        cases hz
        rw [gAll_in (n := 1) false (by omega) (by omega) rfl, if_neg (by decide)]
        exact lift_zero hw
      · rw [if_neg (by omega)] at hz
        cases hz
        obtain ⟨n, hn⟩ : ∃ n : Nat, t.i - 0 = (n + 1 + 1 : Nat) := ⟨(t.i - 2).toNat, by omega⟩
        rw [gAll_in (n := n + 1 + 1) false (by omega) hn (by rw [List.getElem?_cons_succ, List.getElem?_cons_succ]; exact varsT_get (by omega)), var_lifted false (by omega) (by omega)]
        congr 2; omega
  · rw [putG_kind hk2 hx'] at hz
    have e := putG_putG (gPut u) (gPut w) 0 t 0 (decide (12 < t.k))
    rw [hx', Option.bind_some, Int.add_zero, hz] at e
    rw [e]
    refine putG_congrF _ _ t 0 _ hr (Int.le_refl _) (fun v c p q0 q1 q2 q3 q4 q5 => ?_)
    have hdi : (t.deep : Int) ≤ 100000 := by omega
    rw [Int.add_zero]
    by_cases hv : v < c
    · have l1 : ∀ a : Tm, gPut a v c p = some (varT v) := fun a => by unfold gPut; rw [if_pos hv]
      rw [l1, Option.bind_some, var_putG, l1]; unfold gAll; rw [if_pos hv]
    · by_cases he : v = c
      · have l1 : gPut u v c p = (if p = true then u.bare else u).each (liftF c 0) 0 := by unfold gPut; rw [if_neg hv, if_pos he]
        rw [l1, lift_put (bareIf_right hu p) c (by omega) (by omega) (by have := bareIf_free hu p; omega) (Nat.le_trans (bareIf_deep u p) hdu) p]
        have l2 : (if p = true then u.bare else u).putG (gPut w) 0 p = some (if p = true then y.bare else y) := by
          cases p with
          | true => exact bare_putG _ _ (gPut_bare hw) u 0 _ y hu hy
          | false =>
            have hF : decide (12 < t.k) = false := by
              cases hF : decide (12 < t.k) with
              | false => rfl
              | true => have := q5 hF; cases this
            have hk12 : ¬ 12 < t.k := by simpa using hF
            have hk := Tm.node_kind (t.right_node hr)
            by_cases hk1 : t.k = 1
            · have hn : t.kids = [] := (sorts_two (t.right_node hr) (by omega)).2
              have : t.freeN = 0 := by rw [t.freeN_eq, if_neg hk2, hn]; simp [frees]
              omega
            · have hum := marked_kind (may_need h1 (by omega) (by omega))
              have : decide (12 < u.k) = false := by simp; omega
              rw [this] at hy
              exact hy
        rw [l2, Option.bind_some, gAll_in (n := 0) p hv (by omega) rfl]
      · have l1 : gPut u v c p = some (varT (v - 1)) := by unfold gPut; rw [if_neg hv, if_neg he]
        rw [l1, Option.bind_some, var_putG]
        by_cases he2 : v = c + 1
        · have l2 : gPut w (v - 1) c p = (if p = true then w.bare else w).each (liftF c 0) 0 := by unfold gPut; rw [if_neg (by omega), if_pos (by omega)]
          rw [l2, gAll_in (n := 1) p hv (by omega) rfl]
        · have l2 : gPut w (v - 1) c p = some (varT (v - 1 - 1)) := by unfold gPut; rw [if_neg (by omega), if_neg (by omega)]
          obtain ⟨n, hn⟩ : ∃ n : Nat, v - c = (n + 1 + 1 : Nat) := ⟨(v - c - 2).toNat, by omega⟩
          rw [l2, gAll_in (n := n + 1 + 1) p hv hn (by rw [List.getElem?_cons_succ, List.getElem?_cons_succ]; exact varsT_get (by omega)), var_lifted p (by omega) (by omega)]
          congr 2; omega

/-! Put and stripped. -/
theorem putG_indep (g : Int → Int → Bool → Option Tm) (hg : ∀ v b p p', g v b p = g v b p') (t : Tm) : ∀ b pl pl', t.putG g b pl = t.putG g b pl' := by
  induction t using Tm.ind with
  | h t ih =>
    intro b pl pl'
    by_cases hk : t.k = 2
    · rw [Tm.putG_var _ _ _ _ hk, Tm.putG_var _ _ _ _ hk]; exact hg _ _ _ _
    · rw [Tm.putG_node _ _ _ _ hk, Tm.putG_node _ _ _ _ hk]
      rw [optK_congr (g' := fun q x => x.putG g (b + bindsN t.k q) (pl' || (t.k == 12 && q == 2))) t.kids 0 (fun q hq => ih _ (List.getElem_mem hq) _ _ _)]
theorem gPut_bare' {u : Tm} (hu : u.rightB = true) : ∀ v b pl x, 0 ≤ v → v ≤ 2147483647 → gPut u v b pl = some x → gPut u.bare v b true = some x.bare := by
  intro v b pl x h0 h1 hx
  have := gPut_bare hu v b pl x h0 h1 hx
  unfold gPut at this ⊢
  simp only [if_true] at this ⊢
  rw [bare_bare u hu]; exact this
theorem gPut_bare_indep {u : Tm} (hu : u.rightB = true) : ∀ v b p p', gPut u.bare v b p = gPut u.bare v b p' := by
  intro v b p p'
  have e : ∀ p : Bool, (if p = true then u.bare.bare else u.bare) = u.bare := fun p => by rw [bare_bare u hu]; cases p <;> rfl
  unfold gPut
  rw [e p, e p']
theorem putB_strip {t u : Tm} (ht : t.markedB = true) (hu : u.markedB = true) (hfu : u.freeN ≤ 1048576) (hdt : t.deep ≤ 100000) (hdu : u.deep ≤ 100000) : (t.putB u).stripB = t.stripB.putB u.stripB := by
  have hr := marked_right ht
  have hur := marked_right hu
  obtain ⟨x, hx⟩ := put_comes hr hur hfu hdt hdu (decide (12 < t.k))
  obtain ⟨hxr, -, -⟩ := put_sorts hr (may_marked hu) hx
  have hp := bare_plain t hr
  have hup := bare_plain u hur
  rw [putB_good hr (may_marked hu) hx, stripB_good hxr, stripB_good hr, stripB_good hur]
  refine (putB_good (plain_right hp) (may_plain (plain_right hup) hp) ?_).symm
  rw [putG_indep _ (gPut_bare_indep hur) t.bare 0 _ true]
  exact bare_putG _ _ (gPut_bare' hur) t 0 _ x hr hx

theorem putB_keeps {t u : Tm} (hr : t.rightB = true) (hm : mayB t u = true) (hfu : u.freeN ≤ 1048576) (hdt : t.deep ≤ 100000) (hdu : u.deep ≤ 100000) :
    (t.putB u).rightB = true ∧ (t.markedB = true → u.markedB = true → (t.putB u).markedB = true) ∧ (t.putB u).freeB ≤ max (t.freeB - 1) u.freeB := by
  have hu := may_right hm
  obtain ⟨x, hx⟩ := put_comes hr hu hfu hdt hdu (decide (12 < t.k))
  obtain ⟨hxr, hxm, -⟩ := put_sorts hr hm hx
  rw [putB_good hr hm hx]
  refine ⟨hxr, hxm, ?_⟩
  rw [free_of hxr, free_of hr, free_of hu]
  have := putG_free hu t 0 _ x hr (Int.le_refl _) hx
  omega

/-! Put and erased. -/
theorem pur_var (v : Int) : (varT v).pur = varT v := by rw [Tm.pur_eq]; rfl
theorem pur_putG (f h : Int → Int → Bool → Option Tm) (hfh : ∀ v b x, 0 ≤ v → v ≤ 2147483647 → f v b false = some x → h v b false = some x.pur) (t : Tm) : ∀ b x, t.markedB = true → t.putG f b false = some x → t.pur.putG h b false = some x.pur := by
  induction t using Tm.ind with
  | h t ih =>
    intro b x hm hx
    have hr := marked_right hm
    by_cases hk : t.k = 2
    · rw [Tm.putG_var _ _ _ _ hk] at hx
      have hv := t.right_var hr hk
      have e : t.pur = varT t.i := by rw [right_var_eq hr hk, pur_var]; rfl
      rw [e, var_putG]
      exact hfh _ _ _ hv.1 hv.2 hx
    · rw [Tm.putG_node _ _ _ _ hk] at hx
      simp only [Option.map_eq_some_iff] at hx
      obtain ⟨m, hmm, rfl⟩ := hx
      by_cases h12 : t.k = 12
      · obtain ⟨a, b', p, y, hkids, -, -, -, hy⟩ := marked_tr hm h12
        have hy3 := optK_get hmm 3 (by rw [hkids]; show 3 < 4; omega) (by rw [optK_length hmm, hkids]; show 3 < 4; omega)
        have ht3 : t.kids[3]'(by rw [hkids]; show 3 < 4; omega) = y := by simp [hkids]
        obtain ⟨y', hy'⟩ : ∃ y', m[3]'(by rw [optK_length hmm, hkids]; show 3 < 4; omega) = y' := ⟨_, rfl⟩
        rw [ht3, hy'] at hy3
        have hbz : bindsN t.k ((0 + 3 : Nat) : Int) = 0 := by rw [h12]; decide
        have hfz : (false || t.k == 12 && 0 + 3 == 2) = false := by simp
        rw [hbz, hfz, Int.add_zero] at hy3
        have e1 : t.pur = y.pur := by rw [Tm.pur_eq, purNode, if_pos h12, hkids]; rfl
        have e2 : (Tm.mk t.k t.i t.j t.n m).pur = y'.pur := by
          rw [Tm.pur_eq, purNode, if_pos (by exact h12)]
          simp only [mk_kids]
          rw [List.getElem?_map, List.getElem?_eq_getElem (by rw [optK_length hmm, hkids]; show 3 < 4; omega), hy']; rfl
        rw [e1, e2]
        exact ih y (by rw [hkids]; simp) b _ hy hy3
      · have hmk := marked_others hm h12
        have e12 : (t.k == 12) = false := by simpa using h12
        rw [Tm.pur_eq, purNode, if_neg h12, Tm.pur_eq (Tm.mk t.k t.i t.j t.n m), purNode, if_neg (by exact h12)]
        rw [Tm.putG_node _ _ _ _ (by exact hk)]
        simp only [mk_k, mk_i, mk_j, mk_n, mk_kids, e12, Bool.false_and, Bool.or_false]
        have key : ∀ (l m : List Tm) (p : Nat), (∀ x ∈ l, x ∈ t.kids) → optK (fun q x => x.putG f (b + bindsN t.k q) (false || (t.k == 12 && q == 2))) p l = some m → optK (fun q x => x.putG h (b + bindsN t.k q) false) p (l.map Tm.pur) = some (m.map Tm.pur) := by
          intro l
          induction l with
          | nil => intro m p _ hm; simp only [optK, Option.some.injEq] at hm; subst hm; rfl
          | cons a r ihr =>
            intro m p hs hm
            simp only [optK, Option.bind_eq_some_iff, Option.map_eq_some_iff] at hm
            obtain ⟨a', ha, r', hr', rfl⟩ := hm
            rw [e12] at ha
            have hma := hs a (List.mem_cons_self ..)
            have h1 := ih a hma _ _ (hmk a hma) ha
            have h2 := ihr r' (p + 1) (fun x hx => hs x (List.mem_cons_of_mem _ hx)) hr'
            simp only [List.map_cons, optK]
            rw [h1, h2]; rfl
        rw [key t.kids m 0 (fun x hx => hx) hmm]; rfl
theorem pur_each (k : Int) {t x : Tm} (hm : t.markedB = true) (b : Int) (hx : t.each (liftF k 0) b = some x) : t.pur.each (liftF k 0) b = some x.pur := by
  rw [← liftG_each k _ b false] at hx ⊢
  refine pur_putG _ _ (fun v c y _ _ hy => ?_) t b x hm hx
  unfold liftG at hy ⊢
  simp only [Option.map_eq_some_iff] at hy ⊢
  obtain ⟨v', h1, rfl⟩ := hy
  exact ⟨v', h1, by rw [pur_var]⟩
theorem eraseB_lift {t : Tm} {k : Int} (hm : t.markedB = true) (hk : 0 ≤ k) (hk2 : k ≤ 1048576) (hf : t.freeN ≤ 1048576) (hd : t.deep ≤ 100000) : (t.liftB k 0).eraseB = t.eraseB.liftB k 0 := by
  have hr := marked_right hm
  obtain ⟨x, hx⟩ := lift_comes (c := 0) hk hk2 hr (by omega) hd
  obtain ⟨k1, -, -⟩ := each_keeps _ (liftF_range k 0 hk) t 0 x hr hx
  have hp := (pur_marked t hm).1
  rw [liftB_good hk (Int.le_refl _) hr, hx, Option.getD_some, eraseB_good (k1.trans hm), eraseB_good hm, liftB_good hk (Int.le_refl _) (marked_right hp), pur_each k hm 0 hx]; rfl
theorem gPut_pur {u : Tm} (hu : u.markedB = true) : ∀ v b x, 0 ≤ v → v ≤ 2147483647 → gPut u v b false = some x → gPut u.pur v b false = some x.pur := by
  intro v b x _ _ hx
  unfold gPut at hx ⊢
  split at hx
  · rename_i h; rw [if_pos h]; cases hx; rw [pur_var]
  · rename_i h
    rw [if_neg h]
    split at hx
    · rename_i h2
      rw [if_pos h2]
      rw [if_neg (by decide)] at hx ⊢
      exact pur_each b hu 0 hx
    · rename_i h2; rw [if_neg h2]; cases hx; rw [pur_var]
theorem eraseB_put {t u : Tm} (ht : t.markedB = true) (hu : u.markedB = true) (hfu : u.freeN ≤ 1048576) (hdt : t.deep ≤ 100000) (hdu : u.deep ≤ 100000) : (t.putB u).eraseB = t.eraseB.putB u.eraseB := by
  have hr := marked_right ht
  have hur := marked_right hu
  obtain ⟨x, hx⟩ := put_comes hr hur hfu hdt hdu (decide (12 < t.k))
  obtain ⟨-, hxm, -⟩ := put_sorts hr (may_marked hu) hx
  have htp := (pur_marked t ht).1
  have hup := (pur_marked u hu).1
  rw [putB_good hr (may_marked hu) hx, eraseB_good (hxm ht hu), eraseB_good ht, eraseB_good hu]
  have e1 : decide (12 < t.k) = false := by have := marked_kind ht; simp; omega
  have e2 : decide (12 < t.pur.k) = false := by have := marked_kind htp; simp; omega
  rw [e1] at hx
  refine (putB_good (marked_right htp) (may_marked hup) ?_).symm
  rw [e2]
  exact pur_putG _ _ (gPut_pur hu) t 0 x ht hx
end Go.Proofs.Ytmhmengbhdaodaa
