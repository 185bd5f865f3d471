/-
  Facts and contracts that the proof of RuleRight uses.
-/
import Derived.OrdersHeld
import Derived.Below
import Derived.Laws.Rows
import Derived.Laws.CopyRow
import Derived.KernelRfl
import Derived.WalkKit
import Derived.Lib.Hide
import Derived.Lib.MinMax
import Derived.Deep.RegionHeld3
import Derived.Test.YtmicgbdcbjajiaaRows
import Derived.Deep.RegionWith
import Derived.Deep.AppendLies
import Derived.Laws.IdiomCopy
import Derived.Deep.Slices
import Derived.Deep.QuietTactic
import Derived.BigQuiet
import Derived.Lib.QuietBelow
import Derived.StillTailTactics
import Derived.IntWalk
import Derived.OwnWalk
import Derived.Deep.DeepCutAuto
import Derived.Deep.RegionLaw
import Derived.Deep.LoopGhost
import Derived.Deep.MidRow
import Derived.Laws.Tables
import Derived.Laws.CopyOwn
import Derived.Deep.RegionHeld
import Derived.Deep.Upon
import Derived.ArgAppend
import Derived.Laws.EntriesVeiled
import Derived.ProofKit
import Derived.OpenShut
import Derived.Carry
import Derived.ChangeSlices
import Derived.JoinedOf
import Derived.Test.YtmicgbdcbjajiaaRuleRightQ4
namespace Go.Proofs.Ytmicgbdcbjajiaa.Se
open Go Go.RowKit
theorem lift_fine15 (t : Tm) (k c : Int) : (t.liftB k c).fine := by
  unfold Tm.liftB
  split
  · exact zero_fine
  · rename_i h
    cases hu : t.each (liftF k c) 0 with
    | none => exact zero_fine
    | some u => exact right_fine (right_each _ (liftF_range k c (by omega)) t 0 u (by cases hr : t.rightB with | true => rfl | false => exact absurd (Or.inr (Or.inr hr)) h) hu)
def onT (a : List F15) (k : Tm → Option (List (Bool × List F15) × Bool × List Prop × List Bool)) := match tmOf a with
  | some t => k t
  | none => none
def oneT (t : Tm) (pre : List Prop) (orc : List Bool) : Option (List (Bool × List F15) × Bool × List Prop × List Bool) := some ([(true, tmF t)], false, pre, orc)
def mk5 (k i j : F15) (l : List Tm) (pre : List Prop) (orc : List Bool) : Option (List (Bool × List F15) × Bool × List Prop × List Bool) := some ([(true, [k, i, j, .int 0, .dat (.tms l)])], false, pre, orc)
def oneB (b : Bool) (orc : List Bool) : Option (List (Bool × List F15) × Bool × List Prop × List Bool) := some ([(false, [.obool b])], false, [], orc)
def atU (l : List En) (k : Int) : Tm := if 0 ≤ k ∧ k < l.length ∧ rightC l = true then (((l[l.length - 1 - k.toNat]?).map (fun (e : En) => e.a)).getD Tm.zero).liftB (k + 1) 0 else Tm.zero
def atI (l : List En) (k : Int) : Int := if 0 ≤ k ∧ k < l.length ∧ rightC l = true then ((l[l.length - 1 - k.toNat]?).map (fun (e : En) => e.i)).getD 0 else 0
def atB (l : List En) (k : Int) : Bool := decide (0 ≤ k ∧ k < l.length ∧ rightC l = true)
theorem at_is (l : List En) (k : Int) : AtIs l k (atU l k) (atI l k) (atB l k) := by
  unfold AtIs atU atI atB
  by_cases h : 0 ≤ k ∧ k < l.length ∧ rightC l = true
  · refine Or.inl ⟨by simp [h], k.toNat, by omega, by omega, h.2.2, ?_, ?_⟩
    · rw [if_pos h, List.getElem?_eq_getElem (show l.length - 1 - k.toNat < l.length by omega)]
      simp only [Option.map_some, Option.getD_some]
      congr 1
      omega
    · rw [if_pos h, List.getElem?_eq_getElem (show l.length - 1 - k.toNat < l.length by omega)]
      rfl
  · exact Or.inr ⟨by simp [h], h, by rw [if_neg h], by rw [if_neg h]⟩
def base15 : Spec D15 := fun f args orc =>
  bif Nat.beq f 39 then (match args with
    | [(true, a), (true, b)] => onT a fun t => onT b fun u => oneT (t.putB u) [t.deep ≤ 100000, u.deep ≤ 100000] orc
    | _ => none)
  else bif Nat.beq f 53 then (match args with
    | [(true, a), (false, [k]), (false, [c])] => match intOf k, intOf c with
      | some k, some c => onT a fun t => oneT (t.liftB k c) [t.deep ≤ 100000] orc
      | _, _ => none
    | _ => none)
  else bif Nat.beq f 28 then (match args with
    | [(true, a), (true, b)] => onT a fun t => onT b fun u => oneB (sameB t u) orc
    | _ => none)
  else bif Nat.beq f 18 then (match args with
    | [(true, a)] => onT a fun t => oneT t [t.size ≤ 10000000] orc
    | _ => none)
  else bif Nat.beq f 16 then (match args with
    | [(true, a), (false, [n])] => match jdOf a, intOf n with
      | some j, some n => oneB (rightJ j n) orc
      | _, _ => none
    | _ => none)
  else bif Nat.beq f 34 then (match args with
    | [(true, [i, j, a1, a2, a3, a4, a5, b1, b2, b3, b4, b5, c1, c2, c3, c4, c5, d1, d2, d3, d4, d5, ok]), (false, [k]), (false, [m])] => match intOf i, intOf j, intOf k, tmsOf m, boolOf ok with
      | some _, some _, some _, some m, some _ => onT [a1, a2, a3, a4, a5] fun a => onT [b1, b2, b3, b4, b5] fun b => onT [c1, c2, c3, c4, c5] fun _ => onT [d1, d2, d3, d4, d5] fun _ => mk5 k i j (a :: b :: m) [m.length ≤ 10] orc
      | _, _, _, _, _ => none
    | _ => none)
  else bif Nat.beq f 76 then (match args with
    | [(true, [i, j, a1, a2, a3, a4, a5, b1, b2, b3, b4, b5, c1, c2, c3, c4, c5, d1, d2, d3, d4, d5, ok]), (false, [k]), (false, [m])] => match intOf i, intOf j, intOf k, tmsOf m, boolOf ok with
      | some _, some _, some _, some m, some _ => onT [a1, a2, a3, a4, a5] fun _ => onT [b1, b2, b3, b4, b5] fun _ => onT [c1, c2, c3, c4, c5] fun c => onT [d1, d2, d3, d4, d5] fun d => mk5 k i j (c :: d :: m) [m.length ≤ 10] orc
      | _, _, _, _, _ => none
    | _ => none)
  else bif Nat.beq f 14 then (match args with
    | [(false, [c])] => match entsOf c with
      | some c => oneB (purC c) orc
      | none => none
    | _ => none)
  else bif Nat.beq f 31 then (match args with
    | [(false, [c]), (false, [k])] => match entsOf c, intOf k with
      | some c, some k => some ([(true, tmF (atU c k)), (false, [.oint (atI c k)]), (false, [.obool (atB c k)])], true, [c.length ≤ 100000, ∀ e ∈ c, e.a.deep ≤ 100000], orc)
      | _, _ => none
    | _ => none)
  else none
theorem ret_T {w w' : World} {A : Nat → Prop} {t : Tm} {e : Ending} (hf : t.fine) (h : GivesP A t w e w') : Gives A [(true, tmF t)] false w e w' := by
  obtain ⟨s, rfl, hk, hb⟩ := h
  exact ⟨_, rfl, ⟨_, rfl, _, rfl, tmF_den hf hk⟩, hb⟩
theorem ret_5 {w w' : World} {A : Nat → Prop} {k i j : F15} {a b : Tm} {m : List Tm} {k' i' j' : Int} {e : Ending} (hk : intOf k = some k') (hi : intOf i = some i') (hj : intOf j = some j') (rk : I64 k') (ri : I64 i') (rj : I64 j') (h : GivesP A (fmk k' i' j' a b m) w e w') : Gives A [(true, [k, i, j, .int 0, .dat (.tms (a :: b :: m))])] false w e w' := by
  obtain ⟨s, rfl, hs, hb⟩ := h
  have hd : ∀ {x : F15} {n : Int}, intOf x = some n → I64 n → FLDen w' (fun b => A b ∨ w.heap.size ≤ b) x (.int .i64 n) := by
    intro x n hx hr
    cases x <;> simp only [intOf] at hx <;> first | (cases hx; done) | (obtain rfl := Option.some.inj hx; exact ⟨rfl, hr⟩)
  exact ⟨_, rfl, ⟨_, rfl, _, rfl, hd hk rk, hd hi ri, hd hj rj, ⟨rfl, by unfold I64; decide⟩, hs, trivial⟩, hb⟩
theorem ret_B {w w' : World} {A : Nat → Prop} {b : Bool} {e : Ending} (h : e = .returned (.bool b) ∧ Below w.heap.size w w') : Gives (D := D15) A [(false, [.obool b])] false w e w' := by
  obtain ⟨rfl, hb⟩ := h
  exact ⟨_, rfl, ⟨_, rfl, _, rfl, rfl⟩, hb⟩
theorem onT_some {a : List F15} {k : Tm → Option (List (Bool × List F15) × Bool × List Prop × List Bool)} {r : List (Bool × List F15) × Bool × List Prop × List Bool} (h : onT a k = some r) : ∃ t, tmOf a = some t ∧ k t = some r := by
  unfold onT at h
  cases ht : tmOf a with
  | none => rw [ht] at h; cases h
  | some t => rw [ht] at h; exact ⟨t, rfl, h⟩
theorem arg_T {w : World} {A : Nat → Prop} {a : List F15} {v : Value} {t : Tm} (h : ArgDen w A (true, a) v) (ht : tmOf a = some t) : ∃ s, v = tv t s ∧ t.fine ∧ LiesQ w A t.kids s := by
  obtain ⟨vs, rfl, hv⟩ := h
  obtain ⟨s, rfl, hf, hk⟩ := tmOf_den ht hv
  exact ⟨s, rfl, hf, hk⟩
theorem arg_I {w : World} {A : Nat → Prop} {a : F15} {v : Value} {n : Int} (h : ArgDen w A (false, [a]) v) (ht : intOf a = some n) : v = .int .i64 n ∧ I64 n := by
  obtain ⟨x, hx, hv⟩ := h
  cases hx
  cases a <;> simp only [intOf] at ht <;> first | (cases ht; done) | (obtain rfl := Option.some.inj ht; exact hv)
theorem arg_M {w : World} {A : Nat → Prop} {a : F15} {v : Value} {l : List Tm} (h : FLDen w A a v) (ht : tmsOf a = some l) : LiesQ w A l v := by
  cases a with
  | nil => obtain rfl := Option.some.inj ht; obtain rfl : v = .slice none 0 0 := h; exact liesQ_nil w A
  | dat d => cases d <;> simp only [tmsOf] at ht <;> first | (cases ht; done) | (obtain rfl := Option.some.inj ht; exact h)
  | _ => cases ht
theorem arg_E {w : World} {A : Nat → Prop} {a : F15} {v : Value} {l : List En} (h : ArgDen w A (false, [a]) v) (ht : entsOf a = some l) : LiesE w l v := by
  obtain ⟨x, hx, hv⟩ := h
  cases hx
  cases a with
  | nil => obtain rfl := Option.some.inj ht; obtain rfl : v = .slice none 0 0 := hv; exact liesE_nil w
  | dat d => cases d <;> simp only [entsOf] at ht <;> first | (cases ht; done) | (obtain rfl := Option.some.inj ht; exact liesEQ_lies hv)
  | _ => cases ht
end Go.Proofs.Ytmicgbdcbjajiaa.Se
namespace Go.Proofs.Ytmicgbdcbjajiaa.Se
open Go Go.RowKit
theorem F2.two {α β : Type} {R : α → β → Prop} {a b : α} {l : List β} (h : F2 R [a, b] l) : ∃ x y, l = [x, y] ∧ R a x ∧ R b y := by
  match l, h with
  | [x, y], h => exact ⟨x, y, rfl, h.1, h.2.1⟩
theorem F2.one {α β : Type} {R : α → β → Prop} {a : α} {l : List β} (h : F2 R [a] l) : ∃ x, l = [x] ∧ R a x := by
  match l, h with
  | [x], h => exact ⟨x, rfl, h.1⟩
theorem F2.three {α β : Type} {R : α → β → Prop} {a b c : α} {l : List β} (h : F2 R [a, b, c] l) : ∃ x y z, l = [x, y, z] ∧ R a x ∧ R b y ∧ R c z := by
  match l, h with
  | [x, y, z], h => exact ⟨x, y, z, rfl, h.1, h.2.1, h.2.2.1⟩
theorem fam_den {w : World} {A : Nat → Prop} {i j a1 a2 a3 a4 a5 b1 b2 b3 b4 b5 c1 c2 c3 c4 c5 d1 d2 d3 d4 d5 ok : F15} {v : Value} (h : ArgDen w A (true, [i, j, a1, a2, a3, a4, a5, b1, b2, b3, b4, b5, c1, c2, c3, c4, c5, d1, d2, d3, d4, d5, ok]) v) {i' j' : Int} {o : Bool} {a b c d : Tm}
    (hi : intOf i = some i') (hj : intOf j = some j') (ho : boolOf ok = some o) (ha : tmOf [a1, a2, a3, a4, a5] = some a) (hb : tmOf [b1, b2, b3, b4, b5] = some b) (hc : tmOf [c1, c2, c3, c4, c5] = some c) (hd : tmOf [d1, d2, d3, d4, d5] = some d) :
    ∃ sa sb sc sd, v = .agg #[.int .i64 i', .int .i64 j', .int .i64 a.k, .int .i64 a.i, .int .i64 a.j, .int .i64 a.n, sa, .int .i64 b.k, .int .i64 b.i, .int .i64 b.j, .int .i64 b.n, sb, .int .i64 c.k, .int .i64 c.i, .int .i64 c.j, .int .i64 c.n, sc, .int .i64 d.k, .int .i64 d.i, .int .i64 d.j, .int .i64 d.n, sd, .bool o] ∧
      I64 i' ∧ I64 j' ∧ (a.fine ∧ LiesQ w A a.kids sa) ∧ (b.fine ∧ LiesQ w A b.kids sb) ∧ (c.fine ∧ LiesQ w A c.kids sc) ∧ (d.fine ∧ LiesQ w A d.kids sd) := by
  obtain ⟨vs, rfl, hv⟩ := h
  match vs, hv with
  | [vi, vj, x1, x2, x3, x4, x5, y1, y2, y3, y4, y5, z1, z2, z3, z4, z5, u1, u2, u3, u4, u5, vo], hv =>
    obtain ⟨h1, h2, e1, e2, e3, e4, e5, f1, f2, f3, f4, f5, g1, g2, g3, g4, g5, k1, k2, k3, k4, k5, ho', -⟩ := hv
    obtain ⟨sa, ea, fa, la⟩ := tmOf_den (vs := [x1, x2, x3, x4, x5]) ha ⟨e1, e2, e3, e4, e5, trivial⟩
    obtain ⟨sb, eb, fb, lb⟩ := tmOf_den (vs := [y1, y2, y3, y4, y5]) hb ⟨f1, f2, f3, f4, f5, trivial⟩
    obtain ⟨sc, ec, fc, lc⟩ := tmOf_den (vs := [z1, z2, z3, z4, z5]) hc ⟨g1, g2, g3, g4, g5, trivial⟩
    obtain ⟨sd, ed, fd, ld⟩ := tmOf_den (vs := [u1, u2, u3, u4, u5]) hd ⟨k1, k2, k3, k4, k5, trivial⟩
    cases ea
    cases eb
    cases ec
    cases ed
    obtain ⟨rfl, r1⟩ := arg_I (a := i) ⟨i, rfl, h1⟩ hi
    obtain ⟨rfl, r2⟩ := arg_I (a := j) ⟨j, rfl, h2⟩ hj
    have hvo : vo = .bool o := by
      cases ok <;> simp only [boolOf] at ho <;> first | (cases ho; done) | (obtain rfl := Option.some.inj ho; exact ho')
    subst hvo
    exact ⟨_, _, _, _, rfl, r1, r2, ⟨fa, la⟩, ⟨fb, lb⟩, ⟨fc, lc⟩, ⟨fd, ld⟩⟩
theorem jd_den {w : World} {A : Nat → Prop} {l : List F15} {v : Value} {j : Jd} (h : ArgDen w A (true, l) v) (hj : jdOf l = some j) : ∃ su sv sa, v = jv j su sv sa ∧ j.fine ∧ LiesQ w A j.u.kids su ∧ LiesQ w A j.v.kids sv ∧ LiesQ w A j.a.kids sa := by
  obtain ⟨vs, rfl, hv⟩ := h
  unfold jdOf at hj
  split at hj
  · rename_i e a1 a2 a3 a4 a5 b1 b2 b3 b4 b5 c1 c2 c3 c4 c5 i
    split at hj
    · rename_i e' u v a i' he hu hv' ha hi
      obtain rfl := Option.some.inj hj
      match vs, hv with
      | [ve, x1, x2, x3, x4, x5, y1, y2, y3, y4, y5, z1, z2, z3, z4, z5, vi], hv =>
        obtain ⟨h0, e1, e2, e3, e4, e5, f1, f2, f3, f4, f5, g1, g2, g3, g4, g5, h1, -⟩ := hv
        obtain ⟨sa, ea, fa, la⟩ := tmOf_den (vs := [x1, x2, x3, x4, x5]) hu ⟨e1, e2, e3, e4, e5, trivial⟩
        obtain ⟨sb, eb, fb, lb⟩ := tmOf_den (vs := [y1, y2, y3, y4, y5]) hv' ⟨f1, f2, f3, f4, f5, trivial⟩
        obtain ⟨sc, ec, fc, lc⟩ := tmOf_den (vs := [z1, z2, z3, z4, z5]) ha ⟨g1, g2, g3, g4, g5, trivial⟩
        cases ea
        cases eb
        cases ec
        obtain ⟨rfl, r1⟩ := arg_I (a := i) ⟨i, rfl, h1⟩ hi
        have hvo : ve = .bool e' := by
          cases e <;> simp only [boolOf] at he <;> first | (cases he; done) | (obtain rfl := Option.some.inj he; exact h0)
        subst hvo
        exact ⟨_, _, _, rfl, ⟨fa, fb, fc, r1⟩, la, lb, lc⟩
    · cases hj
  · cases hj
theorem base15_ok : SpecOk Try.prog base15 := by
  intro f args orc ret tup pre orc' h
  unfold base15 at h
  -- Put
  cases hb : Nat.beq f 39 with
  | true =>
    obtain rfl := Nat.eq_of_beq_eq_true hb
    simp only [hb, cond_true] at h
    split at h
    · rename_i a b
      obtain ⟨t, ht, h⟩ := onT_some h
      obtain ⟨u, hu, h⟩ := onT_some h
      cases h
      refine ⟨⟨_, _, Try.func39, by kernel_rfl, rfl⟩, fun hp w A vs hv => ?_⟩
      obtain ⟨x, y, rfl, h1, h2⟩ := hv.two
      obtain ⟨s, rfl, f1, l1⟩ := arg_T h1 ht
      obtain ⟨r, rfl, f2, l2⟩ := arg_T h2 hu
      exact (put_any t u w s r l1.lies l2.lies hp.1 hp.2.1).mono fun e w' he => ret_T (rput_fine t u) he.givesP
    · cases h
  | false =>
  simp only [hb, cond_false] at h
  clear hb
  cases hb : Nat.beq f 53 with
  | true =>
    obtain rfl := Nat.eq_of_beq_eq_true hb
    simp only [hb, cond_true] at h
    split at h
    · rename_i a k c
      split at h
      · rename_i k' c' hk hc
        obtain ⟨t, ht, h⟩ := onT_some h
        cases h
        refine ⟨⟨_, _, Try.func53, by kernel_rfl, rfl⟩, fun hp w A vs hv => ?_⟩
        obtain ⟨x, y, z, rfl, h1, h2, h3⟩ := hv.three
        obtain ⟨s, rfl, f1, l1⟩ := arg_T h1 ht
        obtain ⟨rfl, r2⟩ := arg_I h2 hk
        obtain ⟨rfl, r3⟩ := arg_I h3 hc
        exact (lift_any t _ _ w s l1.lies r2 r3 hp.1).mono fun e w' he => ret_T (lift_fine15 t _ _) he.givesP
      · cases h
    · cases h
  | false =>
  simp only [hb, cond_false] at h
  clear hb
  cases hb : Nat.beq f 28 with
  | true =>
    obtain rfl := Nat.eq_of_beq_eq_true hb
    simp only [hb, cond_true] at h
    split at h
    · rename_i a b
      obtain ⟨t, ht, h⟩ := onT_some h
      obtain ⟨u, hu, h⟩ := onT_some h
      cases h
      refine ⟨⟨_, _, Try.func28, by kernel_rfl, rfl⟩, fun hp w A vs hv => ?_⟩
      obtain ⟨x, y, rfl, h1, h2⟩ := hv.two
      obtain ⟨s, rfl, f1, l1⟩ := arg_T h1 ht
      obtain ⟨r, rfl, f2, l2⟩ := arg_T h2 hu
      exact (same_any t u w s r l1.lies l2.lies).mono fun e w' he => ret_B he
    · cases h
  | false =>
  simp only [hb, cond_false] at h
  clear hb
  cases hb : Nat.beq f 18 with
  | true =>
    obtain rfl := Nat.eq_of_beq_eq_true hb
    simp only [hb, cond_true] at h
    split at h
    · rename_i a
      obtain ⟨t, ht, h⟩ := onT_some h
      cases h
      refine ⟨⟨_, _, Try.func18, by kernel_rfl, rfl⟩, fun hp w A vs hv => ?_⟩
      obtain ⟨x, rfl, h1⟩ := hv.one
      obtain ⟨s, rfl, f1, l1⟩ := arg_T h1 ht
      exact (copy_big t w s l1.lies hp.1).mono fun e w' he => ret_T f1 he.givesP
    · cases h
  | false =>
  simp only [hb, cond_false] at h
  clear hb
  cases hb : Nat.beq f 16 with
  | true =>
    obtain rfl := Nat.eq_of_beq_eq_true hb
    simp only [hb, cond_true] at h
    split at h
    · rename_i a n
      split at h
      · rename_i j n' hj hn
        cases h
        refine ⟨⟨_, _, Try.func16, by kernel_rfl, rfl⟩, fun hp w A vs hv => ?_⟩
        obtain ⟨x, y, rfl, h1, h2⟩ := hv.two
        obtain ⟨su, sv, sa, rfl, ⟨fu, fv, fa, ri⟩, lu, lv, la⟩ := jd_den h1 hj
        obtain ⟨rfl, r2⟩ := arg_I h2 hn
        obtain ⟨e, u, v, a, i⟩ := j
        cases e
        · exact (rright0_any _ _ _ _ _ A w _ _ _ fu lu fv lv fa la ri r2).mono fun e w' he => ret_B he
        · exact (rright1_any _ _ _ _ _ A w _ _ _ fu lu fv lv fa la ri r2).mono fun e w' he => ret_B he
      · cases h
    · cases h
  | false =>
  simp only [hb, cond_false] at h
  clear hb
  cases hb : Nat.beq f 34 with
  | true =>
    obtain rfl := Nat.eq_of_beq_eq_true hb
    simp only [hb, cond_true] at h
    split at h
    · split at h
      · rename_i i j k m o hi hj hk hm ho
        obtain ⟨a, ha, h⟩ := onT_some h
        obtain ⟨b, hb', h⟩ := onT_some h
        obtain ⟨c, hc, h⟩ := onT_some h
        obtain ⟨d, hd, h⟩ := onT_some h
        cases h
        refine ⟨⟨_, _, Try.func34, by kernel_rfl, rfl⟩, fun hp w A vs hv => ?_⟩
        obtain ⟨x, y, z, rfl, h1, h2, h3⟩ := hv.three
        obtain ⟨sa, sb, sc, sd, rfl, ri, rj, ⟨fa, la⟩, ⟨fb, lb⟩, ⟨fc, lc⟩, ⟨fd, ld⟩⟩ := fam_den h1 hi hj ho ha hb' hc hd
        obtain ⟨rfl, rk⟩ := arg_I h2 hk
        obtain ⟨_, hx, h3⟩ := h3
        cases hx
        exact (fmake_any _ _ _ _ _ _ _ _ _ A w _ _ _ _ _ ri rj fa la fb lb fc lc fd ld rk (arg_M h3 hm) hp.1).mono fun e w' he => ret_5 hk hi hj rk ri rj he
      · cases h
    · cases h
  | false =>
  simp only [hb, cond_false] at h
  clear hb
  cases hb : Nat.beq f 76 with
  | true =>
    obtain rfl := Nat.eq_of_beq_eq_true hb
    simp only [hb, cond_true] at h
    split at h
    · split at h
      · rename_i i j k m o hi hj hk hm ho
        obtain ⟨a, ha, h⟩ := onT_some h
        obtain ⟨b, hb', h⟩ := onT_some h
        obtain ⟨c, hc, h⟩ := onT_some h
        obtain ⟨d, hd, h⟩ := onT_some h
        cases h
        refine ⟨⟨_, _, Try.func76, by kernel_rfl, rfl⟩, fun hp w A vs hv => ?_⟩
        obtain ⟨x, y, z, rfl, h1, h2, h3⟩ := hv.three
        obtain ⟨sa, sb, sc, sd, rfl, ri, rj, ⟨fa, la⟩, ⟨fb, lb⟩, ⟨fc, lc⟩, ⟨fd, ld⟩⟩ := fam_den h1 hi hj ho ha hb' hc hd
        obtain ⟨rfl, rk⟩ := arg_I h2 hk
        obtain ⟨_, hx, h3⟩ := h3
        cases hx
        exact (fother_any _ _ _ _ _ _ _ _ _ A w _ _ _ _ _ ri rj fa la fb lb fc lc fd ld rk (arg_M h3 hm) hp.1).mono fun e w' he => ret_5 hk hi hj rk ri rj he
      · cases h
    · cases h
  | false =>
  simp only [hb, cond_false] at h
  clear hb
  cases hb : Nat.beq f 14 with
  | true =>
    obtain rfl := Nat.eq_of_beq_eq_true hb
    simp only [hb, cond_true] at h
    split at h
    · split at h
      · rename_i c hc
        cases h
        refine ⟨⟨_, _, Try.func14, by kernel_rfl, rfl⟩, fun hp w A vs hv => ?_⟩
        obtain ⟨x, rfl, h1⟩ := hv.one
        exact (rulepure_any c w x (arg_E h1 hc)).mono fun e w' he => ret_B he
      · cases h
    · cases h
  | false =>
  simp only [hb, cond_false] at h
  clear hb
  cases hb : Nat.beq f 31 with
  | true =>
    obtain rfl := Nat.eq_of_beq_eq_true hb
    simp only [hb, cond_true] at h
    split at h
    · split at h
      · rename_i c k hc hk
        cases h
        refine ⟨⟨_, _, Try.func31, by kernel_rfl, rfl⟩, fun hp w A vs hv => ?_⟩
        obtain ⟨x, y, rfl, h1, h2⟩ := hv.two
        obtain ⟨rfl, r2⟩ := arg_I h2 hk
        have hl := arg_E h1 hc
        refine (ctxat_any c _ w x _ _ _ hl (at_is c _) hp.1 hp.2.1).mono fun e w' he => ?_
        obtain ⟨s, rfl, hk', hb'⟩ := he
        have hf : (atU c k).fine := by
          unfold atU
          split
          · exact lift_fine15 _ _ _
          · exact zero_fine
        have hi : I64 (atI c k) := by
          unfold atI
          split
          · rename_i hh
            obtain ⟨ad, cap, S, -, -, -, hfe, -⟩ := hl.out
            rw [List.getElem?_eq_getElem (show c.length - 1 - k.toNat < c.length by omega)]
            exact (hfe _ (List.getElem_mem _)).2
          · unfold I64; decide
        have hq := (Makes.givesP (P := A) (u := atU c k) (w := w) ⟨s, rfl, hk', hb'⟩)
        obtain ⟨s', e', hq1, hq2⟩ := hq
        obtain rfl : s = s' := by
          have := Ending.returned.inj e'
          simpa [tv] using this
        exact ⟨_, rfl, ⟨_, rfl, ⟨_, rfl, tmF_den hf hq1⟩, ⟨_, rfl, rfl, hi⟩, ⟨_, rfl, rfl⟩, trivial⟩, hb'⟩
      · cases h
    · cases h
  | false =>
  simp only [hb, cond_false] at h
  cases h
end Go.Proofs.Ytmicgbdcbjajiaa.Se
namespace Go.Proofs.Ytmicgbdcbjajiaa.Se
open Go Go.RowKit
theorem optK_sizes {F : Nat → Tm → Option Tm} {B : Nat} : ∀ (l : List Tm) (p : Nat) {m : List Tm}, optK F p l = some m → (∀ q x y, x ∈ l → F q x = some y → y.size ≤ B * x.size) → sizes m ≤ B * sizes l
  | [], _, m, h, _ => by cases h; simp [sizes]
  | x :: r, p, m, h, hF => by
    simp only [optK] at h
    cases hx : F p x with
    | none => rw [hx] at h; cases h
    | some y =>
      rw [hx] at h
      simp only [Option.bind_some] at h
      cases hr : optK F (p + 1) r with
      | none => rw [hr] at h; cases h
      | some m' =>
        rw [hr] at h
        cases h
        have h1 := hF p x y (List.mem_cons_self ..) hx
        have h2 := optK_sizes r (p + 1) hr (fun q z w hz => hF q z w (List.mem_cons_of_mem _ hz))
        simp only [sizes, Nat.mul_add]
        omega
theorem each_le (f : Int → Int → Option Int) (t : Tm) : ∀ b x, t.each f b = some x → x.size ≤ t.size := by
  induction t using Tm.ind with
  | h t ih =>
    intro b x h
    by_cases h2 : t.k = 2
    · rw [Tm.each_var _ _ _ h2] at h
      cases hf : f t.i b with
      | none => rw [hf] at h; cases h
      | some v =>
        rw [hf] at h
        cases h
        have := size_pos t
        simpa [Tm.size, sizes] using this
    · rw [Tm.each_node _ _ _ h2] at h
      cases ho : optK (fun q x => x.each f (b + bindsN t.k q)) 0 t.kids with
      | none => rw [ho] at h; cases h
      | some m =>
        rw [ho] at h
        cases h
        have := optK_sizes (B := 1) t.kids 0 ho (fun q x y hx hy => by
          have := ih x hx _ y hy
          omega)
        rw [Tm.size_eq, Tm.size_eq t]
        simp only [Tm.kids] at *
        omega
theorem counts_mem {x : Tm} : ∀ {l : List Tm}, x ∈ l → x.count ≤ counts l
  | [], h => by cases h
  | t :: r, h => by
    simp only [counts]
    rcases List.mem_cons.1 h with rfl | h
    · omega
    · have := counts_mem h
      omega
theorem putG_size (u : Tm) (t : Tm) : ∀ b x, t.count = 0 → t.putG (gPut u) b false = some x → x.size ≤ u.size * t.size := by
  induction t using Tm.ind with
  | h t ih =>
    intro b x hc h
    have hu := size_pos u
    by_cases h2 : t.k = 2
    · rw [Tm.putG_var _ _ _ _ h2] at h
      have ht := size_pos t
      have hm : u.size ≤ u.size * t.size := Nat.le_mul_of_pos_right _ ht
      unfold gPut at h
      split at h
      · cases h
        simp only [Tm.size, sizes]
        omega
      · split at h
        · have := each_le _ _ _ _ h
          simp only [Bool.false_eq_true, if_false] at this
          omega
        · cases h
          simp only [Tm.size, sizes]
          omega
    · rw [Tm.putG_node _ _ _ _ h2] at h
      cases ho : optK (fun q x => x.putG (gPut u) (b + bindsN t.k q) (false || (t.k == 12 && q == 2))) 0 t.kids with
      | none => rw [ho] at h; cases h
      | some m =>
        rw [ho] at h
        cases h
        have h12 : (t.k == 12) = false ∧ ∀ x ∈ t.kids, x.count = 0 := by
          have hce : t.count = (if t.k = 12 then 1 else 0) + counts t.kids := by cases t; rfl
          rw [hce] at hc
          refine ⟨?_, fun x hx => ?_⟩
          · cases hb : (t.k == 12) with
            | false => rfl
            | true => rw [if_pos (by simpa using hb)] at hc; omega
          · have := counts_mem hx
            omega
        have := optK_sizes (B := u.size) t.kids 0 ho (fun q x y hx hy => by
          rw [h12.1] at hy
          exact ih x hx _ y (h12.2 x hx) hy)
        rw [Tm.size_eq, Tm.size_eq t]
        simp only [Tm.kids, Nat.mul_add] at *
        omega
theorem pure_count {t : Tm} (h : t.pureB = true) : t.count = 0 := by
  unfold Tm.pureB at h
  rw [Bool.and_eq_true] at h
  simpa using h.2
theorem pure_kind {t : Tm} (h : t.pureB = true) : t.k ≤ 12 ∧ (t.kids.length : Int) = kidsN t.k t.n := by
  unfold Tm.pureB at h
  rw [Bool.and_eq_true] at h
  have := h.1
  cases t with
  | mk k i j n l =>
    simp only [Tm.markedB, Bool.and_eq_true, decide_eq_true_eq, beq_iff_eq] at this
    exact ⟨this.1.2, this.2.1⟩
theorem putB_size {t : Tm} (u : Tm) (h : t.pureB = true) : (t.putB u).size ≤ u.size * t.size := by
  have hu := size_pos u
  have ht := size_pos t
  have hm : u.size ≤ u.size * t.size := Nat.le_mul_of_pos_right _ ht
  unfold Tm.putB
  split
  · have hk : decide (12 < t.k) = false := by
      have := (pure_kind h).1
      simp
      omega
    rw [hk]
    cases hx : t.putG (gPut u) 0 false with
    | none => simp only [Option.getD_none, Tm.zero, Tm.size, sizes]; omega
    | some x => exact putG_size u t 0 x (pure_count h) hx
  · simp only [Tm.zero, Tm.size, sizes]; omega
theorem two_kids {t : Tm} (h : t.pureB = true) (hk : t.k = 3 ∨ t.k = 6) : ∃ p q, t.kids = [p, q] := by
  have := (pure_kind h).2
  have h2 : t.kids.length = 2 := by
    unfold kidsN at this
    rcases hk with e | e <;> rw [e] at this <;> simp at this <;> omega
  match t.kids, h2 with
  | [p, q], _ => exact ⟨p, q, rfl⟩
theorem three_kids {t : Tm} (h : t.pureB = true) (hk : t.k = 10) : ∃ p q r, t.kids = [p, q, r] := by
  have := (pure_kind h).2
  have h2 : t.kids.length = 3 := by
    unfold kidsN at this
    rw [hk] at this
    simp at this
    omega
  match t.kids, h2 with
  | [p, q, r], _ => exact ⟨p, q, r, rfl⟩
abbrev W64 (x : Int) : Int := IntKind.i64.wrap x
def osW (a : Tm) (i : Int) : Bool := a.k == 1 && i == W64 (a.i + 1)
def isT (j : Jd) : Bool := !j.eq && osW j.a j.i
def areT (j : Jd) : Bool := j.eq && osW j.a j.i
def hasW (j : Jd) (a : Tm) (i : Int) : Bool := !j.eq && (j.i == i && sameB j.a a)
def srt (i : Int) : Tm := .mk 1 i 0 0 []
def nd (k i j : Int) (l : List Tm) : Tm := .mk k i j 0 l
def kd (a : Tm) (q : Nat) : Tm := (a.kids[q]?).getD .zero
def spl (j : Jd) (k : Int) : Bool := !j.eq && (j.a.k == k && j.i == max j.a.i j.a.j)
def prf (j : Jd) : Bool := !j.eq && (j.a.k == 10 && j.a.i == j.i)
def cnv (p q : Jd) : Bool := areT q && (q.a.i == p.i && sameB p.a q.u)
def prd (p q r : Jd) : Bool := (isT q && !p.eq) && hasW r (q.u.putB p.u) q.a.i
def con0 (c : List En) (n r : Int) : Option Jd :=
  if r = 1 then (if (decide (n ≥ 0) && decide (n ≤ 900)) = true then some ⟨false, srt n, .zero, srt (W64 (n + 1)), W64 (n + 2)⟩ else none)
  else if r = 2 then (if atB c n = true then some ⟨false, .mk 2 n 0 0 [], .zero, atU c n, atI c n⟩ else none)
  else none
def con1 (p : Jd) (r : Int) : Option Jd :=
  if r = 8 then (if spl p 6 = true then some ⟨false, nd 8 p.a.i p.a.j [kd p.a 0, kd p.a 1, p.u], .zero, kd p.a 0, p.a.i⟩ else none)
  else if r = 9 then (if spl p 6 = true then some ⟨false, nd 9 p.a.i p.a.j [kd p.a 0, kd p.a 1, p.u], .zero, (kd p.a 1).putB (nd 8 p.a.i p.a.j [kd p.a 0, kd p.a 1, p.u]), p.a.j⟩ else none)
  else if r = 11 then (if (!p.eq) = true then some ⟨false, nd 11 p.i 0 [p.a, p.u], .zero, nd 10 p.i 0 [p.a, p.u, p.u], p.i⟩ else none)
  else if r = 13 then (if (!p.eq) = true then some ⟨true, p.u, p.u, p.a, p.i⟩ else none)
  else if r = 14 then (if p.eq = true then some ⟨true, p.v, p.u, p.a, p.i⟩ else none)
  else if r = 17 then (if prf p = true then some ⟨true, kd p.a 1, kd p.a 2, kd p.a 0, p.i⟩ else none)
  else if r = 21 then (if spl p 3 = true then some ⟨true, p.u, nd 4 p.a.i p.a.j [kd p.a 0, kd p.a 1, nd 5 p.a.i p.a.j [(kd p.a 0).liftB 1 0, (kd p.a 1).liftB 1 1, p.u.liftB 1 0, .mk 2 0 0 0 []]], p.a, p.i⟩ else none)
  else if r = 22 then (if spl p 6 = true then some ⟨true, p.u, nd 7 p.a.i p.a.j [kd p.a 0, kd p.a 1, nd 8 p.a.i p.a.j [kd p.a 0, kd p.a 1, p.u], nd 9 p.a.i p.a.j [kd p.a 0, kd p.a 1, p.u]], p.a, p.i⟩ else none)
  else none
def con2 (p q : Jd) (r : Int) : Option Jd :=
  if r = 3 ∨ r = 6 then (if (isT p && isT q) = true then some ⟨false, nd r p.a.i q.a.i [p.u, q.u], .zero, srt (max p.a.i q.a.i), W64 (max p.a.i q.a.i + 1)⟩ else none)
  else if r = 4 then (if (isT p && !q.eq) = true then some ⟨false, nd 4 p.a.i q.i [p.u, q.a, q.u], .zero, nd 3 p.a.i q.i [p.u, q.a], max p.a.i q.i⟩ else none)
  else if r = 5 then (if (spl p 3 && hasW q (kd p.a 0) p.a.i) = true then some ⟨false, nd 5 p.a.i p.a.j [kd p.a 0, kd p.a 1, p.u, q.u], .zero, (kd p.a 1).putB q.u, p.a.j⟩ else none)
  else if r = 10 then (if (!p.eq && hasW q p.a p.i) = true then some ⟨false, nd 10 p.i 0 [p.a, p.u, q.u], .zero, srt p.i, W64 (p.i + 1)⟩ else none)
  else if r = 12 then (if (!p.eq && cnv p q) = true then some ⟨false, p.u, .zero, q.v, p.i⟩ else none)
  else if r = 15 then (if (p.eq && (q.eq && (p.i == q.i && (sameB p.v q.u && sameB p.a q.a)))) = true then some ⟨true, p.u, q.v, p.a, p.i⟩ else none)
  else if r = 16 then (if (p.eq && cnv p q) = true then some ⟨true, p.u, p.v, q.v, p.i⟩ else none)
  else if r = 18 then (if (!p.eq && !q.eq) = true then some ⟨true, nd 5 p.i q.i [p.a, q.a, nd 4 p.i q.i [p.a, q.a, q.u], p.u], q.u.putB p.u, q.a.putB p.u, q.i⟩ else none)
  else if r = 23 then (if (p.eq && !q.eq) = true then some ⟨true, q.u.putB p.u, q.u.putB p.v, q.a.putB p.u, q.i⟩ else none)
  else if r = 24 then (if (prf p && hasW q p.a p.i) = true then some ⟨true, p.u, q.u, p.a, p.i⟩ else none)
  else if r = 25 ∨ r = 26 then (if (areT p && areT q) = true then some ⟨true, nd (if r = 25 then 3 else 6) p.a.i q.a.i [p.u, q.u], nd (if r = 25 then 3 else 6) p.a.i q.a.i [p.v, q.v], srt (max p.a.i q.a.i), W64 (max p.a.i q.a.i + 1)⟩ else none)
  else none
def con3 (p q t : Jd) (r : Int) : Option Jd :=
  if r = 7 then (if prd p q t = true then some ⟨false, nd 7 p.i q.a.i [p.a, q.u, p.u, t.u], .zero, nd 6 p.i q.a.i [p.a, q.u], max p.i q.a.i⟩ else none)
  else if r = 19 then (if prd p q t = true then some ⟨true, nd 8 p.i q.a.i [p.a, q.u, nd 7 p.i q.a.i [p.a, q.u, p.u, t.u]], p.u, p.a, p.i⟩ else none)
  else if r = 20 then (if prd p q t = true then some ⟨true, nd 9 p.i q.a.i [p.a, q.u, nd 7 p.i q.a.i [p.a, q.u, p.u, t.u]], t.u, t.a, q.a.i⟩ else none)
  else if r = 27 then (if ((areT p && areT q) && (t.eq && (t.i == q.a.i && sameB t.a q.u))) = true then some ⟨true, nd 4 p.a.i q.a.i [p.u, q.u, t.u], nd 4 p.a.i q.a.i [p.v, q.v, t.v], nd 3 p.a.i q.a.i [p.u, q.u], max p.a.i q.a.i⟩ else none)
  else none
def con4 (p q s t : Jd) (r : Int) : Option Jd :=
  if r = 28 then (if (((areT p && areT q) && hasW s p.u p.a.i) && hasW t (q.u.putB s.u) q.a.i) = true then some ⟨true, nd 7 p.a.i q.a.i [p.u, q.u, s.u, t.u], nd 7 p.a.i q.a.i [p.v, q.v, s.u, t.u], nd 6 p.a.i q.a.i [p.u, q.u], max p.a.i q.a.i⟩ else none)
  else none
def concB (c : List En) (n r : Int) : List Jd → Option Jd
  | [] => con0 c n r
  | [p] => con1 p r
  | [p, q] => con2 p q r
  | [p, q, t] => con3 p q t r
  | [p, q, s, t] => con4 p q s t r
  | _ => none
def okJ (j : Jd) : Bool := !(decide (j.i > 1000) || (j.u.k == 0 || (j.a.k == 0 || (j.eq && j.v.k == 0))))
def allR (len r : Int) : Int → List Jd → Bool
  | _, [] => true
  | k, j :: l => rightJ j (if Dv.innerB r k = true then W64 (len + 1) else len) && allR len r (k + 1) l
def ofB (c : List En) (r n : Int) (on : List Jd) : Option Jd :=
  if Dv.dkidsN r ≠ on.length then none else if (purC c && allR c.length r 0 on) = true then (match concB c n r on with
    | some j => if okJ j = true then some j else none
    | none => none) else none
def zJ : Jd := ⟨false, .zero, .zero, .zero, 0⟩
def GivesO (A : Nat → Prop) (o : Option Jd) (w : World) (e : Ending) (w' : World) : Prop := Gives (D := D15) A [(true, jdF (o.getD zJ)), (false, [.bool o.isSome])] true w e w'
end Go.Proofs.Ytmicgbdcbjajiaa.Se
namespace Go.Proofs.Ytmicgbdcbjajiaa.Se
open Go Go.RowKit
noncomputable def fOf : Func := (Try.prog.funcs[5]?).getD default
noncomputable def S15 : Spec D15 := inl base15 Try.prog 60 9
theorem mixed15 : Try.prog.follows .mixedOrders = true := by kernel_rfl
theorem S15_ok : SpecOk Try.prog S15 := inl_ok base15_ok mixed15 (by kernel_rfl) 60 9
theorem fOf_at : Try.prog.funcs[5]? = some fOf := by kernel_rfl
theorem fOf_two : (!Nat.beq fOf.results.size 1) = true := by kernel_rfl
abbrev aOf (c : List En) (r n : Int) (on : List Jd) : List (Bool × List F15) := [(false, [.dat (.ents c)]), (false, [.int r]), (false, [.oint n]), (false, [.dat (.jds on)])]
def zF : List F15 := [.bool false, .int 0, .int 0, .int 0, .int 0, .nil, .int 0, .int 0, .int 0, .int 0, .nil, .int 0, .int 0, .int 0, .int 0, .nil, .int 0]
abbrev I := true
abbrev O := false
theorem al {p : Prop} {l : List Prop} (h : p) (hl : AllP l) : AllP (p :: l) := ⟨h, hl⟩
theorem an : AllP [] := trivial
theorem leafS {c : List En} {r n : Int} {on : List Jd} (orc : List Bool) {j : Jd} {cs : List Prop} {w : World} {A : Nat → Prop} {vs : List Value} (hv : F2 (ArgDen w A) (aOf c r n on) vs)
    (hc : AllP cs) (h : call S15 Try.prog 60 fOf (aOf c r n on) orc = some ([(true, jdF j), (false, [.bool true])], cs, []) := by kernel_rfl) : Calls Try.prog 5 vs.toArray w (GivesO A (some j) w) := by
  have H := call_ok S15_ok mixed15 fOf_at h hc hv
  rw [fOf_two] at H
  exact H
theorem leafF {c : List En} {r n : Int} {on : List Jd} (orc : List Bool) {cs : List Prop} {w : World} {A : Nat → Prop} {vs : List Value} (hv : F2 (ArgDen w A) (aOf c r n on) vs)
    (hc : AllP cs) (h : call S15 Try.prog 60 fOf (aOf c r n on) orc = some ([(true, zF), (false, [.bool false])], cs, []) := by kernel_rfl) : Calls Try.prog 5 vs.toArray w (GivesO A none w) := by
  have H := call_ok S15_ok mixed15 fOf_at h hc hv
  rw [fOf_two] at H
  refine H.mono fun e w' he => ?_
  obtain ⟨v, rfl, hr, hb⟩ := he
  refine ⟨v, rfl, ?_, hb⟩
  obtain ⟨us, rfl, hu⟩ := hr
  obtain ⟨x, y, rfl, h1, h2⟩ := hu.two
  refine ⟨_, rfl, ?_, h2, trivial⟩
  obtain ⟨zs, rfl, hz⟩ := h1
  have hn : ∀ {z : Value}, FLDen (D := D15) w' (fun b => A b ∨ w.heap.size ≤ b) .nil z → FLDen (D := D15) w' (fun b => A b ∨ w.heap.size ≤ b) (.dat (.tms [])) z := by
    rintro z (rfl : z = _)
    exact liesQ_nil _ _
  match zs, hz with
  | [_, _, _, _, _, _, _, _, _, _, _, _, _, _, _, _, _], ⟨a0, a1, a2, a3, a4, a5, b1, b2, b3, b4, b5, c1, c2, c3, c4, c5, d, _⟩ =>
    exact ⟨_, rfl, a0, a1, a2, a3, a4, hn a5, b1, b2, b3, b4, hn b5, c1, c2, c3, c4, hn c5, d, trivial⟩
theorem of_p {c : List En} {r n : Int} {on : List Jd} (h : purC c = false) : ofB c r n on = none := by
  unfold ofB
  split
  · rfl
  · rw [h]; rfl
theorem of_a {c : List En} {r n : Int} {on : List Jd} (h : allR c.length r 0 on = false) : ofB c r n on = none := by
  unfold ofB
  split
  · rfl
  · rw [h, Bool.and_false]; rfl
theorem of_r {c : List En} {r n : Int} {on : List Jd} (h0 : Dv.dkidsN r = on.length) (h1 : purC c = true) (h2 : allR c.length r 0 on = true) : ofB c r n on = (match concB c n r on with
    | some j => if okJ j = true then some j else none
    | none => none) := by
  unfold ofB
  rw [if_neg (by simp [h0]), h1, h2]
  rfl
theorem of_n {c : List En} {r n : Int} {on : List Jd} (h0 : Dv.dkidsN r ≠ on.length) : ofB c r n on = none := if_pos h0
structure Sml (c : List En) (on : List Jd) : Prop where
  len : c.length ≤ 200
  ents : ∀ e ∈ c, e.a.size ≤ 1000
  js : ∀ j ∈ on, j.u.size ≤ 1000 ∧ j.v.size ≤ 1000 ∧ j.a.size ≤ 1000
theorem Sml.tl {c : List En} {j : Jd} {l : List Jd} (h : Sml c (j :: l)) : Sml c l := ⟨h.len, h.ents, fun k hk => h.js k (List.mem_cons_of_mem _ hk)⟩
theorem Sml.z {c : List En} {e : Bool} {u v x : Tm} {i : Int} {l : List Jd} (h : Sml c (⟨e, re u, re v, re x, i⟩ :: l)) : u.size ≤ 1000 ∧ v.size ≤ 1000 ∧ x.size ≤ 1000 := by
  have := h.js _ (List.mem_cons_self ..)
  simp only [re_eq] at this
  exact this
theorem sz1 {t : Tm} (h : t.size ≤ 1000) : (re t).size ≤ 10000000 := by
  rw [re_eq]; omega
theorem bc {C : Prop} (b : Bool) (h0 : b = false → C) (h1 : b = true → C) : C := by
  cases b with
  | false => exact h0 rfl
  | true => exact h1 rfl
theorem bd {C : Prop} (b : Bool) (h1 : b = true → C) (h0 : b = false → C) : C := bc b h0 h1
theorem bneT {x y : Int} (h : (x == y) = true) : (x != y) = false := by unfold bne; rw [h]; rfl
theorem bneF {x y : Int} (h : (x == y) = false) : (x != y) = true := by unfold bne; rw [h]; rfl
theorem of_s {c : List En} {r n : Int} {on : List Jd} {t : Bool} {j : Jd} (h1 : purC c = true) (h2 : allR c.length r 0 on = true) (hC : concB c n r on = if t = true then some j else none) (hT : t = true) (hO : okJ j = true) (h0 : Dv.dkidsN r = on.length := by kernel_rfl) : ofB c r n on = some j := by
  rw [of_r h0 h1 h2, hC, hT]
  simp [hO]
theorem of_t {c : List En} {r n : Int} {on : List Jd} {t : Bool} {j : Jd} (h1 : purC c = true) (h2 : allR c.length r 0 on = true) (hC : concB c n r on = if t = true then some j else none) (hT : t = false) (h0 : Dv.dkidsN r = on.length := by kernel_rfl) : ofB c r n on = none := by
  rw [of_r h0 h1 h2, hC, hT]
  rfl
theorem of_o {c : List En} {r n : Int} {on : List Jd} {t : Bool} {j : Jd} (h1 : purC c = true) (h2 : allR c.length r 0 on = true) (hC : concB c n r on = if t = true then some j else none) (hO : okJ j = false) (h0 : Dv.dkidsN r = on.length := by kernel_rfl) : ofB c r n on = none := by
  rw [of_r h0 h1 h2, hC]
  cases t <;> simp [hO]
theorem right_u {j : Jd} {n : Int} (h : rightJ j n = true) : j.u.pureB = true ∧ j.a.pureB = true := by
  unfold rightJ jfitB at h
  simp only [Bool.and_eq_true] at h
  exact ⟨h.2.1.1.1, h.2.1.2.1⟩
theorem putB_le {t u : Tm} (h : t.pureB = true) (h1 : t.size ≤ 1000) (h2 : u.size ≤ 10000) : (t.putB u).size ≤ 10000000 :=
  Nat.le_trans (putB_size u h) (Nat.le_trans (Nat.mul_le_mul h2 h1) (by decide))
theorem pure_kid {t x : Tm} (h : t.pureB = true) (hk : t.k ≠ 12) (hx : x ∈ t.kids) : x.pureB = true := by
  have hc := pure_count h
  unfold Tm.pureB at h ⊢
  rw [Bool.and_eq_true] at h ⊢
  refine ⟨?_, ?_⟩
  · cases t with
    | mk k i j n l =>
      have := h.1
      simp only [Tm.markedB, Bool.and_eq_true] at this
      have hm := this.2.2.2
      have h12 : (k == 12) = false := by
        have hk' : k ≠ 12 := hk
        simpa using hk'
      rw [h12] at hm
      have key : ∀ (l : List Tm) (p : Nat), markeds false p l = true → x ∈ l → x.markedB = true := by
        intro l
        induction l with
        | nil => intro _ _ h; cases h
        | cons a r ih =>
          intro p hm hx
          simp only [markeds, Bool.false_and, Bool.false_eq_true, if_false, Bool.and_eq_true] at hm
          rcases List.mem_cons.1 hx with rfl | hx
          · exact hm.1
          · exact ih _ hm.2 hx
      exact key l 0 hm hx
  · cases t with
    | mk k i j n l =>
      have := counts_mem (x := x) (l := l) hx
      simp only [Tm.count] at hc
      have : x.count = 0 := by omega
      simp [this]
theorem kid_size {t x : Tm} (hx : x ∈ t.kids) : x.size ≤ t.size := by
  rw [Tm.size_eq t]
  have key : ∀ (l : List Tm), x ∈ l → x.size ≤ sizes l := by
    intro l
    induction l with
    | nil => intro h; cases h
    | cons a r ih =>
      intro h
      simp only [sizes]
      rcases List.mem_cons.1 h with rfl | h
      · omega
      · have := ih h
        omega
  have := key _ hx
  omega
theorem atU_le {c : List En} (n : Int) (h : ∀ e ∈ c, e.a.size ≤ 1000) : (atU c n).size ≤ 10000000 := by
  unfold atU
  split
  · refine Nat.le_trans (liftB_size _ _ _) ?_
    cases hq : c[c.length - 1 - n.toNat]? with
    | none => simp [Tm.zero, Tm.size, sizes]
    | some e =>
      have := h e (List.mem_of_getElem? hq)
      simp only [Option.map_some, Option.getD_some]
      omega
  · simp [Tm.zero, Tm.size, sizes]
end Go.Proofs.Ytmicgbdcbjajiaa.Se
namespace Go.Proofs.Ytmicgbdcbjajiaa.Se
open Go Go.RowKit
theorem optK_counts {F : Nat → Tm → Option Tm} : ∀ (l : List Tm) (p : Nat) {m : List Tm}, optK F p l = some m → (∀ q x y, x ∈ l → F q x = some y → y.count = 0) → counts m = 0
  | [], _, m, h, _ => by cases h; rfl
  | x :: r, p, m, h, hF => by
    simp only [optK] at h
    cases hx : F p x with
    | none => rw [hx] at h; cases h
    | some y =>
      rw [hx] at h
      simp only [Option.bind_some] at h
      cases hr : optK F (p + 1) r with
      | none => rw [hr] at h; cases h
      | some m' =>
        rw [hr] at h
        cases h
        have h1 := hF p x y (List.mem_cons_self ..) hx
        have h2 := optK_counts r (p + 1) hr (fun q z w hz => hF q z w (List.mem_cons_of_mem _ hz))
        simp only [counts]
        omega
theorem count_kids {t : Tm} (hc : t.count = 0) : t.k ≠ 12 ∧ ∀ x ∈ t.kids, x.count = 0 := by
  have hce : t.count = (if t.k = 12 then 1 else 0) + counts t.kids := by cases t; rfl
  rw [hce] at hc
  refine ⟨fun h => ?_, fun x hx => ?_⟩
  · rw [if_pos h] at hc; omega
  · have := counts_mem hx
    omega
theorem count_node {k i j n : Int} {l : List Tm} (h12 : k ≠ 12) (h : counts l = 0) : (Tm.mk k i j n l).count = 0 := by
  simp only [Tm.count, h, if_neg h12]
theorem each_count (f : Int → Int → Option Int) (t : Tm) : ∀ b x, t.count = 0 → t.each f b = some x → x.count = 0 := by
  induction t using Tm.ind with
  | h t ih =>
    intro b x hc h
    obtain ⟨h12, hk⟩ := count_kids hc
    by_cases h2 : t.k = 2
    · rw [Tm.each_var _ _ _ h2] at h
      cases hf : f t.i b with
      | none => rw [hf] at h; cases h
      | some v => rw [hf] at h; cases h; rfl
    · rw [Tm.each_node _ _ _ h2] at h
      cases ho : optK (fun q x => x.each f (b + bindsN t.k q)) 0 t.kids with
      | none => rw [ho] at h; cases h
      | some m =>
        rw [ho] at h
        cases h
        exact count_node h12 (optK_counts t.kids 0 ho (fun q x y hx hy => ih x hx _ y (hk x hx) hy))
theorem putG_count {u : Tm} (hu : u.count = 0) (t : Tm) : ∀ b x, t.count = 0 → t.putG (gPut u) b false = some x → x.count = 0 := by
  induction t using Tm.ind with
  | h t ih =>
    intro b x hc h
    obtain ⟨h12, hk⟩ := count_kids hc
    by_cases h2 : t.k = 2
    · rw [Tm.putG_var _ _ _ _ h2] at h
      unfold gPut at h
      split at h
      · cases h; rfl
      · split at h
        · simp only [Bool.false_eq_true, if_false] at h
          exact each_count _ _ _ _ hu h
        · cases h; rfl
    · rw [Tm.putG_node _ _ _ _ h2] at h
      cases ho : optK (fun q x => x.putG (gPut u) (b + bindsN t.k q) (false || (t.k == 12 && q == 2))) 0 t.kids with
      | none => rw [ho] at h; cases h
      | some m =>
        rw [ho] at h
        cases h
        have h12' : (t.k == 12) = false := by simpa using h12
        exact count_node h12 (optK_counts t.kids 0 ho (fun q x y hx hy => by
          rw [h12'] at hy
          exact ih x hx _ y (hk x hx) hy))
theorem each_shift (k c : Int) (t : Tm) : ∀ b, t.each (liftF k c) b = t.each (liftF k 0) (b + c) := by
  induction t using Tm.ind with
  | h t ih =>
    intro b
    by_cases h2 : t.k = 2
    · rw [Tm.each_var _ _ _ h2, Tm.each_var _ _ _ h2]
      have : liftF k c t.i b = liftF k 0 t.i (b + c) := by
        unfold liftF
        by_cases h : t.i - b < c
        · rw [if_pos h, if_pos (by omega)]
        · rw [if_neg h, if_neg (c := t.i - (b + c) < 0) (by omega)]
      rw [this]
    · rw [Tm.each_node _ _ _ h2, Tm.each_node _ _ _ h2]
      congr 1
      have key : ∀ (l : List Tm) (p : Nat), (∀ x ∈ l, x ∈ t.kids) → optK (fun q x => x.each (liftF k c) (b + bindsN t.k q)) p l = optK (fun q x => x.each (liftF k 0) (b + c + bindsN t.k q)) p l := by
        intro l
        induction l with
        | nil => intro p _; rfl
        | cons a r ihr =>
          intro p h
          simp only [optK]
          rw [ihr (p + 1) (fun x hx => h x (List.mem_cons_of_mem _ hx)), ih a (h a (List.mem_cons_self ..)), show b + bindsN t.k p + c = b + c + bindsN t.k p by omega]
      exact key t.kids 0 (fun x hx => hx)
structure Fit (t : Tm) (N : Int) : Prop where
  p : t.pureB = true
  f : t.freeN ≤ N
theorem Fit.le {t : Tm} {N M : Int} (h : Fit t N) (hm : N ≤ M) : Fit t M := ⟨h.p, Int.le_trans h.f hm⟩
theorem pure_right {t : Tm} (h : t.pureB = true) : t.rightB = true := marked_right (pure_marked h)
theorem pure_of {t : Tm} (h : t.markedB = true) (hc : t.count = 0) : t.pureB = true := by unfold Tm.pureB; rw [h, hc]; rfl
theorem fit_of {t : Tm} {n : Int} (h : jfitB t n = true) : Fit t n := by
  unfold jfitB at h
  simp only [Bool.and_eq_true, decide_eq_true_eq] at h
  refine ⟨h.1, ?_⟩
  rw [← free_of (pure_right h.1)]
  exact h.2
theorem Fit.b {k q N : Int} {t : Tm} (h : Fit t N) : Fit t (N + bindsN k q) := h.le (by have := (binds_range k q).1; omega)
theorem Fit.c {k q N : Int} {t : Tm} (h : Fit t (N + 1)) (hb : 1 ≤ bindsN k q := by decide) : Fit t (N + bindsN k q) := h.le (by omega)
theorem Fit.d {k q N : Int} {t : Tm} (h : Fit t (N + bindsN k q)) (hb : bindsN k q ≤ 1 := by decide) : Fit t (N + 1) := h.le (by omega)
theorem Fit.e {k q N : Int} {t : Tm} (h : Fit t (N + bindsN k q)) (hb : bindsN k q ≤ 0 := by decide) : Fit t N := h.le (by omega)
def FitL (k N : Int) : Nat → List Tm → Prop
  | _, [] => True
  | q, x :: r => Fit x (N + bindsN k q) ∧ FitL k N (q + 1) r
theorem fitL_get {k N : Int} : ∀ (l : List Tm) (p : Nat), FitL k N p l → ∀ q (h : q < l.length), Fit l[q] (N + bindsN k ((p + q : Nat) : Int))
  | [], _, _, q, h => by simp at h
  | x :: r, p, hf, 0, h => by simpa using hf.1
  | x :: r, p, hf, q + 1, h => by
    have := fitL_get r (p + 1) hf.2 q (by simpa using h)
    rw [show p + 1 + q = p + (q + 1) by omega] at this
    simpa using this
theorem fit_nd {k i j N : Int} {l : List Tm} (hk : 3 ≤ k ∧ k ≤ 11) (hl : (l.length : Int) = kidsN k 0) (hn : numbersN k i j 0 = true) (hN : 0 ≤ N) (h : FitL k N 0 l) : Fit (nd k i j l) N := by
  have hg := fitL_get l 0 h
  refine ⟨pure_of ?_ (count_node (by omega) ?_), ?_⟩
  · rw [Tm.markedB_eq]
    show ((decide (1 ≤ k) && decide (k ≤ 12)) && ((nd k i j l).nodeB && markeds (k == 12) 0 l)) = true
    have h12 : (k == 12) = false := by
      have : k ≠ 12 := by omega
      simpa using this
    have hm : markeds false 0 l = true := by
      refine markeds_put fun q hq => ?_
      simp only [Bool.false_and, Bool.false_eq_true, if_false]
      exact pure_marked (hg q hq).p
    have hnd : (nd k i j l).nodeB = true := by
      show (((l.length : Int) == kidsN k 0) && numbersN k i j 0) = true
      rw [hl, hn]
      simp
    rw [h12, hm, hnd]
    simp
    omega
  · refine counts_zero fun x hx => ?_
    obtain ⟨q, hq, rfl⟩ := List.getElem_of_mem hx
    exact pure_count (hg q hq).p
  · rw [Tm.freeN_eq]
    show (if k = 2 then i + 1 else frees k 0 l) ≤ N
    rw [if_neg (by omega)]
    refine frees_bound k N hN l 0 fun q hq => ?_
    have := (hg q hq).f
    omega
def lv (i : Int) : Prop := 0 ≤ i ∧ i ≤ 1000
theorem lv_b {i : Int} : levelB i = true ↔ lv i := by unfold levelB lv; simp
theorem num_a {k i j : Int} (hk : 3 ≤ k ∧ k ≤ 9) (hi : lv i) (hj : lv j) : numbersN k i j 0 = true := by
  unfold numbersN
  rw [if_neg (by omega), if_neg (by omega), if_pos (by omega), lv_b.2 hi, lv_b.2 hj]
  rfl
theorem num_b {k i : Int} (hk : k = 10 ∨ k = 11) (hi : lv i) : numbersN k i 0 0 = true := by
  unfold numbersN
  rw [if_neg (by omega), if_pos (by omega), lv_b.2 hi]
  rfl
theorem lv_max {i j : Int} (hi : lv i) (hj : lv j) : lv (max i j) := by unfold lv at *; omega
theorem pure_num {t : Tm} (h : t.pureB = true) : numbersN t.k t.i t.j t.n = true := by
  have := Tm.right_node (pure_right h)
  unfold Tm.nodeB at this
  rw [Bool.and_eq_true] at this
  exact this.2
theorem lv_os {t : Tm} (h : t.pureB = true) (hk : t.k = 1 ∨ t.k = 10 ∨ t.k = 11) : lv t.i := by
  have := pure_num h
  unfold numbersN at this
  rw [if_neg (by omega), if_pos (by omega), Bool.and_eq_true] at this
  exact lv_b.1 this.1
theorem lv_two {t : Tm} (h : t.pureB = true) (hk : t.k = 3 ∨ t.k = 6) : lv t.i ∧ lv t.j := by
  have := pure_num h
  unfold numbersN at this
  rw [if_neg (by omega), if_neg (by omega), if_pos (by omega), Bool.and_eq_true, Bool.and_eq_true] at this
  exact ⟨lv_b.1 this.1, lv_b.1 this.2.1⟩
theorem fit_srt {i N : Int} (hi : lv i) (hN : 0 ≤ N) : Fit (srt i) N := by
  refine ⟨pure_of ?_ rfl, ?_⟩
  · rw [Tm.markedB_eq]
    show (true && ((true && numbersN 1 i 0 0) && true)) = true
    have : numbersN 1 i 0 0 = true := by
      unfold numbersN
      rw [if_neg (by omega), if_pos (by omega), lv_b.2 hi]
      rfl
    rw [this]
    rfl
  · rw [Tm.freeN_eq]
    exact hN
theorem fit_var {n N : Int} (h0 : 0 ≤ n) (h1 : n < N) (h2 : N ≤ 100000) : Fit (.mk 2 n 0 0 []) N := by
  refine ⟨pure_of (var_right h0 (by omega)).1 rfl, ?_⟩
  rw [Tm.freeN_eq]
  show n + 1 ≤ N
  omega
theorem fit_kid {x y : Tm} {N : Int} {q : Nat} (h : Fit x N) (h2 : x.k ≠ 2) (h12 : x.k ≠ 12) (hy : x.kids[q]? = some y) : Fit y (N + bindsN x.k q) := by
  obtain ⟨hq, rfl⟩ := List.getElem?_eq_some_iff.1 hy
  refine ⟨pure_kid h.p h12 (List.getElem_mem hq), ?_⟩
  have := frees_get x.k x.kids 0 q hq
  have hf := h.f
  rw [Tm.freeN_eq, if_neg h2] at hf
  rw [Nat.zero_add] at this
  omega
theorem fit_put {t u : Tm} {N : Int} (ht : Fit t (N + 1)) (hu : Fit u N) (hN0 : 0 ≤ N) (hN : N ≤ 1000) (h1 : t.size ≤ 100000) (h2 : u.size ≤ 100000) : Fit (t.putB u) N := by
  have hr := pure_right ht.p
  have hru := pure_right hu.p
  have hmu := pure_marked hu.p
  have hfu : u.freeN ≤ 1048576 := by have := hu.f; omega
  have hdt : t.deep ≤ 100000 := Nat.le_trans (deep_le_size _) h1
  have hdu : u.deep ≤ 100000 := Nat.le_trans (deep_le_size _) h2
  obtain ⟨hk1, hk2, hk3⟩ := putB_keeps hr (may_marked hmu) hfu hdt hdu
  have hk : decide (12 < t.k) = false := by
    have := (pure_kind ht.p).1
    simp
    omega
  obtain ⟨x, hx⟩ := put_comes hr hru hfu hdt hdu (decide (12 < t.k))
  refine ⟨pure_of (hk2 (pure_marked ht.p) hmu) ?_, ?_⟩
  · rw [putB_good hr (may_marked hmu) hx]
    rw [hk] at hx
    exact putG_count (pure_count hu.p) t 0 x (pure_count ht.p) hx
  · rw [free_of hk1, free_of hr, free_of hru] at hk3
    have := ht.f
    have := hu.f
    omega
theorem fit_lift {t : Tm} {N c : Int} (h : Fit t N) (hc : 0 ≤ c) (hN : N ≤ 1000) (hs : t.size ≤ 100000) : Fit (t.liftB 1 c) (N + 1) := by
  have hr := pure_right h.p
  obtain ⟨u, hu⟩ := lift_comes (k := 1) (c := c) (by omega) (by omega) hr (by have := h.f; omega) (Nat.le_trans (deep_le_size _) hs)
  rw [liftB_good (by omega) hc hr, hu, Option.getD_some]
  obtain ⟨h1, -, -⟩ := each_keeps _ (liftF_range 1 c (by omega)) t 0 u hr hu
  refine ⟨pure_of (by rw [h1]; exact pure_marked h.p) (each_count _ t 0 u (pure_count h.p) hu), ?_⟩
  rw [each_shift] at hu
  have hf := lift_free 1 (by omega) t (0 + c) u (by omega) hr hu
  have := h.f
  split at hf <;> omega
theorem w64 {x : Int} (h : -1000000 ≤ x ∧ x ≤ 1000000) : W64 x = x := IntWalk.i64_in _ (by omega)
structure Rj (p : Jd) (N : Int) : Prop where
  i : lv p.i
  u : Fit p.u N
  a : Fit p.a N
  v : p.eq = true → Fit p.v N
  su : p.u.size ≤ 1000
  sv : p.v.size ≤ 1000
  sa : p.a.size ≤ 1000
theorem rj_of {p : Jd} {N : Int} (h : rightJ p N = true) (hs : p.u.size ≤ 1000 ∧ p.v.size ≤ 1000 ∧ p.a.size ≤ 1000) : Rj p N := by
  unfold rightJ at h
  simp only [Bool.and_eq_true, decide_eq_true_eq] at h
  refine ⟨h.1, fit_of h.2.1.1, fit_of h.2.1.2, fun he => ?_, hs.1, hs.2.1, hs.2.2⟩
  have := h.2.2
  rw [if_pos he] at this
  exact fit_of this
structure Gd (N r : Int) (j : Jd) : Prop where
  e : j.eq = Dv.equalB r
  i : 0 ≤ j.i
  u : Fit j.u N
  a : Fit j.a N
  v : j.eq = true → Fit j.v N
  z : j.eq = false → j.v = .zero
theorem kd_kid {x : Tm} {N : Int} (q : Nat) (h : Fit x N) (hk : (x.k = 3 ∨ x.k = 6) ∧ q < 2 ∨ x.k = 10 ∧ q < 3) : Fit (kd x q) (N + bindsN x.k q) ∧ (kd x q).size ≤ x.size := by
  have hl := (pure_kind h.p).2
  have hq : q < x.kids.length := by
    unfold kidsN at hl
    rcases hk with ⟨e | e, hq⟩ | ⟨e, hq⟩ <;> rw [e] at hl <;> simp at hl <;> omega
  have hg : x.kids[q]? = some x.kids[q] := List.getElem?_eq_getElem hq
  unfold kd
  rw [hg, Option.getD_some]
  exact ⟨fit_kid h (by omega) (by omega) hg, kid_size (List.getElem_mem hq)⟩
end Go.Proofs.Ytmicgbdcbjajiaa.Se
namespace Go.Proofs.Ytmicgbdcbjajiaa.Se
open Go Go.RowKit
theorem w64_nn {x : Int} (h : lv x) : 0 ≤ W64 (x + 1) := by
  unfold lv at h
  rw [w64 (by omega)]
  omega
theorem osW_k {a : Tm} {i : Int} (h : osW a i = true) : a.k = 1 := by
  unfold osW at h
  simp only [Bool.and_eq_true, beq_iff_eq] at h
  exact h.1
theorem isT_k {p : Jd} (h : isT p = true) : p.eq = false ∧ p.a.k = 1 := by
  unfold isT at h
  simp only [Bool.and_eq_true, Bool.not_eq_true'] at h
  exact ⟨h.1, osW_k h.2⟩
theorem areT_k {p : Jd} (h : areT p = true) : p.eq = true ∧ p.a.k = 1 := by
  unfold areT at h
  simp only [Bool.and_eq_true] at h
  exact ⟨h.1, osW_k h.2⟩
theorem spl_k {p : Jd} {k : Int} (h : spl p k = true) : p.eq = false ∧ p.a.k = k := by
  unfold spl at h
  simp only [Bool.and_eq_true, Bool.not_eq_true', beq_iff_eq] at h
  exact ⟨h.1, h.2.1⟩
theorem prf_k {p : Jd} (h : prf p = true) : p.eq = false ∧ p.a.k = 10 := by
  unfold prf at h
  simp only [Bool.and_eq_true, Bool.not_eq_true', beq_iff_eq] at h
  exact ⟨h.1, h.2.1⟩
theorem cnv_k {p q : Jd} (h : cnv p q = true) : q.eq = true ∧ q.a.k = 1 := by
  unfold cnv at h
  rw [Bool.and_eq_true] at h
  exact areT_k h.1
theorem kd_two {x : Tm} {N : Int} (h : Fit x N) (hk : x.k = 3 ∨ x.k = 6) : Fit (kd x 0) N ∧ Fit (kd x 1) (N + 1) ∧ (kd x 0).size ≤ x.size ∧ (kd x 1).size ≤ x.size := by
  have h0 := kd_kid 0 h (Or.inl ⟨hk, by omega⟩)
  have h1 := kd_kid 1 h (Or.inl ⟨hk, by omega⟩)
  rcases hk with e | e <;> rw [e] at h0 h1 <;> exact ⟨h0.1.e, h1.1.d, h0.2, h1.2⟩
theorem kd_three {x : Tm} {N : Int} (h : Fit x N) (hk : x.k = 10) : Fit (kd x 0) N ∧ Fit (kd x 1) N ∧ Fit (kd x 2) N := by
  have h0 := kd_kid 0 h (Or.inr ⟨hk, by omega⟩)
  have h1 := kd_kid 1 h (Or.inr ⟨hk, by omega⟩)
  have h2 := kd_kid 2 h (Or.inr ⟨hk, by omega⟩)
  rw [hk] at h0 h1 h2
  exact ⟨h0.1.e, h1.1.e, h2.1.e⟩
theorem gd3 {p q : Jd} {N : Int} (hN : 0 ≤ N) (_ : N ≤ 300) (P : Rj p (N)) (Q : Rj q (N + 1)) (h : (isT p && isT q) = true) : Gd N 3 ⟨false, nd 3 p.a.i q.a.i [p.u, q.u], .zero, srt (max p.a.i q.a.i), W64 (max p.a.i q.a.i + 1)⟩ := by
  rw [Bool.and_eq_true] at h
  obtain ⟨hp, hq⟩ := h
  obtain ⟨-, kp⟩ := isT_k hp
  have lp := lv_os P.a.p (Or.inl kp)
  obtain ⟨-, kq⟩ := isT_k hq
  have lq := lv_os Q.a.p (Or.inl kq)
  exact ⟨rfl, w64_nn (lv_max lp lq), fit_nd (k := 3) (by decide) rfl (num_a (by decide) lp lq) hN ⟨(P.u).b, (Q.u).c, trivial⟩, fit_srt (lv_max lp lq) hN, (fun h => by cases h), (fun _ => rfl)⟩
theorem gd4 {p q : Jd} {N : Int} (hN : 0 ≤ N) (_ : N ≤ 300) (P : Rj p (N)) (Q : Rj q (N + 1)) (h : (isT p && !q.eq) = true) : Gd N 4 ⟨false, nd 4 p.a.i q.i [p.u, q.a, q.u], .zero, nd 3 p.a.i q.i [p.u, q.a], max p.a.i q.i⟩ := by
  rw [Bool.and_eq_true] at h
  obtain ⟨hp, -⟩ := h
  obtain ⟨-, kp⟩ := isT_k hp
  have lp := lv_os P.a.p (Or.inl kp)
  exact ⟨rfl, (lv_max lp Q.i).1, fit_nd (k := 4) (by decide) rfl (num_a (by decide) lp Q.i) hN ⟨(P.u).b, (Q.a).c, (Q.u).c, trivial⟩, fit_nd (k := 3) (by decide) rfl (num_a (by decide) lp Q.i) hN ⟨(P.u).b, (Q.a).c, trivial⟩, (fun h => by cases h), (fun _ => rfl)⟩
theorem gd5 {p q : Jd} {N : Int} (hN : 0 ≤ N) (hN2 : N ≤ 300) (P : Rj p (N)) (Q : Rj q (N)) (h : (spl p 3 && hasW q (kd p.a 0) p.a.i) = true) : Gd N 5 ⟨false, nd 5 p.a.i p.a.j [kd p.a 0, kd p.a 1, p.u, q.u], .zero, (kd p.a 1).putB q.u, p.a.j⟩ := by
  rw [Bool.and_eq_true] at h
  obtain ⟨hp, -⟩ := h
  obtain ⟨-, kp⟩ := spl_k hp
  obtain ⟨K0, K1, z0, z1⟩ := kd_two P.a (by omega)
  obtain ⟨li, lj⟩ := lv_two P.a.p (by omega)
  exact ⟨rfl, lj.1, fit_nd (k := 5) (by decide) rfl (num_a (by decide) li lj) hN ⟨(K0).b, (K1).c, (P.u).b, (Q.u).b, trivial⟩, fit_put K1 Q.u hN (by omega) (Nat.le_trans z1 (Nat.le_trans P.sa (by decide))) (Nat.le_trans Q.su (by decide)), (fun h => by cases h), (fun _ => rfl)⟩
theorem gd6 {p q : Jd} {N : Int} (hN : 0 ≤ N) (_ : N ≤ 300) (P : Rj p (N)) (Q : Rj q (N + 1)) (h : (isT p && isT q) = true) : Gd N 6 ⟨false, nd 6 p.a.i q.a.i [p.u, q.u], .zero, srt (max p.a.i q.a.i), W64 (max p.a.i q.a.i + 1)⟩ := by
  rw [Bool.and_eq_true] at h
  obtain ⟨hp, hq⟩ := h
  obtain ⟨-, kp⟩ := isT_k hp
  have lp := lv_os P.a.p (Or.inl kp)
  obtain ⟨-, kq⟩ := isT_k hq
  have lq := lv_os Q.a.p (Or.inl kq)
  exact ⟨rfl, w64_nn (lv_max lp lq), fit_nd (k := 6) (by decide) rfl (num_a (by decide) lp lq) hN ⟨(P.u).b, (Q.u).c, trivial⟩, fit_srt (lv_max lp lq) hN, (fun h => by cases h), (fun _ => rfl)⟩
theorem gd7 {p q t : Jd} {N : Int} (hN : 0 ≤ N) (_ : N ≤ 300) (P : Rj p (N)) (Q : Rj q (N + 1)) (T : Rj t (N)) (h : prd p q t = true) : Gd N 7 ⟨false, nd 7 p.i q.a.i [p.a, q.u, p.u, t.u], .zero, nd 6 p.i q.a.i [p.a, q.u], max p.i q.a.i⟩ := by
  unfold prd at h
  simp only [Bool.and_eq_true] at h
  have hq := h.1.1
  obtain ⟨-, kq⟩ := isT_k hq
  have lq := lv_os Q.a.p (Or.inl kq)
  exact ⟨rfl, (lv_max P.i lq).1, fit_nd (k := 7) (l := [p.a, q.u, p.u, t.u]) (by decide) rfl (num_a (by decide) P.i lq) hN ⟨(P.a).b, (Q.u).c, (P.u).b, (T.u).b, trivial⟩, fit_nd (k := 6) (by decide) rfl (num_a (by decide) P.i lq) hN ⟨(P.a).b, (Q.u).c, trivial⟩, (fun h => by cases h), (fun _ => rfl)⟩
theorem gd8 {p : Jd} {N : Int} (hN : 0 ≤ N) (_ : N ≤ 300) (P : Rj p (N)) (h : spl p 6 = true) : Gd N 8 ⟨false, nd 8 p.a.i p.a.j [kd p.a 0, kd p.a 1, p.u], .zero, kd p.a 0, p.a.i⟩ := by
  have hp := h
  obtain ⟨-, kp⟩ := spl_k hp
  obtain ⟨K0, K1, z0, z1⟩ := kd_two P.a (by omega)
  obtain ⟨li, lj⟩ := lv_two P.a.p (by omega)
  exact ⟨rfl, li.1, fit_nd (k := 8) (l := [kd p.a 0, kd p.a 1, p.u]) (by decide) rfl (num_a (by decide) li lj) hN ⟨(K0).b, (K1).c, (P.u).b, trivial⟩, K0, (fun h => by cases h), (fun _ => rfl)⟩
theorem gd9 {p : Jd} {N : Int} (hN : 0 ≤ N) (hN2 : N ≤ 300) (P : Rj p (N)) (h : spl p 6 = true) : Gd N 9 ⟨false, nd 9 p.a.i p.a.j [kd p.a 0, kd p.a 1, p.u], .zero, (kd p.a 1).putB (nd 8 p.a.i p.a.j [kd p.a 0, kd p.a 1, p.u]), p.a.j⟩ := by
  have hp := h
  obtain ⟨-, kp⟩ := spl_k hp
  obtain ⟨K0, K1, z0, z1⟩ := kd_two P.a (by omega)
  obtain ⟨li, lj⟩ := lv_two P.a.p (by omega)
  exact ⟨rfl, lj.1, fit_nd (k := 9) (by decide) rfl (num_a (by decide) li lj) hN ⟨(K0).b, (K1).c, (P.u).b, trivial⟩, fit_put K1 (fit_nd (k := 8) (l := [kd p.a 0, kd p.a 1, p.u]) (by decide) rfl (num_a (by decide) li lj) hN ⟨(K0).b, (K1).c, (P.u).b, trivial⟩) hN (by omega) (Nat.le_trans z1 (Nat.le_trans P.sa (by decide))) (by have := P.sa; have := P.su; simp only [nd, Tm.size, sizes]; omega), (fun h => by cases h), (fun _ => rfl)⟩
theorem gd10 {p q : Jd} {N : Int} (hN : 0 ≤ N) (_ : N ≤ 300) (P : Rj p (N)) (Q : Rj q (N)) (_ : (!p.eq && hasW q p.a p.i) = true) : Gd N 10 ⟨false, nd 10 p.i 0 [p.a, p.u, q.u], .zero, srt p.i, W64 (p.i + 1)⟩ := by
  exact ⟨rfl, w64_nn P.i, fit_nd (k := 10) (by decide) rfl (num_b (by decide) P.i) hN ⟨(P.a).b, (P.u).b, (Q.u).b, trivial⟩, fit_srt P.i hN, (fun h => by cases h), (fun _ => rfl)⟩
theorem gd11 {p : Jd} {N : Int} (hN : 0 ≤ N) (_ : N ≤ 300) (P : Rj p (N)) (_ : (!p.eq) = true) : Gd N 11 ⟨false, nd 11 p.i 0 [p.a, p.u], .zero, nd 10 p.i 0 [p.a, p.u, p.u], p.i⟩ := by
  exact ⟨rfl, P.i.1, fit_nd (k := 11) (by decide) rfl (num_b (by decide) P.i) hN ⟨(P.a).b, (P.u).b, trivial⟩, fit_nd (k := 10) (by decide) rfl (num_b (by decide) P.i) hN ⟨(P.a).b, (P.u).b, (P.u).b, trivial⟩, (fun h => by cases h), (fun _ => rfl)⟩
theorem gd12 {p q : Jd} {N : Int} (_ : 0 ≤ N) (_ : N ≤ 300) (P : Rj p (N)) (Q : Rj q (N)) (h : (!p.eq && cnv p q) = true) : Gd N 12 ⟨false, p.u, .zero, q.v, p.i⟩ := by
  rw [Bool.and_eq_true] at h
  obtain ⟨-, hq⟩ := h
  obtain ⟨eq, -⟩ := cnv_k hq
  exact ⟨rfl, P.i.1, P.u, Q.v eq, (fun h => by cases h), (fun _ => rfl)⟩
theorem gd13 {p : Jd} {N : Int} (_ : 0 ≤ N) (_ : N ≤ 300) (P : Rj p (N)) (_ : (!p.eq) = true) : Gd N 13 ⟨true, p.u, p.u, p.a, p.i⟩ := by
  exact ⟨rfl, P.i.1, P.u, P.a, (fun _ => P.u), (fun h => by cases h)⟩
theorem gd14 {p : Jd} {N : Int} (_ : 0 ≤ N) (_ : N ≤ 300) (P : Rj p (N)) (h : p.eq = true) : Gd N 14 ⟨true, p.v, p.u, p.a, p.i⟩ := by
  have hp := h
  exact ⟨rfl, P.i.1, P.v hp, P.a, (fun _ => P.u), (fun h => by cases h)⟩
theorem gd15 {p q : Jd} {N : Int} (_ : 0 ≤ N) (_ : N ≤ 300) (P : Rj p (N)) (Q : Rj q (N)) (h : (p.eq && (q.eq && (p.i == q.i && (sameB p.v q.u && sameB p.a q.a)))) = true) : Gd N 15 ⟨true, p.u, q.v, p.a, p.i⟩ := by
  rw [Bool.and_eq_true] at h
  obtain ⟨-, hq⟩ := h
  rw [Bool.and_eq_true] at hq
  exact ⟨rfl, P.i.1, P.u, P.a, (fun _ => Q.v hq.1), (fun h => by cases h)⟩
theorem gd16 {p q : Jd} {N : Int} (_ : 0 ≤ N) (_ : N ≤ 300) (P : Rj p (N)) (Q : Rj q (N)) (h : (p.eq && cnv p q) = true) : Gd N 16 ⟨true, p.u, p.v, q.v, p.i⟩ := by
  rw [Bool.and_eq_true] at h
  obtain ⟨hp, hq⟩ := h
  obtain ⟨eq, -⟩ := cnv_k hq
  exact ⟨rfl, P.i.1, P.u, Q.v eq, (fun _ => P.v hp), (fun h => by cases h)⟩
theorem gd17 {p : Jd} {N : Int} (_ : 0 ≤ N) (_ : N ≤ 300) (P : Rj p (N)) (h : prf p = true) : Gd N 17 ⟨true, kd p.a 1, kd p.a 2, kd p.a 0, p.i⟩ := by
  have hp := h
  obtain ⟨-, kp⟩ := prf_k hp
  obtain ⟨K0, K1, K2⟩ := kd_three P.a kp
  exact ⟨rfl, P.i.1, K1, K0, (fun _ => K2), (fun h => by cases h)⟩
theorem gd18 {p q : Jd} {N : Int} (hN : 0 ≤ N) (hN2 : N ≤ 300) (P : Rj p (N)) (Q : Rj q (N + 1)) (_ : (!p.eq && !q.eq) = true) : Gd N 18 ⟨true, nd 5 p.i q.i [p.a, q.a, nd 4 p.i q.i [p.a, q.a, q.u], p.u], q.u.putB p.u, q.a.putB p.u, q.i⟩ := by
  exact ⟨rfl, Q.i.1, fit_nd (k := 5) (by decide) rfl (num_a (by decide) P.i Q.i) hN ⟨(P.a).b, (Q.a).c, (fit_nd (k := 4) (l := [p.a, q.a, q.u]) (by decide) rfl (num_a (by decide) P.i Q.i) hN ⟨(P.a).b, (Q.a).c, (Q.u).c, trivial⟩).b, (P.u).b, trivial⟩, fit_put Q.a P.u hN (by omega) (Nat.le_trans Q.sa (by decide)) (Nat.le_trans P.su (by decide)), (fun _ => fit_put Q.u P.u hN (by omega) (Nat.le_trans Q.su (by decide)) (Nat.le_trans P.su (by decide))), (fun h => by cases h)⟩
theorem gd19 {p q t : Jd} {N : Int} (hN : 0 ≤ N) (_ : N ≤ 300) (P : Rj p (N)) (Q : Rj q (N + 1)) (T : Rj t (N)) (h : prd p q t = true) : Gd N 19 ⟨true, nd 8 p.i q.a.i [p.a, q.u, nd 7 p.i q.a.i [p.a, q.u, p.u, t.u]], p.u, p.a, p.i⟩ := by
  unfold prd at h
  simp only [Bool.and_eq_true] at h
  have hq := h.1.1
  obtain ⟨-, kq⟩ := isT_k hq
  have lq := lv_os Q.a.p (Or.inl kq)
  exact ⟨rfl, P.i.1, fit_nd (k := 8) (by decide) rfl (num_a (by decide) P.i lq) hN ⟨(P.a).b, (Q.u).c, (fit_nd (k := 7) (l := [p.a, q.u, p.u, t.u]) (by decide) rfl (num_a (by decide) P.i lq) hN ⟨(P.a).b, (Q.u).c, (P.u).b, (T.u).b, trivial⟩).b, trivial⟩, P.a, (fun _ => P.u), (fun h => by cases h)⟩
theorem gd20 {p q t : Jd} {N : Int} (hN : 0 ≤ N) (_ : N ≤ 300) (P : Rj p (N)) (Q : Rj q (N + 1)) (T : Rj t (N)) (h : prd p q t = true) : Gd N 20 ⟨true, nd 9 p.i q.a.i [p.a, q.u, nd 7 p.i q.a.i [p.a, q.u, p.u, t.u]], t.u, t.a, q.a.i⟩ := by
  unfold prd at h
  simp only [Bool.and_eq_true] at h
  have hq := h.1.1
  obtain ⟨-, kq⟩ := isT_k hq
  have lq := lv_os Q.a.p (Or.inl kq)
  exact ⟨rfl, lq.1, fit_nd (k := 9) (by decide) rfl (num_a (by decide) P.i lq) hN ⟨(P.a).b, (Q.u).c, (fit_nd (k := 7) (l := [p.a, q.u, p.u, t.u]) (by decide) rfl (num_a (by decide) P.i lq) hN ⟨(P.a).b, (Q.u).c, (P.u).b, (T.u).b, trivial⟩).b, trivial⟩, T.a, (fun _ => T.u), (fun h => by cases h)⟩
theorem gd21 {p : Jd} {N : Int} (hN : 0 ≤ N) (hN2 : N ≤ 300) (P : Rj p (N)) (h : spl p 3 = true) : Gd N 21 ⟨true, p.u, nd 4 p.a.i p.a.j [kd p.a 0, kd p.a 1, nd 5 p.a.i p.a.j [(kd p.a 0).liftB 1 0, (kd p.a 1).liftB 1 1, p.u.liftB 1 0, .mk 2 0 0 0 []]], p.a, p.i⟩ := by
  have hp := h
  obtain ⟨-, kp⟩ := spl_k hp
  obtain ⟨K0, K1, z0, z1⟩ := kd_two P.a (by omega)
  obtain ⟨li, lj⟩ := lv_two P.a.p (by omega)
  have X : Fit (nd 5 p.a.i p.a.j [(kd p.a 0).liftB 1 0, (kd p.a 1).liftB 1 1, p.u.liftB 1 0, .mk 2 0 0 0 []]) (N + 1) := fit_nd (k := 5) (by decide) rfl (num_a (by decide) li lj) (by omega) ⟨(fit_lift K0 (by decide) (by omega) (Nat.le_trans z0 (Nat.le_trans P.sa (by decide)))).b, (fit_lift K1 (by decide) (by omega) (Nat.le_trans z1 (Nat.le_trans P.sa (by decide)))).c, (fit_lift P.u (by decide) (by omega) (Nat.le_trans P.su (by decide))).b, (fit_var (by decide) (by omega) (by omega)).b, trivial⟩
  exact ⟨rfl, P.i.1, P.u, P.a, (fun _ => fit_nd (k := 4) (by decide) rfl (num_a (by decide) li lj) hN ⟨(K0).b, (K1).c, (X).c, trivial⟩), (fun h => by cases h)⟩
theorem gd22 {p : Jd} {N : Int} (hN : 0 ≤ N) (_ : N ≤ 300) (P : Rj p (N)) (h : spl p 6 = true) : Gd N 22 ⟨true, p.u, nd 7 p.a.i p.a.j [kd p.a 0, kd p.a 1, nd 8 p.a.i p.a.j [kd p.a 0, kd p.a 1, p.u], nd 9 p.a.i p.a.j [kd p.a 0, kd p.a 1, p.u]], p.a, p.i⟩ := by
  have hp := h
  obtain ⟨-, kp⟩ := spl_k hp
  obtain ⟨K0, K1, z0, z1⟩ := kd_two P.a (by omega)
  obtain ⟨li, lj⟩ := lv_two P.a.p (by omega)
  exact ⟨rfl, P.i.1, P.u, P.a, (fun _ => fit_nd (k := 7) (by decide) rfl (num_a (by decide) li lj) hN ⟨(K0).b, (K1).c, (fit_nd (k := 8) (l := [kd p.a 0, kd p.a 1, p.u]) (by decide) rfl (num_a (by decide) li lj) hN ⟨(K0).b, (K1).c, (P.u).b, trivial⟩).b, (fit_nd (k := 9) (l := [kd p.a 0, kd p.a 1, p.u]) (by decide) rfl (num_a (by decide) li lj) hN ⟨(K0).b, (K1).c, (P.u).b, trivial⟩).b, trivial⟩), (fun h => by cases h)⟩
theorem gd23 {p q : Jd} {N : Int} (hN : 0 ≤ N) (hN2 : N ≤ 300) (P : Rj p (N)) (Q : Rj q (N + 1)) (h : (p.eq && !q.eq) = true) : Gd N 23 ⟨true, q.u.putB p.u, q.u.putB p.v, q.a.putB p.u, q.i⟩ := by
  rw [Bool.and_eq_true] at h
  obtain ⟨hp, -⟩ := h
  exact ⟨rfl, Q.i.1, fit_put Q.u P.u hN (by omega) (Nat.le_trans Q.su (by decide)) (Nat.le_trans P.su (by decide)), fit_put Q.a P.u hN (by omega) (Nat.le_trans Q.sa (by decide)) (Nat.le_trans P.su (by decide)), (fun _ => fit_put Q.u (P.v hp) hN (by omega) (Nat.le_trans Q.su (by decide)) (Nat.le_trans P.sv (by decide))), (fun h => by cases h)⟩
theorem gd24 {p q : Jd} {N : Int} (_ : 0 ≤ N) (_ : N ≤ 300) (P : Rj p (N)) (Q : Rj q (N)) (_ : (prf p && hasW q p.a p.i) = true) : Gd N 24 ⟨true, p.u, q.u, p.a, p.i⟩ := by
  exact ⟨rfl, P.i.1, P.u, P.a, (fun _ => Q.u), (fun h => by cases h)⟩
theorem gd25 {p q : Jd} {N : Int} (hN : 0 ≤ N) (_ : N ≤ 300) (P : Rj p (N)) (Q : Rj q (N + 1)) (h : (areT p && areT q) = true) : Gd N 25 ⟨true, nd 3 p.a.i q.a.i [p.u, q.u], nd 3 p.a.i q.a.i [p.v, q.v], srt (max p.a.i q.a.i), W64 (max p.a.i q.a.i + 1)⟩ := by
  rw [Bool.and_eq_true] at h
  obtain ⟨hp, hq⟩ := h
  obtain ⟨ep, kp⟩ := areT_k hp
  have lp := lv_os P.a.p (Or.inl kp)
  obtain ⟨eq, kq⟩ := areT_k hq
  have lq := lv_os Q.a.p (Or.inl kq)
  exact ⟨rfl, w64_nn (lv_max lp lq), fit_nd (k := 3) (by decide) rfl (num_a (by decide) lp lq) hN ⟨(P.u).b, (Q.u).c, trivial⟩, fit_srt (lv_max lp lq) hN, (fun _ => fit_nd (k := 3) (by decide) rfl (num_a (by decide) lp lq) hN ⟨(P.v ep).b, (Q.v eq).c, trivial⟩), (fun h => by cases h)⟩
theorem gd26 {p q : Jd} {N : Int} (hN : 0 ≤ N) (_ : N ≤ 300) (P : Rj p (N)) (Q : Rj q (N + 1)) (h : (areT p && areT q) = true) : Gd N 26 ⟨true, nd 6 p.a.i q.a.i [p.u, q.u], nd 6 p.a.i q.a.i [p.v, q.v], srt (max p.a.i q.a.i), W64 (max p.a.i q.a.i + 1)⟩ := by
  rw [Bool.and_eq_true] at h
  obtain ⟨hp, hq⟩ := h
  obtain ⟨ep, kp⟩ := areT_k hp
  have lp := lv_os P.a.p (Or.inl kp)
  obtain ⟨eq, kq⟩ := areT_k hq
  have lq := lv_os Q.a.p (Or.inl kq)
  exact ⟨rfl, w64_nn (lv_max lp lq), fit_nd (k := 6) (by decide) rfl (num_a (by decide) lp lq) hN ⟨(P.u).b, (Q.u).c, trivial⟩, fit_srt (lv_max lp lq) hN, (fun _ => fit_nd (k := 6) (by decide) rfl (num_a (by decide) lp lq) hN ⟨(P.v ep).b, (Q.v eq).c, trivial⟩), (fun h => by cases h)⟩
theorem gd27 {p q t : Jd} {N : Int} (hN : 0 ≤ N) (_ : N ≤ 300) (P : Rj p (N)) (Q : Rj q (N + 1)) (T : Rj t (N + 1)) (h : ((areT p && areT q) && (t.eq && (t.i == q.a.i && sameB t.a q.u))) = true) : Gd N 27 ⟨true, nd 4 p.a.i q.a.i [p.u, q.u, t.u], nd 4 p.a.i q.a.i [p.v, q.v, t.v], nd 3 p.a.i q.a.i [p.u, q.u], max p.a.i q.a.i⟩ := by
  simp only [Bool.and_eq_true] at h
  obtain ⟨⟨hp, hq⟩, et, -⟩ := h
  obtain ⟨ep, kp⟩ := areT_k hp
  have lp := lv_os P.a.p (Or.inl kp)
  obtain ⟨eq, kq⟩ := areT_k hq
  have lq := lv_os Q.a.p (Or.inl kq)
  exact ⟨rfl, (lv_max lp lq).1, fit_nd (k := 4) (by decide) rfl (num_a (by decide) lp lq) hN ⟨(P.u).b, (Q.u).c, (T.u).c, trivial⟩, fit_nd (k := 3) (by decide) rfl (num_a (by decide) lp lq) hN ⟨(P.u).b, (Q.u).c, trivial⟩, (fun _ => fit_nd (k := 4) (by decide) rfl (num_a (by decide) lp lq) hN ⟨(P.v ep).b, (Q.v eq).c, (T.v et).c, trivial⟩), (fun h => by cases h)⟩
theorem gd28 {p q s t : Jd} {N : Int} (hN : 0 ≤ N) (_ : N ≤ 300) (P : Rj p (N)) (Q : Rj q (N + 1)) (S : Rj s (N)) (T : Rj t (N)) (h : (((areT p && areT q) && hasW s p.u p.a.i) && hasW t (q.u.putB s.u) q.a.i) = true) : Gd N 28 ⟨true, nd 7 p.a.i q.a.i [p.u, q.u, s.u, t.u], nd 7 p.a.i q.a.i [p.v, q.v, s.u, t.u], nd 6 p.a.i q.a.i [p.u, q.u], max p.a.i q.a.i⟩ := by
  simp only [Bool.and_eq_true] at h
  obtain ⟨⟨⟨hp, hq⟩, -⟩, -⟩ := h
  obtain ⟨ep, kp⟩ := areT_k hp
  have lp := lv_os P.a.p (Or.inl kp)
  obtain ⟨eq, kq⟩ := areT_k hq
  have lq := lv_os Q.a.p (Or.inl kq)
  exact ⟨rfl, (lv_max lp lq).1, fit_nd (k := 7) (by decide) rfl (num_a (by decide) lp lq) hN ⟨(P.u).b, (Q.u).c, (S.u).b, (T.u).b, trivial⟩, fit_nd (k := 6) (by decide) rfl (num_a (by decide) lp lq) hN ⟨(P.u).b, (Q.u).c, trivial⟩, (fun _ => fit_nd (k := 7) (by decide) rfl (num_a (by decide) lp lq) hN ⟨(P.v ep).b, (Q.v eq).c, (S.u).b, (T.u).b, trivial⟩), (fun h => by cases h)⟩
end Go.Proofs.Ytmicgbdcbjajiaa.Se
namespace Go.Proofs.Ytmicgbdcbjajiaa.Se
open Go Go.RowKit
set_option maxRecDepth 20000 in
set_option maxHeartbeats 4000000 in
theorem of1_any (c : List En) (n : Int) (_ : Sml c []) {w : World} {A : Nat → Prop} {vs : List Value} (hv : F2 (ArgDen w A) (aOf c 1 n []) vs) : Calls Try.prog 5 vs.toArray w (GivesO A (ofB c 1 n []) w) := by
 have hA : allR c.length 1 0 [] = true := by kernel_rfl
 have hC : concB c n 1 [] = if (decide (n ≥ 0) && decide (n ≤ 900)) = true then some ⟨false, srt n, .zero, srt (W64 (n + 1)), W64 (n + 2)⟩ else none := by kernel_rfl
 apply bc (purC c) <;> intro k0
 ·rw [of_p k0]; exact leafF [O] hv (al k0 an)
 have s0 : (Tm.mk 1 n 0 0 []).size ≤ 10000000 := by (try simp only [re_eq]); (try simp only [Tm.size, sizes]); omega
 have s1 : (Tm.mk 0 0 0 0 []).size ≤ 10000000 := by (try simp only [re_eq]); (try simp only [Tm.size, sizes]); omega
 have s2 : (Tm.mk 1 (IntKind.i64.wrap (n + 1)) 0 0 []).size ≤ 10000000 := by (try simp only [re_eq]); (try simp only [Tm.size, sizes]); omega
 apply bc (decide (n ≥ 0)) <;> intro k1
 ·rw [of_t k0 (by rw [hA] <;> kernel_rfl) hC (by rw [k1] <;> kernel_rfl)]; exact leafF [I,O] hv (al k0 (al k1 an))
 apply bc (decide (n ≤ 900)) <;> intro k2
 ·rw [of_t k0 (by rw [hA] <;> kernel_rfl) hC (by rw [k1, k2] <;> kernel_rfl)]; exact leafF [I,I,O] hv (al k0 (al k1 (al k2 an)))
 apply bc (decide (IntKind.i64.wrap (n + 2) > 1000)) <;> intro k3
 ·rw [of_s k0 (by rw [hA] <;> kernel_rfl) hC (by rw [k1, k2] <;> kernel_rfl) (by show (!(decide (W64 (n + 2) > 1000) || ((srt n).k == 0 || ((srt (W64 (n + 1))).k == 0 || (false && (.zero : Tm).k == 0))))) = true; rw [k3] <;> kernel_rfl)]; exact leafS [I,I,I,O] hv (al k0 (al k1 (al k2 (al k3 (al s0 (al s1 (al s2 an)))))))
 rw [of_o k0 (by rw [hA] <;> kernel_rfl) hC (by show (!(decide (W64 (n + 2) > 1000) || ((srt n).k == 0 || ((srt (W64 (n + 1))).k == 0 || (false && (.zero : Tm).k == 0))))) = false; rw [k3] <;> kernel_rfl)]; exact leafF [I,I,I,I] hv (al k0 (al k1 (al k2 (al k3 an))))
set_option maxRecDepth 20000 in
set_option maxHeartbeats 4000000 in
theorem of2_any (c : List En) (n : Int) (hs : Sml c []) {w : World} {A : Nat → Prop} {vs : List Value} (hv : F2 (ArgDen w A) (aOf c 2 n []) vs) : Calls Try.prog 5 vs.toArray w (GivesO A (ofB c 2 n []) w) := by
 have hA : allR c.length 2 0 [] = true := by kernel_rfl
 have hC : concB c n 2 [] = if atB c n = true then some ⟨false, .mk 2 n 0 0 [], .zero, atU c n, atI c n⟩ else none := by kernel_rfl
 apply bc (purC c) <;> intro k0
 ·rw [of_p k0]; exact leafF [O] hv (al k0 an)
 have s0 : c.length ≤ 100000 := Nat.le_trans hs.len (by decide)
 have s1 : ∀ (e : En), e ∈ c → e.a.deep ≤ 100000 := fun e he => Nat.le_trans (deep_le_size _) (Nat.le_trans (hs.ents e he) (by decide))
 have s2 : (Tm.mk 2 n 0 0 []).size ≤ 10000000 := by (try simp only [re_eq]); (try simp only [Tm.size, sizes]); omega
 have s3 : (Tm.mk 0 0 0 0 []).size ≤ 10000000 := by (try simp only [re_eq]); (try simp only [Tm.size, sizes]); omega
 have s4 : (re (atU c n)).size ≤ 10000000 := by rw [re_eq]; exact atU_le n hs.ents
 apply bc (atB c n) <;> intro k1
 ·rw [of_t k0 (by rw [hA] <;> kernel_rfl) hC (by rw [k1] <;> kernel_rfl)]; exact leafF [I,O] hv (al k0 (al s0 (al s1 (al k1 an))))
 apply bc (decide (atI c n > 1000)) <;> intro k2
 ·apply bc (((atU c n).k == 0)) <;> intro k3
  ·rw [of_s k0 (by rw [hA] <;> kernel_rfl) hC (by rw [k1] <;> kernel_rfl) (by show (!(decide (atI c n > 1000) || ((.mk 2 n 0 0 [] : Tm).k == 0 || ((atU c n).k == 0 || (false && (.zero : Tm).k == 0))))) = true; rw [k2, k3] <;> kernel_rfl)]; exact leafS [I,I,O,O] hv (al k0 (al s0 (al s1 (al k1 (al k2 (al k3 (al s2 (al s3 (al s4 an)))))))))
  rw [of_o k0 (by rw [hA] <;> kernel_rfl) hC (by show (!(decide (atI c n > 1000) || ((.mk 2 n 0 0 [] : Tm).k == 0 || ((atU c n).k == 0 || (false && (.zero : Tm).k == 0))))) = false; rw [k2, k3] <;> kernel_rfl)]; exact leafF [I,I,O,I] hv (al k0 (al s0 (al s1 (al k1 (al k2 (al k3 an))))))
 rw [of_o k0 (by rw [hA] <;> kernel_rfl) hC (by show (!(decide (atI c n > 1000) || ((.mk 2 n 0 0 [] : Tm).k == 0 || ((atU c n).k == 0 || (false && (.zero : Tm).k == 0))))) = false; rw [k2] <;> kernel_rfl)]; exact leafF [I,I,I] hv (al k0 (al s0 (al s1 (al k1 (al k2 an)))))
set_option maxRecDepth 20000 in
set_option maxHeartbeats 4000000 in
theorem of3_any (c : List En) (n : Int) (e : Bool) (u v x : Tm) (i : Int) (e2 : Bool) (u2 v2 x2 : Tm) (i2 : Int) (hs : Sml c [⟨e, re u, re v, re x, i⟩, ⟨e2, re u2, re v2, re x2, i2⟩]) {w : World} {A : Nat → Prop} {vs : List Value} (hv : F2 (ArgDen w A) (aOf c 3 n [⟨e, re u, re v, re x, i⟩, ⟨e2, re u2, re v2, re x2, i2⟩]) vs) : Calls Try.prog 5 vs.toArray w (GivesO A (ofB c 3 n [⟨e, re u, re v, re x, i⟩, ⟨e2, re u2, re v2, re x2, i2⟩]) w) := by
 have hA : allR c.length 3 0 [⟨e, re u, re v, re x, i⟩, ⟨e2, re u2, re v2, re x2, i2⟩] = (rightJ ⟨e, re u, re v, re x, i⟩ ↑c.length && (rightJ ⟨e2, re u2, re v2, re x2, i2⟩ (IntKind.i64.wrap (↑c.length + 1)) && true)) := by kernel_rfl
 have hC : concB c n 3 [⟨e, re u, re v, re x, i⟩, ⟨e2, re u2, re v2, re x2, i2⟩] = if (((!e) && (((re x).k == 1) && (i == W64 ((re x).i + 1)))) && ((!e2) && (((re x2).k == 1) && (i2 == W64 ((re x2).i + 1))))) = true then some ⟨false, nd 3 ((re x).i) ((re x2).i) [re u, re u2], .zero, srt (max (re x).i (re x2).i), W64 ((max (re x).i (re x2).i) + 1)⟩ else none := by kernel_rfl
 obtain ⟨zu, zv, zx⟩ := hs.z
 obtain ⟨zu2, zv2, zx2⟩ := hs.tl.z
 cases e with
 | true =>
  cases e2 with
  | true =>
   apply bc (purC c) <;> intro k0
   ·rw [of_p k0]; exact leafF [O] hv (al k0 an)
   apply bc (rightJ ⟨true, re u, re v, re x, i⟩ ↑c.length) <;> intro k1
   ·rw [of_a (by rw [hA, k1] <;> kernel_rfl)]; exact leafF [I,O] hv (al k0 (al k1 an))
   apply bc (rightJ ⟨true, re u2, re v2, re x2, i2⟩ (IntKind.i64.wrap (↑c.length + 1))) <;> intro k2
   ·rw [of_a (by rw [hA, k1, k2] <;> kernel_rfl)]; exact leafF [I,I,O] hv (al k0 (al k1 (al k2 an)))
   have s0 : ([] : List Tm).length ≤ 10 := Nat.le_of_ble_eq_true rfl
   have s1 : (Tm.mk 3 (re x).i (re x2).i 0 [re u, re u2]).size ≤ 10000000 := by (try simp only [re_eq]); (try simp only [Tm.size, sizes]); omega
   have s2 : (Tm.mk 0 0 0 0 []).size ≤ 10000000 := by (try simp only [re_eq]); (try simp only [Tm.size, sizes]); omega
   have s3 : (Tm.mk 1 (max (re x).i (re x2).i) 0 0 []).size ≤ 10000000 := by (try simp only [re_eq]); (try simp only [Tm.size, sizes]); omega
   rw [of_t k0 (by rw [hA, k1, k2] <;> kernel_rfl) hC (by kernel_rfl)]; exact leafF [I,I,I] hv (al k0 (al k1 (al k2 (al s0 an))))
  | false =>
   apply bc (purC c) <;> intro k3
   ·rw [of_p k3]; exact leafF [O] hv (al k3 an)
   apply bc (rightJ ⟨true, re u, re v, re x, i⟩ ↑c.length) <;> intro k4
   ·rw [of_a (by rw [hA, k4] <;> kernel_rfl)]; exact leafF [I,O] hv (al k3 (al k4 an))
   apply bc (rightJ ⟨false, re u2, re v2, re x2, i2⟩ (IntKind.i64.wrap (↑c.length + 1))) <;> intro k5
   ·rw [of_a (by rw [hA, k4, k5] <;> kernel_rfl)]; exact leafF [I,I,O] hv (al k3 (al k4 (al k5 an)))
   have s0 : ([] : List Tm).length ≤ 10 := Nat.le_of_ble_eq_true rfl
   have s1 : (Tm.mk 3 (re x).i (re x2).i 0 [re u, re u2]).size ≤ 10000000 := by (try simp only [re_eq]); (try simp only [Tm.size, sizes]); omega
   have s2 : (Tm.mk 0 0 0 0 []).size ≤ 10000000 := by (try simp only [re_eq]); (try simp only [Tm.size, sizes]); omega
   have s3 : (Tm.mk 1 (max (re x).i (re x2).i) 0 0 []).size ≤ 10000000 := by (try simp only [re_eq]); (try simp only [Tm.size, sizes]); omega
   apply bc (((re x2).k == 1)) <;> intro k6
   ·rw [of_t k3 (by rw [hA, k4, k5] <;> kernel_rfl) hC (by rw [k6] <;> kernel_rfl)]; exact leafF [I,I,I,O] hv (al k3 (al k4 (al k5 (al k6 (al s0 an)))))
   apply bc ((i2 == IntKind.i64.wrap ((re x2).i + 1))) <;> intro k7
   ·rw [of_t k3 (by rw [hA, k4, k5] <;> kernel_rfl) hC (by rw [k6, k7] <;> kernel_rfl)]; exact leafF [I,I,I,I,O] hv (al k3 (al k4 (al k5 (al k6 (al k7 (al s0 an))))))
   rw [of_t k3 (by rw [hA, k4, k5] <;> kernel_rfl) hC (by rw [k6, k7] <;> kernel_rfl)]; exact leafF [I,I,I,I,I] hv (al k3 (al k4 (al k5 (al k6 (al k7 (al s0 an))))))
 | false =>
  cases e2 with
  | true =>
   apply bc (purC c) <;> intro k8
   ·rw [of_p k8]; exact leafF [O] hv (al k8 an)
   apply bc (rightJ ⟨false, re u, re v, re x, i⟩ ↑c.length) <;> intro k9
   ·rw [of_a (by rw [hA, k9] <;> kernel_rfl)]; exact leafF [I,O] hv (al k8 (al k9 an))
   apply bc (rightJ ⟨true, re u2, re v2, re x2, i2⟩ (IntKind.i64.wrap (↑c.length + 1))) <;> intro k10
   ·rw [of_a (by rw [hA, k9, k10] <;> kernel_rfl)]; exact leafF [I,I,O] hv (al k8 (al k9 (al k10 an)))
   have s0 : ([] : List Tm).length ≤ 10 := Nat.le_of_ble_eq_true rfl
   have s1 : (Tm.mk 3 (re x).i (re x2).i 0 [re u, re u2]).size ≤ 10000000 := by (try simp only [re_eq]); (try simp only [Tm.size, sizes]); omega
   have s2 : (Tm.mk 0 0 0 0 []).size ≤ 10000000 := by (try simp only [re_eq]); (try simp only [Tm.size, sizes]); omega
   have s3 : (Tm.mk 1 (max (re x).i (re x2).i) 0 0 []).size ≤ 10000000 := by (try simp only [re_eq]); (try simp only [Tm.size, sizes]); omega
   apply bc (((re x).k == 1)) <;> intro k11
   ·rw [of_t k8 (by rw [hA, k9, k10] <;> kernel_rfl) hC (by rw [k11] <;> kernel_rfl)]; exact leafF [I,I,I,O] hv (al k8 (al k9 (al k10 (al k11 (al s0 an)))))
   apply bc ((i == IntKind.i64.wrap ((re x).i + 1))) <;> intro k12
   ·rw [of_t k8 (by rw [hA, k9, k10] <;> kernel_rfl) hC (by rw [k11, k12] <;> kernel_rfl)]; exact leafF [I,I,I,I,O] hv (al k8 (al k9 (al k10 (al k11 (al k12 (al s0 an))))))
   rw [of_t k8 (by rw [hA, k9, k10] <;> kernel_rfl) hC (by rw [k11, k12] <;> kernel_rfl)]; exact leafF [I,I,I,I,I] hv (al k8 (al k9 (al k10 (al k11 (al k12 (al s0 an))))))
  | false =>
   apply bc (purC c) <;> intro k13
   ·rw [of_p k13]; exact leafF [O] hv (al k13 an)
   apply bc (rightJ ⟨false, re u, re v, re x, i⟩ ↑c.length) <;> intro k14
   ·rw [of_a (by rw [hA, k14] <;> kernel_rfl)]; exact leafF [I,O] hv (al k13 (al k14 an))
   apply bc (rightJ ⟨false, re u2, re v2, re x2, i2⟩ (IntKind.i64.wrap (↑c.length + 1))) <;> intro k15
   ·rw [of_a (by rw [hA, k14, k15] <;> kernel_rfl)]; exact leafF [I,I,O] hv (al k13 (al k14 (al k15 an)))
   have s0 : ([] : List Tm).length ≤ 10 := Nat.le_of_ble_eq_true rfl
   have s1 : (Tm.mk 3 (re x).i (re x2).i 0 [re u, re u2]).size ≤ 10000000 := by (try simp only [re_eq]); (try simp only [Tm.size, sizes]); omega
   have s2 : (Tm.mk 0 0 0 0 []).size ≤ 10000000 := by (try simp only [re_eq]); (try simp only [Tm.size, sizes]); omega
   have s3 : (Tm.mk 1 (max (re x).i (re x2).i) 0 0 []).size ≤ 10000000 := by (try simp only [re_eq]); (try simp only [Tm.size, sizes]); omega
   apply bc (((re x).k == 1)) <;> intro k16
   ·apply bc (((re x2).k == 1)) <;> intro k17
    ·rw [of_t k13 (by rw [hA, k14, k15] <;> kernel_rfl) hC (by rw [k16, k17] <;> kernel_rfl)]; exact leafF [I,I,I,O,O] hv (al k13 (al k14 (al k15 (al k16 (al k17 (al s0 an))))))
    apply bc ((i2 == IntKind.i64.wrap ((re x2).i + 1))) <;> intro k18
    ·rw [of_t k13 (by rw [hA, k14, k15] <;> kernel_rfl) hC (by rw [k16, k17, k18] <;> kernel_rfl)]; exact leafF [I,I,I,O,I,O] hv (al k13 (al k14 (al k15 (al k16 (al k17 (al k18 (al s0 an)))))))
    rw [of_t k13 (by rw [hA, k14, k15] <;> kernel_rfl) hC (by rw [k16, k17, k18] <;> kernel_rfl)]; exact leafF [I,I,I,O,I,I] hv (al k13 (al k14 (al k15 (al k16 (al k17 (al k18 (al s0 an)))))))
   apply bc ((i == IntKind.i64.wrap ((re x).i + 1))) <;> intro k19
   ·apply bc (((re x2).k == 1)) <;> intro k20
    ·rw [of_t k13 (by rw [hA, k14, k15] <;> kernel_rfl) hC (by rw [k16, k19, k20] <;> kernel_rfl)]; exact leafF [I,I,I,I,O,O] hv (al k13 (al k14 (al k15 (al k16 (al k19 (al k20 (al s0 an)))))))
    apply bc ((i2 == IntKind.i64.wrap ((re x2).i + 1))) <;> intro k21
    ·rw [of_t k13 (by rw [hA, k14, k15] <;> kernel_rfl) hC (by rw [k16, k19, k20, k21] <;> kernel_rfl)]; exact leafF [I,I,I,I,O,I,O] hv (al k13 (al k14 (al k15 (al k16 (al k19 (al k20 (al k21 (al s0 an))))))))
    rw [of_t k13 (by rw [hA, k14, k15] <;> kernel_rfl) hC (by rw [k16, k19, k20, k21] <;> kernel_rfl)]; exact leafF [I,I,I,I,O,I,I] hv (al k13 (al k14 (al k15 (al k16 (al k19 (al k20 (al k21 (al s0 an))))))))
   apply bc (((re x2).k == 1)) <;> intro k22
   ·rw [of_t k13 (by rw [hA, k14, k15] <;> kernel_rfl) hC (by rw [k16, k19, k22] <;> kernel_rfl)]; exact leafF [I,I,I,I,I,O] hv (al k13 (al k14 (al k15 (al k16 (al k19 (al k22 (al s0 an)))))))
   apply bc ((i2 == IntKind.i64.wrap ((re x2).i + 1))) <;> intro k23
   ·rw [of_t k13 (by rw [hA, k14, k15] <;> kernel_rfl) hC (by rw [k16, k19, k22, k23] <;> kernel_rfl)]; exact leafF [I,I,I,I,I,I,O] hv (al k13 (al k14 (al k15 (al k16 (al k19 (al k22 (al k23 (al s0 an))))))))
   apply bc (decide (IntKind.i64.wrap (max (re x).i (re x2).i + 1) > 1000)) <;> intro k24
   ·rw [of_s k13 (by rw [hA, k14, k15] <;> kernel_rfl) hC (by rw [k16, k19, k22, k23] <;> kernel_rfl) (by show (!(decide (W64 ((max (re x).i (re x2).i) + 1) > 1000) || ((nd 3 ((re x).i) ((re x2).i) [re u, re u2]).k == 0 || ((srt (max (re x).i (re x2).i)).k == 0 || (false && (.zero : Tm).k == 0))))) = true; rw [k24] <;> kernel_rfl)]; exact leafS [I,I,I,I,I,I,I,O] hv (al k13 (al k14 (al k15 (al k16 (al k19 (al k22 (al k23 (al s0 (al k24 (al s1 (al s2 (al s3 an))))))))))))
   rw [of_o k13 (by rw [hA, k14, k15] <;> kernel_rfl) hC (by show (!(decide (W64 ((max (re x).i (re x2).i) + 1) > 1000) || ((nd 3 ((re x).i) ((re x2).i) [re u, re u2]).k == 0 || ((srt (max (re x).i (re x2).i)).k == 0 || (false && (.zero : Tm).k == 0))))) = false; rw [k24] <;> kernel_rfl)]; exact leafF [I,I,I,I,I,I,I,I] hv (al k13 (al k14 (al k15 (al k16 (al k19 (al k22 (al k23 (al s0 (al k24 an)))))))))
set_option maxRecDepth 20000 in
set_option maxHeartbeats 4000000 in
theorem of4_any (c : List En) (n : Int) (e : Bool) (u v x : Tm) (i : Int) (e2 : Bool) (u2 v2 x2 : Tm) (i2 : Int) (hs : Sml c [⟨e, re u, re v, re x, i⟩, ⟨e2, re u2, re v2, re x2, i2⟩]) {w : World} {A : Nat → Prop} {vs : List Value} (hv : F2 (ArgDen w A) (aOf c 4 n [⟨e, re u, re v, re x, i⟩, ⟨e2, re u2, re v2, re x2, i2⟩]) vs) : Calls Try.prog 5 vs.toArray w (GivesO A (ofB c 4 n [⟨e, re u, re v, re x, i⟩, ⟨e2, re u2, re v2, re x2, i2⟩]) w) := by
 have hA : allR c.length 4 0 [⟨e, re u, re v, re x, i⟩, ⟨e2, re u2, re v2, re x2, i2⟩] = (rightJ ⟨e, re u, re v, re x, i⟩ ↑c.length && (rightJ ⟨e2, re u2, re v2, re x2, i2⟩ (IntKind.i64.wrap (↑c.length + 1)) && true)) := by kernel_rfl
 have hC : concB c n 4 [⟨e, re u, re v, re x, i⟩, ⟨e2, re u2, re v2, re x2, i2⟩] = if (((!e) && (((re x).k == 1) && (i == W64 ((re x).i + 1)))) && (!e2)) = true then some ⟨false, nd 4 ((re x).i) i2 [re u, re x2, re u2], .zero, nd 3 ((re x).i) i2 [re u, re x2], max (re x).i i2⟩ else none := by kernel_rfl
 obtain ⟨zu, zv, zx⟩ := hs.z
 obtain ⟨zu2, zv2, zx2⟩ := hs.tl.z
 cases e with
 | true =>
  apply bc (purC c) <;> intro k0
  ·rw [of_p k0]; exact leafF [O] hv (al k0 an)
  apply bc (rightJ ⟨true, re u, re v, re x, i⟩ ↑c.length) <;> intro k1
  ·rw [of_a (by rw [hA, k1] <;> kernel_rfl)]; exact leafF [I,O] hv (al k0 (al k1 an))
  apply bc (rightJ ⟨e2, re u2, re v2, re x2, i2⟩ (IntKind.i64.wrap (↑c.length + 1))) <;> intro k2
  ·rw [of_a (by rw [hA, k1, k2] <;> kernel_rfl)]; exact leafF [I,I,O] hv (al k0 (al k1 (al k2 an)))
  have s0 : [re u2].length ≤ 10 := Nat.le_of_ble_eq_true rfl
  have s1 : ([] : List Tm).length ≤ 10 := Nat.le_of_ble_eq_true rfl
  have s2 : (Tm.mk 4 (re x).i i2 0 [re u, re x2, re u2]).size ≤ 10000000 := by (try simp only [re_eq]); (try simp only [Tm.size, sizes]); omega
  have s3 : (Tm.mk 0 0 0 0 []).size ≤ 10000000 := by (try simp only [re_eq]); (try simp only [Tm.size, sizes]); omega
  have s4 : (Tm.mk 3 (re x).i i2 0 [re u, re x2]).size ≤ 10000000 := by (try simp only [re_eq]); (try simp only [Tm.size, sizes]); omega
  rw [of_t k0 (by rw [hA, k1, k2] <;> kernel_rfl) hC (by kernel_rfl)]; exact leafF [I,I,I] hv (al k0 (al k1 (al k2 (al s0 (al s1 an)))))
 | false =>
  cases e2 with
  | true =>
   apply bc (purC c) <;> intro k3
   ·rw [of_p k3]; exact leafF [O] hv (al k3 an)
   apply bc (rightJ ⟨false, re u, re v, re x, i⟩ ↑c.length) <;> intro k4
   ·rw [of_a (by rw [hA, k4] <;> kernel_rfl)]; exact leafF [I,O] hv (al k3 (al k4 an))
   apply bc (rightJ ⟨true, re u2, re v2, re x2, i2⟩ (IntKind.i64.wrap (↑c.length + 1))) <;> intro k5
   ·rw [of_a (by rw [hA, k4, k5] <;> kernel_rfl)]; exact leafF [I,I,O] hv (al k3 (al k4 (al k5 an)))
   have s0 : [re u2].length ≤ 10 := Nat.le_of_ble_eq_true rfl
   have s1 : ([] : List Tm).length ≤ 10 := Nat.le_of_ble_eq_true rfl
   have s2 : (Tm.mk 4 (re x).i i2 0 [re u, re x2, re u2]).size ≤ 10000000 := by (try simp only [re_eq]); (try simp only [Tm.size, sizes]); omega
   have s3 : (Tm.mk 0 0 0 0 []).size ≤ 10000000 := by (try simp only [re_eq]); (try simp only [Tm.size, sizes]); omega
   have s4 : (Tm.mk 3 (re x).i i2 0 [re u, re x2]).size ≤ 10000000 := by (try simp only [re_eq]); (try simp only [Tm.size, sizes]); omega
   apply bc (((re x).k == 1)) <;> intro k6
   ·rw [of_t k3 (by rw [hA, k4, k5] <;> kernel_rfl) hC (by rw [k6] <;> kernel_rfl)]; exact leafF [I,I,I,O] hv (al k3 (al k4 (al k5 (al k6 (al s0 (al s1 an))))))
   apply bc ((i == IntKind.i64.wrap ((re x).i + 1))) <;> intro k7
   ·rw [of_t k3 (by rw [hA, k4, k5] <;> kernel_rfl) hC (by rw [k6, k7] <;> kernel_rfl)]; exact leafF [I,I,I,I,O] hv (al k3 (al k4 (al k5 (al k6 (al k7 (al s0 (al s1 an)))))))
   rw [of_t k3 (by rw [hA, k4, k5] <;> kernel_rfl) hC (by rw [k6, k7] <;> kernel_rfl)]; exact leafF [I,I,I,I,I] hv (al k3 (al k4 (al k5 (al k6 (al k7 (al s0 (al s1 an)))))))
  | false =>
   apply bc (purC c) <;> intro k8
   ·rw [of_p k8]; exact leafF [O] hv (al k8 an)
   apply bc (rightJ ⟨false, re u, re v, re x, i⟩ ↑c.length) <;> intro k9
   ·rw [of_a (by rw [hA, k9] <;> kernel_rfl)]; exact leafF [I,O] hv (al k8 (al k9 an))
   apply bc (rightJ ⟨false, re u2, re v2, re x2, i2⟩ (IntKind.i64.wrap (↑c.length + 1))) <;> intro k10
   ·rw [of_a (by rw [hA, k9, k10] <;> kernel_rfl)]; exact leafF [I,I,O] hv (al k8 (al k9 (al k10 an)))
   have s0 : [re u2].length ≤ 10 := Nat.le_of_ble_eq_true rfl
   have s1 : ([] : List Tm).length ≤ 10 := Nat.le_of_ble_eq_true rfl
   have s2 : (Tm.mk 4 (re x).i i2 0 [re u, re x2, re u2]).size ≤ 10000000 := by (try simp only [re_eq]); (try simp only [Tm.size, sizes]); omega
   have s3 : (Tm.mk 0 0 0 0 []).size ≤ 10000000 := by (try simp only [re_eq]); (try simp only [Tm.size, sizes]); omega
   have s4 : (Tm.mk 3 (re x).i i2 0 [re u, re x2]).size ≤ 10000000 := by (try simp only [re_eq]); (try simp only [Tm.size, sizes]); omega
   apply bc (((re x).k == 1)) <;> intro k11
   ·rw [of_t k8 (by rw [hA, k9, k10] <;> kernel_rfl) hC (by rw [k11] <;> kernel_rfl)]; exact leafF [I,I,I,O] hv (al k8 (al k9 (al k10 (al k11 (al s0 (al s1 an))))))
   apply bc ((i == IntKind.i64.wrap ((re x).i + 1))) <;> intro k12
   ·rw [of_t k8 (by rw [hA, k9, k10] <;> kernel_rfl) hC (by rw [k11, k12] <;> kernel_rfl)]; exact leafF [I,I,I,I,O] hv (al k8 (al k9 (al k10 (al k11 (al k12 (al s0 (al s1 an)))))))
   apply bc (decide (max (re x).i i2 > 1000)) <;> intro k13
   ·rw [of_s k8 (by rw [hA, k9, k10] <;> kernel_rfl) hC (by rw [k11, k12] <;> kernel_rfl) (by show (!(decide (max (re x).i i2 > 1000) || ((nd 4 ((re x).i) i2 [re u, re x2, re u2]).k == 0 || ((nd 3 ((re x).i) i2 [re u, re x2]).k == 0 || (false && (.zero : Tm).k == 0))))) = true; rw [k13] <;> kernel_rfl)]; exact leafS [I,I,I,I,I,O] hv (al k8 (al k9 (al k10 (al k11 (al k12 (al s0 (al s1 (al k13 (al s2 (al s3 (al s4 an)))))))))))
   rw [of_o k8 (by rw [hA, k9, k10] <;> kernel_rfl) hC (by show (!(decide (max (re x).i i2 > 1000) || ((nd 4 ((re x).i) i2 [re u, re x2, re u2]).k == 0 || ((nd 3 ((re x).i) i2 [re u, re x2]).k == 0 || (false && (.zero : Tm).k == 0))))) = false; rw [k13] <;> kernel_rfl)]; exact leafF [I,I,I,I,I,I] hv (al k8 (al k9 (al k10 (al k11 (al k12 (al s0 (al s1 (al k13 an))))))))
set_option maxRecDepth 20000 in
set_option maxHeartbeats 4000000 in
theorem of5kft_any (c : List En) (n : Int) (u v : Tm) (i : Int) (u2 v2 x2 : Tm) (i2 : Int) (xk xi xj xn : Int) (p q : Tm) (k100 : purC c = true) (k101 : rightJ { eq := false, u := re u, v := re v, a := Tm.mk xk xi xj xn [re p, re q], i := i } ↑c.length = true) (k102 : rightJ { eq := true, u := re u2, v := re v2, a := re x2, i := i2 } ↑c.length = true) (k103 : (xk == 3) = true) (k104 : (i == max xi xj) = true) (hs : Sml c [⟨false, re u, re v, .mk xk xi xj xn [re p, re q], i⟩, ⟨true, re u2, re v2, re x2, i2⟩]) {w : World} {A : Nat → Prop} {vs : List Value} (hv : F2 (ArgDen w A) (aOf c 5 n [⟨false, re u, re v, .mk xk xi xj xn [re p, re q], i⟩, ⟨true, re u2, re v2, re x2, i2⟩]) vs) : Calls Try.prog 5 vs.toArray w (GivesO A (ofB c 5 n [⟨false, re u, re v, .mk xk xi xj xn [re p, re q], i⟩, ⟨true, re u2, re v2, re x2, i2⟩]) w) := by
 have hA : allR c.length 5 0 [⟨false, re u, re v, .mk xk xi xj xn [re p, re q], i⟩, ⟨true, re u2, re v2, re x2, i2⟩] = (rightJ ⟨false, re u, re v, .mk xk xi xj xn [re p, re q], i⟩ ↑c.length && (rightJ ⟨true, re u2, re v2, re x2, i2⟩ ↑c.length && true)) := by kernel_rfl
 have hC : concB c n 5 [⟨false, re u, re v, .mk xk xi xj xn [re p, re q], i⟩, ⟨true, re u2, re v2, re x2, i2⟩] = if (((!false) && ((xk == 3) && (i == max xi xj))) && ((!true) && ((i2 == xi) && sameB (re x2) (re p)))) = true then some ⟨false, nd 5 xi xj [re p, re q, re u, re u2], .zero, (re q).putB (re u2), xj⟩ else none := by kernel_rfl
 have zu : (re u).size ≤ 1000 := (hs.js _ (List.mem_cons_self ..)).1
 have zx : (.mk xk xi xj xn [re p, re q] : Tm).size ≤ 1000 := (hs.js _ (List.mem_cons_self ..)).2.2
 rw [re_eq] at zu
 simp only [Tm.size, sizes, re_eq] at zx
 obtain ⟨zu2, zv2, zx2⟩ := hs.tl.z
 have hq : (re q).pureB = true := pure_kid (right_u k101).2 (by intro (h : xk = 12); rw [h] at k103; cases k103) (List.mem_cons_of_mem _ (List.mem_cons_self ..))
 have s0 : [re u, re u2].length ≤ 10 := Nat.le_of_ble_eq_true rfl
 have s1 : (re q).deep ≤ 100000 := by refine Nat.le_trans (deep_le_size _) ?_; (try simp only [re_eq]); (try simp only [Tm.size, sizes]); omega
 have s2 : (re u2).deep ≤ 100000 := by refine Nat.le_trans (deep_le_size _) ?_; (try simp only [re_eq]); (try simp only [Tm.size, sizes]); omega
 have s3 : (Tm.mk 5 xi xj 0 [re p, re q, re u, re u2]).size ≤ 10000000 := by (try simp only [re_eq]); (try simp only [Tm.size, sizes]); omega
 have s4 : (Tm.mk 0 0 0 0 []).size ≤ 10000000 := by (try simp only [re_eq]); (try simp only [Tm.size, sizes]); omega
 have s5 : (re ((re q).putB (re u2))).size ≤ 10000000 := by rw [re_eq]; exact putB_le hq (by (try simp only [re_eq]); (try simp only [Tm.size, sizes]); omega) (by (try simp only [re_eq]); (try simp only [Tm.size, sizes]); omega)
 rw [of_t k100 (by rw [hA, k101, k102] <;> kernel_rfl) hC (by rw [k103, k104] <;> kernel_rfl)]; exact leafF [I,I,I,O,O] hv (al k100 (al k101 (al k102 (al (bneT k103) (al (bneT k104) an)))))
set_option maxRecDepth 20000 in
set_option maxHeartbeats 4000000 in
theorem of5kff_any (c : List En) (n : Int) (u v : Tm) (i : Int) (u2 v2 x2 : Tm) (i2 : Int) (xk xi xj xn : Int) (p q : Tm) (k100 : purC c = true) (k101 : rightJ { eq := false, u := re u, v := re v, a := Tm.mk xk xi xj xn [re p, re q], i := i } ↑c.length = true) (k102 : rightJ { eq := false, u := re u2, v := re v2, a := re x2, i := i2 } ↑c.length = true) (k103 : (xk == 3) = true) (k104 : (i == max xi xj) = true) (hs : Sml c [⟨false, re u, re v, .mk xk xi xj xn [re p, re q], i⟩, ⟨false, re u2, re v2, re x2, i2⟩]) {w : World} {A : Nat → Prop} {vs : List Value} (hv : F2 (ArgDen w A) (aOf c 5 n [⟨false, re u, re v, .mk xk xi xj xn [re p, re q], i⟩, ⟨false, re u2, re v2, re x2, i2⟩]) vs) : Calls Try.prog 5 vs.toArray w (GivesO A (ofB c 5 n [⟨false, re u, re v, .mk xk xi xj xn [re p, re q], i⟩, ⟨false, re u2, re v2, re x2, i2⟩]) w) := by
 have hA : allR c.length 5 0 [⟨false, re u, re v, .mk xk xi xj xn [re p, re q], i⟩, ⟨false, re u2, re v2, re x2, i2⟩] = (rightJ ⟨false, re u, re v, .mk xk xi xj xn [re p, re q], i⟩ ↑c.length && (rightJ ⟨false, re u2, re v2, re x2, i2⟩ ↑c.length && true)) := by kernel_rfl
 have hC : concB c n 5 [⟨false, re u, re v, .mk xk xi xj xn [re p, re q], i⟩, ⟨false, re u2, re v2, re x2, i2⟩] = if (((!false) && ((xk == 3) && (i == max xi xj))) && ((!false) && ((i2 == xi) && sameB (re x2) (re p)))) = true then some ⟨false, nd 5 xi xj [re p, re q, re u, re u2], .zero, (re q).putB (re u2), xj⟩ else none := by kernel_rfl
 have zu : (re u).size ≤ 1000 := (hs.js _ (List.mem_cons_self ..)).1
 have zx : (.mk xk xi xj xn [re p, re q] : Tm).size ≤ 1000 := (hs.js _ (List.mem_cons_self ..)).2.2
 rw [re_eq] at zu
 simp only [Tm.size, sizes, re_eq] at zx
 obtain ⟨zu2, zv2, zx2⟩ := hs.tl.z
 have hq : (re q).pureB = true := pure_kid (right_u k101).2 (by intro (h : xk = 12); rw [h] at k103; cases k103) (List.mem_cons_of_mem _ (List.mem_cons_self ..))
 have s0 : [re u, re u2].length ≤ 10 := Nat.le_of_ble_eq_true rfl
 have s1 : (re q).deep ≤ 100000 := by refine Nat.le_trans (deep_le_size _) ?_; (try simp only [re_eq]); (try simp only [Tm.size, sizes]); omega
 have s2 : (re u2).deep ≤ 100000 := by refine Nat.le_trans (deep_le_size _) ?_; (try simp only [re_eq]); (try simp only [Tm.size, sizes]); omega
 have s3 : (Tm.mk 5 xi xj 0 [re p, re q, re u, re u2]).size ≤ 10000000 := by (try simp only [re_eq]); (try simp only [Tm.size, sizes]); omega
 have s4 : (Tm.mk 0 0 0 0 []).size ≤ 10000000 := by (try simp only [re_eq]); (try simp only [Tm.size, sizes]); omega
 have s5 : (re ((re q).putB (re u2))).size ≤ 10000000 := by rw [re_eq]; exact putB_le hq (by (try simp only [re_eq]); (try simp only [Tm.size, sizes]); omega) (by (try simp only [re_eq]); (try simp only [Tm.size, sizes]); omega)
 apply bc ((i2 == xi)) <;> intro k8
 ·rw [of_t k100 (by rw [hA, k101, k102] <;> kernel_rfl) hC (by rw [k103, k104, k8] <;> kernel_rfl)]; exact leafF [I,I,I,O,O,O] hv (al k100 (al k101 (al k102 (al (bneT k103) (al (bneT k104) (al k8 an))))))
 apply bc (sameB (re x2) (re p)) <;> intro k9
 ·rw [of_t k100 (by rw [hA, k101, k102] <;> kernel_rfl) hC (by rw [k103, k104, k8, k9] <;> kernel_rfl)]; exact leafF [I,I,I,O,O,I,O] hv (al k100 (al k101 (al k102 (al (bneT k103) (al (bneT k104) (al k8 (al k9 an)))))))
 apply bc (decide (xj > 1000)) <;> intro k10
 ·apply bc ((((re q).putB (re u2)).k == 0)) <;> intro k11
  ·rw [of_s k100 (by rw [hA, k101, k102] <;> kernel_rfl) hC (by rw [k103, k104, k8, k9] <;> kernel_rfl) (by show (!(decide (xj > 1000) || ((nd 5 xi xj [re p, re q, re u, re u2]).k == 0 || (((re q).putB (re u2)).k == 0 || (false && (.zero : Tm).k == 0))))) = true; rw [k10, k11] <;> kernel_rfl)]; exact leafS [I,I,I,O,O,I,I,O,O] hv (al k100 (al k101 (al k102 (al (bneT k103) (al (bneT k104) (al k8 (al k9 (al s0 (al s1 (al s2 (al k10 (al k11 (al s3 (al s4 (al s5 an)))))))))))))))
  rw [of_o k100 (by rw [hA, k101, k102] <;> kernel_rfl) hC (by show (!(decide (xj > 1000) || ((nd 5 xi xj [re p, re q, re u, re u2]).k == 0 || (((re q).putB (re u2)).k == 0 || (false && (.zero : Tm).k == 0))))) = false; rw [k10, k11] <;> kernel_rfl)]; exact leafF [I,I,I,O,O,I,I,O,I] hv (al k100 (al k101 (al k102 (al (bneT k103) (al (bneT k104) (al k8 (al k9 (al s0 (al s1 (al s2 (al k10 (al k11 an))))))))))))
 rw [of_o k100 (by rw [hA, k101, k102] <;> kernel_rfl) hC (by show (!(decide (xj > 1000) || ((nd 5 xi xj [re p, re q, re u, re u2]).k == 0 || (((re q).putB (re u2)).k == 0 || (false && (.zero : Tm).k == 0))))) = false; rw [k10] <;> kernel_rfl)]; exact leafF [I,I,I,O,O,I,I,I] hv (al k100 (al k101 (al k102 (al (bneT k103) (al (bneT k104) (al k8 (al k9 (al s0 (al s1 (al s2 (al k10 an)))))))))))
set_option maxRecDepth 20000 in
set_option maxHeartbeats 4000000 in
theorem of5_any (c : List En) (n : Int) (e : Bool) (u v x : Tm) (i : Int) (e2 : Bool) (u2 v2 x2 : Tm) (i2 : Int) (hs : Sml c [⟨e, re u, re v, re x, i⟩, ⟨e2, re u2, re v2, re x2, i2⟩]) {w : World} {A : Nat → Prop} {vs : List Value} (hv : F2 (ArgDen w A) (aOf c 5 n [⟨e, re u, re v, re x, i⟩, ⟨e2, re u2, re v2, re x2, i2⟩]) vs) : Calls Try.prog 5 vs.toArray w (GivesO A (ofB c 5 n [⟨e, re u, re v, re x, i⟩, ⟨e2, re u2, re v2, re x2, i2⟩]) w) := by
 have hA : allR c.length 5 0 [⟨e, re u, re v, re x, i⟩, ⟨e2, re u2, re v2, re x2, i2⟩] = (rightJ ⟨e, re u, re v, re x, i⟩ ↑c.length && (rightJ ⟨e2, re u2, re v2, re x2, i2⟩ ↑c.length && true)) := by kernel_rfl
 have hC : concB c n 5 [⟨e, re u, re v, re x, i⟩, ⟨e2, re u2, re v2, re x2, i2⟩] = if (((!e) && (((re x).k == 3) && (i == max (re x).i (re x).j))) && ((!e2) && ((i2 == (re x).i) && sameB (re x2) (kd (re x) 0)))) = true then some ⟨false, nd 5 ((re x).i) ((re x).j) [kd (re x) 0, kd (re x) 1, re u, re u2], .zero, (kd (re x) 1).putB (re u2), (re x).j⟩ else none := by kernel_rfl
 obtain ⟨zu, zv, zx⟩ := hs.z
 obtain ⟨zu2, zv2, zx2⟩ := hs.tl.z
 cases e with
 | true =>
  apply bc (purC c) <;> intro k0
  ·rw [of_p k0]; exact leafF [O] hv (al k0 an)
  apply bc (rightJ ⟨true, re u, re v, re x, i⟩ ↑c.length) <;> intro k1
  ·rw [of_a (by rw [hA, k1] <;> kernel_rfl)]; exact leafF [I,O] hv (al k0 (al k1 an))
  apply bc (rightJ ⟨e2, re u2, re v2, re x2, i2⟩ ↑c.length) <;> intro k2
  ·rw [of_a (by rw [hA, k1, k2] <;> kernel_rfl)]; exact leafF [I,I,O] hv (al k0 (al k1 (al k2 an)))
  rw [of_t k0 (by rw [hA, k1, k2] <;> kernel_rfl) hC (by kernel_rfl)]; exact leafF [I,I,I] hv (al k0 (al k1 (al k2 an)))
 | false =>
  apply bc (purC c) <;> intro k3
  ·rw [of_p k3]; exact leafF [O] hv (al k3 an)
  apply bc (rightJ ⟨false, re u, re v, re x, i⟩ ↑c.length) <;> intro k4
  ·rw [of_a (by rw [hA, k4] <;> kernel_rfl)]; exact leafF [I,O] hv (al k3 (al k4 an))
  apply bc (rightJ ⟨e2, re u2, re v2, re x2, i2⟩ ↑c.length) <;> intro k5
  ·rw [of_a (by rw [hA, k4, k5] <;> kernel_rfl)]; exact leafF [I,I,O] hv (al k3 (al k4 (al k5 an)))
  apply bd (((re x).k == 3)) <;> intro k6
  ·apply bd ((i == max (re x).i (re x).j)) <;> intro k7
   ·cases e2 with
    | true =>
     obtain ⟨p, q, hk⟩ := two_kids (t := re x) (right_u k4).2 (Or.inl (by simpa using k6))
     have hx : re x = .mk x.k x.i x.j x.n [re p, re q] := by
      have hk2 : x.kids = [p, q] := hk
      simp only [re_eq]
      rw [← hk2]
      exact x.eta.symm
     have H := of5kft_any c n u v i u2 v2 x2 i2 x.k x.i x.j x.n p q (by first | exact k3 | (rw [← hx]; exact k3)) (by first | exact k4 | (rw [← hx]; exact k4)) (by first | exact k5 | (rw [← hx]; exact k5)) (by first | exact k6 | (rw [← hx]; exact k6)) (by first | exact k7 | (rw [← hx]; exact k7)) (A := A) (w := w) (vs := vs)
     rw [← hx] at H
     exact H hs hv
    | false =>
     obtain ⟨p, q, hk⟩ := two_kids (t := re x) (right_u k4).2 (Or.inl (by simpa using k6))
     have hx : re x = .mk x.k x.i x.j x.n [re p, re q] := by
      have hk2 : x.kids = [p, q] := hk
      simp only [re_eq]
      rw [← hk2]
      exact x.eta.symm
     have H := of5kff_any c n u v i u2 v2 x2 i2 x.k x.i x.j x.n p q (by first | exact k3 | (rw [← hx]; exact k3)) (by first | exact k4 | (rw [← hx]; exact k4)) (by first | exact k5 | (rw [← hx]; exact k5)) (by first | exact k6 | (rw [← hx]; exact k6)) (by first | exact k7 | (rw [← hx]; exact k7)) (A := A) (w := w) (vs := vs)
     rw [← hx] at H
     exact H hs hv
   rw [of_t k3 (by rw [hA, k4, k5] <;> kernel_rfl) hC (by rw [k6, k7] <;> kernel_rfl)]; exact leafF [I,I,I,O,I] hv (al k3 (al k4 (al k5 (al (bneT k6) (al (bneF k7) an)))))
  rw [of_t k3 (by rw [hA, k4, k5] <;> kernel_rfl) hC (by rw [k6] <;> kernel_rfl)]; exact leafF [I,I,I,I] hv (al k3 (al k4 (al k5 (al (bneF k6) an))))
set_option maxRecDepth 20000 in
set_option maxHeartbeats 4000000 in
theorem of6_any (c : List En) (n : Int) (e : Bool) (u v x : Tm) (i : Int) (e2 : Bool) (u2 v2 x2 : Tm) (i2 : Int) (hs : Sml c [⟨e, re u, re v, re x, i⟩, ⟨e2, re u2, re v2, re x2, i2⟩]) {w : World} {A : Nat → Prop} {vs : List Value} (hv : F2 (ArgDen w A) (aOf c 6 n [⟨e, re u, re v, re x, i⟩, ⟨e2, re u2, re v2, re x2, i2⟩]) vs) : Calls Try.prog 5 vs.toArray w (GivesO A (ofB c 6 n [⟨e, re u, re v, re x, i⟩, ⟨e2, re u2, re v2, re x2, i2⟩]) w) := by
 have hA : allR c.length 6 0 [⟨e, re u, re v, re x, i⟩, ⟨e2, re u2, re v2, re x2, i2⟩] = (rightJ ⟨e, re u, re v, re x, i⟩ ↑c.length && (rightJ ⟨e2, re u2, re v2, re x2, i2⟩ (IntKind.i64.wrap (↑c.length + 1)) && true)) := by kernel_rfl
 have hC : concB c n 6 [⟨e, re u, re v, re x, i⟩, ⟨e2, re u2, re v2, re x2, i2⟩] = if (((!e) && (((re x).k == 1) && (i == W64 ((re x).i + 1)))) && ((!e2) && (((re x2).k == 1) && (i2 == W64 ((re x2).i + 1))))) = true then some ⟨false, nd 6 ((re x).i) ((re x2).i) [re u, re u2], .zero, srt (max (re x).i (re x2).i), W64 ((max (re x).i (re x2).i) + 1)⟩ else none := by kernel_rfl
 obtain ⟨zu, zv, zx⟩ := hs.z
 obtain ⟨zu2, zv2, zx2⟩ := hs.tl.z
 cases e with
 | true =>
  cases e2 with
  | true =>
   apply bc (purC c) <;> intro k0
   ·rw [of_p k0]; exact leafF [O] hv (al k0 an)
   apply bc (rightJ ⟨true, re u, re v, re x, i⟩ ↑c.length) <;> intro k1
   ·rw [of_a (by rw [hA, k1] <;> kernel_rfl)]; exact leafF [I,O] hv (al k0 (al k1 an))
   apply bc (rightJ ⟨true, re u2, re v2, re x2, i2⟩ (IntKind.i64.wrap (↑c.length + 1))) <;> intro k2
   ·rw [of_a (by rw [hA, k1, k2] <;> kernel_rfl)]; exact leafF [I,I,O] hv (al k0 (al k1 (al k2 an)))
   have s0 : ([] : List Tm).length ≤ 10 := Nat.le_of_ble_eq_true rfl
   have s1 : (Tm.mk 6 (re x).i (re x2).i 0 [re u, re u2]).size ≤ 10000000 := by (try simp only [re_eq]); (try simp only [Tm.size, sizes]); omega
   have s2 : (Tm.mk 0 0 0 0 []).size ≤ 10000000 := by (try simp only [re_eq]); (try simp only [Tm.size, sizes]); omega
   have s3 : (Tm.mk 1 (max (re x).i (re x2).i) 0 0 []).size ≤ 10000000 := by (try simp only [re_eq]); (try simp only [Tm.size, sizes]); omega
   rw [of_t k0 (by rw [hA, k1, k2] <;> kernel_rfl) hC (by kernel_rfl)]; exact leafF [I,I,I] hv (al k0 (al k1 (al k2 (al s0 an))))
  | false =>
   apply bc (purC c) <;> intro k3
   ·rw [of_p k3]; exact leafF [O] hv (al k3 an)
   apply bc (rightJ ⟨true, re u, re v, re x, i⟩ ↑c.length) <;> intro k4
   ·rw [of_a (by rw [hA, k4] <;> kernel_rfl)]; exact leafF [I,O] hv (al k3 (al k4 an))
   apply bc (rightJ ⟨false, re u2, re v2, re x2, i2⟩ (IntKind.i64.wrap (↑c.length + 1))) <;> intro k5
   ·rw [of_a (by rw [hA, k4, k5] <;> kernel_rfl)]; exact leafF [I,I,O] hv (al k3 (al k4 (al k5 an)))
   have s0 : ([] : List Tm).length ≤ 10 := Nat.le_of_ble_eq_true rfl
   have s1 : (Tm.mk 6 (re x).i (re x2).i 0 [re u, re u2]).size ≤ 10000000 := by (try simp only [re_eq]); (try simp only [Tm.size, sizes]); omega
   have s2 : (Tm.mk 0 0 0 0 []).size ≤ 10000000 := by (try simp only [re_eq]); (try simp only [Tm.size, sizes]); omega
   have s3 : (Tm.mk 1 (max (re x).i (re x2).i) 0 0 []).size ≤ 10000000 := by (try simp only [re_eq]); (try simp only [Tm.size, sizes]); omega
   apply bc (((re x2).k == 1)) <;> intro k6
   ·rw [of_t k3 (by rw [hA, k4, k5] <;> kernel_rfl) hC (by rw [k6] <;> kernel_rfl)]; exact leafF [I,I,I,O] hv (al k3 (al k4 (al k5 (al k6 (al s0 an)))))
   apply bc ((i2 == IntKind.i64.wrap ((re x2).i + 1))) <;> intro k7
   ·rw [of_t k3 (by rw [hA, k4, k5] <;> kernel_rfl) hC (by rw [k6, k7] <;> kernel_rfl)]; exact leafF [I,I,I,I,O] hv (al k3 (al k4 (al k5 (al k6 (al k7 (al s0 an))))))
   rw [of_t k3 (by rw [hA, k4, k5] <;> kernel_rfl) hC (by rw [k6, k7] <;> kernel_rfl)]; exact leafF [I,I,I,I,I] hv (al k3 (al k4 (al k5 (al k6 (al k7 (al s0 an))))))
 | false =>
  cases e2 with
  | true =>
   apply bc (purC c) <;> intro k8
   ·rw [of_p k8]; exact leafF [O] hv (al k8 an)
   apply bc (rightJ ⟨false, re u, re v, re x, i⟩ ↑c.length) <;> intro k9
   ·rw [of_a (by rw [hA, k9] <;> kernel_rfl)]; exact leafF [I,O] hv (al k8 (al k9 an))
   apply bc (rightJ ⟨true, re u2, re v2, re x2, i2⟩ (IntKind.i64.wrap (↑c.length + 1))) <;> intro k10
   ·rw [of_a (by rw [hA, k9, k10] <;> kernel_rfl)]; exact leafF [I,I,O] hv (al k8 (al k9 (al k10 an)))
   have s0 : ([] : List Tm).length ≤ 10 := Nat.le_of_ble_eq_true rfl
   have s1 : (Tm.mk 6 (re x).i (re x2).i 0 [re u, re u2]).size ≤ 10000000 := by (try simp only [re_eq]); (try simp only [Tm.size, sizes]); omega
   have s2 : (Tm.mk 0 0 0 0 []).size ≤ 10000000 := by (try simp only [re_eq]); (try simp only [Tm.size, sizes]); omega
   have s3 : (Tm.mk 1 (max (re x).i (re x2).i) 0 0 []).size ≤ 10000000 := by (try simp only [re_eq]); (try simp only [Tm.size, sizes]); omega
   apply bc (((re x).k == 1)) <;> intro k11
   ·rw [of_t k8 (by rw [hA, k9, k10] <;> kernel_rfl) hC (by rw [k11] <;> kernel_rfl)]; exact leafF [I,I,I,O] hv (al k8 (al k9 (al k10 (al k11 (al s0 an)))))
   apply bc ((i == IntKind.i64.wrap ((re x).i + 1))) <;> intro k12
   ·rw [of_t k8 (by rw [hA, k9, k10] <;> kernel_rfl) hC (by rw [k11, k12] <;> kernel_rfl)]; exact leafF [I,I,I,I,O] hv (al k8 (al k9 (al k10 (al k11 (al k12 (al s0 an))))))
   rw [of_t k8 (by rw [hA, k9, k10] <;> kernel_rfl) hC (by rw [k11, k12] <;> kernel_rfl)]; exact leafF [I,I,I,I,I] hv (al k8 (al k9 (al k10 (al k11 (al k12 (al s0 an))))))
  | false =>
   apply bc (purC c) <;> intro k13
   ·rw [of_p k13]; exact leafF [O] hv (al k13 an)
   apply bc (rightJ ⟨false, re u, re v, re x, i⟩ ↑c.length) <;> intro k14
   ·rw [of_a (by rw [hA, k14] <;> kernel_rfl)]; exact leafF [I,O] hv (al k13 (al k14 an))
   apply bc (rightJ ⟨false, re u2, re v2, re x2, i2⟩ (IntKind.i64.wrap (↑c.length + 1))) <;> intro k15
   ·rw [of_a (by rw [hA, k14, k15] <;> kernel_rfl)]; exact leafF [I,I,O] hv (al k13 (al k14 (al k15 an)))
   have s0 : ([] : List Tm).length ≤ 10 := Nat.le_of_ble_eq_true rfl
   have s1 : (Tm.mk 6 (re x).i (re x2).i 0 [re u, re u2]).size ≤ 10000000 := by (try simp only [re_eq]); (try simp only [Tm.size, sizes]); omega
   have s2 : (Tm.mk 0 0 0 0 []).size ≤ 10000000 := by (try simp only [re_eq]); (try simp only [Tm.size, sizes]); omega
   have s3 : (Tm.mk 1 (max (re x).i (re x2).i) 0 0 []).size ≤ 10000000 := by (try simp only [re_eq]); (try simp only [Tm.size, sizes]); omega
   apply bc (((re x).k == 1)) <;> intro k16
   ·apply bc (((re x2).k == 1)) <;> intro k17
    ·rw [of_t k13 (by rw [hA, k14, k15] <;> kernel_rfl) hC (by rw [k16, k17] <;> kernel_rfl)]; exact leafF [I,I,I,O,O] hv (al k13 (al k14 (al k15 (al k16 (al k17 (al s0 an))))))
    apply bc ((i2 == IntKind.i64.wrap ((re x2).i + 1))) <;> intro k18
    ·rw [of_t k13 (by rw [hA, k14, k15] <;> kernel_rfl) hC (by rw [k16, k17, k18] <;> kernel_rfl)]; exact leafF [I,I,I,O,I,O] hv (al k13 (al k14 (al k15 (al k16 (al k17 (al k18 (al s0 an)))))))
    rw [of_t k13 (by rw [hA, k14, k15] <;> kernel_rfl) hC (by rw [k16, k17, k18] <;> kernel_rfl)]; exact leafF [I,I,I,O,I,I] hv (al k13 (al k14 (al k15 (al k16 (al k17 (al k18 (al s0 an)))))))
   apply bc ((i == IntKind.i64.wrap ((re x).i + 1))) <;> intro k19
   ·apply bc (((re x2).k == 1)) <;> intro k20
    ·rw [of_t k13 (by rw [hA, k14, k15] <;> kernel_rfl) hC (by rw [k16, k19, k20] <;> kernel_rfl)]; exact leafF [I,I,I,I,O,O] hv (al k13 (al k14 (al k15 (al k16 (al k19 (al k20 (al s0 an)))))))
    apply bc ((i2 == IntKind.i64.wrap ((re x2).i + 1))) <;> intro k21
    ·rw [of_t k13 (by rw [hA, k14, k15] <;> kernel_rfl) hC (by rw [k16, k19, k20, k21] <;> kernel_rfl)]; exact leafF [I,I,I,I,O,I,O] hv (al k13 (al k14 (al k15 (al k16 (al k19 (al k20 (al k21 (al s0 an))))))))
    rw [of_t k13 (by rw [hA, k14, k15] <;> kernel_rfl) hC (by rw [k16, k19, k20, k21] <;> kernel_rfl)]; exact leafF [I,I,I,I,O,I,I] hv (al k13 (al k14 (al k15 (al k16 (al k19 (al k20 (al k21 (al s0 an))))))))
   apply bc (((re x2).k == 1)) <;> intro k22
   ·rw [of_t k13 (by rw [hA, k14, k15] <;> kernel_rfl) hC (by rw [k16, k19, k22] <;> kernel_rfl)]; exact leafF [I,I,I,I,I,O] hv (al k13 (al k14 (al k15 (al k16 (al k19 (al k22 (al s0 an)))))))
   apply bc ((i2 == IntKind.i64.wrap ((re x2).i + 1))) <;> intro k23
   ·rw [of_t k13 (by rw [hA, k14, k15] <;> kernel_rfl) hC (by rw [k16, k19, k22, k23] <;> kernel_rfl)]; exact leafF [I,I,I,I,I,I,O] hv (al k13 (al k14 (al k15 (al k16 (al k19 (al k22 (al k23 (al s0 an))))))))
   apply bc (decide (IntKind.i64.wrap (max (re x).i (re x2).i + 1) > 1000)) <;> intro k24
   ·rw [of_s k13 (by rw [hA, k14, k15] <;> kernel_rfl) hC (by rw [k16, k19, k22, k23] <;> kernel_rfl) (by show (!(decide (W64 ((max (re x).i (re x2).i) + 1) > 1000) || ((nd 6 ((re x).i) ((re x2).i) [re u, re u2]).k == 0 || ((srt (max (re x).i (re x2).i)).k == 0 || (false && (.zero : Tm).k == 0))))) = true; rw [k24] <;> kernel_rfl)]; exact leafS [I,I,I,I,I,I,I,O] hv (al k13 (al k14 (al k15 (al k16 (al k19 (al k22 (al k23 (al s0 (al k24 (al s1 (al s2 (al s3 an))))))))))))
   rw [of_o k13 (by rw [hA, k14, k15] <;> kernel_rfl) hC (by show (!(decide (W64 ((max (re x).i (re x2).i) + 1) > 1000) || ((nd 6 ((re x).i) ((re x2).i) [re u, re u2]).k == 0 || ((srt (max (re x).i (re x2).i)).k == 0 || (false && (.zero : Tm).k == 0))))) = false; rw [k24] <;> kernel_rfl)]; exact leafF [I,I,I,I,I,I,I,I] hv (al k13 (al k14 (al k15 (al k16 (al k19 (al k22 (al k23 (al s0 (al k24 an)))))))))
end Go.Proofs.Ytmicgbdcbjajiaa.Se
namespace Go.Proofs.Ytmicgbdcbjajiaa.Se
open Go Go.RowKit
set_option maxRecDepth 20000 in
set_option maxHeartbeats 4000000 in
theorem of7_any (c : List En) (n : Int) (e : Bool) (u v x : Tm) (i : Int) (e2 : Bool) (u2 v2 x2 : Tm) (i2 : Int) (e3 : Bool) (u3 v3 x3 : Tm) (i3 : Int) (hs : Sml c [⟨e, re u, re v, re x, i⟩, ⟨e2, re u2, re v2, re x2, i2⟩, ⟨e3, re u3, re v3, re x3, i3⟩]) {w : World} {A : Nat → Prop} {vs : List Value} (hv : F2 (ArgDen w A) (aOf c 7 n [⟨e, re u, re v, re x, i⟩, ⟨e2, re u2, re v2, re x2, i2⟩, ⟨e3, re u3, re v3, re x3, i3⟩]) vs) : Calls Try.prog 5 vs.toArray w (GivesO A (ofB c 7 n [⟨e, re u, re v, re x, i⟩, ⟨e2, re u2, re v2, re x2, i2⟩, ⟨e3, re u3, re v3, re x3, i3⟩]) w) := by
 have hA : allR c.length 7 0 [⟨e, re u, re v, re x, i⟩, ⟨e2, re u2, re v2, re x2, i2⟩, ⟨e3, re u3, re v3, re x3, i3⟩] = (rightJ ⟨e, re u, re v, re x, i⟩ ↑c.length && (rightJ ⟨e2, re u2, re v2, re x2, i2⟩ (IntKind.i64.wrap (↑c.length + 1)) && (rightJ ⟨e3, re u3, re v3, re x3, i3⟩ ↑c.length && true))) := by kernel_rfl
 have hC : concB c n 7 [⟨e, re u, re v, re x, i⟩, ⟨e2, re u2, re v2, re x2, i2⟩, ⟨e3, re u3, re v3, re x3, i3⟩] = if ((((!e2) && (((re x2).k == 1) && (i2 == W64 ((re x2).i + 1)))) && (!e)) && ((!e3) && ((i3 == (re x2).i) && sameB (re x3) ((re u2).putB (re u))))) = true then some ⟨false, nd 7 i ((re x2).i) [re x, re u2, re u, re u3], .zero, nd 6 i ((re x2).i) [re x, re u2], max i (re x2).i⟩ else none := by kernel_rfl
 obtain ⟨zu, zv, zx⟩ := hs.z
 obtain ⟨zu2, zv2, zx2⟩ := hs.tl.z
 obtain ⟨zu3, zv3, zx3⟩ := hs.tl.tl.z
 cases e with
 | true =>
  cases e2 with
  | true =>
   apply bc (purC c) <;> intro k0
   ·rw [of_p k0]; exact leafF [O] hv (al k0 an)
   apply bc (rightJ ⟨true, re u, re v, re x, i⟩ ↑c.length) <;> intro k1
   ·rw [of_a (by rw [hA, k1] <;> kernel_rfl)]; exact leafF [I,O] hv (al k0 (al k1 an))
   apply bc (rightJ ⟨true, re u2, re v2, re x2, i2⟩ (IntKind.i64.wrap (↑c.length + 1))) <;> intro k2
   ·rw [of_a (by rw [hA, k1, k2] <;> kernel_rfl)]; exact leafF [I,I,O] hv (al k0 (al k1 (al k2 an)))
   apply bc (rightJ ⟨e3, re u3, re v3, re x3, i3⟩ ↑c.length) <;> intro k3
   ·rw [of_a (by rw [hA, k1, k2, k3] <;> kernel_rfl)]; exact leafF [I,I,I,O] hv (al k0 (al k1 (al k2 (al k3 an))))
   have s0 : [re u, re u3].length ≤ 10 := Nat.le_of_ble_eq_true rfl
   have s1 : ([] : List Tm).length ≤ 10 := Nat.le_of_ble_eq_true rfl
   have s2 : (re u2).deep ≤ 100000 := by refine Nat.le_trans (deep_le_size _) ?_; (try simp only [re_eq]); (try simp only [Tm.size, sizes]); omega
   have s3 : (re u).deep ≤ 100000 := by refine Nat.le_trans (deep_le_size _) ?_; (try simp only [re_eq]); (try simp only [Tm.size, sizes]); omega
   have s4 : (Tm.mk 7 i (re x2).i 0 [re x, re u2, re u, re u3]).size ≤ 10000000 := by (try simp only [re_eq]); (try simp only [Tm.size, sizes]); omega
   have s5 : (Tm.mk 0 0 0 0 []).size ≤ 10000000 := by (try simp only [re_eq]); (try simp only [Tm.size, sizes]); omega
   have s6 : (Tm.mk 6 i (re x2).i 0 [re x, re u2]).size ≤ 10000000 := by (try simp only [re_eq]); (try simp only [Tm.size, sizes]); omega
   rw [of_t k0 (by rw [hA, k1, k2, k3] <;> kernel_rfl) hC (by kernel_rfl)]; exact leafF [I,I,I,I] hv (al k0 (al k1 (al k2 (al k3 (al s0 (al s1 an))))))
  | false =>
   apply bc (purC c) <;> intro k4
   ·rw [of_p k4]; exact leafF [O] hv (al k4 an)
   apply bc (rightJ ⟨true, re u, re v, re x, i⟩ ↑c.length) <;> intro k5
   ·rw [of_a (by rw [hA, k5] <;> kernel_rfl)]; exact leafF [I,O] hv (al k4 (al k5 an))
   apply bc (rightJ ⟨false, re u2, re v2, re x2, i2⟩ (IntKind.i64.wrap (↑c.length + 1))) <;> intro k6
   ·rw [of_a (by rw [hA, k5, k6] <;> kernel_rfl)]; exact leafF [I,I,O] hv (al k4 (al k5 (al k6 an)))
   apply bc (rightJ ⟨e3, re u3, re v3, re x3, i3⟩ ↑c.length) <;> intro k7
   ·rw [of_a (by rw [hA, k5, k6, k7] <;> kernel_rfl)]; exact leafF [I,I,I,O] hv (al k4 (al k5 (al k6 (al k7 an))))
   have s0 : [re u, re u3].length ≤ 10 := Nat.le_of_ble_eq_true rfl
   have s1 : ([] : List Tm).length ≤ 10 := Nat.le_of_ble_eq_true rfl
   have s2 : (re u2).deep ≤ 100000 := by refine Nat.le_trans (deep_le_size _) ?_; (try simp only [re_eq]); (try simp only [Tm.size, sizes]); omega
   have s3 : (re u).deep ≤ 100000 := by refine Nat.le_trans (deep_le_size _) ?_; (try simp only [re_eq]); (try simp only [Tm.size, sizes]); omega
   have s4 : (Tm.mk 7 i (re x2).i 0 [re x, re u2, re u, re u3]).size ≤ 10000000 := by (try simp only [re_eq]); (try simp only [Tm.size, sizes]); omega
   have s5 : (Tm.mk 0 0 0 0 []).size ≤ 10000000 := by (try simp only [re_eq]); (try simp only [Tm.size, sizes]); omega
   have s6 : (Tm.mk 6 i (re x2).i 0 [re x, re u2]).size ≤ 10000000 := by (try simp only [re_eq]); (try simp only [Tm.size, sizes]); omega
   apply bc (((re x2).k == 1)) <;> intro k8
   ·rw [of_t k4 (by rw [hA, k5, k6, k7] <;> kernel_rfl) hC (by rw [k8] <;> kernel_rfl)]; exact leafF [I,I,I,I,O] hv (al k4 (al k5 (al k6 (al k7 (al k8 (al s0 (al s1 an)))))))
   apply bc ((i2 == IntKind.i64.wrap ((re x2).i + 1))) <;> intro k9
   ·rw [of_t k4 (by rw [hA, k5, k6, k7] <;> kernel_rfl) hC (by rw [k8, k9] <;> kernel_rfl)]; exact leafF [I,I,I,I,I,O] hv (al k4 (al k5 (al k6 (al k7 (al k8 (al k9 (al s0 (al s1 an))))))))
   rw [of_t k4 (by rw [hA, k5, k6, k7] <;> kernel_rfl) hC (by rw [k8, k9] <;> kernel_rfl)]; exact leafF [I,I,I,I,I,I] hv (al k4 (al k5 (al k6 (al k7 (al k8 (al k9 (al s0 (al s1 an))))))))
 | false =>
  cases e2 with
  | true =>
   apply bc (purC c) <;> intro k10
   ·rw [of_p k10]; exact leafF [O] hv (al k10 an)
   apply bc (rightJ ⟨false, re u, re v, re x, i⟩ ↑c.length) <;> intro k11
   ·rw [of_a (by rw [hA, k11] <;> kernel_rfl)]; exact leafF [I,O] hv (al k10 (al k11 an))
   apply bc (rightJ ⟨true, re u2, re v2, re x2, i2⟩ (IntKind.i64.wrap (↑c.length + 1))) <;> intro k12
   ·rw [of_a (by rw [hA, k11, k12] <;> kernel_rfl)]; exact leafF [I,I,O] hv (al k10 (al k11 (al k12 an)))
   apply bc (rightJ ⟨e3, re u3, re v3, re x3, i3⟩ ↑c.length) <;> intro k13
   ·rw [of_a (by rw [hA, k11, k12, k13] <;> kernel_rfl)]; exact leafF [I,I,I,O] hv (al k10 (al k11 (al k12 (al k13 an))))
   have s0 : [re u, re u3].length ≤ 10 := Nat.le_of_ble_eq_true rfl
   have s1 : ([] : List Tm).length ≤ 10 := Nat.le_of_ble_eq_true rfl
   have s2 : (re u2).deep ≤ 100000 := by refine Nat.le_trans (deep_le_size _) ?_; (try simp only [re_eq]); (try simp only [Tm.size, sizes]); omega
   have s3 : (re u).deep ≤ 100000 := by refine Nat.le_trans (deep_le_size _) ?_; (try simp only [re_eq]); (try simp only [Tm.size, sizes]); omega
   have s4 : (Tm.mk 7 i (re x2).i 0 [re x, re u2, re u, re u3]).size ≤ 10000000 := by (try simp only [re_eq]); (try simp only [Tm.size, sizes]); omega
   have s5 : (Tm.mk 0 0 0 0 []).size ≤ 10000000 := by (try simp only [re_eq]); (try simp only [Tm.size, sizes]); omega
   have s6 : (Tm.mk 6 i (re x2).i 0 [re x, re u2]).size ≤ 10000000 := by (try simp only [re_eq]); (try simp only [Tm.size, sizes]); omega
   rw [of_t k10 (by rw [hA, k11, k12, k13] <;> kernel_rfl) hC (by kernel_rfl)]; exact leafF [I,I,I,I] hv (al k10 (al k11 (al k12 (al k13 (al s0 (al s1 an))))))
  | false =>
   cases e3 with
   | true =>
    apply bc (purC c) <;> intro k14
    ·rw [of_p k14]; exact leafF [O] hv (al k14 an)
    apply bc (rightJ ⟨false, re u, re v, re x, i⟩ ↑c.length) <;> intro k15
    ·rw [of_a (by rw [hA, k15] <;> kernel_rfl)]; exact leafF [I,O] hv (al k14 (al k15 an))
    apply bc (rightJ ⟨false, re u2, re v2, re x2, i2⟩ (IntKind.i64.wrap (↑c.length + 1))) <;> intro k16
    ·rw [of_a (by rw [hA, k15, k16] <;> kernel_rfl)]; exact leafF [I,I,O] hv (al k14 (al k15 (al k16 an)))
    apply bc (rightJ ⟨true, re u3, re v3, re x3, i3⟩ ↑c.length) <;> intro k17
    ·rw [of_a (by rw [hA, k15, k16, k17] <;> kernel_rfl)]; exact leafF [I,I,I,O] hv (al k14 (al k15 (al k16 (al k17 an))))
    have s0 : [re u, re u3].length ≤ 10 := Nat.le_of_ble_eq_true rfl
    have s1 : ([] : List Tm).length ≤ 10 := Nat.le_of_ble_eq_true rfl
    have s2 : (re u2).deep ≤ 100000 := by refine Nat.le_trans (deep_le_size _) ?_; (try simp only [re_eq]); (try simp only [Tm.size, sizes]); omega
    have s3 : (re u).deep ≤ 100000 := by refine Nat.le_trans (deep_le_size _) ?_; (try simp only [re_eq]); (try simp only [Tm.size, sizes]); omega
    have s4 : (Tm.mk 7 i (re x2).i 0 [re x, re u2, re u, re u3]).size ≤ 10000000 := by (try simp only [re_eq]); (try simp only [Tm.size, sizes]); omega
    have s5 : (Tm.mk 0 0 0 0 []).size ≤ 10000000 := by (try simp only [re_eq]); (try simp only [Tm.size, sizes]); omega
    have s6 : (Tm.mk 6 i (re x2).i 0 [re x, re u2]).size ≤ 10000000 := by (try simp only [re_eq]); (try simp only [Tm.size, sizes]); omega
    apply bc (((re x2).k == 1)) <;> intro k18
    ·rw [of_t k14 (by rw [hA, k15, k16, k17] <;> kernel_rfl) hC (by rw [k18] <;> kernel_rfl)]; exact leafF [I,I,I,I,O] hv (al k14 (al k15 (al k16 (al k17 (al k18 (al s0 (al s1 an)))))))
    apply bc ((i2 == IntKind.i64.wrap ((re x2).i + 1))) <;> intro k19
    ·rw [of_t k14 (by rw [hA, k15, k16, k17] <;> kernel_rfl) hC (by rw [k18, k19] <;> kernel_rfl)]; exact leafF [I,I,I,I,I,O] hv (al k14 (al k15 (al k16 (al k17 (al k18 (al k19 (al s0 (al s1 an))))))))
    rw [of_t k14 (by rw [hA, k15, k16, k17] <;> kernel_rfl) hC (by rw [k18, k19] <;> kernel_rfl)]; exact leafF [I,I,I,I,I,I] hv (al k14 (al k15 (al k16 (al k17 (al k18 (al k19 (al s2 (al s3 (al s0 (al s1 an))))))))))
   | false =>
    apply bc (purC c) <;> intro k20
    ·rw [of_p k20]; exact leafF [O] hv (al k20 an)
    apply bc (rightJ ⟨false, re u, re v, re x, i⟩ ↑c.length) <;> intro k21
    ·rw [of_a (by rw [hA, k21] <;> kernel_rfl)]; exact leafF [I,O] hv (al k20 (al k21 an))
    apply bc (rightJ ⟨false, re u2, re v2, re x2, i2⟩ (IntKind.i64.wrap (↑c.length + 1))) <;> intro k22
    ·rw [of_a (by rw [hA, k21, k22] <;> kernel_rfl)]; exact leafF [I,I,O] hv (al k20 (al k21 (al k22 an)))
    apply bc (rightJ ⟨false, re u3, re v3, re x3, i3⟩ ↑c.length) <;> intro k23
    ·rw [of_a (by rw [hA, k21, k22, k23] <;> kernel_rfl)]; exact leafF [I,I,I,O] hv (al k20 (al k21 (al k22 (al k23 an))))
    have s0 : [re u, re u3].length ≤ 10 := Nat.le_of_ble_eq_true rfl
    have s1 : ([] : List Tm).length ≤ 10 := Nat.le_of_ble_eq_true rfl
    have s2 : (re u2).deep ≤ 100000 := by refine Nat.le_trans (deep_le_size _) ?_; (try simp only [re_eq]); (try simp only [Tm.size, sizes]); omega
    have s3 : (re u).deep ≤ 100000 := by refine Nat.le_trans (deep_le_size _) ?_; (try simp only [re_eq]); (try simp only [Tm.size, sizes]); omega
    have s4 : (Tm.mk 7 i (re x2).i 0 [re x, re u2, re u, re u3]).size ≤ 10000000 := by (try simp only [re_eq]); (try simp only [Tm.size, sizes]); omega
    have s5 : (Tm.mk 0 0 0 0 []).size ≤ 10000000 := by (try simp only [re_eq]); (try simp only [Tm.size, sizes]); omega
    have s6 : (Tm.mk 6 i (re x2).i 0 [re x, re u2]).size ≤ 10000000 := by (try simp only [re_eq]); (try simp only [Tm.size, sizes]); omega
    apply bc (((re x2).k == 1)) <;> intro k24
    ·rw [of_t k20 (by rw [hA, k21, k22, k23] <;> kernel_rfl) hC (by rw [k24] <;> kernel_rfl)]; exact leafF [I,I,I,I,O] hv (al k20 (al k21 (al k22 (al k23 (al k24 (al s0 (al s1 an)))))))
    apply bc ((i2 == IntKind.i64.wrap ((re x2).i + 1))) <;> intro k25
    ·rw [of_t k20 (by rw [hA, k21, k22, k23] <;> kernel_rfl) hC (by rw [k24, k25] <;> kernel_rfl)]; exact leafF [I,I,I,I,I,O] hv (al k20 (al k21 (al k22 (al k23 (al k24 (al k25 (al s0 (al s1 an))))))))
    apply bc ((i3 == (re x2).i)) <;> intro k26
    ·rw [of_t k20 (by rw [hA, k21, k22, k23] <;> kernel_rfl) hC (by rw [k24, k25, k26] <;> kernel_rfl)]; exact leafF [I,I,I,I,I,I,O] hv (al k20 (al k21 (al k22 (al k23 (al k24 (al k25 (al s2 (al s3 (al k26 (al s0 (al s1 an)))))))))))
    apply bc (sameB (re x3) (re ((re u2).putB (re u)))) <;> intro k27
    ·rw [of_t k20 (by rw [hA, k21, k22, k23] <;> kernel_rfl) hC (by rw [← re_eq ((re u2).putB (re u)), k24, k25, k26, k27] <;> kernel_rfl)]; exact leafF [I,I,I,I,I,I,I,O] hv (al k20 (al k21 (al k22 (al k23 (al k24 (al k25 (al s2 (al s3 (al k26 (al k27 (al s0 (al s1 an))))))))))))
    apply bc (decide (max i (re x2).i > 1000)) <;> intro k28
    ·rw [of_s k20 (by rw [hA, k21, k22, k23] <;> kernel_rfl) hC (by rw [← re_eq ((re u2).putB (re u)), k24, k25, k26, k27] <;> kernel_rfl) (by show (!(decide (max i (re x2).i > 1000) || ((nd 7 i ((re x2).i) [re x, re u2, re u, re u3]).k == 0 || ((nd 6 i ((re x2).i) [re x, re u2]).k == 0 || (false && (.zero : Tm).k == 0))))) = true; rw [k28] <;> kernel_rfl)]; exact leafS [I,I,I,I,I,I,I,I,O] hv (al k20 (al k21 (al k22 (al k23 (al k24 (al k25 (al s2 (al s3 (al k26 (al k27 (al s0 (al s1 (al k28 (al s4 (al s5 (al s6 an))))))))))))))))
    rw [of_o k20 (by rw [hA, k21, k22, k23] <;> kernel_rfl) hC (by show (!(decide (max i (re x2).i > 1000) || ((nd 7 i ((re x2).i) [re x, re u2, re u, re u3]).k == 0 || ((nd 6 i ((re x2).i) [re x, re u2]).k == 0 || (false && (.zero : Tm).k == 0))))) = false; rw [k28] <;> kernel_rfl)]; exact leafF [I,I,I,I,I,I,I,I,I] hv (al k20 (al k21 (al k22 (al k23 (al k24 (al k25 (al s2 (al s3 (al k26 (al k27 (al s0 (al s1 (al k28 an)))))))))))))
set_option maxRecDepth 20000 in
set_option maxHeartbeats 4000000 in
theorem of8kf_any (c : List En) (n : Int) (u v : Tm) (i : Int) (xk xi xj xn : Int) (p q : Tm) (k100 : purC c = true) (k101 : rightJ { eq := false, u := re u, v := re v, a := Tm.mk xk xi xj xn [re p, re q], i := i } ↑c.length = true) (k102 : (xk == 6) = true) (k103 : (i == max xi xj) = true) (hs : Sml c [⟨false, re u, re v, .mk xk xi xj xn [re p, re q], i⟩]) {w : World} {A : Nat → Prop} {vs : List Value} (hv : F2 (ArgDen w A) (aOf c 8 n [⟨false, re u, re v, .mk xk xi xj xn [re p, re q], i⟩]) vs) : Calls Try.prog 5 vs.toArray w (GivesO A (ofB c 8 n [⟨false, re u, re v, .mk xk xi xj xn [re p, re q], i⟩]) w) := by
 have hA : allR c.length 8 0 [⟨false, re u, re v, .mk xk xi xj xn [re p, re q], i⟩] = (rightJ ⟨false, re u, re v, .mk xk xi xj xn [re p, re q], i⟩ ↑c.length && true) := by kernel_rfl
 have hC : concB c n 8 [⟨false, re u, re v, .mk xk xi xj xn [re p, re q], i⟩] = if ((!false) && ((xk == 6) && (i == max xi xj))) = true then some ⟨false, nd 8 xi xj [re p, re q, re u], .zero, re p, xi⟩ else none := by kernel_rfl
 have zu : (re u).size ≤ 1000 := (hs.js _ (List.mem_cons_self ..)).1
 have zx : (.mk xk xi xj xn [re p, re q] : Tm).size ≤ 1000 := (hs.js _ (List.mem_cons_self ..)).2.2
 rw [re_eq] at zu
 simp only [Tm.size, sizes, re_eq] at zx
 have s0 : [re u].length ≤ 10 := Nat.le_of_ble_eq_true rfl
 have s1 : (Tm.mk 8 xi xj 0 [re p, re q, re u]).size ≤ 10000000 := by (try simp only [re_eq]); (try simp only [Tm.size, sizes]); omega
 have s2 : (Tm.mk 0 0 0 0 []).size ≤ 10000000 := by (try simp only [re_eq]); (try simp only [Tm.size, sizes]); omega
 have s3 : (re p).size ≤ 10000000 := by (try simp only [re_eq]); (try simp only [Tm.size, sizes]); omega
 apply bc (decide (xi > 1000)) <;> intro k6
 ·apply bc (((re p).k == 0)) <;> intro k7
  ·rw [of_s k100 (by rw [hA, k101] <;> kernel_rfl) hC (by rw [k102, k103] <;> kernel_rfl) (by show (!(decide (xi > 1000) || ((nd 8 xi xj [re p, re q, re u]).k == 0 || ((re p).k == 0 || (false && (.zero : Tm).k == 0))))) = true; rw [k6, k7] <;> kernel_rfl)]; exact leafS [I,I,O,O,O,O] hv (al k100 (al k101 (al (bneT k102) (al (bneT k103) (al s0 (al k6 (al k7 (al s1 (al s2 (al s3 an))))))))))
  rw [of_o k100 (by rw [hA, k101] <;> kernel_rfl) hC (by show (!(decide (xi > 1000) || ((nd 8 xi xj [re p, re q, re u]).k == 0 || ((re p).k == 0 || (false && (.zero : Tm).k == 0))))) = false; rw [k6, k7] <;> kernel_rfl)]; exact leafF [I,I,O,O,O,I] hv (al k100 (al k101 (al (bneT k102) (al (bneT k103) (al s0 (al k6 (al k7 an)))))))
 rw [of_o k100 (by rw [hA, k101] <;> kernel_rfl) hC (by show (!(decide (xi > 1000) || ((nd 8 xi xj [re p, re q, re u]).k == 0 || ((re p).k == 0 || (false && (.zero : Tm).k == 0))))) = false; rw [k6] <;> kernel_rfl)]; exact leafF [I,I,O,O,I] hv (al k100 (al k101 (al (bneT k102) (al (bneT k103) (al s0 (al k6 an))))))
set_option maxRecDepth 20000 in
set_option maxHeartbeats 4000000 in
theorem of8_any (c : List En) (n : Int) (e : Bool) (u v x : Tm) (i : Int) (hs : Sml c [⟨e, re u, re v, re x, i⟩]) {w : World} {A : Nat → Prop} {vs : List Value} (hv : F2 (ArgDen w A) (aOf c 8 n [⟨e, re u, re v, re x, i⟩]) vs) : Calls Try.prog 5 vs.toArray w (GivesO A (ofB c 8 n [⟨e, re u, re v, re x, i⟩]) w) := by
 have hA : allR c.length 8 0 [⟨e, re u, re v, re x, i⟩] = (rightJ ⟨e, re u, re v, re x, i⟩ ↑c.length && true) := by kernel_rfl
 have hC : concB c n 8 [⟨e, re u, re v, re x, i⟩] = if ((!e) && (((re x).k == 6) && (i == max (re x).i (re x).j))) = true then some ⟨false, nd 8 ((re x).i) ((re x).j) [kd (re x) 0, kd (re x) 1, re u], .zero, kd (re x) 0, (re x).i⟩ else none := by kernel_rfl
 obtain ⟨zu, zv, zx⟩ := hs.z
 cases e with
 | true =>
  apply bc (purC c) <;> intro k0
  ·rw [of_p k0]; exact leafF [O] hv (al k0 an)
  apply bc (rightJ ⟨true, re u, re v, re x, i⟩ ↑c.length) <;> intro k1
  ·rw [of_a (by rw [hA, k1] <;> kernel_rfl)]; exact leafF [I,O] hv (al k0 (al k1 an))
  have s0 : [re u].length ≤ 10 := Nat.le_of_ble_eq_true rfl
  rw [of_t k0 (by rw [hA, k1] <;> kernel_rfl) hC (by kernel_rfl)]; exact leafF [I,I] hv (al k0 (al k1 (al s0 an)))
 | false =>
  apply bc (purC c) <;> intro k2
  ·rw [of_p k2]; exact leafF [O] hv (al k2 an)
  apply bc (rightJ ⟨false, re u, re v, re x, i⟩ ↑c.length) <;> intro k3
  ·rw [of_a (by rw [hA, k3] <;> kernel_rfl)]; exact leafF [I,O] hv (al k2 (al k3 an))
  have s0 : [re u].length ≤ 10 := Nat.le_of_ble_eq_true rfl
  apply bd (((re x).k == 6)) <;> intro k4
  ·apply bd ((i == max (re x).i (re x).j)) <;> intro k5
   ·obtain ⟨p, q, hk⟩ := two_kids (t := re x) (right_u k3).2 (Or.inr (by simpa using k4))
    have hx : re x = .mk x.k x.i x.j x.n [re p, re q] := by
     have hk2 : x.kids = [p, q] := hk
     simp only [re_eq]
     rw [← hk2]
     exact x.eta.symm
    have H := of8kf_any c n u v i x.k x.i x.j x.n p q (by first | exact k2 | (rw [← hx]; exact k2)) (by first | exact k3 | (rw [← hx]; exact k3)) (by first | exact k4 | (rw [← hx]; exact k4)) (by first | exact k5 | (rw [← hx]; exact k5)) (A := A) (w := w) (vs := vs)
    rw [← hx] at H
    exact H hs hv
   rw [of_t k2 (by rw [hA, k3] <;> kernel_rfl) hC (by rw [k4, k5] <;> kernel_rfl)]; exact leafF [I,I,O,I] hv (al k2 (al k3 (al (bneT k4) (al (bneF k5) (al s0 an)))))
  rw [of_t k2 (by rw [hA, k3] <;> kernel_rfl) hC (by rw [k4] <;> kernel_rfl)]; exact leafF [I,I,I] hv (al k2 (al k3 (al (bneF k4) (al s0 an))))
set_option maxRecDepth 20000 in
set_option maxHeartbeats 4000000 in
theorem of9kf_any (c : List En) (n : Int) (u v : Tm) (i : Int) (xk xi xj xn : Int) (p q : Tm) (k100 : purC c = true) (k101 : rightJ { eq := false, u := re u, v := re v, a := Tm.mk xk xi xj xn [re p, re q], i := i } ↑c.length = true) (k102 : (xk == 6) = true) (k103 : (i == max xi xj) = true) (hs : Sml c [⟨false, re u, re v, .mk xk xi xj xn [re p, re q], i⟩]) {w : World} {A : Nat → Prop} {vs : List Value} (hv : F2 (ArgDen w A) (aOf c 9 n [⟨false, re u, re v, .mk xk xi xj xn [re p, re q], i⟩]) vs) : Calls Try.prog 5 vs.toArray w (GivesO A (ofB c 9 n [⟨false, re u, re v, .mk xk xi xj xn [re p, re q], i⟩]) w) := by
 have hA : allR c.length 9 0 [⟨false, re u, re v, .mk xk xi xj xn [re p, re q], i⟩] = (rightJ ⟨false, re u, re v, .mk xk xi xj xn [re p, re q], i⟩ ↑c.length && true) := by kernel_rfl
 have hC : concB c n 9 [⟨false, re u, re v, .mk xk xi xj xn [re p, re q], i⟩] = if ((!false) && ((xk == 6) && (i == max xi xj))) = true then some ⟨false, nd 9 xi xj [re p, re q, re u], .zero, (re q).putB (.mk 8 xi xj 0 [re p, re q, re u]), xj⟩ else none := by kernel_rfl
 have zu : (re u).size ≤ 1000 := (hs.js _ (List.mem_cons_self ..)).1
 have zx : (.mk xk xi xj xn [re p, re q] : Tm).size ≤ 1000 := (hs.js _ (List.mem_cons_self ..)).2.2
 rw [re_eq] at zu
 simp only [Tm.size, sizes, re_eq] at zx
 have hq : (re q).pureB = true := pure_kid (right_u k101).2 (by intro (h : xk = 12); rw [h] at k102; cases k102) (List.mem_cons_of_mem _ (List.mem_cons_self ..))
 have s0 : [re u].length ≤ 10 := Nat.le_of_ble_eq_true rfl
 have s1 : (re q).deep ≤ 100000 := by refine Nat.le_trans (deep_le_size _) ?_; (try simp only [re_eq]); (try simp only [Tm.size, sizes]); omega
 have s2 : (Tm.mk 8 xi xj 0 [re p, re q, re u]).deep ≤ 100000 := by refine Nat.le_trans (deep_le_size _) ?_; (try simp only [re_eq]); (try simp only [Tm.size, sizes]); omega
 have s3 : (Tm.mk 9 xi xj 0 [re p, re q, re u]).size ≤ 10000000 := by (try simp only [re_eq]); (try simp only [Tm.size, sizes]); omega
 have s4 : (Tm.mk 0 0 0 0 []).size ≤ 10000000 := by (try simp only [re_eq]); (try simp only [Tm.size, sizes]); omega
 have s5 : (re ((re q).putB (Tm.mk 8 xi xj 0 [re p, re q, re u]))).size ≤ 10000000 := by rw [re_eq]; exact putB_le hq (by (try simp only [re_eq]); (try simp only [Tm.size, sizes]); omega) (by (try simp only [re_eq]); (try simp only [Tm.size, sizes]); omega)
 apply bc (decide (xj > 1000)) <;> intro k6
 ·apply bc ((((re q).putB (Tm.mk 8 xi xj 0 [re p, re q, re u])).k == 0)) <;> intro k7
  ·rw [of_s k100 (by rw [hA, k101] <;> kernel_rfl) hC (by rw [k102, k103] <;> kernel_rfl) (by show (!(decide (xj > 1000) || ((nd 9 xi xj [re p, re q, re u]).k == 0 || (((re q).putB (.mk 8 xi xj 0 [re p, re q, re u])).k == 0 || (false && (.zero : Tm).k == 0))))) = true; rw [k6, k7] <;> kernel_rfl)]; exact leafS [I,I,O,O,O,O] hv (al k100 (al k101 (al (bneT k102) (al (bneT k103) (al s0 (al s0 (al s1 (al s2 (al k6 (al k7 (al s3 (al s4 (al s5 an)))))))))))))
  rw [of_o k100 (by rw [hA, k101] <;> kernel_rfl) hC (by show (!(decide (xj > 1000) || ((nd 9 xi xj [re p, re q, re u]).k == 0 || (((re q).putB (.mk 8 xi xj 0 [re p, re q, re u])).k == 0 || (false && (.zero : Tm).k == 0))))) = false; rw [k6, k7] <;> kernel_rfl)]; exact leafF [I,I,O,O,O,I] hv (al k100 (al k101 (al (bneT k102) (al (bneT k103) (al s0 (al s0 (al s1 (al s2 (al k6 (al k7 an))))))))))
 rw [of_o k100 (by rw [hA, k101] <;> kernel_rfl) hC (by show (!(decide (xj > 1000) || ((nd 9 xi xj [re p, re q, re u]).k == 0 || (((re q).putB (.mk 8 xi xj 0 [re p, re q, re u])).k == 0 || (false && (.zero : Tm).k == 0))))) = false; rw [k6] <;> kernel_rfl)]; exact leafF [I,I,O,O,I] hv (al k100 (al k101 (al (bneT k102) (al (bneT k103) (al s0 (al s0 (al s1 (al s2 (al k6 an)))))))))
set_option maxRecDepth 20000 in
set_option maxHeartbeats 4000000 in
theorem of9_any (c : List En) (n : Int) (e : Bool) (u v x : Tm) (i : Int) (hs : Sml c [⟨e, re u, re v, re x, i⟩]) {w : World} {A : Nat → Prop} {vs : List Value} (hv : F2 (ArgDen w A) (aOf c 9 n [⟨e, re u, re v, re x, i⟩]) vs) : Calls Try.prog 5 vs.toArray w (GivesO A (ofB c 9 n [⟨e, re u, re v, re x, i⟩]) w) := by
 have hA : allR c.length 9 0 [⟨e, re u, re v, re x, i⟩] = (rightJ ⟨e, re u, re v, re x, i⟩ ↑c.length && true) := by kernel_rfl
 have hC : concB c n 9 [⟨e, re u, re v, re x, i⟩] = if ((!e) && (((re x).k == 6) && (i == max (re x).i (re x).j))) = true then some ⟨false, nd 9 ((re x).i) ((re x).j) [kd (re x) 0, kd (re x) 1, re u], .zero, (kd (re x) 1).putB (.mk 8 ((re x).i) ((re x).j) 0 [kd (re x) 0, kd (re x) 1, re u]), (re x).j⟩ else none := by kernel_rfl
 obtain ⟨zu, zv, zx⟩ := hs.z
 cases e with
 | true =>
  apply bc (purC c) <;> intro k0
  ·rw [of_p k0]; exact leafF [O] hv (al k0 an)
  apply bc (rightJ ⟨true, re u, re v, re x, i⟩ ↑c.length) <;> intro k1
  ·rw [of_a (by rw [hA, k1] <;> kernel_rfl)]; exact leafF [I,O] hv (al k0 (al k1 an))
  have s0 : [re u].length ≤ 10 := Nat.le_of_ble_eq_true rfl
  have s1 : (Tm.mk 0 0 0 0 []).deep ≤ 100000 := by refine Nat.le_trans (deep_le_size _) ?_; (try simp only [re_eq]); (try simp only [Tm.size, sizes]); omega
  have s2 : (Tm.mk 8 0 0 0 [Tm.mk 0 0 0 0 [], Tm.mk 0 0 0 0 [], re u]).deep ≤ 100000 := by refine Nat.le_trans (deep_le_size _) ?_; (try simp only [re_eq]); (try simp only [Tm.size, sizes]); omega
  rw [of_t k0 (by rw [hA, k1] <;> kernel_rfl) hC (by kernel_rfl)]; exact leafF [I,I] hv (al k0 (al k1 (al s0 (al s0 (al s1 (al s2 an))))))
 | false =>
  apply bc (purC c) <;> intro k2
  ·rw [of_p k2]; exact leafF [O] hv (al k2 an)
  apply bc (rightJ ⟨false, re u, re v, re x, i⟩ ↑c.length) <;> intro k3
  ·rw [of_a (by rw [hA, k3] <;> kernel_rfl)]; exact leafF [I,O] hv (al k2 (al k3 an))
  have s0 : [re u].length ≤ 10 := Nat.le_of_ble_eq_true rfl
  have s1 : (Tm.mk 0 0 0 0 []).deep ≤ 100000 := by refine Nat.le_trans (deep_le_size _) ?_; (try simp only [re_eq]); (try simp only [Tm.size, sizes]); omega
  have s2 : (Tm.mk 8 0 0 0 [Tm.mk 0 0 0 0 [], Tm.mk 0 0 0 0 [], re u]).deep ≤ 100000 := by refine Nat.le_trans (deep_le_size _) ?_; (try simp only [re_eq]); (try simp only [Tm.size, sizes]); omega
  apply bd (((re x).k == 6)) <;> intro k4
  ·apply bd ((i == max (re x).i (re x).j)) <;> intro k5
   ·obtain ⟨p, q, hk⟩ := two_kids (t := re x) (right_u k3).2 (Or.inr (by simpa using k4))
    have hx : re x = .mk x.k x.i x.j x.n [re p, re q] := by
     have hk2 : x.kids = [p, q] := hk
     simp only [re_eq]
     rw [← hk2]
     exact x.eta.symm
    have H := of9kf_any c n u v i x.k x.i x.j x.n p q (by first | exact k2 | (rw [← hx]; exact k2)) (by first | exact k3 | (rw [← hx]; exact k3)) (by first | exact k4 | (rw [← hx]; exact k4)) (by first | exact k5 | (rw [← hx]; exact k5)) (A := A) (w := w) (vs := vs)
    rw [← hx] at H
    exact H hs hv
   rw [of_t k2 (by rw [hA, k3] <;> kernel_rfl) hC (by rw [k4, k5] <;> kernel_rfl)]; exact leafF [I,I,O,I] hv (al k2 (al k3 (al (bneT k4) (al (bneF k5) (al s0 (al s0 (al s1 (al s2 an))))))))
  rw [of_t k2 (by rw [hA, k3] <;> kernel_rfl) hC (by rw [k4] <;> kernel_rfl)]; exact leafF [I,I,I] hv (al k2 (al k3 (al (bneF k4) (al s0 (al s0 (al s1 (al s2 an)))))))
set_option maxRecDepth 20000 in
set_option maxHeartbeats 4000000 in
theorem of10_any (c : List En) (n : Int) (e : Bool) (u v x : Tm) (i : Int) (e2 : Bool) (u2 v2 x2 : Tm) (i2 : Int) (hs : Sml c [⟨e, re u, re v, re x, i⟩, ⟨e2, re u2, re v2, re x2, i2⟩]) {w : World} {A : Nat → Prop} {vs : List Value} (hv : F2 (ArgDen w A) (aOf c 10 n [⟨e, re u, re v, re x, i⟩, ⟨e2, re u2, re v2, re x2, i2⟩]) vs) : Calls Try.prog 5 vs.toArray w (GivesO A (ofB c 10 n [⟨e, re u, re v, re x, i⟩, ⟨e2, re u2, re v2, re x2, i2⟩]) w) := by
 have hA : allR c.length 10 0 [⟨e, re u, re v, re x, i⟩, ⟨e2, re u2, re v2, re x2, i2⟩] = (rightJ ⟨e, re u, re v, re x, i⟩ ↑c.length && (rightJ ⟨e2, re u2, re v2, re x2, i2⟩ ↑c.length && true)) := by kernel_rfl
 have hC : concB c n 10 [⟨e, re u, re v, re x, i⟩, ⟨e2, re u2, re v2, re x2, i2⟩] = if ((!e) && ((!e2) && ((i2 == i) && sameB (re x2) (re x)))) = true then some ⟨false, nd 10 i 0 [re x, re u, re u2], .zero, srt i, W64 (i + 1)⟩ else none := by kernel_rfl
 obtain ⟨zu, zv, zx⟩ := hs.z
 obtain ⟨zu2, zv2, zx2⟩ := hs.tl.z
 cases e with
 | true =>
  apply bc (purC c) <;> intro k0
  ·rw [of_p k0]; exact leafF [O] hv (al k0 an)
  apply bc (rightJ ⟨true, re u, re v, re x, i⟩ ↑c.length) <;> intro k1
  ·rw [of_a (by rw [hA, k1] <;> kernel_rfl)]; exact leafF [I,O] hv (al k0 (al k1 an))
  apply bc (rightJ ⟨e2, re u2, re v2, re x2, i2⟩ ↑c.length) <;> intro k2
  ·rw [of_a (by rw [hA, k1, k2] <;> kernel_rfl)]; exact leafF [I,I,O] hv (al k0 (al k1 (al k2 an)))
  have s0 : (Tm.mk 10 i 0 0 [re x, re u, re u2]).size ≤ 10000000 := by (try simp only [re_eq]); (try simp only [Tm.size, sizes]); omega
  have s1 : (Tm.mk 0 0 0 0 []).size ≤ 10000000 := by (try simp only [re_eq]); (try simp only [Tm.size, sizes]); omega
  have s2 : (Tm.mk 1 i 0 0 []).size ≤ 10000000 := by (try simp only [re_eq]); (try simp only [Tm.size, sizes]); omega
  rw [of_t k0 (by rw [hA, k1, k2] <;> kernel_rfl) hC (by kernel_rfl)]; exact leafF [I,I,I] hv (al k0 (al k1 (al k2 an)))
 | false =>
  cases e2 with
  | true =>
   apply bc (purC c) <;> intro k3
   ·rw [of_p k3]; exact leafF [O] hv (al k3 an)
   apply bc (rightJ ⟨false, re u, re v, re x, i⟩ ↑c.length) <;> intro k4
   ·rw [of_a (by rw [hA, k4] <;> kernel_rfl)]; exact leafF [I,O] hv (al k3 (al k4 an))
   apply bc (rightJ ⟨true, re u2, re v2, re x2, i2⟩ ↑c.length) <;> intro k5
   ·rw [of_a (by rw [hA, k4, k5] <;> kernel_rfl)]; exact leafF [I,I,O] hv (al k3 (al k4 (al k5 an)))
   have s0 : (Tm.mk 10 i 0 0 [re x, re u, re u2]).size ≤ 10000000 := by (try simp only [re_eq]); (try simp only [Tm.size, sizes]); omega
   have s1 : (Tm.mk 0 0 0 0 []).size ≤ 10000000 := by (try simp only [re_eq]); (try simp only [Tm.size, sizes]); omega
   have s2 : (Tm.mk 1 i 0 0 []).size ≤ 10000000 := by (try simp only [re_eq]); (try simp only [Tm.size, sizes]); omega
   rw [of_t k3 (by rw [hA, k4, k5] <;> kernel_rfl) hC (by kernel_rfl)]; exact leafF [I,I,I] hv (al k3 (al k4 (al k5 an)))
  | false =>
   apply bc (purC c) <;> intro k6
   ·rw [of_p k6]; exact leafF [O] hv (al k6 an)
   apply bc (rightJ ⟨false, re u, re v, re x, i⟩ ↑c.length) <;> intro k7
   ·rw [of_a (by rw [hA, k7] <;> kernel_rfl)]; exact leafF [I,O] hv (al k6 (al k7 an))
   apply bc (rightJ ⟨false, re u2, re v2, re x2, i2⟩ ↑c.length) <;> intro k8
   ·rw [of_a (by rw [hA, k7, k8] <;> kernel_rfl)]; exact leafF [I,I,O] hv (al k6 (al k7 (al k8 an)))
   have s0 : (Tm.mk 10 i 0 0 [re x, re u, re u2]).size ≤ 10000000 := by (try simp only [re_eq]); (try simp only [Tm.size, sizes]); omega
   have s1 : (Tm.mk 0 0 0 0 []).size ≤ 10000000 := by (try simp only [re_eq]); (try simp only [Tm.size, sizes]); omega
   have s2 : (Tm.mk 1 i 0 0 []).size ≤ 10000000 := by (try simp only [re_eq]); (try simp only [Tm.size, sizes]); omega
   apply bc ((i2 == i)) <;> intro k9
   ·rw [of_t k6 (by rw [hA, k7, k8] <;> kernel_rfl) hC (by rw [k9] <;> kernel_rfl)]; exact leafF [I,I,I,O] hv (al k6 (al k7 (al k8 (al k9 an))))
   apply bc (sameB (re x2) (re x)) <;> intro k10
   ·rw [of_t k6 (by rw [hA, k7, k8] <;> kernel_rfl) hC (by rw [k9, k10] <;> kernel_rfl)]; exact leafF [I,I,I,I,O] hv (al k6 (al k7 (al k8 (al k9 (al k10 an)))))
   apply bc (decide (IntKind.i64.wrap (i + 1) > 1000)) <;> intro k11
   ·rw [of_s k6 (by rw [hA, k7, k8] <;> kernel_rfl) hC (by rw [k9, k10] <;> kernel_rfl) (by show (!(decide (W64 (i + 1) > 1000) || ((nd 10 i 0 [re x, re u, re u2]).k == 0 || ((srt i).k == 0 || (false && (.zero : Tm).k == 0))))) = true; rw [k11] <;> kernel_rfl)]; exact leafS [I,I,I,I,I,O] hv (al k6 (al k7 (al k8 (al k9 (al k10 (al k11 (al s0 (al s1 (al s2 an)))))))))
   rw [of_o k6 (by rw [hA, k7, k8] <;> kernel_rfl) hC (by show (!(decide (W64 (i + 1) > 1000) || ((nd 10 i 0 [re x, re u, re u2]).k == 0 || ((srt i).k == 0 || (false && (.zero : Tm).k == 0))))) = false; rw [k11] <;> kernel_rfl)]; exact leafF [I,I,I,I,I,I] hv (al k6 (al k7 (al k8 (al k9 (al k10 (al k11 an))))))
set_option maxRecDepth 20000 in
set_option maxHeartbeats 4000000 in
theorem of11_any (c : List En) (n : Int) (e : Bool) (u v x : Tm) (i : Int) (hs : Sml c [⟨e, re u, re v, re x, i⟩]) {w : World} {A : Nat → Prop} {vs : List Value} (hv : F2 (ArgDen w A) (aOf c 11 n [⟨e, re u, re v, re x, i⟩]) vs) : Calls Try.prog 5 vs.toArray w (GivesO A (ofB c 11 n [⟨e, re u, re v, re x, i⟩]) w) := by
 have hA : allR c.length 11 0 [⟨e, re u, re v, re x, i⟩] = (rightJ ⟨e, re u, re v, re x, i⟩ ↑c.length && true) := by kernel_rfl
 have hC : concB c n 11 [⟨e, re u, re v, re x, i⟩] = if (!e) = true then some ⟨false, nd 11 i 0 [re x, re u], .zero, nd 10 i 0 [re x, re u, re u], i⟩ else none := by kernel_rfl
 obtain ⟨zu, zv, zx⟩ := hs.z
 cases e with
 | true =>
  apply bc (purC c) <;> intro k0
  ·rw [of_p k0]; exact leafF [O] hv (al k0 an)
  apply bc (rightJ ⟨true, re u, re v, re x, i⟩ ↑c.length) <;> intro k1
  ·rw [of_a (by rw [hA, k1] <;> kernel_rfl)]; exact leafF [I,O] hv (al k0 (al k1 an))
  have s0 : (Tm.mk 11 i 0 0 [re x, re u]).size ≤ 10000000 := by (try simp only [re_eq]); (try simp only [Tm.size, sizes]); omega
  have s1 : (Tm.mk 0 0 0 0 []).size ≤ 10000000 := by (try simp only [re_eq]); (try simp only [Tm.size, sizes]); omega
  have s2 : (Tm.mk 10 i 0 0 [re x, re u, re u]).size ≤ 10000000 := by (try simp only [re_eq]); (try simp only [Tm.size, sizes]); omega
  rw [of_t k0 (by rw [hA, k1] <;> kernel_rfl) hC (by kernel_rfl)]; exact leafF [I,I] hv (al k0 (al k1 an))
 | false =>
  apply bc (purC c) <;> intro k2
  ·rw [of_p k2]; exact leafF [O] hv (al k2 an)
  apply bc (rightJ ⟨false, re u, re v, re x, i⟩ ↑c.length) <;> intro k3
  ·rw [of_a (by rw [hA, k3] <;> kernel_rfl)]; exact leafF [I,O] hv (al k2 (al k3 an))
  have s0 : (Tm.mk 11 i 0 0 [re x, re u]).size ≤ 10000000 := by (try simp only [re_eq]); (try simp only [Tm.size, sizes]); omega
  have s1 : (Tm.mk 0 0 0 0 []).size ≤ 10000000 := by (try simp only [re_eq]); (try simp only [Tm.size, sizes]); omega
  have s2 : (Tm.mk 10 i 0 0 [re x, re u, re u]).size ≤ 10000000 := by (try simp only [re_eq]); (try simp only [Tm.size, sizes]); omega
  apply bc (decide (i > 1000)) <;> intro k4
  ·rw [of_s k2 (by rw [hA, k3] <;> kernel_rfl) hC (by kernel_rfl) (by show (!(decide (i > 1000) || ((nd 11 i 0 [re x, re u]).k == 0 || ((nd 10 i 0 [re x, re u, re u]).k == 0 || (false && (.zero : Tm).k == 0))))) = true; rw [k4] <;> kernel_rfl)]; exact leafS [I,I,O] hv (al k2 (al k3 (al k4 (al s0 (al s1 (al s2 an))))))
  rw [of_o k2 (by rw [hA, k3] <;> kernel_rfl) hC (by show (!(decide (i > 1000) || ((nd 11 i 0 [re x, re u]).k == 0 || ((nd 10 i 0 [re x, re u, re u]).k == 0 || (false && (.zero : Tm).k == 0))))) = false; rw [k4] <;> kernel_rfl)]; exact leafF [I,I,I] hv (al k2 (al k3 (al k4 an)))
set_option maxRecDepth 20000 in
set_option maxHeartbeats 4000000 in
theorem of12_any (c : List En) (n : Int) (e : Bool) (u v x : Tm) (i : Int) (e2 : Bool) (u2 v2 x2 : Tm) (i2 : Int) (hs : Sml c [⟨e, re u, re v, re x, i⟩, ⟨e2, re u2, re v2, re x2, i2⟩]) {w : World} {A : Nat → Prop} {vs : List Value} (hv : F2 (ArgDen w A) (aOf c 12 n [⟨e, re u, re v, re x, i⟩, ⟨e2, re u2, re v2, re x2, i2⟩]) vs) : Calls Try.prog 5 vs.toArray w (GivesO A (ofB c 12 n [⟨e, re u, re v, re x, i⟩, ⟨e2, re u2, re v2, re x2, i2⟩]) w) := by
 have hA : allR c.length 12 0 [⟨e, re u, re v, re x, i⟩, ⟨e2, re u2, re v2, re x2, i2⟩] = (rightJ ⟨e, re u, re v, re x, i⟩ ↑c.length && (rightJ ⟨e2, re u2, re v2, re x2, i2⟩ ↑c.length && true)) := by kernel_rfl
 have hC : concB c n 12 [⟨e, re u, re v, re x, i⟩, ⟨e2, re u2, re v2, re x2, i2⟩] = if ((!e) && ((e2 && (((re x2).k == 1) && (i2 == W64 ((re x2).i + 1)))) && (((re x2).i == i) && sameB (re x) (re u2)))) = true then some ⟨false, re u, .zero, re v2, i⟩ else none := by kernel_rfl
 obtain ⟨zu, zv, zx⟩ := hs.z
 obtain ⟨zu2, zv2, zx2⟩ := hs.tl.z
 cases e with
 | true =>
  apply bc (purC c) <;> intro k0
  ·rw [of_p k0]; exact leafF [O] hv (al k0 an)
  apply bc (rightJ ⟨true, re u, re v, re x, i⟩ ↑c.length) <;> intro k1
  ·rw [of_a (by rw [hA, k1] <;> kernel_rfl)]; exact leafF [I,O] hv (al k0 (al k1 an))
  apply bc (rightJ ⟨e2, re u2, re v2, re x2, i2⟩ ↑c.length) <;> intro k2
  ·rw [of_a (by rw [hA, k1, k2] <;> kernel_rfl)]; exact leafF [I,I,O] hv (al k0 (al k1 (al k2 an)))
  have s0 : (re u).size ≤ 10000000 := sz1 zu
  have s1 : (Tm.mk 0 0 0 0 []).size ≤ 10000000 := by (try simp only [re_eq]); (try simp only [Tm.size, sizes]); omega
  have s2 : (re v2).size ≤ 10000000 := sz1 zv2
  rw [of_t k0 (by rw [hA, k1, k2] <;> kernel_rfl) hC (by kernel_rfl)]; exact leafF [I,I,I] hv (al k0 (al k1 (al k2 an)))
 | false =>
  cases e2 with
  | true =>
   apply bc (purC c) <;> intro k3
   ·rw [of_p k3]; exact leafF [O] hv (al k3 an)
   apply bc (rightJ ⟨false, re u, re v, re x, i⟩ ↑c.length) <;> intro k4
   ·rw [of_a (by rw [hA, k4] <;> kernel_rfl)]; exact leafF [I,O] hv (al k3 (al k4 an))
   apply bc (rightJ ⟨true, re u2, re v2, re x2, i2⟩ ↑c.length) <;> intro k5
   ·rw [of_a (by rw [hA, k4, k5] <;> kernel_rfl)]; exact leafF [I,I,O] hv (al k3 (al k4 (al k5 an)))
   have s0 : (re u).size ≤ 10000000 := sz1 zu
   have s1 : (Tm.mk 0 0 0 0 []).size ≤ 10000000 := by (try simp only [re_eq]); (try simp only [Tm.size, sizes]); omega
   have s2 : (re v2).size ≤ 10000000 := sz1 zv2
   apply bc (((re x2).k == 1)) <;> intro k6
   ·rw [of_t k3 (by rw [hA, k4, k5] <;> kernel_rfl) hC (by rw [k6] <;> kernel_rfl)]; exact leafF [I,I,I,O] hv (al k3 (al k4 (al k5 (al k6 an))))
   apply bc ((i2 == IntKind.i64.wrap ((re x2).i + 1))) <;> intro k7
   ·rw [of_t k3 (by rw [hA, k4, k5] <;> kernel_rfl) hC (by rw [k6, k7] <;> kernel_rfl)]; exact leafF [I,I,I,I,O] hv (al k3 (al k4 (al k5 (al k6 (al k7 an)))))
   apply bc (((re x2).i == i)) <;> intro k8
   ·rw [of_t k3 (by rw [hA, k4, k5] <;> kernel_rfl) hC (by rw [k6, k7, k8] <;> kernel_rfl)]; exact leafF [I,I,I,I,I,O] hv (al k3 (al k4 (al k5 (al k6 (al k7 (al k8 an))))))
   apply bc (sameB (re x) (re u2)) <;> intro k9
   ·rw [of_t k3 (by rw [hA, k4, k5] <;> kernel_rfl) hC (by rw [k6, k7, k8, k9] <;> kernel_rfl)]; exact leafF [I,I,I,I,I,I,O] hv (al k3 (al k4 (al k5 (al k6 (al k7 (al k8 (al k9 an)))))))
   apply bc (decide (i > 1000)) <;> intro k10
   ·apply bc (((re u).k == 0)) <;> intro k11
    ·apply bc (((re v2).k == 0)) <;> intro k12
     ·rw [of_s k3 (by rw [hA, k4, k5] <;> kernel_rfl) hC (by rw [k6, k7, k8, k9] <;> kernel_rfl) (by show (!(decide (i > 1000) || ((re u).k == 0 || ((re v2).k == 0 || (false && (.zero : Tm).k == 0))))) = true; rw [k10, k11, k12] <;> kernel_rfl)]; exact leafS [I,I,I,I,I,I,I,O,O,O] hv (al k3 (al k4 (al k5 (al k6 (al k7 (al k8 (al k9 (al k10 (al k11 (al k12 (al s0 (al s1 (al s2 an)))))))))))))
     rw [of_o k3 (by rw [hA, k4, k5] <;> kernel_rfl) hC (by show (!(decide (i > 1000) || ((re u).k == 0 || ((re v2).k == 0 || (false && (.zero : Tm).k == 0))))) = false; rw [k10, k11, k12] <;> kernel_rfl)]; exact leafF [I,I,I,I,I,I,I,O,O,I] hv (al k3 (al k4 (al k5 (al k6 (al k7 (al k8 (al k9 (al k10 (al k11 (al k12 an))))))))))
    rw [of_o k3 (by rw [hA, k4, k5] <;> kernel_rfl) hC (by show (!(decide (i > 1000) || ((re u).k == 0 || ((re v2).k == 0 || (false && (.zero : Tm).k == 0))))) = false; rw [k10, k11] <;> kernel_rfl)]; exact leafF [I,I,I,I,I,I,I,O,I] hv (al k3 (al k4 (al k5 (al k6 (al k7 (al k8 (al k9 (al k10 (al k11 an)))))))))
   rw [of_o k3 (by rw [hA, k4, k5] <;> kernel_rfl) hC (by show (!(decide (i > 1000) || ((re u).k == 0 || ((re v2).k == 0 || (false && (.zero : Tm).k == 0))))) = false; rw [k10] <;> kernel_rfl)]; exact leafF [I,I,I,I,I,I,I,I] hv (al k3 (al k4 (al k5 (al k6 (al k7 (al k8 (al k9 (al k10 an))))))))
  | false =>
   apply bc (purC c) <;> intro k13
   ·rw [of_p k13]; exact leafF [O] hv (al k13 an)
   apply bc (rightJ ⟨false, re u, re v, re x, i⟩ ↑c.length) <;> intro k14
   ·rw [of_a (by rw [hA, k14] <;> kernel_rfl)]; exact leafF [I,O] hv (al k13 (al k14 an))
   apply bc (rightJ ⟨false, re u2, re v2, re x2, i2⟩ ↑c.length) <;> intro k15
   ·rw [of_a (by rw [hA, k14, k15] <;> kernel_rfl)]; exact leafF [I,I,O] hv (al k13 (al k14 (al k15 an)))
   have s0 : (re u).size ≤ 10000000 := sz1 zu
   have s1 : (Tm.mk 0 0 0 0 []).size ≤ 10000000 := by (try simp only [re_eq]); (try simp only [Tm.size, sizes]); omega
   have s2 : (re v2).size ≤ 10000000 := sz1 zv2
   rw [of_t k13 (by rw [hA, k14, k15] <;> kernel_rfl) hC (by kernel_rfl)]; exact leafF [I,I,I] hv (al k13 (al k14 (al k15 an)))
set_option maxRecDepth 20000 in
set_option maxHeartbeats 4000000 in
theorem of13_any (c : List En) (n : Int) (e : Bool) (u v x : Tm) (i : Int) (hs : Sml c [⟨e, re u, re v, re x, i⟩]) {w : World} {A : Nat → Prop} {vs : List Value} (hv : F2 (ArgDen w A) (aOf c 13 n [⟨e, re u, re v, re x, i⟩]) vs) : Calls Try.prog 5 vs.toArray w (GivesO A (ofB c 13 n [⟨e, re u, re v, re x, i⟩]) w) := by
 have hA : allR c.length 13 0 [⟨e, re u, re v, re x, i⟩] = (rightJ ⟨e, re u, re v, re x, i⟩ ↑c.length && true) := by kernel_rfl
 have hC : concB c n 13 [⟨e, re u, re v, re x, i⟩] = if (!e) = true then some ⟨true, re u, re u, re x, i⟩ else none := by kernel_rfl
 obtain ⟨zu, zv, zx⟩ := hs.z
 cases e with
 | true =>
  apply bc (purC c) <;> intro k0
  ·rw [of_p k0]; exact leafF [O] hv (al k0 an)
  apply bc (rightJ ⟨true, re u, re v, re x, i⟩ ↑c.length) <;> intro k1
  ·rw [of_a (by rw [hA, k1] <;> kernel_rfl)]; exact leafF [I,O] hv (al k0 (al k1 an))
  have s0 : (re u).size ≤ 10000000 := sz1 zu
  have s1 : (re x).size ≤ 10000000 := sz1 zx
  rw [of_t k0 (by rw [hA, k1] <;> kernel_rfl) hC (by kernel_rfl)]; exact leafF [I,I] hv (al k0 (al k1 an))
 | false =>
  apply bc (purC c) <;> intro k2
  ·rw [of_p k2]; exact leafF [O] hv (al k2 an)
  apply bc (rightJ ⟨false, re u, re v, re x, i⟩ ↑c.length) <;> intro k3
  ·rw [of_a (by rw [hA, k3] <;> kernel_rfl)]; exact leafF [I,O] hv (al k2 (al k3 an))
  have s0 : (re u).size ≤ 10000000 := sz1 zu
  have s1 : (re x).size ≤ 10000000 := sz1 zx
  apply bc (decide (i > 1000)) <;> intro k4
  ·apply bc (((re u).k == 0)) <;> intro k5
   ·apply bc (((re x).k == 0)) <;> intro k6
    ·rw [of_s k2 (by rw [hA, k3] <;> kernel_rfl) hC (by kernel_rfl) (by show (!(decide (i > 1000) || ((re u).k == 0 || ((re x).k == 0 || (true && (re u).k == 0))))) = true; rw [k4, k5, k6] <;> kernel_rfl)]; exact leafS [I,I,O,O,O,O] hv (al k2 (al k3 (al k4 (al k5 (al k6 (al k5 (al s0 (al s0 (al s1 an)))))))))
    rw [of_o k2 (by rw [hA, k3] <;> kernel_rfl) hC (by show (!(decide (i > 1000) || ((re u).k == 0 || ((re x).k == 0 || (true && (re u).k == 0))))) = false; rw [k4, k5, k6] <;> kernel_rfl)]; exact leafF [I,I,O,O,I] hv (al k2 (al k3 (al k4 (al k5 (al k6 an)))))
   rw [of_o k2 (by rw [hA, k3] <;> kernel_rfl) hC (by show (!(decide (i > 1000) || ((re u).k == 0 || ((re x).k == 0 || (true && (re u).k == 0))))) = false; rw [k4, k5] <;> kernel_rfl)]; exact leafF [I,I,O,I] hv (al k2 (al k3 (al k4 (al k5 an))))
  rw [of_o k2 (by rw [hA, k3] <;> kernel_rfl) hC (by show (!(decide (i > 1000) || ((re u).k == 0 || ((re x).k == 0 || (true && (re u).k == 0))))) = false; rw [k4] <;> kernel_rfl)]; exact leafF [I,I,I] hv (al k2 (al k3 (al k4 an)))
end Go.Proofs.Ytmicgbdcbjajiaa.Se
namespace Go.Proofs.Ytmicgbdcbjajiaa.Se
open Go Go.RowKit
set_option maxRecDepth 20000 in
set_option maxHeartbeats 4000000 in
theorem of14_any (c : List En) (n : Int) (e : Bool) (u v x : Tm) (i : Int) (hs : Sml c [⟨e, re u, re v, re x, i⟩]) {w : World} {A : Nat → Prop} {vs : List Value} (hv : F2 (ArgDen w A) (aOf c 14 n [⟨e, re u, re v, re x, i⟩]) vs) : Calls Try.prog 5 vs.toArray w (GivesO A (ofB c 14 n [⟨e, re u, re v, re x, i⟩]) w) := by
 have hA : allR c.length 14 0 [⟨e, re u, re v, re x, i⟩] = (rightJ ⟨e, re u, re v, re x, i⟩ ↑c.length && true) := by kernel_rfl
 have hC : concB c n 14 [⟨e, re u, re v, re x, i⟩] = if e = true then some ⟨true, re v, re u, re x, i⟩ else none := by kernel_rfl
 obtain ⟨zu, zv, zx⟩ := hs.z
 cases e with
 | true =>
  apply bc (purC c) <;> intro k0
  ·rw [of_p k0]; exact leafF [O] hv (al k0 an)
  apply bc (rightJ ⟨true, re u, re v, re x, i⟩ ↑c.length) <;> intro k1
  ·rw [of_a (by rw [hA, k1] <;> kernel_rfl)]; exact leafF [I,O] hv (al k0 (al k1 an))
  have s0 : (re v).size ≤ 10000000 := sz1 zv
  have s1 : (re u).size ≤ 10000000 := sz1 zu
  have s2 : (re x).size ≤ 10000000 := sz1 zx
  apply bc (decide (i > 1000)) <;> intro k2
  ·apply bc (((re v).k == 0)) <;> intro k3
   ·apply bc (((re x).k == 0)) <;> intro k4
    ·apply bc (((re u).k == 0)) <;> intro k5
     ·rw [of_s k0 (by rw [hA, k1] <;> kernel_rfl) hC (by kernel_rfl) (by show (!(decide (i > 1000) || ((re v).k == 0 || ((re x).k == 0 || (true && (re u).k == 0))))) = true; rw [k2, k3, k4, k5] <;> kernel_rfl)]; exact leafS [I,I,O,O,O,O] hv (al k0 (al k1 (al k2 (al k3 (al k4 (al k5 (al s0 (al s1 (al s2 an)))))))))
     rw [of_o k0 (by rw [hA, k1] <;> kernel_rfl) hC (by show (!(decide (i > 1000) || ((re v).k == 0 || ((re x).k == 0 || (true && (re u).k == 0))))) = false; rw [k2, k3, k4, k5] <;> kernel_rfl)]; exact leafF [I,I,O,O,O,I] hv (al k0 (al k1 (al k2 (al k3 (al k4 (al k5 an))))))
    rw [of_o k0 (by rw [hA, k1] <;> kernel_rfl) hC (by show (!(decide (i > 1000) || ((re v).k == 0 || ((re x).k == 0 || (true && (re u).k == 0))))) = false; rw [k2, k3, k4] <;> kernel_rfl)]; exact leafF [I,I,O,O,I] hv (al k0 (al k1 (al k2 (al k3 (al k4 an)))))
   rw [of_o k0 (by rw [hA, k1] <;> kernel_rfl) hC (by show (!(decide (i > 1000) || ((re v).k == 0 || ((re x).k == 0 || (true && (re u).k == 0))))) = false; rw [k2, k3] <;> kernel_rfl)]; exact leafF [I,I,O,I] hv (al k0 (al k1 (al k2 (al k3 an))))
  rw [of_o k0 (by rw [hA, k1] <;> kernel_rfl) hC (by show (!(decide (i > 1000) || ((re v).k == 0 || ((re x).k == 0 || (true && (re u).k == 0))))) = false; rw [k2] <;> kernel_rfl)]; exact leafF [I,I,I] hv (al k0 (al k1 (al k2 an)))
 | false =>
  apply bc (purC c) <;> intro k6
  ·rw [of_p k6]; exact leafF [O] hv (al k6 an)
  apply bc (rightJ ⟨false, re u, re v, re x, i⟩ ↑c.length) <;> intro k7
  ·rw [of_a (by rw [hA, k7] <;> kernel_rfl)]; exact leafF [I,O] hv (al k6 (al k7 an))
  have s0 : (re v).size ≤ 10000000 := sz1 zv
  have s1 : (re u).size ≤ 10000000 := sz1 zu
  have s2 : (re x).size ≤ 10000000 := sz1 zx
  rw [of_t k6 (by rw [hA, k7] <;> kernel_rfl) hC (by kernel_rfl)]; exact leafF [I,I] hv (al k6 (al k7 an))
set_option maxRecDepth 20000 in
set_option maxHeartbeats 4000000 in
theorem of15_any (c : List En) (n : Int) (e : Bool) (u v x : Tm) (i : Int) (e2 : Bool) (u2 v2 x2 : Tm) (i2 : Int) (hs : Sml c [⟨e, re u, re v, re x, i⟩, ⟨e2, re u2, re v2, re x2, i2⟩]) {w : World} {A : Nat → Prop} {vs : List Value} (hv : F2 (ArgDen w A) (aOf c 15 n [⟨e, re u, re v, re x, i⟩, ⟨e2, re u2, re v2, re x2, i2⟩]) vs) : Calls Try.prog 5 vs.toArray w (GivesO A (ofB c 15 n [⟨e, re u, re v, re x, i⟩, ⟨e2, re u2, re v2, re x2, i2⟩]) w) := by
 have hA : allR c.length 15 0 [⟨e, re u, re v, re x, i⟩, ⟨e2, re u2, re v2, re x2, i2⟩] = (rightJ ⟨e, re u, re v, re x, i⟩ ↑c.length && (rightJ ⟨e2, re u2, re v2, re x2, i2⟩ ↑c.length && true)) := by kernel_rfl
 have hC : concB c n 15 [⟨e, re u, re v, re x, i⟩, ⟨e2, re u2, re v2, re x2, i2⟩] = if (e && (e2 && ((i == i2) && (sameB (re v) (re u2) && sameB (re x) (re x2))))) = true then some ⟨true, re u, re v2, re x, i⟩ else none := by kernel_rfl
 obtain ⟨zu, zv, zx⟩ := hs.z
 obtain ⟨zu2, zv2, zx2⟩ := hs.tl.z
 cases e with
 | true =>
  cases e2 with
  | true =>
   apply bc (purC c) <;> intro k0
   ·rw [of_p k0]; exact leafF [O] hv (al k0 an)
   apply bc (rightJ ⟨true, re u, re v, re x, i⟩ ↑c.length) <;> intro k1
   ·rw [of_a (by rw [hA, k1] <;> kernel_rfl)]; exact leafF [I,O] hv (al k0 (al k1 an))
   apply bc (rightJ ⟨true, re u2, re v2, re x2, i2⟩ ↑c.length) <;> intro k2
   ·rw [of_a (by rw [hA, k1, k2] <;> kernel_rfl)]; exact leafF [I,I,O] hv (al k0 (al k1 (al k2 an)))
   have s0 : (re u).size ≤ 10000000 := sz1 zu
   have s1 : (re v2).size ≤ 10000000 := sz1 zv2
   have s2 : (re x).size ≤ 10000000 := sz1 zx
   apply bc ((i == i2)) <;> intro k3
   ·rw [of_t k0 (by rw [hA, k1, k2] <;> kernel_rfl) hC (by rw [k3] <;> kernel_rfl)]; exact leafF [I,I,I,O] hv (al k0 (al k1 (al k2 (al k3 an))))
   apply bc (sameB (re v) (re u2)) <;> intro k4
   ·rw [of_t k0 (by rw [hA, k1, k2] <;> kernel_rfl) hC (by rw [k3, k4] <;> kernel_rfl)]; exact leafF [I,I,I,I,O] hv (al k0 (al k1 (al k2 (al k3 (al k4 an)))))
   apply bc (sameB (re x) (re x2)) <;> intro k5
   ·rw [of_t k0 (by rw [hA, k1, k2] <;> kernel_rfl) hC (by rw [k3, k4, k5] <;> kernel_rfl)]; exact leafF [I,I,I,I,I,O] hv (al k0 (al k1 (al k2 (al k3 (al k4 (al k5 an))))))
   apply bc (decide (i > 1000)) <;> intro k6
   ·apply bc (((re u).k == 0)) <;> intro k7
    ·apply bc (((re x).k == 0)) <;> intro k8
     ·apply bc (((re v2).k == 0)) <;> intro k9
      ·rw [of_s k0 (by rw [hA, k1, k2] <;> kernel_rfl) hC (by rw [k3, k4, k5] <;> kernel_rfl) (by show (!(decide (i > 1000) || ((re u).k == 0 || ((re x).k == 0 || (true && (re v2).k == 0))))) = true; rw [k6, k7, k8, k9] <;> kernel_rfl)]; exact leafS [I,I,I,I,I,I,O,O,O,O] hv (al k0 (al k1 (al k2 (al k3 (al k4 (al k5 (al k6 (al k7 (al k8 (al k9 (al s0 (al s1 (al s2 an)))))))))))))
      rw [of_o k0 (by rw [hA, k1, k2] <;> kernel_rfl) hC (by show (!(decide (i > 1000) || ((re u).k == 0 || ((re x).k == 0 || (true && (re v2).k == 0))))) = false; rw [k6, k7, k8, k9] <;> kernel_rfl)]; exact leafF [I,I,I,I,I,I,O,O,O,I] hv (al k0 (al k1 (al k2 (al k3 (al k4 (al k5 (al k6 (al k7 (al k8 (al k9 an))))))))))
     rw [of_o k0 (by rw [hA, k1, k2] <;> kernel_rfl) hC (by show (!(decide (i > 1000) || ((re u).k == 0 || ((re x).k == 0 || (true && (re v2).k == 0))))) = false; rw [k6, k7, k8] <;> kernel_rfl)]; exact leafF [I,I,I,I,I,I,O,O,I] hv (al k0 (al k1 (al k2 (al k3 (al k4 (al k5 (al k6 (al k7 (al k8 an)))))))))
    rw [of_o k0 (by rw [hA, k1, k2] <;> kernel_rfl) hC (by show (!(decide (i > 1000) || ((re u).k == 0 || ((re x).k == 0 || (true && (re v2).k == 0))))) = false; rw [k6, k7] <;> kernel_rfl)]; exact leafF [I,I,I,I,I,I,O,I] hv (al k0 (al k1 (al k2 (al k3 (al k4 (al k5 (al k6 (al k7 an))))))))
   rw [of_o k0 (by rw [hA, k1, k2] <;> kernel_rfl) hC (by show (!(decide (i > 1000) || ((re u).k == 0 || ((re x).k == 0 || (true && (re v2).k == 0))))) = false; rw [k6] <;> kernel_rfl)]; exact leafF [I,I,I,I,I,I,I] hv (al k0 (al k1 (al k2 (al k3 (al k4 (al k5 (al k6 an)))))))
  | false =>
   apply bc (purC c) <;> intro k10
   ·rw [of_p k10]; exact leafF [O] hv (al k10 an)
   apply bc (rightJ ⟨true, re u, re v, re x, i⟩ ↑c.length) <;> intro k11
   ·rw [of_a (by rw [hA, k11] <;> kernel_rfl)]; exact leafF [I,O] hv (al k10 (al k11 an))
   apply bc (rightJ ⟨false, re u2, re v2, re x2, i2⟩ ↑c.length) <;> intro k12
   ·rw [of_a (by rw [hA, k11, k12] <;> kernel_rfl)]; exact leafF [I,I,O] hv (al k10 (al k11 (al k12 an)))
   have s0 : (re u).size ≤ 10000000 := sz1 zu
   have s1 : (re v2).size ≤ 10000000 := sz1 zv2
   have s2 : (re x).size ≤ 10000000 := sz1 zx
   rw [of_t k10 (by rw [hA, k11, k12] <;> kernel_rfl) hC (by kernel_rfl)]; exact leafF [I,I,I] hv (al k10 (al k11 (al k12 an)))
 | false =>
  apply bc (purC c) <;> intro k13
  ·rw [of_p k13]; exact leafF [O] hv (al k13 an)
  apply bc (rightJ ⟨false, re u, re v, re x, i⟩ ↑c.length) <;> intro k14
  ·rw [of_a (by rw [hA, k14] <;> kernel_rfl)]; exact leafF [I,O] hv (al k13 (al k14 an))
  apply bc (rightJ ⟨e2, re u2, re v2, re x2, i2⟩ ↑c.length) <;> intro k15
  ·rw [of_a (by rw [hA, k14, k15] <;> kernel_rfl)]; exact leafF [I,I,O] hv (al k13 (al k14 (al k15 an)))
  have s0 : (re u).size ≤ 10000000 := sz1 zu
  have s1 : (re v2).size ≤ 10000000 := sz1 zv2
  have s2 : (re x).size ≤ 10000000 := sz1 zx
  rw [of_t k13 (by rw [hA, k14, k15] <;> kernel_rfl) hC (by kernel_rfl)]; exact leafF [I,I,I] hv (al k13 (al k14 (al k15 an)))
set_option maxRecDepth 20000 in
set_option maxHeartbeats 4000000 in
theorem of16_any (c : List En) (n : Int) (e : Bool) (u v x : Tm) (i : Int) (e2 : Bool) (u2 v2 x2 : Tm) (i2 : Int) (hs : Sml c [⟨e, re u, re v, re x, i⟩, ⟨e2, re u2, re v2, re x2, i2⟩]) {w : World} {A : Nat → Prop} {vs : List Value} (hv : F2 (ArgDen w A) (aOf c 16 n [⟨e, re u, re v, re x, i⟩, ⟨e2, re u2, re v2, re x2, i2⟩]) vs) : Calls Try.prog 5 vs.toArray w (GivesO A (ofB c 16 n [⟨e, re u, re v, re x, i⟩, ⟨e2, re u2, re v2, re x2, i2⟩]) w) := by
 have hA : allR c.length 16 0 [⟨e, re u, re v, re x, i⟩, ⟨e2, re u2, re v2, re x2, i2⟩] = (rightJ ⟨e, re u, re v, re x, i⟩ ↑c.length && (rightJ ⟨e2, re u2, re v2, re x2, i2⟩ ↑c.length && true)) := by kernel_rfl
 have hC : concB c n 16 [⟨e, re u, re v, re x, i⟩, ⟨e2, re u2, re v2, re x2, i2⟩] = if (e && ((e2 && (((re x2).k == 1) && (i2 == W64 ((re x2).i + 1)))) && (((re x2).i == i) && sameB (re x) (re u2)))) = true then some ⟨true, re u, re v, re v2, i⟩ else none := by kernel_rfl
 obtain ⟨zu, zv, zx⟩ := hs.z
 obtain ⟨zu2, zv2, zx2⟩ := hs.tl.z
 cases e with
 | true =>
  cases e2 with
  | true =>
   apply bc (purC c) <;> intro k0
   ·rw [of_p k0]; exact leafF [O] hv (al k0 an)
   apply bc (rightJ ⟨true, re u, re v, re x, i⟩ ↑c.length) <;> intro k1
   ·rw [of_a (by rw [hA, k1] <;> kernel_rfl)]; exact leafF [I,O] hv (al k0 (al k1 an))
   apply bc (rightJ ⟨true, re u2, re v2, re x2, i2⟩ ↑c.length) <;> intro k2
   ·rw [of_a (by rw [hA, k1, k2] <;> kernel_rfl)]; exact leafF [I,I,O] hv (al k0 (al k1 (al k2 an)))
   have s0 : (re u).size ≤ 10000000 := sz1 zu
   have s1 : (re v).size ≤ 10000000 := sz1 zv
   have s2 : (re v2).size ≤ 10000000 := sz1 zv2
   apply bc (((re x2).k == 1)) <;> intro k3
   ·rw [of_t k0 (by rw [hA, k1, k2] <;> kernel_rfl) hC (by rw [k3] <;> kernel_rfl)]; exact leafF [I,I,I,O] hv (al k0 (al k1 (al k2 (al k3 an))))
   apply bc ((i2 == IntKind.i64.wrap ((re x2).i + 1))) <;> intro k4
   ·rw [of_t k0 (by rw [hA, k1, k2] <;> kernel_rfl) hC (by rw [k3, k4] <;> kernel_rfl)]; exact leafF [I,I,I,I,O] hv (al k0 (al k1 (al k2 (al k3 (al k4 an)))))
   apply bc (((re x2).i == i)) <;> intro k5
   ·rw [of_t k0 (by rw [hA, k1, k2] <;> kernel_rfl) hC (by rw [k3, k4, k5] <;> kernel_rfl)]; exact leafF [I,I,I,I,I,O] hv (al k0 (al k1 (al k2 (al k3 (al k4 (al k5 an))))))
   apply bc (sameB (re x) (re u2)) <;> intro k6
   ·rw [of_t k0 (by rw [hA, k1, k2] <;> kernel_rfl) hC (by rw [k3, k4, k5, k6] <;> kernel_rfl)]; exact leafF [I,I,I,I,I,I,O] hv (al k0 (al k1 (al k2 (al k3 (al k4 (al k5 (al k6 an)))))))
   apply bc (decide (i > 1000)) <;> intro k7
   ·apply bc (((re u).k == 0)) <;> intro k8
    ·apply bc (((re v2).k == 0)) <;> intro k9
     ·apply bc (((re v).k == 0)) <;> intro k10
      ·rw [of_s k0 (by rw [hA, k1, k2] <;> kernel_rfl) hC (by rw [k3, k4, k5, k6] <;> kernel_rfl) (by show (!(decide (i > 1000) || ((re u).k == 0 || ((re v2).k == 0 || (true && (re v).k == 0))))) = true; rw [k7, k8, k9, k10] <;> kernel_rfl)]; exact leafS [I,I,I,I,I,I,I,O,O,O,O] hv (al k0 (al k1 (al k2 (al k3 (al k4 (al k5 (al k6 (al k7 (al k8 (al k9 (al k10 (al s0 (al s1 (al s2 an))))))))))))))
      rw [of_o k0 (by rw [hA, k1, k2] <;> kernel_rfl) hC (by show (!(decide (i > 1000) || ((re u).k == 0 || ((re v2).k == 0 || (true && (re v).k == 0))))) = false; rw [k7, k8, k9, k10] <;> kernel_rfl)]; exact leafF [I,I,I,I,I,I,I,O,O,O,I] hv (al k0 (al k1 (al k2 (al k3 (al k4 (al k5 (al k6 (al k7 (al k8 (al k9 (al k10 an)))))))))))
     rw [of_o k0 (by rw [hA, k1, k2] <;> kernel_rfl) hC (by show (!(decide (i > 1000) || ((re u).k == 0 || ((re v2).k == 0 || (true && (re v).k == 0))))) = false; rw [k7, k8, k9] <;> kernel_rfl)]; exact leafF [I,I,I,I,I,I,I,O,O,I] hv (al k0 (al k1 (al k2 (al k3 (al k4 (al k5 (al k6 (al k7 (al k8 (al k9 an))))))))))
    rw [of_o k0 (by rw [hA, k1, k2] <;> kernel_rfl) hC (by show (!(decide (i > 1000) || ((re u).k == 0 || ((re v2).k == 0 || (true && (re v).k == 0))))) = false; rw [k7, k8] <;> kernel_rfl)]; exact leafF [I,I,I,I,I,I,I,O,I] hv (al k0 (al k1 (al k2 (al k3 (al k4 (al k5 (al k6 (al k7 (al k8 an)))))))))
   rw [of_o k0 (by rw [hA, k1, k2] <;> kernel_rfl) hC (by show (!(decide (i > 1000) || ((re u).k == 0 || ((re v2).k == 0 || (true && (re v).k == 0))))) = false; rw [k7] <;> kernel_rfl)]; exact leafF [I,I,I,I,I,I,I,I] hv (al k0 (al k1 (al k2 (al k3 (al k4 (al k5 (al k6 (al k7 an))))))))
  | false =>
   apply bc (purC c) <;> intro k11
   ·rw [of_p k11]; exact leafF [O] hv (al k11 an)
   apply bc (rightJ ⟨true, re u, re v, re x, i⟩ ↑c.length) <;> intro k12
   ·rw [of_a (by rw [hA, k12] <;> kernel_rfl)]; exact leafF [I,O] hv (al k11 (al k12 an))
   apply bc (rightJ ⟨false, re u2, re v2, re x2, i2⟩ ↑c.length) <;> intro k13
   ·rw [of_a (by rw [hA, k12, k13] <;> kernel_rfl)]; exact leafF [I,I,O] hv (al k11 (al k12 (al k13 an)))
   have s0 : (re u).size ≤ 10000000 := sz1 zu
   have s1 : (re v).size ≤ 10000000 := sz1 zv
   have s2 : (re v2).size ≤ 10000000 := sz1 zv2
   rw [of_t k11 (by rw [hA, k12, k13] <;> kernel_rfl) hC (by kernel_rfl)]; exact leafF [I,I,I] hv (al k11 (al k12 (al k13 an)))
 | false =>
  apply bc (purC c) <;> intro k14
  ·rw [of_p k14]; exact leafF [O] hv (al k14 an)
  apply bc (rightJ ⟨false, re u, re v, re x, i⟩ ↑c.length) <;> intro k15
  ·rw [of_a (by rw [hA, k15] <;> kernel_rfl)]; exact leafF [I,O] hv (al k14 (al k15 an))
  apply bc (rightJ ⟨e2, re u2, re v2, re x2, i2⟩ ↑c.length) <;> intro k16
  ·rw [of_a (by rw [hA, k15, k16] <;> kernel_rfl)]; exact leafF [I,I,O] hv (al k14 (al k15 (al k16 an)))
  have s0 : (re u).size ≤ 10000000 := sz1 zu
  have s1 : (re v).size ≤ 10000000 := sz1 zv
  have s2 : (re v2).size ≤ 10000000 := sz1 zv2
  rw [of_t k14 (by rw [hA, k15, k16] <;> kernel_rfl) hC (by kernel_rfl)]; exact leafF [I,I,I] hv (al k14 (al k15 (al k16 an)))
set_option maxRecDepth 20000 in
set_option maxHeartbeats 4000000 in
theorem of17kf_any (c : List En) (n : Int) (u v : Tm) (i : Int) (xk xi xj xn : Int) (p q s : Tm) (k100 : purC c = true) (k101 : rightJ { eq := false, u := re u, v := re v, a := Tm.mk xk xi xj xn [re p, re q, re s], i := i } ↑c.length = true) (k102 : (xk == 10) = true) (k103 : (xi == i) = true) (hs : Sml c [⟨false, re u, re v, .mk xk xi xj xn [re p, re q, re s], i⟩]) {w : World} {A : Nat → Prop} {vs : List Value} (hv : F2 (ArgDen w A) (aOf c 17 n [⟨false, re u, re v, .mk xk xi xj xn [re p, re q, re s], i⟩]) vs) : Calls Try.prog 5 vs.toArray w (GivesO A (ofB c 17 n [⟨false, re u, re v, .mk xk xi xj xn [re p, re q, re s], i⟩]) w) := by
 have hA : allR c.length 17 0 [⟨false, re u, re v, .mk xk xi xj xn [re p, re q, re s], i⟩] = (rightJ ⟨false, re u, re v, .mk xk xi xj xn [re p, re q, re s], i⟩ ↑c.length && true) := by kernel_rfl
 have hC : concB c n 17 [⟨false, re u, re v, .mk xk xi xj xn [re p, re q, re s], i⟩] = if ((!false) && ((xk == 10) && (xi == i))) = true then some ⟨true, re q, re s, re p, i⟩ else none := by kernel_rfl
 have zu : (re u).size ≤ 1000 := (hs.js _ (List.mem_cons_self ..)).1
 have zx : (.mk xk xi xj xn [re p, re q, re s] : Tm).size ≤ 1000 := (hs.js _ (List.mem_cons_self ..)).2.2
 rw [re_eq] at zu
 simp only [Tm.size, sizes, re_eq] at zx
 have s0 : (re q).size ≤ 10000000 := by (try simp only [re_eq]); (try simp only [Tm.size, sizes]); omega
 have s1 : (re s).size ≤ 10000000 := by (try simp only [re_eq]); (try simp only [Tm.size, sizes]); omega
 have s2 : (re p).size ≤ 10000000 := by (try simp only [re_eq]); (try simp only [Tm.size, sizes]); omega
 apply bc (decide (i > 1000)) <;> intro k6
 ·apply bc (((re q).k == 0)) <;> intro k7
  ·apply bc (((re p).k == 0)) <;> intro k8
   ·apply bc (((re s).k == 0)) <;> intro k9
    ·rw [of_s k100 (by rw [hA, k101] <;> kernel_rfl) hC (by rw [k102, k103] <;> kernel_rfl) (by show (!(decide (i > 1000) || ((re q).k == 0 || ((re p).k == 0 || (true && (re s).k == 0))))) = true; rw [k6, k7, k8, k9] <;> kernel_rfl)]; exact leafS [I,I,I,I,O,O,O,O] hv (al k100 (al k101 (al k102 (al k103 (al k6 (al k7 (al k8 (al k9 (al s0 (al s1 (al s2 an)))))))))))
    rw [of_o k100 (by rw [hA, k101] <;> kernel_rfl) hC (by show (!(decide (i > 1000) || ((re q).k == 0 || ((re p).k == 0 || (true && (re s).k == 0))))) = false; rw [k6, k7, k8, k9] <;> kernel_rfl)]; exact leafF [I,I,I,I,O,O,O,I] hv (al k100 (al k101 (al k102 (al k103 (al k6 (al k7 (al k8 (al k9 an))))))))
   rw [of_o k100 (by rw [hA, k101] <;> kernel_rfl) hC (by show (!(decide (i > 1000) || ((re q).k == 0 || ((re p).k == 0 || (true && (re s).k == 0))))) = false; rw [k6, k7, k8] <;> kernel_rfl)]; exact leafF [I,I,I,I,O,O,I] hv (al k100 (al k101 (al k102 (al k103 (al k6 (al k7 (al k8 an)))))))
  rw [of_o k100 (by rw [hA, k101] <;> kernel_rfl) hC (by show (!(decide (i > 1000) || ((re q).k == 0 || ((re p).k == 0 || (true && (re s).k == 0))))) = false; rw [k6, k7] <;> kernel_rfl)]; exact leafF [I,I,I,I,O,I] hv (al k100 (al k101 (al k102 (al k103 (al k6 (al k7 an))))))
 rw [of_o k100 (by rw [hA, k101] <;> kernel_rfl) hC (by show (!(decide (i > 1000) || ((re q).k == 0 || ((re p).k == 0 || (true && (re s).k == 0))))) = false; rw [k6] <;> kernel_rfl)]; exact leafF [I,I,I,I,I] hv (al k100 (al k101 (al k102 (al k103 (al k6 an)))))
set_option maxRecDepth 20000 in
set_option maxHeartbeats 4000000 in
theorem of17_any (c : List En) (n : Int) (e : Bool) (u v x : Tm) (i : Int) (hs : Sml c [⟨e, re u, re v, re x, i⟩]) {w : World} {A : Nat → Prop} {vs : List Value} (hv : F2 (ArgDen w A) (aOf c 17 n [⟨e, re u, re v, re x, i⟩]) vs) : Calls Try.prog 5 vs.toArray w (GivesO A (ofB c 17 n [⟨e, re u, re v, re x, i⟩]) w) := by
 have hA : allR c.length 17 0 [⟨e, re u, re v, re x, i⟩] = (rightJ ⟨e, re u, re v, re x, i⟩ ↑c.length && true) := by kernel_rfl
 have hC : concB c n 17 [⟨e, re u, re v, re x, i⟩] = if ((!e) && (((re x).k == 10) && ((re x).i == i))) = true then some ⟨true, kd (re x) 1, kd (re x) 2, kd (re x) 0, i⟩ else none := by kernel_rfl
 obtain ⟨zu, zv, zx⟩ := hs.z
 cases e with
 | true =>
  apply bc (purC c) <;> intro k0
  ·rw [of_p k0]; exact leafF [O] hv (al k0 an)
  apply bc (rightJ ⟨true, re u, re v, re x, i⟩ ↑c.length) <;> intro k1
  ·rw [of_a (by rw [hA, k1] <;> kernel_rfl)]; exact leafF [I,O] hv (al k0 (al k1 an))
  rw [of_t k0 (by rw [hA, k1] <;> kernel_rfl) hC (by kernel_rfl)]; exact leafF [I,I] hv (al k0 (al k1 an))
 | false =>
  apply bc (purC c) <;> intro k2
  ·rw [of_p k2]; exact leafF [O] hv (al k2 an)
  apply bc (rightJ ⟨false, re u, re v, re x, i⟩ ↑c.length) <;> intro k3
  ·rw [of_a (by rw [hA, k3] <;> kernel_rfl)]; exact leafF [I,O] hv (al k2 (al k3 an))
  apply bd (((re x).k == 10)) <;> intro k4
  ·apply bd (((re x).i == i)) <;> intro k5
   ·obtain ⟨p, q, s, hk⟩ := three_kids (t := re x) (right_u k3).2 (by simpa using k4)
    have hx : re x = .mk x.k x.i x.j x.n [re p, re q, re s] := by
     have hk2 : x.kids = [p, q, s] := hk
     simp only [re_eq]
     rw [← hk2]
     exact x.eta.symm
    have H := of17kf_any c n u v i x.k x.i x.j x.n p q s (by first | exact k2 | (rw [← hx]; exact k2)) (by first | exact k3 | (rw [← hx]; exact k3)) (by first | exact k4 | (rw [← hx]; exact k4)) (by first | exact k5 | (rw [← hx]; exact k5)) (A := A) (w := w) (vs := vs)
    rw [← hx] at H
    exact H hs hv
   rw [of_t k2 (by rw [hA, k3] <;> kernel_rfl) hC (by rw [k4, k5] <;> kernel_rfl)]; exact leafF [I,I,I,O] hv (al k2 (al k3 (al k4 (al k5 an))))
  rw [of_t k2 (by rw [hA, k3] <;> kernel_rfl) hC (by rw [k4] <;> kernel_rfl)]; exact leafF [I,I,O] hv (al k2 (al k3 (al k4 an)))
set_option maxRecDepth 20000 in
set_option maxHeartbeats 4000000 in
theorem of18_any (c : List En) (n : Int) (e : Bool) (u v x : Tm) (i : Int) (e2 : Bool) (u2 v2 x2 : Tm) (i2 : Int) (hs : Sml c [⟨e, re u, re v, re x, i⟩, ⟨e2, re u2, re v2, re x2, i2⟩]) {w : World} {A : Nat → Prop} {vs : List Value} (hv : F2 (ArgDen w A) (aOf c 18 n [⟨e, re u, re v, re x, i⟩, ⟨e2, re u2, re v2, re x2, i2⟩]) vs) : Calls Try.prog 5 vs.toArray w (GivesO A (ofB c 18 n [⟨e, re u, re v, re x, i⟩, ⟨e2, re u2, re v2, re x2, i2⟩]) w) := by
 have hA : allR c.length 18 0 [⟨e, re u, re v, re x, i⟩, ⟨e2, re u2, re v2, re x2, i2⟩] = (rightJ ⟨e, re u, re v, re x, i⟩ ↑c.length && (rightJ ⟨e2, re u2, re v2, re x2, i2⟩ (IntKind.i64.wrap (↑c.length + 1)) && true)) := by kernel_rfl
 have hC : concB c n 18 [⟨e, re u, re v, re x, i⟩, ⟨e2, re u2, re v2, re x2, i2⟩] = if ((!e) && (!e2)) = true then some ⟨true, nd 5 i i2 [re x, re x2, nd 4 i i2 [re x, re x2, re u2], re u], (re u2).putB (re u), (re x2).putB (re u), i2⟩ else none := by kernel_rfl
 obtain ⟨zu, zv, zx⟩ := hs.z
 obtain ⟨zu2, zv2, zx2⟩ := hs.tl.z
 cases e with
 | true =>
  apply bc (purC c) <;> intro k0
  ·rw [of_p k0]; exact leafF [O] hv (al k0 an)
  apply bc (rightJ ⟨true, re u, re v, re x, i⟩ ↑c.length) <;> intro k1
  ·rw [of_a (by rw [hA, k1] <;> kernel_rfl)]; exact leafF [I,O] hv (al k0 (al k1 an))
  apply bc (rightJ ⟨e2, re u2, re v2, re x2, i2⟩ (IntKind.i64.wrap (↑c.length + 1))) <;> intro k2
  ·rw [of_a (by rw [hA, k1, k2] <;> kernel_rfl)]; exact leafF [I,I,O] hv (al k0 (al k1 (al k2 an)))
  have s0 : [re u2].length ≤ 10 := Nat.le_of_ble_eq_true rfl
  have s1 : [Tm.mk 4 i i2 0 [re x, re x2, re u2], re u].length ≤ 10 := Nat.le_of_ble_eq_true rfl
  have s2 : (re u2).deep ≤ 100000 := by refine Nat.le_trans (deep_le_size _) ?_; (try simp only [re_eq]); (try simp only [Tm.size, sizes]); omega
  have s3 : (re u).deep ≤ 100000 := by refine Nat.le_trans (deep_le_size _) ?_; (try simp only [re_eq]); (try simp only [Tm.size, sizes]); omega
  have s4 : (re x2).deep ≤ 100000 := by refine Nat.le_trans (deep_le_size _) ?_; (try simp only [re_eq]); (try simp only [Tm.size, sizes]); omega
  have s5 : (Tm.mk 5 i i2 0 [re x, re x2, Tm.mk 4 i i2 0 [re x, re x2, re u2], re u]).size ≤ 10000000 := by (try simp only [re_eq]); (try simp only [Tm.size, sizes]); omega
  have s6 : (re ((re u2).putB (re u))).size ≤ 10000000 := by rw [re_eq]; exact putB_le (right_u k2).1 (by (try simp only [re_eq]); (try simp only [Tm.size, sizes]); omega) (by (try simp only [re_eq]); (try simp only [Tm.size, sizes]); omega)
  have s7 : (re ((re x2).putB (re u))).size ≤ 10000000 := by rw [re_eq]; exact putB_le (right_u k2).2 (by (try simp only [re_eq]); (try simp only [Tm.size, sizes]); omega) (by (try simp only [re_eq]); (try simp only [Tm.size, sizes]); omega)
  rw [of_t k0 (by rw [hA, k1, k2] <;> kernel_rfl) hC (by kernel_rfl)]; exact leafF [I,I,I] hv (al k0 (al k1 (al k2 (al s0 (al s1 (al s2 (al s3 (al s4 (al s3 an)))))))))
 | false =>
  cases e2 with
  | true =>
   apply bc (purC c) <;> intro k3
   ·rw [of_p k3]; exact leafF [O] hv (al k3 an)
   apply bc (rightJ ⟨false, re u, re v, re x, i⟩ ↑c.length) <;> intro k4
   ·rw [of_a (by rw [hA, k4] <;> kernel_rfl)]; exact leafF [I,O] hv (al k3 (al k4 an))
   apply bc (rightJ ⟨true, re u2, re v2, re x2, i2⟩ (IntKind.i64.wrap (↑c.length + 1))) <;> intro k5
   ·rw [of_a (by rw [hA, k4, k5] <;> kernel_rfl)]; exact leafF [I,I,O] hv (al k3 (al k4 (al k5 an)))
   have s0 : [re u2].length ≤ 10 := Nat.le_of_ble_eq_true rfl
   have s1 : [Tm.mk 4 i i2 0 [re x, re x2, re u2], re u].length ≤ 10 := Nat.le_of_ble_eq_true rfl
   have s2 : (re u2).deep ≤ 100000 := by refine Nat.le_trans (deep_le_size _) ?_; (try simp only [re_eq]); (try simp only [Tm.size, sizes]); omega
   have s3 : (re u).deep ≤ 100000 := by refine Nat.le_trans (deep_le_size _) ?_; (try simp only [re_eq]); (try simp only [Tm.size, sizes]); omega
   have s4 : (re x2).deep ≤ 100000 := by refine Nat.le_trans (deep_le_size _) ?_; (try simp only [re_eq]); (try simp only [Tm.size, sizes]); omega
   have s5 : (Tm.mk 5 i i2 0 [re x, re x2, Tm.mk 4 i i2 0 [re x, re x2, re u2], re u]).size ≤ 10000000 := by (try simp only [re_eq]); (try simp only [Tm.size, sizes]); omega
   have s6 : (re ((re u2).putB (re u))).size ≤ 10000000 := by rw [re_eq]; exact putB_le (right_u k5).1 (by (try simp only [re_eq]); (try simp only [Tm.size, sizes]); omega) (by (try simp only [re_eq]); (try simp only [Tm.size, sizes]); omega)
   have s7 : (re ((re x2).putB (re u))).size ≤ 10000000 := by rw [re_eq]; exact putB_le (right_u k5).2 (by (try simp only [re_eq]); (try simp only [Tm.size, sizes]); omega) (by (try simp only [re_eq]); (try simp only [Tm.size, sizes]); omega)
   rw [of_t k3 (by rw [hA, k4, k5] <;> kernel_rfl) hC (by kernel_rfl)]; exact leafF [I,I,I] hv (al k3 (al k4 (al k5 (al s0 (al s1 (al s2 (al s3 (al s4 (al s3 an)))))))))
  | false =>
   apply bc (purC c) <;> intro k6
   ·rw [of_p k6]; exact leafF [O] hv (al k6 an)
   apply bc (rightJ ⟨false, re u, re v, re x, i⟩ ↑c.length) <;> intro k7
   ·rw [of_a (by rw [hA, k7] <;> kernel_rfl)]; exact leafF [I,O] hv (al k6 (al k7 an))
   apply bc (rightJ ⟨false, re u2, re v2, re x2, i2⟩ (IntKind.i64.wrap (↑c.length + 1))) <;> intro k8
   ·rw [of_a (by rw [hA, k7, k8] <;> kernel_rfl)]; exact leafF [I,I,O] hv (al k6 (al k7 (al k8 an)))
   have s0 : [re u2].length ≤ 10 := Nat.le_of_ble_eq_true rfl
   have s1 : [Tm.mk 4 i i2 0 [re x, re x2, re u2], re u].length ≤ 10 := Nat.le_of_ble_eq_true rfl
   have s2 : (re u2).deep ≤ 100000 := by refine Nat.le_trans (deep_le_size _) ?_; (try simp only [re_eq]); (try simp only [Tm.size, sizes]); omega
   have s3 : (re u).deep ≤ 100000 := by refine Nat.le_trans (deep_le_size _) ?_; (try simp only [re_eq]); (try simp only [Tm.size, sizes]); omega
   have s4 : (re x2).deep ≤ 100000 := by refine Nat.le_trans (deep_le_size _) ?_; (try simp only [re_eq]); (try simp only [Tm.size, sizes]); omega
   have s5 : (Tm.mk 5 i i2 0 [re x, re x2, Tm.mk 4 i i2 0 [re x, re x2, re u2], re u]).size ≤ 10000000 := by (try simp only [re_eq]); (try simp only [Tm.size, sizes]); omega
   have s6 : (re ((re u2).putB (re u))).size ≤ 10000000 := by rw [re_eq]; exact putB_le (right_u k8).1 (by (try simp only [re_eq]); (try simp only [Tm.size, sizes]); omega) (by (try simp only [re_eq]); (try simp only [Tm.size, sizes]); omega)
   have s7 : (re ((re x2).putB (re u))).size ≤ 10000000 := by rw [re_eq]; exact putB_le (right_u k8).2 (by (try simp only [re_eq]); (try simp only [Tm.size, sizes]); omega) (by (try simp only [re_eq]); (try simp only [Tm.size, sizes]); omega)
   apply bc (decide (i2 > 1000)) <;> intro k9
   ·apply bc ((((re x2).putB (re u)).k == 0)) <;> intro k10
    ·apply bc ((((re u2).putB (re u)).k == 0)) <;> intro k11
     ·rw [of_s k6 (by rw [hA, k7, k8] <;> kernel_rfl) hC (by kernel_rfl) (by show (!(decide (i2 > 1000) || ((nd 5 i i2 [re x, re x2, nd 4 i i2 [re x, re x2, re u2], re u]).k == 0 || (((re x2).putB (re u)).k == 0 || (true && ((re u2).putB (re u)).k == 0))))) = true; rw [k9, k10, k11] <;> kernel_rfl)]; exact leafS [I,I,I,O,O,O] hv (al k6 (al k7 (al k8 (al s0 (al s1 (al s2 (al s3 (al s4 (al s3 (al k9 (al k10 (al k11 (al s5 (al s6 (al s7 an)))))))))))))))
     rw [of_o k6 (by rw [hA, k7, k8] <;> kernel_rfl) hC (by show (!(decide (i2 > 1000) || ((nd 5 i i2 [re x, re x2, nd 4 i i2 [re x, re x2, re u2], re u]).k == 0 || (((re x2).putB (re u)).k == 0 || (true && ((re u2).putB (re u)).k == 0))))) = false; rw [k9, k10, k11] <;> kernel_rfl)]; exact leafF [I,I,I,O,O,I] hv (al k6 (al k7 (al k8 (al s0 (al s1 (al s2 (al s3 (al s4 (al s3 (al k9 (al k10 (al k11 an))))))))))))
    rw [of_o k6 (by rw [hA, k7, k8] <;> kernel_rfl) hC (by show (!(decide (i2 > 1000) || ((nd 5 i i2 [re x, re x2, nd 4 i i2 [re x, re x2, re u2], re u]).k == 0 || (((re x2).putB (re u)).k == 0 || (true && ((re u2).putB (re u)).k == 0))))) = false; rw [k9, k10] <;> kernel_rfl)]; exact leafF [I,I,I,O,I] hv (al k6 (al k7 (al k8 (al s0 (al s1 (al s2 (al s3 (al s4 (al s3 (al k9 (al k10 an)))))))))))
   rw [of_o k6 (by rw [hA, k7, k8] <;> kernel_rfl) hC (by show (!(decide (i2 > 1000) || ((nd 5 i i2 [re x, re x2, nd 4 i i2 [re x, re x2, re u2], re u]).k == 0 || (((re x2).putB (re u)).k == 0 || (true && ((re u2).putB (re u)).k == 0))))) = false; rw [k9] <;> kernel_rfl)]; exact leafF [I,I,I,I] hv (al k6 (al k7 (al k8 (al s0 (al s1 (al s2 (al s3 (al s4 (al s3 (al k9 an))))))))))
set_option maxRecDepth 20000 in
set_option maxHeartbeats 4000000 in
theorem of19_any (c : List En) (n : Int) (e : Bool) (u v x : Tm) (i : Int) (e2 : Bool) (u2 v2 x2 : Tm) (i2 : Int) (e3 : Bool) (u3 v3 x3 : Tm) (i3 : Int) (hs : Sml c [⟨e, re u, re v, re x, i⟩, ⟨e2, re u2, re v2, re x2, i2⟩, ⟨e3, re u3, re v3, re x3, i3⟩]) {w : World} {A : Nat → Prop} {vs : List Value} (hv : F2 (ArgDen w A) (aOf c 19 n [⟨e, re u, re v, re x, i⟩, ⟨e2, re u2, re v2, re x2, i2⟩, ⟨e3, re u3, re v3, re x3, i3⟩]) vs) : Calls Try.prog 5 vs.toArray w (GivesO A (ofB c 19 n [⟨e, re u, re v, re x, i⟩, ⟨e2, re u2, re v2, re x2, i2⟩, ⟨e3, re u3, re v3, re x3, i3⟩]) w) := by
 have hA : allR c.length 19 0 [⟨e, re u, re v, re x, i⟩, ⟨e2, re u2, re v2, re x2, i2⟩, ⟨e3, re u3, re v3, re x3, i3⟩] = (rightJ ⟨e, re u, re v, re x, i⟩ ↑c.length && (rightJ ⟨e2, re u2, re v2, re x2, i2⟩ (IntKind.i64.wrap (↑c.length + 1)) && (rightJ ⟨e3, re u3, re v3, re x3, i3⟩ ↑c.length && true))) := by kernel_rfl
 have hC : concB c n 19 [⟨e, re u, re v, re x, i⟩, ⟨e2, re u2, re v2, re x2, i2⟩, ⟨e3, re u3, re v3, re x3, i3⟩] = if ((((!e2) && (((re x2).k == 1) && (i2 == W64 ((re x2).i + 1)))) && (!e)) && ((!e3) && ((i3 == (re x2).i) && sameB (re x3) ((re u2).putB (re u))))) = true then some ⟨true, nd 8 i ((re x2).i) [re x, re u2, nd 7 i ((re x2).i) [re x, re u2, re u, re u3]], re u, re x, i⟩ else none := by kernel_rfl
 obtain ⟨zu, zv, zx⟩ := hs.z
 obtain ⟨zu2, zv2, zx2⟩ := hs.tl.z
 obtain ⟨zu3, zv3, zx3⟩ := hs.tl.tl.z
 cases e with
 | true =>
  cases e2 with
  | true =>
   apply bc (purC c) <;> intro k0
   ·rw [of_p k0]; exact leafF [O] hv (al k0 an)
   apply bc (rightJ ⟨true, re u, re v, re x, i⟩ ↑c.length) <;> intro k1
   ·rw [of_a (by rw [hA, k1] <;> kernel_rfl)]; exact leafF [I,O] hv (al k0 (al k1 an))
   apply bc (rightJ ⟨true, re u2, re v2, re x2, i2⟩ (IntKind.i64.wrap (↑c.length + 1))) <;> intro k2
   ·rw [of_a (by rw [hA, k1, k2] <;> kernel_rfl)]; exact leafF [I,I,O] hv (al k0 (al k1 (al k2 an)))
   apply bc (rightJ ⟨e3, re u3, re v3, re x3, i3⟩ ↑c.length) <;> intro k3
   ·rw [of_a (by rw [hA, k1, k2, k3] <;> kernel_rfl)]; exact leafF [I,I,I,O] hv (al k0 (al k1 (al k2 (al k3 an))))
   have s0 : [re u, re u3].length ≤ 10 := Nat.le_of_ble_eq_true rfl
   have s1 : [Tm.mk 7 i (re x2).i 0 [re x, re u2, re u, re u3]].length ≤ 10 := Nat.le_of_ble_eq_true rfl
   have s2 : (re u2).deep ≤ 100000 := by refine Nat.le_trans (deep_le_size _) ?_; (try simp only [re_eq]); (try simp only [Tm.size, sizes]); omega
   have s3 : (re u).deep ≤ 100000 := by refine Nat.le_trans (deep_le_size _) ?_; (try simp only [re_eq]); (try simp only [Tm.size, sizes]); omega
   have s4 : (Tm.mk 8 i (re x2).i 0 [re x, re u2, Tm.mk 7 i (re x2).i 0 [re x, re u2, re u, re u3]]).size ≤ 10000000 := by (try simp only [re_eq]); (try simp only [Tm.size, sizes]); omega
   have s5 : (re u).size ≤ 10000000 := sz1 zu
   have s6 : (re x).size ≤ 10000000 := sz1 zx
   rw [of_t k0 (by rw [hA, k1, k2, k3] <;> kernel_rfl) hC (by kernel_rfl)]; exact leafF [I,I,I,I] hv (al k0 (al k1 (al k2 (al k3 (al s0 (al s1 an))))))
  | false =>
   apply bc (purC c) <;> intro k4
   ·rw [of_p k4]; exact leafF [O] hv (al k4 an)
   apply bc (rightJ ⟨true, re u, re v, re x, i⟩ ↑c.length) <;> intro k5
   ·rw [of_a (by rw [hA, k5] <;> kernel_rfl)]; exact leafF [I,O] hv (al k4 (al k5 an))
   apply bc (rightJ ⟨false, re u2, re v2, re x2, i2⟩ (IntKind.i64.wrap (↑c.length + 1))) <;> intro k6
   ·rw [of_a (by rw [hA, k5, k6] <;> kernel_rfl)]; exact leafF [I,I,O] hv (al k4 (al k5 (al k6 an)))
   apply bc (rightJ ⟨e3, re u3, re v3, re x3, i3⟩ ↑c.length) <;> intro k7
   ·rw [of_a (by rw [hA, k5, k6, k7] <;> kernel_rfl)]; exact leafF [I,I,I,O] hv (al k4 (al k5 (al k6 (al k7 an))))
   have s0 : [re u, re u3].length ≤ 10 := Nat.le_of_ble_eq_true rfl
   have s1 : [Tm.mk 7 i (re x2).i 0 [re x, re u2, re u, re u3]].length ≤ 10 := Nat.le_of_ble_eq_true rfl
   have s2 : (re u2).deep ≤ 100000 := by refine Nat.le_trans (deep_le_size _) ?_; (try simp only [re_eq]); (try simp only [Tm.size, sizes]); omega
   have s3 : (re u).deep ≤ 100000 := by refine Nat.le_trans (deep_le_size _) ?_; (try simp only [re_eq]); (try simp only [Tm.size, sizes]); omega
   have s4 : (Tm.mk 8 i (re x2).i 0 [re x, re u2, Tm.mk 7 i (re x2).i 0 [re x, re u2, re u, re u3]]).size ≤ 10000000 := by (try simp only [re_eq]); (try simp only [Tm.size, sizes]); omega
   have s5 : (re u).size ≤ 10000000 := sz1 zu
   have s6 : (re x).size ≤ 10000000 := sz1 zx
   apply bc (((re x2).k == 1)) <;> intro k8
   ·rw [of_t k4 (by rw [hA, k5, k6, k7] <;> kernel_rfl) hC (by rw [k8] <;> kernel_rfl)]; exact leafF [I,I,I,I,O] hv (al k4 (al k5 (al k6 (al k7 (al k8 (al s0 (al s1 an)))))))
   apply bc ((i2 == IntKind.i64.wrap ((re x2).i + 1))) <;> intro k9
   ·rw [of_t k4 (by rw [hA, k5, k6, k7] <;> kernel_rfl) hC (by rw [k8, k9] <;> kernel_rfl)]; exact leafF [I,I,I,I,I,O] hv (al k4 (al k5 (al k6 (al k7 (al k8 (al k9 (al s0 (al s1 an))))))))
   rw [of_t k4 (by rw [hA, k5, k6, k7] <;> kernel_rfl) hC (by rw [k8, k9] <;> kernel_rfl)]; exact leafF [I,I,I,I,I,I] hv (al k4 (al k5 (al k6 (al k7 (al k8 (al k9 (al s0 (al s1 an))))))))
 | false =>
  cases e2 with
  | true =>
   apply bc (purC c) <;> intro k10
   ·rw [of_p k10]; exact leafF [O] hv (al k10 an)
   apply bc (rightJ ⟨false, re u, re v, re x, i⟩ ↑c.length) <;> intro k11
   ·rw [of_a (by rw [hA, k11] <;> kernel_rfl)]; exact leafF [I,O] hv (al k10 (al k11 an))
   apply bc (rightJ ⟨true, re u2, re v2, re x2, i2⟩ (IntKind.i64.wrap (↑c.length + 1))) <;> intro k12
   ·rw [of_a (by rw [hA, k11, k12] <;> kernel_rfl)]; exact leafF [I,I,O] hv (al k10 (al k11 (al k12 an)))
   apply bc (rightJ ⟨e3, re u3, re v3, re x3, i3⟩ ↑c.length) <;> intro k13
   ·rw [of_a (by rw [hA, k11, k12, k13] <;> kernel_rfl)]; exact leafF [I,I,I,O] hv (al k10 (al k11 (al k12 (al k13 an))))
   have s0 : [re u, re u3].length ≤ 10 := Nat.le_of_ble_eq_true rfl
   have s1 : [Tm.mk 7 i (re x2).i 0 [re x, re u2, re u, re u3]].length ≤ 10 := Nat.le_of_ble_eq_true rfl
   have s2 : (re u2).deep ≤ 100000 := by refine Nat.le_trans (deep_le_size _) ?_; (try simp only [re_eq]); (try simp only [Tm.size, sizes]); omega
   have s3 : (re u).deep ≤ 100000 := by refine Nat.le_trans (deep_le_size _) ?_; (try simp only [re_eq]); (try simp only [Tm.size, sizes]); omega
   have s4 : (Tm.mk 8 i (re x2).i 0 [re x, re u2, Tm.mk 7 i (re x2).i 0 [re x, re u2, re u, re u3]]).size ≤ 10000000 := by (try simp only [re_eq]); (try simp only [Tm.size, sizes]); omega
   have s5 : (re u).size ≤ 10000000 := sz1 zu
   have s6 : (re x).size ≤ 10000000 := sz1 zx
   rw [of_t k10 (by rw [hA, k11, k12, k13] <;> kernel_rfl) hC (by kernel_rfl)]; exact leafF [I,I,I,I] hv (al k10 (al k11 (al k12 (al k13 (al s0 (al s1 an))))))
  | false =>
   cases e3 with
   | true =>
    apply bc (purC c) <;> intro k14
    ·rw [of_p k14]; exact leafF [O] hv (al k14 an)
    apply bc (rightJ ⟨false, re u, re v, re x, i⟩ ↑c.length) <;> intro k15
    ·rw [of_a (by rw [hA, k15] <;> kernel_rfl)]; exact leafF [I,O] hv (al k14 (al k15 an))
    apply bc (rightJ ⟨false, re u2, re v2, re x2, i2⟩ (IntKind.i64.wrap (↑c.length + 1))) <;> intro k16
    ·rw [of_a (by rw [hA, k15, k16] <;> kernel_rfl)]; exact leafF [I,I,O] hv (al k14 (al k15 (al k16 an)))
    apply bc (rightJ ⟨true, re u3, re v3, re x3, i3⟩ ↑c.length) <;> intro k17
    ·rw [of_a (by rw [hA, k15, k16, k17] <;> kernel_rfl)]; exact leafF [I,I,I,O] hv (al k14 (al k15 (al k16 (al k17 an))))
    have s0 : [re u, re u3].length ≤ 10 := Nat.le_of_ble_eq_true rfl
    have s1 : [Tm.mk 7 i (re x2).i 0 [re x, re u2, re u, re u3]].length ≤ 10 := Nat.le_of_ble_eq_true rfl
    have s2 : (re u2).deep ≤ 100000 := by refine Nat.le_trans (deep_le_size _) ?_; (try simp only [re_eq]); (try simp only [Tm.size, sizes]); omega
    have s3 : (re u).deep ≤ 100000 := by refine Nat.le_trans (deep_le_size _) ?_; (try simp only [re_eq]); (try simp only [Tm.size, sizes]); omega
    have s4 : (Tm.mk 8 i (re x2).i 0 [re x, re u2, Tm.mk 7 i (re x2).i 0 [re x, re u2, re u, re u3]]).size ≤ 10000000 := by (try simp only [re_eq]); (try simp only [Tm.size, sizes]); omega
    have s5 : (re u).size ≤ 10000000 := sz1 zu
    have s6 : (re x).size ≤ 10000000 := sz1 zx
    apply bc (((re x2).k == 1)) <;> intro k18
    ·rw [of_t k14 (by rw [hA, k15, k16, k17] <;> kernel_rfl) hC (by rw [k18] <;> kernel_rfl)]; exact leafF [I,I,I,I,O] hv (al k14 (al k15 (al k16 (al k17 (al k18 (al s0 (al s1 an)))))))
    apply bc ((i2 == IntKind.i64.wrap ((re x2).i + 1))) <;> intro k19
    ·rw [of_t k14 (by rw [hA, k15, k16, k17] <;> kernel_rfl) hC (by rw [k18, k19] <;> kernel_rfl)]; exact leafF [I,I,I,I,I,O] hv (al k14 (al k15 (al k16 (al k17 (al k18 (al k19 (al s0 (al s1 an))))))))
    rw [of_t k14 (by rw [hA, k15, k16, k17] <;> kernel_rfl) hC (by rw [k18, k19] <;> kernel_rfl)]; exact leafF [I,I,I,I,I,I] hv (al k14 (al k15 (al k16 (al k17 (al k18 (al k19 (al s2 (al s3 (al s0 (al s1 an))))))))))
   | false =>
    apply bc (purC c) <;> intro k20
    ·rw [of_p k20]; exact leafF [O] hv (al k20 an)
    apply bc (rightJ ⟨false, re u, re v, re x, i⟩ ↑c.length) <;> intro k21
    ·rw [of_a (by rw [hA, k21] <;> kernel_rfl)]; exact leafF [I,O] hv (al k20 (al k21 an))
    apply bc (rightJ ⟨false, re u2, re v2, re x2, i2⟩ (IntKind.i64.wrap (↑c.length + 1))) <;> intro k22
    ·rw [of_a (by rw [hA, k21, k22] <;> kernel_rfl)]; exact leafF [I,I,O] hv (al k20 (al k21 (al k22 an)))
    apply bc (rightJ ⟨false, re u3, re v3, re x3, i3⟩ ↑c.length) <;> intro k23
    ·rw [of_a (by rw [hA, k21, k22, k23] <;> kernel_rfl)]; exact leafF [I,I,I,O] hv (al k20 (al k21 (al k22 (al k23 an))))
    have s0 : [re u, re u3].length ≤ 10 := Nat.le_of_ble_eq_true rfl
    have s1 : [Tm.mk 7 i (re x2).i 0 [re x, re u2, re u, re u3]].length ≤ 10 := Nat.le_of_ble_eq_true rfl
    have s2 : (re u2).deep ≤ 100000 := by refine Nat.le_trans (deep_le_size _) ?_; (try simp only [re_eq]); (try simp only [Tm.size, sizes]); omega
    have s3 : (re u).deep ≤ 100000 := by refine Nat.le_trans (deep_le_size _) ?_; (try simp only [re_eq]); (try simp only [Tm.size, sizes]); omega
    have s4 : (Tm.mk 8 i (re x2).i 0 [re x, re u2, Tm.mk 7 i (re x2).i 0 [re x, re u2, re u, re u3]]).size ≤ 10000000 := by (try simp only [re_eq]); (try simp only [Tm.size, sizes]); omega
    have s5 : (re u).size ≤ 10000000 := sz1 zu
    have s6 : (re x).size ≤ 10000000 := sz1 zx
    apply bc (((re x2).k == 1)) <;> intro k24
    ·rw [of_t k20 (by rw [hA, k21, k22, k23] <;> kernel_rfl) hC (by rw [k24] <;> kernel_rfl)]; exact leafF [I,I,I,I,O] hv (al k20 (al k21 (al k22 (al k23 (al k24 (al s0 (al s1 an)))))))
    apply bc ((i2 == IntKind.i64.wrap ((re x2).i + 1))) <;> intro k25
    ·rw [of_t k20 (by rw [hA, k21, k22, k23] <;> kernel_rfl) hC (by rw [k24, k25] <;> kernel_rfl)]; exact leafF [I,I,I,I,I,O] hv (al k20 (al k21 (al k22 (al k23 (al k24 (al k25 (al s0 (al s1 an))))))))
    apply bc ((i3 == (re x2).i)) <;> intro k26
    ·rw [of_t k20 (by rw [hA, k21, k22, k23] <;> kernel_rfl) hC (by rw [k24, k25, k26] <;> kernel_rfl)]; exact leafF [I,I,I,I,I,I,O] hv (al k20 (al k21 (al k22 (al k23 (al k24 (al k25 (al s2 (al s3 (al k26 (al s0 (al s1 an)))))))))))
    apply bc (sameB (re x3) (re ((re u2).putB (re u)))) <;> intro k27
    ·rw [of_t k20 (by rw [hA, k21, k22, k23] <;> kernel_rfl) hC (by rw [← re_eq ((re u2).putB (re u)), k24, k25, k26, k27] <;> kernel_rfl)]; exact leafF [I,I,I,I,I,I,I,O] hv (al k20 (al k21 (al k22 (al k23 (al k24 (al k25 (al s2 (al s3 (al k26 (al k27 (al s0 (al s1 an))))))))))))
    apply bc (decide (i > 1000)) <;> intro k28
    ·apply bc (((re x).k == 0)) <;> intro k29
     ·apply bc (((re u).k == 0)) <;> intro k30
      ·rw [of_s k20 (by rw [hA, k21, k22, k23] <;> kernel_rfl) hC (by rw [← re_eq ((re u2).putB (re u)), k24, k25, k26, k27] <;> kernel_rfl) (by show (!(decide (i > 1000) || ((nd 8 i ((re x2).i) [re x, re u2, nd 7 i ((re x2).i) [re x, re u2, re u, re u3]]).k == 0 || ((re x).k == 0 || (true && (re u).k == 0))))) = true; rw [k28, k29, k30] <;> kernel_rfl)]; exact leafS [I,I,I,I,I,I,I,I,O,O,O] hv (al k20 (al k21 (al k22 (al k23 (al k24 (al k25 (al s2 (al s3 (al k26 (al k27 (al s0 (al s1 (al k28 (al k29 (al k30 (al s4 (al s5 (al s6 an))))))))))))))))))
      rw [of_o k20 (by rw [hA, k21, k22, k23] <;> kernel_rfl) hC (by show (!(decide (i > 1000) || ((nd 8 i ((re x2).i) [re x, re u2, nd 7 i ((re x2).i) [re x, re u2, re u, re u3]]).k == 0 || ((re x).k == 0 || (true && (re u).k == 0))))) = false; rw [k28, k29, k30] <;> kernel_rfl)]; exact leafF [I,I,I,I,I,I,I,I,O,O,I] hv (al k20 (al k21 (al k22 (al k23 (al k24 (al k25 (al s2 (al s3 (al k26 (al k27 (al s0 (al s1 (al k28 (al k29 (al k30 an)))))))))))))))
     rw [of_o k20 (by rw [hA, k21, k22, k23] <;> kernel_rfl) hC (by show (!(decide (i > 1000) || ((nd 8 i ((re x2).i) [re x, re u2, nd 7 i ((re x2).i) [re x, re u2, re u, re u3]]).k == 0 || ((re x).k == 0 || (true && (re u).k == 0))))) = false; rw [k28, k29] <;> kernel_rfl)]; exact leafF [I,I,I,I,I,I,I,I,O,I] hv (al k20 (al k21 (al k22 (al k23 (al k24 (al k25 (al s2 (al s3 (al k26 (al k27 (al s0 (al s1 (al k28 (al k29 an))))))))))))))
    rw [of_o k20 (by rw [hA, k21, k22, k23] <;> kernel_rfl) hC (by show (!(decide (i > 1000) || ((nd 8 i ((re x2).i) [re x, re u2, nd 7 i ((re x2).i) [re x, re u2, re u, re u3]]).k == 0 || ((re x).k == 0 || (true && (re u).k == 0))))) = false; rw [k28] <;> kernel_rfl)]; exact leafF [I,I,I,I,I,I,I,I,I] hv (al k20 (al k21 (al k22 (al k23 (al k24 (al k25 (al s2 (al s3 (al k26 (al k27 (al s0 (al s1 (al k28 an)))))))))))))
end Go.Proofs.Ytmicgbdcbjajiaa.Se
namespace Go.Proofs.Ytmicgbdcbjajiaa.Se
open Go Go.RowKit
set_option maxRecDepth 20000 in
set_option maxHeartbeats 4000000 in
theorem of20_any (c : List En) (n : Int) (e : Bool) (u v x : Tm) (i : Int) (e2 : Bool) (u2 v2 x2 : Tm) (i2 : Int) (e3 : Bool) (u3 v3 x3 : Tm) (i3 : Int) (hs : Sml c [⟨e, re u, re v, re x, i⟩, ⟨e2, re u2, re v2, re x2, i2⟩, ⟨e3, re u3, re v3, re x3, i3⟩]) {w : World} {A : Nat → Prop} {vs : List Value} (hv : F2 (ArgDen w A) (aOf c 20 n [⟨e, re u, re v, re x, i⟩, ⟨e2, re u2, re v2, re x2, i2⟩, ⟨e3, re u3, re v3, re x3, i3⟩]) vs) : Calls Try.prog 5 vs.toArray w (GivesO A (ofB c 20 n [⟨e, re u, re v, re x, i⟩, ⟨e2, re u2, re v2, re x2, i2⟩, ⟨e3, re u3, re v3, re x3, i3⟩]) w) := by
 have hA : allR c.length 20 0 [⟨e, re u, re v, re x, i⟩, ⟨e2, re u2, re v2, re x2, i2⟩, ⟨e3, re u3, re v3, re x3, i3⟩] = (rightJ ⟨e, re u, re v, re x, i⟩ ↑c.length && (rightJ ⟨e2, re u2, re v2, re x2, i2⟩ (IntKind.i64.wrap (↑c.length + 1)) && (rightJ ⟨e3, re u3, re v3, re x3, i3⟩ ↑c.length && true))) := by kernel_rfl
 have hC : concB c n 20 [⟨e, re u, re v, re x, i⟩, ⟨e2, re u2, re v2, re x2, i2⟩, ⟨e3, re u3, re v3, re x3, i3⟩] = if ((((!e2) && (((re x2).k == 1) && (i2 == W64 ((re x2).i + 1)))) && (!e)) && ((!e3) && ((i3 == (re x2).i) && sameB (re x3) ((re u2).putB (re u))))) = true then some ⟨true, nd 9 i ((re x2).i) [re x, re u2, nd 7 i ((re x2).i) [re x, re u2, re u, re u3]], re u3, re x3, (re x2).i⟩ else none := by kernel_rfl
 obtain ⟨zu, zv, zx⟩ := hs.z
 obtain ⟨zu2, zv2, zx2⟩ := hs.tl.z
 obtain ⟨zu3, zv3, zx3⟩ := hs.tl.tl.z
 cases e with
 | true =>
  cases e2 with
  | true =>
   apply bc (purC c) <;> intro k0
   ·rw [of_p k0]; exact leafF [O] hv (al k0 an)
   apply bc (rightJ ⟨true, re u, re v, re x, i⟩ ↑c.length) <;> intro k1
   ·rw [of_a (by rw [hA, k1] <;> kernel_rfl)]; exact leafF [I,O] hv (al k0 (al k1 an))
   apply bc (rightJ ⟨true, re u2, re v2, re x2, i2⟩ (IntKind.i64.wrap (↑c.length + 1))) <;> intro k2
   ·rw [of_a (by rw [hA, k1, k2] <;> kernel_rfl)]; exact leafF [I,I,O] hv (al k0 (al k1 (al k2 an)))
   apply bc (rightJ ⟨e3, re u3, re v3, re x3, i3⟩ ↑c.length) <;> intro k3
   ·rw [of_a (by rw [hA, k1, k2, k3] <;> kernel_rfl)]; exact leafF [I,I,I,O] hv (al k0 (al k1 (al k2 (al k3 an))))
   have s0 : [re u, re u3].length ≤ 10 := Nat.le_of_ble_eq_true rfl
   have s1 : [Tm.mk 7 i (re x2).i 0 [re x, re u2, re u, re u3]].length ≤ 10 := Nat.le_of_ble_eq_true rfl
   have s2 : (re u2).deep ≤ 100000 := by refine Nat.le_trans (deep_le_size _) ?_; (try simp only [re_eq]); (try simp only [Tm.size, sizes]); omega
   have s3 : (re u).deep ≤ 100000 := by refine Nat.le_trans (deep_le_size _) ?_; (try simp only [re_eq]); (try simp only [Tm.size, sizes]); omega
   have s4 : (Tm.mk 9 i (re x2).i 0 [re x, re u2, Tm.mk 7 i (re x2).i 0 [re x, re u2, re u, re u3]]).size ≤ 10000000 := by (try simp only [re_eq]); (try simp only [Tm.size, sizes]); omega
   have s5 : (re u3).size ≤ 10000000 := sz1 zu3
   have s6 : (re x3).size ≤ 10000000 := sz1 zx3
   rw [of_t k0 (by rw [hA, k1, k2, k3] <;> kernel_rfl) hC (by kernel_rfl)]; exact leafF [I,I,I,I] hv (al k0 (al k1 (al k2 (al k3 (al s0 (al s1 an))))))
  | false =>
   apply bc (purC c) <;> intro k4
   ·rw [of_p k4]; exact leafF [O] hv (al k4 an)
   apply bc (rightJ ⟨true, re u, re v, re x, i⟩ ↑c.length) <;> intro k5
   ·rw [of_a (by rw [hA, k5] <;> kernel_rfl)]; exact leafF [I,O] hv (al k4 (al k5 an))
   apply bc (rightJ ⟨false, re u2, re v2, re x2, i2⟩ (IntKind.i64.wrap (↑c.length + 1))) <;> intro k6
   ·rw [of_a (by rw [hA, k5, k6] <;> kernel_rfl)]; exact leafF [I,I,O] hv (al k4 (al k5 (al k6 an)))
   apply bc (rightJ ⟨e3, re u3, re v3, re x3, i3⟩ ↑c.length) <;> intro k7
   ·rw [of_a (by rw [hA, k5, k6, k7] <;> kernel_rfl)]; exact leafF [I,I,I,O] hv (al k4 (al k5 (al k6 (al k7 an))))
   have s0 : [re u, re u3].length ≤ 10 := Nat.le_of_ble_eq_true rfl
   have s1 : [Tm.mk 7 i (re x2).i 0 [re x, re u2, re u, re u3]].length ≤ 10 := Nat.le_of_ble_eq_true rfl
   have s2 : (re u2).deep ≤ 100000 := by refine Nat.le_trans (deep_le_size _) ?_; (try simp only [re_eq]); (try simp only [Tm.size, sizes]); omega
   have s3 : (re u).deep ≤ 100000 := by refine Nat.le_trans (deep_le_size _) ?_; (try simp only [re_eq]); (try simp only [Tm.size, sizes]); omega
   have s4 : (Tm.mk 9 i (re x2).i 0 [re x, re u2, Tm.mk 7 i (re x2).i 0 [re x, re u2, re u, re u3]]).size ≤ 10000000 := by (try simp only [re_eq]); (try simp only [Tm.size, sizes]); omega
   have s5 : (re u3).size ≤ 10000000 := sz1 zu3
   have s6 : (re x3).size ≤ 10000000 := sz1 zx3
   apply bc (((re x2).k == 1)) <;> intro k8
   ·rw [of_t k4 (by rw [hA, k5, k6, k7] <;> kernel_rfl) hC (by rw [k8] <;> kernel_rfl)]; exact leafF [I,I,I,I,O] hv (al k4 (al k5 (al k6 (al k7 (al k8 (al s0 (al s1 an)))))))
   apply bc ((i2 == IntKind.i64.wrap ((re x2).i + 1))) <;> intro k9
   ·rw [of_t k4 (by rw [hA, k5, k6, k7] <;> kernel_rfl) hC (by rw [k8, k9] <;> kernel_rfl)]; exact leafF [I,I,I,I,I,O] hv (al k4 (al k5 (al k6 (al k7 (al k8 (al k9 (al s0 (al s1 an))))))))
   rw [of_t k4 (by rw [hA, k5, k6, k7] <;> kernel_rfl) hC (by rw [k8, k9] <;> kernel_rfl)]; exact leafF [I,I,I,I,I,I] hv (al k4 (al k5 (al k6 (al k7 (al k8 (al k9 (al s0 (al s1 an))))))))
 | false =>
  cases e2 with
  | true =>
   apply bc (purC c) <;> intro k10
   ·rw [of_p k10]; exact leafF [O] hv (al k10 an)
   apply bc (rightJ ⟨false, re u, re v, re x, i⟩ ↑c.length) <;> intro k11
   ·rw [of_a (by rw [hA, k11] <;> kernel_rfl)]; exact leafF [I,O] hv (al k10 (al k11 an))
   apply bc (rightJ ⟨true, re u2, re v2, re x2, i2⟩ (IntKind.i64.wrap (↑c.length + 1))) <;> intro k12
   ·rw [of_a (by rw [hA, k11, k12] <;> kernel_rfl)]; exact leafF [I,I,O] hv (al k10 (al k11 (al k12 an)))
   apply bc (rightJ ⟨e3, re u3, re v3, re x3, i3⟩ ↑c.length) <;> intro k13
   ·rw [of_a (by rw [hA, k11, k12, k13] <;> kernel_rfl)]; exact leafF [I,I,I,O] hv (al k10 (al k11 (al k12 (al k13 an))))
   have s0 : [re u, re u3].length ≤ 10 := Nat.le_of_ble_eq_true rfl
   have s1 : [Tm.mk 7 i (re x2).i 0 [re x, re u2, re u, re u3]].length ≤ 10 := Nat.le_of_ble_eq_true rfl
   have s2 : (re u2).deep ≤ 100000 := by refine Nat.le_trans (deep_le_size _) ?_; (try simp only [re_eq]); (try simp only [Tm.size, sizes]); omega
   have s3 : (re u).deep ≤ 100000 := by refine Nat.le_trans (deep_le_size _) ?_; (try simp only [re_eq]); (try simp only [Tm.size, sizes]); omega
   have s4 : (Tm.mk 9 i (re x2).i 0 [re x, re u2, Tm.mk 7 i (re x2).i 0 [re x, re u2, re u, re u3]]).size ≤ 10000000 := by (try simp only [re_eq]); (try simp only [Tm.size, sizes]); omega
   have s5 : (re u3).size ≤ 10000000 := sz1 zu3
   have s6 : (re x3).size ≤ 10000000 := sz1 zx3
   rw [of_t k10 (by rw [hA, k11, k12, k13] <;> kernel_rfl) hC (by kernel_rfl)]; exact leafF [I,I,I,I] hv (al k10 (al k11 (al k12 (al k13 (al s0 (al s1 an))))))
  | false =>
   cases e3 with
   | true =>
    apply bc (purC c) <;> intro k14
    ·rw [of_p k14]; exact leafF [O] hv (al k14 an)
    apply bc (rightJ ⟨false, re u, re v, re x, i⟩ ↑c.length) <;> intro k15
    ·rw [of_a (by rw [hA, k15] <;> kernel_rfl)]; exact leafF [I,O] hv (al k14 (al k15 an))
    apply bc (rightJ ⟨false, re u2, re v2, re x2, i2⟩ (IntKind.i64.wrap (↑c.length + 1))) <;> intro k16
    ·rw [of_a (by rw [hA, k15, k16] <;> kernel_rfl)]; exact leafF [I,I,O] hv (al k14 (al k15 (al k16 an)))
    apply bc (rightJ ⟨true, re u3, re v3, re x3, i3⟩ ↑c.length) <;> intro k17
    ·rw [of_a (by rw [hA, k15, k16, k17] <;> kernel_rfl)]; exact leafF [I,I,I,O] hv (al k14 (al k15 (al k16 (al k17 an))))
    have s0 : [re u, re u3].length ≤ 10 := Nat.le_of_ble_eq_true rfl
    have s1 : [Tm.mk 7 i (re x2).i 0 [re x, re u2, re u, re u3]].length ≤ 10 := Nat.le_of_ble_eq_true rfl
    have s2 : (re u2).deep ≤ 100000 := by refine Nat.le_trans (deep_le_size _) ?_; (try simp only [re_eq]); (try simp only [Tm.size, sizes]); omega
    have s3 : (re u).deep ≤ 100000 := by refine Nat.le_trans (deep_le_size _) ?_; (try simp only [re_eq]); (try simp only [Tm.size, sizes]); omega
    have s4 : (Tm.mk 9 i (re x2).i 0 [re x, re u2, Tm.mk 7 i (re x2).i 0 [re x, re u2, re u, re u3]]).size ≤ 10000000 := by (try simp only [re_eq]); (try simp only [Tm.size, sizes]); omega
    have s5 : (re u3).size ≤ 10000000 := sz1 zu3
    have s6 : (re x3).size ≤ 10000000 := sz1 zx3
    apply bc (((re x2).k == 1)) <;> intro k18
    ·rw [of_t k14 (by rw [hA, k15, k16, k17] <;> kernel_rfl) hC (by rw [k18] <;> kernel_rfl)]; exact leafF [I,I,I,I,O] hv (al k14 (al k15 (al k16 (al k17 (al k18 (al s0 (al s1 an)))))))
    apply bc ((i2 == IntKind.i64.wrap ((re x2).i + 1))) <;> intro k19
    ·rw [of_t k14 (by rw [hA, k15, k16, k17] <;> kernel_rfl) hC (by rw [k18, k19] <;> kernel_rfl)]; exact leafF [I,I,I,I,I,O] hv (al k14 (al k15 (al k16 (al k17 (al k18 (al k19 (al s0 (al s1 an))))))))
    rw [of_t k14 (by rw [hA, k15, k16, k17] <;> kernel_rfl) hC (by rw [k18, k19] <;> kernel_rfl)]; exact leafF [I,I,I,I,I,I] hv (al k14 (al k15 (al k16 (al k17 (al k18 (al k19 (al s2 (al s3 (al s0 (al s1 an))))))))))
   | false =>
    apply bc (purC c) <;> intro k20
    ·rw [of_p k20]; exact leafF [O] hv (al k20 an)
    apply bc (rightJ ⟨false, re u, re v, re x, i⟩ ↑c.length) <;> intro k21
    ·rw [of_a (by rw [hA, k21] <;> kernel_rfl)]; exact leafF [I,O] hv (al k20 (al k21 an))
    apply bc (rightJ ⟨false, re u2, re v2, re x2, i2⟩ (IntKind.i64.wrap (↑c.length + 1))) <;> intro k22
    ·rw [of_a (by rw [hA, k21, k22] <;> kernel_rfl)]; exact leafF [I,I,O] hv (al k20 (al k21 (al k22 an)))
    apply bc (rightJ ⟨false, re u3, re v3, re x3, i3⟩ ↑c.length) <;> intro k23
    ·rw [of_a (by rw [hA, k21, k22, k23] <;> kernel_rfl)]; exact leafF [I,I,I,O] hv (al k20 (al k21 (al k22 (al k23 an))))
    have s0 : [re u, re u3].length ≤ 10 := Nat.le_of_ble_eq_true rfl
    have s1 : [Tm.mk 7 i (re x2).i 0 [re x, re u2, re u, re u3]].length ≤ 10 := Nat.le_of_ble_eq_true rfl
    have s2 : (re u2).deep ≤ 100000 := by refine Nat.le_trans (deep_le_size _) ?_; (try simp only [re_eq]); (try simp only [Tm.size, sizes]); omega
    have s3 : (re u).deep ≤ 100000 := by refine Nat.le_trans (deep_le_size _) ?_; (try simp only [re_eq]); (try simp only [Tm.size, sizes]); omega
    have s4 : (Tm.mk 9 i (re x2).i 0 [re x, re u2, Tm.mk 7 i (re x2).i 0 [re x, re u2, re u, re u3]]).size ≤ 10000000 := by (try simp only [re_eq]); (try simp only [Tm.size, sizes]); omega
    have s5 : (re u3).size ≤ 10000000 := sz1 zu3
    have s6 : (re x3).size ≤ 10000000 := sz1 zx3
    apply bc (((re x2).k == 1)) <;> intro k24
    ·rw [of_t k20 (by rw [hA, k21, k22, k23] <;> kernel_rfl) hC (by rw [k24] <;> kernel_rfl)]; exact leafF [I,I,I,I,O] hv (al k20 (al k21 (al k22 (al k23 (al k24 (al s0 (al s1 an)))))))
    apply bc ((i2 == IntKind.i64.wrap ((re x2).i + 1))) <;> intro k25
    ·rw [of_t k20 (by rw [hA, k21, k22, k23] <;> kernel_rfl) hC (by rw [k24, k25] <;> kernel_rfl)]; exact leafF [I,I,I,I,I,O] hv (al k20 (al k21 (al k22 (al k23 (al k24 (al k25 (al s0 (al s1 an))))))))
    apply bc ((i3 == (re x2).i)) <;> intro k26
    ·rw [of_t k20 (by rw [hA, k21, k22, k23] <;> kernel_rfl) hC (by rw [k24, k25, k26] <;> kernel_rfl)]; exact leafF [I,I,I,I,I,I,O] hv (al k20 (al k21 (al k22 (al k23 (al k24 (al k25 (al s2 (al s3 (al k26 (al s0 (al s1 an)))))))))))
    apply bc (sameB (re x3) (re ((re u2).putB (re u)))) <;> intro k27
    ·rw [of_t k20 (by rw [hA, k21, k22, k23] <;> kernel_rfl) hC (by rw [← re_eq ((re u2).putB (re u)), k24, k25, k26, k27] <;> kernel_rfl)]; exact leafF [I,I,I,I,I,I,I,O] hv (al k20 (al k21 (al k22 (al k23 (al k24 (al k25 (al s2 (al s3 (al k26 (al k27 (al s0 (al s1 an))))))))))))
    apply bc (decide ((re x2).i > 1000)) <;> intro k28
    ·apply bc (((re x3).k == 0)) <;> intro k29
     ·apply bc (((re u3).k == 0)) <;> intro k30
      ·rw [of_s k20 (by rw [hA, k21, k22, k23] <;> kernel_rfl) hC (by rw [← re_eq ((re u2).putB (re u)), k24, k25, k26, k27] <;> kernel_rfl) (by show (!(decide ((re x2).i > 1000) || ((nd 9 i ((re x2).i) [re x, re u2, nd 7 i ((re x2).i) [re x, re u2, re u, re u3]]).k == 0 || ((re x3).k == 0 || (true && (re u3).k == 0))))) = true; rw [k28, k29, k30] <;> kernel_rfl)]; exact leafS [I,I,I,I,I,I,I,I,O,O,O] hv (al k20 (al k21 (al k22 (al k23 (al k24 (al k25 (al s2 (al s3 (al k26 (al k27 (al s0 (al s1 (al k28 (al k29 (al k30 (al s4 (al s5 (al s6 an))))))))))))))))))
      rw [of_o k20 (by rw [hA, k21, k22, k23] <;> kernel_rfl) hC (by show (!(decide ((re x2).i > 1000) || ((nd 9 i ((re x2).i) [re x, re u2, nd 7 i ((re x2).i) [re x, re u2, re u, re u3]]).k == 0 || ((re x3).k == 0 || (true && (re u3).k == 0))))) = false; rw [k28, k29, k30] <;> kernel_rfl)]; exact leafF [I,I,I,I,I,I,I,I,O,O,I] hv (al k20 (al k21 (al k22 (al k23 (al k24 (al k25 (al s2 (al s3 (al k26 (al k27 (al s0 (al s1 (al k28 (al k29 (al k30 an)))))))))))))))
     rw [of_o k20 (by rw [hA, k21, k22, k23] <;> kernel_rfl) hC (by show (!(decide ((re x2).i > 1000) || ((nd 9 i ((re x2).i) [re x, re u2, nd 7 i ((re x2).i) [re x, re u2, re u, re u3]]).k == 0 || ((re x3).k == 0 || (true && (re u3).k == 0))))) = false; rw [k28, k29] <;> kernel_rfl)]; exact leafF [I,I,I,I,I,I,I,I,O,I] hv (al k20 (al k21 (al k22 (al k23 (al k24 (al k25 (al s2 (al s3 (al k26 (al k27 (al s0 (al s1 (al k28 (al k29 an))))))))))))))
    rw [of_o k20 (by rw [hA, k21, k22, k23] <;> kernel_rfl) hC (by show (!(decide ((re x2).i > 1000) || ((nd 9 i ((re x2).i) [re x, re u2, nd 7 i ((re x2).i) [re x, re u2, re u, re u3]]).k == 0 || ((re x3).k == 0 || (true && (re u3).k == 0))))) = false; rw [k28] <;> kernel_rfl)]; exact leafF [I,I,I,I,I,I,I,I,I] hv (al k20 (al k21 (al k22 (al k23 (al k24 (al k25 (al s2 (al s3 (al k26 (al k27 (al s0 (al s1 (al k28 an)))))))))))))
set_option maxRecDepth 20000 in
set_option maxHeartbeats 4000000 in
theorem of21kf_any (c : List En) (n : Int) (u v : Tm) (i : Int) (xk xi xj xn : Int) (p q : Tm) (k100 : purC c = true) (k101 : rightJ { eq := false, u := re u, v := re v, a := Tm.mk xk xi xj xn [re p, re q], i := i } ↑c.length = true) (k102 : (xk == 3) = true) (k103 : (i == max xi xj) = true) (hs : Sml c [⟨false, re u, re v, .mk xk xi xj xn [re p, re q], i⟩]) {w : World} {A : Nat → Prop} {vs : List Value} (hv : F2 (ArgDen w A) (aOf c 21 n [⟨false, re u, re v, .mk xk xi xj xn [re p, re q], i⟩]) vs) : Calls Try.prog 5 vs.toArray w (GivesO A (ofB c 21 n [⟨false, re u, re v, .mk xk xi xj xn [re p, re q], i⟩]) w) := by
 have hA : allR c.length 21 0 [⟨false, re u, re v, .mk xk xi xj xn [re p, re q], i⟩] = (rightJ ⟨false, re u, re v, .mk xk xi xj xn [re p, re q], i⟩ ↑c.length && true) := by kernel_rfl
 have hC : concB c n 21 [⟨false, re u, re v, .mk xk xi xj xn [re p, re q], i⟩] = if ((!false) && ((xk == 3) && (i == max xi xj))) = true then some ⟨true, re u, nd 4 xi xj [re p, re q, nd 5 xi xj [(re p).liftB 1 0, (re q).liftB 1 1, (re u).liftB 1 0, .mk 2 0 0 0 []]], .mk xk xi xj xn [re p, re q], i⟩ else none := by kernel_rfl
 have zu : (re u).size ≤ 1000 := (hs.js _ (List.mem_cons_self ..)).1
 have zx : (.mk xk xi xj xn [re p, re q] : Tm).size ≤ 1000 := (hs.js _ (List.mem_cons_self ..)).2.2
 rw [re_eq] at zu
 simp only [Tm.size, sizes, re_eq] at zx
 have l1 := liftB_size p 1 0
 have l2 := liftB_size q 1 1
 have l3 := liftB_size u 1 0
 have s0 : (re p).deep ≤ 100000 := by refine Nat.le_trans (deep_le_size _) ?_; (try simp only [re_eq]); (try simp only [Tm.size, sizes]); omega
 have s1 : (re q).deep ≤ 100000 := by refine Nat.le_trans (deep_le_size _) ?_; (try simp only [re_eq]); (try simp only [Tm.size, sizes]); omega
 have s2 : (re u).deep ≤ 100000 := by refine Nat.le_trans (deep_le_size _) ?_; (try simp only [re_eq]); (try simp only [Tm.size, sizes]); omega
 have s3 : [re ((re u).liftB 1 0), Tm.mk 2 0 0 0 []].length ≤ 10 := Nat.le_of_ble_eq_true rfl
 have s4 : [Tm.mk 5 xi xj 0 [re ((re p).liftB 1 0), re ((re q).liftB 1 1), re ((re u).liftB 1 0), Tm.mk 2 0 0 0 []]].length ≤ 10 := Nat.le_of_ble_eq_true rfl
 have s5 : (re u).size ≤ 10000000 := sz1 zu
 have s6 : (Tm.mk 4 xi xj 0 [re p, re q, Tm.mk 5 xi xj 0 [re ((re p).liftB 1 0), re ((re q).liftB 1 1), re ((re u).liftB 1 0), Tm.mk 2 0 0 0 []]]).size ≤ 10000000 := by (try simp only [re_eq]); (try simp only [Tm.size, sizes]); omega
 have s7 : (Tm.mk xk xi xj xn [re p, re q]).size ≤ 10000000 := by (try simp only [re_eq]); (try simp only [Tm.size, sizes]); omega
 apply bc (decide (i > 1000)) <;> intro k6
 ·apply bc (((re u).k == 0)) <;> intro k7
  ·apply bc ((xk == 0)) <;> intro k8
   ·rw [of_s k100 (by rw [hA, k101] <;> kernel_rfl) hC (by rw [k102, k103] <;> kernel_rfl) (by show (!(decide (i > 1000) || ((re u).k == 0 || (xk == 0 || (true && (nd 4 xi xj [re p, re q, nd 5 xi xj [(re p).liftB 1 0, (re q).liftB 1 1, (re u).liftB 1 0, .mk 2 0 0 0 []]]).k == 0))))) = true; rw [k6, k7, k8] <;> kernel_rfl)]; rw [show (⟨true, re u, nd 4 xi xj [re p, re q, nd 5 xi xj [(re p).liftB 1 0, (re q).liftB 1 1, (re u).liftB 1 0, .mk 2 0 0 0 []]], .mk xk xi xj xn [re p, re q], i⟩ : Jd) = ⟨true, re u, nd 4 xi xj [re p, re q, nd 5 xi xj [re ((re p).liftB 1 0), re ((re q).liftB 1 1), re ((re u).liftB 1 0), .mk 2 0 0 0 []]], .mk xk xi xj xn [re p, re q], i⟩ from by simp only [re_eq]]; exact leafS [I,I,O,O,O,O,O] hv (al k100 (al k101 (al (bneT k102) (al (bneT k103) (al s0 (al s1 (al s2 (al s3 (al s4 (al k6 (al k7 (al k8 (al s5 (al s6 (al s7 an)))))))))))))))
   rw [of_o k100 (by rw [hA, k101] <;> kernel_rfl) hC (by show (!(decide (i > 1000) || ((re u).k == 0 || (xk == 0 || (true && (nd 4 xi xj [re p, re q, nd 5 xi xj [(re p).liftB 1 0, (re q).liftB 1 1, (re u).liftB 1 0, .mk 2 0 0 0 []]]).k == 0))))) = false; rw [k6, k7, k8] <;> kernel_rfl)]; exact leafF [I,I,O,O,O,O,I] hv (al k100 (al k101 (al (bneT k102) (al (bneT k103) (al s0 (al s1 (al s2 (al s3 (al s4 (al k6 (al k7 (al k8 an))))))))))))
  rw [of_o k100 (by rw [hA, k101] <;> kernel_rfl) hC (by show (!(decide (i > 1000) || ((re u).k == 0 || (xk == 0 || (true && (nd 4 xi xj [re p, re q, nd 5 xi xj [(re p).liftB 1 0, (re q).liftB 1 1, (re u).liftB 1 0, .mk 2 0 0 0 []]]).k == 0))))) = false; rw [k6, k7] <;> kernel_rfl)]; exact leafF [I,I,O,O,O,I] hv (al k100 (al k101 (al (bneT k102) (al (bneT k103) (al s0 (al s1 (al s2 (al s3 (al s4 (al k6 (al k7 an)))))))))))
 rw [of_o k100 (by rw [hA, k101] <;> kernel_rfl) hC (by show (!(decide (i > 1000) || ((re u).k == 0 || (xk == 0 || (true && (nd 4 xi xj [re p, re q, nd 5 xi xj [(re p).liftB 1 0, (re q).liftB 1 1, (re u).liftB 1 0, .mk 2 0 0 0 []]]).k == 0))))) = false; rw [k6] <;> kernel_rfl)]; exact leafF [I,I,O,O,I] hv (al k100 (al k101 (al (bneT k102) (al (bneT k103) (al s0 (al s1 (al s2 (al s3 (al s4 (al k6 an))))))))))
set_option maxRecDepth 20000 in
set_option maxHeartbeats 4000000 in
theorem of21_any (c : List En) (n : Int) (e : Bool) (u v x : Tm) (i : Int) (hs : Sml c [⟨e, re u, re v, re x, i⟩]) {w : World} {A : Nat → Prop} {vs : List Value} (hv : F2 (ArgDen w A) (aOf c 21 n [⟨e, re u, re v, re x, i⟩]) vs) : Calls Try.prog 5 vs.toArray w (GivesO A (ofB c 21 n [⟨e, re u, re v, re x, i⟩]) w) := by
 have hA : allR c.length 21 0 [⟨e, re u, re v, re x, i⟩] = (rightJ ⟨e, re u, re v, re x, i⟩ ↑c.length && true) := by kernel_rfl
 have hC : concB c n 21 [⟨e, re u, re v, re x, i⟩] = if ((!e) && (((re x).k == 3) && (i == max (re x).i (re x).j))) = true then some ⟨true, re u, nd 4 ((re x).i) ((re x).j) [kd (re x) 0, kd (re x) 1, nd 5 ((re x).i) ((re x).j) [(kd (re x) 0).liftB 1 0, (kd (re x) 1).liftB 1 1, (re u).liftB 1 0, .mk 2 0 0 0 []]], re x, i⟩ else none := by kernel_rfl
 obtain ⟨zu, zv, zx⟩ := hs.z
 cases e with
 | true =>
  apply bc (purC c) <;> intro k0
  ·rw [of_p k0]; exact leafF [O] hv (al k0 an)
  apply bc (rightJ ⟨true, re u, re v, re x, i⟩ ↑c.length) <;> intro k1
  ·rw [of_a (by rw [hA, k1] <;> kernel_rfl)]; exact leafF [I,O] hv (al k0 (al k1 an))
  rw [of_t k0 (by rw [hA, k1] <;> kernel_rfl) hC (by kernel_rfl)]; exact leafF [I,I] hv (al k0 (al k1 an))
 | false =>
  apply bc (purC c) <;> intro k2
  ·rw [of_p k2]; exact leafF [O] hv (al k2 an)
  apply bc (rightJ ⟨false, re u, re v, re x, i⟩ ↑c.length) <;> intro k3
  ·rw [of_a (by rw [hA, k3] <;> kernel_rfl)]; exact leafF [I,O] hv (al k2 (al k3 an))
  apply bd (((re x).k == 3)) <;> intro k4
  ·apply bd ((i == max (re x).i (re x).j)) <;> intro k5
   ·obtain ⟨p, q, hk⟩ := two_kids (t := re x) (right_u k3).2 (Or.inl (by simpa using k4))
    have hx : re x = .mk x.k x.i x.j x.n [re p, re q] := by
     have hk2 : x.kids = [p, q] := hk
     simp only [re_eq]
     rw [← hk2]
     exact x.eta.symm
    have H := of21kf_any c n u v i x.k x.i x.j x.n p q (by first | exact k2 | (rw [← hx]; exact k2)) (by first | exact k3 | (rw [← hx]; exact k3)) (by first | exact k4 | (rw [← hx]; exact k4)) (by first | exact k5 | (rw [← hx]; exact k5)) (A := A) (w := w) (vs := vs)
    rw [← hx] at H
    exact H hs hv
   rw [of_t k2 (by rw [hA, k3] <;> kernel_rfl) hC (by rw [k4, k5] <;> kernel_rfl)]; exact leafF [I,I,O,I] hv (al k2 (al k3 (al (bneT k4) (al (bneF k5) an))))
  rw [of_t k2 (by rw [hA, k3] <;> kernel_rfl) hC (by rw [k4] <;> kernel_rfl)]; exact leafF [I,I,I] hv (al k2 (al k3 (al (bneF k4) an)))
set_option maxRecDepth 20000 in
set_option maxHeartbeats 4000000 in
theorem of22kf_any (c : List En) (n : Int) (u v : Tm) (i : Int) (xk xi xj xn : Int) (p q : Tm) (k100 : purC c = true) (k101 : rightJ { eq := false, u := re u, v := re v, a := Tm.mk xk xi xj xn [re p, re q], i := i } ↑c.length = true) (k102 : (xk == 6) = true) (k103 : (i == max xi xj) = true) (hs : Sml c [⟨false, re u, re v, .mk xk xi xj xn [re p, re q], i⟩]) {w : World} {A : Nat → Prop} {vs : List Value} (hv : F2 (ArgDen w A) (aOf c 22 n [⟨false, re u, re v, .mk xk xi xj xn [re p, re q], i⟩]) vs) : Calls Try.prog 5 vs.toArray w (GivesO A (ofB c 22 n [⟨false, re u, re v, .mk xk xi xj xn [re p, re q], i⟩]) w) := by
 have hA : allR c.length 22 0 [⟨false, re u, re v, .mk xk xi xj xn [re p, re q], i⟩] = (rightJ ⟨false, re u, re v, .mk xk xi xj xn [re p, re q], i⟩ ↑c.length && true) := by kernel_rfl
 have hC : concB c n 22 [⟨false, re u, re v, .mk xk xi xj xn [re p, re q], i⟩] = if ((!false) && ((xk == 6) && (i == max xi xj))) = true then some ⟨true, re u, nd 7 xi xj [re p, re q, nd 8 xi xj [re p, re q, re u], nd 9 xi xj [re p, re q, re u]], .mk xk xi xj xn [re p, re q], i⟩ else none := by kernel_rfl
 have zu : (re u).size ≤ 1000 := (hs.js _ (List.mem_cons_self ..)).1
 have zx : (.mk xk xi xj xn [re p, re q] : Tm).size ≤ 1000 := (hs.js _ (List.mem_cons_self ..)).2.2
 rw [re_eq] at zu
 simp only [Tm.size, sizes, re_eq] at zx
 have s0 : [re u].length ≤ 10 := Nat.le_of_ble_eq_true rfl
 have s1 : [Tm.mk 8 xi xj 0 [re p, re q, re u], Tm.mk 9 xi xj 0 [re p, re q, re u]].length ≤ 10 := Nat.le_of_ble_eq_true rfl
 have s2 : (re u).size ≤ 10000000 := sz1 zu
 have s3 : (Tm.mk 7 xi xj 0 [re p, re q, Tm.mk 8 xi xj 0 [re p, re q, re u], Tm.mk 9 xi xj 0 [re p, re q, re u]]).size ≤ 10000000 := by (try simp only [re_eq]); (try simp only [Tm.size, sizes]); omega
 have s4 : (Tm.mk xk xi xj xn [re p, re q]).size ≤ 10000000 := by (try simp only [re_eq]); (try simp only [Tm.size, sizes]); omega
 apply bc (decide (i > 1000)) <;> intro k6
 ·apply bc (((re u).k == 0)) <;> intro k7
  ·apply bc ((xk == 0)) <;> intro k8
   ·rw [of_s k100 (by rw [hA, k101] <;> kernel_rfl) hC (by rw [k102, k103] <;> kernel_rfl) (by show (!(decide (i > 1000) || ((re u).k == 0 || (xk == 0 || (true && (nd 7 xi xj [re p, re q, nd 8 xi xj [re p, re q, re u], nd 9 xi xj [re p, re q, re u]]).k == 0))))) = true; rw [k6, k7, k8] <;> kernel_rfl)]; exact leafS [I,I,O,O,O,O,O] hv (al k100 (al k101 (al (bneT k102) (al (bneT k103) (al s0 (al s0 (al s1 (al k6 (al k7 (al k8 (al s2 (al s3 (al s4 an)))))))))))))
   rw [of_o k100 (by rw [hA, k101] <;> kernel_rfl) hC (by show (!(decide (i > 1000) || ((re u).k == 0 || (xk == 0 || (true && (nd 7 xi xj [re p, re q, nd 8 xi xj [re p, re q, re u], nd 9 xi xj [re p, re q, re u]]).k == 0))))) = false; rw [k6, k7, k8] <;> kernel_rfl)]; exact leafF [I,I,O,O,O,O,I] hv (al k100 (al k101 (al (bneT k102) (al (bneT k103) (al s0 (al s0 (al s1 (al k6 (al k7 (al k8 an))))))))))
  rw [of_o k100 (by rw [hA, k101] <;> kernel_rfl) hC (by show (!(decide (i > 1000) || ((re u).k == 0 || (xk == 0 || (true && (nd 7 xi xj [re p, re q, nd 8 xi xj [re p, re q, re u], nd 9 xi xj [re p, re q, re u]]).k == 0))))) = false; rw [k6, k7] <;> kernel_rfl)]; exact leafF [I,I,O,O,O,I] hv (al k100 (al k101 (al (bneT k102) (al (bneT k103) (al s0 (al s0 (al s1 (al k6 (al k7 an)))))))))
 rw [of_o k100 (by rw [hA, k101] <;> kernel_rfl) hC (by show (!(decide (i > 1000) || ((re u).k == 0 || (xk == 0 || (true && (nd 7 xi xj [re p, re q, nd 8 xi xj [re p, re q, re u], nd 9 xi xj [re p, re q, re u]]).k == 0))))) = false; rw [k6] <;> kernel_rfl)]; exact leafF [I,I,O,O,I] hv (al k100 (al k101 (al (bneT k102) (al (bneT k103) (al s0 (al s0 (al s1 (al k6 an))))))))
set_option maxRecDepth 20000 in
set_option maxHeartbeats 4000000 in
theorem of22_any (c : List En) (n : Int) (e : Bool) (u v x : Tm) (i : Int) (hs : Sml c [⟨e, re u, re v, re x, i⟩]) {w : World} {A : Nat → Prop} {vs : List Value} (hv : F2 (ArgDen w A) (aOf c 22 n [⟨e, re u, re v, re x, i⟩]) vs) : Calls Try.prog 5 vs.toArray w (GivesO A (ofB c 22 n [⟨e, re u, re v, re x, i⟩]) w) := by
 have hA : allR c.length 22 0 [⟨e, re u, re v, re x, i⟩] = (rightJ ⟨e, re u, re v, re x, i⟩ ↑c.length && true) := by kernel_rfl
 have hC : concB c n 22 [⟨e, re u, re v, re x, i⟩] = if ((!e) && (((re x).k == 6) && (i == max (re x).i (re x).j))) = true then some ⟨true, re u, nd 7 ((re x).i) ((re x).j) [kd (re x) 0, kd (re x) 1, nd 8 ((re x).i) ((re x).j) [kd (re x) 0, kd (re x) 1, re u], nd 9 ((re x).i) ((re x).j) [kd (re x) 0, kd (re x) 1, re u]], re x, i⟩ else none := by kernel_rfl
 obtain ⟨zu, zv, zx⟩ := hs.z
 cases e with
 | true =>
  apply bc (purC c) <;> intro k0
  ·rw [of_p k0]; exact leafF [O] hv (al k0 an)
  apply bc (rightJ ⟨true, re u, re v, re x, i⟩ ↑c.length) <;> intro k1
  ·rw [of_a (by rw [hA, k1] <;> kernel_rfl)]; exact leafF [I,O] hv (al k0 (al k1 an))
  have s0 : [re u].length ≤ 10 := Nat.le_of_ble_eq_true rfl
  have s1 : [Tm.mk 8 0 0 0 [Tm.mk 0 0 0 0 [], Tm.mk 0 0 0 0 [], re u], Tm.mk 9 0 0 0 [Tm.mk 0 0 0 0 [], Tm.mk 0 0 0 0 [], re u]].length ≤ 10 := Nat.le_of_ble_eq_true rfl
  rw [of_t k0 (by rw [hA, k1] <;> kernel_rfl) hC (by kernel_rfl)]; exact leafF [I,I] hv (al k0 (al k1 (al s0 (al s0 (al s1 an)))))
 | false =>
  apply bc (purC c) <;> intro k2
  ·rw [of_p k2]; exact leafF [O] hv (al k2 an)
  apply bc (rightJ ⟨false, re u, re v, re x, i⟩ ↑c.length) <;> intro k3
  ·rw [of_a (by rw [hA, k3] <;> kernel_rfl)]; exact leafF [I,O] hv (al k2 (al k3 an))
  have s0 : [re u].length ≤ 10 := Nat.le_of_ble_eq_true rfl
  have s1 : [Tm.mk 8 0 0 0 [Tm.mk 0 0 0 0 [], Tm.mk 0 0 0 0 [], re u], Tm.mk 9 0 0 0 [Tm.mk 0 0 0 0 [], Tm.mk 0 0 0 0 [], re u]].length ≤ 10 := Nat.le_of_ble_eq_true rfl
  apply bd (((re x).k == 6)) <;> intro k4
  ·apply bd ((i == max (re x).i (re x).j)) <;> intro k5
   ·obtain ⟨p, q, hk⟩ := two_kids (t := re x) (right_u k3).2 (Or.inr (by simpa using k4))
    have hx : re x = .mk x.k x.i x.j x.n [re p, re q] := by
     have hk2 : x.kids = [p, q] := hk
     simp only [re_eq]
     rw [← hk2]
     exact x.eta.symm
    have H := of22kf_any c n u v i x.k x.i x.j x.n p q (by first | exact k2 | (rw [← hx]; exact k2)) (by first | exact k3 | (rw [← hx]; exact k3)) (by first | exact k4 | (rw [← hx]; exact k4)) (by first | exact k5 | (rw [← hx]; exact k5)) (A := A) (w := w) (vs := vs)
    rw [← hx] at H
    exact H hs hv
   rw [of_t k2 (by rw [hA, k3] <;> kernel_rfl) hC (by rw [k4, k5] <;> kernel_rfl)]; exact leafF [I,I,O,I] hv (al k2 (al k3 (al (bneT k4) (al (bneF k5) (al s0 (al s0 (al s1 an)))))))
  rw [of_t k2 (by rw [hA, k3] <;> kernel_rfl) hC (by rw [k4] <;> kernel_rfl)]; exact leafF [I,I,I] hv (al k2 (al k3 (al (bneF k4) (al s0 (al s0 (al s1 an))))))
set_option maxRecDepth 20000 in
set_option maxHeartbeats 4000000 in
theorem of23_any (c : List En) (n : Int) (e : Bool) (u v x : Tm) (i : Int) (e2 : Bool) (u2 v2 x2 : Tm) (i2 : Int) (hs : Sml c [⟨e, re u, re v, re x, i⟩, ⟨e2, re u2, re v2, re x2, i2⟩]) {w : World} {A : Nat → Prop} {vs : List Value} (hv : F2 (ArgDen w A) (aOf c 23 n [⟨e, re u, re v, re x, i⟩, ⟨e2, re u2, re v2, re x2, i2⟩]) vs) : Calls Try.prog 5 vs.toArray w (GivesO A (ofB c 23 n [⟨e, re u, re v, re x, i⟩, ⟨e2, re u2, re v2, re x2, i2⟩]) w) := by
 have hA : allR c.length 23 0 [⟨e, re u, re v, re x, i⟩, ⟨e2, re u2, re v2, re x2, i2⟩] = (rightJ ⟨e, re u, re v, re x, i⟩ ↑c.length && (rightJ ⟨e2, re u2, re v2, re x2, i2⟩ (IntKind.i64.wrap (↑c.length + 1)) && true)) := by kernel_rfl
 have hC : concB c n 23 [⟨e, re u, re v, re x, i⟩, ⟨e2, re u2, re v2, re x2, i2⟩] = if (e && (!e2)) = true then some ⟨true, (re u2).putB (re u), (re u2).putB (re v), (re x2).putB (re u), i2⟩ else none := by kernel_rfl
 obtain ⟨zu, zv, zx⟩ := hs.z
 obtain ⟨zu2, zv2, zx2⟩ := hs.tl.z
 cases e with
 | true =>
  cases e2 with
  | true =>
   apply bc (purC c) <;> intro k0
   ·rw [of_p k0]; exact leafF [O] hv (al k0 an)
   apply bc (rightJ ⟨true, re u, re v, re x, i⟩ ↑c.length) <;> intro k1
   ·rw [of_a (by rw [hA, k1] <;> kernel_rfl)]; exact leafF [I,O] hv (al k0 (al k1 an))
   apply bc (rightJ ⟨true, re u2, re v2, re x2, i2⟩ (IntKind.i64.wrap (↑c.length + 1))) <;> intro k2
   ·rw [of_a (by rw [hA, k1, k2] <;> kernel_rfl)]; exact leafF [I,I,O] hv (al k0 (al k1 (al k2 an)))
   have s0 : (re u2).deep ≤ 100000 := by refine Nat.le_trans (deep_le_size _) ?_; (try simp only [re_eq]); (try simp only [Tm.size, sizes]); omega
   have s1 : (re u).deep ≤ 100000 := by refine Nat.le_trans (deep_le_size _) ?_; (try simp only [re_eq]); (try simp only [Tm.size, sizes]); omega
   have s2 : (re v).deep ≤ 100000 := by refine Nat.le_trans (deep_le_size _) ?_; (try simp only [re_eq]); (try simp only [Tm.size, sizes]); omega
   have s3 : (re x2).deep ≤ 100000 := by refine Nat.le_trans (deep_le_size _) ?_; (try simp only [re_eq]); (try simp only [Tm.size, sizes]); omega
   have s4 : (re ((re u2).putB (re u))).size ≤ 10000000 := by rw [re_eq]; exact putB_le (right_u k2).1 (by (try simp only [re_eq]); (try simp only [Tm.size, sizes]); omega) (by (try simp only [re_eq]); (try simp only [Tm.size, sizes]); omega)
   have s5 : (re ((re u2).putB (re v))).size ≤ 10000000 := by rw [re_eq]; exact putB_le (right_u k2).1 (by (try simp only [re_eq]); (try simp only [Tm.size, sizes]); omega) (by (try simp only [re_eq]); (try simp only [Tm.size, sizes]); omega)
   have s6 : (re ((re x2).putB (re u))).size ≤ 10000000 := by rw [re_eq]; exact putB_le (right_u k2).2 (by (try simp only [re_eq]); (try simp only [Tm.size, sizes]); omega) (by (try simp only [re_eq]); (try simp only [Tm.size, sizes]); omega)
   rw [of_t k0 (by rw [hA, k1, k2] <;> kernel_rfl) hC (by kernel_rfl)]; exact leafF [I,I,I] hv (al k0 (al k1 (al k2 (al s0 (al s1 (al s0 (al s2 (al s3 (al s1 an)))))))))
  | false =>
   apply bc (purC c) <;> intro k3
   ·rw [of_p k3]; exact leafF [O] hv (al k3 an)
   apply bc (rightJ ⟨true, re u, re v, re x, i⟩ ↑c.length) <;> intro k4
   ·rw [of_a (by rw [hA, k4] <;> kernel_rfl)]; exact leafF [I,O] hv (al k3 (al k4 an))
   apply bc (rightJ ⟨false, re u2, re v2, re x2, i2⟩ (IntKind.i64.wrap (↑c.length + 1))) <;> intro k5
   ·rw [of_a (by rw [hA, k4, k5] <;> kernel_rfl)]; exact leafF [I,I,O] hv (al k3 (al k4 (al k5 an)))
   have s0 : (re u2).deep ≤ 100000 := by refine Nat.le_trans (deep_le_size _) ?_; (try simp only [re_eq]); (try simp only [Tm.size, sizes]); omega
   have s1 : (re u).deep ≤ 100000 := by refine Nat.le_trans (deep_le_size _) ?_; (try simp only [re_eq]); (try simp only [Tm.size, sizes]); omega
   have s2 : (re v).deep ≤ 100000 := by refine Nat.le_trans (deep_le_size _) ?_; (try simp only [re_eq]); (try simp only [Tm.size, sizes]); omega
   have s3 : (re x2).deep ≤ 100000 := by refine Nat.le_trans (deep_le_size _) ?_; (try simp only [re_eq]); (try simp only [Tm.size, sizes]); omega
   have s4 : (re ((re u2).putB (re u))).size ≤ 10000000 := by rw [re_eq]; exact putB_le (right_u k5).1 (by (try simp only [re_eq]); (try simp only [Tm.size, sizes]); omega) (by (try simp only [re_eq]); (try simp only [Tm.size, sizes]); omega)
   have s5 : (re ((re u2).putB (re v))).size ≤ 10000000 := by rw [re_eq]; exact putB_le (right_u k5).1 (by (try simp only [re_eq]); (try simp only [Tm.size, sizes]); omega) (by (try simp only [re_eq]); (try simp only [Tm.size, sizes]); omega)
   have s6 : (re ((re x2).putB (re u))).size ≤ 10000000 := by rw [re_eq]; exact putB_le (right_u k5).2 (by (try simp only [re_eq]); (try simp only [Tm.size, sizes]); omega) (by (try simp only [re_eq]); (try simp only [Tm.size, sizes]); omega)
   apply bc (decide (i2 > 1000)) <;> intro k6
   ·apply bc ((((re u2).putB (re u)).k == 0)) <;> intro k7
    ·apply bc ((((re x2).putB (re u)).k == 0)) <;> intro k8
     ·apply bc ((((re u2).putB (re v)).k == 0)) <;> intro k9
      ·rw [of_s k3 (by rw [hA, k4, k5] <;> kernel_rfl) hC (by kernel_rfl) (by show (!(decide (i2 > 1000) || (((re u2).putB (re u)).k == 0 || (((re x2).putB (re u)).k == 0 || (true && ((re u2).putB (re v)).k == 0))))) = true; rw [k6, k7, k8, k9] <;> kernel_rfl)]; exact leafS [I,I,I,O,O,O,O] hv (al k3 (al k4 (al k5 (al s0 (al s1 (al s0 (al s2 (al s3 (al s1 (al k6 (al k7 (al k8 (al k9 (al s4 (al s5 (al s6 an))))))))))))))))
      rw [of_o k3 (by rw [hA, k4, k5] <;> kernel_rfl) hC (by show (!(decide (i2 > 1000) || (((re u2).putB (re u)).k == 0 || (((re x2).putB (re u)).k == 0 || (true && ((re u2).putB (re v)).k == 0))))) = false; rw [k6, k7, k8, k9] <;> kernel_rfl)]; exact leafF [I,I,I,O,O,O,I] hv (al k3 (al k4 (al k5 (al s0 (al s1 (al s0 (al s2 (al s3 (al s1 (al k6 (al k7 (al k8 (al k9 an)))))))))))))
     rw [of_o k3 (by rw [hA, k4, k5] <;> kernel_rfl) hC (by show (!(decide (i2 > 1000) || (((re u2).putB (re u)).k == 0 || (((re x2).putB (re u)).k == 0 || (true && ((re u2).putB (re v)).k == 0))))) = false; rw [k6, k7, k8] <;> kernel_rfl)]; exact leafF [I,I,I,O,O,I] hv (al k3 (al k4 (al k5 (al s0 (al s1 (al s0 (al s2 (al s3 (al s1 (al k6 (al k7 (al k8 an))))))))))))
    rw [of_o k3 (by rw [hA, k4, k5] <;> kernel_rfl) hC (by show (!(decide (i2 > 1000) || (((re u2).putB (re u)).k == 0 || (((re x2).putB (re u)).k == 0 || (true && ((re u2).putB (re v)).k == 0))))) = false; rw [k6, k7] <;> kernel_rfl)]; exact leafF [I,I,I,O,I] hv (al k3 (al k4 (al k5 (al s0 (al s1 (al s0 (al s2 (al s3 (al s1 (al k6 (al k7 an)))))))))))
   rw [of_o k3 (by rw [hA, k4, k5] <;> kernel_rfl) hC (by show (!(decide (i2 > 1000) || (((re u2).putB (re u)).k == 0 || (((re x2).putB (re u)).k == 0 || (true && ((re u2).putB (re v)).k == 0))))) = false; rw [k6] <;> kernel_rfl)]; exact leafF [I,I,I,I] hv (al k3 (al k4 (al k5 (al s0 (al s1 (al s0 (al s2 (al s3 (al s1 (al k6 an))))))))))
 | false =>
  apply bc (purC c) <;> intro k10
  ·rw [of_p k10]; exact leafF [O] hv (al k10 an)
  apply bc (rightJ ⟨false, re u, re v, re x, i⟩ ↑c.length) <;> intro k11
  ·rw [of_a (by rw [hA, k11] <;> kernel_rfl)]; exact leafF [I,O] hv (al k10 (al k11 an))
  apply bc (rightJ ⟨e2, re u2, re v2, re x2, i2⟩ (IntKind.i64.wrap (↑c.length + 1))) <;> intro k12
  ·rw [of_a (by rw [hA, k11, k12] <;> kernel_rfl)]; exact leafF [I,I,O] hv (al k10 (al k11 (al k12 an)))
  have s0 : (re u2).deep ≤ 100000 := by refine Nat.le_trans (deep_le_size _) ?_; (try simp only [re_eq]); (try simp only [Tm.size, sizes]); omega
  have s1 : (re u).deep ≤ 100000 := by refine Nat.le_trans (deep_le_size _) ?_; (try simp only [re_eq]); (try simp only [Tm.size, sizes]); omega
  have s2 : (re v).deep ≤ 100000 := by refine Nat.le_trans (deep_le_size _) ?_; (try simp only [re_eq]); (try simp only [Tm.size, sizes]); omega
  have s3 : (re x2).deep ≤ 100000 := by refine Nat.le_trans (deep_le_size _) ?_; (try simp only [re_eq]); (try simp only [Tm.size, sizes]); omega
  have s4 : (re ((re u2).putB (re u))).size ≤ 10000000 := by rw [re_eq]; exact putB_le (right_u k12).1 (by (try simp only [re_eq]); (try simp only [Tm.size, sizes]); omega) (by (try simp only [re_eq]); (try simp only [Tm.size, sizes]); omega)
  have s5 : (re ((re u2).putB (re v))).size ≤ 10000000 := by rw [re_eq]; exact putB_le (right_u k12).1 (by (try simp only [re_eq]); (try simp only [Tm.size, sizes]); omega) (by (try simp only [re_eq]); (try simp only [Tm.size, sizes]); omega)
  have s6 : (re ((re x2).putB (re u))).size ≤ 10000000 := by rw [re_eq]; exact putB_le (right_u k12).2 (by (try simp only [re_eq]); (try simp only [Tm.size, sizes]); omega) (by (try simp only [re_eq]); (try simp only [Tm.size, sizes]); omega)
  rw [of_t k10 (by rw [hA, k11, k12] <;> kernel_rfl) hC (by kernel_rfl)]; exact leafF [I,I,I] hv (al k10 (al k11 (al k12 (al s0 (al s1 (al s0 (al s2 (al s3 (al s1 an)))))))))
set_option maxRecDepth 20000 in
set_option maxHeartbeats 4000000 in
theorem of24_any (c : List En) (n : Int) (e : Bool) (u v x : Tm) (i : Int) (e2 : Bool) (u2 v2 x2 : Tm) (i2 : Int) (hs : Sml c [⟨e, re u, re v, re x, i⟩, ⟨e2, re u2, re v2, re x2, i2⟩]) {w : World} {A : Nat → Prop} {vs : List Value} (hv : F2 (ArgDen w A) (aOf c 24 n [⟨e, re u, re v, re x, i⟩, ⟨e2, re u2, re v2, re x2, i2⟩]) vs) : Calls Try.prog 5 vs.toArray w (GivesO A (ofB c 24 n [⟨e, re u, re v, re x, i⟩, ⟨e2, re u2, re v2, re x2, i2⟩]) w) := by
 have hA : allR c.length 24 0 [⟨e, re u, re v, re x, i⟩, ⟨e2, re u2, re v2, re x2, i2⟩] = (rightJ ⟨e, re u, re v, re x, i⟩ ↑c.length && (rightJ ⟨e2, re u2, re v2, re x2, i2⟩ ↑c.length && true)) := by kernel_rfl
 have hC : concB c n 24 [⟨e, re u, re v, re x, i⟩, ⟨e2, re u2, re v2, re x2, i2⟩] = if (((!e) && (((re x).k == 10) && ((re x).i == i))) && ((!e2) && ((i2 == i) && sameB (re x2) (re x)))) = true then some ⟨true, re u, re u2, re x, i⟩ else none := by kernel_rfl
 obtain ⟨zu, zv, zx⟩ := hs.z
 obtain ⟨zu2, zv2, zx2⟩ := hs.tl.z
 cases e with
 | true =>
  apply bc (purC c) <;> intro k0
  ·rw [of_p k0]; exact leafF [O] hv (al k0 an)
  apply bc (rightJ ⟨true, re u, re v, re x, i⟩ ↑c.length) <;> intro k1
  ·rw [of_a (by rw [hA, k1] <;> kernel_rfl)]; exact leafF [I,O] hv (al k0 (al k1 an))
  apply bc (rightJ ⟨e2, re u2, re v2, re x2, i2⟩ ↑c.length) <;> intro k2
  ·rw [of_a (by rw [hA, k1, k2] <;> kernel_rfl)]; exact leafF [I,I,O] hv (al k0 (al k1 (al k2 an)))
  have s0 : (re u).size ≤ 10000000 := sz1 zu
  have s1 : (re u2).size ≤ 10000000 := sz1 zu2
  have s2 : (re x).size ≤ 10000000 := sz1 zx
  rw [of_t k0 (by rw [hA, k1, k2] <;> kernel_rfl) hC (by kernel_rfl)]; exact leafF [I,I,I] hv (al k0 (al k1 (al k2 an)))
 | false =>
  cases e2 with
  | true =>
   apply bc (purC c) <;> intro k3
   ·rw [of_p k3]; exact leafF [O] hv (al k3 an)
   apply bc (rightJ ⟨false, re u, re v, re x, i⟩ ↑c.length) <;> intro k4
   ·rw [of_a (by rw [hA, k4] <;> kernel_rfl)]; exact leafF [I,O] hv (al k3 (al k4 an))
   apply bc (rightJ ⟨true, re u2, re v2, re x2, i2⟩ ↑c.length) <;> intro k5
   ·rw [of_a (by rw [hA, k4, k5] <;> kernel_rfl)]; exact leafF [I,I,O] hv (al k3 (al k4 (al k5 an)))
   have s0 : (re u).size ≤ 10000000 := sz1 zu
   have s1 : (re u2).size ≤ 10000000 := sz1 zu2
   have s2 : (re x).size ≤ 10000000 := sz1 zx
   apply bc (((re x).k == 10)) <;> intro k6
   ·rw [of_t k3 (by rw [hA, k4, k5] <;> kernel_rfl) hC (by rw [k6] <;> kernel_rfl)]; exact leafF [I,I,I,O] hv (al k3 (al k4 (al k5 (al k6 an))))
   apply bc (((re x).i == i)) <;> intro k7
   ·rw [of_t k3 (by rw [hA, k4, k5] <;> kernel_rfl) hC (by rw [k6, k7] <;> kernel_rfl)]; exact leafF [I,I,I,I,O] hv (al k3 (al k4 (al k5 (al k6 (al k7 an)))))
   rw [of_t k3 (by rw [hA, k4, k5] <;> kernel_rfl) hC (by rw [k6, k7] <;> kernel_rfl)]; exact leafF [I,I,I,I,I] hv (al k3 (al k4 (al k5 (al k6 (al k7 an)))))
  | false =>
   apply bc (purC c) <;> intro k8
   ·rw [of_p k8]; exact leafF [O] hv (al k8 an)
   apply bc (rightJ ⟨false, re u, re v, re x, i⟩ ↑c.length) <;> intro k9
   ·rw [of_a (by rw [hA, k9] <;> kernel_rfl)]; exact leafF [I,O] hv (al k8 (al k9 an))
   apply bc (rightJ ⟨false, re u2, re v2, re x2, i2⟩ ↑c.length) <;> intro k10
   ·rw [of_a (by rw [hA, k9, k10] <;> kernel_rfl)]; exact leafF [I,I,O] hv (al k8 (al k9 (al k10 an)))
   have s0 : (re u).size ≤ 10000000 := sz1 zu
   have s1 : (re u2).size ≤ 10000000 := sz1 zu2
   have s2 : (re x).size ≤ 10000000 := sz1 zx
   apply bc (((re x).k == 10)) <;> intro k11
   ·rw [of_t k8 (by rw [hA, k9, k10] <;> kernel_rfl) hC (by rw [k11] <;> kernel_rfl)]; exact leafF [I,I,I,O] hv (al k8 (al k9 (al k10 (al k11 an))))
   apply bc (((re x).i == i)) <;> intro k12
   ·rw [of_t k8 (by rw [hA, k9, k10] <;> kernel_rfl) hC (by rw [k11, k12] <;> kernel_rfl)]; exact leafF [I,I,I,I,O] hv (al k8 (al k9 (al k10 (al k11 (al k12 an)))))
   apply bc ((i2 == i)) <;> intro k13
   ·rw [of_t k8 (by rw [hA, k9, k10] <;> kernel_rfl) hC (by rw [k11, k12, k13] <;> kernel_rfl)]; exact leafF [I,I,I,I,I,O] hv (al k8 (al k9 (al k10 (al k11 (al k12 (al k13 an))))))
   apply bc (sameB (re x2) (re x)) <;> intro k14
   ·rw [of_t k8 (by rw [hA, k9, k10] <;> kernel_rfl) hC (by rw [k11, k12, k13, k14] <;> kernel_rfl)]; exact leafF [I,I,I,I,I,I,O] hv (al k8 (al k9 (al k10 (al k11 (al k12 (al k13 (al k14 an)))))))
   apply bc (decide (i > 1000)) <;> intro k15
   ·apply bc (((re u).k == 0)) <;> intro k16
    ·apply bc (((re x).k == 0)) <;> intro k17
     ·apply bc (((re u2).k == 0)) <;> intro k18
      ·rw [of_s k8 (by rw [hA, k9, k10] <;> kernel_rfl) hC (by rw [k11, k12, k13, k14] <;> kernel_rfl) (by show (!(decide (i > 1000) || ((re u).k == 0 || ((re x).k == 0 || (true && (re u2).k == 0))))) = true; rw [k15, k16, k17, k18] <;> kernel_rfl)]; exact leafS [I,I,I,I,I,I,I,O,O,O,O] hv (al k8 (al k9 (al k10 (al k11 (al k12 (al k13 (al k14 (al k15 (al k16 (al k17 (al k18 (al s0 (al s1 (al s2 an))))))))))))))
      rw [of_o k8 (by rw [hA, k9, k10] <;> kernel_rfl) hC (by show (!(decide (i > 1000) || ((re u).k == 0 || ((re x).k == 0 || (true && (re u2).k == 0))))) = false; rw [k15, k16, k17, k18] <;> kernel_rfl)]; exact leafF [I,I,I,I,I,I,I,O,O,O,I] hv (al k8 (al k9 (al k10 (al k11 (al k12 (al k13 (al k14 (al k15 (al k16 (al k17 (al k18 an)))))))))))
     rw [of_o k8 (by rw [hA, k9, k10] <;> kernel_rfl) hC (by show (!(decide (i > 1000) || ((re u).k == 0 || ((re x).k == 0 || (true && (re u2).k == 0))))) = false; rw [k15, k16, k17] <;> kernel_rfl)]; exact leafF [I,I,I,I,I,I,I,O,O,I] hv (al k8 (al k9 (al k10 (al k11 (al k12 (al k13 (al k14 (al k15 (al k16 (al k17 an))))))))))
    rw [of_o k8 (by rw [hA, k9, k10] <;> kernel_rfl) hC (by show (!(decide (i > 1000) || ((re u).k == 0 || ((re x).k == 0 || (true && (re u2).k == 0))))) = false; rw [k15, k16] <;> kernel_rfl)]; exact leafF [I,I,I,I,I,I,I,O,I] hv (al k8 (al k9 (al k10 (al k11 (al k12 (al k13 (al k14 (al k15 (al k16 an)))))))))
   rw [of_o k8 (by rw [hA, k9, k10] <;> kernel_rfl) hC (by show (!(decide (i > 1000) || ((re u).k == 0 || ((re x).k == 0 || (true && (re u2).k == 0))))) = false; rw [k15] <;> kernel_rfl)]; exact leafF [I,I,I,I,I,I,I,I] hv (al k8 (al k9 (al k10 (al k11 (al k12 (al k13 (al k14 (al k15 an))))))))
end Go.Proofs.Ytmicgbdcbjajiaa.Se