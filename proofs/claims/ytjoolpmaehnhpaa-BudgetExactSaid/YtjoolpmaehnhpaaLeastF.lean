/-
  The least of some floats: plain facts; a list of floats that is handed in.
-/
import Derived.Test.YtjoolpmaehnhpaaBudgetWithin
import Derived.OpenShut
import Derived.ChangeSlices
namespace Go.Proofs.Ytjoolpmaehnhpaa
open Go.RowKit Go.ChangeShapes Go.WideShapes Go.ChangeAt

def ltB (x y : Nat) : Bool := FloatKind.f64.format.order x y == some .lt
def nanB (x : Nat) : Bool := FloatKind.f64.format.order x x != some .eq
def leastGo : List Nat → Nat → Option Nat
  | [], a => some a
  | f :: l, a => if nanB f = true then none else leastGo l (if ltB f a = true then f else a)
def leastB (l : List Nat) : Nat := match leastGo l 9218868437227405312 with
  | none => 9221120237041090561
  | some a => if (FloatKind.f64.format.order a 0 == some .eq) = true then 0 else a
theorem leastB_none {l : List Nat} (h : leastGo l 9218868437227405312 = none) : leastB l = 9221120237041090561 := by unfold leastB; rw [h]
theorem leastB_zero {l : List Nat} {a : Nat} (h : leastGo l 9218868437227405312 = some a) (h0 : (FloatKind.f64.format.order a 0 == some .eq) = true) : leastB l = 0 := by unfold leastB; rw [h]; exact if_pos h0
theorem leastB_some {l : List Nat} {a : Nat} (h : leastGo l 9218868437227405312 = some a) (h0 : (FloatKind.f64.format.order a 0 == some .eq) = false) : leastB l = a := by unfold leastB; rw [h]; exact if_neg (by rw [h0]; decide)

theorem le_of_not_lt {a b : Ieee.Datum} (ha : a.isNaN = false) (hb : b.isNaN = false) (h : (b.order a == some .lt) = false) : Fl.leD a b = true := by
  have hd : (b.order a).isSome = true := by
    cases a <;> cases b <;> first | rfl | (simp [Ieee.Datum.isNaN] at ha; done) | (simp [Ieee.Datum.isNaN] at hb; done)
  obtain ⟨o, ho⟩ := Option.isSome_iff_exists.1 hd
  rw [← Fl.geD, ho]
  rw [ho] at h
  cases o <;> first | rfl | (revert h; decide)
theorem nan_iff (x : Nat) : nanB x = (Ieee.double.read x).isNaN := by
  show ((Ieee.double.read x).order (Ieee.double.read x) != some .eq) = _
  cases e : Ieee.double.read x with
  | nan s t => rfl
  | infinity s => cases s <;> decide
  | number s m i => simp only [Ieee.Datum.order]; rw [Int.compare_eq_eq.2 rfl]; rfl
theorem within_nan {n : Int} {f : Nat} (h : nanB f = true) : withinB n f = false := by
  cases h2 : withinB n f with
  | false => rfl
  | true => have := within_num h2; unfold nanB at h; rw [h] at this; cases this
theorem within_min {n : Int} {a f : Nat} (ha : nanB a = false) (hf : nanB f = false) : withinB n (if ltB f a = true then f else a) = (withinB n a && withinB n f) := by
  rw [nan_iff] at ha hf
  by_cases h : ltB f a = true
  · rw [if_pos h]
    have hle : Fl.leD (Ieee.double.read f) (Ieee.double.read a) = true := by
      show ((Ieee.double.read f).order (Ieee.double.read a) == some .lt || _) = true
      rw [show ((Ieee.double.read f).order (Ieee.double.read a) == some .lt) = true from h]; rfl
    cases h2 : withinB n f with
    | false => simp
    | true =>
      rw [withinB_eq] at h2
      have := Fl.leD_trans h2 hle
      rw [← withinB_eq] at this
      rw [this]; rfl
  · rw [if_neg h]
    have hle : Fl.leD (Ieee.double.read a) (Ieee.double.read f) = true := le_of_not_lt ha hf (show ltB f a = false by simpa using h)
    cases h2 : withinB n a with
    | false => simp
    | true =>
      rw [withinB_eq] at h2
      have := Fl.leD_trans h2 hle
      rw [← withinB_eq] at this
      rw [this]; rfl
theorem least_go (n : Int) : ∀ (l : List Nat) (a : Nat), nanB a = false → match leastGo l a with
    | none => l.all (withinB n) = false
    | some r => nanB r = false ∧ withinB n r = (withinB n a && l.all (withinB n))
  | [], a, ha => by simp [leastGo, ha]
  | f :: l, a, ha => by
    unfold leastGo
    cases hf : nanB f with
    | true => simp [within_nan hf]
    | false =>
      rw [if_neg (by decide)]
      have hm : nanB (if ltB f a = true then f else a) = false := by split <;> assumption
      have := least_go n l _ hm
      rw [within_min ha hf] at this
      generalize leastGo l (if ltB f a = true then f else a) = o at this ⊢
      cases o with
      | none =>
        have h2 : l.all (withinB n) = false := this
        show (f :: l).all (withinB n) = false
        rw [List.all_cons, h2, Bool.and_false]
      | some r =>
        have h2 : nanB r = false ∧ withinB n r = (withinB n a && withinB n f && l.all (withinB n)) := this
        exact ⟨h2.1, by rw [h2.2, List.all_cons, Bool.and_assoc]⟩
theorem within_inf (n : Int) (hn : n.natAbs ≤ 2 ^ 64) : withinB n 9218868437227405312 = true := by
  obtain ⟨s, m, i, e⟩ := fi_num n hn
  rw [withinB_eq]
  rw [show Fl.fi n = .number s m i from e, show Ieee.double.read 9218868437227405312 = .infinity false by decide +kernel]
  rfl
theorem within_least (n : Int) (hn : n.natAbs ≤ 2 ^ 64) (l : List Nat) : withinB n (leastB l) = l.all (withinB n) := by
  have h := least_go n l 9218868437227405312 (by decide +kernel)
  rw [within_inf n hn, Bool.true_and] at h
  cases e : leastGo l 9218868437227405312 with
  | none =>
    rw [e] at h
    rw [leastB_none e, h]
    exact within_nan (by decide +kernel)
  | some a =>
    rw [e] at h
    cases h0 : (FloatKind.f64.format.order a 0 == some .eq) with
    | false => rw [leastB_some e h0]; exact h.2
    | true =>
      rw [leastB_zero e h0, ← h.2]
      have l1 : Fl.leD (Ieee.double.read a) (Ieee.double.read 0) = true := by
        show (_ || (Ieee.double.read a).order (Ieee.double.read 0) == some .eq) = true
        rw [show ((Ieee.double.read a).order (Ieee.double.read 0) == some .eq) = true from h0]; simp
      have l2 : Fl.leD (Ieee.double.read 0) (Ieee.double.read a) = true := by
        rw [← Fl.geD]
        rw [show ((Ieee.double.read a).order (Ieee.double.read 0) == some .eq) = true from h0]; simp
      cases h1 : withinB n 0 with
      | true => rw [withinB_eq] at h1 ⊢; exact (Fl.leD_trans h1 l2).symm
      | false =>
        cases h2 : withinB n a with
        | false => rfl
        | true => rw [withinB_eq] at h1 h2; rw [Fl.leD_trans h2 l1] at h1; cases h1

/-- A list of floats lies here. -/
structure LiesF (w : World) (l : List Nat) (s : Value) : Prop where
  out : ∃ (a : Option Addr) (cap : Nat), s = .slice a l.length cap ∧ l.length ≤ cap ∧ cap ≤ maxLen ∧ ∀ i (h : i < l.length), ∃ b o, a = some ⟨b, o, none⟩ ∧ w.cell? ⟨b, o + i, none⟩ = some (.float .f64 l[i])
theorem cells_float : Try.prog.cellsOf 22 = 1 := by kernel_rfl
theorem trod_float {H : Type} {enc : TypeId × Value → H} {w : World} {base : Nat} {sp : Nat → Bool} {hd : Bool} {fuel : Nat} {c : Value} {y : DataW H × List MemPlace} (h : DataW.trod enc Try.prog w base sp hd fuel 22 [c] = some y) : ∃ n, c = .float .f64 n := by
  cases fuel with
  | zero => simp [DataW.trod] at h
  | succ fuel =>
    cases c <;> simp [DataW.trod, Try.underlying22] at h
    rename_i k n
    obtain ⟨⟨rfl, _⟩, rfl⟩ := h
    exact ⟨n, rfl⟩
theorem add_plain' (b o k : Nat) : (⟨b, o, none⟩ : Addr).add k = ⟨b, o + k, none⟩ := by unfold Addr.add; split <;> simp_all
set_option maxRecDepth 100000 in
theorem open_argF {H : Type} {enc : TypeId × Value → H} {W : World} {r : Reach} {b0 base : Nat} {sp : Nat → Bool} {hd : Bool} {v : Value} {d : DataW H} {p : List MemPlace} (hv : Value.okWide Try.prog W r b0 37 v)
    (h : DataW.Trod enc Try.prog W base sp hd 37 v d p) : ∃ l : List Nat, LiesF W l v := by
  obtain ⟨a0, len0, cap0, rfl⟩ := okWide_slice Try.underlying37 hv
  obtain ⟨fuel, hf⟩ := h
  rcases DataW.trod_slice Try.underlying37 hf with ⟨e4, -⟩ | ⟨a, len, cap, elems, rest, n', rfl, e4, -, hb, hlc, hm, hlen', hel, -, -⟩
  · simp [Value.cells] at e4
    obtain ⟨rfl, rfl, rfl⟩ := e4
    exact ⟨[], ⟨none, 0, rfl, Nat.le_refl _, by decide, fun i hi => by simp at hi⟩⟩
  · simp [Value.cells] at e4
    obtain ⟨rfl, rfl, rfl⟩ := e4
    have key : ∀ i, i < len0 → ∃ b o n, a = ⟨b, o, none⟩ ∧ W.cell? ⟨b, o + i, none⟩ = some (.float .f64 n) := by
      intro i hi
      have h1 := hel i hi
      rw [cells_float, List.getElem?_eq_getElem (by omega)] at h1
      obtain ⟨cs', h2, h3⟩ := Option.bind_eq_some_iff.1 h1
      obtain ⟨-, hl, hcell⟩ := World.cells?_some h2
      obtain ⟨c, rfl⟩ : ∃ c, cs' = [c] := by
        match cs', hl with
        | [c], _ => exact ⟨c, rfl⟩
      obtain ⟨n, rfl⟩ := trod_float h3
      have h4 := hcell 0 (by omega)
      have hs : a.spot = none := by
        have h5 := hel 0 (by omega)
        rw [cells_float, List.getElem?_eq_getElem (by omega)] at h5
        obtain ⟨cs0, h6, -⟩ := Option.bind_eq_some_iff.1 h5
        obtain ⟨-, hl0, hc0⟩ := World.cells?_some h6
        have c0 := hc0 0 (by omega)
        rw [List.getElem?_eq_getElem (by omega)] at c0
        simpa [Addr.add] using World.cell?_spot c0
      obtain ⟨b, o, spot⟩ := a
      simp only at hs
      subst hs
      refine ⟨b, o, n, rfl, ?_⟩
      rw [add_plain', add_plain'] at h4
      simpa using h4
    refine ⟨(List.range len0).map fun i => if h : i < len0 then (key i h).choose_spec.choose_spec.choose else 0, ⟨some a, cap0, by simp, by simpa using hlc, hm, fun i hi => ?_⟩⟩
    have hi' : i < len0 := by simpa using hi
    obtain ⟨b, o, n, ha, hc⟩ := key i hi'
    refine ⟨b, o, by rw [ha], ?_⟩
    simp only [List.getElem_map, List.getElem_range, dif_pos hi']
    have hsp := (key i hi').choose_spec.choose_spec.choose_spec
    have hb1 : (⟨b, o, none⟩ : Addr) = ⟨(key i hi').choose, (key i hi').choose_spec.choose, none⟩ := ha.symm.trans hsp.1
    have e1 : b = (key i hi').choose := congrArg Addr.block hb1
    have e2 : o = (key i hi').choose_spec.choose := congrArg Addr.off hb1
    rw [e1, e2]
    exact hsp.2
end Go.Proofs.Ytjoolpmaehnhpaa
