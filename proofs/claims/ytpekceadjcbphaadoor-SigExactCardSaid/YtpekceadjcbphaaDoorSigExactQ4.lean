/-
  Facts and contracts that the proof of SigExact uses.
-/
import Derived.Lib.ItoaNum
import Derived.Lib.ItoaLen
import Derived.Test.YtpekceadjcbphaaDoorRows
import Derived.WalkKit
import Derived.Lib.Hide
import Derived.ProofKit
import Derived.LoopTactic
import Derived.Below
import Derived.IntWalk
import Derived.Lib.Strings
import Derived.Laws.Strings2
import Derived.Deep.AppendLies
import Derived.Laws.Rows
import Derived.OwnWalk
import Derived.KernelRfl
import Derived.Deep.RegionHeld3
import Derived.Lib.Builder
import Derived.WalkSmall
import Derived.Maps.GroupsBeside
import Derived.Maps.StringElems
import Derived.Laws.OwnMore
import Derived.Deep.RegionLaw
import Derived.Maps.AppendAt
import Derived.Deep.Cut
import Derived.Deep.DeepCutAuto
import Derived.Maps.OwnOps
import Derived.Maps.OwnSet
import Derived.Lib.MinMax
import Derived.Laws.IdiomCopy
import Derived.Deep.Slices
import Derived.Lib.QuietBelow
import Derived.StillTailTactics
import Derived.BigQuiet
import Derived.Deep.RegionWith
import Derived.OrdersHeld
import Derived.Recover
import Derived.RegionTactic
import Derived.Defers
import Derived.Laws.StructEq
import GoSem.Core.Float
import Derived.Laws.Cover2
import Derived.Laws.FloatArith
import Derived.Laws.Externs
import Derived.Deep.QuietTactic
import Derived.Deep.CutBlock
import Derived.Deep.LoopGhost
import Derived.Test.YtpekceadjcbphaaDoorShelf
import Derived.Lib.AppendIntMem
import Derived.Lib.LaidTab
import Derived.OpenShut
import Derived.Carry
import Derived.LaidMore
import Derived.LaidSub
import Derived.LaidHandle
import Derived.Stop.Joined
import Derived.JoinedOf
import Derived.Test.YtpekceadjcbphaaDoorCards
import Derived.Test.YtpekceadjcbphaaDoorTie
import Derived.SevenTiedAt
import Derived.ChangeMaps5
import Derived.Test.YtpekceadjcbphaaDoorSigExactQ3
namespace Go.Proofs.YtpekceadjcbphaaDoor.Dv

def kindAt (L : List Tok) (p : Nat) : Nat := (L[p]?.map (·.k)).getD 0
def wordAt (L : List Tok) (p : Nat) : List UInt8 := (L[p]?.map (·.s)).getD []
def placeAt (L : List Tok) (E : Nat) (p : Nat) : Nat := (L[p]?.map (·.at_)).getD E
/-- The page's parser: where it stands, the token at fault, the nodes used up, the allowance at an end (0: none, 1: deep, 2: nodes). -/
structure XS where
  p : Nat
  bad : Option Nat
  n : Nat
  word : Nat
def XS.fail (s : XS) : XS := match s.bad with
  | none => { s with bad := some s.p }
  | some _ => s
def XS.next (s : XS) : XS := { s with p := s.p + 1 }
def wantX (L : List Tok) (k : Nat) (s : XS) : List UInt8 × XS := match s.bad with
  | some _ => ([], s)
  | none => if kindAt L s.p = k then (wordAt L s.p, s.next) else ([], s.fail)
abbrev DX := Nat → XS → Tm × XS
def zeroX : Tm := .mk 0 0 []
def kidsX (dx : DX) (d : Nat) : Nat → XS → List Tm × XS
  | 0, s => ([], s)
  | c + 1, s => ((dx d s).1 :: (kidsX dx d c (dx d s).2).1, (kidsX dx d c (dx d s).2).2)
def numX (L : List Tok) (r : Int) (s : XS) : Int × XS :=
  if r = 1 ∨ r = 2 then ((((getB (wantX L 4 s).1).getD 0 : Nat) : Int), (wantX L 4 s).2) else (0, s)
/-- Behind the word of a rule. -/
def restX (L : List Tok) (dx : DX) (d : Nat) (r : Int) (s : XS) : Tm × XS :=
  (.mk r (numX L r s).1 (kidsX dx (d + 1) (dkidsN r).toNat (numX L r s).2).1, (wantX L 2 (kidsX dx (d + 1) (dkidsN r).toNat (numX L r s).2).2).2)
/-- What the one reads beside what the other reads. -/
def SameX {α β : Type} (L : List Tok) (E : Nat) (g : α → β) (x : Except PF (α × Nat × List Tok)) (y : β × XS) : Prop := match x with
  | .ok (t, u, r) => y.1 = g t ∧ y.2.bad = none ∧ y.2.n = u ∧ y.2.word = 0 ∧ L.drop y.2.p = r
  | .error (k, a) => ∃ b, y.2.bad = some b ∧ placeAt L E b = a ∧ y.2.word = k
theorem kind_cons {L : List Tok} {E p : Nat} {t : Tok} {r : List Tok} (h : L.drop p = t :: r) : kindAt L p = t.k ∧ wordAt L p = t.s ∧ placeAt L E p = t.at_ ∧ L.drop (p + 1) = r := by
  have h1 : L[p]? = some t := by
    have := List.getElem?_drop (xs := L) (i := p) (j := 0)
    rw [h] at this
    simpa using this.symm
  refine ⟨by simp [kindAt, h1], by simp [wordAt, h1], by simp [placeAt, h1], ?_⟩
  have : L.drop (p + 1) = (L.drop p).drop 1 := by rw [List.drop_drop]
  rw [this, h]; rfl
theorem kind_nil {L : List Tok} {p : Nat} (h : L.drop p = []) : kindAt L p = 0 ∧ ∀ E, placeAt L E p = E := by
  have h1 : L[p]? = none := by
    rw [List.getElem?_eq_none]
    simpa using h
  exact ⟨by simp [kindAt, h1], fun E => by simp [placeAt, h1]⟩
theorem want_is {L : List Tok} {E k : Nat} (hk : k ≠ 0) (s : XS) (hb : s.bad = none) : match takeT E k (L.drop s.p) with
    | .ok (t, r) => wantX L k s = (t.s, s.next) ∧ L.drop (s.p + 1) = r ∧ kindAt L s.p = k ∧ wordAt L s.p = t.s
    | .error a => wantX L k s = ([], { s with bad := some s.p }) ∧ placeAt L E s.p = a ∧ (kindAt L s.p ≠ k) := by
  cases h : L.drop s.p with
  | nil =>
    obtain ⟨h1, h2⟩ := kind_nil h
    simp only [takeT]
    refine ⟨?_, h2 E, by rw [h1]; exact fun e => hk e.symm⟩
    unfold wantX XS.fail
    rw [hb]
    simp only
    rw [if_neg (by rw [h1]; exact fun e => hk e.symm)]
  | cons t r =>
    obtain ⟨h1, h2, h3, h4⟩ := kind_cons (E := E) h
    simp only [takeT]
    by_cases hc : t.k = k
    · rw [if_pos hc]
      refine ⟨?_, h4, by rw [h1, hc], h2⟩
      unfold wantX
      rw [hb]
      simp only
      rw [if_pos (by rw [h1, hc]), h2]
    · rw [if_neg hc]
      refine ⟨?_, h3, by rw [h1]; exact hc⟩
      unfold wantX XS.fail
      rw [hb]
      simp only
      rw [if_neg (by rw [h1]; exact hc)]
theorem want_bad {L : List Tok} {k b : Nat} {s : XS} (h : s.bad = some b) : wantX L k s = ([], s) := by unfold wantX; rw [h]
def Sticks (dx : DX) : Prop := ∀ d s b, s.bad = some b → dx d s = (zeroX, s)
theorem kidsX_sticks {dx : DX} (h : Sticks dx) {d : Nat} : ∀ {c : Nat} {s : XS} {b : Nat}, s.bad = some b → (kidsX dx d c s).2 = s
  | 0, s, b, hb => rfl
  | c + 1, s, b, hb => by
    unfold kidsX
    rw [h d s b hb]
    exact kidsX_sticks h hb
/-- Where it stands the one reads as the other. -/
def DXOk (L : List Tok) (E : Nat) (dp : DP) (dx : DX) : Prop := ∀ d (s : XS), s.bad = none → s.word = 0 → SameX L E id (dp d s.n (L.drop s.p)) (dx d s)
theorem kidsX_ok {L : List Tok} {E : Nat} {dp : DP} {dx : DX} (hs : Sticks dx) (h : DXOk L E dp dx) {d : Nat} : ∀ {c : Nat} {s : XS}, s.bad = none → s.word = 0 → SameX L E id (kidsD dp d c s.n (L.drop s.p)) (kidsX dx d c s)
  | 0, s, hb, hw => ⟨rfl, hb, rfl, hw, rfl⟩
  | c + 1, s, hb, hw => by
    have h1 := h d s hb hw
    unfold kidsD kidsX
    cases hx : dp d s.n (L.drop s.p) with
    | error p =>
      obtain ⟨k, a⟩ := p
      rw [hx] at h1
      obtain ⟨b, e1, e2, e3⟩ := h1
      exact ⟨b, by dsimp only; rw [kidsX_sticks hs e1]; exact e1, e2, by dsimp only; rw [kidsX_sticks hs e1]; exact e3⟩
    | ok q =>
      obtain ⟨t, u, r⟩ := q
      rw [hx] at h1
      obtain ⟨e1, e2, e3, e4, e5⟩ := h1
      have h2 := kidsX_ok hs h (d := d) (c := c) e2 e4
      rw [e3, e5] at h2
      dsimp only
      cases hy : kidsD dp d c u r with
      | error p =>
        obtain ⟨k, a⟩ := p
        rw [hy] at h2
        exact h2
      | ok q =>
        obtain ⟨l, u2, r2⟩ := q
        rw [hy] at h2
        obtain ⟨g1, g2, g3, g4, g5⟩ := h2
        exact ⟨by dsimp only; rw [e1, g1]; rfl, g2, g3, g4, g5⟩
theorem restX_ok {L : List Tok} {E : Nat} {dp : DP} {dx : DX} (hs : Sticks dx) (h : DXOk L E dp dx) {d : Nat} {R : Int} {s : XS} (hb : s.bad = none) (hw : s.word = 0) : SameX L E id (match numD E R (L.drop s.p) with
    | .error e => .error e
    | .ok (n, r2) => match kidsD dp (d + 1) (dkidsN R).toNat s.n r2 with
      | .error e => .error e
      | .ok (l, u2, r3) => match takeT E 2 r3 with
        | .error e => .error (0, e)
        | .ok (_, r4) => .ok (.mk R n l, u2, r4)) (restX L dx d R s) := by
  have hn : match numD E R (L.drop s.p) with
      | .error (k, a) => k = 0 ∧ ∃ b, (numX L R s).2.bad = some b ∧ placeAt L E b = a ∧ (numX L R s).2.word = 0
      | .ok (n, r2) => (numX L R s).1 = n ∧ (numX L R s).2.bad = none ∧ (numX L R s).2.n = s.n ∧ (numX L R s).2.word = 0 ∧ L.drop (numX L R s).2.p = r2 := by
    by_cases hR : R = 1 ∨ R = 2
    · simp only [numD, numX, if_pos hR]
      have h1 := want_is (L := L) (E := E) (k := 4) (by decide) s hb
      cases hx : takeT E 4 (L.drop s.p) with
      | error a =>
        rw [hx] at h1
        obtain ⟨e1, e2, -⟩ := h1
        exact ⟨rfl, s.p, by rw [e1], e2, by rw [e1]; exact hw⟩
      | ok q =>
        obtain ⟨t, r⟩ := q
        rw [hx] at h1
        obtain ⟨e1, e2, -⟩ := h1
        exact ⟨by rw [e1], by rw [e1]; exact hb, by rw [e1]; rfl, by rw [e1]; exact hw, by rw [e1]; exact e2⟩
    · simp only [numD, numX, if_neg hR]
      exact ⟨trivial, hb, trivial, hw, trivial⟩
  unfold restX
  generalize numX L R s = z at hn
  cases hx : numD E R (L.drop s.p) with
  | error p =>
    obtain ⟨k, a⟩ := p
    rw [hx] at hn
    obtain ⟨rfl, b, e1, e2, e3⟩ := hn
    have e4 := kidsX_sticks hs (d := d + 1) (c := (dkidsN R).toNat) e1
    refine ⟨b, ?_, e2, ?_⟩
    · dsimp only; rw [e4, want_bad e1]; exact e1
    · dsimp only; rw [e4, want_bad e1]; exact e3
  | ok q =>
    obtain ⟨n, r2⟩ := q
    rw [hx] at hn
    obtain ⟨e1, e2, e3, e4, e5⟩ := hn
    have hk := kidsX_ok hs h (d := d + 1) (c := (dkidsN R).toNat) e2 e4
    rw [e3, e5] at hk
    dsimp only
    generalize kidsX dx (d + 1) (dkidsN R).toNat z.2 = y at hk
    cases hy : kidsD dp (d + 1) (dkidsN R).toNat s.n r2 with
    | error p =>
      obtain ⟨k, a⟩ := p
      rw [hy] at hk
      obtain ⟨b, g1, g2, g3⟩ := hk
      refine ⟨b, ?_, g2, ?_⟩
      · dsimp only; rw [want_bad g1]; exact g1
      · dsimp only; rw [want_bad g1]; exact g3
    | ok q =>
      obtain ⟨l, u2, r3⟩ := q
      rw [hy] at hk
      obtain ⟨g1, g2, g3, g4, g5⟩ := hk
      have h1 := want_is (L := L) (E := E) (k := 2) (by decide) y.2 g2
      rw [g5] at h1
      dsimp only
      cases ht : takeT E 2 r3 with
      | error a =>
        rw [ht] at h1
        obtain ⟨k1, k2, -⟩ := h1
        exact ⟨y.2.p, by dsimp only; rw [k1], k2, by dsimp only; rw [k1]; exact g4⟩
      | ok q =>
        obtain ⟨t, r⟩ := q
        rw [ht] at h1
        obtain ⟨k1, k2, -⟩ := h1
        exact ⟨by dsimp only; rw [e1, g1]; rfl, by dsimp only; rw [k1]; exact g2, by dsimp only; rw [k1]; exact g3, by dsimp only; rw [k1]; exact g4, by dsimp only; rw [k1]; exact k2⟩
theorem here_place {L : List Tok} {E p : Nat} : placeAt L E p = hereT E (L.drop p) := by
  cases h : L.drop p with
  | nil => exact (kind_nil h).2 E
  | cons t r => exact (kind_cons (E := E) h).2.2.1
end Go.Proofs.YtpekceadjcbphaaDoor.Dv

namespace Go.Proofs.YtpekceadjcbphaaDoor.Rt
open Dv (XS kindAt wordAt placeAt wantX kind_cons kind_nil want_is want_bad here_place)

def sucW : List UInt8 := [115, 117, 99]
def maxW : List UInt8 := [109, 97, 120]
def failAt (q : Nat) (s : XS) : XS := match s.bad with
  | none => { s with bad := some q }
  | some _ => s
/-- A level's list behind its bracket. -/
def levQ (lx : XS → Int × XS) (L : List Tok) (s : XS) : Int × XS :=
  if kindAt L s.p = 3 ∧ (wordAt L s.p = sucW ∨ wordAt L s.p = maxW) then
    (if wordAt L s.p = sucW then ((lx s.next).1 + 1, (wantX L 2 (lx s.next).2).2)
    else (max (lx s.next).1 (lx (lx s.next).2).1, (wantX L 2 (lx (lx s.next).2).2).2))
  else (0, s.fail)
def levN (lx : XS → Int × XS) (L : List Tok) (i j : Int) (s : XS) : Int × XS :=
  if kindAt L s.p = 4 then ((((getB (wordAt L s.p)).getD 0 : Nat) : Int), s.next)
  else if kindAt L s.p = 3 ∧ wordAt L s.p = [105] then (i, s.next)
  else if kindAt L s.p = 3 ∧ wordAt L s.p = [106] then (j, s.next)
  else if kindAt L s.p = 1 then levQ lx L s.next
  else (0, s.fail)
def levE (p0 : Nat) (x : Int × XS) : Int × XS :=
  if (if 1000 < x.1 then failAt p0 x.2 else x.2).bad = none then (x.1, if 1000 < x.1 then failAt p0 x.2 else x.2) else (0, if 1000 < x.1 then failAt p0 x.2 else x.2)
def levX (L : List Tok) (i j : Int) : Nat → XS → Int × XS
  | 0, s => (0, s.fail)
  | f + 1, s => match s.bad with
    | some _ => (0, s)
    | none => levE s.p (levN (levX L i j f) L i j s)
abbrev TX := Int → Names → XS → Tm × XS
/-- The kids from the p-th on, c of them; x: the names that are pushed. -/
def kidsX (tx : TX) (L : List Tok) (k own : Int) : Names → Nat → Nat → Names → XS → List Tm × XS
  | _, _, 0, _, s => ([], s)
  | x, p, c + 1, N, s =>
    let s0 := if k = 22 ∧ p = 2 then (wantX L 3 (wantX L 3 s).2).2 else s
    let x0 := if k = 22 ∧ p = 2 then [(wantX L 3 (wantX L 3 s).2).1, (wantX L 3 s).1] else x
    let t := tx (if k = 12 ∧ p = 2 then 2 else own) (if bindsN k p = 0 then N else x0 ++ N) s0
    let l := kidsX tx L k own x0 (p + 1) c N t.2
    (t.1 :: l.1, l.2)
def ownS (k : Int) : Int := if k ≤ 12 then 1 else 2
/-- Behind the word of a list, and behind the symbol of a use. -/
def restX (lx : XS → Int × XS) (tx : TX) (L : List Tok) (k n : Int) (N : Names) (s : XS) : Tm × XS :=
  let a := if 0 < levelsN k then lx s else (0, s)
  let b := if 1 < levelsN k then lx a.2 else (0, a.2)
  let x := if bindsN k 1 = 1 then wantX L 3 b.2 else ([], b.2)
  let kd := kidsX tx L k (ownS k) (if bindsN k 1 = 1 then [x.1] else []) 0 (kidsN k n).toNat N x.2
  (.mk k a.1 b.1 n kd.1, (wantX L 2 kd.2).2)
def bodyX (lx : XS → Int × XS) (tx : TX) (L : List Tok) (k : Int) (N : Names) (s : XS) : Tm × XS :=
  if k = 23 then (if kindAt L s.p = 3 ∧ symN (wordAt L s.p) ≠ 0 then restX lx tx L k (symN (wordAt L s.p)) N s.next else (Tm.zero, s.fail))
  else restX lx tx L k 0 N s
def listK (L : List Tok) (so : Int) (s : XS) : Int :=
  if kindAt L s.p = 3 ∧ ¬ (headN (wordAt L s.p) = 0 ∨ (sortN (headN (wordAt L s.p)) ≠ 0 ∧ so ≠ 0 ∧ sortN (headN (wordAt L s.p)) ≠ so)) then headN (wordAt L s.p) else 0
def termX (L : List Tok) (i j : Int) : Nat → TX
  | 0, _, _, s => (Tm.zero, s.fail)
  | f + 1, so, N, s => match s.bad with
    | some _ => (Tm.zero, s)
    | none => if kindAt L s.p = 3 then (match idxL (wordAt L s.p) N with
        | some q => (.mk 2 q 0 0 [], s.next)
        | none => (Tm.zero, s.fail))
      else if kindAt L s.p = 1 then
        (if listK L so s.next = 0 then (Tm.zero, s.next.fail) else bodyX (levX L i j f) (termX L i j f) L (listK L so s.next) N s.next.next)
      else (Tm.zero, s.fail)

/-- What the one reads beside what the other reads. -/
def SameR {α : Type} (L : List Tok) (E : Nat) (x : Except Nat (α × List Tok)) (y : α × XS) : Prop := match x with
  | .ok (t, r) => y.1 = t ∧ y.2.bad = none ∧ L.drop y.2.p = r
  | .error a => ∃ b, y.2.bad = some b ∧ placeAt L E b = a
def StickL (lx : XS → Int × XS) : Prop := ∀ s b, s.bad = some b → lx s = (0, s)
theorem levX_sticks (L : List Tok) (i j : Int) : ∀ f, StickL (levX L i j f)
  | 0 => fun s b h => by unfold levX XS.fail; rw [h]
  | f + 1 => fun s b h => by unfold levX; rw [h]
theorem fail_none {s : XS} (h : s.bad = none) : s.fail.bad = some s.p := by unfold XS.fail; rw [h]
theorem want_2 {L : List Tok} {k b : Nat} {s : XS} (h : s.bad = some b) : (wantX L k s).2 = s := by rw [want_bad h]
def LvOk (L : List Tok) (E : Nat) (lv : List Tok → Except Nat (Int × List Tok)) (lx : XS → Int × XS) : Prop := ∀ s : XS, s.bad = none → SameR L E (lv (L.drop s.p)) (lx s)
theorem levQ_ok {L : List Tok} {E : Nat} {lv : List Tok → Except Nat (Int × List Tok)} {lx : XS → Int × XS} (hs : StickL lx) (h : LvOk L E lv lx) {s : XS} (hb : s.bad = none) : SameR L E (numQ lv E (L.drop s.p)) (levQ lx L s) := by
  unfold numQ levQ
  have h1 := want_is (L := L) (E := E) (k := 3) (by decide) s hb
  cases hx : takeT E 3 (L.drop s.p) with
  | error a =>
    rw [hx] at h1
    obtain ⟨-, e2, e3⟩ := h1
    rw [if_neg (fun e => e3 e.1)]
    exact ⟨s.p, fail_none hb, e2⟩
  | ok q =>
    obtain ⟨t, r⟩ := q
    have hpl : placeAt L E s.p = t.at_ := (kind_cons (E := E) (takeT_eq hx).1).2.2.1
    rw [hx] at h1
    obtain ⟨-, e2, e3, e4⟩ := h1
    rw [e4]
    dsimp only
    have hn := h s.next hb
    rw [show s.next.p = s.p + 1 from rfl, e2] at hn
    by_cases w1 : t.s = sucW
    · rw [if_pos (show t.s = [115, 117, 99] from w1), if_pos (show kindAt L s.p = 3 ∧ (t.s = sucW ∨ t.s = maxW) from ⟨e3, Or.inl w1⟩), if_pos w1]
      cases hy : lv r with
      | error a =>
        rw [hy] at hn
        obtain ⟨b, g1, g2⟩ := hn
        exact ⟨b, by dsimp only; rw [want_2 g1]; exact g1, g2⟩
      | ok q =>
        obtain ⟨n, r3⟩ := q
        rw [hy] at hn
        obtain ⟨g1, g2, g3⟩ := hn
        have h2 := want_is (L := L) (E := E) (k := 2) (by decide) (lx s.next).2 g2
        rw [g3] at h2
        dsimp only
        cases hz : takeT E 2 r3 with
        | error a =>
          rw [hz] at h2
          obtain ⟨k1, k2, -⟩ := h2
          exact ⟨(lx s.next).2.p, by dsimp only; rw [k1], k2⟩
        | ok q =>
          obtain ⟨t2, r4⟩ := q
          rw [hz] at h2
          obtain ⟨k1, k2, -⟩ := h2
          exact ⟨by dsimp only; rw [g1], by dsimp only; rw [k1]; exact g2, by dsimp only; rw [k1]; exact k2⟩
    · by_cases w2 : t.s = maxW
      · rw [if_neg (show ¬ t.s = [115, 117, 99] from w1), if_pos (show t.s = [109, 97, 120] from w2), if_pos (show kindAt L s.p = 3 ∧ (t.s = sucW ∨ t.s = maxW) from ⟨e3, Or.inr w2⟩), if_neg w1]
        cases hy : lv r with
        | error a =>
          rw [hy] at hn
          obtain ⟨b, g1, g2⟩ := hn
          exact ⟨b, by dsimp only; rw [hs _ _ g1]; dsimp only; rw [want_2 g1]; exact g1, g2⟩
        | ok q =>
          obtain ⟨n, r3⟩ := q
          rw [hy] at hn
          obtain ⟨g1, g2, g3⟩ := hn
          have hm := h (lx s.next).2 g2
          rw [g3] at hm
          dsimp only
          cases hy2 : lv r3 with
          | error a =>
            rw [hy2] at hm
            obtain ⟨b, k1, k2⟩ := hm
            exact ⟨b, by dsimp only; rw [want_2 k1]; exact k1, k2⟩
          | ok q =>
            obtain ⟨m, r4⟩ := q
            rw [hy2] at hm
            obtain ⟨k1, k2, k3⟩ := hm
            have h2 := want_is (L := L) (E := E) (k := 2) (by decide) (lx (lx s.next).2).2 k2
            rw [k3] at h2
            dsimp only
            cases hz : takeT E 2 r4 with
            | error a =>
              rw [hz] at h2
              obtain ⟨m1, m2, -⟩ := h2
              exact ⟨(lx (lx s.next).2).2.p, by dsimp only; rw [m1], m2⟩
            | ok q =>
              obtain ⟨t2, r5⟩ := q
              rw [hz] at h2
              obtain ⟨m1, m2, -⟩ := h2
              exact ⟨by dsimp only; rw [g1, k1], by dsimp only; rw [m1]; exact k2, by dsimp only; rw [m1]; exact m2⟩
      · rw [if_neg (show ¬ t.s = [115, 117, 99] from w1), if_neg (show ¬ t.s = [109, 97, 120] from w2), if_neg (show ¬ (kindAt L s.p = 3 ∧ (t.s = sucW ∨ t.s = maxW)) from fun e => e.2.elim w1 w2)]
        exact ⟨s.p, fail_none hb, hpl⟩
theorem drop_kind {L : List Tok} {p : Nat} : (L.drop p = [] ∧ kindAt L p = 0 ∧ ∀ E, placeAt L E p = E) ∨ ∃ t r, L.drop p = t :: r ∧ kindAt L p = t.k ∧ wordAt L p = t.s ∧ (∀ E, placeAt L E p = t.at_) ∧ L.drop (p + 1) = r := by
  cases h : L.drop p with
  | nil => exact Or.inl ⟨rfl, kind_nil h⟩
  | cons t r =>
    obtain ⟨h1, h2, -, h4⟩ := kind_cons (E := 0) h
    exact Or.inr ⟨t, r, rfl, h1, h2, fun E => (kind_cons (E := E) h).2.2.1, h4⟩
theorem levN_ok {L : List Tok} {E : Nat} {i j : Int} {lv : List Tok → Except Nat (Int × List Tok)} {lx : XS → Int × XS} (hs : StickL lx) (h : LvOk L E lv lx) {s : XS} (hb : s.bad = none) : SameR L E (numP lv E i j (L.drop s.p)) (levN lx L i j s) := by
  rcases drop_kind (L := L) (p := s.p) with ⟨h0, h1, h2⟩ | ⟨t, r, h0, h1, h2, h3, h4⟩
  · rw [h0]
    unfold numP levN
    rw [h1]
    dsimp only
    simp only [show ¬ (0 : Nat) = 4 by omega, show ¬ (0 : Nat) = 3 by omega, show ¬ (0 : Nat) = 1 by omega, false_and, if_false]
    exact ⟨s.p, fail_none hb, h2 E⟩
  · rw [h0]
    unfold numP levN
    rw [h1, h2]
    dsimp only
    have err : SameR L E (.error t.at_ : Except Nat (Int × List Tok)) ((0 : Int), s.fail) := ⟨s.p, fail_none hb, h3 E⟩
    have okn : ∀ n : Int, SameR L E (.ok (n, r)) (n, s.next) := fun n => ⟨rfl, hb, h4⟩
    by_cases k4 : t.k = 4
    · rw [if_pos k4, if_pos k4]; exact okn _
    · rw [if_neg k4, if_neg k4]
      by_cases k3 : t.k = 3
      · rw [if_pos k3]
        by_cases w1 : t.s = [105]
        · rw [if_pos w1, if_pos (show t.k = 3 ∧ t.s = [105] from ⟨k3, w1⟩)]; exact okn _
        · rw [if_neg w1, if_neg (show ¬ (t.k = 3 ∧ t.s = [105]) from fun e => w1 e.2)]
          by_cases w2 : t.s = [106]
          · rw [if_pos w2, if_pos (show t.k = 3 ∧ t.s = [106] from ⟨k3, w2⟩)]; exact okn _
          · rw [if_neg w2, if_neg (show ¬ (t.k = 3 ∧ t.s = [106]) from fun e => w2 e.2), if_neg (show ¬ t.k = 1 by omega)]; exact err
      · rw [if_neg k3, if_neg (show ¬ (t.k = 3 ∧ t.s = [105]) from fun e => k3 e.1), if_neg (show ¬ (t.k = 3 ∧ t.s = [106]) from fun e => k3 e.1)]
        by_cases k1 : t.k = 1
        · rw [if_pos k1, if_pos k1]
          have := levQ_ok hs h (s := s.next) hb
          rw [show s.next.p = s.p + 1 from rfl, h4] at this
          exact this
        · rw [if_neg k1, if_neg k1]; exact err
theorem levX_ok {L : List Tok} {E : Nat} {i j : Int} : ∀ f, LvOk L E (levelP E i j f) (levX L i j f)
  | 0 => fun s hb => ⟨s.p, fail_none hb, here_place⟩
  | f + 1 => fun s hb => by
    have h := levN_ok (i := i) (j := j) (levX_sticks L i j f) (levX_ok (E := E) f) hb
    unfold levelP levX
    rw [hb]
    dsimp only
    generalize levN (levX L i j f) L i j s = y at h
    cases hx : numP (levelP E i j f) E i j (L.drop s.p) with
    | error a =>
      rw [hx] at h
      obtain ⟨b, h1, h2⟩ := h
      have hf : (if 1000 < y.1 then failAt s.p y.2 else y.2) = y.2 := by
        split
        · unfold failAt; rw [h1]
        · rfl
      refine ⟨b, ?_, h2⟩
      unfold levE
      rw [hf, if_neg (by rw [h1]; simp)]
      exact h1
    | ok q =>
      obtain ⟨n, r⟩ := q
      rw [hx] at h
      obtain ⟨h1, h2, h3⟩ := h
      dsimp only
      unfold levE
      rw [h1]
      by_cases hn : 1000 < n
      · rw [if_pos hn]
        simp only [if_pos hn]
        have hf : (failAt s.p y.2).bad = some s.p := by unfold failAt; rw [h2]
        rw [if_neg (by rw [hf]; simp)]
        exact ⟨s.p, hf, here_place⟩
      · rw [if_neg hn]
        simp only [if_neg hn]
        rw [if_pos h2]
        exact ⟨rfl, h2, h3⟩
def StickT (tx : TX) : Prop := ∀ so N s b, s.bad = some b → tx so N s = (Tm.zero, s)
theorem termX_sticks (L : List Tok) (i j : Int) : ∀ f, StickT (termX L i j f)
  | 0 => fun so N s b h => by unfold termX XS.fail; rw [h]
  | f + 1 => fun so N s b h => by unfold termX; rw [h]
theorem kidsX_sticks {tx : TX} (hs : StickT tx) {L : List Tok} {k own : Int} : ∀ {c p : Nat} {x N : Names} {s : XS} {b : Nat}, s.bad = some b → (kidsX tx L k own x p c N s).2 = s
  | 0, p, x, N, s, b, h => rfl
  | c + 1, p, x, N, s, b, h => by
    unfold kidsX
    dsimp only
    have e : (if k = 22 ∧ p = 2 then (wantX L 3 (wantX L 3 s).2).2 else s) = s := by
      split
      · rw [want_2 h, want_2 h]
      · rfl
    rw [e, hs _ _ _ _ h]
    exact kidsX_sticks hs h
def TxOk (L : List Tok) (E : Nat) (tp : Int → Names → List Tok → Except Nat (Tm × List Tok)) (tx : TX) : Prop := ∀ so N (s : XS), s.bad = none → SameR L E (tp so N (L.drop s.p)) (tx so N s)
theorem kidsX_ok {L : List Tok} {E : Nat} {tp : Int → Names → List Tok → Except Nat (Tm × List Tok)} {tx : TX} (hs : StickT tx) (h : TxOk L E tp tx) {k own : Int} (hk : k ≠ 22) {X : List UInt8} {x : Names} (hX : ∀ q : Nat, bindsN k q ≠ 0 → x = [X]) {N : Names} :
    ∀ {c p : Nat} {s : XS}, s.bad = none → SameR L E (kidsP tp k own X p c N (L.drop s.p)) (kidsX tx L k own x p c N s)
  | 0, p, s, hb => ⟨rfl, hb, rfl⟩
  | c + 1, p, s, hb => by
    unfold kidsP kidsX
    dsimp only
    simp only [show ¬ (k = 22 ∧ p = 2) from fun e => hk e.1, if_false]
    have eN : (if bindsN k p = 0 then N else x ++ N) = (if bindsN k p = 0 then N else X :: N) := by
      split
      · rfl
      · rename_i e
        rw [hX p e]; rfl
    rw [eN]
    have h1 := h (if k = 12 ∧ p = 2 then 2 else own) (if bindsN k p = 0 then N else X :: N) s hb
    cases hx : tp (if k = 12 ∧ p = 2 then 2 else own) (if bindsN k p = 0 then N else X :: N) (L.drop s.p) with
    | error a =>
      rw [hx] at h1
      obtain ⟨b, e1, e2⟩ := h1
      exact ⟨b, by dsimp only; rw [kidsX_sticks hs e1]; exact e1, e2⟩
    | ok q =>
      obtain ⟨t, r⟩ := q
      rw [hx] at h1
      obtain ⟨e1, e2, e3⟩ := h1
      have h2 := kidsX_ok hs h hk hX (N := N) (own := own) (c := c) (p := p + 1) e2
      rw [e3] at h2
      dsimp only
      cases hy : kidsP tp k own X (p + 1) c N r with
      | error a =>
        rw [hy] at h2
        exact h2
      | ok q =>
        obtain ⟨l, r2⟩ := q
        rw [hy] at h2
        obtain ⟨g1, g2, g3⟩ := h2
        exact ⟨by dsimp only; rw [e1, g1], g2, g3⟩
/-- One reading behind another. -/
theorem SameR.bind {α β : Type} {L : List Tok} {E : Nat} {x : Except Nat (α × List Tok)} {y : α × XS} (h : SameR L E x y) {f : α → List Tok → Except Nat (β × List Tok)} {g : α × XS → β × XS} (hok : ∀ r, x = .ok (y.1, r) → y.2.bad = none → L.drop y.2.p = r → SameR L E (f y.1 r) (g y)) (hbad : ∀ b, y.2.bad = some b → (g y).2 = y.2) :
    SameR L E (match x with | .error e => .error e | .ok (a, r) => f a r) (g y) := by
  cases x with
  | error a =>
    obtain ⟨b, e1, e2⟩ := h
    exact ⟨b, by rw [hbad b e1]; exact e1, e2⟩
  | ok q =>
    obtain ⟨t, r⟩ := q
    obtain ⟨e1, e2, e3⟩ := h
    subst e1
    exact hok r rfl e2 e3
end Go.Proofs.YtpekceadjcbphaaDoor.Rt

namespace Go.Proofs.YtpekceadjcbphaaDoor.Rt
open Dv (XS kindAt wordAt placeAt wantX kind_cons kind_nil want_is want_bad here_place)

/-- The kids of a J behind the second. -/
theorem kidsJ_ok {L : List Tok} {E : Nat} {tp : Int → Names → List Tok → Except Nat (Tm × List Tok)} {tx : TX} (hs : StickT tx) (h : TxOk L E tp tx) {N : Names} {s : XS} (hb : s.bad = none) : SameR L E (kidsJ tp E N (L.drop s.p)) (kidsX tx L 22 2 [] 0 6 N s) := by
  have st : ∀ {x : Names} {p c : Nat} {s' : XS} {b : Nat}, s'.bad = some b → (kidsX tx L 22 2 x p c N s').2 = s' := fun e => kidsX_sticks hs e
  unfold kidsJ
  -- the first
  have e0 : kidsX tx L 22 2 [] 0 6 N s = ((tx 2 N s).1 :: (kidsX tx L 22 2 [] 1 5 N (tx 2 N s).2).1, (kidsX tx L 22 2 [] 1 5 N (tx 2 N s).2).2) := by
    rw [kidsX]
    simp
  rw [e0]
  have h0 := h 2 N s hb
  generalize tx 2 N s = y0 at h0
  cases hx0 : tp 2 N (L.drop s.p) with
  | error a =>
    rw [hx0] at h0
    obtain ⟨b, g1, g2⟩ := h0
    exact ⟨b, by dsimp only; rw [st g1]; exact g1, g2⟩
  | ok q =>
  obtain ⟨a, r1⟩ := q
  rw [hx0] at h0
  obtain ⟨g1, g2, g3⟩ := h0
  dsimp only
  -- the second
  have e1 : kidsX tx L 22 2 [] 1 5 N y0.2 = ((tx 2 N y0.2).1 :: (kidsX tx L 22 2 [] 2 4 N (tx 2 N y0.2).2).1, (kidsX tx L 22 2 [] 2 4 N (tx 2 N y0.2).2).2) := by
    rw [kidsX]
    simp
  rw [e1]
  have h1 := h 2 N y0.2 g2
  rw [g3] at h1
  generalize tx 2 N y0.2 = y1 at h1
  cases hx1 : tp 2 N r1 with
  | error a =>
    rw [hx1] at h1
    obtain ⟨b, k1, k2⟩ := h1
    exact ⟨b, by dsimp only; rw [st k1]; exact k1, k2⟩
  | ok q =>
  obtain ⟨u, r2⟩ := q
  rw [hx1] at h1
  obtain ⟨k1, k2, k3⟩ := h1
  dsimp only
  -- the names
  have e2 : kidsX tx L 22 2 [] 2 4 N y1.2 = ((tx 2 ([(wantX L 3 (wantX L 3 y1.2).2).1, (wantX L 3 y1.2).1] ++ N) (wantX L 3 (wantX L 3 y1.2).2).2).1 :: (kidsX tx L 22 2 [(wantX L 3 (wantX L 3 y1.2).2).1, (wantX L 3 y1.2).1] 3 3 N (tx 2 ([(wantX L 3 (wantX L 3 y1.2).2).1, (wantX L 3 y1.2).1] ++ N) (wantX L 3 (wantX L 3 y1.2).2).2).2).1, (kidsX tx L 22 2 [(wantX L 3 (wantX L 3 y1.2).2).1, (wantX L 3 y1.2).1] 3 3 N (tx 2 ([(wantX L 3 (wantX L 3 y1.2).2).1, (wantX L 3 y1.2).1] ++ N) (wantX L 3 (wantX L 3 y1.2).2).2).2).2) := by
    rw [kidsX]
    simp [show bindsN 22 2 = 2 from rfl]
  rw [e2]
  have w1 := want_is (L := L) (E := E) (k := 3) (by decide) y1.2 k2
  rw [k3] at w1
  cases hw1 : takeT E 3 r2 with
  | error a =>
    rw [hw1] at w1
    obtain ⟨m1, m2, -⟩ := w1
    have mb : ({ y1.2 with bad := some y1.2.p } : XS).bad = some y1.2.p := rfl
    refine ⟨y1.2.p, ?_, m2⟩
    dsimp only
    rw [m1, want_2 mb, hs _ _ _ _ mb, st mb]
  | ok q =>
  obtain ⟨yt, r3⟩ := q
  rw [hw1] at w1
  obtain ⟨m1, m2, -⟩ := w1
  dsimp only
  rw [m1]
  dsimp only
  have w2 := want_is (L := L) (E := E) (k := 3) (by decide) y1.2.next k2
  rw [show y1.2.next.p = y1.2.p + 1 from rfl, m2] at w2
  cases hw2 : takeT E 3 r3 with
  | error a =>
    rw [hw2] at w2
    obtain ⟨n1, n2, -⟩ := w2
    generalize wantX L 3 y1.2.next = z at n1
    have mb : z.2.bad = some (y1.2.p + 1) := by rw [n1]
    refine ⟨y1.2.p + 1, ?_, n2⟩
    dsimp only
    rw [hs _ _ _ _ mb, st mb]
    exact mb
  | ok q =>
  obtain ⟨zt, r4⟩ := q
  rw [hw2] at w2
  obtain ⟨n1, n2, -⟩ := w2
  rw [n1]
  dsimp only
  -- the third
  have h2 := h 2 ([zt.s, yt.s] ++ N) y1.2.next.next k2
  rw [show y1.2.next.next.p = y1.2.p + 1 + 1 from rfl, show L.drop (y1.2.p + 1 + 1) = r4 from n2] at h2
  rw [show (zt.s :: yt.s :: N) = [zt.s, yt.s] ++ N from rfl]
  generalize tx 2 ([zt.s, yt.s] ++ N) y1.2.next.next = y2 at h2
  cases hx2 : tp 2 ([zt.s, yt.s] ++ N) r4 with
  | error a =>
    rw [hx2] at h2
    obtain ⟨b, p1, p2⟩ := h2
    exact ⟨b, by dsimp only; rw [st p1]; exact p1, p2⟩
  | ok q =>
  obtain ⟨pt, r5⟩ := q
  rw [hx2] at h2
  obtain ⟨p1, p2, p3⟩ := h2
  dsimp only
  generalize [zt.s, yt.s] = X
  -- the fourth
  have e3 : kidsX tx L 22 2 X 3 3 N y2.2 = ((tx 2 N y2.2).1 :: (kidsX tx L 22 2 X 4 2 N (tx 2 N y2.2).2).1, (kidsX tx L 22 2 X 4 2 N (tx 2 N y2.2).2).2) := by
    rw [kidsX]
    simp [show bindsN 22 3 = 0 from rfl]
  rw [e3]
  have h3 := h 2 N y2.2 p2
  rw [p3] at h3
  generalize tx 2 N y2.2 = y3 at h3
  cases hx3 : tp 2 N r5 with
  | error a =>
    rw [hx3] at h3
    obtain ⟨b, q1, q2⟩ := h3
    exact ⟨b, by dsimp only; rw [st q1]; exact q1, q2⟩
  | ok q =>
  obtain ⟨qt, r6⟩ := q
  rw [hx3] at h3
  obtain ⟨q1, q2, q3⟩ := h3
  dsimp only
  have e4 : kidsX tx L 22 2 X 4 2 N y3.2 = ((tx 2 N y3.2).1 :: (kidsX tx L 22 2 X 5 1 N (tx 2 N y3.2).2).1, (kidsX tx L 22 2 X 5 1 N (tx 2 N y3.2).2).2) := by
    rw [kidsX]
    simp [show bindsN 22 4 = 0 from rfl]
  rw [e4]
  have h4 := h 2 N y3.2 q2
  rw [q3] at h4
  generalize tx 2 N y3.2 = y4 at h4
  cases hx4 : tp 2 N r6 with
  | error a =>
    rw [hx4] at h4
    obtain ⟨b, t1, t2⟩ := h4
    exact ⟨b, by dsimp only; rw [st t1]; exact t1, t2⟩
  | ok q =>
  obtain ⟨vt, r7⟩ := q
  rw [hx4] at h4
  obtain ⟨t1, t2, t3⟩ := h4
  dsimp only
  have e5 : kidsX tx L 22 2 X 5 1 N y4.2 = ([(tx 2 N y4.2).1], (tx 2 N y4.2).2) := by
    rw [kidsX]
    simp [show bindsN 22 5 = 0 from rfl, kidsX]
  rw [e5]
  have h5 := h 2 N y4.2 t2
  rw [t3] at h5
  generalize tx 2 N y4.2 = y5 at h5
  cases hx5 : tp 2 N r7 with
  | error a =>
    rw [hx5] at h5
    exact h5
  | ok q =>
  obtain ⟨xt, r8⟩ := q
  rw [hx5] at h5
  obtain ⟨z1, z2, z3⟩ := h5
  exact ⟨by dsimp only; rw [g1, k1, p1, q1, t1, z1], z2, z3⟩
theorem binds_one (k : Int) : (bindsN k 1 = 1 ↔ 0 < bindsN k 1) ∧ (k ≠ 22 → ∀ q : Nat, bindsN k q ≠ 0 → bindsN k 1 = 1) := by
  unfold bindsN
  refine ⟨?_, fun hk q hq => ?_⟩
  · (repeat' split) <;> simp_all
  · (repeat' split at hq) <;> (first | omega | (rw [if_neg (by omega)]; rw [if_pos (by omega)]; done) | (rw [if_pos (by omega)]; done) | simp_all)
theorem lv_ok {L : List Tok} {E : Nat} {lv : List Tok → Except Nat (Int × List Tok)} {lx : XS → Int × XS} (h : LvOk L E lv lx) (c : Prop) [Decidable c] {s : XS} (hb : s.bad = none) : SameR L E (if c then lv (L.drop s.p) else .ok (0, L.drop s.p)) (if c then lx s else (0, s)) := by
  by_cases hc : c
  · rw [if_pos hc, if_pos hc]; exact h s hb
  · rw [if_neg hc, if_neg hc]; exact ⟨rfl, hb, rfl⟩
theorem restX_ok {L : List Tok} {E : Nat} {lv : List Tok → Except Nat (Int × List Tok)} {lx : XS → Int × XS} {tp : Int → Names → List Tok → Except Nat (Tm × List Tok)} {tx : TX} (hsl : StickL lx) (hl : LvOk L E lv lx) (hst : StickT tx) (ht : TxOk L E tp tx) {k n : Int} (hk3 : kidsN k n ≤ 0 ∨ 3 ≤ k) {N : Names} {s : XS} (hb : s.bad = none) :
    SameR L E (match lvaP lv k (L.drop s.p) with
      | .error e => .error e
      | .ok (i, r2) => match lvbP lv k r2 with
        | .error e => .error e
        | .ok (j, r3) => match kdsP tp E k n N r3 with
          | .error e => .error e
          | .ok (l, r4) => match takeT E 2 r4 with
            | .error e => .error e
            | .ok (_, r5) => .ok (.mk k i j n l, r5)) (restX lx tx L k n N s) := by
  have stick : ∀ {x : XS} {b : Nat}, x.bad = some b → (wantX L 2 (kidsX tx L k (ownS k) (if bindsN k 1 = 1 then [(if bindsN k 1 = 1 then wantX L 3 x else ([], x)).1] else []) 0 (kidsN k n).toNat N (if bindsN k 1 = 1 then wantX L 3 x else ([], x)).2).2).2 = x := by
    intro x b e
    have e1 : (if bindsN k 1 = 1 then wantX L 3 x else ([], x)).2 = x := by
      split
      · exact want_2 e
      · rfl
    rw [e1, kidsX_sticks hst e, want_2 e]
  unfold restX
  have h1 := lv_ok hl (0 < levelsN k) hb
  unfold lvaP
  dsimp only
  generalize (if 0 < levelsN k then lx s else (0, s)) = a at h1
  cases hx1 : (if 0 < levelsN k then lv (L.drop s.p) else .ok (0, L.drop s.p)) with
  | error e =>
    rw [hx1] at h1
    obtain ⟨b, g1, g2⟩ := h1
    have e2 : (if 1 < levelsN k then lx a.2 else ((0 : Int), a.2)).2 = a.2 := by
      split
      · rw [hsl _ _ g1]
      · rfl
    refine ⟨b, ?_, g2⟩
    dsimp only
    rw [e2, stick g1]
    exact g1
  | ok q =>
  obtain ⟨i, r2⟩ := q
  rw [hx1] at h1
  obtain ⟨g1, g2, g3⟩ := h1
  dsimp only
  have h2 := lv_ok hl (1 < levelsN k) g2
  rw [g3] at h2
  unfold lvbP
  generalize (if 1 < levelsN k then lx a.2 else ((0 : Int), a.2)) = bb at h2
  cases hx2 : (if 1 < levelsN k then lv r2 else .ok (0, r2)) with
  | error e =>
    rw [hx2] at h2
    obtain ⟨b, k1, k2⟩ := h2
    refine ⟨b, ?_, k2⟩
    dsimp only
    rw [stick k1]
    exact k1
  | ok q =>
  obtain ⟨j, r3⟩ := q
  rw [hx2] at h2
  obtain ⟨k1, k2, k3⟩ := h2
  dsimp only
  have hkd : SameR L E (kdsP tp E k n N r3) (kidsX tx L k (ownS k) (if bindsN k 1 = 1 then [(if bindsN k 1 = 1 then wantX L 3 bb.2 else ([], bb.2)).1] else []) 0 (kidsN k n).toNat N (if bindsN k 1 = 1 then wantX L 3 bb.2 else ([], bb.2)).2) := by
    unfold kdsP
    by_cases h22 : k = 22
    · subst h22
      rw [if_pos rfl]
      have hb1 : ¬ bindsN 22 1 = 1 := by decide
      rw [if_neg hb1]
      simp only [if_neg hb1]
      have hkn : (kidsN 22 n).toNat = 6 := rfl
      rw [hkn, show ownS 22 = 2 from rfl]
      have := kidsJ_ok hst ht (N := N) k2
      rw [k3] at this
      exact this
    · rw [if_neg h22]
      unfold kidsK
      by_cases h0 : kidsN k n ≤ 0
      · rw [if_pos h0, show (kidsN k n).toNat = 0 by omega]
        by_cases hb1 : bindsN k 1 = 1
        · exfalso
          unfold bindsN at hb1
          unfold kidsN at h0
          split at hb1
          · (repeat' split at h0) <;> omega
          · split at hb1
            · (repeat' split at h0) <;> omega
            · omega
        · simp only [if_neg hb1]
          exact ⟨rfl, k2, k3⟩
      · rw [if_neg h0]
        have hown : ownS k = sortN k := by
          have h3 : 3 ≤ k := hk3.resolve_left h0
          unfold ownS sortN
          rw [if_neg (by omega : ¬ k ≤ 2)]
        rw [hown]
        by_cases hb1 : bindsN k 1 = 1
        · rw [if_pos ((binds_one k).1.1 hb1)]
          simp only [if_pos hb1]
          have w1 := want_is (L := L) (E := E) (k := 3) (by decide) bb.2 k2
          rw [k3] at w1
          cases hw : takeT E 3 r3 with
          | error e =>
            rw [hw] at w1
            obtain ⟨m1, m2, -⟩ := w1
            refine ⟨bb.2.p, ?_, m2⟩
            rw [m1]
            dsimp only
            rw [kidsX_sticks (b := bb.2.p) hst rfl]
          | ok q =>
            obtain ⟨x, r⟩ := q
            rw [hw] at w1
            obtain ⟨m1, m2, -⟩ := w1
            rw [m1]
            dsimp only
            have := kidsX_ok hst ht (own := sortN k) h22 (X := x.s) (x := [x.s]) (fun _ _ => rfl) (N := N) (c := (kidsN k n).toNat) (p := 0) (s := bb.2.next) k2
            rw [show bb.2.next.p = bb.2.p + 1 from rfl, m2] at this
            exact this
        · rw [if_neg (fun e => hb1 ((binds_one k).1.2 e))]
          simp only [if_neg hb1]
          have := kidsX_ok hst ht (own := sortN k) h22 (X := []) (x := []) (fun q hq => absurd ((binds_one k).2 h22 q hq) hb1) (N := N) (c := (kidsN k n).toNat) (p := 0) (s := bb.2) k2
          rw [k3] at this
          exact this
  generalize kidsX tx L k (ownS k) (if bindsN k 1 = 1 then [(if bindsN k 1 = 1 then wantX L 3 bb.2 else ([], bb.2)).1] else []) 0 (kidsN k n).toNat N (if bindsN k 1 = 1 then wantX L 3 bb.2 else ([], bb.2)).2 = kd at hkd
  cases hx3 : kdsP tp E k n N r3 with
  | error e =>
    rw [hx3] at hkd
    obtain ⟨b, m1, m2⟩ := hkd
    exact ⟨b, by dsimp only; rw [want_2 m1]; exact m1, m2⟩
  | ok q =>
  obtain ⟨l, r4⟩ := q
  rw [hx3] at hkd
  obtain ⟨m1, m2, m3⟩ := hkd
  dsimp only
  have w2 := want_is (L := L) (E := E) (k := 2) (by decide) kd.2 m2
  rw [m3] at w2
  cases hw : takeT E 2 r4 with
  | error e =>
    rw [hw] at w2
    obtain ⟨n1, n2, -⟩ := w2
    exact ⟨kd.2.p, by dsimp only; rw [n1], n2⟩
  | ok q =>
    obtain ⟨z, r5⟩ := q
    rw [hw] at w2
    obtain ⟨n1, n2, -⟩ := w2
    exact ⟨by dsimp only; rw [g1, k1, m1], by dsimp only; rw [n1]; exact m2, by dsimp only; rw [n1]; exact n2⟩
theorem head_small {w : List UInt8} : headN w = 0 ∨ headN w = 1 ∨ 3 ≤ headN w := by
  unfold headN
  split
  · exact Or.inr (Or.inl rfl)
  · cases idxL w (headsW.drop 3) with
    | none => exact Or.inl rfl
    | some i => right; right; show 3 ≤ (i : Int) + 3; omega
theorem bodyX_ok {L : List Tok} {E : Nat} {lv : List Tok → Except Nat (Int × List Tok)} {lx : XS → Int × XS} {tp : Int → Names → List Tok → Except Nat (Tm × List Tok)} {tx : TX} (hsl : StickL lx) (hl : LvOk L E lv lx) (hst : StickT tx) (ht : TxOk L E tp tx) {k : Int} (hk : k = 1 ∨ 3 ≤ k) {N : Names} {s : XS} (hb : s.bad = none) : SameR L E (bodyP lv tp E k N (L.drop s.p)) (bodyX lx tx L k N s) := by
  have hk3 : ∀ n, kidsN k n ≤ 0 ∨ 3 ≤ k := fun n => by
    rcases hk with h | h
    · subst h; exact Or.inl (by unfold kidsN; simp)
    · exact Or.inr h
  unfold bodyP bodyX symP
  by_cases h23 : k = 23
  · rw [if_pos h23, if_pos h23]
    have w := want_is (L := L) (E := E) (k := 3) (by decide) s hb
    cases hx : takeT E 3 (L.drop s.p) with
    | error e =>
      rw [hx] at w
      obtain ⟨-, e2, e3⟩ := w
      rw [if_neg (fun e => e3 e.1)]
      exact ⟨s.p, fail_none hb, e2⟩
    | ok q =>
      obtain ⟨t, r⟩ := q
      have hpl : placeAt L E s.p = t.at_ := (kind_cons (E := E) (takeT_eq hx).1).2.2.1
      rw [hx] at w
      obtain ⟨-, e2, e3, e4⟩ := w
      rw [e4]
      dsimp only
      by_cases h0 : symN t.s = 0
      · rw [if_pos h0, if_neg (fun e => e.2 h0)]
        exact ⟨s.p, fail_none hb, hpl⟩
      · rw [if_neg h0, if_pos ⟨e3, h0⟩]
        have := restX_ok hsl hl hst ht (k := k) (n := symN t.s) (hk3 _) (N := N) (s := s.next) hb
        rw [show s.next.p = s.p + 1 from rfl, e2] at this
        exact this
  · rw [if_neg h23, if_neg h23]
    exact restX_ok hsl hl hst ht (hk3 _) hb
theorem termX_ok {L : List Tok} {E : Nat} {i j : Int} : ∀ f, TxOk L E (termP E i j f) (termX L i j f)
  | 0 => fun so N s hb => ⟨s.p, fail_none hb, here_place⟩
  | f + 1 => fun so N s hb => by
    unfold termX
    rw [hb]
    dsimp only
    rcases drop_kind (L := L) (p := s.p) with ⟨h0, h1, h2⟩ | ⟨t, r, h0, h1, h2, h3, h4⟩
    · rw [h0, h1]
      unfold termP
      rw [if_neg (by omega), if_neg (by omega)]
      exact ⟨s.p, fail_none hb, h2 E⟩
    · rw [h0, h1, h2]
      unfold termP
      by_cases k1 : t.k = 1
      · rw [if_pos k1, if_neg (show ¬ t.k = 3 by omega), if_pos k1]
        unfold listP
        have w := want_is (L := L) (E := E) (k := 3) (by decide) s.next hb
        rw [show s.next.p = s.p + 1 from rfl, h4] at w
        cases hx : takeT E 3 r with
        | error e =>
          rw [hx] at w
          obtain ⟨-, e2, e3⟩ := w
          rw [if_pos (show listK L so s.next = 0 from if_neg (fun e => e3 e.1))]
          exact ⟨s.p + 1, fail_none (s := s.next) hb, e2⟩
        | ok q =>
          obtain ⟨w1, r1⟩ := q
          have hpl : placeAt L E (s.p + 1) = w1.at_ := (kind_cons (E := E) (h4.trans (takeT_eq hx).1)).2.2.1
          rw [hx] at w
          obtain ⟨-, e2, e3, e4⟩ := w
          dsimp only
          by_cases hc : headN w1.s = 0 ∨ (sortN (headN w1.s) ≠ 0 ∧ so ≠ 0 ∧ sortN (headN w1.s) ≠ so)
          · rw [if_pos hc, if_pos (show listK L so s.next = 0 from if_neg (fun e => e.2 (by rw [show s.next.p = s.p + 1 from rfl, e4]; exact hc)))]
            exact ⟨s.p + 1, fail_none (s := s.next) hb, hpl⟩
          · have hlk : listK L so s.next = headN w1.s := by
              unfold listK
              rw [show s.next.p = s.p + 1 from rfl, e4, if_pos ⟨e3, hc⟩]
            rw [if_neg hc, hlk]
            have hne : headN w1.s ≠ 0 := fun e => hc (Or.inl e)
            rw [if_neg hne]
            have := bodyX_ok (levX_sticks L i j f) (levX_ok (E := E) f) (termX_sticks L i j f) (termX_ok (E := E) f) (k := headN w1.s) (head_small.resolve_left hne) (N := N) (s := s.next.next) hb
            rw [show s.next.next.p = s.p + 1 + 1 from rfl, e2] at this
            exact this
      · rw [if_neg k1]
        by_cases k3 : t.k = 3
        · rw [if_pos k3, if_pos k3]
          cases idxL t.s N with
          | none => exact ⟨s.p, fail_none hb, h3 E⟩
          | some q => exact ⟨rfl, hb, h4⟩
        · rw [if_neg k3, if_neg k3, if_neg k1]
          exact ⟨s.p, fail_none hb, h3 E⟩
end Go.Proofs.YtpekceadjcbphaaDoor.Rt

namespace Go.Proofs.YtpekceadjcbphaaDoor.Dv

def startX : XS := ⟨0, none, 0, 0⟩
end Go.Proofs.YtpekceadjcbphaaDoor.Dv

namespace Go.Proofs.YtpekceadjcbphaaDoor.Dv

theorem kind_in {L : List Tok} {p : Nat} (h : kindAt L p ≠ 0) : p < L.length := by
  by_cases hl : p < L.length
  · exact hl
  · exact absurd (by simp [kindAt, List.getElem?_eq_none (by omega : L.length ≤ p)]) h
structure InvX (L : List Tok) (s : XS) : Prop where
  wd : s.word ≠ 0 → ∃ b, s.bad = some b ∧ b < L.length
  n0 : s.bad = none → s.n ≤ s.p
  n1 : s.n ≤ s.p + 1
  p1 : s.p ≤ L.length + 1
  bd : ∀ b, s.bad = some b → b ≤ L.length + 1
theorem InvX.start (L : List Tok) : InvX L startX := ⟨fun h => absurd rfl h, fun _ => Nat.le_refl _, by decide, Nat.zero_le _, fun b h => (by cases h)⟩
theorem InvX.word0 {L : List Tok} {s : XS} (h : InvX L s) (hb : s.bad = none) : s.word = 0 := by
  by_cases hw : s.word = 0
  · exact hw
  · obtain ⟨b, e, -⟩ := h.wd hw; rw [hb] at e; cases e
theorem InvX.fail {L : List Tok} {s : XS} (h : InvX L s) : InvX L s.fail := by
  unfold XS.fail
  cases hb : s.bad with
  | some b => exact h
  | none => exact ⟨fun hw => absurd (h.word0 hb) hw, fun e => (by cases e), h.n1, h.p1, fun b e => (by cases e; exact h.p1)⟩
theorem InvX.next {L : List Tok} {s : XS} (h : InvX L s) (hb : s.bad = none) (hp : s.p ≤ L.length) : InvX L s.next :=
  ⟨fun hw => absurd (h.word0 hb) hw, fun _ => Nat.le_trans (h.n0 hb) (Nat.le_succ _), Nat.le_succ_of_le h.n1, (show s.p + 1 ≤ L.length + 1 by omega), fun b e => h.bd b e⟩
theorem InvX.want {L : List Tok} {k : Nat} (hk : k ≠ 0) {s : XS} (h : InvX L s) : InvX L (wantX L k s).2 := by
  unfold wantX
  cases hb : s.bad with
  | some b => exact h
  | none =>
    simp only
    split
    · rename_i e
      exact h.next hb (Nat.le_of_lt (kind_in (by rw [e]; exact hk)))
    · exact h.fail
def KeepX (L : List Tok) (dx : DX) : Prop := ∀ d s, InvX L s → InvX L (dx d s).2
theorem kidsX_keep {L : List Tok} {dx : DX} (hd : KeepX L dx) {d : Nat} : ∀ {c : Nat} {s : XS}, InvX L s → InvX L (kidsX dx d c s).2
  | 0, s, h => h
  | c + 1, s, h => by
    show InvX L (kidsX dx d c (dx d s).2).2
    exact kidsX_keep hd (hd d s h)
end Go.Proofs.YtpekceadjcbphaaDoor.Dv

namespace Go.Proofs.YtpekceadjcbphaaDoor.Dv
open Go.RowKit

theorem LiesP.out {w : World} {P : Nat → Prop} {l : List Tm} {s : Value} (h : LiesP w P l s) : ∃ (a : Option Addr) (cap : Nat), s = .slice a l.length cap ∧ l.length ≤ cap ∧ cap ≤ maxLen := by
  cases h with
  | mk l a cap S hc hm hf hn hk => exact ⟨a, cap, rfl, hc, hm⟩

end Go.Proofs.YtpekceadjcbphaaDoor.Dv

namespace Go.Proofs.YtpekceadjcbphaaDoor.Dv
open Go.RowKit

theorem hltD {w : World} {b : Nat} {o : Obj} (h : w.heap[b]? = some o) : b < w.heap.size := (Array.getElem?_eq_some_iff.1 h).1
theorem typeD {w : World} {b : Nat} {cs cs' : Array Value} {T T' : TypeId} {fz fz' : Nat × Nat} (h : w.heap[b]? = some (Obj.cells cs T fz)) (k : w.heap[b]? = some (Obj.cells cs' T' fz')) : T = T' := by
  rw [h] at k; injection k with k; injection k
/-- The constants of a parsing: where its blocks lie, the allowances, the end of the text. -/
structure PC where
  B : Nat
  P : Nat
  S : Nat
  G : Nat
  deep : Nat
  nodes : Nat
  E : Nat
  br : Bool
theorem drewN_grown (w : World) : ∀ k, w.grownBy (w.drewN k) none
  | 0 => ⟨rfl, rfl, rfl, Nat.le_refl _, fun _ _ _ => rfl⟩
  | k + 1 => by
    have h := drewN_grown w k
    exact ⟨h.os, h.tape, h.output, h.size, h.block⟩
/-- The parsing of premises, some of them done. -/
def KInv (dp : DP) (d n u0 : Nat) (ts0 : List Tok) (acc : List Tm) (m u : Nat) (ts : List Tok) : Prop := kidsD dp d n u0 ts0 = (match kidsD dp d m u ts with
  | .error e => .error e
  | .ok (l, u2, r) => .ok (acc ++ l, u2, r))
theorem KInv.start (dp : DP) (d n u : Nat) (ts : List Tok) : KInv dp d n u ts [] n u ts := by
  unfold KInv
  cases kidsD dp d n u ts with
  | error e => rfl
  | ok x => rfl
theorem KInv.err {dp : DP} {d n u0 m u : Nat} {ts0 ts : List Tok} {acc : List Tm} {e : PF} (h : KInv dp d n u0 ts0 acc (m + 1) u ts) (hx : dp d u ts = .error e) : kidsD dp d n u0 ts0 = .error e := by
  unfold KInv at h
  rw [h, kidsD, hx]
theorem KInv.step {dp : DP} {d n u0 m u u1 : Nat} {ts0 ts r : List Tok} {acc : List Tm} {t : Tm} (h : KInv dp d n u0 ts0 acc (m + 1) u ts) (hx : dp d u ts = .ok (t, u1, r)) : KInv dp d n u0 ts0 (acc ++ [t]) m u1 r := by
  unfold KInv at h ⊢
  rw [h, kidsD, hx]
  dsimp only
  cases kidsD dp d m u1 r with
  | error e => rfl
  | ok x => obtain ⟨l, u2, r2⟩ := x; simp
theorem KInv.done {dp : DP} {d n u0 u : Nat} {ts0 ts : List Tok} {acc : List Tm} (h : KInv dp d n u0 ts0 acc 0 u ts) : kidsD dp d n u0 ts0 = .ok (acc, u, ts) := by
  unfold KInv at h
  rw [h, kidsD]
  simp
end Go.Proofs.YtpekceadjcbphaaDoor.Dv

namespace Go.Proofs.YtpekceadjcbphaaDoor
open Go.RowKit Go.Lib

theorem foldl_lt (l : List UInt8) : ∀ a : Nat, digs l = true → l.foldl (fun n c => 10 * n + (c.toNat - 48)) a < (a + 1) * 10 ^ l.length := by
  induction l with
  | nil => intro a _; simp
  | cons c l ih =>
    intro a h
    simp only [digs, List.all_cons, Bool.and_eq_true, isd, decide_eq_true_eq] at h
    simp only [List.foldl_cons, List.length_cons, Nat.pow_succ]
    refine Nat.lt_of_lt_of_le (ih _ h.2) ?_
    rw [Nat.mul_comm (10 ^ l.length) 10, ← Nat.mul_assoc]
    exact Nat.mul_le_mul_right _ (by omega)
theorem val_lt {l : List UInt8} (h : digs l = true) : val l < 10 ^ l.length := by
  have := foldl_lt l 0 h
  simpa [val] using this

set_option maxHeartbeats 1000000 in
theorem refget_any (s : ByteArray) (w : World) (hs : s.size ≤ maxLen) : Calls Tryd.prog 42 #[.string s] w fun e w' => e = .returned (getV s.data.toList) ∧ w' = w := by
  unfold maxLen at hs
  have hsl : s.data.toList.length = s.size := by simp
  by_cases h0 : s.size = 0
  · have hl : s.data.toList = [] := List.eq_nil_of_length_eq_zero (by omega)
    have HV := Lib.hid (getV_none (l := s.data.toList) (by rw [hl]; rfl))
    clear hl hsl
    go_enter Tryd.func42, Tryd.ntmps42
    go_wp2
    go_ret2
    rw [HV.out]
    exact ⟨rfl, rfl⟩
  have hne : s.data.toList ≠ [] := fun h => by rw [h] at hsl; simp at hsl; omega
  have e0 : ((s.size : Int) == 0) = false := by simpa using h0
  by_cases h7 : 7 < s.size
  · have HV := Lib.hid (getV_none (get_long (l := s.data.toList) (by omega)))
    clear hne hsl
    go_enter Tryd.func42, Tryd.ntmps42
    go_wp2
    go_ret2
    rw [HV.out]
    exact ⟨rfl, rfl⟩
  have h0' : 0 < s.size := by omega
  have e7 : ¬ 7 < (s.size : Int) := by omega
  by_cases h1 : 1 < s.size ∧ ((s[0].toNat : Int) = 48)
  · obtain ⟨h1, h2⟩ := h1
    have HV := Lib.hid (getV_none (l := s.data.toList) (by
      unfold getB; rw [if_pos (Or.inr ⟨by omega, by rw [head_at s h0']; congr 1; apply UInt8.toNat_inj.1; simp; omega⟩)]))
    have e2 : ((s[0].toNat : Int) == 48) = true := by simpa using h2
    clear hne hsl h2
    go_enter Tryd.func42, Tryd.ntmps42
    go_wp2
    go_ret2
    rw [HV.out]
    exact ⟨rfl, rfl⟩
  have HN2 : Hid (¬ (1 < s.data.toList.length ∧ s.data.toList.head? = some 48)) := by
    rintro ⟨h, h'⟩
    rw [head_at s h0'] at h'
    simp only [Option.some.injEq] at h'
    exact h1 ⟨by omega, by rw [h']; rfl⟩
  by_cases hA : 1 < s.size
  · have e2 : ((s[0].toNat : Int) == 48) = false := by
      have : ¬ (s[0].toNat : Int) = 48 := fun h => h1 ⟨hA, h⟩
      simpa using this
    clear h1 h0
    have HHN := Lib.hid hne
    have HHS := Lib.hid hsl
    clear hne hsl
    go_enter Tryd.func42, Tryd.ntmps42
    go_wp2
    go_loop [4, 5] (fun n i => ∃ k : Nat, k ≤ s.size ∧ i = .int .i64 k ∧ n = .int .i64 (val (s.data.toList.take k) : Nat) ∧ Hid (digs (s.data.toList.take k) = true) ∧ Hid (val (s.data.toList.take k) < 10000000)) (fun _ i => s.size - (RowKit.intOf i).toNat)
    case atStart => exact ⟨0, Nat.zero_le _, rfl, rfl, rfl, (show (0 : Nat) < 10000000 by omega)⟩
    case round =>
      obtain ⟨k, hk, rfl, rfl, hd, hv⟩ := hrel
      by_cases hlt : k < s.size
      · have hts := take_snoc s k hlt
        have hsn := val_snoc (s.data.toList.take k) s[k]
        have hdn := digs_snoc (s.data.toList.take k) s[k]
        rw [← hts] at hsn hdn
        rw [hd.out, Bool.true_and] at hdn
        have hc0 := s[k].toNat_lt
        by_cases l1 : (s[k].toNat : Int) < 48
        · have HF := Lib.hid (getV_none (getB_digs (isd_at s k hlt (by unfold isd; simp; omega))))
          clear hts hsn hdn hc0 hd hv
          go_wp2
          go_ret2
          rw [HF.out]
          exact ⟨rfl, rfl⟩
        by_cases l2 : 57 < (s[k].toNat : Int)
        · have HF := Lib.hid (getV_none (getB_digs (isd_at s k hlt (by unfold isd; simp; omega))))
          clear hts hsn hdn hc0 hd hv
          go_wp2
          go_ret2
          rw [HF.out]
          exact ⟨rfl, rfl⟩
        have hv0 := hv.out
        obtain ⟨v, hve⟩ : ∃ v : Nat, val (s.data.toList.take k) = v := ⟨_, rfl⟩
        rw [hve] at hsn hv0 ⊢
        have l3 : 48 ≤ (s[k].toNat : Int) := by omega
        have l4 : (s[k].toNat : Int) ≤ 57 := by omega
        have HDN : Hid (digs (s.data.toList.take (k + 1)) = true) := by rw [Hid, hdn]; unfold isd; simp; omega
        have HSN := Lib.hid (show ((val (s.data.toList.take (k + 1)) : Nat) : Int) = 10 * (v : Int) + ((s[k].toNat : Int) - 48) by rw [hsn]; omega)
        have hvs := val_at s (k + 1)
        have hw1 : IntKind.u8.wrap ((s[k].toNat : Int) - 48) = (s[k].toNat : Int) - 48 := IntWalk.u8_in _ (by omega)
        have HV5 : Hid (val (s.data.toList.take (k + 1)) < 10000000) := by
          have h1 := val_lt (l := s.data.toList.take (k + 1)) HDN.out
          have h2 : (s.data.toList.take (k + 1)).length ≤ 7 := by rw [List.length_take]; omega
          have h3 : 10 ^ (s.data.toList.take (k + 1)).length ≤ 10 ^ 7 := Nat.pow_le_pow_right (by omega) h2
          rw [Hid]; omega
        clear hts hsn hdn hc0 hd hv hvs hve l1 l2
        go_wp2
        go_round
        case rel => exact ⟨k + 1, hlt, by go_num, by rw [HSN.out], HDN, HV5⟩
        case measure => simp [RowKit.intOf]; omega
      · have hte : s.data.toList.take k = s.data.toList := List.take_of_length_le (by rw [HHS.out]; omega)
        rw [hte] at hd hv ⊢
        obtain ⟨v, hve⟩ : ∃ v : Nat, val s.data.toList = v := ⟨_, rfl⟩
        have hd0 := hd.out
        have hv0 := hv.out
        rw [hve] at hv0
        by_cases l5 : 1000000 < v
        · have HG := Lib.hid (getV_none (getB_great (l := s.data.toList) (by omega)))
          have l6 : 1000000 < (v : Int) := by omega
          rw [hve]
          clear hte hd hv hd0 hve l5
          go_wp2
          go_ret2
          rw [HG.out]
          exact ⟨rfl, rfl⟩
        · have HG := Lib.hid (getV_some (getB_of HHN.out HN2.out hd0 (by omega)))
          have l6 : ¬ 1000000 < (v : Int) := by omega
          rw [hve] at HG ⊢
          clear hte hd hv hd0 hve l5
          go_wp2
          go_ret2
          rw [HG.out]
          exact ⟨rfl, rfl⟩
  · clear h1 h0
    have HHN := Lib.hid hne
    have HHS := Lib.hid hsl
    clear hne hsl
    go_enter Tryd.func42, Tryd.ntmps42
    go_wp2
    go_loop [4, 5] (fun n i => ∃ k : Nat, k ≤ s.size ∧ i = .int .i64 k ∧ n = .int .i64 (val (s.data.toList.take k) : Nat) ∧ Hid (digs (s.data.toList.take k) = true) ∧ Hid (val (s.data.toList.take k) < 10000000)) (fun _ i => s.size - (RowKit.intOf i).toNat)
    case atStart => exact ⟨0, Nat.zero_le _, rfl, rfl, rfl, (show (0 : Nat) < 10000000 by omega)⟩
    case round =>
      obtain ⟨k, hk, rfl, rfl, hd, hv⟩ := hrel
      by_cases hlt : k < s.size
      · have hts := take_snoc s k hlt
        have hsn := val_snoc (s.data.toList.take k) s[k]
        have hdn := digs_snoc (s.data.toList.take k) s[k]
        rw [← hts] at hsn hdn
        rw [hd.out, Bool.true_and] at hdn
        have hc0 := s[k].toNat_lt
        by_cases l1 : (s[k].toNat : Int) < 48
        · have HF := Lib.hid (getV_none (getB_digs (isd_at s k hlt (by unfold isd; simp; omega))))
          clear hts hsn hdn hc0 hd hv
          go_wp2
          go_ret2
          rw [HF.out]
          exact ⟨rfl, rfl⟩
        by_cases l2 : 57 < (s[k].toNat : Int)
        · have HF := Lib.hid (getV_none (getB_digs (isd_at s k hlt (by unfold isd; simp; omega))))
          clear hts hsn hdn hc0 hd hv
          go_wp2
          go_ret2
          rw [HF.out]
          exact ⟨rfl, rfl⟩
        have hv0 := hv.out
        obtain ⟨v, hve⟩ : ∃ v : Nat, val (s.data.toList.take k) = v := ⟨_, rfl⟩
        rw [hve] at hsn hv0 ⊢
        have l3 : 48 ≤ (s[k].toNat : Int) := by omega
        have l4 : (s[k].toNat : Int) ≤ 57 := by omega
        have HDN : Hid (digs (s.data.toList.take (k + 1)) = true) := by rw [Hid, hdn]; unfold isd; simp; omega
        have HSN := Lib.hid (show ((val (s.data.toList.take (k + 1)) : Nat) : Int) = 10 * (v : Int) + ((s[k].toNat : Int) - 48) by rw [hsn]; omega)
        have hvs := val_at s (k + 1)
        have hw1 : IntKind.u8.wrap ((s[k].toNat : Int) - 48) = (s[k].toNat : Int) - 48 := IntWalk.u8_in _ (by omega)
        have HV5 : Hid (val (s.data.toList.take (k + 1)) < 10000000) := by
          have h1 := val_lt (l := s.data.toList.take (k + 1)) HDN.out
          have h2 : (s.data.toList.take (k + 1)).length ≤ 7 := by rw [List.length_take]; omega
          have h3 : 10 ^ (s.data.toList.take (k + 1)).length ≤ 10 ^ 7 := Nat.pow_le_pow_right (by omega) h2
          rw [Hid]; omega
        clear hts hsn hdn hc0 hd hv hvs hve l1 l2
        go_wp2
        go_round
        case rel => exact ⟨k + 1, hlt, by go_num, by rw [HSN.out], HDN, HV5⟩
        case measure => simp [RowKit.intOf]; omega
      · have hte : s.data.toList.take k = s.data.toList := List.take_of_length_le (by rw [HHS.out]; omega)
        rw [hte] at hd hv ⊢
        obtain ⟨v, hve⟩ : ∃ v : Nat, val s.data.toList = v := ⟨_, rfl⟩
        have hd0 := hd.out
        have hv0 := hv.out
        rw [hve] at hv0
        by_cases l5 : 1000000 < v
        · have HG := Lib.hid (getV_none (getB_great (l := s.data.toList) (by omega)))
          have l6 : 1000000 < (v : Int) := by omega
          rw [hve]
          clear hte hd hv hd0 hve l5
          go_wp2
          go_ret2
          rw [HG.out]
          exact ⟨rfl, rfl⟩
        · have HG := Lib.hid (getV_some (getB_of HHN.out HN2.out hd0 (by omega)))
          have l6 : ¬ 1000000 < (v : Int) := by omega
          rw [hve] at HG ⊢
          clear hte hd hv hd0 hve l5
          go_wp2
          go_ret2
          rw [HG.out]
          exact ⟨rfl, rfl⟩

end Go.Proofs.YtpekceadjcbphaaDoor

namespace Go.Proofs.YtpekceadjcbphaaDoor
open Go.RowKit

theorem info_ptok : (Tryd.prog.info? 79).map (fun i => (i.zero, i.size, i.bytes)) = some (some (.agg #[.int .i64 0, .string ⟨#[]⟩, .int .i64 0]), 3, 32) := by kernel_rfl
theorem slice_two {P : Program} {t : TypeId} (w : World) (s : ByteArray) (p q : Nat) (ht : P.underlying t = some .string) (h : p ≤ q) (h2 : q ≤ s.size) :
    (Instr.slice t (.string s) (some (.int .i64 (p : Int))) (some (.int .i64 (q : Int))) none).run P w = .ok (.string (s.extract p q)) w := by
  rw [run_slice_string w t s .i64 .i64 _ _ ht (by omega) (by omega) (by omega)]
  rfl
theorem lx_blank {s : ByteArray} {p : Nat} (h : p < s.size) (hb : blankC s[p] = true) : lexL s.data.toList p = lexL s.data.toList (p + 1) := lexL_same (by rw [drop_at s p h, skipL_blank hb]; omega)
theorem lx_note {s : ByteArray} {p : Nat} (h : p < s.size) (hb : s[p].toNat = 59) : lexL s.data.toList p = lexL s.data.toList (p + runL lineC (s.data.toList.drop p)) := by
  have hline : lineC s[p] = true := by unfold lineC; rw [hb]; rfl
  have hbl : blankC s[p] = false := by unfold blankC; rw [hb]; rfl
  have hrl : runL lineC (s.data.toList.drop p) = runL lineC (s.data.toList.drop (p + 1)) + 1 := by rw [drop_at s p h, runL_yes hline]
  refine lexL_same ?_
  have hd : skipL (s.data.toList.drop p) = runL lineC (s.data.toList.drop (p + 1)) + 1 + skipL ((s.data.toList.drop (p + 1)).drop (runL lineC (s.data.toList.drop (p + 1)))) := by
    conv => lhs; rw [drop_at s p h]
    rw [skipL_note hbl hb]
  rw [List.drop_drop] at hd
  rw [hd, hrl, show p + (runL lineC (s.data.toList.drop (p + 1)) + 1) = p + 1 + runL lineC (s.data.toList.drop (p + 1)) by omega]
  omega
theorem lx_skip {s : ByteArray} {p : Nat} (h : p < s.size) (hb : blankC s[p] = false) (h59 : s[p].toNat ≠ 59) : p + skipL (s.data.toList.drop p) = p := by rw [drop_at s p h, skipL_stop hb h59]; rfl
theorem lx_tok {s : ByteArray} {p k n : Nat} {ts : List Tok} {R : List Tok × Option Nat} (hR : lexTo ts (lexL s.data.toList p) = R) (h : p < s.size) (hq : p + skipL (s.data.toList.drop p) = p) (hn : nextL (s.data.toList.drop p) = some (k, n)) : lexTo (ts ++ [⟨k, (s.data.toList.drop p).take n, p⟩]) (lexL s.data.toList (p + n)) = R := by
  rw [← hR, lexL_next hq (by simpa using h) hn]
  exact (lexTo_next ts ⟨k, _, p⟩ _).symm
theorem lx_bad {s : ByteArray} {p : Nat} {ts : List Tok} {R : List Tok × Option Nat} (hR : lexTo ts (lexL s.data.toList p) = R) (h : p < s.size) (hq : p + skipL (s.data.toList.drop p) = p) (hn : nextL (s.data.toList.drop p) = none) : R = (ts, some p) := by
  rw [← hR, lexL_fault hq (by simpa using h) hn]; simp [lexTo]

/-- What the page's Lex hands back. -/
def plexGives (T : TypeId) (w : World) (R : List Tok × Option Nat) (e : Ending) (w' : World) : Prop :=
  Below w.heap.size w w' ∧ ∃ v, Toks T w.heap.size w' v R.1 ∧ e = .returned (.tuple #[v, .int .i64 (match R.2 with | none => -1 | some p => (p : Int))])

set_option maxRecDepth 20000 in
set_option maxHeartbeats 8000000 in
theorem plex_any (s : ByteArray) (w : World) (hs : s.size ≤ 1000000) :
    Calls Tryd.prog 22 #[.string s] w (plexGives 79 w (lexL s.data.toList 0)) := by
  have HPL := Lib.hid pletter_any
  have HPD := Lib.hid pdigit_any
  have HGET := Lib.hid fun t w (h : t.size ≤ maxLen) => refget_any t w h
  have hsl : s.data.toList.length = s.size := by simp
  have HSL := Lib.hid hsl
  obtain ⟨R, hR⟩ : ∃ R, lexL s.data.toList 0 = R := ⟨_, rfl⟩
  rw [hR]
  have HRR := Lib.hid hR
  obtain ⟨i0, hi, hz0, hz1, hz2⟩ := tok_parts info_ptok
  have HI := Lib.hid (And.intro hi (And.intro hz0 (And.intro hz1 hz2)))
  clear hR hsl hi hz0 hz1 hz2
  go_enter Tryd.func22, Tryd.ntmps22
  go_wp2_with fail
  go_loopw [4, 5] (fun v i wr => ∃ (p : Nat) (ts : List Tok), p ≤ s.size ∧ ts.length ≤ p ∧ i = .int .i64 p ∧ Hid (lexTo ts (lexL s.data.toList p) = R) ∧ Hid (Toks 79 w.heap.size wr v ts) ∧ Below w.heap.size w wr) (fun _ i _ => s.size - (intOf i).toNat)
  case atStart => exact ⟨0, [], Nat.zero_le _, Nat.zero_le _, rfl, by rw [Hid, HRR.out]; simp [lexTo], toks_nil _ _ _, Below.refl _ _⟩
  case round =>
    obtain ⟨p, ts, hp, htp, rfl, hR, hT, hB⟩ := hrel
    have HB := Lib.hid hB
    have hB2 := hB.size
    clear hB
    by_cases hlt : p < s.size
    · by_cases c32 : s[p].toNat = 32
      · have b32 : ((s[p].toNat : Int) == 32) = true := (u8_eq (n := 32)).trans (by rw [c32]; rfl)
        have HN := Lib.hid (show lexTo ts (lexL s.data.toList (p + 1)) = R by rw [← lx_blank hlt (by unfold blankC; rw [c32]; rfl)]; exact hR.out)
        clear c32 hR
        go_wp2_with fail
        go_roundw
        case rel => exact ⟨p + 1, ts, hlt, by omega, by go_num, HN.out, hT, HB.out⟩
        case measure => simp [intOf]; omega
      have b32 : ((s[p].toNat : Int) == 32) = false := (u8_eq (n := 32)).trans (beq_eq_false_iff_ne.2 c32)
      by_cases c9 : s[p].toNat = 9
      · have b9 : ((s[p].toNat : Int) == 9) = true := (u8_eq (n := 9)).trans (by rw [c9]; rfl)
        have HN := Lib.hid (show lexTo ts (lexL s.data.toList (p + 1)) = R by rw [← lx_blank hlt (by unfold blankC; rw [c9]; rfl)]; exact hR.out)
        clear c9 hR
        go_wp2_with fail
        go_roundw
        case rel => exact ⟨p + 1, ts, hlt, by omega, by go_num, HN.out, hT, HB.out⟩
        case measure => simp [intOf]; omega
      have b9 : ((s[p].toNat : Int) == 9) = false := (u8_eq (n := 9)).trans (beq_eq_false_iff_ne.2 c9)
      by_cases c10 : s[p].toNat = 10
      · have b10 : ((s[p].toNat : Int) == 10) = true := (u8_eq (n := 10)).trans (by rw [c10]; rfl)
        have HN := Lib.hid (show lexTo ts (lexL s.data.toList (p + 1)) = R by rw [← lx_blank hlt (by unfold blankC; rw [c10]; rfl)]; exact hR.out)
        clear c10 hR
        go_wp2_with fail
        go_roundw
        case rel => exact ⟨p + 1, ts, hlt, by omega, by go_num, HN.out, hT, HB.out⟩
        case measure => simp [intOf]; omega
      have b10 : ((s[p].toNat : Int) == 10) = false := (u8_eq (n := 10)).trans (beq_eq_false_iff_ne.2 c10)
      have hblank : blankC s[p] = false := by unfold blankC; rw [beq_eq_false_iff_ne.2 c32, beq_eq_false_iff_ne.2 c9, beq_eq_false_iff_ne.2 c10]; rfl
      clear c32 c9 c10
      by_cases c59 : s[p].toNat = 59
      · have b59 : ((s[p].toNat : Int) == 59) = true := (u8_eq (n := 59)).trans (by rw [c59]; rfl)
        have hle := runL_at lineC s p hp
        obtain ⟨E, hE⟩ : ∃ E, p + runL lineC (s.data.toList.drop p) = E := ⟨_, rfl⟩
        have HE := Lib.hid hE
        have HN := Lib.hid (show lexTo ts (lexL s.data.toList E) = R by rw [← hE, ← lx_note hlt c59]; exact hR.out)
        have hE1 : p < E := by
          rw [← hE, drop_at s p hlt, runL_yes (by unfold lineC; rw [c59]; rfl)]; omega
        rw [hE] at hle
        clear hE c59 hR hblank
        go_wp2_with fail
        go_loop [5] (fun i => ∃ k : Nat, k ≤ s.size ∧ i = .int .i64 k ∧ Hid (k + runL lineC (s.data.toList.drop k) = E)) (fun i => s.size - (intOf i).toNat)
        case atStart => exact ⟨p, hp, rfl, HE.out⟩
        case round =>
          obtain ⟨k, hk, rfl, hq⟩ := hrel
          by_cases hk2 : k < s.size
          · have hd := hq.out
            rw [drop_at s k hk2] at hd
            by_cases d10 : s[k].toNat = 10
            · have f10 : ((s[k].toNat : Int) == 10) = true := (u8_eq (n := 10)).trans (by rw [d10]; rfl)
              have e10 : ((s[k].toNat : Int) != 10) = false := by rw [bne, f10]; rfl
              rw [runL_no (by unfold lineC; rw [d10]; rfl)] at hd
              obtain rfl : k = E := by omega
              clear hd hq d10 HE
              go_wp2_with fail
              go_roundw
              case rel => exact ⟨k, ts, hk, by omega, rfl, HN.out, hT, HB.out⟩
              case measure => simp [intOf]; omega
            · have f10 : ((s[k].toNat : Int) == 10) = false := (u8_eq (n := 10)).trans (beq_eq_false_iff_ne.2 d10)
              have e10 : ((s[k].toNat : Int) != 10) = true := by rw [bne, f10]; rfl
              rw [runL_yes (by unfold lineC; rw [beq_eq_false_iff_ne.2 d10]; rfl)] at hd
              have HQ := Lib.hid (show k + 1 + runL lineC (s.data.toList.drop (k + 1)) = E by omega)
              clear hd hq d10
              go_wp2_with fail
              go_round
              case rel => exact ⟨k + 1, hk2, by go_num, HQ.out⟩
              case measure => simp [intOf]; omega
          · have hd := hq.out
            rw [List.drop_of_length_le (by rw [HSL.out]; omega)] at hd
            obtain rfl : k = E := by simpa [runL] using hd
            clear hd hq HE
            go_wp2_with fail
            go_roundw
            case rel => exact ⟨k, ts, hk, by omega, rfl, HN.out, hT, HB.out⟩
            case measure => simp [intOf]; omega
      have b59 : ((s[p].toNat : Int) == 59) = false := (u8_eq (n := 59)).trans (beq_eq_false_iff_ne.2 c59)
      have hsk := lx_skip hlt hblank c59
      have HSKP := Lib.hid hsk
      clear hblank c59 hsk
      by_cases c40 : s[p].toNat = 40
      · have b40 : ((s[p].toNat : Int) == 40) = true := (u8_eq (n := 40)).trans (by rw [c40]; rfl)
        have HN := Lib.hid (show lexTo (ts ++ [⟨1, [40], p⟩]) (lexL s.data.toList (p + 1)) = R by
          have h0 := lx_tok hR.out hlt (lx_skip hlt (by unfold blankC; rw [c40]; rfl) (by omega)) (by rw [drop_at s p hlt]; exact next_open c40)
          rw [drop_at s p hlt, List.take_succ_cons, List.take_zero, show s[p] = 40 from UInt8.toNat_inj.1 (by rw [c40]; rfl)] at h0
          exact h0)
        clear c40 hR
        go_wp2_with (at_builtin; refine wpList_append_lies _ rfl _ _ 47 rfl w.heap.size 79 i0 _ 3 32 (by kernel_rfl) HI.out.1 HI.out.2.1 HI.out.2.2.1 HI.out.2.2.2 rfl (by decide) _ ts.length (cells3 ts) rfl (toks_later hT.out ((Below.refl _ _).alloc (Nat.le_refl _) _)) _ 1 1 (cells3 [⟨1, [40], p⟩]) rfl rfl ?news ?one (by decide) ?max ?bytes ?base _ rfl ?next)
        case news => first | exact news_tok _ _ _ | (intro j u h; exact h)
        case one => intro v hv; simp [cells3] at hv; rcases hv with rfl | rfl | rfl <;> rfl
        case max => unfold maxLen; omega
        case bytes => omega
        case base => first | (simp; omega) | omega
        case next =>
          intro g cap3 w3 hown hgrow hat _
          have HT2 := Lib.hid (toks_step hown)
          have HB2 := Lib.hid ((HB.out.alloc hB2 _).grown hgrow (by first | (simp; omega) | omega) (toks_above hT.out))
          clear hown hgrow hat
          go_wp2_with fail
          go_roundw
          case rel => exact ⟨p + 1, ts ++ [⟨1, [40], p⟩], by omega, by simp; omega, by go_num, HN, HT2, HB2.out⟩
          case measure => simp [intOf]; omega
      have b40 : ((s[p].toNat : Int) == 40) = false := (u8_eq (n := 40)).trans (beq_eq_false_iff_ne.2 c40)
      by_cases c41 : s[p].toNat = 41
      · have b41 : ((s[p].toNat : Int) == 41) = true := (u8_eq (n := 41)).trans (by rw [c41]; rfl)
        have HN := Lib.hid (show lexTo (ts ++ [⟨2, [41], p⟩]) (lexL s.data.toList (p + 1)) = R by
          have h0 := lx_tok hR.out hlt (lx_skip hlt (by unfold blankC; rw [c41]; rfl) (by omega)) (by rw [drop_at s p hlt]; exact next_close c41)
          rw [drop_at s p hlt, List.take_succ_cons, List.take_zero, show s[p] = 41 from UInt8.toNat_inj.1 (by rw [c41]; rfl)] at h0
          exact h0)
        clear c41 hR
        go_wp2_with (at_builtin; refine wpList_append_lies _ rfl _ _ 47 rfl w.heap.size 79 i0 _ 3 32 (by kernel_rfl) HI.out.1 HI.out.2.1 HI.out.2.2.1 HI.out.2.2.2 rfl (by decide) _ ts.length (cells3 ts) rfl (toks_later hT.out ((Below.refl _ _).alloc (Nat.le_refl _) _)) _ 1 1 (cells3 [⟨2, [41], p⟩]) rfl rfl ?news ?one (by decide) ?max ?bytes ?base _ rfl ?next)
        case news => first | exact news_tok _ _ _ | (intro j u h; exact h)
        case one => intro v hv; simp [cells3] at hv; rcases hv with rfl | rfl | rfl <;> rfl
        case max => unfold maxLen; omega
        case bytes => omega
        case base => first | (simp; omega) | omega
        case next =>
          intro g cap3 w3 hown hgrow hat _
          have HT2 := Lib.hid (toks_step hown)
          have HB2 := Lib.hid ((HB.out.alloc hB2 _).grown hgrow (by first | (simp; omega) | omega) (toks_above hT.out))
          clear hown hgrow hat
          go_wp2_with fail
          go_roundw
          case rel => exact ⟨p + 1, ts ++ [⟨2, [41], p⟩], by omega, by simp; omega, by go_num, HN, HT2, HB2.out⟩
          case measure => simp [intOf]; omega
      have b41 : ((s[p].toNat : Int) == 41) = false := (u8_eq (n := 41)).trans (beq_eq_false_iff_ne.2 c41)
      have HLC := Lib.hid (HPL.out s[p])
      cases cl : letterC s[p] with
      | true =>
        rw [cl] at HLC
        obtain ⟨n, hn⟩ : ∃ n, runL wordC (s.data.toList.drop p) = n := ⟨_, rfl⟩
        have hle := runL_at wordC s p hp
        rw [hn] at hle
        have hn1 : 1 ≤ n := by rw [← hn, drop_at s p hlt, runL_yes (by unfold wordC; rw [cl]; rfl)]; omega
        obtain ⟨E, hE⟩ : ∃ E, p + n = E := ⟨_, rfl⟩
        obtain ⟨c, hc⟩ : ∃ c, (s.data.toList.drop p).take n = c := ⟨_, rfl⟩
        have HE := Lib.hid (show p + runL wordC (s.data.toList.drop p) = E by rw [hn]; exact hE)
        have hsub : IntKind.i64.wrap ((E : Int) - (p : Int)) = (n : Int) := by rw [← hE, show ((p + n : Nat) : Int) - (p : Int) = n by omega]; exact IntWalk.i64_in _ (by omega)
        have hsli : ∀ w', (Instr.slice 9 (.string s) (some (.int .i64 (p : Int))) (some (.int .i64 (E : Int))) none).run Tryd.prog w' = .ok (.string ⟨c.toArray⟩) w' := fun w' => by
          rw [slice_two w' s p E rfl (by omega) (by omega), Lib.extract_eq, ← hE, Nat.add_sub_cancel_left, hc]
        have HLONG := Lib.hid (show 20 < n → R = (ts, some p) from fun h => lx_bad hR.out hlt HSKP.out (by rw [drop_at s p hlt]; exact next_long c40 c41 cl (by rw [← drop_at s p hlt, hn]; exact h)))
        have HSHORT := Lib.hid (show ¬ 20 < n → lexTo (ts ++ [⟨3, c, p⟩]) (lexL s.data.toList E) = R from fun h => by
          have h0 := lx_tok hR.out hlt HSKP.out (k := 3) (n := n) (by rw [drop_at s p hlt, next_word c40 c41 cl (by rw [← drop_at s p hlt, hn]; exact h), ← drop_at s p hlt, hn])
          rw [hc, hE] at h0; exact h0)
        have hpE : p < E := by omega
        have hEs : E ≤ s.size := by omega
        clear hE hc hn hR c40 c41 cl hle
        go_wp2_with fail
        refine (HLC.out _).mono ?_
        rintro e w1 ⟨rfl, rfl⟩
        go_wp2_with fail
        go_loop [7] (fun i => ∃ k : Nat, k ≤ s.size ∧ i = .int .i64 k ∧ Hid (k + runL wordC (s.data.toList.drop k) = E)) (fun i => s.size - (intOf i).toNat)
        case atStart => exact ⟨p, hp, rfl, HE.out⟩
        case round =>
          obtain ⟨k, hk, rfl, hq⟩ := hrel
          by_cases hk2 : k < s.size
          · have hd := hq.out
            rw [drop_at s k hk2] at hd
            have HKL := Lib.hid (HPL.out s[k])
            have HKD := Lib.hid (HPD.out s[k])
            cases d1 : letterC s[k] with
            | true =>
              rw [d1] at HKL
              rw [runL_yes (by unfold wordC; rw [d1]; rfl)] at hd
              have HQ := Lib.hid (show k + 1 + runL wordC (s.data.toList.drop (k + 1)) = E by omega)
              clear hd hq d1 hsub hsli
              go_wp2_with fail
              refine (HKL.out _).mono ?_
              rintro e w1 ⟨rfl, rfl⟩
              go_wp2_with fail
              go_round
              case rel => exact ⟨k + 1, hk2, by go_num, HQ.out⟩
              case measure => simp [intOf]; omega
            | false =>
              rw [d1] at HKL
              cases d2 : isd s[k] with
              | true =>
                rw [d2] at HKD
                rw [runL_yes (by unfold wordC; rw [d1, d2]; rfl)] at hd
                have HQ := Lib.hid (show k + 1 + runL wordC (s.data.toList.drop (k + 1)) = E by omega)
                clear hd hq d1 d2 hsub hsli
                go_wp2_with fail
                refine (HKL.out _).mono ?_
                rintro e w1 ⟨rfl, rfl⟩
                go_wp2_with fail
                refine (HKD.out _).mono ?_
                rintro e w1 ⟨rfl, rfl⟩
                go_wp2_with fail
                go_round
                case rel => exact ⟨k + 1, hk2, by go_num, HQ.out⟩
                case measure => simp [intOf]; omega
              | false =>
                rw [d2] at HKD
                rw [runL_no (by unfold wordC; rw [d1, d2]; rfl)] at hd
                obtain rfl : k = E := by omega
                clear hd hq d1 d2 HE
                go_wp2_with fail
                refine (HKL.out _).mono ?_
                rintro e w1 ⟨rfl, rfl⟩
                go_wp2_with fail
                refine (HKD.out _).mono ?_
                rintro e w1 ⟨rfl, rfl⟩
                by_cases h20 : 20 < n
                · have h20' : 20 < (n : Int) := by omega
                  have HF := Lib.hid (HLONG.out h20)
                  go_wp2
                  go_ret2
                  exact ⟨HB.out, by rw [HF.out]; exact ⟨_, hT.out, rfl⟩⟩
                · have h20' : ¬ 20 < (n : Int) := by omega
                  have HF := Lib.hid (HSHORT.out h20)
                  go_wp2_with (at_builtin; refine wpList_append_lies _ rfl _ _ 47 rfl w.heap.size 79 i0 _ 3 32 (by kernel_rfl) HI.out.1 HI.out.2.1 HI.out.2.2.1 HI.out.2.2.2 rfl (by decide) _ ts.length (cells3 ts) rfl (toks_later hT.out ((Below.refl _ _).alloc (Nat.le_refl _) _)) _ 1 1 (cells3 [⟨3, c, p⟩]) rfl rfl ?news ?one (by decide) ?max ?bytes ?base _ rfl ?next)
                  case news => first | exact news_tok _ _ _ | (intro j u h; exact h)
                  case one => intro v hv; simp [cells3] at hv; rcases hv with rfl | rfl | rfl <;> rfl
                  case max => unfold maxLen; omega
                  case bytes => omega
                  case base => first | (simp; omega) | omega
                  case next =>
                    intro g cap3 w3 hown hgrow hat _
                    have HT2 := Lib.hid (toks_step hown)
                    have HB2 := Lib.hid ((HB.out.alloc hB2 _).grown hgrow (by first | (simp; omega) | omega) (toks_above hT.out))
                    clear hown hgrow hat
                    go_wp2_with fail
                    go_roundw
                    case rel => exact ⟨k, ts ++ [⟨3, c, p⟩], by omega, by simp; omega, rfl, HF, HT2, HB2.out⟩
                    case measure => simp [intOf]; omega
          · have hd := hq.out
            rw [List.drop_of_length_le (by rw [HSL.out]; omega)] at hd
            obtain rfl : k = E := by simpa [runL] using hd
            clear hd hq HE
            by_cases h20 : 20 < n
            · have h20' : 20 < (n : Int) := by omega
              have HF := Lib.hid (HLONG.out h20)
              go_wp2
              go_ret2
              exact ⟨HB.out, by rw [HF.out]; exact ⟨_, hT.out, rfl⟩⟩
            · have h20' : ¬ 20 < (n : Int) := by omega
              have HF := Lib.hid (HSHORT.out h20)
              go_wp2_with (at_builtin; refine wpList_append_lies _ rfl _ _ 47 rfl w.heap.size 79 i0 _ 3 32 (by kernel_rfl) HI.out.1 HI.out.2.1 HI.out.2.2.1 HI.out.2.2.2 rfl (by decide) _ ts.length (cells3 ts) rfl (toks_later hT.out ((Below.refl _ _).alloc (Nat.le_refl _) _)) _ 1 1 (cells3 [⟨3, c, p⟩]) rfl rfl ?news ?one (by decide) ?max ?bytes ?base _ rfl ?next)
              case news => first | exact news_tok _ _ _ | (intro j u h; exact h)
              case one => intro v hv; simp [cells3] at hv; rcases hv with rfl | rfl | rfl <;> rfl
              case max => unfold maxLen; omega
              case bytes => omega
              case base => first | (simp; omega) | omega
              case next =>
                intro g cap3 w3 hown hgrow hat _
                have HT2 := Lib.hid (toks_step hown)
                have HB2 := Lib.hid ((HB.out.alloc hB2 _).grown hgrow (by first | (simp; omega) | omega) (toks_above hT.out))
                clear hown hgrow hat
                go_wp2_with fail
                go_roundw
                case rel => exact ⟨k, ts ++ [⟨3, c, p⟩], by omega, by simp; omega, rfl, HF, HT2, HB2.out⟩
                case measure => simp [intOf]; omega
      | false =>
        rw [cl] at HLC
        have HDC := Lib.hid (HPD.out s[p])
        cases cd : isd s[p] with
        | true =>
          rw [cd] at HDC
          obtain ⟨n, hn⟩ : ∃ n, runL isd (s.data.toList.drop p) = n := ⟨_, rfl⟩
          have hle := runL_at isd s p hp
          rw [hn] at hle
          have hn1 : 1 ≤ n := by rw [← hn, drop_at s p hlt, runL_yes cd]; omega
          obtain ⟨E, hE⟩ : ∃ E, p + n = E := ⟨_, rfl⟩
          obtain ⟨c, hc⟩ : ∃ c, (s.data.toList.drop p).take n = c := ⟨_, rfl⟩
          have HE := Lib.hid (show p + runL isd (s.data.toList.drop p) = E by rw [hn]; exact hE)
          have hsli : ∀ w', (Instr.slice 9 (.string s) (some (.int .i64 (p : Int))) (some (.int .i64 (E : Int))) none).run Tryd.prog w' = .ok (.string ⟨c.toArray⟩) w' := fun w' => by
            rw [slice_two w' s p E rfl (by omega) (by omega), Lib.extract_eq, ← hE, Nat.add_sub_cancel_left, hc]
          have hcl : c.length ≤ s.size := by rw [← hc, List.length_take, List.length_drop, HSL.out]; omega
          have HG := Lib.hid (fun w => HGET.out ⟨c.toArray⟩ w (by show c.toArray.size ≤ maxLen; unfold maxLen; simp; omega))
          rw [show (ByteArray.mk c.toArray).data.toList = c from rfl] at HG
          have HBAD := Lib.hid (show (getB c = none ∨ (((s.data.toList.drop E).head?.map letterC).getD false) = true) → R = (ts, some p) from fun h => lx_bad hR.out hlt HSKP.out (by
            rw [drop_at s p hlt]; exact next_bad c40 c41 cl cd (by rw [← drop_at s p hlt, hn, hc, List.drop_drop, hE]; exact h)))
          have HGOOD := Lib.hid (show getB c ≠ none → (((s.data.toList.drop E).head?.map letterC).getD false) = false → lexTo (ts ++ [⟨4, c, p⟩]) (lexL s.data.toList E) = R from fun h h' => by
            have h0 := lx_tok hR.out hlt HSKP.out (k := 4) (n := n) (by
              rw [drop_at s p hlt, next_num c40 c41 cl cd (by rw [← drop_at s p hlt, hn, hc, List.drop_drop, hE]; rintro (h1 | h1); exact h h1; rw [h'] at h1; cases h1), ← drop_at s p hlt, hn])
            rw [hc, hE] at h0; exact h0)
          have hpE : p < E := by omega
          have hEs : E ≤ s.size := by omega
          clear hE hc hn hR c40 c41 cl cd hle hcl
          go_wp2_with fail
          refine (HLC.out _).mono ?_
          rintro e w1 ⟨rfl, rfl⟩
          go_wp2_with fail
          refine (HDC.out _).mono ?_
          rintro e w1 ⟨rfl, rfl⟩
          go_wp2_with fail
          go_loop [7] (fun i => ∃ k : Nat, k ≤ s.size ∧ i = .int .i64 k ∧ Hid (k + runL isd (s.data.toList.drop k) = E)) (fun i => s.size - (intOf i).toNat)
          case atStart => exact ⟨p, hp, rfl, HE.out⟩
          case round =>
            obtain ⟨k, hk, rfl, hq⟩ := hrel
            by_cases hk2 : k < s.size
            · have hd := hq.out
              rw [drop_at s k hk2] at hd
              have HKD := Lib.hid (HPD.out s[k])
              cases d2 : isd s[k] with
              | true =>
                rw [d2] at HKD
                rw [runL_yes d2] at hd
                have HQ := Lib.hid (show k + 1 + runL isd (s.data.toList.drop (k + 1)) = E by omega)
                clear hd hq d2 hsli
                go_wp2_with fail
                refine (HKD.out _).mono ?_
                rintro e w1 ⟨rfl, rfl⟩
                go_wp2_with fail
                go_round
                case rel => exact ⟨k + 1, hk2, by go_num, HQ.out⟩
                case measure => simp [intOf]; omega
              | false =>
                rw [d2] at HKD
                rw [runL_no d2] at hd
                obtain rfl : k = E := by omega
                clear hd hq d2 HE
                go_wp2_with fail
                refine (HKD.out _).mono ?_
                rintro e w1 ⟨rfl, rfl⟩
                cases hg : getB c with
                | none =>
                  have HF := Lib.hid (HBAD.out (Or.inl hg))
                  rw [getV_none hg] at HG
                  clear hg
                  go_wp2_with fail
                  refine (HG.out _).mono ?_
                  rintro e w1 ⟨rfl, rfl⟩
                  go_wp2
                  go_ret2
                  exact ⟨HB.out, by rw [HF.out]; exact ⟨_, hT.out, rfl⟩⟩
                | some v =>
                  rw [getV_some hg] at HG
                  have HKL := Lib.hid (HPL.out s[k])
                  cases d1 : letterC s[k] with
                  | true =>
                    rw [d1] at HKL
                    have HF := Lib.hid (HBAD.out (Or.inr (by rw [drop_at s k hk2]; exact d1)))
                    clear hg d1
                    go_wp2_with fail
                    refine (HG.out _).mono ?_
                    rintro e w1 ⟨rfl, rfl⟩
                    go_wp2_with fail
                    refine (HKL.out _).mono ?_
                    rintro e w1 ⟨rfl, rfl⟩
                    go_wp2
                    go_ret2
                    exact ⟨HB.out, by rw [HF.out]; exact ⟨_, hT.out, rfl⟩⟩
                  | false =>
                    rw [d1] at HKL
                    have HF := Lib.hid (HGOOD.out (by rw [hg]; simp) (by rw [drop_at s k hk2]; exact d1))
                    clear hg d1
                    go_wp2_with fail
                    refine (HG.out _).mono ?_
                    rintro e w1 ⟨rfl, rfl⟩
                    go_wp2_with fail
                    refine (HKL.out _).mono ?_
                    rintro e w1 ⟨rfl, rfl⟩
                    go_wp2_with (at_builtin; refine wpList_append_lies _ rfl _ _ 47 rfl w.heap.size 79 i0 _ 3 32 (by kernel_rfl) HI.out.1 HI.out.2.1 HI.out.2.2.1 HI.out.2.2.2 rfl (by decide) _ ts.length (cells3 ts) rfl (toks_later hT.out ((Below.refl _ _).alloc (Nat.le_refl _) _)) _ 1 1 (cells3 [⟨4, c, p⟩]) rfl rfl ?news ?one (by decide) ?max ?bytes ?base _ rfl ?next)
                    case news => first | exact news_tok _ _ _ | (intro j u h; exact h)
                    case one => intro v hv; simp [cells3] at hv; rcases hv with rfl | rfl | rfl <;> rfl
                    case max => unfold maxLen; omega
                    case bytes => omega
                    case base => first | (simp; omega) | omega
                    case next =>
                      intro g cap3 w3 hown hgrow hat _
                      have HT2 := Lib.hid (toks_step hown)
                      have HB2 := Lib.hid ((HB.out.alloc hB2 _).grown hgrow (by first | (simp; omega) | omega) (toks_above hT.out))
                      clear hown hgrow hat
                      go_wp2_with fail
                      go_roundw
                      case rel => exact ⟨k, ts ++ [⟨4, c, p⟩], by omega, by simp; omega, rfl, HF, HT2, HB2.out⟩
                      case measure => simp [intOf]; omega
            · have hd := hq.out
              rw [List.drop_of_length_le (by rw [HSL.out]; omega)] at hd
              obtain rfl : k = E := by simpa [runL] using hd
              clear hd hq HE
              cases hg : getB c with
              | none =>
                have HF := Lib.hid (HBAD.out (Or.inl hg))
                rw [getV_none hg] at HG
                clear hg
                go_wp2_with fail
                refine (HG.out _).mono ?_
                rintro e w1 ⟨rfl, rfl⟩
                go_wp2
                go_ret2
                exact ⟨HB.out, by rw [HF.out]; exact ⟨_, hT.out, rfl⟩⟩
              | some v =>
                rw [getV_some hg] at HG
                have HF := Lib.hid (HGOOD.out (by rw [hg]; simp) (by rw [List.drop_of_length_le (by rw [HSL.out]; omega)]; rfl))
                clear hg
                go_wp2_with fail
                refine (HG.out _).mono ?_
                rintro e w1 ⟨rfl, rfl⟩
                go_wp2_with (at_builtin; refine wpList_append_lies _ rfl _ _ 47 rfl w.heap.size 79 i0 _ 3 32 (by kernel_rfl) HI.out.1 HI.out.2.1 HI.out.2.2.1 HI.out.2.2.2 rfl (by decide) _ ts.length (cells3 ts) rfl (toks_later hT.out ((Below.refl _ _).alloc (Nat.le_refl _) _)) _ 1 1 (cells3 [⟨4, c, p⟩]) rfl rfl ?news ?one (by decide) ?max ?bytes ?base _ rfl ?next)
                case news => first | exact news_tok _ _ _ | (intro j u h; exact h)
                case one => intro v hv; simp [cells3] at hv; rcases hv with rfl | rfl | rfl <;> rfl
                case max => unfold maxLen; omega
                case bytes => omega
                case base => first | (simp; omega) | omega
                case next =>
                  intro g cap3 w3 hown hgrow hat _
                  have HT2 := Lib.hid (toks_step hown)
                  have HB2 := Lib.hid ((HB.out.alloc hB2 _).grown hgrow (by first | (simp; omega) | omega) (toks_above hT.out))
                  clear hown hgrow hat
                  go_wp2_with fail
                  go_roundw
                  case rel => exact ⟨k, ts ++ [⟨4, c, p⟩], by omega, by simp; omega, rfl, HF, HT2, HB2.out⟩
                  case measure => simp [intOf]; omega
        | false =>
          rw [cd] at HDC
          have HF := Lib.hid (lx_bad hR.out hlt HSKP.out (by rw [drop_at s p hlt]; exact next_other c40 c41 cl cd))
          clear hR c40 c41 cl cd
          go_wp2_with fail
          refine (HLC.out _).mono ?_
          rintro e w1 ⟨rfl, rfl⟩
          go_wp2_with fail
          refine (HDC.out _).mono ?_
          rintro e w1 ⟨rfl, rfl⟩
          go_wp2
          go_ret2
          exact ⟨HB.out, by rw [HF.out]; exact ⟨_, hT.out, rfl⟩⟩
    · have : p = s.size := by omega
      have hf := lexL_end (l := s.data.toList) (p := p) (by rw [HSL.out]; omega)
      have HF := Lib.hid (show R = (ts, none) by rw [← hR.out, hf]; simp [lexTo])
      clear hf hR
      subst this
      go_wp2
      go_ret2
      exact ⟨HB.out, by rw [HF.out]; exact ⟨_, hT.out, rfl⟩⟩
end Go.Proofs.YtpekceadjcbphaaDoor

namespace Go.Proofs.YtpekceadjcbphaaDoor.Dv
open Go.RowKit

/-- The page's tokens behind a slice. -/
def PTok (w : World) (L : List Tok) (v : Value) : Prop := ∃ a cap, v = .slice a L.length cap ∧ L.length ≤ cap ∧ cap ≤ maxLen ∧ (L = [] ∨ ∃ g cs fz, a = some ⟨g, 0, none⟩ ∧ w.heap[g]? = some (Obj.cells cs 79 fz) ∧ cs.toList.take (L.length * 3) = cells3 L)
theorem PTok.keep {w w' : World} {ts : List Tok} {v : Value} (h : PTok w ts v) (hk : ∀ (g : Nat) (cs : Array Value) (fz : Nat × Nat), w.heap[g]? = some (Obj.cells cs 79 fz) → w'.heap[g]? = some (Obj.cells cs 79 fz)) : PTok w' ts v := by
  obtain ⟨a, cap, hv, h1, h2, h3⟩ := h
  refine ⟨a, cap, hv, h1, h2, ?_⟩
  rcases h3 with h3 | ⟨g, cs, fz, h4, h5, h6⟩
  · exact Or.inl h3
  · exact Or.inr ⟨g, cs, fz, h4, hk _ _ _ h5, h6⟩
theorem PTok.cell {w : World} {L : List Tok} {v : Value} (h : PTok w L v) : ∃ a cap, v = .slice a L.length cap ∧ ∀ p t, L[p]? = some t → ∃ g, a = some ⟨g, 0, none⟩ ∧ w.cell? ⟨g, p * 3, none⟩ = some (.int .i64 t.k) ∧ w.cell? ⟨g, p * 3 + 1, none⟩ = some (.string ⟨t.s.toArray⟩) ∧ w.cell? ⟨g, p * 3 + 2, none⟩ = some (.int .i64 t.at_) := by
  obtain ⟨a, cap, hv, h1, h2, h3⟩ := h
  refine ⟨a, cap, hv, fun p t ht => ?_⟩
  obtain ⟨hp, rfl⟩ := List.getElem?_eq_some_iff.1 ht
  rcases h3 with rfl | ⟨g, cs, fz, h4, h5, h6⟩
  · simp at hp
  · refine ⟨g, h4, ?_, ?_, ?_⟩
    · have hc := cells3_get L p hp 0 (by decide)
      rw [← h6, List.getElem?_take, if_pos (by omega)] at hc
      rw [Lib.cell_of_heap h5]; simpa using hc
    · have hc := cells3_get L p hp 1 (by decide)
      rw [← h6, List.getElem?_take, if_pos (by omega)] at hc
      rw [Lib.cell_of_heap h5]; simpa using hc
    · have hc := cells3_get L p hp 2 (by decide)
      rw [← h6, List.getElem?_take, if_pos (by omega)] at hc
      rw [Lib.cell_of_heap h5]; simpa using hc
/-- The block of the page's Reader. -/
def rrO (v : Value) (p : Nat) (bad : Int) (i j : Int) (nv : Value) : Obj := .cells #[v, .int .i64 p, .int .i64 bad, .int .i64 i, .int .i64 j, nv] 52 (0, 0)
theorem rr_cells {w : World} {R p : Nat} {v nv : Value} {bad i j : Int} (h : w.heap[R]? = some (rrO v p bad i j nv)) : w.cell? ⟨R, 0, none⟩ = some v ∧ w.cell? ⟨R, 1, none⟩ = some (.int .i64 p) ∧ w.cell? ⟨R, 2, none⟩ = some (.int .i64 bad) := by
  unfold rrO at h
  exact ⟨by rw [Lib.cell_of_heap h]; rfl, by rw [Lib.cell_of_heap h]; rfl, by rw [Lib.cell_of_heap h]; rfl⟩
def DrewOf (w w' : World) : Prop := ∃ k, w' = w.drewN k
theorem drewN_heap (w : World) : ∀ k, (w.drewN k).heap = w.heap
  | 0 => rfl
  | k + 1 => drewN_heap w k
theorem drewN_cell (w : World) (k : Nat) (a : Addr) : (w.drewN k).cell? a = w.cell? a := by
  induction k with
  | zero => rfl
  | succ k ih => exact ih
theorem drewN_two (w : World) (k m : Nat) : DrewOf w ((w.drewN k).drewN m) := by
  induction m with
  | zero => exact ⟨k, rfl⟩
  | succ m ih => obtain ⟨q, hq⟩ := ih; exact ⟨q + 1, by show ((w.drewN k).drewN m).drew = (w.drewN q).drew; rw [hq]⟩
set_option maxRecDepth 20000 in
theorem rkind_any (R p : Nat) (v nv : Value) (bad i j : Int) (L : List Tok) (w : World) (hR : w.heap[R]? = some (rrO v p bad i j nv)) (hL : PTok w L v) : Calls Tryd.prog 31 #[.pointer (some ⟨R, 0, none⟩)] w fun e w' => e = .returned (.int .i64 (kindAt L p : Nat)) ∧ DrewOf w w' := by
  obtain ⟨a, cap, rfl, hc⟩ := hL.cell
  obtain ⟨c0, c1, c2⟩ := rr_cells hR
  have HLN := Lib.hid (show L.length ≤ maxLen by obtain ⟨a', cap', e, h1, h2, -⟩ := hL; omega)
  clear hR hL
  by_cases hlt : p < L.length
  · obtain ⟨g, rfl, k0, -, -⟩ := hc p L[p] (List.getElem?_eq_getElem hlt)
    have hk : kindAt L p = L[p].k := by simp [kindAt, List.getElem?_eq_getElem hlt]
    rw [hk]
    generalize L[p].k = kk at k0
    clear hc hk
    go_enter Tryd.func31, Tryd.ntmps31
    go_wp2_with fail
    go_quiet (fail)
    have d0 := (drewN_cell w nq _).trans c0
    have d1 := (drewN_cell w nq _).trans c1
    have m0 := (drewN_cell w nq _).trans k0
    have HD := Lib.hid (drewN_two w nq)
    generalize w.drewN nq = W at d0 d1 m0 HD
    clear c0 c1 c2 k0
    go_wp2_with fail
    go_quiet (fail)
    go_wp2
    go_ret
    exact ⟨rfl, HD.out _⟩
  · have hk : kindAt L p = 0 := by simp [kindAt, List.getElem?_eq_none (by omega : L.length ≤ p)]
    rw [hk]
    clear hc hk
    go_enter Tryd.func31, Tryd.ntmps31
    go_wp2_with fail
    go_quiet (fail)
    have HD := Lib.hid (show DrewOf w (w.drewN nq) from ⟨nq, rfl⟩)
    generalize w.drewN nq = W at HD
    go_wp2
    go_ret
    exact ⟨rfl, HD.out⟩
set_option maxRecDepth 20000 in
theorem rword_any (R p : Nat) (v nv : Value) (bad i j : Int) (L : List Tok) (w : World) (hR : w.heap[R]? = some (rrO v p bad i j nv)) (hL : PTok w L v) : Calls Tryd.prog 43 #[.pointer (some ⟨R, 0, none⟩)] w fun e w' => e = .returned (.string ⟨(wordAt L p).toArray⟩) ∧ DrewOf w w' := by
  obtain ⟨a, cap, rfl, hc⟩ := hL.cell
  obtain ⟨c0, c1, c2⟩ := rr_cells hR
  have HLN := Lib.hid (show L.length ≤ maxLen by obtain ⟨a', cap', e, h1, h2, -⟩ := hL; omega)
  clear hR hL
  by_cases hlt : p < L.length
  · obtain ⟨g, rfl, -, k0, -⟩ := hc p L[p] (List.getElem?_eq_getElem hlt)
    have hk : wordAt L p = L[p].s := by simp [wordAt, List.getElem?_eq_getElem hlt]
    rw [hk]
    generalize (⟨(L[p].s).toArray⟩ : ByteArray) = kk at k0
    clear hc hk
    go_enter Tryd.func43, Tryd.ntmps43
    go_wp2_with fail
    go_quiet (fail)
    have d0 := (drewN_cell w nq _).trans c0
    have d1 := (drewN_cell w nq _).trans c1
    have m0 := (drewN_cell w nq _).trans k0
    have HD := Lib.hid (drewN_two w nq)
    generalize w.drewN nq = W at d0 d1 m0 HD
    clear c0 c1 c2 k0
    go_wp2_with fail
    go_quiet (fail)
    go_wp2
    go_ret
    exact ⟨rfl, HD.out _⟩
  · have hk : wordAt L p = [] := by simp [wordAt, List.getElem?_eq_none (by omega : L.length ≤ p)]
    rw [hk]
    clear hc hk
    go_enter Tryd.func43, Tryd.ntmps43
    go_wp2_with fail
    go_quiet (fail)
    have HD := Lib.hid (show DrewOf w (w.drewN nq) from ⟨nq, rfl⟩)
    generalize w.drewN nq = W at HD
    go_wp2
    go_ret
    exact ⟨rfl, HD.out⟩
/-- The token at fault, as an int. -/
def badV : Option Nat → Int
  | none => -1
  | some b => b
def rrX (v : Value) (s : XS) (i j : Int) (nv : Value) : Obj := rrO v s.p (badV s.bad) i j nv
theorem rr_set {w : World} {R p : Nat} {v nv : Value} {bad i j : Int} (h : w.heap[R]? = some (rrO v p bad i j nv)) (b : Int) : (w.setCell ⟨R, 2, none⟩ (.int .i64 b)).heap[R]? = some (rrO v p b i j nv) := heap_setCell_same w R 2 _ _ _ h
theorem rr_setp {w : World} {R p : Nat} {v nv : Value} {bad i j : Int} (h : w.heap[R]? = some (rrO v p bad i j nv)) (q : Nat) : (w.setCell ⟨R, 1, none⟩ (.int .i64 q)).heap[R]? = some (rrO v q bad i j nv) := heap_setCell_same w R 1 _ _ _ h
set_option maxRecDepth 20000 in
theorem rfail_any (R : Nat) (v nv : Value) (s : XS) (i j : Int) (w : World) (hR : w.heap[R]? = some (rrX v s i j nv)) : Calls Tryd.prog 44 #[.pointer (some ⟨R, 0, none⟩), .int .i64 s.p] w fun e w' => e = .returned (.tuple #[]) ∧ w.grownBy w' (some R) ∧ w'.heap[R]? = some (rrX v s.fail i j nv) := by
  obtain ⟨c0, c1, c2⟩ := rr_cells hR
  have hf : w.frozen? ⟨R, 2, none⟩ = false := by
    unfold rrX rrO at hR
    unfold World.frozen?
    rw [hR]
    rfl
  have HG := Lib.hid (grown_at (S := R) (⟨rfl, rfl, rfl, Nat.le_refl _, fun _ _ _ => rfl⟩ : w.grownBy w none) 2 (.int .i64 (s.p : Nat)))
  have HR := Lib.hid hR
  have HG0 := Lib.hid (show w.grownBy w (some R) from ⟨rfl, rfl, rfl, Nat.le_refl _, fun _ _ _ => rfl⟩)
  clear hR
  cases hb : s.bad with
  | none =>
    have hq := rr_set (HR.out) (s.p : Nat)
    have HQ := Lib.hid (show (w.setCell ⟨R, 2, none⟩ (.int .i64 (s.p : Nat))).heap[R]? = some (rrX v s.fail i j nv) by
      rw [hq]; unfold rrX XS.fail; rw [hb]; rfl)
    rw [hb] at c2
    unfold badV at c2
    clear hq
    go_enter Tryd.func44, Tryd.ntmps44
    go_wp2
    exact bodyPost_end (results_none rfl _ _ _) rfl ⟨rfl, HG.out, HQ.out⟩
  | some b =>
    have HQ := Lib.hid (show w.heap[R]? = some (rrX v s.fail i j nv) by
      rw [HR.out]; unfold rrX XS.fail; rw [hb]; simp [hb])
    rw [hb] at c2
    unfold badV at c2
    have h0 : (0 : Int) ≤ (b : Int) := by omega
    go_enter Tryd.func44, Tryd.ntmps44
    go_wp2
    exact bodyPost_end (results_none rfl _ _ _) rfl ⟨rfl, HG0.out, HQ.out⟩
theorem drewN_row (w : World) (k : Nat) (row : Option Nat) : w.grownBy (w.drewN k) row := by
  have h := drewN_grown w k
  exact ⟨h.os, h.tape, h.output, h.size, fun b hb _ => by rw [drewN_heap]⟩
theorem PTok.heap {w w' : World} {L : List Tok} {v : Value} (h : PTok w L v) (e : w'.heap = w.heap) : PTok w' L v := h.keep fun g cs fz h2 => by rw [e]; exact h2
theorem PTok.row {w w' : World} {L : List Tok} {v v0 nv : Value} {R p : Nat} {bad i j : Int} (h : PTok w L v) (hR : w.heap[R]? = some (rrO v0 p bad i j nv)) (hg : w.grownBy w' (some R)) : PTok w' L v :=
  h.keep fun g cs fz e => by
    rw [hg.block g (hltD e) (fun e2 => by
      obtain rfl := Option.some.inj e2
      unfold rrO at hR
      exact absurd (typeD e hR) (by decide))]
    exact e
/-- What Want gives. -/
def WantG (R : Nat) (v nv : Value) (i j : Int) (w : World) (x : List UInt8 × XS) (e : Ending) (w' : World) : Prop := e = .returned (.string ⟨x.1.toArray⟩) ∧ w.grownBy w' (some R) ∧ w'.heap[R]? = some (rrX v x.2 i j nv)
set_option maxHeartbeats 1000000 in
set_option maxRecDepth 20000 in
theorem rwant_any (R k : Nat) (v nv : Value) (s : XS) (i j : Int) (L : List Tok) (w : World) (hR : w.heap[R]? = some (rrX v s i j nv)) (hL : PTok w L v) (hp : s.p ≤ 1000000000) : Calls Tryd.prog 30 #[.pointer (some ⟨R, 0, none⟩), .int .i64 k] w (WantG R v nv i j w (wantX L k s)) := by
  obtain ⟨c0, c1, c2⟩ := rr_cells hR
  have HG0 := Lib.hid (show w.grownBy w (some R) from ⟨rfl, rfl, rfl, Nat.le_refl _, fun _ _ _ => rfl⟩)
  have HR := Lib.hid hR
  have HL := Lib.hid hL
  have HK := Lib.hid (rkind_any R s.p v nv (badV s.bad) i j L w hR hL)
  clear hR hL
  cases hb : s.bad with
  | some b =>
    have hx : wantX L k s = ([], s) := want_bad hb
    rw [hb] at c2
    unfold badV at c2
    have h0 : (0 : Int) ≤ (b : Int) := by omega
    rw [hx]
    go_enter Tryd.func30, Tryd.ntmps30
    go_wp2
    go_ret
    exact ⟨rfl, HG0.out, HR.out⟩
  | none =>
    rw [hb] at c2
    unfold badV at c2
    by_cases hk : kindAt L s.p = k
    · have hx : wantX L k s = (wordAt L s.p, s.next) := by unfold wantX; rw [hb]; simp only; rw [if_pos hk]
      rw [hx]
      have hkb : ((kindAt L s.p : Nat) : Int) = (k : Int) := by rw [hk]
      go_enter Tryd.func30, Tryd.ntmps30
      go_wp2_with fail
      refine HK.out.mono ?_
      rintro e w1 ⟨rfl, q1, rfl⟩
      rw [hkb]
      have HR1 := Lib.hid (show (w.drewN q1).heap[R]? = some (rrX v s i j nv) by rw [drewN_heap]; exact HR.out)
      have HL1 := Lib.hid (HL.out.heap (drewN_heap w q1))
      have HG1 := Lib.hid (drewN_row w q1 (some R))
      generalize w.drewN q1 = W at HR1 HL1 HG1
      clear HK HG0 c0 c1 c2
      go_wp2_with fail
      refine (rword_any R s.p v nv (badV s.bad) i j L W HR1.out HL1.out).mono ?_
      rintro e w2 ⟨rfl, q2, rfl⟩
      have HR2 := Lib.hid (show (W.drewN q2).heap[R]? = some (rrX v s i j nv) by rw [drewN_heap]; exact HR1.out)
      have HG2 := Lib.hid (HG1.out.trans (drewN_row W q2 (some R)))
      generalize W.drewN q2 = U at HR2 HG2
      obtain ⟨c0, c1, c2⟩ := rr_cells HR2.out
      have hf : U.frozen? ⟨R, 1, none⟩ = false := by
        have hR := HR2.out
        unfold rrX rrO at hR
        unfold World.frozen?
        rw [hR]
        rfl
      have HQ := Lib.hid (show (U.setCell ⟨R, 1, none⟩ (.int .i64 ((s.p : Int) + 1))).heap[R]? = some (rrX v s.next i j nv) from rr_setp HR2.out (s.p + 1))
      have HG := Lib.hid (HG2.out.trans (grown_at (S := R) (⟨rfl, rfl, rfl, Nat.le_refl _, fun _ _ _ => rfl⟩ : U.grownBy U none) 1 (.int .i64 ((s.p : Int) + 1))))
      go_wp2
      go_ret
      exact ⟨rfl, HG.out, HQ.out⟩
    · have hx : wantX L k s = ([], s.fail) := by unfold wantX; rw [hb]; simp only; rw [if_neg hk]
      rw [hx]
      have hkb : ¬ ((kindAt L s.p : Nat) : Int) = (k : Int) := by omega
      go_enter Tryd.func30, Tryd.ntmps30
      go_wp2_with fail
      refine HK.out.mono ?_
      rintro e w1 ⟨rfl, q1, rfl⟩
      have HR1 := Lib.hid (show (w.drewN q1).heap[R]? = some (rrX v s i j nv) by rw [drewN_heap]; exact HR.out)
      have HG1 := Lib.hid (drewN_row w q1 (some R))
      generalize w.drewN q1 = W at HR1 HG1
      clear HK HG0 HL c0 c1 c2
      obtain ⟨c0, c1, c2⟩ := rr_cells HR1.out
      go_wp2_with fail
      refine (rfail_any R v nv s i j W HR1.out).mono ?_
      rintro e w2 ⟨rfl, hg2, hq2⟩
      have HG := Lib.hid (HG1.out.trans hg2)
      have HQ := Lib.hid hq2
      clear hg2 hq2
      go_wp2
      go_ret
      exact ⟨rfl, HG.out, HQ.out⟩
end Go.Proofs.YtpekceadjcbphaaDoor.Dv

namespace Go.Proofs.YtpekceadjcbphaaDoor.Rt
open Go.RowKit
open Dv (XS kindAt wordAt placeAt wantX kind_cons kind_nil want_is want_bad here_place rrO rrX badV PTok rr_set rr_setp DrewOf drewN_heap drewN_row hltD)

/-- The Reader's block, its tokens, the two levels. -/
structure PR where
  R : Nat
  L : List Tok
  v : Value
  i : Int
  j : Int
structure RS (c : PR) (nv : Value) (s : XS) (w : World) : Prop where
  rd : w.heap[c.R]? = some (rrX c.v s c.i c.j nv)
  tok : PTok w c.L c.v
/-- Nothing but the Reader's block is other than it was. -/
abbrev Fw (c : PR) (w w' : World) : Prop := w.grownBy w' (some c.R)
theorem Fw.refl (c : PR) (w : World) : Fw c w w := ⟨rfl, rfl, rfl, Nat.le_refl _, fun _ _ _ => rfl⟩
theorem RS.cells {c : PR} {nv : Value} {s : XS} {w : World} (h : RS c nv s w) : w.cell? ⟨c.R, 0, none⟩ = some c.v ∧ w.cell? ⟨c.R, 1, none⟩ = some (.int .i64 s.p) ∧ w.cell? ⟨c.R, 2, none⟩ = some (.int .i64 (badV s.bad)) ∧ w.cell? ⟨c.R, 3, none⟩ = some (.int .i64 c.i) ∧ w.cell? ⟨c.R, 4, none⟩ = some (.int .i64 c.j) ∧ w.cell? ⟨c.R, 5, none⟩ = some nv := by
  have r := h.rd
  unfold rrX rrO at r
  exact ⟨by rw [Lib.cell_of_heap r]; rfl, by rw [Lib.cell_of_heap r]; rfl, by rw [Lib.cell_of_heap r]; rfl, by rw [Lib.cell_of_heap r]; rfl, by rw [Lib.cell_of_heap r]; rfl, by rw [Lib.cell_of_heap r]; rfl⟩
theorem RS.free {c : PR} {nv : Value} {s : XS} {w : World} (h : RS c nv s w) (q : Nat) : w.frozen? ⟨c.R, q, none⟩ = false := by
  have r := h.rd
  unfold rrX rrO at r
  unfold World.frozen?
  rw [r]; rfl
theorem RS.lt {c : PR} {nv : Value} {s : XS} {w : World} (h : RS c nv s w) : c.R < w.heap.size := hltD h.rd
theorem RS.of {c : PR} {nv nv' : Value} {s s' : XS} {w w' : World} (h : RS c nv s w) (hg : Fw c w w') (hr : w'.heap[c.R]? = some (rrX c.v s' c.i c.j nv')) : RS c nv' s' w' := ⟨hr, h.tok.row (by have := h.rd; unfold rrX at this; exact this) hg⟩
theorem RS.other {c : PR} {nv : Value} {s : XS} {w w' : World} {row : Option Nat} (h : RS c nv s w) (hg : w.grownBy w' row) (hR : row ≠ some c.R) (hT : ∀ b, row = some b → ∀ (cs : Array Value) (T : TypeId) (fz : Nat × Nat), w.heap[b]? = some (Obj.cells cs T fz) → T ≠ 79) : RS c nv s w' :=
  ⟨(hg.block _ h.lt (fun e => hR e.symm)).trans h.rd, h.tok.keep fun g _ _ e => (hg.block g (hltD e) (fun e2 => hT g e2.symm _ _ _ e rfl)).trans e⟩
theorem RS.same {c : PR} {nv : Value} {s : XS} {w w' : World} (h : RS c nv s w) (hg : w.grownBy w' none) : RS c nv s w' := h.other hg (by simp) (fun b e => by cases e)
theorem drewN_gr (w : World) (k : Nat) : w.grownBy (w.drewN k) none := drewN_row w k none
theorem RS.drewN {c : PR} {nv : Value} {s : XS} {w : World} (h : RS c nv s w) (k : Nat) : RS c nv s (w.drewN k) := h.same (drewN_gr w k)
theorem Fw.same {c : PR} {w w' w2 : World} (h : Fw c w w') (hg : w'.grownBy w2 none) : Fw c w w2 := h.trans ⟨hg.os, hg.tape, hg.output, hg.size, fun b hb _ => hg.block b hb (by simp)⟩
theorem RS.step {c : PR} {nv : Value} {s : XS} {w : World} (h : RS c nv s w) : RS c nv s.next (w.setCell ⟨c.R, 1, none⟩ (.int .i64 ((s.p : Int) + 1))) ∧ Fw c w (w.setCell ⟨c.R, 1, none⟩ (.int .i64 ((s.p : Int) + 1))) := by
  have hg : Fw c w (w.setCell ⟨c.R, 1, none⟩ (.int .i64 ((s.p : Int) + 1))) := grown_at ⟨rfl, rfl, rfl, Nat.le_refl _, fun _ _ _ => rfl⟩ 1 _
  refine ⟨h.of hg ?_, hg⟩
  have r := h.rd
  unfold rrX at r ⊢
  exact rr_setp r (s.p + 1)
theorem RS.kind {c : PR} {nv : Value} {s : XS} {w : World} (h : RS c nv s w) : Calls Tryd.prog 31 #[.pointer (some ⟨c.R, 0, none⟩)] w fun e w' => e = .returned (.int .i64 (kindAt c.L s.p : Nat)) ∧ RS c nv s w' ∧ w.grownBy w' none :=
  (Dv.rkind_any c.R s.p c.v nv (badV s.bad) c.i c.j c.L w (by have := h.rd; unfold rrX at this; exact this) h.tok).mono (by
    rintro e w' ⟨rfl, k, rfl⟩
    exact ⟨rfl, h.drewN k, drewN_gr w k⟩)
theorem RS.word {c : PR} {nv : Value} {s : XS} {w : World} (h : RS c nv s w) : Calls Tryd.prog 43 #[.pointer (some ⟨c.R, 0, none⟩)] w fun e w' => e = .returned (.string ⟨(wordAt c.L s.p).toArray⟩) ∧ RS c nv s w' ∧ w.grownBy w' none :=
  (Dv.rword_any c.R s.p c.v nv (badV s.bad) c.i c.j c.L w (by have := h.rd; unfold rrX at this; exact this) h.tok).mono (by
    rintro e w' ⟨rfl, k, rfl⟩
    exact ⟨rfl, h.drewN k, drewN_gr w k⟩)
theorem RS.want {c : PR} {nv : Value} {s : XS} {w : World} (h : RS c nv s w) (k : Nat) (hp : s.p ≤ 1000000000) : Calls Tryd.prog 30 #[.pointer (some ⟨c.R, 0, none⟩), .int .i64 k] w fun e w' => e = .returned (.string ⟨(wantX c.L k s).1.toArray⟩) ∧ RS c nv (wantX c.L k s).2 w' ∧ Fw c w w' :=
  (Dv.rwant_any c.R k c.v nv s c.i c.j c.L w h.rd h.tok hp).mono (by
    rintro e w' ⟨rfl, hg, hr⟩
    exact ⟨rfl, h.of hg hr, hg⟩)
set_option maxRecDepth 20000 in
theorem rfailat_any (c : PR) (nv : Value) (s : XS) (q : Nat) (w : World) (h : RS c nv s w) : Calls Tryd.prog 44 #[.pointer (some ⟨c.R, 0, none⟩), .int .i64 q] w fun e w' => e = .returned (.tuple #[]) ∧ RS c nv (failAt q s) w' ∧ Fw c w w' := by
  obtain ⟨c0, c1, c2, -, -, -⟩ := h.cells
  have hf := h.free 2
  have hg := grown_at (S := c.R) (⟨rfl, rfl, rfl, Nat.le_refl _, fun _ _ _ => rfl⟩ : w.grownBy w none) 2 (.int .i64 (q : Nat))
  have HG := Lib.hid hg
  have HS := Lib.hid h
  clear hg
  cases hb : s.bad with
  | none =>
    have HQ := Lib.hid (HS.out.of HG.out (nv' := nv) (s' := failAt q s) (by
      have r := HS.out.rd
      unfold rrX at r ⊢
      rw [rr_set r (q : Nat)]; unfold failAt; rw [hb]; rfl))
    rw [hb] at c2
    unfold badV at c2
    clear h
    go_enter Tryd.func44, Tryd.ntmps44
    go_wp2
    exact bodyPost_end (results_none rfl _ _ _) rfl ⟨rfl, HQ.out, HG.out⟩
  | some b =>
    have HX := Lib.hid (show failAt q s = s by unfold failAt; rw [hb])
    rw [hb] at c2
    unfold badV at c2
    have h0 : (0 : Int) ≤ (b : Int) := by omega
    clear h
    go_enter Tryd.func44, Tryd.ntmps44
    go_wp2
    exact bodyPost_end (results_none rfl _ _ _) rfl ⟨rfl, by rw [HX.out]; exact HS.out, Fw.refl _ _⟩
theorem fail_at (s : XS) : failAt s.p s = s.fail := by unfold failAt XS.fail; cases h : s.bad <;> rfl
theorem RS.failed {c : PR} {nv : Value} {s : XS} {w : World} (h : RS c nv s w) : Calls Tryd.prog 44 #[.pointer (some ⟨c.R, 0, none⟩), .int .i64 (s.p : Nat)] w fun e w' => e = .returned (.tuple #[]) ∧ RS c nv s.fail w' ∧ Fw c w w' :=
  (rfailat_any c nv s s.p w h).mono (by rintro e w' ⟨rfl, h1, h2⟩; rw [fail_at] at h1; exact ⟨rfl, h1, h2⟩)

/-- Where a Reader stands. -/
structure IX (L : List Tok) (s : XS) : Prop where
  p : s.p ≤ L.length
  bad : ∀ b, s.bad = some b → b ≤ L.length
theorem IX.failAt {L : List Tok} {s : XS} (h : IX L s) {q : Nat} (hq : q ≤ L.length) : IX L (failAt q s) := by
  unfold Rt.failAt
  cases hb : s.bad with
  | none => exact ⟨h.p, fun b e => by cases e; exact hq⟩
  | some b => exact h
theorem failAt_p (q : Nat) (s : XS) : (failAt q s).p = s.p := by unfold failAt; cases s.bad <;> rfl
theorem fail_p (s : XS) : s.fail.p = s.p := by rw [← fail_at, failAt_p]
theorem IX.fail {L : List Tok} {s : XS} (h : IX L s) : IX L s.fail := by rw [← fail_at]; exact h.failAt h.p
theorem kind_lt {L : List Tok} {p : Nat} (h : kindAt L p ≠ 0) : p < L.length := by
  rcases drop_kind (L := L) (p := p) with ⟨-, h1, -⟩ | ⟨t, r, h1, -⟩
  · exact absurd h1 h
  · have := congrArg List.length h1
    simp only [List.length_drop, List.length_cons] at this
    omega
theorem IX.next {L : List Tok} {s : XS} (h : IX L s) (hk : kindAt L s.p ≠ 0) : IX L s.next := ⟨kind_lt hk, h.bad⟩
theorem IX.want {L : List Tok} {s : XS} (h : IX L s) {k : Nat} (hk : k ≠ 0) : IX L (wantX L k s).2 := by
  unfold wantX
  cases hb : s.bad with
  | some b => exact h
  | none =>
    simp only
    split
    · rename_i e; exact h.next (by omega)
    · exact h.fail
theorem want_up (L : List Tok) (k : Nat) (s : XS) : s.p ≤ (wantX L k s).2.p := by
  unfold wantX
  cases s.bad with
  | some b => exact Nat.le_refl _
  | none =>
    simp only
    split
    · exact Nat.le_succ _
    · rw [fail_p]; exact Nat.le_refl _
/-- What a level's reading keeps. -/
structure KeepL (L : List Tok) (lx : XS → Int × XS) : Prop where
  keep : ∀ s, IX L s → IX L (lx s).2
  up : ∀ s, s.p ≤ (lx s).2.p
  nn : ∀ s, 0 ≤ (lx s).1 ∧ (lx s).1 ≤ 1000
theorem levQ_keep {lx : XS → Int × XS} {L : List Tok} (h : KeepL L lx) {s : XS} : (IX L s → IX L (levQ lx L s).2) ∧ s.p ≤ (levQ lx L s).2.p ∧ 0 ≤ (levQ lx L s).1 ∧ (levQ lx L s).1 ≤ 1001 := by
  unfold levQ
  split
  · rename_i hc
    split
    · refine ⟨fun hi => IX.want (h.keep _ (hi.next (by omega))) (by decide), ?_, ?_, ?_⟩
      · have := h.up s.next; have h2 := want_up L 2 (lx s.next).2; show s.p ≤ (wantX L 2 (lx s.next).2).2.p
        have h3 : s.next.p = s.p + 1 := rfl
        omega
      · have := h.nn s.next; show 0 ≤ (lx s.next).1 + 1; omega
      · have := h.nn s.next; show (lx s.next).1 + 1 ≤ 1001; omega
    · refine ⟨fun hi => IX.want (h.keep _ (h.keep _ (hi.next (by omega)))) (by decide), ?_, ?_, ?_⟩
      · have := h.up s.next; have h4 := h.up (lx s.next).2; have h2 := want_up L 2 (lx (lx s.next).2).2; show s.p ≤ (wantX L 2 (lx (lx s.next).2).2).2.p
        have h3 : s.next.p = s.p + 1 := rfl
        omega
      · have := h.nn s.next; show 0 ≤ max (lx s.next).1 (lx (lx s.next).2).1; omega
      · have := h.nn s.next; have := h.nn (lx s.next).2; show max (lx s.next).1 (lx (lx s.next).2).1 ≤ 1001; omega
  · exact ⟨fun hi => hi.fail, by rw [fail_p]; exact Nat.le_refl _, Int.le_refl 0, by show (0 : Int) ≤ 1001; decide⟩
theorem levN_keep {lx : XS → Int × XS} {L : List Tok} (h : KeepL L lx) {i j : Int} (hi : 0 ≤ i ∧ i ≤ 1000) (hj : 0 ≤ j ∧ j ≤ 1000) {s : XS} : (IX L s → IX L (levN lx L i j s).2) ∧ s.p ≤ (levN lx L i j s).2.p ∧ 0 ≤ (levN lx L i j s).1 := by
  unfold levN
  by_cases k4 : kindAt L s.p = 4
  · rw [if_pos k4]
    exact ⟨fun h => h.next (by omega), Nat.le_succ _, Int.natCast_nonneg _⟩
  rw [if_neg k4]
  by_cases ki : kindAt L s.p = 3 ∧ wordAt L s.p = [105]
  · rw [if_pos ki]
    exact ⟨fun h => h.next (by omega), Nat.le_succ _, hi.1⟩
  rw [if_neg ki]
  by_cases kj : kindAt L s.p = 3 ∧ wordAt L s.p = [106]
  · rw [if_pos kj]
    exact ⟨fun h => h.next (by omega), Nat.le_succ _, hj.1⟩
  rw [if_neg kj]
  by_cases k1 : kindAt L s.p = 1
  · rw [if_pos k1]
    obtain ⟨q1, q2, q3, -⟩ := levQ_keep h (s := s.next)
    exact ⟨fun h => q1 (h.next (by omega)), Nat.le_trans (Nat.le_succ _) q2, q3⟩
  · rw [if_neg k1]
    exact ⟨fun h => h.fail, by rw [fail_p]; exact Nat.le_refl _, Int.le_refl 0⟩
theorem levE_keep {L : List Tok} {p0 : Nat} {x : Int × XS} (h0 : 0 ≤ x.1) (hp : p0 ≤ x.2.p) : (p0 ≤ L.length → IX L x.2 → IX L (levE p0 x).2) ∧ p0 ≤ (levE p0 x).2.p ∧ 0 ≤ (levE p0 x).1 ∧ (levE p0 x).1 ≤ 1000 := by
  have e : (levE p0 x).2 = if 1000 < x.1 then failAt p0 x.2 else x.2 := by
    unfold levE
    by_cases hb : (if 1000 < x.1 then failAt p0 x.2 else x.2).bad = none
    · rw [if_pos hb]
    · rw [if_neg hb]
  have e1 : (levE p0 x).1 = if (if 1000 < x.1 then failAt p0 x.2 else x.2).bad = none then x.1 else 0 := by
    unfold levE
    by_cases hb : (if 1000 < x.1 then failAt p0 x.2 else x.2).bad = none
    · rw [if_pos hb, if_pos hb]
    · rw [if_neg hb, if_neg hb]
  rw [e, e1]
  refine ⟨fun hq hi => ?_, ?_, ?_, ?_⟩
  · split
    · exact hi.failAt hq
    · exact hi
  · split
    · rw [failAt_p]; exact hp
    · exact hp
  · by_cases hb : (if 1000 < x.1 then failAt p0 x.2 else x.2).bad = none
    · rw [if_pos hb]; exact h0
    · rw [if_neg hb]; exact Int.le_refl 0
  · by_cases hb : (if 1000 < x.1 then failAt p0 x.2 else x.2).bad = none
    · rw [if_pos hb]
      by_cases hn : 1000 < x.1
      · rw [if_pos hn] at hb
        unfold failAt at hb
        cases hx : x.2.bad with
        | none => rw [hx] at hb; cases hb
        | some b => rw [hx] at hb; dsimp only at hb; rw [hx] at hb; cases hb
      · omega
    · rw [if_neg hb]; show (0 : Int) ≤ 1000; decide
theorem levX_keep {L : List Tok} {i j : Int} (hi : 0 ≤ i ∧ i ≤ 1000) (hj : 0 ≤ j ∧ j ≤ 1000) : ∀ f, KeepL L (levX L i j f)
  | 0 => ⟨fun s h => h.fail, fun s => by show s.p ≤ s.fail.p; rw [fail_p]; exact Nat.le_refl _, fun s => ⟨Int.le_refl 0, by show (0 : Int) ≤ 1000; decide⟩⟩
  | f + 1 => by
    have H := fun s => levN_keep (levX_keep (L := L) hi hj f) hi hj (s := s)
    refine ⟨fun s h => ?_, fun s => ?_, fun s => ?_⟩
    · unfold levX
      cases hb : s.bad with
      | some b => exact h
      | none => exact (levE_keep (L := L) (H s).2.2 (H s).2.1).1 h.p ((H s).1 h)
    · unfold levX
      cases hb : s.bad with
      | some b => exact Nat.le_refl _
      | none => exact (levE_keep (L := L) (H s).2.2 (H s).2.1).2.1
    · unfold levX
      cases hb : s.bad with
      | some b => exact ⟨Int.le_refl 0, by show (0 : Int) ≤ 1000; decide⟩
      | none => exact (levE_keep (L := L) (H s).2.2 (H s).2.1).2.2
end Go.Proofs.YtpekceadjcbphaaDoor.Rt

namespace Go.Proofs.YtpekceadjcbphaaDoor.Rt
open Go.RowKit
open Dv (XS kindAt wordAt placeAt wantX rrX badV PTok)

structure LevC (c : PR) (f : Nat) (lx : XS → Int × XS) : Prop where
  use : ∀ (nv : Value) (s : XS) (w : World), IX c.L s → c.L.length + 1 ≤ s.p + f → RS c nv s w → Calls Tryd.prog 61 #[.pointer (some ⟨c.R, 0, none⟩)] w fun e w' => e = .returned (.int .i64 (lx s).1) ∧ RS c nv (lx s).2 w' ∧ Fw c w w'
theorem word_at {L : List Tok} (h : ∀ t ∈ L, t.s.length ≤ 10000000) (p : Nat) : (wordAt L p).length ≤ 10000000 := by
  unfold wordAt
  cases e : L[p]? with
  | none => simp
  | some t => exact h t (List.mem_of_getElem? e)
theorem failAt_bad (q : Nat) (s : XS) : ∃ b, (failAt q s).bad = some b := by
  unfold failAt
  cases h : s.bad with
  | none => exact ⟨q, rfl⟩
  | some b => exact ⟨b, h⟩
theorem levE_out {p0 : Nat} {n : Int} {y : XS} (h : 1000 < n) : levE p0 (n, y) = (0, failAt p0 y) := by
  obtain ⟨b, hb⟩ := failAt_bad p0 y
  unfold levE
  simp only [if_pos h]
  rw [if_neg (by rw [hb]; simp)]
theorem levE_in {p0 : Nat} {n : Int} {y : XS} (h : ¬ 1000 < n) (hb : y.bad = none) : levE p0 (n, y) = (n, y) := by
  unfold levE
  simp only [if_neg h]
  rw [if_pos hb]
theorem levE_bad {p0 b : Nat} {n : Int} {y : XS} (h : ¬ 1000 < n) (hb : y.bad = some b) : levE p0 (n, y) = (0, y) := by
  unfold levE
  simp only [if_neg h]
  rw [if_neg (by rw [hb]; simp)]
set_option maxHeartbeats 8000000 in
set_option maxRecDepth 20000 in
theorem rlevel_step (c : PR) (f : Nat) (hlen : c.L.length ≤ 1000000) (htl : ∀ t ∈ c.L, t.s.length ≤ 10000000) (hi : 0 ≤ c.i ∧ c.i ≤ 1000) (hj : 0 ≤ c.j ∧ c.j ≤ 1000) (hL : LevC c f (levX c.L c.i c.j f)) : LevC c (f + 1) (levX c.L c.i c.j (f + 1)) := by
  refine ⟨?_⟩
  intro nv s w hx hf h
  have HS0 := Lib.hid h
  have HF0 := Lib.hid (Fw.refl c w)
  have HI := Lib.hid hx
  have hp := hx.p
  obtain ⟨c0, c1, c2, c3, c4, c5⟩ := h.cells
  cases hb : s.bad with
  | some b =>
    have HX := Lib.hid (show levX c.L c.i c.j (f + 1) s = (0, s) from levX_sticks _ _ _ _ _ _ hb)
    rw [hb] at c2
    unfold badV at c2
    have h0 : (0 : Int) ≤ (b : Int) := by omega
    clear hL h hx
    go_enter Tryd.func61, Tryd.ntmps61
    go_wp2
    go_ret
    rw [HX.out]
    exact ⟨rfl, HS0.out, HF0.out⟩
  | none =>
    obtain ⟨X, hX⟩ : ∃ X, levX c.L c.i c.j (f + 1) s = X := ⟨_, rfl⟩
    rw [hX]
    unfold levX at hX
    rw [hb] at hX
    dsimp only at hX
    have HK := Lib.hid (levX_keep (L := c.L) hi hj f)
    have HLV := Lib.hid hL
    clear hL
    generalize levX c.L c.i c.j f = lx at hX HK HLV
    have HX := Lib.hid hX
    rw [hb] at c2
    unfold badV at c2
    have hw1 : IntKind.i64.wrap ((s.p : Int) + 1) = (s.p : Int) + 1 := IntWalk.i64_in _ (by omega)
    have HB := Lib.hid hb
    have HFU := Lib.hid hf
    clear hX h hx hb hf
    go_enter Tryd.func61, Tryd.ntmps61
    by_cases hq : kindAt c.L s.p = 1 ∧ ¬ (kindAt c.L (s.p + 1) = 3 ∧ (wordAt c.L (s.p + 1) = sucW ∨ wordAt c.L (s.p + 1) = maxW))
    case pos =>
      obtain ⟨hk1, hq⟩ := hq
      have hki : ((kindAt c.L s.p : Nat) : Int) = 1 := by omega
      have HXX := Lib.hid (show X = (0, s.next.fail) by
        have e : levN lx c.L c.i c.j s = (0, s.next.fail) := by
          unfold levN
          rw [if_neg (by omega), if_neg (by omega), if_neg (by omega), if_pos hk1]
          unfold levQ
          rw [if_neg (by exact hq)]
        rw [← HX.out, e]
        have hnb : s.next.fail.bad = some s.next.p := fail_none (s := s.next) HB.out
        exact levE_bad (by omega) hnb)
      clear HX
      go_wp2_with fail
      refine HS0.out.kind.mono ?_
      rintro e w1 ⟨rfl, hs, hg⟩
      rw [hki]
      have HS1 := Lib.hid hs
      have HF1 := Lib.hid (Fw.same HF0.out hg)
      clear hs hg
      go_wp2_with fail
      refine HS1.out.kind.mono ?_
      rintro e w2 ⟨rfl, hs, hg⟩
      rw [hki]
      have HS2 := Lib.hid hs
      have HF2 := Lib.hid (Fw.same HF1.out hg)
      clear hs hg
      go_wp2_with fail
      refine HS2.out.kind.mono ?_
      rintro e w3 ⟨rfl, hs, hg⟩
      rw [hki]
      have HS3 := Lib.hid hs
      have HF3 := Lib.hid (Fw.same HF2.out hg)
      clear hs hg
      go_wp2_with fail
      refine HS3.out.kind.mono ?_
      rintro e w4 ⟨rfl, hs, hg⟩
      rw [hki]
      have HS4 := Lib.hid hs
      have HF4 := Lib.hid (Fw.same HF3.out hg)
      clear hs hg
      have hst := HS4.out.step
      have HSN := Lib.hid hst.1
      have HFN := Lib.hid (HF4.out.trans hst.2)
      clear hst
      clear c0 c1 c2 c3 c4 c5
      obtain ⟨c0, c1, c2, c3, c4, c5⟩ := HS4.out.cells
      have f1 := HS4.out.free 1
      go_upto_region 16 with fail
      obtain ⟨V, hV⟩ : ∃ V, V = w4.setCell ⟨c.R, 1, none⟩ (.int .i64 ((s.p : Int) + 1)) := ⟨_, rfl⟩
      rw [← hV] at HSN HFN
      rw [← hV]
      clear hV
      clear c0 c1 c2 c3 c4 c5 f1
      have HS5 := HSN
      have HF5 := HFN
      clear HSN HFN
      obtain ⟨wd, hwd⟩ : ∃ wd, wordAt c.L s.next.p = wd := ⟨_, rfl⟩
      rw [show wordAt c.L (s.p + 1) = wd from hwd] at hq
      go_wp2_with fail
      refine HS5.out.word.mono ?_
      rintro e w6 ⟨rfl, hs, hg⟩
      rw [hwd]
      have HS6 := Lib.hid hs
      have HF6 := Lib.hid (Fw.same HF5.out hg)
      clear hs hg
      clear hwd
      by_cases hk3 : kindAt c.L (s.p + 1) = 3
      case neg =>
        have hk3i : ¬ ((kindAt c.L s.next.p : Nat) : Int) = 3 := by rw [show s.next.p = s.p + 1 from rfl]; omega
        go_wp2_with fail
        refine HS6.out.kind.mono ?_
        rintro e w7 ⟨rfl, hs, hg⟩
        have HS7 := Lib.hid hs
        have HF7 := Lib.hid (Fw.same HF6.out hg)
        clear hs hg
        have hst := HS7.out.failed
        have HFL := Lib.hid hst
        clear hst
        obtain ⟨c0, c1, c2, c3, c4, c5⟩ := HS7.out.cells
        have f1 := HS7.out.free 1
        go_wp2_with fail
        refine HFL.out.mono ?_
        rintro e w9 ⟨rfl, hs9, hg9⟩
        have HS9 := Lib.hid hs9
        have HF9 := Lib.hid (HF7.out.trans hg9)
        clear hs9 hg9
        go_wp2
        go_ret
        rw [HXX.out]
        exact ⟨rfl, HS9.out, HF9.out⟩
      have hk3i : ((kindAt c.L s.next.p : Nat) : Int) = 3 := by rw [show s.next.p = s.p + 1 from rfl]; omega
      have hwa : (wd == [115, 117, 99]) = false := by have : ¬ wd = sucW := fun e => hq ⟨hk3, Or.inl e⟩; simpa [sucW] using this
      have hwb : (wd == [109, 97, 120]) = false := by have : ¬ wd = maxW := fun e => hq ⟨hk3, Or.inr e⟩; simpa [maxW] using this
      go_wp2_with fail
      refine HS6.out.kind.mono ?_
      rintro e w7 ⟨rfl, hs, hg⟩
      rw [hk3i]
      have HS7 := Lib.hid hs
      have HF7 := Lib.hid (Fw.same HF6.out hg)
      clear hs hg
      have hst := HS7.out.failed
      have HFL := Lib.hid hst
      clear hst
      obtain ⟨c0, c1, c2, c3, c4, c5⟩ := HS7.out.cells
      have f1 := HS7.out.free 1
      go_wp2_with fail
      refine HFL.out.mono ?_
      rintro e w9 ⟨rfl, hs9, hg9⟩
      have HS9 := Lib.hid hs9
      have HF9 := Lib.hid (HF7.out.trans hg9)
      clear hs9 hg9
      go_wp2
      go_ret
      rw [HXX.out]
      exact ⟨rfl, HS9.out, HF9.out⟩
    go_upto_block 0 with fail
    go_cut [4] (fun s4 wx => ∃ (n : Int) (y : XS), s4 = .int .i64 n ∧ Hid (levN lx c.L c.i c.j s = (n, y)) ∧ Hid (RS c nv y wx) ∧ Hid (Fw c w wx))
    case first =>
      by_cases hk4 : kindAt c.L s.p = 4
      case pos =>
        have hki : ((kindAt c.L s.p : Nat) : Int) = 4 := by omega
        have hln := word_at htl s.p
        obtain ⟨wd, hwd⟩ : ∃ wd, wordAt c.L s.p = wd := ⟨_, rfl⟩
        have HY := Lib.hid (show levN lx c.L c.i c.j s = ((((getB wd).getD 0 : Nat) : Int), s.next) by unfold levN; rw [if_pos hk4, hwd])
        rw [hwd] at hln
        go_wp2_with fail
        refine HS0.out.kind.mono ?_
        rintro e w1 ⟨rfl, hs, hg⟩
        rw [hki]
        have HS1 := Lib.hid hs
        have HF1 := Lib.hid (Fw.same HF0.out hg)
        clear hs hg
        go_wp2_with fail
        refine HS1.out.word.mono ?_
        rintro e w2 ⟨rfl, hs, hg⟩
        rw [hwd]
        have HS2 := Lib.hid hs
        have HF2 := Lib.hid (Fw.same HF1.out hg)
        clear hs hg
        clear hwd
        go_wp2_with fail
        refine (refget_any ⟨wd.toArray⟩ w2 (by show wd.toArray.size ≤ maxLen; unfold maxLen; rw [List.size_toArray]; omega)).mono ?_
        rintro e w' ⟨rfl, hww⟩
        obtain rfl := hww.symm
        have HGE := Lib.hid (getV_eq wd)
        obtain ⟨bb, hbb⟩ := HGE.out
        rw [show (⟨wd.toArray⟩ : ByteArray).data.toList = wd from rfl, hbb]
        have hgb := getB_d wd
        obtain ⟨nm, hnm⟩ : ∃ nm : Int, nm = (((getB wd).getD 0 : Nat) : Int) := ⟨_, rfl⟩
        rw [← hnm] at HY
        rw [← hnm]
        clear hnm hgb hbb HGE c0 c1 c2 c3 c4 c5
        have hst := HS2.out.step
        have HSN := Lib.hid hst.1
        have HFN := Lib.hid (HF2.out.trans hst.2)
        clear hst
        obtain ⟨c0, c1, c2, c3, c4, c5⟩ := HS2.out.cells
        have f1 := HS2.out.free 1
        go_wp2_with fail
        go_meet
        case rel => exact ⟨_, _, rfl, HY, HSN.out, HFN.out⟩
      by_cases hki3 : kindAt c.L s.p = 3 ∧ wordAt c.L s.p = [105]
      case pos =>
        have hk3 := hki3
        obtain ⟨hk3, hwd⟩ := hk3
        have hki : ((kindAt c.L s.p : Nat) : Int) = 3 := by omega
        have HY := Lib.hid (show levN lx c.L c.i c.j s = (c.i, s.next) by unfold levN; rw [if_neg (by omega), if_pos ⟨hk3, hwd⟩])
        go_wp2_with fail
        refine HS0.out.kind.mono ?_
        rintro e w1 ⟨rfl, hs, hg⟩
        rw [hki]
        have HS1 := Lib.hid hs
        have HF1 := Lib.hid (Fw.same HF0.out hg)
        clear hs hg
        go_wp2_with fail
        refine HS1.out.kind.mono ?_
        rintro e w2 ⟨rfl, hs, hg⟩
        rw [hki]
        have HS2 := Lib.hid hs
        have HF2 := Lib.hid (Fw.same HF1.out hg)
        clear hs hg
        go_wp2_with fail
        refine HS2.out.word.mono ?_
        rintro e w3 ⟨rfl, hs, hg⟩
        rw [hwd]
        have HS3 := Lib.hid hs
        have HF3 := Lib.hid (Fw.same HF2.out hg)
        clear hs hg
        clear c0 c1 c2 c3 c4 c5
        have hst := HS3.out.step
        have HSN := Lib.hid hst.1
        have HFN := Lib.hid (HF3.out.trans hst.2)
        clear hst
        obtain ⟨c0, c1, c2, c3, c4, c5⟩ := HS3.out.cells
        have f1 := HS3.out.free 1
        go_wp2_with fail
        go_meet
        case rel => exact ⟨_, _, rfl, HY, HSN.out, HFN.out⟩
      by_cases hkj3 : kindAt c.L s.p = 3 ∧ wordAt c.L s.p = [106]
      case pos =>
        have hk3 := hkj3
        obtain ⟨hk3, hwd⟩ := hk3
        have hki : ((kindAt c.L s.p : Nat) : Int) = 3 := by omega
        have HY := Lib.hid (show levN lx c.L c.i c.j s = (c.j, s.next) by unfold levN; rw [if_neg (by omega), if_neg hki3, if_pos ⟨hk3, hwd⟩])
        go_wp2_with fail
        refine HS0.out.kind.mono ?_
        rintro e w1 ⟨rfl, hs, hg⟩
        rw [hki]
        have HS1 := Lib.hid hs
        have HF1 := Lib.hid (Fw.same HF0.out hg)
        clear hs hg
        go_wp2_with fail
        refine HS1.out.kind.mono ?_
        rintro e w2 ⟨rfl, hs, hg⟩
        rw [hki]
        have HS2 := Lib.hid hs
        have HF2 := Lib.hid (Fw.same HF1.out hg)
        clear hs hg
        go_wp2_with fail
        refine HS2.out.word.mono ?_
        rintro e w3 ⟨rfl, hs, hg⟩
        rw [hwd]
        have HS3 := Lib.hid hs
        have HF3 := Lib.hid (Fw.same HF2.out hg)
        clear hs hg
        go_wp2_with fail
        refine HS3.out.kind.mono ?_
        rintro e w4 ⟨rfl, hs, hg⟩
        rw [hki]
        have HS4 := Lib.hid hs
        have HF4 := Lib.hid (Fw.same HF3.out hg)
        clear hs hg
        go_wp2_with fail
        refine HS4.out.word.mono ?_
        rintro e w5 ⟨rfl, hs, hg⟩
        rw [hwd]
        have HS5 := Lib.hid hs
        have HF5 := Lib.hid (Fw.same HF4.out hg)
        clear hs hg
        clear c0 c1 c2 c3 c4 c5
        have hst := HS5.out.step
        have HSN := Lib.hid hst.1
        have HFN := Lib.hid (HF5.out.trans hst.2)
        clear hst
        obtain ⟨c0, c1, c2, c3, c4, c5⟩ := HS5.out.cells
        have f1 := HS5.out.free 1
        go_wp2_with fail
        go_meet
        case rel => exact ⟨_, _, rfl, HY, HSN.out, HFN.out⟩
      by_cases hk3 : kindAt c.L s.p = 3
      case pos =>
        have hki : ((kindAt c.L s.p : Nat) : Int) = 3 := by omega
        obtain ⟨wd, hwd⟩ : ∃ wd, wordAt c.L s.p = wd := ⟨_, rfl⟩
        rw [hwd] at hki3 hkj3
        have hwa : (wd == [105]) = false := by have : ¬ wd = [105] := fun e => hki3 ⟨hk3, e⟩; simpa using this
        have hwb : (wd == [106]) = false := by have : ¬ wd = [106] := fun e => hkj3 ⟨hk3, e⟩; simpa using this
        have HY := Lib.hid (show levN lx c.L c.i c.j s = (0, s.fail) by unfold levN; rw [if_neg (by omega), if_neg (by rw [hwd]; exact hki3), if_neg (by rw [hwd]; exact hkj3), if_neg (by omega)])
        clear hki3 hkj3 hq
        go_wp2_with fail
        refine HS0.out.kind.mono ?_
        rintro e w1 ⟨rfl, hs, hg⟩
        rw [hki]
        have HS1 := Lib.hid hs
        have HF1 := Lib.hid (Fw.same HF0.out hg)
        clear hs hg
        go_wp2_with fail
        refine HS1.out.kind.mono ?_
        rintro e w2 ⟨rfl, hs, hg⟩
        rw [hki]
        have HS2 := Lib.hid hs
        have HF2 := Lib.hid (Fw.same HF1.out hg)
        clear hs hg
        go_wp2_with fail
        refine HS2.out.word.mono ?_
        rintro e w3 ⟨rfl, hs, hg⟩
        rw [hwd]
        have HS3 := Lib.hid hs
        have HF3 := Lib.hid (Fw.same HF2.out hg)
        clear hs hg
        go_wp2_with fail
        refine HS3.out.kind.mono ?_
        rintro e w4 ⟨rfl, hs, hg⟩
        rw [hki]
        have HS4 := Lib.hid hs
        have HF4 := Lib.hid (Fw.same HF3.out hg)
        clear hs hg
        go_wp2_with fail
        refine HS4.out.word.mono ?_
        rintro e w5 ⟨rfl, hs, hg⟩
        rw [hwd]
        have HS5 := Lib.hid hs
        have HF5 := Lib.hid (Fw.same HF4.out hg)
        clear hs hg
        go_wp2_with fail
        refine HS5.out.kind.mono ?_
        rintro e w6 ⟨rfl, hs, hg⟩
        rw [hki]
        have HS6 := Lib.hid hs
        have HF6 := Lib.hid (Fw.same HF5.out hg)
        clear hs hg
        have hst := HS6.out.failed
        have HFL := Lib.hid hst
        clear hst c0 c1 c2 c3 c4 c5
        obtain ⟨c0, c1, c2, c3, c4, c5⟩ := HS6.out.cells
        have f1 := HS6.out.free 1
        go_wp2_with fail
        refine HFL.out.mono ?_
        rintro e w9 ⟨rfl, hs9, hg9⟩
        have HSN := Lib.hid hs9
        have HFN := Lib.hid (HF6.out.trans hg9)
        clear hs9 hg9
        go_wp2_with fail
        go_meet
        case rel => exact ⟨_, _, rfl, HY, HSN.out, HFN.out⟩
      by_cases hk1 : kindAt c.L s.p = 1
      case neg =>
        have hk4i : ¬ ((kindAt c.L s.p : Nat) : Int) = 4 := by omega
        have hk3i : ¬ ((kindAt c.L s.p : Nat) : Int) = 3 := by omega
        have hk1i : ¬ ((kindAt c.L s.p : Nat) : Int) = 1 := by omega
        have HY := Lib.hid (show levN lx c.L c.i c.j s = (0, s.fail) by unfold levN; rw [if_neg hk4, if_neg hki3, if_neg hkj3, if_neg hk1])
        clear hki3 hkj3 hq
        go_wp2_with fail
        refine HS0.out.kind.mono ?_
        rintro e w1 ⟨rfl, hs, hg⟩
        have HS1 := Lib.hid hs
        have HF1 := Lib.hid (Fw.same HF0.out hg)
        clear hs hg
        go_wp2_with fail
        refine HS1.out.kind.mono ?_
        rintro e w2 ⟨rfl, hs, hg⟩
        have HS2 := Lib.hid hs
        have HF2 := Lib.hid (Fw.same HF1.out hg)
        clear hs hg
        go_wp2_with fail
        refine HS2.out.kind.mono ?_
        rintro e w3 ⟨rfl, hs, hg⟩
        have HS3 := Lib.hid hs
        have HF3 := Lib.hid (Fw.same HF2.out hg)
        clear hs hg
        go_wp2_with fail
        refine HS3.out.kind.mono ?_
        rintro e w4 ⟨rfl, hs, hg⟩
        have HS4 := Lib.hid hs
        have HF4 := Lib.hid (Fw.same HF3.out hg)
        clear hs hg
        have hst := HS4.out.failed
        have HFL := Lib.hid hst
        clear hst c0 c1 c2 c3 c4 c5
        obtain ⟨c0, c1, c2, c3, c4, c5⟩ := HS4.out.cells
        have f1 := HS4.out.free 1
        go_wp2_with fail
        refine HFL.out.mono ?_
        rintro e w9 ⟨rfl, hs9, hg9⟩
        have HSN := Lib.hid hs9
        have HFN := Lib.hid (HF4.out.trans hg9)
        clear hs9 hg9
        go_wp2_with fail
        go_meet
        case rel => exact ⟨_, _, rfl, HY, HSN.out, HFN.out⟩
      have hq : kindAt c.L (s.p + 1) = 3 ∧ (wordAt c.L (s.p + 1) = sucW ∨ wordAt c.L (s.p + 1) = maxW) := Classical.byContradiction fun e => hq ⟨hk1, e⟩
      have hki : ((kindAt c.L s.p : Nat) : Int) = 1 := by omega
      have HY := Lib.hid (show levN lx c.L c.i c.j s = levQ lx c.L s.next by unfold levN; rw [if_neg hk4, if_neg hki3, if_neg hkj3, if_pos hk1])
      clear hki3 hkj3
      go_wp2_with fail
      refine HS0.out.kind.mono ?_
      rintro e w1 ⟨rfl, hs, hg⟩
      rw [hki]
      have HS1 := Lib.hid hs
      have HF1 := Lib.hid (Fw.same HF0.out hg)
      clear hs hg
      go_wp2_with fail
      refine HS1.out.kind.mono ?_
      rintro e w2 ⟨rfl, hs, hg⟩
      rw [hki]
      have HS2 := Lib.hid hs
      have HF2 := Lib.hid (Fw.same HF1.out hg)
      clear hs hg
      go_wp2_with fail
      refine HS2.out.kind.mono ?_
      rintro e w3 ⟨rfl, hs, hg⟩
      rw [hki]
      have HS3 := Lib.hid hs
      have HF3 := Lib.hid (Fw.same HF2.out hg)
      clear hs hg
      go_wp2_with fail
      refine HS3.out.kind.mono ?_
      rintro e w4 ⟨rfl, hs, hg⟩
      rw [hki]
      have HS4 := Lib.hid hs
      have HF4 := Lib.hid (Fw.same HF3.out hg)
      clear hs hg
      have hst := HS4.out.step
      have HSN := Lib.hid hst.1
      have HFN := Lib.hid (HF4.out.trans hst.2)
      clear hst c0 c1 c2 c3 c4 c5
      obtain ⟨c0, c1, c2, c3, c4, c5⟩ := HS4.out.cells
      have f1 := HS4.out.free 1
      go_upto_region 16 with fail
      obtain ⟨V, hV⟩ : ∃ V, V = w4.setCell ⟨c.R, 1, none⟩ (.int .i64 ((s.p : Int) + 1)) := ⟨_, rfl⟩
      rw [← hV] at HSN HFN
      rw [← hV]
      clear hV
      clear c0 c1 c2 c3 c4 c5 f1
      have HS5 := HSN
      have HF5 := HFN
      clear HSN HFN
      have hk3i : ((kindAt c.L s.next.p : Nat) : Int) = 3 := by rw [show s.next.p = s.p + 1 from rfl]; omega
      have hp1 := kind_lt (L := c.L) (p := s.p) (by omega)
      have hp2 := kind_lt (L := c.L) (p := s.p + 1) (by omega)
      have HN1 := Lib.hid (HI.out.next (by omega))
      have HN2 := Lib.hid (HN1.out.next (show kindAt c.L (s.p + 1) ≠ 0 by omega))
      have hw2 : IntKind.i64.wrap ((s.p : Int) + 1 + 1) = (s.p : Int) + 1 + 1 := IntWalk.i64_in _ (by omega)
      obtain ⟨s1, hs1⟩ : ∃ s1, s1 = s.next := ⟨_, rfl⟩
      have HP1 := Lib.hid (show s1.p = s.p + 1 by rw [hs1]; rfl)
      have HB1 := Lib.hid (show s1.bad = none by rw [hs1]; exact HB.out)
      rw [← hs1] at HY HS5 hk3i HN1 HN2
      obtain ⟨wd, hwd⟩ : ∃ wd, wordAt c.L s1.p = wd := ⟨_, rfl⟩
      obtain ⟨hq3, hqw⟩ := hq
      rw [show wordAt c.L (s.p + 1) = wd by rw [← hwd, HP1.out]] at hqw
      have HY2 := Lib.hid (show levQ lx c.L s1 = (if wd = sucW then ((lx s1.next).1 + 1, (wantX c.L 2 (lx s1.next).2).2) else (max (lx s1.next).1 (lx (lx s1.next).2).1, (wantX c.L 2 (lx (lx s1.next).2).2).2)) by unfold levQ; rw [hwd, HP1.out, if_pos ⟨hq3, hqw⟩])
      have hw3 : IntKind.i64.wrap ((s1.p : Int) + 1) = (s1.p : Int) + 1 := by have := HP1.out; exact IntWalk.i64_in _ (by omega)
      obtain ⟨s2, hs2⟩ : ∃ s2, s2 = s1.next := ⟨_, rfl⟩
      have HP2 := Lib.hid (show s2.p = s.p + 2 by rw [hs2]; show s1.p + 1 = _; rw [HP1.out])
      rw [← hs2] at HY2 HN2
      clear hs1 hw2
      go_wp2_with fail
      refine HS5.out.word.mono ?_
      rintro e w6 ⟨rfl, hs, hg⟩
      rw [hwd]
      have HS6 := Lib.hid hs
      have HF6 := Lib.hid (Fw.same HF5.out hg)
      clear hs hg
      clear hwd
      rcases hqw with hqw | hqw
      · rw [hqw] at HY2
        rw [show wd = [115, 117, 99] from hqw]
        rw [if_pos rfl] at HY2
        go_wp2_with fail
        refine HS6.out.kind.mono ?_
        rintro e w7 ⟨rfl, hs, hg⟩
        rw [hk3i]
        have HS7 := Lib.hid hs
        have HF7 := Lib.hid (Fw.same HF6.out hg)
        clear hs hg
        have hst := HS7.out.step
        rw [← hs2] at hst
        have HSN := Lib.hid hst.1
        have HFN := Lib.hid (HF7.out.trans hst.2)
        clear hst
        obtain ⟨c0, c1, c2, c3, c4, c5⟩ := HS7.out.cells
        have f1 := HS7.out.free 1
        go_upto_region 21 with fail
        obtain ⟨V, hV⟩ : ∃ V, V = w7.setCell ⟨c.R, 1, none⟩ (.int .i64 ((s1.p : Int) + 1)) := ⟨_, rfl⟩
        rw [← hV] at HSN HFN
        rw [← hV]
        clear hV
        clear c0 c1 c2 c3 c4 c5 f1
        have HS8 := HSN
        have HF8 := HFN
        clear HSN HFN
        have HC := Lib.hid (HLV.out.use nv s2 V HN2.out (by have := HFU.out; have := HP2.out; omega) HS8.out)
        have hnn := HK.out.nn s2
        have HN3 := Lib.hid (HK.out.keep s2 HN2.out)
        have HU3 := Lib.hid (HK.out.up s2)
        have HC2 := Lib.hid (fun w' => HLV.out.use nv (lx s2).2 w' HN3.out (by have := HFU.out; have := HP2.out; have := HU3.out; omega))
        have hnn2 := HK.out.nn (lx s2).2
        have HN4 := Lib.hid (HK.out.keep (lx s2).2 HN3.out)
        generalize lx s2 = y1 at HC HY2 hnn HN3 HU3 HC2 hnn2 HN4
        obtain ⟨n1, s3⟩ := y1
        dsimp only at HC HY2 hnn HN3 HU3 HC2 hnn2 HN4
        go_wp2_with fail
        refine HC.out.mono ?_
        rintro e w9 ⟨rfl, hs, hg⟩
        have HS9 := Lib.hid hs
        have HF9 := Lib.hid (World.grownBy.trans HF8.out hg)
        clear hs hg
        clear HC
        clear HC2 hnn2 HN4
        have hwn : IntKind.i64.wrap (n1 + 1) = n1 + 1 := IntWalk.i64_in _ (by omega)
        have hp3 : s3.p ≤ 1000000000 := by have := HN3.out.p; omega
        go_wp2_with fail
        refine (HS9.out.want 2 hp3).mono ?_
        rintro e w9 ⟨rfl, hs, hg⟩
        have HSN := Lib.hid hs
        have HFN := Lib.hid (HF9.out.trans hg)
        clear hs hg
        go_wp2_with fail
        go_meet
        case rel => exact ⟨_, _, rfl, (HY.out.trans HY2.out), HSN.out, HFN.out⟩
      · rw [hqw] at HY2
        rw [show wd = [109, 97, 120] from hqw]
        rw [if_neg (by decide)] at HY2
        go_wp2_with fail
        refine HS6.out.kind.mono ?_
        rintro e w7 ⟨rfl, hs, hg⟩
        rw [hk3i]
        have HS7 := Lib.hid hs
        have HF7 := Lib.hid (Fw.same HF6.out hg)
        clear hs hg
        have hst := HS7.out.step
        rw [← hs2] at hst
        have HSN := Lib.hid hst.1
        have HFN := Lib.hid (HF7.out.trans hst.2)
        clear hst
        obtain ⟨c0, c1, c2, c3, c4, c5⟩ := HS7.out.cells
        have f1 := HS7.out.free 1
        go_upto_region 21 with fail
        obtain ⟨V, hV⟩ : ∃ V, V = w7.setCell ⟨c.R, 1, none⟩ (.int .i64 ((s1.p : Int) + 1)) := ⟨_, rfl⟩
        rw [← hV] at HSN HFN
        rw [← hV]
        clear hV
        clear c0 c1 c2 c3 c4 c5 f1
        have HS8 := HSN
        have HF8 := HFN
        clear HSN HFN
        have HC := Lib.hid (HLV.out.use nv s2 V HN2.out (by have := HFU.out; have := HP2.out; omega) HS8.out)
        have hnn := HK.out.nn s2
        have HN3 := Lib.hid (HK.out.keep s2 HN2.out)
        have HU3 := Lib.hid (HK.out.up s2)
        have HC2 := Lib.hid (fun w' => HLV.out.use nv (lx s2).2 w' HN3.out (by have := HFU.out; have := HP2.out; have := HU3.out; omega))
        have hnn2 := HK.out.nn (lx s2).2
        have HN4 := Lib.hid (HK.out.keep (lx s2).2 HN3.out)
        generalize lx s2 = y1 at HC HY2 hnn HN3 HU3 HC2 hnn2 HN4
        obtain ⟨n1, s3⟩ := y1
        dsimp only at HC HY2 hnn HN3 HU3 HC2 hnn2 HN4
        go_wp2_with fail
        refine HC.out.mono ?_
        rintro e w9 ⟨rfl, hs, hg⟩
        have HS9 := Lib.hid hs
        have HF9 := Lib.hid (World.grownBy.trans HF8.out hg)
        clear hs hg
        clear HC
        have HCC := Lib.hid (HC2.out w9 HS9.out)
        generalize lx s3 = y2 at HCC HY2 hnn2 HN4
        obtain ⟨n2, s4⟩ := y2
        dsimp only at HCC HY2 hnn2 HN4
        have hp4 : s4.p ≤ 1000000000 := by have := HN4.out.p; omega
        go_wp2_with fail
        refine HCC.out.mono ?_
        rintro e w10 ⟨rfl, hs, hg⟩
        have HS10 := Lib.hid hs
        have HF10 := Lib.hid (World.grownBy.trans HF9.out hg)
        clear hs hg
        clear HCC HC2
        go_wp2_with fail
        refine (HS10.out.want 2 hp4).mono ?_
        rintro e w99 ⟨rfl, hs, hg⟩
        have HSN := Lib.hid hs
        have HFN := Lib.hid (HF10.out.trans hg)
        clear hs hg
        go_wp2_with fail
        go_meet
        case rel => exact ⟨_, _, rfl, (HY.out.trans HY2.out), HSN.out, HFN.out⟩
    case rest =>
    obtain ⟨n, y, rfl, hcut⟩ := hcut
    obtain ⟨hy, hsy, hfy⟩ := hcut
    have HXY := Lib.hid (show X = levE s.p (n, y) by rw [← HX.out, hy.out])
    clear c0 c1 c2 c3 c4 c5 hy hq
    by_cases hn : 1000 < n
    · have HXX := Lib.hid (HXY.out.trans (levE_out hn))
      have HFL := Lib.hid (rfailat_any c nv y s.p _ hsy.out)
      obtain ⟨b, hbb⟩ := failAt_bad s.p y
      clear HXY
      go_wp2_with fail
      refine HFL.out.mono ?_
      rintro e w9 ⟨rfl, hs9, hg9⟩
      have HS9 := Lib.hid hs9
      have HF9 := Lib.hid (hfy.out.trans hg9)
      clear hs9 hg9
      obtain ⟨c0, c1, c2, c3, c4, c5⟩ := HS9.out.cells
      rw [hbb] at c2
      unfold badV at c2
      have h0 : (0 : Int) ≤ (b : Int) := by omega
      clear hbb
      go_wp2
      go_ret
      rw [HXX.out]
      exact ⟨rfl, HS9.out, HF9.out⟩
    · obtain ⟨c0, c1, c2, c3, c4, c5⟩ := hsy.out.cells
      cases hyb : y.bad with
      | none =>
        have HXX := Lib.hid (HXY.out.trans (levE_in hn hyb))
        rw [hyb] at c2
        unfold badV at c2
        clear hyb HXY
        go_wp2
        go_ret
        rw [HXX.out]
        exact ⟨rfl, hsy.out, hfy.out⟩
      | some b =>
        have HXX := Lib.hid (HXY.out.trans (levE_bad hn hyb))
        rw [hyb] at c2
        unfold badV at c2
        have h0 : (0 : Int) ≤ (b : Int) := by omega
        clear hyb HXY
        go_wp2
        go_ret
        rw [HXX.out]
        exact ⟨rfl, hsy.out, hfy.out⟩
theorem rlevel_any (c : PR) (hlen : c.L.length ≤ 1000000) (htl : ∀ t ∈ c.L, t.s.length ≤ 10000000) (hi : 0 ≤ c.i ∧ c.i ≤ 1000) (hj : 0 ≤ c.j ∧ c.j ≤ 1000) : ∀ f, LevC c f (levX c.L c.i c.j f)
  | 0 => ⟨fun nv s w hx hf h => absurd hx.p (by omega)⟩
  | f + 1 => rlevel_step c f hlen htl hi hj (rlevel_any c hlen htl hi hj f)
end Go.Proofs.YtpekceadjcbphaaDoor.Rt
