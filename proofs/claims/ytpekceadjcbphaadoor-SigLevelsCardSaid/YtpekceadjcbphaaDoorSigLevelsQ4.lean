/-
  Facts and contracts that the proof of SigLevels uses.
-/
import Derived.Lib.ItoaNum
import Derived.Lib.ItoaLen
import Derived.Test.YtpekceadjcbphaaDoorRows
import Derived.WalkKit
import Derived.Lib.Hide
import Derived.ProofKit
import Derived.LoopTactic
import Derived.Below
import Derived.IntWalk
import Derived.Lib.Strings
import Derived.Laws.Strings2
import Derived.Deep.AppendLies
import Derived.Laws.Rows
import Derived.OwnWalk
import Derived.KernelRfl
import Derived.Deep.RegionHeld3
import Derived.Lib.Builder
import Derived.WalkSmall
import Derived.Maps.GroupsBeside
import Derived.Maps.StringElems
import Derived.Laws.OwnMore
import Derived.Deep.RegionLaw
import Derived.Maps.AppendAt
import Derived.Deep.Cut
import Derived.Deep.DeepCutAuto
import Derived.Maps.OwnOps
import Derived.Maps.OwnSet
import Derived.Lib.MinMax
import Derived.Laws.IdiomCopy
import Derived.Deep.Slices
import Derived.Lib.QuietBelow
import Derived.StillTailTactics
import Derived.BigQuiet
import Derived.Deep.RegionWith
import Derived.OrdersHeld
import Derived.Recover
import Derived.RegionTactic
import Derived.Defers
import Derived.Laws.StructEq
import GoSem.Core.Float
import Derived.Laws.Cover2
import Derived.Laws.FloatArith
import Derived.Laws.Externs
import Derived.Deep.QuietTactic
import Derived.Deep.CutBlock
import Derived.Deep.LoopGhost
import Derived.Test.YtpekceadjcbphaaDoorShelf
import Derived.Lib.AppendIntMem
import Derived.Lib.LaidTab
import Derived.OpenShut
import Derived.Carry
import Derived.LaidMore
import Derived.LaidSub
import Derived.LaidHandle
import Derived.Stop.Joined
import Derived.JoinedOf
import Derived.Test.YtpekceadjcbphaaDoorCards
import Derived.Test.YtpekceadjcbphaaDoorTie
import Derived.SevenTiedAt
import Derived.ChangeMaps5
import Derived.Test.YtpekceadjcbphaaDoorSigLevelsQ3
namespace Go.Proofs.YtpekceadjcbphaaDoor.Dv

def kindAt (L : List Tok) (p : Nat) : Nat := (L[p]?.map (·.k)).getD 0
def wordAt (L : List Tok) (p : Nat) : List UInt8 := (L[p]?.map (·.s)).getD []
def placeAt (L : List Tok) (E : Nat) (p : Nat) : Nat := (L[p]?.map (·.at_)).getD E
/-- The page's parser: where it stands, the token at fault, the nodes used up, the allowance at an end (0: none, 1: deep, 2: nodes). -/
structure XS where
  p : Nat
  bad : Option Nat
  n : Nat
  word : Nat
def XS.fail (s : XS) : XS := match s.bad with
  | none => { s with bad := some s.p }
  | some _ => s
def XS.next (s : XS) : XS := { s with p := s.p + 1 }
def wantX (L : List Tok) (k : Nat) (s : XS) : List UInt8 × XS := match s.bad with
  | some _ => ([], s)
  | none => if kindAt L s.p = k then (wordAt L s.p, s.next) else ([], s.fail)
theorem kind_cons {L : List Tok} {E p : Nat} {t : Tok} {r : List Tok} (h : L.drop p = t :: r) : kindAt L p = t.k ∧ wordAt L p = t.s ∧ placeAt L E p = t.at_ ∧ L.drop (p + 1) = r := by
  have h1 : L[p]? = some t := by
    have := List.getElem?_drop (xs := L) (i := p) (j := 0)
    rw [h] at this
    simpa using this.symm
  refine ⟨by simp [kindAt, h1], by simp [wordAt, h1], by simp [placeAt, h1], ?_⟩
  have : L.drop (p + 1) = (L.drop p).drop 1 := by rw [List.drop_drop]
  rw [this, h]; rfl
theorem kind_nil {L : List Tok} {p : Nat} (h : L.drop p = []) : kindAt L p = 0 ∧ ∀ E, placeAt L E p = E := by
  have h1 : L[p]? = none := by
    rw [List.getElem?_eq_none]
    simpa using h
  exact ⟨by simp [kindAt, h1], fun E => by simp [placeAt, h1]⟩
theorem want_bad {L : List Tok} {k b : Nat} {s : XS} (h : s.bad = some b) : wantX L k s = ([], s) := by unfold wantX; rw [h]
end Go.Proofs.YtpekceadjcbphaaDoor.Dv

namespace Go.Proofs.YtpekceadjcbphaaDoor.Rt
open Dv (XS kindAt wordAt placeAt wantX kind_cons kind_nil want_bad)

def sucW : List UInt8 := [115, 117, 99]
def maxW : List UInt8 := [109, 97, 120]
def failAt (q : Nat) (s : XS) : XS := match s.bad with
  | none => { s with bad := some q }
  | some _ => s
/-- A level's list behind its bracket. -/
def levQ (lx : XS → Int × XS) (L : List Tok) (s : XS) : Int × XS :=
  if kindAt L s.p = 3 ∧ (wordAt L s.p = sucW ∨ wordAt L s.p = maxW) then
    (if wordAt L s.p = sucW then ((lx s.next).1 + 1, (wantX L 2 (lx s.next).2).2)
    else (max (lx s.next).1 (lx (lx s.next).2).1, (wantX L 2 (lx (lx s.next).2).2).2))
  else (0, s.fail)
def levN (lx : XS → Int × XS) (L : List Tok) (i j : Int) (s : XS) : Int × XS :=
  if kindAt L s.p = 4 then ((((getB (wordAt L s.p)).getD 0 : Nat) : Int), s.next)
  else if kindAt L s.p = 3 ∧ wordAt L s.p = [105] then (i, s.next)
  else if kindAt L s.p = 3 ∧ wordAt L s.p = [106] then (j, s.next)
  else if kindAt L s.p = 1 then levQ lx L s.next
  else (0, s.fail)
def levE (p0 : Nat) (x : Int × XS) : Int × XS :=
  if (if 1000 < x.1 then failAt p0 x.2 else x.2).bad = none then (x.1, if 1000 < x.1 then failAt p0 x.2 else x.2) else (0, if 1000 < x.1 then failAt p0 x.2 else x.2)
def levX (L : List Tok) (i j : Int) : Nat → XS → Int × XS
  | 0, s => (0, s.fail)
  | f + 1, s => match s.bad with
    | some _ => (0, s)
    | none => levE s.p (levN (levX L i j f) L i j s)
abbrev TX := Int → Names → XS → Tm × XS
def listK (L : List Tok) (so : Int) (s : XS) : Int :=
  if kindAt L s.p = 3 ∧ ¬ (headN (wordAt L s.p) = 0 ∨ (sortN (headN (wordAt L s.p)) ≠ 0 ∧ so ≠ 0 ∧ sortN (headN (wordAt L s.p)) ≠ so)) then headN (wordAt L s.p) else 0
/-- What the one reads beside what the other reads. -/
def SameR {α : Type} (L : List Tok) (E : Nat) (x : Except Nat (α × List Tok)) (y : α × XS) : Prop := match x with
  | .ok (t, r) => y.1 = t ∧ y.2.bad = none ∧ L.drop y.2.p = r
  | .error a => ∃ b, y.2.bad = some b ∧ placeAt L E b = a
def StickL (lx : XS → Int × XS) : Prop := ∀ s b, s.bad = some b → lx s = (0, s)
theorem levX_sticks (L : List Tok) (i j : Int) : ∀ f, StickL (levX L i j f)
  | 0 => fun s b h => by unfold levX XS.fail; rw [h]
  | f + 1 => fun s b h => by unfold levX; rw [h]
theorem fail_none {s : XS} (h : s.bad = none) : s.fail.bad = some s.p := by unfold XS.fail; rw [h]
theorem drop_kind {L : List Tok} {p : Nat} : (L.drop p = [] ∧ kindAt L p = 0 ∧ ∀ E, placeAt L E p = E) ∨ ∃ t r, L.drop p = t :: r ∧ kindAt L p = t.k ∧ wordAt L p = t.s ∧ (∀ E, placeAt L E p = t.at_) ∧ L.drop (p + 1) = r := by
  cases h : L.drop p with
  | nil => exact Or.inl ⟨rfl, kind_nil h⟩
  | cons t r =>
    obtain ⟨h1, h2, -, h4⟩ := kind_cons (E := 0) h
    exact Or.inr ⟨t, r, rfl, h1, h2, fun E => (kind_cons (E := E) h).2.2.1, h4⟩
/-- One reading behind another. -/
theorem SameR.bind {α β : Type} {L : List Tok} {E : Nat} {x : Except Nat (α × List Tok)} {y : α × XS} (h : SameR L E x y) {f : α → List Tok → Except Nat (β × List Tok)} {g : α × XS → β × XS} (hok : ∀ r, x = .ok (y.1, r) → y.2.bad = none → L.drop y.2.p = r → SameR L E (f y.1 r) (g y)) (hbad : ∀ b, y.2.bad = some b → (g y).2 = y.2) :
    SameR L E (match x with | .error e => .error e | .ok (a, r) => f a r) (g y) := by
  cases x with
  | error a =>
    obtain ⟨b, e1, e2⟩ := h
    exact ⟨b, by rw [hbad b e1]; exact e1, e2⟩
  | ok q =>
    obtain ⟨t, r⟩ := q
    obtain ⟨e1, e2, e3⟩ := h
    subst e1
    exact hok r rfl e2 e3
end Go.Proofs.YtpekceadjcbphaaDoor.Rt

namespace Go.Proofs.YtpekceadjcbphaaDoor.Dv

def startX : XS := ⟨0, none, 0, 0⟩
end Go.Proofs.YtpekceadjcbphaaDoor.Dv

namespace Go.Proofs.YtpekceadjcbphaaDoor.Dv

theorem kind_in {L : List Tok} {p : Nat} (h : kindAt L p ≠ 0) : p < L.length := by
  by_cases hl : p < L.length
  · exact hl
  · exact absurd (by simp [kindAt, List.getElem?_eq_none (by omega : L.length ≤ p)]) h
structure InvX (L : List Tok) (s : XS) : Prop where
  wd : s.word ≠ 0 → ∃ b, s.bad = some b ∧ b < L.length
  n0 : s.bad = none → s.n ≤ s.p
  n1 : s.n ≤ s.p + 1
  p1 : s.p ≤ L.length + 1
  bd : ∀ b, s.bad = some b → b ≤ L.length + 1
theorem InvX.start (L : List Tok) : InvX L startX := ⟨fun h => absurd rfl h, fun _ => Nat.le_refl _, by decide, Nat.zero_le _, fun b h => (by cases h)⟩
theorem InvX.word0 {L : List Tok} {s : XS} (h : InvX L s) (hb : s.bad = none) : s.word = 0 := by
  by_cases hw : s.word = 0
  · exact hw
  · obtain ⟨b, e, -⟩ := h.wd hw; rw [hb] at e; cases e
theorem InvX.fail {L : List Tok} {s : XS} (h : InvX L s) : InvX L s.fail := by
  unfold XS.fail
  cases hb : s.bad with
  | some b => exact h
  | none => exact ⟨fun hw => absurd (h.word0 hb) hw, fun e => (by cases e), h.n1, h.p1, fun b e => (by cases e; exact h.p1)⟩
theorem InvX.next {L : List Tok} {s : XS} (h : InvX L s) (hb : s.bad = none) (hp : s.p ≤ L.length) : InvX L s.next :=
  ⟨fun hw => absurd (h.word0 hb) hw, fun _ => Nat.le_trans (h.n0 hb) (Nat.le_succ _), Nat.le_succ_of_le h.n1, (show s.p + 1 ≤ L.length + 1 by omega), fun b e => h.bd b e⟩
theorem InvX.want {L : List Tok} {k : Nat} (hk : k ≠ 0) {s : XS} (h : InvX L s) : InvX L (wantX L k s).2 := by
  unfold wantX
  cases hb : s.bad with
  | some b => exact h
  | none =>
    simp only
    split
    · rename_i e
      exact h.next hb (Nat.le_of_lt (kind_in (by rw [e]; exact hk)))
    · exact h.fail
end Go.Proofs.YtpekceadjcbphaaDoor.Dv

namespace Go.Proofs.YtpekceadjcbphaaDoor.Dv
open Go.RowKit

theorem LiesP.out {w : World} {P : Nat → Prop} {l : List Tm} {s : Value} (h : LiesP w P l s) : ∃ (a : Option Addr) (cap : Nat), s = .slice a l.length cap ∧ l.length ≤ cap ∧ cap ≤ maxLen := by
  cases h with
  | mk l a cap S hc hm hf hn hk => exact ⟨a, cap, rfl, hc, hm⟩

end Go.Proofs.YtpekceadjcbphaaDoor.Dv

namespace Go.Proofs.YtpekceadjcbphaaDoor.Dv
open Go.RowKit

theorem hltD {w : World} {b : Nat} {o : Obj} (h : w.heap[b]? = some o) : b < w.heap.size := (Array.getElem?_eq_some_iff.1 h).1
theorem typeD {w : World} {b : Nat} {cs cs' : Array Value} {T T' : TypeId} {fz fz' : Nat × Nat} (h : w.heap[b]? = some (Obj.cells cs T fz)) (k : w.heap[b]? = some (Obj.cells cs' T' fz')) : T = T' := by
  rw [h] at k; injection k with k; injection k
/-- The constants of a parsing: where its blocks lie, the allowances, the end of the text. -/
structure PC where
  B : Nat
  P : Nat
  S : Nat
  G : Nat
  deep : Nat
  nodes : Nat
  E : Nat
  br : Bool
theorem drewN_grown (w : World) : ∀ k, w.grownBy (w.drewN k) none
  | 0 => ⟨rfl, rfl, rfl, Nat.le_refl _, fun _ _ _ => rfl⟩
  | k + 1 => by
    have h := drewN_grown w k
    exact ⟨h.os, h.tape, h.output, h.size, h.block⟩
/-- The parsing of premises, some of them done. -/
def KInv (dp : DP) (d n u0 : Nat) (ts0 : List Tok) (acc : List Tm) (m u : Nat) (ts : List Tok) : Prop := kidsD dp d n u0 ts0 = (match kidsD dp d m u ts with
  | .error e => .error e
  | .ok (l, u2, r) => .ok (acc ++ l, u2, r))
theorem KInv.start (dp : DP) (d n u : Nat) (ts : List Tok) : KInv dp d n u ts [] n u ts := by
  unfold KInv
  cases kidsD dp d n u ts with
  | error e => rfl
  | ok x => rfl
theorem KInv.step {dp : DP} {d n u0 m u u1 : Nat} {ts0 ts r : List Tok} {acc : List Tm} {t : Tm} (h : KInv dp d n u0 ts0 acc (m + 1) u ts) (hx : dp d u ts = .ok (t, u1, r)) : KInv dp d n u0 ts0 (acc ++ [t]) m u1 r := by
  unfold KInv at h ⊢
  rw [h, kidsD, hx]
  dsimp only
  cases kidsD dp d m u1 r with
  | error e => rfl
  | ok x => obtain ⟨l, u2, r2⟩ := x; simp
theorem KInv.done {dp : DP} {d n u0 u : Nat} {ts0 ts : List Tok} {acc : List Tm} (h : KInv dp d n u0 ts0 acc 0 u ts) : kidsD dp d n u0 ts0 = .ok (acc, u, ts) := by
  unfold KInv at h
  rw [h, kidsD]
  simp
end Go.Proofs.YtpekceadjcbphaaDoor.Dv

namespace Go.Proofs.YtpekceadjcbphaaDoor
open Go.RowKit Go.Lib

theorem foldl_lt (l : List UInt8) : ∀ a : Nat, digs l = true → l.foldl (fun n c => 10 * n + (c.toNat - 48)) a < (a + 1) * 10 ^ l.length := by
  induction l with
  | nil => intro a _; simp
  | cons c l ih =>
    intro a h
    simp only [digs, List.all_cons, Bool.and_eq_true, isd, decide_eq_true_eq] at h
    simp only [List.foldl_cons, List.length_cons, Nat.pow_succ]
    refine Nat.lt_of_lt_of_le (ih _ h.2) ?_
    rw [Nat.mul_comm (10 ^ l.length) 10, ← Nat.mul_assoc]
    exact Nat.mul_le_mul_right _ (by omega)
theorem val_lt {l : List UInt8} (h : digs l = true) : val l < 10 ^ l.length := by
  have := foldl_lt l 0 h
  simpa [val] using this

set_option maxHeartbeats 1000000 in
theorem refget_any (s : ByteArray) (w : World) (hs : s.size ≤ maxLen) : Calls Tryd.prog 42 #[.string s] w fun e w' => e = .returned (getV s.data.toList) ∧ w' = w := by
  unfold maxLen at hs
  have hsl : s.data.toList.length = s.size := by simp
  by_cases h0 : s.size = 0
  · have hl : s.data.toList = [] := List.eq_nil_of_length_eq_zero (by omega)
    have HV := Lib.hid (getV_none (l := s.data.toList) (by rw [hl]; rfl))
    clear hl hsl
    go_enter Tryd.func42, Tryd.ntmps42
    go_wp2
    go_ret2
    rw [HV.out]
    exact ⟨rfl, rfl⟩
  have hne : s.data.toList ≠ [] := fun h => by rw [h] at hsl; simp at hsl; omega
  have e0 : ((s.size : Int) == 0) = false := by simpa using h0
  by_cases h7 : 7 < s.size
  · have HV := Lib.hid (getV_none (get_long (l := s.data.toList) (by omega)))
    clear hne hsl
    go_enter Tryd.func42, Tryd.ntmps42
    go_wp2
    go_ret2
    rw [HV.out]
    exact ⟨rfl, rfl⟩
  have h0' : 0 < s.size := by omega
  have e7 : ¬ 7 < (s.size : Int) := by omega
  by_cases h1 : 1 < s.size ∧ ((s[0].toNat : Int) = 48)
  · obtain ⟨h1, h2⟩ := h1
    have HV := Lib.hid (getV_none (l := s.data.toList) (by
      unfold getB; rw [if_pos (Or.inr ⟨by omega, by rw [head_at s h0']; congr 1; apply UInt8.toNat_inj.1; simp; omega⟩)]))
    have e2 : ((s[0].toNat : Int) == 48) = true := by simpa using h2
    clear hne hsl h2
    go_enter Tryd.func42, Tryd.ntmps42
    go_wp2
    go_ret2
    rw [HV.out]
    exact ⟨rfl, rfl⟩
  have HN2 : Hid (¬ (1 < s.data.toList.length ∧ s.data.toList.head? = some 48)) := by
    rintro ⟨h, h'⟩
    rw [head_at s h0'] at h'
    simp only [Option.some.injEq] at h'
    exact h1 ⟨by omega, by rw [h']; rfl⟩
  by_cases hA : 1 < s.size
  · have e2 : ((s[0].toNat : Int) == 48) = false := by
      have : ¬ (s[0].toNat : Int) = 48 := fun h => h1 ⟨hA, h⟩
      simpa using this
    clear h1 h0
    have HHN := Lib.hid hne
    have HHS := Lib.hid hsl
    clear hne hsl
    go_enter Tryd.func42, Tryd.ntmps42
    go_wp2
    go_loop [4, 5] (fun n i => ∃ k : Nat, k ≤ s.size ∧ i = .int .i64 k ∧ n = .int .i64 (val (s.data.toList.take k) : Nat) ∧ Hid (digs (s.data.toList.take k) = true) ∧ Hid (val (s.data.toList.take k) < 10000000)) (fun _ i => s.size - (RowKit.intOf i).toNat)
    case atStart => exact ⟨0, Nat.zero_le _, rfl, rfl, rfl, (show (0 : Nat) < 10000000 by omega)⟩
    case round =>
      obtain ⟨k, hk, rfl, rfl, hd, hv⟩ := hrel
      by_cases hlt : k < s.size
      · have hts := take_snoc s k hlt
        have hsn := val_snoc (s.data.toList.take k) s[k]
        have hdn := digs_snoc (s.data.toList.take k) s[k]
        rw [← hts] at hsn hdn
        rw [hd.out, Bool.true_and] at hdn
        have hc0 := s[k].toNat_lt
        by_cases l1 : (s[k].toNat : Int) < 48
        · have HF := Lib.hid (getV_none (getB_digs (isd_at s k hlt (by unfold isd; simp; omega))))
          clear hts hsn hdn hc0 hd hv
          go_wp2
          go_ret2
          rw [HF.out]
          exact ⟨rfl, rfl⟩
        by_cases l2 : 57 < (s[k].toNat : Int)
        · have HF := Lib.hid (getV_none (getB_digs (isd_at s k hlt (by unfold isd; simp; omega))))
          clear hts hsn hdn hc0 hd hv
          go_wp2
          go_ret2
          rw [HF.out]
          exact ⟨rfl, rfl⟩
        have hv0 := hv.out
        obtain ⟨v, hve⟩ : ∃ v : Nat, val (s.data.toList.take k) = v := ⟨_, rfl⟩
        rw [hve] at hsn hv0 ⊢
        have l3 : 48 ≤ (s[k].toNat : Int) := by omega
        have l4 : (s[k].toNat : Int) ≤ 57 := by omega
        have HDN : Hid (digs (s.data.toList.take (k + 1)) = true) := by rw [Hid, hdn]; unfold isd; simp; omega
        have HSN := Lib.hid (show ((val (s.data.toList.take (k + 1)) : Nat) : Int) = 10 * (v : Int) + ((s[k].toNat : Int) - 48) by rw [hsn]; omega)
        have hvs := val_at s (k + 1)
        have hw1 : IntKind.u8.wrap ((s[k].toNat : Int) - 48) = (s[k].toNat : Int) - 48 := IntWalk.u8_in _ (by omega)
        have HV5 : Hid (val (s.data.toList.take (k + 1)) < 10000000) := by
          have h1 := val_lt (l := s.data.toList.take (k + 1)) HDN.out
          have h2 : (s.data.toList.take (k + 1)).length ≤ 7 := by rw [List.length_take]; omega
          have h3 : 10 ^ (s.data.toList.take (k + 1)).length ≤ 10 ^ 7 := Nat.pow_le_pow_right (by omega) h2
          rw [Hid]; omega
        clear hts hsn hdn hc0 hd hv hvs hve l1 l2
        go_wp2
        go_round
        case rel => exact ⟨k + 1, hlt, by go_num, by rw [HSN.out], HDN, HV5⟩
        case measure => simp [RowKit.intOf]; omega
      · have hte : s.data.toList.take k = s.data.toList := List.take_of_length_le (by rw [HHS.out]; omega)
        rw [hte] at hd hv ⊢
        obtain ⟨v, hve⟩ : ∃ v : Nat, val s.data.toList = v := ⟨_, rfl⟩
        have hd0 := hd.out
        have hv0 := hv.out
        rw [hve] at hv0
        by_cases l5 : 1000000 < v
        · have HG := Lib.hid (getV_none (getB_great (l := s.data.toList) (by omega)))
          have l6 : 1000000 < (v : Int) := by omega
          rw [hve]
          clear hte hd hv hd0 hve l5
          go_wp2
          go_ret2
          rw [HG.out]
          exact ⟨rfl, rfl⟩
        · have HG := Lib.hid (getV_some (getB_of HHN.out HN2.out hd0 (by omega)))
          have l6 : ¬ 1000000 < (v : Int) := by omega
          rw [hve] at HG ⊢
          clear hte hd hv hd0 hve l5
          go_wp2
          go_ret2
          rw [HG.out]
          exact ⟨rfl, rfl⟩
  · clear h1 h0
    have HHN := Lib.hid hne
    have HHS := Lib.hid hsl
    clear hne hsl
    go_enter Tryd.func42, Tryd.ntmps42
    go_wp2
    go_loop [4, 5] (fun n i => ∃ k : Nat, k ≤ s.size ∧ i = .int .i64 k ∧ n = .int .i64 (val (s.data.toList.take k) : Nat) ∧ Hid (digs (s.data.toList.take k) = true) ∧ Hid (val (s.data.toList.take k) < 10000000)) (fun _ i => s.size - (RowKit.intOf i).toNat)
    case atStart => exact ⟨0, Nat.zero_le _, rfl, rfl, rfl, (show (0 : Nat) < 10000000 by omega)⟩
    case round =>
      obtain ⟨k, hk, rfl, rfl, hd, hv⟩ := hrel
      by_cases hlt : k < s.size
      · have hts := take_snoc s k hlt
        have hsn := val_snoc (s.data.toList.take k) s[k]
        have hdn := digs_snoc (s.data.toList.take k) s[k]
        rw [← hts] at hsn hdn
        rw [hd.out, Bool.true_and] at hdn
        have hc0 := s[k].toNat_lt
        by_cases l1 : (s[k].toNat : Int) < 48
        · have HF := Lib.hid (getV_none (getB_digs (isd_at s k hlt (by unfold isd; simp; omega))))
          clear hts hsn hdn hc0 hd hv
          go_wp2
          go_ret2
          rw [HF.out]
          exact ⟨rfl, rfl⟩
        by_cases l2 : 57 < (s[k].toNat : Int)
        · have HF := Lib.hid (getV_none (getB_digs (isd_at s k hlt (by unfold isd; simp; omega))))
          clear hts hsn hdn hc0 hd hv
          go_wp2
          go_ret2
          rw [HF.out]
          exact ⟨rfl, rfl⟩
        have hv0 := hv.out
        obtain ⟨v, hve⟩ : ∃ v : Nat, val (s.data.toList.take k) = v := ⟨_, rfl⟩
        rw [hve] at hsn hv0 ⊢
        have l3 : 48 ≤ (s[k].toNat : Int) := by omega
        have l4 : (s[k].toNat : Int) ≤ 57 := by omega
        have HDN : Hid (digs (s.data.toList.take (k + 1)) = true) := by rw [Hid, hdn]; unfold isd; simp; omega
        have HSN := Lib.hid (show ((val (s.data.toList.take (k + 1)) : Nat) : Int) = 10 * (v : Int) + ((s[k].toNat : Int) - 48) by rw [hsn]; omega)
        have hvs := val_at s (k + 1)
        have hw1 : IntKind.u8.wrap ((s[k].toNat : Int) - 48) = (s[k].toNat : Int) - 48 := IntWalk.u8_in _ (by omega)
        have HV5 : Hid (val (s.data.toList.take (k + 1)) < 10000000) := by
          have h1 := val_lt (l := s.data.toList.take (k + 1)) HDN.out
          have h2 : (s.data.toList.take (k + 1)).length ≤ 7 := by rw [List.length_take]; omega
          have h3 : 10 ^ (s.data.toList.take (k + 1)).length ≤ 10 ^ 7 := Nat.pow_le_pow_right (by omega) h2
          rw [Hid]; omega
        clear hts hsn hdn hc0 hd hv hvs hve l1 l2
        go_wp2
        go_round
        case rel => exact ⟨k + 1, hlt, by go_num, by rw [HSN.out], HDN, HV5⟩
        case measure => simp [RowKit.intOf]; omega
      · have hte : s.data.toList.take k = s.data.toList := List.take_of_length_le (by rw [HHS.out]; omega)
        rw [hte] at hd hv ⊢
        obtain ⟨v, hve⟩ : ∃ v : Nat, val s.data.toList = v := ⟨_, rfl⟩
        have hd0 := hd.out
        have hv0 := hv.out
        rw [hve] at hv0
        by_cases l5 : 1000000 < v
        · have HG := Lib.hid (getV_none (getB_great (l := s.data.toList) (by omega)))
          have l6 : 1000000 < (v : Int) := by omega
          rw [hve]
          clear hte hd hv hd0 hve l5
          go_wp2
          go_ret2
          rw [HG.out]
          exact ⟨rfl, rfl⟩
        · have HG := Lib.hid (getV_some (getB_of HHN.out HN2.out hd0 (by omega)))
          have l6 : ¬ 1000000 < (v : Int) := by omega
          rw [hve] at HG ⊢
          clear hte hd hv hd0 hve l5
          go_wp2
          go_ret2
          rw [HG.out]
          exact ⟨rfl, rfl⟩

end Go.Proofs.YtpekceadjcbphaaDoor

namespace Go.Proofs.YtpekceadjcbphaaDoor
open Go.RowKit

theorem slice_two {P : Program} {t : TypeId} (w : World) (s : ByteArray) (p q : Nat) (ht : P.underlying t = some .string) (h : p ≤ q) (h2 : q ≤ s.size) :
    (Instr.slice t (.string s) (some (.int .i64 (p : Int))) (some (.int .i64 (q : Int))) none).run P w = .ok (.string (s.extract p q)) w := by
  rw [run_slice_string w t s .i64 .i64 _ _ ht (by omega) (by omega) (by omega)]
  rfl
end Go.Proofs.YtpekceadjcbphaaDoor

namespace Go.Proofs.YtpekceadjcbphaaDoor.Dv
open Go.RowKit

/-- The page's tokens behind a slice. -/
def PTok (w : World) (L : List Tok) (v : Value) : Prop := ∃ a cap, v = .slice a L.length cap ∧ L.length ≤ cap ∧ cap ≤ maxLen ∧ (L = [] ∨ ∃ g cs fz, a = some ⟨g, 0, none⟩ ∧ w.heap[g]? = some (Obj.cells cs 79 fz) ∧ cs.toList.take (L.length * 3) = cells3 L)
theorem PTok.keep {w w' : World} {ts : List Tok} {v : Value} (h : PTok w ts v) (hk : ∀ (g : Nat) (cs : Array Value) (fz : Nat × Nat), w.heap[g]? = some (Obj.cells cs 79 fz) → w'.heap[g]? = some (Obj.cells cs 79 fz)) : PTok w' ts v := by
  obtain ⟨a, cap, hv, h1, h2, h3⟩ := h
  refine ⟨a, cap, hv, h1, h2, ?_⟩
  rcases h3 with h3 | ⟨g, cs, fz, h4, h5, h6⟩
  · exact Or.inl h3
  · exact Or.inr ⟨g, cs, fz, h4, hk _ _ _ h5, h6⟩
theorem PTok.cell {w : World} {L : List Tok} {v : Value} (h : PTok w L v) : ∃ a cap, v = .slice a L.length cap ∧ ∀ p t, L[p]? = some t → ∃ g, a = some ⟨g, 0, none⟩ ∧ w.cell? ⟨g, p * 3, none⟩ = some (.int .i64 t.k) ∧ w.cell? ⟨g, p * 3 + 1, none⟩ = some (.string ⟨t.s.toArray⟩) ∧ w.cell? ⟨g, p * 3 + 2, none⟩ = some (.int .i64 t.at_) := by
  obtain ⟨a, cap, hv, h1, h2, h3⟩ := h
  refine ⟨a, cap, hv, fun p t ht => ?_⟩
  obtain ⟨hp, rfl⟩ := List.getElem?_eq_some_iff.1 ht
  rcases h3 with rfl | ⟨g, cs, fz, h4, h5, h6⟩
  · simp at hp
  · refine ⟨g, h4, ?_, ?_, ?_⟩
    · have hc := cells3_get L p hp 0 (by decide)
      rw [← h6, List.getElem?_take, if_pos (by omega)] at hc
      rw [Lib.cell_of_heap h5]; simpa using hc
    · have hc := cells3_get L p hp 1 (by decide)
      rw [← h6, List.getElem?_take, if_pos (by omega)] at hc
      rw [Lib.cell_of_heap h5]; simpa using hc
    · have hc := cells3_get L p hp 2 (by decide)
      rw [← h6, List.getElem?_take, if_pos (by omega)] at hc
      rw [Lib.cell_of_heap h5]; simpa using hc
/-- The block of the page's Reader. -/
def rrO (v : Value) (p : Nat) (bad : Int) (i j : Int) (nv : Value) : Obj := .cells #[v, .int .i64 p, .int .i64 bad, .int .i64 i, .int .i64 j, nv] 52 (0, 0)
theorem rr_cells {w : World} {R p : Nat} {v nv : Value} {bad i j : Int} (h : w.heap[R]? = some (rrO v p bad i j nv)) : w.cell? ⟨R, 0, none⟩ = some v ∧ w.cell? ⟨R, 1, none⟩ = some (.int .i64 p) ∧ w.cell? ⟨R, 2, none⟩ = some (.int .i64 bad) := by
  unfold rrO at h
  exact ⟨by rw [Lib.cell_of_heap h]; rfl, by rw [Lib.cell_of_heap h]; rfl, by rw [Lib.cell_of_heap h]; rfl⟩
def DrewOf (w w' : World) : Prop := ∃ k, w' = w.drewN k
theorem drewN_heap (w : World) : ∀ k, (w.drewN k).heap = w.heap
  | 0 => rfl
  | k + 1 => drewN_heap w k
theorem drewN_cell (w : World) (k : Nat) (a : Addr) : (w.drewN k).cell? a = w.cell? a := by
  induction k with
  | zero => rfl
  | succ k ih => exact ih
theorem drewN_two (w : World) (k m : Nat) : DrewOf w ((w.drewN k).drewN m) := by
  induction m with
  | zero => exact ⟨k, rfl⟩
  | succ m ih => obtain ⟨q, hq⟩ := ih; exact ⟨q + 1, by show ((w.drewN k).drewN m).drew = (w.drewN q).drew; rw [hq]⟩
set_option maxRecDepth 20000 in
theorem rkind_any (R p : Nat) (v nv : Value) (bad i j : Int) (L : List Tok) (w : World) (hR : w.heap[R]? = some (rrO v p bad i j nv)) (hL : PTok w L v) : Calls Tryd.prog 31 #[.pointer (some ⟨R, 0, none⟩)] w fun e w' => e = .returned (.int .i64 (kindAt L p : Nat)) ∧ DrewOf w w' := by
  obtain ⟨a, cap, rfl, hc⟩ := hL.cell
  obtain ⟨c0, c1, c2⟩ := rr_cells hR
  have HLN := Lib.hid (show L.length ≤ maxLen by obtain ⟨a', cap', e, h1, h2, -⟩ := hL; omega)
  clear hR hL
  by_cases hlt : p < L.length
  · obtain ⟨g, rfl, k0, -, -⟩ := hc p L[p] (List.getElem?_eq_getElem hlt)
    have hk : kindAt L p = L[p].k := by simp [kindAt, List.getElem?_eq_getElem hlt]
    rw [hk]
    generalize L[p].k = kk at k0
    clear hc hk
    go_enter Tryd.func31, Tryd.ntmps31
    go_wp2_with fail
    go_quiet (fail)
    have d0 := (drewN_cell w nq _).trans c0
    have d1 := (drewN_cell w nq _).trans c1
    have m0 := (drewN_cell w nq _).trans k0
    have HD := Lib.hid (drewN_two w nq)
    generalize w.drewN nq = W at d0 d1 m0 HD
    clear c0 c1 c2 k0
    go_wp2_with fail
    go_quiet (fail)
    go_wp2
    go_ret
    exact ⟨rfl, HD.out _⟩
  · have hk : kindAt L p = 0 := by simp [kindAt, List.getElem?_eq_none (by omega : L.length ≤ p)]
    rw [hk]
    clear hc hk
    go_enter Tryd.func31, Tryd.ntmps31
    go_wp2_with fail
    go_quiet (fail)
    have HD := Lib.hid (show DrewOf w (w.drewN nq) from ⟨nq, rfl⟩)
    generalize w.drewN nq = W at HD
    go_wp2
    go_ret
    exact ⟨rfl, HD.out⟩
set_option maxRecDepth 20000 in
theorem rword_any (R p : Nat) (v nv : Value) (bad i j : Int) (L : List Tok) (w : World) (hR : w.heap[R]? = some (rrO v p bad i j nv)) (hL : PTok w L v) : Calls Tryd.prog 43 #[.pointer (some ⟨R, 0, none⟩)] w fun e w' => e = .returned (.string ⟨(wordAt L p).toArray⟩) ∧ DrewOf w w' := by
  obtain ⟨a, cap, rfl, hc⟩ := hL.cell
  obtain ⟨c0, c1, c2⟩ := rr_cells hR
  have HLN := Lib.hid (show L.length ≤ maxLen by obtain ⟨a', cap', e, h1, h2, -⟩ := hL; omega)
  clear hR hL
  by_cases hlt : p < L.length
  · obtain ⟨g, rfl, -, k0, -⟩ := hc p L[p] (List.getElem?_eq_getElem hlt)
    have hk : wordAt L p = L[p].s := by simp [wordAt, List.getElem?_eq_getElem hlt]
    rw [hk]
    generalize (⟨(L[p].s).toArray⟩ : ByteArray) = kk at k0
    clear hc hk
    go_enter Tryd.func43, Tryd.ntmps43
    go_wp2_with fail
    go_quiet (fail)
    have d0 := (drewN_cell w nq _).trans c0
    have d1 := (drewN_cell w nq _).trans c1
    have m0 := (drewN_cell w nq _).trans k0
    have HD := Lib.hid (drewN_two w nq)
    generalize w.drewN nq = W at d0 d1 m0 HD
    clear c0 c1 c2 k0
    go_wp2_with fail
    go_quiet (fail)
    go_wp2
    go_ret
    exact ⟨rfl, HD.out _⟩
  · have hk : wordAt L p = [] := by simp [wordAt, List.getElem?_eq_none (by omega : L.length ≤ p)]
    rw [hk]
    clear hc hk
    go_enter Tryd.func43, Tryd.ntmps43
    go_wp2_with fail
    go_quiet (fail)
    have HD := Lib.hid (show DrewOf w (w.drewN nq) from ⟨nq, rfl⟩)
    generalize w.drewN nq = W at HD
    go_wp2
    go_ret
    exact ⟨rfl, HD.out⟩
/-- The token at fault, as an int. -/
def badV : Option Nat → Int
  | none => -1
  | some b => b
def rrX (v : Value) (s : XS) (i j : Int) (nv : Value) : Obj := rrO v s.p (badV s.bad) i j nv
theorem rr_set {w : World} {R p : Nat} {v nv : Value} {bad i j : Int} (h : w.heap[R]? = some (rrO v p bad i j nv)) (b : Int) : (w.setCell ⟨R, 2, none⟩ (.int .i64 b)).heap[R]? = some (rrO v p b i j nv) := heap_setCell_same w R 2 _ _ _ h
theorem rr_setp {w : World} {R p : Nat} {v nv : Value} {bad i j : Int} (h : w.heap[R]? = some (rrO v p bad i j nv)) (q : Nat) : (w.setCell ⟨R, 1, none⟩ (.int .i64 q)).heap[R]? = some (rrO v q bad i j nv) := heap_setCell_same w R 1 _ _ _ h
set_option maxRecDepth 20000 in
theorem rfail_any (R : Nat) (v nv : Value) (s : XS) (i j : Int) (w : World) (hR : w.heap[R]? = some (rrX v s i j nv)) : Calls Tryd.prog 44 #[.pointer (some ⟨R, 0, none⟩), .int .i64 s.p] w fun e w' => e = .returned (.tuple #[]) ∧ w.grownBy w' (some R) ∧ w'.heap[R]? = some (rrX v s.fail i j nv) := by
  obtain ⟨c0, c1, c2⟩ := rr_cells hR
  have hf : w.frozen? ⟨R, 2, none⟩ = false := by
    unfold rrX rrO at hR
    unfold World.frozen?
    rw [hR]
    rfl
  have HG := Lib.hid (grown_at (S := R) (⟨rfl, rfl, rfl, Nat.le_refl _, fun _ _ _ => rfl⟩ : w.grownBy w none) 2 (.int .i64 (s.p : Nat)))
  have HR := Lib.hid hR
  have HG0 := Lib.hid (show w.grownBy w (some R) from ⟨rfl, rfl, rfl, Nat.le_refl _, fun _ _ _ => rfl⟩)
  clear hR
  cases hb : s.bad with
  | none =>
    have hq := rr_set (HR.out) (s.p : Nat)
    have HQ := Lib.hid (show (w.setCell ⟨R, 2, none⟩ (.int .i64 (s.p : Nat))).heap[R]? = some (rrX v s.fail i j nv) by
      rw [hq]; unfold rrX XS.fail; rw [hb]; rfl)
    rw [hb] at c2
    unfold badV at c2
    clear hq
    go_enter Tryd.func44, Tryd.ntmps44
    go_wp2
    exact bodyPost_end (results_none rfl _ _ _) rfl ⟨rfl, HG.out, HQ.out⟩
  | some b =>
    have HQ := Lib.hid (show w.heap[R]? = some (rrX v s.fail i j nv) by
      rw [HR.out]; unfold rrX XS.fail; rw [hb]; simp [hb])
    rw [hb] at c2
    unfold badV at c2
    have h0 : (0 : Int) ≤ (b : Int) := by omega
    go_enter Tryd.func44, Tryd.ntmps44
    go_wp2
    exact bodyPost_end (results_none rfl _ _ _) rfl ⟨rfl, HG0.out, HQ.out⟩
theorem drewN_row (w : World) (k : Nat) (row : Option Nat) : w.grownBy (w.drewN k) row := by
  have h := drewN_grown w k
  exact ⟨h.os, h.tape, h.output, h.size, fun b hb _ => by rw [drewN_heap]⟩
theorem PTok.heap {w w' : World} {L : List Tok} {v : Value} (h : PTok w L v) (e : w'.heap = w.heap) : PTok w' L v := h.keep fun g cs fz h2 => by rw [e]; exact h2
theorem PTok.row {w w' : World} {L : List Tok} {v v0 nv : Value} {R p : Nat} {bad i j : Int} (h : PTok w L v) (hR : w.heap[R]? = some (rrO v0 p bad i j nv)) (hg : w.grownBy w' (some R)) : PTok w' L v :=
  h.keep fun g cs fz e => by
    rw [hg.block g (hltD e) (fun e2 => by
      obtain rfl := Option.some.inj e2
      unfold rrO at hR
      exact absurd (typeD e hR) (by decide))]
    exact e
/-- What Want gives. -/
def WantG (R : Nat) (v nv : Value) (i j : Int) (w : World) (x : List UInt8 × XS) (e : Ending) (w' : World) : Prop := e = .returned (.string ⟨x.1.toArray⟩) ∧ w.grownBy w' (some R) ∧ w'.heap[R]? = some (rrX v x.2 i j nv)
set_option maxHeartbeats 1000000 in
set_option maxRecDepth 20000 in
theorem rwant_any (R k : Nat) (v nv : Value) (s : XS) (i j : Int) (L : List Tok) (w : World) (hR : w.heap[R]? = some (rrX v s i j nv)) (hL : PTok w L v) (hp : s.p ≤ 1000000000) : Calls Tryd.prog 30 #[.pointer (some ⟨R, 0, none⟩), .int .i64 k] w (WantG R v nv i j w (wantX L k s)) := by
  obtain ⟨c0, c1, c2⟩ := rr_cells hR
  have HG0 := Lib.hid (show w.grownBy w (some R) from ⟨rfl, rfl, rfl, Nat.le_refl _, fun _ _ _ => rfl⟩)
  have HR := Lib.hid hR
  have HL := Lib.hid hL
  have HK := Lib.hid (rkind_any R s.p v nv (badV s.bad) i j L w hR hL)
  clear hR hL
  cases hb : s.bad with
  | some b =>
    have hx : wantX L k s = ([], s) := want_bad hb
    rw [hb] at c2
    unfold badV at c2
    have h0 : (0 : Int) ≤ (b : Int) := by omega
    rw [hx]
    go_enter Tryd.func30, Tryd.ntmps30
    go_wp2
    go_ret
    exact ⟨rfl, HG0.out, HR.out⟩
  | none =>
    rw [hb] at c2
    unfold badV at c2
    by_cases hk : kindAt L s.p = k
    · have hx : wantX L k s = (wordAt L s.p, s.next) := by unfold wantX; rw [hb]; simp only; rw [if_pos hk]
      rw [hx]
      have hkb : ((kindAt L s.p : Nat) : Int) = (k : Int) := by rw [hk]
      go_enter Tryd.func30, Tryd.ntmps30
      go_wp2_with fail
      refine HK.out.mono ?_
      rintro e w1 ⟨rfl, q1, rfl⟩
      rw [hkb]
      have HR1 := Lib.hid (show (w.drewN q1).heap[R]? = some (rrX v s i j nv) by rw [drewN_heap]; exact HR.out)
      have HL1 := Lib.hid (HL.out.heap (drewN_heap w q1))
      have HG1 := Lib.hid (drewN_row w q1 (some R))
      generalize w.drewN q1 = W at HR1 HL1 HG1
      clear HK HG0 c0 c1 c2
      go_wp2_with fail
      refine (rword_any R s.p v nv (badV s.bad) i j L W HR1.out HL1.out).mono ?_
      rintro e w2 ⟨rfl, q2, rfl⟩
      have HR2 := Lib.hid (show (W.drewN q2).heap[R]? = some (rrX v s i j nv) by rw [drewN_heap]; exact HR1.out)
      have HG2 := Lib.hid (HG1.out.trans (drewN_row W q2 (some R)))
      generalize W.drewN q2 = U at HR2 HG2
      obtain ⟨c0, c1, c2⟩ := rr_cells HR2.out
      have hf : U.frozen? ⟨R, 1, none⟩ = false := by
        have hR := HR2.out
        unfold rrX rrO at hR
        unfold World.frozen?
        rw [hR]
        rfl
      have HQ := Lib.hid (show (U.setCell ⟨R, 1, none⟩ (.int .i64 ((s.p : Int) + 1))).heap[R]? = some (rrX v s.next i j nv) from rr_setp HR2.out (s.p + 1))
      have HG := Lib.hid (HG2.out.trans (grown_at (S := R) (⟨rfl, rfl, rfl, Nat.le_refl _, fun _ _ _ => rfl⟩ : U.grownBy U none) 1 (.int .i64 ((s.p : Int) + 1))))
      go_wp2
      go_ret
      exact ⟨rfl, HG.out, HQ.out⟩
    · have hx : wantX L k s = ([], s.fail) := by unfold wantX; rw [hb]; simp only; rw [if_neg hk]
      rw [hx]
      have hkb : ¬ ((kindAt L s.p : Nat) : Int) = (k : Int) := by omega
      go_enter Tryd.func30, Tryd.ntmps30
      go_wp2_with fail
      refine HK.out.mono ?_
      rintro e w1 ⟨rfl, q1, rfl⟩
      have HR1 := Lib.hid (show (w.drewN q1).heap[R]? = some (rrX v s i j nv) by rw [drewN_heap]; exact HR.out)
      have HG1 := Lib.hid (drewN_row w q1 (some R))
      generalize w.drewN q1 = W at HR1 HG1
      clear HK HG0 HL c0 c1 c2
      obtain ⟨c0, c1, c2⟩ := rr_cells HR1.out
      go_wp2_with fail
      refine (rfail_any R v nv s i j W HR1.out).mono ?_
      rintro e w2 ⟨rfl, hg2, hq2⟩
      have HG := Lib.hid (HG1.out.trans hg2)
      have HQ := Lib.hid hq2
      clear hg2 hq2
      go_wp2
      go_ret
      exact ⟨rfl, HG.out, HQ.out⟩
end Go.Proofs.YtpekceadjcbphaaDoor.Dv

namespace Go.Proofs.YtpekceadjcbphaaDoor.Rt
open Go.RowKit
open Dv (XS kindAt wordAt placeAt wantX kind_cons kind_nil want_bad rrO rrX badV PTok rr_set rr_setp DrewOf drewN_heap drewN_row hltD)

/-- The Reader's block, its tokens, the two levels. -/
structure PR where
  R : Nat
  L : List Tok
  v : Value
  i : Int
  j : Int
structure RS (c : PR) (nv : Value) (s : XS) (w : World) : Prop where
  rd : w.heap[c.R]? = some (rrX c.v s c.i c.j nv)
  tok : PTok w c.L c.v
/-- Nothing but the Reader's block is other than it was. -/
abbrev Fw (c : PR) (w w' : World) : Prop := w.grownBy w' (some c.R)
theorem Fw.refl (c : PR) (w : World) : Fw c w w := ⟨rfl, rfl, rfl, Nat.le_refl _, fun _ _ _ => rfl⟩
theorem RS.cells {c : PR} {nv : Value} {s : XS} {w : World} (h : RS c nv s w) : w.cell? ⟨c.R, 0, none⟩ = some c.v ∧ w.cell? ⟨c.R, 1, none⟩ = some (.int .i64 s.p) ∧ w.cell? ⟨c.R, 2, none⟩ = some (.int .i64 (badV s.bad)) ∧ w.cell? ⟨c.R, 3, none⟩ = some (.int .i64 c.i) ∧ w.cell? ⟨c.R, 4, none⟩ = some (.int .i64 c.j) ∧ w.cell? ⟨c.R, 5, none⟩ = some nv := by
  have r := h.rd
  unfold rrX rrO at r
  exact ⟨by rw [Lib.cell_of_heap r]; rfl, by rw [Lib.cell_of_heap r]; rfl, by rw [Lib.cell_of_heap r]; rfl, by rw [Lib.cell_of_heap r]; rfl, by rw [Lib.cell_of_heap r]; rfl, by rw [Lib.cell_of_heap r]; rfl⟩
theorem RS.free {c : PR} {nv : Value} {s : XS} {w : World} (h : RS c nv s w) (q : Nat) : w.frozen? ⟨c.R, q, none⟩ = false := by
  have r := h.rd
  unfold rrX rrO at r
  unfold World.frozen?
  rw [r]; rfl
theorem RS.lt {c : PR} {nv : Value} {s : XS} {w : World} (h : RS c nv s w) : c.R < w.heap.size := hltD h.rd
theorem RS.of {c : PR} {nv nv' : Value} {s s' : XS} {w w' : World} (h : RS c nv s w) (hg : Fw c w w') (hr : w'.heap[c.R]? = some (rrX c.v s' c.i c.j nv')) : RS c nv' s' w' := ⟨hr, h.tok.row (by have := h.rd; unfold rrX at this; exact this) hg⟩
theorem RS.other {c : PR} {nv : Value} {s : XS} {w w' : World} {row : Option Nat} (h : RS c nv s w) (hg : w.grownBy w' row) (hR : row ≠ some c.R) (hT : ∀ b, row = some b → ∀ (cs : Array Value) (T : TypeId) (fz : Nat × Nat), w.heap[b]? = some (Obj.cells cs T fz) → T ≠ 79) : RS c nv s w' :=
  ⟨(hg.block _ h.lt (fun e => hR e.symm)).trans h.rd, h.tok.keep fun g _ _ e => (hg.block g (hltD e) (fun e2 => hT g e2.symm _ _ _ e rfl)).trans e⟩
theorem RS.same {c : PR} {nv : Value} {s : XS} {w w' : World} (h : RS c nv s w) (hg : w.grownBy w' none) : RS c nv s w' := h.other hg (by simp) (fun b e => by cases e)
theorem drewN_gr (w : World) (k : Nat) : w.grownBy (w.drewN k) none := drewN_row w k none
theorem RS.drewN {c : PR} {nv : Value} {s : XS} {w : World} (h : RS c nv s w) (k : Nat) : RS c nv s (w.drewN k) := h.same (drewN_gr w k)
theorem Fw.same {c : PR} {w w' w2 : World} (h : Fw c w w') (hg : w'.grownBy w2 none) : Fw c w w2 := h.trans ⟨hg.os, hg.tape, hg.output, hg.size, fun b hb _ => hg.block b hb (by simp)⟩
theorem RS.step {c : PR} {nv : Value} {s : XS} {w : World} (h : RS c nv s w) : RS c nv s.next (w.setCell ⟨c.R, 1, none⟩ (.int .i64 ((s.p : Int) + 1))) ∧ Fw c w (w.setCell ⟨c.R, 1, none⟩ (.int .i64 ((s.p : Int) + 1))) := by
  have hg : Fw c w (w.setCell ⟨c.R, 1, none⟩ (.int .i64 ((s.p : Int) + 1))) := grown_at ⟨rfl, rfl, rfl, Nat.le_refl _, fun _ _ _ => rfl⟩ 1 _
  refine ⟨h.of hg ?_, hg⟩
  have r := h.rd
  unfold rrX at r ⊢
  exact rr_setp r (s.p + 1)
theorem RS.kind {c : PR} {nv : Value} {s : XS} {w : World} (h : RS c nv s w) : Calls Tryd.prog 31 #[.pointer (some ⟨c.R, 0, none⟩)] w fun e w' => e = .returned (.int .i64 (kindAt c.L s.p : Nat)) ∧ RS c nv s w' ∧ w.grownBy w' none :=
  (Dv.rkind_any c.R s.p c.v nv (badV s.bad) c.i c.j c.L w (by have := h.rd; unfold rrX at this; exact this) h.tok).mono (by
    rintro e w' ⟨rfl, k, rfl⟩
    exact ⟨rfl, h.drewN k, drewN_gr w k⟩)
theorem RS.word {c : PR} {nv : Value} {s : XS} {w : World} (h : RS c nv s w) : Calls Tryd.prog 43 #[.pointer (some ⟨c.R, 0, none⟩)] w fun e w' => e = .returned (.string ⟨(wordAt c.L s.p).toArray⟩) ∧ RS c nv s w' ∧ w.grownBy w' none :=
  (Dv.rword_any c.R s.p c.v nv (badV s.bad) c.i c.j c.L w (by have := h.rd; unfold rrX at this; exact this) h.tok).mono (by
    rintro e w' ⟨rfl, k, rfl⟩
    exact ⟨rfl, h.drewN k, drewN_gr w k⟩)
theorem RS.want {c : PR} {nv : Value} {s : XS} {w : World} (h : RS c nv s w) (k : Nat) (hp : s.p ≤ 1000000000) : Calls Tryd.prog 30 #[.pointer (some ⟨c.R, 0, none⟩), .int .i64 k] w fun e w' => e = .returned (.string ⟨(wantX c.L k s).1.toArray⟩) ∧ RS c nv (wantX c.L k s).2 w' ∧ Fw c w w' :=
  (Dv.rwant_any c.R k c.v nv s c.i c.j c.L w h.rd h.tok hp).mono (by
    rintro e w' ⟨rfl, hg, hr⟩
    exact ⟨rfl, h.of hg hr, hg⟩)
set_option maxRecDepth 20000 in
theorem rfailat_any (c : PR) (nv : Value) (s : XS) (q : Nat) (w : World) (h : RS c nv s w) : Calls Tryd.prog 44 #[.pointer (some ⟨c.R, 0, none⟩), .int .i64 q] w fun e w' => e = .returned (.tuple #[]) ∧ RS c nv (failAt q s) w' ∧ Fw c w w' := by
  obtain ⟨c0, c1, c2, -, -, -⟩ := h.cells
  have hf := h.free 2
  have hg := grown_at (S := c.R) (⟨rfl, rfl, rfl, Nat.le_refl _, fun _ _ _ => rfl⟩ : w.grownBy w none) 2 (.int .i64 (q : Nat))
  have HG := Lib.hid hg
  have HS := Lib.hid h
  clear hg
  cases hb : s.bad with
  | none =>
    have HQ := Lib.hid (HS.out.of HG.out (nv' := nv) (s' := failAt q s) (by
      have r := HS.out.rd
      unfold rrX at r ⊢
      rw [rr_set r (q : Nat)]; unfold failAt; rw [hb]; rfl))
    rw [hb] at c2
    unfold badV at c2
    clear h
    go_enter Tryd.func44, Tryd.ntmps44
    go_wp2
    exact bodyPost_end (results_none rfl _ _ _) rfl ⟨rfl, HQ.out, HG.out⟩
  | some b =>
    have HX := Lib.hid (show failAt q s = s by unfold failAt; rw [hb])
    rw [hb] at c2
    unfold badV at c2
    have h0 : (0 : Int) ≤ (b : Int) := by omega
    clear h
    go_enter Tryd.func44, Tryd.ntmps44
    go_wp2
    exact bodyPost_end (results_none rfl _ _ _) rfl ⟨rfl, by rw [HX.out]; exact HS.out, Fw.refl _ _⟩
theorem fail_at (s : XS) : failAt s.p s = s.fail := by unfold failAt XS.fail; cases h : s.bad <;> rfl
theorem RS.failed {c : PR} {nv : Value} {s : XS} {w : World} (h : RS c nv s w) : Calls Tryd.prog 44 #[.pointer (some ⟨c.R, 0, none⟩), .int .i64 (s.p : Nat)] w fun e w' => e = .returned (.tuple #[]) ∧ RS c nv s.fail w' ∧ Fw c w w' :=
  (rfailat_any c nv s s.p w h).mono (by rintro e w' ⟨rfl, h1, h2⟩; rw [fail_at] at h1; exact ⟨rfl, h1, h2⟩)

/-- Where a Reader stands. -/
structure IX (L : List Tok) (s : XS) : Prop where
  p : s.p ≤ L.length
  bad : ∀ b, s.bad = some b → b ≤ L.length
theorem IX.failAt {L : List Tok} {s : XS} (h : IX L s) {q : Nat} (hq : q ≤ L.length) : IX L (failAt q s) := by
  unfold Rt.failAt
  cases hb : s.bad with
  | none => exact ⟨h.p, fun b e => by cases e; exact hq⟩
  | some b => exact h
theorem failAt_p (q : Nat) (s : XS) : (failAt q s).p = s.p := by unfold failAt; cases s.bad <;> rfl
theorem fail_p (s : XS) : s.fail.p = s.p := by rw [← fail_at, failAt_p]
theorem IX.fail {L : List Tok} {s : XS} (h : IX L s) : IX L s.fail := by rw [← fail_at]; exact h.failAt h.p
theorem kind_lt {L : List Tok} {p : Nat} (h : kindAt L p ≠ 0) : p < L.length := by
  rcases drop_kind (L := L) (p := p) with ⟨-, h1, -⟩ | ⟨t, r, h1, -⟩
  · exact absurd h1 h
  · have := congrArg List.length h1
    simp only [List.length_drop, List.length_cons] at this
    omega
theorem IX.next {L : List Tok} {s : XS} (h : IX L s) (hk : kindAt L s.p ≠ 0) : IX L s.next := ⟨kind_lt hk, h.bad⟩
theorem IX.want {L : List Tok} {s : XS} (h : IX L s) {k : Nat} (hk : k ≠ 0) : IX L (wantX L k s).2 := by
  unfold wantX
  cases hb : s.bad with
  | some b => exact h
  | none =>
    simp only
    split
    · rename_i e; exact h.next (by omega)
    · exact h.fail
theorem want_up (L : List Tok) (k : Nat) (s : XS) : s.p ≤ (wantX L k s).2.p := by
  unfold wantX
  cases s.bad with
  | some b => exact Nat.le_refl _
  | none =>
    simp only
    split
    · exact Nat.le_succ _
    · rw [fail_p]; exact Nat.le_refl _
/-- What a level's reading keeps. -/
structure KeepL (L : List Tok) (lx : XS → Int × XS) : Prop where
  keep : ∀ s, IX L s → IX L (lx s).2
  up : ∀ s, s.p ≤ (lx s).2.p
  nn : ∀ s, 0 ≤ (lx s).1 ∧ (lx s).1 ≤ 1000
theorem levQ_keep {lx : XS → Int × XS} {L : List Tok} (h : KeepL L lx) {s : XS} : (IX L s → IX L (levQ lx L s).2) ∧ s.p ≤ (levQ lx L s).2.p ∧ 0 ≤ (levQ lx L s).1 ∧ (levQ lx L s).1 ≤ 1001 := by
  unfold levQ
  split
  · rename_i hc
    split
    · refine ⟨fun hi => IX.want (h.keep _ (hi.next (by omega))) (by decide), ?_, ?_, ?_⟩
      · have := h.up s.next; have h2 := want_up L 2 (lx s.next).2; show s.p ≤ (wantX L 2 (lx s.next).2).2.p
        have h3 : s.next.p = s.p + 1 := rfl
        omega
      · have := h.nn s.next; show 0 ≤ (lx s.next).1 + 1; omega
      · have := h.nn s.next; show (lx s.next).1 + 1 ≤ 1001; omega
    · refine ⟨fun hi => IX.want (h.keep _ (h.keep _ (hi.next (by omega)))) (by decide), ?_, ?_, ?_⟩
      · have := h.up s.next; have h4 := h.up (lx s.next).2; have h2 := want_up L 2 (lx (lx s.next).2).2; show s.p ≤ (wantX L 2 (lx (lx s.next).2).2).2.p
        have h3 : s.next.p = s.p + 1 := rfl
        omega
      · have := h.nn s.next; show 0 ≤ max (lx s.next).1 (lx (lx s.next).2).1; omega
      · have := h.nn s.next; have := h.nn (lx s.next).2; show max (lx s.next).1 (lx (lx s.next).2).1 ≤ 1001; omega
  · exact ⟨fun hi => hi.fail, by rw [fail_p]; exact Nat.le_refl _, Int.le_refl 0, by show (0 : Int) ≤ 1001; decide⟩
theorem levN_keep {lx : XS → Int × XS} {L : List Tok} (h : KeepL L lx) {i j : Int} (hi : 0 ≤ i ∧ i ≤ 1000) (hj : 0 ≤ j ∧ j ≤ 1000) {s : XS} : (IX L s → IX L (levN lx L i j s).2) ∧ s.p ≤ (levN lx L i j s).2.p ∧ 0 ≤ (levN lx L i j s).1 := by
  unfold levN
  by_cases k4 : kindAt L s.p = 4
  · rw [if_pos k4]
    exact ⟨fun h => h.next (by omega), Nat.le_succ _, Int.natCast_nonneg _⟩
  rw [if_neg k4]
  by_cases ki : kindAt L s.p = 3 ∧ wordAt L s.p = [105]
  · rw [if_pos ki]
    exact ⟨fun h => h.next (by omega), Nat.le_succ _, hi.1⟩
  rw [if_neg ki]
  by_cases kj : kindAt L s.p = 3 ∧ wordAt L s.p = [106]
  · rw [if_pos kj]
    exact ⟨fun h => h.next (by omega), Nat.le_succ _, hj.1⟩
  rw [if_neg kj]
  by_cases k1 : kindAt L s.p = 1
  · rw [if_pos k1]
    obtain ⟨q1, q2, q3, -⟩ := levQ_keep h (s := s.next)
    exact ⟨fun h => q1 (h.next (by omega)), Nat.le_trans (Nat.le_succ _) q2, q3⟩
  · rw [if_neg k1]
    exact ⟨fun h => h.fail, by rw [fail_p]; exact Nat.le_refl _, Int.le_refl 0⟩
theorem levE_keep {L : List Tok} {p0 : Nat} {x : Int × XS} (h0 : 0 ≤ x.1) (hp : p0 ≤ x.2.p) : (p0 ≤ L.length → IX L x.2 → IX L (levE p0 x).2) ∧ p0 ≤ (levE p0 x).2.p ∧ 0 ≤ (levE p0 x).1 ∧ (levE p0 x).1 ≤ 1000 := by
  have e : (levE p0 x).2 = if 1000 < x.1 then failAt p0 x.2 else x.2 := by
    unfold levE
    by_cases hb : (if 1000 < x.1 then failAt p0 x.2 else x.2).bad = none
    · rw [if_pos hb]
    · rw [if_neg hb]
  have e1 : (levE p0 x).1 = if (if 1000 < x.1 then failAt p0 x.2 else x.2).bad = none then x.1 else 0 := by
    unfold levE
    by_cases hb : (if 1000 < x.1 then failAt p0 x.2 else x.2).bad = none
    · rw [if_pos hb, if_pos hb]
    · rw [if_neg hb, if_neg hb]
  rw [e, e1]
  refine ⟨fun hq hi => ?_, ?_, ?_, ?_⟩
  · split
    · exact hi.failAt hq
    · exact hi
  · split
    · rw [failAt_p]; exact hp
    · exact hp
  · by_cases hb : (if 1000 < x.1 then failAt p0 x.2 else x.2).bad = none
    · rw [if_pos hb]; exact h0
    · rw [if_neg hb]; exact Int.le_refl 0
  · by_cases hb : (if 1000 < x.1 then failAt p0 x.2 else x.2).bad = none
    · rw [if_pos hb]
      by_cases hn : 1000 < x.1
      · rw [if_pos hn] at hb
        unfold failAt at hb
        cases hx : x.2.bad with
        | none => rw [hx] at hb; cases hb
        | some b => rw [hx] at hb; dsimp only at hb; rw [hx] at hb; cases hb
      · omega
    · rw [if_neg hb]; show (0 : Int) ≤ 1000; decide
theorem levX_keep {L : List Tok} {i j : Int} (hi : 0 ≤ i ∧ i ≤ 1000) (hj : 0 ≤ j ∧ j ≤ 1000) : ∀ f, KeepL L (levX L i j f)
  | 0 => ⟨fun s h => h.fail, fun s => by show s.p ≤ s.fail.p; rw [fail_p]; exact Nat.le_refl _, fun s => ⟨Int.le_refl 0, by show (0 : Int) ≤ 1000; decide⟩⟩
  | f + 1 => by
    have H := fun s => levN_keep (levX_keep (L := L) hi hj f) hi hj (s := s)
    refine ⟨fun s h => ?_, fun s => ?_, fun s => ?_⟩
    · unfold levX
      cases hb : s.bad with
      | some b => exact h
      | none => exact (levE_keep (L := L) (H s).2.2 (H s).2.1).1 h.p ((H s).1 h)
    · unfold levX
      cases hb : s.bad with
      | some b => exact Nat.le_refl _
      | none => exact (levE_keep (L := L) (H s).2.2 (H s).2.1).2.1
    · unfold levX
      cases hb : s.bad with
      | some b => exact ⟨Int.le_refl 0, by show (0 : Int) ≤ 1000; decide⟩
      | none => exact (levE_keep (L := L) (H s).2.2 (H s).2.1).2.2
end Go.Proofs.YtpekceadjcbphaaDoor.Rt

namespace Go.Proofs.YtpekceadjcbphaaDoor.Rt
open Go.RowKit
open Dv (XS kindAt wordAt placeAt wantX rrX badV PTok)

structure LevC (c : PR) (f : Nat) (lx : XS → Int × XS) : Prop where
  use : ∀ (nv : Value) (s : XS) (w : World), IX c.L s → c.L.length + 1 ≤ s.p + f → RS c nv s w → Calls Tryd.prog 61 #[.pointer (some ⟨c.R, 0, none⟩)] w fun e w' => e = .returned (.int .i64 (lx s).1) ∧ RS c nv (lx s).2 w' ∧ Fw c w w'
theorem word_at {L : List Tok} (h : ∀ t ∈ L, t.s.length ≤ 10000000) (p : Nat) : (wordAt L p).length ≤ 10000000 := by
  unfold wordAt
  cases e : L[p]? with
  | none => simp
  | some t => exact h t (List.mem_of_getElem? e)
theorem failAt_bad (q : Nat) (s : XS) : ∃ b, (failAt q s).bad = some b := by
  unfold failAt
  cases h : s.bad with
  | none => exact ⟨q, rfl⟩
  | some b => exact ⟨b, h⟩
theorem levE_out {p0 : Nat} {n : Int} {y : XS} (h : 1000 < n) : levE p0 (n, y) = (0, failAt p0 y) := by
  obtain ⟨b, hb⟩ := failAt_bad p0 y
  unfold levE
  simp only [if_pos h]
  rw [if_neg (by rw [hb]; simp)]
theorem levE_in {p0 : Nat} {n : Int} {y : XS} (h : ¬ 1000 < n) (hb : y.bad = none) : levE p0 (n, y) = (n, y) := by
  unfold levE
  simp only [if_neg h]
  rw [if_pos hb]
theorem levE_bad {p0 b : Nat} {n : Int} {y : XS} (h : ¬ 1000 < n) (hb : y.bad = some b) : levE p0 (n, y) = (0, y) := by
  unfold levE
  simp only [if_neg h]
  rw [if_neg (by rw [hb]; simp)]
set_option maxHeartbeats 8000000 in
set_option maxRecDepth 20000 in
theorem rlevel_step (c : PR) (f : Nat) (hlen : c.L.length ≤ 1000000) (htl : ∀ t ∈ c.L, t.s.length ≤ 10000000) (hi : 0 ≤ c.i ∧ c.i ≤ 1000) (hj : 0 ≤ c.j ∧ c.j ≤ 1000) (hL : LevC c f (levX c.L c.i c.j f)) : LevC c (f + 1) (levX c.L c.i c.j (f + 1)) := by
  refine ⟨?_⟩
  intro nv s w hx hf h
  have HS0 := Lib.hid h
  have HF0 := Lib.hid (Fw.refl c w)
  have HI := Lib.hid hx
  have hp := hx.p
  obtain ⟨c0, c1, c2, c3, c4, c5⟩ := h.cells
  cases hb : s.bad with
  | some b =>
    have HX := Lib.hid (show levX c.L c.i c.j (f + 1) s = (0, s) from levX_sticks _ _ _ _ _ _ hb)
    rw [hb] at c2
    unfold badV at c2
    have h0 : (0 : Int) ≤ (b : Int) := by omega
    clear hL h hx
    go_enter Tryd.func61, Tryd.ntmps61
    go_wp2
    go_ret
    rw [HX.out]
    exact ⟨rfl, HS0.out, HF0.out⟩
  | none =>
    obtain ⟨X, hX⟩ : ∃ X, levX c.L c.i c.j (f + 1) s = X := ⟨_, rfl⟩
    rw [hX]
    unfold levX at hX
    rw [hb] at hX
    dsimp only at hX
    have HK := Lib.hid (levX_keep (L := c.L) hi hj f)
    have HLV := Lib.hid hL
    clear hL
    generalize levX c.L c.i c.j f = lx at hX HK HLV
    have HX := Lib.hid hX
    rw [hb] at c2
    unfold badV at c2
    have hw1 : IntKind.i64.wrap ((s.p : Int) + 1) = (s.p : Int) + 1 := IntWalk.i64_in _ (by omega)
    have HB := Lib.hid hb
    have HFU := Lib.hid hf
    clear hX h hx hb hf
    go_enter Tryd.func61, Tryd.ntmps61
    by_cases hq : kindAt c.L s.p = 1 ∧ ¬ (kindAt c.L (s.p + 1) = 3 ∧ (wordAt c.L (s.p + 1) = sucW ∨ wordAt c.L (s.p + 1) = maxW))
    case pos =>
      obtain ⟨hk1, hq⟩ := hq
      have hki : ((kindAt c.L s.p : Nat) : Int) = 1 := by omega
      have HXX := Lib.hid (show X = (0, s.next.fail) by
        have e : levN lx c.L c.i c.j s = (0, s.next.fail) := by
          unfold levN
          rw [if_neg (by omega), if_neg (by omega), if_neg (by omega), if_pos hk1]
          unfold levQ
          rw [if_neg (by exact hq)]
        rw [← HX.out, e]
        have hnb : s.next.fail.bad = some s.next.p := fail_none (s := s.next) HB.out
        exact levE_bad (by omega) hnb)
      clear HX
      go_wp2_with fail
      refine HS0.out.kind.mono ?_
      rintro e w1 ⟨rfl, hs, hg⟩
      rw [hki]
      have HS1 := Lib.hid hs
      have HF1 := Lib.hid (Fw.same HF0.out hg)
      clear hs hg
      go_wp2_with fail
      refine HS1.out.kind.mono ?_
      rintro e w2 ⟨rfl, hs, hg⟩
      rw [hki]
      have HS2 := Lib.hid hs
      have HF2 := Lib.hid (Fw.same HF1.out hg)
      clear hs hg
      go_wp2_with fail
      refine HS2.out.kind.mono ?_
      rintro e w3 ⟨rfl, hs, hg⟩
      rw [hki]
      have HS3 := Lib.hid hs
      have HF3 := Lib.hid (Fw.same HF2.out hg)
      clear hs hg
      go_wp2_with fail
      refine HS3.out.kind.mono ?_
      rintro e w4 ⟨rfl, hs, hg⟩
      rw [hki]
      have HS4 := Lib.hid hs
      have HF4 := Lib.hid (Fw.same HF3.out hg)
      clear hs hg
      have hst := HS4.out.step
      have HSN := Lib.hid hst.1
      have HFN := Lib.hid (HF4.out.trans hst.2)
      clear hst
      clear c0 c1 c2 c3 c4 c5
      obtain ⟨c0, c1, c2, c3, c4, c5⟩ := HS4.out.cells
      have f1 := HS4.out.free 1
      go_upto_region 16 with fail
      obtain ⟨V, hV⟩ : ∃ V, V = w4.setCell ⟨c.R, 1, none⟩ (.int .i64 ((s.p : Int) + 1)) := ⟨_, rfl⟩
      rw [← hV] at HSN HFN
      rw [← hV]
      clear hV
      clear c0 c1 c2 c3 c4 c5 f1
      have HS5 := HSN
      have HF5 := HFN
      clear HSN HFN
      obtain ⟨wd, hwd⟩ : ∃ wd, wordAt c.L s.next.p = wd := ⟨_, rfl⟩
      rw [show wordAt c.L (s.p + 1) = wd from hwd] at hq
      go_wp2_with fail
      refine HS5.out.word.mono ?_
      rintro e w6 ⟨rfl, hs, hg⟩
      rw [hwd]
      have HS6 := Lib.hid hs
      have HF6 := Lib.hid (Fw.same HF5.out hg)
      clear hs hg
      clear hwd
      by_cases hk3 : kindAt c.L (s.p + 1) = 3
      case neg =>
        have hk3i : ¬ ((kindAt c.L s.next.p : Nat) : Int) = 3 := by rw [show s.next.p = s.p + 1 from rfl]; omega
        go_wp2_with fail
        refine HS6.out.kind.mono ?_
        rintro e w7 ⟨rfl, hs, hg⟩
        have HS7 := Lib.hid hs
        have HF7 := Lib.hid (Fw.same HF6.out hg)
        clear hs hg
        have hst := HS7.out.failed
        have HFL := Lib.hid hst
        clear hst
        obtain ⟨c0, c1, c2, c3, c4, c5⟩ := HS7.out.cells
        have f1 := HS7.out.free 1
        go_wp2_with fail
        refine HFL.out.mono ?_
        rintro e w9 ⟨rfl, hs9, hg9⟩
        have HS9 := Lib.hid hs9
        have HF9 := Lib.hid (HF7.out.trans hg9)
        clear hs9 hg9
        go_wp2
        go_ret
        rw [HXX.out]
        exact ⟨rfl, HS9.out, HF9.out⟩
      have hk3i : ((kindAt c.L s.next.p : Nat) : Int) = 3 := by rw [show s.next.p = s.p + 1 from rfl]; omega
      have hwa : (wd == [115, 117, 99]) = false := by have : ¬ wd = sucW := fun e => hq ⟨hk3, Or.inl e⟩; simpa [sucW] using this
      have hwb : (wd == [109, 97, 120]) = false := by have : ¬ wd = maxW := fun e => hq ⟨hk3, Or.inr e⟩; simpa [maxW] using this
      go_wp2_with fail
      refine HS6.out.kind.mono ?_
      rintro e w7 ⟨rfl, hs, hg⟩
      rw [hk3i]
      have HS7 := Lib.hid hs
      have HF7 := Lib.hid (Fw.same HF6.out hg)
      clear hs hg
      have hst := HS7.out.failed
      have HFL := Lib.hid hst
      clear hst
      obtain ⟨c0, c1, c2, c3, c4, c5⟩ := HS7.out.cells
      have f1 := HS7.out.free 1
      go_wp2_with fail
      refine HFL.out.mono ?_
      rintro e w9 ⟨rfl, hs9, hg9⟩
      have HS9 := Lib.hid hs9
      have HF9 := Lib.hid (HF7.out.trans hg9)
      clear hs9 hg9
      go_wp2
      go_ret
      rw [HXX.out]
      exact ⟨rfl, HS9.out, HF9.out⟩
    go_upto_block 0 with fail
    go_cut [4] (fun s4 wx => ∃ (n : Int) (y : XS), s4 = .int .i64 n ∧ Hid (levN lx c.L c.i c.j s = (n, y)) ∧ Hid (RS c nv y wx) ∧ Hid (Fw c w wx))
    case first =>
      by_cases hk4 : kindAt c.L s.p = 4
      case pos =>
        have hki : ((kindAt c.L s.p : Nat) : Int) = 4 := by omega
        have hln := word_at htl s.p
        obtain ⟨wd, hwd⟩ : ∃ wd, wordAt c.L s.p = wd := ⟨_, rfl⟩
        have HY := Lib.hid (show levN lx c.L c.i c.j s = ((((getB wd).getD 0 : Nat) : Int), s.next) by unfold levN; rw [if_pos hk4, hwd])
        rw [hwd] at hln
        go_wp2_with fail
        refine HS0.out.kind.mono ?_
        rintro e w1 ⟨rfl, hs, hg⟩
        rw [hki]
        have HS1 := Lib.hid hs
        have HF1 := Lib.hid (Fw.same HF0.out hg)
        clear hs hg
        go_wp2_with fail
        refine HS1.out.word.mono ?_
        rintro e w2 ⟨rfl, hs, hg⟩
        rw [hwd]
        have HS2 := Lib.hid hs
        have HF2 := Lib.hid (Fw.same HF1.out hg)
        clear hs hg
        clear hwd
        go_wp2_with fail
        refine (refget_any ⟨wd.toArray⟩ w2 (by show wd.toArray.size ≤ maxLen; unfold maxLen; rw [List.size_toArray]; omega)).mono ?_
        rintro e w' ⟨rfl, hww⟩
        obtain rfl := hww.symm
        have HGE := Lib.hid (getV_eq wd)
        obtain ⟨bb, hbb⟩ := HGE.out
        rw [show (⟨wd.toArray⟩ : ByteArray).data.toList = wd from rfl, hbb]
        have hgb := getB_d wd
        obtain ⟨nm, hnm⟩ : ∃ nm : Int, nm = (((getB wd).getD 0 : Nat) : Int) := ⟨_, rfl⟩
        rw [← hnm] at HY
        rw [← hnm]
        clear hnm hgb hbb HGE c0 c1 c2 c3 c4 c5
        have hst := HS2.out.step
        have HSN := Lib.hid hst.1
        have HFN := Lib.hid (HF2.out.trans hst.2)
        clear hst
        obtain ⟨c0, c1, c2, c3, c4, c5⟩ := HS2.out.cells
        have f1 := HS2.out.free 1
        go_wp2_with fail
        go_meet
        case rel => exact ⟨_, _, rfl, HY, HSN.out, HFN.out⟩
      by_cases hki3 : kindAt c.L s.p = 3 ∧ wordAt c.L s.p = [105]
      case pos =>
        have hk3 := hki3
        obtain ⟨hk3, hwd⟩ := hk3
        have hki : ((kindAt c.L s.p : Nat) : Int) = 3 := by omega
        have HY := Lib.hid (show levN lx c.L c.i c.j s = (c.i, s.next) by unfold levN; rw [if_neg (by omega), if_pos ⟨hk3, hwd⟩])
        go_wp2_with fail
        refine HS0.out.kind.mono ?_
        rintro e w1 ⟨rfl, hs, hg⟩
        rw [hki]
        have HS1 := Lib.hid hs
        have HF1 := Lib.hid (Fw.same HF0.out hg)
        clear hs hg
        go_wp2_with fail
        refine HS1.out.kind.mono ?_
        rintro e w2 ⟨rfl, hs, hg⟩
        rw [hki]
        have HS2 := Lib.hid hs
        have HF2 := Lib.hid (Fw.same HF1.out hg)
        clear hs hg
        go_wp2_with fail
        refine HS2.out.word.mono ?_
        rintro e w3 ⟨rfl, hs, hg⟩
        rw [hwd]
        have HS3 := Lib.hid hs
        have HF3 := Lib.hid (Fw.same HF2.out hg)
        clear hs hg
        clear c0 c1 c2 c3 c4 c5
        have hst := HS3.out.step
        have HSN := Lib.hid hst.1
        have HFN := Lib.hid (HF3.out.trans hst.2)
        clear hst
        obtain ⟨c0, c1, c2, c3, c4, c5⟩ := HS3.out.cells
        have f1 := HS3.out.free 1
        go_wp2_with fail
        go_meet
        case rel => exact ⟨_, _, rfl, HY, HSN.out, HFN.out⟩
      by_cases hkj3 : kindAt c.L s.p = 3 ∧ wordAt c.L s.p = [106]
      case pos =>
        have hk3 := hkj3
        obtain ⟨hk3, hwd⟩ := hk3
        have hki : ((kindAt c.L s.p : Nat) : Int) = 3 := by omega
        have HY := Lib.hid (show levN lx c.L c.i c.j s = (c.j, s.next) by unfold levN; rw [if_neg (by omega), if_neg hki3, if_pos ⟨hk3, hwd⟩])
        go_wp2_with fail
        refine HS0.out.kind.mono ?_
        rintro e w1 ⟨rfl, hs, hg⟩
        rw [hki]
        have HS1 := Lib.hid hs
        have HF1 := Lib.hid (Fw.same HF0.out hg)
        clear hs hg
        go_wp2_with fail
        refine HS1.out.kind.mono ?_
        rintro e w2 ⟨rfl, hs, hg⟩
        rw [hki]
        have HS2 := Lib.hid hs
        have HF2 := Lib.hid (Fw.same HF1.out hg)
        clear hs hg
        go_wp2_with fail
        refine HS2.out.word.mono ?_
        rintro e w3 ⟨rfl, hs, hg⟩
        rw [hwd]
        have HS3 := Lib.hid hs
        have HF3 := Lib.hid (Fw.same HF2.out hg)
        clear hs hg
        go_wp2_with fail
        refine HS3.out.kind.mono ?_
        rintro e w4 ⟨rfl, hs, hg⟩
        rw [hki]
        have HS4 := Lib.hid hs
        have HF4 := Lib.hid (Fw.same HF3.out hg)
        clear hs hg
        go_wp2_with fail
        refine HS4.out.word.mono ?_
        rintro e w5 ⟨rfl, hs, hg⟩
        rw [hwd]
        have HS5 := Lib.hid hs
        have HF5 := Lib.hid (Fw.same HF4.out hg)
        clear hs hg
        clear c0 c1 c2 c3 c4 c5
        have hst := HS5.out.step
        have HSN := Lib.hid hst.1
        have HFN := Lib.hid (HF5.out.trans hst.2)
        clear hst
        obtain ⟨c0, c1, c2, c3, c4, c5⟩ := HS5.out.cells
        have f1 := HS5.out.free 1
        go_wp2_with fail
        go_meet
        case rel => exact ⟨_, _, rfl, HY, HSN.out, HFN.out⟩
      by_cases hk3 : kindAt c.L s.p = 3
      case pos =>
        have hki : ((kindAt c.L s.p : Nat) : Int) = 3 := by omega
        obtain ⟨wd, hwd⟩ : ∃ wd, wordAt c.L s.p = wd := ⟨_, rfl⟩
        rw [hwd] at hki3 hkj3
        have hwa : (wd == [105]) = false := by have : ¬ wd = [105] := fun e => hki3 ⟨hk3, e⟩; simpa using this
        have hwb : (wd == [106]) = false := by have : ¬ wd = [106] := fun e => hkj3 ⟨hk3, e⟩; simpa using this
        have HY := Lib.hid (show levN lx c.L c.i c.j s = (0, s.fail) by unfold levN; rw [if_neg (by omega), if_neg (by rw [hwd]; exact hki3), if_neg (by rw [hwd]; exact hkj3), if_neg (by omega)])
        clear hki3 hkj3 hq
        go_wp2_with fail
        refine HS0.out.kind.mono ?_
        rintro e w1 ⟨rfl, hs, hg⟩
        rw [hki]
        have HS1 := Lib.hid hs
        have HF1 := Lib.hid (Fw.same HF0.out hg)
        clear hs hg
        go_wp2_with fail
        refine HS1.out.kind.mono ?_
        rintro e w2 ⟨rfl, hs, hg⟩
        rw [hki]
        have HS2 := Lib.hid hs
        have HF2 := Lib.hid (Fw.same HF1.out hg)
        clear hs hg
        go_wp2_with fail
        refine HS2.out.word.mono ?_
        rintro e w3 ⟨rfl, hs, hg⟩
        rw [hwd]
        have HS3 := Lib.hid hs
        have HF3 := Lib.hid (Fw.same HF2.out hg)
        clear hs hg
        go_wp2_with fail
        refine HS3.out.kind.mono ?_
        rintro e w4 ⟨rfl, hs, hg⟩
        rw [hki]
        have HS4 := Lib.hid hs
        have HF4 := Lib.hid (Fw.same HF3.out hg)
        clear hs hg
        go_wp2_with fail
        refine HS4.out.word.mono ?_
        rintro e w5 ⟨rfl, hs, hg⟩
        rw [hwd]
        have HS5 := Lib.hid hs
        have HF5 := Lib.hid (Fw.same HF4.out hg)
        clear hs hg
        go_wp2_with fail
        refine HS5.out.kind.mono ?_
        rintro e w6 ⟨rfl, hs, hg⟩
        rw [hki]
        have HS6 := Lib.hid hs
        have HF6 := Lib.hid (Fw.same HF5.out hg)
        clear hs hg
        have hst := HS6.out.failed
        have HFL := Lib.hid hst
        clear hst c0 c1 c2 c3 c4 c5
        obtain ⟨c0, c1, c2, c3, c4, c5⟩ := HS6.out.cells
        have f1 := HS6.out.free 1
        go_wp2_with fail
        refine HFL.out.mono ?_
        rintro e w9 ⟨rfl, hs9, hg9⟩
        have HSN := Lib.hid hs9
        have HFN := Lib.hid (HF6.out.trans hg9)
        clear hs9 hg9
        go_wp2_with fail
        go_meet
        case rel => exact ⟨_, _, rfl, HY, HSN.out, HFN.out⟩
      by_cases hk1 : kindAt c.L s.p = 1
      case neg =>
        have hk4i : ¬ ((kindAt c.L s.p : Nat) : Int) = 4 := by omega
        have hk3i : ¬ ((kindAt c.L s.p : Nat) : Int) = 3 := by omega
        have hk1i : ¬ ((kindAt c.L s.p : Nat) : Int) = 1 := by omega
        have HY := Lib.hid (show levN lx c.L c.i c.j s = (0, s.fail) by unfold levN; rw [if_neg hk4, if_neg hki3, if_neg hkj3, if_neg hk1])
        clear hki3 hkj3 hq
        go_wp2_with fail
        refine HS0.out.kind.mono ?_
        rintro e w1 ⟨rfl, hs, hg⟩
        have HS1 := Lib.hid hs
        have HF1 := Lib.hid (Fw.same HF0.out hg)
        clear hs hg
        go_wp2_with fail
        refine HS1.out.kind.mono ?_
        rintro e w2 ⟨rfl, hs, hg⟩
        have HS2 := Lib.hid hs
        have HF2 := Lib.hid (Fw.same HF1.out hg)
        clear hs hg
        go_wp2_with fail
        refine HS2.out.kind.mono ?_
        rintro e w3 ⟨rfl, hs, hg⟩
        have HS3 := Lib.hid hs
        have HF3 := Lib.hid (Fw.same HF2.out hg)
        clear hs hg
        go_wp2_with fail
        refine HS3.out.kind.mono ?_
        rintro e w4 ⟨rfl, hs, hg⟩
        have HS4 := Lib.hid hs
        have HF4 := Lib.hid (Fw.same HF3.out hg)
        clear hs hg
        have hst := HS4.out.failed
        have HFL := Lib.hid hst
        clear hst c0 c1 c2 c3 c4 c5
        obtain ⟨c0, c1, c2, c3, c4, c5⟩ := HS4.out.cells
        have f1 := HS4.out.free 1
        go_wp2_with fail
        refine HFL.out.mono ?_
        rintro e w9 ⟨rfl, hs9, hg9⟩
        have HSN := Lib.hid hs9
        have HFN := Lib.hid (HF4.out.trans hg9)
        clear hs9 hg9
        go_wp2_with fail
        go_meet
        case rel => exact ⟨_, _, rfl, HY, HSN.out, HFN.out⟩
      have hq : kindAt c.L (s.p + 1) = 3 ∧ (wordAt c.L (s.p + 1) = sucW ∨ wordAt c.L (s.p + 1) = maxW) := Classical.byContradiction fun e => hq ⟨hk1, e⟩
      have hki : ((kindAt c.L s.p : Nat) : Int) = 1 := by omega
      have HY := Lib.hid (show levN lx c.L c.i c.j s = levQ lx c.L s.next by unfold levN; rw [if_neg hk4, if_neg hki3, if_neg hkj3, if_pos hk1])
      clear hki3 hkj3
      go_wp2_with fail
      refine HS0.out.kind.mono ?_
      rintro e w1 ⟨rfl, hs, hg⟩
      rw [hki]
      have HS1 := Lib.hid hs
      have HF1 := Lib.hid (Fw.same HF0.out hg)
      clear hs hg
      go_wp2_with fail
      refine HS1.out.kind.mono ?_
      rintro e w2 ⟨rfl, hs, hg⟩
      rw [hki]
      have HS2 := Lib.hid hs
      have HF2 := Lib.hid (Fw.same HF1.out hg)
      clear hs hg
      go_wp2_with fail
      refine HS2.out.kind.mono ?_
      rintro e w3 ⟨rfl, hs, hg⟩
      rw [hki]
      have HS3 := Lib.hid hs
      have HF3 := Lib.hid (Fw.same HF2.out hg)
      clear hs hg
      go_wp2_with fail
      refine HS3.out.kind.mono ?_
      rintro e w4 ⟨rfl, hs, hg⟩
      rw [hki]
      have HS4 := Lib.hid hs
      have HF4 := Lib.hid (Fw.same HF3.out hg)
      clear hs hg
      have hst := HS4.out.step
      have HSN := Lib.hid hst.1
      have HFN := Lib.hid (HF4.out.trans hst.2)
      clear hst c0 c1 c2 c3 c4 c5
      obtain ⟨c0, c1, c2, c3, c4, c5⟩ := HS4.out.cells
      have f1 := HS4.out.free 1
      go_upto_region 16 with fail
      obtain ⟨V, hV⟩ : ∃ V, V = w4.setCell ⟨c.R, 1, none⟩ (.int .i64 ((s.p : Int) + 1)) := ⟨_, rfl⟩
      rw [← hV] at HSN HFN
      rw [← hV]
      clear hV
      clear c0 c1 c2 c3 c4 c5 f1
      have HS5 := HSN
      have HF5 := HFN
      clear HSN HFN
      have hk3i : ((kindAt c.L s.next.p : Nat) : Int) = 3 := by rw [show s.next.p = s.p + 1 from rfl]; omega
      have hp1 := kind_lt (L := c.L) (p := s.p) (by omega)
      have hp2 := kind_lt (L := c.L) (p := s.p + 1) (by omega)
      have HN1 := Lib.hid (HI.out.next (by omega))
      have HN2 := Lib.hid (HN1.out.next (show kindAt c.L (s.p + 1) ≠ 0 by omega))
      have hw2 : IntKind.i64.wrap ((s.p : Int) + 1 + 1) = (s.p : Int) + 1 + 1 := IntWalk.i64_in _ (by omega)
      obtain ⟨s1, hs1⟩ : ∃ s1, s1 = s.next := ⟨_, rfl⟩
      have HP1 := Lib.hid (show s1.p = s.p + 1 by rw [hs1]; rfl)
      have HB1 := Lib.hid (show s1.bad = none by rw [hs1]; exact HB.out)
      rw [← hs1] at HY HS5 hk3i HN1 HN2
      obtain ⟨wd, hwd⟩ : ∃ wd, wordAt c.L s1.p = wd := ⟨_, rfl⟩
      obtain ⟨hq3, hqw⟩ := hq
      rw [show wordAt c.L (s.p + 1) = wd by rw [← hwd, HP1.out]] at hqw
      have HY2 := Lib.hid (show levQ lx c.L s1 = (if wd = sucW then ((lx s1.next).1 + 1, (wantX c.L 2 (lx s1.next).2).2) else (max (lx s1.next).1 (lx (lx s1.next).2).1, (wantX c.L 2 (lx (lx s1.next).2).2).2)) by unfold levQ; rw [hwd, HP1.out, if_pos ⟨hq3, hqw⟩])
      have hw3 : IntKind.i64.wrap ((s1.p : Int) + 1) = (s1.p : Int) + 1 := by have := HP1.out; exact IntWalk.i64_in _ (by omega)
      obtain ⟨s2, hs2⟩ : ∃ s2, s2 = s1.next := ⟨_, rfl⟩
      have HP2 := Lib.hid (show s2.p = s.p + 2 by rw [hs2]; show s1.p + 1 = _; rw [HP1.out])
      rw [← hs2] at HY2 HN2
      clear hs1 hw2
      go_wp2_with fail
      refine HS5.out.word.mono ?_
      rintro e w6 ⟨rfl, hs, hg⟩
      rw [hwd]
      have HS6 := Lib.hid hs
      have HF6 := Lib.hid (Fw.same HF5.out hg)
      clear hs hg
      clear hwd
      rcases hqw with hqw | hqw
      · rw [hqw] at HY2
        rw [show wd = [115, 117, 99] from hqw]
        rw [if_pos rfl] at HY2
        go_wp2_with fail
        refine HS6.out.kind.mono ?_
        rintro e w7 ⟨rfl, hs, hg⟩
        rw [hk3i]
        have HS7 := Lib.hid hs
        have HF7 := Lib.hid (Fw.same HF6.out hg)
        clear hs hg
        have hst := HS7.out.step
        rw [← hs2] at hst
        have HSN := Lib.hid hst.1
        have HFN := Lib.hid (HF7.out.trans hst.2)
        clear hst
        obtain ⟨c0, c1, c2, c3, c4, c5⟩ := HS7.out.cells
        have f1 := HS7.out.free 1
        go_upto_region 21 with fail
        obtain ⟨V, hV⟩ : ∃ V, V = w7.setCell ⟨c.R, 1, none⟩ (.int .i64 ((s1.p : Int) + 1)) := ⟨_, rfl⟩
        rw [← hV] at HSN HFN
        rw [← hV]
        clear hV
        clear c0 c1 c2 c3 c4 c5 f1
        have HS8 := HSN
        have HF8 := HFN
        clear HSN HFN
        have HC := Lib.hid (HLV.out.use nv s2 V HN2.out (by have := HFU.out; have := HP2.out; omega) HS8.out)
        have hnn := HK.out.nn s2
        have HN3 := Lib.hid (HK.out.keep s2 HN2.out)
        have HU3 := Lib.hid (HK.out.up s2)
        have HC2 := Lib.hid (fun w' => HLV.out.use nv (lx s2).2 w' HN3.out (by have := HFU.out; have := HP2.out; have := HU3.out; omega))
        have hnn2 := HK.out.nn (lx s2).2
        have HN4 := Lib.hid (HK.out.keep (lx s2).2 HN3.out)
        generalize lx s2 = y1 at HC HY2 hnn HN3 HU3 HC2 hnn2 HN4
        obtain ⟨n1, s3⟩ := y1
        dsimp only at HC HY2 hnn HN3 HU3 HC2 hnn2 HN4
        go_wp2_with fail
        refine HC.out.mono ?_
        rintro e w9 ⟨rfl, hs, hg⟩
        have HS9 := Lib.hid hs
        have HF9 := Lib.hid (World.grownBy.trans HF8.out hg)
        clear hs hg
        clear HC
        clear HC2 hnn2 HN4
        have hwn : IntKind.i64.wrap (n1 + 1) = n1 + 1 := IntWalk.i64_in _ (by omega)
        have hp3 : s3.p ≤ 1000000000 := by have := HN3.out.p; omega
        go_wp2_with fail
        refine (HS9.out.want 2 hp3).mono ?_
        rintro e w9 ⟨rfl, hs, hg⟩
        have HSN := Lib.hid hs
        have HFN := Lib.hid (HF9.out.trans hg)
        clear hs hg
        go_wp2_with fail
        go_meet
        case rel => exact ⟨_, _, rfl, (HY.out.trans HY2.out), HSN.out, HFN.out⟩
      · rw [hqw] at HY2
        rw [show wd = [109, 97, 120] from hqw]
        rw [if_neg (by decide)] at HY2
        go_wp2_with fail
        refine HS6.out.kind.mono ?_
        rintro e w7 ⟨rfl, hs, hg⟩
        rw [hk3i]
        have HS7 := Lib.hid hs
        have HF7 := Lib.hid (Fw.same HF6.out hg)
        clear hs hg
        have hst := HS7.out.step
        rw [← hs2] at hst
        have HSN := Lib.hid hst.1
        have HFN := Lib.hid (HF7.out.trans hst.2)
        clear hst
        obtain ⟨c0, c1, c2, c3, c4, c5⟩ := HS7.out.cells
        have f1 := HS7.out.free 1
        go_upto_region 21 with fail
        obtain ⟨V, hV⟩ : ∃ V, V = w7.setCell ⟨c.R, 1, none⟩ (.int .i64 ((s1.p : Int) + 1)) := ⟨_, rfl⟩
        rw [← hV] at HSN HFN
        rw [← hV]
        clear hV
        clear c0 c1 c2 c3 c4 c5 f1
        have HS8 := HSN
        have HF8 := HFN
        clear HSN HFN
        have HC := Lib.hid (HLV.out.use nv s2 V HN2.out (by have := HFU.out; have := HP2.out; omega) HS8.out)
        have hnn := HK.out.nn s2
        have HN3 := Lib.hid (HK.out.keep s2 HN2.out)
        have HU3 := Lib.hid (HK.out.up s2)
        have HC2 := Lib.hid (fun w' => HLV.out.use nv (lx s2).2 w' HN3.out (by have := HFU.out; have := HP2.out; have := HU3.out; omega))
        have hnn2 := HK.out.nn (lx s2).2
        have HN4 := Lib.hid (HK.out.keep (lx s2).2 HN3.out)
        generalize lx s2 = y1 at HC HY2 hnn HN3 HU3 HC2 hnn2 HN4
        obtain ⟨n1, s3⟩ := y1
        dsimp only at HC HY2 hnn HN3 HU3 HC2 hnn2 HN4
        go_wp2_with fail
        refine HC.out.mono ?_
        rintro e w9 ⟨rfl, hs, hg⟩
        have HS9 := Lib.hid hs
        have HF9 := Lib.hid (World.grownBy.trans HF8.out hg)
        clear hs hg
        clear HC
        have HCC := Lib.hid (HC2.out w9 HS9.out)
        generalize lx s3 = y2 at HCC HY2 hnn2 HN4
        obtain ⟨n2, s4⟩ := y2
        dsimp only at HCC HY2 hnn2 HN4
        have hp4 : s4.p ≤ 1000000000 := by have := HN4.out.p; omega
        go_wp2_with fail
        refine HCC.out.mono ?_
        rintro e w10 ⟨rfl, hs, hg⟩
        have HS10 := Lib.hid hs
        have HF10 := Lib.hid (World.grownBy.trans HF9.out hg)
        clear hs hg
        clear HCC HC2
        go_wp2_with fail
        refine (HS10.out.want 2 hp4).mono ?_
        rintro e w99 ⟨rfl, hs, hg⟩
        have HSN := Lib.hid hs
        have HFN := Lib.hid (HF10.out.trans hg)
        clear hs hg
        go_wp2_with fail
        go_meet
        case rel => exact ⟨_, _, rfl, (HY.out.trans HY2.out), HSN.out, HFN.out⟩
    case rest =>
    obtain ⟨n, y, rfl, hcut⟩ := hcut
    obtain ⟨hy, hsy, hfy⟩ := hcut
    have HXY := Lib.hid (show X = levE s.p (n, y) by rw [← HX.out, hy.out])
    clear c0 c1 c2 c3 c4 c5 hy hq
    by_cases hn : 1000 < n
    · have HXX := Lib.hid (HXY.out.trans (levE_out hn))
      have HFL := Lib.hid (rfailat_any c nv y s.p _ hsy.out)
      obtain ⟨b, hbb⟩ := failAt_bad s.p y
      clear HXY
      go_wp2_with fail
      refine HFL.out.mono ?_
      rintro e w9 ⟨rfl, hs9, hg9⟩
      have HS9 := Lib.hid hs9
      have HF9 := Lib.hid (hfy.out.trans hg9)
      clear hs9 hg9
      obtain ⟨c0, c1, c2, c3, c4, c5⟩ := HS9.out.cells
      rw [hbb] at c2
      unfold badV at c2
      have h0 : (0 : Int) ≤ (b : Int) := by omega
      clear hbb
      go_wp2
      go_ret
      rw [HXX.out]
      exact ⟨rfl, HS9.out, HF9.out⟩
    · obtain ⟨c0, c1, c2, c3, c4, c5⟩ := hsy.out.cells
      cases hyb : y.bad with
      | none =>
        have HXX := Lib.hid (HXY.out.trans (levE_in hn hyb))
        rw [hyb] at c2
        unfold badV at c2
        clear hyb HXY
        go_wp2
        go_ret
        rw [HXX.out]
        exact ⟨rfl, hsy.out, hfy.out⟩
      | some b =>
        have HXX := Lib.hid (HXY.out.trans (levE_bad hn hyb))
        rw [hyb] at c2
        unfold badV at c2
        have h0 : (0 : Int) ≤ (b : Int) := by omega
        clear hyb HXY
        go_wp2
        go_ret
        rw [HXX.out]
        exact ⟨rfl, hsy.out, hfy.out⟩
theorem rlevel_any (c : PR) (hlen : c.L.length ≤ 1000000) (htl : ∀ t ∈ c.L, t.s.length ≤ 10000000) (hi : 0 ≤ c.i ∧ c.i ≤ 1000) (hj : 0 ≤ c.j ∧ c.j ≤ 1000) : ∀ f, LevC c f (levX c.L c.i c.j f)
  | 0 => ⟨fun nv s w hx hf h => absurd hx.p (by omega)⟩
  | f + 1 => rlevel_step c f hlen htl hi hj (rlevel_any c hlen htl hi hj f)
end Go.Proofs.YtpekceadjcbphaaDoor.Rt

namespace Go.Proofs.YtpekceadjcbphaaDoor.Rt
open Go.RowKit
open Dv (XS kindAt wordAt placeAt wantX rrO rrX badV PTok hltD typeD)

def strV (x : List UInt8) : Value := .string ⟨x.toArray⟩
/-- The names' row: the outermost first. -/
def NRs (w : World) (nv : Value) (N : Names) : Prop := ∃ g cap cur, nv = .slice (some ⟨g, 0, none⟩) N.length cap ∧ w.heap[g]? = some (Obj.cells cur 9 (0, 0)) ∧ N.length ≤ cap ∧ cap ≤ maxLen ∧ cur.size = cap ∧ cur.toList.take N.length = N.reverse.map strV
theorem below_gr {w w' : World} (h : Below w.heap.size w w') : w.grownBy w' none := ⟨h.os, h.tape, h.output, h.size, fun k hk _ => h.block k hk⟩
theorem below_of {w w' : World} (h : w.grownBy w' none) : Below w.heap.size w w' := ⟨h.os, h.tape, h.output, h.size, fun k hk => h.block k hk (by simp)⟩
theorem cell_lt {w : World} {a : Addr} {u : Value} (h : w.cell? a = some u) : a.block < w.heap.size := by
  rcases Nat.lt_or_ge a.block w.heap.size with h1 | h1
  · exact h1
  · exfalso
    simp [World.cell?, Array.getElem?_eq_none h1] at h
theorem cell_gr {w w' : World} {a : Addr} {u : Value} (hg : w.grownBy w' none) (h : w.cell? a = some u) : w'.cell? a = some u := (World.cell?_of_block (hg.block _ (cell_lt h) (by simp))).trans h
/-- The same, or no row at all. -/
def NR (w : World) (nv : Value) (N : Names) : Prop := (nv = .slice none 0 0 ∧ N = []) ∨ NRs w nv N
theorem NR.same {w w' : World} {nv : Value} {N : Names} (h : NR w nv N) (hg : w.grownBy w' none) : NR w' nv N := by
  rcases h with h | ⟨g, cap, cur, e, hh, r⟩
  · exact Or.inl h
  · exact Or.inr ⟨g, cap, cur, e, (hg.block _ (hltD hh) (by simp)).trans hh, r⟩
theorem NR.fw {c : PR} {w w' : World} {nv nv' : Value} {s : XS} {N : Names} (h : NR w nv N) (hs : RS c nv' s w) (hg : Fw c w w') : NR w' nv N := by
  rcases h with h | ⟨g, cap, cur, e, hh, r⟩
  · exact Or.inl h
  refine Or.inr ⟨g, cap, cur, e, (hg.block _ (hltD hh) (fun e2 => ?_)).trans hh, r⟩
  obtain rfl := Option.some.inj e2
  have := hs.rd
  unfold rrX rrO at this
  exact absurd (typeD hh this) (by decide)
theorem strs_one (l : List (List UInt8)) : ∀ u ∈ l.map strV, u.oneCell' = true := by
  intro u hu
  obtain ⟨x, -, rfl⟩ := List.mem_map.1 hu
  rfl
theorem NRs.cells {w : World} {nv : Value} {N : Names} (h : NRs w nv N) : ∃ g cap, nv = .slice (some ⟨g, 0, none⟩) N.length cap ∧ N.length ≤ cap ∧ cap ≤ maxLen ∧ ∀ j u, (N.reverse.map strV)[j]? = some u → w.cell? ((⟨g, 0, none⟩ : Addr).add j) = some u := by
  obtain ⟨g, cap, cur, e, hh, h1, h2, h3, h4⟩ := h
  refine ⟨g, cap, e, h1, h2, fun j u hu => ?_⟩
  rw [← h4, List.getElem?_take] at hu
  split at hu
  · rw [Addr.add_lit, Lib.cell_of_heap hh]
    simpa using hu
  · cases hu
theorem NR.cells {w : World} {nv : Value} {N : Names} (h : NR w nv N) (hne : N ≠ []) : ∃ g cap, nv = .slice (some ⟨g, 0, none⟩) N.length cap ∧ N.length ≤ cap ∧ cap ≤ maxLen ∧ ∀ j u, (N.reverse.map strV)[j]? = some u → w.cell? ((⟨g, 0, none⟩ : Addr).add j) = some u := (h.resolve_left (fun e => hne e.2)).cells
theorem info_str : (Tryd.prog.info? 9).map (fun i => (i.zero, i.size, i.bytes)) = some (some (.string ⟨#[]⟩), 1, 16) := by kernel_rfl
theorem wp_append_strs {o : Oper} {a : Act} {w : World} {K : Act → World → Prop} {E : Exit → Act → World → Prop} (s x : Operand)
    (ho : o.op = .call { callee := .builtin .append, args := #[s, x], argTypes := #[22, 22] }) (v : Value) (n : Nat) (xs : List Value) (hs : a.eval s = v) (hown : w.ownsRow 0 9 1 v n xs)
    (ad : Addr) (m cp : Nat) (news : List Value) (hx : a.eval x = .slice (some ad) m cp) (hl : news.length = m) (hnews : ∀ j u, news[j]? = some u → w.cell? (ad.add j) = some u) (h1 : ∀ u ∈ news, u.oneCell' = true) (hm : n + m ≤ 1000000000)
    (h : ∀ v' w', w'.ownsRow 0 9 1 v' (n + m) (xs ++ news) → w.grownBy w' v.ownBlock → (v' = .slice none 0 0 ↔ v = .slice none 0 0 ∧ m = 0) → (v'.ownBlock = v.ownBlock ∨ v'.ownBlock = some w.heap.size) → K (a.put o.dst v') w') : o.wp Tryd.prog a w K E := by
  obtain ⟨i0, hi, hz0, hz1, hz2⟩ := info_parts info_str
  have ht : Tryd.prog.underlying 22 = some (.slice 9) := by kernel_rfl
  obtain ⟨v', w', hr, h2, h3, h4, h5⟩ := run_append_own_at (P := Tryd.prog) w 0 22 o.type 9 i0 _ 1 16 ht hi hz0 hz1 hz2 rfl (by decide) v n xs hown ad m cp news (by omega) hnews h1 (by unfold maxLen; omega) (by omega) (Nat.zero_le _)
  unfold Oper.wp execOp
  simp only [ho, resolve, invoke, builtin, Sem.run_bind, Sem.run_pure, Result.andThen_ok, List.map_toArray, List.map_cons, List.map_nil, hs, hx, hr]
  exact h v' w' h2 h3 h4 h5
theorem wpList_append_strs {ops : Array Oper} {rest : List Oper} {o : Oper} {a : Act} {w : World} {E : Exit → Act → World → Prop} (hgd : o.guard = none) (s x : Operand)
    (ho : o.op = .call { callee := .builtin .append, args := #[s, x], argTypes := #[22, 22] }) (v : Value) (n : Nat) (xs : List Value) (hs : a.eval s = v) (hown : w.ownsRow 0 9 1 v n xs)
    (ad : Addr) (m cp : Nat) (news : List Value) (hx : a.eval x = .slice (some ad) m cp) (hl : news.length = m) (hnews : ∀ j u, news[j]? = some u → w.cell? (ad.add j) = some u) (h1 : ∀ u ∈ news, u.oneCell' = true) (hm : n + m ≤ 1000000000)
    (h : ∀ v' w', w'.ownsRow 0 9 1 v' (n + m) (xs ++ news) → w.grownBy w' v.ownBlock → (v' = .slice none 0 0 ↔ v = .slice none 0 0 ∧ m = 0) → (v'.ownBlock = v.ownBlock ∨ v'.ownBlock = some w.heap.size) → wpList Tryd.prog ops E rest (a.put o.dst v') w') : wpList Tryd.prog ops E (o :: rest) a w :=
  wpList_plain hgd fun _ hK => wp_append_strs s x ho v n xs hs hown ad m cp news hx hl hnews h1 hm fun v' w' h2 h3 h4 h5 => hK _ _ (h v' w' h2 h3 h4 h5)
end Go.Proofs.YtpekceadjcbphaaDoor.Rt

namespace Go.Proofs.YtpekceadjcbphaaDoor.Sg
open Go.RowKit Go.Maps Go.ChangeShapes
open Rt (strV below_gr below_of cell_gr cell_lt)
open Dv (hltD typeD)

structure LC where
  R : Nat
  txt : ByteArray
  i : Int
  j : Int
def lnO (c : LC) (tv nv : Value) : Obj := .cells #[.string c.txt, tv, nv, .int .i64 c.i, .int .i64 c.j] 61 (0, 0)
structure LS (c : LC) (tv nv : Value) (ts : List Tok) (N : Names) (w : World) : Prop where
  rd : w.heap[c.R]? = some (lnO c tv nv)
  tok : TLies w ts tv
  nm : w.ownsRow 0 9 1 nv N.length (N.map strV)
abbrev Gr (c : LC) (w w' : World) : Prop := w.grownBy w' (some c.R)
theorem LS.lt {c : LC} {tv nv : Value} {ts : List Tok} {N : Names} {w : World} (h : LS c tv nv ts N w) : c.R < w.heap.size := hltD h.rd
theorem LS.cells {c : LC} {tv nv : Value} {ts : List Tok} {N : Names} {w : World} (h : LS c tv nv ts N w) : w.cell? ⟨c.R, 0, none⟩ = some (.string c.txt) ∧ w.cell? ⟨c.R, 1, none⟩ = some tv ∧ w.cell? ⟨c.R, 2, none⟩ = some nv ∧ w.cell? ⟨c.R, 3, none⟩ = some (.int .i64 c.i) ∧ w.cell? ⟨c.R, 4, none⟩ = some (.int .i64 c.j) := by
  have r := h.rd
  unfold lnO at r
  exact ⟨by rw [Lib.cell_of_heap r]; rfl, by rw [Lib.cell_of_heap r]; rfl, by rw [Lib.cell_of_heap r]; rfl, by rw [Lib.cell_of_heap r]; rfl, by rw [Lib.cell_of_heap r]; rfl⟩
theorem LS.free {c : LC} {tv nv : Value} {ts : List Tok} {N : Names} {w : World} (h : LS c tv nv ts N w) (q : Nat) : w.frozen? ⟨c.R, q, none⟩ = false := Lib.frozen_of_heap (by have r := h.rd; unfold lnO at r; exact r) q
theorem tlies_gr {c : LC} {tv nv v : Value} {ts r : List Tok} {N : Names} {w w' : World} (h : LS c tv nv ts N w) (ht : TLies w r v) (hg : Gr c w w') : TLies w' r v :=
  ht.keep fun g cs fz e => (hg.block g (hltD e) (fun e2 => by
    obtain rfl := Option.some.inj e2
    have r := h.rd
    unfold lnO at r
    exact absurd (typeD e r) (by decide))).trans e
theorem own_gr {c : LC} {tv nv : Value} {ts : List Tok} {N : Names} {w w' : World} (h : LS c tv nv ts N w) (hg : Gr c w w') : w'.ownsRow 0 9 1 nv N.length (N.map strV) := by
  obtain ⟨h1, h2⟩ := h.nm
  refine ⟨h1, ?_⟩
  rcases h2 with h2 | ⟨g, cap, cur, hv, hgb, hh, r⟩
  · exact Or.inl h2
  · refine Or.inr ⟨g, cap, cur, hv, hgb, (hg.block g (hltD hh) (fun e2 => ?_)).trans hh, r⟩
    obtain rfl := Option.some.inj e2
    have r := h.rd
    unfold lnO at r
    exact absurd (typeD hh r) (by decide)
theorem LS.of {c : LC} {tv nv tv' : Value} {ts r : List Tok} {N : Names} {w w' : World} (h : LS c tv nv ts N w) (hg : Gr c w w') (ht : TLies w r tv') (hr : w'.heap[c.R]? = some (lnO c tv' nv)) : LS c tv' nv r N w' := ⟨hr, tlies_gr h ht hg, own_gr h hg⟩
theorem LS.same {c : LC} {tv nv : Value} {ts : List Tok} {N : Names} {w w' : World} (h : LS c tv nv ts N w) (hg : w.grownBy w' none) : LS c tv nv ts N w' :=
  h.of (tv' := tv) ⟨hg.os, hg.tape, hg.output, hg.size, fun b hb _ => hg.block b hb (by simp)⟩ h.tok ((hg.block _ h.lt (by simp)).trans h.rd)
theorem gr_same {c : LC} {w w' w2 : World} (h : Gr c w w') (hg : w'.grownBy w2 none) : Gr c w w2 := h.trans ⟨hg.os, hg.tape, hg.output, hg.size, fun b hb _ => hg.block b hb (by simp)⟩
def tokB (t : Tok) : Obj := .cells #[.int .i64 t.k, .string ⟨t.s.toArray⟩, .int .i64 t.at_] 63
abbrev zTok : Obj := .cells #[.int .i64 0, .string ⟨#[]⟩, .int .i64 0] 63
def agT (t : Tok) : Value := .agg #[.int .i64 t.k, .string ⟨t.s.toArray⟩, .int .i64 t.at_]
/-- What the taking leaves. -/
theorem took {c : LC} {tv nv tl : Value} {t : Tok} {r : List Tok} {N : Names} {w : World} (h : LS c tv nv (t :: r) N w) (ht : TLies w r tl) : LS c tl nv r N (((w.alloc zTok).alloc (tokB t)).setCell ⟨c.R, 1, none⟩ tl) ∧ Gr c w (((w.alloc zTok).alloc (tokB t)).setCell ⟨c.R, 1, none⟩ tl) ∧ (((w.alloc zTok).alloc (tokB t)).setCell ⟨c.R, 1, none⟩ tl).heap[w.heap.size]? = some zTok ∧ (((w.alloc zTok).alloc (tokB t)).setCell ⟨c.R, 1, none⟩ tl).heap[w.heap.size + 1]? = some (tokB t) := by
  have hlt := h.lt
  have hb := ((Below.refl w.heap.size w).alloc (Nat.le_refl _) zTok).alloc (by simp) (tokB t)
  have hg : Gr c w (((w.alloc zTok).alloc (tokB t)).setCell ⟨c.R, 1, none⟩ tl) := grown_at (below_gr hb) 1 tl
  have hR : ((w.alloc zTok).alloc (tokB t)).heap[c.R]? = some (lnO c tv nv) := (hb.block _ hlt).trans h.rd
  have h0 : ((w.alloc zTok).alloc (tokB t)).heap[w.heap.size]? = some zTok := (Below.heap_alloc _ _ _ (by simp)).trans (alloc_new _ _)
  have h1 : ((w.alloc zTok).alloc (tokB t)).heap[w.heap.size + 1]? = some (tokB t) := by
    have := alloc_new (w.alloc zTok) (tokB t)
    rw [show (w.alloc zTok).heap.size = w.heap.size + 1 by simp] at this
    exact this
  refine ⟨h.of hg ht ?_, hg, ?_, ?_⟩
  · unfold lnO at hR ⊢
    exact heap_setCell_same _ _ 1 _ _ _ hR
  · rw [heap_setCell_other _ ⟨c.R, 1, none⟩ _ tl (by show w.heap.size ≠ c.R; omega)]; exact h0
  · rw [heap_setCell_other _ ⟨c.R, 1, none⟩ _ tl (by show w.heap.size + 1 ≠ c.R; omega)]; exact h1
abbrev thr (w : World) (n : Nat) (a b d : Value) : World := ((w.setCell ⟨n, 0, none⟩ a).setCell ⟨n, 1, none⟩ b).setCell ⟨n, 2, none⟩ d
theorem thr_set {w : World} {n : Nat} {T : TypeId} {z0 z1 z2 : Value} (h : w.heap[n]? = some (.cells #[z0, z1, z2] T (0, 0))) (a b d : Value) : (thr w n a b d).heap[n]? = some (.cells #[a, b, d] T (0, 0)) :=
  heap_setCell_same _ n 2 _ _ _ (heap_setCell_same _ n 1 _ _ _ (heap_setCell_same _ n 0 _ _ _ h))
theorem thr_gr {c : LC} {w w' : World} (h : Gr c w w') {n : Nat} (hn : w.heap.size ≤ n) (a b d : Value) : Gr c w (thr w' n a b d) := grown_new (grown_new (grown_new h hn 0 a) hn 1 b) hn 2 d
theorem thr_other {w : World} {n b : Nat} (h : b ≠ n) (x y z : Value) : (thr w n x y z).heap[b]? = w.heap[b]? := by
  show (((w.setCell ⟨n, 0, none⟩ x).setCell ⟨n, 1, none⟩ y).setCell ⟨n, 2, none⟩ z).heap[b]? = _
  rw [heap_setCell_other _ ⟨n, 2, none⟩ _ z h, heap_setCell_other _ ⟨n, 1, none⟩ _ y h, heap_setCell_other _ ⟨n, 0, none⟩ _ x h]
theorem tok3 {w : World} {n : Nat} {v0 v1 v2 : Value} {T : TypeId} (h : w.heap[n]? = some (.cells #[v0, v1, v2] T (0, 0))) : (w.cell? ⟨n, 0, none⟩ = some v0 ∧ w.cell? ⟨n, 1, none⟩ = some v1 ∧ w.cell? ⟨n, 2, none⟩ = some v2) ∧ ∀ q, w.frozen? ⟨n, q, none⟩ = false :=
  ⟨⟨by rw [Lib.cell_of_heap h]; rfl, by rw [Lib.cell_of_heap h]; rfl, by rw [Lib.cell_of_heap h]; rfl⟩, fun q => Lib.frozen_of_heap h q⟩
set_option maxHeartbeats 1000000 in
set_option maxRecDepth 20000 in
theorem ltake_any (c : LC) (tv nv : Value) (t : Tok) (r : List Tok) (N : Names) (w : World) (h : LS c tv nv (t :: r) N w) : Calls Tryd.prog 28 #[.pointer (some ⟨c.R, 0, none⟩)] w fun e w' => e = .returned (agT t) ∧ (∃ tl, LS c tl nv r N w' ∧ ∀ w0, TLies w0 (t :: r) tv → TLies w0 r tl) ∧ Gr c w w' := by
  obtain ⟨du, hu1, hu2⟩ := under_tok
  obtain ⟨g, o, cap, rfl, hc, hm, x0, x1, x2, hgl, hr⟩ := h.tok.cons
  have hA := below_gr ((Below.refl w.heap.size w).alloc (Nat.le_refl _) zTok)
  have hAA := below_gr (((Below.refl w.heap.size w).alloc (Nat.le_refl _) zTok).alloc (by simp) (tokB t))
  obtain ⟨c0, c1, c2, c3, c4⟩ := (h.same hA).cells
  have d1 := (h.same hAA).cells.2.1
  have f1 := (h.same hAA).free 1
  have y0 := cell_gr hA x0
  have y1 := cell_gr hA x1
  have y2 := cell_gr hA x2
  unfold tokB at d1 f1
  unfold maxLen at hm
  have HLS := Lib.hid h
  have HGA := Lib.hid hA
  obtain ⟨tl, htl, hlies⟩ : ∃ tl, (tl = if cap = 1 then .slice (some ⟨g, o, none⟩) r.length (cap - 1) else .slice (some ⟨g, o + 3, none⟩) r.length (cap - 1)) ∧ TLies w r tl := by
    by_cases hcap : cap = 1
    · have hr0 : r = [] := List.eq_nil_of_length_eq_zero (by omega)
      subst hr0
      exact ⟨_, rfl, by rw [if_pos hcap]; exact ⟨_, _, rfl, Nat.zero_le _, by unfold maxLen; omega, Or.inl rfl⟩⟩
    · exact ⟨_, rfl, by rw [if_neg hcap]; exact hr⟩
  obtain ⟨ht1, ht2, ht3, ht4⟩ := took h hlies
  have HT1 := Lib.hid ht1
  have HT2 := Lib.hid ht2
  have HT3 := Lib.hid ht3
  have HT4 := Lib.hid ht4
  have HN := Lib.hid h.lt
  have HLI := Lib.hid hlies
  clear h hr hA hAA x0 x1 x2 hlies ht1 ht2 ht3 ht4 hgl
  rcases Nat.lt_or_ge 1 cap with hcap | hcap
  · rw [if_neg (by omega)] at htl
    subst htl
    unfold tokB at HT1 HT2 HT3 HT4
    go_enter Tryd.func28, Tryd.ntmps28
    go_upto_region 3 with fail
    obtain ⟨W, hW⟩ : ∃ W, W = ((w.alloc zTok).alloc (.cells #[.int .i64 t.k, .string ⟨t.s.toArray⟩, .int .i64 t.at_] 63)).setCell ⟨c.R, 1, none⟩ (.slice (some ⟨g, o + 3, none⟩) r.length (cap - 1)) := ⟨_, rfl⟩
    rw [← hW] at HT1 HT2 HT3 HT4
    rw [← hW]
    clear hW c0 c1 c2 c3 c4 d1 f1 y0 y1 y2
    obtain ⟨⟨z0, z1, z2⟩, gz⟩ := tok3 HT3.out
    obtain ⟨⟨y0, y1, y2⟩, gy⟩ := tok3 HT4.out
    have g0 := gz 0
    have g1 := gz 1
    have g2 := gz 2
    clear gz gy
    have hz := HT3.out
    have HE := Lib.hid (show ∃ tl, LS c tl nv r N (thr W w.heap.size (.int .i64 t.k) (.string ⟨t.s.toArray⟩) (.int .i64 t.at_)) ∧ ∀ w0, TLies w0 (t :: r) (.slice (some ⟨g, o, none⟩) (r.length + 1) cap) → TLies w0 r tl from ⟨.slice (some ⟨g, o + 3, none⟩) r.length (cap - 1), HLS.out.of (thr_gr HT2.out (Nat.le_refl _) _ _ _) HLI.out ((thr_other (by have := HN.out; omega) _ _ _).trans HT1.out.rd), fun w0 h0 => by obtain ⟨g', o', cap', e, _, _, _, _, _, _, hq⟩ := h0.cons; simp only [Value.slice.injEq, Option.some.injEq, Addr.mk.injEq, and_true] at e; obtain ⟨⟨rfl, rfl⟩, -, rfl⟩ := e; exact hq⟩)
    have HF := Lib.hid (thr_gr HT2.out (Nat.le_refl _) (.int .i64 t.k) (.string ⟨t.s.toArray⟩) (.int .i64 t.at_))
    go_wp2
    (try simp only [Exit.inBlock, Exit.then])
    refine bodyPost_ret (results_cell_row rfl _ _ w.heap.size _ _ _ du rfl (thr_set hz _ _ _) hu1 (by cases du <;> first | rfl | exact hu2) size_tok) rfl ?_
    exact ⟨rfl, HE.out, HF.out⟩
  · obtain rfl : cap = 1 := by omega
    obtain rfl : r = [] := List.eq_nil_of_length_eq_zero (by omega)
    rw [if_pos rfl] at htl
    have htl' : tl = .slice (some ⟨g, o, none⟩) 0 0 := htl
    clear htl hc
    subst htl'
    unfold tokB at HT1 HT2 HT3 HT4
    go_enter Tryd.func28, Tryd.ntmps28
    go_upto_region 3 with fail
    obtain ⟨W, hW⟩ : ∃ W, W = ((w.alloc zTok).alloc (.cells #[.int .i64 t.k, .string ⟨t.s.toArray⟩, .int .i64 t.at_] 63)).setCell ⟨c.R, 1, none⟩ (.slice (some ⟨g, o, none⟩) 0 0) := ⟨_, rfl⟩
    rw [← hW] at HT1 HT2 HT3 HT4
    rw [← hW]
    clear hW c0 c1 c2 c3 c4 d1 f1 y0 y1 y2
    obtain ⟨⟨z0, z1, z2⟩, gz⟩ := tok3 HT3.out
    obtain ⟨⟨y0, y1, y2⟩, gy⟩ := tok3 HT4.out
    have g0 := gz 0
    have g1 := gz 1
    have g2 := gz 2
    clear gz gy
    have hz := HT3.out
    have HE := Lib.hid (show ∃ tl, LS c tl nv [] N (thr W w.heap.size (.int .i64 t.k) (.string ⟨t.s.toArray⟩) (.int .i64 t.at_)) ∧ ∀ w0, TLies w0 [t] (.slice (some ⟨g, o, none⟩) (([] : List Tok).length + 1) 1) → TLies w0 [] tl from ⟨.slice (some ⟨g, o, none⟩) 0 0, HLS.out.of (thr_gr HT2.out (Nat.le_refl _) _ _ _) HLI.out ((thr_other (by have := HN.out; omega) _ _ _).trans HT1.out.rd), fun w0 _ => ⟨_, _, rfl, Nat.zero_le _, by unfold maxLen; omega, Or.inl rfl⟩⟩)
    have HF := Lib.hid (thr_gr HT2.out (Nat.le_refl _) (.int .i64 t.k) (.string ⟨t.s.toArray⟩) (.int .i64 t.at_))
    go_wp2
    (try simp only [Exit.inBlock, Exit.then])
    refine bodyPost_ret (results_cell_row rfl _ _ w.heap.size _ _ _ du rfl (thr_set hz _ _ _) hu1 (by cases du <;> first | rfl | exact hu2) size_tok) rfl ?_
    exact ⟨rfl, HE.out, HF.out⟩
end Go.Proofs.YtpekceadjcbphaaDoor.Sg

namespace Go.Proofs.YtpekceadjcbphaaDoor.Rt
open Go.RowKit
open Dv (XS kindAt wordAt placeAt wantX rrO rrX badV PTok hltD typeD)

def markedL : List (List UInt8) := (headsW.drop 1).take 12
def plainL : List (List UInt8) := headsW.drop 13
theorem RS.drew {c : PR} {nv : Value} {s : XS} {w : World} (h : RS c nv s w) : RS c nv s w.drew := h.drewN 1
theorem drew_gr (w : World) : w.grownBy w.drew none := drewN_gr w 1
/-- A row of words. -/
def WRow (w : World) (g : Nat) (l : List (List UInt8)) : Prop := ∀ k (h : k < l.length), w.cell? ⟨g, k, none⟩ = some (strV (l[k]'h))
theorem WRow.same {w w' : World} {g : Nat} {l : List (List UInt8)} (h : WRow w g l) (hg : w.grownBy w' none) : WRow w' g l := fun k hk => cell_gr hg (h k hk)
theorem wrow_lit (w : World) (l : List (List UInt8)) : WRow (w.alloc (.cells (l.map strV).toArray 9)) w.heap.size l := fun k hk => by
  rw [Lib.cell_of_heap (alloc_new w _)]
  simp [hk]
set_option maxRecDepth 20000 in
theorem pmk_any (w : World) : Calls Tryd.prog 58 #[] w fun e w' => ∃ g, e = .returned (.slice (some ⟨g, 0, none⟩) 12 12) ∧ WRow w' g markedL ∧ w.grownBy w' none := by
  go_enter Tryd.func58, Tryd.ntmps58
  go_wp2
  go_ret
  exact ⟨w.heap.size, rfl, wrow_lit w markedL, below_gr ((Below.refl _ _).alloc (Nat.le_refl _) _)⟩
set_option maxRecDepth 20000 in
theorem ppl_any (w : World) : Calls Tryd.prog 59 #[] w fun e w' => ∃ g, e = .returned (.slice (some ⟨g, 0, none⟩) 11 11) ∧ WRow w' g plainL ∧ w.grownBy w' none := by
  go_enter Tryd.func59, Tryd.ntmps59
  go_wp2
  go_ret
  exact ⟨w.heap.size, rfl, wrow_lit w plainL, below_gr ((Below.refl _ _).alloc (Nat.le_refl _) _)⟩
/-- The first that fits. -/
def findQ (p : List UInt8 → Nat → Bool) : List (List UInt8) → Nat → Option Nat
  | [], _ => none
  | y :: r, k => if p y k = true then some k else findQ p r (k + 1)
structure FindI (p : List UInt8 → Nat → Bool) (l : List (List UInt8)) (k : Nat) : Prop where
  eq : findQ p l 0 = findQ p (l.drop k) k
theorem FindI.start (p : List UInt8 → Nat → Bool) (l : List (List UInt8)) : FindI p l 0 := ⟨by rw [List.drop_zero]⟩
theorem FindI.next {p : List UInt8 → Nat → Bool} {l : List (List UInt8)} {k : Nat} {y : List UInt8} (h : FindI p l k) (hd : l.drop k = y :: l.drop (k + 1)) (hp : p y k = false) : FindI p l (k + 1) := ⟨by rw [h.eq, hd]; simp [findQ, hp]⟩
theorem FindI.found {p : List UInt8 → Nat → Bool} {l : List (List UInt8)} {k : Nat} {y : List UInt8} (h : FindI p l k) (hd : l.drop k = y :: l.drop (k + 1)) (hp : p y k = true) : findQ p l 0 = some k := by rw [h.eq, hd]; simp [findQ, hp]
theorem FindI.none {p : List UInt8 → Nat → Bool} {l : List (List UInt8)} {k : Nat} (h : FindI p l k) (hk : l.length ≤ k) : findQ p l 0 = Option.none := by rw [h.eq, List.drop_eq_nil_of_le hk]; rfl
def pM (so : Int) (x y : List UInt8) (k : Nat) : Bool := (y == x) && (so != 2 || k == 0)
def pP (so : Int) (x y : List UInt8) (_ : Nat) : Bool := (y == x) && so != 1
def listV (so : Int) (x : List UInt8) : Int := if headN x = 0 ∨ (sortN (headN x) ≠ 0 ∧ so ≠ 0 ∧ sortN (headN x) ≠ so) then 0 else headN x
def listW (so : Int) (x : List UInt8) : Int := match findQ (pM so x) markedL 0 with
  | some i => (i : Int) + 1
  | none => match findQ (pP so x) plainL 0 with
    | some i => 13 + (i : Int)
    | none => 0
theorem findQ_none {p : List UInt8 → Nat → Bool} : ∀ {l : List (List UInt8)} {k : Nat}, (∀ y ∈ l, ∀ q, p y q = false) → findQ p l k = none
  | [], _, _ => rfl
  | y :: r, k, h => by
    unfold findQ
    rw [if_neg (by rw [h y (List.mem_cons_self ..) k]; simp)]
    exact findQ_none fun z hz => h z (List.mem_cons_of_mem _ hz)
theorem idxL_none {x : List UInt8} : ∀ {l : List (List UInt8)}, x ∉ l → idxL x l = none
  | [], _ => rfl
  | y :: r, h => by
    unfold idxL
    rw [if_neg (fun e => h (by rw [e]; exact List.mem_cons_self ..)), idxL_none (fun e => h (List.mem_cons_of_mem _ e))]
    rfl
theorem list_known : ∀ x ∈ headsW, x ≠ [] → listV 0 x = listW 0 x ∧ listV 1 x = listW 1 x ∧ listV 2 x = listW 2 x := by decide
theorem listV_eq {so : Int} (hso : so = 0 ∨ so = 1 ∨ so = 2) {x : List UInt8} (hx : x ≠ []) : listV so x = listW so x := by
  by_cases h : x ∈ headsW
  · obtain ⟨h0, h1, h2⟩ := list_known x h hx
    rcases hso with rfl | rfl | rfl
    · exact h0
    · exact h1
    · exact h2
  · have hm : ∀ l : List (List UInt8), (∀ y ∈ l, y ∈ headsW) → ∀ y ∈ l, (y == x) = false := fun l hl y hy => by
      rw [beq_eq_false_iff_ne]
      rintro rfl
      exact h (hl y hy)
    have h1 : headN x = 0 := by
      unfold headN
      rw [if_neg (fun e => h (by rw [e]; decide)), idxL_none (fun e => h (List.mem_of_mem_drop e))]
    unfold listV listW
    rw [if_pos (Or.inl h1), findQ_none (fun y hy q => by unfold pM; rw [hm markedL (fun z hz => List.mem_of_mem_drop (List.mem_of_mem_take hz)) y hy]; rfl), findQ_none (fun y hy q => by unfold pP; rw [hm plainL (fun z hz => List.mem_of_mem_drop hz) y hy]; rfl)]
theorem listW_marked {so : Int} {x : List UInt8} {i : Nat} (h : findQ (pM so x) markedL 0 = some i) : listW so x = (i : Int) + 1 := by unfold listW; rw [h]
theorem listW_plain {so : Int} {x : List UInt8} {i : Nat} (h : findQ (pM so x) markedL 0 = none) (h2 : findQ (pP so x) plainL 0 = some i) : listW so x = 13 + (i : Int) := by unfold listW; rw [h, h2]
theorem listW_none {so : Int} {x : List UInt8} (h : findQ (pM so x) markedL 0 = none) (h2 : findQ (pP so x) plainL 0 = none) : listW so x = 0 := by unfold listW; rw [h, h2]
theorem word_ne {L : List Tok} (h : ∀ t ∈ L, t.k = 3 → t.s ≠ []) {p : Nat} (hk : kindAt L p = 3) : wordAt L p ≠ [] := by
  rcases drop_kind (L := L) (p := p) with ⟨-, h1, -⟩ | ⟨t, r, h0, h1, h2, -, -⟩
  · omega
  · rw [h2]
    exact h t (List.mem_of_mem_drop (by rw [h0]; exact List.mem_cons_self ..)) (by omega)
def ol7_0 : Oper := { dst := some 18, op := Go.Op.move (Go.Operand.tmp 5), type := 22, pos := "ref.go:169", after := #[], guard := none }
def ol7_1 : Oper := { dst := some 19, op := Go.Op.move (Go.Operand.tmp 6), type := 3, pos := "ref.go:169", after := #[], guard := none }
def ol7_2 : Oper := { dst := some 20, op := Go.Op.indexAddr 22 (Go.Operand.tmp 18) (Go.Operand.tmp 19), type := 0, pos := "ref.go:169", after := #[{ on := 0, ground := Go.Ground.data }, { on := 1, ground := Go.Ground.data }], guard := none }
def ol7_3 : Oper := { dst := some 21, op := Go.Op.load 9 (Go.Operand.tmp 20), type := 9, pos := "ref.go:169", after := #[{ on := 2, ground := Go.Ground.data }], guard := none }
def ol7_4 : Oper := { dst := some 22, op := Go.Op.move (Go.Operand.tmp 0), type := 50, pos := "ref.go:169", after := #[], guard := none }
def ol7_5 : Oper := { dst := some 23, op := Go.Op.call { callee := Go.Callee.value (Go.Operand.func 43), args := #[Go.Operand.tmp 22], argTypes := #[50] }, type := 9, pos := "ref.go:169", after := #[{ on := 4, ground := Go.Ground.data }], guard := none }
def ol7_6 : Oper := { dst := some 24, op := Go.Op.binOp Go.BinOp.eql 9 (Go.Operand.tmp 21) (Go.Operand.tmp 23) 9, type := 4, pos := "ref.go:169", after := #[{ on := 3, ground := Go.Ground.data }, { on := 5, ground := Go.Ground.data }], guard := none }
def ol7_7 : Oper := { dst := some 25, op := Go.Op.move (Go.Operand.tmp 24), type := 4, pos := "ref.go:169", after := #[{ on := 6, ground := Go.Ground.data }, { on := 5, ground := Go.Ground.chain }], guard := none }
def ol7_8 : Oper := { dst := some 26, op := Go.Op.move (Go.Operand.tmp 1), type := 3, pos := "ref.go:169", after := #[{ on := 7, ground := Go.Ground.guard }], guard := some (7, true) }
def ol7_9 : Oper := { dst := some 27, op := Go.Op.binOp Go.BinOp.neq 3 (Go.Operand.tmp 26) (Go.Operand.const (Go.Value.int Go.IntKind.i64 2)) 3, type := 4, pos := "ref.go:169", after := #[{ on := 8, ground := Go.Ground.data }, { on := 7, ground := Go.Ground.guard }], guard := some (7, true) }
def ol7_10 : Oper := { dst := some 28, op := Go.Op.move (Go.Operand.tmp 27), type := 4, pos := "ref.go:169", after := #[{ on := 9, ground := Go.Ground.data }, { on := 7, ground := Go.Ground.chain }, { on := 7, ground := Go.Ground.guard }], guard := some (7, true) }
def ol7_11 : Oper := { dst := some 29, op := Go.Op.move (Go.Operand.tmp 6), type := 3, pos := "ref.go:169", after := #[{ on := 10, ground := Go.Ground.guard }], guard := some (10, false) }
def ol7_12 : Oper := { dst := some 30, op := Go.Op.binOp Go.BinOp.eql 3 (Go.Operand.tmp 29) (Go.Operand.const (Go.Value.int Go.IntKind.i64 0)) 3, type := 4, pos := "ref.go:169", after := #[{ on := 11, ground := Go.Ground.data }, { on := 10, ground := Go.Ground.guard }], guard := some (10, false) }
def ol7_13 : Oper := { dst := some 31, op := Go.Op.pick (Go.Operand.tmp 28) (Go.Operand.const (Go.Value.bool true)) (Go.Operand.tmp 30), type := 4, pos := "ref.go:169", after := #[{ on := 10, ground := Go.Ground.data }, { on := 12, ground := Go.Ground.data }, { on := 7, ground := Go.Ground.guard }], guard := some (7, true) }
def ol7_14 : Oper := { dst := some 32, op := Go.Op.pick (Go.Operand.tmp 25) (Go.Operand.tmp 31) (Go.Operand.const (Go.Value.bool false)), type := 4, pos := "ref.go:169", after := #[{ on := 7, ground := Go.Ground.data }, { on := 13, ground := Go.Ground.data }], guard := none }
def ol13_0 : Oper := { dst := some 42, op := Go.Op.move (Go.Operand.tmp 5), type := 22, pos := "ref.go:175", after := #[], guard := none }
def ol13_1 : Oper := { dst := some 43, op := Go.Op.move (Go.Operand.tmp 7), type := 3, pos := "ref.go:175", after := #[], guard := none }
def ol13_2 : Oper := { dst := some 44, op := Go.Op.indexAddr 22 (Go.Operand.tmp 42) (Go.Operand.tmp 43), type := 0, pos := "ref.go:175", after := #[{ on := 0, ground := Go.Ground.data }, { on := 1, ground := Go.Ground.data }], guard := none }
def ol13_3 : Oper := { dst := some 45, op := Go.Op.load 9 (Go.Operand.tmp 44), type := 9, pos := "ref.go:175", after := #[{ on := 2, ground := Go.Ground.data }], guard := none }
def ol13_4 : Oper := { dst := some 46, op := Go.Op.move (Go.Operand.tmp 0), type := 50, pos := "ref.go:175", after := #[], guard := none }
def ol13_5 : Oper := { dst := some 47, op := Go.Op.call { callee := Go.Callee.value (Go.Operand.func 43), args := #[Go.Operand.tmp 46], argTypes := #[50] }, type := 9, pos := "ref.go:175", after := #[{ on := 4, ground := Go.Ground.data }], guard := none }
def ol13_6 : Oper := { dst := some 48, op := Go.Op.binOp Go.BinOp.eql 9 (Go.Operand.tmp 45) (Go.Operand.tmp 47) 9, type := 4, pos := "ref.go:175", after := #[{ on := 3, ground := Go.Ground.data }, { on := 5, ground := Go.Ground.data }], guard := none }
def ol13_7 : Oper := { dst := some 49, op := Go.Op.move (Go.Operand.tmp 48), type := 4, pos := "ref.go:175", after := #[{ on := 6, ground := Go.Ground.data }, { on := 5, ground := Go.Ground.chain }], guard := none }
def ol13_8 : Oper := { dst := some 50, op := Go.Op.move (Go.Operand.tmp 1), type := 3, pos := "ref.go:175", after := #[{ on := 7, ground := Go.Ground.guard }], guard := some (7, true) }
def ol13_9 : Oper := { dst := some 51, op := Go.Op.binOp Go.BinOp.neq 3 (Go.Operand.tmp 50) (Go.Operand.const (Go.Value.int Go.IntKind.i64 1)) 3, type := 4, pos := "ref.go:175", after := #[{ on := 8, ground := Go.Ground.data }, { on := 7, ground := Go.Ground.guard }], guard := some (7, true) }
def ol13_10 : Oper := { dst := some 52, op := Go.Op.pick (Go.Operand.tmp 49) (Go.Operand.tmp 51) (Go.Operand.const (Go.Value.bool false)), type := 4, pos := "ref.go:175", after := #[{ on := 7, ground := Go.Ground.data }, { on := 9, ground := Go.Ground.data }], guard := none }
set_option maxHeartbeats 4000000 in
set_option maxRecDepth 20000 in
theorem rlist_any (c : PR) (nv : Value) (s : XS) (so : Int) (hso : so = 0 ∨ so = 1 ∨ so = 2) (w : World) (h : RS c nv s w) (hne : ∀ t ∈ c.L, t.k = 3 → t.s ≠ []) : Calls Tryd.prog 45 #[.pointer (some ⟨c.R, 0, none⟩), .int .i64 so] w fun e w' => e = .returned (.int .i64 (listK c.L so s)) ∧ RS c nv s w' ∧ w.grownBy w' none := by
  have HS0 := Lib.hid h
  by_cases hk : kindAt c.L s.p = 3
  case neg =>
    have HX := Lib.hid (show listK c.L so s = 0 from if_neg (fun e => hk e.1))
    have hki : ¬ ((kindAt c.L s.p : Nat) : Int) = 3 := by omega
    have hkb : (((kindAt c.L s.p : Nat) : Int) != 3) = true := by simpa using hki
    clear h
    go_enter Tryd.func45, Tryd.ntmps45
    go_wp2_with fail
    refine HS0.out.kind.mono ?_
    rintro e w1 ⟨rfl, hs, hg⟩
    have HS1 := Lib.hid hs
    have HG1 := Lib.hid hg
    clear hs hg
    go_wp2
    go_ret
    exact ⟨by rw [HX.out]; rfl, HS1.out, HG1.out⟩
  have hki : ((kindAt c.L s.p : Nat) : Int) = 3 := by omega
  have hwn := word_ne hne hk
  obtain ⟨wd, hwd⟩ : ∃ wd, wordAt c.L s.p = wd := ⟨_, rfl⟩
  rw [hwd] at hwn
  have HX := Lib.hid (show listK c.L so s = listW so wd by
    rw [← listV_eq hso hwn]
    unfold listK listV
    rw [hwd]
    by_cases hc : headN wd = 0 ∨ (sortN (headN wd) ≠ 0 ∧ so ≠ 0 ∧ sortN (headN wd) ≠ so)
    · rw [if_pos hc, if_neg (fun e => e.2 hc)]
    · rw [if_neg hc, if_pos ⟨hk, hc⟩])
  clear h hwn hk
  go_enter Tryd.func45, Tryd.ntmps45
  go_wp2_with fail
  refine HS0.out.kind.mono ?_
  rintro e w1 ⟨rfl, hs, hg⟩
  rw [hki]
  have HS1 := Lib.hid hs
  have HG1 := Lib.hid hg
  have HMK := Lib.hid (pmk_any w1)
  clear hs hg hki
  go_wp2_with fail
  refine HMK.out.mono ?_
  rintro e w2 ⟨g, rfl, hrow, hg2⟩
  have HSM := Lib.hid (HS1.out.same hg2)
  have HGM := Lib.hid (HG1.out.trans hg2)
  have HRM := Lib.hid hrow
  clear hrow hg2 HMK
  go_wp2_with fail
  go_loopw [6] (fun i wr => ∃ k : Nat, k ≤ 12 ∧ i = .int .i64 k ∧ Hid (FindI (pM so wd) markedL k) ∧ Hid (RS c nv s wr) ∧ Hid (w.grownBy wr none) ∧ Hid (WRow wr g markedL)) (fun i _ => 12 - (intOf i).toNat)
  case atStart => exact ⟨0, Nat.zero_le _, rfl, Lib.hid (FindI.start _ _), HSM, HGM, HRM⟩
  case round =>
    obtain ⟨k, hk, rfl, HNO, HS, HG, HR⟩ := hrel
    clear HSM HGM HRM
    by_cases hlt : k < 12
    · have hkl : k < (markedL).length := hlt
      have hc := HR.out k hkl
      have HD := Lib.hid (List.drop_eq_getElem_cons hkl)
      obtain ⟨y, hy⟩ : ∃ y, (markedL)[k]'hkl = y := ⟨_, rfl⟩
      rw [hy] at hc HD
      unfold strV at hc
      clear hy
      have HWD := Lib.hid (HS.out.drew.word)
      cases hyx : (y == wd)
      · have HPY := Lib.hid (show pM so wd y k = false by unfold pM; rw [hyx]; rfl)
        clear HS
        (try clear hk0)
        (try clear hs2)
        (try clear hs1)
        go_wp2_with fail
        refine wp_region_held_drew (S := fun w' => w'.cell? ⟨g, k, none⟩ = some (.string ⟨y.toArray⟩)) (by kernel_rfl) ?_ (fun hHeld => ?_)
        · (try dsimp only)
          (first | exact hc | exact HCN.out)
        refine take_at 0 18 ol7_0 (v := ?_) (Or.inl ⟨by rfl, ?_⟩) ?_
        rotate_left 1
        · ((intro w hSw; (try dsimp only at hSw); unfold ol7_0; go_simp) <;> with_reducible rfl)
        (try simp only [Act.put, List.setIfInBounds_toArray, List.set_cons_zero, List.set_cons_succ])
        refine take_at 1 19 ol7_1 (v := ?_) (Or.inl ⟨by rfl, ?_⟩) ?_
        rotate_left 1
        · ((intro w hSw; (try dsimp only at hSw); unfold ol7_1; go_simp) <;> with_reducible rfl)
        (try simp only [Act.put, List.setIfInBounds_toArray, List.set_cons_zero, List.set_cons_succ])
        refine take_at 2 20 ol7_2 (v := ?_) (Or.inl ⟨by rfl, ?_⟩) ?_
        rotate_left 1
        · ((intro w hSw; (try dsimp only at hSw); unfold ol7_2; go_simp) <;> with_reducible rfl)
        (try simp only [Act.put, List.setIfInBounds_toArray, List.set_cons_zero, List.set_cons_succ])
        refine take_at 3 21 ol7_3 (v := ?_) (Or.inl ⟨by rfl, ?_⟩) ?_
        rotate_left 1
        · ((intro w hSw; (try dsimp only at hSw); unfold ol7_3; go_simp) <;> with_reducible rfl)
        (try simp only [Act.put, List.setIfInBounds_toArray, List.set_cons_zero, List.set_cons_succ])
        refine take_at 4 22 ol7_4 (v := ?_) (Or.inl ⟨by rfl, ?_⟩) ?_
        rotate_left 1
        · ((intro w hSw; (try dsimp only at hSw); unfold ol7_4; go_simp) <;> with_reducible rfl)
        (try simp only [Act.put, List.setIfInBounds_toArray, List.set_cons_zero, List.set_cons_succ])
        refine wpAnyH_ready (rs := [5]) (by kernel_rfl) (by simp) ?_
        refine AllReadyH.cons (o := ol7_5) rfl (fun K hK => ?_) ?_
        · unfold ol7_5
          go_simp
          (go_at_call 43; with_reducible refine Calls.mono HWD.out ?_)
          rintro e wn ⟨rfl, hs2, hg2⟩
          rw [hwd]
          have HSN := Lib.hid hs2
          have HGN := Lib.hid ((HG.out.trans (drew_gr wr)).trans hg2)
          have HCN := Lib.hid (cell_gr ((drew_gr wr).trans hg2) hc)
          have HRN := Lib.hid (HR.out.same ((drew_gr wr).trans hg2))
          clear hs2 hg2
          refine hK.out _ _ ?_ (fun hHeld => ?_)
          · (try dsimp only)
            (first | exact hc | exact HCN.out)
          clear hK K
          (try simp only [Act.put, List.setIfInBounds_toArray, List.set_cons_zero, List.set_cons_succ])
          refine take_at 6 24 ol7_6 (v := ?_) (Or.inl ⟨by rfl, ?_⟩) ?_
          rotate_left 1
          · ((intro w hSw; (try dsimp only at hSw); unfold ol7_6; go_simp) <;> with_reducible rfl)
          (try simp only [Act.put, List.setIfInBounds_toArray, List.set_cons_zero, List.set_cons_succ])
          refine take_at 7 25 ol7_7 (v := ?_) (Or.inl ⟨by rfl, ?_⟩) ?_
          rotate_left 1
          · ((intro w hSw; (try dsimp only at hSw); unfold ol7_7; go_simp) <;> with_reducible rfl)
          (try simp only [Act.put, List.setIfInBounds_toArray, List.set_cons_zero, List.set_cons_succ])
          refine take_at 8 26 ol7_8 (v := undef) (Or.inr ⟨by rfl, rfl⟩) ?_
          (try simp only [Act.put, List.setIfInBounds_toArray, List.set_cons_zero, List.set_cons_succ])
          refine take_at 9 27 ol7_9 (v := undef) (Or.inr ⟨by rfl, rfl⟩) ?_
          (try simp only [Act.put, List.setIfInBounds_toArray, List.set_cons_zero, List.set_cons_succ])
          refine take_at 10 28 ol7_10 (v := undef) (Or.inr ⟨by rfl, rfl⟩) ?_
          (try simp only [Act.put, List.setIfInBounds_toArray, List.set_cons_zero, List.set_cons_succ])
          refine take_at 11 29 ol7_11 (v := undef) (Or.inr ⟨by rfl, rfl⟩) ?_
          (try simp only [Act.put, List.setIfInBounds_toArray, List.set_cons_zero, List.set_cons_succ])
          refine take_at 12 30 ol7_12 (v := undef) (Or.inr ⟨by rfl, rfl⟩) ?_
          (try simp only [Act.put, List.setIfInBounds_toArray, List.set_cons_zero, List.set_cons_succ])
          refine take_at 13 31 ol7_13 (v := undef) (Or.inr ⟨by rfl, rfl⟩) ?_
          (try simp only [Act.put, List.setIfInBounds_toArray, List.set_cons_zero, List.set_cons_succ])
          refine take_at 14 32 ol7_14 (v := ?_) (Or.inl ⟨by rfl, ?_⟩) ?_
          rotate_left 1
          · ((intro w hSw; (try dsimp only at hSw); unfold ol7_14; go_simp) <;> with_reducible rfl)
          (try simp only [Act.put, List.setIfInBounds_toArray, List.set_cons_zero, List.set_cons_succ])
          refine wpAnyH_done (by kernel_rfl) ?_ _
          clear hHeld
          go_wp2
          go_round
          case rel => exact ⟨k + 1, by omega, by go_num, HNO.out.next HD.out HPY.out, HSN.out, HGN.out, HRN.out⟩
          case measure => simp [intOf]; omega
        exact AllReadyH.nil

      · by_cases hs2 : so = 2
        · have hsb : (so != 2) = false := by simp [hs2]
          by_cases hk0 : k = 0
          · have hkb : ((k : Int) == 0) = true := by simp [hk0]
            have HPY := Lib.hid (show pM so wd y k = true by unfold pM; rw [hyx, hsb]; simp [hk0])
            clear HS
            (try clear hk0)
            (try clear hs2)
            (try clear hs1)
            go_wp2_with fail
            refine wp_region_held_drew (S := fun w' => w'.cell? ⟨g, k, none⟩ = some (.string ⟨y.toArray⟩)) (by kernel_rfl) ?_ (fun hHeld => ?_)
            · (try dsimp only)
              (first | exact hc | exact HCN.out)
            refine take_at 0 18 ol7_0 (v := ?_) (Or.inl ⟨by rfl, ?_⟩) ?_
            rotate_left 1
            · ((intro w hSw; (try dsimp only at hSw); unfold ol7_0; go_simp) <;> with_reducible rfl)
            (try simp only [Act.put, List.setIfInBounds_toArray, List.set_cons_zero, List.set_cons_succ])
            refine take_at 1 19 ol7_1 (v := ?_) (Or.inl ⟨by rfl, ?_⟩) ?_
            rotate_left 1
            · ((intro w hSw; (try dsimp only at hSw); unfold ol7_1; go_simp) <;> with_reducible rfl)
            (try simp only [Act.put, List.setIfInBounds_toArray, List.set_cons_zero, List.set_cons_succ])
            refine take_at 2 20 ol7_2 (v := ?_) (Or.inl ⟨by rfl, ?_⟩) ?_
            rotate_left 1
            · ((intro w hSw; (try dsimp only at hSw); unfold ol7_2; go_simp) <;> with_reducible rfl)
            (try simp only [Act.put, List.setIfInBounds_toArray, List.set_cons_zero, List.set_cons_succ])
            refine take_at 3 21 ol7_3 (v := ?_) (Or.inl ⟨by rfl, ?_⟩) ?_
            rotate_left 1
            · ((intro w hSw; (try dsimp only at hSw); unfold ol7_3; go_simp) <;> with_reducible rfl)
            (try simp only [Act.put, List.setIfInBounds_toArray, List.set_cons_zero, List.set_cons_succ])
            refine take_at 4 22 ol7_4 (v := ?_) (Or.inl ⟨by rfl, ?_⟩) ?_
            rotate_left 1
            · ((intro w hSw; (try dsimp only at hSw); unfold ol7_4; go_simp) <;> with_reducible rfl)
            (try simp only [Act.put, List.setIfInBounds_toArray, List.set_cons_zero, List.set_cons_succ])
            refine wpAnyH_ready (rs := [5]) (by kernel_rfl) (by simp) ?_
            refine AllReadyH.cons (o := ol7_5) rfl (fun K hK => ?_) ?_
            · unfold ol7_5
              go_simp
              (go_at_call 43; with_reducible refine Calls.mono HWD.out ?_)
              rintro e wn ⟨rfl, hs2, hg2⟩
              rw [hwd]
              have HSN := Lib.hid hs2
              have HGN := Lib.hid ((HG.out.trans (drew_gr wr)).trans hg2)
              have HCN := Lib.hid (cell_gr ((drew_gr wr).trans hg2) hc)
              have HRN := Lib.hid (HR.out.same ((drew_gr wr).trans hg2))
              clear hs2 hg2
              refine hK.out _ _ ?_ (fun hHeld => ?_)
              · (try dsimp only)
                (first | exact hc | exact HCN.out)
              clear hK K
              (try simp only [Act.put, List.setIfInBounds_toArray, List.set_cons_zero, List.set_cons_succ])
              refine take_at 6 24 ol7_6 (v := ?_) (Or.inl ⟨by rfl, ?_⟩) ?_
              rotate_left 1
              · ((intro w hSw; (try dsimp only at hSw); unfold ol7_6; go_simp) <;> with_reducible rfl)
              (try simp only [Act.put, List.setIfInBounds_toArray, List.set_cons_zero, List.set_cons_succ])
              refine take_at 7 25 ol7_7 (v := ?_) (Or.inl ⟨by rfl, ?_⟩) ?_
              rotate_left 1
              · ((intro w hSw; (try dsimp only at hSw); unfold ol7_7; go_simp) <;> with_reducible rfl)
              (try simp only [Act.put, List.setIfInBounds_toArray, List.set_cons_zero, List.set_cons_succ])
              refine take_at 8 26 ol7_8 (v := ?_) (Or.inl ⟨by rfl, ?_⟩) ?_
              rotate_left 1
              · ((intro w hSw; (try dsimp only at hSw); unfold ol7_8; go_simp) <;> with_reducible rfl)
              (try simp only [Act.put, List.setIfInBounds_toArray, List.set_cons_zero, List.set_cons_succ])
              refine take_at 9 27 ol7_9 (v := ?_) (Or.inl ⟨by rfl, ?_⟩) ?_
              rotate_left 1
              · ((intro w hSw; (try dsimp only at hSw); unfold ol7_9; go_simp) <;> with_reducible rfl)
              (try simp only [Act.put, List.setIfInBounds_toArray, List.set_cons_zero, List.set_cons_succ])
              refine take_at 10 28 ol7_10 (v := ?_) (Or.inl ⟨by rfl, ?_⟩) ?_
              rotate_left 1
              · ((intro w hSw; (try dsimp only at hSw); unfold ol7_10; go_simp) <;> with_reducible rfl)
              (try simp only [Act.put, List.setIfInBounds_toArray, List.set_cons_zero, List.set_cons_succ])
              refine take_at 11 29 ol7_11 (v := ?_) (Or.inl ⟨by rfl, ?_⟩) ?_
              rotate_left 1
              · ((intro w hSw; (try dsimp only at hSw); unfold ol7_11; go_simp) <;> with_reducible rfl)
              (try simp only [Act.put, List.setIfInBounds_toArray, List.set_cons_zero, List.set_cons_succ])
              refine take_at 12 30 ol7_12 (v := ?_) (Or.inl ⟨by rfl, ?_⟩) ?_
              rotate_left 1
              · ((intro w hSw; (try dsimp only at hSw); unfold ol7_12; go_simp) <;> with_reducible rfl)
              (try simp only [Act.put, List.setIfInBounds_toArray, List.set_cons_zero, List.set_cons_succ])
              refine take_at 13 31 ol7_13 (v := ?_) (Or.inl ⟨by rfl, ?_⟩) ?_
              rotate_left 1
              · ((intro w hSw; (try dsimp only at hSw); unfold ol7_13; go_simp) <;> with_reducible rfl)
              (try simp only [Act.put, List.setIfInBounds_toArray, List.set_cons_zero, List.set_cons_succ])
              refine take_at 14 32 ol7_14 (v := ?_) (Or.inl ⟨by rfl, ?_⟩) ?_
              rotate_left 1
              · ((intro w hSw; (try dsimp only at hSw); unfold ol7_14; go_simp) <;> with_reducible rfl)
              (try simp only [Act.put, List.setIfInBounds_toArray, List.set_cons_zero, List.set_cons_succ])
              refine wpAnyH_done (by kernel_rfl) ?_ _
              clear hHeld
              go_wp2
              go_ret
              exact ⟨by rw [HX.out]; exact congrArg (fun z => Ending.returned (.int .i64 z)) (listW_marked (HNO.out.found HD.out HPY.out)).symm, HSN.out, HGN.out⟩
            exact AllReadyH.nil

          · have hkb : ((k : Int) == 0) = false := by simp [hk0]
            have HPY := Lib.hid (show pM so wd y k = false by unfold pM; rw [hyx, hsb]; simp [hk0])
            clear HS
            (try clear hk0)
            (try clear hs2)
            (try clear hs1)
            go_wp2_with fail
            refine wp_region_held_drew (S := fun w' => w'.cell? ⟨g, k, none⟩ = some (.string ⟨y.toArray⟩)) (by kernel_rfl) ?_ (fun hHeld => ?_)
            · (try dsimp only)
              (first | exact hc | exact HCN.out)
            refine take_at 0 18 ol7_0 (v := ?_) (Or.inl ⟨by rfl, ?_⟩) ?_
            rotate_left 1
            · ((intro w hSw; (try dsimp only at hSw); unfold ol7_0; go_simp) <;> with_reducible rfl)
            (try simp only [Act.put, List.setIfInBounds_toArray, List.set_cons_zero, List.set_cons_succ])
            refine take_at 1 19 ol7_1 (v := ?_) (Or.inl ⟨by rfl, ?_⟩) ?_
            rotate_left 1
            · ((intro w hSw; (try dsimp only at hSw); unfold ol7_1; go_simp) <;> with_reducible rfl)
            (try simp only [Act.put, List.setIfInBounds_toArray, List.set_cons_zero, List.set_cons_succ])
            refine take_at 2 20 ol7_2 (v := ?_) (Or.inl ⟨by rfl, ?_⟩) ?_
            rotate_left 1
            · ((intro w hSw; (try dsimp only at hSw); unfold ol7_2; go_simp) <;> with_reducible rfl)
            (try simp only [Act.put, List.setIfInBounds_toArray, List.set_cons_zero, List.set_cons_succ])
            refine take_at 3 21 ol7_3 (v := ?_) (Or.inl ⟨by rfl, ?_⟩) ?_
            rotate_left 1
            · ((intro w hSw; (try dsimp only at hSw); unfold ol7_3; go_simp) <;> with_reducible rfl)
            (try simp only [Act.put, List.setIfInBounds_toArray, List.set_cons_zero, List.set_cons_succ])
            refine take_at 4 22 ol7_4 (v := ?_) (Or.inl ⟨by rfl, ?_⟩) ?_
            rotate_left 1
            · ((intro w hSw; (try dsimp only at hSw); unfold ol7_4; go_simp) <;> with_reducible rfl)
            (try simp only [Act.put, List.setIfInBounds_toArray, List.set_cons_zero, List.set_cons_succ])
            refine wpAnyH_ready (rs := [5]) (by kernel_rfl) (by simp) ?_
            refine AllReadyH.cons (o := ol7_5) rfl (fun K hK => ?_) ?_
            · unfold ol7_5
              go_simp
              (go_at_call 43; with_reducible refine Calls.mono HWD.out ?_)
              rintro e wn ⟨rfl, hs2, hg2⟩
              rw [hwd]
              have HSN := Lib.hid hs2
              have HGN := Lib.hid ((HG.out.trans (drew_gr wr)).trans hg2)
              have HCN := Lib.hid (cell_gr ((drew_gr wr).trans hg2) hc)
              have HRN := Lib.hid (HR.out.same ((drew_gr wr).trans hg2))
              clear hs2 hg2
              refine hK.out _ _ ?_ (fun hHeld => ?_)
              · (try dsimp only)
                (first | exact hc | exact HCN.out)
              clear hK K
              (try simp only [Act.put, List.setIfInBounds_toArray, List.set_cons_zero, List.set_cons_succ])
              refine take_at 6 24 ol7_6 (v := ?_) (Or.inl ⟨by rfl, ?_⟩) ?_
              rotate_left 1
              · ((intro w hSw; (try dsimp only at hSw); unfold ol7_6; go_simp) <;> with_reducible rfl)
              (try simp only [Act.put, List.setIfInBounds_toArray, List.set_cons_zero, List.set_cons_succ])
              refine take_at 7 25 ol7_7 (v := ?_) (Or.inl ⟨by rfl, ?_⟩) ?_
              rotate_left 1
              · ((intro w hSw; (try dsimp only at hSw); unfold ol7_7; go_simp) <;> with_reducible rfl)
              (try simp only [Act.put, List.setIfInBounds_toArray, List.set_cons_zero, List.set_cons_succ])
              refine take_at 8 26 ol7_8 (v := ?_) (Or.inl ⟨by rfl, ?_⟩) ?_
              rotate_left 1
              · ((intro w hSw; (try dsimp only at hSw); unfold ol7_8; go_simp) <;> with_reducible rfl)
              (try simp only [Act.put, List.setIfInBounds_toArray, List.set_cons_zero, List.set_cons_succ])
              refine take_at 9 27 ol7_9 (v := ?_) (Or.inl ⟨by rfl, ?_⟩) ?_
              rotate_left 1
              · ((intro w hSw; (try dsimp only at hSw); unfold ol7_9; go_simp) <;> with_reducible rfl)
              (try simp only [Act.put, List.setIfInBounds_toArray, List.set_cons_zero, List.set_cons_succ])
              refine take_at 10 28 ol7_10 (v := ?_) (Or.inl ⟨by rfl, ?_⟩) ?_
              rotate_left 1
              · ((intro w hSw; (try dsimp only at hSw); unfold ol7_10; go_simp) <;> with_reducible rfl)
              (try simp only [Act.put, List.setIfInBounds_toArray, List.set_cons_zero, List.set_cons_succ])
              refine take_at 11 29 ol7_11 (v := ?_) (Or.inl ⟨by rfl, ?_⟩) ?_
              rotate_left 1
              · ((intro w hSw; (try dsimp only at hSw); unfold ol7_11; go_simp) <;> with_reducible rfl)
              (try simp only [Act.put, List.setIfInBounds_toArray, List.set_cons_zero, List.set_cons_succ])
              refine take_at 12 30 ol7_12 (v := ?_) (Or.inl ⟨by rfl, ?_⟩) ?_
              rotate_left 1
              · ((intro w hSw; (try dsimp only at hSw); unfold ol7_12; go_simp) <;> with_reducible rfl)
              (try simp only [Act.put, List.setIfInBounds_toArray, List.set_cons_zero, List.set_cons_succ])
              refine take_at 13 31 ol7_13 (v := ?_) (Or.inl ⟨by rfl, ?_⟩) ?_
              rotate_left 1
              · ((intro w hSw; (try dsimp only at hSw); unfold ol7_13; go_simp) <;> with_reducible rfl)
              (try simp only [Act.put, List.setIfInBounds_toArray, List.set_cons_zero, List.set_cons_succ])
              refine take_at 14 32 ol7_14 (v := ?_) (Or.inl ⟨by rfl, ?_⟩) ?_
              rotate_left 1
              · ((intro w hSw; (try dsimp only at hSw); unfold ol7_14; go_simp) <;> with_reducible rfl)
              (try simp only [Act.put, List.setIfInBounds_toArray, List.set_cons_zero, List.set_cons_succ])
              refine wpAnyH_done (by kernel_rfl) ?_ _
              clear hHeld
              go_wp2
              go_round
              case rel => exact ⟨k + 1, by omega, by go_num, HNO.out.next HD.out HPY.out, HSN.out, HGN.out, HRN.out⟩
              case measure => simp [intOf]; omega
            exact AllReadyH.nil

        · have hsb : (so != 2) = true := by simp [hs2]
          have HPY := Lib.hid (show pM so wd y k = true by unfold pM; rw [hyx, hsb]; rfl)
          clear HS
          (try clear hk0)
          (try clear hs2)
          (try clear hs1)
          go_wp2_with fail
          refine wp_region_held_drew (S := fun w' => w'.cell? ⟨g, k, none⟩ = some (.string ⟨y.toArray⟩)) (by kernel_rfl) ?_ (fun hHeld => ?_)
          · (try dsimp only)
            (first | exact hc | exact HCN.out)
          refine take_at 0 18 ol7_0 (v := ?_) (Or.inl ⟨by rfl, ?_⟩) ?_
          rotate_left 1
          · ((intro w hSw; (try dsimp only at hSw); unfold ol7_0; go_simp) <;> with_reducible rfl)
          (try simp only [Act.put, List.setIfInBounds_toArray, List.set_cons_zero, List.set_cons_succ])
          refine take_at 1 19 ol7_1 (v := ?_) (Or.inl ⟨by rfl, ?_⟩) ?_
          rotate_left 1
          · ((intro w hSw; (try dsimp only at hSw); unfold ol7_1; go_simp) <;> with_reducible rfl)
          (try simp only [Act.put, List.setIfInBounds_toArray, List.set_cons_zero, List.set_cons_succ])
          refine take_at 2 20 ol7_2 (v := ?_) (Or.inl ⟨by rfl, ?_⟩) ?_
          rotate_left 1
          · ((intro w hSw; (try dsimp only at hSw); unfold ol7_2; go_simp) <;> with_reducible rfl)
          (try simp only [Act.put, List.setIfInBounds_toArray, List.set_cons_zero, List.set_cons_succ])
          refine take_at 3 21 ol7_3 (v := ?_) (Or.inl ⟨by rfl, ?_⟩) ?_
          rotate_left 1
          · ((intro w hSw; (try dsimp only at hSw); unfold ol7_3; go_simp) <;> with_reducible rfl)
          (try simp only [Act.put, List.setIfInBounds_toArray, List.set_cons_zero, List.set_cons_succ])
          refine take_at 4 22 ol7_4 (v := ?_) (Or.inl ⟨by rfl, ?_⟩) ?_
          rotate_left 1
          · ((intro w hSw; (try dsimp only at hSw); unfold ol7_4; go_simp) <;> with_reducible rfl)
          (try simp only [Act.put, List.setIfInBounds_toArray, List.set_cons_zero, List.set_cons_succ])
          refine wpAnyH_ready (rs := [5]) (by kernel_rfl) (by simp) ?_
          refine AllReadyH.cons (o := ol7_5) rfl (fun K hK => ?_) ?_
          · unfold ol7_5
            go_simp
            (go_at_call 43; with_reducible refine Calls.mono HWD.out ?_)
            rintro e wn ⟨rfl, hs2, hg2⟩
            rw [hwd]
            have HSN := Lib.hid hs2
            have HGN := Lib.hid ((HG.out.trans (drew_gr wr)).trans hg2)
            have HCN := Lib.hid (cell_gr ((drew_gr wr).trans hg2) hc)
            have HRN := Lib.hid (HR.out.same ((drew_gr wr).trans hg2))
            clear hs2 hg2
            refine hK.out _ _ ?_ (fun hHeld => ?_)
            · (try dsimp only)
              (first | exact hc | exact HCN.out)
            clear hK K
            (try simp only [Act.put, List.setIfInBounds_toArray, List.set_cons_zero, List.set_cons_succ])
            refine take_at 6 24 ol7_6 (v := ?_) (Or.inl ⟨by rfl, ?_⟩) ?_
            rotate_left 1
            · ((intro w hSw; (try dsimp only at hSw); unfold ol7_6; go_simp) <;> with_reducible rfl)
            (try simp only [Act.put, List.setIfInBounds_toArray, List.set_cons_zero, List.set_cons_succ])
            refine take_at 7 25 ol7_7 (v := ?_) (Or.inl ⟨by rfl, ?_⟩) ?_
            rotate_left 1
            · ((intro w hSw; (try dsimp only at hSw); unfold ol7_7; go_simp) <;> with_reducible rfl)
            (try simp only [Act.put, List.setIfInBounds_toArray, List.set_cons_zero, List.set_cons_succ])
            refine take_at 8 26 ol7_8 (v := ?_) (Or.inl ⟨by rfl, ?_⟩) ?_
            rotate_left 1
            · ((intro w hSw; (try dsimp only at hSw); unfold ol7_8; go_simp) <;> with_reducible rfl)
            (try simp only [Act.put, List.setIfInBounds_toArray, List.set_cons_zero, List.set_cons_succ])
            refine take_at 9 27 ol7_9 (v := ?_) (Or.inl ⟨by rfl, ?_⟩) ?_
            rotate_left 1
            · ((intro w hSw; (try dsimp only at hSw); unfold ol7_9; go_simp) <;> with_reducible rfl)
            (try simp only [Act.put, List.setIfInBounds_toArray, List.set_cons_zero, List.set_cons_succ])
            refine take_at 10 28 ol7_10 (v := ?_) (Or.inl ⟨by rfl, ?_⟩) ?_
            rotate_left 1
            · ((intro w hSw; (try dsimp only at hSw); unfold ol7_10; go_simp) <;> with_reducible rfl)
            (try simp only [Act.put, List.setIfInBounds_toArray, List.set_cons_zero, List.set_cons_succ])
            refine take_at 11 29 ol7_11 (v := undef) (Or.inr ⟨by rfl, rfl⟩) ?_
            (try simp only [Act.put, List.setIfInBounds_toArray, List.set_cons_zero, List.set_cons_succ])
            refine take_at 12 30 ol7_12 (v := undef) (Or.inr ⟨by rfl, rfl⟩) ?_
            (try simp only [Act.put, List.setIfInBounds_toArray, List.set_cons_zero, List.set_cons_succ])
            refine take_at 13 31 ol7_13 (v := ?_) (Or.inl ⟨by rfl, ?_⟩) ?_
            rotate_left 1
            · ((intro w hSw; (try dsimp only at hSw); unfold ol7_13; go_simp) <;> with_reducible rfl)
            (try simp only [Act.put, List.setIfInBounds_toArray, List.set_cons_zero, List.set_cons_succ])
            refine take_at 14 32 ol7_14 (v := ?_) (Or.inl ⟨by rfl, ?_⟩) ?_
            rotate_left 1
            · ((intro w hSw; (try dsimp only at hSw); unfold ol7_14; go_simp) <;> with_reducible rfl)
            (try simp only [Act.put, List.setIfInBounds_toArray, List.set_cons_zero, List.set_cons_succ])
            refine wpAnyH_done (by kernel_rfl) ?_ _
            clear hHeld
            go_wp2
            go_ret
            exact ⟨by rw [HX.out]; exact congrArg (fun z => Ending.returned (.int .i64 z)) (listW_marked (HNO.out.found HD.out HPY.out)).symm, HSN.out, HGN.out⟩
          exact AllReadyH.nil

    · obtain rfl : k = 12 := by omega
      have HN1 := Lib.hid (HNO.out.none (Nat.le_refl _))
      have HS1 := HS
      have HG1 := HG
      have HMK := Lib.hid (ppl_any wr)
      clear HNO HS HG HR hlt hk
      go_wp2_with fail
      refine HMK.out.mono ?_
      rintro e w2 ⟨g, rfl, hrow, hg2⟩
      have HSM := Lib.hid (HS1.out.same hg2)
      have HGM := Lib.hid (HG1.out.trans hg2)
      have HRM := Lib.hid hrow
      clear hrow hg2 HMK
      go_wp2_with fail
      go_loopw [7] (fun i wr => ∃ k : Nat, k ≤ 11 ∧ i = .int .i64 k ∧ Hid (FindI (pP so wd) plainL k) ∧ Hid (RS c nv s wr) ∧ Hid (w.grownBy wr none) ∧ Hid (WRow wr g plainL)) (fun i _ => 11 - (intOf i).toNat)
      case atStart => exact ⟨0, Nat.zero_le _, rfl, Lib.hid (FindI.start _ _), HSM, HGM, HRM⟩
      case round =>
        obtain ⟨k, hk, rfl, HNO, HS, HG, HR⟩ := hrel
        clear HSM HGM HRM
        by_cases hlt : k < 11
        · have hkl : k < (plainL).length := hlt
          have hc := HR.out k hkl
          have HD := Lib.hid (List.drop_eq_getElem_cons hkl)
          obtain ⟨y, hy⟩ : ∃ y, (plainL)[k]'hkl = y := ⟨_, rfl⟩
          rw [hy] at hc HD
          unfold strV at hc
          clear hy
          have HWD := Lib.hid (HS.out.drew.word)
          cases hyx : (y == wd)
          · have HPY := Lib.hid (show pP so wd y k = false by unfold pP; rw [hyx]; rfl)
            clear HS
            (try clear hk0)
            (try clear hs2)
            (try clear hs1)
            go_wp2_with fail
            refine wp_region_held_drew (S := fun w' => w'.cell? ⟨g, k, none⟩ = some (.string ⟨y.toArray⟩)) (by kernel_rfl) ?_ (fun hHeld => ?_)
            · (try dsimp only)
              (first | exact hc | exact HCN.out)
            refine take_at 0 42 ol13_0 (v := ?_) (Or.inl ⟨by rfl, ?_⟩) ?_
            rotate_left 1
            · ((intro w hSw; (try dsimp only at hSw); unfold ol13_0; go_simp) <;> with_reducible rfl)
            (try simp only [Act.put, List.setIfInBounds_toArray, List.set_cons_zero, List.set_cons_succ])
            refine take_at 1 43 ol13_1 (v := ?_) (Or.inl ⟨by rfl, ?_⟩) ?_
            rotate_left 1
            · ((intro w hSw; (try dsimp only at hSw); unfold ol13_1; go_simp) <;> with_reducible rfl)
            (try simp only [Act.put, List.setIfInBounds_toArray, List.set_cons_zero, List.set_cons_succ])
            refine take_at 2 44 ol13_2 (v := ?_) (Or.inl ⟨by rfl, ?_⟩) ?_
            rotate_left 1
            · ((intro w hSw; (try dsimp only at hSw); unfold ol13_2; go_simp) <;> with_reducible rfl)
            (try simp only [Act.put, List.setIfInBounds_toArray, List.set_cons_zero, List.set_cons_succ])
            refine take_at 3 45 ol13_3 (v := ?_) (Or.inl ⟨by rfl, ?_⟩) ?_
            rotate_left 1
            · ((intro w hSw; (try dsimp only at hSw); unfold ol13_3; go_simp) <;> with_reducible rfl)
            (try simp only [Act.put, List.setIfInBounds_toArray, List.set_cons_zero, List.set_cons_succ])
            refine take_at 4 46 ol13_4 (v := ?_) (Or.inl ⟨by rfl, ?_⟩) ?_
            rotate_left 1
            · ((intro w hSw; (try dsimp only at hSw); unfold ol13_4; go_simp) <;> with_reducible rfl)
            (try simp only [Act.put, List.setIfInBounds_toArray, List.set_cons_zero, List.set_cons_succ])
            refine wpAnyH_ready (rs := [5]) (by kernel_rfl) (by simp) ?_
            refine AllReadyH.cons (o := ol13_5) rfl (fun K hK => ?_) ?_
            · unfold ol13_5
              go_simp
              (go_at_call 43; with_reducible refine Calls.mono HWD.out ?_)
              rintro e wn ⟨rfl, hs2, hg2⟩
              rw [hwd]
              have HSN := Lib.hid hs2
              have HGN := Lib.hid ((HG.out.trans (drew_gr wr)).trans hg2)
              have HCN := Lib.hid (cell_gr ((drew_gr wr).trans hg2) hc)
              have HRN := Lib.hid (HR.out.same ((drew_gr wr).trans hg2))
              clear hs2 hg2
              refine hK.out _ _ ?_ (fun hHeld => ?_)
              · (try dsimp only)
                (first | exact hc | exact HCN.out)
              clear hK K
              (try simp only [Act.put, List.setIfInBounds_toArray, List.set_cons_zero, List.set_cons_succ])
              refine take_at 6 48 ol13_6 (v := ?_) (Or.inl ⟨by rfl, ?_⟩) ?_
              rotate_left 1
              · ((intro w hSw; (try dsimp only at hSw); unfold ol13_6; go_simp) <;> with_reducible rfl)
              (try simp only [Act.put, List.setIfInBounds_toArray, List.set_cons_zero, List.set_cons_succ])
              refine take_at 7 49 ol13_7 (v := ?_) (Or.inl ⟨by rfl, ?_⟩) ?_
              rotate_left 1
              · ((intro w hSw; (try dsimp only at hSw); unfold ol13_7; go_simp) <;> with_reducible rfl)
              (try simp only [Act.put, List.setIfInBounds_toArray, List.set_cons_zero, List.set_cons_succ])
              refine take_at 8 50 ol13_8 (v := undef) (Or.inr ⟨by rfl, rfl⟩) ?_
              (try simp only [Act.put, List.setIfInBounds_toArray, List.set_cons_zero, List.set_cons_succ])
              refine take_at 9 51 ol13_9 (v := undef) (Or.inr ⟨by rfl, rfl⟩) ?_
              (try simp only [Act.put, List.setIfInBounds_toArray, List.set_cons_zero, List.set_cons_succ])
              refine take_at 10 52 ol13_10 (v := ?_) (Or.inl ⟨by rfl, ?_⟩) ?_
              rotate_left 1
              · ((intro w hSw; (try dsimp only at hSw); unfold ol13_10; go_simp) <;> with_reducible rfl)
              (try simp only [Act.put, List.setIfInBounds_toArray, List.set_cons_zero, List.set_cons_succ])
              refine wpAnyH_done (by kernel_rfl) ?_ _
              clear hHeld
              go_wp2
              go_round
              case rel => exact ⟨k + 1, by omega, by go_num, HNO.out.next HD.out HPY.out, HSN.out, HGN.out, HRN.out⟩
              case measure => simp [intOf]; omega
            exact AllReadyH.nil

          · by_cases hs1 : so = 1
            · have hsb : (so != 1) = false := by simp [hs1]
              have HPY := Lib.hid (show pP so wd y k = false by unfold pP; rw [hyx, hsb]; rfl)
              clear HS
              (try clear hk0)
              (try clear hs2)
              (try clear hs1)
              go_wp2_with fail
              refine wp_region_held_drew (S := fun w' => w'.cell? ⟨g, k, none⟩ = some (.string ⟨y.toArray⟩)) (by kernel_rfl) ?_ (fun hHeld => ?_)
              · (try dsimp only)
                (first | exact hc | exact HCN.out)
              refine take_at 0 42 ol13_0 (v := ?_) (Or.inl ⟨by rfl, ?_⟩) ?_
              rotate_left 1
              · ((intro w hSw; (try dsimp only at hSw); unfold ol13_0; go_simp) <;> with_reducible rfl)
              (try simp only [Act.put, List.setIfInBounds_toArray, List.set_cons_zero, List.set_cons_succ])
              refine take_at 1 43 ol13_1 (v := ?_) (Or.inl ⟨by rfl, ?_⟩) ?_
              rotate_left 1
              · ((intro w hSw; (try dsimp only at hSw); unfold ol13_1; go_simp) <;> with_reducible rfl)
              (try simp only [Act.put, List.setIfInBounds_toArray, List.set_cons_zero, List.set_cons_succ])
              refine take_at 2 44 ol13_2 (v := ?_) (Or.inl ⟨by rfl, ?_⟩) ?_
              rotate_left 1
              · ((intro w hSw; (try dsimp only at hSw); unfold ol13_2; go_simp) <;> with_reducible rfl)
              (try simp only [Act.put, List.setIfInBounds_toArray, List.set_cons_zero, List.set_cons_succ])
              refine take_at 3 45 ol13_3 (v := ?_) (Or.inl ⟨by rfl, ?_⟩) ?_
              rotate_left 1
              · ((intro w hSw; (try dsimp only at hSw); unfold ol13_3; go_simp) <;> with_reducible rfl)
              (try simp only [Act.put, List.setIfInBounds_toArray, List.set_cons_zero, List.set_cons_succ])
              refine take_at 4 46 ol13_4 (v := ?_) (Or.inl ⟨by rfl, ?_⟩) ?_
              rotate_left 1
              · ((intro w hSw; (try dsimp only at hSw); unfold ol13_4; go_simp) <;> with_reducible rfl)
              (try simp only [Act.put, List.setIfInBounds_toArray, List.set_cons_zero, List.set_cons_succ])
              refine wpAnyH_ready (rs := [5]) (by kernel_rfl) (by simp) ?_
              refine AllReadyH.cons (o := ol13_5) rfl (fun K hK => ?_) ?_
              · unfold ol13_5
                go_simp
                (go_at_call 43; with_reducible refine Calls.mono HWD.out ?_)
                rintro e wn ⟨rfl, hs2, hg2⟩
                rw [hwd]
                have HSN := Lib.hid hs2
                have HGN := Lib.hid ((HG.out.trans (drew_gr wr)).trans hg2)
                have HCN := Lib.hid (cell_gr ((drew_gr wr).trans hg2) hc)
                have HRN := Lib.hid (HR.out.same ((drew_gr wr).trans hg2))
                clear hs2 hg2
                refine hK.out _ _ ?_ (fun hHeld => ?_)
                · (try dsimp only)
                  (first | exact hc | exact HCN.out)
                clear hK K
                (try simp only [Act.put, List.setIfInBounds_toArray, List.set_cons_zero, List.set_cons_succ])
                refine take_at 6 48 ol13_6 (v := ?_) (Or.inl ⟨by rfl, ?_⟩) ?_
                rotate_left 1
                · ((intro w hSw; (try dsimp only at hSw); unfold ol13_6; go_simp) <;> with_reducible rfl)
                (try simp only [Act.put, List.setIfInBounds_toArray, List.set_cons_zero, List.set_cons_succ])
                refine take_at 7 49 ol13_7 (v := ?_) (Or.inl ⟨by rfl, ?_⟩) ?_
                rotate_left 1
                · ((intro w hSw; (try dsimp only at hSw); unfold ol13_7; go_simp) <;> with_reducible rfl)
                (try simp only [Act.put, List.setIfInBounds_toArray, List.set_cons_zero, List.set_cons_succ])
                refine take_at 8 50 ol13_8 (v := ?_) (Or.inl ⟨by rfl, ?_⟩) ?_
                rotate_left 1
                · ((intro w hSw; (try dsimp only at hSw); unfold ol13_8; go_simp) <;> with_reducible rfl)
                (try simp only [Act.put, List.setIfInBounds_toArray, List.set_cons_zero, List.set_cons_succ])
                refine take_at 9 51 ol13_9 (v := ?_) (Or.inl ⟨by rfl, ?_⟩) ?_
                rotate_left 1
                · ((intro w hSw; (try dsimp only at hSw); unfold ol13_9; go_simp) <;> with_reducible rfl)
                (try simp only [Act.put, List.setIfInBounds_toArray, List.set_cons_zero, List.set_cons_succ])
                refine take_at 10 52 ol13_10 (v := ?_) (Or.inl ⟨by rfl, ?_⟩) ?_
                rotate_left 1
                · ((intro w hSw; (try dsimp only at hSw); unfold ol13_10; go_simp) <;> with_reducible rfl)
                (try simp only [Act.put, List.setIfInBounds_toArray, List.set_cons_zero, List.set_cons_succ])
                refine wpAnyH_done (by kernel_rfl) ?_ _
                clear hHeld
                go_wp2
                go_round
                case rel => exact ⟨k + 1, by omega, by go_num, HNO.out.next HD.out HPY.out, HSN.out, HGN.out, HRN.out⟩
                case measure => simp [intOf]; omega
              exact AllReadyH.nil

            · have hsb : (so != 1) = true := by simp [hs1]
              have HPY := Lib.hid (show pP so wd y k = true by unfold pP; rw [hyx, hsb]; rfl)
              clear HS
              (try clear hk0)
              (try clear hs2)
              (try clear hs1)
              go_wp2_with fail
              refine wp_region_held_drew (S := fun w' => w'.cell? ⟨g, k, none⟩ = some (.string ⟨y.toArray⟩)) (by kernel_rfl) ?_ (fun hHeld => ?_)
              · (try dsimp only)
                (first | exact hc | exact HCN.out)
              refine take_at 0 42 ol13_0 (v := ?_) (Or.inl ⟨by rfl, ?_⟩) ?_
              rotate_left 1
              · ((intro w hSw; (try dsimp only at hSw); unfold ol13_0; go_simp) <;> with_reducible rfl)
              (try simp only [Act.put, List.setIfInBounds_toArray, List.set_cons_zero, List.set_cons_succ])
              refine take_at 1 43 ol13_1 (v := ?_) (Or.inl ⟨by rfl, ?_⟩) ?_
              rotate_left 1
              · ((intro w hSw; (try dsimp only at hSw); unfold ol13_1; go_simp) <;> with_reducible rfl)
              (try simp only [Act.put, List.setIfInBounds_toArray, List.set_cons_zero, List.set_cons_succ])
              refine take_at 2 44 ol13_2 (v := ?_) (Or.inl ⟨by rfl, ?_⟩) ?_
              rotate_left 1
              · ((intro w hSw; (try dsimp only at hSw); unfold ol13_2; go_simp) <;> with_reducible rfl)
              (try simp only [Act.put, List.setIfInBounds_toArray, List.set_cons_zero, List.set_cons_succ])
              refine take_at 3 45 ol13_3 (v := ?_) (Or.inl ⟨by rfl, ?_⟩) ?_
              rotate_left 1
              · ((intro w hSw; (try dsimp only at hSw); unfold ol13_3; go_simp) <;> with_reducible rfl)
              (try simp only [Act.put, List.setIfInBounds_toArray, List.set_cons_zero, List.set_cons_succ])
              refine take_at 4 46 ol13_4 (v := ?_) (Or.inl ⟨by rfl, ?_⟩) ?_
              rotate_left 1
              · ((intro w hSw; (try dsimp only at hSw); unfold ol13_4; go_simp) <;> with_reducible rfl)
              (try simp only [Act.put, List.setIfInBounds_toArray, List.set_cons_zero, List.set_cons_succ])
              refine wpAnyH_ready (rs := [5]) (by kernel_rfl) (by simp) ?_
              refine AllReadyH.cons (o := ol13_5) rfl (fun K hK => ?_) ?_
              · unfold ol13_5
                go_simp
                (go_at_call 43; with_reducible refine Calls.mono HWD.out ?_)
                rintro e wn ⟨rfl, hs2, hg2⟩
                rw [hwd]
                have HSN := Lib.hid hs2
                have HGN := Lib.hid ((HG.out.trans (drew_gr wr)).trans hg2)
                have HCN := Lib.hid (cell_gr ((drew_gr wr).trans hg2) hc)
                have HRN := Lib.hid (HR.out.same ((drew_gr wr).trans hg2))
                clear hs2 hg2
                refine hK.out _ _ ?_ (fun hHeld => ?_)
                · (try dsimp only)
                  (first | exact hc | exact HCN.out)
                clear hK K
                (try simp only [Act.put, List.setIfInBounds_toArray, List.set_cons_zero, List.set_cons_succ])
                refine take_at 6 48 ol13_6 (v := ?_) (Or.inl ⟨by rfl, ?_⟩) ?_
                rotate_left 1
                · ((intro w hSw; (try dsimp only at hSw); unfold ol13_6; go_simp) <;> with_reducible rfl)
                (try simp only [Act.put, List.setIfInBounds_toArray, List.set_cons_zero, List.set_cons_succ])
                refine take_at 7 49 ol13_7 (v := ?_) (Or.inl ⟨by rfl, ?_⟩) ?_
                rotate_left 1
                · ((intro w hSw; (try dsimp only at hSw); unfold ol13_7; go_simp) <;> with_reducible rfl)
                (try simp only [Act.put, List.setIfInBounds_toArray, List.set_cons_zero, List.set_cons_succ])
                refine take_at 8 50 ol13_8 (v := ?_) (Or.inl ⟨by rfl, ?_⟩) ?_
                rotate_left 1
                · ((intro w hSw; (try dsimp only at hSw); unfold ol13_8; go_simp) <;> with_reducible rfl)
                (try simp only [Act.put, List.setIfInBounds_toArray, List.set_cons_zero, List.set_cons_succ])
                refine take_at 9 51 ol13_9 (v := ?_) (Or.inl ⟨by rfl, ?_⟩) ?_
                rotate_left 1
                · ((intro w hSw; (try dsimp only at hSw); unfold ol13_9; go_simp) <;> with_reducible rfl)
                (try simp only [Act.put, List.setIfInBounds_toArray, List.set_cons_zero, List.set_cons_succ])
                refine take_at 10 52 ol13_10 (v := ?_) (Or.inl ⟨by rfl, ?_⟩) ?_
                rotate_left 1
                · ((intro w hSw; (try dsimp only at hSw); unfold ol13_10; go_simp) <;> with_reducible rfl)
                (try simp only [Act.put, List.setIfInBounds_toArray, List.set_cons_zero, List.set_cons_succ])
                refine wpAnyH_done (by kernel_rfl) ?_ _
                clear hHeld
                go_wp2
                go_ret
                exact ⟨by rw [HX.out]; exact congrArg (fun z => Ending.returned (.int .i64 z)) (listW_plain HN1.out (HNO.out.found HD.out HPY.out)).symm, HSN.out, HGN.out⟩
              exact AllReadyH.nil

        · obtain rfl : k = 11 := by omega
          have HN2 := Lib.hid (HNO.out.none (Nat.le_refl _))
          go_wp2
          go_ret
          exact ⟨by rw [HX.out]; exact congrArg (fun z => Ending.returned (.int .i64 z)) (listW_none HN1.out HN2.out).symm, HS.out, HG.out⟩

end Go.Proofs.YtpekceadjcbphaaDoor.Rt

namespace Go.Proofs.YtpekceadjcbphaaDoor
open Go.RowKit

/-- Five cells of one block are written. -/
abbrev five (w : World) (g : Nat) (v0 v1 v2 v3 v4 : Value) : World := ((((w.setCell ⟨g, 0, none⟩ v0).setCell ⟨g, 1, none⟩ v1).setCell ⟨g, 2, none⟩ v2).setCell ⟨g, 3, none⟩ v3).setCell ⟨g, 4, none⟩ v4
theorem five_other (w : World) (g : Nat) (v0 v1 v2 v3 v4 : Value) {b : Nat} (h : b ≠ g) : (five w g v0 v1 v2 v3 v4).heap[b]? = w.heap[b]? := by
  unfold five; repeat rw [Below.heap_setCell _ _ _ _ (by exact h)]
theorem liesP_fives {B N g : Nat} {w : World} {l : List Tm} {s : Value} (h : LiesP w (Own B w) l s) (hg : g < B) (hN : N ≤ B) (v0 v1 v2 v3 v4 : Value) : LiesP (five w g v0 v1 v2 v3 v4) (Own N (five w g v0 v1 v2 v3 v4)) l s :=
  h.keep (fun b hp _ => five_other w g v0 v1 v2 v3 v4 (by have := hp.1; omega)) (fun b hp _ => (hp.from hN).same (five_other w g v0 v1 v2 v3 v4 (by have := hp.1; omega)))
theorem one5 (t : Tm) (s : Value) (hs : s.oneCell' = true := by rfl) : ∀ v ∈ cells5 [(t, s)], v.oneCell' = true := by
  intro v hv; simp [cells5] at hv; rcases hv with rfl | rfl | rfl | rfl | rfl
  · rfl
  · rfl
  · rfl
  · rfl
  · exact hs
/-- What a call hands back that makes a term, or the zero term and false. -/
def GivesZ (r : Option Tm) (w : World) (e : Ending) (w' : World) : Prop := Below w.heap.size w w' ∧
  ((∃ u s', r = some u ∧ e = .returned (.tuple #[tv u s', .bool true]) ∧ LiesP w' (Own w.heap.size w') u.kids s') ∨ (r = none ∧ e = .returned (.tuple #[tv Tm.zero (.slice none 0 0), .bool false])))
theorem GivesZ.none {w w' : World} {e : Ending} (h : GivesZ none w e w') : e = .returned (.tuple #[tv Tm.zero (.slice none 0 0), .bool false]) ∧ Below w.heap.size w w' := by
  obtain ⟨hb, ⟨u, s', h1, -⟩ | ⟨-, h2⟩⟩ := h
  · cases h1
  · exact ⟨h2, hb⟩
theorem GivesZ.some {u : Tm} {w w' : World} {e : Ending} (h : GivesZ (some u) w e w') : GivesSome u w e w' := by
  obtain ⟨hb, ⟨u', s', h1, h2, h3⟩ | ⟨h1, -⟩⟩ := h
  · cases h1; exact ⟨⟨s', h2, h3⟩, hb⟩
  · cases h1
end Go.Proofs.YtpekceadjcbphaaDoor
