/-
  Facts and contracts that the proof of SigExact uses.
-/
import Derived.Lib.ItoaNum
import Derived.Lib.ItoaLen
import Derived.Test.YtpekceadjcbphaaDoorRows
import Derived.WalkKit
import Derived.Lib.Hide
import Derived.ProofKit
import Derived.LoopTactic
import Derived.Below
import Derived.IntWalk
import Derived.Lib.Strings
import Derived.Laws.Strings2
import Derived.Deep.AppendLies
import Derived.Laws.Rows
import Derived.OwnWalk
import Derived.KernelRfl
import Derived.Deep.RegionHeld3
import Derived.Lib.Builder
import Derived.WalkSmall
import Derived.Maps.GroupsBeside
import Derived.Maps.StringElems
import Derived.Laws.OwnMore
import Derived.Deep.RegionLaw
import Derived.Maps.AppendAt
import Derived.Deep.Cut
import Derived.Deep.DeepCutAuto
import Derived.Maps.OwnOps
import Derived.Maps.OwnSet
import Derived.Lib.MinMax
import Derived.Laws.IdiomCopy
import Derived.Deep.Slices
import Derived.Lib.QuietBelow
import Derived.StillTailTactics
import Derived.BigQuiet
import Derived.Deep.RegionWith
import Derived.OrdersHeld
import Derived.Recover
import Derived.RegionTactic
import Derived.Defers
import Derived.Laws.StructEq
import GoSem.Core.Float
import Derived.Laws.Cover2
import Derived.Laws.FloatArith
import Derived.Laws.Externs
import Derived.Deep.QuietTactic
import Derived.Deep.CutBlock
import Derived.Deep.LoopGhost
import Derived.Test.YtpekceadjcbphaaDoorShelf
import Derived.Lib.AppendIntMem
import Derived.Lib.LaidTab
import Derived.OpenShut
import Derived.Carry
import Derived.LaidMore
import Derived.LaidSub
import Derived.LaidHandle
import Derived.Stop.Joined
import Derived.JoinedOf
import Derived.Test.YtpekceadjcbphaaDoorCards
import Derived.Test.YtpekceadjcbphaaDoorTie
import Derived.SevenTiedAt
import Derived.ChangeMaps5
import Derived.Test.YtpekceadjcbphaaDoorSigExactQ6
namespace Go.Proofs.YtpekceadjcbphaaDoor

def Lk (a b : List Tok) : Prop := a.map (fun t => (t.k, t.s)) = b.map (fun t => (t.k, t.s))
theorem Lk.nil {b : List Tok} (h : Lk [] b) : b = [] := by unfold Lk at h; simpa using h.symm
theorem Lk.cons {t : Tok} {r b : List Tok} (h : Lk (t :: r) b) : ∃ t1 r1, b = t1 :: r1 ∧ t1.k = t.k ∧ t1.s = t.s ∧ Lk r r1 := by
  cases b with
  | nil => unfold Lk at h; simp at h
  | cons t1 r1 =>
    unfold Lk at h
    simp only [List.map_cons, List.cons.injEq, Prod.mk.injEq] at h
    exact ⟨t1, r1, rfl, h.1.1.symm, h.1.2.symm, h.2⟩
def Fol {α : Type} (p p' : List Tok → Except Nat (α × List Tok)) : Prop := ∀ ts v r ts1 x, p ts = .ok (v, r) → Lk ts ts1 → ∃ r1, p' (ts1 ++ x) = .ok (v, r1 ++ x) ∧ Lk r r1
theorem take_fol {E E' k : Nat} {ts r ts1 : List Tok} {t : Tok} (x : List Tok) (h : takeT E k ts = .ok (t, r)) (hl : Lk ts ts1) : ∃ t1 r1, takeT E' k (ts1 ++ x) = .ok (t1, r1 ++ x) ∧ t1.s = t.s ∧ Lk r r1 := by
  obtain ⟨rfl, hk⟩ := takeT_eq h
  obtain ⟨t1, r1, rfl, e1, e2, e3⟩ := hl.cons
  refine ⟨t1, r1, ?_, e2, e3⟩
  show takeT E' k (t1 :: (r1 ++ x)) = _
  unfold takeT
  dsimp only
  rw [if_pos (e1.trans hk)]
theorem numQ_fol {E E' : Nat} {lv lv' : List Tok → Except Nat (Int × List Tok)} (hlv : Fol lv lv') : Fol (numQ lv E) (numQ lv' E') := by
  intro ts v r ts1 x h hl
  unfold numQ at h
  split at h; · cases h
  rename_i w r2 h2
  obtain ⟨w1, q2, e2, s2, l2⟩ := take_fol (E' := E') x h2 hl
  unfold numQ
  rw [e2]
  dsimp only
  rw [s2]
  split at h
  · rename_i hs
    rw [if_pos hs]
    split at h; · cases h
    rename_i n r3 h3
    obtain ⟨q3, e3, l3⟩ := hlv _ _ _ _ x h3 l2
    rw [e3]
    dsimp only
    split at h; · cases h
    rename_i h4
    obtain ⟨w4, q4, e4, s4, l4⟩ := take_fol (E' := E') x h4 l3
    rw [e4]
    cases h
    exact ⟨q4, rfl, l4⟩
  · rename_i hs
    rw [if_neg hs]
    split at h
    · rename_i hs2
      rw [if_pos hs2]
      split at h; · cases h
      rename_i n r3 h3
      obtain ⟨q3, e3, l3⟩ := hlv _ _ _ _ x h3 l2
      rw [e3]
      dsimp only
      split at h; · cases h
      rename_i n2 r4 h4
      obtain ⟨q4, e4, l4⟩ := hlv _ _ _ _ x h4 l3
      rw [e4]
      dsimp only
      split at h; · cases h
      rename_i h5
      obtain ⟨w5, q5, e5, s5, l5⟩ := take_fol (E' := E') x h5 l4
      rw [e5]
      cases h
      exact ⟨q5, rfl, l5⟩
    · cases h
theorem numP_fol {E E' : Nat} {i j : Int} {lv lv' : List Tok → Except Nat (Int × List Tok)} (hlv : Fol lv lv') : Fol (numP lv E i j) (numP lv' E' i j) := by
  intro ts v r ts1 x h hl
  cases ts with
  | nil => cases h
  | cons t r0 =>
    obtain ⟨t1, r1, rfl, e1, e2, e3⟩ := hl.cons
    unfold numP at h
    show ∃ q, numP lv' E' i j (t1 :: (r1 ++ x)) = _ ∧ _
    unfold numP
    dsimp only at h ⊢
    rw [e1, e2]
    split at h
    · rename_i c1
      rw [if_pos c1]
      cases h
      exact ⟨r1, rfl, e3⟩
    · rename_i c1
      rw [if_neg c1]
      split at h
      · rename_i c2
        rw [if_pos c2]
        split at h
        · rename_i c3
          rw [if_pos c3]
          cases h
          exact ⟨r1, rfl, e3⟩
        · rename_i c3
          rw [if_neg c3]
          split at h
          · rename_i c4
            rw [if_pos c4]
            cases h
            exact ⟨r1, rfl, e3⟩
          · cases h
      · rename_i c2
        rw [if_neg c2]
        split at h
        · rename_i c3
          rw [if_pos c3]
          exact numQ_fol hlv _ _ _ _ x h e3
        · cases h
theorem levelP_fol {E E' : Nat} {i j : Int} : ∀ {f f' : Nat}, f ≤ f' → Fol (levelP E i j f) (levelP E' i j f')
  | 0, f', _ => fun ts v r ts1 x h hl => by cases h
  | f + 1, 0, hf => by omega
  | f + 1, f' + 1, hf => fun ts v r ts1 x h hl => by
    unfold levelP at h
    split at h; · cases h
    rename_i n q hn
    split at h; · cases h
    rename_i hle
    obtain ⟨q1, e1, l1⟩ := numP_fol (E' := E') (levelP_fol (E' := E') (i := i) (j := j) (show f ≤ f' by omega)) _ _ _ _ x hn hl
    unfold levelP
    rw [e1]
    dsimp only
    rw [if_neg hle]
    cases h
    exact ⟨q1, rfl, l1⟩
def FolT (tp tp' : Int → Names → List Tok → Except Nat (Tm × List Tok)) : Prop := ∀ s N, Fol (tp s N) (tp' s N)
theorem kidsP_fol {tp tp' : Int → Names → List Tok → Except Nat (Tm × List Tok)} (htp : FolT tp tp') {k own : Int} {y : List UInt8} : ∀ {c p : Nat} {N : Names}, Fol (kidsP tp k own y p c N) (kidsP tp' k own y p c N)
  | 0, p, N => fun ts v r ts1 x h hl => by unfold kidsP at h; cases h; exact ⟨ts1, rfl, hl⟩
  | c + 1, p, N => fun ts v r ts1 x h hl => by
    unfold kidsP at h
    split at h; · cases h
    rename_i t r1 h1
    obtain ⟨q1, e1, l1⟩ := htp _ _ _ _ _ _ x h1 hl
    split at h; · cases h
    rename_i l r2 h2
    obtain ⟨q2, e2, l2⟩ := kidsP_fol htp (c := c) _ _ _ _ x h2 l1
    unfold kidsP
    rw [e1]
    dsimp only
    rw [e2]
    cases h
    exact ⟨q2, rfl, l2⟩
theorem kidsK_fol {E E' : Nat} {tp tp' : Int → Names → List Tok → Except Nat (Tm × List Tok)} (htp : FolT tp tp') {k n own : Int} {N : Names} : Fol (kidsK tp E k n own N) (kidsK tp' E' k n own N) := by
  intro ts v r ts1 x h hl
  unfold kidsK at h ⊢
  split at h
  · rename_i c1
    rw [if_pos c1]
    cases h
    exact ⟨ts1, rfl, hl⟩
  · rename_i c1
    rw [if_neg c1]
    split at h
    · rename_i c2
      rw [if_pos c2]
      split at h; · cases h
      rename_i w q hw
      obtain ⟨w1, q1, e1, s1, l1⟩ := take_fol (E' := E') x hw hl
      rw [e1]
      dsimp only
      rw [s1]
      exact kidsP_fol htp _ _ _ _ x h l1
    · rename_i c2
      rw [if_neg c2]
      exact kidsP_fol htp _ _ _ _ x h hl
theorem kidsJ_fol {E E' : Nat} {tp tp' : Int → Names → List Tok → Except Nat (Tm × List Tok)} (htp : FolT tp tp') {N : Names} : Fol (kidsJ tp E N) (kidsJ tp' E' N) := by
  intro ts v r ts1 x h hl
  unfold kidsJ at h
  split at h; · cases h
  rename_i h1
  obtain ⟨q1, e1, l1⟩ := htp _ _ _ _ _ _ x h1 hl
  split at h; · cases h
  rename_i h2
  obtain ⟨q2, e2, l2⟩ := htp _ _ _ _ _ _ x h2 l1
  split at h; · cases h
  rename_i h3
  obtain ⟨w3, q3, e3, s3, l3⟩ := take_fol (E' := E') x h3 l2
  split at h; · cases h
  rename_i h4
  obtain ⟨w4, q4, e4, s4, l4⟩ := take_fol (E' := E') x h4 l3
  split at h; · cases h
  rename_i h5
  obtain ⟨q5, e5, l5⟩ := htp _ _ _ _ _ _ x h5 l4
  split at h; · cases h
  rename_i h6
  obtain ⟨q6, e6, l6⟩ := htp _ _ _ _ _ _ x h6 l5
  split at h; · cases h
  rename_i h7
  obtain ⟨q7, e7, l7⟩ := htp _ _ _ _ _ _ x h7 l6
  split at h; · cases h
  rename_i h8
  obtain ⟨q8, e8, l8⟩ := htp _ _ _ _ _ _ x h8 l7
  cases h
  unfold kidsJ
  rw [e1]; dsimp only; rw [e2]; dsimp only; rw [e3]; dsimp only; rw [e4]; dsimp only; rw [s3, s4, e5]; dsimp only; rw [e6]; dsimp only; rw [e7]; dsimp only; rw [e8]
  exact ⟨q8, rfl, l8⟩
theorem symP_fol {E E' : Nat} {k : Int} : Fol (symP E k) (symP E' k) := by
  intro ts v r ts1 x h hl
  unfold symP at h ⊢
  split at h
  · rename_i c1
    rw [if_pos c1]
    split at h; · cases h
    rename_i w q hw
    obtain ⟨w1, q1, e1, s1, l1⟩ := take_fol (E' := E') x hw hl
    rw [e1]
    dsimp only
    rw [s1]
    split at h; · cases h
    rename_i c2
    rw [if_neg c2]
    cases h
    exact ⟨q1, rfl, l1⟩
  · rename_i c1
    rw [if_neg c1]
    cases h
    exact ⟨ts1, rfl, hl⟩
theorem lv_fol {lv lv' : List Tok → Except Nat (Int × List Tok)} (hlv : Fol lv lv') (c : Prop) [Decidable c] : Fol (fun ts => if c then lv ts else .ok ((0 : Int), ts)) (fun ts => if c then lv' ts else .ok ((0 : Int), ts)) := by
  intro ts v r ts1 x h hl
  dsimp only at h ⊢
  split at h
  · rename_i c1
    rw [if_pos c1]
    exact hlv _ _ _ _ x h hl
  · rename_i c1
    rw [if_neg c1]
    cases h
    exact ⟨ts1, rfl, hl⟩
theorem bodyP_fol {E E' : Nat} {lv lv' : List Tok → Except Nat (Int × List Tok)} (hlv : Fol lv lv') {tp tp' : Int → Names → List Tok → Except Nat (Tm × List Tok)} (htp : FolT tp tp') {k : Int} {N : Names} : Fol (bodyP lv tp E k N) (bodyP lv' tp' E' k N) := by
  intro ts v r ts1 x h hl
  unfold bodyP at h
  split at h; · cases h
  rename_i n r1 h1
  obtain ⟨q1, e1, l1⟩ := symP_fol (E' := E') _ _ _ _ x h1 hl
  split at h; · cases h
  rename_i i r2 h2
  obtain ⟨q2, e2, l2⟩ := lv_fol hlv (0 < levelsN k) _ _ _ _ x h2 l1
  split at h; · cases h
  rename_i j r3 h3
  obtain ⟨q3, e3, l3⟩ := lv_fol hlv (1 < levelsN k) _ _ _ _ x h3 l2
  split at h; · cases h
  rename_i l r4 h4
  have g4 : ∃ q4, kdsP tp' E' k n N (q3 ++ x) = .ok (l, q4 ++ x) ∧ Lk r4 q4 := by
    unfold kdsP at h4 ⊢
    split at h4
    · rename_i c1
      rw [if_pos c1]
      exact kidsJ_fol htp _ _ _ _ x h4 l3
    · rename_i c1
      rw [if_neg c1]
      exact kidsK_fol htp _ _ _ _ x h4 l3
  obtain ⟨q4, e4, l4⟩ := g4
  split at h; · cases h
  rename_i h5
  obtain ⟨w5, q5, e5, s5, l5⟩ := take_fol (E' := E') x h5 l4
  have e2' : lvaP lv' k (q1 ++ x) = .ok (i, q2 ++ x) := e2
  have e3' : lvbP lv' k (q2 ++ x) = .ok (j, q3 ++ x) := e3
  unfold bodyP
  rw [e1]; dsimp only; rw [e2']; dsimp only; rw [e3']; dsimp only; rw [e4]; dsimp only; rw [e5]
  cases h
  exact ⟨q5, rfl, l5⟩
/-- What is read stays read: other offsets, another end, more to come, more fuel. -/
theorem termP_fol {E E' : Nat} {i j : Int} : ∀ {f f' : Nat}, f ≤ f' → FolT (termP E i j f) (termP E' i j f')
  | 0, f', _ => fun s N ts v r ts1 x h hl => by cases h
  | f + 1, 0, hf => by omega
  | f + 1, f' + 1, hf => fun s N ts v r ts1 x h hl => by
    cases ts with
    | nil => cases h
    | cons t r0 =>
      obtain ⟨t1, r1, rfl, e1, e2, e3⟩ := hl.cons
      unfold termP at h
      show ∃ q, termP E' i j (f' + 1) s N (t1 :: (r1 ++ x)) = _ ∧ _
      unfold termP
      rw [e1, e2]
      split at h
      · rename_i c1
        rw [if_pos c1]
        unfold listP at h ⊢
        split at h; · cases h
        rename_i w q hw
        obtain ⟨w1, q1, g1, s1, l1⟩ := take_fol (E' := E') x hw e3
        rw [g1]
        dsimp only
        rw [s1]
        split at h; · cases h
        rename_i c2
        rw [if_neg c2]
        exact bodyP_fol (levelP_fol (E' := E') (by omega)) (termP_fol (E' := E') (by omega)) _ _ _ _ x h l1
      · rename_i c1
        rw [if_neg c1]
        split at h
        · rename_i c2
          rw [if_pos c2]
          split at h; · cases h
          rename_i p hp
          (try rw [hp])
          cases h
          exact ⟨r1, rfl, e3⟩
        · cases h
end Go.Proofs.YtpekceadjcbphaaDoor

namespace Go.Proofs.YtpekceadjcbphaaDoor.Rt
open Go.RowKit
open Dv (XS kindAt wordAt placeAt wantX rrO rrX badV PTok hltD typeD)

/-- The kids, some of them read. -/
structure KI (tx : TX) (L : List Tok) (k : Int) (N : Names) (n0 : Nat) (x0 : Names) (q0 : XS) (l : List Tm) (x : Names) (p m : Nat) (q : XS) : Prop where
  eq : kidsX tx L k (ownS k) x0 0 n0 N q0 = (l ++ (kidsX tx L k (ownS k) x p m N q).1, (kidsX tx L k (ownS k) x p m N q).2)
theorem KI.start (tx : TX) (L : List Tok) (k : Int) (N : Names) (n0 : Nat) (x0 : Names) (q0 : XS) : KI tx L k N n0 x0 q0 [] x0 0 n0 q0 := ⟨by simp⟩
theorem KI.step {tx : TX} {L : List Tok} {k : Int} {N : Names} {n0 p m : Nat} {x0 x xa : Names} {q0 q qa s1 : XS} {l : List Tm} {so : Int} {Na : Names} {t1 : Tm} (h : KI tx L k N n0 x0 q0 l x p (m + 1) q)
    (hq : (if k = 22 ∧ p = 2 then (wantX L 3 (wantX L 3 q).2).2 else q) = qa) (hx : (if k = 22 ∧ p = 2 then [(wantX L 3 (wantX L 3 q).2).1, (wantX L 3 q).1] else x) = xa) (hs : (if k = 12 ∧ p = 2 then 2 else ownS k) = so) (hN : (if bindsN k p = 0 then N else xa ++ N) = Na) (ht : tx so Na qa = (t1, s1)) : KI tx L k N n0 x0 q0 (l ++ [t1]) xa (p + 1) m s1 := ⟨by
  rw [h.eq]
  have e : kidsX tx L k (ownS k) x p (m + 1) N q = (t1 :: (kidsX tx L k (ownS k) xa (p + 1) m N s1).1, (kidsX tx L k (ownS k) xa (p + 1) m N s1).2) := by
    rw [kidsX]
    rw [hq, hx, hs, hN, ht]
  rw [e]
  simp⟩
theorem KI.done {tx : TX} {L : List Tok} {k : Int} {N : Names} {n0 p : Nat} {x0 x : Names} {q0 q : XS} {l : List Tm} (h : KI tx L k N n0 x0 q0 l x p 0 q) : kidsX tx L k (ownS k) x0 0 n0 N q0 = (l, q) := by rw [h.eq]; simp [kidsX]
/-- The names that are pushed. -/
def XV (k : Int) (w : World) (v : Value) (x : Names) : Prop := bindsN k 1 = 1 → NR w v x ∧ x.length = 1
theorem XV.fw {c : PR} {k : Int} {w w' : World} {v nv : Value} {x : Names} {s : XS} (h : XV k w v x) (hs : RS c nv s w) (hg : Fw c w w') : XV k w' v x := fun e => ⟨(h e).1.fw hs hg, (h e).2⟩
theorem XV.same {k : Int} {w w' : World} {v : Value} {x : Names} (h : XV k w v x) (hg : w.grownBy w' none) : XV k w' v x := fun e => ⟨(h e).1.same hg, (h e).2⟩
theorem XV.row {k : Int} {w w' : World} {v : Value} {x : Names} {row : Option Nat} (h : XV k w v x) (hg : w.grownBy w' row) (hT : ∀ b, row = some b → ∃ cs fz, w.heap[b]? = some (Obj.cells cs 26 fz)) : XV k w' v x := fun e => ⟨(h e).1.other hg hT, (h e).2⟩
theorem xv_22 {k : Int} (h : k = 22) {w : World} {v : Value} {x : Names} : XV k w v x := fun e => by subst h; exact absurd e (by decide)
theorem own_fw {c : PR} {w w' : World} {B : Nat} (hR : c.R < B) (h : Fw c w w') {b : Nat} (ho : Own B w b) : w'.heap[b]? = w.heap[b]? := h.block b ho.lt (fun e => by have := Option.some.inj e; have := ho.1; omega)
theorem liesP_fw {c : PR} {w w' : World} {B : Nat} (hR : c.R < B) {l : List Tm} {s : Value} (h : LiesP w (Own B w) l s) (hf : Fw c w w') : LiesP w' (Own B w') l s := h.keep (fun _ hb _ => own_fw hR hf hb) (fun _ hb _ => hb.same (own_fw hR hf hb))
theorem made_fw {c : PR} {w w' : World} {B : Nat} (hR : c.R < B) {v : Value} {ps : List (Tm × Value)} (h : Made B w v ps) (hf : Fw c w w') : Made B w' v ps := by
  refine ⟨?_, h.fine, fun p hp => (h.kids p hp).keep (fun b hb _ => own_fw hR hf hb.1) (fun b hb _ => ⟨hb.1.same (own_fw hR hf hb.1), hb.2⟩)⟩
  obtain ⟨h1, h2⟩ := h.own
  refine ⟨h1, ?_⟩
  rcases h2 with h2 | ⟨g, cap, cur, hv, hg, hh, r⟩
  · exact Or.inl h2
  · exact Or.inr ⟨g, cap, cur, hv, hg, (hf.block g (hltD hh) (fun e => by have := Option.some.inj e; omega)).trans hh, r⟩
theorem made_rowT {B : Nat} {w : World} {v : Value} {ps : List (Tm × Value)} (h : Made B w v ps) : ∀ b, v.ownBlock = some b → B ≤ b ∧ ∃ cs fz, w.heap[b]? = some (Obj.cells cs 26 fz) := by
  intro b hb
  rcases h.own.2 with ⟨rfl, -⟩ | ⟨g, cap, cur, rfl, hg, hh, -⟩
  · simp [Value.ownBlock] at hb
  · simp [Value.ownBlock] at hb
    subst hb
    exact ⟨hg, cur, _, hh⟩
theorem made_push_fw {c : PR} {B : Nat} (hR : c.R < B) {wr wn w3 : World} {v : Value} {ps : List (Tm × Value)} {t : Tm} {s : Value} {g cap : Nat} (h : Made B wr v ps) (hB : B ≤ wr.heap.size) (hf : Fw c wr wn) (ht : t.fine) (hk : LiesP wn (Own wr.heap.size wn) t.kids s) (o : Obj)
    (hown : w3.ownsRow B 26 5 (.slice (some ⟨g, 0, none⟩) (ps.length + 1) cap) (ps.length + 1) (cells5 ps ++ cells5 [(t, s)])) (hgrow : (wn.alloc o).grownBy w3 v.ownBlock) (hat : v.ownBlock = some g ∨ g = wn.heap.size + 1) :
    Made B w3 (.slice (some ⟨g, 0, none⟩) (ps.length + 1) cap) (ps ++ [(t, s)]) :=
  made_step (made_later (made_fw hR h hf) ((Below.refl _ _).alloc (Nat.le_refl _) _)) ht
    (hk.keep (fun b _ hlt => Below.heap_alloc _ _ _ hlt) (fun b hb hlt => ⟨(hb.same (Below.heap_alloc _ _ _ hlt)).from hB, made_block h hb.1⟩)) hown hgrow (by simpa using hat)
theorem kidsN_few (k n : Int) : kidsN k n ≤ 100 := by
  unfold kidsN givenN
  (repeat' split) <;> omega
theorem ownS_is (k : Int) : ownS k = 1 ∨ ownS k = 2 := by unfold ownS; split <;> simp
theorem tm_fine {k i j n : Int} {l : List Tm} (hk : -1000 ≤ k ∧ k ≤ 1000) (hi : -1000 ≤ i ∧ i ≤ 1000000000) (hj : -1000 ≤ j ∧ j ≤ 1000000000) (hn : -1000 ≤ n ∧ n ≤ 1000) : (Tm.mk k i j n l).fine := by
  simp only [Tm.fine, I64, Tm.k, Tm.i, Tm.j, Tm.n]
  omega
theorem symN_few (x : List UInt8) : 0 ≤ symN x ∧ symN x ≤ 21 := by
  unfold symN
  cases h : idxL x symsW with
  | none => exact ⟨Int.le_refl 0, by decide⟩
  | some q =>
    have := idxL_lt h
    have h2 : symsW.length = 21 := rfl
    dsimp only
    omega
/-- Behind the names. -/
def endsX (tx : TX) (L : List Tok) (k i j n : Int) (N x0 : Names) (q : XS) : Tm × XS := (.mk k i j n (kidsX tx L k (ownS k) x0 0 (kidsN k n).toNat N q).1, (wantX L 2 (kidsX tx L k (ownS k) x0 0 (kidsN k n).toNat N q).2).2)
theorem tailX_one {tx : TX} {L : List Tok} {k i j n : Int} {N : Names} {q : XS} (h : bindsN k 1 = 1) : tailX tx L k i j n N q = endsX tx L k i j n N [(wantX L 3 q).1] (wantX L 3 q).2 := by unfold tailX endsX; simp only [if_pos h]
theorem tailX_none {tx : TX} {L : List Tok} {k i j n : Int} {N : Names} {q : XS} (h : ¬ bindsN k 1 = 1) : tailX tx L k i j n N q = endsX tx L k i j n N [] q := by unfold tailX endsX; simp only [if_neg h]
theorem nr_lit (w : World) (x : List UInt8) : NR (w.alloc (.cells #[.string ⟨x.toArray⟩] 9)) (.slice (some ⟨w.heap.size, 0, none⟩) 1 1) [x] := Or.inr ⟨_, 1, _, rfl, alloc_new _ _, Nat.le_refl _, by decide, rfl, rfl⟩
theorem nr_lit2 (w : World) (x y : List UInt8) : NR (w.alloc (.cells #[.string ⟨x.toArray⟩, .string ⟨y.toArray⟩] 9)) (.slice (some ⟨w.heap.size, 0, none⟩) 2 2) [y, x] := Or.inr ⟨_, 2, _, rfl, alloc_new _ _, Nat.le_refl _, by decide, rfl, rfl⟩
end Go.Proofs.YtpekceadjcbphaaDoor.Rt

namespace Go.Proofs.YtpekceadjcbphaaDoor.Rt
open Go.RowKit
open Dv (XS kindAt wordAt placeAt wantX rrO rrX badV PTok hltD typeD)

theorem bindsN_at {k : Int} (h : k ≠ 22) {q : Nat} (hq : bindsN k q ≠ 0) : bindsN k q = 1 := by
  unfold bindsN at hq ⊢
  (repeat' split at hq) <;> (first | (exfalso; omega) | simp_all)
set_option maxHeartbeats 16000000 in
set_option maxRecDepth 20000 in
theorem rbody_any (c : PR) (f : Nat) (lx : XS → Int × XS) (tx : TX) (hLV : LevC c f lx) (hKL : KeepL c.L lx) (hTC : TermC c f tx) (hKT : KeepT c.L tx) (hlen : c.L.length ≤ 1000000) (k : Int) (hk : k = 1 ∨ (3 ≤ k ∧ k ≤ 23)) (N : Names) (nv : Value) (s : XS) (w : World) (hx : IX c.L s) (hf : c.L.length + 2 ≤ s.p + f) (hN : N.length + 2 * f + 2 ≤ 50000000) (h : RS c nv s w) (hn : NR w nv N) : Calls Tryd.prog 46 #[.pointer (some ⟨c.R, 0, none⟩), .int .i64 k] w (TermG c N w (bodyX lx tx c.L k N s)) := by
  obtain ⟨du, hu1, hu2⟩ := under_term
  obtain ⟨i0, hi0, hz0, hz1, hz2⟩ := info_parts info_term
  have HIF := Lib.hid (And.intro hi0 (And.intro hz0 (And.intro hz1 hz2)))
  clear hi0 hz0 hz1 hz2
  have HLV := Lib.hid hLV
  have HKL := Lib.hid hKL
  have HTC := Lib.hid hTC
  have HKT := Lib.hid hKT
  have HI := Lib.hid hx
  have hp := hx.p
  have HFU := Lib.hid hf
  have HNL := Lib.hid hN
  have HB0 := Lib.hid (show StandB c w (w.heap.size + 1) (.mk k 0 0 0 []) (.slice none 0 0) nv s N ((w.alloc zeroObj).alloc (.cells #[.int .i64 k, .int .i64 0, .int .i64 0, .int .i64 0, .slice none 0 0] 26)) from by
    have hb := ((Below.refl w.heap.size w).alloc (Nat.le_refl _) zeroObj).alloc (by simp) (.cells #[.int .i64 k, .int .i64 0, .int .i64 0, .int .i64 0, .slice none 0 0] 26)
    have hg := below_gr hb
    refine ⟨?_, ?_, h.same hg, hn.same hg, Fw.same (Fw.refl c w) hg, h.lt, by omega⟩
    · have := alloc_new (w.alloc zeroObj) (.cells #[.int .i64 k, .int .i64 0, .int .i64 0, .int .i64 0, .slice none 0 0] 26)
      rw [show (w.alloc zeroObj).heap.size = w.heap.size + 1 by simp] at this
      exact this
    · exact (Below.heap_alloc _ _ _ (by simp)).trans (alloc_new _ _))
  clear hLV hKL hTC hKT hx hf hN h hn
  obtain ⟨X, hX⟩ : ∃ X, bodyX lx tx c.L k N s = X := ⟨_, rfl⟩
  rw [hX]
  have HX := Lib.hid hX
  clear hX
  go_enter Tryd.func46, Tryd.ntmps46
  go_upto_if 17 with fail
  go_cut [6] (fun s6 wx => s6 = .int .i64 (ownS k) ∧ Hid (StandB c w (w.heap.size + 1) (.mk k 0 0 0 []) (.slice none 0 0) nv s N wx))
  case first =>
    by_cases h12 : 12 < k
    · have HOW := Lib.hid (show ownS k = 2 from if_neg (by omega))
      go_wp2_with fail
      go_meet
      case rel => exact ⟨by rw [HOW.out], HB0⟩
    · have HOW := Lib.hid (show ownS k = 1 from if_pos (by omega))
      go_wp2_with fail
      go_meet
      case rel => exact ⟨by rw [HOW.out], HB0⟩
  case rest =>
  obtain ⟨rfl, HB⟩ := hcut
  clear HB0
  by_cases hq : k = 23 ∧ ¬ (kindAt c.L s.p = 3 ∧ symN (wordAt c.L s.p) ≠ 0)
  case pos =>
    obtain ⟨rfl, hq⟩ := hq
    have HXX := Lib.hid (show (Tm.zero, s.fail) = X by rw [← HX.out]; unfold bodyX; rw [if_pos rfl, if_neg hq])
    clear HX
    go_wp2_with fail
    refine HB.out.st.word.mono ?_
    rintro e w1 ⟨rfl, hs, hg⟩
    have HB1 := Lib.hid (HB.out.same hg)
    clear hs hg
    obtain ⟨wd, hwd⟩ : ∃ wd, wordAt c.L s.p = wd := ⟨_, rfl⟩
    rw [hwd]
    rw [hwd] at hq
    go_wp2_with fail
    refine (psym_any wd w1).mono ?_
    rintro e w2 ⟨rfl, hb2⟩
    have HB2 := Lib.hid (HB1.out.same (below_gr hb2))
    clear hb2 HB1
    by_cases hk3 : kindAt c.L s.p = 3
    · have hk3i : ((kindAt c.L s.p : Nat) : Int) = 3 := by omega
      have hs0 : symN wd = 0 := by
        by_cases h : symN wd = 0
        · exact h
        · exact absurd ⟨hk3, h⟩ hq
      rw [hs0]
      clear hs0 hq hk3 hwd
      go_wp2_with fail
      refine HB2.out.st.kind.mono ?_
      rintro e w3 ⟨rfl, hs, hg⟩
      rw [hk3i]
      have HB3 := Lib.hid (HB2.out.same hg)
      clear hs hg
      obtain ⟨c0, c1, c2, c3, c4, c5⟩ := HB3.out.st.cells
      have f1 := HB3.out.st.free 1
      go_wp2_with fail
      refine HB3.out.st.failed.mono ?_
      rintro e w4 ⟨rfl, hs, hg⟩
      have HBZ := Lib.hid (HB3.out.keepn hs hg)
      clear hs hg
      clear c0 c1 c2 c3 c4 c5 f1
      obtain ⟨z0, z1, z2, z3, z4⟩ := five_cells HBZ.out.res
      obtain ⟨g0, g1, g2, g3, g4⟩ := five_free HBZ.out.res
      have hz := HBZ.out.res
      have HE := Lib.hid (tend_zero5 HBZ.out.res HBZ.out.st HBZ.out.nm HBZ.out.fr)
      go_wp2
      (try simp only [Exit.inBlock, Exit.then])
      refine bodyPost_ret (results_cell_row rfl _ _ w.heap.size _ _ _ du rfl (five_set hz) hu1 (by cases du <;> first | rfl | exact hu2) size_term) rfl ?_
      rw [← HXX.out]
      exact HE.out
    · have hk3i : ¬ ((kindAt c.L s.p : Nat) : Int) = 3 := by omega
      clear hq hk3 hwd
      go_wp2_with fail
      refine HB2.out.st.kind.mono ?_
      rintro e w3 ⟨rfl, hs, hg⟩
      have HB3 := Lib.hid (HB2.out.same hg)
      clear hs hg
      obtain ⟨c0, c1, c2, c3, c4, c5⟩ := HB3.out.st.cells
      have f1 := HB3.out.st.free 1
      go_wp2_with fail
      refine HB3.out.st.failed.mono ?_
      rintro e w4 ⟨rfl, hs, hg⟩
      have HBZ := Lib.hid (HB3.out.keepn hs hg)
      clear hs hg
      clear c0 c1 c2 c3 c4 c5 f1
      obtain ⟨z0, z1, z2, z3, z4⟩ := five_cells HBZ.out.res
      obtain ⟨g0, g1, g2, g3, g4⟩ := five_free HBZ.out.res
      have hz := HBZ.out.res
      have HE := Lib.hid (tend_zero5 HBZ.out.res HBZ.out.st HBZ.out.nm HBZ.out.fr)
      go_wp2
      (try simp only [Exit.inBlock, Exit.then])
      refine bodyPost_ret (results_cell_row rfl _ _ w.heap.size _ _ _ du rfl (five_set hz) hu1 (by cases du <;> first | rfl | exact hu2) size_term) rfl ?_
      rw [← HXX.out]
      exact HE.out
  go_upto_block 0 with fail
  go_cut [7] (fun s7 wx => ∃ (i j n : Int) (q : XS) (v : Value), s7 = v ∧ Hid (bodyX lx tx c.L k N s = tailX tx c.L k i j n N q) ∧ Hid ((0 ≤ i ∧ i ≤ 1000) ∧ (0 ≤ j ∧ j ≤ 1000) ∧ (0 ≤ n ∧ n ≤ 21)) ∧ Hid (IX c.L q) ∧ Hid (s.p ≤ q.p) ∧ Hid (StandB c w (w.heap.size + 1) (.mk k i j n []) (.slice none 0 0) nv q N wx))
  case first =>
    by_cases h23 : k = 23
    case pos =>
      subst h23
      replace hq : kindAt c.L s.p = 3 ∧ symN (wordAt c.L s.p) ≠ 0 := Classical.byContradiction fun e => hq ⟨rfl, e⟩
      go_wp2_with fail
      refine HB.out.st.word.mono ?_
      rintro e w1 ⟨rfl, hs, hg⟩
      have HB1 := Lib.hid (HB.out.same hg)
      clear hs hg
      obtain ⟨wd, hwd⟩ : ∃ wd, wordAt c.L s.p = wd := ⟨_, rfl⟩
      rw [hwd]
      rw [hwd] at hq
      go_wp2_with fail
      refine (psym_any wd w1).mono ?_
      rintro e w2 ⟨rfl, hb2⟩
      have HB2 := Lib.hid (HB1.out.same (below_gr hb2))
      clear hb2 HB1
      obtain ⟨hk3, hs0⟩ := hq
      have hsf := symN_few wd
      have hk3i : ((kindAt c.L s.p : Nat) : Int) = 3 := by omega
      have HSW := Lib.hid hwd
      have HK3 := Lib.hid hk3
      have HS0 := Lib.hid hs0
      obtain ⟨n, hn⟩ : ∃ n, symN wd = n := ⟨_, rfl⟩
      rw [hn] at hsf HS0
      rw [hn]
      have hnb : (n == 0) = false := by have := HS0.out; simpa using this
      have HSN := Lib.hid hn
      clear hs0 hk3 hwd hn
      go_wp2_with fail
      refine HB2.out.st.kind.mono ?_
      rintro e w3 ⟨rfl, hs, hg⟩
      rw [hk3i]
      have HB3 := Lib.hid (HB2.out.same hg)
      clear hs hg
      obtain ⟨c0, c1, c2, c3, c4, c5⟩ := HB3.out.st.cells
      have f1 := HB3.out.st.free 1
      have hst := HB3.out.st.step
      have HB4 := Lib.hid (HB3.out.keepn hst.1 hst.2)
      clear hst
      have hw1 : IntKind.i64.wrap ((s.p : Int) + 1) = (s.p : Int) + 1 := IntWalk.i64_in _ (by omega)
      go_upto_region 12 with fail
      obtain ⟨V, hV⟩ : ∃ V, V = w3.setCell ⟨c.R, 1, none⟩ (.int .i64 ((s.p : Int) + 1)) := ⟨_, rfl⟩
      rw [← hV] at HB4
      rw [← hV]
      clear hV hw1
      clear c0 c1 c2 c3 c4 c5 f1
      obtain ⟨y0, y1, y2, y3, y4⟩ := five_cells HB4.out.box
      obtain ⟨g0, g1, g2, g3, g4⟩ := five_free HB4.out.box
      have HB10 := Lib.hid (HB4.out.setn n)
      go_upto_region 13 with fail
      clear y0 y1 y2 y3 y4 g0 g1 g2 g3 g4
      obtain ⟨s0, hs0⟩ : ∃ s0, s0 = s.next := ⟨_, rfl⟩
      have HP0 := Lib.hid (show s0.p = s.p + 1 by rw [hs0]; rfl)
      have HIs0 := Lib.hid (show IX c.L s0 by rw [hs0]; exact HI.out.next (by have := HK3.out; omega))
      have HN0 := Lib.hid hs0
      rw [← hs0] at HB10
      clear hs0
      have HC1 := Lib.hid (HLV.out.use nv s0 _ HIs0.out (by have := HFU.out; have := HP0.out; omega) HB10.out.st)
      have hnn1 := HKL.out.nn s0
      have HIs1 := Lib.hid (HKL.out.keep s0 HIs0.out)
      have HUs1 := Lib.hid (HKL.out.up s0)
      obtain ⟨n1, s1, hy1⟩ : ∃ n1 s1, lx s0 = (n1, s1) := ⟨_, _, rfl⟩
      rw [hy1] at HC1 hnn1 HIs1 HUs1
      dsimp only at HC1 hnn1 HIs1 HUs1
      have HY1 := Lib.hid hy1
      clear hy1
      go_wp2_with fail
      refine HC1.out.mono ?_
      rintro e w5 ⟨rfl, hs, hg⟩
      have HB11 := Lib.hid (HB10.out.keepn hs hg)
      clear hs hg HC1
      obtain ⟨y0, y1, y2, y3, y4⟩ := five_cells HB11.out.box
      obtain ⟨g0, g1, g2, g3, g4⟩ := five_free HB11.out.box
      have HB12 := Lib.hid (HB11.out.seti n1)
      go_upto_region 14 with fail
      clear y0 y1 y2 y3 y4 g0 g1 g2 g3 g4
      have HC2 := Lib.hid (HLV.out.use nv s1 _ HIs1.out (by have := HFU.out; have := HP0.out; have := HUs1.out; omega) HB12.out.st)
      have hnn2 := HKL.out.nn s1
      have HIs2 := Lib.hid (HKL.out.keep s1 HIs1.out)
      have HUs2 := Lib.hid (HKL.out.up s1)
      obtain ⟨n2, s2, hy2⟩ : ∃ n2 s2, lx s1 = (n2, s2) := ⟨_, _, rfl⟩
      rw [hy2] at HC2 hnn2 HIs2 HUs2
      dsimp only at HC2 hnn2 HIs2 HUs2
      have HY2 := Lib.hid hy2
      clear hy2
      go_wp2_with fail
      refine HC2.out.mono ?_
      rintro e w6 ⟨rfl, hs, hg⟩
      have HB13 := Lib.hid (HB12.out.keepn hs hg)
      clear hs hg HC2
      obtain ⟨y0, y1, y2, y3, y4⟩ := five_cells HB13.out.box
      obtain ⟨g0, g1, g2, g3, g4⟩ := five_free HB13.out.box
      have HB14 := Lib.hid (HB13.out.setj n2)
      have HT := Lib.hid (show bodyX lx tx c.L 23 N s = tailX tx c.L 23 n1 n2 n N s2 by
        unfold bodyX
        rw [if_pos rfl, HSW.out, HSN.out, if_pos ⟨HK3.out, HS0.out⟩, ← HN0.out, restX_tail, if_pos (by decide : 0 < levelsN 23), HY1.out]
        dsimp only
        rw [if_pos (by decide : 1 < levelsN 23), HY2.out])
      go_wp2_with fail
      go_meet
      case rel => exact ⟨n1, n2, n, s2, _, rfl, HT, Lib.hid (by omega), HIs2, Lib.hid (by have := HUs1.out; have := HUs2.out; have := HP0.out; omega), HB14⟩
    clear hq
    by_cases h39 : k = 3 ∨ k = 4 ∨ k = 5 ∨ k = 6 ∨ k = 7 ∨ k = 8 ∨ k = 9
    case pos =>
      rcases h39 with rfl | rfl | rfl | rfl | rfl | rfl | rfl
      · have HB10 := HB
        have HIs := HI
        have HC1 := Lib.hid (HLV.out.use nv s _ HIs.out (by have := HFU.out; omega) HB10.out.st)
        have hnn1 := HKL.out.nn s
        have HIs1 := Lib.hid (HKL.out.keep s HIs.out)
        have HUs1 := Lib.hid (HKL.out.up s)
        obtain ⟨n1, s1, hy1⟩ : ∃ n1 s1, lx s = (n1, s1) := ⟨_, _, rfl⟩
        rw [hy1] at HC1 hnn1 HIs1 HUs1
        dsimp only at HC1 hnn1 HIs1 HUs1
        have HY1 := Lib.hid hy1
        clear hy1
        go_wp2_with fail
        refine HC1.out.mono ?_
        rintro e w1 ⟨rfl, hs, hg⟩
        have HB11 := Lib.hid (HB10.out.keepn hs hg)
        clear hs hg HC1
        obtain ⟨y0, y1, y2, y3, y4⟩ := five_cells HB11.out.box
        obtain ⟨g0, g1, g2, g3, g4⟩ := five_free HB11.out.box
        have HB12 := Lib.hid (HB11.out.seti n1)
        go_upto_region 23 with fail
        clear y0 y1 y2 y3 y4 g0 g1 g2 g3 g4
        have HC2 := Lib.hid (HLV.out.use nv s1 _ HIs1.out (by have := HFU.out; have := HUs1.out; omega) HB12.out.st)
        have hnn2 := HKL.out.nn s1
        have HIs2 := Lib.hid (HKL.out.keep s1 HIs1.out)
        have HUs2 := Lib.hid (HKL.out.up s1)
        obtain ⟨n2, s2, hy2⟩ : ∃ n2 s2, lx s1 = (n2, s2) := ⟨_, _, rfl⟩
        rw [hy2] at HC2 hnn2 HIs2 HUs2
        dsimp only at HC2 hnn2 HIs2 HUs2
        have HY2 := Lib.hid hy2
        clear hy2
        go_wp2_with fail
        refine HC2.out.mono ?_
        rintro e w2 ⟨rfl, hs, hg⟩
        have HB13 := Lib.hid (HB12.out.keepn hs hg)
        clear hs hg HC2
        obtain ⟨y0, y1, y2, y3, y4⟩ := five_cells HB13.out.box
        obtain ⟨g0, g1, g2, g3, g4⟩ := five_free HB13.out.box
        have HB14 := Lib.hid (HB13.out.setj n2)
        have HT := Lib.hid (show bodyX lx tx c.L 3 N s = tailX tx c.L 3 n1 n2 0 N s2 by unfold bodyX; rw [if_neg (by decide), restX_tail]; rw [if_pos (by decide : 0 < levelsN 3), HY1.out]; dsimp only; rw [if_pos (by decide : 1 < levelsN 3), HY2.out])
        go_wp2_with fail
        go_meet
        case rel => exact ⟨n1, n2, 0, s2, _, rfl, HT, Lib.hid (by omega), HIs2, Lib.hid (by have := HUs1.out; have := HUs2.out; omega), HB14⟩

      · have HB10 := HB
        have HIs := HI
        have HC1 := Lib.hid (HLV.out.use nv s _ HIs.out (by have := HFU.out; omega) HB10.out.st)
        have hnn1 := HKL.out.nn s
        have HIs1 := Lib.hid (HKL.out.keep s HIs.out)
        have HUs1 := Lib.hid (HKL.out.up s)
        obtain ⟨n1, s1, hy1⟩ : ∃ n1 s1, lx s = (n1, s1) := ⟨_, _, rfl⟩
        rw [hy1] at HC1 hnn1 HIs1 HUs1
        dsimp only at HC1 hnn1 HIs1 HUs1
        have HY1 := Lib.hid hy1
        clear hy1
        go_wp2_with fail
        refine HC1.out.mono ?_
        rintro e w1 ⟨rfl, hs, hg⟩
        have HB11 := Lib.hid (HB10.out.keepn hs hg)
        clear hs hg HC1
        obtain ⟨y0, y1, y2, y3, y4⟩ := five_cells HB11.out.box
        obtain ⟨g0, g1, g2, g3, g4⟩ := five_free HB11.out.box
        have HB12 := Lib.hid (HB11.out.seti n1)
        go_upto_region 23 with fail
        clear y0 y1 y2 y3 y4 g0 g1 g2 g3 g4
        have HC2 := Lib.hid (HLV.out.use nv s1 _ HIs1.out (by have := HFU.out; have := HUs1.out; omega) HB12.out.st)
        have hnn2 := HKL.out.nn s1
        have HIs2 := Lib.hid (HKL.out.keep s1 HIs1.out)
        have HUs2 := Lib.hid (HKL.out.up s1)
        obtain ⟨n2, s2, hy2⟩ : ∃ n2 s2, lx s1 = (n2, s2) := ⟨_, _, rfl⟩
        rw [hy2] at HC2 hnn2 HIs2 HUs2
        dsimp only at HC2 hnn2 HIs2 HUs2
        have HY2 := Lib.hid hy2
        clear hy2
        go_wp2_with fail
        refine HC2.out.mono ?_
        rintro e w2 ⟨rfl, hs, hg⟩
        have HB13 := Lib.hid (HB12.out.keepn hs hg)
        clear hs hg HC2
        obtain ⟨y0, y1, y2, y3, y4⟩ := five_cells HB13.out.box
        obtain ⟨g0, g1, g2, g3, g4⟩ := five_free HB13.out.box
        have HB14 := Lib.hid (HB13.out.setj n2)
        have HT := Lib.hid (show bodyX lx tx c.L 4 N s = tailX tx c.L 4 n1 n2 0 N s2 by unfold bodyX; rw [if_neg (by decide), restX_tail]; rw [if_pos (by decide : 0 < levelsN 4), HY1.out]; dsimp only; rw [if_pos (by decide : 1 < levelsN 4), HY2.out])
        go_wp2_with fail
        go_meet
        case rel => exact ⟨n1, n2, 0, s2, _, rfl, HT, Lib.hid (by omega), HIs2, Lib.hid (by have := HUs1.out; have := HUs2.out; omega), HB14⟩

      · have HB10 := HB
        have HIs := HI
        have HC1 := Lib.hid (HLV.out.use nv s _ HIs.out (by have := HFU.out; omega) HB10.out.st)
        have hnn1 := HKL.out.nn s
        have HIs1 := Lib.hid (HKL.out.keep s HIs.out)
        have HUs1 := Lib.hid (HKL.out.up s)
        obtain ⟨n1, s1, hy1⟩ : ∃ n1 s1, lx s = (n1, s1) := ⟨_, _, rfl⟩
        rw [hy1] at HC1 hnn1 HIs1 HUs1
        dsimp only at HC1 hnn1 HIs1 HUs1
        have HY1 := Lib.hid hy1
        clear hy1
        go_wp2_with fail
        refine HC1.out.mono ?_
        rintro e w1 ⟨rfl, hs, hg⟩
        have HB11 := Lib.hid (HB10.out.keepn hs hg)
        clear hs hg HC1
        obtain ⟨y0, y1, y2, y3, y4⟩ := five_cells HB11.out.box
        obtain ⟨g0, g1, g2, g3, g4⟩ := five_free HB11.out.box
        have HB12 := Lib.hid (HB11.out.seti n1)
        go_upto_region 23 with fail
        clear y0 y1 y2 y3 y4 g0 g1 g2 g3 g4
        have HC2 := Lib.hid (HLV.out.use nv s1 _ HIs1.out (by have := HFU.out; have := HUs1.out; omega) HB12.out.st)
        have hnn2 := HKL.out.nn s1
        have HIs2 := Lib.hid (HKL.out.keep s1 HIs1.out)
        have HUs2 := Lib.hid (HKL.out.up s1)
        obtain ⟨n2, s2, hy2⟩ : ∃ n2 s2, lx s1 = (n2, s2) := ⟨_, _, rfl⟩
        rw [hy2] at HC2 hnn2 HIs2 HUs2
        dsimp only at HC2 hnn2 HIs2 HUs2
        have HY2 := Lib.hid hy2
        clear hy2
        go_wp2_with fail
        refine HC2.out.mono ?_
        rintro e w2 ⟨rfl, hs, hg⟩
        have HB13 := Lib.hid (HB12.out.keepn hs hg)
        clear hs hg HC2
        obtain ⟨y0, y1, y2, y3, y4⟩ := five_cells HB13.out.box
        obtain ⟨g0, g1, g2, g3, g4⟩ := five_free HB13.out.box
        have HB14 := Lib.hid (HB13.out.setj n2)
        have HT := Lib.hid (show bodyX lx tx c.L 5 N s = tailX tx c.L 5 n1 n2 0 N s2 by unfold bodyX; rw [if_neg (by decide), restX_tail]; rw [if_pos (by decide : 0 < levelsN 5), HY1.out]; dsimp only; rw [if_pos (by decide : 1 < levelsN 5), HY2.out])
        go_wp2_with fail
        go_meet
        case rel => exact ⟨n1, n2, 0, s2, _, rfl, HT, Lib.hid (by omega), HIs2, Lib.hid (by have := HUs1.out; have := HUs2.out; omega), HB14⟩

      · have HB10 := HB
        have HIs := HI
        have HC1 := Lib.hid (HLV.out.use nv s _ HIs.out (by have := HFU.out; omega) HB10.out.st)
        have hnn1 := HKL.out.nn s
        have HIs1 := Lib.hid (HKL.out.keep s HIs.out)
        have HUs1 := Lib.hid (HKL.out.up s)
        obtain ⟨n1, s1, hy1⟩ : ∃ n1 s1, lx s = (n1, s1) := ⟨_, _, rfl⟩
        rw [hy1] at HC1 hnn1 HIs1 HUs1
        dsimp only at HC1 hnn1 HIs1 HUs1
        have HY1 := Lib.hid hy1
        clear hy1
        go_wp2_with fail
        refine HC1.out.mono ?_
        rintro e w1 ⟨rfl, hs, hg⟩
        have HB11 := Lib.hid (HB10.out.keepn hs hg)
        clear hs hg HC1
        obtain ⟨y0, y1, y2, y3, y4⟩ := five_cells HB11.out.box
        obtain ⟨g0, g1, g2, g3, g4⟩ := five_free HB11.out.box
        have HB12 := Lib.hid (HB11.out.seti n1)
        go_upto_region 23 with fail
        clear y0 y1 y2 y3 y4 g0 g1 g2 g3 g4
        have HC2 := Lib.hid (HLV.out.use nv s1 _ HIs1.out (by have := HFU.out; have := HUs1.out; omega) HB12.out.st)
        have hnn2 := HKL.out.nn s1
        have HIs2 := Lib.hid (HKL.out.keep s1 HIs1.out)
        have HUs2 := Lib.hid (HKL.out.up s1)
        obtain ⟨n2, s2, hy2⟩ : ∃ n2 s2, lx s1 = (n2, s2) := ⟨_, _, rfl⟩
        rw [hy2] at HC2 hnn2 HIs2 HUs2
        dsimp only at HC2 hnn2 HIs2 HUs2
        have HY2 := Lib.hid hy2
        clear hy2
        go_wp2_with fail
        refine HC2.out.mono ?_
        rintro e w2 ⟨rfl, hs, hg⟩
        have HB13 := Lib.hid (HB12.out.keepn hs hg)
        clear hs hg HC2
        obtain ⟨y0, y1, y2, y3, y4⟩ := five_cells HB13.out.box
        obtain ⟨g0, g1, g2, g3, g4⟩ := five_free HB13.out.box
        have HB14 := Lib.hid (HB13.out.setj n2)
        have HT := Lib.hid (show bodyX lx tx c.L 6 N s = tailX tx c.L 6 n1 n2 0 N s2 by unfold bodyX; rw [if_neg (by decide), restX_tail]; rw [if_pos (by decide : 0 < levelsN 6), HY1.out]; dsimp only; rw [if_pos (by decide : 1 < levelsN 6), HY2.out])
        go_wp2_with fail
        go_meet
        case rel => exact ⟨n1, n2, 0, s2, _, rfl, HT, Lib.hid (by omega), HIs2, Lib.hid (by have := HUs1.out; have := HUs2.out; omega), HB14⟩

      · have HB10 := HB
        have HIs := HI
        have HC1 := Lib.hid (HLV.out.use nv s _ HIs.out (by have := HFU.out; omega) HB10.out.st)
        have hnn1 := HKL.out.nn s
        have HIs1 := Lib.hid (HKL.out.keep s HIs.out)
        have HUs1 := Lib.hid (HKL.out.up s)
        obtain ⟨n1, s1, hy1⟩ : ∃ n1 s1, lx s = (n1, s1) := ⟨_, _, rfl⟩
        rw [hy1] at HC1 hnn1 HIs1 HUs1
        dsimp only at HC1 hnn1 HIs1 HUs1
        have HY1 := Lib.hid hy1
        clear hy1
        go_wp2_with fail
        refine HC1.out.mono ?_
        rintro e w1 ⟨rfl, hs, hg⟩
        have HB11 := Lib.hid (HB10.out.keepn hs hg)
        clear hs hg HC1
        obtain ⟨y0, y1, y2, y3, y4⟩ := five_cells HB11.out.box
        obtain ⟨g0, g1, g2, g3, g4⟩ := five_free HB11.out.box
        have HB12 := Lib.hid (HB11.out.seti n1)
        go_upto_region 23 with fail
        clear y0 y1 y2 y3 y4 g0 g1 g2 g3 g4
        have HC2 := Lib.hid (HLV.out.use nv s1 _ HIs1.out (by have := HFU.out; have := HUs1.out; omega) HB12.out.st)
        have hnn2 := HKL.out.nn s1
        have HIs2 := Lib.hid (HKL.out.keep s1 HIs1.out)
        have HUs2 := Lib.hid (HKL.out.up s1)
        obtain ⟨n2, s2, hy2⟩ : ∃ n2 s2, lx s1 = (n2, s2) := ⟨_, _, rfl⟩
        rw [hy2] at HC2 hnn2 HIs2 HUs2
        dsimp only at HC2 hnn2 HIs2 HUs2
        have HY2 := Lib.hid hy2
        clear hy2
        go_wp2_with fail
        refine HC2.out.mono ?_
        rintro e w2 ⟨rfl, hs, hg⟩
        have HB13 := Lib.hid (HB12.out.keepn hs hg)
        clear hs hg HC2
        obtain ⟨y0, y1, y2, y3, y4⟩ := five_cells HB13.out.box
        obtain ⟨g0, g1, g2, g3, g4⟩ := five_free HB13.out.box
        have HB14 := Lib.hid (HB13.out.setj n2)
        have HT := Lib.hid (show bodyX lx tx c.L 7 N s = tailX tx c.L 7 n1 n2 0 N s2 by unfold bodyX; rw [if_neg (by decide), restX_tail]; rw [if_pos (by decide : 0 < levelsN 7), HY1.out]; dsimp only; rw [if_pos (by decide : 1 < levelsN 7), HY2.out])
        go_wp2_with fail
        go_meet
        case rel => exact ⟨n1, n2, 0, s2, _, rfl, HT, Lib.hid (by omega), HIs2, Lib.hid (by have := HUs1.out; have := HUs2.out; omega), HB14⟩

      · have HB10 := HB
        have HIs := HI
        have HC1 := Lib.hid (HLV.out.use nv s _ HIs.out (by have := HFU.out; omega) HB10.out.st)
        have hnn1 := HKL.out.nn s
        have HIs1 := Lib.hid (HKL.out.keep s HIs.out)
        have HUs1 := Lib.hid (HKL.out.up s)
        obtain ⟨n1, s1, hy1⟩ : ∃ n1 s1, lx s = (n1, s1) := ⟨_, _, rfl⟩
        rw [hy1] at HC1 hnn1 HIs1 HUs1
        dsimp only at HC1 hnn1 HIs1 HUs1
        have HY1 := Lib.hid hy1
        clear hy1
        go_wp2_with fail
        refine HC1.out.mono ?_
        rintro e w1 ⟨rfl, hs, hg⟩
        have HB11 := Lib.hid (HB10.out.keepn hs hg)
        clear hs hg HC1
        obtain ⟨y0, y1, y2, y3, y4⟩ := five_cells HB11.out.box
        obtain ⟨g0, g1, g2, g3, g4⟩ := five_free HB11.out.box
        have HB12 := Lib.hid (HB11.out.seti n1)
        go_upto_region 23 with fail
        clear y0 y1 y2 y3 y4 g0 g1 g2 g3 g4
        have HC2 := Lib.hid (HLV.out.use nv s1 _ HIs1.out (by have := HFU.out; have := HUs1.out; omega) HB12.out.st)
        have hnn2 := HKL.out.nn s1
        have HIs2 := Lib.hid (HKL.out.keep s1 HIs1.out)
        have HUs2 := Lib.hid (HKL.out.up s1)
        obtain ⟨n2, s2, hy2⟩ : ∃ n2 s2, lx s1 = (n2, s2) := ⟨_, _, rfl⟩
        rw [hy2] at HC2 hnn2 HIs2 HUs2
        dsimp only at HC2 hnn2 HIs2 HUs2
        have HY2 := Lib.hid hy2
        clear hy2
        go_wp2_with fail
        refine HC2.out.mono ?_
        rintro e w2 ⟨rfl, hs, hg⟩
        have HB13 := Lib.hid (HB12.out.keepn hs hg)
        clear hs hg HC2
        obtain ⟨y0, y1, y2, y3, y4⟩ := five_cells HB13.out.box
        obtain ⟨g0, g1, g2, g3, g4⟩ := five_free HB13.out.box
        have HB14 := Lib.hid (HB13.out.setj n2)
        have HT := Lib.hid (show bodyX lx tx c.L 8 N s = tailX tx c.L 8 n1 n2 0 N s2 by unfold bodyX; rw [if_neg (by decide), restX_tail]; rw [if_pos (by decide : 0 < levelsN 8), HY1.out]; dsimp only; rw [if_pos (by decide : 1 < levelsN 8), HY2.out])
        go_wp2_with fail
        go_meet
        case rel => exact ⟨n1, n2, 0, s2, _, rfl, HT, Lib.hid (by omega), HIs2, Lib.hid (by have := HUs1.out; have := HUs2.out; omega), HB14⟩

      · have HB10 := HB
        have HIs := HI
        have HC1 := Lib.hid (HLV.out.use nv s _ HIs.out (by have := HFU.out; omega) HB10.out.st)
        have hnn1 := HKL.out.nn s
        have HIs1 := Lib.hid (HKL.out.keep s HIs.out)
        have HUs1 := Lib.hid (HKL.out.up s)
        obtain ⟨n1, s1, hy1⟩ : ∃ n1 s1, lx s = (n1, s1) := ⟨_, _, rfl⟩
        rw [hy1] at HC1 hnn1 HIs1 HUs1
        dsimp only at HC1 hnn1 HIs1 HUs1
        have HY1 := Lib.hid hy1
        clear hy1
        go_wp2_with fail
        refine HC1.out.mono ?_
        rintro e w1 ⟨rfl, hs, hg⟩
        have HB11 := Lib.hid (HB10.out.keepn hs hg)
        clear hs hg HC1
        obtain ⟨y0, y1, y2, y3, y4⟩ := five_cells HB11.out.box
        obtain ⟨g0, g1, g2, g3, g4⟩ := five_free HB11.out.box
        have HB12 := Lib.hid (HB11.out.seti n1)
        go_upto_region 23 with fail
        clear y0 y1 y2 y3 y4 g0 g1 g2 g3 g4
        have HC2 := Lib.hid (HLV.out.use nv s1 _ HIs1.out (by have := HFU.out; have := HUs1.out; omega) HB12.out.st)
        have hnn2 := HKL.out.nn s1
        have HIs2 := Lib.hid (HKL.out.keep s1 HIs1.out)
        have HUs2 := Lib.hid (HKL.out.up s1)
        obtain ⟨n2, s2, hy2⟩ : ∃ n2 s2, lx s1 = (n2, s2) := ⟨_, _, rfl⟩
        rw [hy2] at HC2 hnn2 HIs2 HUs2
        dsimp only at HC2 hnn2 HIs2 HUs2
        have HY2 := Lib.hid hy2
        clear hy2
        go_wp2_with fail
        refine HC2.out.mono ?_
        rintro e w2 ⟨rfl, hs, hg⟩
        have HB13 := Lib.hid (HB12.out.keepn hs hg)
        clear hs hg HC2
        obtain ⟨y0, y1, y2, y3, y4⟩ := five_cells HB13.out.box
        obtain ⟨g0, g1, g2, g3, g4⟩ := five_free HB13.out.box
        have HB14 := Lib.hid (HB13.out.setj n2)
        have HT := Lib.hid (show bodyX lx tx c.L 9 N s = tailX tx c.L 9 n1 n2 0 N s2 by unfold bodyX; rw [if_neg (by decide), restX_tail]; rw [if_pos (by decide : 0 < levelsN 9), HY1.out]; dsimp only; rw [if_pos (by decide : 1 < levelsN 9), HY2.out])
        go_wp2_with fail
        go_meet
        case rel => exact ⟨n1, n2, 0, s2, _, rfl, HT, Lib.hid (by omega), HIs2, Lib.hid (by have := HUs1.out; have := HUs2.out; omega), HB14⟩

    by_cases h1 : k = 1 ∨ k = 10 ∨ k = 11 ∨ k = 12
    case pos =>
      rcases h1 with rfl | rfl | rfl | rfl
      · have HB10 := HB
        have HIs := HI
        have HC1 := Lib.hid (HLV.out.use nv s _ HIs.out (by have := HFU.out; omega) HB10.out.st)
        have hnn1 := HKL.out.nn s
        have HIs1 := Lib.hid (HKL.out.keep s HIs.out)
        have HUs1 := Lib.hid (HKL.out.up s)
        obtain ⟨n1, s1, hy1⟩ : ∃ n1 s1, lx s = (n1, s1) := ⟨_, _, rfl⟩
        rw [hy1] at HC1 hnn1 HIs1 HUs1
        dsimp only at HC1 hnn1 HIs1 HUs1
        have HY1 := Lib.hid hy1
        clear hy1
        go_wp2_with fail
        refine HC1.out.mono ?_
        rintro e w1 ⟨rfl, hs, hg⟩
        have HB11 := Lib.hid (HB10.out.keepn hs hg)
        clear hs hg HC1
        obtain ⟨y0, y1, y2, y3, y4⟩ := five_cells HB11.out.box
        obtain ⟨g0, g1, g2, g3, g4⟩ := five_free HB11.out.box
        have HB12 := Lib.hid (HB11.out.seti n1)
        have HT := Lib.hid (show bodyX lx tx c.L 1 N s = tailX tx c.L 1 n1 0 0 N s1 by unfold bodyX; rw [if_neg (by decide), restX_tail]; rw [if_pos (by decide : 0 < levelsN 1), HY1.out]; dsimp only; rw [if_neg (by decide : ¬ 1 < levelsN 1)])
        go_wp2_with fail
        go_meet
        case rel => exact ⟨n1, 0, 0, s1, _, rfl, HT, Lib.hid (by omega), HIs1, Lib.hid (by have := HUs1.out; omega), HB12⟩

      · have HB10 := HB
        have HIs := HI
        have HC1 := Lib.hid (HLV.out.use nv s _ HIs.out (by have := HFU.out; omega) HB10.out.st)
        have hnn1 := HKL.out.nn s
        have HIs1 := Lib.hid (HKL.out.keep s HIs.out)
        have HUs1 := Lib.hid (HKL.out.up s)
        obtain ⟨n1, s1, hy1⟩ : ∃ n1 s1, lx s = (n1, s1) := ⟨_, _, rfl⟩
        rw [hy1] at HC1 hnn1 HIs1 HUs1
        dsimp only at HC1 hnn1 HIs1 HUs1
        have HY1 := Lib.hid hy1
        clear hy1
        go_wp2_with fail
        refine HC1.out.mono ?_
        rintro e w1 ⟨rfl, hs, hg⟩
        have HB11 := Lib.hid (HB10.out.keepn hs hg)
        clear hs hg HC1
        obtain ⟨y0, y1, y2, y3, y4⟩ := five_cells HB11.out.box
        obtain ⟨g0, g1, g2, g3, g4⟩ := five_free HB11.out.box
        have HB12 := Lib.hid (HB11.out.seti n1)
        have HT := Lib.hid (show bodyX lx tx c.L 10 N s = tailX tx c.L 10 n1 0 0 N s1 by unfold bodyX; rw [if_neg (by decide), restX_tail]; rw [if_pos (by decide : 0 < levelsN 10), HY1.out]; dsimp only; rw [if_neg (by decide : ¬ 1 < levelsN 10)])
        go_wp2_with fail
        go_meet
        case rel => exact ⟨n1, 0, 0, s1, _, rfl, HT, Lib.hid (by omega), HIs1, Lib.hid (by have := HUs1.out; omega), HB12⟩

      · have HB10 := HB
        have HIs := HI
        have HC1 := Lib.hid (HLV.out.use nv s _ HIs.out (by have := HFU.out; omega) HB10.out.st)
        have hnn1 := HKL.out.nn s
        have HIs1 := Lib.hid (HKL.out.keep s HIs.out)
        have HUs1 := Lib.hid (HKL.out.up s)
        obtain ⟨n1, s1, hy1⟩ : ∃ n1 s1, lx s = (n1, s1) := ⟨_, _, rfl⟩
        rw [hy1] at HC1 hnn1 HIs1 HUs1
        dsimp only at HC1 hnn1 HIs1 HUs1
        have HY1 := Lib.hid hy1
        clear hy1
        go_wp2_with fail
        refine HC1.out.mono ?_
        rintro e w1 ⟨rfl, hs, hg⟩
        have HB11 := Lib.hid (HB10.out.keepn hs hg)
        clear hs hg HC1
        obtain ⟨y0, y1, y2, y3, y4⟩ := five_cells HB11.out.box
        obtain ⟨g0, g1, g2, g3, g4⟩ := five_free HB11.out.box
        have HB12 := Lib.hid (HB11.out.seti n1)
        have HT := Lib.hid (show bodyX lx tx c.L 11 N s = tailX tx c.L 11 n1 0 0 N s1 by unfold bodyX; rw [if_neg (by decide), restX_tail]; rw [if_pos (by decide : 0 < levelsN 11), HY1.out]; dsimp only; rw [if_neg (by decide : ¬ 1 < levelsN 11)])
        go_wp2_with fail
        go_meet
        case rel => exact ⟨n1, 0, 0, s1, _, rfl, HT, Lib.hid (by omega), HIs1, Lib.hid (by have := HUs1.out; omega), HB12⟩

      · have HB10 := HB
        have HIs := HI
        have HC1 := Lib.hid (HLV.out.use nv s _ HIs.out (by have := HFU.out; omega) HB10.out.st)
        have hnn1 := HKL.out.nn s
        have HIs1 := Lib.hid (HKL.out.keep s HIs.out)
        have HUs1 := Lib.hid (HKL.out.up s)
        obtain ⟨n1, s1, hy1⟩ : ∃ n1 s1, lx s = (n1, s1) := ⟨_, _, rfl⟩
        rw [hy1] at HC1 hnn1 HIs1 HUs1
        dsimp only at HC1 hnn1 HIs1 HUs1
        have HY1 := Lib.hid hy1
        clear hy1
        go_wp2_with fail
        refine HC1.out.mono ?_
        rintro e w1 ⟨rfl, hs, hg⟩
        have HB11 := Lib.hid (HB10.out.keepn hs hg)
        clear hs hg HC1
        obtain ⟨y0, y1, y2, y3, y4⟩ := five_cells HB11.out.box
        obtain ⟨g0, g1, g2, g3, g4⟩ := five_free HB11.out.box
        have HB12 := Lib.hid (HB11.out.seti n1)
        have HT := Lib.hid (show bodyX lx tx c.L 12 N s = tailX tx c.L 12 n1 0 0 N s1 by unfold bodyX; rw [if_neg (by decide), restX_tail]; rw [if_pos (by decide : 0 < levelsN 12), HY1.out]; dsimp only; rw [if_neg (by decide : ¬ 1 < levelsN 12)])
        go_wp2_with fail
        go_meet
        case rel => exact ⟨n1, 0, 0, s1, _, rfl, HT, Lib.hid (by omega), HIs1, Lib.hid (by have := HUs1.out; omega), HB12⟩

    have HT := Lib.hid (show bodyX lx tx c.L k N s = tailX tx c.L k 0 0 0 N s by
      have e0 : levelsN k = 0 := by unfold levelsN; rw [if_neg (by omega), if_neg (by omega)]
      unfold bodyX
      rw [if_neg h23, restX_tail, if_neg (by omega), if_neg (by omega)])
    have ha1 : ¬ k = 1 := by omega
    have ha10 : ¬ k = 10 := by omega
    have ha11 : ¬ k = 11 := by omega
    have ha12 : ¬ k = 12 := by omega
    have ha3 : ¬ k = 3 := by omega
    have ha4 : ¬ k = 4 := by omega
    have ha5 : ¬ k = 5 := by omega
    have ha6 : ¬ k = 6 := by omega
    have ha7 : ¬ k = 7 := by omega
    have ha8 : ¬ k = 8 := by omega
    have ha9 : ¬ k = 9 := by omega
    clear h1 h39
    go_wp2_with fail
    go_meet
    case rel => exact ⟨0, 0, 0, s, _, rfl, HT, Lib.hid (by omega), HI, Lib.hid (Nat.le_refl _), HB⟩
  case rest =>
  obtain ⟨i, j, n, q, v7, rfl, HT, HR, HIQ, HUQ, HBQ⟩ := hcut
  have HXT := Lib.hid (show X = tailX tx c.L k i j n N q by rw [← HX.out, HT.out])
  clear HT HX HB hq HI
  go_wp2_with fail
  refine (refbinds_any k 1 _).mono ?_
  rintro e w' ⟨rfl, hw'⟩
  obtain rfl := hw'.symm
  go_upto_if 77 with fail
  go_cut [8] (fun s8 wx => ∃ (x0 : Names) (q2 : XS) (v8 : Value), s8 = v8 ∧ Hid (X = endsX tx c.L k i j n N x0 q2) ∧ Hid (XV k wx v8 x0) ∧ Hid (IX c.L q2) ∧ Hid (q.p ≤ q2.p) ∧ Hid (StandB c w (w.heap.size + 1) (.mk k i j n []) (.slice none 0 0) nv q2 N wx))
  case first =>
    have HWT := Lib.hid (HBQ.out.st.want 3 (by have := HIQ.out.p; omega))
    cases hbb : (bindsN k 1 == 1)
    · have HBN := Lib.hid (show ¬ bindsN k 1 = 1 by simpa using hbb)
      go_wp2_with fail
      go_meet
      case rel => exact ⟨[], q, _, rfl, Lib.hid (HXT.out.trans (tailX_none HBN.out)), Lib.hid (fun e => absurd e HBN.out), HIQ, Lib.hid (Nat.le_refl _), HBQ⟩
    · have HBN := Lib.hid (show bindsN k 1 = 1 by simpa using hbb)
      go_wp2_with fail
      refine HWT.out.mono ?_
      rintro e w2 ⟨rfl, hs, hg⟩
      have HB2 := Lib.hid (HBQ.out.keepn hs hg)
      clear hs hg
      have HB3 := Lib.hid (HB2.out.same (below_gr ((Below.refl w2.heap.size w2).alloc (Nat.le_refl _) (.cells #[.string ⟨(wantX c.L 3 q).1.toArray⟩] 9))))
      go_wp2_with fail
      go_meet
      case rel => exact ⟨[(wantX c.L 3 q).1], (wantX c.L 3 q).2, _, rfl, Lib.hid (HXT.out.trans (tailX_one HBN.out)), Lib.hid (fun _ => ⟨nr_lit w2 _, rfl⟩), Lib.hid (HIQ.out.want (by decide)), Lib.hid (want_up _ _ _), HB3⟩
  case rest =>
  obtain ⟨x0, q2, v8, rfl, HXE, HXV, HI2, HU2, HB2⟩ := hcut
  clear HXT HBQ HIQ
  obtain ⟨K0, hK0⟩ : ∃ K0, kidsN k n = K0 := ⟨_, rfl⟩
  obtain ⟨n0, hn0⟩ : ∃ n0, K0.toNat = n0 := ⟨_, rfl⟩
  have hfew := kidsN_few k n
  have HKN := Lib.hid (show X = (Tm.mk k i j n (kidsX tx c.L k (ownS k) x0 0 n0 N q2).1, (wantX c.L 2 (kidsX tx c.L k (ownS k) x0 0 n0 N q2).2).2) by rw [HXE.out]; unfold endsX; rw [hK0, hn0])
  rw [hK0] at hfew
  have hn6 : n0 ≤ 100 := by omega
  have HK0 := Lib.hid hK0
  have HN0 := Lib.hid hn0
  clear hK0 hn0 HXE
  go_wp2_with fail
  go_loopw [8, 9, 10] (fun nmv kv iv wr => ∃ (jj : Nat) (q3 : XS) (ps : List (Tm × Value)) (vv v8 : Value) (x3 : Names) (nv3 : Value), v8 = nmv ∧ vv = kv ∧ jj ≤ n0 ∧ iv = .int .i64 jj ∧ Hid (KI tx c.L k N n0 x0 q2 (ps.map (·.1)) x3 jj (n0 - jj) q3) ∧ Hid (ps.length = jj) ∧ Hid (q2.p ≤ q3.p) ∧ Hid (IX c.L q3) ∧ Hid (Made (w.heap.size + 2) wr vv ps) ∧ Hid (XV k wr v8 x3) ∧ Hid (StandB c w (w.heap.size + 1) (.mk k i j n []) (.slice none 0 0) nv3 q3 N wr)) (fun _ _ iv _ => n0 - (intOf iv).toNat)
  case atStart => exact ⟨0, q2, [], _, _, x0, nv, rfl, rfl, Nat.zero_le _, rfl, Lib.hid (KI.start _ _ _ _ _ _ _), Lib.hid rfl, Lib.hid (Nat.le_refl _), HI2, Lib.hid (made_nil _ _), HXV, HB2⟩
  case round =>
    clear HB2 HXV
    obtain ⟨jj, q3, ps, vv, v8, x3, nv3, rfl, rfl, hjj, rfl, HKI0, HPL, HUP, HIV, HMD0, HXV0, HSD0⟩ := hrel
    obtain ⟨y0, y1, y2, y3, y4⟩ := five_cells HSD0.out.box
    change wr.cell? ⟨w.heap.size + 1, 3, none⟩ = some (.int .i64 n) at y3
    have HRK := Lib.hid (refkids_any k n wr)
    rw [HK0.out] at HRK
    by_cases hlt : jj < n0
    · have hlt' : (jj : Int) < K0 := by have := HN0.out; omega
      obtain ⟨m, hm⟩ : ∃ m, n0 - jj = m + 1 := ⟨n0 - jj - 1, by omega⟩
      have HM := Lib.hid hm
      have HKI := Lib.hid (show KI tx c.L k N n0 x0 q2 (ps.map (·.1)) x3 jj (m + 1) q3 by rw [← hm]; exact HKI0.out)
      have hwj1 : IntKind.i64.wrap ((jj : Int) + 1) = (jj : Int) + 1 := IntWalk.i64_in _ (by omega)
      clear hm HKI0
      go_wp2_with fail
      refine HRK.out.mono ?_
      rintro e wk ⟨rfl, hbk⟩
      have HSD := Lib.hid (HSD0.out.same (below_gr hbk))
      have HMD := Lib.hid (made_later HMD0.out hbk)
      have HXV := Lib.hid (HXV0.out.same (below_gr hbk))
      have hdsz := HSD.out.lt
      clear hbk HSD0 HMD0 HXV0 HRK y0 y1 y2 y3 y4
      by_cases h22 : k = 22
      · have h22b : (k == 22) = true := by simp [h22]
        have h12b : (k == 12) = false := by simp; omega
        have H22 := Lib.hid h22
        by_cases hj2 : jj = 2
        · have hjb : ((jj : Int) == 2) = true := by simp [hj2]
          have hbn : bindsN k jj = 2 := by rw [h22, hj2]; rfl
          have HBN := Lib.hid hbn
          have HYES := Lib.hid (show k = 22 ∧ jj = 2 from ⟨h22, hj2⟩)
          have HNO := Lib.hid (show ¬ (k = 12 ∧ jj = 2) by omega)
          clear h22 hj2
          have HW1 := Lib.hid (HSD.out.st.want 3 (by have := HIV.out.p; omega))
          go_wp2_with fail
          refine HW1.out.mono ?_
          rintro e w2 ⟨rfl, hs, hg⟩
          have HSA := Lib.hid (HSD.out.keepn hs hg)
          have HXA := Lib.hid (HXV.out.fw HSD.out.st hg)
          have HMA := Lib.hid (made_fw (by have := HSD.out.hR; omega) HMD.out hg)
          have HIA := Lib.hid (HIV.out.want (k := 3) (by decide))
          have HUA := Lib.hid (want_up c.L 3 q3)
          clear hs hg HW1
          obtain ⟨a1, qa, hqa⟩ : ∃ a1 qa, wantX c.L 3 q3 = (a1, qa) := ⟨_, _, rfl⟩
          rw [hqa] at HSA HIA HUA
          rw [hqa]
          dsimp only at HSA HIA HUA
          dsimp only
          have HQA := Lib.hid hqa
          clear hqa
          have HW2 := Lib.hid (HSA.out.st.want 3 (by have := HIA.out.p; omega))
          go_wp2_with fail
          refine HW2.out.mono ?_
          rintro e w3 ⟨rfl, hs, hg⟩
          have HSB := Lib.hid (HSA.out.keepn hs hg)
          have HMB := Lib.hid (made_fw (by have := HSA.out.hR; omega) HMA.out hg)
          have HIB := Lib.hid (HIA.out.want (k := 3) (by decide))
          have HUB := Lib.hid (want_up c.L 3 qa)
          clear hs hg HW2
          obtain ⟨a3, qb, hqb⟩ : ∃ a3 qb, wantX c.L 3 qa = (a3, qb) := ⟨_, _, rfl⟩
          rw [hqb] at HSB HIB HUB
          rw [hqb]
          dsimp only at HSB HIB HUB
          dsimp only
          have HQB := Lib.hid hqb
          clear hqb
          have hal := below_gr ((Below.refl w3.heap.size w3).alloc (Nat.le_refl _) (.cells #[.string ⟨a1.toArray⟩, .string ⟨a3.toArray⟩] 9))
          have HSC := Lib.hid (HSB.out.same hal)
          have HMC := Lib.hid (made_later HMB.out (below_of hal))
          have HNC := Lib.hid (nr_lit2 w3 a1 a3)
          clear hal
          go_upto_region 39 with fail
          obtain ⟨V, hV⟩ : ∃ V, V = w3.alloc (.cells #[.string ⟨a1.toArray⟩, .string ⟨a3.toArray⟩] 9) := ⟨_, rfl⟩
          rw [← hV] at HSC HMC HNC
          rw [← hV]
          clear hV
          go_wp2_with fail
          refine (refbinds_any k jj _).mono ?_
          rintro e w' ⟨rfl, hw'⟩
          obtain rfl := hw'.symm
          rw [hbn]
          obtain ⟨g8, cap8, hv8, -, -, hcs8⟩ := HNC.out.cells (by simp)
          have HPU := Lib.hid (rpush_any c _ _ N [a3, a1] ⟨g8, 0, none⟩ cap8 _ HSC.out.st HSC.out.nm hcs8 (by have := HNL.out; simp; omega))
          obtain rfl : w3.heap.size = g8 := by cases hv8; rfl
          obtain rfl : 2 = cap8 := by cases hv8; rfl
          clear hcs8 hv8
          go_wp2_with fail
          refine HPU.out.mono ?_
          rintro e wq ⟨rfl, nvq, hs, hn, hg⟩
          have HSP1 := Lib.hid (HSC.out.call hs hn hg)
          have HXP1 := Lib.hid (show XV k wq (.slice (some ⟨w3.heap.size, 0, none⟩) 2 2) [a3, a1] from xv_22 H22.out)
          have HMP1 := Lib.hid (made_fw (by have := HSC.out.hR; omega) HMC.out hg)
          clear hs hn hg HPU
          obtain ⟨t1, s1, hxt⟩ : ∃ t1 s1, tx (ownS k) ([a3, a1] ++ N) qb = (t1, s1) := ⟨_, _, rfl⟩
          have HCALL := Lib.hid (HTC.out.use (ownS k) ([a3, a1] ++ N) _ qb _ (by rcases ownS_is k with h | h <;> omega) HIB.out (by have := HFU.out; have := HUQ.out; have := HU2.out; have := HUP.out; have := HUA.out; have := HUB.out; omega) (by have := HNL.out; simp; omega) HSP1.out.st HSP1.out.nm)
          rw [hxt] at HCALL
          have HXN := Lib.hid (HKI.out.step (by rw [if_pos HYES.out, HQA.out]; dsimp only; rw [HQB.out]) (by rw [if_pos HYES.out, HQA.out]; dsimp only; rw [HQB.out]) (if_neg HNO.out) (if_neg (by rw [HBN.out]; decide)) hxt)
          have HIN := Lib.hid (show IX c.L s1 by have h := HKT.out.keep (ownS k) ([a3, a1] ++ N) qb HIB.out; rw [hxt] at h; exact h)
          have HUN := Lib.hid (show qb.p ≤ s1.p by have h := HKT.out.up (ownS k) ([a3, a1] ++ N) qb; rw [hxt] at h; exact h)
          clear hxt
          go_wp2_with fail
          refine HCALL.out.mono ?_
          rintro e wn ⟨sv, nv4, rfl, hl1, hfi, hs1, hn1, hf1⟩
          obtain ⟨a2, cap2, rfl, -, -⟩ := hl1.out
          have HSN := Lib.hid (HSP1.out.call hs1 hn1 hf1)
          have HXW := Lib.hid (HXP1.out.fw HSP1.out.st hf1)
          have HMN := Lib.hid (made_fw (by have := HSP1.out.hR; omega) HMP1.out hf1)
          have HM3 := Lib.hid (made_later HMN.out ((Below.refl _ _).alloc (Nat.le_refl _) (.cells #[.int .i64 t1.k, .int .i64 t1.i, .int .i64 t1.j, .int .i64 t1.n, .slice a2 t1.kids.length cap2] 26)))
          have hsn := HSN.out.lt
          have hsz := HSP1.out.lt
          have HFN := Lib.hid hf1
          have HLN := Lib.hid hl1
          have HFI := Lib.hid hfi
          clear hl1 hfi hs1 hn1 hf1 HCALL
          go_wp2_with (at_builtin; refine wpList_append_lies _ rfl (.tmp 116) (.tmp 120) 24 rfl (w.heap.size + 2) 26 i0 _ 5 56 (by kernel_rfl) HIF.out.1 HIF.out.2.1 HIF.out.2.2.1 HIF.out.2.2.2 rfl (by decide) _ ps.length (cells5 ps) rfl HM3.out.own ⟨wn.heap.size, 0, none⟩ 1 1 (cells5 [(t1, .slice a2 t1.kids.length cap2)]) rfl rfl ?news ?one (by decide) ?max ?bytes ?base _ rfl ?next)
          case news => exact news_new _ _ _ _
          case one => exact one5 _ _
          case max => have := HPL.out; unfold maxLen; omega
          case bytes => have := HPL.out; omega
          case base => simp; omega
          case next =>
            intro g cap3 w9 hown hgrow hat _
            have HPB := Lib.hid (made_push_fw (by have := HSN.out.hR; omega) HMP1.out (by omega) HFN.out HFI.out HLN.out _ hown hgrow (by rcases hat with h | h; exact Or.inl h; exact Or.inr (h.trans (by simp))))
            have hal := below_gr ((Below.refl wn.heap.size wn).alloc (Nat.le_refl _) (.cells #[.int .i64 t1.k, .int .i64 t1.i, .int .i64 t1.j, .int .i64 t1.n, .slice a2 t1.kids.length cap2] 26))
            have hrw := made_rowT HM3.out
            have HS9 := Lib.hid ((HSN.out.same hal).row hgrow (fun b e => ⟨by have := (hrw b e).1; omega, (hrw b e).2⟩))
            have HX9 := Lib.hid ((HXW.out.same hal).row hgrow (fun b e => (hrw b e).2))
            clear hown hgrow hat hal hrw
            go_wp2_with fail
            refine (rpop_any c nv4 s1 ([a3, a1] ++ N) 2 w9 HS9.out.st HS9.out.nm (by simp) (by have := HNL.out; simp; omega)).mono ?_
            rintro e wp ⟨rfl, nv5, hs, hn, hg⟩
            rw [show (([a3, a1] ++ N)).drop 2 = N from rfl] at hn
            have HSP := Lib.hid (HS9.out.call hs hn hg)
            have HXP := Lib.hid (HX9.out.fw HS9.out.st hg)
            have HPP := Lib.hid (made_fw (by have := HSP.out.hR; omega) HPB.out hg)
            clear hs hn hg
            go_wp2_with fail
            go_roundw
            case rel => exact ⟨jj + 1, s1, ps ++ [(t1, .slice a2 t1.kids.length cap2)], _, _, [a3, a1], nv5, rfl, rfl, hlt, by go_num, Lib.hid (by rw [show n0 - (jj + 1) = m by have := HM.out; omega, List.map_append]; exact HXN.out), Lib.hid (by have := HPL.out; simp; omega), Lib.hid (by have := HUN.out; have := HUP.out; have := HUA.out; have := HUB.out; omega), HIN, HPP, HXP, HSP⟩
            case measure => simp [intOf]; omega

        · have hjb : ((jj : Int) == 2) = false := by simp; omega
          have hbn : bindsN k jj = 0 := by rw [h22]; unfold bindsN; rw [if_neg (by omega), if_neg (by omega), if_pos rfl, if_neg (by omega)]
          have HBN := Lib.hid hbn
          have HNB := Lib.hid (show ¬ (k = 22 ∧ jj = 2) by omega)
          have HNO := Lib.hid (show ¬ (k = 12 ∧ jj = 2) by omega)
          clear h22 hj2
          go_wp2_with fail
          refine (refbinds_any k jj _).mono ?_
          rintro e w' ⟨rfl, hw'⟩
          obtain rfl := hw'.symm
          rw [hbn]
          obtain ⟨t1, s1, hxt⟩ : ∃ t1 s1, tx (ownS k) N q3 = (t1, s1) := ⟨_, _, rfl⟩
          have HCALL := Lib.hid (HTC.out.use (ownS k) N _ q3 _ (by rcases ownS_is k with h | h <;> omega) HIV.out (by have := HFU.out; have := HUQ.out; have := HU2.out; have := HUP.out; omega) (by have := HNL.out; omega) HSD.out.st HSD.out.nm)
          rw [hxt] at HCALL
          have HXN := Lib.hid (HKI.out.step (if_neg HNB.out) (if_neg HNB.out) (if_neg HNO.out) (if_pos (by rw [HBN.out])) hxt)
          have HIN := Lib.hid (show IX c.L s1 by have h := HKT.out.keep (ownS k) N q3 HIV.out; rw [hxt] at h; exact h)
          have HUN := Lib.hid (show q3.p ≤ s1.p by have h := HKT.out.up (ownS k) N q3; rw [hxt] at h; exact h)
          clear hxt
          go_wp2_with fail
          refine HCALL.out.mono ?_
          rintro e wn ⟨sv, nv4, rfl, hl1, hfi, hs1, hn1, hf1⟩
          obtain ⟨a2, cap2, rfl, -, -⟩ := hl1.out
          have HSN := Lib.hid (HSD.out.call hs1 hn1 hf1)
          have HXW := Lib.hid (HXV.out.fw HSD.out.st hf1)
          have HMN := Lib.hid (made_fw (by have := HSD.out.hR; omega) HMD.out hf1)
          have HM3 := Lib.hid (made_later HMN.out ((Below.refl _ _).alloc (Nat.le_refl _) (.cells #[.int .i64 t1.k, .int .i64 t1.i, .int .i64 t1.j, .int .i64 t1.n, .slice a2 t1.kids.length cap2] 26)))
          have hsn := HSN.out.lt
          have hsz := HSD.out.lt
          have HFN := Lib.hid hf1
          have HLN := Lib.hid hl1
          have HFI := Lib.hid hfi
          clear hl1 hfi hs1 hn1 hf1 HCALL
          go_wp2_with (at_builtin; refine wpList_append_lies _ rfl (.tmp 116) (.tmp 120) 24 rfl (w.heap.size + 2) 26 i0 _ 5 56 (by kernel_rfl) HIF.out.1 HIF.out.2.1 HIF.out.2.2.1 HIF.out.2.2.2 rfl (by decide) _ ps.length (cells5 ps) rfl HM3.out.own ⟨wn.heap.size, 0, none⟩ 1 1 (cells5 [(t1, .slice a2 t1.kids.length cap2)]) rfl rfl ?news ?one (by decide) ?max ?bytes ?base _ rfl ?next)
          case news => exact news_new _ _ _ _
          case one => exact one5 _ _
          case max => have := HPL.out; unfold maxLen; omega
          case bytes => have := HPL.out; omega
          case base => simp; omega
          case next =>
            intro g cap3 w9 hown hgrow hat _
            have HPB := Lib.hid (made_push_fw (by have := HSN.out.hR; omega) HMD.out (by omega) HFN.out HFI.out HLN.out _ hown hgrow (by rcases hat with h | h; exact Or.inl h; exact Or.inr (h.trans (by simp))))
            have hal := below_gr ((Below.refl wn.heap.size wn).alloc (Nat.le_refl _) (.cells #[.int .i64 t1.k, .int .i64 t1.i, .int .i64 t1.j, .int .i64 t1.n, .slice a2 t1.kids.length cap2] 26))
            have hrw := made_rowT HM3.out
            have HS9 := Lib.hid ((HSN.out.same hal).row hgrow (fun b e => ⟨by have := (hrw b e).1; omega, (hrw b e).2⟩))
            have HX9 := Lib.hid ((HXW.out.same hal).row hgrow (fun b e => (hrw b e).2))
            clear hown hgrow hat hal hrw
            go_wp2_with fail
            go_roundw
            case rel => exact ⟨jj + 1, s1, ps ++ [(t1, .slice a2 t1.kids.length cap2)], _, _, x3, nv4, rfl, rfl, hlt, by go_num, Lib.hid (by rw [show n0 - (jj + 1) = m by have := HM.out; omega, List.map_append]; exact HXN.out), Lib.hid (by have := HPL.out; simp; omega), Lib.hid (by have := HUN.out; have := HUP.out; omega), HIN, HPB, HX9, HS9⟩
            case measure => simp [intOf]; omega

      have h22b : (k == 22) = false := by simp [h22]
      have HNB := Lib.hid (show ¬ (k = 22 ∧ jj = 2) by omega)
      have H22 := Lib.hid h22
      clear h22
      by_cases h12 : k = 12
      · have h12b : (k == 12) = true := by simp [h12]
        have hbn : bindsN k jj = 0 := by rw [h12]; unfold bindsN; rw [if_neg (by omega), if_neg (by omega), if_neg (by omega)]
        have HBN := Lib.hid hbn
        by_cases hj2 : jj = 2
        · have hjb : ((jj : Int) == 2) = true := by simp [hj2]
          have HNO := Lib.hid (show (k = 12 ∧ jj = 2) by omega)
          clear h12 hj2
          go_wp2_with fail
          refine (refbinds_any k jj _).mono ?_
          rintro e w' ⟨rfl, hw'⟩
          obtain rfl := hw'.symm
          rw [hbn]
          obtain ⟨t1, s1, hxt⟩ : ∃ t1 s1, tx 2 N q3 = (t1, s1) := ⟨_, _, rfl⟩
          have HCALL := Lib.hid (HTC.out.use 2 N _ q3 _ (Or.inr (Or.inr rfl)) HIV.out (by have := HFU.out; have := HUQ.out; have := HU2.out; have := HUP.out; omega) (by have := HNL.out; omega) HSD.out.st HSD.out.nm)
          rw [hxt] at HCALL
          have HXN := Lib.hid (HKI.out.step (if_neg HNB.out) (if_neg HNB.out) (if_pos HNO.out) (if_pos (by rw [HBN.out])) hxt)
          have HIN := Lib.hid (show IX c.L s1 by have h := HKT.out.keep 2 N q3 HIV.out; rw [hxt] at h; exact h)
          have HUN := Lib.hid (show q3.p ≤ s1.p by have h := HKT.out.up 2 N q3; rw [hxt] at h; exact h)
          clear hxt
          go_wp2_with fail
          refine HCALL.out.mono ?_
          rintro e wn ⟨sv, nv4, rfl, hl1, hfi, hs1, hn1, hf1⟩
          obtain ⟨a2, cap2, rfl, -, -⟩ := hl1.out
          have HSN := Lib.hid (HSD.out.call hs1 hn1 hf1)
          have HXW := Lib.hid (HXV.out.fw HSD.out.st hf1)
          have HMN := Lib.hid (made_fw (by have := HSD.out.hR; omega) HMD.out hf1)
          have HM3 := Lib.hid (made_later HMN.out ((Below.refl _ _).alloc (Nat.le_refl _) (.cells #[.int .i64 t1.k, .int .i64 t1.i, .int .i64 t1.j, .int .i64 t1.n, .slice a2 t1.kids.length cap2] 26)))
          have hsn := HSN.out.lt
          have hsz := HSD.out.lt
          have HFN := Lib.hid hf1
          have HLN := Lib.hid hl1
          have HFI := Lib.hid hfi
          clear hl1 hfi hs1 hn1 hf1 HCALL
          go_wp2_with (at_builtin; refine wpList_append_lies _ rfl (.tmp 116) (.tmp 120) 24 rfl (w.heap.size + 2) 26 i0 _ 5 56 (by kernel_rfl) HIF.out.1 HIF.out.2.1 HIF.out.2.2.1 HIF.out.2.2.2 rfl (by decide) _ ps.length (cells5 ps) rfl HM3.out.own ⟨wn.heap.size, 0, none⟩ 1 1 (cells5 [(t1, .slice a2 t1.kids.length cap2)]) rfl rfl ?news ?one (by decide) ?max ?bytes ?base _ rfl ?next)
          case news => exact news_new _ _ _ _
          case one => exact one5 _ _
          case max => have := HPL.out; unfold maxLen; omega
          case bytes => have := HPL.out; omega
          case base => simp; omega
          case next =>
            intro g cap3 w9 hown hgrow hat _
            have HPB := Lib.hid (made_push_fw (by have := HSN.out.hR; omega) HMD.out (by omega) HFN.out HFI.out HLN.out _ hown hgrow (by rcases hat with h | h; exact Or.inl h; exact Or.inr (h.trans (by simp))))
            have hal := below_gr ((Below.refl wn.heap.size wn).alloc (Nat.le_refl _) (.cells #[.int .i64 t1.k, .int .i64 t1.i, .int .i64 t1.j, .int .i64 t1.n, .slice a2 t1.kids.length cap2] 26))
            have hrw := made_rowT HM3.out
            have HS9 := Lib.hid ((HSN.out.same hal).row hgrow (fun b e => ⟨by have := (hrw b e).1; omega, (hrw b e).2⟩))
            have HX9 := Lib.hid ((HXW.out.same hal).row hgrow (fun b e => (hrw b e).2))
            clear hown hgrow hat hal hrw
            go_wp2_with fail
            go_roundw
            case rel => exact ⟨jj + 1, s1, ps ++ [(t1, .slice a2 t1.kids.length cap2)], _, _, x3, nv4, rfl, rfl, hlt, by go_num, Lib.hid (by rw [show n0 - (jj + 1) = m by have := HM.out; omega, List.map_append]; exact HXN.out), Lib.hid (by have := HPL.out; simp; omega), Lib.hid (by have := HUN.out; have := HUP.out; omega), HIN, HPB, HX9, HS9⟩
            case measure => simp [intOf]; omega

        · have hjb : ((jj : Int) == 2) = false := by simp; omega
          have HNO := Lib.hid (show ¬ (k = 12 ∧ jj = 2) by omega)
          clear h12 hj2
          go_wp2_with fail
          refine (refbinds_any k jj _).mono ?_
          rintro e w' ⟨rfl, hw'⟩
          obtain rfl := hw'.symm
          rw [hbn]
          obtain ⟨t1, s1, hxt⟩ : ∃ t1 s1, tx (ownS k) N q3 = (t1, s1) := ⟨_, _, rfl⟩
          have HCALL := Lib.hid (HTC.out.use (ownS k) N _ q3 _ (by rcases ownS_is k with h | h <;> omega) HIV.out (by have := HFU.out; have := HUQ.out; have := HU2.out; have := HUP.out; omega) (by have := HNL.out; omega) HSD.out.st HSD.out.nm)
          rw [hxt] at HCALL
          have HXN := Lib.hid (HKI.out.step (if_neg HNB.out) (if_neg HNB.out) (if_neg HNO.out) (if_pos (by rw [HBN.out])) hxt)
          have HIN := Lib.hid (show IX c.L s1 by have h := HKT.out.keep (ownS k) N q3 HIV.out; rw [hxt] at h; exact h)
          have HUN := Lib.hid (show q3.p ≤ s1.p by have h := HKT.out.up (ownS k) N q3; rw [hxt] at h; exact h)
          clear hxt
          go_wp2_with fail
          refine HCALL.out.mono ?_
          rintro e wn ⟨sv, nv4, rfl, hl1, hfi, hs1, hn1, hf1⟩
          obtain ⟨a2, cap2, rfl, -, -⟩ := hl1.out
          have HSN := Lib.hid (HSD.out.call hs1 hn1 hf1)
          have HXW := Lib.hid (HXV.out.fw HSD.out.st hf1)
          have HMN := Lib.hid (made_fw (by have := HSD.out.hR; omega) HMD.out hf1)
          have HM3 := Lib.hid (made_later HMN.out ((Below.refl _ _).alloc (Nat.le_refl _) (.cells #[.int .i64 t1.k, .int .i64 t1.i, .int .i64 t1.j, .int .i64 t1.n, .slice a2 t1.kids.length cap2] 26)))
          have hsn := HSN.out.lt
          have hsz := HSD.out.lt
          have HFN := Lib.hid hf1
          have HLN := Lib.hid hl1
          have HFI := Lib.hid hfi
          clear hl1 hfi hs1 hn1 hf1 HCALL
          go_wp2_with (at_builtin; refine wpList_append_lies _ rfl (.tmp 116) (.tmp 120) 24 rfl (w.heap.size + 2) 26 i0 _ 5 56 (by kernel_rfl) HIF.out.1 HIF.out.2.1 HIF.out.2.2.1 HIF.out.2.2.2 rfl (by decide) _ ps.length (cells5 ps) rfl HM3.out.own ⟨wn.heap.size, 0, none⟩ 1 1 (cells5 [(t1, .slice a2 t1.kids.length cap2)]) rfl rfl ?news ?one (by decide) ?max ?bytes ?base _ rfl ?next)
          case news => exact news_new _ _ _ _
          case one => exact one5 _ _
          case max => have := HPL.out; unfold maxLen; omega
          case bytes => have := HPL.out; omega
          case base => simp; omega
          case next =>
            intro g cap3 w9 hown hgrow hat _
            have HPB := Lib.hid (made_push_fw (by have := HSN.out.hR; omega) HMD.out (by omega) HFN.out HFI.out HLN.out _ hown hgrow (by rcases hat with h | h; exact Or.inl h; exact Or.inr (h.trans (by simp))))
            have hal := below_gr ((Below.refl wn.heap.size wn).alloc (Nat.le_refl _) (.cells #[.int .i64 t1.k, .int .i64 t1.i, .int .i64 t1.j, .int .i64 t1.n, .slice a2 t1.kids.length cap2] 26))
            have hrw := made_rowT HM3.out
            have HS9 := Lib.hid ((HSN.out.same hal).row hgrow (fun b e => ⟨by have := (hrw b e).1; omega, (hrw b e).2⟩))
            have HX9 := Lib.hid ((HXW.out.same hal).row hgrow (fun b e => (hrw b e).2))
            clear hown hgrow hat hal hrw
            go_wp2_with fail
            go_roundw
            case rel => exact ⟨jj + 1, s1, ps ++ [(t1, .slice a2 t1.kids.length cap2)], _, _, x3, nv4, rfl, rfl, hlt, by go_num, Lib.hid (by rw [show n0 - (jj + 1) = m by have := HM.out; omega, List.map_append]; exact HXN.out), Lib.hid (by have := HPL.out; simp; omega), Lib.hid (by have := HUN.out; have := HUP.out; omega), HIN, HPB, HX9, HS9⟩
            case measure => simp [intOf]; omega

      have h12b : (k == 12) = false := by simp [h12]
      have HNO := Lib.hid (show ¬ (k = 12 ∧ jj = 2) by omega)
      clear h12
      by_cases hbn : bindsN k jj = 0
      · have HBN := Lib.hid hbn
        go_wp2_with fail
        refine (refbinds_any k jj _).mono ?_
        rintro e w' ⟨rfl, hw'⟩
        obtain rfl := hw'.symm
        rw [hbn]
        obtain ⟨t1, s1, hxt⟩ : ∃ t1 s1, tx (ownS k) N q3 = (t1, s1) := ⟨_, _, rfl⟩
        have HCALL := Lib.hid (HTC.out.use (ownS k) N _ q3 _ (by rcases ownS_is k with h | h <;> omega) HIV.out (by have := HFU.out; have := HUQ.out; have := HU2.out; have := HUP.out; omega) (by have := HNL.out; omega) HSD.out.st HSD.out.nm)
        rw [hxt] at HCALL
        have HXN := Lib.hid (HKI.out.step (if_neg HNB.out) (if_neg HNB.out) (if_neg HNO.out) (if_pos (by rw [HBN.out])) hxt)
        have HIN := Lib.hid (show IX c.L s1 by have h := HKT.out.keep (ownS k) N q3 HIV.out; rw [hxt] at h; exact h)
        have HUN := Lib.hid (show q3.p ≤ s1.p by have h := HKT.out.up (ownS k) N q3; rw [hxt] at h; exact h)
        clear hxt
        go_wp2_with fail
        refine HCALL.out.mono ?_
        rintro e wn ⟨sv, nv4, rfl, hl1, hfi, hs1, hn1, hf1⟩
        obtain ⟨a2, cap2, rfl, -, -⟩ := hl1.out
        have HSN := Lib.hid (HSD.out.call hs1 hn1 hf1)
        have HXW := Lib.hid (HXV.out.fw HSD.out.st hf1)
        have HMN := Lib.hid (made_fw (by have := HSD.out.hR; omega) HMD.out hf1)
        have HM3 := Lib.hid (made_later HMN.out ((Below.refl _ _).alloc (Nat.le_refl _) (.cells #[.int .i64 t1.k, .int .i64 t1.i, .int .i64 t1.j, .int .i64 t1.n, .slice a2 t1.kids.length cap2] 26)))
        have hsn := HSN.out.lt
        have hsz := HSD.out.lt
        have HFN := Lib.hid hf1
        have HLN := Lib.hid hl1
        have HFI := Lib.hid hfi
        clear hl1 hfi hs1 hn1 hf1 HCALL
        go_wp2_with (at_builtin; refine wpList_append_lies _ rfl (.tmp 116) (.tmp 120) 24 rfl (w.heap.size + 2) 26 i0 _ 5 56 (by kernel_rfl) HIF.out.1 HIF.out.2.1 HIF.out.2.2.1 HIF.out.2.2.2 rfl (by decide) _ ps.length (cells5 ps) rfl HM3.out.own ⟨wn.heap.size, 0, none⟩ 1 1 (cells5 [(t1, .slice a2 t1.kids.length cap2)]) rfl rfl ?news ?one (by decide) ?max ?bytes ?base _ rfl ?next)
        case news => exact news_new _ _ _ _
        case one => exact one5 _ _
        case max => have := HPL.out; unfold maxLen; omega
        case bytes => have := HPL.out; omega
        case base => simp; omega
        case next =>
          intro g cap3 w9 hown hgrow hat _
          have HPB := Lib.hid (made_push_fw (by have := HSN.out.hR; omega) HMD.out (by omega) HFN.out HFI.out HLN.out _ hown hgrow (by rcases hat with h | h; exact Or.inl h; exact Or.inr (h.trans (by simp))))
          have hal := below_gr ((Below.refl wn.heap.size wn).alloc (Nat.le_refl _) (.cells #[.int .i64 t1.k, .int .i64 t1.i, .int .i64 t1.j, .int .i64 t1.n, .slice a2 t1.kids.length cap2] 26))
          have hrw := made_rowT HM3.out
          have HS9 := Lib.hid ((HSN.out.same hal).row hgrow (fun b e => ⟨by have := (hrw b e).1; omega, (hrw b e).2⟩))
          have HX9 := Lib.hid ((HXW.out.same hal).row hgrow (fun b e => (hrw b e).2))
          clear hown hgrow hat hal hrw
          go_wp2_with fail
          go_roundw
          case rel => exact ⟨jj + 1, s1, ps ++ [(t1, .slice a2 t1.kids.length cap2)], _, _, x3, nv4, rfl, rfl, hlt, by go_num, Lib.hid (by rw [show n0 - (jj + 1) = m by have := HM.out; omega, List.map_append]; exact HXN.out), Lib.hid (by have := HPL.out; simp; omega), Lib.hid (by have := HUN.out; have := HUP.out; omega), HIN, HPB, HX9, HS9⟩
          case measure => simp [intOf]; omega

      have HBN := Lib.hid hbn
      have hb1 := (binds_one k).2 H22.out jj hbn
      have hbj : bindsN k jj = 1 := bindsN_at H22.out hbn
      obtain ⟨hnx, hx1⟩ := HXV.out hb1
      obtain ⟨g8, cap8, rfl, -, -, hcs8⟩ := hnx.cells (fun e => by rw [e] at hx1; cases hx1)
      have HX1 := Lib.hid hx1
      have HPU := Lib.hid (rpush_any c _ _ N x3 ⟨g8, 0, none⟩ cap8 wk HSD.out.st HSD.out.nm hcs8 (by have := HNL.out; omega))
      clear hbn hb1 hnx hx1 hcs8
      go_wp2_with fail
      refine (refbinds_any k jj _).mono ?_
      rintro e w' ⟨rfl, hw'⟩
      obtain rfl := hw'.symm
      rw [hbj]
      go_wp2_with fail
      refine HPU.out.mono ?_
      rintro e wq ⟨rfl, nvq, hs, hn, hg⟩
      have HSP1 := Lib.hid (HSD.out.call hs hn hg)
      have HXP1 := Lib.hid (HXV.out.fw HSD.out.st hg)
      have HMP1 := Lib.hid (made_fw (by have := HSD.out.hR; omega) HMD.out hg)
      clear hs hn hg HPU
      obtain ⟨t1, s1, hxt⟩ : ∃ t1 s1, tx (ownS k) (x3 ++ N) q3 = (t1, s1) := ⟨_, _, rfl⟩
      have HCALL := Lib.hid (HTC.out.use (ownS k) (x3 ++ N) _ q3 _ (by rcases ownS_is k with h | h <;> omega) HIV.out (by have := HFU.out; have := HUQ.out; have := HU2.out; have := HUP.out; omega) (by have := HNL.out; have := HX1.out; simp; omega) HSP1.out.st HSP1.out.nm)
      rw [hxt] at HCALL
      have HXN := Lib.hid (HKI.out.step (if_neg HNB.out) (if_neg HNB.out) (if_neg HNO.out) (if_neg HBN.out) hxt)
      have HIN := Lib.hid (show IX c.L s1 by have h := HKT.out.keep (ownS k) (x3 ++ N) q3 HIV.out; rw [hxt] at h; exact h)
      have HUN := Lib.hid (show q3.p ≤ s1.p by have h := HKT.out.up (ownS k) (x3 ++ N) q3; rw [hxt] at h; exact h)
      clear hxt
      go_wp2_with fail
      refine HCALL.out.mono ?_
      rintro e wn ⟨sv, nv4, rfl, hl1, hfi, hs1, hn1, hf1⟩
      obtain ⟨a2, cap2, rfl, -, -⟩ := hl1.out
      have HSN := Lib.hid (HSP1.out.call hs1 hn1 hf1)
      have HXW := Lib.hid (HXP1.out.fw HSP1.out.st hf1)
      have HMN := Lib.hid (made_fw (by have := HSP1.out.hR; omega) HMP1.out hf1)
      have HM3 := Lib.hid (made_later HMN.out ((Below.refl _ _).alloc (Nat.le_refl _) (.cells #[.int .i64 t1.k, .int .i64 t1.i, .int .i64 t1.j, .int .i64 t1.n, .slice a2 t1.kids.length cap2] 26)))
      have hsn := HSN.out.lt
      have hsz := HSP1.out.lt
      have HFN := Lib.hid hf1
      have HLN := Lib.hid hl1
      have HFI := Lib.hid hfi
      clear hl1 hfi hs1 hn1 hf1 HCALL
      go_wp2_with (at_builtin; refine wpList_append_lies _ rfl (.tmp 116) (.tmp 120) 24 rfl (w.heap.size + 2) 26 i0 _ 5 56 (by kernel_rfl) HIF.out.1 HIF.out.2.1 HIF.out.2.2.1 HIF.out.2.2.2 rfl (by decide) _ ps.length (cells5 ps) rfl HM3.out.own ⟨wn.heap.size, 0, none⟩ 1 1 (cells5 [(t1, .slice a2 t1.kids.length cap2)]) rfl rfl ?news ?one (by decide) ?max ?bytes ?base _ rfl ?next)
      case news => exact news_new _ _ _ _
      case one => exact one5 _ _
      case max => have := HPL.out; unfold maxLen; omega
      case bytes => have := HPL.out; omega
      case base => simp; omega
      case next =>
        intro g cap3 w9 hown hgrow hat _
        have HPB := Lib.hid (made_push_fw (by have := HSN.out.hR; omega) HMP1.out (by omega) HFN.out HFI.out HLN.out _ hown hgrow (by rcases hat with h | h; exact Or.inl h; exact Or.inr (h.trans (by simp))))
        have hal := below_gr ((Below.refl wn.heap.size wn).alloc (Nat.le_refl _) (.cells #[.int .i64 t1.k, .int .i64 t1.i, .int .i64 t1.j, .int .i64 t1.n, .slice a2 t1.kids.length cap2] 26))
        have hrw := made_rowT HM3.out
        have HS9 := Lib.hid ((HSN.out.same hal).row hgrow (fun b e => ⟨by have := (hrw b e).1; omega, (hrw b e).2⟩))
        have HX9 := Lib.hid ((HXW.out.same hal).row hgrow (fun b e => (hrw b e).2))
        clear hown hgrow hat hal hrw
        go_wp2_with fail
        refine (rpop_any c nv4 s1 (x3 ++ N) 1 w9 HS9.out.st HS9.out.nm (by have := HX1.out; simp; omega) (by have := HNL.out; have := HX1.out; simp; omega)).mono ?_
        rintro e wp ⟨rfl, nv5, hs, hn, hg⟩
        rw [show ((x3 ++ N)).drop 1 = N from List.drop_left' HX1.out] at hn
        have HSP := Lib.hid (HS9.out.call hs hn hg)
        have HXP := Lib.hid (HX9.out.fw HS9.out.st hg)
        have HPP := Lib.hid (made_fw (by have := HSP.out.hR; omega) HPB.out hg)
        clear hs hn hg
        go_wp2_with fail
        go_roundw
        case rel => exact ⟨jj + 1, s1, ps ++ [(t1, .slice a2 t1.kids.length cap2)], _, _, x3, nv5, rfl, rfl, hlt, by go_num, Lib.hid (by rw [show n0 - (jj + 1) = m by have := HM.out; omega, List.map_append]; exact HXN.out), Lib.hid (by have := HPL.out; simp; omega), Lib.hid (by have := HUN.out; have := HUP.out; omega), HIN, HPP, HXP, HSP⟩
        case measure => simp [intOf]; omega
    · obtain rfl : jj = n0 := by omega
      have hlt' : ¬ (jj : Int) < K0 := by have := HN0.out; omega
      have HKD := Lib.hid (show kidsX tx c.L k (ownS k) x0 0 jj N q2 = (ps.map (·.1), q3) from by have h := HKI0.out; rw [Nat.sub_self] at h; exact h.done)
      clear HKI0
      go_wp2_with fail
      refine HRK.out.mono ?_
      rintro e wk ⟨rfl, hbk⟩
      have HSD := Lib.hid (HSD0.out.same (below_gr hbk))
      have HML := Lib.hid (made_lies (made_later HMD0.out hbk))
      clear hbk HSD0 HMD0 HXV0 HRK y0 y1 y2 y3 y4
      have HWT := Lib.hid (HSD.out.st.want 2 (by have := HIV.out.p; omega))
      go_wp2_with fail
      refine HWT.out.mono ?_
      rintro e w8 ⟨rfl, hs8, hf8⟩
      have hl8 := liesP_fw (by have := HSD.out.hR; omega) HML.out hf8
      obtain ⟨al, cl, hvv, -, -⟩ := hl8.out
      rw [List.length_map] at hvv
      subst hvv
      have HS8 := Lib.hid (HSD.out.keepn hs8 hf8)
      have hl9 : LiesP (w8.setCell ⟨w.heap.size + 1, 4, none⟩ (.slice al ps.length cl)) (Own (w.heap.size + 2) (w8.setCell ⟨w.heap.size + 1, 4, none⟩ (.slice al ps.length cl))) (ps.map fun p : Tm × Value => p.1) (.slice al ps.length cl) :=
        hl8.keep (fun b hb _ => Below.heap_setCell _ _ _ _ (by have := hb.1; show b ≠ w.heap.size + 1; omega)) (fun b hb _ => hb.same (Below.heap_setCell _ _ _ _ (by have := hb.1; show b ≠ w.heap.size + 1; omega)))
      have HS9 := Lib.hid (HS8.out.setv (.slice al ps.length cl))
      obtain ⟨x0', x1', x2', x3', x4'⟩ := five_cells HS8.out.box
      obtain ⟨f0, f1, f2, f3, f4⟩ := five_free HS8.out.box
      have HL9 := Lib.hid hl9
      clear hs8 hf8 hl8 hl9 HWT HML
      go_upto_region 50 with fail
      obtain ⟨W9, hW9⟩ : ∃ W9, W9 = w8.setCell ⟨w.heap.size + 1, 4, none⟩ (.slice al ps.length cl) := ⟨_, rfl⟩
      rw [← hW9] at HS9 HL9
      rw [← hW9]
      clear hW9 x0' x1' x2' x3' x4' f0 f1 f2 f3 f4 HS8 HSD
      have hR' := HR.out
      have HE := Lib.hid (tend (D := w.heap.size + 2) (x := Tm.mk k i j n (ps.map fun p : Tm × Value => p.1)) HS9.out.res HS9.out.st HS9.out.nm HS9.out.fr (by omega) HL9.out (tm_fine (by omega) (by omega) (by omega) (by omega)))
      clear hR'
      obtain ⟨x0', x1', x2', x3', x4'⟩ := five_cells HS9.out.box
      change W9.cell? ⟨w.heap.size + 1, 0, none⟩ = some (.int .i64 k) at x0'
      change W9.cell? ⟨w.heap.size + 1, 1, none⟩ = some (.int .i64 i) at x1'
      change W9.cell? ⟨w.heap.size + 1, 2, none⟩ = some (.int .i64 j) at x2'
      change W9.cell? ⟨w.heap.size + 1, 3, none⟩ = some (.int .i64 n) at x3'
      obtain ⟨z0, z1, z2, z3, z4⟩ := five_cells HS9.out.res
      obtain ⟨g0, g1, g2, g3, g4⟩ := five_free HS9.out.res
      have hz9 := HS9.out.res
      go_wp2
      (try simp only [Exit.inBlock, Exit.then])
      refine bodyPost_ret (results_cell_row rfl _ _ w.heap.size _ _ _ du rfl (five_set hz9) hu1 (by cases du <;> first | rfl | exact hu2) size_term) rfl ?_
      rw [HKN.out, HKD.out]
      exact HE.out
end Go.Proofs.YtpekceadjcbphaaDoor.Rt

namespace Go.Proofs.YtpekceadjcbphaaDoor.Rt
open Go.RowKit
open Dv (XS kindAt wordAt placeAt wantX rrO rrX badV PTok hltD typeD)

/-- What stands by while a term is read: the result's block. -/
structure StandR (c : PR) (w : World) (nv : Value) (s : XS) (N : Names) (w' : World) : Prop where
  res : w'.heap[w.heap.size]? = some zeroObj
  st : RS c nv s w'
  nm : NR w' nv N
  fr : Fw c w w'
  hR : c.R < w.heap.size
theorem StandR.call {c : PR} {w w' wn : World} {nv nv1 : Value} {s s1 : XS} {N N1 : Names} (h : StandR c w nv s N w') (hs : RS c nv1 s1 wn) (hn : NR wn nv1 N1) (hf : Fw c w' wn) : StandR c w nv1 s1 N1 wn :=
  ⟨(hf.block _ (hltD h.res) (fun e => by have := Option.some.inj e; have := h.hR; omega)).trans h.res, hs, hn, h.fr.trans hf, h.hR⟩
theorem StandR.keepn {c : PR} {w w' wn : World} {nv : Value} {s s1 : XS} {N : Names} (h : StandR c w nv s N w') (hs : RS c nv s1 wn) (hf : Fw c w' wn) : StandR c w nv s1 N wn := h.call hs (h.nm.fw h.st hf) hf
theorem StandR.same {c : PR} {w w' wn : World} {nv : Value} {s : XS} {N : Names} (h : StandR c w nv s N w') (hg : w'.grownBy wn none) : StandR c w nv s N wn := h.keepn (h.st.same hg) (Fw.same (Fw.refl c w') hg)
theorem list_range {L : List Tok} {so : Int} {s : XS} (h : listK L so s ≠ 0) : listK L so s = 1 ∨ (3 ≤ listK L so s ∧ listK L so s ≤ 23) := by
  have h2 := (listK_kind h).2
  rcases headN_form (wordAt L s.p) with e | e | e
  · exact absurd (h2.trans e) h
  · exact Or.inl (h2.trans e)
  · exact Or.inr (by rw [h2]; exact e)
def ot7_0 : Oper := { dst := some 26, op := Go.Op.move (Go.Operand.tmp 0), type := 50, pos := "ref.go:141", after := #[], guard := none }
def ot7_1 : Oper := { dst := some 27, op := Go.Op.nilCheck (Go.Operand.tmp 26), type := 0, pos := "ref.go:141", after := #[{ on := 0, ground := Go.Ground.data }], guard := none }
def ot7_2 : Oper := { dst := some 28, op := Go.Op.fieldAddr 52 (Go.Operand.tmp 27) 5, type := 0, pos := "ref.go:141", after := #[{ on := 1, ground := Go.Ground.data }], guard := none }
def ot7_3 : Oper := { dst := some 29, op := Go.Op.load 22 (Go.Operand.tmp 28), type := 22, pos := "ref.go:141", after := #[{ on := 2, ground := Go.Ground.data }], guard := none }
def ot7_4 : Oper := { dst := some 30, op := Go.Op.move (Go.Operand.tmp 5), type := 3, pos := "ref.go:141", after := #[], guard := none }
def ot7_5 : Oper := { dst := some 31, op := Go.Op.indexAddr 22 (Go.Operand.tmp 29) (Go.Operand.tmp 30), type := 0, pos := "ref.go:141", after := #[{ on := 3, ground := Go.Ground.data }, { on := 4, ground := Go.Ground.data }], guard := none }
def ot7_6 : Oper := { dst := some 32, op := Go.Op.load 9 (Go.Operand.tmp 31), type := 9, pos := "ref.go:141", after := #[{ on := 5, ground := Go.Ground.data }], guard := none }
def ot7_7 : Oper := { dst := some 33, op := Go.Op.move (Go.Operand.tmp 0), type := 50, pos := "ref.go:141", after := #[], guard := none }
def ot7_8 : Oper := { dst := some 34, op := Go.Op.call { callee := Go.Callee.value (Go.Operand.func 43), args := #[Go.Operand.tmp 33], argTypes := #[50] }, type := 9, pos := "ref.go:141", after := #[{ on := 7, ground := Go.Ground.data }], guard := none }
def ot7_9 : Oper := { dst := some 35, op := Go.Op.binOp Go.BinOp.eql 9 (Go.Operand.tmp 32) (Go.Operand.tmp 34) 9, type := 4, pos := "ref.go:141", after := #[{ on := 6, ground := Go.Ground.data }, { on := 8, ground := Go.Ground.data }], guard := none }
set_option maxHeartbeats 8000000 in
set_option maxRecDepth 20000 in
theorem rterm_step (c : PR) (f : Nat) (hlen : c.L.length ≤ 1000000) (htl : ∀ t ∈ c.L, t.s.length ≤ 10000000) (hne : ∀ t ∈ c.L, t.k = 3 → t.s ≠ []) (hi : 0 ≤ c.i ∧ c.i ≤ 1000) (hj : 0 ≤ c.j ∧ c.j ≤ 1000) (hT : TermC c f (termX c.L c.i c.j f)) : TermC c (f + 1) (termX c.L c.i c.j (f + 1)) := by
  refine ⟨?_⟩
  intro so N nv s w hso hx hf hN h hn
  obtain ⟨du, hu1, hu2⟩ := under_term
  have HBODY := Lib.hid (fun k hk N nv s w hx hf hN h hn => rbody_any c f (levX c.L c.i c.j f) (termX c.L c.i c.j f) (rlevel_any c hlen htl hi hj f) (levX_keep hi hj f) hT (termX_keep hi hj f) hlen k hk N nv s w hx hf hN h hn)
  have HNE := Lib.hid hne
  have HSO := Lib.hid hso
  have HI := Lib.hid hx
  have hp := hx.p
  have HFU := Lib.hid hf
  have HNL := Lib.hid hN
  have HB0 := Lib.hid (show StandR c w nv s N (w.alloc zeroObj) from by
    have hg := below_gr ((Below.refl w.heap.size w).alloc (Nat.le_refl _) zeroObj)
    exact ⟨alloc_new _ _, h.same hg, hn.same hg, Fw.same (Fw.refl c w) hg, h.lt⟩)
  clear hT hne hso hx hf hN h hn htl
  obtain ⟨X, hX⟩ : ∃ X, termX c.L c.i c.j (f + 1) so N s = X := ⟨_, rfl⟩
  rw [hX]
  cases hb : s.bad with
  | some b =>
    have HXX := Lib.hid (show (Tm.zero, s) = X from (termX_sticks _ _ _ _ _ _ _ _ hb).symm.trans hX)
    obtain ⟨c0, c1, c2, c3, c4, c5⟩ := HB0.out.st.cells
    rw [hb] at c2
    unfold badV at c2
    have h0 : (0 : Int) ≤ (b : Int) := by omega
    obtain ⟨z0, z1, z2, z3, z4⟩ := five_cells HB0.out.res
    obtain ⟨g0, g1, g2, g3, g4⟩ := five_free HB0.out.res
    have hz := HB0.out.res
    have HE := Lib.hid (tend_zero HB0.out.st HB0.out.nm HB0.out.fr)
    clear hX hb
    go_enter Tryd.func23, Tryd.ntmps23
    go_wp2
    refine bodyPost_ret (results_cell_row rfl _ _ w.heap.size _ _ _ du rfl hz hu1 (by cases du <;> first | rfl | exact hu2) size_term) rfl ?_
    rw [← HXX.out]
    exact HE.out
  | none =>
  unfold termX at hX
  rw [hb] at hX
  dsimp only at hX
  have HX := Lib.hid hX
  obtain ⟨c0, c1, c2, c3, c4, c5⟩ := HB0.out.st.cells
  rw [hb] at c2
  unfold badV at c2
  have HBN := Lib.hid hb
  clear hX hb
  go_enter Tryd.func23, Tryd.ntmps23
  go_wp2_with fail
  refine HB0.out.st.kind.mono ?_
  rintro e w1 ⟨rfl, hs, hg⟩
  have HB1 := Lib.hid (HB0.out.same hg)
  clear hs hg c0 c1 c2 c3 c4 c5 HB0
  by_cases hk3 : kindAt c.L s.p = 3
  · have hki : ((kindAt c.L s.p : Nat) : Int) = 3 := by omega
    rw [hki]
    obtain ⟨wd, hwd⟩ : ∃ wd, wordAt c.L s.p = wd := ⟨_, rfl⟩
    have HX3 := Lib.hid (show (match idxL wd N with | some q => (Tm.mk 2 q 0 0 [], s.next) | none => (Tm.zero, s.fail)) = X by rw [← HX.out, if_pos hk3, hwd]; (try rfl))
    obtain ⟨ga, cap, rfl, hc1, hc2⟩ := HB1.out.nm.slc
    obtain ⟨c0, c1, c2, c3, c4, c5⟩ := HB1.out.st.cells
    have hNs : N.length ≤ 50000000 := by have := HNL.out; omega
    have hw2 : IntKind.i64.wrap ((N.length : Int) - 1) = (N.length : Int) - 1 := IntWalk.i64_in _ (by omega)
    clear HX hk3 hki
    go_wp2_with fail
    go_loopw [5] (fun iv wr => ∃ (p : Nat) (x : Int), p ≤ N.length ∧ iv = .int .i64 x ∧ x = (p : Int) - 1 ∧ Hid (idxL wd N = (idxL wd (N.drop (N.length - p))).map (· + (N.length - p))) ∧ Hid (StandR c w (.slice ga N.length cap) s N wr)) (fun iv _ => (intOf iv + 1).toNat)
    case atStart => exact ⟨N.length, (N.length : Int) - 1, Nat.le_refl _, rfl, rfl, Lib.hid (by rw [Nat.sub_self, List.drop_zero]; cases idxL wd N <;> rfl), HB1⟩
    case round =>
      clear c0 c1 c2 c3 c4 c5 HB1
      obtain ⟨p0, x, hp0, rfl, hxp, HNO, HSR⟩ := hrel
      obtain ⟨c0, c1, c2, c3, c4, c5⟩ := HSR.out.st.cells
      by_cases hpz : p0 = 0
      · have HXX := Lib.hid (show (Tm.zero, s.fail) = X by
          have h1 : idxL wd N = none := by rw [HNO.out, hpz, Nat.sub_zero, List.drop_length]; rfl
          rw [← HX3.out, h1])
        obtain rfl : x = -1 := by omega
        clear hpz hxp HNO HX3 hp0 c0 c1 c2 c3 c4 c5
        obtain ⟨c0, c1, c2, c3, c4, c5⟩ := HSR.out.st.cells
        have f1 := HSR.out.st.free 1
        go_wp2_with fail
        refine HSR.out.st.failed.mono ?_
        rintro e wz ⟨rfl, hs, hg⟩
        have HBZ := Lib.hid (HSR.out.keepn hs hg)
        clear hs hg
        clear c0 c1 c2 c3 c4 c5 f1
        obtain ⟨z0, z1, z2, z3, z4⟩ := five_cells HBZ.out.res
        obtain ⟨g0, g1, g2, g3, g4⟩ := five_free HBZ.out.res
        have hz := HBZ.out.res
        have HE := Lib.hid (tend_zero5 HBZ.out.res HBZ.out.st HBZ.out.nm HBZ.out.fr)
        go_wp2
        (try simp only [Exit.inBlock, Exit.then])
        refine bodyPost_ret (results_cell_row rfl _ _ w.heap.size _ _ _ du rfl (five_set hz) hu1 (by cases du <;> first | rfl | exact hu2) size_term) rfl ?_
        rw [← HXX.out]
        exact HE.out
      · obtain ⟨p, rfl⟩ : ∃ p, p0 = p + 1 := ⟨p0 - 1, by omega⟩
        obtain rfl : x = (p : Int) := by omega
        have hpl : p < N.length := hp0
        obtain ⟨g, cap', hgv, -, -, hcs⟩ := HSR.out.nm.cells (fun e => by rw [e] at hpl; exact absurd hpl (Nat.not_lt_zero _))
        obtain rfl : ga = some ⟨g, 0, none⟩ := by cases hgv; rfl
        obtain ⟨y, hy⟩ : ∃ y, N[N.length - (p + 1)]'(by omega) = y := ⟨_, rfl⟩
        have hc : wr.cell? ⟨g, p, none⟩ = some (.string ⟨y.toArray⟩) := by
          have h1 : (N.reverse.map strV)[p]? = some (strV y) := by
            rw [List.getElem?_map, List.getElem?_reverse hpl, show N.length - 1 - p = N.length - (p + 1) by omega, List.getElem?_eq_getElem (by omega : N.length - (p + 1) < N.length), hy]
            rfl
          have h2 := hcs p _ h1
          rw [Addr.add_lit] at h2
          simpa [strV] using h2
        have HD := Lib.hid (show N.drop (N.length - (p + 1)) = y :: N.drop (N.length - (p + 1) + 1) by rw [List.drop_eq_getElem_cons (by omega : N.length - (p + 1) < N.length), hy])
        have HWD := Lib.hid (HSR.out.st.drew.word)
        clear hgv hcs hy hpz hxp hp0
        cases hyx : (y == wd)
        · go_wp2_with fail
          refine wp_region_held_drew (S := fun w' => w'.cell? ⟨c.R, 5, none⟩ = some (.slice (some ⟨g, 0, none⟩) N.length cap) ∧ w'.cell? ⟨g, p, none⟩ = some (.string ⟨y.toArray⟩)) (by kernel_rfl) ?_ (fun hHeld => ?_)
          · (try dsimp only)
            (first | exact ⟨c5, hc⟩ | exact ⟨HSN.out.st.cells.2.2.2.2.2, HCN.out⟩)
          refine take_at 0 26 ot7_0 (v := ?_) (Or.inl ⟨by rfl, ?_⟩) ?_
          rotate_left 1
          · ((intro w hSw; (try dsimp only at hSw); unfold ot7_0; go_simp) <;> with_reducible rfl)
          (try simp only [Act.put, List.setIfInBounds_toArray, List.set_cons_zero, List.set_cons_succ])
          refine take_at 1 27 ot7_1 (v := ?_) (Or.inl ⟨by rfl, ?_⟩) ?_
          rotate_left 1
          · ((intro w hSw; (try dsimp only at hSw); unfold ot7_1; go_simp) <;> with_reducible rfl)
          (try simp only [Act.put, List.setIfInBounds_toArray, List.set_cons_zero, List.set_cons_succ])
          refine take_at 2 28 ot7_2 (v := ?_) (Or.inl ⟨by rfl, ?_⟩) ?_
          rotate_left 1
          · ((intro w hSw; (try dsimp only at hSw); unfold ot7_2; go_simp) <;> with_reducible rfl)
          (try simp only [Act.put, List.setIfInBounds_toArray, List.set_cons_zero, List.set_cons_succ])
          refine take_at 3 29 ot7_3 (v := ?_) (Or.inl ⟨by rfl, ?_⟩) ?_
          rotate_left 1
          · ((intro w hSw; (try dsimp only at hSw); unfold ot7_3; go_simp) <;> with_reducible rfl)
          (try simp only [Act.put, List.setIfInBounds_toArray, List.set_cons_zero, List.set_cons_succ])
          refine take_at 4 30 ot7_4 (v := ?_) (Or.inl ⟨by rfl, ?_⟩) ?_
          rotate_left 1
          · ((intro w hSw; (try dsimp only at hSw); unfold ot7_4; go_simp) <;> with_reducible rfl)
          (try simp only [Act.put, List.setIfInBounds_toArray, List.set_cons_zero, List.set_cons_succ])
          refine take_at 5 31 ot7_5 (v := ?_) (Or.inl ⟨by rfl, ?_⟩) ?_
          rotate_left 1
          · ((intro w hSw; (try dsimp only at hSw); unfold ot7_5; go_simp) <;> with_reducible rfl)
          (try simp only [Act.put, List.setIfInBounds_toArray, List.set_cons_zero, List.set_cons_succ])
          refine take_at 6 32 ot7_6 (v := ?_) (Or.inl ⟨by rfl, ?_⟩) ?_
          rotate_left 1
          · ((intro w hSw; (try dsimp only at hSw); unfold ot7_6; go_simp) <;> with_reducible rfl)
          (try simp only [Act.put, List.setIfInBounds_toArray, List.set_cons_zero, List.set_cons_succ])
          refine take_at 7 33 ot7_7 (v := ?_) (Or.inl ⟨by rfl, ?_⟩) ?_
          rotate_left 1
          · ((intro w hSw; (try dsimp only at hSw); unfold ot7_7; go_simp) <;> with_reducible rfl)
          (try simp only [Act.put, List.setIfInBounds_toArray, List.set_cons_zero, List.set_cons_succ])
          refine wpAnyH_ready (rs := [8]) (by kernel_rfl) (by simp) ?_
          refine AllReadyH.cons (o := ot7_8) rfl (fun K hK => ?_) ?_
          · unfold ot7_8
            go_simp
            (go_at_call 43; with_reducible refine Calls.mono HWD.out ?_)
            rintro e wn ⟨rfl, hs2, hg2⟩
            rw [hwd]
            have HSN := Lib.hid (HSR.out.same ((drew_gr wr).trans hg2))
            have HCN := Lib.hid (cell_gr ((drew_gr wr).trans hg2) hc)
            clear hs2 hg2
            refine hK.out _ _ ?_ (fun hHeld => ?_)
            · (try dsimp only)
              (first | exact ⟨c5, hc⟩ | exact ⟨HSN.out.st.cells.2.2.2.2.2, HCN.out⟩)
            clear hK K
            (try simp only [Act.put, List.setIfInBounds_toArray, List.set_cons_zero, List.set_cons_succ])
            refine take_at 9 35 ot7_9 (v := ?_) (Or.inl ⟨by rfl, ?_⟩) ?_
            rotate_left 1
            · ((intro w hSw; (try dsimp only at hSw); unfold ot7_9; go_simp) <;> with_reducible rfl)
            (try simp only [Act.put, List.setIfInBounds_toArray, List.set_cons_zero, List.set_cons_succ])
            refine wpAnyH_done (by kernel_rfl) ?_ _
            clear hHeld
            have hwp : IntKind.i64.wrap ((p : Int) - 1) = (p : Int) - 1 := IntWalk.i64_in _ (by omega)
            go_wp2_with fail
            go_round
            case rel => exact ⟨p, (p : Int) - 1, by omega, by go_num, rfl, Lib.hid (by
              rw [HNO.out, HD.out]
              simp only [idxL]
              rw [if_neg (by simpa using hyx)]
              have e : N.length - p = N.length - (p + 1) + 1 := by omega
              rw [e]
              cases idxL wd (N.drop (N.length - (p + 1) + 1)) <;> simp; omega), HSN⟩
            case measure => simp [intOf] <;> omega
          exact AllReadyH.nil

        · go_wp2_with fail
          refine wp_region_held_drew (S := fun w' => w'.cell? ⟨c.R, 5, none⟩ = some (.slice (some ⟨g, 0, none⟩) N.length cap) ∧ w'.cell? ⟨g, p, none⟩ = some (.string ⟨y.toArray⟩)) (by kernel_rfl) ?_ (fun hHeld => ?_)
          · (try dsimp only)
            (first | exact ⟨c5, hc⟩ | exact ⟨HSN.out.st.cells.2.2.2.2.2, HCN.out⟩)
          refine take_at 0 26 ot7_0 (v := ?_) (Or.inl ⟨by rfl, ?_⟩) ?_
          rotate_left 1
          · ((intro w hSw; (try dsimp only at hSw); unfold ot7_0; go_simp) <;> with_reducible rfl)
          (try simp only [Act.put, List.setIfInBounds_toArray, List.set_cons_zero, List.set_cons_succ])
          refine take_at 1 27 ot7_1 (v := ?_) (Or.inl ⟨by rfl, ?_⟩) ?_
          rotate_left 1
          · ((intro w hSw; (try dsimp only at hSw); unfold ot7_1; go_simp) <;> with_reducible rfl)
          (try simp only [Act.put, List.setIfInBounds_toArray, List.set_cons_zero, List.set_cons_succ])
          refine take_at 2 28 ot7_2 (v := ?_) (Or.inl ⟨by rfl, ?_⟩) ?_
          rotate_left 1
          · ((intro w hSw; (try dsimp only at hSw); unfold ot7_2; go_simp) <;> with_reducible rfl)
          (try simp only [Act.put, List.setIfInBounds_toArray, List.set_cons_zero, List.set_cons_succ])
          refine take_at 3 29 ot7_3 (v := ?_) (Or.inl ⟨by rfl, ?_⟩) ?_
          rotate_left 1
          · ((intro w hSw; (try dsimp only at hSw); unfold ot7_3; go_simp) <;> with_reducible rfl)
          (try simp only [Act.put, List.setIfInBounds_toArray, List.set_cons_zero, List.set_cons_succ])
          refine take_at 4 30 ot7_4 (v := ?_) (Or.inl ⟨by rfl, ?_⟩) ?_
          rotate_left 1
          · ((intro w hSw; (try dsimp only at hSw); unfold ot7_4; go_simp) <;> with_reducible rfl)
          (try simp only [Act.put, List.setIfInBounds_toArray, List.set_cons_zero, List.set_cons_succ])
          refine take_at 5 31 ot7_5 (v := ?_) (Or.inl ⟨by rfl, ?_⟩) ?_
          rotate_left 1
          · ((intro w hSw; (try dsimp only at hSw); unfold ot7_5; go_simp) <;> with_reducible rfl)
          (try simp only [Act.put, List.setIfInBounds_toArray, List.set_cons_zero, List.set_cons_succ])
          refine take_at 6 32 ot7_6 (v := ?_) (Or.inl ⟨by rfl, ?_⟩) ?_
          rotate_left 1
          · ((intro w hSw; (try dsimp only at hSw); unfold ot7_6; go_simp) <;> with_reducible rfl)
          (try simp only [Act.put, List.setIfInBounds_toArray, List.set_cons_zero, List.set_cons_succ])
          refine take_at 7 33 ot7_7 (v := ?_) (Or.inl ⟨by rfl, ?_⟩) ?_
          rotate_left 1
          · ((intro w hSw; (try dsimp only at hSw); unfold ot7_7; go_simp) <;> with_reducible rfl)
          (try simp only [Act.put, List.setIfInBounds_toArray, List.set_cons_zero, List.set_cons_succ])
          refine wpAnyH_ready (rs := [8]) (by kernel_rfl) (by simp) ?_
          refine AllReadyH.cons (o := ot7_8) rfl (fun K hK => ?_) ?_
          · unfold ot7_8
            go_simp
            (go_at_call 43; with_reducible refine Calls.mono HWD.out ?_)
            rintro e wn ⟨rfl, hs2, hg2⟩
            rw [hwd]
            have HSN := Lib.hid (HSR.out.same ((drew_gr wr).trans hg2))
            have HCN := Lib.hid (cell_gr ((drew_gr wr).trans hg2) hc)
            clear hs2 hg2
            refine hK.out _ _ ?_ (fun hHeld => ?_)
            · (try dsimp only)
              (first | exact ⟨c5, hc⟩ | exact ⟨HSN.out.st.cells.2.2.2.2.2, HCN.out⟩)
            clear hK K
            (try simp only [Act.put, List.setIfInBounds_toArray, List.set_cons_zero, List.set_cons_succ])
            refine take_at 9 35 ot7_9 (v := ?_) (Or.inl ⟨by rfl, ?_⟩) ?_
            rotate_left 1
            · ((intro w hSw; (try dsimp only at hSw); unfold ot7_9; go_simp) <;> with_reducible rfl)
            (try simp only [Act.put, List.setIfInBounds_toArray, List.set_cons_zero, List.set_cons_succ])
            refine wpAnyH_done (by kernel_rfl) ?_ _
            clear hHeld
            have hst := HSN.out.st.step
            have HSM := Lib.hid (HSN.out.keepn hst.1 hst.2)
            clear hst
            obtain ⟨c0, c1, c2, c3, c4, c5⟩ := HSN.out.st.cells
            have f1 := HSN.out.st.free 1
            have hw1 : IntKind.i64.wrap ((s.p : Int) + 1) = (s.p : Int) + 1 := IntWalk.i64_in _ (by omega)
            have hw2 : IntKind.i64.wrap ((N.length : Int) - 1) = (N.length : Int) - 1 := IntWalk.i64_in _ (by omega)
            have hw3 : IntKind.i64.wrap ((N.length : Int) - 1 - (p : Int)) = ((N.length - (p + 1) : Nat) : Int) := by rw [IntWalk.i64_in _ (by omega)]; omega
            go_upto_region 9 with fail
            obtain ⟨V, hV⟩ : ∃ V, V = wn.setCell ⟨c.R, 1, none⟩ (.int .i64 ((s.p : Int) + 1)) := ⟨_, rfl⟩
            rw [← hV] at HSM
            rw [← hV]
            clear hV
            clear c0 c1 c2 c3 c4 c5 f1
            obtain ⟨c0, c1, c2, c3, c4, c5⟩ := HSM.out.st.cells
            obtain ⟨qn, hqn⟩ : ∃ qn : Nat, N.length - (p + 1) = qn := ⟨_, rfl⟩
            rw [hqn] at hw3
            have hqL : qn ≤ 50000000 := by omega
            have HXX := Lib.hid (show (Tm.mk 2 (qn : Int) 0 0 [], s.next) = X by
              have h1 : idxL wd N = some (N.length - (p + 1)) := by
                rw [HNO.out, HD.out]
                simp only [idxL]
                rw [if_pos (by simpa using hyx)]
                simp
              rw [← HX3.out, h1, hqn])
            clear hqn hyx
            obtain ⟨z0, z1, z2, z3, z4⟩ := five_cells HSM.out.res
            obtain ⟨g0, g1, g2, g3, g4⟩ := five_free HSM.out.res
            have hz := HSM.out.res
            have HE := Lib.hid (tend (D := w.heap.size + 1) (x := Tm.mk 2 (qn : Int) 0 0 []) HSM.out.res HSM.out.st HSM.out.nm HSM.out.fr (by omega) (liesP_nil _ _) (tm_fine (by omega) (by omega) (by omega) (by omega)))
            go_wp2
            (try simp only [Exit.inBlock, Exit.then])
            refine bodyPost_ret (results_cell_row rfl _ _ w.heap.size _ _ _ du rfl (five_set hz) hu1 (by cases du <;> first | rfl | exact hu2) size_term) rfl ?_
            rw [← HXX.out]
            exact HE.out
          exact AllReadyH.nil

  have hki : ¬ ((kindAt c.L s.p : Nat) : Int) = 3 := by omega
  have HW1 := Lib.hid (HB1.out.st.want 1 (by omega))
  by_cases hk1 : kindAt c.L s.p = 1
  case neg =>
    have e1 : wantX c.L 1 s = ([], s.fail) := by unfold wantX; rw [HBN.out]; simp only; rw [if_neg hk1]
    have HXX := Lib.hid (show (Tm.zero, s.fail) = X by rw [← HX.out, if_neg hk3, if_neg hk1])
    rw [e1] at HW1
    clear e1 HX hk1 hk3
    go_wp2_with fail
    refine HW1.out.mono ?_
    rintro e wz ⟨rfl, hs, hg⟩
    have HBZ := Lib.hid (HB1.out.keepn hs hg)
    clear hs hg HW1
    obtain ⟨c0, c1, c2, c3, c4, c5⟩ := HBZ.out.st.cells
    rw [fail_none HBN.out] at c2
    unfold badV at c2
    have h0 : (0 : Int) ≤ (s.p : Int) := by omega
    obtain ⟨z0, z1, z2, z3, z4⟩ := five_cells HBZ.out.res
    obtain ⟨g0, g1, g2, g3, g4⟩ := five_free HBZ.out.res
    have hz := HBZ.out.res
    have HE := Lib.hid (tend_zero5 HBZ.out.res HBZ.out.st HBZ.out.nm HBZ.out.fr)
    go_wp2
    (try simp only [Exit.inBlock, Exit.then])
    refine bodyPost_ret (results_cell_row rfl _ _ w.heap.size _ _ _ du rfl (five_set hz) hu1 (by cases du <;> first | rfl | exact hu2) size_term) rfl ?_
    rw [← HXX.out]
    exact HE.out
  have e1 : wantX c.L 1 s = (wordAt c.L s.p, s.next) := by unfold wantX; rw [HBN.out]; simp only; rw [if_pos hk1]
  rw [e1] at HW1
  have hp1 := kind_lt (L := c.L) (p := s.p) (by omega)
  have HI1 := Lib.hid (HI.out.next (by omega))
  obtain ⟨K, hK⟩ : ∃ K, listK c.L so s.next = K := ⟨_, rfl⟩
  have HX1 := Lib.hid (show (if K = 0 then (Tm.zero, s.next.fail) else bodyX (levX c.L c.i c.j f) (termX c.L c.i c.j f) c.L K N s.next.next) = X by rw [← HX.out, if_neg hk3, if_pos hk1, hK])
  have HKK := Lib.hid hK
  obtain ⟨s1, hs1⟩ : ∃ s1, s1 = s.next := ⟨_, rfl⟩
  have HP1 := Lib.hid (show s1.p = s.p + 1 by rw [hs1]; rfl)
  have HB1N := Lib.hid (show s1.bad = none by rw [hs1]; exact HBN.out)
  rw [← hs1] at HW1 HI1 HX1 HKK
  clear e1 HX hk1 hk3 hK hs1
  go_wp2_with fail
  refine HW1.out.mono ?_
  rintro e w2 ⟨rfl, hs, hg⟩
  have HB2 := Lib.hid (HB1.out.keepn hs hg)
  clear hs hg HW1 HB1
  obtain ⟨c0, c1, c2, c3, c4, c5⟩ := HB2.out.st.cells
  rw [HB1N.out] at c2
  unfold badV at c2
  have HLI := Lib.hid (rlist_any c nv s1 so HSO.out w2 HB2.out.st HNE.out)
  rw [HKK.out] at HLI
  go_wp2_with fail
  refine HLI.out.mono ?_
  rintro e w3 ⟨rfl, hs, hg⟩
  have HB3 := Lib.hid (HB2.out.same hg)
  clear hs hg c0 c1 c2 c3 c4 c5 HLI
  cases hKb : (K == 0)
  case true =>
    have hK0 : K = 0 := by simpa using hKb
    have HXX := Lib.hid (show (Tm.zero, s1.fail) = X by rw [← HX1.out, if_pos hK0])
    clear hK0 HX1
    obtain ⟨c0, c1, c2, c3, c4, c5⟩ := HB3.out.st.cells
    have f1 := HB3.out.st.free 1
    go_wp2_with fail
    refine HB3.out.st.failed.mono ?_
    rintro e wz ⟨rfl, hs, hg⟩
    have HBZ := Lib.hid (HB3.out.keepn hs hg)
    clear hs hg
    clear c0 c1 c2 c3 c4 c5 f1
    obtain ⟨z0, z1, z2, z3, z4⟩ := five_cells HBZ.out.res
    obtain ⟨g0, g1, g2, g3, g4⟩ := five_free HBZ.out.res
    have hz := HBZ.out.res
    have HE := Lib.hid (tend_zero5 HBZ.out.res HBZ.out.st HBZ.out.nm HBZ.out.fr)
    go_wp2
    (try simp only [Exit.inBlock, Exit.then])
    refine bodyPost_ret (results_cell_row rfl _ _ w.heap.size _ _ _ du rfl (five_set hz) hu1 (by cases du <;> first | rfl | exact hu2) size_term) rfl ?_
    rw [← HXX.out]
    exact HE.out
  have HK0 := Lib.hid (show K ≠ 0 by simpa using hKb)
  have HX2 := Lib.hid (show bodyX (levX c.L c.i c.j f) (termX c.L c.i c.j f) c.L K N s1.next = X by rw [← HX1.out, if_neg HK0.out])
  have HKR := Lib.hid (show K = 1 ∨ (3 ≤ K ∧ K ≤ 23) by have h := HK0.out; rw [← HKK.out] at h; rw [← HKK.out]; exact list_range h)
  have HK3 := Lib.hid (show kindAt c.L s1.p = 3 by have h := HK0.out; rw [← HKK.out] at h; exact (listK_kind h).1)
  have HI2 := Lib.hid (HI1.out.next (by rw [HK3.out]; decide))
  have hst := HB3.out.st.step
  have HB4 := Lib.hid (HB3.out.keepn hst.1 hst.2)
  clear hst
  have hw1 : IntKind.i64.wrap ((s1.p : Int) + 1) = (s1.p : Int) + 1 := by have := HP1.out; exact IntWalk.i64_in _ (by omega)
  obtain ⟨c0, c1, c2, c3, c4, c5⟩ := HB3.out.st.cells
  have f1 := HB3.out.st.free 1
  go_upto_region 20 with fail
  obtain ⟨V, hV⟩ : ∃ V, V = w3.setCell ⟨c.R, 1, none⟩ (.int .i64 ((s1.p : Int) + 1)) := ⟨_, rfl⟩
  rw [← hV] at HB4
  rw [← hV]
  clear hV hw1
  clear c0 c1 c2 c3 c4 c5 f1
  have HC := Lib.hid (HBODY.out K HKR.out N nv s1.next V HI2.out (by have := HFU.out; have := HP1.out; show c.L.length + 2 ≤ s1.p + 1 + f; omega) (by have := HNL.out; omega) HB4.out.st HB4.out.nm)
  rw [HX2.out] at HC
  obtain ⟨tr, sr⟩ := X
  go_wp2_with fail
  refine HC.out.mono ?_
  rintro e w5 ⟨sv, nv5, rfl, hl, hfi, hs, hn, hg⟩
  have HB5 := Lib.hid (HB4.out.call hs hn hg)
  have hVs := HB4.out.fr.size
  have hrl := hltD HB4.out.res
  obtain ⟨a2, cap2, rfl, -, -⟩ := hl.out
  obtain ⟨z0, z1, z2, z3, z4⟩ := five_cells HB5.out.res
  obtain ⟨g0, g1, g2, g3, g4⟩ := five_free HB5.out.res
  have hz := HB5.out.res
  have HE := Lib.hid (tend (D := V.heap.size) (x := tr) HB5.out.res HB5.out.st HB5.out.nm HB5.out.fr (by omega) hl hfi)
  clear hl hfi hs hn hg HC
  unfold tv
  go_wp2
  (try simp only [Exit.inBlock, Exit.then])
  refine bodyPost_ret (results_cell_row rfl _ _ w.heap.size _ _ _ du rfl (five_set hz) hu1 (by cases du <;> first | rfl | exact hu2) size_term) rfl ?_
  exact HE.out
theorem rterm_any (c : PR) (hlen : c.L.length ≤ 1000000) (htl : ∀ t ∈ c.L, t.s.length ≤ 10000000) (hne : ∀ t ∈ c.L, t.k = 3 → t.s ≠ []) (hi : 0 ≤ c.i ∧ c.i ≤ 1000) (hj : 0 ≤ c.j ∧ c.j ≤ 1000) : ∀ f, TermC c f (termX c.L c.i c.j f)
  | 0 => ⟨fun so N nv s w _ hx hf _ _ _ => absurd hx.p (by omega)⟩
  | f + 1 => rterm_step c f hlen htl hne hi hj (rterm_any c hlen htl hne hi hj f)
end Go.Proofs.YtpekceadjcbphaaDoor.Rt

namespace Go.Proofs.YtpekceadjcbphaaDoor.Rt
open Go.RowKit
open Dv (XS kindAt wordAt placeAt wantX rrO rrX badV PTok hltD typeD startX here_place)

theorem ptok_of {B : Nat} {w : World} {v : Value} {ts : List Tok} (h : Toks 79 B w v ts) : PTok w ts v := by
  obtain ⟨-, ⟨rfl, hn⟩ | ⟨g, cap, cur, rfl, hg, hh, hnc, hcm, hsz, htk⟩⟩ := h
  · obtain rfl : ts = [] := List.eq_nil_of_length_eq_zero hn
    exact ⟨none, 0, rfl, Nat.le_refl _, by decide, Or.inl rfl⟩
  · exact ⟨_, cap, rfl, hnc, hcm, Or.inr ⟨g, cur, _, rfl, hh, by first | exact htk | simpa using htk⟩⟩
/-- The place of a token, or of what stands behind all of them. -/
def placeV (L : List Tok) (fa : Int) (n p : Nat) : Int := match L[p]? with
  | some t => t.at_
  | none => if 0 ≤ fa then fa else n
theorem place_any (s : ByteArray) (L : List Tok) (v : Value) (fa : Int) (p : Nat) (w : World) (h : PTok w L v) : Calls Tryd.prog 24 #[.string s, v, .int .i64 fa, .int .i64 p] w fun e w' => e = .returned (.int .i64 (placeV L fa s.size p)) ∧ w' = w := by
  obtain ⟨a, cap, rfl, hc⟩ := h.cell
  have HLN := Lib.hid (show L.length ≤ cap ∧ cap ≤ maxLen by obtain ⟨a', cap', e, h1, h2, -⟩ := h; cases e; exact ⟨h1, h2⟩)
  clear h
  by_cases hlt : p < L.length
  · obtain ⟨g, rfl, -, -, k0⟩ := hc p L[p] (List.getElem?_eq_getElem hlt)
    have hk : placeV L fa s.size p = L[p].at_ := by simp [placeV, List.getElem?_eq_getElem hlt]
    rw [hk]
    generalize L[p].at_ = kk at k0
    clear hc hk
    go_enter Tryd.func24, Tryd.ntmps24
    go_wp2
    go_ret
    exact ⟨rfl, rfl⟩
  · have hk : placeV L fa s.size p = if 0 ≤ fa then fa else (s.size : Int) := by simp [placeV, List.getElem?_eq_none (by omega : L.length ≤ p)]
    rw [hk]
    clear hc hk
    by_cases hf : 0 ≤ fa
    · rw [if_pos hf]
      go_enter Tryd.func24, Tryd.ntmps24
      go_wp2
      go_ret
      exact ⟨rfl, rfl⟩
    · rw [if_neg hf]
      go_enter Tryd.func24, Tryd.ntmps24
      go_wp2
      go_ret
      exact ⟨rfl, rfl⟩
theorem lexL_ne {l : List UInt8} : ∀ (n p : Nat), l.length - p ≤ n → ∀ t ∈ (lexL l p).1, t.s ≠ []
  | 0, p, h => by
    rw [lexL_end (by omega)]
    intro t ht; cases ht
  | n + 1, p, h => by
    by_cases h1 : p + skipL (l.drop p) < l.length
    · cases hn : nextL (l.drop (p + skipL (l.drop p))) with
      | none =>
        rw [lexL_fault rfl h1 hn]
        intro t ht; cases ht
      | some x =>
        obtain ⟨k, m⟩ := x
        have hb := (nextL_range hn).2.1
        have hb1 := (nextL_range hn).1
        rw [lexL_next rfl h1 hn]
        intro t ht
        rcases List.mem_cons.1 ht with rfl | ht
        · intro e
          have := congrArg List.length e
          simp only [List.length_take, List.length_nil] at this
          omega
        · exact lexL_ne n _ (by omega) t ht
    · rw [lexL_end h1]
      intro t ht; cases ht
end Go.Proofs.YtpekceadjcbphaaDoor.Rt

namespace Go.Proofs.YtpekceadjcbphaaDoor.Sg
open Rt (termX termX_ok SameR)
open Dv (XS kindAt wordAt placeAt wantX)

/-- The tokens of a piece are those of its text. -/
def lkB (p : List UInt8) (q r : List Tok) : Bool := match lexF (p.length + 1) p 0 with
  | (ts, none) => ts.map (fun t => (t.k, t.s)) == (q.take (q.length - r.length)).map (fun t => (t.k, t.s))
  | _ => false
def parsK (l : List UInt8) : Nat → List Tok → Bool
  | 0, _ => false
  | _ + 1, [] => false
  | f + 1, t :: r =>
    if t.k = 1 then match r with
      | [] => false
      | x :: r1 => match pieceL l r1 with
        | some (p, cl :: r3) => (x.k == 3) && (lkB p r1 (cl :: r3) && ((cl.k == 2) && parsK l f r3))
        | _ => false
    else t.k == 2
def pageK (l : List UInt8) (ts : List Tok) : Bool := match ts with
  | t0 :: t1 :: t2 :: t3 :: r => (t0.k == 1) && ((t1.k == 3) && ((t2.k == 3) && ((t3.k == 1) && (parsK l 30 r && (match parsL l 30 r with
    | some (_, _ :: r2) => match pieceL l r2 with
      | none => false
      | some (ty, r3) => lkB ty r2 r3 && (if t1.s = [100, 101, 102] then (match pieceL l r3 with
          | none => false
          | some (b, r5) => lkB b r3 r5 && (match r5 with
            | tz :: _ => tz.k == 2
            | [] => false))
        else (match r3 with
            | tz :: _ => tz.k == 2
            | [] => false))
    | _ => false)))))
  | _ => false
def pageOk (l : List UInt8) : Bool := match lexF (l.length + 1) l 0 with
  | (ts, none) => pageK l ts
  | _ => false
theorem clos_suf {la : Tok} {r2 : List Tok} : ∀ {r : List Tok} {d : Nat} {t : Tok}, clos r d t = some (la, r2) → ∃ pre, r = pre ++ r2
  | [], d, t, h => by
    unfold clos at h
    split at h
    · cases h; exact ⟨[], rfl⟩
    · cases h
  | x :: r, d, t, h => by
    unfold clos at h
    split at h
    · cases h; exact ⟨[], rfl⟩
    · have go : ∀ {d' : Nat} {t' : Tok}, clos r d' t' = some (la, r2) → ∃ pre, x :: r = pre ++ r2 := fun h' => by
        obtain ⟨pre, e⟩ := clos_suf h'
        exact ⟨x :: pre, by rw [e]; rfl⟩
      split at h
      · exact go h
      · split at h
        · exact go h
        · exact go h
theorem pieceL_suf {l : List UInt8} {q r : List Tok} {p : List UInt8} (h : pieceL l q = some (p, r)) : q = q.take (q.length - r.length) ++ r := by
  cases q with
  | nil => cases h
  | cons t q =>
    obtain ⟨la, hcl, -, -, -⟩ := pieceL_some h
    obtain ⟨pre, e⟩ := clos_suf hcl
    have e2 : t :: q = (t :: pre) ++ r := by rw [e]; rfl
    rw [e2, List.length_append, Nat.add_sub_cancel, List.take_left']
    rfl
theorem lk_of {p : List UInt8} {q r : List Tok} (h : lkB p q r = true) : Lk (ofL p).1 (q.take (q.length - r.length)) := by
  have e1 : (ofL p).1 = (lexF (p.length + 1) p 0).1 := by rw [ofL_eq, lexL_F]
  unfold lkB at h
  split at h
  · rename_i ts hx
    rw [e1, hx]
    have := beq_iff_eq.1 h
    exact this
  · cases h
theorem bodyP_kind {lv : List Tok → Except Nat (Int × List Tok)} {tp : Int → Names → List Tok → Except Nat (Tm × List Tok)} {E : Nat} {k : Int} {N : Names} {ts r : List Tok} {t : Tm} (h : bodyP lv tp E k N ts = .ok (t, r)) : t.k = k := by
  unfold bodyP at h
  split at h; · cases h
  split at h; · cases h
  split at h; · cases h
  split at h; · cases h
  split at h; · cases h
  cases h
  rfl
/-- Read as any sort and plain: read as a plain term. -/
theorem term02 {E f : Nat} {i j : Int} {N : Names} {ts r : List Tok} {t : Tm} (h : termP E i j f 0 N ts = .ok (t, r)) (hk : 12 < t.k ∨ t.k = 2 ∨ t.k = 1) : termP E i j f 2 N ts = .ok (t, r) := by
  cases f with
  | zero => cases ts <;> cases h
  | succ f =>
    cases ts with
    | nil => cases h
    | cons u ts =>
      unfold termP at h ⊢
      by_cases h1 : u.k = 1
      · rw [if_pos h1] at h ⊢
        unfold listP at h ⊢
        split at h; · cases h
        rename_i w r1 h2
        by_cases hc : headN w.s = 0 ∨ (sortN (headN w.s) ≠ 0 ∧ (0 : Int) ≠ 0 ∧ sortN (headN w.s) ≠ 0)
        · rw [if_pos hc] at h; cases h
        · rw [if_neg hc] at h
          have hkk := bodyP_kind h
          rw [if_neg]
          · exact h
          · rintro (h3 | ⟨h3, -, h4⟩)
            · exact hc (Or.inl h3)
            · unfold sortN at h3 h4
              rw [← hkk] at h3 h4
              split at h3
              · exact h3 rfl
              · rename_i h5
                rw [if_neg h5] at h4
                split at h4
                · omega
                · exact h4 rfl
      · rw [if_neg h1] at h ⊢
        exact h
/-- A piece of a line, read where it stands. -/
theorem piece_page {l p : List UInt8} {q r : List Tok} {N : Names} (hp : pieceL l q = some (p, r)) (hl : p.length ≤ 10000000) (hn : N.length ≤ 10000000) (hg : goodF p N = true) (hk : lkB p q r = true) {i j : Int} (hi : 0 ≤ i ∧ i ≤ 999) (hj : 0 ≤ j ∧ j ≤ 999) {E f : Nat} (hf : q.length + 1 ≤ f) : termP E i j f 2 N.reverse q = .ok (outT (readB p N i j), r) := by
  obtain ⟨t0, h0, h2⟩ := good_read hg hl hn
  obtain ⟨t, h3, h4, -, -⟩ := h2 i j hi hj
  have hk0 : 12 < t0.k ∨ t0.k = 2 ∨ t0.k = 1 := by
    unfold goodF at hg
    obtain ⟨-, h0'⟩ := readB_ok h0
    rw [readF_eq] at h0'
    rw [h0'] at hg
    simpa using hg
  have hkk := h4.k
  rw [h3]
  obtain ⟨-, h5⟩ := readB_ok h3
  unfold readT at h5
  split at h5
  · cases h5
  · rename_i u rr he
    split at h5
    · cases h5
    · rename_i hend
      cases h5
      have hr : rr = [] := by
        unfold endP at hend
        split at hend
        · rename_i hc; exact hc.1
        · cases hend
      subst hr
      have hlk := lk_of hk
      have hll : (ofL p).1.length + 1 ≤ f := by
        have e := congrArg List.length hlk
        simp only [List.length_map, List.length_take] at e
        omega
      obtain ⟨r1, e1, e2⟩ := termP_fol (E := (ofL p).2.1) (E' := E) (i := i) (j := j) hll 0 N.reverse _ _ _ _ r he hlk
      rw [e2.nil, List.nil_append, ← pieceL_suf hp] at e1
      exact term02 e1 (hkk ▸ hk0)
theorem parsK_go {l : List UInt8} {f : Nat} {t x cl : Tok} {r1 r3 : List Tok} {p : List UInt8} (hk : t.k = 1) (hp : pieceL l r1 = some (p, cl :: r3)) (h : parsK l (f + 1) (t :: x :: r1) = true) : x.k = 3 ∧ lkB p r1 (cl :: r3) = true ∧ cl.k = 2 ∧ parsK l f r3 = true := by
  unfold parsK at h
  rw [if_pos hk] at h
  dsimp only at h
  rw [hp] at h
  dsimp only at h
  rw [Bool.and_eq_true, Bool.and_eq_true, Bool.and_eq_true] at h
  exact ⟨by simpa using h.1, h.2.1, by simpa using h.2.2.1, h.2.2.2⟩
theorem parsK_stop {l : List UInt8} {f : Nat} {t : Tok} {r : List Tok} (hk : t.k ≠ 1) (h : parsK l (f + 1) (t :: r) = true) : t.k = 2 := by
  unfold parsK at h
  rw [if_neg hk] at h
  simpa using h
/-- A line's plan taken apart, with what the page asks of the tokens. -/
theorem pageK_some {l : List UInt8} {ts : List Tok} {pl : Plan} (h : planL l ts = some pl) (hq : pageK l ts = true) : ∃ t0 t1 t2 t3 r te r2 r3, ts = t0 :: t1 :: t2 :: t3 :: r ∧ (t0.k = 1 ∧ t1.k = 3 ∧ t2.k = 3 ∧ t3.k = 1) ∧ parsL l 30 r = some (pl.pars, te :: r2) ∧ parsK l 30 r = true ∧ pieceL l r2 = some (pl.type, r3) ∧ lkB pl.type r2 r3 = true ∧ pl.name = t2.s ∧ pl.defn = decide (t1.s = [100, 101, 102]) ∧ (pl.defn = true → ∃ b tz r6, pieceL l r3 = some (b, tz :: r6) ∧ lkB b r3 (tz :: r6) = true ∧ tz.k = 2 ∧ pl.body = some b) ∧ (pl.defn = false → pl.body = none ∧ ∃ tz r6, r3 = tz :: r6 ∧ tz.k = 2) := by
  obtain ⟨t0, t1, t2, t3, r, te, r2, r3, rfl, hps, hty, hnm, hdf, hbd, hnb⟩ := planL_some h
  unfold pageK at hq
  dsimp only at hq
  rw [Bool.and_eq_true, Bool.and_eq_true, Bool.and_eq_true, Bool.and_eq_true, Bool.and_eq_true, hps] at hq
  dsimp only at hq
  rw [hty] at hq
  dsimp only at hq
  obtain ⟨k0, k1, k2, k3, kp, kr⟩ := hq
  rw [Bool.and_eq_true] at kr
  refine ⟨t0, t1, t2, t3, r, te, r2, r3, rfl, ⟨by simpa using k0, by simpa using k1, by simpa using k2, by simpa using k3⟩, hps, kp, hty, kr.1, hnm, hdf, fun hd => ?_, fun hd => ?_⟩
  · obtain ⟨b, r5, hb, hpb⟩ := hbd hd
    have hs : t1.s = [100, 101, 102] := by rw [hdf] at hd; exact of_decide_eq_true hd
    have k4 := kr.2
    rw [if_pos hs, hb] at k4
    dsimp only at k4
    rw [Bool.and_eq_true] at k4
    cases r5 with
    | nil => exact absurd k4.2 (by simp)
    | cons tz r6 => exact ⟨b, tz, r6, hb, k4.1, by simpa using k4.2, hpb⟩
  · have hs : ¬ t1.s = [100, 101, 102] := by rw [hdf] at hd; exact of_decide_eq_false hd
    have k4 := kr.2
    rw [if_neg hs] at k4
    refine ⟨hnb hd, ?_⟩
    cases r3 with
    | nil => exact absurd k4 (by simp)
    | cons tz r6 => exact ⟨tz, r6, rfl, by simpa using k4⟩
set_option maxRecDepth 100000
theorem pageok1 : pageOk lib1 = true := by kernel_rfl
theorem pageok2 : pageOk lib2 = true := by kernel_rfl
theorem pageok3 : pageOk lib3 = true := by kernel_rfl
theorem pageok4 : pageOk lib4 = true := by kernel_rfl
theorem pageok5 : pageOk lib5 = true := by kernel_rfl
theorem pageok6 : pageOk lib6 = true := by kernel_rfl
theorem pageok7 : pageOk lib7 = true := by kernel_rfl
theorem pageok8 : pageOk lib8 = true := by kernel_rfl
theorem pageok9 : pageOk lib9 = true := by kernel_rfl
theorem pageok10 : pageOk lib10 = true := by kernel_rfl
theorem pageok11 : pageOk lib11 = true := by kernel_rfl
theorem pageok12 : pageOk lib12 = true := by kernel_rfl
theorem pageok13 : pageOk lib13 = true := by kernel_rfl
theorem pageok14 : pageOk lib14 = true := by kernel_rfl
theorem pageok15 : pageOk lib15 = true := by kernel_rfl
theorem pageok16 : pageOk lib16 = true := by kernel_rfl
theorem pageok17 : pageOk lib17 = true := by kernel_rfl
theorem pageok18 : pageOk lib18 = true := by kernel_rfl
theorem pageok19 : pageOk lib19 = true := by kernel_rfl
theorem pageok20 : pageOk lib20 = true := by kernel_rfl
theorem pageok21 : pageOk lib21 = true := by kernel_rfl
theorem page_ok : ∀ l ∈ libL, pageOk l = true := by
  intro l hl
  simp only [libL, List.mem_cons, List.not_mem_nil, or_false] at hl
  rcases hl with rfl | rfl | rfl | rfl | rfl | rfl | rfl | rfl | rfl | rfl | rfl | rfl | rfl | rfl | rfl | rfl | rfl | rfl | rfl | rfl | rfl
  · exact pageok1
  · exact pageok2
  · exact pageok3
  · exact pageok4
  · exact pageok5
  · exact pageok6
  · exact pageok7
  · exact pageok8
  · exact pageok9
  · exact pageok10
  · exact pageok11
  · exact pageok12
  · exact pageok13
  · exact pageok14
  · exact pageok15
  · exact pageok16
  · exact pageok17
  · exact pageok18
  · exact pageok19
  · exact pageok20
  · exact pageok21
theorem page_lib {n : Nat} {l : List UInt8} {ts : List Tok} (hl : libL[n]? = some l) (hx : lexL l 0 = (ts, none)) : pageK l ts = true := by
  have h := page_ok l (List.mem_of_getElem? hl)
  unfold pageOk at h
  rw [← lexL_F, hx] at h
  exact h
/-- Where the Reader stands: no fault, these tokens to come. -/
structure At (L : List Tok) (s : XS) (q : List Tok) : Prop where
  bad : s.bad = none
  drop : L.drop s.p = q
  lt : s.p ≤ L.length
theorem At.want {L : List Tok} {s : XS} {t : Tok} {r : List Tok} {k : Nat} (h : At L s (t :: r)) (hk : t.k = k) : (wantX L k s).1 = t.s ∧ At L (wantX L k s).2 r := by
  have hlt : s.p < L.length := by
    rcases Nat.lt_or_ge s.p L.length with h1 | h1
    · exact h1
    · have := h.drop; rw [List.drop_eq_nil_of_le h1] at this; cases this
  have hg : L[s.p]? = some t := by
    have := congrArg (fun x : List Tok => x[0]?) h.drop
    simpa using this
  have hka : kindAt L s.p = k := by unfold kindAt; rw [hg]; exact hk
  have hwa : wordAt L s.p = t.s := by unfold wordAt; rw [hg]; rfl
  unfold wantX
  rw [h.bad]
  dsimp only
  rw [if_pos hka]
  refine ⟨hwa, ⟨h.bad, ?_, hlt⟩⟩
  show L.drop (s.p + 1) = r
  rw [← List.drop_drop, h.drop]
  rfl
theorem At.kind {L : List Tok} {s : XS} {t : Tok} {r : List Tok} (h : At L s (t :: r)) : kindAt L s.p = t.k := by
  have hg : L[s.p]? = some t := by
    have := congrArg (fun x : List Tok => x[0]?) h.drop
    simpa using this
  unfold kindAt
  rw [hg]
  rfl
theorem At.next {L : List Tok} {s : XS} {t : Tok} {r : List Tok} (h : At L s (t :: r)) : At L s.next r := by
  have hlt : s.p < L.length := by
    rcases Nat.lt_or_ge s.p L.length with h1 | h1
    · exact h1
    · have := h.drop; rw [List.drop_eq_nil_of_le h1] at this; cases this
  exact ⟨h.bad, by show L.drop (s.p + 1) = r; rw [← List.drop_drop, h.drop]; rfl, hlt⟩
theorem At.ix {L : List Tok} {s : XS} {q : List Tok} (h : At L s q) : Rt.IX L s := ⟨h.lt, fun b e => by rw [h.bad] at e; cases e⟩
theorem At.len {L : List Tok} {s : XS} {q : List Tok} (h : At L s q) : q.length = L.length - s.p := by rw [← h.drop, List.length_drop]
/-- The page's Reader reads a piece. -/
theorem At.term {L : List Tok} {s : XS} {l p : List UInt8} {q r : List Tok} {N : Names} (h : At L s q) (hp : pieceL l q = some (p, r)) (hl : p.length ≤ 10000000) (hn : N.length ≤ 10000000) (hg : goodF p N = true) (hk : lkB p q r = true) {i j : Int} (hi : 0 ≤ i ∧ i ≤ 999) (hj : 0 ≤ j ∧ j ≤ 999) : (termX L i j (L.length + 1) 2 N.reverse s).1 = outT (readB p N i j) ∧ At L (termX L i j (L.length + 1) 2 N.reverse s).2 r := by
  have h1 := termX_ok (L := L) (E := 0) (i := i) (j := j) (L.length + 1) 2 N.reverse s h.bad
  rw [h.drop, piece_page hp hl hn hg hk hi hj (E := 0) (f := L.length + 1) (by have := h.len; omega)] at h1
  have hi' : 0 ≤ i ∧ i ≤ 1000 := by omega
  have hj' : 0 ≤ j ∧ j ≤ 1000 := by omega
  have hix := (Rt.termX_keep (L := L) hi' hj' (L.length + 1)).keep 2 N.reverse s h.ix
  exact ⟨h1.1, ⟨h1.2.1, h1.2.2, hix.p⟩⟩
end Go.Proofs.YtpekceadjcbphaaDoor.Sg

namespace Go.Proofs.YtpekceadjcbphaaDoor.Sg
open Go.RowKit Go.Maps Go.ChangeShapes
open Rt (PR RS NR Fw strV below_gr below_of rpush_any TermG)
open Dv (hltD typeD XS wantX rrX rrO PTok kindAt)

theorem rs_kt {c : PR} {nv : Value} {s : XS} {w w' : World} (h : RS c nv s w) (h1 : KT 52 w w') (h2 : KT 79 w w') : RS c nv s w' := by
  refine ⟨?_, h.tok.keep fun g cs fz e => (h2 g cs fz e).trans e⟩
  have r := h.rd
  unfold rrX rrO at r ⊢
  exact (h1 _ _ _ r).trans r
theorem nr_kt {w w' : World} {nv : Value} {N : Names} (h : NR w nv N) (h3 : KT 9 w w') : NR w' nv N := by
  rcases h with h | ⟨g, cap, cur, e, hh, r⟩
  · exact Or.inl h
  · exact Or.inr ⟨g, cap, cur, e, (h3 _ _ _ hh).trans hh, r⟩
theorem kt_fw {T : TypeId} {c : PR} {nv : Value} {s : XS} {w w' : World} (h : RS c nv s w) (hg : Fw c w w') (hT : 52 ≠ T) : KT T w w' := by
  have r := h.rd
  unfold rrX rrO at r
  exact kt_gr r hT hg
theorem fw_below {c : PR} {w w' : World} {B : Nat} (h : Fw c w w') (hB : B ≤ c.R ∧ B ≤ w.heap.size) : Below B w w' := ⟨h.os, h.tape, h.output, h.size, fun k hk => h.block k (by omega) (fun e => by have e2 : k = c.R := Option.some.inj e; omega)⟩
structure PS (w0 : World) (c : PR) (nv : Value) (s : XS) (N : Names) (w : World) : Prop where
  res : w.heap[w0.heap.size]? = some (.cells zSymA 37 (0, 0))
  st : RS c nv s w
  nm : NR w nv N
  bel : Below w0.heap.size w0 w
  h1 : w0.heap.size < c.R
theorem PS.fw {w0 w w' : World} {c : PR} {nv nv' : Value} {s s' : XS} {N N' : Names} (h : PS w0 c nv s N w) (hs : RS c nv' s' w') (hn : NR w' nv' N') (hg : Fw c w w') : PS w0 c nv' s' N' w' :=
  ⟨(hg.block _ (hltD h.res) (fun e => by have e2 : w0.heap.size = c.R := Option.some.inj e; have := h.h1; omega)).trans h.res, hs, hn, h.bel.trans (fw_below hg ⟨Nat.le_of_lt h.h1, h.bel.size⟩), h.h1⟩
theorem PS.same {w0 w w' : World} {c : PR} {nv : Value} {s : XS} {N : Names} (h : PS w0 c nv s N w) (hg : w.grownBy w' none) : PS w0 c nv s N w' :=
  ⟨(hg.block _ (hltD h.res) (by simp)).trans h.res, h.st.same hg, h.nm.same hg, h.bel.trans ((below_of hg).mono h.bel.size), h.h1⟩
structure PQ (w0 : World) (c : PR) (nS : Nat) (sy : Array Value) (nv : Value) (s : XS) (N : Names) (w : World) : Prop where
  a : PS w0 c nv s N w
  sym : w.heap[nS]? = some (.cells sy 37 (0, 0))
  h2 : w0.heap.size < nS
theorem PQ.ne {w0 w : World} {c : PR} {nS : Nat} {sy : Array Value} {nv : Value} {s : XS} {N : Names} (h : PQ w0 c nS sy nv s N w) : nS ≠ c.R := by
  intro e
  have r := h.a.st.rd
  rw [← e] at r
  unfold rrX rrO at r
  exact absurd (typeD h.sym r) (by decide)
theorem PQ.fw {w0 w w' : World} {c : PR} {nS : Nat} {sy : Array Value} {nv nv' : Value} {s s' : XS} {N N' : Names} (h : PQ w0 c nS sy nv s N w) (hs : RS c nv' s' w') (hn : NR w' nv' N') (hg : Fw c w w') : PQ w0 c nS sy nv' s' N' w' :=
  ⟨h.a.fw hs hn hg, (hg.block _ (hltD h.sym) (fun e => h.ne (Option.some.inj e))).trans h.sym, h.h2⟩
theorem PQ.same {w0 w w' : World} {c : PR} {nS : Nat} {sy : Array Value} {nv : Value} {s : XS} {N : Names} (h : PQ w0 c nS sy nv s N w) (hg : w.grownBy w' none) : PQ w0 c nS sy nv s N w' :=
  ⟨h.a.same hg, (hg.block _ (hltD h.sym) (by simp)).trans h.sym, h.h2⟩
theorem PQ.set {w0 w : World} {c : PR} {nS : Nat} {sy : Array Value} {nv : Value} {s : XS} {N : Names} (h : PQ w0 c nS sy nv s N w) (o : Nat) (v : Value) : PQ w0 c nS (sy.setIfInBounds o v) nv s N (w.setCell ⟨nS, o, none⟩ v) ∧ KT 26 w (w.setCell ⟨nS, o, none⟩ v) := by
  have hs := h.sym
  have h2 := h.h2
  refine ⟨⟨⟨?_, rs_kt h.a.st (kt_set hs (by decide)) (kt_set hs (by decide)), nr_kt h.a.nm (kt_set hs (by decide)), below_cell h.a.bel (by omega) o v, h.a.h1⟩, heap_setCell_same _ _ _ _ _ _ hs, h2⟩, kt_set hs (by decide)⟩
  rw [heap_setCell_other _ ⟨nS, o, none⟩ _ v (by show w0.heap.size ≠ nS; omega)]; exact h.a.res
theorem PQ.set5 {w0 w : World} {c : PR} {nS : Nat} {sy : Array Value} {nv : Value} {s : XS} {N : Names} (h : PQ w0 c nS sy nv s N w) (o0 o1 o2 o3 o4 : Nat) (v0 v1 v2 v3 v4 : Value) : PQ w0 c nS (((((sy.setIfInBounds o0 v0).setIfInBounds o1 v1).setIfInBounds o2 v2).setIfInBounds o3 v3).setIfInBounds o4 v4) nv s N (((((w.setCell ⟨nS, o0, none⟩ v0).setCell ⟨nS, o1, none⟩ v1).setCell ⟨nS, o2, none⟩ v2).setCell ⟨nS, o3, none⟩ v3).setCell ⟨nS, o4, none⟩ v4) ∧ KT 26 w (((((w.setCell ⟨nS, o0, none⟩ v0).setCell ⟨nS, o1, none⟩ v1).setCell ⟨nS, o2, none⟩ v2).setCell ⟨nS, o3, none⟩ v3).setCell ⟨nS, o4, none⟩ v4) := by
  have a := h.set o0 v0
  have b := a.1.set o1 v1
  have c := b.1.set o2 v2
  have d := c.1.set o3 v3
  have e := d.1.set o4 v4
  exact ⟨e.1, (((a.2.trans b.2).trans c.2).trans d.2).trans e.2⟩
theorem PQ.row {w0 w w' : World} {c : PR} {nS : Nat} {sy : Array Value} {nv : Value} {s : XS} {N : Names} {v : Value} {n : Nat} {xs : List Value} (h : PQ w0 c nS sy nv s N w) (ho : w.ownsRow (w0.heap.size + 1) 26 5 v n xs) (hg : w.grownBy w' v.ownBlock) : PQ w0 c nS sy nv s N w' := by
  have hk := fun (T : TypeId) (hT : 26 ≠ T) => kt_own ho hT hg
  have hB : ∀ k, v.ownBlock = some k → w0.heap.size + 1 ≤ k := by
    intro k e
    obtain ⟨-, ⟨rfl, -⟩ | ⟨g, cap, cur, rfl, h1, -⟩⟩ := ho
    · cases e
    · cases e; exact h1
  refine ⟨⟨(hk _ (by decide) _ _ _ h.a.res).trans h.a.res, rs_kt h.a.st (hk _ (by decide)) (hk _ (by decide)), nr_kt h.a.nm (hk _ (by decide)), ?_, h.a.h1⟩, (hk _ (by decide) _ _ _ h.sym).trans h.sym, h.h2⟩
  exact h.a.bel.grown hg h.a.bel.size (fun k e => by have := hB k e; omega)
/-- A token of a kind is taken. -/
theorem PS.want {w0 w : World} {c : PR} {nv : Value} {s : XS} {N : Names} (h : PS w0 c nv s N w) {t : Tok} {r : List Tok} {k : Nat} (ha : At c.L s (t :: r)) (hk : t.k = k) (hl : c.L.length ≤ 2000) : Calls Tryd.prog 30 #[.pointer (some ⟨c.R, 0, none⟩), .int .i64 k] w fun e w' => e = .returned (.string ⟨t.s.toArray⟩) ∧ ∃ s', PS w0 c nv s' N w' ∧ At c.L s' r ∧ Fw c w w' := by
  have := ha.lt
  refine (h.st.want k (by omega)).mono ?_
  rintro e w' ⟨rfl, hs, hg⟩
  obtain ⟨e1, e2⟩ := ha.want hk
  exact ⟨by rw [e1], _, h.fw hs (h.nm.fw h.st hg) hg, e2, hg⟩
theorem PQ.want {w0 w : World} {c : PR} {nS : Nat} {sy : Array Value} {nv : Value} {s : XS} {N : Names} (h : PQ w0 c nS sy nv s N w) {t : Tok} {r : List Tok} {k : Nat} (ha : At c.L s (t :: r)) (hk : t.k = k) (hl : c.L.length ≤ 2000) : Calls Tryd.prog 30 #[.pointer (some ⟨c.R, 0, none⟩), .int .i64 k] w fun e w' => e = .returned (.string ⟨t.s.toArray⟩) ∧ ∃ s', PQ w0 c nS sy nv s' N w' ∧ At c.L s' r ∧ KT 26 w w' := by
  have := ha.lt
  refine (h.a.st.want k (by omega)).mono ?_
  rintro e w' ⟨rfl, hs, hg⟩
  obtain ⟨e1, e2⟩ := ha.want hk
  exact ⟨by rw [e1], _, h.fw hs (h.a.nm.fw h.a.st hg) hg, e2, kt_fw h.a.st hg (by decide)⟩
theorem PQ.kind {w0 w : World} {c : PR} {nS : Nat} {sy : Array Value} {nv : Value} {s : XS} {N : Names} (h : PQ w0 c nS sy nv s N w) {t : Tok} {r : List Tok} (ha : At c.L s (t :: r)) : Calls Tryd.prog 31 #[.pointer (some ⟨c.R, 0, none⟩)] w fun e w' => e = .returned (.int .i64 (t.k : Nat)) ∧ w.grownBy w' none :=
  h.a.st.kind.mono fun e w' hh => ⟨by rw [hh.1, ha.kind], hh.2.2⟩
theorem PQ.cells {w0 w : World} {c : PR} {nS : Nat} {sy : Array Value} {nv : Value} {s : XS} {N : Names} (h : PQ w0 c nS sy nv s N w) {q : List Tok} (ha : At c.L s q) : w.cell? ⟨c.R, 1, none⟩ = some (.int .i64 s.p) ∧ w.cell? ⟨c.R, 2, none⟩ = some (.int .i64 (-1)) ∧ w.frozen? ⟨c.R, 1, none⟩ = false := by
  obtain ⟨c0, c1, c2, c3, c4, c5⟩ := h.a.st.cells
  rw [ha.bad] at c2
  exact ⟨c1, c2, h.a.st.free 1⟩
theorem PQ.next {w0 w : World} {c : PR} {nS : Nat} {sy : Array Value} {nv : Value} {s : XS} {N : Names} (h : PQ w0 c nS sy nv s N w) : PQ w0 c nS sy nv s.next N (w.setCell ⟨c.R, 1, none⟩ (.int .i64 ((s.p : Int) + 1))) ∧ KT 26 w (w.setCell ⟨c.R, 1, none⟩ (.int .i64 ((s.p : Int) + 1))) := by
  obtain ⟨h1, h2⟩ := h.a.st.step
  exact ⟨h.fw h1 (h.a.nm.fw h.a.st h2) h2, kt_fw h.a.st h2 (by decide)⟩
/-- What holds of the line: few tokens, short words, none empty; the levels. -/
structure PL (c : PR) (i j : Int) : Prop where
  len : c.L.length ≤ 2000
  sh : ∀ t ∈ c.L, t.s.length ≤ 2000
  ne : ∀ t ∈ c.L, t.k = 3 → t.s ≠ []
  ci : c.i = i
  cj : c.j = j
  hi : 0 ≤ i ∧ i ≤ 999
  hj : 0 ≤ j ∧ j ≤ 999
theorem PQ.term {w0 w : World} {c : PR} {nS : Nat} {sy : Array Value} {nv : Value} {s : XS} {N : Names} {i j : Int} (h : PQ w0 c nS sy nv s N.reverse w) (hP : PL c i j) {l p : List UInt8} {q r : List Tok} (ha : At c.L s q) (hp : pieceL l q = some (p, r)) (hl : p.length ≤ 10000000) (hn : N.length ≤ 2000) (hg : goodF p N = true) (hk : lkB p q r = true) :
    Calls Tryd.prog 23 #[.pointer (some ⟨c.R, 0, none⟩), .int .i64 2] w fun e w' => ∃ sv nv' s', e = .returned (tv (outT (readB p N i j)) sv) ∧ LiesP w' (Own w.heap.size w') (outT (readB p N i j)).kids sv ∧ (outT (readB p N i j)).fine ∧ PQ w0 c nS sy nv' s' N.reverse w' ∧ At c.L s' r ∧ KT 26 w w' := by
  have hlen := hP.len
  have h1 := (Rt.rterm_any c (by omega) (fun t ht => by have := hP.sh t ht; omega) hP.ne (by rw [hP.ci]; have := hP.hi; omega) (by rw [hP.cj]; have := hP.hj; omega) (c.L.length + 1)).use 2 N.reverse nv s w (Or.inr (Or.inr rfl)) ha.ix (by omega) (by rw [List.length_reverse]; omega) h.a.st h.a.nm
  refine h1.mono ?_
  rintro e w' ⟨sv, nv', rfl, k1, k2, k3, k4, k5⟩
  obtain ⟨e1, e2⟩ := ha.term hp hl (by omega) hg hk hP.hi hP.hj
  rw [hP.ci, hP.cj] at k1 k2 k3
  rw [hP.ci, hP.cj]
  rw [e1] at k1 k2
  rw [e1]
  exact ⟨sv, nv', _, rfl, k1, k2, h.fw k3 k4 k5, e2, kt_fw h.a.st k5 (by decide)⟩
theorem PQ.push {w0 w : World} {c : PR} {nS : Nat} {sy : Array Value} {nv : Value} {s : XS} {N : Names} (h : PQ w0 c nS sy nv s N.reverse w) (x : List UInt8) (g : Nat) (hx : w.cell? ⟨g, 0, none⟩ = some (strV x)) (hn : N.length ≤ 2000) : Calls Tryd.prog 32 #[.pointer (some ⟨c.R, 0, none⟩), .slice (some ⟨g, 0, none⟩) 1 1] w fun e w' => e = .returned (.tuple #[]) ∧ ∃ nv', PQ w0 c nS sy nv' s (N ++ [x]).reverse w' ∧ KT 26 w w' := by
  refine (rpush_any c nv s N.reverse [x] ⟨g, 0, none⟩ 1 w h.a.st h.a.nm (fun j u hu => ?_) (by rw [List.length_reverse]; simp; omega)).mono ?_
  · cases j with
    | zero =>
      have e : u = strV x := by simpa using hu.symm
      rw [e, Addr.add_lit]
      simpa using hx
    | succ j => simp at hu
  · rintro e w' ⟨rfl, nv', k1, k2, k3⟩
    refine ⟨rfl, nv', h.fw k1 (by simpa using k2) k3, kt_fw h.a.st k3 (by decide)⟩
end Go.Proofs.YtpekceadjcbphaaDoor.Sg
