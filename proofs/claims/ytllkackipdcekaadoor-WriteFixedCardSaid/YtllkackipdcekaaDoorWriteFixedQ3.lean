/-
  Facts and contracts that the proof of WriteFixed uses.
-/
import Derived.Lib.ItoaNum
import Derived.Lib.ItoaLen
import Derived.Test.YtllkackipdcekaaDoorRows
import Derived.WalkKit
import Derived.Lib.Hide
import Derived.KernelRfl
import Derived.Deep.RegionWith
import Derived.Deep.RegionHeld3
import Derived.Test.YtllkackipdcekaaDoorShelf
import Derived.ProofKit
import Derived.Lib.AppendIntMem
import Derived.Lib.LaidTab
import Derived.Below
import Derived.Lib.Builder
import Derived.Lib.AppendStr
import Derived.Lib.UnsafeStr
import Derived.Lib.Strings
import Derived.Laws.Externs
import Derived.Laws.Rows
import Derived.Shelf.RegionOpenPlain
import Derived.OrdersHeld
import Derived.Laws.OwnMore
import Derived.OwnWalk
import Derived.LoopTactic
import Derived.IntWalk
import Derived.Laws.Strings2
import Derived.Deep.AppendLies
import Derived.WalkSmall
import Derived.Maps.GroupsBeside
import Derived.Maps.StringElems
import Derived.Deep.RegionLaw
import Derived.Maps.AppendAt
import Derived.Deep.Cut
import Derived.Deep.DeepCutAuto
import Derived.Maps.OwnOps
import Derived.Maps.OwnSet
import Derived.Lib.MinMax
import Derived.Laws.IdiomCopy
import Derived.Deep.Slices
import Derived.Lib.QuietBelow
import Derived.StillTailTactics
import Derived.BigQuiet
import Derived.Recover
import Derived.RegionTactic
import Derived.Defers
import Derived.Deep.QuietTactic
import Derived.OpenShut
import Derived.Carry
import Derived.LaidMore
import Derived.LaidSub
import Derived.LaidHandle
import Derived.Stop.Joined
import Derived.JoinedOf
import Derived.Test.YtllkackipdcekaaDoorCards
import Derived.Test.YtllkackipdcekaaDoorTie
import Derived.SevenTiedAt
import Derived.ChangeMaps5
import Derived.Test.YtllkackipdcekaaDoorWriteFixedQ2
namespace Go.Proofs.YtllkackipdcekaaDoor

/-- The first place of a text in a list. -/
def idxL (x : List UInt8) : List (List UInt8) → Option Nat
  | [] => none
  | y :: r => if y = x then some 0 else (idxL x r).map (· + 1)
theorem idxL_lt {x : List UInt8} : ∀ {l : List (List UInt8)} {q : Nat}, idxL x l = some q → q < l.length
  | [], q, h => by cases h
  | y :: r, q, h => by
    unfold idxL at h
    split at h
    · obtain rfl := Option.some.inj h; simp
    · obtain ⟨p, hp, rfl⟩ := Option.map_eq_some_iff.1 h
      have := idxL_lt hp
      simp; omega
def headN (w : List UInt8) : Int := if w = [115, 111, 114, 116] then 1 else match idxL w (headsW.drop 3) with
  | some i => (i : Int) + 3
  | none => 0
def symN (w : List UInt8) : Int := match idxL w symsW with
  | some i => (i : Int) + 1
  | none => 0
def sortN (k : Int) : Int := if k ≤ 2 then 0 else if k ≤ 12 then 1 else 2

/-- A level's list behind its bracket. -/
def numQ (lv : List Tok → Except Nat (Int × List Tok)) (E : Nat) (r : List Tok) : Except Nat (Int × List Tok) :=
  match takeT E 3 r with
  | .error e => .error e
  | .ok (w, r2) =>
    if w.s = [115, 117, 99] then
      match lv r2 with
      | .error e => .error e
      | .ok (n, r3) =>
        match takeT E 2 r3 with
        | .error e => .error e
        | .ok (_, r4) => .ok (n + 1, r4)
    else if w.s = [109, 97, 120] then
      match lv r2 with
      | .error e => .error e
      | .ok (n, r3) =>
        match lv r3 with
        | .error e => .error e
        | .ok (m, r4) =>
          match takeT E 2 r4 with
          | .error e => .error e
          | .ok (_, r5) => .ok (max n m, r5)
    else .error w.at_
/-- A level's number, lv reading the levels within. -/
def numP (lv : List Tok → Except Nat (Int × List Tok)) (E : Nat) (i j : Int) : List Tok → Except Nat (Int × List Tok)
  | [] => .error E
  | t :: r =>
    if t.k = 4 then .ok ((((getB t.s).getD 0 : Nat) : Int), r)
    else if t.k = 3 then (if t.s = [105] then .ok (i, r) else if t.s = [106] then .ok (j, r) else .error t.at_)
    else if t.k = 1 then
      numQ lv E r
    else .error t.at_
def levelP (E : Nat) (i j : Int) : Nat → List Tok → Except Nat (Int × List Tok)
  | 0, ts => .error (hereT E ts)
  | f + 1, ts =>
    match numP (levelP E i j f) E i j ts with
    | .error e => .error e
    | .ok (n, r) => if 1000 < n then .error (hereT E ts) else .ok (n, r)

abbrev Names := List (List UInt8)
/-- The kids from the p-th on, c of them. -/
def kidsP (tp : Int → Names → List Tok → Except Nat (Tm × List Tok)) (k own : Int) (x : List UInt8) : Nat → Nat → Names → List Tok → Except Nat (List Tm × List Tok)
  | _, 0, _, ts => .ok ([], ts)
  | p, c + 1, N, ts =>
    match tp (if k = 12 ∧ p = 2 then 2 else own) (if bindsN k p = 0 then N else x :: N) ts with
    | .error e => .error e
    | .ok (t, r) =>
      match kidsP tp k own x (p + 1) c N r with
      | .error e => .error e
      | .ok (l, r2) => .ok (t :: l, r2)
def kidsK (tp : Int → Names → List Tok → Except Nat (Tm × List Tok)) (E : Nat) (k n own : Int) (N : Names) (ts : List Tok) : Except Nat (List Tm × List Tok) :=
  if kidsN k n ≤ 0 then .ok ([], ts)
  else if 0 < bindsN k 1 then
    match takeT E 3 ts with
    | .error e => .error e
    | .ok (x, r) => kidsP tp k own x.s 0 (kidsN k n).toNat N r
  else kidsP tp k own [] 0 (kidsN k n).toNat N ts
def kidsJ (tp : Int → Names → List Tok → Except Nat (Tm × List Tok)) (E : Nat) (N : Names) (ts : List Tok) : Except Nat (List Tm × List Tok) :=
  match tp 2 N ts with
  | .error e => .error e
  | .ok (a, r1) =>
  match tp 2 N r1 with
  | .error e => .error e
  | .ok (u, r2) =>
  match takeT E 3 r2 with
  | .error e => .error e
  | .ok (y, r3) =>
  match takeT E 3 r3 with
  | .error e => .error e
  | .ok (z, r4) =>
  match tp 2 (z.s :: y.s :: N) r4 with
  | .error e => .error e
  | .ok (p, r5) =>
  match tp 2 N r5 with
  | .error e => .error e
  | .ok (q, r6) =>
  match tp 2 N r6 with
  | .error e => .error e
  | .ok (v, r7) =>
  match tp 2 N r7 with
  | .error e => .error e
  | .ok (x, r8) => .ok ([a, u, p, q, v, x], r8)
def symP (E : Nat) (k : Int) (ts : List Tok) : Except Nat (Int × List Tok) :=
  if k = 23 then (match takeT E 3 ts with
    | .error e => .error e
    | .ok (s, r) => if symN s.s = 0 then .error s.at_ else .ok (symN s.s, r)) else .ok (0, ts)
def lvaP (lv : List Tok → Except Nat (Int × List Tok)) (k : Int) (ts : List Tok) : Except Nat (Int × List Tok) := if 0 < levelsN k then lv ts else .ok (0, ts)
def lvbP (lv : List Tok → Except Nat (Int × List Tok)) (k : Int) (ts : List Tok) : Except Nat (Int × List Tok) := if 1 < levelsN k then lv ts else .ok (0, ts)
def kdsP (tp : Int → Names → List Tok → Except Nat (Tm × List Tok)) (E : Nat) (k n : Int) (N : Names) (ts : List Tok) : Except Nat (List Tm × List Tok) := if k = 22 then kidsJ tp E N ts else kidsK tp E k n (sortN k) N ts
/-- What stands behind a list's bracket and word. -/
def bodyP (lv : List Tok → Except Nat (Int × List Tok)) (tp : Int → Names → List Tok → Except Nat (Tm × List Tok)) (E : Nat) (k : Int) (N : Names) (ts : List Tok) : Except Nat (Tm × List Tok) :=
  match symP E k ts with
  | .error e => .error e
  | .ok (n, r1) =>
  match lvaP lv k r1 with
  | .error e => .error e
  | .ok (i, r2) =>
  match lvbP lv k r2 with
  | .error e => .error e
  | .ok (j, r3) =>
  match kdsP tp E k n N r3 with
  | .error e => .error e
  | .ok (l, r4) =>
  match takeT E 2 r4 with
  | .error e => .error e
  | .ok (_, r5) => .ok (.mk k i j n l, r5)
def listP (lv : List Tok → Except Nat (Int × List Tok)) (tp : Int → Names → List Tok → Except Nat (Tm × List Tok)) (E : Nat) (so : Int) (N : Names) (ts : List Tok) : Except Nat (Tm × List Tok) :=
  match takeT E 3 ts with
  | .error e => .error e
  | .ok (w, r) =>
    if headN w.s = 0 ∨ (sortN (headN w.s) ≠ 0 ∧ so ≠ 0 ∧ sortN (headN w.s) ≠ so) then .error w.at_
    else bodyP lv tp E (headN w.s) N r
def termP (E : Nat) (i j : Int) : Nat → Int → Names → List Tok → Except Nat (Tm × List Tok)
  | 0, _, _, ts => .error (hereT E ts)
  | _ + 1, _, _, [] => .error E
  | f + 1, so, N, t :: r =>
    if t.k = 1 then listP (levelP E i j f) (termP E i j f) E so N r
    else if t.k = 3 then
      match idxL t.s N with
      | none => .error t.at_
      | some q => .ok (.mk 2 q 0 0 [], r)
    else .error t.at_

/-- What is left is shorter. -/
theorem takeT_len {E k : Nat} {ts r : List Tok} {t : Tok} (h : takeT E k ts = .ok (t, r)) : ts.length = r.length + 1 := by
  unfold takeT at h
  split at h
  · cases h
  · split at h
    · cases h; rfl
    · cases h
theorem takeT_eq {E k : Nat} {ts r : List Tok} {t : Tok} (h : takeT E k ts = .ok (t, r)) : ts = t :: r ∧ t.k = k := by
  unfold takeT at h
  split at h
  · cases h
  · split at h
    · rename_i hk; cases h; exact ⟨rfl, hk⟩
    · cases h
theorem numP_len {lv : List Tok → Except Nat (Int × List Tok)} (hlv : ∀ ts n r, lv ts = .ok (n, r) → r.length ≤ ts.length) {E : Nat} {i j : Int} {ts r : List Tok} {n : Int} (h : numP lv E i j ts = .ok (n, r)) : r.length < ts.length := by
  unfold numP at h
  split at h
  · cases h
  · rename_i t r0
    simp only [List.length_cons]
    split at h
    · cases h; omega
    · split at h
      · split at h
        · cases h; omega
        · split at h
          · cases h; omega
          · cases h
      · split at h
        · unfold numQ at h
          split at h
          · cases h
          · rename_i w r2 h2
            have l2 := takeT_len h2
            split at h
            · split at h
              · cases h
              · rename_i n3 r3 h3
                have l3 := hlv _ _ _ h3
                split at h
                · cases h
                · rename_i t4 r4 h4
                  have l4 := takeT_len h4
                  cases h; omega
            · split at h
              · split at h
                · cases h
                · rename_i n3 r3 h3
                  have l3 := hlv _ _ _ h3
                  split at h
                  · cases h
                  · rename_i n4 r4 h4
                    have l4 := hlv _ _ _ h4
                    split at h
                    · cases h
                    · rename_i t5 r5 h5
                      have l5 := takeT_len h5
                      cases h; omega
              · cases h
        · cases h
theorem levelP_len {E : Nat} {i j : Int} : ∀ {f : Nat} {ts r : List Tok} {n : Int}, levelP E i j f ts = .ok (n, r) → r.length < ts.length
  | 0, ts, r, n, h => by cases h
  | f + 1, ts, r, n, h => by
    unfold levelP at h
    split at h
    · cases h
    · rename_i n2 r2 h2
      have := numP_len (fun ts n r h => Nat.le_of_lt (levelP_len h)) h2
      split at h
      · cases h
      · cases h; exact this
theorem kidsP_len {tp : Int → Names → List Tok → Except Nat (Tm × List Tok)} (htp : ∀ s N ts t r, tp s N ts = .ok (t, r) → r.length ≤ ts.length) {k own : Int} {x : List UInt8} :
    ∀ {c p : Nat} {N : Names} {ts r : List Tok} {l : List Tm}, kidsP tp k own x p c N ts = .ok (l, r) → r.length ≤ ts.length ∧ l.length = c
  | 0, p, N, ts, r, l, h => by unfold kidsP at h; cases h; exact ⟨Nat.le_refl _, rfl⟩
  | c + 1, p, N, ts, r, l, h => by
    unfold kidsP at h
    split at h
    · cases h
    · rename_i t r1 h1
      have l1 := htp _ _ _ _ _ h1
      split at h
      · cases h
      · rename_i l2 r2 h2
        have l3 := kidsP_len htp h2
        cases h
        exact ⟨by omega, by simp; omega⟩
theorem kidsK_len {tp : Int → Names → List Tok → Except Nat (Tm × List Tok)} (htp : ∀ s N ts t r, tp s N ts = .ok (t, r) → r.length ≤ ts.length) {E : Nat} {k n own : Int} {N : Names} {ts r : List Tok} {l : List Tm} (h : kidsK tp E k n own N ts = .ok (l, r)) : r.length ≤ ts.length ∧ (l.length : Int) = max 0 (kidsN k n) := by
  unfold kidsK at h
  split at h
  · cases h; exact ⟨Nat.le_refl _, by simp; omega⟩
  · split at h
    · split at h
      · cases h
      · rename_i x r1 h1
        have l1 := takeT_len h1
        have l2 := kidsP_len htp h
        exact ⟨by omega, by omega⟩
    · have l2 := kidsP_len htp h
      exact ⟨l2.1, by omega⟩
theorem kidsJ_len {tp : Int → Names → List Tok → Except Nat (Tm × List Tok)} (htp : ∀ s N ts t r, tp s N ts = .ok (t, r) → r.length ≤ ts.length) {E : Nat} {N : Names} {ts r : List Tok} {l : List Tm} (h : kidsJ tp E N ts = .ok (l, r)) : r.length ≤ ts.length ∧ l.length = 6 := by
  unfold kidsJ at h
  split at h; · cases h
  rename_i h1
  split at h; · cases h
  rename_i h2
  split at h; · cases h
  rename_i h3
  split at h; · cases h
  rename_i h4
  split at h; · cases h
  rename_i h5
  split at h; · cases h
  rename_i h6
  split at h; · cases h
  rename_i h7
  split at h; · cases h
  rename_i h8
  have l1 := htp _ _ _ _ _ h1
  have l2 := htp _ _ _ _ _ h2
  have l3 := takeT_len h3
  have l4 := takeT_len h4
  have l5 := htp _ _ _ _ _ h5
  have l6 := htp _ _ _ _ _ h6
  have l7 := htp _ _ _ _ _ h7
  have l8 := htp _ _ _ _ _ h8
  cases h
  exact ⟨by omega, rfl⟩
theorem bodyP_len {lv : List Tok → Except Nat (Int × List Tok)} (hlv : ∀ ts n r, lv ts = .ok (n, r) → r.length ≤ ts.length) {tp : Int → Names → List Tok → Except Nat (Tm × List Tok)} (htp : ∀ s N ts t r, tp s N ts = .ok (t, r) → r.length ≤ ts.length) {E : Nat} {k : Int} {N : Names} {ts r : List Tok} {t : Tm} (h : bodyP lv tp E k N ts = .ok (t, r)) : r.length < ts.length := by
  unfold bodyP at h
  split at h; · cases h
  rename_i n r1 h1
  split at h; · cases h
  rename_i i r2 h2
  split at h; · cases h
  rename_i j r3 h3
  split at h; · cases h
  rename_i l r4 h4
  split at h; · cases h
  rename_i z r5 h5
  have l5 := takeT_len h5
  cases h
  have l1 : r1.length ≤ ts.length := by
    unfold symP at h1
    split at h1
    · split at h1
      · cases h1
      · rename_i s r0 h0
        have := takeT_len h0
        split at h1
        · cases h1
        · cases h1; omega
    · cases h1; exact Nat.le_refl _
  have l2 : r2.length ≤ r1.length := by
    unfold lvaP at h2
    split at h2
    · exact hlv _ _ _ h2
    · cases h2; exact Nat.le_refl _
  have l3 : r3.length ≤ r2.length := by
    unfold lvbP at h3
    split at h3
    · exact hlv _ _ _ h3
    · cases h3; exact Nat.le_refl _
  have l4 : r4.length ≤ r3.length := by
    unfold kdsP at h4
    split at h4
    · exact (kidsJ_len htp h4).1
    · exact (kidsK_len htp h4).1
  omega
theorem listP_len {lv : List Tok → Except Nat (Int × List Tok)} (hlv : ∀ ts n r, lv ts = .ok (n, r) → r.length ≤ ts.length) {tp : Int → Names → List Tok → Except Nat (Tm × List Tok)} (htp : ∀ s N ts t r, tp s N ts = .ok (t, r) → r.length ≤ ts.length) {E : Nat} {so : Int} {N : Names} {ts r : List Tok} {t : Tm} (h : listP lv tp E so N ts = .ok (t, r)) : r.length < ts.length := by
  unfold listP at h
  split at h; · cases h
  rename_i w r1 h1
  have := takeT_len h1
  split at h
  · cases h
  · have := bodyP_len hlv htp h
    omega
theorem termP_len {E : Nat} {i j : Int} : ∀ {f : Nat} {so : Int} {N : Names} {ts r : List Tok} {t : Tm}, termP E i j f so N ts = .ok (t, r) → r.length < ts.length
  | 0, _, _, _, _, _, h => by cases h
  | f + 1, _, _, [], _, _, h => by cases h
  | f + 1, so, N, t0 :: r0, r, t, h => by
    unfold termP at h
    simp only [List.length_cons]
    split at h
    · have := listP_len (fun ts n r h => Nat.le_of_lt (levelP_len h)) (fun s N ts t r h => Nat.le_of_lt (termP_len h)) h
      omega
    · split at h
      · split at h
        · cases h
        · cases h; omega
      · cases h
end Go.Proofs.YtllkackipdcekaaDoor

namespace Go.Proofs.YtllkackipdcekaaDoor
open Go.RowKit Go.Maps Go.ChangeShapes

/-- The constants of a reading: where its blocks lie, the end of the text, the levels, the outer names. -/
structure RC where
  B : Nat
  S : Nat
  R : Nat
  M : Nat
  E : Nat
  br : Bool
  i : Int
  j : Int
  out : Names
  ov : Value
  K : Nat
/-- The places at which a name is bound within the text, from the outermost on. -/
def poss (x : List UInt8) : Names → Nat → List Int
  | [], _ => []
  | e :: r, o => poss x r o ++ (if e = x then [((o + r.length : Nat) : Int)] else [])
theorem poss_none {x : List UInt8} {o : Nat} : ∀ {env : Names}, idxL x env = none → poss x env o = []
  | [], _ => rfl
  | e :: r, h => by
    unfold idxL at h
    split at h
    · cases h
    · rename_i hne
      unfold poss
      rw [poss_none (by cases e2 : idxL x r with
        | none => rfl
        | some q => rw [e2] at h; cases h), if_neg hne]
      rfl
theorem poss_some {x : List UInt8} {o : Nat} : ∀ {env : Names} {q : Nat}, idxL x env = some q → ∃ l, poss x env o = l ++ [((o + (env.length - 1 - q) : Nat) : Int)]
  | [], q, h => by cases h
  | e :: r, q, h => by
    unfold idxL at h
    unfold poss
    split at h
    · rename_i he
      obtain rfl := Option.some.inj h
      exact ⟨poss x r o, by rw [if_pos he]; simp⟩
    · rename_i hne
      obtain ⟨p, hp, rfl⟩ := Option.map_eq_some_iff.1 h
      obtain ⟨l, hl⟩ := poss_some (o := o) hp
      have := idxL_lt hp
      refine ⟨l, ?_⟩
      rw [hl, if_neg hne, List.append_nil]
      congr 4
      simp; omega
theorem idxL_append (x : List UInt8) : ∀ (a b : Names), idxL x (a ++ b) = match idxL x a with
    | some q => some q
    | none => (idxL x b).map (· + a.length)
  | [], b => by cases h : idxL x b <;> simp [idxL, h]
  | y :: r, b => by
    simp only [List.cons_append, idxL]
    split
    · rfl
    · rw [idxL_append x r b]
      cases idxL x r with
      | some q => rfl
      | none => cases idxL x b <;> simp; omega
/-- What the map of inner places says. -/
def EnvIs (D : DataW Unit) (env : Names) (o : Nat) : Prop := IsMap D ∧ ∀ x, (D.atKey (.string x) .nil = .nil ∧ poss x env o = []) ∨ D.atKey (.string x) .nil = .slice (lits .i64 (poss x env o)) []
theorem lits_inj : ∀ {a b : List Int}, (lits .i64 a : List (DataW Unit)) = lits .i64 b → a = b := fun {a b} h => (List.map_inj_right (fun x y hxy => by simpa using hxy)).1 h
/-- The last place of each outer name. -/
def IdxAt (D : DataW Unit) (l : Names) : Prop := ∀ x, match idxL x l.reverse with
  | none => has D (.string x) = false
  | some q => has D (.string x) = true ∧ ∀ z, D.atKey (.string x) z = .lit (.int .i64 ((l.length - 1 - q : Nat) : Int))
theorem idxAt_nil : IdxAt (.map []) [] := fun x => by show has _ _ = false; rfl
theorem idxAt_put {D : DataW Unit} {l : Names} (hm : IsMap D) (h : IdxAt D l) (y : List UInt8) : IdxAt (D.put (.string y) (.lit (.int .i64 (l.length : Int)))) (l ++ [y]) := by
  intro x
  rw [List.reverse_append]
  simp only [List.reverse_cons, List.reverse_nil, List.nil_append, List.singleton_append, idxL]
  by_cases hy : y = x
  · subst hy
    rw [if_pos rfl]
    refine ⟨has_put_same hm (show WideAt.IsKeyLit (.string y) from trivial) _, fun z => ?_⟩
    rw [atKey_put_same hm (show WideAt.IsKeyLit (.string y) from trivial)]
    simp
  · rw [if_neg hy]
    have hne : (Lit.string x) ≠ .string y := fun e => hy (by injection e with e; exact e.symm)
    have := h x
    cases e : idxL x l.reverse with
    | none => rw [e] at this; simp only [Option.map_none]; rw [has_put_other hne]; exact this
    | some q =>
      rw [e] at this
      simp only [Option.map_some]
      refine ⟨by rw [has_put_other hne]; exact this.1, fun z => ?_⟩
      rw [atKey_put_other hne, this.2]
      have := idxL_lt e
      simp at this ⊢
      omega
/-- Texts behind a slice, below B. -/
def TxLies (B : Nat) (w : World) (l : Names) (v : Value) : Prop := ∃ a cap, v = .slice a l.length cap ∧ l.length ≤ cap ∧ cap ≤ maxLen ∧ ∀ q (h : q < l.length), ∃ g o, a = some ⟨g, o, none⟩ ∧ g < B ∧ w.cell? ⟨g, o + q, none⟩ = some (.string ⟨(l[q]).toArray⟩)
theorem TxLies.keep {B : Nat} {w w' : World} {l : Names} {v : Value} (h : TxLies B w l v) (hb : Below B w w') : TxLies B w' l v := by
  obtain ⟨a, cap, h1, h2, h3, h4⟩ := h
  exact ⟨a, cap, h1, h2, h3, fun q hq => by obtain ⟨g, o, e1, e2, e3⟩ := h4 q hq; exact ⟨g, o, e1, e2, (hb.cell (by exact e2)).trans e3⟩⟩
/-- The block of a reader. -/
def RAt (w : World) (c : RC) (d : Nat) (xv : Value) (lk : Nat) : Prop := w.heap[c.R]? = some (.cells #[.pointer (some ⟨c.S, 0, none⟩), .int .i64 c.i, .int .i64 c.j, c.ov, .map (some c.M), .int .i64 d, xv, .int .i64 lk] 69 (0, 0))
def IdxIs (w : World) (c : RC) (xv : Value) : Prop := xv = .map none ∨ ∃ X n D, xv = .map (some X) ∧ c.B ≤ X ∧ X ≠ c.M ∧ n ≤ 100000000000 ∧ w.ownsMap Tryd.prog 9 (plainElem (H := Unit) Tryd.prog 3) X n D ∧ IdxAt D c.out
/-- The reader has the tokens ts left, in the scope of N; n: what is used up; sl: what is left to be used. -/
structure RSt (c : RC) (sl : Nat) (N : Names) (ts : List Tok) (w : World) : Prop where
  bS : c.B ≤ c.S
  bR : c.B ≤ c.R
  bM : c.B ≤ c.M
  lo : c.B ≤ w.heap.size
  kk : c.K ≤ 100000000000
  str : ∃ tv, SAt w c.S tv c.E c.br ∧ TLies w ts tv
  tok : ∀ t ∈ ts, t.s.length ≤ 10000000
  rdr : ∃ (lk n : Nat) (xv : Value) (D : DataW Unit) (env : Names), RAt w c N.length xv lk ∧ n + lk + 100 * ts.length + sl ≤ c.K ∧ IdxIs w c xv ∧ w.ownsGroups Tryd.prog 9 (c.M + 1) 3 .i64 c.M n D ∧ N = env ++ c.out.reverse ∧ EnvIs D env c.out.length
  outs : TxLies c.B w c.out c.ov
  many : N.length + 100 * ts.length + sl ≤ 100000000000
  short : ∀ y ∈ c.out, y.length ≤ 10000000
theorem RAt.lt {w : World} {c : RC} {d : Nat} {xv : Value} {lk : Nat} (h : RAt w c d xv lk) : c.R < w.heap.size := (Array.getElem?_eq_some_iff.1 h).1
/-- What stays: all that is older than the reading, and every block of its own but the stream, the reader, numbers and maps. -/
structure Fr (c : RC) (w w' : World) : Prop where
  below : Below c.B w w'
  kept : ∀ (b : Nat) (cs : Array Value) (T : TypeId) (fz : Nat × Nat), w.heap[b]? = some (Obj.cells cs T fz) → T ≠ 94 → T ≠ 69 → T ≠ 3 → w'.heap[b]? = some (Obj.cells cs T fz)
theorem Fr.size {c : RC} {w w' : World} (h : Fr c w w') : w.heap.size ≤ w'.heap.size := h.below.size
theorem Fr.refl (c : RC) (w : World) : Fr c w w := ⟨Below.refl _ _, fun _ _ _ _ h _ _ _ => h⟩
theorem Fr.trans {c : RC} {w w1 w2 : World} (h : Fr c w w1) (k : Fr c w1 w2) : Fr c w w2 := ⟨h.below.trans k.below, fun b cs T fz e h1 h2 h3 => k.kept b cs T fz (h.kept b cs T fz e h1 h2 h3) h1 h2 h3⟩
theorem hlt_of {w : World} {b : Nat} {o : Obj} (h : w.heap[b]? = some o) : b < w.heap.size := (Array.getElem?_eq_some_iff.1 h).1
/-- A step that turns one block, and that block is of a sort that may turn. -/
theorem Fr.grown {c : RC} {w w' : World} {row : Option Nat} (hg : w.grownBy w' row) (hB : ∀ b, row = some b → c.B ≤ b) (hT : ∀ b, row = some b → ∀ cs T fz, w.heap[b]? = some (Obj.cells cs T fz) → T = 94 ∨ T = 69 ∨ T = 3) (hlo : c.B ≤ w.heap.size) : Fr c w w' := by
  refine ⟨⟨hg.os, hg.tape, hg.output, hg.size, fun k hk => hg.block k (by omega) (fun e => by have := hB k e.symm; omega)⟩, fun b cs T fz e h1 h2 h3 => ?_⟩
  by_cases hb : some b = row
  · rcases hT b hb.symm cs T fz e with h | h | h
    · exact absurd h h1
    · exact absurd h h2
    · exact absurd h h3
  · rw [hg.block b (hlt_of e) hb]; exact e
theorem Fr.later {c : RC} {w w' : World} (hb : Below w.heap.size w w') (hlo : c.B ≤ w.heap.size) : Fr c w w' := ⟨hb.mono hlo, fun b cs T fz e _ _ _ => by rw [hb.block b (hlt_of e)]; exact e⟩
theorem Fr.drew {c : RC} {w w' : World} (h : Fr c w w') : Fr c w w'.drew := ⟨h.below.drew, h.kept⟩
theorem Fr.alloc {c : RC} {w w' : World} (h : Fr c w w') (hlo : c.B ≤ w'.heap.size) (o : Obj) : Fr c w (w'.alloc o) := h.trans (Fr.later ((Below.refl _ _).alloc (Nat.le_refl _) o) hlo)
/-- A map of rows stays where its block and the rows do. -/
theorem groups_same {w w' : World} {base M n : Nat} {D : DataW Unit} (h : w.ownsGroups Tryd.prog 9 base 3 .i64 M n D) (hM : w'.heap[M]? = w.heap[M]?)
    (hi : ∀ (g : Nat) (cs : Array Value) (fz : Nat × Nat), w.heap[g]? = some (Obj.cells cs 3 fz) → w'.heap[g]? = some (Obj.cells cs 3 fz)) : w'.ownsGroups Tryd.prog 9 base 3 .i64 M n D := by
  obtain ⟨es, clock, hb, F, hs, rfl, hbb, hlen, hap⟩ := h
  have own : ∀ {v : Value} {zs : List Int}, w.ownsInts base 3 .i64 v zs → w'.ownsInts base 3 .i64 v zs := by
    rintro v zs ⟨⟨h1, h2⟩, h3⟩
    refine ⟨⟨h1, ?_⟩, h3⟩
    rcases h2 with h2 | ⟨g, cap, cur, hv, hg, hh, r⟩
    · exact Or.inl h2
    · exact Or.inr ⟨g, cap, cur, hv, hg, hi _ _ _ hh, r⟩
  have hs1 : ∀ x ∈ es.toList, ∀ z, rowElem (H := Unit) w base 3 .i64 x.val = some z → rowElem w' base 3 .i64 x.val = some z := by
    intro x _ z hz
    obtain ⟨zs, ho, rfl⟩ := rowElem_inv hz
    exact rowElem_mk (own ho)
  obtain ⟨F2, hmap2, _⟩ := F.stay hs1
  refine ⟨es, clock, hM.trans hb, F2, hs, by rw [hmap2], hbb, ?_, hap⟩
  intro x hx zs ho
  obtain ⟨y, hy⟩ := F.reads x hx
  obtain ⟨z, hz, _⟩ := WideElems.rd_val hy
  obtain ⟨ys, ho', _⟩ := rowElem_inv hz
  rw [ho.unique (own ho')]
  exact hlen x hx ys ho'
theorem groups_map {w : World} {base M n : Nat} {D : DataW Unit} (h : w.ownsGroups Tryd.prog 9 base 3 .i64 M n D) : ∃ es clock, w.heap[M]? = some (.map es clock) := by
  obtain ⟨es, clock, hb, _⟩ := h
  exact ⟨es, clock, hb⟩
theorem idxIs_same {w w' : World} {c : RC} {xv : Value} (h : IdxIs w c xv) (hk : ∀ (b : Nat) es clock, b ≠ c.M → w.heap[b]? = some (.map es clock) → w'.heap[b]? = some (.map es clock)) : IdxIs w' c xv := by
  rcases h with rfl | ⟨X, n, D, rfl, hB, hM, hn, ⟨es, clock, hb, r⟩, hx⟩
  · exact Or.inl rfl
  · exact Or.inr ⟨X, n, D, rfl, hB, hM, hn, ⟨es, clock, hk _ _ _ hM hb, r⟩, hx⟩
/-- The reader's state over whatever leaves its blocks alone. -/
theorem RSt.later {c : RC} {sl : Nat} {N : Names} {ts : List Tok} {w w' : World} (h : RSt c sl N ts w) (hb : Below w.heap.size w w') : RSt c sl N ts w' := by
  obtain ⟨tv, h1, h2⟩ := h.str
  obtain ⟨lk, n, xv, D, env, r1, r2, r3, r4, r5⟩ := h.rdr
  refine ⟨h.bS, h.bR, h.bM, Nat.le_trans h.lo hb.size, h.kk, ⟨tv, ?_, ?_⟩, h.tok, ⟨lk, n, xv, D, env, ?_, r2, ?_, ?_, r5⟩, h.outs.keep (hb.mono h.lo), h.many, h.short⟩
  · unfold SAt at h1 ⊢; rw [hb.block _ (hlt_of h1)]; exact h1
  · exact h2.keep fun g cs fz e => by rw [hb.block _ (hlt_of e)]; exact e
  · unfold RAt at r1 ⊢; rw [hb.block _ (hlt_of r1)]; exact r1
  · exact idxIs_same r3 fun b es clock _ e => by rw [hb.block _ (hlt_of e)]; exact e
  · obtain ⟨es, clock, hM⟩ := groups_map r4
    exact groups_same r4 (hb.block _ (hlt_of hM)) fun g cs fz e => by rw [hb.block _ (hlt_of e)]; exact e
theorem RSt.drew {c : RC} {sl : Nat} {N : Names} {ts : List Tok} {w : World} (h : RSt c sl N ts w) : RSt c sl N ts w.drew := h.later (Below.refl _ _).drew
theorem RSt.less {c : RC} {sl sl' : Nat} {N : Names} {ts : List Tok} {w : World} (h : RSt c sl N ts w) (hl : sl' ≤ sl) : RSt c sl' N ts w := by
  obtain ⟨lk, n, xv, D, env, r1, r2, r3⟩ := h.rdr
  exact ⟨h.bS, h.bR, h.bM, h.lo, h.kk, h.str, h.tok, ⟨lk, n, xv, D, env, r1, by omega, r3⟩, h.outs, by have := h.many; omega, h.short⟩
theorem sr_ne : (94 : TypeId) ≠ 69 := by decide
theorem si_ne : (94 : TypeId) ≠ 3 := by decide
theorem ri_ne : (69 : TypeId) ≠ 3 := by decide
theorem rt_ne : (69 : TypeId) ≠ 97 := by decide
/-- A block of cells is of one type. -/
theorem type_one {w : World} {b : Nat} {cs cs' : Array Value} {T T' : TypeId} {fz fz' : Nat × Nat} (h : w.heap[b]? = some (Obj.cells cs T fz)) (k : w.heap[b]? = some (Obj.cells cs' T' fz')) : T = T' := by
  rw [h] at k; injection k with k; injection k
/-- A step of the stream. -/
theorem RSt.stream {c : RC} {sl sl' : Nat} {N : Names} {ts r : List Tok} {w w' : World} (h : RSt c sl N ts w) (hg : w.grownBy w' (some c.S)) (hs : ∃ tv, SAt w' c.S tv c.E c.br ∧ TLies w' r tv) (hr : ∀ t ∈ r, t ∈ ts) (hl : 100 * r.length + sl' ≤ 100 * ts.length + sl) : RSt c sl' N r w' ∧ Fr c w w' := by
  obtain ⟨tv, h1, h2⟩ := h.str
  obtain ⟨lk, n, xv, D, env, r1, r2, r3, r4, r5⟩ := h.rdr
  have hSlt := hlt_of h1
  have old : ∀ {b : Nat} {o : Obj}, w.heap[b]? = some o → b ≠ c.S → w'.heap[b]? = some o := fun {b o} e hne => by rw [hg.block b (hlt_of e) (fun e2 => hne (Option.some.inj e2))]; exact e
  have hfr : Fr c w w' := Fr.grown hg (fun b e => by obtain rfl := Option.some.inj e; exact h.bS) (fun b e cs T fz e2 => by obtain rfl := Option.some.inj e; exact Or.inl (type_one e2 h1)) h.lo
  refine ⟨⟨h.bS, h.bR, h.bM, Nat.le_trans h.lo hg.size, h.kk, hs, fun t ht => h.tok t (hr t ht), ⟨lk, n, xv, D, env, ?_, by omega, ?_, ?_, r5⟩, h.outs.keep hfr.below, by have := h.many; omega, h.short⟩, hfr⟩
  · exact old r1 (fun e => by unfold RAt at r1; rw [e] at r1; exact sr_ne (type_one h1 r1))
  · exact idxIs_same r3 fun b es clock _ e => old e (fun e2 => by rw [e2, h1] at e; cases e)
  · obtain ⟨es, clock, hM⟩ := groups_map r4
    have hMS : c.M ≠ c.S := fun e2 => by rw [e2, h1] at hM; cases hM
    exact groups_same r4 (by rw [old hM hMS, hM]) fun g cs fz e => old e (fun e2 => by rw [e2] at e; exact si_ne (type_one h1 e))
/-- A step that writes the reader's own block. -/
theorem RSt.cell {c : RC} {sl : Nat} {N : Names} {ts : List Tok} {w : World} (h : RSt c sl N ts w) {d : Nat} {xv : Value} {lk : Nat} (hr : RAt w c d xv lk) (i : Nat) (v : Value) :
    Fr c w (w.setCell ⟨c.R, i, none⟩ v) ∧ (∀ (b : Nat) o, w.heap[b]? = some o → b ≠ c.R → (w.setCell ⟨c.R, i, none⟩ v).heap[b]? = some o) := by
  have hg : w.grownBy (w.setCell ⟨c.R, i, none⟩ v) (some c.R) := grown_at ⟨rfl, rfl, rfl, Nat.le_refl _, fun _ _ _ => rfl⟩ i v
  exact ⟨Fr.grown hg (fun b e => by obtain rfl := Option.some.inj e; exact h.bR) (fun b e cs T fz e2 => by obtain rfl := Option.some.inj e; exact Or.inr (Or.inl (type_one e2 hr))) h.lo, fun b o e hne => by rw [hg.block b (hlt_of e) (fun e2 => hne (Option.some.inj e2))]; exact e⟩
/-- The reader's state behind a step on its names. -/
theorem RSt.turn {c : RC} {sl sl' : Nat} {N N' : Names} {ts : List Tok} {w w' : World} (h : RSt c sl N ts w) (hfr : Fr c w w') (old : ∀ (b : Nat) (o : Obj), w.heap[b]? = some o → (∀ cs fz, o ≠ .cells cs 3 fz) → b ≠ c.M → b ≠ c.R → w'.heap[b]? = some o)
    {lk n : Nat} {xv : Value} {D : DataW Unit} {env : Names} (r1 : RAt w' c N'.length xv lk) (r2 : n + lk + 100 * ts.length + sl' ≤ c.K) (r3 : IdxIs w' c xv) (r4 : w'.ownsGroups Tryd.prog 9 (c.M + 1) 3 .i64 c.M n D) (hN : N' = env ++ c.out.reverse) (he : EnvIs D env c.out.length) (hm : N'.length + 100 * ts.length + sl' ≤ 100000000000) : RSt c sl' N' ts w' := by
  obtain ⟨tv, h1, h2⟩ := h.str
  obtain ⟨lk0, n0, xv0, D0, env0, q1, q2, q3, q4, q5⟩ := h.rdr
  obtain ⟨es, clock, hM⟩ := groups_map q4
  have hSM : c.S ≠ c.M := fun e => by unfold SAt at h1; rw [e, hM] at h1; cases h1
  have hSR : c.S ≠ c.R := fun e => by unfold SAt at h1; rw [e] at h1; exact sr_ne (type_one h1 q1)
  refine ⟨h.bS, h.bR, h.bM, Nat.le_trans h.lo hfr.size, h.kk, ⟨tv, ?_, ?_⟩, h.tok, ⟨lk, n, xv, D, env, r1, r2, r3, r4, hN, he⟩, h.outs.keep hfr.below, hm, h.short⟩
  · exact old _ _ h1 (fun cs fz e => by injection e with _ e _; exact si_ne e) hSM hSR
  · exact h2.keep fun g cs fz e => old _ _ e (fun cs' fz' e2 => by injection e2 with _ e2 _; exact (by decide : (97 : TypeId) ≠ 3) e2) (fun e2 => by rw [e2, hM] at e; cases e) (fun e2 => by rw [e2] at e; exact rt_ne (type_one q1 e))
/-- A step that writes a block of terms. -/
theorem RSt.other {c : RC} {sl : Nat} {N : Names} {ts : List Tok} {w w' : World} (h : RSt c sl N ts w) {b : Nat} (hg : w.grownBy w' (some b)) {cs : Array Value} {fz : Nat × Nat} (hb : w.heap[b]? = some (Obj.cells cs 26 fz)) (hB : c.B ≤ b) : RSt c sl N ts w' := by
  obtain ⟨tv, h1, h2⟩ := h.str
  obtain ⟨lk, n, xv, D, env, r1, r2, r3, r4, r5⟩ := h.rdr
  have old : ∀ {q : Nat} {o : Obj}, w.heap[q]? = some o → q ≠ b → w'.heap[q]? = some o := fun {q o} e hne => by rw [hg.block q (hlt_of e) (fun e2 => hne (Option.some.inj e2))]; exact e
  have hbl : Below c.B w w' := ⟨hg.os, hg.tape, hg.output, hg.size, fun k hk => hg.block k (by have := h.lo; omega) (fun e => by have := Option.some.inj e; omega)⟩
  refine ⟨h.bS, h.bR, h.bM, Nat.le_trans h.lo hg.size, h.kk, ⟨tv, ?_, ?_⟩, h.tok, ⟨lk, n, xv, D, env, ?_, r2, ?_, ?_, r5⟩, h.outs.keep hbl, h.many, h.short⟩
  · exact old h1 (fun e => by unfold SAt at h1; rw [e] at h1; exact (by decide : (94 : TypeId) ≠ 26) (type_one h1 hb))
  · exact h2.keep fun g cs fz e => old e (fun e2 => by rw [e2] at e; exact (by decide : (97 : TypeId) ≠ 26) (type_one e hb))
  · exact old r1 (fun e => by unfold RAt at r1; rw [e] at r1; exact (by decide : (69 : TypeId) ≠ 26) (type_one r1 hb))
  · exact idxIs_same r3 fun q es clock _ e => old e (fun e2 => by rw [e2, hb] at e; cases e)
  · obtain ⟨es, clock, hM⟩ := groups_map r4
    exact groups_same r4 (by rw [old hM (fun e2 => by rw [e2, hb] at hM; cases hM), hM]) fun g cs fz e => old e (fun e2 => by rw [e2] at e; exact (by decide : (3 : TypeId) ≠ 26) (type_one e hb))
theorem Fr.other {c : RC} {w w1 w2 : World} (h : Fr c w w1) {b : Nat} (hg : w1.grownBy w2 (some b)) (hb : w.heap.size ≤ b) (hlo : c.B ≤ w.heap.size) : Fr c w w2 := by
  refine ⟨h.below.trans ⟨hg.os, hg.tape, hg.output, hg.size, fun k hk => hg.block k (by have := h.size; omega) (fun e => by have := Option.some.inj e; omega)⟩, fun q cs T fz e h1 h2 h3 => ?_⟩
  have e1 := h.kept q cs T fz e h1 h2 h3
  rw [hg.block q (hlt_of e1) (fun e2 => by have := hlt_of e; have := Option.some.inj e2; omega)]; exact e1
theorem RSt.inner {c : RC} {sl : Nat} {N : Names} {ts : List Tok} {w : World} (h : RSt c sl N ts w) : c.out.length ≤ N.length := by
  obtain ⟨lk, n, xv, D, env, _, _, _, _, hN, _⟩ := h.rdr
  rw [hN]; simp
end Go.Proofs.YtllkackipdcekaaDoor

namespace Go.Proofs.YtllkackipdcekaaDoor
open Go.RowKit Go.Maps Go.ChangeShapes

theorem key_law : Keyed Tryd.prog 9 := string_keyed Tryd.underlying9
theorem ints_info : (Tryd.prog.info? 3).map (fun i => (i.zero, i.size, i.bytes)) = some (some (.int .i64 0), 1, 8) := by kernel_rfl
theorem zero_ints (w : World) : (zeroValue 87).run Tryd.prog w = .ok (.slice none 0 0) w := by kernel_rfl
set_option maxRecDepth 20000 in
theorem key_of (x : List UInt8) (hx : x.length ≤ 10000000) : keyOf Tryd.prog 9 (.string ⟨x.toArray⟩) = some (.string x) := by
  have hs : (⟨x.toArray⟩ : ByteArray).size ≤ maxLen := by
    have e : (⟨x.toArray⟩ : ByteArray).size = x.length := by simp [ByteArray.size]
    rw [e]; unfold maxLen; omega
  have h := WideMaps.keyOf_string_mk (P := Tryd.prog) Tryd.underlying9 hs
  rw [h]
theorem step_update {P : Program} {w : World} {ops : Array Oper} {o : Oper} {a : Act} {K : Act → World → Prop} {Q : Exit → Act → World → Prop} {E : Prop} (hgd : o.guard = none) (m x v : Operand) (t : TypeId) (hop : o.op = Op.mapUpdate t m x v)
    {w2 : World} {b : Nat} {key val : Value} (hm : a.eval m = .map (some b)) (hx : a.eval x = key) (hv : a.eval v = val) (hrun : (Instr.mapUpdate t (.map (some b)) key val).run P w = .ok () w2)
    (h : K (a.put o.dst undef) w2) : if Region.wanted o (yielded ops a.tmps) = true then Oper.wp P o a w K Q else E := by
  have hw : Region.wanted o (yielded ops a.tmps) = true := by simp [Region.wanted, hgd]
  rw [if_pos hw]
  unfold Oper.wp
  simp [execOp, hop, hm, hx, hv, hrun, Result.andThen]
  exact h
/-- What the map hands over at a name. -/
theorem group_at {c : RC} {w : World} {n : Nat} {D : DataW Unit} {env : Names} (hg : w.ownsGroups Tryd.prog 9 (c.M + 1) 3 .i64 c.M n D) (hn : n ≤ 100000000000) (he : EnvIs D env c.out.length) (x : List UInt8) (hx : x.length ≤ 10000000) :
    ∃ v, (Instr.lookup 66 (.map (some c.M)) (.string ⟨x.toArray⟩) false).run Tryd.prog w = .ok v w ∧ w.ownsInts (c.M + 1) 3 .i64 v (poss x env c.out.length) ∧ (poss x env c.out.length).length ≤ n ∧ w.groupBack Tryd.prog 66 9 (c.M + 1) 3 .i64 c.M n D (.string ⟨x.toArray⟩) (.string x) v := by
  obtain ⟨v, zs, hrun, hat, ho, hl, hb⟩ := hg.at key_law Tryd.underlying66 (zero_ints w) (by unfold maxLen; omega) (key_of x hx)
  have hz : zs = poss x env c.out.length := by
    rcases he.2 x with ⟨h1, h2⟩ | h1
    · rw [h1] at hat
      rcases ho.datum (H := Unit) with ⟨_, h3⟩ | h3
      · rw [h2, h3]
      · rw [h3] at hat; cases hat
    · rw [h1] at hat
      rcases ho.datum (H := Unit) with ⟨h3, _⟩ | h3
      · rw [h3] at hat; cases hat
      · rw [h3] at hat; exact (lits_inj (DataW.slice.inj hat).1).symm
  subst hz
  exact ⟨v, hrun, ho, hl, hb⟩
theorem env_put {D : DataW Unit} {env : Names} {o : Nat} (h : EnvIs D env o) (x : List UInt8) {env' : Names} (hs : ∀ y, y ≠ x → poss y env' o = poss y env o) : EnvIs (D.put (.string x) (.slice (lits .i64 (poss x env' o)) [])) env' o := by
  refine ⟨h.1.put _ _, fun y => ?_⟩
  by_cases hy : y = x
  · subst hy
    exact Or.inr (atKey_put_same h.1 (show WideAt.IsKeyLit (.string y) from trivial) _ _)
  · have hne : (Lit.string y) ≠ .string x := fun e => hy (by injection e)
    rw [atKey_put_other hne, hs y hy]
    exact h.2 y
theorem int_wf (z : Int) (h0 : 0 ≤ z) (h1 : z ≤ 100000000000) : (Lit.int .i64 z).wf = true := by
  have e1 : IntKind.i64.min = -9223372036854775808 := by decide
  have e2 : IntKind.i64.max = 9223372036854775807 := by decide
  show (decide (IntKind.i64.min ≤ z) && decide (z ≤ IntKind.i64.max)) = true
  rw [e1, e2, decide_eq_true (by omega), decide_eq_true (by omega)]; rfl
/-- The int rows' blocks are none of the others. -/
theorem row_old {c : RC} {w w3 : World} {v : Value} {zs : List Int} (ho : w.ownsInts (c.M + 1) 3 .i64 v zs) (hg : w.grownBy w3 v.ownBlock) {b : Nat} {o : Obj} (h : w.heap[b]? = some o) (hn : ∀ cs fz, o ≠ .cells cs 3 fz) : w3.heap[b]? = some o := by
  rw [hg.block b (hlt_of h) ?_]; exact h
  intro e
  rcases ho.1.2 with ⟨rfl, _⟩ | ⟨g, cap, cur, rfl, _, hh, _⟩
  · cases e
  · obtain rfl : b = g := Option.some.inj e
    rw [h] at hh
    exact hn _ _ (Option.some.inj hh)
/-- A name's row was turned, the map was written, and so was the number of the names. -/
theorem names_fin {c : RC} {sl sl' : Nat} {N N' : Names} {ts : List Tok} {w w3 w2 : World} (h : RSt c sl N ts w) {v : Value} {zs : List Int} (ho : w.ownsInts (c.M + 1) 3 .i64 v zs) (hg : w.grownBy w3 v.ownBlock) (hg2 : w3.grownBy w2 (some c.M))
    {lk n : Nat} {xv : Value} {D : DataW Unit} {env : Names} (r1 : RAt w c N.length xv lk) (r2 : n + lk + 100 * ts.length + sl' ≤ c.K) (r3 : IdxIs w c xv) (r4 : w2.ownsGroups Tryd.prog 9 (c.M + 1) 3 .i64 c.M n D) (hN : N' = env ++ c.out.reverse) (he : EnvIs D env c.out.length) (hm : N'.length + 100 * ts.length + sl' ≤ 100000000000) :
    RAt w2 c N.length xv lk ∧ RSt c sl' N' ts (w2.setCell ⟨c.R, 5, none⟩ (.int .i64 N'.length)) ∧ Fr c w (w2.setCell ⟨c.R, 5, none⟩ (.int .i64 N'.length)) := by
  obtain ⟨lk0, n0, xv0, D0, env0, q1, q2, q3, q4, q5⟩ := h.rdr
  obtain ⟨es, clock, hM⟩ := groups_map q4
  have hRM : c.R ≠ c.M := fun e => by unfold RAt at r1; rw [e, hM] at r1; cases r1
  have hM3 : w3.heap[c.M]? = some (.map es clock) := row_old ho hg hM (fun cs fz e => by cases e)
  have old2 : ∀ (b : Nat) (o : Obj), w.heap[b]? = some o → (∀ cs fz, o ≠ .cells cs 3 fz) → b ≠ c.M → w2.heap[b]? = some o := fun b o e hn hne => by
    have h3 := row_old ho hg e hn
    rw [hg2.block b (hlt_of h3) (fun e2 => hne (Option.some.inj e2))]; exact h3
  have hR2 : RAt w2 c N.length xv lk := old2 _ _ r1 (fun cs fz e => by injection e with _ e _; exact ri_ne e) hRM
  have hgR : w2.grownBy (w2.setCell ⟨c.R, 5, none⟩ (.int .i64 N'.length)) (some c.R) := grown_at ⟨rfl, rfl, rfl, Nat.le_refl _, fun _ _ _ => rfl⟩ 5 _
  have hf1 : Fr c w w3 := Fr.grown hg (fun b e => by have := (ho.1.lt b e).1; have := h.bM; omega) (fun b e cs T fz e2 => by
    rcases ho.1.2 with ⟨rfl, _⟩ | ⟨g, cap, cur, rfl, _, hh, _⟩
    · cases e
    · obtain rfl : g = b := Option.some.inj e
      exact Or.inr (Or.inr (type_one e2 hh))) h.lo
  have hf2 : Fr c w3 w2 := Fr.grown hg2 (fun b e => by obtain rfl := Option.some.inj e; exact h.bM) (fun b e cs T fz e2 => by obtain rfl := Option.some.inj e; rw [hM3] at e2; cases e2) (Nat.le_trans h.lo hf1.size)
  have hf3 : Fr c w2 (w2.setCell ⟨c.R, 5, none⟩ (.int .i64 N'.length)) := Fr.grown hgR (fun b e => by obtain rfl := Option.some.inj e; exact h.bR) (fun b e cs T fz e2 => by obtain rfl := Option.some.inj e; exact Or.inr (Or.inl (type_one e2 hR2))) (Nat.le_trans h.lo (Nat.le_trans hf1.size hf2.size))
  have hfr := hf1.trans (hf2.trans hf3)
  have oldR : ∀ (b : Nat) (o : Obj), w2.heap[b]? = some o → b ≠ c.R → (w2.setCell ⟨c.R, 5, none⟩ (.int .i64 N'.length)).heap[b]? = some o := fun b o e hne => by
    rw [hgR.block b (hlt_of e) (fun e2 => hne (Option.some.inj e2))]; exact e
  obtain ⟨es2, clock2, hM2⟩ := groups_map r4
  refine ⟨hR2, h.turn hfr (fun b o e hn h1 h2 => oldR b o (old2 b o e hn h1) h2) (lk := lk) (n := n) (xv := xv) (D := D) (env := env) ?_ r2 ?_ ?_ hN he hm, hfr⟩
  · exact heap_setCell_same w2 c.R 5 _ _ _ hR2
  · exact idxIs_same r3 fun b es clock hne e => oldR b _ (old2 b _ e (fun cs fz e2 => by cases e2) hne) (fun e2 => by unfold RAt at r1; rw [e2, r1] at e; cases e)
  · exact groups_same r4 (by rw [oldR _ _ hM2 (Ne.symm hRM), hM2]) fun g cs fz e => oldR g _ e (fun e2 => by rw [e2] at e; exact ri_ne (type_one hR2 e))
theorem poss_bind (x : List UInt8) (env : Names) (o : Nat) : poss x (x :: env) o = poss x env o ++ [((o + env.length : Nat) : Int)] := by rw [poss, if_pos rfl]
theorem poss_other {x y : List UInt8} (h : y ≠ x) (env : Names) (o : Nat) : poss y (x :: env) o = poss y env o := by rw [poss, if_neg (fun e => h e.symm)]; simp

theorem bind_close {c : RC} {N : Names} {x : List UInt8} {xv : Value} {lk sl : Nat} {ts : List Tok} {w w1 w2 w' : World} (hf : Fr c w w1) (h : RAt w2 c N.length xv lk ∧ RSt c sl (x :: N) ts w' ∧ Fr c w1 w') : RAt w2 c N.length xv lk ∧ RSt c sl (x :: N) ts w' ∧ Fr c w w' := ⟨h.1, h.2.1, hf.trans h.2.2⟩
set_option maxHeartbeats 2000000 in
set_option maxRecDepth 20000 in
theorem bind_any (c : RC) (sl : Nat) (x : List UInt8) (N : Names) (ts : List Tok) (w : World) (h : RSt c (sl + 1) N ts w) (hx : x.length ≤ 10000000) :
    Calls Tryd.prog 102 #[.pointer (some ⟨c.R, 0, none⟩), .string ⟨x.toArray⟩] w fun e w' => e = .returned (.tuple #[]) ∧ RSt c sl (x :: N) ts w' ∧ Fr c w w' := by
  obtain ⟨lk, n, xv, D, env, r1, r2, r3, r4, hNe, r5⟩ := h.rdr
  have hkk := h.kk
  have hmy := h.many
  have hMl : ∃ es clock, w.heap[c.M]? = some (.map es clock) := groups_map r4
  have HB1 := (Below.refl w.heap.size w).drew
  have HB2 := ((Below.refl w.heap.size w).alloc (Nat.le_refl _) (.cells #[.int .i64 (N.length : Int)] 3)).drew
  have hi1 : ∀ {w' : World}, Below w.heap.size w w' → w'.ownsGroups Tryd.prog 9 (c.M + 1) 3 .i64 c.M n D := fun {w'} hb => by
    obtain ⟨es, clock, hM⟩ := hMl
    exact groups_same r4 (hb.block _ (hlt_of hM)) fun g cs fz e => by rw [hb.block _ (hlt_of e)]; exact e
  obtain ⟨v, hrun, ho, hzl, hback⟩ := group_at (hi1 HB1) (by omega) r5 x hx
  obtain ⟨u, hrunB, hoB, hzlB, hbackB⟩ := group_at (hi1 HB2) (by omega) r5 x hx
  obtain ⟨i0, hi, hz0, hz1, hz2⟩ := info_parts ints_info
  have HI := Lib.hid (And.intro hi (And.intro hz0 (And.intro hz1 hz2)))
  have hlo := h.lo
  have hMlt : c.M < w.heap.size := by obtain ⟨es, clock, hM⟩ := hMl; exact hlt_of hM
  have hlen : N.length = env.length + c.out.length := by rw [hNe]; simp
  have HNE := Lib.hid hNe
  have hb0 : ((c.out.length + env.length : Nat) : Int) = (N.length : Int) := by omega
  have HWF := Lib.hid (int_wf (N.length : Int) (by omega) (by omega))
  have HEP := Lib.hid (env_put r5 x (env' := x :: env) (fun y hy => poss_other hy env c.out.length))
  rw [poss_bind, hb0] at HEP
  have a4 : w.cell? ⟨c.R, 4, none⟩ = some (.map (some c.M)) := by rw [Lib.cell_of_heap (w := w) r1]; rfl
  have a5 : w.cell? ⟨c.R, 5, none⟩ = some (.int .i64 N.length) := by rw [Lib.cell_of_heap (w := w) r1]; rfl
  have b4 : w.drew.cell? ⟨c.R, 4, none⟩ = some (.map (some c.M)) := a4
  have b5 : w.drew.cell? ⟨c.R, 5, none⟩ = some (.int .i64 N.length) := a5
  have hRlt : c.R < w.heap.size := r1.lt
  have HOA := Lib.hid ho
  have HOB := Lib.hid hoB
  have HBKA := Lib.hid hback
  have HBKB := Lib.hid hbackB
  have HHA := Lib.hid (h.later HB1)
  have HHB := Lib.hid (h.later HB2)
  have HFRA := Lib.hid (Fr.later HB1 hlo)
  have HFRB := Lib.hid (Fr.later HB2 hlo)
  have HRA := Lib.hid (show RAt w.drew c N.length xv lk from r1)
  have HRB := Lib.hid (show RAt (w.alloc (.cells #[.int .i64 (N.length : Int)] 3)).drew c N.length xv lk from (HB2.block _ hRlt).trans r1)
  have HR3A := Lib.hid (show IdxIs w.drew c xv from idxIs_same r3 fun b es clock _ e => (HB1.block _ (hlt_of e)).trans e)
  have HR3B := Lib.hid (show IdxIs (w.alloc (.cells #[.int .i64 (N.length : Int)] 3)).drew c xv from idxIs_same r3 fun b es clock _ e => (HB2.block _ (hlt_of e)).trans e)
  have HR2 := Lib.hid r2
  obtain ⟨zs, hzs⟩ : ∃ zs, poss x env c.out.length = zs := ⟨_, rfl⟩
  rw [hzs] at HOA HOB HEP hzl
  clear hi hz0 hz1 hz2 ho hback hoB hbackB r1 h r3 r4 r5 hNe hlen hzs hb0 HB1 HB2 hi1 hMl hzlB
  go_enter Tryd.func102, Tryd.ntmps102
  go_upto_region 0 with fail
  go_cut [4] (fun s4 wx => s4 = .pointer (some ⟨c.R, 0, none⟩) ∧ Hid (RAt wx c N.length xv lk ∧ RSt c sl (x :: N) ts (wx.setCell ⟨c.R, 5, none⟩ (.int .i64 (x :: N).length)) ∧ Fr c w (wx.setCell ⟨c.R, 5, none⟩ (.int .i64 (x :: N).length))))
  case first =>
    go_region_law (first
      | (refine step_append_lies _ rfl _ _ 87 rfl (c.M + 1) 3 i0 _ 1 8 Tryd.underlying87 HI.out.1 HI.out.2.1 HI.out.2.2.1 HI.out.2.2.2 rfl (by decide) _ zs.length (zs.map (Value.int .i64)) rfl (HOA.out.1.alloc _) ⟨w.heap.size, 0, none⟩ 1 1 [.int .i64 N.length] rfl rfl (cell_one_new w _ _) (by intro u hu; simp at hu; subst hu; rfl) (by decide) (by unfold maxLen; omega) (by omega) (by simp; omega) _ rfl ?_
         intro g cap w3 hown hgrow hat hg3
         have hgg := (World.grownBy_alloc w.drew (.cells #[.int .i64 N.length] 3) v.ownBlock).trans hgrow
         obtain ⟨w2, hrun2, hown2, hgrow2⟩ := HBKA.out w3 (.slice (some ⟨g, 0, none⟩) (zs.length + 1) cap) (zs ++ [(N.length : Int)]) hgg (HOA.out.appended hown HWF.out) (by simp; omega) (by
           rcases hat with e | e
           · exact Or.inl e.symm
           · exact Or.inr ⟨g, rfl, by rw [e]; simp⟩)
         have q4 : w3.cell? ⟨c.R, 4, none⟩ = some (.map (some c.M)) := by rw [Lib.cell_of_heap (row_old HOA.out hgg HRA.out (fun cs fz e => by injection e with _ e _; exact ri_ne e))]; rfl
         have HF := Lib.hid (bind_close (x := x) HFRA.out (names_fin HHA.out (N' := x :: N) (sl' := sl) HOA.out hgg hgrow2 HRA.out (by have := HR2.out; omega) HR3A.out hown2 (env := x :: env) (by rw [HNE.out]; rfl) HEP.out (by simp only [List.length_cons]; omega)))
         have hr2 := HF.out.1
         clear hown hgrow hgg hown2 hgrow2)
      | (refine step_append_lies _ rfl _ _ 87 rfl (c.M + 1) 3 i0 _ 1 8 Tryd.underlying87 HI.out.1 HI.out.2.1 HI.out.2.2.1 HI.out.2.2.2 rfl (by decide) _ zs.length (zs.map (Value.int .i64)) rfl (HOB.out.1) ⟨w.heap.size, 0, none⟩ 1 1 [.int .i64 N.length] rfl rfl (cell_one_new w _ _) (by intro u hu; simp at hu; subst hu; rfl) (by decide) (by unfold maxLen; omega) (by omega) (by simp; omega) _ rfl ?_
         intro g cap w3 hown hgrow hat hg3
         have hgg := hgrow
         obtain ⟨w2, hrun2, hown2, hgrow2⟩ := HBKB.out w3 (.slice (some ⟨g, 0, none⟩) (zs.length + 1) cap) (zs ++ [(N.length : Int)]) hgg (HOB.out.appended hown HWF.out) (by simp; omega) (by
           rcases hat with e | e
           · exact Or.inl e.symm
           · exact Or.inr ⟨g, rfl, by rw [e]; simp⟩)
         have q4 : w3.cell? ⟨c.R, 4, none⟩ = some (.map (some c.M)) := by rw [Lib.cell_of_heap (row_old HOB.out hgg HRB.out (fun cs fz e => by injection e with _ e _; exact ri_ne e))]; rfl
         have HF := Lib.hid (bind_close (x := x) HFRB.out (names_fin HHB.out (N' := x :: N) (sl' := sl) HOB.out hgg hgrow2 HRB.out (by have := HR2.out; omega) HR3B.out hown2 (env := x :: env) (by rw [HNE.out]; rfl) HEP.out (by simp only [List.length_cons]; omega)))
         have hr2 := HF.out.1
         clear hown hgrow hgg hown2 hgrow2)
      | (refine step_update _ rfl _ _ _ 66 rfl rfl rfl rfl hrun2 ?_))
    all_goals
      clear hr2 hrun2 hrun hrunB b4 b5 a4 a5
      go_wp2_with fail
      go_meet
      case rel => exact ⟨rfl, HF⟩
  case rest =>
    obtain ⟨rfl, HF⟩ := hcut
    have hr2 := HF.out.1
    have c5 : wc.cell? ⟨c.R, 5, none⟩ = some (.int .i64 N.length) := by rw [Lib.cell_of_heap hr2]; rfl
    have f5 : wc.frozen? ⟨c.R, 5, none⟩ = false := Lib.frozen_of_heap hr2 5
    clear hr2 hrun hrunB b4 b5 a4 a5
    go_wp2
    go_end0
    have h9 := HF.out.2
    have e9 : (((x :: N).length : Nat) : Int) = (N.length : Int) + 1 := by simp
    rw [e9] at h9
    exact ⟨rfl, h9.1, h9.2⟩
end Go.Proofs.YtllkackipdcekaaDoor

namespace Go.Proofs.YtllkackipdcekaaDoor
open Go.RowKit Go.Maps Go.ChangeShapes

theorem row_some {w : World} {base : Nat} {v : Value} {zs : List Int} (ho : w.ownsInts base 3 .i64 v zs) (h0 : 0 < zs.length) : ∃ g cap, v = .slice (some ⟨g, 0, none⟩) zs.length cap := by
  rcases ho.1.2 with ⟨_, h⟩ | ⟨g, cap, cur, hv, _⟩
  · omega
  · exact ⟨g, cap, hv⟩
theorem row_form {w : World} {base : Nat} {v : Value} {zs : List Int} (ho : w.ownsInts base 3 .i64 v zs) : ∃ a cap, v = .slice a zs.length cap ∧ zs.length ≤ cap ∧ cap ≤ maxLen := by
  rcases ho.1.2 with ⟨hv, h⟩ | ⟨g, cap, cur, hv, _, _, h1, h2, _⟩
  · exact ⟨none, 0, by rw [hv, h], by omega, by decide⟩
  · exact ⟨_, cap, hv, h1, h2⟩
theorem row_less {w : World} {base g cap : Nat} {zs : List Int} {z : Int} (ho : w.ownsInts base 3 .i64 (.slice (some ⟨g, 0, none⟩) (zs ++ [z]).length cap) (zs ++ [z])) : w.ownsInts base 3 .i64 (.slice (some ⟨g, 0, none⟩) zs.length cap) zs := by
  obtain ⟨⟨h1, h2⟩, h3⟩ := ho
  refine ⟨⟨by simp, ?_⟩, fun y hy => h3 y (List.mem_append_left _ hy)⟩
  rcases h2 with ⟨hv, _⟩ | ⟨g', cap', cur, hv, hb, hh, hl, hm, hs, ht⟩
  · cases hv
  · simp only [Value.slice.injEq, Option.some.injEq, Addr.mk.injEq, and_true, true_and] at hv
    obtain ⟨rfl, rfl⟩ := hv
    simp only [List.length_append, List.length_cons, List.length_nil] at hl ht
    refine Or.inr ⟨g, cap, cur, rfl, hb, hh, by omega, hm, hs, ?_⟩
    have h9 : (cur.toList.take ((zs.length + (0 + 1)) * 1)).take (zs.length * 1) = ((zs ++ [z]).map (Value.int .i64)).take (zs.length * 1) := by rw [ht]
    rw [List.take_take] at h9
    rw [show min (zs.length * 1) ((zs.length + (0 + 1)) * 1) = zs.length * 1 by omega] at h9
    rw [h9]
    simp
set_option maxHeartbeats 2000000 in
set_option maxRecDepth 20000 in
theorem unbind_any (c : RC) (sl : Nat) (x : List UInt8) (N : Names) (ts : List Tok) (w : World) (h : RSt c (sl + 1) (x :: N) ts w) (hx : x.length ≤ 10000000) (hN : c.out.length ≤ N.length) :
    Calls Tryd.prog 103 #[.pointer (some ⟨c.R, 0, none⟩), .string ⟨x.toArray⟩] w fun e w' => e = .returned (.tuple #[]) ∧ RSt c sl N ts w' ∧ Fr c w w' := by
  obtain ⟨lk, n, xv, D, env0, r1, r2, r3, r4, hNe, r5⟩ := h.rdr
  obtain ⟨env, rfl⟩ : ∃ env, env0 = x :: env := by
    cases env0 with
    | nil => exfalso; have := congrArg List.length hNe; simp at this; omega
    | cons y env => simp at hNe; exact ⟨env, by rw [hNe.1]⟩
  have hNN : N = env ++ c.out.reverse := by simpa using hNe
  have hkk := h.kk
  obtain ⟨v, hrun, ho, hzl, hback⟩ := group_at r4 (by omega) r5 x hx
  have hEP := env_put r5 x (env' := env) (fun y hy => (poss_other hy env c.out.length).symm)
  rw [poss_bind] at ho hzl
  obtain ⟨zs, hzs⟩ : ∃ zs, poss x env c.out.length = zs := ⟨_, rfl⟩
  rw [hzs] at ho hzl hEP
  obtain ⟨g, cap, rfl⟩ := row_some ho (by simp)
  have hcap : zs.length + 1 ≤ cap := by obtain ⟨a, cap', e, h1, _⟩ := row_form ho; simp only [Value.slice.injEq] at e; obtain ⟨_, _, rfl⟩ := e; simpa using h1
  have hgd : w.grownBy w.drew (Value.ownBlock (.slice (some ⟨g, 0, none⟩) (zs ++ [((c.out.length + env.length : Nat) : Int)]).length cap)) := ⟨rfl, rfl, rfl, Nat.le_refl _, fun _ _ _ => rfl⟩
  obtain ⟨w2, hrun2, hown2, hgrow2⟩ := hback w.drew (.slice (some ⟨g, 0, none⟩) zs.length cap) zs hgd (row_less ho) (by simp at hzl ⊢; omega) (Or.inl rfl)
  have hF := names_fin h (N' := N) (sl' := sl) ho hgd hgrow2 r1 (by omega) r3 hown2 hNN hEP (by have := h.many; simp only [List.length_cons] at this; omega)
  have HF := Lib.hid hF
  have hlz : (zs ++ [((c.out.length + env.length : Nat) : Int)]).length = zs.length + 1 := by simp
  rw [hlz] at hrun
  have hmany : N.length ≤ 100000000000 := by have := h.many; simp only [List.length_cons] at this; omega
  have hzm : zs.length ≤ 100000000000 := by simp at hzl; omega
  have hwr : IntKind.i64.wrap (zs.length : Int) = (zs.length : Int) := IntWalk.i64_in _ (by omega)
  have hcz : (zs.length : Int) ≤ (cap : Int) := by omega
  have e9 : (((x :: N).length : Nat) : Int) = (N.length : Int) + 1 := by simp
  have a4 : w.cell? ⟨c.R, 4, none⟩ = some (.map (some c.M)) := by rw [Lib.cell_of_heap r1]; rfl
  have hr2 := hF.1
  have c5 : w2.cell? ⟨c.R, 5, none⟩ = some (.int .i64 ((N.length : Int) + 1)) := by rw [Lib.cell_of_heap hr2, ← e9]; rfl
  have f5 : w2.frozen? ⟨c.R, 5, none⟩ = false := Lib.frozen_of_heap hr2 5
  clear h r1 r2 r3 r4 r5 hNe hNN hEP ho hzl hback hown2 hgrow2 hF hr2 hlz hgd hzs e9
  go_enter Tryd.func103, Tryd.ntmps103
  go_wp2_with fail
  go_region_law (first | (refine step_update _ rfl _ _ _ 66 rfl rfl rfl rfl hrun2 ?_))
  all_goals
    clear hrun hrun2 a4
    go_wp2
    go_end0
    exact ⟨rfl, HF.out.2⟩
end Go.Proofs.YtllkackipdcekaaDoor

namespace Go.Proofs.YtllkackipdcekaaDoor
open Go.RowKit Go.Maps Go.ChangeShapes

/-- The place of a name, counted from the outermost one, or -1. -/
def placeN (x : List UInt8) (N : Names) : Int := match idxL x N with
  | some q => (N.length : Int) - 1 - q
  | none => -1
theorem map_some (X : Nat) (w : World) : (binOp BinOp.eql 67 (.map (some X)) (.map none)).run Tryd.prog w = .ok (.bool false) w := by kernel_rfl
theorem map_none (w : World) : (binOp BinOp.eql 67 (.map none) (.map none)).run Tryd.prog w = .ok (.bool true) w := by kernel_rfl
theorem make_idx (n : Int) (w : World) : (Instr.makeMap 67 (some (.int .i64 n))).run Tryd.prog w = .ok (.map (some w.heap.size)) (w.alloc (.map #[] 0)) := by kernel_rfl
theorem zero_int (w : World) : (zeroValue 3).run Tryd.prog w = .ok (.int .i64 0) w := by kernel_rfl
/-- All blocks but the reader's own. -/
def OldBut (c : RC) (w w' : World) : Prop := ∀ (b : Nat) (o : Obj), w.heap[b]? = some o → b ≠ c.R → w'.heap[b]? = some o
theorem OldBut.trans {c : RC} {w w1 w2 : World} (h : OldBut c w w1) (k : OldBut c w1 w2) : OldBut c w w2 := fun b o e hne => k b o (h b o e hne) hne
theorem OldBut.set (c : RC) (w : World) (i : Nat) (v : Value) : OldBut c w (w.setCell ⟨c.R, i, none⟩ v) := fun b o e hne => by
  rw [heap_setCell_other w ⟨c.R, i, none⟩ b v (by exact hne)]; exact e
theorem OldBut.alloc (c : RC) (w : World) (o : Obj) : OldBut c w (w.alloc o) := fun b o' e _ => by rw [Lib.alloc_old _ _ _ (hlt_of e)]; exact e
/-- The reader's state behind a step that turns but its own block. -/
theorem RSt.own {c : RC} {sl sl' : Nat} {N : Names} {ts : List Tok} {w w' : World} (h : RSt c sl N ts w) (hf : Fr c w w') (ho : OldBut c w w') {lk n : Nat} {xv : Value} {D : DataW Unit} {env : Names} (q4 : w.ownsGroups Tryd.prog 9 (c.M + 1) 3 .i64 c.M n D) (hM : c.M ≠ c.R)
    (hRt : ∀ cs fz, w.heap[c.R]? ≠ some (Obj.cells cs 3 fz)) (r1 : RAt w' c N.length xv lk) (r2 : n + lk + 100 * ts.length + sl' ≤ c.K) (r3 : IdxIs w' c xv) (hN : N = env ++ c.out.reverse) (he : EnvIs D env c.out.length) (hsl : sl' ≤ sl := by omega) : RSt c sl' N ts w' := by
  obtain ⟨es, clock, hm⟩ := groups_map q4
  exact h.turn hf (fun b o e _ _ h2 => ho b o e h2) r1 r2 r3 (groups_same q4 (by rw [ho _ _ hm hM, hm]) fun g cs fz e => ho g _ e (fun e2 => hRt cs fz (by rw [← e2]; exact e))) hN he (by have := h.many; omega)
set_option maxHeartbeats 2000000 in
set_option maxRecDepth 20000 in
/-- A name that is bound within the text. -/
theorem place_in (c : RC) (sl : Nat) (x : List UInt8) (N : Names) (ts : List Tok) (w : World) (h : RSt c (sl + 1) N ts w) (hx : x.length ≤ 10000000) {lk n : Nat} {xv : Value} {D : DataW Unit} {env : Names} (r1 : RAt w c N.length xv lk) (r2 : n + lk + 100 * ts.length + (sl + 1) ≤ c.K) (r4 : w.ownsGroups Tryd.prog 9 (c.M + 1) 3 .i64 c.M n D) (hNe : N = env ++ c.out.reverse) (r5 : EnvIs D env c.out.length) {q : Nat} (hq : idxL x env = some q) :
    Calls Tryd.prog 67 #[.pointer (some ⟨c.R, 0, none⟩), .string ⟨x.toArray⟩] w fun e w' => e = .returned (.int .i64 (placeN x N)) ∧ RSt c sl N ts w' ∧ Fr c w w' := by
  have hkk := h.kk
  obtain ⟨v, hrun, ho, hzl, hback⟩ := group_at r4 (by omega) r5 x hx
  have hpl : placeN x N = ((c.out.length + (env.length - 1 - q) : Nat) : Int) := by
    unfold placeN
    rw [hNe, idxL_append, hq]
    have := idxL_lt hq
    simp; omega
  obtain ⟨l, hl⟩ := poss_some (o := c.out.length) hq
  rw [hl] at ho hzl
  obtain ⟨g, cap, rfl⟩ := row_some ho (by simp)
  have HP := Lib.hid hpl
  have HH := Lib.hid h
  have hcell : w.cell? ⟨g, l.length, none⟩ = some (.int .i64 ((c.out.length + (env.length - 1 - q) : Nat) : Int)) := by
    have := ho.1.cells (g := g) rfl l.length (.int .i64 ((c.out.length + (env.length - 1 - q) : Nat) : Int)) (by simp)
    by_cases h0 : l.length = 0
    · rw [h0] at this ⊢; simpa [Addr.add] using this
    · simpa [Addr.add, h0] using this
  have hlen : (l ++ [((c.out.length + (env.length - 1 - q) : Nat) : Int)]).length = l.length + 1 := by simp
  rw [hlen] at hrun hzl
  have a4 : w.cell? ⟨c.R, 4, none⟩ = some (.map (some c.M)) := by rw [Lib.cell_of_heap r1]; rfl
  obtain ⟨z, hz⟩ : ∃ z, ((c.out.length + (env.length - 1 - q) : Nat) : Int) = z := ⟨_, rfl⟩
  rw [hz] at hcell HP
  have hll : l.length ≤ 100000000000 := by omega
  have hcp : l.length + 1 ≤ cap := by obtain ⟨a, cap', e, h1, _⟩ := row_form ho; simp only [Value.slice.injEq] at e; obtain ⟨_, _, rfl⟩ := e; simpa using h1
  clear h r1 r2 r4 hNe r5 hq ho hback hpl hl hzl hlen hz
  go_enter Tryd.func67, Tryd.ntmps67
  go_wp2
  go_ret
  exact ⟨by rw [HP.out]; rfl, HH.out.less (by omega), Fr.refl _ _⟩
/-- An index of the first k outer names. -/
def IdxF (c : RC) (w : World) (N : Names) (X lk k : Nat) (wr : World) : Prop := RAt wr c N.length (.map (some X)) (lk + 1) ∧ OldBut c w wr ∧ Fr c w wr ∧ ∃ D2, wr.ownsMap Tryd.prog 9 (plainElem (H := Unit) Tryd.prog 3) X k D2 ∧ IdxAt D2 (c.out.take k)
set_option maxHeartbeats 4000000 in
set_option maxRecDepth 20000 in
/-- A name that is not bound within the text. -/
theorem place_out (c : RC) (sl : Nat) (x : List UInt8) (N : Names) (ts : List Tok) (w : World) (h : RSt c (sl + 1) N ts w) (hx : x.length ≤ 10000000) {lk n : Nat} {xv : Value} {D : DataW Unit} {env : Names} (r1 : RAt w c N.length xv lk) (r2 : n + lk + 100 * ts.length + (sl + 1) ≤ c.K) (r3 : IdxIs w c xv) (r4 : w.ownsGroups Tryd.prog 9 (c.M + 1) 3 .i64 c.M n D) (hNe : N = env ++ c.out.reverse) (r5 : EnvIs D env c.out.length) (hq : idxL x env = none) :
    Calls Tryd.prog 67 #[.pointer (some ⟨c.R, 0, none⟩), .string ⟨x.toArray⟩] w fun e w' => e = .returned (.int .i64 (placeN x N)) ∧ RSt c sl N ts w' ∧ Fr c w w' := by
  have hkk := h.kk
  obtain ⟨v, hrun, ho, hzl, hback⟩ := group_at r4 (by omega) r5 x hx
  rw [poss_none hq] at ho hzl
  obtain ⟨a, cap, rfl, hcap, hcm⟩ := row_form ho
  have hpl : placeN x N = match idxL x c.out.reverse with | some q => (c.out.length : Int) - 1 - q | none => -1 := by
    unfold placeN
    rw [hNe, idxL_append, hq]
    cases idxL x c.out.reverse with
    | none => rfl
    | some q => simp; omega
  have HP := Lib.hid hpl
  have HH := Lib.hid h
  have HG := Lib.hid r4
  have HNE := Lib.hid hNe
  have HE := Lib.hid r5
  have HR3 := Lib.hid r3
  have hR := Lib.hid r1
  have hMR : c.M ≠ c.R := fun e => by obtain ⟨es, clock, hM⟩ := groups_map r4; unfold RAt at r1; rw [e, r1] at hM; cases hM
  have hRt : ∀ cs fz, w.heap[c.R]? ≠ some (Obj.cells cs 3 fz) := fun cs fz e => ri_ne (type_one r1 e)
  have HRT := Lib.hid (And.intro hMR hRt)
  have a4 : w.cell? ⟨c.R, 4, none⟩ = some (.map (some c.M)) := by rw [Lib.cell_of_heap r1]; rfl
  have a7 : w.cell? ⟨c.R, 7, none⟩ = some (.int .i64 lk) := by rw [Lib.cell_of_heap r1]; rfl
  have f7 : w.frozen? ⟨c.R, 7, none⟩ = false := Lib.frozen_of_heap r1 7
  obtain ⟨ao, co, hov, hol, hom, hox⟩ := h.outs
  have hlk : lk ≤ 100000000000 := by omega
  have HOX := Lib.hid h.outs
  have HSL := Lib.hid (show n + (lk + 1) + 100 * ts.length + sl ≤ c.K by omega)
  have HKEY := Lib.hid (key_of x hx)
  have hlo := h.lo
  simp only [List.length_nil] at hrun
  unfold maxLen at hom
  clear h r1 r2 r3 r4 hNe r5 hq ho hback hpl hzl hcap hcm hox hRt hMR
  go_enter Tryd.func67, Tryd.ntmps67
  go_upto_region 4 with fail
  go_cut [5] (fun s5 wx => s5 = .slice a 0 cap ∧ Hid (RAt wx c N.length xv (lk + 1) ∧ OldBut c w wx ∧ Fr c w wx))
  case first =>
    go_wp2_with fail
    go_meet
    case rel =>
      have hset : RAt (w.setCell ⟨c.R, 7, none⟩ (.int .i64 ((lk : Int) + 1))) c N.length xv (lk + 1) := heap_setCell_same w c.R 7 _ _ _ hR.out
      exact ⟨rfl, Lib.hid ⟨hset, OldBut.set _ _ _ _, (HH.out.cell hR.out 7 _).1⟩⟩
  case rest =>
  obtain ⟨rfl, HW⟩ := hcut
  have hRc := HW.out.1
  have b3 : wc.cell? ⟨c.R, 3, none⟩ = some (.slice ao c.out.length co) := by rw [Lib.cell_of_heap hRc, ← hov]; rfl
  have b6 : wc.cell? ⟨c.R, 6, none⟩ = some xv := by rw [Lib.cell_of_heap hRc]; rfl
  have b7 : wc.cell? ⟨c.R, 7, none⟩ = some (.int .i64 ((lk : Int) + 1)) := by rw [Lib.cell_of_heap hRc]; rfl
  have f6 : wc.frozen? ⟨c.R, 6, none⟩ = false := Lib.frozen_of_heap hRc 6
  have HX := Lib.hid (HOX.out.keep HW.out.2.2.below)
  rw [hov] at HX
  have HV := Lib.hid hov
  have hRlt : c.R < wc.heap.size := hlt_of hRc
  clear hRc a4 a7 f7 hrun hov
  by_cases hk : lk + 1 ≤ 16
  · have hk2 : (lk : Int) + 1 ≤ 16 := by omega
    clear hk
    go_wp2_with fail
    go_loop [6] (fun i => ∃ k : Nat, k ≤ c.out.length ∧ i = .int .i64 ((k : Int) - 1) ∧ Hid (idxL x (c.out.drop k).reverse = none)) (fun i => (intOf i + 1).toNat)
    case atStart => exact ⟨c.out.length, Nat.le_refl _, by go_num, Lib.hid (by rw [List.drop_length]; rfl)⟩
    case round =>
      obtain ⟨k, hkl, rfl, hno⟩ := hrel
      cases k with
      | zero =>
        have hz : ¬ (0 : Int) ≤ ((0 : Nat) : Int) - 1 := by omega
        go_wp2
        go_ret
        have HR2 := HH.out.own HW.out.2.2 HW.out.2.1 HG.out HRT.out.1 HRT.out.2 HW.out.1 HSL.out (idxIs_same HR3.out fun b es clock hne e => HW.out.2.1 b _ e (fun e2 => by have h1 := hR.out; unfold RAt at h1; rw [e2, h1] at e; cases e)) HNE.out HE.out
        refine ⟨?_, HR2, HW.out.2.2⟩
        have h0 := hno.out
        rw [List.drop_zero] at h0
        rw [HP.out, h0]; rfl
      | succ q =>
        have e1 : (((q + 1 : Nat) : Int) - 1) = (q : Int) := by omega
        rw [e1]
        have hq : q < c.out.length := by omega
        have hqi : (q : Int) < (c.out.length : Int) := by omega
        obtain ⟨_, _, e2, _, _, hcx⟩ := HX.out
        obtain ⟨g, o, e3, _, hc⟩ := hcx q hq
        simp only [Value.slice.injEq] at e2
        obtain ⟨rfl, -, rfl⟩ := e2
        subst e3
        have hdr : c.out.drop q = c.out[q] :: c.out.drop (q + 1) := List.drop_eq_getElem_cons hq
        have HD := Lib.hid (show idxL x (c.out.drop q).reverse = if c.out[q] = x then some (c.out.length - (q + 1)) else none from by
          rw [hdr, List.reverse_cons, idxL_append, hno.out]
          by_cases he : c.out[q] = x <;> simp [idxL, he])
        obtain ⟨y, hy⟩ : ∃ y, c.out[q] = y := ⟨_, rfl⟩
        rw [hy] at hc HD
        have HY := Lib.hid hy
        clear hdr hcx hy
        cases hyx : (y == x)
        · go_wp2
          go_round
          case rel => exact ⟨q, by omega, by go_num, Lib.hid (by rw [HD.out, if_neg (by simpa using hyx)])⟩
          case measure => simp [intOf]
        · go_wp2
          go_ret
          have HR2 := HH.out.own HW.out.2.2 HW.out.2.1 HG.out HRT.out.1 HRT.out.2 HW.out.1 HSL.out (idxIs_same HR3.out fun b es clock hne e => HW.out.2.1 b _ e (fun e2 => by have h1 := hR.out; unfold RAt at h1; rw [e2, h1] at e; cases e)) HNE.out HE.out
          refine ⟨?_, HR2, HW.out.2.2⟩
          have h1 := HD.out
          rw [if_pos (by simpa using hyx)] at h1
          have h2 : idxL x c.out.reverse = some (c.out.length - (q + 1)) := by
            have h3 : c.out.reverse = (c.out.drop q).reverse ++ (c.out.take q).reverse := by rw [← List.reverse_append, List.take_append_drop]
            rw [h3, idxL_append, h1]
          rw [HP.out, h2]
          show Ending.returned (.int .i64 (q : Int)) = .returned (.int .i64 ((c.out.length : Int) - 1 - ((c.out.length - (q + 1) : Nat) : Int)))
          rw [show (c.out.length : Int) - 1 - ((c.out.length - (q + 1) : Nat) : Int) = (q : Int) by omega]
  · have hk2 : ¬ (lk : Int) + 1 ≤ 16 := by omega
    clear hk
    rcases HR3.out with hxv | ⟨X, n2, D2, hxv, hX, hXM, hn2, hown0, hia⟩
    · subst hxv
      have HMK := Lib.hid (World.ownsMap_made wc Tryd.prog 9 (plainElem (H := Unit) Tryd.prog 3))
      have hmn := map_none wc
      have hmm := make_idx (c.out.length : Int) wc
      have f6' : (wc.alloc (.map #[] 0)).frozen? ⟨c.R, 6, none⟩ = false := Lib.frozen_of_heap ((Lib.alloc_old _ _ _ hRlt).trans HW.out.1) 6
      have c6' : (wc.alloc (.map #[] 0)).cell? ⟨c.R, 6, none⟩ = some (.map none) := by rw [Lib.cell_of_heap ((Lib.alloc_old wc (.map #[] 0) _ hRlt).trans HW.out.1)]; rfl
      obtain ⟨X, hXe⟩ : ∃ X, wc.heap.size = X := ⟨_, rfl⟩
      have hXM : X ≠ c.M := by obtain ⟨es, clock, hM⟩ := groups_map HG.out; have := hlt_of hM; have := HW.out.2.2.size; omega
      have hXR : X ≠ c.R := by omega
      have hXB : c.B ≤ X := by have := HW.out.2.2.size; omega
      have hout : c.out.length ≤ 100000000000 := by have h1 := HH.out.many; have h2 := congrArg List.length HNE.out; simp at h2; omega
      have HS := Lib.hid HH.out.short
      go_upto_region 13 with fail
      go_cut [5] (fun s5 wx => s5 = .slice a 0 cap ∧ Hid (IdxF c w N X lk 0 wx))
      case first =>
        go_wp2_with fail
        go_meet
        case rel =>
          refine ⟨rfl, Lib.hid ?_⟩
          have hR1 : RAt (wc.alloc (.map #[] 0)) c N.length (.map none) (lk + 1) := (Lib.alloc_old _ _ _ hRlt).trans HW.out.1
          rw [← hXe]
          refine ⟨heap_setCell_same _ c.R 6 _ _ _ hR1, HW.out.2.1.trans ((OldBut.alloc c wc _).trans (OldBut.set c _ 6 _)), ?_, .map [], HMK.out.setCell (by show _ ≠ c.R; rw [hXe]; exact hXR) _, idxAt_nil⟩
          have hf1 : Fr c w (wc.alloc (.map #[] 0)) := HW.out.2.2.alloc (by have := HW.out.2.2.size; omega) _
          exact hf1.trans (Fr.grown (row := some c.R) (grown_at ⟨rfl, rfl, rfl, Nat.le_refl _, fun _ _ _ => rfl⟩ 6 _) (fun b e => by obtain rfl := Option.some.inj e; exact HH.out.bR) (fun b e cs T fz e2 => by obtain rfl := Option.some.inj e; exact Or.inr (Or.inl (type_one e2 hR1))) (by have := hf1.size; omega))
      case rest =>
      obtain ⟨rfl, HF0⟩ := hcut
      have b3' : wc.cell? ⟨c.R, 3, none⟩ = some (.slice ao c.out.length co) := by rw [Lib.cell_of_heap HF0.out.1, ← HV.out]; rfl
      clear b3 b6 b7 f6 f6' c6' hmn hmm
      go_wp2_with fail
      go_loopw [77] (fun i wr => ∃ k : Nat, k ≤ c.out.length ∧ i = .int .i64 k ∧ Hid (IdxF c w N X lk k wr)) (fun i _ => c.out.length - (intOf i).toNat)
      case atStart => exact ⟨0, Nat.zero_le _, rfl, HF0⟩
      case round =>
        obtain ⟨k, hkl, rfl, HFk⟩ := hrel
        clear b3' HF0
        by_cases hlt : k < c.out.length
        · obtain ⟨D2, hown, hia⟩ := HFk.out.2.2.2
          have hox := HOX.out.keep HFk.out.2.2.1.below
          rw [HV.out] at hox
          obtain ⟨_, _, e2, _, _, hcx⟩ := hox
          obtain ⟨g, o, e3, _, hc⟩ := hcx k hlt
          simp only [Value.slice.injEq] at e2
          obtain ⟨rfl, -, rfl⟩ := e2
          subst e3
          have hRr := HFk.out.1
          have e6 : wr.cell? ⟨c.R, 6, none⟩ = some (.map (some X)) := by rw [Lib.cell_of_heap hRr]; rfl
          have htk : c.out.take (k + 1) = c.out.take k ++ [c.out[k]] := by simp
          have hyl := HS.out _ (List.getElem_mem hlt)
          obtain ⟨y, hy⟩ : ∃ y, c.out[k] = y := ⟨_, rfl⟩
          rw [hy] at hc htk hyl
          obtain ⟨w', hrun3, hown3, hgrow3⟩ := hown.update key_law Tryd.underlying67 (by unfold maxLen; omega) (key_of y hyl) (plainElem_int Tryd.underlying3 (int_wf (k : Int) (by omega) (by omega)))
          have hi3 := idxAt_put hown.isMap hia y
          rw [List.length_take, show min k c.out.length = k by omega, ← htk] at hi3
          have HN := Lib.hid (show IdxF c w N X lk (k + 1) w' from by
            have old : ∀ (b : Nat) (o : Obj), wr.heap[b]? = some o → b ≠ X → w'.heap[b]? = some o := fun b o e hne => by rw [hgrow3.block b (hlt_of e) (fun e2 => hne (Option.some.inj e2))]; exact e
            refine ⟨old _ _ hRr (Ne.symm hXR), fun b o e hne => old b o (HFk.out.2.1 b o e hne) (by have := hlt_of e; have := HW.out.2.2.size; omega), ?_, _, hown3, hi3⟩
            refine HFk.out.2.2.1.trans (Fr.grown hgrow3 (fun b e => by obtain rfl := Option.some.inj e; exact hXB) (fun b e cs T fz e2 => ?_) (by have := HFk.out.2.2.1.size; omega))
            obtain rfl := Option.some.inj e
            obtain ⟨es, clock, hb, _⟩ := hown
            rw [hb] at e2; cases e2)
          clear hown hia hown3 hgrow3 hi3 hcx hRr htk hy
          go_wp2
          go_roundw
          case rel => exact ⟨k + 1, by omega, by go_num, HN⟩
          case measure => simp [intOf]; omega
        · obtain rfl : k = c.out.length := by omega
          obtain ⟨D2, hown, hia⟩ := HFk.out.2.2.2
          rw [List.take_length] at hia
          have hX := hXB
          have hn2 := hout
          have HZ := Lib.hid (show RAt wr c N.length (.map (some X)) (lk + 1) ∧ OldBut c w wr ∧ Fr c w wr from ⟨HFk.out.1, HFk.out.2.1, HFk.out.2.2.1⟩)
          have HR2 := Lib.hid (HH.out.own HZ.out.2.2 HZ.out.2.1 HG.out HRT.out.1 HRT.out.2 HZ.out.1 HSL.out (Or.inr ⟨X, _, D2, rfl, hX, hXM, hn2, hown, hia⟩) HNE.out HE.out)
          have hRc := HZ.out.1
          have d6 : wr.cell? ⟨c.R, 6, none⟩ = some (.map (some X)) := by rw [Lib.cell_of_heap hRc]; rfl
          obtain ⟨v2, ps, hrun2, hv2⟩ := hown.look_ok key_law Tryd.underlying67 (zero_int wr) (plainElem_int Tryd.underlying3 (by decide)) HKEY.out
          have hia2 := hia x
          clear hRc hown hia
          cases hq : idxL x c.out.reverse with
          | none =>
            rw [hq] at hia2
            simp only at hia2
            rw [hia2] at hrun2
            go_wp2
            go_ret
            refine ⟨?_, HR2.out, HZ.out.2.2⟩
            rw [HP.out, hq]; rfl
          | some q =>
            rw [hq] at hia2
            simp only at hia2
            rw [hia2.1] at hrun2
            rw [hia2.2] at hv2
            obtain ⟨z, rfl, hz, _⟩ := plainElem_int_inv Tryd.underlying3 hv2
            have hz2 : ((c.out.length - 1 - q : Nat) : Int) = z := by
              have := congrArg Prod.fst hz
              simpa using this
            go_wp2
            go_ret
            refine ⟨?_, HR2.out, HZ.out.2.2⟩
            have := idxL_lt hq
            rw [List.length_reverse] at this
            rw [HP.out, hq]
            show Ending.returned (.int .i64 z) = .returned (.int .i64 ((c.out.length : Int) - 1 - (q : Int)))
            rw [← hz2, show (c.out.length : Int) - 1 - (q : Int) = ((c.out.length - 1 - q : Nat) : Int) by omega]
    · subst hxv
      have hown : wc.ownsMap Tryd.prog 9 (plainElem (H := Unit) Tryd.prog 3) X n2 D2 := by
        obtain ⟨es, clock, hb, r⟩ := hown0
        exact ⟨es, clock, HW.out.2.1 _ _ hb (fun e2 => by have h1 := hR.out; unfold RAt at h1; rw [e2, h1] at hb; cases hb), r⟩
      have HZ := Lib.hid (show RAt wc c N.length (.map (some X)) (lk + 1) ∧ OldBut c w wc ∧ Fr c w wc from HW.out)
      have hms := map_some X wc
      clear hown0
      have HR2 := Lib.hid (HH.out.own HZ.out.2.2 HZ.out.2.1 HG.out HRT.out.1 HRT.out.2 HZ.out.1 HSL.out (Or.inr ⟨X, _, D2, rfl, hX, hXM, hn2, hown, hia⟩) HNE.out HE.out)
      have hRc := HZ.out.1
      obtain ⟨v2, ps, hrun2, hv2⟩ := hown.look_ok key_law Tryd.underlying67 (zero_int wc) (plainElem_int Tryd.underlying3 (by decide)) HKEY.out
      have hia2 := hia x
      clear hRc hown hia
      cases hq : idxL x c.out.reverse with
      | none =>
        rw [hq] at hia2
        simp only at hia2
        rw [hia2] at hrun2
        go_wp2
        go_ret
        refine ⟨?_, HR2.out, HZ.out.2.2⟩
        rw [HP.out, hq]; rfl
      | some q =>
        rw [hq] at hia2
        simp only at hia2
        rw [hia2.1] at hrun2
        rw [hia2.2] at hv2
        obtain ⟨z, rfl, hz, _⟩ := plainElem_int_inv Tryd.underlying3 hv2
        have hz2 : ((c.out.length - 1 - q : Nat) : Int) = z := by
          have := congrArg Prod.fst hz
          simpa using this
        go_wp2
        go_ret
        refine ⟨?_, HR2.out, HZ.out.2.2⟩
        have := idxL_lt hq
        rw [List.length_reverse] at this
        rw [HP.out, hq]
        show Ending.returned (.int .i64 z) = .returned (.int .i64 ((c.out.length : Int) - 1 - (q : Int)))
        rw [← hz2, show (c.out.length : Int) - 1 - (q : Int) = ((c.out.length - 1 - q : Nat) : Int) by omega]
end Go.Proofs.YtllkackipdcekaaDoor

namespace Go.Proofs.YtllkackipdcekaaDoor
open Go.RowKit Go.Maps Go.ChangeShapes

theorem place_any (c : RC) (sl : Nat) (x : List UInt8) (N : Names) (ts : List Tok) (w : World) (h : RSt c (sl + 1) N ts w) (hx : x.length ≤ 10000000) :
    Calls Tryd.prog 67 #[.pointer (some ⟨c.R, 0, none⟩), .string ⟨x.toArray⟩] w fun e w' => e = .returned (.int .i64 (placeN x N)) ∧ RSt c sl N ts w' ∧ Fr c w w' := by
  obtain ⟨lk, n, xv, D, env, r1, r2, r3, r4, hNe, r5⟩ := h.rdr
  cases hq : idxL x env with
  | some q => exact place_in c sl x N ts w h hx r1 r2 r4 hNe r5 hq
  | none => exact place_out c sl x N ts w h hx r1 r2 r3 r4 hNe r5 hq
/-- The tables of words lie below B. -/
structure TabsR (B : Nat) (w : World) : Prop where
  lo : 2 < B ∧ 0 < B
  heads : ∀ k < 21, w.cell? ⟨2, k, none⟩ = some (.string ⟨(((headsW.drop 3)[k]?).getD []).toArray⟩)
  syms : ∀ k < 21, w.cell? ⟨0, k, none⟩ = some (.string ⟨((symsW[k]?).getD []).toArray⟩)
theorem TabsR.keep {B : Nat} {w w' : World} (h : TabsR B w) (hb : Below B w w') : TabsR B w' :=
  ⟨h.lo, fun k hk => (hb.cell (by exact h.lo.1)).trans (h.heads k hk), fun k hk => (hb.cell (by exact h.lo.2)).trans (h.syms k hk)⟩

set_option maxRecDepth 20000 in
theorem sortOf_any (k : Int) (w : World) : Calls Tryd.prog 84 #[.int .i64 k] w fun e w' => e = .returned (.int .i64 (sortN k)) ∧ w = w' := by
  go_enter Tryd.func84, Tryd.ntmps84
  go_wp2
  all_goals go_ret
  all_goals exact ⟨by unfold sortN; (repeat' split) <;> first | rfl | (exfalso; omega), rfl⟩
set_option maxRecDepth 20000 in
theorem levelsOf_any (k : Int) (w : World) : Calls Tryd.prog 85 #[.int .i64 k] w fun e w' => e = .returned (.int .i64 (levelsN k)) ∧ w = w' := by
  go_enter Tryd.func85, Tryd.ntmps85
  go_wp2
  all_goals go_ret
  all_goals exact ⟨by simp only [beq_iff_eq, beq_eq_false_iff_ne, ne_eq] at *; unfold levelsN; (repeat' split) <;> first | rfl | (exfalso; omega), rfl⟩

set_option maxHeartbeats 2000000 in
set_option maxRecDepth 20000 in
theorem symbol_any (B : Nat) (x : List UInt8) (w : World) (hT : TabsR B w) : Calls Tryd.prog 20 #[.string ⟨x.toArray⟩] w fun e w' => e = .returned (.int .i64 (symN x)) ∧ w = w' := by
  have HT := Lib.hid hT
  clear hT
  obtain ⟨L, hL⟩ : ∃ L, symsW = L := ⟨_, rfl⟩
  have hL21 : L.length = 21 := by rw [← hL]; rfl
  have HL := Lib.hid hL
  have HI := Lib.hid (show ∀ o, idxL x L = o → symN x = (match o with | some i => (i : Int) + 1 | none => 0) from fun o ho => by unfold symN; first | (rw [hL, ho]; done) | (rw [hL, ho]; cases o <;> rfl))
  
  go_enter Tryd.func20, Tryd.ntmps20
  go_wp2_with fail
  go_loop [4] (fun i => ∃ k : Nat, k ≤ 21 ∧ i = .int .i64 k ∧ Hid (idxL x L = (idxL x (L.drop k)).map (· + k))) (fun i => 21 - (intOf i).toNat)
  case atStart => exact ⟨0, Nat.zero_le _, rfl, Lib.hid (by rw [List.drop_zero]; cases idxL x L <;> rfl)⟩
  case round =>
    obtain ⟨k, hk, rfl, hno⟩ := hrel
    by_cases hlt : k < 21
    · have hc := HT.out.syms k hlt
      have hkl : k < L.length := by omega
      have hdr : L.drop k = L[k] :: L.drop (k + 1) := List.drop_eq_getElem_cons hkl
      have hcc : w.cell? ⟨0, k, none⟩ = some (.string ⟨(L[k]).toArray⟩) := by rw [hc]; simp only [HL.out, List.getElem?_eq_getElem hkl, Option.getD_some]
      obtain ⟨y, hy⟩ : ∃ y, L[k] = y := ⟨_, rfl⟩
      rw [hy] at hcc hdr
      have HD := Lib.hid hdr
      clear hc hdr hy
      cases hyx : (y == x)
      · go_wp2
        go_round
        case rel =>
          refine ⟨k + 1, by omega, by go_num, Lib.hid ?_⟩
          rw [hno.out, HD.out]
          simp only [idxL]
          rw [if_neg (by simpa using hyx)]
          cases idxL x (L.drop (k + 1)) <;> simp; omega
        case measure => simp [intOf]; omega
      · go_wp2
        go_ret
        refine ⟨?_, rfl⟩
        have h1 : idxL x L = some k := by
          rw [hno.out, HD.out]
          simp only [idxL]
          rw [if_pos (by simpa using hyx)]
          simp
        rw [HI.out _ h1]
        (try rfl)
    · obtain rfl : k = 21 := by omega
      go_wp2
      go_ret
      refine ⟨?_, rfl⟩
      have h1 : idxL x L = none := by rw [hno.out, List.drop_eq_nil_of_le (by omega)]; rfl
      rw [HI.out _ h1]
      (try rfl)

set_option maxHeartbeats 2000000 in
set_option maxRecDepth 20000 in
theorem headed_any (B : Nat) (x : List UInt8) (w : World) (hT : TabsR B w) : Calls Tryd.prog 83 #[.string ⟨x.toArray⟩] w fun e w' => e = .returned (.int .i64 (headN x)) ∧ w = w' := by
  have HT := Lib.hid hT
  clear hT
  obtain ⟨L, hL⟩ : ∃ L, headsW.drop 3 = L := ⟨_, rfl⟩
  have hL21 : L.length = 21 := by rw [← hL]; rfl
  have HL := Lib.hid hL
  have HI := Lib.hid (show ∀ o, idxL x L = o → headN x = (if x = [115, 111, 114, 116] then 1 else match o with | some i => (i : Int) + 3 | none => 0) from fun o ho => by unfold headN; first | (rw [hL, ho]; done) | (rw [hL, ho]; cases o <;> rfl))
  by_cases hs : x = [115, 111, 114, 116]
  · subst hs
    go_enter Tryd.func83, Tryd.ntmps83
    go_wp2
    go_ret
    exact ⟨by unfold headN; rw [if_pos rfl]; rfl, rfl⟩
  have hsb : (x == [115, 111, 114, 116]) = false := by simpa using hs
  go_enter Tryd.func83, Tryd.ntmps83
  go_wp2_with fail
  go_loop [6] (fun i => ∃ k : Nat, k ≤ 21 ∧ i = .int .i64 k ∧ Hid (idxL x L = (idxL x (L.drop k)).map (· + k))) (fun i => 21 - (intOf i).toNat)
  case atStart => exact ⟨0, Nat.zero_le _, rfl, Lib.hid (by rw [List.drop_zero]; cases idxL x L <;> rfl)⟩
  case round =>
    obtain ⟨k, hk, rfl, hno⟩ := hrel
    by_cases hlt : k < 21
    · have hc := HT.out.heads k hlt
      have hkl : k < L.length := by omega
      have hdr : L.drop k = L[k] :: L.drop (k + 1) := List.drop_eq_getElem_cons hkl
      have hcc : w.cell? ⟨2, k, none⟩ = some (.string ⟨(L[k]).toArray⟩) := by rw [hc]; simp only [HL.out, List.getElem?_eq_getElem hkl, Option.getD_some]
      obtain ⟨y, hy⟩ : ∃ y, L[k] = y := ⟨_, rfl⟩
      rw [hy] at hcc hdr
      have HD := Lib.hid hdr
      clear hc hdr hy
      cases hyx : (y == x)
      · go_wp2
        go_round
        case rel =>
          refine ⟨k + 1, by omega, by go_num, Lib.hid ?_⟩
          rw [hno.out, HD.out]
          simp only [idxL]
          rw [if_neg (by simpa using hyx)]
          cases idxL x (L.drop (k + 1)) <;> simp; omega
        case measure => simp [intOf]; omega
      · go_wp2
        go_ret
        refine ⟨?_, rfl⟩
        have h1 : idxL x L = some k := by
          rw [hno.out, HD.out]
          simp only [idxL]
          rw [if_pos (by simpa using hyx)]
          simp
        rw [HI.out _ h1]
        rw [if_neg hs]
        (try rfl)
    · obtain rfl : k = 21 := by omega
      go_wp2
      go_ret
      refine ⟨?_, rfl⟩
      have h1 : idxL x L = none := by rw [hno.out, List.drop_eq_nil_of_le (by omega)]; rfl
      rw [HI.out _ h1, if_neg hs]
      (try rfl)
end Go.Proofs.YtllkackipdcekaaDoor

namespace Go.Proofs.YtllkackipdcekaaDoor
open Go.RowKit Go.Maps Go.ChangeShapes

def RTake (c : RC) (sl : Nat) (N : Names) (w : World) (x : Except Nat (Tok × List Tok)) (e : Ending) (w' : World) : Prop :=
  match x with
  | .error a => e = faultP a ∧ Fr c w w'
  | .ok (t, r) => e = .returned (.agg #[.int .i64 t.k, .string ⟨t.s.toArray⟩, .int .i64 t.at_]) ∧ RSt c (sl + 100) N r w' ∧ Fr c w w'
theorem RSt.rtake {c : RC} {sl : Nat} {N : Names} {ts : List Tok} {w : World} (h : RSt c sl N ts w) (k : Nat) : Calls Tryd.prog 66 #[.pointer (some ⟨c.S, 0, none⟩), .int .i64 k] w (RTake c sl N w (takeT c.E k ts)) := by
  obtain ⟨tv, h1, h2⟩ := h.str
  refine (take_any c.S tv c.E c.br ts k w h1 h2).mono ?_
  intro e w' hg
  cases hx : takeT c.E k ts with
  | error a =>
    rw [hx] at hg
    obtain ⟨he, hgr⟩ := hg
    exact ⟨he, Fr.grown hgr (fun b e => by obtain rfl := Option.some.inj e; exact h.bS) (fun b e cs T fz e2 => by obtain rfl := Option.some.inj e; exact Or.inl (type_one e2 h1)) h.lo⟩
  | ok p =>
    obtain ⟨t, r⟩ := p
    rw [hx] at hg
    obtain ⟨he, hgr, v', h3, h4⟩ := hg
    have hl := takeT_eq hx
    have hs := h.stream hgr ⟨v', h3, h4⟩ (fun y hy => by rw [hl.1]; exact List.mem_cons_of_mem _ hy) (sl' := sl + 100) (by rw [hl.1]; simp; omega)
    exact ⟨he, hs.1, hs.2⟩
theorem RSt.rnext {c : RC} {sl : Nat} {N : Names} {ts : List Tok} {w : World} (h : RSt c sl N ts w) (k : Nat) : Calls Tryd.prog 64 #[.pointer (some ⟨c.S, 0, none⟩), .int .i64 k] w fun e w' => e = .returned (.bool ((ts.head?.map fun t => t.k == k).getD false)) ∧ w = w' := by
  obtain ⟨tv, h1, h2⟩ := h.str
  exact next_tok c.S tv c.E c.br ts k w h1 h2
theorem RSt.rhere {c : RC} {sl : Nat} {N : Names} {ts : List Tok} {w : World} (h : RSt c sl N ts w) : Calls Tryd.prog 69 #[.pointer (some ⟨c.S, 0, none⟩)] w fun e w' => e = .returned (.int .i64 (hereT c.E ts)) ∧ w = w' := by
  obtain ⟨tv, h1, h2⟩ := h.str
  exact here_any c.S tv c.E c.br ts w h1 h2
theorem RSt.cells {c : RC} {sl : Nat} {N : Names} {ts : List Tok} {w : World} (h : RSt c sl N ts w) : w.cell? ⟨c.R, 0, none⟩ = some (.pointer (some ⟨c.S, 0, none⟩)) ∧ w.cell? ⟨c.R, 1, none⟩ = some (.int .i64 c.i) ∧ w.cell? ⟨c.R, 2, none⟩ = some (.int .i64 c.j) ∧ w.cell? ⟨c.R, 5, none⟩ = some (.int .i64 N.length) ∧ c.R < w.heap.size := by
  obtain ⟨lk, n, xv, D, env, r1, _⟩ := h.rdr
  exact ⟨by rw [Lib.cell_of_heap r1]; rfl, by rw [Lib.cell_of_heap r1]; rfl, by rw [Lib.cell_of_heap r1]; rfl, by rw [Lib.cell_of_heap r1]; rfl, hlt_of r1⟩
theorem RSt.tokOk {c : RC} {sl : Nat} {N : Names} {ts r : List Tok} {t : Tok} {k E : Nat} {w : World} (h : RSt c sl N ts w) (hx : takeT E k ts = .ok (t, r)) : t.s.length ≤ 10000000 := h.tok t (by rw [(takeT_eq hx).1]; exact List.mem_cons_self)
def NumG (c : RC) (sl : Nat) (N : Names) (w : World) (x : Except Nat (Int × List Tok)) (e : Ending) (w' : World) : Prop :=
  match x with
  | .error a => e = faultP a ∧ Fr c w w'
  | .ok (n, r) => e = .returned (.int .i64 n) ∧ RSt c sl N r w' ∧ Fr c w w' ∧ 0 ≤ n ∧ n ≤ 10000000
def LevelC (c : RC) (f : Nat) (lv : List Tok → Except Nat (Int × List Tok)) : Prop := ∀ (ts : List Tok) (sl : Nat) (N : Names) (w : World), ts.length < f → RSt c sl N ts w → Calls Tryd.prog 86 #[.pointer (some ⟨c.R, 0, none⟩)] w (NumG c sl N w (lv ts))
theorem LevelC.use {c : RC} {f : Nat} {lv : List Tok → Except Nat (Int × List Tok)} (h : LevelC c f lv) (ts : List Tok) (sl : Nat) (N : Names) (w : World) (h1 : ts.length < f) (h2 : RSt c sl N ts w) : Calls Tryd.prog 86 #[.pointer (some ⟨c.R, 0, none⟩)] w (NumG c sl N w (lv ts)) := h ts sl N w h1 h2
set_option maxRecDepth 20000 in
theorem field_tok (a b d : Value) (w : World) : (Instr.field 97 (.agg #[a, b, d]) 1).run Tryd.prog w = .ok b w := by kernel_rfl
theorem head_k (t : Tok) (r : List Tok) (k : Nat) : (((t :: r).head?.map fun t => t.k == k).getD false) = (t.k == k) := rfl
theorem getB_le {l : List UInt8} {n : Nat} (h : getB l = some n) : n ≤ 1000000 := by
  unfold getB at h
  split at h
  · cases h
  · split at h
    · rename_i h2; cases h; exact h2.2
    · cases h
theorem getV_eq (l : List UInt8) : ∃ b, getV l = .tuple #[.int .i64 ((getB l).getD 0 : Nat), .bool b] := by
  unfold getV
  cases getB l with
  | none => exact ⟨_, rfl⟩
  | some n => exact ⟨_, rfl⟩
theorem getB_d (l : List UInt8) : (getB l).getD 0 ≤ 1000000 := by
  cases e : getB l with
  | none => simp
  | some n => have := getB_le e; simpa using this

set_option maxHeartbeats 4000000 in
set_option maxRecDepth 20000 in
theorem number_any (c : RC) (f : Nat) (lv : List Tok → Except Nat (Int × List Tok)) (hij : (0 ≤ c.i ∧ c.i ≤ 1000) ∧ 0 ≤ c.j ∧ c.j ≤ 1000) (hlv : LevelC c f lv) (hll : ∀ ts n r, lv ts = .ok (n, r) → r.length < ts.length ∧ n ≤ 1000) (ts : List Tok) (sl : Nat) (N : Names) (w : World) (hf : ts.length < f + 1) (h : RSt c sl N ts w) :
    Calls Tryd.prog 101 #[.pointer (some ⟨c.R, 0, none⟩)] w (NumG c sl N w (numP lv c.E c.i c.j ts)) := by
  have HS := Lib.hid h
  have HLV := Lib.hid hlv
  have HLL := Lib.hid hll
  obtain ⟨r0, r1, r2, r5, rlt⟩ := h.cells
  clear h hlv hll
  cases ts with
  | nil =>
    go_enter Tryd.func101, Tryd.ntmps101
    go_wp2_with fail
    refine (HS.out.rnext 4).mono ?_
    rintro e w1 ⟨rfl, rfl⟩
    rw [show ((([] : List Tok).head?.map fun t => t.k == 4).getD false) = false from rfl]
    go_wp2_with fail
    refine (HS.out.rnext 3).mono ?_
    rintro e w1 ⟨rfl, rfl⟩
    rw [show ((([] : List Tok).head?.map fun t => t.k == 3).getD false) = false from rfl]
    go_wp2_with fail
    refine (HS.out.rtake 1).mono ?_
    intro e w1 hg
    obtain ⟨rfl, hf1⟩ : e = faultP c.E ∧ Fr c w w1 := hg
    unfold faultP
    go_wp2
    exact ⟨rfl, rfl, hf1⟩
  | cons t r =>
    simp only [List.length_cons] at hf
    by_cases k4 : t.k = 4
    · have kb : (t.k == 4) = true := by simpa using k4
      have HV := Lib.hid (show numP lv c.E c.i c.j (t :: r) = .ok ((((getB t.s).getD 0 : Nat) : Int), r) by simp only [numP]; rw [if_pos k4])
      have HT := Lib.hid (show takeT c.E 4 (t :: r) = .ok (t, r) from if_pos k4)
      have hgb := getB_d t.s
      obtain ⟨z, hz⟩ : ∃ z, (getB t.s).getD 0 = z := ⟨_, rfl⟩
      have hkl := HS.out.tok t List.mem_cons_self
      have HGE := Lib.hid (getV_eq t.s)
      have hfl := field_tok
      rw [hz] at HV hgb HGE
      clear k4 hz
      go_enter Tryd.func101, Tryd.ntmps101
      go_wp2_with fail
      refine (HS.out.rnext 4).mono ?_
      rintro e w1 ⟨rfl, rfl⟩
      rw [head_k, kb]
      go_wp2_with fail
      refine (HS.out.rtake 4).mono ?_
      intro e w1 hg
      rw [HT.out] at hg
      obtain ⟨rfl, hs1, hf1⟩ := hg
      go_wp2_with fail
      refine (get_any ⟨t.s.toArray⟩ w1 (by show t.s.toArray.size ≤ maxLen; unfold maxLen; rw [List.size_toArray]; omega)).mono ?_
      rintro e w2 ⟨rfl, rfl⟩
      obtain ⟨bb, hbb⟩ := HGE.out
      rw [show (⟨t.s.toArray⟩ : ByteArray).data.toList = t.s from rfl, hbb]
      go_wp2
      go_ret
      rw [HV.out]
      exact ⟨rfl, hs1.less (by omega), hf1, by omega, by omega⟩
    have kb : (t.k == 4) = false := by simpa using k4
    by_cases k3 : t.k = 3
    · have kc : (t.k == 3) = true := by simpa using k3
      have HV := Lib.hid (show numP lv c.E c.i c.j (t :: r) = (if t.s = [105] then .ok (c.i, r) else if t.s = [106] then .ok (c.j, r) else .error t.at_) by simp only [numP]; rw [if_neg k4, if_pos k3])
      have HT := Lib.hid (show takeT c.E 3 (t :: r) = .ok (t, r) from if_pos k3)
      clear k4 k3
      go_enter Tryd.func101, Tryd.ntmps101
      go_wp2_with fail
      refine (HS.out.rnext 4).mono ?_
      rintro e w1 ⟨rfl, rfl⟩
      rw [head_k, kb]
      go_wp2_with fail
      refine (HS.out.rnext 3).mono ?_
      rintro e w1 ⟨rfl, rfl⟩
      rw [head_k, kc]
      go_wp2_with fail
      refine (HS.out.rtake 3).mono ?_
      intro e w1 hg
      rw [HT.out] at hg
      obtain ⟨rfl, hs1, hf1⟩ := hg
      have HS1 := Lib.hid hs1
      have HF1 := Lib.hid hf1
      have HA := Lib.hid (hf1.alloc hs1.lo (.cells #[.int .i64 t.k, .string ⟨t.s.toArray⟩, .int .i64 t.at_] 97))
      have HSA := Lib.hid (hs1.later ((Below.refl _ w1).alloc (Nat.le_refl _) (.cells #[.int .i64 t.k, .string ⟨t.s.toArray⟩, .int .i64 t.at_] 97)))
      clear r0 r1 r2 r5 rlt hs1 hf1
      obtain ⟨r0, r1, r2, r5, rlt⟩ := HS1.out.cells
      by_cases si : t.s = [105]
      · have sb : (t.s == [105]) = true := by simpa using si
        have SI := Lib.hid si
        clear si
        go_wp2
        go_ret
        rw [HV.out, if_pos SI.out]
        exact ⟨rfl, HSA.out.less (by omega), HA.out, hij.1.1, by omega⟩
      · have sb : (t.s == [105]) = false := by simpa using si
        by_cases sj : t.s = [106]
        · have sc : (t.s == [106]) = true := by simpa using sj
          have SJ := Lib.hid sj
          clear sj
          go_wp2
          go_ret
          rw [HV.out, if_neg si, if_pos SJ.out]
          exact ⟨rfl, HSA.out.less (by omega), HA.out, hij.2.1, by omega⟩
        · have sc : (t.s == [106]) = false := by simpa using sj
          go_wp2_with fail
          refine (fail_any _ _).mono ?_
          rintro e w2 ⟨rfl, rfl⟩
          unfold faultP
          go_wp2
          rw [HV.out, if_neg si, if_neg sj]
          exact ⟨rfl, rfl, HA.out⟩
    have kc : (t.k == 3) = false := by simpa using k3
    by_cases k1 : t.k = 1
    · have HV := Lib.hid (show numP lv c.E c.i c.j (t :: r) = numQ lv c.E r by simp only [numP]; rw [if_neg k4, if_neg k3, if_pos k1])
      have HT := Lib.hid (show takeT c.E 1 (t :: r) = .ok (t, r) from if_pos k1)
      clear k1 k3 k4
      go_enter Tryd.func101, Tryd.ntmps101
      go_wp2_with fail
      refine (HS.out.rnext 4).mono ?_
      rintro e w1 ⟨rfl, rfl⟩
      rw [head_k, kb]
      go_wp2_with fail
      refine (HS.out.rnext 3).mono ?_
      rintro e w1 ⟨rfl, rfl⟩
      rw [head_k, kc]
      go_wp2_with fail
      refine (HS.out.rtake 1).mono ?_
      intro e w1 hg
      rw [HT.out] at hg
      obtain ⟨rfl, hs1, hf1⟩ := hg
      have HS1 := Lib.hid hs1
      have HF1 := Lib.hid hf1
      clear r0 r1 r2 r5 rlt hs1 hf1
      obtain ⟨r0, r1, r2, r5, rlt⟩ := HS1.out.cells
      go_wp2_with fail
      refine (HS1.out.rtake 3).mono ?_
      intro e w2 hg2
      cases hx2 : takeT c.E 3 r with
      | error a2 =>
        rw [hx2] at hg2
        obtain ⟨rfl, hf2⟩ := hg2
        unfold faultP
        go_wp2
        rw [HV.out]; unfold numQ; rw [hx2]
        exact ⟨rfl, rfl, HF1.out.trans hf2⟩
      | ok p2 =>
      obtain ⟨t2, q2⟩ := p2
      rw [hx2] at hg2
      obtain ⟨rfl, hs2, hf2⟩ := hg2
      have HS2 := Lib.hid hs2
      have HF2 := Lib.hid hf2
      have hk2 := HS1.out.tokOk hx2
      have HX2 := Lib.hid hx2
      have HXL2 := Lib.hid (takeT_len hx2)
      clear hs2 hf2 hx2 r0 r1 r2 r5 rlt
      obtain ⟨r0, r1, r2, r5, rlt⟩ := HS2.out.cells
      have HA := Lib.hid (HF2.out.alloc HS2.out.lo (.cells #[.int .i64 t2.k, .string ⟨t2.s.toArray⟩, .int .i64 t2.at_] 97))
      have HSA := Lib.hid (HS2.out.later ((Below.refl _ w2).alloc (Nat.le_refl _) (.cells #[.int .i64 t2.k, .string ⟨t2.s.toArray⟩, .int .i64 t2.at_] 97)))
      by_cases si : t2.s = [115, 117, 99]
      · have sb : (t2.s == [115, 117, 99]) = true := by simpa using si
        have SI := Lib.hid si
        clear si
        go_wp2_with fail
        refine (HLV.out.use q2 _ N _ (by have := HXL2.out; omega) HSA.out).mono ?_
        intro e w3 hg3
        cases hx3 : lv q2 with
        | error a3 =>
          rw [hx3] at hg3
          obtain ⟨rfl, hf3⟩ := hg3
          unfold faultP
          go_wp2
          rw [HV.out]; unfold numQ; rw [HX2.out]; simp only; rw [if_pos SI.out, hx3]
          exact ⟨rfl, rfl, (HF1.out.trans HA.out).trans hf3⟩
        | ok p3 =>
        obtain ⟨n3, q3⟩ := p3
        rw [hx3] at hg3
        obtain ⟨rfl, hs3, hf3, hlo3, -⟩ := hg3
        have hhi3 := (HLL.out _ _ _ hx3).2
        have HLN3 := Lib.hid (HLL.out _ _ _ hx3).1
        have HS3 := Lib.hid hs3
        have HF3 := Lib.hid hf3
        have HL3 := Lib.hid hx3
        clear hs3 hf3 hx3 r0 r1 r2 r5 rlt
        obtain ⟨r0, r1, r2, r5, rlt⟩ := HS3.out.cells
        go_wp2_with fail
        refine (HS3.out.rtake 2).mono ?_
        intro e w4 hg4
        cases hx4 : takeT c.E 2 q3 with
        | error a4 =>
          rw [hx4] at hg4
          obtain ⟨rfl, hf4⟩ := hg4
          unfold faultP
          go_wp2
          rw [HV.out]; unfold numQ; rw [HX2.out]; simp only; rw [if_pos SI.out, HL3.out]; simp only; rw [hx4]
          exact ⟨rfl, rfl, (HF1.out.trans HA.out).trans (HF3.out.trans hf4)⟩
        | ok p4 =>
        obtain ⟨t4, q4⟩ := p4
        rw [hx4] at hg4
        obtain ⟨rfl, hs4, hf4⟩ := hg4
        have HS4 := Lib.hid hs4
        have HF4 := Lib.hid hf4
        have hk4 := HS3.out.tokOk hx4
        have HX4 := Lib.hid hx4
        have HXL4 := Lib.hid (takeT_len hx4)
        clear hs4 hf4 hx4 r0 r1 r2 r5 rlt
        obtain ⟨r0, r1, r2, r5, rlt⟩ := HS4.out.cells
        go_wp2
        go_ret
        rw [HV.out]; unfold numQ; rw [HX2.out]; simp only; rw [if_pos SI.out, HL3.out]; simp only; rw [HX4.out]
        exact ⟨rfl, HS4.out.less (by omega), (HF1.out.trans HA.out).trans (HF3.out.trans HF4.out), by omega, by omega⟩
      · have sb : (t2.s == [115, 117, 99]) = false := by simpa using si
        by_cases sj : t2.s = [109, 97, 120]
        · have sc : (t2.s == [109, 97, 120]) = true := by simpa using sj
          have SJ := Lib.hid sj
          clear sj
          go_wp2_with fail
          refine (HLV.out.use q2 _ N _ (by have := HXL2.out; omega) HSA.out).mono ?_
          intro e w3 hg3
          cases hx3 : lv q2 with
          | error a3 =>
            rw [hx3] at hg3
            obtain ⟨rfl, hf3⟩ := hg3
            unfold faultP
            go_wp2
            rw [HV.out]; unfold numQ; rw [HX2.out]; simp only; rw [if_neg si, if_pos SJ.out, hx3]
            exact ⟨rfl, rfl, (HF1.out.trans HA.out).trans hf3⟩
          | ok p3 =>
          obtain ⟨n3, q3⟩ := p3
          rw [hx3] at hg3
          obtain ⟨rfl, hs3, hf3, hlo3, -⟩ := hg3
          have hhi3 := (HLL.out _ _ _ hx3).2
          have HLN3 := Lib.hid (HLL.out _ _ _ hx3).1
          have HS3 := Lib.hid hs3
          have HF3 := Lib.hid hf3
          have HL3 := Lib.hid hx3
          clear hs3 hf3 hx3 r0 r1 r2 r5 rlt
          obtain ⟨r0, r1, r2, r5, rlt⟩ := HS3.out.cells
          go_wp2_with fail
          refine (HLV.out.use q3 _ N _ (by have := HXL2.out; have := HLN3.out; omega) HS3.out).mono ?_
          intro e w5 hg5
          cases hx5 : lv q3 with
          | error a5 =>
            rw [hx5] at hg5
            obtain ⟨rfl, hf5⟩ := hg5
            unfold faultP
            go_wp2
            rw [HV.out]; unfold numQ; rw [HX2.out]; simp only; rw [if_neg si, if_pos SJ.out, HL3.out]; simp only; rw [hx5]
            exact ⟨rfl, rfl, (HF1.out.trans HA.out).trans (HF3.out.trans hf5)⟩
          | ok p5 =>
          obtain ⟨n5, q5⟩ := p5
          rw [hx5] at hg5
          obtain ⟨rfl, hs5, hf5, hlo5, -⟩ := hg5
          have hhi5 := (HLL.out _ _ _ hx5).2
          have HLN5 := Lib.hid (HLL.out _ _ _ hx5).1
          have HS5 := Lib.hid hs5
          have HF5 := Lib.hid hf5
          have HL5 := Lib.hid hx5
          clear hs5 hf5 hx5 r0 r1 r2 r5 rlt
          obtain ⟨r0, r1, r2, r5, rlt⟩ := HS5.out.cells
          go_wp2_with fail
          refine (HS5.out.rtake 2).mono ?_
          intro e w4 hg4
          cases hx4 : takeT c.E 2 q5 with
          | error a4 =>
            rw [hx4] at hg4
            obtain ⟨rfl, hf4⟩ := hg4
            unfold faultP
            go_wp2
            rw [HV.out]; unfold numQ; rw [HX2.out]; simp only; rw [if_neg si, if_pos SJ.out, HL3.out]; simp only; rw [HL5.out]; simp only; rw [hx4]
            exact ⟨rfl, rfl, (HF1.out.trans HA.out).trans (HF3.out.trans (HF5.out.trans hf4))⟩
          | ok p4 =>
          obtain ⟨t4, q4⟩ := p4
          rw [hx4] at hg4
          obtain ⟨rfl, hs4, hf4⟩ := hg4
          have HS4 := Lib.hid hs4
          have HF4 := Lib.hid hf4
          have hk4 := HS5.out.tokOk hx4
          have HX4 := Lib.hid hx4
          have HXL4 := Lib.hid (takeT_len hx4)
          clear hs4 hf4 hx4 r0 r1 r2 r5 rlt
          obtain ⟨r0, r1, r2, r5, rlt⟩ := HS4.out.cells
          go_wp2
          go_ret
          rw [HV.out]; unfold numQ; rw [HX2.out]; simp only; rw [if_neg si, if_pos SJ.out, HL3.out]; simp only; rw [HL5.out]; simp only; rw [HX4.out]
          exact ⟨rfl, HS4.out.less (by omega), (HF1.out.trans HA.out).trans (HF3.out.trans (HF5.out.trans HF4.out)), by omega, by omega⟩
        · have sc : (t2.s == [109, 97, 120]) = false := by simpa using sj
          go_wp2_with fail
          refine (fail_any _ _).mono ?_
          rintro e w3 ⟨rfl, rfl⟩
          unfold faultP
          go_wp2
          rw [HV.out]; unfold numQ; rw [HX2.out]; simp only; rw [if_neg si, if_neg sj]
          exact ⟨rfl, rfl, HF1.out.trans HA.out⟩
    · have HV := Lib.hid (show numP lv c.E c.i c.j (t :: r) = .error t.at_ by simp only [numP]; rw [if_neg k4, if_neg k3, if_neg k1])
      have HT := Lib.hid (show takeT c.E 1 (t :: r) = .error t.at_ from if_neg k1)
      clear k1 k3 k4
      go_enter Tryd.func101, Tryd.ntmps101
      go_wp2_with fail
      refine (HS.out.rnext 4).mono ?_
      rintro e w1 ⟨rfl, rfl⟩
      rw [head_k, kb]
      go_wp2_with fail
      refine (HS.out.rnext 3).mono ?_
      rintro e w1 ⟨rfl, rfl⟩
      rw [head_k, kc]
      go_wp2_with fail
      refine (HS.out.rtake 1).mono ?_
      intro e w1 hg
      rw [HT.out] at hg
      obtain ⟨rfl, hf1⟩ := hg
      unfold faultP
      go_wp2
      rw [HV.out]
      exact ⟨rfl, rfl, hf1⟩
end Go.Proofs.YtllkackipdcekaaDoor

namespace Go.Proofs.YtllkackipdcekaaDoor
open Go.RowKit

/-- The five cells of an element, written one behind the other. -/
def put5 (w : World) (g o : Nat) (t : Tm) (s : Value) : World := ((((w.setCell ⟨g, o, none⟩ (.int .i64 t.k)).setCell ⟨g, o + 1, none⟩ (.int .i64 t.i)).setCell ⟨g, o + 2, none⟩ (.int .i64 t.j)).setCell ⟨g, o + 3, none⟩ (.int .i64 t.n)).setCell ⟨g, o + 4, none⟩ s

theorem put5_other (w : World) (g o : Nat) (t : Tm) (s : Value) {b : Nat} (h : b ≠ g) : (put5 w g o t s).heap[b]? = w.heap[b]? := by
  unfold put5; repeat rw [Below.heap_setCell _ _ _ _ (by exact h)]
theorem put5_rest (w : World) (g o : Nat) (t : Tm) (s : Value) : (put5 w g o t s).os = w.os ∧ (put5 w g o t s).tape = w.tape ∧ (put5 w g o t s).output = w.output := by simp [put5, World.setCell]
theorem put5_size (w : World) (g o : Nat) (t : Tm) (s : Value) : (put5 w g o t s).heap.size = w.heap.size := by simp [put5, World.setCell]
theorem put5_block {w : World} {g : Nat} {cs : Array Value} {T : TypeId} (o : Nat) (t : Tm) (s : Value) (h : w.heap[g]? = some (.cells cs T (0, 0))) :
    (put5 w g o t s).heap[g]? = some (.cells (((((cs.setIfInBounds o (.int .i64 t.k)).setIfInBounds (o + 1) (.int .i64 t.i)).setIfInBounds (o + 2) (.int .i64 t.j)).setIfInBounds (o + 3) (.int .i64 t.n)).setIfInBounds (o + 4) s) T (0, 0)) :=
  heap_setCell_same _ _ _ _ _ _ (heap_setCell_same _ _ _ _ _ _ (heap_setCell_same _ _ _ _ _ _ (heap_setCell_same _ _ _ _ _ _ (heap_setCell_same _ _ _ _ _ _ h))))
theorem put5_out (w : World) (g o : Nat) (t : Tm) (s : Value) {q : Nat} (h : q < o ∨ o + 5 ≤ q) : (put5 w g o t s).cell? ⟨g, q, none⟩ = w.cell? ⟨g, q, none⟩ := by
  unfold put5
  repeat rw [World.cell?_setCell_other _ _ _ _ (by intro e; have := congrArg Addr.off e; simp only at this; omega)]
theorem put5_node {w : World} {g o : Nat} {t0 : Tm} {s0 : Value} (t : Tm) (s : Value) (h : Node w g o t0 s0) : Node (put5 w g o t s) g o t s := by
  have ne : ∀ p q : Nat, p ≠ q → (⟨g, p, none⟩ : Addr) ≠ ⟨g, q, none⟩ := fun p q hpq e => hpq (congrArg Addr.off e)
  unfold put5
  refine ⟨?_, ?_, ?_, ?_, ?_⟩
  · rw [World.cell?_setCell_other _ _ _ _ (ne _ _ (by omega)), World.cell?_setCell_other _ _ _ _ (ne _ _ (by omega)), World.cell?_setCell_other _ _ _ _ (ne _ _ (by omega)), World.cell?_setCell_other _ _ _ _ (ne _ _ (by omega))]
    exact World.cell?_setCell_same _ _ _ h.c0
  · rw [World.cell?_setCell_other _ _ _ _ (ne _ _ (by omega)), World.cell?_setCell_other _ _ _ _ (ne _ _ (by omega)), World.cell?_setCell_other _ _ _ _ (ne _ _ (by omega))]
    refine World.cell?_setCell_same _ _ _ (u := .int .i64 t0.i) ?_
    rw [World.cell?_setCell_other _ _ _ _ (ne _ _ (by omega))]; exact h.c1
  · rw [World.cell?_setCell_other _ _ _ _ (ne _ _ (by omega)), World.cell?_setCell_other _ _ _ _ (ne _ _ (by omega))]
    refine World.cell?_setCell_same _ _ _ (u := .int .i64 t0.j) ?_
    rw [World.cell?_setCell_other _ _ _ _ (ne _ _ (by omega)), World.cell?_setCell_other _ _ _ _ (ne _ _ (by omega))]; exact h.c2
  · rw [World.cell?_setCell_other _ _ _ _ (ne _ _ (by omega))]
    refine World.cell?_setCell_same _ _ _ (u := .int .i64 t0.n) ?_
    rw [World.cell?_setCell_other _ _ _ _ (ne _ _ (by omega)), World.cell?_setCell_other _ _ _ _ (ne _ _ (by omega)), World.cell?_setCell_other _ _ _ _ (ne _ _ (by omega))]; exact h.c3
  · refine World.cell?_setCell_same _ _ _ (u := s0) ?_
    rw [World.cell?_setCell_other _ _ _ _ (ne _ _ (by omega)), World.cell?_setCell_other _ _ _ _ (ne _ _ (by omega)), World.cell?_setCell_other _ _ _ _ (ne _ _ (by omega)), World.cell?_setCell_other _ _ _ _ (ne _ _ (by omega))]; exact h.c4
/-- Another element's cells stay. -/
theorem put5_keep {w : World} {g o o' b : Nat} {t x : Tm} {s sx : Value} (h : Node w b o' x sx) (hne : b ≠ g ∨ o' + 5 ≤ o ∨ o + 5 ≤ o') : Node (put5 w g o t s) b o' x sx := by
  by_cases hb : b = g
  · subst hb
    have hne' : o' + 5 ≤ o ∨ o + 5 ≤ o' := hne.resolve_left (fun h => h rfl)
    exact ⟨(put5_out _ _ _ _ _ (by omega)).trans h.c0, (put5_out _ _ _ _ _ (by omega)).trans h.c1, (put5_out _ _ _ _ _ (by omega)).trans h.c2, (put5_out _ _ _ _ _ (by omega)).trans h.c3, (put5_out _ _ _ _ _ (by omega)).trans h.c4⟩
  · exact h.same (put5_other _ _ _ _ _ hb)

/-- A list that was made whole and is filled from the left: block g; xs: the terms as they stand there now. -/
structure Full (B : Nat) (w : World) (g : Nat) (xs : List (Tm × Value)) : Prop where
  above : B ≤ g
  open' : ∃ cs, w.heap[g]? = some (.cells cs 26 (0, 0))
  node : ∀ i (h : i < xs.length), Node w g (i * 5) (xs[i]).1 (xs[i]).2
  fine : ∀ p ∈ xs, p.1.fine
  kids : ∀ p ∈ xs, LiesP w (fun b => Own B w b ∧ b ≠ g) p.1.kids p.2

theorem Full.later {B g : Nat} {w w' : World} {xs : List (Tm × Value)} (h : Full B w g xs) (hb : Below w.heap.size w w') : Full B w' g xs := by
  have hg : g < w.heap.size := by obtain ⟨cs, h⟩ := h.open'; exact (Array.getElem?_eq_some_iff.1 h).1
  exact ⟨h.above, by rw [hb.block g hg]; exact h.open', fun i hi => (h.node i hi).below hb hg, h.fine, fun p hp => (h.kids p hp).keep (fun b _ hlt => hb.block b hlt) (fun _ hq _ => ⟨hq.1.later hb, hq.2⟩)⟩

/-- A new term is laid into it. -/
theorem Full.fill {B g k : Nat} {w : World} {xs : List (Tm × Value)} {t : Tm} {s : Value} (h : Full B w g xs) (hk : k < xs.length) (hf : t.fine) (hl : LiesP w (fun b => Own B w b ∧ b ≠ g) t.kids s) :
    Full B (put5 w g (k * 5) t s) g (xs.set k (t, s)) := by
  have keepL : ∀ l s', LiesP w (fun b => Own B w b ∧ b ≠ g) l s' → LiesP (put5 w g (k * 5) t s) (fun b => Own B (put5 w g (k * 5) t s) b ∧ b ≠ g) l s' := fun l s' h' =>
    h'.keep (fun b hb _ => put5_other _ _ _ _ _ hb.2) (fun b hb _ => ⟨hb.1.same (put5_other _ _ _ _ _ hb.2), hb.2⟩)
  refine ⟨h.above, ?_, fun i hi => ?_, fun p hp => ?_, fun p hp => ?_⟩
  · obtain ⟨cs, hcs⟩ := h.open'; exact ⟨_, put5_block _ _ _ hcs⟩
  · have hi' : i < xs.length := by simpa using hi
    by_cases e : k = i
    · subst e
      simp only [List.getElem_set_self]
      exact put5_node t s (h.node k hk)
    · rw [List.getElem_set_ne e]
      exact put5_keep (h.node i hi') (Or.inr (by omega))
  · rcases List.mem_or_eq_of_mem_set hp with hp | rfl
    · exact h.fine p hp
    · exact hf
  · rcases List.mem_or_eq_of_mem_set hp with hp | rfl
    · exact keepL _ _ (h.kids p hp)
    · exact keepL _ _ hl

/-- A term that a call has just made may be laid into it. -/
theorem Full.fresh {B g : Nat} {wr w2 : World} {xs : List (Tm × Value)} {l : List Tm} {s2 : Value} (h : Full B wr g xs) (hB : B ≤ wr.heap.size) (hk : LiesP w2 (Own wr.heap.size w2) l s2) : LiesP w2 (fun b => Own B w2 b ∧ b ≠ g) l s2 := by
  have hg : g < wr.heap.size := by obtain ⟨cs, h⟩ := h.open'; exact (Array.getElem?_eq_some_iff.1 h).1
  exact hk.keep (fun _ _ _ => rfl) (fun b hb _ => ⟨hb.from hB, by have := hb.1; omega⟩)

/-- The whole list as terms of the call's own memory. -/
theorem Full.lies {B g cap : Nat} {w : World} {xs : List (Tm × Value)} (h : Full B w g xs) (hc : xs.length ≤ cap) (hm : cap ≤ maxLen) : LiesP w (Own B w) (xs.map (·.1)) (.slice (some ⟨g, 0, none⟩) xs.length cap) := by
  have := LiesP.mk (w := w) (P := Own B w) (xs.map (·.1)) (some ⟨g, 0, none⟩) cap (fun i => (xs[i]?.map (·.2)).getD (.slice none 0 0)) (by simpa using hc) hm
    (fun x hx => by obtain ⟨p, hp, rfl⟩ := List.mem_map.1 hx; exact h.fine p hp)
    (fun i hi => by
      have hi' : i < xs.length := by simpa using hi
      refine ⟨g, rfl, ⟨h.above, h.open'⟩, ?_⟩
      simp only [List.getElem_map, List.getElem?_eq_getElem hi', Option.map_some, Option.getD_some]
      exact h.node i hi')
    (fun i hi => by
      have hi' : i < xs.length := by simpa using hi
      simp only [List.getElem_map, List.getElem?_eq_getElem hi', Option.map_some, Option.getD_some]
      exact (h.kids _ (List.getElem_mem hi')).keep (fun _ _ _ => rfl) (fun _ hb _ => hb.1))
  simpa using this

theorem liesP_nil (w : World) (P : Nat → Prop) : LiesP w P [] (.slice none 0 0) := .mk [] none 0 (fun _ => .nilIface) (Nat.le_refl _) (by decide) (fun _ h => by cases h) (fun _ h => by cases h) (fun _ h => by cases h)

/-- All blocks of which P speaks are open. -/
def Free (P : Nat → Prop) (w : World) : Prop := ∀ b, P b → ∃ cs, w.heap[b]? = some (.cells cs 26 (0, 0))

/-- Whatever lay there lies there still, no greater than it was; what P doesn't speak of is as it was. -/
def Shr (P : Nat → Prop) (w w' : World) : Prop := Free P w' ∧ w.heap.size ≤ w'.heap.size ∧ (w'.os = w.os ∧ w'.tape = w.tape ∧ w'.output = w.output) ∧ (∀ b, b < w.heap.size → ¬ P b → w'.heap[b]? = w.heap[b]?) ∧ ∀ l s, LiesP w P l s → ∃ l', l'.length = l.length ∧ sizes l' ≤ sizes l ∧ LiesP w' P l' s

theorem sizes_map_le {n : Nat} (f : Nat → Tm) : ∀ (l : List Tm), l.length = n → (∀ i (h : i < l.length), (f i).size ≤ (l[i]).size) → sizes ((List.range n).map f) ≤ sizes l := by
  intro l hl h
  subst hl
  induction l generalizing f with
  | nil => simp [sizes]
  | cons a r ih =>
    have h0 := h 0 (by simp)
    simp only [List.getElem_cons_zero] at h0
    have := ih (fun i => f (i + 1)) (fun i hi => by have := h (i + 1) (by simpa using hi); simpa using this)
    rw [List.length_cons, List.range_succ_eq_map, List.map_cons, List.map_map]
    simp only [sizes]
    have e : ((fun i => f (i + 1))) = f ∘ Nat.succ := rfl
    rw [e] at this
    omega

instance : Inhabited (Tm × Value) := ⟨(.mk 0 0 0 0 [], .nilIface)⟩

/-- An element is overwritten by a term without kids. -/
theorem LiesP.store {w : World} {P : Nat → Prop} {g j : Nat} {z : Tm} (hz : z.kids = []) (hzf : z.fine) {l : List Tm} {s : Value} (h : LiesP w P l s) :
    ∃ l', l'.length = l.length ∧ sizes l' ≤ sizes l ∧ LiesP (put5 w g (j * 5) z (.slice none 0 0)) P l' s := by
  induction h with
  | mk l a cap S hc hm hf hn hk ih =>
    have key : ∀ i, i < l.length → ∃ p : Tm × Value, p.1.fine ∧ (∀ h : i < l.length, p.1.size ≤ (l[i]).size) ∧ LiesP (put5 w g (j * 5) z (.slice none 0 0)) P p.1.kids p.2 ∧ ∃ b, a = some ⟨b, 0, none⟩ ∧ P b ∧ Node (put5 w g (j * 5) z (.slice none 0 0)) b (i * 5) p.1 p.2 := by
      intro i hi
      obtain ⟨b, ha, hp, hx⟩ := hn i hi
      by_cases e : b = g ∧ i = j
      · obtain ⟨rfl, rfl⟩ := e
        refine ⟨(z, .slice none 0 0), hzf, fun _ => ?_, by rw [hz]; exact liesP_nil _ _, b, ha, hp, put5_node _ _ hx⟩
        rw [Tm.size_eq, Tm.size_eq, hz]; simp [sizes]
      · obtain ⟨l', h1, h2, h3⟩ := ih i hi
        have hfi := hf _ (List.getElem_mem hi)
        refine ⟨(.mk (l[i]).k (l[i]).i (l[i]).j (l[i]).n l', S i), hfi, fun _ => ?_, h3, b, ha, hp, ?_⟩
        · rw [Tm.size_eq, Tm.size_eq]; show sizes l' + 1 ≤ _; omega
        · have : Node w b (i * 5) (.mk (l[i]).k (l[i]).i (l[i]).j (l[i]).n l') (S i) := ⟨hx.c0, hx.c1, hx.c2, hx.c3, hx.c4⟩
          exact put5_keep this (by by_cases hb : b = g
                                   · right; have : i ≠ j := fun e' => e ⟨hb, e'⟩; omega
                                   · exact Or.inl hb)
    obtain ⟨f, hf'⟩ := Go.Deep.choose_lt (α := Tm × Value) (p := fun i p => p.1.fine ∧ (∀ h : i < l.length, p.1.size ≤ (l[i]).size) ∧ LiesP (put5 w g (j * 5) z (.slice none 0 0)) P p.1.kids p.2 ∧ ∃ b, a = some ⟨b, 0, none⟩ ∧ P b ∧ Node (put5 w g (j * 5) z (.slice none 0 0)) b (i * 5) p.1 p.2) key
    have hl5 : ((List.range l.length).map fun i => (f i).1).length = l.length := by simp
    refine ⟨(List.range l.length).map fun i => (f i).1, hl5, sizes_map_le (fun i => (f i).1) l rfl (fun i hi => (hf' i hi).2.1 hi), ?_⟩
    have := LiesP.mk (w := put5 w g (j * 5) z (.slice none 0 0)) (P := P) ((List.range l.length).map fun i => (f i).1) a cap (fun i => (f i).2) (by simpa using hc) hm
      (fun x hx => by obtain ⟨i, hi, rfl⟩ := List.mem_map.1 hx; exact (hf' i (List.mem_range.1 hi)).1)
      (fun i hi => by obtain ⟨b, ha, hp, hn⟩ := (hf' i (by simpa using hi)).2.2.2; exact ⟨b, ha, hp, by simpa using hn⟩)
      (fun i hi => by simpa using (hf' i (by simpa using hi)).2.2.1)
    rwa [hl5] at this

theorem Shr.trans {P : Nat → Prop} {w w1 w2 : World} (h : Shr P w w1) (h' : Shr P w1 w2) : Shr P w w2 := by
  obtain ⟨a1, a2, a3, a4, a5⟩ := h
  obtain ⟨b1, b2, b3, b4, b5⟩ := h'
  refine ⟨b1, Nat.le_trans a2 b2, ⟨b3.1.trans a3.1, b3.2.1.trans a3.2.1, b3.2.2.trans a3.2.2⟩, fun b hb hp => (b4 b (by omega) hp).trans (a4 b hb hp), fun l s hl => ?_⟩
  obtain ⟨l1, e1, f1, g1⟩ := a5 l s hl
  obtain ⟨l2, e2, f2, g2⟩ := b5 l1 s g1
  exact ⟨l2, e2.trans e1, Nat.le_trans f2 f1, g2⟩

theorem Shr.put {P : Nat → Prop} {w : World} {g j : Nat} {z : Tm} (hz : z.kids = []) (hzf : z.fine) (hf : Free P w) (hg : P g) : Shr P w (put5 w g (j * 5) z (.slice none 0 0)) := by
  refine ⟨fun b hb => ?_, by rw [put5_size]; exact Nat.le_refl _, put5_rest _ _ _ _ _, fun b _ hp => put5_other _ _ _ _ _ (fun e => hp (e ▸ hg)), fun l s hl => hl.store hz hzf⟩
  by_cases e : b = g
  · subst e; obtain ⟨cs, hcs⟩ := hf b hb; exact ⟨_, put5_block _ _ _ hcs⟩
  · rw [put5_other _ _ _ _ _ e]; exact hf b hb

theorem Shr.alloc {P : Nat → Prop} {w : World} (o : Obj) (hP : ∀ b, P b → b < w.heap.size) (hf : Free P w) : Shr P w (w.alloc o) :=
  ⟨fun b hb => by rw [Below.heap_alloc _ _ _ (hP b hb)]; exact hf b hb, by simp, ⟨rfl, rfl, rfl⟩, fun b hb _ => Below.heap_alloc _ _ _ hb,
    fun l s hl => ⟨l, rfl, Nat.le_refl _, hl.keep (fun b _ hlt => Below.heap_alloc _ _ _ hlt) (fun _ hp _ => hp)⟩⟩

theorem Shr.below {P : Nat → Prop} {w w' : World} {B : Nat} (h : Shr P w w') (hP : ∀ b, P b → B ≤ b) (hB : B ≤ w.heap.size) : Below B w w' :=
  ⟨h.2.2.1.1, h.2.2.1.2.1, h.2.2.1.2.2, h.2.1, fun k hk => h.2.2.2.1 k (by omega) (fun hp => by have := hP k hp; omega)⟩
end Go.Proofs.YtllkackipdcekaaDoor

namespace Go.Proofs.YtllkackipdcekaaDoor
open Go.RowKit

theorem LiesP.out {w : World} {P : Nat → Prop} {l : List Tm} {s : Value} (h : LiesP w P l s) : ∃ (a : Option Addr) (cap : Nat), s = .slice a l.length cap ∧ l.length ≤ cap ∧ cap ≤ maxLen := by
  cases h with
  | mk l a cap S hc hm hf hn hk => exact ⟨a, cap, rfl, hc, hm⟩

theorem size_mem : ∀ (l : List Tm) (x : Tm), x ∈ l → x.size ≤ sizes l
  | t :: r, x, h => by
    simp only [sizes]
    rcases List.mem_cons.1 h with rfl | h
    · omega
    · have := size_mem r x h; omega

theorem under_term : ∃ d, Tryd.prog.underlying 26 = some d ∧ (match d with | .struct _ | .array _ _ => true | _ => false) = true := by
  have h : (Tryd.prog.underlying 26).map (fun d => match d with | .struct _ | .array _ _ => true | _ => false) = some true := by kernel_rfl
  cases e : Tryd.prog.underlying 26 with
  | none => rw [e] at h; cases h
  | some d => rw [e] at h; exact ⟨d, rfl, Option.some.inj h⟩

theorem size_term : (Tryd.prog.info? 26).map (·.size) = some 5 := by kernel_rfl

end Go.Proofs.YtllkackipdcekaaDoor

namespace Go.Proofs.YtllkackipdcekaaDoor
open Go.RowKit Go.Maps Go.ChangeShapes

theorem levelP_most {E : Nat} {i j : Int} {f : Nat} {ts r : List Tok} {n : Int} (h : levelP E i j f ts = .ok (n, r)) : n ≤ 1000 := by
  cases f with
  | zero => cases h
  | succ f =>
    unfold levelP at h
    split at h
    · cases h
    · split at h
      · cases h
      · cases h; omega
set_option maxHeartbeats 2000000 in
set_option maxRecDepth 20000 in
theorem rlevel_any (c : RC) (hij : (0 ≤ c.i ∧ c.i ≤ 1000) ∧ 0 ≤ c.j ∧ c.j ≤ 1000) : ∀ f, LevelC c f (levelP c.E c.i c.j f)
  | 0 => fun ts sl N w hf _ => by omega
  | f + 1 => fun ts sl N w hf h => by
    have hn := number_any c f (levelP c.E c.i c.j f) hij (rlevel_any c hij f) (fun ts n r h => ⟨levelP_len h, levelP_most h⟩) ts sl N w hf h
    have HN := Lib.hid hn
    have HS := Lib.hid h
    obtain ⟨r0, r1, r2, r5, rlt⟩ := h.cells
    have HV := Lib.hid (show levelP c.E c.i c.j (f + 1) ts = (match numP (levelP c.E c.i c.j f) c.E c.i c.j ts with | .error e => .error e | .ok (n, r) => if 1000 < n then .error (hereT c.E ts) else .ok (n, r)) from rfl)
    clear hn h
    go_enter Tryd.func86, Tryd.ntmps86
    go_wp2_with fail
    refine (HS.out.rhere).mono ?_
    rintro e w1 ⟨rfl, rfl⟩
    go_wp2_with fail
    refine HN.out.mono ?_
    intro e w1 hg
    cases hx : numP (levelP c.E c.i c.j f) c.E c.i c.j ts with
    | error a =>
      rw [hx] at hg
      obtain ⟨rfl, hf1⟩ := hg
      unfold faultP
      go_wp2
      rw [HV.out, hx]
      exact ⟨rfl, rfl, hf1⟩
    | ok p =>
      obtain ⟨n, r⟩ := p
      rw [hx] at hg
      obtain ⟨rfl, hs1, hf1, h0, h1⟩ := hg
      by_cases hb : 1000 < n
      · go_wp2_with fail
        refine (fail_any _ _).mono ?_
        rintro e w2 ⟨rfl, rfl⟩
        unfold faultP
        go_wp2
        rw [HV.out, hx]; simp only; rw [if_pos hb]
        exact ⟨rfl, rfl, hf1⟩
      · go_wp2
        go_ret
        rw [HV.out, hx]; simp only; rw [if_neg (by omega)]
        exact ⟨rfl, hs1, hf1, h0, h1⟩
def TermG (c : RC) (sl : Nat) (N : Names) (w : World) (x : Except Nat (Tm × List Tok)) (e : Ending) (w' : World) : Prop :=
  match x with
  | .error a => e = faultP a ∧ Fr c w w'
  | .ok (t, r) => ∃ s, e = .returned (tv t s) ∧ LiesP w' (Own w.heap.size w') t.kids s ∧ t.fine ∧ RSt c sl N r w' ∧ Fr c w w'
def KidsG (c : RC) (sl : Nat) (N : Names) (w : World) (x : Except Nat (List Tm × List Tok)) (e : Ending) (w' : World) : Prop :=
  match x with
  | .error a => e = faultP a ∧ Fr c w w'
  | .ok (l, r) => ∃ s, e = .returned s ∧ LiesP w' (Own w.heap.size w') l s ∧ RSt c sl N r w' ∧ Fr c w w'
def TermC (c : RC) (f : Nat) (tp : Int → Names → List Tok → Except Nat (Tm × List Tok)) : Prop := ∀ (so : Int) (N : Names) (ts : List Tok) (sl : Nat) (w : World), ts.length < f → RSt c sl N ts w → TabsR c.B w → Calls Tryd.prog 43 #[.pointer (some ⟨c.R, 0, none⟩), .int .i64 so] w (TermG c sl N w (tp so N ts))
theorem TermC.use {c : RC} {f : Nat} {tp : Int → Names → List Tok → Except Nat (Tm × List Tok)} (h : TermC c f tp) (so : Int) (N : Names) (ts : List Tok) (sl : Nat) (w : World) (h1 : ts.length < f) (h2 : RSt c sl N ts w) (h3 : TabsR c.B w) : Calls Tryd.prog 43 #[.pointer (some ⟨c.R, 0, none⟩), .int .i64 so] w (TermG c sl N w (tp so N ts)) := h so N ts sl w h1 h2 h3
/-- What a reading has made stays while it goes on. -/
theorem own_fr {c : RC} {w w' : World} {B : Nat} (h : Fr c w w') {b : Nat} (ho : Own B w b) : w'.heap[b]? = w.heap[b]? := by
  obtain ⟨_, cs, hb⟩ := ho
  rw [hb]
  exact h.kept b cs _ _ hb (by decide) (by decide) (by decide)
theorem liesP_fr {c : RC} {w w' : World} {B : Nat} {l : List Tm} {s : Value} (h : LiesP w (Own B w) l s) (hf : Fr c w w') : LiesP w' (Own B w') l s := h.keep (fun _ hb _ => own_fr hf hb) (fun _ hb _ => hb.same (own_fr hf hb))
theorem full_fr {c : RC} {w w' : World} {B g : Nat} {xs : List (Tm × Value)} (h : Full B w g xs) (hf : Fr c w w') : Full B w' g xs := by
  obtain ⟨cs, hg⟩ := h.open'
  have e : w'.heap[g]? = w.heap[g]? := by rw [hg]; exact hf.kept g cs _ _ hg (by decide) (by decide) (by decide)
  exact ⟨h.above, ⟨cs, e.trans hg⟩, fun i hi => (h.node i hi).same e, h.fine, fun p hp => (h.kids p hp).keep (fun b hb _ => own_fr hf hb.1) (fun b hb _ => ⟨hb.1.same (own_fr hf hb.1), hb.2⟩)⟩
/-- Five cells of a block, written one behind the other. -/
def cell5 (w : World) (g o : Nat) (v0 v1 v2 v3 v4 : Value) : World := ((((w.setCell ⟨g, o, none⟩ v0).setCell ⟨g, o + 1, none⟩ v1).setCell ⟨g, o + 2, none⟩ v2).setCell ⟨g, o + 3, none⟩ v3).setCell ⟨g, o + 4, none⟩ v4
theorem cell5_grown (w : World) (g o : Nat) (v0 v1 v2 v3 v4 : Value) : w.grownBy (cell5 w g o v0 v1 v2 v3 v4) (some g) := by
  have s : ∀ (w : World) i v, w.grownBy (w.setCell ⟨g, i, none⟩ v) (some g) := fun w i v => grown_at ⟨rfl, rfl, rfl, Nat.le_refl _, fun _ _ _ => rfl⟩ i v
  exact ((((s w _ _).trans (s _ _ _)).trans (s _ _ _)).trans (s _ _ _)).trans (s _ _ _)
theorem liesP_grown {w w' : World} {B g : Nat} {l : List Tm} {s : Value} (h : LiesP w (Own B w) l s) (hg : w.grownBy w' (some g)) (hB : g < B) : LiesP w' (Own B w') l s :=
  h.keep (fun b hb hlt => hg.block b hlt (fun e => by have := Option.some.inj e; have := hb.1; omega)) (fun b hb hlt => hb.same (hg.block b hlt (fun e => by have := Option.some.inj e; have := hb.1; omega)))
end Go.Proofs.YtllkackipdcekaaDoor

namespace Go.Proofs.YtllkackipdcekaaDoor
open Go.RowKit Go.Maps Go.ChangeShapes

abbrev zeroT : Obj := .cells #[.int .i64 0, .int .i64 0, .int .i64 0, .int .i64 0, .slice none 0 0] 26
theorem cells5_of {w : World} {b : Nat} {v0 v1 v2 v3 v4 : Value} (h : w.heap[b]? = some (Obj.cells #[v0, v1, v2, v3, v4] 26 (0, 0))) : (w.cell? ⟨b, 0, none⟩ = some v0 ∧ w.cell? ⟨b, 1, none⟩ = some v1 ∧ w.cell? ⟨b, 2, none⟩ = some v2 ∧ w.cell? ⟨b, 3, none⟩ = some v3 ∧ w.cell? ⟨b, 4, none⟩ = some v4) ∧
    (w.frozen? ⟨b, 0, none⟩ = false ∧ w.frozen? ⟨b, 1, none⟩ = false ∧ w.frozen? ⟨b, 2, none⟩ = false ∧ w.frozen? ⟨b, 3, none⟩ = false ∧ w.frozen? ⟨b, 4, none⟩ = false) ∧ b < w.heap.size :=
  ⟨⟨by rw [Lib.cell_of_heap h]; rfl, by rw [Lib.cell_of_heap h]; rfl, by rw [Lib.cell_of_heap h]; rfl, by rw [Lib.cell_of_heap h]; rfl, by rw [Lib.cell_of_heap h]; rfl⟩, ⟨Lib.frozen_of_heap h 0, Lib.frozen_of_heap h 1, Lib.frozen_of_heap h 2, Lib.frozen_of_heap h 3, Lib.frozen_of_heap h 4⟩, hlt_of h⟩
def ListC (c : RC) (f : Nat) (lv : List Tok → Except Nat (Int × List Tok)) (tp : Int → Names → List Tok → Except Nat (Tm × List Tok)) : Prop := ∀ (so : Int) (N : Names) (t : Tok) (r : List Tok) (sl : Nat) (w : World), r.length < f → t.k = 1 → RSt c sl N (t :: r) w → TabsR c.B w → Calls Tryd.prog 65 #[.pointer (some ⟨c.R, 0, none⟩), .int .i64 so] w (TermG c sl N w (listP lv tp c.E so N r))
theorem ListC.use {c : RC} {f : Nat} {lv : List Tok → Except Nat (Int × List Tok)} {tp : Int → Names → List Tok → Except Nat (Tm × List Tok)} (h : ListC c f lv tp) (so : Int) (N : Names) (t : Tok) (r : List Tok) (sl : Nat) (w : World) (h1 : r.length < f) (h2 : t.k = 1) (h3 : RSt c sl N (t :: r) w) (h4 : TabsR c.B w) : Calls Tryd.prog 65 #[.pointer (some ⟨c.R, 0, none⟩), .int .i64 so] w (TermG c sl N w (listP lv tp c.E so N r)) := h so N t r sl w h1 h2 h3 h4
/-- The end of a reading whose result is stored into a block of its own. -/
theorem term_end {c : RC} {sl : Nat} {N : Names} {r : List Tok} {w w1 w2 : World} {t : Tm} {s : Value} (hlo : c.B ≤ w.heap.size) (hf : Fr c w w1) (hg : w1.grownBy w2 (some w.heap.size)) {cs : Array Value} {fz : Nat × Nat} (hb : w1.heap[w.heap.size]? = some (Obj.cells cs 26 fz)) (hs : RSt c sl N r w1) (hl : LiesP w1 (Own (w.heap.size + 1) w1) t.kids s) :
    LiesP w2 (Own w.heap.size w2) t.kids s ∧ RSt c sl N r w2 ∧ Fr c w w2 :=
  ⟨(liesP_grown hl hg (by omega)).from (by omega), hs.other hg hb (by omega), hf.other hg (Nat.le_refl _) hlo⟩
set_option maxHeartbeats 4000000 in
set_option maxRecDepth 20000 in
theorem rterm_step (c : RC) (f : Nat) (hlist : ListC c f (levelP c.E c.i c.j f) (termP c.E c.i c.j f)) : TermC c (f + 1) (termP c.E c.i c.j (f + 1)) := by
  intro so N ts sl w hf h hT
  obtain ⟨du, hu1, hu2⟩ := under_term
  have hlo := h.lo
  have hB1 := (Below.refl w.heap.size w).alloc (Nat.le_refl _) (zeroT)
  have HF0 := Lib.hid (Fr.later hB1 hlo)
  have HS0 := Lib.hid (h.later hB1)
  have HT0 := Lib.hid (hT.keep HF0.out.below)
  have HG := Lib.hid (show (w.alloc (zeroT)).heap[w.heap.size]? = some (zeroT) from alloc_new _ _)
  have HL := Lib.hid hlist
  obtain ⟨r0, r1, r2, r5, rlt⟩ := h.cells
  have r5b : (w.alloc (zeroT)).cell? ⟨c.R, 5, none⟩ = some (.int .i64 N.length) := HS0.out.cells.2.2.2.1
  clear hlist h hT hB1
  cases ts with
  | nil =>
    go_enter Tryd.func43, Tryd.ntmps43
    go_wp2_with fail
    refine (HS0.out.rnext 1).mono ?_
    rintro e w1 ⟨rfl, rfl⟩
    rw [show ((([] : List Tok).head?.map fun t => t.k == 1).getD false) = false from rfl]
    go_wp2_with fail
    refine (HS0.out.rtake 3).mono ?_
    intro e w1 hg
    obtain ⟨rfl, hf1⟩ : e = faultP c.E ∧ Fr c _ w1 := hg
    unfold faultP
    go_wp2
    exact ⟨rfl, rfl, HF0.out.trans hf1⟩
  | cons t r =>
    simp only [List.length_cons] at hf
    by_cases k1 : t.k = 1
    · have kb : (t.k == 1) = true := by simpa using k1
      have HV := Lib.hid (show termP c.E c.i c.j (f + 1) so N (t :: r) = listP (levelP c.E c.i c.j f) (termP c.E c.i c.j f) c.E so N r by simp only [termP]; rw [if_pos k1])
      have HC := Lib.hid (HL.out.use so N t r sl _ (by omega) k1 HS0.out HT0.out)
      rw [HV.out]
      clear k1
      go_enter Tryd.func43, Tryd.ntmps43
      go_wp2_with fail
      refine (HS0.out.rnext 1).mono ?_
      rintro e w1 ⟨rfl, rfl⟩
      rw [head_k, kb]
      go_wp2_with fail
      refine HC.out.mono ?_
      intro e w1 hg
      cases hx : listP (levelP c.E c.i c.j f) (termP c.E c.i c.j f) c.E so N r with
      | error a =>
        rw [hx] at hg
        obtain ⟨rfl, hf1⟩ := hg
        unfold faultP
        go_wp2
        exact ⟨rfl, rfl, HF0.out.trans hf1⟩
      | ok p =>
        obtain ⟨u, q⟩ := p
        rw [hx] at hg
        obtain ⟨s, rfl, hl, hfine, hs, hf1⟩ := hg
        obtain ⟨au, cps, rfl, -, -⟩ := hl.out
        have hz1 := hf1.kept _ _ _ _ HG.out (by decide) (by decide) (by decide)
        obtain ⟨⟨q0, q1, q2, q3, q4⟩, ⟨g0, g1, g2, g3, g4⟩, hGlt⟩ := cells5_of hz1
        have HZ := Lib.hid hz1
        have HE := Lib.hid (term_end (w2 := cell5 w1 w.heap.size 0 (.int .i64 u.k) (.int .i64 u.i) (.int .i64 u.j) (.int .i64 u.n) (.slice au u.kids.length cps)) hlo (HF0.out.trans hf1) (cell5_grown _ _ _ _ _ _ _ _) hz1 hs (by simpa using hl))
        have HFI := Lib.hid hfine
        clear hl hs hf1 hz1 hfine r0 r1 r2 r5 rlt r5b
        unfold tv
        go_wp2
        refine bodyPost_ret (results_cell_row rfl _ _ w.heap.size _ _ _ du rfl (five_set HZ.out) hu1 (by cases du <;> first | rfl | exact hu2) size_term) rfl ?_
        rw [hx]
        exact ⟨.slice au u.kids.length cps, rfl, HE.out.1, HFI.out, HE.out.2.1, HE.out.2.2⟩
    have kb : (t.k == 1) = false := by simpa using k1
    by_cases k3 : t.k = 3
    · have HT3 := Lib.hid (show takeT c.E 3 (t :: r) = .ok (t, r) from if_pos k3)
      have HV := Lib.hid (show termP c.E c.i c.j (f + 1) so N (t :: r) = (match idxL t.s N with | none => .error t.at_ | some q => .ok (.mk 2 q 0 0 [], r)) by simp only [termP]; first | (rw [if_neg k1, if_pos k3]; done) | (rw [if_neg k1, if_pos k3]; cases idxL t.s N <;> rfl))
      have htl := HS0.out.tok t List.mem_cons_self
      clear k1 k3
      go_enter Tryd.func43, Tryd.ntmps43
      go_wp2_with fail
      refine (HS0.out.rnext 1).mono ?_
      rintro e w1 ⟨rfl, rfl⟩
      rw [head_k, kb]
      go_wp2_with fail
      refine (HS0.out.rtake 3).mono ?_
      intro e w1 hg
      rw [HT3.out] at hg
      obtain ⟨rfl, hs1, hf1⟩ := hg
      have hBt := (Below.refl w1.heap.size w1).alloc (Nat.le_refl _) (.cells #[.int .i64 t.k, .string ⟨t.s.toArray⟩, .int .i64 t.at_] 97)
      have HS1 := Lib.hid (hs1.later hBt)
      have HF1 := Lib.hid ((HF0.out.trans hf1).trans (Fr.later hBt hs1.lo))
      have HG1 := Lib.hid ((hBt.block _ (hlt_of (hf1.kept _ _ _ _ HG.out (by decide) (by decide) (by decide)))).trans (hf1.kept _ _ _ _ HG.out (by decide) (by decide) (by decide)))
      have HK := Lib.hid (show (w1.alloc (.cells #[.int .i64 t.k, .string ⟨t.s.toArray⟩, .int .i64 t.at_] 97)).heap[w1.heap.size]? = some (.cells #[.int .i64 t.k, .string ⟨t.s.toArray⟩, .int .i64 t.at_] 97) from alloc_new _ _)
      clear hs1 hf1 hBt r0 r1 r2 r5 rlt r5b
      go_wp2_with fail
      refine (place_any c (sl + 99) t.s N r _ HS1.out htl).mono ?_
      rintro e w2 ⟨rfl, hs2, hf2⟩
      have hk2 := hf2.kept _ _ _ _ HK.out (by decide) (by decide) (by decide)
      have hz2 := hf2.kept _ _ _ _ HG1.out (by decide) (by decide) (by decide)
      have x2 : w2.cell? ⟨w1.heap.size, 2, none⟩ = some (.int .i64 t.at_) := by rw [Lib.cell_of_heap hk2]; rfl
      have hklt := hlt_of hk2
      have hmy := hs2.many
      cases hq : idxL t.s N with
      | none =>
        have hpl : placeN t.s N = -1 := by unfold placeN; rw [hq]
        rw [hpl]
        have HFE := Lib.hid (HF1.out.trans hf2)
        clear hs2 hf2 hk2 hz2
        go_wp2_with fail
        refine (fail_any _ _).mono ?_
        rintro e w3 ⟨rfl, rfl⟩
        unfold faultP
        go_wp2
        rw [HV.out, hq]
        exact ⟨rfl, rfl, HFE.out⟩
      | some q =>
        have hql := idxL_lt hq
        have hpl : placeN t.s N = ((N.length - 1 - q : Nat) : Int) := by unfold placeN; rw [hq]; show (N.length : Int) - 1 - (q : Int) = _; omega
        rw [hpl]
        obtain ⟨r0, r1, r2, r5, rlt⟩ := hs2.cells
        obtain ⟨⟨q0, q1, q2, q3, q4⟩, ⟨g0, g1, g2, g3, g4⟩, hGlt⟩ := cells5_of hz2
        have HZ := Lib.hid hz2
        have hww : IntKind.i64.wrap ((N.length : Int) - 1 - ((N.length - 1 - q : Nat) : Int)) = (q : Int) := by rw [IntWalk.i64_in _ (by omega)]; omega
        have hww2 : IntKind.i64.wrap ((N.length : Int) - 1) = (N.length : Int) - 1 := IntWalk.i64_in _ (by omega)
        have HE := Lib.hid (term_end (t := .mk 2 q 0 0 []) (s := .slice none 0 0) (w2 := cell5 w2 w.heap.size 0 (.int .i64 2) (.int .i64 q) (.int .i64 0) (.int .i64 0) (.slice none 0 0)) hlo (HF1.out.trans hf2) (cell5_grown _ _ _ _ _ _ _ _) hz2 (hs2.less (sl' := sl) (by omega)) (liesP_nil _ _))
        clear hs2 hf2 hk2 hz2 hpl
        go_wp2
        refine bodyPost_ret (results_cell_row rfl _ _ w.heap.size _ _ _ du rfl (five_set HZ.out) hu1 (by cases du <;> first | rfl | exact hu2) size_term) rfl ?_
        rw [HV.out, hq]
        refine ⟨.slice none 0 0, rfl, HE.out.1, ?_, HE.out.2.1, HE.out.2.2⟩
        unfold Tm.fine I64
        simp only [Tm.k, Tm.i, Tm.j, Tm.n]
        omega
    · have HT3 := Lib.hid (show takeT c.E 3 (t :: r) = .error t.at_ from if_neg k3)
      have HV := Lib.hid (show termP c.E c.i c.j (f + 1) so N (t :: r) = .error t.at_ by simp only [termP]; rw [if_neg k1, if_neg k3])
      clear k1 k3
      rw [HV.out]
      go_enter Tryd.func43, Tryd.ntmps43
      go_wp2_with fail
      refine (HS0.out.rnext 1).mono ?_
      rintro e w1 ⟨rfl, rfl⟩
      rw [head_k, kb]
      go_wp2_with fail
      refine (HS0.out.rtake 3).mono ?_
      intro e w1 hg
      rw [HT3.out] at hg
      obtain ⟨rfl, hf1⟩ := hg
      unfold faultP
      go_wp2
      exact ⟨rfl, rfl, HF0.out.trans hf1⟩
end Go.Proofs.YtllkackipdcekaaDoor

namespace Go.Proofs.YtllkackipdcekaaDoor

def Tm.zero : Tm := .mk 0 0 0 0 []

end Go.Proofs.YtllkackipdcekaaDoor

namespace Go.Proofs.YtllkackipdcekaaDoor
open Go.RowKit

/-- What a call hands back that makes a term, or says that there is none. -/
def Gives (r : Option Tm) (w : World) (e : Ending) (w' : World) : Prop := Below w.heap.size w w' ∧
  ((∃ u s', r = some u ∧ e = .returned (.tuple #[tv u s', .bool true]) ∧ LiesP w' (Own w.heap.size w') u.kids s') ∨ (∃ z : Tm, r = none ∧ z.kids = [] ∧ e = .returned (.tuple #[tv z (.slice none 0 0), .bool false])))

end Go.Proofs.YtllkackipdcekaaDoor

namespace Go.Proofs.YtllkackipdcekaaDoor
open Go.RowKit

theorem Shr.refl {P : Nat → Prop} {w : World} (h : Free P w) : Shr P w w := ⟨h, Nat.le_refl _, ⟨rfl, rfl, rfl⟩, fun _ _ _ => rfl, fun l _ hl => ⟨l, rfl, Nat.le_refl _, hl⟩⟩

end Go.Proofs.YtllkackipdcekaaDoor

namespace Go.Proofs.YtllkackipdcekaaDoor
open Go.RowKit

/-- A list that was just made whole: zero terms. -/
theorem cells5_zeros : ∀ n : Nat, (cells5 (List.replicate n (Tm.zero, Value.slice none 0 0))) = (madeCells #[.int .i64 0, .int .i64 0, .int .i64 0, .int .i64 0, .slice none 0 0] (n * 5)).toList := by
  intro n
  apply List.ext_getElem?
  intro j
  by_cases hj : j < n * 5
  · have h5 : j % 5 < 5 := Nat.mod_lt _ (by omega)
    have hd : j / 5 < n := by omega
    have e : j = j / 5 * 5 + j % 5 := by omega
    have h1 := cells5_get (List.replicate n (Tm.zero, Value.slice none 0 0)) (j / 5) (by simpa using hd) (j % 5) h5
    rw [← e] at h1
    rw [h1]
    simp only [List.getElem_replicate]
    have hz : (madeCells #[Value.int .i64 0, .int .i64 0, .int .i64 0, .int .i64 0, .slice none 0 0] (n * 5)).toList[j]? = some (#[Value.int .i64 0, .int .i64 0, .int .i64 0, .int .i64 0, .slice none 0 0][j % 5]!) := by simp [madeCells, hj]
    rw [hz]
    generalize j % 5 = q at h5
    match q, h5 with
    | 0, _ => rfl
    | 1, _ => rfl
    | 2, _ => rfl
    | 3, _ => rfl
    | 4, _ => rfl
  · rw [List.getElem?_eq_none (by rw [cells5_length]; simp; omega), List.getElem?_eq_none (by simp [madeCells]; omega)]

theorem zero_fine : Tm.zero.fine := by simp [Tm.zero, Tm.fine, I64, Tm.k, Tm.i, Tm.j, Tm.n]
theorem full_made {B : Nat} {w : World} {g n : Nat} (h : w.ownsRow B 26 5 (.slice (some ⟨g, 0, none⟩) n n) n (madeCells #[.int .i64 0, .int .i64 0, .int .i64 0, .int .i64 0, .slice none 0 0] (n * 5)).toList) :
    Full B w g (List.replicate n (Tm.zero, .slice none 0 0)) := by
  rw [← cells5_zeros] at h
  have hb : B ≤ g ∧ ∃ cs, w.heap[g]? = some (.cells cs 26 (0, 0)) := by
    obtain ⟨-, ⟨h1, -⟩ | ⟨g', cap, cur, h1, h2, h3, -⟩⟩ := h
    · cases h1
    · obtain rfl : g = g' := by simp only [Value.slice.injEq, Option.some.injEq, Addr.mk.injEq] at h1; exact h1.1.1
      exact ⟨h2, cur, h3⟩
  refine ⟨hb.1, hb.2, fun i hi => ?_, fun p hp => ?_, fun p hp => ?_⟩
  · have cellq : ∀ q, q < 5 → w.cell? ⟨g, i * 5 + q, none⟩ = [Value.int .i64 ((List.replicate n (Tm.zero, Value.slice none 0 0))[i]).1.k, .int .i64 ((List.replicate n (Tm.zero, Value.slice none 0 0))[i]).1.i, .int .i64 ((List.replicate n (Tm.zero, Value.slice none 0 0))[i]).1.j, .int .i64 ((List.replicate n (Tm.zero, Value.slice none 0 0))[i]).1.n, ((List.replicate n (Tm.zero, Value.slice none 0 0))[i]).2][q]? := fun q hq => by
      rw [h.cellAt (i * 5 + q) (by simp at hi; omega)]; exact cells5_get _ i hi q hq
    exact ⟨cellq 0 (by omega), cellq 1 (by omega), cellq 2 (by omega), cellq 3 (by omega), cellq 4 (by omega)⟩
  · rw [(List.mem_replicate.1 hp).2]; exact zero_fine
  · rw [(List.mem_replicate.1 hp).2]; exact liesP_nil _ _

theorem Full.below {B g b o : Nat} {w : World} {xs : List (Tm × Value)} (h : Full B w g xs) (hb : b < B) (v : Value) : Full B (w.setCell ⟨b, o, none⟩ v) g xs := by
  have hg := h.above
  have hk : ∀ b', B ≤ b' → (w.setCell ⟨b, o, none⟩ v).heap[b']? = w.heap[b']? := fun b' hb' => Below.heap_setCell _ _ _ _ (by show b' ≠ b; omega)
  exact ⟨hg, by rw [hk g hg]; exact h.open', fun i hi => (h.node i hi).same (hk g hg), h.fine, fun p hp => (h.kids p hp).keep (fun b' hb' _ => hk b' hb'.1.1) (fun b' hb' _ => ⟨hb'.1.same (hk b' hb'.1.1), hb'.2⟩)⟩

theorem take_set_next {α : Type} (l : List α) (q : Nat) (x : α) (h : q < l.length) : (l.set q x).take (q + 1) = l.take q ++ [x] := by
  rw [List.take_succ_eq_append_getElem (by simpa using h), List.getElem_set_self, List.take_set_of_le (Nat.le_refl _)]
def GivesNone (w : World) (e : Ending) (w' : World) : Prop := (∃ z : Tm, e = .returned (.tuple #[tv z (.slice none 0 0), .bool false])) ∧ Below w.heap.size w w'
def GivesSome (u : Tm) (w : World) (e : Ending) (w' : World) : Prop := (∃ s', e = .returned (.tuple #[tv u s', .bool true]) ∧ LiesP w' (Own w.heap.size w') u.kids s') ∧ Below w.heap.size w w'
theorem Gives.none {w w' : World} {e : Ending} (h : Gives none w e w') : GivesNone w e w' := by
  obtain ⟨hb, ⟨u, s', h1, -⟩ | ⟨z, -, -, h2⟩⟩ := h
  · cases h1
  · exact ⟨⟨z, h2⟩, hb⟩
theorem Gives.some {u : Tm} {w w' : World} {e : Ending} (h : Gives (some u) w e w') : GivesSome u w e w' := by
  obtain ⟨hb, ⟨u', s', h1, h2, h3⟩ | ⟨z, h1, -⟩⟩ := h
  · cases h1; exact ⟨⟨s', h2, h3⟩, hb⟩
  · cases h1
end Go.Proofs.YtllkackipdcekaaDoor
