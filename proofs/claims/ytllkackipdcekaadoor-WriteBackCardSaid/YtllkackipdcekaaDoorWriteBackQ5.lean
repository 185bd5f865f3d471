/-
  WriteBack holds: for every input the call returns true, and the arguments read as before. No condition.
-/
import Derived.Lib.ItoaNum
import Derived.Lib.ItoaLen
import Derived.Test.YtllkackipdcekaaDoorRows
import Derived.WalkKit
import Derived.Lib.Hide
import Derived.KernelRfl
import Derived.Deep.RegionWith
import Derived.Deep.RegionHeld3
import Derived.Test.YtllkackipdcekaaDoorShelf
import Derived.ProofKit
import Derived.Lib.AppendIntMem
import Derived.Lib.LaidTab
import Derived.Below
import Derived.Lib.Builder
import Derived.Lib.AppendStr
import Derived.Lib.UnsafeStr
import Derived.Lib.Strings
import Derived.Laws.Externs
import Derived.Laws.Rows
import Derived.Shelf.RegionOpenPlain
import Derived.OrdersHeld
import Derived.Laws.OwnMore
import Derived.OwnWalk
import Derived.LoopTactic
import Derived.IntWalk
import Derived.Laws.Strings2
import Derived.Deep.AppendLies
import Derived.WalkSmall
import Derived.Maps.GroupsBeside
import Derived.Maps.StringElems
import Derived.Deep.RegionLaw
import Derived.Maps.AppendAt
import Derived.Deep.Cut
import Derived.Deep.DeepCutAuto
import Derived.Maps.OwnOps
import Derived.Maps.OwnSet
import Derived.Lib.MinMax
import Derived.Laws.IdiomCopy
import Derived.Deep.Slices
import Derived.Lib.QuietBelow
import Derived.StillTailTactics
import Derived.BigQuiet
import Derived.Recover
import Derived.RegionTactic
import Derived.Defers
import Derived.Deep.QuietTactic
import Derived.OpenShut
import Derived.Carry
import Derived.LaidMore
import Derived.LaidSub
import Derived.LaidHandle
import Derived.Stop.Joined
import Derived.JoinedOf
import Derived.Test.YtllkackipdcekaaDoorCards
import Derived.Test.YtllkackipdcekaaDoorTie
import Derived.SevenTiedAt
import Derived.ChangeMaps5
import Derived.Test.YtllkackipdcekaaDoorWriteBackQ4
namespace Go.Proofs.YtllkackipdcekaaDoor
open Go.Lib

abbrev PS := List (Nat × List UInt8)
def lvlP (k i j : Int) : PS := if levelsN k = 1 then [(4, itoa i)] else if levelsN k = 2 then [(4, itoa i), (4, itoa j)] else []
def frontP (k i j n m : Int) : PS := (if k = 23 then [(3, symL n)] else []) ++ (lvlP k i j ++ (if 0 < bindsN k 1 then [(3, nameW m)] else []))
def midP (k : Int) (p : Nat) (m : Int) : PS := if k = 22 ∧ p = 2 then [(3, nameW m), (3, nameW (m + 1))] else []
mutual
/-- The words of a term's text. -/
def Tm.wp : Tm → Int → PS
  | .mk k i j n l, m => if k = 2 then [(3, nameW (m - 1 - i))] else (1, [40]) :: (3, headL k) :: (frontP k i j n m ++ (wps k 0 l m ++ [(2, [41])]))
def wps (k : Int) : Nat → List Tm → Int → PS
  | _, [], _ => []
  | p, t :: r, m => midP k p m ++ (t.wp (m + bindsN k p) ++ wps k (p + 1) r m)
end
theorem Tm.wp_eq (t : Tm) (m : Int) : t.wp m = if t.k = 2 then [(3, nameW (m - 1 - t.i))] else (1, [40]) :: (3, headL t.k) :: (frontP t.k t.i t.j t.n m ++ (wps t.k 0 t.kids m ++ [(2, [41])])) := by cases t; rfl
theorem del_stops {Y : List UInt8} (h : DelW Y) : Stops Y := fun c r e => by
  rcases h c (by rw [e]; rfl) with rfl | rfl <;> decide
theorem sol_name {q : Int} (h0 : 0 ≤ q) (h1 : q ≤ 1000000) : Solid ⟨3, nameW q, 0⟩ := by
  have hg : getB (itoa q) = some q.toNat := by rw [get_itoa, if_pos ⟨h0, h1⟩]
  have hl : (itoa q).length < 20 := by
    rcases Nat.lt_or_ge (itoa q).length 20 with h | h
    · exact h
    · rw [get_long (by omega)] at hg; cases hg
  have hd : digs (itoa q) = true := by
    unfold itoa
    rw [if_neg (by omega)]
    exact dec_digs _
  refine sol_word (by decide) ?_ hl
  unfold digs at hd
  rw [List.all_eq_true] at hd ⊢
  exact fun c hc => by unfold wordC; rw [hd c hc]; simp
theorem heads_read : ∀ a < 24, (a = 0 ∨ a = 2) ∨ (headN ((headsW[a]?).getD []) = (a : Nat) ∧ ∃ c r, (headsW[a]?).getD [] = c :: r ∧ letterC c = true ∧ r.all wordC = true ∧ r.length < 20) := by
  intro a ha
  match a, ha with
  | 0, _ => exact Or.inl (Or.inl rfl)
  | 2, _ => exact Or.inl (Or.inr rfl)
  | n + 24, h => omega
  | 1, _ | 3, _ | 4, _ | 5, _ | 6, _ | 7, _ | 8, _ | 9, _ | 10, _ | 11, _ | 12, _ | 13, _ | 14, _ | 15, _ | 16, _ | 17, _ | 18, _ | 19, _ | 20, _ | 21, _ | 22, _ | 23, _ => exact Or.inr ⟨by kernel_rfl, _, _, rfl, by decide, by decide, by decide⟩
theorem syms_read : ∀ a < 21, symN ((symsW[a]?).getD []) = (a : Nat) + 1 ∧ ∃ c r, (symsW[a]?).getD [] = c :: r ∧ letterC c = true ∧ r.all wordC = true ∧ r.length < 20 := by
  intro a ha
  match a, ha with
  | n + 21, h => omega
  | 0, _ | 1, _ | 2, _ | 3, _ | 4, _ | 5, _ | 6, _ | 7, _ | 8, _ | 9, _ | 10, _ | 11, _ | 12, _ | 13, _ | 14, _ | 15, _ | 16, _ | 17, _ | 18, _ | 19, _ | 20, _ => exact ⟨by kernel_rfl, _, _, rfl, by decide, by decide, by decide⟩
theorem head_read {k : Int} (h : 1 ≤ k ∧ k ≤ 23 ∧ k ≠ 2) : headN (headL k) = k ∧ Solid ⟨3, headL k, 0⟩ := by
  rcases heads_read k.toNat (by omega) with h1 | ⟨h1, c, r, h2, h3, h4, h5⟩
  · omega
  · unfold headL
    refine ⟨by rw [h1]; omega, ?_⟩
    rw [h2]
    exact sol_word h3 h4 h5
theorem sym_read {n : Int} (h : 1 ≤ n ∧ n ≤ 21) : symN (symL n) = n ∧ Solid ⟨3, symL n, 0⟩ := by
  obtain ⟨h1, c, r, h2, h3, h4, h5⟩ := syms_read (n - 1).toNat (by omega)
  unfold symL
  rw [if_pos h]
  refine ⟨by rw [h1]; omega, ?_⟩
  rw [h2]
  exact sol_word h3 h4 h5
theorem levels_cases (k : Int) : levelsN k = 0 ∨ levelsN k = 1 ∨ levelsN k = 2 := by
  unfold levelsN
  split
  · simp
  · split <;> simp
/-- Levels that a right term's text names stand within the bounds. -/
theorem numbers_lv {k i j n : Int} (h : numbersN k i j n = true) (hk : k ≠ 2) : (1 ≤ levelsN k → 0 ≤ i ∧ i ≤ 1000) ∧ (levelsN k = 2 → 0 ≤ j ∧ j ≤ 1000) ∧ (levelsN k = 0 → i = 0) ∧ (levelsN k ≤ 1 → j = 0) ∧ (k ≠ 23 → n = 0) := by
  unfold numbersN levelB at h
  unfold levelsN
  rw [if_neg hk] at h
  by_cases h1 : k = 1 ∨ k = 10 ∨ k = 11 ∨ k = 12
  · rw [if_pos h1] at h ⊢
    simp only [Bool.and_eq_true, beq_iff_eq, decide_eq_true_eq] at h
    exact ⟨fun _ => h.1, fun e => by omega, fun e => by omega, fun _ => h.2.1, fun _ => h.2.2⟩
  rw [if_neg h1] at h ⊢
  by_cases h2 : k = 3 ∨ k = 4 ∨ k = 5 ∨ k = 6 ∨ k = 7 ∨ k = 8 ∨ k = 9
  · rw [if_pos h2] at h
    rw [if_pos (by omega)]
    simp only [Bool.and_eq_true, beq_iff_eq, decide_eq_true_eq] at h
    exact ⟨fun _ => h.1, fun e => h.2.1, fun e => by omega, fun e => by omega, fun _ => h.2.2⟩
  rw [if_neg h2] at h
  by_cases h3 : k = 23
  · rw [if_pos h3] at h
    rw [if_pos (by omega)]
    simp only [Bool.and_eq_true, decide_eq_true_eq] at h
    exact ⟨fun _ => h.1, fun e => h.2, fun e => by omega, fun e => by omega, fun e => absurd h3 e⟩
  · rw [if_neg h3] at h
    rw [if_neg (by omega)]
    simp only [Bool.and_eq_true, beq_iff_eq] at h
    exact ⟨fun e => by omega, fun e => by omega, fun _ => h.1, fun _ => h.2.1, fun _ => h.2.2⟩
theorem lvl_lx {k i j n : Int} (h : numbersN k i j n = true) (hk : k ≠ 2) {Y : List UInt8} {ps : PS} (hY : Stops Y) (hx : LX Y ps) : LX (lvlL k i j ++ Y) (lvlP k i j ++ ps) := by
  obtain ⟨h1, h2, -⟩ := numbers_lv h hk
  unfold lvlL lvlP
  rcases levels_cases k with e | e | e
  · rw [if_neg (by omega), if_neg (by omega), if_neg (by omega), if_neg (by omega)]
    exact hx
  · rw [if_pos e, if_pos e]
    have := h1 (by omega)
    exact LX.blank (LX.tok (sol_num this.1 (by omega)) hY hx)
  · rw [if_neg (by omega), if_pos e, if_neg (by omega), if_pos e]
    have a1 := h1 (by omega)
    have a2 := h2 e
    show LX (32 :: ((itoa i ++ 32 :: itoa j) ++ Y)) _
    rw [List.append_assoc, List.cons_append]
    exact LX.blank (LX.tok (sol_num a1.1 (by omega)) (stops_32 _) (LX.blank (LX.tok (sol_num a2.1 (by omega)) hY hx)))
theorem front_lx {k i j n m : Int} (h : numbersN k i j n = true) (hk : k ≠ 2) (hn : k = 23 → 1 ≤ n ∧ n ≤ 21) (hm : 0 ≤ m) (hM : m ≤ 1000000) {Y : List UInt8} {ps : PS} (hY : DelW Y) (hx : LX Y ps) : LX (frontL k i j n m ++ Y) (frontP k i j n m ++ ps) := by
  unfold frontL frontP
  rw [List.append_assoc, List.append_assoc, List.append_assoc, List.append_assoc]
  have h3 : LX ((if 0 < bindsN k 1 then 32 :: nameW m else []) ++ Y) ((if 0 < bindsN k 1 then [(3, nameW m)] else []) ++ ps) := by
    split
    · exact LX.blank (LX.tok (sol_name hm hM) (del_stops hY) hx)
    · exact hx
  have h2 := lvl_lx h hk (del_stops (if_del (p := 0 < bindsN k 1) (x := nameW m) hY)) h3
  by_cases h23 : k = 23
  · rw [if_pos h23, if_pos h23]
    exact LX.blank (LX.tok (sym_read (hn h23)).2 (del_stops (lvl_del (if_del hY))) h2)
  · rw [if_neg h23, if_neg h23]
    exact h2
theorem binds_nn (k i : Int) : 0 ≤ bindsN k i ∧ bindsN k i ≤ 2 := by unfold bindsN; (repeat' split) <;> omega
theorem frees_kid {k : Int} {t : Tm} {r : List Tm} {p : Nat} {m : Int} (h : frees k p (t :: r) ≤ m) : t.freeN ≤ m + bindsN k p ∧ frees k (p + 1) r ≤ m := by
  simp only [frees] at h
  exact ⟨by omega, by omega⟩
theorem wrs_lx (k m : Int) (hm : 0 ≤ m) : ∀ (l : List Tm), (∀ x ∈ l, ∀ (q : Int) (Y : List UInt8) (ps : PS), 0 ≤ q → x.freeN ≤ q → q + 2 * x.size ≤ 1000000 → DelW Y → LX Y ps → LX (x.wr q ++ Y) (x.wp q ++ ps)) →
    ∀ (p : Nat) (Y : List UInt8) (ps : PS), frees k p l ≤ m → m + 2 + 2 * sizes l ≤ 1000000 → LX Y ps → LX (wrs k p l m ++ 41 :: Y) (wps k p l m ++ (2, [41]) :: ps)
  | [], _, p, Y, ps, _, _, hx => by
    simp only [wrs, wps, List.nil_append]
    exact LX.close hx
  | t :: r, ih, p, Y, ps, hf, hs, hx => by
    obtain ⟨f1, f2⟩ := frees_kid hf
    have hb := binds_nn k p
    simp only [sizes] at hs
    have h1 := wrs_lx k m hm r (fun x hx => ih x (List.mem_cons_of_mem _ hx)) (p + 1) Y ps f2 (by omega) hx
    have h2 := ih t (List.mem_cons_self ..) (m + bindsN k p) _ _ (by omega) f1 (by omega) (wrs_del k r (p + 1) m Y) h1
    simp only [wrs, wps, List.append_assoc, List.cons_append]
    unfold midL midP
    split
    · show LX (32 :: ((nameW m ++ 32 :: nameW (m + 1)) ++ _)) _
      rw [List.append_assoc, List.cons_append]
      exact LX.blank (LX.tok (sol_name hm (by omega)) (stops_32 _) (LX.blank (LX.tok (sol_name (by omega) (by omega)) (stops_32 _) (LX.blank h2))))
    · exact LX.blank h2
theorem sym_range {t : Tm} (h : t.rightB = true) (hk : t.k = 23) : 1 ≤ t.n ∧ t.n ≤ 21 := by
  have := right_length h
  rw [hk] at this
  simp [kidsN] at this
  exact given_range (by omega)
/-- A right term's text has these words. -/
theorem wr_lx (t : Tm) : t.rightB = true → ∀ (m : Int) (Y : List UInt8) (ps : PS), 0 ≤ m → t.freeN ≤ m → m + 2 * t.size ≤ 1000000 → DelW Y → LX Y ps → LX (t.wr m ++ Y) (t.wp m ++ ps) := by
  induction t using Tm.ind with
  | h t ih =>
    intro hr m Y ps hm hf hs hY hx
    have hnum := right_numbers hr
    have hkr := right_kind hr
    rw [Tm.wr_eq, Tm.wp_eq]
    rw [Tm.freeN_eq] at hf
    by_cases h2 : t.k = 2
    · rw [if_pos h2] at hf ⊢
      rw [if_pos h2]
      rw [h2] at hnum
      simp [numbersN] at hnum
      exact LX.tok (sol_name (by omega) (by omega)) (del_stops hY) hx
    · rw [if_neg h2] at hf ⊢
      rw [if_neg h2]
      rw [Tm.size_eq] at hs
      have h3 := wrs_lx t.k m hm t.kids (fun x hx q Y ps a b c d e => ih x hx (t.right_kids hr x hx) q Y ps a b c d e) 0 Y ps hf (by omega) hx
      have h4 := front_lx hnum h2 (sym_range hr) hm (by omega) (wrs_del t.k t.kids 0 m Y) h3
      simp only [List.cons_append, List.append_assoc, List.nil_append]
      exact LX.open_ (LX.tok (head_read ⟨hkr.1, hkr.2, h2⟩).2 (del_stops (front_del (wrs_del t.k t.kids 0 m Y))) h4)

/-- The names of a scope, the innermost first. -/
def NSc : Nat → Names
  | 0 => []
  | m + 1 => nameW m :: NSc m
theorem name_at : ∀ (m i : Nat), i < m → idxL (nameW ((m : Int) - 1 - i)) (NSc m) = some i
  | m + 1, i, h => by
    unfold NSc idxL
    cases i with
    | zero =>
      rw [show ((m + 1 : Nat) : Int) - 1 - (0 : Nat) = m by omega, if_pos rfl]
    | succ i =>
      rw [if_neg (fun e => by
        unfold nameW at e
        simp only [List.cons.injEq, true_and] at e
        have := itoa_inj e
        omega)]
      rw [show ((m + 1 : Nat) : Int) - 1 - (i + 1 : Nat) = (m : Int) - 1 - i by omega, name_at m i (by omega)]
      rfl
theorem lv_read1 {E : Nat} {f : Nat} {i : Int} (h : 0 ≤ i ∧ i ≤ 1000) (r : List Tok) : levelP E 0 0 (f + 1) (tk (4, itoa i) :: r) = .ok (i, r) := by
  have hg : getB (itoa i) = some i.toNat := by rw [get_itoa, if_pos ⟨h.1, by omega⟩]
  unfold levelP numP tk
  simp only [if_true]
  rw [hg]
  have : (((some i.toNat).getD 0 : Nat) : Int) = i := by simp; omega
  rw [this]
  rw [if_neg (by omega)]
theorem kids_read {tp : Int → Names → List Tok → Except Nat (Tm × List Tok)} {k own : Int} (hk : k ≠ 22) (m : Nat) : ∀ (l : List Tm) (p : Nat) (r : List Tok),
    (∀ x ∈ l, ∀ (q : Nat), srtB (if k = 12 ∧ q = 2 then 2 else own) x = true → ∀ (m' : Nat), x.freeN ≤ m' → (m' : Int) = m + bindsN k q → ∀ r, tp (if k = 12 ∧ q = 2 then 2 else own) (NSc m') ((x.wp m').map tk ++ r) = .ok (x, r)) →
    frees k p l ≤ m → (∀ c, (h : c < l.length) → srtB (if k = 12 ∧ p + c = 2 then 2 else own) l[c] = true) → ∀ X, (∀ q : Nat, bindsN k q ≠ 0 → X = nameW m) →
    kidsP tp k own X p l.length (NSc m) ((wps k p l m).map tk ++ r) = .ok (l, r)
  | [], p, r, _, _, _, X, _ => by
    simp only [wps, List.map_nil, List.nil_append, List.length_nil]
    unfold kidsP
    rfl
  | t :: l, p, r, ih, hf, hs, X, hX => by
    obtain ⟨f1, f2⟩ := frees_kid hf
    have hb : bindsN k p = 0 ∨ bindsN k p = 1 := by unfold bindsN; (repeat' split) <;> simp_all
    have hs0 := hs 0 (by simp)
    simp only [Nat.add_zero, List.getElem_cons_zero] at hs0
    rw [List.length_cons]
    unfold kidsP
    have hN : (if bindsN k p = 0 then NSc m else X :: NSc m) = NSc ((m : Int) + bindsN k p).toNat := by
      rcases hb with hb | hb
      · rw [if_pos hb, hb]; simp
      · rw [if_neg (by omega), hb, hX p (by omega)]
        rw [show ((m : Int) + 1).toNat = m + 1 by omega]
        rfl
    have hm : ((((m : Int) + bindsN k p).toNat : Nat) : Int) = m + bindsN k p := by omega
    have h1 := ih t (List.mem_cons_self ..) p hs0 ((m : Int) + bindsN k p).toNat (by omega) hm ((wps k (p + 1) l m).map tk ++ r)
    rw [hm] at h1
    have h2 := kids_read hk m l (p + 1) r (fun x hx => ih x (List.mem_cons_of_mem _ hx)) f2 (fun c hc => by
      have := hs (c + 1) (by simp; omega)
      simp only [List.getElem_cons_succ] at this
      rw [show p + 1 + c = p + (c + 1) by omega]
      exact this) X hX
    simp only [wps]
    rw [hN, show midP k p (m : Int) = [] by unfold midP; rw [if_neg (fun h => hk h.1)], List.nil_append, List.map_append, List.append_assoc, h1]
    simp only
    rw [h2]
theorem plains_at {l : List Tm} (h : plains l = true) (c : Nat) (hc : c < l.length) : (l[c]).plainB = true := plains_mem h _ (List.getElem_mem hc)
theorem markeds_at : ∀ {l : List Tm} {tr : Bool} {p : Nat}, markeds tr p l = true → ∀ (c : Nat) (hc : c < l.length), (l[c]).kidB tr (p + c) = true
  | t :: r, tr, p, h, 0, hc => by
    simp only [markeds, Bool.and_eq_true] at h
    show (if tr && p == 2 then t.plainB else t.markedB) = true
    simpa using h.1
  | t :: r, tr, p, h, c + 1, hc => by
    simp only [markeds, Bool.and_eq_true] at h
    have := markeds_at h.2 c (by simpa using hc)
    rw [show p + (c + 1) = p + 1 + c by omega]
    exact this
theorem srt_right {so : Int} {t : Tm} (h : srtB so t = true) : t.rightB = true := by
  unfold srtB at h
  unfold Tm.rightB
  split at h
  · rw [h]; rfl
  · split at h
    · rw [h]; simp
    · exact h
theorem sym_back {E : Nat} {k n : Int} (h : k = 23 → 1 ≤ n ∧ n ≤ 21) (h0 : k ≠ 23 → n = 0) (X : List Tok) : symP E k ((if k = 23 then [((3 : Nat), symL n)] else []).map tk ++ X) = .ok (n, X) := by
  unfold symP
  by_cases hk : k = 23
  · rw [if_pos hk, if_pos hk]
    show (match takeT E 3 (⟨3, symL n, 0⟩ :: X) with | .error e => Except.error e | .ok (s, r) => if symN s.s = 0 then Except.error s.at_ else Except.ok (symN s.s, r)) = _
    unfold takeT
    simp only [if_true]
    rw [(sym_read (h hk)).1, if_neg (by have := h hk; omega)]
  · rw [if_neg hk, if_neg hk, h0 hk]
    rfl
theorem lva_back {E f : Nat} {k i j n : Int} (h : numbersN k i j n = true) (hk : k ≠ 2) (X : List Tok) : lvaP (levelP E 0 0 (f + 1)) k ((lvlP k i j).map tk ++ X) = .ok (i, (if levelsN k = 2 then [tk (4, itoa j)] else []) ++ X) := by
  obtain ⟨h1, h2, h3, h4, -⟩ := numbers_lv h hk
  unfold lvaP lvlP
  rcases levels_cases k with e | e | e
  · rw [if_neg (by omega), if_neg (by omega), if_neg (by omega), if_neg (by omega), h3 e]
    rfl
  · rw [if_pos (by omega), if_pos e, if_neg (by omega)]
    exact lv_read1 (h1 (by omega)) _
  · rw [if_pos (by omega), if_neg (by omega), if_pos e, if_pos e]
    exact lv_read1 (h1 (by omega)) _
theorem lvb_back {E f : Nat} {k i j n : Int} (h : numbersN k i j n = true) (hk : k ≠ 2) (X : List Tok) : lvbP (levelP E 0 0 (f + 1)) k ((if levelsN k = 2 then [tk (4, itoa j)] else []) ++ X) = .ok (j, X) := by
  obtain ⟨h1, h2, h3, h4, -⟩ := numbers_lv h hk
  unfold lvbP
  rcases levels_cases k with e | e | e
  · rw [if_neg (by omega), if_neg (by omega), h4 (by omega)]
    rfl
  · rw [if_neg (by omega), if_neg (by omega), h4 (by omega)]
    rfl
  · rw [if_pos (by omega), if_pos e]
    exact lv_read1 (h2 e) _
theorem six {l : List Tm} (h : l.length = 6) : ∃ a u p q v x, l = [a, u, p, q, v, x] := by
  match l, h with
  | [a, u, p, q, v, x], _ => exact ⟨a, u, p, q, v, x, rfl⟩
theorem kdsJ_back {E : Nat} {tp : Int → Names → List Tok → Except Nat (Tm × List Tok)} (m : Nat) (l : List Tm) (hl : l.length = 6) (htp : ∀ x ∈ l, ∀ (m' : Nat), x.freeN ≤ m' → ∀ r, tp 2 (NSc m') ((x.wp m').map tk ++ r) = .ok (x, r)) (hf : frees 22 0 l ≤ m) (r : List Tok) :
    kidsJ tp E (NSc m) ((wps 22 0 l m).map tk ++ r) = .ok (l, r) := by
  obtain ⟨a, u, p, q, v, x, rfl⟩ := six hl
  simp only [frees] at hf
  simp only [show bindsN 22 ((0 : Nat) : Int) = 0 from rfl, show bindsN 22 ((0 + 1 : Nat) : Int) = 0 from rfl, show bindsN 22 ((0 + 1 + 1 : Nat) : Int) = 2 from rfl, show bindsN 22 ((0 + 1 + 1 + 1 : Nat) : Int) = 0 from rfl, show bindsN 22 ((0 + 1 + 1 + 1 + 1 : Nat) : Int) = 0 from rfl, show bindsN 22 ((0 + 1 + 1 + 1 + 1 + 1 : Nat) : Int) = 0 from rfl] at hf
  have ha := htp a (by simp) m (by omega)
  have hu := htp u (by simp) m (by omega)
  have hp := htp p (by simp) (m + 2) (by omega)
  have hq := htp q (by simp) m (by omega)
  have hv := htp v (by simp) m (by omega)
  have hx := htp x (by simp) m (by omega)
  simp only [wps, show bindsN 22 ((0 : Nat) : Int) = 0 from rfl, show bindsN 22 ((0 + 1 : Nat) : Int) = 0 from rfl, show bindsN 22 ((0 + 1 + 1 : Nat) : Int) = 2 from rfl, show bindsN 22 ((0 + 1 + 1 + 1 : Nat) : Int) = 0 from rfl, show bindsN 22 ((0 + 1 + 1 + 1 + 1 : Nat) : Int) = 0 from rfl, show bindsN 22 ((0 + 1 + 1 + 1 + 1 + 1 : Nat) : Int) = 0 from rfl,
    show ∀ m : Int, midP 22 0 m = [] from fun _ => rfl, show ∀ m : Int, midP 22 (0 + 1) m = [] from fun _ => rfl, show ∀ m : Int, midP 22 (0 + 1 + 1) m = [(3, nameW m), (3, nameW (m + 1))] from fun _ => rfl, show ∀ m : Int, midP 22 (0 + 1 + 1 + 1) m = [] from fun _ => rfl, show ∀ m : Int, midP 22 (0 + 1 + 1 + 1 + 1) m = [] from fun _ => rfl, show ∀ m : Int, midP 22 (0 + 1 + 1 + 1 + 1 + 1) m = [] from fun _ => rfl, Int.add_zero, List.nil_append, List.map_append, List.append_assoc, List.append_nil, List.map_cons, List.cons_append]
  unfold kidsJ
  rw [ha]
  simp only
  rw [hu]
  simp only [takeT, tk, if_true]
  rw [show nameW ((m : Int) + 1) :: nameW (m : Int) :: NSc m = NSc (m + 2) from rfl]
  rw [show ((m : Int) + 2) = ((m + 2 : Nat) : Int) by omega, hp]
  simp only
  rw [hq]
  simp only
  rw [hv]
  simp only
  rw [hx]
theorem kdsK_back {E : Nat} {tp : Int → Names → List Tok → Except Nat (Tm × List Tok)} {k n : Int} (hk : k ≠ 22) (hk1 : 1 ≤ k ∧ k ≤ 23 ∧ k ≠ 2) (m : Nat) (l : List Tm) (hl : (l.length : Int) = kidsN k n)
    (htp : ∀ x ∈ l, ∀ (q : Nat), srtB (if k = 12 ∧ q = 2 then 2 else sortN k) x = true → ∀ (m' : Nat), x.freeN ≤ m' → (m' : Int) = m + bindsN k q → ∀ r, tp (if k = 12 ∧ q = 2 then 2 else sortN k) (NSc m') ((x.wp m').map tk ++ r) = .ok (x, r))
    (hf : frees k 0 l ≤ m) (hs : ∀ c, (h : c < l.length) → srtB (if k = 12 ∧ c = 2 then 2 else sortN k) l[c] = true) (r : List Tok) :
    kidsK tp E k n (sortN k) (NSc m) ((if 0 < bindsN k 1 then [((3 : Nat), nameW m)] else []).map tk ++ ((wps k 0 l m).map tk ++ r)) = .ok (l, r) := by
  have hs' : ∀ c, (h : c < l.length) → srtB (if k = 12 ∧ 0 + c = 2 then 2 else sortN k) l[c] = true := fun c h => by rw [Nat.zero_add]; exact hs c h
  have hc : (kidsN k n).toNat = l.length := by omega
  unfold kidsK
  by_cases h0 : kidsN k n ≤ 0
  · have hl0 : l = [] := List.eq_nil_of_length_eq_zero (by omega)
    subst hl0
    have hb : ¬ 0 < bindsN k 1 := by
      intro hb
      unfold bindsN at hb
      unfold kidsN at h0
      split at hb
      · (repeat' split at h0) <;> omega
      · split at hb
        · (repeat' split at h0) <;> omega
        · omega
    rw [if_pos h0, if_neg hb]
    rfl
  · rw [if_neg h0, hc]
    by_cases hb : 0 < bindsN k 1
    · rw [if_pos hb, if_pos hb]
      show (match takeT E 3 (⟨3, nameW m, 0⟩ :: ((wps k 0 l m).map tk ++ r)) with | .error e => Except.error e | .ok (x, r) => kidsP tp k (sortN k) x.s 0 l.length (NSc m) r) = _
      unfold takeT
      simp only [if_true]
      exact kids_read hk m l 0 r htp hf hs' _ (fun _ _ => rfl)
    · rw [if_neg hb, if_neg hb]
      show kidsP tp k (sortN k) [] 0 l.length (NSc m) ((wps k 0 l m).map tk ++ r) = _
      refine kids_read hk m l 0 r htp hf hs' _ (fun q hq => absurd hb ?_)
      simp only [Classical.not_not]
      unfold bindsN at hq ⊢
      (repeat' split at hq) <;> (first | omega | (rw [if_neg (by omega)]; rw [if_pos (by omega)]; simp) | (rw [if_pos (by omega)]; simp))
/-- Read back with any words behind. -/
theorem wp_read (E : Nat) (t : Tm) : ∀ (so : Int), (so = 0 ∨ so = 1 ∨ so = 2) → srtB so t = true → ∀ (m f : Nat), t.freeN ≤ m → t.size + 1 ≤ f → ∀ r, termP E 0 0 f so (NSc m) ((t.wp m).map tk ++ r) = .ok (t, r) := by
  induction t using Tm.ind with
  | h t ih =>
    intro so hso3 hso m f hf hfu r
    have hr := srt_right hso
    have hnum := right_numbers hr
    have hkr := right_kind hr
    have hlen := right_length hr
    rw [Tm.wp_eq]
    rw [Tm.freeN_eq] at hf
    rw [Tm.size_eq] at hfu
    match f, hfu with
    | f + 2, hfu =>
    by_cases h2 : t.k = 2
    · rw [if_pos h2] at hf ⊢
      have hv := right_var_eq hr h2
      have hi : 0 ≤ t.i := by rw [h2] at hnum; simp [numbersN] at hnum; omega
      show termP E 0 0 (f + 2) so (NSc m) (⟨3, nameW ((m : Int) - 1 - t.i), 0⟩ :: r) = _
      rw [termP]
      simp only [show ¬ ((3 : Nat) = 1) by omega, if_false, if_true]
      have := name_at m t.i.toNat (by omega)
      rw [show ((t.i.toNat : Nat) : Int) = t.i by omega] at this
      rw [this]
      simp only
      rw [show ((t.i.toNat : Nat) : Int) = t.i by omega, ← hv]
    · rw [if_neg h2] at hf ⊢
      have hk1 : 1 ≤ t.k ∧ t.k ≤ 23 ∧ t.k ≠ 2 := ⟨hkr.1, hkr.2, h2⟩
      have hhd := (head_read hk1).1
      have hmp : t.markedB = true → 1 ≤ t.k ∧ t.k ≤ 12 := fun h => by
        rw [Tm.markedB_eq] at h
        simp only [Bool.and_eq_true, decide_eq_true_eq] at h
        exact h.1
      have hpp : t.plainB = true → t.k = 1 ∨ t.k = 2 ∨ 13 ≤ t.k := fun h => by
        rw [Tm.plainB_eq] at h
        simp only [Bool.and_eq_true, Bool.or_eq_true, beq_iff_eq, decide_eq_true_eq] at h
        omega
      have hsrt : ¬ (headN (headL t.k) = 0 ∨ (sortN (headN (headL t.k)) ≠ 0 ∧ so ≠ 0 ∧ sortN (headN (headL t.k)) ≠ so)) := by
        rw [hhd]
        rintro (e | ⟨e1, e2, e3⟩)
        · omega
        · rcases hso3 with rfl | rfl | rfl
          · exact e2 rfl
          · have := hmp (by simpa [srtB] using hso)
            unfold sortN at e1 e3
            split at e1 <;> split at e3 <;> omega
          · have := hpp (by simpa [srtB] using hso)
            unfold sortN at e1 e3
            (repeat' split at e1) <;> (repeat' split at e3) <;> omega
      have hkid : ∀ c, (h : c < t.kids.length) → srtB (if t.k = 12 ∧ c = 2 then 2 else sortN t.k) t.kids[c] = true := fun c hc => by
        have h1 : t.k ≠ 1 := fun e => by rw [e] at hlen; simp [kidsN] at hlen; rw [hlen] at hc; simp at hc
        have hr' := hr
        unfold Tm.rightB at hr'
        rw [Bool.or_eq_true] at hr'
        by_cases h12 : t.k ≤ 12
        · rcases hr' with hm | hp
          · rw [Tm.markedB_eq] at hm
            simp only [Bool.and_eq_true] at hm
            have := markeds_at hm.2.2 c hc
            rw [Nat.zero_add] at this
            unfold Tm.kidB at this
            by_cases hh : t.k = 12 ∧ c = 2
            · rw [if_pos hh]
              rw [if_pos (by simp [hh.1, hh.2])] at this
              simpa [srtB] using this
            · rw [if_neg hh]
              rw [if_neg (by simpa using hh)] at this
              rw [show sortN t.k = 1 by unfold sortN; rw [if_neg (by omega), if_pos h12]]
              simpa [srtB] using this
          · have := hpp hp; omega
        · rcases hr' with hm | hp
          · have := hmp hm; omega
          · rw [Tm.plainB_eq] at hp
            simp only [Bool.and_eq_true] at hp
            rw [if_neg (by omega), show sortN t.k = 2 by unfold sortN; rw [if_neg (by omega), if_neg (by omega)]]
            have := plains_at hp.2.2 c hc
            simpa [srtB] using this
      have hsz : ∀ x ∈ t.kids, x.size + 1 ≤ f + 1 := fun x hx => by have := size_mem _ x hx; omega
      rw [show (((1, [40]) :: (3, headL t.k) :: (frontP t.k t.i t.j t.n m ++ (wps t.k 0 t.kids m ++ [(2, [41])])) : PS).map tk ++ r) = ⟨1, [40], 0⟩ :: ⟨3, headL t.k, 0⟩ :: ((if t.k = 23 then [((3 : Nat), symL t.n)] else []).map tk ++ ((lvlP t.k t.i t.j).map tk ++ ((if 0 < bindsN t.k 1 then [((3 : Nat), nameW m)] else []).map tk ++ ((wps t.k 0 t.kids m).map tk ++ ⟨2, [41], 0⟩ :: r)))) from by
        unfold frontP
        simp only [List.map_cons, List.map_append, List.append_assoc, List.cons_append, List.map_nil, List.nil_append, tk]]
      rw [termP]
      simp only [if_true]
      unfold listP takeT
      simp only [if_true]
      rw [if_neg hsrt, hhd]
      unfold bodyP
      rw [sym_back (sym_range hr) (numbers_lv hnum h2).2.2.2.2]
      simp only
      rw [lva_back hnum h2]
      simp only
      rw [lvb_back hnum h2]
      simp only
      have hkds : kdsP (termP E 0 0 (f + 1)) E t.k t.n (NSc m) ((if 0 < bindsN t.k 1 then [((3 : Nat), nameW m)] else []).map tk ++ ((wps t.k 0 t.kids m).map tk ++ ⟨2, [41], 0⟩ :: r)) = .ok (t.kids, ⟨2, [41], 0⟩ :: r) := by
        unfold kdsP
        by_cases h22 : t.k = 22
        · rw [if_pos h22]
          rw [h22] at hf hlen hkid ⊢
          rw [if_neg (show ¬ 0 < bindsN 22 1 by decide)]
          refine kdsJ_back m t.kids (by simp [kidsN] at hlen; omega) (fun x hx m' hf' r' => ?_) hf _
          obtain ⟨c, hc, rfl⟩ := List.mem_iff_getElem.1 hx
          have := hkid c hc
          rw [if_neg (by omega), show sortN 22 = 2 from rfl] at this
          exact ih _ hx 2 (by omega) this m' (f + 1) hf' (hsz _ hx) r'
        · rw [if_neg h22]
          refine kdsK_back h22 hk1 m t.kids hlen (fun x hx q hq m' hf' _ r' => ih _ hx _ ?_ hq m' (f + 1) hf' (hsz _ hx) r') hf hkid _
          unfold sortN
          (repeat' split) <;> omega
      rw [hkds]
      simp only
      rw [t.eta]
      rfl
theorem wp_len (t : Tm) : t.rightB = true → ∀ m : Int, t.size ≤ (t.wp m).length := by
  induction t using Tm.ind with
  | h t ih =>
    intro hr m
    rw [Tm.wp_eq, Tm.size_eq]
    have key : ∀ (l : List Tm), (∀ x ∈ l, ∀ m : Int, x.size ≤ (x.wp m).length) → ∀ (p : Nat), sizes l ≤ (wps t.k p l m).length := by
      intro l
      induction l with
      | nil => intro _ p; simp [sizes]
      | cons x r ihr =>
        intro h p
        have h1 := h x (List.mem_cons_self ..) (m + bindsN t.k p)
        have h2 := ihr (fun y hy => h y (List.mem_cons_of_mem _ hy)) (p + 1)
        simp only [sizes, wps, List.length_append]
        omega
    have hk := key t.kids (fun x hx => ih x hx (t.right_kids hr x hx)) 0
    split
    · rename_i h2
      have hl := right_length hr
      rw [h2] at hl
      simp [kidsN] at hl
      rw [hl]
      simp [sizes]
    · simp only [List.length_cons, List.length_append]
      omega
theorem nsc_map (n : Nat) : ((List.range n).map (fun q : Nat => nameW q)).reverse = NSc n := by
  induction n with
  | zero => rfl
  | succ n ih => rw [List.range_succ, List.map_append, List.reverse_append, ih]; rfl
/-- What is written is read as it was. -/
theorem write_read {t : Tm} {n : Nat} (hr : t.rightB = true) (hf : t.freeN ≤ n) (hs : n + 2 * t.size ≤ 1000000) : readB (t.wr n) ((List.range n).map (fun q : Nat => nameW q)) 0 0 = .ok t := by
  have h1 := wr_lx t hr n [] [] (by omega) hf (by omega) del_nil LX.nil
  rw [List.append_nil, List.append_nil] at h1
  have h2 := wp_read (t.wr n).length t 0 (Or.inl rfl) (by simpa [srtB] using hr) n (t.size + 1) hf (Nat.le_refl _) []
  rw [List.append_nil, ← nsc_map] at h2
  exact readB_LX (by omega) h1 (by have := wp_len t hr n; omega) h2
end Go.Proofs.YtllkackipdcekaaDoor

namespace Go.Proofs.YtllkackipdcekaaDoor
open Go.RowKit

theorem srow_texts {B : Nat} {w : World} {v : Value} {l : List (List UInt8)} (h : SRow B w v l) : TxLies w.heap.size w l v := by
  rcases h.2 with ⟨rfl, h0⟩ | ⟨g, cap, cur, rfl, hg, hh, r1, r2, -⟩
  · have : l = [] := List.eq_nil_of_length_eq_zero h0
    subst this
    exact ⟨none, 0, rfl, Nat.le_refl _, by unfold maxLen; omega, fun q hq => absurd hq (by simp)⟩
  · refine ⟨_, cap, rfl, r1, r2, fun q hq => ⟨g, 0, rfl, (Array.getElem?_eq_some_iff.1 hh).1, ?_⟩⟩
    rw [Nat.zero_add]
    exact h.cell q hq
theorem vnames_len (n : Nat) : (vnames n).length = n := by simp [vnames]
theorem vnames_short {n : Nat} (h : n ≤ 1000000) : ∀ y ∈ vnames n, y.length ≤ 10000000 := by
  intro y hy
  unfold vnames at hy
  obtain ⟨q, hq, rfl⟩ := List.mem_map.1 hy
  have hq := List.mem_range.1 hq
  have := Lib.itoa_length_le (q : Int) (by omega) (by omega)
  show (118 :: Lib.itoa (q : Int)).length ≤ _
  rw [List.length_cons]
  omega
theorem write_readB {t : Tm} {n : Nat} (hr : t.rightB = true) (hf : t.freeN ≤ n) (hs : n + 2 * t.size ≤ 1000000) : readB (writeB t n) (vnames n) 0 0 = .ok t ∧ writeB t n = t.wr n ∧ (writeB t n).length ≤ 100 * t.size := by
  have hw : writeB t n = t.wr n := by
    unfold writeB
    rw [if_pos ⟨⟨by omega, by omega⟩, hr, by unfold Tm.freeB; rw [if_pos hr]; exact hf⟩]
  refine ⟨?_, hw, ?_⟩
  · rw [hw]
    exact write_read hr hf hs
  · rw [hw]
    have := wr_len t n hr (by omega) hf (by omega)
    omega
end Go.Proofs.YtllkackipdcekaaDoor

namespace Go.Proofs.YtllkackipdcekaaDoor
open Go.RowKit

/-- Terms one behind the other, each with the slice of its kids. -/
def Row (w : World) (b : Nat) : Nat → List (Tm × Value) → Prop
  | _, [] => True
  | o, (t, s) :: r => Node w b o t s ∧ t.fine ∧ Lies w t.kids s ∧ Row w b (o + 5) r

theorem Row.at {w : World} {b : Nat} {ps : List (Tm × Value)} : ∀ {o : Nat}, Row w b o ps → ∀ i (h : i < ps.length), Node w b (o + i * 5) (ps[i]).1 (ps[i]).2 ∧ (ps[i]).1.fine ∧ Lies w (ps[i]).1.kids (ps[i]).2 := by
  induction ps with
  | nil => intro o _ i h; simp at h
  | cons p r ih =>
    intro o hr i h
    cases i with
    | zero => exact ⟨by simpa using hr.1, hr.2.1, hr.2.2.1⟩
    | succ i =>
      have := ih hr.2.2.2 i (by simpa using h)
      rw [show o + 5 + i * 5 = o + (i + 1) * 5 by omega] at this
      simpa using this

theorem Row.lies {w : World} {b o cap : Nat} {ps : List (Tm × Value)} (h : Row w b o ps) (hc : ps.length ≤ cap) (hm : cap ≤ maxLen) : Lies w (ps.map (·.1)) (.slice (some ⟨b, o, none⟩) ps.length cap) := by
  have := Lies.mk (w := w) (ps.map (·.1)) (some ⟨b, o, none⟩) cap (fun i => (ps[i]?.map (·.2)).getD (.slice none 0 0)) (by simpa using hc) hm
    (fun x hx => by
      obtain ⟨p, hp, rfl⟩ := List.mem_map.1 hx
      obtain ⟨i, hi, rfl⟩ := List.getElem_of_mem hp
      exact (h.at i hi).2.1)
    (fun i hi => by
      have hi' : i < ps.length := by simpa using hi
      refine ⟨b, o, rfl, ?_⟩
      simp only [List.getElem_map, List.getElem?_eq_getElem hi', Option.map_some, Option.getD_some]
      exact (h.at i hi').1)
    (fun i hi => by
      have hi' : i < ps.length := by simpa using hi
      simp only [List.getElem_map, List.getElem?_eq_getElem hi', Option.map_some, Option.getD_some]
      exact (h.at i hi').2.2)
  simpa using this

theorem lies_nil (w : World) : Lies w [] (.slice none 0 0) := .mk [] none 0 (fun _ => .nilIface) (Nat.le_refl _) (by decide) (fun _ h => by cases h) (fun _ h => by cases h) (fun _ h => by cases h)

end Go.Proofs.YtllkackipdcekaaDoor

namespace Go.Proofs.YtllkackipdcekaaDoor
open Go.RowKit

theorem heapX3 (w : World) (a b c : Obj) : (((w.alloc a).alloc b).alloc c).heap[w.heap.size]? = some a ∧ (((w.alloc a).alloc b).alloc c).heap[w.heap.size + 1]? = some b ∧ (((w.alloc a).alloc b).alloc c).heap[w.heap.size + 2]? = some c := by
  refine ⟨?_, ?_, ?_⟩
  · rw [Lib.alloc_old _ _ _ (by simp; omega), Lib.alloc_old _ _ _ (by simp)]; exact alloc_heap_new' w a
  · rw [Lib.alloc_old _ _ _ (by simp)]; have h := alloc_heap_new' (w.alloc a) b; rw [World.size_alloc] at h; exact h
  · have h := alloc_heap_new' ((w.alloc a).alloc b) c; rw [World.size_alloc, World.size_alloc] at h; exact h
def wakeX : Tm := .mk 14 0 0 0 [.mk 1 4 0 0 [], .mk 15 0 0 0 [.mk 2 0 0 0 [], .mk 2 1 0 0 []]]
def wakeXw (w : World) : World := ((w.alloc (.cells #[.int .i64 2, .int .i64 0, .int .i64 0, .int .i64 0, .slice none 0 0, .int .i64 2, .int .i64 1, .int .i64 0, .int .i64 0, .slice none 0 0] 26)).alloc (.cells #[.int .i64 1, .int .i64 4, .int .i64 0, .int .i64 0, .slice none 0 0, .int .i64 15, .int .i64 0, .int .i64 0, .int .i64 0, .slice (some ⟨w.heap.size, 0, none⟩) 2 2] 26)).alloc (.cells #[.int .i64 14, .int .i64 0, .int .i64 0, .int .i64 0, .slice (some ⟨w.heap.size + 1, 0, none⟩) 2 2] 26)
theorem wakeX_heap (w : World) : (wakeXw w).heap[w.heap.size]? = some (.cells #[.int .i64 2, .int .i64 0, .int .i64 0, .int .i64 0, .slice none 0 0, .int .i64 2, .int .i64 1, .int .i64 0, .int .i64 0, .slice none 0 0] 26) ∧ (wakeXw w).heap[w.heap.size + 1]? = some (.cells #[.int .i64 1, .int .i64 4, .int .i64 0, .int .i64 0, .slice none 0 0, .int .i64 15, .int .i64 0, .int .i64 0, .int .i64 0, .slice (some ⟨w.heap.size, 0, none⟩) 2 2] 26) ∧ (wakeXw w).heap[w.heap.size + 2]? = some (.cells #[.int .i64 14, .int .i64 0, .int .i64 0, .int .i64 0, .slice (some ⟨w.heap.size + 1, 0, none⟩) 2 2] 26) := by
  exact heapX3 w _ _ _
theorem smallX_fine (k i : Int) (l : List Tm) (hk : I64 k) (hi : I64 i) : (Tm.mk k i 0 0 l).fine := ⟨hk, hi, by show I64 0; unfold I64; omega, by show I64 0; unfold I64; omega⟩
theorem smallX_I64 (n : Nat) (h : n < 1000) : I64 (n : Int) := by unfold I64; omega
theorem wakeX_lies (w : World) : Lies (wakeXw w) wakeX.kids (.slice (some ⟨w.heap.size + 1, 0, none⟩) 2 2) := by
  obtain ⟨h0, h1, -⟩ := wakeX_heap w
  have c0 := fun q => Lib.cell_of_heap h0 q
  have c1 := fun q => Lib.cell_of_heap h1 q
  have hin : Lies (wakeXw w) [.mk 2 0 0 0 [], .mk 2 1 0 0 []] (.slice (some ⟨w.heap.size, 0, none⟩) 2 2) :=
    Row.lies (ps := [(.mk 2 0 0 0 [], .slice none 0 0), (.mk 2 1 0 0 [], .slice none 0 0)]) ⟨⟨by rw [c0]; rfl, by rw [c0]; rfl, by rw [c0]; rfl, by rw [c0]; rfl, by rw [c0]; rfl⟩, smallX_fine _ _ _ (smallX_I64 2 (by decide)) (smallX_I64 0 (by decide)), lies_nil _, ⟨by rw [c0]; rfl, by rw [c0]; rfl, by rw [c0]; rfl, by rw [c0]; rfl, by rw [c0]; rfl⟩, smallX_fine _ _ _ (smallX_I64 2 (by decide)) (smallX_I64 1 (by decide)), lies_nil _, trivial⟩ (by decide) (by decide)
  exact Row.lies (ps := [(.mk 1 4 0 0 [], .slice none 0 0), (.mk 15 0 0 0 [.mk 2 0 0 0 [], .mk 2 1 0 0 []], .slice (some ⟨w.heap.size, 0, none⟩) 2 2)]) ⟨⟨by rw [c1]; rfl, by rw [c1]; rfl, by rw [c1]; rfl, by rw [c1]; rfl, by rw [c1]; rfl⟩, smallX_fine _ _ _ (smallX_I64 1 (by decide)) (smallX_I64 4 (by decide)), lies_nil _, ⟨by rw [c1]; rfl, by rw [c1]; rfl, by rw [c1]; rfl, by rw [c1]; rfl, by rw [c1]; rfl⟩, smallX_fine _ _ _ (smallX_I64 15 (by decide)) (smallX_I64 0 (by decide)), hin, trivial⟩ (Nat.le_refl 2) (by decide)
theorem wakeX_below (w : World) : Below w.heap.size w (wakeXw w) := (((Below.refl _ w).alloc (Nat.le_refl _) _).alloc (by simp) _).alloc (by simp; omega) _
theorem wakeX_one : writeB wakeX 1 = [40, 76, 97, 109, 32, 118, 49, 32, 40, 115, 111, 114, 116, 32, 52, 41, 32, 40, 65, 112, 112, 32, 118, 49, 32, 118, 48, 41, 41] := by decide +kernel
theorem wakeX_none : writeB wakeX 0 = [] := by decide +kernel
theorem vnames_two : (if (0 : Int) ≤ 2 ∧ (2 : Int) ≤ 1000000 then vnames (2 : Int).toNat else []) = [[118, 48], [118, 49]] := by decide +kernel

set_option maxRecDepth 20000 in
set_option maxHeartbeats 2000000 in
theorem wakes10_any (w : World) (hW : WTab w) : Calls Tryd.prog 25 #[] w fun e w' => e = .returned (.bool true) ∧ Below w.heap.size w w' := by
  obtain ⟨h0, h1, h2⟩ := wakeX_heap w
  have HW := Lib.hid (hW.later (wakeX_below w))
  have HL := Lib.hid (wakeX_lies w)
  have HB0 := Lib.hid (wakeX_below w)
  have hsw : (wakeXw w).heap.size = w.heap.size + 3 := by simp [wakeXw]
  have H2 := Lib.hid h2
  have HSW := Lib.hid hsw
  clear h0 h1 h2 hsw hW
  go_enter Tryd.func25, Tryd.ntmps25
  go_wp2_with fail
  refine (names_any 2 (wakeXw w) HW.out).mono ?_
  rintro e w1 ⟨v1, rfl, hrow, hb1⟩
  rw [vnames_two] at hrow
  obtain ⟨g, cap, rfl⟩ : ∃ g cap, v1 = .slice (some ⟨g, 0, none⟩) 2 cap := by
    rcases hrow.2 with ⟨_, h0⟩ | ⟨g, cap, cur, hv, _⟩
    · cases h0
    · exact ⟨g, cap, hv⟩
  have HR := Lib.hid hrow
  have HB1 := Lib.hid (HB0.out.trans (hb1.mono (by rw [HSW.out]; omega)))
  have HL1 := Lib.hid (HL.out.keep hb1)
  have HW1 := Lib.hid (HW.out.later hb1)
  have hx1 := (hb1.block (w.heap.size + 2) (by rw [HSW.out]; omega)).trans H2.out
  have hz1 : w.heap.size + 1 + 1 < w1.heap.size := by have := hb1.size; rw [HSW.out] at this; omega
  have HX1 := Lib.hid hx1
  have d0 : w1.cell? ⟨w.heap.size + 1 + 1, 0, none⟩ = some (.int .i64 14) := by rw [Lib.cell_of_heap hx1]; rfl
  have d1 : w1.cell? ⟨w.heap.size + 1 + 1, 1, none⟩ = some (.int .i64 0) := by rw [Lib.cell_of_heap hx1]; rfl
  have d2 : w1.cell? ⟨w.heap.size + 1 + 1, 2, none⟩ = some (.int .i64 0) := by rw [Lib.cell_of_heap hx1]; rfl
  have d3 : w1.cell? ⟨w.heap.size + 1 + 1, 3, none⟩ = some (.int .i64 0) := by rw [Lib.cell_of_heap hx1]; rfl
  have d4 : w1.cell? ⟨w.heap.size + 1 + 1, 4, none⟩ = some (.slice (some ⟨w.heap.size + 1, 0, none⟩) 2 2) := by rw [Lib.cell_of_heap hx1]; rfl
  clear hrow hb1 hx1
  go_wp2_with fail
  refine (write_any wakeX 1 w1 _ HL1.out HW1.out (by decide +kernel)).mono ?_
  rintro e w2 ⟨rfl, hb2⟩
  rw [wakeX_one]
  have HR2 := Lib.hid (HR.out.keep hb2)
  have HB2 := Lib.hid (HB1.out.trans (hb2.mono (by omega)))
  have HL2 := Lib.hid (HL1.out.keep hb2)
  have HW2 := Lib.hid (HW1.out.later hb2)
  have hx2 := (hb2.block (w.heap.size + 2) (by omega)).trans HX1.out
  clear d0 d1 d2 d3 d4 hb2
  have d0 : w2.cell? ⟨w.heap.size + 1 + 1, 0, none⟩ = some (.int .i64 14) := by rw [Lib.cell_of_heap hx2]; rfl
  have d1 : w2.cell? ⟨w.heap.size + 1 + 1, 1, none⟩ = some (.int .i64 0) := by rw [Lib.cell_of_heap hx2]; rfl
  have d2 : w2.cell? ⟨w.heap.size + 1 + 1, 2, none⟩ = some (.int .i64 0) := by rw [Lib.cell_of_heap hx2]; rfl
  have d3 : w2.cell? ⟨w.heap.size + 1 + 1, 3, none⟩ = some (.int .i64 0) := by rw [Lib.cell_of_heap hx2]; rfl
  have d4 : w2.cell? ⟨w.heap.size + 1 + 1, 4, none⟩ = some (.slice (some ⟨w.heap.size + 1, 0, none⟩) 2 2) := by rw [Lib.cell_of_heap hx2]; rfl
  clear hx2
  go_wp2_with fail
  refine (write_any wakeX 0 w2 _ HL2.out HW2.out (by decide +kernel)).mono ?_
  rintro e w3 ⟨rfl, hb3⟩
  rw [wakeX_none]
  have hr3 := HR2.out.keep hb3
  have HB3 := Lib.hid (HB2.out.trans (hb3.mono (by have := HB2.out.size; omega)))
  have e1 : w3.cell? ⟨g, 1, none⟩ = some (.string ⟨#[118, 49]⟩) := hr3.cell 1 (by decide)
  clear hb3 hr3 d0 d1 d2 d3 d4
  go_wp2
  go_ret
  exact ⟨rfl, HB3.out⟩
end Go.Proofs.YtllkackipdcekaaDoor

namespace Go.Proofs.YtllkackipdcekaaDoor
open Go.RowKit

set_option maxHeartbeats 1000000 in
theorem terms_of (l : List Tm) (ih : ∀ x ∈ l, ∀ (y : Tm) (w : World) (s r : Value), Lies w x.kids s → Lies w y.kids r → Calls Tryd.prog 14 #[tv x s, tv y r] w fun e w' => e = .returned (.bool (sameB x y)) ∧ Below w.heap.size w w')
    (m : List Tm) (w : World) (s r : Value) (hl : Lies w l s) (hm : Lies w m r) : Calls Tryd.prog 30 #[s, r] w fun e w' => e = .returned (.bool (samesB l m)) ∧ Below w.heap.size w w' := by
  obtain ⟨a, cap, S, rfl, hc, hmx, -, hn, hk⟩ := hl.out
  obtain ⟨a2, cap2, S2, rfl, hc2, hmx2, -, hn2, hk2⟩ := hm.out
  unfold maxLen at hmx hmx2
  have IH := Lib.hid ih
  have HN := Lib.hid hn
  have HK := Lib.hid hk
  have HN2 := Lib.hid hn2
  have HK2 := Lib.hid hk2
  clear ih hn hk hn2 hk2 hl hm
  by_cases hlen : l.length = m.length
  rotate_left
  · have h1 : ((l.length : Int) == (m.length : Int)) = false := by simp; omega
    have h2 : ((l.length : Int) != (m.length : Int)) = true := by simp; omega
    have HS := Lib.hid (sames_ne hlen)
    clear hlen
    go_enter Tryd.func30, Tryd.ntmps30
    go_wp2
    go_ret
    exact ⟨ret_bool HS.out.symm, Below.refl _ _⟩
  have h1 : ((l.length : Int) == (m.length : Int)) = true := by simp; omega
  have h2 : ((l.length : Int) != (m.length : Int)) = false := by simp; omega
  have HL := Lib.hid hlen
  clear hlen
  go_enter Tryd.func30, Tryd.ntmps30
  go_wp2
  go_loopw [5] (fun iv wr => ∃ k : Nat, k ≤ l.length ∧ iv = .int .i64 k ∧ Hid (samesB (l.take k) (m.take k) = true) ∧ Below w.heap.size w wr) (fun iv _ => l.length - (intOf iv).toNat)
  case atStart => exact ⟨0, Nat.zero_le _, rfl, by simp [Hid, samesB], Below.refl _ _⟩
  case round =>
    obtain ⟨k, hk, rfl, hgood, hb⟩ := hrel
    by_cases hlt : k < l.length
    · have hlt2 : k < m.length := by have := HL.out; omega
      obtain ⟨b, o, rfl, hx⟩ := HN.out k hlt
      obtain ⟨b2, o2, rfl, hx2⟩ := HN2.out k hlt2
      obtain ⟨c0, c1, c2, c3, c4⟩ := hx.below hb hx.lt
      obtain ⟨e0, e1, e2, e3, e4⟩ := hx2.below hb hx2.lt
      have hq := (HK.out k hlt).keep hb
      have hq2 := (HK2.out k hlt2).keep hb
      obtain ⟨a', cap', S', hS, -⟩ := hq.out
      obtain ⟨a2', cap2', S2', hS2, -⟩ := hq2.out
      rw [hS] at c4 hq
      rw [hS2] at e4 hq2
      have HQ := Lib.hid hq
      have HQ2 := Lib.hid hq2
      have HM := Lib.hid (List.getElem_mem hlt)
      have HT := Lib.hid (sames_take l m k hlt hlt2)
      have HO := Lib.hid (sames_of l m k hlt hlt2)
      clear hS hS2 hq hq2
      go_wp2
      go_region_with (go_at_call 14; refine (IH.out _ HM.out _ _ _ _ (HQ.out.keep (Below.refl _ _).drew) (HQ2.out.keep (Below.refl _ _).drew)).mono ?_; rintro e wn ⟨rfl, hb'⟩; have HB3 := below_call hb.drew hb' hb.size; clear hb')
      all_goals
        cases hs : sameB l[k] m[k]
        · go_wp2
          go_ret
          exact ⟨ret_bool (HO.out hs).symm, HB3⟩
        · go_wp2
          go_roundw
          case rel => exact ⟨k + 1, by omega, by go_num, by show _ = true; rw [HT.out, hgood.out, hs]; rfl, HB3⟩
          case measure => simp [intOf]; omega
    · have : k = l.length := by omega
      subst this
      go_wp2
      go_ret
      exact ⟨ret_bool (by have hg := hgood.out; rw [List.take_length, HL.out, List.take_length] at hg; exact hg.symm), hb⟩

set_option maxHeartbeats 1000000 in
theorem keepsame_any (t : Tm) : ∀ (u : Tm) (w : World) (s r : Value), Lies w t.kids s → Lies w u.kids r → Calls Tryd.prog 14 #[tv t s, tv u r] w fun e w' => e = .returned (.bool (sameB t u)) ∧ Below w.heap.size w w' := by
  induction t using Tm.ind with
  | h t ih =>
    intro u w s r hl hm
    obtain ⟨a, cap, S, rfl, -⟩ := hl.out
    obtain ⟨a2, cap2, S2, rfl, -⟩ := hm.out
    have HTM := Lib.hid (terms_of t.kids ih)
    have HE := Lib.hid (sameB_eq t u)
    have HL := Lib.hid hl
    have HM := Lib.hid hm
    have H0 := held2_start w t (.slice a t.kids.length cap) u (.slice a2 u.kids.length cap2)
    clear hl hm ih
    unfold tv
    cases ek : (t.k == u.k)
    · go_enter Tryd.func14, Tryd.ntmps14
      go_wp2
      go_ret
      exact ⟨ret_bool (by rw [HE.out]; simp only [ek, Bool.false_and]), held2_below H0⟩
    cases ei : (t.i == u.i)
    · go_enter Tryd.func14, Tryd.ntmps14
      go_wp2
      go_ret
      exact ⟨ret_bool (by rw [HE.out]; simp only [ek, ei, Bool.false_and, Bool.true_and]), held2_below H0⟩
    cases ej : (t.j == u.j)
    · go_enter Tryd.func14, Tryd.ntmps14
      go_wp2
      go_ret
      exact ⟨ret_bool (by rw [HE.out]; simp only [ek, ei, ej, Bool.false_and, Bool.true_and]), held2_below H0⟩
    cases en : (t.n == u.n)
    · go_enter Tryd.func14, Tryd.ntmps14
      go_wp2
      go_ret
      exact ⟨ret_bool (by rw [HE.out]; simp only [ek, ei, ej, en, Bool.false_and, Bool.true_and]), held2_below H0⟩
    go_enter Tryd.func14, Tryd.ntmps14
    go_wp2_with fail
    refine (HTM.out u.kids _ _ _ (held2_lies H0 HL.out) (held2_lies H0 HM.out)).mono ?_
    rintro e wn ⟨rfl, hb'⟩
    have H1 := held2_call H0 hb'
    clear hb'
    go_wp2
    go_ret
    exact ⟨ret_bool (by rw [HE.out]; simp only [ek, ei, ej, en, Bool.true_and]), held2_below H1⟩
end Go.Proofs.YtllkackipdcekaaDoor

namespace Go.Proofs.YtllkackipdcekaaDoor
open Go.RowKit

set_option maxHeartbeats 1000000 in
theorem refnode_any (t : Tm) (w : World) (s : Value) (hl : Lies w t.kids s) : Calls Tryd.prog 54 #[tv t s] w fun e w' => e = .returned (.bool t.nodeB) ∧ Below w.heap.size w w' := by
  obtain ⟨a, cap, S, hs, hc, hm, -⟩ := hl.out
  subst hs
  unfold maxLen at hm
  have HB := (Below.refl (w.heap.size + 1) (w.alloc (.cells #[.int .i64 t.k, .int .i64 t.i, .int .i64 t.j, .int .i64 t.n, .slice a t.kids.length cap] 26)))
  have HBX := Lib.hid (fun (wr : World) => box_cells (w := w) (wr := wr) (v0 := .int .i64 t.k) (v1 := .int .i64 t.i) (v2 := .int .i64 t.j) (v3 := .int .i64 t.n) (v4 := .slice a t.kids.length cap) (T := 26))
  clear hl
  unfold tv
  go_enter Tryd.func54, Tryd.ntmps54
  cases h3 : ((t.kids.length : Int) == kidsN t.k t.n)
  · go_wp2
    go_region_with (go_at_call 73; refine (refkids_any _ _ _).mono ?_; rintro e w1 ⟨rfl, hb1⟩; have HB2 := below_call HB.drew hb1 (by simp); obtain ⟨d0, d1, d2, d3, d4⟩ := HBX.out _ HB2; clear hb1)
    all_goals
      go_wp2
      go_ret
      exact ⟨ret_bool (by simp only [Tm.nodeB, h3, Bool.false_and]), below_of_box HB2⟩
  · go_wp2
    go_region_held3 (fun w' => w'.cell? ⟨w.heap.size, 0, none⟩ = some (.int .i64 t.k) ∧ w'.cell? ⟨w.heap.size, 1, none⟩ = some (.int .i64 t.i) ∧ w'.cell? ⟨w.heap.size, 2, none⟩ = some (.int .i64 t.j) ∧ w'.cell? ⟨w.heap.size, 3, none⟩ = some (.int .i64 t.n) ∧ w'.cell? ⟨w.heap.size, 4, none⟩ = some (.slice a t.kids.length cap)) (go_keep)
      (first | (go_at_call 73; refine (refkids_any _ _ _).mono ?_; rintro e w1 ⟨rfl, hb1⟩; have HB2 := below_call HB.drew hb1 (by simp); obtain ⟨d0, d1, d2, d3, d4⟩ := HBX.out _ HB2; clear hb1) | (go_at_call 76; refine (refnumbers_any t _ _).mono ?_; rintro e w2 ⟨rfl, hb2⟩; have HB3 := below_call HB2 hb2 (by have := HB2.size; simpa using this); obtain ⟨y0, y1, y2, y3, y4⟩ := HBX.out _ HB3; clear hb2))
    go_wp2
    go_ret
    exact ⟨ret_bool (by simp only [Tm.nodeB, h3, Bool.true_and]), below_of_box HB3⟩

set_option maxHeartbeats 1000000 in
theorem refplain_any (t : Tm) : ∀ (w : World) (s : Value), Lies w t.kids s → Calls Tryd.prog 32 #[tv t s] w fun e w' => e = .returned (.bool t.plainB) ∧ Below w.heap.size w w' := by
  induction t using Tm.ind with
  | h t ih =>
    intro w s hl
    obtain ⟨a, cap, S, rfl, hc, hm, hf, hn, hk⟩ := hl.out
    unfold tv
    unfold maxLen at hm
    have HL := Lib.hid ((hl.keep (w' := w.alloc (.cells #[.int .i64 t.k, .int .i64 t.i, .int .i64 t.j, .int .i64 t.n, .slice a t.kids.length cap] 26)) ((Below.refl _ _).alloc (Nat.le_refl _) _)))
    have HP := Lib.hid (t.plainB_eq)
    have IH := Lib.hid ih
    have HN := Lib.hid hn
    have HK := Lib.hid hk
    have HBX := Lib.hid (fun (wr : World) => box_cells (w := w) (wr := wr) (v0 := .int .i64 t.k) (v1 := .int .i64 t.i) (v2 := .int .i64 t.j) (v3 := .int .i64 t.n) (v4 := .slice a t.kids.length cap) (T := 26))
    clear ih hn hk hf hl
    by_cases hkind : t.k = 1 ∨ t.k = 2 ∨ (13 ≤ t.k ∧ t.k ≤ 23)
    rotate_left
    · have h1 : (t.k == 1) = false := by simp; omega
      have h2 : (t.k == 2) = false := by simp; omega
      have h5 : t.plainB = false := by rw [HP.out, h1, h2]; simp; omega
      have H5 := Lib.hid h5
      clear h5
      have h1' : (t.k != 1) = true := by simp; omega
      have h2' : (t.k != 2) = true := by simp; omega
      have h3 : t.k < 13 ∨ 23 < t.k := by omega
      rcases h3 with h3 | h3
      all_goals
        go_enter Tryd.func32, Tryd.ntmps32
        go_wp2
        go_ret
        exact ⟨ret_bool H5.out.symm, (Below.refl _ _).alloc (Nat.le_refl _) _⟩
    have hkb : (t.k == 1 || (t.k == 2 || (decide (13 ≤ t.k) && decide (t.k ≤ 23)))) = true := by simp; omega
    have HP2 : Hid (t.plainB = (t.nodeB && plains t.kids)) := by have := HP.out; rw [hkb, Bool.true_and] at this; exact this
    clear hkb
    have hk3 : t.k = 1 ∨ t.k = 2 ∨ (¬ t.k = 1 ∧ ¬ t.k = 2 ∧ 13 ≤ t.k ∧ t.k ≤ 23) := by omega
    have hb3 : ((t.k != 1) = false) ∨ ((t.k != 1) = true ∧ (t.k != 2) = false) ∨ ((t.k != 1) = true ∧ (t.k != 2) = true ∧ 13 ≤ t.k ∧ t.k ≤ 23) := by
      rcases hk3 with h | h | h
      · left; simp [h]
      · right; left; simp [h]
      · right; right; simp; omega
    clear hk3 hkind
    cases hn : t.nodeB with
    | false =>
      have h5 : t.plainB = false := by rw [HP2.out, hn]; rfl
      have H5 := Lib.hid h5
      have HNN := Lib.hid hn
      clear h5 hn
      rcases hb3 with h1 | ⟨h1, h2⟩ | ⟨h1, h2, h3, h4⟩
      all_goals
        go_enter Tryd.func32, Tryd.ntmps32
        go_wp2_with fail
        refine (refnode_any t _ _ HL.out).mono ?_
        rintro e w1 ⟨rfl, hb'⟩
        have HB2 := below_call (Below.refl (w.heap.size + 1) (w.alloc (.cells #[.int .i64 t.k, .int .i64 t.i, .int .i64 t.j, .int .i64 t.n, .slice a t.kids.length cap] 26))) hb' (by simp)
        obtain ⟨d0, d1, d2, d3, d4⟩ := HBX.out _ HB2
        clear hb'
        rw [HNN.out]
        go_wp2
        go_ret
        exact ⟨ret_bool H5.out.symm, below_of_box HB2⟩
    | true =>
      have HNN := Lib.hid hn
      clear hn
      rcases hb3 with h1 | ⟨h1, h2⟩ | ⟨h1, h2, h3, h4⟩
      all_goals
        go_enter Tryd.func32, Tryd.ntmps32
        go_wp2_with fail
        refine (refnode_any t _ _ HL.out).mono ?_
        rintro e w1 ⟨rfl, hb'⟩
        have HB2 := below_call (Below.refl (w.heap.size + 1) (w.alloc (.cells #[.int .i64 t.k, .int .i64 t.i, .int .i64 t.j, .int .i64 t.n, .slice a t.kids.length cap] 26))) hb' (by simp)
        obtain ⟨d0, d1, d2, d3, d4⟩ := HBX.out _ HB2
        clear hb'
        rw [HNN.out]
        go_wp2_with fail
        go_loopw [3] (fun iv wr => ∃ k : Nat, k ≤ t.kids.length ∧ iv = .int .i64 k ∧ Hid (plains (t.kids.take k) = true) ∧ Below (w.heap.size + 1) (w.alloc (.cells #[.int .i64 t.k, .int .i64 t.i, .int .i64 t.j, .int .i64 t.n, .slice a t.kids.length cap] 26)) wr) (fun iv _ => t.kids.length - (intOf iv).toNat)
        case atStart => exact ⟨0, Nat.zero_le _, rfl, by simp [Hid, plains], HB2⟩
        case round =>
          obtain ⟨k, hk, rfl, hgood, hb⟩ := hrel
          obtain ⟨d0, d1, d2, d3, d4⟩ := HBX.out _ hb
          have hb0 := below_of_box hb
          by_cases hlt : k < t.kids.length
          · obtain ⟨b, o, rfl, hx⟩ := HN.out k hlt
            have hy := hx.below hb0 hx.lt
            obtain ⟨c0, c1, c2, c3, c4⟩ := hy
            have hq := HK.out k hlt
            obtain ⟨a', cap', S', hS, -⟩ := hq.out
            rw [hS] at c4 hq
            have HQ := Lib.hid (hq.keep hb0)
            clear hS hq
            have HM := Lib.hid (List.getElem_mem hlt)
            have HT := Lib.hid (plains_take t.kids k hlt)
            go_wp2_with fail
            refine (IH.out _ HM.out _ _ HQ.out).mono ?_
            rintro e w2 ⟨rfl, hb'⟩
            have HB3 := below_call hb hb' (by have := hb.size; simpa using this)
            obtain ⟨x0, x1, x2, x3, x4⟩ := HBX.out _ HB3
            clear hb' hb d0 d1 d2 d3 d4 hb0 c0 c1 c2 c3 c4
            cases hp : (t.kids[k]).plainB
            · go_wp2
              go_ret
              exact ⟨ret_bool (by rw [HP2.out, plains_of t.kids k hlt hp, Bool.and_false]), below_of_box HB3⟩
            · go_wp2
              go_roundw
              case rel => exact ⟨k + 1, by omega, by go_num, by show _ = true; rw [HT.out, hgood.out, hp]; rfl, HB3⟩
              case measure => simp [intOf]; omega
          · have : k = t.kids.length := by omega
            subst this
            go_wp2
            go_ret
            exact ⟨ret_bool (by have hg := hgood.out; rw [List.take_length] at hg; rw [HP2.out, HNN.out, hg]; rfl), hb0⟩
end Go.Proofs.YtllkackipdcekaaDoor

namespace Go.Proofs.YtllkackipdcekaaDoor
open Go.RowKit

set_option maxHeartbeats 1000000 in
theorem refmarked_any (t : Tm) : ∀ (w : World) (s : Value), Lies w t.kids s → Calls Tryd.prog 31 #[tv t s] w fun e w' => e = .returned (.bool t.markedB) ∧ Below w.heap.size w w' := by
  induction t using Tm.ind with
  | h t ih =>
    intro w s hl
    obtain ⟨a, cap, S, rfl, hc, hm, hf, hn, hk⟩ := hl.out
    unfold tv
    unfold maxLen at hm
    have HL := Lib.hid ((hl.keep (w' := w.alloc (.cells #[.int .i64 t.k, .int .i64 t.i, .int .i64 t.j, .int .i64 t.n, .slice a t.kids.length cap] 26)) ((Below.refl _ _).alloc (Nat.le_refl _) _)))
    have HP := Lib.hid (t.markedB_eq)
    have IH := Lib.hid ih
    have HN := Lib.hid hn
    have HK := Lib.hid hk
    have HBX := Lib.hid (fun (wr : World) => box_cells (w := w) (wr := wr) (v0 := .int .i64 t.k) (v1 := .int .i64 t.i) (v2 := .int .i64 t.j) (v3 := .int .i64 t.n) (v4 := .slice a t.kids.length cap) (T := 26))
    clear ih hn hk hf hl
    by_cases h1 : t.k < 1
    · have H5 : Hid (t.markedB = false) := by show _ = _; rw [HP.out]; simp; omega
      go_enter Tryd.func31, Tryd.ntmps31
      go_wp2
      go_ret
      exact ⟨ret_bool H5.out.symm, (Below.refl _ _).alloc (Nat.le_refl _) _⟩
    by_cases h2 : 12 < t.k
    · have H5 : Hid (t.markedB = false) := by show _ = _; rw [HP.out]; simp; omega
      go_enter Tryd.func31, Tryd.ntmps31
      go_wp2
      go_ret
      exact ⟨ret_bool H5.out.symm, (Below.refl _ _).alloc (Nat.le_refl _) _⟩
    have hkb : (decide (1 ≤ t.k) && decide (t.k ≤ 12)) = true := by simp; omega
    have HP2 : Hid (t.markedB = (t.nodeB && markeds (t.k == 12) 0 t.kids)) := by have := HP.out; rw [hkb, Bool.true_and] at this; exact this
    clear hkb
    cases hn : t.nodeB with
    | false =>
      have H5 : Hid (t.markedB = false) := by show _ = _; rw [HP2.out, hn]; rfl
      have HNN := Lib.hid hn
      clear hn
      go_enter Tryd.func31, Tryd.ntmps31
      go_wp2_with fail
      refine (refnode_any t _ _ HL.out).mono ?_
      rintro e w1 ⟨rfl, hb'⟩
      have HB2 := below_call (Below.refl (w.heap.size + 1) (w.alloc (.cells #[.int .i64 t.k, .int .i64 t.i, .int .i64 t.j, .int .i64 t.n, .slice a t.kids.length cap] 26))) hb' (by simp)
      obtain ⟨d0, d1, d2, d3, d4⟩ := HBX.out _ HB2
      clear hb'
      rw [HNN.out]
      go_wp2
      go_ret
      exact ⟨ret_bool H5.out.symm, below_of_box HB2⟩
    | true =>
      have HNN := Lib.hid hn
      clear hn
      go_enter Tryd.func31, Tryd.ntmps31
      go_wp2_with fail
      refine (refnode_any t _ _ HL.out).mono ?_
      rintro e w1 ⟨rfl, hb'⟩
      have HB2 := below_call (Below.refl (w.heap.size + 1) (w.alloc (.cells #[.int .i64 t.k, .int .i64 t.i, .int .i64 t.j, .int .i64 t.n, .slice a t.kids.length cap] 26))) hb' (by simp)
      obtain ⟨d0, d1, d2, d3, d4⟩ := HBX.out _ HB2
      clear hb'
      rw [HNN.out]
      go_wp2_with fail
      go_loopw [3] (fun iv wr => ∃ k : Nat, k ≤ t.kids.length ∧ iv = .int .i64 k ∧ Hid (markeds (t.k == 12) 0 (t.kids.take k) = true) ∧ Below (w.heap.size + 1) (w.alloc (.cells #[.int .i64 t.k, .int .i64 t.i, .int .i64 t.j, .int .i64 t.n, .slice a t.kids.length cap] 26)) wr) (fun iv _ => t.kids.length - (intOf iv).toNat)
      case atStart => exact ⟨0, Nat.zero_le _, rfl, by simp [Hid, markeds], HB2⟩
      case round =>
        obtain ⟨k, hk, rfl, hgood, hb⟩ := hrel
        obtain ⟨d0, d1, d2, d3, d4⟩ := HBX.out _ hb
        have hb0 := below_of_box hb
        by_cases hlt : k < t.kids.length
        · obtain ⟨b, o, rfl, hx⟩ := HN.out k hlt
          have hy := hx.below hb0 hx.lt
          obtain ⟨c0, c1, c2, c3, c4⟩ := hy
          have hq := HK.out k hlt
          obtain ⟨a', cap', S', hS, -⟩ := hq.out
          rw [hS] at c4 hq
          have HQ := Lib.hid (hq.keep hb0)
          clear hS hq
          have HM := Lib.hid (List.getElem_mem hlt)
          have HT := Lib.hid (markeds_take (t.k == 12) t.kids 0 k hlt)
          cases e12 : (t.k == 12) <;> cases e2 : ((k : Int) == 2)
          rotate_right
          · have e2' : (k == 2) = ((k : Int) == 2) := by rw [e2]; simp at e2 ⊢; omega
            have hkB : (t.kids[k]).kidB (t.k == 12) k = (t.kids[k]).plainB := by simp [Tm.kidB, e12, e2', e2]
            have HKB := Lib.hid hkB
            clear e2' hkB
            go_wp2_with fail
            refine (refplain_any _ _ _ HQ.out).mono ?_
            rintro e w2 ⟨rfl, hb'⟩
            have HB3 := below_call hb hb' (by have := hb.size; simpa using this)
            obtain ⟨x0, x1, x2, x3, x4⟩ := HBX.out _ HB3
            clear hb' hb d0 d1 d2 d3 d4 hb0 c0 c1 c2 c3 c4
            cases hp : (t.kids[k]).plainB
            · go_wp2
              go_ret
              exact ⟨ret_bool (by rw [HP2.out, markeds_of _ t.kids 0 k hlt (by rw [Nat.zero_add, HKB.out]; exact hp), Bool.and_false]), below_of_box HB3⟩
            · go_wp2
              go_roundw
              case rel => exact ⟨k + 1, by omega, by go_num, by have h1 := HT.out; rw [hgood.out, Nat.zero_add, HKB.out, hp] at h1; show _ = true; first | exact h1 | (rw [e12] at h1; exact h1), HB3⟩
              case measure => simp [intOf]; omega
          all_goals
            have e2' : (k == 2) = ((k : Int) == 2) := by rw [e2]; simp at e2 ⊢; omega
            have hkB : (t.kids[k]).kidB (t.k == 12) k = (t.kids[k]).markedB := by simp [Tm.kidB, e12, e2', e2]
            have HKB := Lib.hid hkB
            clear e2' hkB
            go_wp2_with fail
            refine (IH.out _ HM.out _ _ HQ.out).mono ?_
            rintro e w2 ⟨rfl, hb'⟩
            have HB3 := below_call hb hb' (by have := hb.size; simpa using this)
            obtain ⟨x0, x1, x2, x3, x4⟩ := HBX.out _ HB3
            clear hb' hb d0 d1 d2 d3 d4 hb0 c0 c1 c2 c3 c4
            cases hp : (t.kids[k]).markedB
            · go_wp2
              go_ret
              exact ⟨ret_bool (by rw [HP2.out, markeds_of _ t.kids 0 k hlt (by rw [Nat.zero_add, HKB.out]; exact hp), Bool.and_false]), below_of_box HB3⟩
            · go_wp2
              go_roundw
              case rel => exact ⟨k + 1, by omega, by go_num, by have h1 := HT.out; rw [hgood.out, Nat.zero_add, HKB.out, hp] at h1; show _ = true; first | exact h1 | (rw [e12] at h1; exact h1), HB3⟩
              case measure => simp [intOf]; omega
        · have : k = t.kids.length := by omega
          subst this
          go_wp2
          go_ret
          exact ⟨ret_bool (by have hg := hgood.out; rw [List.take_length] at hg; rw [HP2.out, HNN.out, hg]; rfl), hb0⟩
end Go.Proofs.YtllkackipdcekaaDoor

namespace Go.Proofs.YtllkackipdcekaaDoor
open Go.RowKit

set_option maxHeartbeats 800000 in
theorem refright_any (t : Tm) (w : World) (s : Value) (hl : Lies w t.kids s) : Calls Tryd.prog 16 #[tv t s] w fun e w' => e = .returned (.bool t.rightB) ∧ Below w.heap.size w w' := by
  obtain ⟨a, cap, S, hs, -⟩ := hl.out
  subst hs
  have HB := (Below.refl (w.heap.size + 1) (w.alloc (.cells #[.int .i64 t.k, .int .i64 t.i, .int .i64 t.j, .int .i64 t.n, .slice a t.kids.length cap] 26)))
  have HL := Lib.hid (hl.keep (below_of_box HB))
  have HBX := Lib.hid (fun (wr : World) => box_cells (w := w) (wr := wr) (v0 := .int .i64 t.k) (v1 := .int .i64 t.i) (v2 := .int .i64 t.j) (v3 := .int .i64 t.n) (v4 := .slice a t.kids.length cap) (T := 26))
  have hl0 := Lib.hid hl
  clear hl
  unfold tv
  go_enter Tryd.func16, Tryd.ntmps16
  go_wp2_with fail
  refine (refmarked_any t _ _ HL.out).mono ?_
  rintro e w' ⟨rfl, hb'⟩
  have HB2 := below_call HB hb' (by simp)
  obtain ⟨d0, d1, d2, d3, d4⟩ := HBX.out _ HB2
  clear hb'
  have HL2 := Lib.hid (hl0.out.keep (below_of_box HB2))
  cases hm : t.markedB
  · go_wp2_with fail
    refine (refplain_any t _ _ HL2.out).mono ?_
    rintro e w2 ⟨rfl, hb'⟩
    have HB3 := below_call HB2 hb' (by have := HB2.size; simpa using this)
    clear hb'
    go_wp2
    go_ret
    exact ⟨ret_bool (by simp [Tm.rightB, hm]), below_of_box HB3⟩
  · go_wp2
    go_ret
    exact ⟨ret_bool (by simp [Tm.rightB, hm]), below_of_box HB2⟩

set_option maxHeartbeats 800000 in
theorem refFree_any (t : Tm) (w : World) (s : Value) (hl : Lies w t.kids s) : Calls Tryd.prog 17 #[tv t s] w fun e w' => e = .returned (.int .i64 t.freeB) ∧ Below w.heap.size w w' := by
  obtain ⟨a, cap, S, hs, -⟩ := hl.out
  subst hs
  have HB := (Below.refl (w.heap.size + 1) (w.alloc (.cells #[.int .i64 t.k, .int .i64 t.i, .int .i64 t.j, .int .i64 t.n, .slice a t.kids.length cap] 26)))
  have HL := Lib.hid (hl.keep (below_of_box HB))
  have HBX := Lib.hid (fun (wr : World) => box_cells (w := w) (wr := wr) (v0 := .int .i64 t.k) (v1 := .int .i64 t.i) (v2 := .int .i64 t.j) (v3 := .int .i64 t.n) (v4 := .slice a t.kids.length cap) (T := 26))
  have hl0 := Lib.hid hl
  clear hl
  unfold tv
  go_enter Tryd.func17, Tryd.ntmps17
  go_wp2_with fail
  refine (refright_any t _ _ HL.out).mono ?_
  rintro e w' ⟨rfl, hb'⟩
  have HB2 := below_call HB hb' (by simp)
  obtain ⟨d0, d1, d2, d3, d4⟩ := HBX.out _ HB2
  clear hb'
  have HL2 := Lib.hid (hl0.out.keep (below_of_box HB2))
  cases hr : t.rightB
  · go_wp2
    go_ret
    exact ⟨ret_int (by simp [Tm.freeB, hr]), below_of_box HB2⟩
  · go_wp2_with fail
    refine (reffree_any t _ _ HL2.out hr).mono ?_
    rintro e w2 ⟨rfl, hb'⟩
    have HB3 := below_call HB2 hb' (by have := HB2.size; simpa using this)
    clear hb'
    go_wp2
    go_ret
    exact ⟨ret_int (by simp [Tm.freeB, hr]), below_of_box HB3⟩

end Go.Proofs.YtllkackipdcekaaDoor

namespace Go.Proofs.YtllkackipdcekaaDoor
open Go.RowKit

set_option maxRecDepth 20000 in
set_option maxHeartbeats 4000000 in
theorem writeBack_any (t : Tm) (n : Int) (w : World) (s : Value) (hl : Lies w t.kids s) (hWT : WTab w ∧ TabsR w.heap.size w) : Calls Tryd.prog 9 #[tv t s, .int .i64 n] w fun e w' => e = .returned (.bool true) ∧ Below w.heap.size w w' := by
  obtain ⟨a, cap, S, rfl, -⟩ := hl.out
  unfold tv
  have HL := Lib.hid hl
  have HW := Lib.hid hWT.1
  have HT := Lib.hid hWT.2
  clear hl hWT
  go_enter Tryd.func9, Tryd.ntmps9
  have H0 := held_start w t (.slice a t.kids.length cap)
  obtain ⟨d0, d1, d2, d3, d4⟩ := held_cells H0
  go_wp2_with fail
  refine (great_any t _ _ _ (held_lies H0 HL.out) (by omega) (by omega)).mono ?_
  rintro e w1 ⟨g, rfl, hg, hb'⟩
  have H1 := held_call H0 hb'
  have HG := Lib.hid hg
  clear d0 d1 d2 d3 d4 hg hb'
  obtain ⟨d0, d1, d2, d3, d4⟩ := held_cells H1
  cases g with
  | true =>
    go_wp2
    go_ret
    exact ⟨rfl, held_below H1⟩
  | false =>
    have hz : t.size ≤ 300 := by have := (HG.out rfl).1; omega
    clear HG
    go_wp2_with fail
    cases hr : t.rightB
    · refine (refright_any t _ _ (held_lies H1 HL.out)).mono ?_
      rintro e w2 ⟨rfl, hb'⟩
      have H2 := held_call H1 hb'
      clear d0 d1 d2 d3 d4 hb'
      obtain ⟨d0, d1, d2, d3, d4⟩ := held_cells H2
      rw [hr]
      go_wp2
      go_ret
      exact ⟨rfl, held_below H2⟩
    refine (refright_any t _ _ (held_lies H1 HL.out)).mono ?_
    rintro e w2 ⟨rfl, hb'⟩
    have H2 := held_call H1 hb'
    clear d0 d1 d2 d3 d4 hb'
    obtain ⟨d0, d1, d2, d3, d4⟩ := held_cells H2
    rw [hr]
    go_wp2_with fail
    refine (refFree_any t _ _ (held_lies H2 HL.out)).mono ?_
    rintro e w3 ⟨rfl, hb'⟩
    have H3 := held_call H2 hb'
    clear d0 d1 d2 d3 d4 hb'
    obtain ⟨d0, d1, d2, d3, d4⟩ := held_cells H3
    by_cases hf : n < t.freeB
    · go_wp2
      go_ret
      exact ⟨rfl, held_below H3⟩
    have fd1 := decide_eq_false hf
    by_cases hn : 200 < n
    · go_wp2
      go_ret
      exact ⟨rfl, held_below H3⟩
    have fd2 := decide_eq_false hn
    have hfb : t.freeB = t.freeN := by unfold Tm.freeB; rw [if_pos hr]
    have h0 : 0 ≤ t.freeN := by
      rw [t.freeN_eq]; split
      · rename_i h; have := t.right_var hr h; omega
      · exact frees_nonneg _ _ _
    obtain ⟨m, rfl⟩ : ∃ m : Nat, n = m := ⟨n.toNat, by omega⟩
    obtain ⟨hwr, hww, hwl⟩ := write_readB (t := t) (n := m) hr (by omega) (by omega)
    have HWR := Lib.hid hwr
    have HWD := Lib.hid (fun (w' : World) (s' : Value) (hl' : Lies w' t.kids s') (hW' : WTab w') => write_any t m w' s' hl' hW' (by omega))
    obtain ⟨tx, htx⟩ : ∃ tx, writeB t (m : Int) = tx := ⟨_, rfl⟩
    rw [htx] at hwl HWR HWD
    have hm2 : m ≤ 200 := by omega
    have htl : tx.length ≤ 30000 := by omega
    clear hwr hww htx hwl h0 hfb
    go_wp2_with fail
    refine (HWD.out _ _ (held_lies H3 HL.out) (HW.out.later (held_below H3))).mono ?_
    rintro e w4 ⟨rfl, hb'⟩
    have H4 := held_call H3 hb'
    clear d0 d1 d2 d3 d4 hb' HWD
    go_wp2_with fail
    refine (names_any m _ (HW.out.later (held_below H4))).mono ?_
    rintro e w5 ⟨v, rfl, hrow, hb'⟩
    have H5 := held_call H4 hb'
    rw [if_pos ⟨by omega, by omega⟩, Int.toNat_natCast] at hrow
    have hnm := srow_texts hrow
    obtain ⟨a', cap', rfl⟩ := hrow.len
    rw [vnames_len] at hnm
    have HR := Lib.hid (read_any ⟨tx.toArray⟩ (vnames m) _ 0 0 w5 (show tx.toArray.size ≤ 10000000 by rw [List.size_toArray]; omega) ((HT.out.keep (held_below H5)).up (held_below H5).size) hnm (by rw [vnames_len]; omega) (vnames_short (by omega)))
    rw [show readB (ByteArray.mk tx.toArray).data.toList (vnames m) 0 0 = .ok t from HWR.out] at HR
    rw [vnames_len]
    clear hb' hrow hnm HWR
    go_wp2_with fail
    refine HR.out.mono ?_
    rintro e w6 ⟨hB, s2, rfl, hl2, hfi⟩
    obtain ⟨a2, c2, rfl, -, -⟩ := hl2.out
    have hba := al w6 (.cells #[.int .i64 t.k, .int .i64 t.i, .int .i64 t.j, .int .i64 t.n, .slice a2 t.kids.length c2] 26)
    have H6 := held_call H5 (hB.trans (hba.mono hB.size))
    have HL6 := Lib.hid (hl2.later hba).lies
    have hn6 := alloc_new w6 (.cells #[.int .i64 t.k, .int .i64 t.i, .int .i64 t.j, .int .i64 t.n, .slice a2 t.kids.length c2] 26)
    have hlt6 : w.heap.size < w6.heap.size := by have h1 := H5.size; have h2 := hB.size; simp at h1; omega
    unfold tv
    clear hB hba hl2 hfi HR
    go_upto_region 4 with fail
    obtain ⟨Z, hZ⟩ : ∃ Z, Z = w6.alloc (.cells #[.int .i64 t.k, .int .i64 t.i, .int .i64 t.j, .int .i64 t.n, .slice a2 t.kids.length c2] 26) := ⟨_, rfl⟩
    rw [← hZ] at H6 HL6 hn6
    rw [← hZ]
    clear hZ
    obtain ⟨⟨q0, q1, q2, q3, q4⟩, -, -⟩ := cells5_of hn6
    obtain ⟨d0, d1, d2, d3, d4⟩ := held_cells H6
    go_wp2_with fail
    refine (keepsame_any t t Z _ _ HL6.out (held_lies H6 HL.out)).mono ?_
    rintro e w7 ⟨rfl, hb'⟩
    have H7 := held_call H6 hb'
    rw [sameB_self]
    clear d0 d1 d2 d3 d4 q0 q1 q2 q3 q4 hn6 hb'
    go_wp2_with fail
    refine (wakes10_any _ (HW.out.later (held_below H7))).mono ?_
    rintro e w8 ⟨rfl, hb'⟩
    have H8 := held_call H7 hb'
    clear hb'
    go_wp2
    go_ret
    exact ⟨rfl, held_below H8⟩
end Go.Proofs.YtllkackipdcekaaDoor

namespace Go.Proofs.YtllkackipdcekaaDoor
open Go.ChangeShapes Go.WideShapes Go.ChangeAt Go.RowKit

theorem own : ownKnob Tryd.prog.godebug = none := by kernel_rfl
theorem cells_int : Tryd.prog.cellsOf 3 = 1 := by kernel_rfl
theorem cells_kids : Tryd.prog.cellsOf 24 = 1 := by kernel_rfl
theorem cells_term : Tryd.prog.cellsOf 26 = 5 := by kernel_rfl
theorem laidOut : laidOutB Tryd.prog = true := by kernel_rfl

instance instOpenTm : Inhabited (Tm × Value) := ⟨(.mk 0 0 0 0 [], .nilIface)⟩

theorem list5 {α : Type} {l : List α} (h : l.length = 5) : ∃ a b c d e, l = [a, b, c, d, e] := by
  match l, h with
  | [a, b, c, d, e], _ => exact ⟨a, b, c, d, e, rfl⟩

theorem wf_I64 {x : Int} (h : (Lit.int .i64 x).wf = true) : I64 x := by
  simp [Lit.wf] at h
  have hm : IntKind.i64.min = -9223372036854775808 := by decide
  rw [hm] at h
  exact h

set_option maxRecDepth 100000 in
theorem open_term {H : Type} {enc : TypeId × Value → H} {w : World} {base : Nat} {sp : Nat → Bool} {hd : Bool} : ∀ (fuel : Nat) (cs : List Value) (x : DataW H × List MemPlace),
    DataW.trod enc Tryd.prog w base sp hd fuel 26 cs = some x → ∃ (t : Tm) (s : Value), cs = [.int .i64 t.k, .int .i64 t.i, .int .i64 t.j, .int .i64 t.n, s] ∧ t.fine ∧ Lies w t.kids s := by
  intro fuel
  induction fuel using Nat.strongRecOn with
  | _ fuel ih =>
    intro cs x h
    obtain ⟨xs, n, rfl, rfl, hl, hlen, hf⟩ := DataW.trod_struct Tryd.underlying26 h
    rw [cells_term] at hl
    obtain ⟨v0, v1, v2, v3, v4, rfl⟩ := list5 hl
    obtain ⟨y0, y1, y2, y3, y4, rfl⟩ := list5 hlen
    have g0 := hf 0 _ rfl
    have g1 := hf 1 _ rfl
    have g2 := hf 2 _ rfl
    have g3 := hf 3 _ rfl
    have g4 := hf 4 _ rfl
    simp [cells_int, cells_kids] at g0 g1 g2 g3 g4
    obtain ⟨k, e0, -, w0⟩ := DataW.trod_int Tryd.underlying3 g0
    obtain ⟨i, e1, -, w1⟩ := DataW.trod_int Tryd.underlying3 g1
    obtain ⟨j, e2, -, w2⟩ := DataW.trod_int Tryd.underlying3 g2
    obtain ⟨m, e3, -, w3⟩ := DataW.trod_int Tryd.underlying3 g3
    simp at e0 e1 e2 e3
    subst e0 e1 e2 e3
    rcases DataW.trod_slice Tryd.underlying24 g4 with ⟨e4, -⟩ | ⟨a, len, cap, elems, rest, n', rfl, e4, -, hb, hlc, hm, hlen', hel, -, -⟩
    · simp at e4
      subst e4
      exact ⟨.mk k i j m [], _, rfl, ⟨wf_I64 w0, wf_I64 w1, wf_I64 w2, wf_I64 w3⟩, .mk [] none 0 (fun _ => .nilIface) (Nat.le_refl _) (by decide) (fun _ h => by cases h) (fun _ h => by cases h) (fun _ h => by cases h)⟩
    · simp at e4
      subst e4
      have key : ∀ i, i < len → ∃ p : Tm × Value, p.1.fine ∧ Lies w p.1.kids p.2 ∧ ∃ b o, a = ⟨b, o, none⟩ ∧ Node w b (o + i * 5) p.1 p.2 := by
        intro i hi
        have h1 := hel i hi
        rw [cells_term, List.getElem?_eq_getElem (by omega)] at h1
        obtain ⟨cs', h2, h3⟩ := Option.bind_eq_some_iff.1 h1
        obtain ⟨t, s, rfl, hfine, hlies⟩ := ih n' (by omega) _ _ h3
        obtain ⟨-, -, hcell⟩ := World.cells?_some h2
        have hs0 : a.spot = none := by
          have h1 := hel 0 (by omega)
          rw [cells_term, List.getElem?_eq_getElem (by omega)] at h1
          obtain ⟨cs0, h2, -⟩ := Option.bind_eq_some_iff.1 h1
          obtain ⟨-, hl0, hc0⟩ := World.cells?_some h2
          have c0 := hc0 0 (by omega)
          rw [List.getElem?_eq_getElem (by omega)] at c0
          simpa [Addr.add] using World.cell?_spot c0
        obtain ⟨b, o, spot⟩ := a
        simp only at hs0
        subst hs0
        refine ⟨(t, s), hfine, hlies, b, o, rfl, ?_⟩
        have hc : ∀ q, q < 5 → w.cell? ⟨b, o + i * 5 + q, none⟩ = [Value.int .i64 t.k, .int .i64 t.i, .int .i64 t.j, .int .i64 t.n, s][q]? := fun q hq => by
          have := hcell q hq
          rwa [add_plain, add_plain] at this
        exact ⟨hc 0 (by omega), hc 1 (by omega), hc 2 (by omega), hc 3 (by omega), hc 4 (by omega)⟩
      obtain ⟨f, hf'⟩ := Go.Deep.choose_lt (α := Tm × Value) (p := fun i p => p.1.fine ∧ Lies w p.1.kids p.2 ∧ ∃ b o, a = ⟨b, o, none⟩ ∧ Node w b (o + i * 5) p.1 p.2) key
      have hl5 : ((List.range len).map fun i => (f i).1).length = len := by simp
      refine ⟨.mk k i j m ((List.range len).map fun i => (f i).1), _, rfl, ⟨wf_I64 w0, wf_I64 w1, wf_I64 w2, wf_I64 w3⟩, ?_⟩
      have := Lies.mk (w := w) ((List.range len).map fun i => (f i).1) (some a) cap (fun i => (f i).2) (by simpa using hlc) hm
        (fun x hx => by
          obtain ⟨i, hi, rfl⟩ := List.mem_map.1 hx
          exact (hf' i (List.mem_range.1 hi)).1)
        (fun i hi => by
          obtain ⟨b, o, ha, hn⟩ := (hf' i (by simpa using hi)).2.2
          exact ⟨b, o, by rw [ha], by simpa using hn⟩)
        (fun i hi => by simpa using (hf' i (by simpa using hi)).2.1)
      rwa [hl5] at this
set_option maxRecDepth 100000 in
/-- The same for an argument. -/
theorem open_arg {H : Type} {enc : TypeId × Value → H} {W : World} {r : Reach} {b0 base : Nat} {sp : Nat → Bool} {hd : Bool} {v : Value} {d : DataW H} {p : List MemPlace} (hv : Value.okWide Tryd.prog W r b0 26 v)
    (h : DataW.Trod enc Tryd.prog W base sp hd 26 v d p) : ∃ (t : Tm) (s : Value), Lies W t.kids s ∧ v = tv t s := by
  obtain ⟨cs, rfl, hsz⟩ := okWide_struct Tryd.underlying26 hv
  obtain ⟨fuel, hf⟩ := h
  obtain ⟨t, s, hcs, -, hl⟩ := open_term fuel _ _ hf
  refine ⟨t, s, hl, ?_⟩
  have : cs.toList = [.int .i64 t.k, .int .i64 t.i, .int .i64 t.j, .int .i64 t.n, s] := by simpa [Value.cells] using hcs
  rw [show cs = #[.int .i64 t.k, .int .i64 t.i, .int .i64 t.j, .int .i64 t.n, s] from by cases cs; simp_all]

end Go.Proofs.YtllkackipdcekaaDoor

namespace Go.Proofs.YtllkackipdcekaaDoor
open Go.ChangeShapes Go.WideShapes Go.ChangeAt Go.WideMaps Go.WideElems Go.RowKit

def laidT : List (String × DataW Unit) := Rows.writeBackRow.laid
theorem door_met (os : Os) (args : Array Value) : laidMetH Tryd.prog laidT ((World.doorLaid Tryd.prog 400 os).forCall (fun _ _ => 0) ⟨#[], args, []⟩).memory :=
  laidMetH_of_parts3 (fuel := 8) (laidMet_of_run' 8 (by kernel_rfl) (by kernel_rfl)) (by kernel_rfl) (by kernel_rfl)
/-- A table of texts as a row lists it. -/
def strData {H : Type} (ss : List (List UInt8)) : DataW H := .agg (ss.map fun s => .lit (.string s))
theorem cells_of_strs {H : Type} {enc : TypeId × Value → H} {P : Program} {w : World} {base : Nat} {sp : Nat → Bool} {held : Bool} {fuel : Nat} {t e : TypeId} {n : Nat} {cs : List Value} {zs : List (List UInt8)} {p : List MemPlace}
    (ht : P.underlying t = some (.array n e)) (he : P.underlying e = some .string) (hce : P.cellsOf e = 1) (hct : P.cellsOf t = n)
    (h : DataW.trod enc P w base sp held fuel t cs = some (strData zs, p)) : cs = zs.map fun z => Value.string ⟨z.toArray⟩ := by
  cases fuel with
  | zero => simp [DataW.trod] at h
  | succ fuel =>
    simp only [DataW.trod, ht, hce, hct, Nat.mul_one] at h
    split at h
    · rename_i hl
      obtain ⟨xs, hm, hx⟩ := Option.map_eq_some_iff.1 h
      have hxs : xs.map (·.1) = zs.map fun z => (DataW.lit (.string z) : DataW H) := by
        have := congrArg Prod.fst hx
        simpa [strData] using this
      have hxl : xs.length = n := by simpa using Lib.mapM_length hm
      have hzl : zs.length = n := by
        have := congrArg List.length hxs
        simp at this
        omega
      apply List.ext_getElem?
      intro i
      by_cases hi : i < n
      · obtain ⟨b, hb, hf⟩ := Lib.mapM_at hm i i (by simp [hi])
        obtain ⟨z, hc, rfl, _⟩ := DataW.trod_string he hf
        have h1 : cs[i]? = some (.string z) := by
          have := congrArg (·[0]?) hc
          simpa [List.getElem?_take, List.getElem?_drop] using this
        have h2 : (xs.map (·.1))[i]? = some (DataW.lit (.string z.data.toList) : DataW H) := by simp [hb]
        rw [hxs] at h2
        simp only [List.getElem?_map, Option.map_eq_some_iff, DataW.lit.injEq, Lit.string.injEq] at h2
        obtain ⟨z', hz', e2⟩ := h2
        rw [h1, List.getElem?_map, hz']
        subst e2
        simp
      · rw [List.getElem?_eq_none (by omega), List.getElem?_eq_none (by simp; omega)]
    · cases h
theorem strIs_of_head {W : World} {name : String} {zs : List (List UInt8)} {rest : List (String × DataW Unit)} {g : Nat} {t e : TypeId} {n : Nat}
    (hg : Tryd.prog.globalNamed name = some g) (hty : (Tryd.prog.globals[g]?).map (·.type) = some t) (ht : Tryd.prog.underlying t = some (.array n e)) (he : Tryd.prog.underlying e = some .string) (hce : Tryd.prog.cellsOf e = 1) (hct : Tryd.prog.cellsOf t = n)
    (h : laidMet Tryd.prog ((name, strData zs) :: rest) W) : StrIs W name zs := by
  obtain ⟨ps, ⟨g', t', cs, fuel, p, q, hg', ht', hvar, hd, _, _⟩, _⟩ := h
  obtain rfl := Option.some.inj (hg.symm.trans hg')
  obtain rfl := Option.some.inj (hty.symm.trans ht')
  unfold StrIs
  rw [hvar, ← cells_of_strs ht he hce hct hd]
theorem tab_of_laid {W : World} (h : laidMetH Tryd.prog laidT W) : Lib.TabIs Tryd.prog W "internal/strconv.uint64pow10" .u64 Lib.pow10Tab := by
  have h2 := h.filter fun x => x.1 == "internal/strconv.uint64pow10"
  have e : (laidT.filter fun x => x.1 == "internal/strconv.uint64pow10") = [("internal/strconv.uint64pow10", Lib.tabData .u64 Lib.pow10Tab)] := by kernel_rfl
  rw [e] at h2
  rw [MakeChecks.laidMetH_plain _ _ _ (by kernel_rfl)] at h2
  exact Lib.tabIs_of_head (g := 3) (t := 117) (e := 111) (n := 20) (by kernel_rfl) (by kernel_rfl) Tryd.underlying117 Tryd.underlying111 (by kernel_rfl) (by kernel_rfl) h2
theorem syms_of_laid {W : World} (h : laidMetH Tryd.prog laidT W) : StrIs W "tranship/read.symbols" symsW := by
  have h2 := h.filter fun x => x.1 == "tranship/read.symbols"
  have e : (laidT.filter fun x => x.1 == "tranship/read.symbols") = [("tranship/read.symbols", strData symsW)] := by kernel_rfl
  rw [e] at h2
  rw [MakeChecks.laidMetH_plain _ _ _ (by kernel_rfl)] at h2
  exact strIs_of_head (g := 0) (t := 55) (e := 9) (n := 21) (by kernel_rfl) (by kernel_rfl) Tryd.underlying55 Tryd.underlying9 (by kernel_rfl) (by kernel_rfl) h2
theorem heads_of_laid {W : World} (h : laidMetH Tryd.prog laidT W) : StrIs W "tranship/write.heads" headsW := by
  have h2 := h.filter fun x => x.1 == "tranship/write.heads"
  have e : (laidT.filter fun x => x.1 == "tranship/write.heads") = [("tranship/write.heads", strData headsW)] := by kernel_rfl
  rw [e] at h2
  rw [MakeChecks.laidMetH_plain _ _ _ (by kernel_rfl)] at h2
  exact strIs_of_head (g := 1) (t := 86) (e := 9) (n := 24) (by kernel_rfl) (by kernel_rfl) Tryd.underlying86 Tryd.underlying9 (by kernel_rfl) (by kernel_rfl) h2
theorem wtab_of_laid {W : World} (h : laidMetH Tryd.prog laidT W) : WTab W := ⟨Lib.tabBelow_of_tabIs (tab_of_laid h), syms_of_laid h, heads_of_laid h⟩
theorem lt_of_cell {w : World} {b i : Nat} {v : Value} (h : w.cell? ⟨b, i, none⟩ = some v) : b < w.heap.size := by
  rcases Nat.lt_or_ge b w.heap.size with h1 | h1
  · exact h1
  · exfalso
    simp [World.cell?, Array.getElem?_eq_none h1] at h
theorem rheads_of_laid {W : World} (h : laidMetH Tryd.prog laidT W) : StrIs W "tranship/read.heads" (headsW.drop 3) := by
  have h2 := h.filter fun x => x.1 == "tranship/read.heads"
  have e : (laidT.filter fun x => x.1 == "tranship/read.heads") = [("tranship/read.heads", strData (headsW.drop 3))] := by kernel_rfl
  rw [e] at h2
  rw [MakeChecks.laidMetH_plain _ _ _ (by kernel_rfl)] at h2
  exact strIs_of_head (g := 2) (t := 55) (e := 9) (n := 21) (by kernel_rfl) (by kernel_rfl) Tryd.underlying55 Tryd.underlying9 (by kernel_rfl) (by kernel_rfl) h2
theorem tabsR_of_laid {W : World} (h : laidMetH Tryd.prog laidT W) : TabsR W.heap.size W := by
  have h1 := syms_of_laid h
  have h2 := rheads_of_laid h
  have c1 : ∀ k < 21, W.cell? ⟨0, k, none⟩ = some (.string ⟨((symsW[k]?).getD []).toArray⟩) := fun k hk => by
    have hl : k < symsW.length := hk
    rw [h1.cell (g := 0) (by kernel_rfl) k hl, List.getElem?_eq_getElem hl]; rfl
  have c2 : ∀ k < 21, W.cell? ⟨2, k, none⟩ = some (.string ⟨(((headsW.drop 3)[k]?).getD []).toArray⟩) := fun k hk => by
    have hl : k < (headsW.drop 3).length := hk
    rw [h2.cell (g := 2) (by kernel_rfl) k hl, List.getElem?_eq_getElem hl]; rfl
  exact ⟨⟨lt_of_cell (c2 0 (by decide)), lt_of_cell (c1 0 (by decide))⟩, c2, c1⟩
theorem both_of_laid {W : World} (h : laidMetH Tryd.prog laidT W) : WTab W ∧ TabsR W.heap.size W := ⟨wtab_of_laid h, tabsR_of_laid h⟩
end Go.Proofs.YtllkackipdcekaaDoor

namespace Go.Proofs.YtllkackipdcekaaDoor
open Go.ChangeShapes Go.WideShapes

def code (l : List Nat) : List Char := l.map Char.ofNat
def joinN : List (List Nat) → List Nat
  | [] => []
  | [a] => a
  | a :: b :: r => a ++ 32 :: joinN (b :: r)

theorem words_one : ∀ a : List Nat, (a.all fun n => Char.ofNat n != Char.ofNat 32) = true → wordsSigns (code a) = [code a]
  | [], _ => rfl
  | n :: a, h => by
    simp only [List.all_cons, Bool.and_eq_true, bne_iff_ne] at h
    have ih := words_one a h.2
    show wordsSigns (Char.ofNat n :: code a) = _
    rw [wordsSigns]
    · rw [ih]; rfl
    · exact h.1
theorem words_more : ∀ (a : List Nat) (r : List Char), (a.all fun n => Char.ofNat n != Char.ofNat 32) = true → wordsSigns (code a ++ Char.ofNat 32 :: r) = code a :: wordsSigns r
  | [], r, _ => by
    show wordsSigns (Char.ofNat 32 :: r) = _
    rw [show Char.ofNat 32 = _ from rfl, wordsSigns]; rfl
  | n :: a, r, h => by
    simp only [List.all_cons, Bool.and_eq_true, bne_iff_ne] at h
    have ih := words_more a r h.2
    show wordsSigns (Char.ofNat n :: (code a ++ Char.ofNat 32 :: r)) = _
    rw [wordsSigns]
    · rw [ih]; rfl
    · exact h.1
theorem words_join : ∀ ws : List (List Nat), ws ≠ [] → (ws.all fun w => w.all fun n => Char.ofNat n != Char.ofNat 32) = true → wordsSigns (code (joinN ws)) = ws.map code
  | [], h, _ => absurd rfl h
  | [a], _, h => by simp only [List.all_cons, List.all_nil, Bool.and_true] at h; exact words_one a h
  | a :: b :: r, _, h => by
    have h' := h
    rw [List.all_cons, Bool.and_eq_true] at h'
    have ih := words_join (b :: r) (by simp) h'.2
    show wordsSigns (code (a ++ 32 :: joinN (b :: r))) = _
    rw [show code (a ++ 32 :: joinN (b :: r)) = code a ++ Char.ofNat 32 :: code (joinN (b :: r)) from by simp [code], words_more a _ h'.1, ih]; rfl

def cutWords : List (List Nat) := [[104, 97, 114, 110, 101, 115, 115],
  [56, 97, 48, 97, 97, 53, 100, 51, 57, 102, 101, 100, 56, 50, 99, 49, 49, 57, 97, 50, 101, 50, 97, 57, 97, 54, 98, 48, 101, 53, 98, 51, 50, 57, 49, 100, 50, 99, 56, 52, 48, 50, 99, 54, 102, 54, 101, 101, 51, 54, 50, 98, 49, 99, 48, 100, 56, 101, 56, 57, 49, 55, 102, 101],
  [99, 117, 116],
  [97, 116],
  [116, 114, 97, 110, 115, 104, 105, 112, 47, 116, 114, 97, 110, 115, 104, 105, 112, 108, 97, 119, 48, 57, 46, 82, 101, 97, 100, 69, 120, 97, 99, 116],
  [116, 114, 97, 110, 115, 104, 105, 112, 47, 116, 114, 97, 110, 115, 104, 105, 112, 108, 97, 119, 48, 57, 46, 82, 101, 97, 100, 82, 105, 103, 104, 116],
  [116, 114, 97, 110, 115, 104, 105, 112, 47, 116, 114, 97, 110, 115, 104, 105, 112, 108, 97, 119, 48, 57, 46, 82, 101, 97, 100, 66, 101, 104, 105, 110, 100],
  [116, 114, 97, 110, 115, 104, 105, 112, 47, 116, 114, 97, 110, 115, 104, 105, 112, 108, 97, 119, 48, 57, 46, 82, 101, 97, 100, 73, 110, 110, 101, 114],
  [116, 114, 97, 110, 115, 104, 105, 112, 47, 116, 114, 97, 110, 115, 104, 105, 112, 108, 97, 119, 48, 57, 46, 82, 101, 97, 100, 76, 101, 118, 101, 108, 115],
  [116, 114, 97, 110, 115, 104, 105, 112, 47, 116, 114, 97, 110, 115, 104, 105, 112, 108, 97, 119, 48, 57, 46, 82, 101, 97, 100, 83, 121, 109, 98, 111, 108, 115],
  [116, 114, 97, 110, 115, 104, 105, 112, 47, 116, 114, 97, 110, 115, 104, 105, 112, 108, 97, 119, 49, 48, 46, 87, 114, 105, 116, 101, 66, 97, 99, 107],
  [116, 114, 97, 110, 115, 104, 105, 112, 47, 116, 114, 97, 110, 115, 104, 105, 112, 108, 97, 119, 49, 48, 46, 87, 114, 105, 116, 101, 70, 105, 120, 101, 100]]

set_option maxRecDepth 100000 in
theorem cut_words : wordsSigns Tryd.prog.initOrder.toList = cutWords.map code := by
  have h : Tryd.prog.initOrder.toList = code (joinN cutWords) := by
    show (String.ofList (code (joinN cutWords))).toList = _
    exact String.toList_ofList
  rw [h]
  exact words_join cutWords (by simp [cutWords]) (by decide +kernel)

theorem cut_behind : behindMainWord (cutWords.map code) = code [99, 117, 116] :: cutWords.tail.tail.tail.map code := by kernel_rfl
theorem cut_lifts : stripLifts liftWords (code [99, 117, 116] :: cutWords.tail.tail.tail.map code) = ([], code [99, 117, 116] :: cutWords.tail.tail.tail.map code) := by kernel_rfl
theorem cut1 : (code [99, 117, 116] == "gc".toList) = false := by kernel_rfl
theorem cut2 : (code [99, 117, 116] == "spec".toList) = false := by kernel_rfl
theorem cut3 : (code [99, 117, 116] == "cut".toList) = true := by kernel_rfl
theorem cut_all : behindMainWord (wordsSigns Tryd.prog.initOrder.toList) = code [99, 117, 116] :: cutWords.tail.tail.tail.map code := by rw [cut_words, cut_behind]
theorem make_of (P : Program) {c : List Char} {rest : List (List Char)} (h : behindMainWord (wordsSigns P.initOrder.toList) = c :: rest) (h1 : (c == "gc".toList) = false) (h2 : (c == "spec".toList) = false) (h3 : (c == "cut".toList) = true) : P.make = some .cut := by
  unfold Program.make; rw [h]
  simp only [h1, h2, h3, Bool.or_self, Bool.false_eq_true, if_false, Bool.true_or, if_true]
theorem mayEnter_of (P : Program) {c : List Char} {rest : List (List Char)} (h : behindMainWord (wordsSigns P.initOrder.toList) = c :: rest) (h3 : ((stripLifts liftWords (c :: rest)).2.head? == some "cut".toList) = true)
    (h4 : (stripLifts liftWords (c :: rest)).1 = []) (h5 : P.laysLater = false) (h6 : P.bearsReflect = false) (h7 : P.doorFits [] = true) : P.mayEnter = true := by
  unfold Program.mayEnter; rw [h]
  refine Bool.or_eq_true_iff.2 (Or.inr ?_)
  rw [h3, h4, h5, h6, h7]; rfl
theorem row_make : Tryd.prog.make = some .cut := make_of Tryd.prog cut_all cut1 cut2 cut3
theorem row_mayEnter : Tryd.prog.mayEnter = true := mayEnter_of Tryd.prog cut_all (by rw [cut_lifts]; kernel_rfl) (by rw [cut_lifts]) (by kernel_rfl) (by kernel_rfl) (by kernel_rfl)
theorem row_lifts : Tryd.prog.liftsFinal = false := by unfold Program.liftsFinal Program.headLifts; rw [cut_all, cut_lifts]; kernel_rfl
end Go.Proofs.YtllkackipdcekaaDoor

namespace Go.Proofs.YtllkackipdcekaaDoor.lawWriteBack
open Go.ChangeShapes Go.WideShapes Go.ChangeAt Go.RowKit Go.ChangeMaps

set_option maxRecDepth 100000 in
theorem lifted (os : Os) (started : os.Started) (H : Type) (enc : TypeId × Value → H) :
    ReturnsInHanded {} Tryd.checked os 9 .any (fun w args => (Rows.writeBackSpec.pre enc Tryd.prog Tryd.f9 [] false w args ∧ laidMetH Tryd.prog laidT w) ∧ sizedMet enc Tryd.prog Tryd.f9 (OpenSpec.ofChange Rows.writeBackSpec) false w args)
      (Rows.writeBackSpec.post enc Tryd.prog Tryd.f9 false true false false) := by
  refine returnsInHanded_of_change_and (C := Tryd.checked) (X := fun w _ => laidMetH Tryd.prog laidT w) (fun _ _ _ hh h => h.of_heap hh) own started (by kernel_rfl) Tryd.func9
    (ChangeSpec.witness_shaped (enc := enc) (C := Tryd.checked) (os := os) (X := fun w _ => laidMetH Tryd.prog laidT w) false (World.doorLaid Tryd.prog 400 os) #[.agg #[.int .i64 0, .int .i64 0, .int .i64 0, .int .i64 0, .slice none 0 0], .int .i64 0] 8 rfl (World.shaped_of_RefB (by kernel_rfl) (by kernel_rfl)) (by kernel_rfl) (by kernel_rfl) (by kernel_rfl) (door_met os _)) ?_
  intro W base args ds gs before hval0 hW _ _ hL _
  have hval : ∀ (j : Nat) t v, Tryd.f9.params[j]? = some t → args[j]? = some v → Value.okWide Tryd.prog W .any base t v := hval0
  have hW' := hW
  obtain ⟨p, q, hA0, hV, rfl, hfz, hnd⟩ := hW
  have hA : DataW.TrodAll enc Tryd.prog W 0 (fun _ => true) true Tryd.f9.params.toList args.toList ds p := hA0
  rw [Tryd.params9] at hA hval
  obtain ⟨v0, vs0, d0, ds0, p0, q0, hargs0, rfl, rfl, h0, r0⟩ := trodAll_cons hA
  obtain ⟨v1, vs1, d1, ds1, p1, q1, hargs1, rfl, rfl, h1, r1⟩ := trodAll_cons r0
  obtain ⟨rfl, rfl, rfl⟩ := trodAll_nil r1
  obtain rfl : args = #[v0, v1] := by cases args; simp_all
  obtain ⟨rfl, rfl⟩ := trodVars_none hV
  have h0k := h0
  have hlt0 : ∀ x ∈ p0, x.block < W.heap.size := fun x hx => by have := hW'.lt x (by simp [hx]); simpa using this
  obtain ⟨t0, s0, hl0, hv0⟩ := open_arg (hval 0 26 v0 rfl rfl) h0
  subst hv0
  obtain ⟨a1, rfl, rfl, rfl, w1⟩ := open_int Tryd.underlying3 (hval 1 3 v1 rfl rfl) h1
  clear hA0 hval0
  simp only [List.append_nil] at hW'
  have hT := both_of_laid hL
  refine (writeBack_any t0 a1 W s0 hl0 hT).mono fun e W' ⟨he, hb⟩ => ?_
  subst he
  exact ⟨_, rfl, _, _, _, [], _, [], hW', trodAll_cons_mk (shut_bool Tryd.underlying4 _) trodAll_mk0, (trodAll_cons_mk (Below.trod laidOut (by kernel_rfl) (of_decide_eq_true (by kernel_rfl)) h0k hb hlt0) (trodAll_cons_mk (shut_int Tryd.underlying3 w1) trodAll_mk0)), rfl, hb.frame _, fun h => by cases h⟩

theorem closed : joinedFacts Tryd.prog 9 Tryd.f9 Rows.writeBackSpec Rows.writeBackRow = true := by
  unfold joinedFacts
  rw [row_mayEnter, row_lifts, row_make]
  kernel_rfl
theorem writeBack_holds : Rows.WriteBackSaid :=
  OpenClaim.holds_of_wide 9 Tryd.f9 rfl rfl rfl rfl rfl rfl rfl ⟨rfl, rfl, rfl, rfl, rfl⟩ rfl rfl rfl rfl rfl (by kernel_rfl) Tryd.func9 closed
    (of_decide_eq_true (by kernel_rfl)) (by unfold Func.isWrapper; first | (rw [if_pos (by decide +kernel)]; kernel_rfl) | (rw [if_neg (by decide +kernel)]; exact ⟨rfl, rfl⟩))
    (fun os started H enc _ => lifted os started H enc)
theorem proved : Rows.WriteBackCardSaid :=
  Claim7.holds_tied_plain_at .later [] [.data, .data, .data, .data, .data, .data] true Rows.writeBackCard.stood.harness true
    writeBack_holds (fun _ h => by cases h) (by kernel_rfl) (fun _ h => by cases h) writeBack_row_tie rfl ⟨rfl, rfl⟩ (by kernel_rfl) rfl
    (fun f fn hf hfn => by
      obtain rfl : f = 9 := Option.some.inj ((show Tryd.prog.funcNamed "tranship/transhiplaw10.WriteBack" = some 9 by kernel_rfl).symm.trans hf) |>.symm
      obtain rfl : fn = Tryd.f9 := (Option.some.inj (Tryd.func9.symm.trans hfn)).symm
      exact ⟨by kernel_rfl, fun j t ht => by
        rw [Tryd.params9] at ht
        have hm : t ∈ [26, 3] := by simpa using Array.mem_of_getElem? ht
        have hall : ([26, 3].all fun u => !Tryd.prog.wantsStandIn u) = true := by kernel_rfl
        exact (show Tryd.prog.wantsStandIn t = false by simpa using List.all_eq_true.1 hall t hm)⟩)
    (by kernel_rfl)
#print axioms proved
end Go.Proofs.YtllkackipdcekaaDoor.lawWriteBack
