/-
  WriteFixed holds: for every input the call returns true, and the arguments read as before. No condition.
-/
import Derived.Lib.ItoaNum
import Derived.Lib.ItoaLen
import Derived.Test.YtllkackipdcekaaDoorRows
import Derived.WalkKit
import Derived.Lib.Hide
import Derived.KernelRfl
import Derived.Deep.RegionWith
import Derived.Deep.RegionHeld3
import Derived.Test.YtllkackipdcekaaDoorShelf
import Derived.ProofKit
import Derived.Lib.AppendIntMem
import Derived.Lib.LaidTab
import Derived.Below
import Derived.Lib.Builder
import Derived.Lib.AppendStr
import Derived.Lib.UnsafeStr
import Derived.Lib.Strings
import Derived.Laws.Externs
import Derived.Laws.Rows
import Derived.Shelf.RegionOpenPlain
import Derived.OrdersHeld
import Derived.Laws.OwnMore
import Derived.OwnWalk
import Derived.LoopTactic
import Derived.IntWalk
import Derived.Laws.Strings2
import Derived.Deep.AppendLies
import Derived.WalkSmall
import Derived.Maps.GroupsBeside
import Derived.Maps.StringElems
import Derived.Deep.RegionLaw
import Derived.Maps.AppendAt
import Derived.Deep.Cut
import Derived.Deep.DeepCutAuto
import Derived.Maps.OwnOps
import Derived.Maps.OwnSet
import Derived.Lib.MinMax
import Derived.Laws.IdiomCopy
import Derived.Deep.Slices
import Derived.Lib.QuietBelow
import Derived.StillTailTactics
import Derived.BigQuiet
import Derived.Recover
import Derived.RegionTactic
import Derived.Defers
import Derived.Deep.QuietTactic
import Derived.OpenShut
import Derived.Carry
import Derived.LaidMore
import Derived.LaidSub
import Derived.LaidHandle
import Derived.Stop.Joined
import Derived.JoinedOf
import Derived.Test.YtllkackipdcekaaDoorCards
import Derived.Test.YtllkackipdcekaaDoorTie
import Derived.SevenTiedAt
import Derived.ChangeMaps5
import Derived.Test.YtllkackipdcekaaDoorWriteFixedQ4
namespace Go.Proofs.YtllkackipdcekaaDoor

def srtB (so : Int) (t : Tm) : Bool := if so = 1 then t.markedB else if so = 2 then t.plainB else t.rightB
theorem numP_nn {lv : List Tok → Except Nat (Int × List Tok)} (hlv : ∀ ts n r, lv ts = .ok (n, r) → 0 ≤ n) {E : Nat} {i j : Int} (hi : 0 ≤ i) (hj : 0 ≤ j) {ts r : List Tok} {n : Int} (h : numP lv E i j ts = .ok (n, r)) : 0 ≤ n := by
  unfold numP at h
  split at h
  · cases h
  · split at h
    · cases h; omega
    · split at h
      · split at h
        · cases h; exact hi
        · split at h
          · cases h; exact hj
          · cases h
      · split at h
        · unfold numQ at h
          split at h
          · cases h
          · split at h
            · split at h
              · cases h
              · rename_i n3 r3 h3
                have l3 := hlv _ _ _ h3
                split at h
                · cases h
                · cases h; omega
            · split at h
              · split at h
                · cases h
                · rename_i n3 r3 h3
                  have l3 := hlv _ _ _ h3
                  split at h
                  · cases h
                  · split at h
                    · cases h
                    · cases h; omega
              · cases h
        · cases h
theorem levelP_nn {E : Nat} {i j : Int} (hi : 0 ≤ i) (hj : 0 ≤ j) : ∀ {f : Nat} {ts r : List Tok} {n : Int}, levelP E i j f ts = .ok (n, r) → 0 ≤ n
  | 0, ts, r, n, h => by cases h
  | f + 1, ts, r, n, h => by
    unfold levelP at h
    split at h
    · cases h
    · rename_i n2 r2 h2
      have := numP_nn (fun ts n r h => levelP_nn hi hj h) hi hj h2
      split at h
      · cases h
      · cases h; exact this
def TpR (B : Nat) (tp : Int → Names → List Tok → Except Nat (Tm × List Tok)) : Prop := ∀ s N ts t r, (s = 0 ∨ s = 1 ∨ s = 2) → N.length + ts.length ≤ B → tp s N ts = .ok (t, r) → srtB s t = true ∧ t.freeN ≤ N.length ∧ r.length < ts.length
theorem kidsP_right {B : Nat} {tp : Int → Names → List Tok → Except Nat (Tm × List Tok)} (htp : TpR B tp) {k own : Int} {x : List UInt8} (ho : own = 1 ∨ own = 2) (hk : k ≠ 22) :
    ∀ {c p : Nat} {N : Names} {ts r : List Tok} {l : List Tm}, N.length + ts.length ≤ B → ((∀ q, bindsN k q = 0) ∨ N.length + 1 + ts.length ≤ B) → kidsP tp k own x p c N ts = .ok (l, r) →
      (own = 1 → markeds (k == 12) p l = true) ∧ (own = 2 → k ≠ 12 → plains l = true) ∧ frees k p l ≤ N.length
  | 0, p, N, ts, r, l, _, _, h => by unfold kidsP at h; cases h; exact ⟨fun _ => rfl, fun _ _ => rfl, by simp [frees]⟩
  | c + 1, p, N, ts, r, l, h1, h2, h => by
    unfold kidsP at h
    split at h
    · cases h
    · rename_i t r1 ht
      have hb : bindsN k p = 0 ∨ bindsN k p = 1 := by unfold bindsN; (repeat' split) <;> simp_all
      have hs : (if k = 12 ∧ p = 2 then (2 : Int) else own) = 0 ∨ (if k = 12 ∧ p = 2 then (2 : Int) else own) = 1 ∨ (if k = 12 ∧ p = 2 then (2 : Int) else own) = 2 := by split <;> omega
      have hN : (if bindsN k p = 0 then N else x :: N).length + ts.length ≤ B := by
        split
        · exact h1
        · rcases h2 with h2 | h2
          · exact absurd (h2 p) (by assumption)
          · simp; omega
      obtain ⟨k1, k2, k3⟩ := htp _ _ _ _ _ hs hN ht
      split at h
      · cases h
      · rename_i l2 r2 hl
        cases h
        obtain ⟨m1, m2, m3⟩ := kidsP_right htp ho hk (c := c) (p := p + 1) (by omega) (by rcases h2 with h2 | h2; exact Or.inl h2; exact Or.inr (by omega)) hl
        refine ⟨fun e => ?_, fun e e2 => ?_, ?_⟩
        · subst e
          simp only [markeds, Bool.and_eq_true]
          refine ⟨?_, m1 rfl⟩
          unfold srtB at k1
          by_cases h12 : k = 12 ∧ p = 2
          · obtain ⟨rfl, rfl⟩ := h12
            simpa using k1
          · rw [if_neg h12] at k1
            rw [if_neg (by simpa using h12)]
            simpa using k1
        · subst e
          simp only [plains, Bool.and_eq_true]
          refine ⟨?_, m2 rfl e2⟩
          rw [if_neg (fun h => e2 h.1)] at k1
          simpa [srtB] using k1
        · simp only [frees]
          have : t.freeN - bindsN k p ≤ N.length := by
            rcases hb with hb | hb
            · rw [if_pos hb] at k2; omega
            · rw [if_neg (by omega)] at k2; simp at k2; omega
          omega
theorem srt2 {t : Tm} (h : srtB 2 t = true) : t.plainB = true := by simpa [srtB] using h
theorem kidsJ_right {B : Nat} {tp : Int → Names → List Tok → Except Nat (Tm × List Tok)} (htp : TpR B tp) {E : Nat} {N : Names} {ts r : List Tok} {l : List Tm} (hB : N.length + ts.length ≤ B) (h : kidsJ tp E N ts = .ok (l, r)) : plains l = true ∧ frees 22 0 l ≤ N.length := by
  unfold kidsJ at h
  split at h; · cases h
  rename_i h1
  split at h; · cases h
  rename_i h2
  split at h; · cases h
  rename_i h3
  split at h; · cases h
  rename_i h4
  split at h; · cases h
  rename_i h5
  split at h; · cases h
  rename_i h6
  split at h; · cases h
  rename_i h7
  split at h; · cases h
  rename_i h8
  cases h
  have h2' : (2 : Int) = 0 ∨ (2 : Int) = 1 ∨ (2 : Int) = 2 := by omega
  obtain ⟨a1, b1, c1⟩ := htp _ _ _ _ _ h2' hB h1
  obtain ⟨a2, b2, c2⟩ := htp _ _ _ _ _ h2' (by omega) h2
  have c3 := takeT_len h3
  have c4 := takeT_len h4
  obtain ⟨a5, b5, c5⟩ := htp _ _ _ _ _ h2' (by simp; omega) h5
  obtain ⟨a6, b6, c6⟩ := htp _ _ _ _ _ h2' (by omega) h6
  obtain ⟨a7, b7, c7⟩ := htp _ _ _ _ _ h2' (by omega) h7
  obtain ⟨a8, b8, c8⟩ := htp _ _ _ _ _ h2' (by omega) h8
  simp at b5
  refine ⟨by simp [plains, srt2 a1, srt2 a2, srt2 a5, srt2 a6, srt2 a7, srt2 a8], ?_⟩
  simp only [frees, bindsN]
  simp
  omega
theorem given_nn {n : Int} (h1 : 1 ≤ n) (h2 : n ≤ 21) : 0 ≤ givenN n := by unfold givenN; (repeat' split) <;> omega
theorem bodyP_right {B : Nat} {lv : List Tok → Except Nat (Int × List Tok)} (hlv : ∀ ts n r, lv ts = .ok (n, r) → (0 ≤ n ∧ n ≤ 1000) ∧ r.length < ts.length) {tp : Int → Names → List Tok → Except Nat (Tm × List Tok)} (htp : TpR B tp) (hle : ∀ s N ts t r, tp s N ts = .ok (t, r) → r.length ≤ ts.length) {E : Nat} {k : Int} (hk : k = 1 ∨ (3 ≤ k ∧ k ≤ 23)) {N : Names} {ts r : List Tok} {t : Tm} (hB : N.length + ts.length ≤ B) (h : bodyP lv tp E k N ts = .ok (t, r)) :
    ((sortN k = 0 ∨ sortN k = 1) → t.markedB = true) ∧ ((sortN k = 0 ∨ sortN k = 2) → t.plainB = true) ∧ t.freeN ≤ N.length ∧ t.k ≠ 2 := by
  unfold bodyP at h
  split at h; · cases h
  rename_i n r1 h1
  split at h; · cases h
  rename_i i r2 h2
  split at h; · cases h
  rename_i j r3 h3
  split at h; · cases h
  rename_i l r4 h4
  split at h; · cases h
  cases h
  have f1 : r1.length ≤ ts.length ∧ (k = 23 → 1 ≤ n ∧ n ≤ 21) ∧ (k ≠ 23 → n = 0) := by
    unfold symP at h1
    split at h1
    · split at h1
      · cases h1
      · rename_i s r0 h0
        have := takeT_len h0
        split at h1
        · cases h1
        · cases h1
          refine ⟨by omega, fun _ => ?_, fun e => absurd (by assumption) e⟩
          have : symN s.s ≤ 21 ∧ 0 ≤ symN s.s := by
            unfold symN
            split
            · rename_i i hi
              have := idxL_lt hi
              simp [symsW] at this
              omega
            · omega
          omega
    · cases h1; exact ⟨Nat.le_refl _, fun e => absurd e (by assumption), fun _ => rfl⟩
  have f2 : r2.length ≤ r1.length ∧ (0 ≤ i ∧ i ≤ 1000) ∧ (levelsN k = 0 → i = 0) := by
    unfold lvaP at h2
    split at h2
    · have := hlv _ _ _ h2; exact ⟨by omega, this.1, fun e => by omega⟩
    · cases h2; exact ⟨Nat.le_refl _, by omega, fun _ => rfl⟩
  have f3 : r3.length ≤ r2.length ∧ (0 ≤ j ∧ j ≤ 1000) ∧ (levelsN k ≤ 1 → j = 0) := by
    unfold lvbP at h3
    split at h3
    · have := hlv _ _ _ h3; exact ⟨by omega, this.1, fun e => by omega⟩
    · cases h3; exact ⟨Nat.le_refl _, by omega, fun _ => rfl⟩
  have hnum : numbersN k i j n = true := by
    obtain ⟨-, s1, s2⟩ := f1
    obtain ⟨-, i1, i2⟩ := f2
    obtain ⟨-, j1, j2⟩ := f3
    unfold numbersN levelB
    unfold levelsN at i2 j2
    (repeat' split) <;> (try simp only [Bool.and_eq_true, decide_eq_true_eq, beq_iff_eq]) <;> (repeat' split at i2) <;> (repeat' split at j2) <;> (first | omega | (refine ⟨?_, ?_, ?_⟩ <;> omega) | skip)
  have hlen : ((l.length : Int) == kidsN k n) = true := by
    unfold kdsP at h4
    split at h4
    · rename_i hk
      have := (kidsJ_len hle h4).2
      simp [this, hk, kidsN]
    · have := (kidsK_len hle h4).2
      have : 0 ≤ kidsN k n := by
        unfold kidsN
        (repeat' split) <;> first | omega | (exact given_nn (f1.2.1 (by assumption)).1 (f1.2.1 (by assumption)).2)
      simp; omega
  have hB3 : N.length + r3.length ≤ B := by omega
  have hK : ((sortN k = 0 ∨ sortN k = 1) → markeds (k == 12) 0 l = true) ∧ ((sortN k = 0 ∨ sortN k = 2) → plains l = true) ∧ frees k 0 l ≤ N.length := by
    unfold kdsP at h4
    split at h4
    · rename_i h22
      subst h22
      obtain ⟨m1, m2⟩ := kidsJ_right htp hB3 h4
      exact ⟨fun e => by simp [sortN] at e, fun _ => m1, m2⟩
    · rename_i h22
      unfold kidsK at h4
      split at h4
      · cases h4
        exact ⟨fun _ => rfl, fun _ => rfl, by simp [frees]⟩
      · rename_i hpos
        have hso : sortN k = 1 ∨ sortN k = 2 := by
          unfold sortN
          (repeat' split)
          · exfalso
            have : k = 1 := by omega
            subst this
            simp [kidsN] at hpos
          · exact Or.inl rfl
          · exact Or.inr rfl
        have h12 : sortN k = 2 → k ≠ 12 := fun e e2 => by subst e2; simp [sortN] at e
        have fin : ∀ {x : List UInt8} {q r4 : List Tok}, (N.length + q.length ≤ B) → ((∀ p, bindsN k p = 0) ∨ N.length + 1 + q.length ≤ B) → kidsP tp k (sortN k) x 0 (kidsN k n).toNat N q = .ok (l, r4) → ((sortN k = 0 ∨ sortN k = 1) → markeds (k == 12) 0 l = true) ∧ ((sortN k = 0 ∨ sortN k = 2) → plains l = true) ∧ frees k 0 l ≤ N.length := fun b1 b2 hh => by
          obtain ⟨m1, m2, m3⟩ := kidsP_right htp hso h22 b1 b2 hh
          exact ⟨fun e => m1 (by omega), fun e => m2 (by omega) (h12 (by omega)), m3⟩
        split at h4
        · split at h4
          · cases h4
          · rename_i x q hx
            have := takeT_len hx
            exact fin (by omega) (Or.inr (by omega)) h4
        · rename_i hb
          refine fin hB3 (Or.inl fun p => ?_) h4
          have hb1 : bindsN k 1 = 0 := by unfold bindsN at hb ⊢; (repeat' split) <;> simp_all
          unfold bindsN at hb1 ⊢
          (repeat' split) <;> simp_all
  refine ⟨fun e => ?_, fun e => ?_, ?_, ?_⟩
  · simp only [Tm.markedB, hlen, hnum, hK.1 e, Bool.and_true, Bool.and_eq_true, decide_eq_true_eq]
    unfold sortN at e
    (repeat' split at e) <;> omega
  · simp only [Tm.plainB, hlen, hnum, hK.2.1 e, Bool.and_true, Bool.or_eq_true, Bool.and_eq_true, decide_eq_true_eq, beq_iff_eq]
    unfold sortN at e
    (repeat' split at e) <;> omega
  · simp only [Tm.freeN]
    rw [if_neg (by omega)]
    exact hK.2.2
  · show k ≠ 2
    omega
theorem headN_form (x : List UInt8) : headN x = 0 ∨ headN x = 1 ∨ (3 ≤ headN x ∧ headN x ≤ 23) := by
  unfold headN
  split
  · omega
  · split
    · rename_i i hi
      have := idxL_lt hi
      simp [headsW] at this
      omega
    · omega
/-- What is read is right, of the sort that was asked for, and free at most in the names. -/
theorem termP_right {B E : Nat} {i j : Int} (hi : 0 ≤ i ∧ i ≤ 1000) (hj : 0 ≤ j ∧ j ≤ 1000) (hB : B ≤ 2147483647) : ∀ f, TpR B (termP E i j f)
  | 0 => fun s N ts t r _ _ h => by cases h
  | f + 1 => fun s N ts t r hs hN h => by
    have hlen := termP_len h
    cases ts with
    | nil => cases h
    | cons t0 r0 =>
      unfold termP at h
      simp only [List.length_cons] at hN
      split at h
      · unfold listP at h
        split at h; · cases h
        rename_i w r1 hw
        have lw := takeT_len hw
        split at h
        · cases h
        · rename_i hbad
          have hk := headN_form w.s
          obtain ⟨m1, m2, m3, m4⟩ := bodyP_right (fun ts n r h => ⟨⟨levelP_nn hi.1 hj.1 h, levelP_most h⟩, levelP_len h⟩) (termP_right (E := E) hi hj hB f) (fun s N ts t r h => Nat.le_of_lt (termP_len h)) (k := headN w.s) (by rcases hk with hk | hk; exact absurd (Or.inl hk) hbad; exact hk) (N := N) (ts := r1) (by omega) h
          refine ⟨?_, m3, hlen⟩
          have hso : sortN (headN w.s) = 0 ∨ sortN (headN w.s) = 1 ∨ sortN (headN w.s) = 2 := by unfold sortN; (repeat' split) <;> omega
          unfold srtB Tm.rightB
          rcases hs with rfl | rfl | rfl
          · simp
            rcases hso with e | e | e
            · exact Or.inl (m1 (Or.inl e))
            · exact Or.inl (m1 (Or.inr e))
            · exact Or.inr (m2 (Or.inr e))
          · simp
            exact m1 (by
              rcases hso with e | e | e
              · exact Or.inl e
              · exact Or.inr e
              · exact absurd (Or.inr ⟨by omega, by omega, by omega⟩) hbad)
          · simp
            exact m2 (by
              rcases hso with e | e | e
              · exact Or.inl e
              · exact absurd (Or.inr ⟨by omega, by omega, by omega⟩) hbad
              · exact Or.inr e)
      · split at h
        · split at h
          · cases h
          · rename_i q hq
            cases h
            have hql := idxL_lt hq
            refine ⟨?_, ?_, hlen⟩
            · have hn : numbersN 2 (q : Int) 0 0 = true := by unfold numbersN; simp; omega
              unfold srtB Tm.rightB
              rcases hs with rfl | rfl | rfl <;> simp [Tm.markedB, Tm.plainB, hn, kidsN, markeds, plains]
            · simp only [Tm.freeN]; rw [if_pos trivial]; omega
        · cases h
end Go.Proofs.YtllkackipdcekaaDoor

namespace Go.Proofs.YtllkackipdcekaaDoor
open Go.Lib

abbrev PS := List (Nat × List UInt8)
def lvlP (k i j : Int) : PS := if levelsN k = 1 then [(4, itoa i)] else if levelsN k = 2 then [(4, itoa i), (4, itoa j)] else []
def frontP (k i j n m : Int) : PS := (if k = 23 then [(3, symL n)] else []) ++ (lvlP k i j ++ (if 0 < bindsN k 1 then [(3, nameW m)] else []))
def midP (k : Int) (p : Nat) (m : Int) : PS := if k = 22 ∧ p = 2 then [(3, nameW m), (3, nameW (m + 1))] else []
mutual
/-- The words of a term's text. -/
def Tm.wp : Tm → Int → PS
  | .mk k i j n l, m => if k = 2 then [(3, nameW (m - 1 - i))] else (1, [40]) :: (3, headL k) :: (frontP k i j n m ++ (wps k 0 l m ++ [(2, [41])]))
def wps (k : Int) : Nat → List Tm → Int → PS
  | _, [], _ => []
  | p, t :: r, m => midP k p m ++ (t.wp (m + bindsN k p) ++ wps k (p + 1) r m)
end
theorem Tm.wp_eq (t : Tm) (m : Int) : t.wp m = if t.k = 2 then [(3, nameW (m - 1 - t.i))] else (1, [40]) :: (3, headL t.k) :: (frontP t.k t.i t.j t.n m ++ (wps t.k 0 t.kids m ++ [(2, [41])])) := by cases t; rfl
theorem del_stops {Y : List UInt8} (h : DelW Y) : Stops Y := fun c r e => by
  rcases h c (by rw [e]; rfl) with rfl | rfl <;> decide
theorem sol_name {q : Int} (h0 : 0 ≤ q) (h1 : q ≤ 1000000) : Solid ⟨3, nameW q, 0⟩ := by
  have hg : getB (itoa q) = some q.toNat := by rw [get_itoa, if_pos ⟨h0, h1⟩]
  have hl : (itoa q).length < 20 := by
    rcases Nat.lt_or_ge (itoa q).length 20 with h | h
    · exact h
    · rw [get_long (by omega)] at hg; cases hg
  have hd : digs (itoa q) = true := by
    unfold itoa
    rw [if_neg (by omega)]
    exact dec_digs _
  refine sol_word (by decide) ?_ hl
  unfold digs at hd
  rw [List.all_eq_true] at hd ⊢
  exact fun c hc => by unfold wordC; rw [hd c hc]; simp
theorem heads_read : ∀ a < 24, (a = 0 ∨ a = 2) ∨ (headN ((headsW[a]?).getD []) = (a : Nat) ∧ ∃ c r, (headsW[a]?).getD [] = c :: r ∧ letterC c = true ∧ r.all wordC = true ∧ r.length < 20) := by
  intro a ha
  match a, ha with
  | 0, _ => exact Or.inl (Or.inl rfl)
  | 2, _ => exact Or.inl (Or.inr rfl)
  | n + 24, h => omega
  | 1, _ | 3, _ | 4, _ | 5, _ | 6, _ | 7, _ | 8, _ | 9, _ | 10, _ | 11, _ | 12, _ | 13, _ | 14, _ | 15, _ | 16, _ | 17, _ | 18, _ | 19, _ | 20, _ | 21, _ | 22, _ | 23, _ => exact Or.inr ⟨by kernel_rfl, _, _, rfl, by decide, by decide, by decide⟩
theorem syms_read : ∀ a < 21, symN ((symsW[a]?).getD []) = (a : Nat) + 1 ∧ ∃ c r, (symsW[a]?).getD [] = c :: r ∧ letterC c = true ∧ r.all wordC = true ∧ r.length < 20 := by
  intro a ha
  match a, ha with
  | n + 21, h => omega
  | 0, _ | 1, _ | 2, _ | 3, _ | 4, _ | 5, _ | 6, _ | 7, _ | 8, _ | 9, _ | 10, _ | 11, _ | 12, _ | 13, _ | 14, _ | 15, _ | 16, _ | 17, _ | 18, _ | 19, _ | 20, _ => exact ⟨by kernel_rfl, _, _, rfl, by decide, by decide, by decide⟩
theorem head_read {k : Int} (h : 1 ≤ k ∧ k ≤ 23 ∧ k ≠ 2) : headN (headL k) = k ∧ Solid ⟨3, headL k, 0⟩ := by
  rcases heads_read k.toNat (by omega) with h1 | ⟨h1, c, r, h2, h3, h4, h5⟩
  · omega
  · unfold headL
    refine ⟨by rw [h1]; omega, ?_⟩
    rw [h2]
    exact sol_word h3 h4 h5
theorem sym_read {n : Int} (h : 1 ≤ n ∧ n ≤ 21) : symN (symL n) = n ∧ Solid ⟨3, symL n, 0⟩ := by
  obtain ⟨h1, c, r, h2, h3, h4, h5⟩ := syms_read (n - 1).toNat (by omega)
  unfold symL
  rw [if_pos h]
  refine ⟨by rw [h1]; omega, ?_⟩
  rw [h2]
  exact sol_word h3 h4 h5
theorem levels_cases (k : Int) : levelsN k = 0 ∨ levelsN k = 1 ∨ levelsN k = 2 := by
  unfold levelsN
  split
  · simp
  · split <;> simp
/-- Levels that a right term's text names stand within the bounds. -/
theorem numbers_lv {k i j n : Int} (h : numbersN k i j n = true) (hk : k ≠ 2) : (1 ≤ levelsN k → 0 ≤ i ∧ i ≤ 1000) ∧ (levelsN k = 2 → 0 ≤ j ∧ j ≤ 1000) ∧ (levelsN k = 0 → i = 0) ∧ (levelsN k ≤ 1 → j = 0) ∧ (k ≠ 23 → n = 0) := by
  unfold numbersN levelB at h
  unfold levelsN
  rw [if_neg hk] at h
  by_cases h1 : k = 1 ∨ k = 10 ∨ k = 11 ∨ k = 12
  · rw [if_pos h1] at h ⊢
    simp only [Bool.and_eq_true, beq_iff_eq, decide_eq_true_eq] at h
    exact ⟨fun _ => h.1, fun e => by omega, fun e => by omega, fun _ => h.2.1, fun _ => h.2.2⟩
  rw [if_neg h1] at h ⊢
  by_cases h2 : k = 3 ∨ k = 4 ∨ k = 5 ∨ k = 6 ∨ k = 7 ∨ k = 8 ∨ k = 9
  · rw [if_pos h2] at h
    rw [if_pos (by omega)]
    simp only [Bool.and_eq_true, beq_iff_eq, decide_eq_true_eq] at h
    exact ⟨fun _ => h.1, fun e => h.2.1, fun e => by omega, fun e => by omega, fun _ => h.2.2⟩
  rw [if_neg h2] at h
  by_cases h3 : k = 23
  · rw [if_pos h3] at h
    rw [if_pos (by omega)]
    simp only [Bool.and_eq_true, decide_eq_true_eq] at h
    exact ⟨fun _ => h.1, fun e => h.2, fun e => by omega, fun e => by omega, fun e => absurd h3 e⟩
  · rw [if_neg h3] at h
    rw [if_neg (by omega)]
    simp only [Bool.and_eq_true, beq_iff_eq] at h
    exact ⟨fun e => by omega, fun e => by omega, fun _ => h.1, fun _ => h.2.1, fun _ => h.2.2⟩
theorem lvl_lx {k i j n : Int} (h : numbersN k i j n = true) (hk : k ≠ 2) {Y : List UInt8} {ps : PS} (hY : Stops Y) (hx : LX Y ps) : LX (lvlL k i j ++ Y) (lvlP k i j ++ ps) := by
  obtain ⟨h1, h2, -⟩ := numbers_lv h hk
  unfold lvlL lvlP
  rcases levels_cases k with e | e | e
  · rw [if_neg (by omega), if_neg (by omega), if_neg (by omega), if_neg (by omega)]
    exact hx
  · rw [if_pos e, if_pos e]
    have := h1 (by omega)
    exact LX.blank (LX.tok (sol_num this.1 (by omega)) hY hx)
  · rw [if_neg (by omega), if_pos e, if_neg (by omega), if_pos e]
    have a1 := h1 (by omega)
    have a2 := h2 e
    show LX (32 :: ((itoa i ++ 32 :: itoa j) ++ Y)) _
    rw [List.append_assoc, List.cons_append]
    exact LX.blank (LX.tok (sol_num a1.1 (by omega)) (stops_32 _) (LX.blank (LX.tok (sol_num a2.1 (by omega)) hY hx)))
theorem front_lx {k i j n m : Int} (h : numbersN k i j n = true) (hk : k ≠ 2) (hn : k = 23 → 1 ≤ n ∧ n ≤ 21) (hm : 0 ≤ m) (hM : m ≤ 1000000) {Y : List UInt8} {ps : PS} (hY : DelW Y) (hx : LX Y ps) : LX (frontL k i j n m ++ Y) (frontP k i j n m ++ ps) := by
  unfold frontL frontP
  rw [List.append_assoc, List.append_assoc, List.append_assoc, List.append_assoc]
  have h3 : LX ((if 0 < bindsN k 1 then 32 :: nameW m else []) ++ Y) ((if 0 < bindsN k 1 then [(3, nameW m)] else []) ++ ps) := by
    split
    · exact LX.blank (LX.tok (sol_name hm hM) (del_stops hY) hx)
    · exact hx
  have h2 := lvl_lx h hk (del_stops (if_del (p := 0 < bindsN k 1) (x := nameW m) hY)) h3
  by_cases h23 : k = 23
  · rw [if_pos h23, if_pos h23]
    exact LX.blank (LX.tok (sym_read (hn h23)).2 (del_stops (lvl_del (if_del hY))) h2)
  · rw [if_neg h23, if_neg h23]
    exact h2
theorem binds_nn (k i : Int) : 0 ≤ bindsN k i ∧ bindsN k i ≤ 2 := by unfold bindsN; (repeat' split) <;> omega
theorem frees_kid {k : Int} {t : Tm} {r : List Tm} {p : Nat} {m : Int} (h : frees k p (t :: r) ≤ m) : t.freeN ≤ m + bindsN k p ∧ frees k (p + 1) r ≤ m := by
  simp only [frees] at h
  exact ⟨by omega, by omega⟩
theorem wrs_lx (k m : Int) (hm : 0 ≤ m) : ∀ (l : List Tm), (∀ x ∈ l, ∀ (q : Int) (Y : List UInt8) (ps : PS), 0 ≤ q → x.freeN ≤ q → q + 2 * x.size ≤ 1000000 → DelW Y → LX Y ps → LX (x.wr q ++ Y) (x.wp q ++ ps)) →
    ∀ (p : Nat) (Y : List UInt8) (ps : PS), frees k p l ≤ m → m + 2 + 2 * sizes l ≤ 1000000 → LX Y ps → LX (wrs k p l m ++ 41 :: Y) (wps k p l m ++ (2, [41]) :: ps)
  | [], _, p, Y, ps, _, _, hx => by
    simp only [wrs, wps, List.nil_append]
    exact LX.close hx
  | t :: r, ih, p, Y, ps, hf, hs, hx => by
    obtain ⟨f1, f2⟩ := frees_kid hf
    have hb := binds_nn k p
    simp only [sizes] at hs
    have h1 := wrs_lx k m hm r (fun x hx => ih x (List.mem_cons_of_mem _ hx)) (p + 1) Y ps f2 (by omega) hx
    have h2 := ih t (List.mem_cons_self ..) (m + bindsN k p) _ _ (by omega) f1 (by omega) (wrs_del k r (p + 1) m Y) h1
    simp only [wrs, wps, List.append_assoc, List.cons_append]
    unfold midL midP
    split
    · show LX (32 :: ((nameW m ++ 32 :: nameW (m + 1)) ++ _)) _
      rw [List.append_assoc, List.cons_append]
      exact LX.blank (LX.tok (sol_name hm (by omega)) (stops_32 _) (LX.blank (LX.tok (sol_name (by omega) (by omega)) (stops_32 _) (LX.blank h2))))
    · exact LX.blank h2
theorem sym_range {t : Tm} (h : t.rightB = true) (hk : t.k = 23) : 1 ≤ t.n ∧ t.n ≤ 21 := by
  have := right_length h
  rw [hk] at this
  simp [kidsN] at this
  exact given_range (by omega)
/-- A right term's text has these words. -/
theorem wr_lx (t : Tm) : t.rightB = true → ∀ (m : Int) (Y : List UInt8) (ps : PS), 0 ≤ m → t.freeN ≤ m → m + 2 * t.size ≤ 1000000 → DelW Y → LX Y ps → LX (t.wr m ++ Y) (t.wp m ++ ps) := by
  induction t using Tm.ind with
  | h t ih =>
    intro hr m Y ps hm hf hs hY hx
    have hnum := right_numbers hr
    have hkr := right_kind hr
    rw [Tm.wr_eq, Tm.wp_eq]
    rw [Tm.freeN_eq] at hf
    by_cases h2 : t.k = 2
    · rw [if_pos h2] at hf ⊢
      rw [if_pos h2]
      rw [h2] at hnum
      simp [numbersN] at hnum
      exact LX.tok (sol_name (by omega) (by omega)) (del_stops hY) hx
    · rw [if_neg h2] at hf ⊢
      rw [if_neg h2]
      rw [Tm.size_eq] at hs
      have h3 := wrs_lx t.k m hm t.kids (fun x hx q Y ps a b c d e => ih x hx (t.right_kids hr x hx) q Y ps a b c d e) 0 Y ps hf (by omega) hx
      have h4 := front_lx hnum h2 (sym_range hr) hm (by omega) (wrs_del t.k t.kids 0 m Y) h3
      simp only [List.cons_append, List.append_assoc, List.nil_append]
      exact LX.open_ (LX.tok (head_read ⟨hkr.1, hkr.2, h2⟩).2 (del_stops (front_del (wrs_del t.k t.kids 0 m Y))) h4)

/-- The names of a scope, the innermost first. -/
def NSc : Nat → Names
  | 0 => []
  | m + 1 => nameW m :: NSc m
theorem name_at : ∀ (m i : Nat), i < m → idxL (nameW ((m : Int) - 1 - i)) (NSc m) = some i
  | m + 1, i, h => by
    unfold NSc idxL
    cases i with
    | zero =>
      rw [show ((m + 1 : Nat) : Int) - 1 - (0 : Nat) = m by omega, if_pos rfl]
    | succ i =>
      rw [if_neg (fun e => by
        unfold nameW at e
        simp only [List.cons.injEq, true_and] at e
        have := itoa_inj e
        omega)]
      rw [show ((m + 1 : Nat) : Int) - 1 - (i + 1 : Nat) = (m : Int) - 1 - i by omega, name_at m i (by omega)]
      rfl
theorem lv_read1 {E : Nat} {f : Nat} {i : Int} (h : 0 ≤ i ∧ i ≤ 1000) (r : List Tok) : levelP E 0 0 (f + 1) (tk (4, itoa i) :: r) = .ok (i, r) := by
  have hg : getB (itoa i) = some i.toNat := by rw [get_itoa, if_pos ⟨h.1, by omega⟩]
  unfold levelP numP tk
  simp only [if_true]
  rw [hg]
  have : (((some i.toNat).getD 0 : Nat) : Int) = i := by simp; omega
  rw [this]
  rw [if_neg (by omega)]
theorem kids_read {tp : Int → Names → List Tok → Except Nat (Tm × List Tok)} {k own : Int} (hk : k ≠ 22) (m : Nat) : ∀ (l : List Tm) (p : Nat) (r : List Tok),
    (∀ x ∈ l, ∀ (q : Nat), srtB (if k = 12 ∧ q = 2 then 2 else own) x = true → ∀ (m' : Nat), x.freeN ≤ m' → (m' : Int) = m + bindsN k q → ∀ r, tp (if k = 12 ∧ q = 2 then 2 else own) (NSc m') ((x.wp m').map tk ++ r) = .ok (x, r)) →
    frees k p l ≤ m → (∀ c, (h : c < l.length) → srtB (if k = 12 ∧ p + c = 2 then 2 else own) l[c] = true) → ∀ X, (∀ q : Nat, bindsN k q ≠ 0 → X = nameW m) →
    kidsP tp k own X p l.length (NSc m) ((wps k p l m).map tk ++ r) = .ok (l, r)
  | [], p, r, _, _, _, X, _ => by
    simp only [wps, List.map_nil, List.nil_append, List.length_nil]
    unfold kidsP
    rfl
  | t :: l, p, r, ih, hf, hs, X, hX => by
    obtain ⟨f1, f2⟩ := frees_kid hf
    have hb : bindsN k p = 0 ∨ bindsN k p = 1 := by unfold bindsN; (repeat' split) <;> simp_all
    have hs0 := hs 0 (by simp)
    simp only [Nat.add_zero, List.getElem_cons_zero] at hs0
    rw [List.length_cons]
    unfold kidsP
    have hN : (if bindsN k p = 0 then NSc m else X :: NSc m) = NSc ((m : Int) + bindsN k p).toNat := by
      rcases hb with hb | hb
      · rw [if_pos hb, hb]; simp
      · rw [if_neg (by omega), hb, hX p (by omega)]
        rw [show ((m : Int) + 1).toNat = m + 1 by omega]
        rfl
    have hm : ((((m : Int) + bindsN k p).toNat : Nat) : Int) = m + bindsN k p := by omega
    have h1 := ih t (List.mem_cons_self ..) p hs0 ((m : Int) + bindsN k p).toNat (by omega) hm ((wps k (p + 1) l m).map tk ++ r)
    rw [hm] at h1
    have h2 := kids_read hk m l (p + 1) r (fun x hx => ih x (List.mem_cons_of_mem _ hx)) f2 (fun c hc => by
      have := hs (c + 1) (by simp; omega)
      simp only [List.getElem_cons_succ] at this
      rw [show p + 1 + c = p + (c + 1) by omega]
      exact this) X hX
    simp only [wps]
    rw [hN, show midP k p (m : Int) = [] by unfold midP; rw [if_neg (fun h => hk h.1)], List.nil_append, List.map_append, List.append_assoc, h1]
    simp only
    rw [h2]
theorem plains_at {l : List Tm} (h : plains l = true) (c : Nat) (hc : c < l.length) : (l[c]).plainB = true := plains_mem h _ (List.getElem_mem hc)
theorem markeds_at : ∀ {l : List Tm} {tr : Bool} {p : Nat}, markeds tr p l = true → ∀ (c : Nat) (hc : c < l.length), (l[c]).kidB tr (p + c) = true
  | t :: r, tr, p, h, 0, hc => by
    simp only [markeds, Bool.and_eq_true] at h
    show (if tr && p == 2 then t.plainB else t.markedB) = true
    simpa using h.1
  | t :: r, tr, p, h, c + 1, hc => by
    simp only [markeds, Bool.and_eq_true] at h
    have := markeds_at h.2 c (by simpa using hc)
    rw [show p + (c + 1) = p + 1 + c by omega]
    exact this
theorem srt_right {so : Int} {t : Tm} (h : srtB so t = true) : t.rightB = true := by
  unfold srtB at h
  unfold Tm.rightB
  split at h
  · rw [h]; rfl
  · split at h
    · rw [h]; simp
    · exact h
theorem sym_back {E : Nat} {k n : Int} (h : k = 23 → 1 ≤ n ∧ n ≤ 21) (h0 : k ≠ 23 → n = 0) (X : List Tok) : symP E k ((if k = 23 then [((3 : Nat), symL n)] else []).map tk ++ X) = .ok (n, X) := by
  unfold symP
  by_cases hk : k = 23
  · rw [if_pos hk, if_pos hk]
    show (match takeT E 3 (⟨3, symL n, 0⟩ :: X) with | .error e => Except.error e | .ok (s, r) => if symN s.s = 0 then Except.error s.at_ else Except.ok (symN s.s, r)) = _
    unfold takeT
    simp only [if_true]
    rw [(sym_read (h hk)).1, if_neg (by have := h hk; omega)]
  · rw [if_neg hk, if_neg hk, h0 hk]
    rfl
theorem lva_back {E f : Nat} {k i j n : Int} (h : numbersN k i j n = true) (hk : k ≠ 2) (X : List Tok) : lvaP (levelP E 0 0 (f + 1)) k ((lvlP k i j).map tk ++ X) = .ok (i, (if levelsN k = 2 then [tk (4, itoa j)] else []) ++ X) := by
  obtain ⟨h1, h2, h3, h4, -⟩ := numbers_lv h hk
  unfold lvaP lvlP
  rcases levels_cases k with e | e | e
  · rw [if_neg (by omega), if_neg (by omega), if_neg (by omega), if_neg (by omega), h3 e]
    rfl
  · rw [if_pos (by omega), if_pos e, if_neg (by omega)]
    exact lv_read1 (h1 (by omega)) _
  · rw [if_pos (by omega), if_neg (by omega), if_pos e, if_pos e]
    exact lv_read1 (h1 (by omega)) _
theorem lvb_back {E f : Nat} {k i j n : Int} (h : numbersN k i j n = true) (hk : k ≠ 2) (X : List Tok) : lvbP (levelP E 0 0 (f + 1)) k ((if levelsN k = 2 then [tk (4, itoa j)] else []) ++ X) = .ok (j, X) := by
  obtain ⟨h1, h2, h3, h4, -⟩ := numbers_lv h hk
  unfold lvbP
  rcases levels_cases k with e | e | e
  · rw [if_neg (by omega), if_neg (by omega), h4 (by omega)]
    rfl
  · rw [if_neg (by omega), if_neg (by omega), h4 (by omega)]
    rfl
  · rw [if_pos (by omega), if_pos e]
    exact lv_read1 (h2 e) _
theorem six {l : List Tm} (h : l.length = 6) : ∃ a u p q v x, l = [a, u, p, q, v, x] := by
  match l, h with
  | [a, u, p, q, v, x], _ => exact ⟨a, u, p, q, v, x, rfl⟩
theorem kdsJ_back {E : Nat} {tp : Int → Names → List Tok → Except Nat (Tm × List Tok)} (m : Nat) (l : List Tm) (hl : l.length = 6) (htp : ∀ x ∈ l, ∀ (m' : Nat), x.freeN ≤ m' → ∀ r, tp 2 (NSc m') ((x.wp m').map tk ++ r) = .ok (x, r)) (hf : frees 22 0 l ≤ m) (r : List Tok) :
    kidsJ tp E (NSc m) ((wps 22 0 l m).map tk ++ r) = .ok (l, r) := by
  obtain ⟨a, u, p, q, v, x, rfl⟩ := six hl
  simp only [frees] at hf
  simp only [show bindsN 22 ((0 : Nat) : Int) = 0 from rfl, show bindsN 22 ((0 + 1 : Nat) : Int) = 0 from rfl, show bindsN 22 ((0 + 1 + 1 : Nat) : Int) = 2 from rfl, show bindsN 22 ((0 + 1 + 1 + 1 : Nat) : Int) = 0 from rfl, show bindsN 22 ((0 + 1 + 1 + 1 + 1 : Nat) : Int) = 0 from rfl, show bindsN 22 ((0 + 1 + 1 + 1 + 1 + 1 : Nat) : Int) = 0 from rfl] at hf
  have ha := htp a (by simp) m (by omega)
  have hu := htp u (by simp) m (by omega)
  have hp := htp p (by simp) (m + 2) (by omega)
  have hq := htp q (by simp) m (by omega)
  have hv := htp v (by simp) m (by omega)
  have hx := htp x (by simp) m (by omega)
  simp only [wps, show bindsN 22 ((0 : Nat) : Int) = 0 from rfl, show bindsN 22 ((0 + 1 : Nat) : Int) = 0 from rfl, show bindsN 22 ((0 + 1 + 1 : Nat) : Int) = 2 from rfl, show bindsN 22 ((0 + 1 + 1 + 1 : Nat) : Int) = 0 from rfl, show bindsN 22 ((0 + 1 + 1 + 1 + 1 : Nat) : Int) = 0 from rfl, show bindsN 22 ((0 + 1 + 1 + 1 + 1 + 1 : Nat) : Int) = 0 from rfl,
    show ∀ m : Int, midP 22 0 m = [] from fun _ => rfl, show ∀ m : Int, midP 22 (0 + 1) m = [] from fun _ => rfl, show ∀ m : Int, midP 22 (0 + 1 + 1) m = [(3, nameW m), (3, nameW (m + 1))] from fun _ => rfl, show ∀ m : Int, midP 22 (0 + 1 + 1 + 1) m = [] from fun _ => rfl, show ∀ m : Int, midP 22 (0 + 1 + 1 + 1 + 1) m = [] from fun _ => rfl, show ∀ m : Int, midP 22 (0 + 1 + 1 + 1 + 1 + 1) m = [] from fun _ => rfl, Int.add_zero, List.nil_append, List.map_append, List.append_assoc, List.append_nil, List.map_cons, List.cons_append]
  unfold kidsJ
  rw [ha]
  simp only
  rw [hu]
  simp only [takeT, tk, if_true]
  rw [show nameW ((m : Int) + 1) :: nameW (m : Int) :: NSc m = NSc (m + 2) from rfl]
  rw [show ((m : Int) + 2) = ((m + 2 : Nat) : Int) by omega, hp]
  simp only
  rw [hq]
  simp only
  rw [hv]
  simp only
  rw [hx]
theorem kdsK_back {E : Nat} {tp : Int → Names → List Tok → Except Nat (Tm × List Tok)} {k n : Int} (hk : k ≠ 22) (hk1 : 1 ≤ k ∧ k ≤ 23 ∧ k ≠ 2) (m : Nat) (l : List Tm) (hl : (l.length : Int) = kidsN k n)
    (htp : ∀ x ∈ l, ∀ (q : Nat), srtB (if k = 12 ∧ q = 2 then 2 else sortN k) x = true → ∀ (m' : Nat), x.freeN ≤ m' → (m' : Int) = m + bindsN k q → ∀ r, tp (if k = 12 ∧ q = 2 then 2 else sortN k) (NSc m') ((x.wp m').map tk ++ r) = .ok (x, r))
    (hf : frees k 0 l ≤ m) (hs : ∀ c, (h : c < l.length) → srtB (if k = 12 ∧ c = 2 then 2 else sortN k) l[c] = true) (r : List Tok) :
    kidsK tp E k n (sortN k) (NSc m) ((if 0 < bindsN k 1 then [((3 : Nat), nameW m)] else []).map tk ++ ((wps k 0 l m).map tk ++ r)) = .ok (l, r) := by
  have hs' : ∀ c, (h : c < l.length) → srtB (if k = 12 ∧ 0 + c = 2 then 2 else sortN k) l[c] = true := fun c h => by rw [Nat.zero_add]; exact hs c h
  have hc : (kidsN k n).toNat = l.length := by omega
  unfold kidsK
  by_cases h0 : kidsN k n ≤ 0
  · have hl0 : l = [] := List.eq_nil_of_length_eq_zero (by omega)
    subst hl0
    have hb : ¬ 0 < bindsN k 1 := by
      intro hb
      unfold bindsN at hb
      unfold kidsN at h0
      split at hb
      · (repeat' split at h0) <;> omega
      · split at hb
        · (repeat' split at h0) <;> omega
        · omega
    rw [if_pos h0, if_neg hb]
    rfl
  · rw [if_neg h0, hc]
    by_cases hb : 0 < bindsN k 1
    · rw [if_pos hb, if_pos hb]
      show (match takeT E 3 (⟨3, nameW m, 0⟩ :: ((wps k 0 l m).map tk ++ r)) with | .error e => Except.error e | .ok (x, r) => kidsP tp k (sortN k) x.s 0 l.length (NSc m) r) = _
      unfold takeT
      simp only [if_true]
      exact kids_read hk m l 0 r htp hf hs' _ (fun _ _ => rfl)
    · rw [if_neg hb, if_neg hb]
      show kidsP tp k (sortN k) [] 0 l.length (NSc m) ((wps k 0 l m).map tk ++ r) = _
      refine kids_read hk m l 0 r htp hf hs' _ (fun q hq => absurd hb ?_)
      simp only [Classical.not_not]
      unfold bindsN at hq ⊢
      (repeat' split at hq) <;> (first | omega | (rw [if_neg (by omega)]; rw [if_pos (by omega)]; simp) | (rw [if_pos (by omega)]; simp))
/-- Read back with any words behind. -/
theorem wp_read (E : Nat) (t : Tm) : ∀ (so : Int), (so = 0 ∨ so = 1 ∨ so = 2) → srtB so t = true → ∀ (m f : Nat), t.freeN ≤ m → t.size + 1 ≤ f → ∀ r, termP E 0 0 f so (NSc m) ((t.wp m).map tk ++ r) = .ok (t, r) := by
  induction t using Tm.ind with
  | h t ih =>
    intro so hso3 hso m f hf hfu r
    have hr := srt_right hso
    have hnum := right_numbers hr
    have hkr := right_kind hr
    have hlen := right_length hr
    rw [Tm.wp_eq]
    rw [Tm.freeN_eq] at hf
    rw [Tm.size_eq] at hfu
    match f, hfu with
    | f + 2, hfu =>
    by_cases h2 : t.k = 2
    · rw [if_pos h2] at hf ⊢
      have hv := right_var_eq hr h2
      have hi : 0 ≤ t.i := by rw [h2] at hnum; simp [numbersN] at hnum; omega
      show termP E 0 0 (f + 2) so (NSc m) (⟨3, nameW ((m : Int) - 1 - t.i), 0⟩ :: r) = _
      rw [termP]
      simp only [show ¬ ((3 : Nat) = 1) by omega, if_false, if_true]
      have := name_at m t.i.toNat (by omega)
      rw [show ((t.i.toNat : Nat) : Int) = t.i by omega] at this
      rw [this]
      simp only
      rw [show ((t.i.toNat : Nat) : Int) = t.i by omega, ← hv]
    · rw [if_neg h2] at hf ⊢
      have hk1 : 1 ≤ t.k ∧ t.k ≤ 23 ∧ t.k ≠ 2 := ⟨hkr.1, hkr.2, h2⟩
      have hhd := (head_read hk1).1
      have hmp : t.markedB = true → 1 ≤ t.k ∧ t.k ≤ 12 := fun h => by
        rw [Tm.markedB_eq] at h
        simp only [Bool.and_eq_true, decide_eq_true_eq] at h
        exact h.1
      have hpp : t.plainB = true → t.k = 1 ∨ t.k = 2 ∨ 13 ≤ t.k := fun h => by
        rw [Tm.plainB_eq] at h
        simp only [Bool.and_eq_true, Bool.or_eq_true, beq_iff_eq, decide_eq_true_eq] at h
        omega
      have hsrt : ¬ (headN (headL t.k) = 0 ∨ (sortN (headN (headL t.k)) ≠ 0 ∧ so ≠ 0 ∧ sortN (headN (headL t.k)) ≠ so)) := by
        rw [hhd]
        rintro (e | ⟨e1, e2, e3⟩)
        · omega
        · rcases hso3 with rfl | rfl | rfl
          · exact e2 rfl
          · have := hmp (by simpa [srtB] using hso)
            unfold sortN at e1 e3
            split at e1 <;> split at e3 <;> omega
          · have := hpp (by simpa [srtB] using hso)
            unfold sortN at e1 e3
            (repeat' split at e1) <;> (repeat' split at e3) <;> omega
      have hkid : ∀ c, (h : c < t.kids.length) → srtB (if t.k = 12 ∧ c = 2 then 2 else sortN t.k) t.kids[c] = true := fun c hc => by
        have h1 : t.k ≠ 1 := fun e => by rw [e] at hlen; simp [kidsN] at hlen; rw [hlen] at hc; simp at hc
        have hr' := hr
        unfold Tm.rightB at hr'
        rw [Bool.or_eq_true] at hr'
        by_cases h12 : t.k ≤ 12
        · rcases hr' with hm | hp
          · rw [Tm.markedB_eq] at hm
            simp only [Bool.and_eq_true] at hm
            have := markeds_at hm.2.2 c hc
            rw [Nat.zero_add] at this
            unfold Tm.kidB at this
            by_cases hh : t.k = 12 ∧ c = 2
            · rw [if_pos hh]
              rw [if_pos (by simp [hh.1, hh.2])] at this
              simpa [srtB] using this
            · rw [if_neg hh]
              rw [if_neg (by simpa using hh)] at this
              rw [show sortN t.k = 1 by unfold sortN; rw [if_neg (by omega), if_pos h12]]
              simpa [srtB] using this
          · have := hpp hp; omega
        · rcases hr' with hm | hp
          · have := hmp hm; omega
          · rw [Tm.plainB_eq] at hp
            simp only [Bool.and_eq_true] at hp
            rw [if_neg (by omega), show sortN t.k = 2 by unfold sortN; rw [if_neg (by omega), if_neg (by omega)]]
            have := plains_at hp.2.2 c hc
            simpa [srtB] using this
      have hsz : ∀ x ∈ t.kids, x.size + 1 ≤ f + 1 := fun x hx => by have := size_mem _ x hx; omega
      rw [show (((1, [40]) :: (3, headL t.k) :: (frontP t.k t.i t.j t.n m ++ (wps t.k 0 t.kids m ++ [(2, [41])])) : PS).map tk ++ r) = ⟨1, [40], 0⟩ :: ⟨3, headL t.k, 0⟩ :: ((if t.k = 23 then [((3 : Nat), symL t.n)] else []).map tk ++ ((lvlP t.k t.i t.j).map tk ++ ((if 0 < bindsN t.k 1 then [((3 : Nat), nameW m)] else []).map tk ++ ((wps t.k 0 t.kids m).map tk ++ ⟨2, [41], 0⟩ :: r)))) from by
        unfold frontP
        simp only [List.map_cons, List.map_append, List.append_assoc, List.cons_append, List.map_nil, List.nil_append, tk]]
      rw [termP]
      simp only [if_true]
      unfold listP takeT
      simp only [if_true]
      rw [if_neg hsrt, hhd]
      unfold bodyP
      rw [sym_back (sym_range hr) (numbers_lv hnum h2).2.2.2.2]
      simp only
      rw [lva_back hnum h2]
      simp only
      rw [lvb_back hnum h2]
      simp only
      have hkds : kdsP (termP E 0 0 (f + 1)) E t.k t.n (NSc m) ((if 0 < bindsN t.k 1 then [((3 : Nat), nameW m)] else []).map tk ++ ((wps t.k 0 t.kids m).map tk ++ ⟨2, [41], 0⟩ :: r)) = .ok (t.kids, ⟨2, [41], 0⟩ :: r) := by
        unfold kdsP
        by_cases h22 : t.k = 22
        · rw [if_pos h22]
          rw [h22] at hf hlen hkid ⊢
          rw [if_neg (show ¬ 0 < bindsN 22 1 by decide)]
          refine kdsJ_back m t.kids (by simp [kidsN] at hlen; omega) (fun x hx m' hf' r' => ?_) hf _
          obtain ⟨c, hc, rfl⟩ := List.mem_iff_getElem.1 hx
          have := hkid c hc
          rw [if_neg (by omega), show sortN 22 = 2 from rfl] at this
          exact ih _ hx 2 (by omega) this m' (f + 1) hf' (hsz _ hx) r'
        · rw [if_neg h22]
          refine kdsK_back h22 hk1 m t.kids hlen (fun x hx q hq m' hf' _ r' => ih _ hx _ ?_ hq m' (f + 1) hf' (hsz _ hx) r') hf hkid _
          unfold sortN
          (repeat' split) <;> omega
      rw [hkds]
      simp only
      rw [t.eta]
      rfl
theorem wp_len (t : Tm) : t.rightB = true → ∀ m : Int, t.size ≤ (t.wp m).length := by
  induction t using Tm.ind with
  | h t ih =>
    intro hr m
    rw [Tm.wp_eq, Tm.size_eq]
    have key : ∀ (l : List Tm), (∀ x ∈ l, ∀ m : Int, x.size ≤ (x.wp m).length) → ∀ (p : Nat), sizes l ≤ (wps t.k p l m).length := by
      intro l
      induction l with
      | nil => intro _ p; simp [sizes]
      | cons x r ihr =>
        intro h p
        have h1 := h x (List.mem_cons_self ..) (m + bindsN t.k p)
        have h2 := ihr (fun y hy => h y (List.mem_cons_of_mem _ hy)) (p + 1)
        simp only [sizes, wps, List.length_append]
        omega
    have hk := key t.kids (fun x hx => ih x hx (t.right_kids hr x hx)) 0
    split
    · rename_i h2
      have hl := right_length hr
      rw [h2] at hl
      simp [kidsN] at hl
      rw [hl]
      simp [sizes]
    · simp only [List.length_cons, List.length_append]
      omega
theorem nsc_map (n : Nat) : ((List.range n).map (fun q : Nat => nameW q)).reverse = NSc n := by
  induction n with
  | zero => rfl
  | succ n ih => rw [List.range_succ, List.map_append, List.reverse_append, ih]; rfl
/-- What is written is read as it was. -/
theorem write_read {t : Tm} {n : Nat} (hr : t.rightB = true) (hf : t.freeN ≤ n) (hs : n + 2 * t.size ≤ 1000000) : readB (t.wr n) ((List.range n).map (fun q : Nat => nameW q)) 0 0 = .ok t := by
  have h1 := wr_lx t hr n [] [] (by omega) hf (by omega) del_nil LX.nil
  rw [List.append_nil, List.append_nil] at h1
  have h2 := wp_read (t.wr n).length t 0 (Or.inl rfl) (by simpa [srtB] using hr) n (t.size + 1) hf (Nat.le_refl _) []
  rw [List.append_nil, ← nsc_map] at h2
  exact readB_LX (by omega) h1 (by have := wp_len t hr n; omega) h2
end Go.Proofs.YtllkackipdcekaaDoor

namespace Go.Proofs.YtllkackipdcekaaDoor
open Go.Lib

def TpS (tp : Int → Names → List Tok → Except Nat (Tm × List Tok)) : Prop := ∀ s N ts t r, tp s N ts = .ok (t, r) → t.size + r.length ≤ ts.length
theorem kidsP_size {tp : Int → Names → List Tok → Except Nat (Tm × List Tok)} (htp : TpS tp) {k own : Int} {x : List UInt8} :
    ∀ {c p : Nat} {N : Names} {ts r : List Tok} {l : List Tm}, kidsP tp k own x p c N ts = .ok (l, r) → sizes l + r.length ≤ ts.length
  | 0, p, N, ts, r, l, h => by unfold kidsP at h; cases h; simp [sizes]
  | c + 1, p, N, ts, r, l, h => by
    unfold kidsP at h
    split at h
    · cases h
    · rename_i t r1 h1
      have l1 := htp _ _ _ _ _ h1
      split at h
      · cases h
      · rename_i l2 r2 h2
        have l3 := kidsP_size htp h2
        cases h
        simp only [sizes]
        omega
theorem kidsK_size {tp : Int → Names → List Tok → Except Nat (Tm × List Tok)} (htp : TpS tp) {E : Nat} {k n own : Int} {N : Names} {ts r : List Tok} {l : List Tm} (h : kidsK tp E k n own N ts = .ok (l, r)) : sizes l + r.length ≤ ts.length := by
  unfold kidsK at h
  split at h
  · cases h; simp [sizes]
  · split at h
    · split at h
      · cases h
      · rename_i x r1 h1
        have l1 := takeT_len h1
        have l2 := kidsP_size htp h
        omega
    · exact kidsP_size htp h
theorem kidsJ_size {tp : Int → Names → List Tok → Except Nat (Tm × List Tok)} (htp : TpS tp) {E : Nat} {N : Names} {ts r : List Tok} {l : List Tm} (h : kidsJ tp E N ts = .ok (l, r)) : sizes l + r.length ≤ ts.length := by
  unfold kidsJ at h
  split at h; · cases h
  rename_i h1
  split at h; · cases h
  rename_i h2
  split at h; · cases h
  rename_i h3
  split at h; · cases h
  rename_i h4
  split at h; · cases h
  rename_i h5
  split at h; · cases h
  rename_i h6
  split at h; · cases h
  rename_i h7
  split at h; · cases h
  rename_i h8
  have l1 := htp _ _ _ _ _ h1
  have l2 := htp _ _ _ _ _ h2
  have l3 := takeT_len h3
  have l4 := takeT_len h4
  have l5 := htp _ _ _ _ _ h5
  have l6 := htp _ _ _ _ _ h6
  have l7 := htp _ _ _ _ _ h7
  have l8 := htp _ _ _ _ _ h8
  cases h
  simp only [sizes]
  omega
theorem bodyP_size {lv : List Tok → Except Nat (Int × List Tok)} (hlv : ∀ ts n r, lv ts = .ok (n, r) → r.length ≤ ts.length) {tp : Int → Names → List Tok → Except Nat (Tm × List Tok)} (htp : TpS tp) {E : Nat} {k : Int} {N : Names} {ts r : List Tok} {t : Tm} (h : bodyP lv tp E k N ts = .ok (t, r)) : t.size + r.length ≤ ts.length := by
  unfold bodyP at h
  split at h; · cases h
  rename_i n r1 h1
  split at h; · cases h
  rename_i i r2 h2
  split at h; · cases h
  rename_i j r3 h3
  split at h; · cases h
  rename_i l r4 h4
  split at h; · cases h
  rename_i z r5 h5
  have l5 := takeT_len h5
  cases h
  have l1 : r1.length ≤ ts.length := by
    unfold symP at h1
    split at h1
    · split at h1
      · cases h1
      · rename_i s r0 h0
        have := takeT_len h0
        split at h1
        · cases h1
        · cases h1; omega
    · cases h1; exact Nat.le_refl _
  have l2 : r2.length ≤ r1.length := by
    unfold lvaP at h2
    split at h2
    · exact hlv _ _ _ h2
    · cases h2; exact Nat.le_refl _
  have l3 : r3.length ≤ r2.length := by
    unfold lvbP at h3
    split at h3
    · exact hlv _ _ _ h3
    · cases h3; exact Nat.le_refl _
  have l4 : sizes l + r4.length ≤ r3.length := by
    unfold kdsP at h4
    split at h4
    · exact kidsJ_size htp h4
    · exact kidsK_size htp h4
  show sizes l + 1 + r.length ≤ _
  omega
theorem termP_size {E : Nat} {i j : Int} : ∀ {f : Nat}, TpS (termP E i j f)
  | 0, _, _, _, _, _, h => by cases h
  | f + 1, _, _, [], _, _, h => by cases h
  | f + 1, so, N, t0 :: r0, t, r, h => by
    unfold termP at h
    simp only [List.length_cons]
    split at h
    · unfold listP at h
      split at h; · cases h
      rename_i w r1 h1
      have := takeT_len h1
      split at h
      · cases h
      · have := bodyP_size (fun ts n r h => Nat.le_of_lt (levelP_len h)) (termP_size (f := f)) h
        omega
    · split at h
      · split at h
        · cases h
        · cases h; show 0 + 1 + _ ≤ _; omega
      · cases h
/-- What is read of a text: right, nothing free that has no name, no larger than the text. -/
theorem readB_facts {l : List UInt8} {names : Names} {i j : Int} {t : Tm} (h : readB l names i j = .ok t) : t.size ≤ l.length := by
  obtain ⟨-, ts, hx, ht⟩ := readB_inv h
  have h1 := termP_size _ _ _ _ _ ht
  have h2 := (lexL_bound (l := l) l.length 0 (by omega)).2.2
  rw [hx] at h2
  simp at h1 h2
  omega
end Go.Proofs.YtllkackipdcekaaDoor

namespace Go.Proofs.YtllkackipdcekaaDoor
open Go.RowKit

theorem srow_texts {B : Nat} {w : World} {v : Value} {l : List (List UInt8)} (h : SRow B w v l) : TxLies w.heap.size w l v := by
  rcases h.2 with ⟨rfl, h0⟩ | ⟨g, cap, cur, rfl, hg, hh, r1, r2, -⟩
  · have : l = [] := List.eq_nil_of_length_eq_zero h0
    subst this
    exact ⟨none, 0, rfl, Nat.le_refl _, by unfold maxLen; omega, fun q hq => absurd hq (by simp)⟩
  · refine ⟨_, cap, rfl, r1, r2, fun q hq => ⟨g, 0, rfl, (Array.getElem?_eq_some_iff.1 hh).1, ?_⟩⟩
    rw [Nat.zero_add]
    exact h.cell q hq
theorem vnames_len (n : Nat) : (vnames n).length = n := by simp [vnames]
theorem vnames_short {n : Nat} (h : n ≤ 1000000) : ∀ y ∈ vnames n, y.length ≤ 10000000 := by
  intro y hy
  unfold vnames at hy
  obtain ⟨q, hq, rfl⟩ := List.mem_map.1 hy
  have hq := List.mem_range.1 hq
  have := Lib.itoa_length_le (q : Int) (by omega) (by omega)
  show (118 :: Lib.itoa (q : Int)).length ≤ _
  rw [List.length_cons]
  omega
theorem write_readB {t : Tm} {n : Nat} (hr : t.rightB = true) (hf : t.freeN ≤ n) (hs : n + 2 * t.size ≤ 1000000) : readB (writeB t n) (vnames n) 0 0 = .ok t ∧ writeB t n = t.wr n ∧ (writeB t n).length ≤ 100 * t.size := by
  have hw : writeB t n = t.wr n := by
    unfold writeB
    rw [if_pos ⟨⟨by omega, by omega⟩, hr, by unfold Tm.freeB; rw [if_pos hr]; exact hf⟩]
  refine ⟨?_, hw, ?_⟩
  · rw [hw]
    exact write_read hr hf hs
  · rw [hw]
    have := wr_len t n hr (by omega) hf (by omega)
    omega
end Go.Proofs.YtllkackipdcekaaDoor

namespace Go.Proofs.YtllkackipdcekaaDoor
open Go.RowKit

/-- Terms one behind the other, each with the slice of its kids. -/
def Row (w : World) (b : Nat) : Nat → List (Tm × Value) → Prop
  | _, [] => True
  | o, (t, s) :: r => Node w b o t s ∧ t.fine ∧ Lies w t.kids s ∧ Row w b (o + 5) r

theorem Row.at {w : World} {b : Nat} {ps : List (Tm × Value)} : ∀ {o : Nat}, Row w b o ps → ∀ i (h : i < ps.length), Node w b (o + i * 5) (ps[i]).1 (ps[i]).2 ∧ (ps[i]).1.fine ∧ Lies w (ps[i]).1.kids (ps[i]).2 := by
  induction ps with
  | nil => intro o _ i h; simp at h
  | cons p r ih =>
    intro o hr i h
    cases i with
    | zero => exact ⟨by simpa using hr.1, hr.2.1, hr.2.2.1⟩
    | succ i =>
      have := ih hr.2.2.2 i (by simpa using h)
      rw [show o + 5 + i * 5 = o + (i + 1) * 5 by omega] at this
      simpa using this

theorem Row.lies {w : World} {b o cap : Nat} {ps : List (Tm × Value)} (h : Row w b o ps) (hc : ps.length ≤ cap) (hm : cap ≤ maxLen) : Lies w (ps.map (·.1)) (.slice (some ⟨b, o, none⟩) ps.length cap) := by
  have := Lies.mk (w := w) (ps.map (·.1)) (some ⟨b, o, none⟩) cap (fun i => (ps[i]?.map (·.2)).getD (.slice none 0 0)) (by simpa using hc) hm
    (fun x hx => by
      obtain ⟨p, hp, rfl⟩ := List.mem_map.1 hx
      obtain ⟨i, hi, rfl⟩ := List.getElem_of_mem hp
      exact (h.at i hi).2.1)
    (fun i hi => by
      have hi' : i < ps.length := by simpa using hi
      refine ⟨b, o, rfl, ?_⟩
      simp only [List.getElem_map, List.getElem?_eq_getElem hi', Option.map_some, Option.getD_some]
      exact (h.at i hi').1)
    (fun i hi => by
      have hi' : i < ps.length := by simpa using hi
      simp only [List.getElem_map, List.getElem?_eq_getElem hi', Option.map_some, Option.getD_some]
      exact (h.at i hi').2.2)
  simpa using this

theorem lies_nil (w : World) : Lies w [] (.slice none 0 0) := .mk [] none 0 (fun _ => .nilIface) (Nat.le_refl _) (by decide) (fun _ h => by cases h) (fun _ h => by cases h) (fun _ h => by cases h)

end Go.Proofs.YtllkackipdcekaaDoor

namespace Go.Proofs.YtllkackipdcekaaDoor
open Go.RowKit

theorem heapX3 (w : World) (a b c : Obj) : (((w.alloc a).alloc b).alloc c).heap[w.heap.size]? = some a ∧ (((w.alloc a).alloc b).alloc c).heap[w.heap.size + 1]? = some b ∧ (((w.alloc a).alloc b).alloc c).heap[w.heap.size + 2]? = some c := by
  refine ⟨?_, ?_, ?_⟩
  · rw [Lib.alloc_old _ _ _ (by simp; omega), Lib.alloc_old _ _ _ (by simp)]; exact alloc_heap_new' w a
  · rw [Lib.alloc_old _ _ _ (by simp)]; have h := alloc_heap_new' (w.alloc a) b; rw [World.size_alloc] at h; exact h
  · have h := alloc_heap_new' ((w.alloc a).alloc b) c; rw [World.size_alloc, World.size_alloc] at h; exact h
def wakeX : Tm := .mk 14 0 0 0 [.mk 1 4 0 0 [], .mk 15 0 0 0 [.mk 2 0 0 0 [], .mk 2 1 0 0 []]]
def wakeXw (w : World) : World := ((w.alloc (.cells #[.int .i64 2, .int .i64 0, .int .i64 0, .int .i64 0, .slice none 0 0, .int .i64 2, .int .i64 1, .int .i64 0, .int .i64 0, .slice none 0 0] 26)).alloc (.cells #[.int .i64 1, .int .i64 4, .int .i64 0, .int .i64 0, .slice none 0 0, .int .i64 15, .int .i64 0, .int .i64 0, .int .i64 0, .slice (some ⟨w.heap.size, 0, none⟩) 2 2] 26)).alloc (.cells #[.int .i64 14, .int .i64 0, .int .i64 0, .int .i64 0, .slice (some ⟨w.heap.size + 1, 0, none⟩) 2 2] 26)
theorem wakeX_heap (w : World) : (wakeXw w).heap[w.heap.size]? = some (.cells #[.int .i64 2, .int .i64 0, .int .i64 0, .int .i64 0, .slice none 0 0, .int .i64 2, .int .i64 1, .int .i64 0, .int .i64 0, .slice none 0 0] 26) ∧ (wakeXw w).heap[w.heap.size + 1]? = some (.cells #[.int .i64 1, .int .i64 4, .int .i64 0, .int .i64 0, .slice none 0 0, .int .i64 15, .int .i64 0, .int .i64 0, .int .i64 0, .slice (some ⟨w.heap.size, 0, none⟩) 2 2] 26) ∧ (wakeXw w).heap[w.heap.size + 2]? = some (.cells #[.int .i64 14, .int .i64 0, .int .i64 0, .int .i64 0, .slice (some ⟨w.heap.size + 1, 0, none⟩) 2 2] 26) := by
  exact heapX3 w _ _ _
theorem smallX_fine (k i : Int) (l : List Tm) (hk : I64 k) (hi : I64 i) : (Tm.mk k i 0 0 l).fine := ⟨hk, hi, by show I64 0; unfold I64; omega, by show I64 0; unfold I64; omega⟩
theorem smallX_I64 (n : Nat) (h : n < 1000) : I64 (n : Int) := by unfold I64; omega
theorem wakeX_lies (w : World) : Lies (wakeXw w) wakeX.kids (.slice (some ⟨w.heap.size + 1, 0, none⟩) 2 2) := by
  obtain ⟨h0, h1, -⟩ := wakeX_heap w
  have c0 := fun q => Lib.cell_of_heap h0 q
  have c1 := fun q => Lib.cell_of_heap h1 q
  have hin : Lies (wakeXw w) [.mk 2 0 0 0 [], .mk 2 1 0 0 []] (.slice (some ⟨w.heap.size, 0, none⟩) 2 2) :=
    Row.lies (ps := [(.mk 2 0 0 0 [], .slice none 0 0), (.mk 2 1 0 0 [], .slice none 0 0)]) ⟨⟨by rw [c0]; rfl, by rw [c0]; rfl, by rw [c0]; rfl, by rw [c0]; rfl, by rw [c0]; rfl⟩, smallX_fine _ _ _ (smallX_I64 2 (by decide)) (smallX_I64 0 (by decide)), lies_nil _, ⟨by rw [c0]; rfl, by rw [c0]; rfl, by rw [c0]; rfl, by rw [c0]; rfl, by rw [c0]; rfl⟩, smallX_fine _ _ _ (smallX_I64 2 (by decide)) (smallX_I64 1 (by decide)), lies_nil _, trivial⟩ (by decide) (by decide)
  exact Row.lies (ps := [(.mk 1 4 0 0 [], .slice none 0 0), (.mk 15 0 0 0 [.mk 2 0 0 0 [], .mk 2 1 0 0 []], .slice (some ⟨w.heap.size, 0, none⟩) 2 2)]) ⟨⟨by rw [c1]; rfl, by rw [c1]; rfl, by rw [c1]; rfl, by rw [c1]; rfl, by rw [c1]; rfl⟩, smallX_fine _ _ _ (smallX_I64 1 (by decide)) (smallX_I64 4 (by decide)), lies_nil _, ⟨by rw [c1]; rfl, by rw [c1]; rfl, by rw [c1]; rfl, by rw [c1]; rfl, by rw [c1]; rfl⟩, smallX_fine _ _ _ (smallX_I64 15 (by decide)) (smallX_I64 0 (by decide)), hin, trivial⟩ (Nat.le_refl 2) (by decide)
theorem wakeX_below (w : World) : Below w.heap.size w (wakeXw w) := (((Below.refl _ w).alloc (Nat.le_refl _) _).alloc (by simp) _).alloc (by simp; omega) _
theorem wakeX_one : writeB wakeX 1 = [40, 76, 97, 109, 32, 118, 49, 32, 40, 115, 111, 114, 116, 32, 52, 41, 32, 40, 65, 112, 112, 32, 118, 49, 32, 118, 48, 41, 41] := by decide +kernel
theorem wakeX_none : writeB wakeX 0 = [] := by decide +kernel
theorem vnames_two : (if (0 : Int) ≤ 2 ∧ (2 : Int) ≤ 1000000 then vnames (2 : Int).toNat else []) = [[118, 48], [118, 49]] := by decide +kernel

set_option maxRecDepth 20000 in
set_option maxHeartbeats 2000000 in
theorem wakes10_any (w : World) (hW : WTab w) : Calls Tryd.prog 25 #[] w fun e w' => e = .returned (.bool true) ∧ Below w.heap.size w w' := by
  obtain ⟨h0, h1, h2⟩ := wakeX_heap w
  have HW := Lib.hid (hW.later (wakeX_below w))
  have HL := Lib.hid (wakeX_lies w)
  have HB0 := Lib.hid (wakeX_below w)
  have hsw : (wakeXw w).heap.size = w.heap.size + 3 := by simp [wakeXw]
  have H2 := Lib.hid h2
  have HSW := Lib.hid hsw
  clear h0 h1 h2 hsw hW
  go_enter Tryd.func25, Tryd.ntmps25
  go_wp2_with fail
  refine (names_any 2 (wakeXw w) HW.out).mono ?_
  rintro e w1 ⟨v1, rfl, hrow, hb1⟩
  rw [vnames_two] at hrow
  obtain ⟨g, cap, rfl⟩ : ∃ g cap, v1 = .slice (some ⟨g, 0, none⟩) 2 cap := by
    rcases hrow.2 with ⟨_, h0⟩ | ⟨g, cap, cur, hv, _⟩
    · cases h0
    · exact ⟨g, cap, hv⟩
  have HR := Lib.hid hrow
  have HB1 := Lib.hid (HB0.out.trans (hb1.mono (by rw [HSW.out]; omega)))
  have HL1 := Lib.hid (HL.out.keep hb1)
  have HW1 := Lib.hid (HW.out.later hb1)
  have hx1 := (hb1.block (w.heap.size + 2) (by rw [HSW.out]; omega)).trans H2.out
  have hz1 : w.heap.size + 1 + 1 < w1.heap.size := by have := hb1.size; rw [HSW.out] at this; omega
  have HX1 := Lib.hid hx1
  have d0 : w1.cell? ⟨w.heap.size + 1 + 1, 0, none⟩ = some (.int .i64 14) := by rw [Lib.cell_of_heap hx1]; rfl
  have d1 : w1.cell? ⟨w.heap.size + 1 + 1, 1, none⟩ = some (.int .i64 0) := by rw [Lib.cell_of_heap hx1]; rfl
  have d2 : w1.cell? ⟨w.heap.size + 1 + 1, 2, none⟩ = some (.int .i64 0) := by rw [Lib.cell_of_heap hx1]; rfl
  have d3 : w1.cell? ⟨w.heap.size + 1 + 1, 3, none⟩ = some (.int .i64 0) := by rw [Lib.cell_of_heap hx1]; rfl
  have d4 : w1.cell? ⟨w.heap.size + 1 + 1, 4, none⟩ = some (.slice (some ⟨w.heap.size + 1, 0, none⟩) 2 2) := by rw [Lib.cell_of_heap hx1]; rfl
  clear hrow hb1 hx1
  go_wp2_with fail
  refine (write_any wakeX 1 w1 _ HL1.out HW1.out (by decide +kernel)).mono ?_
  rintro e w2 ⟨rfl, hb2⟩
  rw [wakeX_one]
  have HR2 := Lib.hid (HR.out.keep hb2)
  have HB2 := Lib.hid (HB1.out.trans (hb2.mono (by omega)))
  have HL2 := Lib.hid (HL1.out.keep hb2)
  have HW2 := Lib.hid (HW1.out.later hb2)
  have hx2 := (hb2.block (w.heap.size + 2) (by omega)).trans HX1.out
  clear d0 d1 d2 d3 d4 hb2
  have d0 : w2.cell? ⟨w.heap.size + 1 + 1, 0, none⟩ = some (.int .i64 14) := by rw [Lib.cell_of_heap hx2]; rfl
  have d1 : w2.cell? ⟨w.heap.size + 1 + 1, 1, none⟩ = some (.int .i64 0) := by rw [Lib.cell_of_heap hx2]; rfl
  have d2 : w2.cell? ⟨w.heap.size + 1 + 1, 2, none⟩ = some (.int .i64 0) := by rw [Lib.cell_of_heap hx2]; rfl
  have d3 : w2.cell? ⟨w.heap.size + 1 + 1, 3, none⟩ = some (.int .i64 0) := by rw [Lib.cell_of_heap hx2]; rfl
  have d4 : w2.cell? ⟨w.heap.size + 1 + 1, 4, none⟩ = some (.slice (some ⟨w.heap.size + 1, 0, none⟩) 2 2) := by rw [Lib.cell_of_heap hx2]; rfl
  clear hx2
  go_wp2_with fail
  refine (write_any wakeX 0 w2 _ HL2.out HW2.out (by decide +kernel)).mono ?_
  rintro e w3 ⟨rfl, hb3⟩
  rw [wakeX_none]
  have hr3 := HR2.out.keep hb3
  have HB3 := Lib.hid (HB2.out.trans (hb3.mono (by have := HB2.out.size; omega)))
  have e1 : w3.cell? ⟨g, 1, none⟩ = some (.string ⟨#[118, 49]⟩) := hr3.cell 1 (by decide)
  clear hb3 hr3 d0 d1 d2 d3 d4
  go_wp2
  go_ret
  exact ⟨rfl, HB3.out⟩
end Go.Proofs.YtllkackipdcekaaDoor

namespace Go.Proofs.YtllkackipdcekaaDoor
open Go.RowKit

set_option maxHeartbeats 1000000 in
theorem terms_of (l : List Tm) (ih : ∀ x ∈ l, ∀ (y : Tm) (w : World) (s r : Value), Lies w x.kids s → Lies w y.kids r → Calls Tryd.prog 14 #[tv x s, tv y r] w fun e w' => e = .returned (.bool (sameB x y)) ∧ Below w.heap.size w w')
    (m : List Tm) (w : World) (s r : Value) (hl : Lies w l s) (hm : Lies w m r) : Calls Tryd.prog 30 #[s, r] w fun e w' => e = .returned (.bool (samesB l m)) ∧ Below w.heap.size w w' := by
  obtain ⟨a, cap, S, rfl, hc, hmx, -, hn, hk⟩ := hl.out
  obtain ⟨a2, cap2, S2, rfl, hc2, hmx2, -, hn2, hk2⟩ := hm.out
  unfold maxLen at hmx hmx2
  have IH := Lib.hid ih
  have HN := Lib.hid hn
  have HK := Lib.hid hk
  have HN2 := Lib.hid hn2
  have HK2 := Lib.hid hk2
  clear ih hn hk hn2 hk2 hl hm
  by_cases hlen : l.length = m.length
  rotate_left
  · have h1 : ((l.length : Int) == (m.length : Int)) = false := by simp; omega
    have h2 : ((l.length : Int) != (m.length : Int)) = true := by simp; omega
    have HS := Lib.hid (sames_ne hlen)
    clear hlen
    go_enter Tryd.func30, Tryd.ntmps30
    go_wp2
    go_ret
    exact ⟨ret_bool HS.out.symm, Below.refl _ _⟩
  have h1 : ((l.length : Int) == (m.length : Int)) = true := by simp; omega
  have h2 : ((l.length : Int) != (m.length : Int)) = false := by simp; omega
  have HL := Lib.hid hlen
  clear hlen
  go_enter Tryd.func30, Tryd.ntmps30
  go_wp2
  go_loopw [5] (fun iv wr => ∃ k : Nat, k ≤ l.length ∧ iv = .int .i64 k ∧ Hid (samesB (l.take k) (m.take k) = true) ∧ Below w.heap.size w wr) (fun iv _ => l.length - (intOf iv).toNat)
  case atStart => exact ⟨0, Nat.zero_le _, rfl, by simp [Hid, samesB], Below.refl _ _⟩
  case round =>
    obtain ⟨k, hk, rfl, hgood, hb⟩ := hrel
    by_cases hlt : k < l.length
    · have hlt2 : k < m.length := by have := HL.out; omega
      obtain ⟨b, o, rfl, hx⟩ := HN.out k hlt
      obtain ⟨b2, o2, rfl, hx2⟩ := HN2.out k hlt2
      obtain ⟨c0, c1, c2, c3, c4⟩ := hx.below hb hx.lt
      obtain ⟨e0, e1, e2, e3, e4⟩ := hx2.below hb hx2.lt
      have hq := (HK.out k hlt).keep hb
      have hq2 := (HK2.out k hlt2).keep hb
      obtain ⟨a', cap', S', hS, -⟩ := hq.out
      obtain ⟨a2', cap2', S2', hS2, -⟩ := hq2.out
      rw [hS] at c4 hq
      rw [hS2] at e4 hq2
      have HQ := Lib.hid hq
      have HQ2 := Lib.hid hq2
      have HM := Lib.hid (List.getElem_mem hlt)
      have HT := Lib.hid (sames_take l m k hlt hlt2)
      have HO := Lib.hid (sames_of l m k hlt hlt2)
      clear hS hS2 hq hq2
      go_wp2
      go_region_with (go_at_call 14; refine (IH.out _ HM.out _ _ _ _ (HQ.out.keep (Below.refl _ _).drew) (HQ2.out.keep (Below.refl _ _).drew)).mono ?_; rintro e wn ⟨rfl, hb'⟩; have HB3 := below_call hb.drew hb' hb.size; clear hb')
      all_goals
        cases hs : sameB l[k] m[k]
        · go_wp2
          go_ret
          exact ⟨ret_bool (HO.out hs).symm, HB3⟩
        · go_wp2
          go_roundw
          case rel => exact ⟨k + 1, by omega, by go_num, by show _ = true; rw [HT.out, hgood.out, hs]; rfl, HB3⟩
          case measure => simp [intOf]; omega
    · have : k = l.length := by omega
      subst this
      go_wp2
      go_ret
      exact ⟨ret_bool (by have hg := hgood.out; rw [List.take_length, HL.out, List.take_length] at hg; exact hg.symm), hb⟩

set_option maxHeartbeats 1000000 in
theorem keepsame_any (t : Tm) : ∀ (u : Tm) (w : World) (s r : Value), Lies w t.kids s → Lies w u.kids r → Calls Tryd.prog 14 #[tv t s, tv u r] w fun e w' => e = .returned (.bool (sameB t u)) ∧ Below w.heap.size w w' := by
  induction t using Tm.ind with
  | h t ih =>
    intro u w s r hl hm
    obtain ⟨a, cap, S, rfl, -⟩ := hl.out
    obtain ⟨a2, cap2, S2, rfl, -⟩ := hm.out
    have HTM := Lib.hid (terms_of t.kids ih)
    have HE := Lib.hid (sameB_eq t u)
    have HL := Lib.hid hl
    have HM := Lib.hid hm
    have H0 := held2_start w t (.slice a t.kids.length cap) u (.slice a2 u.kids.length cap2)
    clear hl hm ih
    unfold tv
    cases ek : (t.k == u.k)
    · go_enter Tryd.func14, Tryd.ntmps14
      go_wp2
      go_ret
      exact ⟨ret_bool (by rw [HE.out]; simp only [ek, Bool.false_and]), held2_below H0⟩
    cases ei : (t.i == u.i)
    · go_enter Tryd.func14, Tryd.ntmps14
      go_wp2
      go_ret
      exact ⟨ret_bool (by rw [HE.out]; simp only [ek, ei, Bool.false_and, Bool.true_and]), held2_below H0⟩
    cases ej : (t.j == u.j)
    · go_enter Tryd.func14, Tryd.ntmps14
      go_wp2
      go_ret
      exact ⟨ret_bool (by rw [HE.out]; simp only [ek, ei, ej, Bool.false_and, Bool.true_and]), held2_below H0⟩
    cases en : (t.n == u.n)
    · go_enter Tryd.func14, Tryd.ntmps14
      go_wp2
      go_ret
      exact ⟨ret_bool (by rw [HE.out]; simp only [ek, ei, ej, en, Bool.false_and, Bool.true_and]), held2_below H0⟩
    go_enter Tryd.func14, Tryd.ntmps14
    go_wp2_with fail
    refine (HTM.out u.kids _ _ _ (held2_lies H0 HL.out) (held2_lies H0 HM.out)).mono ?_
    rintro e wn ⟨rfl, hb'⟩
    have H1 := held2_call H0 hb'
    clear hb'
    go_wp2
    go_ret
    exact ⟨ret_bool (by rw [HE.out]; simp only [ek, ei, ej, en, Bool.true_and]), held2_below H1⟩
end Go.Proofs.YtllkackipdcekaaDoor

namespace Go.Proofs.YtllkackipdcekaaDoor
open Go.RowKit Go.Maps Go.ChangeShapes

theorem readT_right {l : List UInt8} {names : Names} {i j : Int} {t : Tm} (hi : 0 ≤ i ∧ i ≤ 1000) (hj : 0 ≤ j ∧ j ≤ 1000) (hl : l.length ≤ 10000000) (hn : names.length ≤ 10000000) (h : readT l names i j = .ok t) : t.rightB = true ∧ t.freeN ≤ names.length := by
  have hb := ofL_bound l
  unfold readT at h
  split at h
  · cases h
  · rename_i u r he
    have hr := termP_right (B := 2147483647) (E := (ofL l).2.1) hi hj (Nat.le_refl _) ((ofL l).1.length + 1) 0 names.reverse (ofL l).1 u r (Or.inl rfl) (by rw [List.length_reverse]; omega) he
    split at h
    · cases h
    · cases h
      rw [List.length_reverse] at hr
      exact ⟨by simpa [srtB] using hr.1, hr.2.1⟩
theorem readB_right {l : List UInt8} {names : Names} {i j : Int} {t : Tm} (hl : l.length ≤ 10000000) (hn : names.length ≤ 10000000) (h : readB l names i j = .ok t) : t.rightB = true ∧ t.freeN ≤ names.length := by
  unfold readB at h
  split at h
  · cases h
  · split at h
    · cases h
    · rename_i u he
      cases h
      exact readT_right (by omega) (by omega) hl hn he
end Go.Proofs.YtllkackipdcekaaDoor

namespace Go.Proofs.YtllkackipdcekaaDoor
open Go.RowKit

set_option maxRecDepth 20000 in
set_option maxHeartbeats 4000000 in
theorem writeFixed_in (x : List UInt8) (m : Nat) (hx : x.length ≤ 2000) (hm : m ≤ 60) (w : World) (hWT : WTab w ∧ TabsR w.heap.size w) : Calls Tryd.prog 10 #[.string ⟨x.toArray⟩, .int .i64 m] w fun e w' => e = .returned (.bool true) ∧ Below w.heap.size w w' := by
  have HW := Lib.hid hWT.1
  have HT := Lib.hid hWT.2
  have h1 : ¬ 2000 < x.length := by omega
  have h2 : ¬ (m : Int) < 0 := by omega
  have h3 : ¬ 60 < (m : Int) := by omega
  clear hWT
  have HRD := Lib.hid (fun (y : List UInt8) (v : Value) (w' : World) (hy : y.length ≤ 1000000) (hb : Below w.heap.size w w') (hn : TxLies w'.heap.size w' (vnames m) v) => read_any ⟨y.toArray⟩ (vnames m) v 0 0 w' (show y.toArray.size ≤ 10000000 by rw [List.size_toArray]; omega) ((HT.out.keep hb).up hb.size) hn (by rw [vnames_len]; omega) (vnames_short (by omega)))
  go_enter Tryd.func10, Tryd.ntmps10
  go_wp2_with fail
  refine (names_any m _ HW.out).mono ?_
  rintro e w1 ⟨v, rfl, hrow, hb1⟩
  rw [if_pos ⟨by omega, by omega⟩, Int.toNat_natCast] at hrow
  have hnm := srow_texts hrow
  obtain ⟨a', cap', rfl⟩ := hrow.len
  rw [vnames_len] at hnm
  have HR := Lib.hid (HRD.out x _ w1 (by omega) hb1 hnm)
  have HB1 := Lib.hid hb1
  rw [vnames_len]
  clear hb1 hrow hnm
  go_wp2_with fail
  refine HR.out.mono ?_
  intro e w2 hg
  obtain ⟨hB, hg⟩ := hg
  cases hxr : readB x (vnames m) 0 0 with
  | error p =>
    obtain ⟨k, at_⟩ := p
    rw [show readB (ByteArray.mk x.toArray).data.toList (vnames m) 0 0 = .error (k, at_) from hxr] at hg
    obtain rfl := hg
    have he : k = 2 ∨ k = 1 := by
      unfold readB at hxr
      split at hxr
      · cases hxr; exact Or.inr rfl
      · split at hxr
        · cases hxr; exact Or.inl rfl
        · cases hxr
    have hba := al w2 (.cells #[.int .i64 0, .int .i64 0, .int .i64 0, .int .i64 0, .slice none 0 0] 26)
    have HB2 := Lib.hid (HB1.out.trans ((hB.trans (hba.mono hB.size)).mono HB1.out.size))
    have HK := Lib.hid (wakes10_any _ (HW.out.later HB2.out))
    clear hB hba hxr HR HB1
    go_wp2_with fail
    refine HK.out.mono ?_
    rintro e w3 ⟨rfl, hb3⟩
    have HB3 := Lib.hid (HB2.out.trans (hb3.mono HB2.out.size))
    clear hb3 HK
    go_wp2
    go_ret
    exact ⟨rfl, HB3.out⟩
  | ok t =>
    rw [show readB (ByteArray.mk x.toArray).data.toList (vnames m) 0 0 = .ok t from hxr] at hg
    obtain ⟨sv, rfl, hl, hfi⟩ := hg
    have hrt := readB_right (by omega) (by rw [vnames_len]; omega) hxr
    have hsz : t.size ≤ 2000 := by have := readB_facts hxr; omega
    obtain ⟨hwr, hww, hwl⟩ := write_readB (t := t) (n := m) hrt.1 (by have := hrt.2; rw [vnames_len] at this; omega) (by omega)
    have hne : writeB t (m : Int) ≠ [] := by rw [hww]; exact wr_some t _
    have HWD := Lib.hid (fun (w' : World) (s' : Value) (hl' : Lies w' t.kids s') (hW' : WTab w') => write_any t m w' s' hl' hW' (by omega))
    obtain ⟨tx, htx⟩ : ∃ tx, writeB t (m : Int) = tx := ⟨_, rfl⟩
    rw [htx] at hwl hwr hne HWD
    have HWR := Lib.hid hwr
    have htl : tx.length ≤ 200000 := by omega
    obtain ⟨au, cu, rfl, -, -⟩ := hl.out
    have hba := al w2 (.cells #[.int .i64 t.k, .int .i64 t.i, .int .i64 t.j, .int .i64 t.n, .slice au t.kids.length cu] 26)
    have HB2 := Lib.hid (HB1.out.trans ((hB.trans (hba.mono hB.size)).mono HB1.out.size))
    have HL2 := Lib.hid (hl.later hba)
    have hn2 := alloc_new w2 (.cells #[.int .i64 t.k, .int .i64 t.i, .int .i64 t.j, .int .i64 t.n, .slice au t.kids.length cu] 26)
    clear hB hba hl hfi HR hxr hrt hwr hww hwl htx
    unfold tv
    go_upto_region 6 with fail
    obtain ⟨V, hV⟩ : ∃ V, V = w2.alloc (.cells #[.int .i64 t.k, .int .i64 t.i, .int .i64 t.j, .int .i64 t.n, .slice au t.kids.length cu] 26) := ⟨_, rfl⟩
    rw [← hV] at HB2 HL2 hn2
    rw [← hV]
    have hlt2 : w2.heap.size < V.heap.size := by rw [hV]; simp
    have HN2 := Lib.hid hn2
    clear hV
    obtain ⟨⟨q0, q1, q2, q3, q4⟩, -, -⟩ := cells5_of hn2
    clear hn2
    go_wp2_with fail
    refine (HWD.out _ _ HL2.out.lies (HW.out.later HB2.out)).mono ?_
    rintro e w3 ⟨rfl, hb3⟩
    have HB3 := Lib.hid (HB2.out.trans (hb3.mono HB2.out.size))
    have HN3 := Lib.hid ((hb3.block _ hlt2).trans HN2.out)
    have HL3 := Lib.hid (HL2.out.later hb3)
    have hlt3 : w2.heap.size < w3.heap.size := by have := hb3.size; omega
    clear hb3 q0 q1 q2 q3 q4 HN2 HL2
    go_wp2_with fail
    refine (names_any m _ (HW.out.later HB3.out)).mono ?_
    rintro e w4 ⟨v, rfl, hrow, hb4⟩
    rw [if_pos ⟨by omega, by omega⟩, Int.toNat_natCast] at hrow
    have hnm := srow_texts hrow
    obtain ⟨a4, cap4, rfl⟩ := hrow.len
    rw [vnames_len] at hnm
    have HB4 := Lib.hid (HB3.out.trans (hb4.mono HB3.out.size))
    have HN4 := Lib.hid ((hb4.block _ hlt3).trans HN3.out)
    have HL4 := Lib.hid (HL3.out.later hb4)
    have hlt4 : w2.heap.size < w4.heap.size := by have := hb4.size; omega
    have HR := Lib.hid (HRD.out tx _ w4 (by omega) HB4.out hnm)
    rw [show readB (ByteArray.mk tx.toArray).data.toList (vnames m) 0 0 = .ok t from HWR.out] at HR
    rw [vnames_len]
    clear hb4 hrow hnm HN3 HL3
    go_wp2_with fail
    refine HR.out.mono ?_
    rintro e w5 ⟨hB, s5, rfl, hl, hfi⟩
    obtain ⟨a5, c5, rfl, -, -⟩ := hl.out
    have hba := al w5 (.cells #[.int .i64 t.k, .int .i64 t.i, .int .i64 t.j, .int .i64 t.n, .slice a5 t.kids.length c5] 26)
    have hW5 := hB.trans (hba.mono hB.size)
    have HB5 := Lib.hid (HB4.out.trans (hW5.mono HB4.out.size))
    have HL5 := Lib.hid (hl.later hba)
    have HM5 := Lib.hid (HL4.out.later hW5)
    have hn5 := (hW5.block _ hlt4).trans HN4.out
    have ho5 := alloc_new w5 (.cells #[.int .i64 t.k, .int .i64 t.i, .int .i64 t.j, .int .i64 t.n, .slice a5 t.kids.length c5] 26)
    clear hB hba hl hfi HR hW5 HN4 HL4
    unfold tv
    go_upto_region 8 with fail
    obtain ⟨Z, hZ⟩ : ∃ Z, Z = w5.alloc (.cells #[.int .i64 t.k, .int .i64 t.i, .int .i64 t.j, .int .i64 t.n, .slice a5 t.kids.length c5] 26) := ⟨_, rfl⟩
    rw [← hZ] at HB5 HL5 HM5 hn5 ho5
    rw [← hZ]
    have hltZ : w5.heap.size < Z.heap.size := by rw [hZ]; simp
    have HO5 := Lib.hid ho5
    clear hZ
    obtain ⟨⟨q0, q1, q2, q3, q4⟩, -, -⟩ := cells5_of hn5
    obtain ⟨⟨p0, p1, p2, p3, p4⟩, -, -⟩ := cells5_of ho5
    clear hn5 ho5
    go_wp2_with fail
    refine (keepsame_any t t Z _ _ HM5.out.lies HL5.out.lies).mono ?_
    rintro e w6 ⟨rfl, hb6⟩
    have HB6 := Lib.hid (HB5.out.trans (hb6.mono HB5.out.size))
    have ho6 := (hb6.block _ hltZ).trans HO5.out
    have HL6 := Lib.hid (HL5.out.later hb6)
    rw [sameB_self]
    clear q0 q1 q2 q3 q4 p0 p1 p2 p3 p4 hb6 HL5 HM5 HO5
    obtain ⟨⟨p0, p1, p2, p3, p4⟩, -, -⟩ := cells5_of ho6
    clear ho6
    go_wp2_with fail
    refine (HWD.out _ _ HL6.out.lies (HW.out.later HB6.out)).mono ?_
    rintro e w7 ⟨rfl, hb7⟩
    have HB7 := Lib.hid (HB6.out.trans (hb7.mono HB6.out.size))
    clear hb7 p0 p1 p2 p3 p4
    have HNE := Lib.hid (show tx.isEmpty = false from by cases tx; exact absurd rfl hne; rfl)

    go_wp2_with fail
    refine (wakes10_any _ (HW.out.later HB7.out)).mono ?_
    rintro e w8 ⟨rfl, hb8⟩
    have HB8 := Lib.hid (HB7.out.trans (hb8.mono HB7.out.size))
    clear hb8
    go_wp2
    go_ret
    exact ⟨by show Ending.returned (.bool (!tx.isEmpty)) = _; rw [HNE.out]; rfl, HB8.out⟩
theorem writeFixed_any (s : ByteArray) (n : Int) (w : World) (hWT : WTab w ∧ TabsR w.heap.size w) : Calls Tryd.prog 10 #[.string s, .int .i64 n] w fun e w' => e = .returned (.bool true) ∧ Below w.heap.size w w' := by
  obtain ⟨x, rfl⟩ : ∃ x : List UInt8, s = ⟨x.toArray⟩ := ⟨s.data.toList, by cases s; simp⟩
  by_cases c2000xlength : 2000 < x.length
  · clear hWT
    go_enter Tryd.func10, Tryd.ntmps10
    go_wp2
    go_ret
    exact ⟨rfl, Below.refl _ _⟩
  by_cases cn0 : n < 0
  · clear hWT
    go_enter Tryd.func10, Tryd.ntmps10
    go_wp2
    go_ret
    exact ⟨rfl, Below.refl _ _⟩
  by_cases c60n : 60 < n
  · clear hWT
    go_enter Tryd.func10, Tryd.ntmps10
    go_wp2
    go_ret
    exact ⟨rfl, Below.refl _ _⟩
  obtain ⟨m, rfl⟩ : ∃ m : Nat, n = m := ⟨n.toNat, by omega⟩
  exact writeFixed_in x m (by omega) (by omega) w hWT
end Go.Proofs.YtllkackipdcekaaDoor

namespace Go.Proofs.YtllkackipdcekaaDoor
open Go.ChangeShapes Go.WideShapes Go.ChangeAt Go.RowKit

theorem own : ownKnob Tryd.prog.godebug = none := by kernel_rfl
instance instOpenTm : Inhabited (Tm × Value) := ⟨(.mk 0 0 0 0 [], .nilIface)⟩

end Go.Proofs.YtllkackipdcekaaDoor

namespace Go.Proofs.YtllkackipdcekaaDoor
open Go.ChangeShapes Go.WideShapes Go.ChangeAt Go.WideMaps Go.WideElems Go.RowKit

def laidT : List (String × DataW Unit) := Rows.writeBackRow.laid
theorem door_met (os : Os) (args : Array Value) : laidMetH Tryd.prog laidT ((World.doorLaid Tryd.prog 400 os).forCall (fun _ _ => 0) ⟨#[], args, []⟩).memory :=
  laidMetH_of_parts3 (fuel := 8) (laidMet_of_run' 8 (by kernel_rfl) (by kernel_rfl)) (by kernel_rfl) (by kernel_rfl)
/-- A table of texts as a row lists it. -/
def strData {H : Type} (ss : List (List UInt8)) : DataW H := .agg (ss.map fun s => .lit (.string s))
theorem cells_of_strs {H : Type} {enc : TypeId × Value → H} {P : Program} {w : World} {base : Nat} {sp : Nat → Bool} {held : Bool} {fuel : Nat} {t e : TypeId} {n : Nat} {cs : List Value} {zs : List (List UInt8)} {p : List MemPlace}
    (ht : P.underlying t = some (.array n e)) (he : P.underlying e = some .string) (hce : P.cellsOf e = 1) (hct : P.cellsOf t = n)
    (h : DataW.trod enc P w base sp held fuel t cs = some (strData zs, p)) : cs = zs.map fun z => Value.string ⟨z.toArray⟩ := by
  cases fuel with
  | zero => simp [DataW.trod] at h
  | succ fuel =>
    simp only [DataW.trod, ht, hce, hct, Nat.mul_one] at h
    split at h
    · rename_i hl
      obtain ⟨xs, hm, hx⟩ := Option.map_eq_some_iff.1 h
      have hxs : xs.map (·.1) = zs.map fun z => (DataW.lit (.string z) : DataW H) := by
        have := congrArg Prod.fst hx
        simpa [strData] using this
      have hxl : xs.length = n := by simpa using Lib.mapM_length hm
      have hzl : zs.length = n := by
        have := congrArg List.length hxs
        simp at this
        omega
      apply List.ext_getElem?
      intro i
      by_cases hi : i < n
      · obtain ⟨b, hb, hf⟩ := Lib.mapM_at hm i i (by simp [hi])
        obtain ⟨z, hc, rfl, _⟩ := DataW.trod_string he hf
        have h1 : cs[i]? = some (.string z) := by
          have := congrArg (·[0]?) hc
          simpa [List.getElem?_take, List.getElem?_drop] using this
        have h2 : (xs.map (·.1))[i]? = some (DataW.lit (.string z.data.toList) : DataW H) := by simp [hb]
        rw [hxs] at h2
        simp only [List.getElem?_map, Option.map_eq_some_iff, DataW.lit.injEq, Lit.string.injEq] at h2
        obtain ⟨z', hz', e2⟩ := h2
        rw [h1, List.getElem?_map, hz']
        subst e2
        simp
      · rw [List.getElem?_eq_none (by omega), List.getElem?_eq_none (by simp; omega)]
    · cases h
theorem strIs_of_head {W : World} {name : String} {zs : List (List UInt8)} {rest : List (String × DataW Unit)} {g : Nat} {t e : TypeId} {n : Nat}
    (hg : Tryd.prog.globalNamed name = some g) (hty : (Tryd.prog.globals[g]?).map (·.type) = some t) (ht : Tryd.prog.underlying t = some (.array n e)) (he : Tryd.prog.underlying e = some .string) (hce : Tryd.prog.cellsOf e = 1) (hct : Tryd.prog.cellsOf t = n)
    (h : laidMet Tryd.prog ((name, strData zs) :: rest) W) : StrIs W name zs := by
  obtain ⟨ps, ⟨g', t', cs, fuel, p, q, hg', ht', hvar, hd, _, _⟩, _⟩ := h
  obtain rfl := Option.some.inj (hg.symm.trans hg')
  obtain rfl := Option.some.inj (hty.symm.trans ht')
  unfold StrIs
  rw [hvar, ← cells_of_strs ht he hce hct hd]
theorem tab_of_laid {W : World} (h : laidMetH Tryd.prog laidT W) : Lib.TabIs Tryd.prog W "internal/strconv.uint64pow10" .u64 Lib.pow10Tab := by
  have h2 := h.filter fun x => x.1 == "internal/strconv.uint64pow10"
  have e : (laidT.filter fun x => x.1 == "internal/strconv.uint64pow10") = [("internal/strconv.uint64pow10", Lib.tabData .u64 Lib.pow10Tab)] := by kernel_rfl
  rw [e] at h2
  rw [MakeChecks.laidMetH_plain _ _ _ (by kernel_rfl)] at h2
  exact Lib.tabIs_of_head (g := 3) (t := 117) (e := 111) (n := 20) (by kernel_rfl) (by kernel_rfl) Tryd.underlying117 Tryd.underlying111 (by kernel_rfl) (by kernel_rfl) h2
theorem syms_of_laid {W : World} (h : laidMetH Tryd.prog laidT W) : StrIs W "tranship/read.symbols" symsW := by
  have h2 := h.filter fun x => x.1 == "tranship/read.symbols"
  have e : (laidT.filter fun x => x.1 == "tranship/read.symbols") = [("tranship/read.symbols", strData symsW)] := by kernel_rfl
  rw [e] at h2
  rw [MakeChecks.laidMetH_plain _ _ _ (by kernel_rfl)] at h2
  exact strIs_of_head (g := 0) (t := 55) (e := 9) (n := 21) (by kernel_rfl) (by kernel_rfl) Tryd.underlying55 Tryd.underlying9 (by kernel_rfl) (by kernel_rfl) h2
theorem heads_of_laid {W : World} (h : laidMetH Tryd.prog laidT W) : StrIs W "tranship/write.heads" headsW := by
  have h2 := h.filter fun x => x.1 == "tranship/write.heads"
  have e : (laidT.filter fun x => x.1 == "tranship/write.heads") = [("tranship/write.heads", strData headsW)] := by kernel_rfl
  rw [e] at h2
  rw [MakeChecks.laidMetH_plain _ _ _ (by kernel_rfl)] at h2
  exact strIs_of_head (g := 1) (t := 86) (e := 9) (n := 24) (by kernel_rfl) (by kernel_rfl) Tryd.underlying86 Tryd.underlying9 (by kernel_rfl) (by kernel_rfl) h2
theorem wtab_of_laid {W : World} (h : laidMetH Tryd.prog laidT W) : WTab W := ⟨Lib.tabBelow_of_tabIs (tab_of_laid h), syms_of_laid h, heads_of_laid h⟩
theorem lt_of_cell {w : World} {b i : Nat} {v : Value} (h : w.cell? ⟨b, i, none⟩ = some v) : b < w.heap.size := by
  rcases Nat.lt_or_ge b w.heap.size with h1 | h1
  · exact h1
  · exfalso
    simp [World.cell?, Array.getElem?_eq_none h1] at h
theorem rheads_of_laid {W : World} (h : laidMetH Tryd.prog laidT W) : StrIs W "tranship/read.heads" (headsW.drop 3) := by
  have h2 := h.filter fun x => x.1 == "tranship/read.heads"
  have e : (laidT.filter fun x => x.1 == "tranship/read.heads") = [("tranship/read.heads", strData (headsW.drop 3))] := by kernel_rfl
  rw [e] at h2
  rw [MakeChecks.laidMetH_plain _ _ _ (by kernel_rfl)] at h2
  exact strIs_of_head (g := 2) (t := 55) (e := 9) (n := 21) (by kernel_rfl) (by kernel_rfl) Tryd.underlying55 Tryd.underlying9 (by kernel_rfl) (by kernel_rfl) h2
theorem tabsR_of_laid {W : World} (h : laidMetH Tryd.prog laidT W) : TabsR W.heap.size W := by
  have h1 := syms_of_laid h
  have h2 := rheads_of_laid h
  have c1 : ∀ k < 21, W.cell? ⟨0, k, none⟩ = some (.string ⟨((symsW[k]?).getD []).toArray⟩) := fun k hk => by
    have hl : k < symsW.length := hk
    rw [h1.cell (g := 0) (by kernel_rfl) k hl, List.getElem?_eq_getElem hl]; rfl
  have c2 : ∀ k < 21, W.cell? ⟨2, k, none⟩ = some (.string ⟨(((headsW.drop 3)[k]?).getD []).toArray⟩) := fun k hk => by
    have hl : k < (headsW.drop 3).length := hk
    rw [h2.cell (g := 2) (by kernel_rfl) k hl, List.getElem?_eq_getElem hl]; rfl
  exact ⟨⟨lt_of_cell (c2 0 (by decide)), lt_of_cell (c1 0 (by decide))⟩, c2, c1⟩
theorem both_of_laid {W : World} (h : laidMetH Tryd.prog laidT W) : WTab W ∧ TabsR W.heap.size W := ⟨wtab_of_laid h, tabsR_of_laid h⟩
end Go.Proofs.YtllkackipdcekaaDoor

namespace Go.Proofs.YtllkackipdcekaaDoor
open Go.ChangeShapes Go.WideShapes

def code (l : List Nat) : List Char := l.map Char.ofNat
def joinN : List (List Nat) → List Nat
  | [] => []
  | [a] => a
  | a :: b :: r => a ++ 32 :: joinN (b :: r)

theorem words_one : ∀ a : List Nat, (a.all fun n => Char.ofNat n != Char.ofNat 32) = true → wordsSigns (code a) = [code a]
  | [], _ => rfl
  | n :: a, h => by
    simp only [List.all_cons, Bool.and_eq_true, bne_iff_ne] at h
    have ih := words_one a h.2
    show wordsSigns (Char.ofNat n :: code a) = _
    rw [wordsSigns]
    · rw [ih]; rfl
    · exact h.1
theorem words_more : ∀ (a : List Nat) (r : List Char), (a.all fun n => Char.ofNat n != Char.ofNat 32) = true → wordsSigns (code a ++ Char.ofNat 32 :: r) = code a :: wordsSigns r
  | [], r, _ => by
    show wordsSigns (Char.ofNat 32 :: r) = _
    rw [show Char.ofNat 32 = _ from rfl, wordsSigns]; rfl
  | n :: a, r, h => by
    simp only [List.all_cons, Bool.and_eq_true, bne_iff_ne] at h
    have ih := words_more a r h.2
    show wordsSigns (Char.ofNat n :: (code a ++ Char.ofNat 32 :: r)) = _
    rw [wordsSigns]
    · rw [ih]; rfl
    · exact h.1
theorem words_join : ∀ ws : List (List Nat), ws ≠ [] → (ws.all fun w => w.all fun n => Char.ofNat n != Char.ofNat 32) = true → wordsSigns (code (joinN ws)) = ws.map code
  | [], h, _ => absurd rfl h
  | [a], _, h => by simp only [List.all_cons, List.all_nil, Bool.and_true] at h; exact words_one a h
  | a :: b :: r, _, h => by
    have h' := h
    rw [List.all_cons, Bool.and_eq_true] at h'
    have ih := words_join (b :: r) (by simp) h'.2
    show wordsSigns (code (a ++ 32 :: joinN (b :: r))) = _
    rw [show code (a ++ 32 :: joinN (b :: r)) = code a ++ Char.ofNat 32 :: code (joinN (b :: r)) from by simp [code], words_more a _ h'.1, ih]; rfl

def cutWords : List (List Nat) := [[104, 97, 114, 110, 101, 115, 115],
  [56, 97, 48, 97, 97, 53, 100, 51, 57, 102, 101, 100, 56, 50, 99, 49, 49, 57, 97, 50, 101, 50, 97, 57, 97, 54, 98, 48, 101, 53, 98, 51, 50, 57, 49, 100, 50, 99, 56, 52, 48, 50, 99, 54, 102, 54, 101, 101, 51, 54, 50, 98, 49, 99, 48, 100, 56, 101, 56, 57, 49, 55, 102, 101],
  [99, 117, 116],
  [97, 116],
  [116, 114, 97, 110, 115, 104, 105, 112, 47, 116, 114, 97, 110, 115, 104, 105, 112, 108, 97, 119, 48, 57, 46, 82, 101, 97, 100, 69, 120, 97, 99, 116],
  [116, 114, 97, 110, 115, 104, 105, 112, 47, 116, 114, 97, 110, 115, 104, 105, 112, 108, 97, 119, 48, 57, 46, 82, 101, 97, 100, 82, 105, 103, 104, 116],
  [116, 114, 97, 110, 115, 104, 105, 112, 47, 116, 114, 97, 110, 115, 104, 105, 112, 108, 97, 119, 48, 57, 46, 82, 101, 97, 100, 66, 101, 104, 105, 110, 100],
  [116, 114, 97, 110, 115, 104, 105, 112, 47, 116, 114, 97, 110, 115, 104, 105, 112, 108, 97, 119, 48, 57, 46, 82, 101, 97, 100, 73, 110, 110, 101, 114],
  [116, 114, 97, 110, 115, 104, 105, 112, 47, 116, 114, 97, 110, 115, 104, 105, 112, 108, 97, 119, 48, 57, 46, 82, 101, 97, 100, 76, 101, 118, 101, 108, 115],
  [116, 114, 97, 110, 115, 104, 105, 112, 47, 116, 114, 97, 110, 115, 104, 105, 112, 108, 97, 119, 48, 57, 46, 82, 101, 97, 100, 83, 121, 109, 98, 111, 108, 115],
  [116, 114, 97, 110, 115, 104, 105, 112, 47, 116, 114, 97, 110, 115, 104, 105, 112, 108, 97, 119, 49, 48, 46, 87, 114, 105, 116, 101, 66, 97, 99, 107],
  [116, 114, 97, 110, 115, 104, 105, 112, 47, 116, 114, 97, 110, 115, 104, 105, 112, 108, 97, 119, 49, 48, 46, 87, 114, 105, 116, 101, 70, 105, 120, 101, 100]]

set_option maxRecDepth 100000 in
theorem cut_words : wordsSigns Tryd.prog.initOrder.toList = cutWords.map code := by
  have h : Tryd.prog.initOrder.toList = code (joinN cutWords) := by
    show (String.ofList (code (joinN cutWords))).toList = _
    exact String.toList_ofList
  rw [h]
  exact words_join cutWords (by simp [cutWords]) (by decide +kernel)

theorem cut_behind : behindMainWord (cutWords.map code) = code [99, 117, 116] :: cutWords.tail.tail.tail.map code := by kernel_rfl
theorem cut_lifts : stripLifts liftWords (code [99, 117, 116] :: cutWords.tail.tail.tail.map code) = ([], code [99, 117, 116] :: cutWords.tail.tail.tail.map code) := by kernel_rfl
theorem cut1 : (code [99, 117, 116] == "gc".toList) = false := by kernel_rfl
theorem cut2 : (code [99, 117, 116] == "spec".toList) = false := by kernel_rfl
theorem cut3 : (code [99, 117, 116] == "cut".toList) = true := by kernel_rfl
theorem cut_all : behindMainWord (wordsSigns Tryd.prog.initOrder.toList) = code [99, 117, 116] :: cutWords.tail.tail.tail.map code := by rw [cut_words, cut_behind]
theorem make_of (P : Program) {c : List Char} {rest : List (List Char)} (h : behindMainWord (wordsSigns P.initOrder.toList) = c :: rest) (h1 : (c == "gc".toList) = false) (h2 : (c == "spec".toList) = false) (h3 : (c == "cut".toList) = true) : P.make = some .cut := by
  unfold Program.make; rw [h]
  simp only [h1, h2, h3, Bool.or_self, Bool.false_eq_true, if_false, Bool.true_or, if_true]
theorem mayEnter_of (P : Program) {c : List Char} {rest : List (List Char)} (h : behindMainWord (wordsSigns P.initOrder.toList) = c :: rest) (h3 : ((stripLifts liftWords (c :: rest)).2.head? == some "cut".toList) = true)
    (h4 : (stripLifts liftWords (c :: rest)).1 = []) (h5 : P.laysLater = false) (h6 : P.bearsReflect = false) (h7 : P.doorFits [] = true) : P.mayEnter = true := by
  unfold Program.mayEnter; rw [h]
  refine Bool.or_eq_true_iff.2 (Or.inr ?_)
  rw [h3, h4, h5, h6, h7]; rfl
theorem row_make : Tryd.prog.make = some .cut := make_of Tryd.prog cut_all cut1 cut2 cut3
theorem row_mayEnter : Tryd.prog.mayEnter = true := mayEnter_of Tryd.prog cut_all (by rw [cut_lifts]; kernel_rfl) (by rw [cut_lifts]) (by kernel_rfl) (by kernel_rfl) (by kernel_rfl)
theorem row_lifts : Tryd.prog.liftsFinal = false := by unfold Program.liftsFinal Program.headLifts; rw [cut_all, cut_lifts]; kernel_rfl
end Go.Proofs.YtllkackipdcekaaDoor

namespace Go.Proofs.YtllkackipdcekaaDoor.lawWriteFixed
open Go.ChangeShapes Go.WideShapes Go.ChangeAt Go.RowKit Go.ChangeMaps

set_option maxRecDepth 100000 in
theorem lifted (os : Os) (started : os.Started) (H : Type) (enc : TypeId × Value → H) :
    ReturnsInHanded {} Tryd.checked os 10 .any (fun w args => (Rows.writeFixedSpec.pre enc Tryd.prog Tryd.f10 [] false w args ∧ laidMetH Tryd.prog laidT w) ∧ sizedMet enc Tryd.prog Tryd.f10 (OpenSpec.ofChange Rows.writeFixedSpec) false w args)
      (Rows.writeFixedSpec.post enc Tryd.prog Tryd.f10 false true false false) := by
  refine returnsInHanded_of_change_and (C := Tryd.checked) (X := fun w _ => laidMetH Tryd.prog laidT w) (fun _ _ _ hh h => h.of_heap hh) own started (by kernel_rfl) Tryd.func10
    (ChangeSpec.witness_shaped (enc := enc) (C := Tryd.checked) (os := os) (X := fun w _ => laidMetH Tryd.prog laidT w) false (World.doorLaid Tryd.prog 400 os) #[.string ⟨#[]⟩, .int .i64 0] 8 rfl (World.shaped_of_RefB (by kernel_rfl) (by kernel_rfl)) (by kernel_rfl) (by kernel_rfl) (by kernel_rfl) (door_met os _)) ?_
  intro W base args ds gs before hval0 hW _ _ hL _
  have hval : ∀ (j : Nat) t v, Tryd.f10.params[j]? = some t → args[j]? = some v → Value.okWide Tryd.prog W .any base t v := hval0
  have hW' := hW
  obtain ⟨p, q, hA0, hV, rfl, hfz, hnd⟩ := hW
  have hA : DataW.TrodAll enc Tryd.prog W 0 (fun _ => true) true Tryd.f10.params.toList args.toList ds p := hA0
  rw [Tryd.params10] at hA hval
  obtain ⟨v0, vs0, d0, ds0, p0, q0, hargs0, rfl, rfl, h0, r0⟩ := trodAll_cons hA
  obtain ⟨v1, vs1, d1, ds1, p1, q1, hargs1, rfl, rfl, h1, r1⟩ := trodAll_cons r0
  obtain ⟨rfl, rfl, rfl⟩ := trodAll_nil r1
  obtain rfl : args = #[v0, v1] := by cases args; simp_all
  obtain ⟨rfl, rfl⟩ := trodVars_none hV
  obtain ⟨a0, rfl, rfl, rfl, w0⟩ := open_string Tryd.underlying9 (hval 0 9 v0 rfl rfl) h0
  obtain ⟨a1, rfl, rfl, rfl, w1⟩ := open_int Tryd.underlying3 (hval 1 3 v1 rfl rfl) h1
  clear hA0 hval0
  simp only [List.append_nil] at hW'
  have hT := both_of_laid hL
  refine (writeFixed_any a0 a1 W hT).mono fun e W' ⟨he, hb⟩ => ?_
  subst he
  exact ⟨_, rfl, _, _, _, [], _, [], hW', trodAll_cons_mk (shut_bool Tryd.underlying4 _) trodAll_mk0, (trodAll_cons_mk (shut_string Tryd.underlying9 w0) (trodAll_cons_mk (shut_int Tryd.underlying3 w1) trodAll_mk0)), rfl, hb.frame _, fun h => by cases h⟩

theorem closed : joinedFacts Tryd.prog 10 Tryd.f10 Rows.writeFixedSpec Rows.writeFixedRow = true := by
  unfold joinedFacts
  rw [row_mayEnter, row_lifts, row_make]
  kernel_rfl
theorem writeFixed_holds : Rows.WriteFixedSaid :=
  OpenClaim.holds_of_wide 10 Tryd.f10 rfl rfl rfl rfl rfl rfl rfl ⟨rfl, rfl, rfl, rfl, rfl⟩ rfl rfl rfl rfl rfl (by kernel_rfl) Tryd.func10 closed
    (of_decide_eq_true (by kernel_rfl)) (by unfold Func.isWrapper; first | (rw [if_pos (by decide +kernel)]; kernel_rfl) | (rw [if_neg (by decide +kernel)]; exact ⟨rfl, rfl⟩))
    (fun os started H enc _ => lifted os started H enc)
theorem proved : Rows.WriteFixedCardSaid :=
  Claim7.holds_tied_plain_at .later [] [.data, .data, .data, .data, .data, .data] true Rows.writeFixedCard.stood.harness true
    writeFixed_holds (fun _ h => by cases h) (by kernel_rfl) (fun _ h => by cases h) writeFixed_row_tie rfl ⟨rfl, rfl⟩ (by kernel_rfl) rfl
    (fun f fn hf hfn => by
      obtain rfl : f = 10 := Option.some.inj ((show Tryd.prog.funcNamed "tranship/transhiplaw10.WriteFixed" = some 10 by kernel_rfl).symm.trans hf) |>.symm
      obtain rfl : fn = Tryd.f10 := (Option.some.inj (Tryd.func10.symm.trans hfn)).symm
      exact ⟨by kernel_rfl, fun j t ht => by
        rw [Tryd.params10] at ht
        have hm : t ∈ [9, 3] := by simpa using Array.mem_of_getElem? ht
        have hall : ([9, 3].all fun u => !Tryd.prog.wantsStandIn u) = true := by kernel_rfl
        exact (show Tryd.prog.wantsStandIn t = false by simpa using List.all_eq_true.1 hall t hm)⟩)
    (by kernel_rfl)
#print axioms proved
end Go.Proofs.YtllkackipdcekaaDoor.lawWriteFixed
