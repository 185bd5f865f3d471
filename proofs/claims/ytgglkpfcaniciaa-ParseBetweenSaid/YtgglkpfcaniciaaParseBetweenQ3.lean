/-
  ParseBetween holds: for every input the call returns true, and the arguments read as before. No condition.
-/
import Derived.Lib.ItoaNum
import Derived.Lib.ItoaLen
import Derived.Test.YtgglkpfcaniciaaRows
import Derived.WalkKit
import Derived.Lib.Hide
import Derived.ProofKit
import Derived.LoopTactic
import Derived.Below
import Derived.IntWalk
import Derived.Lib.Strings
import Derived.Laws.Strings2
import Derived.Deep.AppendLies
import Derived.Laws.Rows
import Derived.OwnWalk
import Derived.KernelRfl
import Derived.Deep.RegionHeld3
import Derived.Lib.Builder
import Derived.WalkSmall
import Derived.Maps.GroupsBeside
import Derived.Maps.StringElems
import Derived.Laws.OwnMore
import Derived.Deep.RegionLaw
import Derived.Maps.AppendAt
import Derived.Deep.Cut
import Derived.Deep.DeepCutAuto
import Derived.Maps.OwnOps
import Derived.Maps.OwnSet
import Derived.Lib.MinMax
import Derived.Laws.IdiomCopy
import Derived.Deep.Slices
import Derived.Lib.QuietBelow
import Derived.StillTailTactics
import Derived.BigQuiet
import Derived.Deep.RegionWith
import Derived.OrdersHeld
import Derived.Laws.StructEq
import GoSem.Core.Float
import Derived.Laws.Cover2
import Derived.Laws.FloatArith
import Derived.Laws.Externs
import Derived.Deep.QuietTactic
import Derived.Laws.AppendOwn
import Derived.Recover
import Derived.RegionTactic
import Derived.OpenShut
import Derived.Carry
import Derived.ChangeSlices
import Derived.JoinedOf
import Derived.ChangeMaps5
import Derived.Test.YtgglkpfcaniciaaParseBetweenQ2
namespace Go.Proofs.Ytgglkpfcaniciaa.Dv
open Go.RowKit

mutual
def sameB : Tm → Tm → Bool
  | .mk k i l, .mk k' i' l' => (k == k') && ((i == i') && samesB l l')
def samesB : List Tm → List Tm → Bool
  | [], [] => true
  | x :: r, y :: s => sameB x y && samesB r s
  | [], _ :: _ => false
  | _ :: _, [] => false
end

theorem sameB_eq (a b : Tm) : sameB a b = ((a.k == b.k) && ((a.i == b.i) && samesB a.kids b.kids)) := by
  cases a; cases b; simp only [sameB]; rfl

theorem samesB_length : ∀ {l m : List Tm}, samesB l m = true → l.length = m.length
  | [], [], _ => rfl
  | x :: r, y :: s, h => by simp only [samesB, Bool.and_eq_true] at h; simp [samesB_length h.2]
  | [], _ :: _, h => by simp [samesB] at h
  | _ :: _, [], h => by simp [samesB] at h

theorem sameB_self (a : Tm) : sameB a a = true := by
  induction a using Tm.ind with
  | h a ih =>
    rw [sameB_eq]
    have key : ∀ (l : List Tm), (∀ x ∈ l, sameB x x = true) → samesB l l = true := by
      intro l
      induction l with
      | nil => intro _; simp [samesB]
      | cons x r ihl => intro hx; simp only [samesB, hx x List.mem_cons_self, Bool.true_and]; exact ihl (fun z hz => hx z (List.mem_cons_of_mem _ hz))
    simp [key a.kids ih]

theorem sames_take : ∀ (l m : List Tm) (k : Nat) (h : k < l.length) (h' : k < m.length), samesB (l.take (k + 1)) (m.take (k + 1)) = (samesB (l.take k) (m.take k) && sameB l[k] m[k])
  | x :: r, y :: s, 0, _, _ => by simp [samesB]
  | x :: r, y :: s, k + 1, h, h' => by
    simp only [List.take_succ_cons, samesB, List.getElem_cons_succ]
    rw [sames_take r s k (by simpa using h) (by simpa using h'), Bool.and_assoc]

theorem sames_of : ∀ (l m : List Tm) (k : Nat) (h : k < l.length) (h' : k < m.length), sameB l[k] m[k] = false → samesB l m = false
  | x :: r, y :: s, 0, _, _, hs => by simp only [List.getElem_cons_zero] at hs; simp [samesB, hs]
  | x :: r, y :: s, k + 1, h, h', hs => by
    simp only [List.getElem_cons_succ] at hs
    simp [samesB, sames_of r s k (by simpa using h) (by simpa using h') hs]

theorem sames_ne {l m : List Tm} (h : l.length ≠ m.length) : samesB l m = false := by
  cases hs : samesB l m with
  | false => rfl
  | true => exact absurd (samesB_length hs) h

/-- Two boxed terms, and what is new beside them. -/
def Held2 (w : World) (a : Tm) (s : Value) (b : Tm) (r : Value) (w' : World) : Prop := Below (w.heap.size + 2) ((w.alloc (boxOf a s)).alloc (boxOf b r)) w'

theorem held2_start (w : World) (a : Tm) (s : Value) (b : Tm) (r : Value) : Held2 w a s b r ((w.alloc (.cells #[.int .i64 a.k, .int .i64 a.i, s] 25)).alloc (.cells #[.int .i64 b.k, .int .i64 b.i, r] 25)) := Below.refl _ _
theorem held2_first {w w' : World} {a b : Tm} {s r : Value} (h : Held2 w a s b r w') : Held w a s w' := by
  unfold Held2 at h; unfold Held
  exact ((Below.refl _ _).alloc (by simp) _).trans (h.mono (by omega))
theorem held2_call {w w1 w2 : World} {a b : Tm} {s r : Value} (h : Held2 w a s b r w1) (hb : Below w1.heap.size w1 w2) : Held2 w a s b r w2 :=
  below_call h hb (by have := h.size; simpa using this)
theorem held2_below {w w1 : World} {a b : Tm} {s r : Value} (h : Held2 w a s b r w1) : Below w.heap.size w w1 := held_below (held2_first h)
theorem held2_lies {w w1 : World} {a b : Tm} {s r s' : Value} {l : List Tm} (h : Held2 w a s b r w1) (hl : Lies w l s') : Lies w1 l s' := hl.keep (held2_below h)
end Go.Proofs.Ytgglkpfcaniciaa.Dv

namespace Go.Proofs.Ytgglkpfcaniciaa.Dv
open Go.RowKit

set_option maxHeartbeats 1000000 in
theorem dterms_of (l : List Tm) (ih : ∀ x ∈ l, ∀ (y : Tm) (w : World) (s r : Value), Lies w x.kids s → Lies w y.kids r → Calls Try.prog 30 #[tv x s, tv y r] w fun e w' => e = .returned (.bool (sameB x y)) ∧ Below w.heap.size w w')
    (m : List Tm) (w : World) (s r : Value) (hl : Lies w l s) (hm : Lies w m r) : Calls Try.prog 29 #[s, r] w fun e w' => e = .returned (.bool (samesB l m)) ∧ Below w.heap.size w w' := by
  obtain ⟨a, cap, S, rfl, hc, hmx, -, hn, hk⟩ := hl.out
  obtain ⟨a2, cap2, S2, rfl, hc2, hmx2, -, hn2, hk2⟩ := hm.out
  unfold maxLen at hmx hmx2
  have IH := Lib.hid ih
  have HN := Lib.hid hn
  have HK := Lib.hid hk
  have HN2 := Lib.hid hn2
  have HK2 := Lib.hid hk2
  clear ih hn hk hn2 hk2 hl hm
  by_cases hlen : l.length = m.length
  rotate_left
  · have h1 : ((l.length : Int) == (m.length : Int)) = false := by simp; omega
    have h2 : ((l.length : Int) != (m.length : Int)) = true := by simp; omega
    have HS := Lib.hid (sames_ne hlen)
    clear hlen
    go_enter Try.func29, Try.ntmps29
    go_wp2
    go_ret
    exact ⟨ret_bool HS.out.symm, Below.refl _ _⟩
  have h1 : ((l.length : Int) == (m.length : Int)) = true := by simp; omega
  have h2 : ((l.length : Int) != (m.length : Int)) = false := by simp; omega
  have HL := Lib.hid hlen
  clear hlen
  go_enter Try.func29, Try.ntmps29
  go_wp2
  go_loopw [5] (fun iv wr => ∃ k : Nat, k ≤ l.length ∧ iv = .int .i64 k ∧ Hid (samesB (l.take k) (m.take k) = true) ∧ Below w.heap.size w wr) (fun iv _ => l.length - (intOf iv).toNat)
  case atStart => exact ⟨0, Nat.zero_le _, rfl, by simp [Hid, samesB], Below.refl _ _⟩
  case round =>
    obtain ⟨k, hk, rfl, hgood, hb⟩ := hrel
    by_cases hlt : k < l.length
    · have hlt2 : k < m.length := by have := HL.out; omega
      obtain ⟨b, o, rfl, hx⟩ := HN.out k hlt
      obtain ⟨b2, o2, rfl, hx2⟩ := HN2.out k hlt2
      obtain ⟨c0, c1, c2⟩ := hx.below hb hx.lt
      obtain ⟨e0, e1, e2⟩ := hx2.below hb hx2.lt
      have hq := (HK.out k hlt).keep hb
      have hq2 := (HK2.out k hlt2).keep hb
      obtain ⟨a', cap', S', hS, -⟩ := hq.out
      obtain ⟨a2', cap2', S2', hS2, -⟩ := hq2.out
      rw [hS] at c2 hq
      rw [hS2] at e2 hq2
      have HQ := Lib.hid hq
      have HQ2 := Lib.hid hq2
      have HM := Lib.hid (List.getElem_mem hlt)
      have HT := Lib.hid (sames_take l m k hlt hlt2)
      have HO := Lib.hid (sames_of l m k hlt hlt2)
      clear hS hS2 hq hq2
      go_wp2
      go_region_with (go_at_call 30; refine (IH.out _ HM.out _ _ _ _ (HQ.out.keep (Below.refl _ _).drew) (HQ2.out.keep (Below.refl _ _).drew)).mono ?_; rintro e wn ⟨rfl, hb'⟩; have HB3 := below_call hb.drew hb' hb.size; clear hb')
      all_goals
        cases hs : sameB l[k] m[k]
        · go_wp2
          go_ret
          exact ⟨ret_bool (HO.out hs).symm, HB3⟩
        · go_wp2
          go_roundw
          case rel => exact ⟨k + 1, by omega, by go_num, by show _ = true; rw [HT.out, hgood.out, hs]; rfl, HB3⟩
          case measure => simp [intOf]; omega
    · have : k = l.length := by omega
      subst this
      go_wp2
      go_ret
      exact ⟨ret_bool (by have hg := hgood.out; rw [List.take_length, HL.out, List.take_length] at hg; exact hg.symm), hb⟩

set_option maxHeartbeats 1000000 in
theorem dkeepsame_any (t : Tm) : ∀ (u : Tm) (w : World) (s r : Value), Lies w t.kids s → Lies w u.kids r → Calls Try.prog 30 #[tv t s, tv u r] w fun e w' => e = .returned (.bool (sameB t u)) ∧ Below w.heap.size w w' := by
  induction t using Tm.ind with
  | h t ih =>
    intro u w s r hl hm
    obtain ⟨a, cap, S, rfl, -⟩ := hl.out
    obtain ⟨a2, cap2, S2, rfl, -⟩ := hm.out
    have HTM := Lib.hid (dterms_of t.kids ih)
    have HE := Lib.hid (sameB_eq t u)
    have HL := Lib.hid hl
    have HM := Lib.hid hm
    have H0 := held2_start w t (.slice a t.kids.length cap) u (.slice a2 u.kids.length cap2)
    clear hl hm ih
    unfold tv
    cases ek : (t.k == u.k)
    · go_enter Try.func30, Try.ntmps30
      go_wp2
      go_ret
      exact ⟨ret_bool (by rw [HE.out]; simp only [ek, Bool.false_and]), held2_below H0⟩
    cases ei : (t.i == u.i)
    · go_enter Try.func30, Try.ntmps30
      go_wp2
      go_ret
      exact ⟨ret_bool (by rw [HE.out]; simp only [ek, ei, Bool.false_and, Bool.true_and]), held2_below H0⟩
    go_enter Try.func30, Try.ntmps30
    go_wp2_with fail
    refine (HTM.out u.kids _ _ _ (held2_lies H0 HL.out) (held2_lies H0 HM.out)).mono ?_
    rintro e wn ⟨rfl, hb'⟩
    have H1 := held2_call H0 hb'
    clear hb'
    go_wp2
    go_ret
    exact ⟨ret_bool (by rw [HE.out]; simp only [ek, ei, Bool.true_and]), held2_below H1⟩
end Go.Proofs.Ytgglkpfcaniciaa.Dv

namespace Go.Proofs.Ytgglkpfcaniciaa.Dv
open Go.RowKit

/-- Two files that are the same, or not. -/
def fileB (l m : List Tm) (t u : Tm) : Bool := samesB l m && sameB t u
set_option maxHeartbeats 2000000 in
theorem keepfile_any (l m : List Tm) (t u : Tm) (w : World) (cv dv s r : Value) (hl : Lies w l cv) (hm : Lies w m dv) (ht : Lies w t.kids s) (hu : Lies w u.kids r) : Calls Try.prog 10 #[fv cv t s, fv dv u r] w fun e w' => e = .returned (.bool (fileB l m t u)) ∧ Below w.heap.size w w' := by
  obtain ⟨a1, c1, S1, rfl, -⟩ := hl.out
  obtain ⟨a2, c2, S2, rfl, -⟩ := hm.out
  obtain ⟨a3, c3, S3, rfl, -⟩ := ht.out
  obtain ⟨a4, c4, S4, rfl, -⟩ := hu.out
  have hb1 := (Below.refl w.heap.size w).alloc (Nat.le_refl _) (.cells #[.slice a1 l.length c1, .int .i64 t.k, .int .i64 t.i, .slice a3 t.kids.length c3] 27)
  have hb2 := (Below.refl (w.alloc (.cells #[.slice a1 l.length c1, .int .i64 t.k, .int .i64 t.i, .slice a3 t.kids.length c3] 27)).heap.size (w.alloc (.cells #[.slice a1 l.length c1, .int .i64 t.k, .int .i64 t.i, .slice a3 t.kids.length c3] 27))).alloc (Nat.le_refl _) (.cells #[.slice a2 m.length c2, .int .i64 u.k, .int .i64 u.i, .slice a4 u.kids.length c4] 27)
  have hb := hb1.trans (hb2.mono hb1.size)
  have HBB := Lib.hid hb
  have HD := Lib.hid (dterms_of l (fun x _ y w s r h1 h2 => dkeepsame_any x y w s r h1 h2) m _ _ _ (hl.keep hb) (hm.keep hb))
  have n1 := (hb2.block w.heap.size (by simp)).trans (alloc_new w (.cells #[.slice a1 l.length c1, .int .i64 t.k, .int .i64 t.i, .slice a3 t.kids.length c3] 27))
  have n2 := alloc_new (w.alloc (.cells #[.slice a1 l.length c1, .int .i64 t.k, .int .i64 t.i, .slice a3 t.kids.length c3] 27)) (.cells #[.slice a2 m.length c2, .int .i64 u.k, .int .i64 u.i, .slice a4 u.kids.length c4] 27)
  rw [World.size_alloc] at n2
  have HT := Lib.hid (ht.keep hb)
  have HU := Lib.hid (hu.keep hb)
  have hlt1 : w.heap.size + 1 < ((w.alloc (.cells #[.slice a1 l.length c1, .int .i64 t.k, .int .i64 t.i, .slice a3 t.kids.length c3] 27)).alloc (.cells #[.slice a2 m.length c2, .int .i64 u.k, .int .i64 u.i, .slice a4 u.kids.length c4] 27)).heap.size := by simp
  clear hb1 hb2 hb hl hm ht hu
  unfold fv
  go_enter Try.func10, Try.ntmps10
  go_upto_region 1 with fail
  obtain ⟨W, hW⟩ : ∃ W, W = (w.alloc (.cells #[.slice a1 l.length c1, .int .i64 t.k, .int .i64 t.i, .slice a3 t.kids.length c3] 27)).alloc (.cells #[.slice a2 m.length c2, .int .i64 u.k, .int .i64 u.i, .slice a4 u.kids.length c4] 27) := ⟨_, rfl⟩
  rw [← hW] at HBB HD n1 n2 HT HU hlt1
  rw [← hW]
  clear hW
  have HN1 := Lib.hid n1
  have HN2 := Lib.hid n2
  obtain ⟨y0, y1, y2, y3⟩ := four_cells n1
  obtain ⟨z0, z1, z2, z3⟩ := four_cells n2
  clear n1 n2
  go_wp2_with fail
  refine HD.out.mono ?_
  rintro e w2 ⟨rfl, hb2⟩
  have HB2 := Lib.hid (HBB.out.trans (hb2.mono HBB.out.size))
  have n1 := (hb2.block _ (by omega)).trans HN1.out
  have n2 := (hb2.block _ hlt1).trans HN2.out
  have HT2 := Lib.hid (HT.out.keep hb2)
  have HU2 := Lib.hid (HU.out.keep hb2)
  clear hb2 y0 y1 y2 y3 z0 z1 z2 z3
  obtain ⟨y0, y1, y2, y3⟩ := four_cells n1
  obtain ⟨z0, z1, z2, z3⟩ := four_cells n2
  clear n1 n2
  cases hs : samesB l m with
  | false =>
    go_wp2
    go_ret
    exact ⟨by unfold fileB; rw [hs]; rfl, HB2.out⟩
  | true =>
    go_wp2_with fail
    refine (dkeepsame_any t u _ _ _ HT2.out HU2.out).mono ?_
    rintro e w3 ⟨rfl, hb3⟩
    have HB3 := Lib.hid (HB2.out.trans (hb3.mono HB2.out.size))
    clear hb3
    go_wp2
    go_ret
    exact ⟨by unfold fileB; rw [hs]; rfl, HB3.out⟩
set_option maxHeartbeats 4000000 in
set_option maxRecDepth 20000 in
theorem wakes13_any (w : World) : Calls Try.prog 11 #[] w fun e w' => e = .returned (.bool true) ∧ Below w.heap.size w w' := by
  have H1 := Lib.hid (fun w => parse_any ⟨#[40, 102, 105, 108, 101, 32, 40, 40, 115, 111, 114, 116, 32, 48, 41, 41, 32, 40, 118, 97, 114, 32, 48, 41, 41]⟩ 4611686018427387904 4611686018427387904 w (by decide))
  have H2 := Lib.hid (fun w => parse_any ⟨#[40, 102, 105, 108, 101, 32, 40, 41, 32, 40, 115, 111, 114, 116, 41, 41]⟩ 4621256167635550208 4621256167635550208 w (by decide))
  have H3 := Lib.hid (fun w => parse_any ⟨#[40, 102, 105, 108, 101, 32, 40, 41, 32, 40, 114, 101, 102, 108, 32, 40, 115, 111, 114, 116, 32, 48, 41, 41, 41]⟩ 4607182418800017408 4621256167635550208 w (by decide))
  go_enter Try.func11, Try.ntmps11
  go_wp2_with fail
  refine (H1.out w).mono ?_
  intro e w1 hg
  obtain ⟨l1, hl1⟩ : ∃ l1, ([.mk 1 0 []] : List Tm) = l1 := ⟨_, rfl⟩
  obtain ⟨t1, ht1⟩ : ∃ t1, Tm.mk 2 0 [] = t1 := ⟨_, rfl⟩
  rw [show parseB (ByteArray.mk #[40, 102, 105, 108, 101, 32, 40, 40, 115, 111, 114, 116, 32, 48, 41, 41, 32, 40, 118, 97, 114, 32, 48, 41, 41]).data.toList 4611686018427387904 4611686018427387904 = .ok ([.mk 1 0 []], .mk 2 0 []) from pk1, hl1, ht1] at hg
  obtain ⟨hb1, cv, s, rfl, hl, hlt, hfi⟩ := hg
  obtain ⟨a1, c1, rfl, -, -⟩ := hl.out
  obtain ⟨a2, c2, rfl, -, -⟩ := hlt.out
  have hba := (Below.refl w1.heap.size w1).alloc (Nat.le_refl _) (.cells #[.slice a1 l1.length c1, .int .i64 t1.k, .int .i64 t1.i, .slice a2 t1.kids.length c2] 27)
  have hn := alloc_new w1 (.cells #[.slice a1 l1.length c1, .int .i64 t1.k, .int .i64 t1.i, .slice a2 t1.kids.length c2] 27)
  have HB2 := Lib.hid (hb1.trans (hba.mono hb1.size))
  have HLL := Lib.hid (And.intro hl1 ht1)
  clear hl hlt hfi hb1 hba hl1 ht1
  unfold fv
  go_upto_region 2 with fail
  obtain ⟨W1, hW1⟩ : ∃ W1, W1 = w1.alloc (.cells #[.slice a1 l1.length c1, .int .i64 t1.k, .int .i64 t1.i, .slice a2 t1.kids.length c2] 27) := ⟨_, rfl⟩
  rw [← hW1] at HB2 hn
  rw [← hW1]
  have hlt1 := hltD hn
  have HN := Lib.hid hn
  clear hW1 hn H1
  go_wp2_with fail
  refine (H2.out W1).mono ?_
  intro e w2 hg
  rw [show parseB (ByteArray.mk #[40, 102, 105, 108, 101, 32, 40, 41, 32, 40, 115, 111, 114, 116, 41, 41]).data.toList 4621256167635550208 4621256167635550208 = .error (0, 14) from pk2] at hg
  obtain ⟨hb2, hg⟩ := hg
  have he : e = .returned (.tuple #[.agg #[.slice none 0 0, .int .i64 0, .int .i64 0, .slice none 0 0], .int .i64 2, .int .i64 14, .string ⟨#[]⟩]) := hg
  subst he
  have hba := (Below.refl w2.heap.size w2).alloc (Nat.le_refl _) (.cells #[.slice none 0 0, .int .i64 0, .int .i64 0, .slice none 0 0] 27)
  have HB3 := Lib.hid (HB2.out.trans ((hb2.trans (hba.mono hb2.size)).mono HB2.out.size))
  have HN2 := Lib.hid (((hb2.trans (hba.mono hb2.size)).block _ hlt1).trans HN.out)
  clear hb2 hg hba H2 HN hlt1 HB2
  go_upto_region 3 with fail
  obtain ⟨W2, hW2⟩ : ∃ W2, W2 = w2.alloc (.cells #[.slice none 0 0, .int .i64 0, .int .i64 0, .slice none 0 0] 27) := ⟨_, rfl⟩
  rw [← hW2] at HB3 HN2
  rw [← hW2]
  have hlt2 := hltD HN2.out
  clear hW2
  go_wp2_with fail
  refine (H3.out W2).mono ?_
  intro e w3 hg
  rw [show parseB (ByteArray.mk #[40, 102, 105, 108, 101, 32, 40, 41, 32, 40, 114, 101, 102, 108, 32, 40, 115, 111, 114, 116, 32, 48, 41, 41, 41]).data.toList 4607182418800017408 4621256167635550208 = .error (1, 15) from pk3] at hg
  obtain ⟨hb3, hg⟩ := hg
  have he : e = .returned (.tuple #[.agg #[.slice none 0 0, .int .i64 0, .int .i64 0, .slice none 0 0], .int .i64 4, .int .i64 15, .string ⟨#[100, 101, 101, 112]⟩]) := hg
  subst he
  have hba := (Below.refl w3.heap.size w3).alloc (Nat.le_refl _) (.cells #[.slice none 0 0, .int .i64 0, .int .i64 0, .slice none 0 0] 27)
  have HB4 := Lib.hid (HB3.out.trans ((hb3.trans (hba.mono hb3.size)).mono HB3.out.size))
  have hn4 := ((hb3.trans (hba.mono hb3.size)).block _ hlt2).trans HN2.out
  clear hb3 hg hba H3 HN2 hlt2 HB3
  go_upto_region 4 with fail
  obtain ⟨W3, hW3⟩ : ∃ W3, W3 = w3.alloc (.cells #[.slice none 0 0, .int .i64 0, .int .i64 0, .slice none 0 0] 27) := ⟨_, rfl⟩
  rw [← hW3] at HB4 hn4
  rw [← hW3]
  clear hW3
  obtain ⟨y0, y1, y2, y3⟩ := four_cells hn4
  clear hn4
  rw [show l1.length = 1 by rw [← HLL.out.1]; rfl] at y0
  rw [show t1.k = 2 by rw [← HLL.out.2]; rfl] at y1
  go_wp2
  go_ret
  exact ⟨rfl, HB4.out⟩
end Go.Proofs.Ytgglkpfcaniciaa.Dv

namespace Go.Proofs.Ytgglkpfcaniciaa.Dv

/-- What the one gives the other gives, but for what is beyond an allowance. -/
def Mo {α : Type} (x y : Except PF α) : Prop := (∀ r, x = .ok r → y = .ok r) ∧ ∀ a, x = .error (0, a) → y = .error (0, a)
theorem Mo.refl {α : Type} (x : Except PF α) : Mo x x := ⟨fun _ h => h, fun _ h => h⟩
end Go.Proofs.Ytgglkpfcaniciaa.Dv

namespace Go.Proofs.Ytgglkpfcaniciaa.Dv
open Go.RowKit

mutual
def Tm.deep : Tm → Nat
  | .mk _ _ l => deeps l + 1
def deeps : List Tm → Nat
  | [] => 0
  | t :: r => max t.deep (deeps r)
end

end Go.Proofs.Ytgglkpfcaniciaa.Dv

namespace Go.Proofs.Ytgglkpfcaniciaa.Dv

/-- Within the depth from one to another. -/
def AllIn (m : Nat) (a b : Nat) : Prop := ∀ n : Nat, a ≤ n → n < b → withinB n m = true
def SomeOut (m : Nat) (a b : Nat) : Prop := ∃ n : Nat, a ≤ n ∧ n < b ∧ withinB n m = false
theorem AllIn.nil {m a : Nat} : AllIn m a a := fun n h1 h2 => by omega
theorem AllIn.one {m a : Nat} (h : withinB a m = true) : AllIn m a (a + 1) := fun n h1 h2 => by
  obtain rfl : n = a := by omega
  exact h
theorem SomeOut.mono {m a b c d : Nat} (h : SomeOut m a b) (h1 : c ≤ a) (h2 : b ≤ d) : SomeOut m c d := by
  obtain ⟨n, k1, k2, k3⟩ := h
  exact ⟨n, by omega, by omega, k3⟩
/-- No allowance is passed where the allowances are great enough. -/
def DpN (N : Nat) (dp : DP) : Prop := ∀ d u ts, d + ts.length ≤ N → u + ts.length ≤ N → ∀ k a, dp d u ts ≠ .error (k + 1, a)
theorem kidsD_no {N : Nat} {dp : DP} (hl : DpL dp) (h : DpN N dp) {d : Nat} : ∀ {c u : Nat} {ts : List Tok}, d + ts.length ≤ N → u + ts.length ≤ N → ∀ k a, kidsD dp d c u ts ≠ .error (k + 1, a)
  | 0, u, ts, h1, h2, k, a => fun he => by cases he
  | c + 1, u, ts, h1, h2, k, a => by
    unfold kidsD
    cases hx : dp d u ts with
    | error p => intro he; cases he; exact h _ _ _ h1 h2 _ _ hx
    | ok q =>
      obtain ⟨t, u1, r⟩ := q
      dsimp only
      obtain ⟨l1, l2, -⟩ := hl _ _ _ _ _ _ hx
      cases hy : kidsD dp d c u1 r with
      | error p => intro he; cases he; exact kidsD_no hl h (by omega) (by omega) _ _ hy
      | ok q => intro he; cases he
theorem ruleD_no {N : Nat} {dp : DP} (hl : DpL dp) (h : DpN N dp) {E d u : Nat} {ts : List Tok} (h1 : d + ts.length ≤ N) (h2 : u + ts.length ≤ N) (k a : Nat) : ruleD dp E d u ts ≠ .error (k + 1, a) := by
  unfold ruleD
  cases hw : takeT E 3 ts with
  | error e => intro he; cases he
  | ok w =>
    obtain ⟨w, r1⟩ := w
    have hl1 := takeT_len hw
    dsimp only
    split
    · intro he; cases he
    · cases hn : numD E (ruleN w.s) r1 with
      | error e =>
        intro he
        cases he
        unfold numD at hn
        split at hn
        · split at hn <;> cases hn
        · cases hn
      | ok n =>
        obtain ⟨n, r2⟩ := n
        have hl2 := numD_le hn
        dsimp only
        cases hx : kidsD dp (d + 1) (dkidsN (ruleN w.s)).toNat (u + 1) r2 with
        | error p => intro he; cases he; exact kidsD_no hl h (by omega) (by omega) _ _ hx
        | ok q =>
          obtain ⟨l, u2, r3⟩ := q
          dsimp only
          cases takeT E 2 r3 with
          | error e => intro he; cases he
          | ok o => intro he; cases he
theorem ctxD_no {N : Nat} {dp : DP} (hl : DpL dp) (h : DpN N dp) {E : Nat} : ∀ {f u : Nat} {ts : List Tok}, 1 + ts.length ≤ N → u + ts.length ≤ N → ∀ k a, ctxD dp E f u ts ≠ .error (k + 1, a)
  | 0, u, ts, h1, h2, k, a => fun he => by cases he
  | f + 1, u, ts, h1, h2, k, a => by
    unfold ctxD
    split
    · intro he; cases he
    · cases hx : dp 1 u ts with
      | error p => intro he; cases he; exact h _ _ _ h1 h2 _ _ hx
      | ok q =>
        obtain ⟨t, u1, r⟩ := q
        dsimp only
        obtain ⟨l1, l2, -⟩ := hl _ _ _ _ _ _ hx
        cases hy : ctxD dp E f u1 r with
        | error p => intro he; cases he; exact ctxD_no hl h (by omega) (by omega) _ _ hy
        | ok q => intro he; cases he
theorem fileP_no {N : Nat} {dp : DP} (hl : DpL dp) (h : DpN N dp) {E f : Nat} {ts : List Tok} (h1 : ts.length ≤ N) (k a : Nat) : fileP dp E f ts ≠ .error (k + 1, a) := by
  unfold fileP
  cases e1 : takeT E 1 ts with
  | error e => intro he; cases he
  | ok o =>
  obtain ⟨o, r1⟩ := o
  have l1 := takeT_len e1
  dsimp only
  cases e2 : takeT E 3 r1 with
  | error e => intro he; cases he
  | ok o =>
  obtain ⟨w, r2⟩ := o
  have l2 := takeT_len e2
  dsimp only
  split
  · cases e3 : takeT E 1 r2 with
    | error e => intro he; cases he
    | ok o =>
    obtain ⟨o3, r3⟩ := o
    have l3 := takeT_len e3
    dsimp only
    cases e4 : ctxD dp E f 0 r3 with
    | error p => intro he; cases he; exact ctxD_no hl h (by omega) (by omega) _ _ e4
    | ok q =>
    obtain ⟨c, u, r4⟩ := q
    dsimp only
    have l4 := ctxD_len hl e4
    cases e5 : takeT E 2 r4 with
    | error e => intro he; cases he
    | ok o =>
    obtain ⟨o5, r5⟩ := o
    have l5 := takeT_len e5
    dsimp only
    cases e6 : dp 1 u r5 with
    | error p => intro he; cases he; exact h _ _ _ (by omega) (by omega) _ _ e6
    | ok q =>
    obtain ⟨t, u2, r6⟩ := q
    dsimp only
    cases takeT E 2 r6 with
    | error e => intro he; cases he
    | ok o => intro he; cases he
  · intro he; cases he
theorem derP_no {deep nodes E N : Nat} (h1 : ∀ n : Nat, n ≤ N → withinB n deep = true) (h2 : ∀ n : Nat, n ≤ N → withinB n nodes = true) : ∀ f, DpN N (derP deep nodes E f)
  | 0 => fun d u ts _ _ k a h => by cases h
  | f + 1 => fun d u ts k1 k2 k a => by
    unfold derP
    cases e1 : takeT E 1 ts with
    | error e => intro he; cases he
    | ok o =>
      obtain ⟨o, r⟩ := o
      have l1 := takeT_len e1
      dsimp only
      rw [h1 d (by omega), h2 (u + 1) (by omega)]
      simp only [reduceCtorEq, if_false]
      exact ruleD_no (derP_len f) (derP_no h1 h2 f) (by omega) (by omega) k a
theorem parseB_no {s : List UInt8} {deep nodes N : Nat} (h1 : ∀ n : Nat, n ≤ N → withinB n deep = true) (h2 : ∀ n : Nat, n ≤ N → withinB n nodes = true) (hs : (ofL s).1.length ≤ N) (k a : Nat) : parseB s deep nodes ≠ .error (k + 1, a) := by
  unfold parseB
  cases hx : fileP (derP deep nodes (ofL s).2.1 ((ofL s).1.length + 1)) (ofL s).2.1 ((ofL s).1.length + 1) (ofL s).1 with
  | error p => intro he; cases he; exact fileP_no (derP_len _) (derP_no h1 h2 _) hs _ _ hx
  | ok q =>
    obtain ⟨x, r⟩ := q
    dsimp only
    split
    · intro he; cases he
    · intro he; cases he
end Go.Proofs.Ytgglkpfcaniciaa.Dv

namespace Go.Proofs.Ytgglkpfcaniciaa.Dv

theorem big_read : Ieee.double.read 4787326403894837248 = Fl.fi 1099511627776 := by kernel_rfl
theorem within_big {n : Int} (h0 : 0 ≤ n) (h : n ≤ 1099511627776) : withinB n 4787326403894837248 = true := by
  rw [withinB_eq, big_read]
  exact Fl.fi_mono (by omega) (by decide) h
theorem parse_big {s : List UInt8} (hs : s.length ≤ 3000) {p : PF} (h : parseB s 4787326403894837248 4787326403894837248 = .error p) : p.1 = 0 := by
  obtain ⟨k, a⟩ := p
  cases k with
  | zero => rfl
  | succ k => exact absurd h (parseB_no (N := 3000) (fun n hn => within_big (by omega) (by omega)) (fun n hn => within_big (by omega) (by omega)) (by have := (ofL_bound s).1; omega) k a)
end Go.Proofs.Ytgglkpfcaniciaa.Dv

namespace Go.Proofs.Ytgglkpfcaniciaa
open Go.RowKit

theorem lexL_inv {l : List UInt8} {p : Nat} {t : Tok} {r : List Tok} {o : Option Nat} (h : lexL l p = (t :: r, o)) : ∃ q k n, p + skipL (l.drop p) = q ∧ q < l.length ∧ nextL (l.drop q) = some (k, n) ∧ t = ⟨k, (l.drop q).take n, q⟩ ∧ lexL l (q + n) = (r, o) := by
  by_cases h1 : p + skipL (l.drop p) < l.length
  · cases hn : nextL (l.drop (p + skipL (l.drop p))) with
    | none => rw [lexL_fault rfl h1 hn] at h; cases h
    | some x =>
      obtain ⟨k, n⟩ := x
      rw [lexL_next rfl h1 hn] at h
      obtain ⟨h2, h3⟩ := Prod.mk.inj h
      obtain ⟨h4, h5⟩ := List.cons.inj h2
      exact ⟨_, k, n, rfl, h1, hn, h4.symm, Prod.ext h5 h3⟩
  · rw [lexL_end h1] at h; cases h
theorem lexL_count {l : List UInt8} {o : Option Nat} : ∀ (ts : List Tok) (p : Nat), lexL l p = (ts, o) → ts = [] ∨ ts.length + p ≤ l.length
  | [], _, _ => Or.inl rfl
  | t :: r, p, h => by
    obtain ⟨q, k, n, hq, hq2, hn, -, hr⟩ := lexL_inv h
    have hrg := nextL_range hn
    rw [List.length_drop] at hrg
    rcases lexL_count r (q + n) hr with h1 | h1
    · subst h1; right; simp; omega
    · right; simp; omega
theorem lexL_few {l : List UInt8} {ts : List Tok} {o : Option Nat} (h : lexL l 0 = (ts, o)) : ts.length ≤ l.length := by
  rcases lexL_count ts 0 h with h1 | h1
  · subst h1; exact Nat.zero_le _
  · exact h1

end Go.Proofs.Ytgglkpfcaniciaa

namespace Go.Proofs.Ytgglkpfcaniciaa

/-- Tokens of a text that stands m bytes further on. -/
def shB (m : Nat) (R : List Tok × Option Nat) : List Tok × Option Nat := (R.1.map (fun t => ⟨t.k, t.s, t.at_ + m⟩), R.2.map (· + m))
theorem lex_shift (pre l : List UInt8) : ∀ n p, l.length - p ≤ n → lexL (pre ++ l) (p + pre.length) = shB pre.length (lexL l p) := by
  intro n
  have dr : ∀ q, (pre ++ l).drop (q + pre.length) = l.drop q := fun q => by rw [Nat.add_comm, List.drop_append, List.drop_of_length_le (by omega), List.nil_append, Nat.add_sub_cancel_left]
  induction n with
  | zero =>
    intro p h
    rw [lexL_end (l := l) (p := p) (by omega), lexL_end (by rw [List.length_append]; omega)]
    rfl
  | succ n ih =>
    intro p h
    by_cases h1 : p + skipL (l.drop p) < l.length
    · obtain ⟨q, hq⟩ : ∃ q, p + skipL (l.drop p) = q := ⟨_, rfl⟩
      have hq2 : p + pre.length + skipL ((pre ++ l).drop (p + pre.length)) = q + pre.length := by rw [dr]; omega
      rw [hq] at h1
      have hlt : q + pre.length < (pre ++ l).length := by rw [List.length_append]; omega
      cases hn : nextL (l.drop q) with
      | none => rw [lexL_fault hq h1 hn, lexL_fault hq2 hlt (by rw [dr]; exact hn)]; rfl
      | some x =>
        obtain ⟨k, m⟩ := x
        have hrg := nextL_range hn
        rw [lexL_next hq h1 hn, lexL_next hq2 hlt (by rw [dr]; exact hn), dr, show q + pre.length + m = q + m + pre.length by omega, ih (q + m) (by omega)]
        rfl
    · rw [lexL_end h1, lexL_end (by rw [dr, List.length_append]; omega)]
      rfl

end Go.Proofs.Ytgglkpfcaniciaa

namespace Go.Proofs.Ytgglkpfcaniciaa

/-- What stands behind a token ends it. -/
def Stops (Y : List UInt8) : Prop := ∀ c r, Y = c :: r → wordC c = false
theorem wordC_no {c : UInt8} (h : wordC c = false) : letterC c = false ∧ isd c = false := by unfold wordC at h; simpa using h
theorem runL_cut {p : UInt8 → Bool} {Y : List UInt8} (hY : ∀ c r, Y = c :: r → p c = false) : ∀ X, runL p (X.take (runL p X) ++ Y) = runL p X
  | [] => by
    match Y, hY with
    | [], _ => rfl
    | c :: r, hY => exact runL_no (hY c r rfl)
  | c :: r => by
    by_cases h : p c = true
    · rw [runL_yes h, List.take_succ_cons, List.cons_append, runL_yes h, runL_cut hY r]
    · have h' : p c = false := by simpa using h
      rw [runL_no h', List.take_zero, List.nil_append]
      match Y, hY with
      | [], _ => rfl
      | c :: r, hY => exact runL_no (hY c r rfl)
/-- A token by itself: it is read again wherever something stands behind it that ends it. -/
def Solid (t : Tok) : Prop := ∀ Y, Stops Y → nextL (t.s ++ Y) = some (t.k, t.s.length) ∧ skipL (t.s ++ Y) = 0
theorem solid_of {X : List UInt8} {k n a : Nat} (h : nextL X = some (k, n)) : Solid ⟨k, X.take n, a⟩ := by
  intro Y hY
  match X, h with
  | [], h => cases h
  | c :: r, h =>
    show nextL ((c :: r).take n ++ Y) = some (k, ((c :: r).take n).length) ∧ skipL ((c :: r).take n ++ Y) = 0
    by_cases c1 : c.toNat = 40
    · rw [next_open c1] at h
      cases h
      exact ⟨next_open c1, skipL_stop (by unfold blankC; rw [c1]; rfl) (by omega)⟩
    by_cases c2 : c.toNat = 41
    · rw [next_close c2] at h
      cases h
      exact ⟨next_close c2, skipL_stop (by unfold blankC; rw [c2]; rfl) (by omega)⟩
    have hw := runL_cut (p := wordC) (Y := Y) (fun c r e => hY c r e) (c :: r)
    have hd := runL_cut (p := isd) (Y := Y) (fun c r e => (wordC_no (hY c r e)).2) (c :: r)
    have hlw := runL_le wordC (c :: r)
    have hld := runL_le isd (c :: r)
    by_cases c3 : letterC c = true
    · have hy : runL wordC (c :: r) = runL wordC r + 1 := runL_yes (by unfold wordC; rw [c3]; rfl)
      by_cases c4 : 20 < runL wordC (c :: r)
      · rw [next_long c1 c2 c3 c4] at h; cases h
      · rw [next_word c1 c2 c3 c4] at h
        cases h
        have hl : ((c :: r).take (runL wordC (c :: r))).length = runL wordC (c :: r) := by rw [List.length_take]; omega
        rw [hl]
        rw [hy, List.take_succ_cons, List.cons_append] at hw ⊢
        refine ⟨?_, skipL_stop ?_ ?_⟩
        · rw [next_word c1 c2 c3 (by omega), hw]
        · unfold letterC at c3
          unfold blankC
          have h2 : (97 ≤ c.toNat ∧ c.toNat ≤ 122) ∨ (65 ≤ c.toNat ∧ c.toNat ≤ 90) := by simpa using c3
          rw [beq_eq_false_iff_ne.2 (by omega : c.toNat ≠ 32), beq_eq_false_iff_ne.2 (by omega : c.toNat ≠ 9), beq_eq_false_iff_ne.2 (by omega : c.toNat ≠ 10)]; rfl
        · unfold letterC at c3
          have h2 : (97 ≤ c.toNat ∧ c.toNat ≤ 122) ∨ (65 ≤ c.toNat ∧ c.toNat ≤ 90) := by simpa using c3
          omega
    have c3' : letterC c = false := by simpa using c3
    by_cases c5 : isd c = true
    · have hy : runL isd (c :: r) = runL isd r + 1 := runL_yes c5
      by_cases c6 : getB ((c :: r).take (runL isd (c :: r))) = none ∨ ((((c :: r).drop (runL isd (c :: r))).head?.map letterC).getD false) = true
      · rw [next_bad c1 c2 c3' c5 c6] at h; cases h
      · rw [next_num c1 c2 c3' c5 c6] at h
        cases h
        have hl : ((c :: r).take (runL isd (c :: r))).length = runL isd (c :: r) := by rw [List.length_take]; omega
        have hg : getB ((c :: r).take (runL isd (c :: r))) ≠ none := fun e => c6 (Or.inl e)
        have ht : ((c :: r).take (runL isd (c :: r)) ++ Y).take (runL isd (c :: r)) = (c :: r).take (runL isd (c :: r)) := by
          conv => lhs; rw [List.take_append_of_le_length (by rw [hl]; exact Nat.le_refl _)]
          rw [List.take_take, Nat.min_self]
        have hdr : ((c :: r).take (runL isd (c :: r)) ++ Y).drop (runL isd (c :: r)) = Y := List.drop_left' hl
        have hY2 : (Y.head?.map letterC).getD false = false := by
          match Y, hY with
          | [], _ => rfl
          | d :: s, hY => exact (wordC_no (hY d s rfl)).1
        rw [hl]
        generalize hX : (c :: r).take (runL isd (c :: r)) = X at *
        have hX2 : X = c :: r.take (runL isd r) := by rw [← hX, hy, List.take_succ_cons]
        rw [hX2, List.cons_append] at hd ht hdr ⊢
        refine ⟨?_, skipL_stop ?_ ?_⟩
        · rw [next_num c1 c2 c3' c5 (by rw [hd, ht, hdr, hY2, ← hX2]; rintro (e | e); exact hg e; cases e), hd]
        · unfold isd at c5
          have h2 : 48 ≤ c.toNat ∧ c.toNat ≤ 57 := by simpa using c5
          unfold blankC
          rw [beq_eq_false_iff_ne.2 (by omega : c.toNat ≠ 32), beq_eq_false_iff_ne.2 (by omega : c.toNat ≠ 9), beq_eq_false_iff_ne.2 (by omega : c.toNat ≠ 10)]; rfl
        · unfold isd at c5
          have h2 : 48 ≤ c.toNat ∧ c.toNat ≤ 57 := by simpa using c5
          omega
    · rw [next_other c1 c2 c3' (by simpa using c5)] at h; cases h
theorem solid_all {l : List UInt8} {o : Option Nat} : ∀ (ts : List Tok) (p : Nat), lexL l p = (ts, o) → ∀ t ∈ ts, Solid t
  | [], _, _, _, h => by cases h
  | t :: r, p, h, x, hx => by
    obtain ⟨q, k, n, -, hq, hn, rfl, hr⟩ := lexL_inv h
    rcases List.mem_cons.1 hx with rfl | hx
    · exact solid_of hn
    · exact solid_all r _ hr x hx

/-- A gap: blanks and remarks that are passed over whole. -/
def Gap (g : List UInt8) : Prop := (∀ X, skipL (g ++ X) = g.length + skipL X) ∧ ∀ X, Stops (g ++ X)
def gapL : List (List UInt8) := [[32], [10], [9, 32], [59, 32, 97, 32, 40, 32, 98, 10], [32, 59, 10, 59, 41, 10]]
theorem gap_all : ∀ g ∈ gapL, Gap g := by
  intro g hg
  simp only [gapL, List.mem_cons, List.not_mem_nil, or_false] at hg
  rcases hg with rfl | rfl | rfl | rfl | rfl
  · exact ⟨fun X => by rw [List.cons_append, skipL_blank (by decide)]; simp; omega, fun X c r e => by cases e; decide⟩
  · exact ⟨fun X => by rw [List.cons_append, skipL_blank (by decide)]; simp; omega, fun X c r e => by cases e; decide⟩
  · exact ⟨fun X => by rw [List.cons_append, skipL_blank (by decide), List.cons_append, skipL_blank (by decide)]; simp; omega, fun X c r e => by cases e; decide⟩
  · refine ⟨fun X => ?_, fun X c r e => by cases e; decide⟩
    rw [List.cons_append, skipL_note (by decide) (by decide)]
    rw [show runL lineC ([32, 97, 32, 40, 32, 98, 10] ++ X) = 6 from by simp only [List.cons_append]; iterate 6 rw [runL_yes (by decide)]
                                                                        rw [runL_no (by decide)]]
    show 6 + 1 + skipL (10 :: X) = _
    rw [skipL_blank (by decide)]; simp; omega
  · refine ⟨fun X => ?_, fun X c r e => by cases e; decide⟩
    rw [List.cons_append, skipL_blank (by decide), List.cons_append, skipL_note (by decide) (by decide)]
    rw [show runL lineC ([10, 59, 41, 10] ++ X) = 0 from runL_no (by decide)]
    show 0 + 1 + skipL (10 :: 59 :: 41 :: 10 :: X) + 1 = _
    rw [skipL_blank (by decide), skipL_note (by decide) (by decide), show runL lineC (41 :: 10 :: X) = 1 from by rw [runL_yes (by decide), runL_no (by decide)]]
    show 0 + 1 + (1 + 1 + skipL (10 :: X) + 1) + 1 = _
    rw [skipL_blank (by decide)]; simp; omega

/-- Gaps and tokens, one behind the other. -/
def layL : List (List UInt8 × Tok) → List UInt8
  | [] => []
  | (g, t) :: r => g ++ t.s ++ layL r
theorem layL_append : ∀ a b, layL (a ++ b) = layL a ++ layL b
  | [], b => rfl
  | (g, t) :: r, b => by show g ++ t.s ++ layL (r ++ b) = g ++ t.s ++ layL r ++ layL b; rw [layL_append r b]; simp
end Go.Proofs.Ytgglkpfcaniciaa

namespace Go.Proofs.Ytgglkpfcaniciaa.Dv

inductive Ak : List Tok → List Tok → Prop
  | nil : Ak [] []
  | cons {t u : Tok} {r q : List Tok} : t.k = u.k → t.s = u.s → Ak r q → Ak (t :: r) (u :: q)
theorem Ak.length {r q : List Tok} (h : Ak r q) : r.length = q.length := by
  induction h with
  | nil => rfl
  | cons _ _ _ ih => simp [ih]
theorem ak_of : ∀ {r q : List Tok}, q.map (fun t => (t.k, t.s)) = r.map (fun t => (t.k, t.s)) → Ak r q
  | [], [], _ => .nil
  | [], u :: q, h => by simp at h
  | t :: r, [], h => by simp at h
  | t :: r, u :: q, h => by
    simp only [List.map_cons, List.cons.injEq, Prod.mk.injEq] at h
    exact .cons h.1.1.symm h.1.2.symm (ak_of h.2)
inductive Ra {α : Type} : Except PF (α × Nat × List Tok) → Except PF (α × Nat × List Tok) → Prop
  | ok {a : α} {n : Nat} {r q : List Tok} : Ak r q → Ra (.ok (a, n, r)) (.ok (a, n, q))
  | err {k a b : Nat} : Ra (.error (k, a)) (.error (k, b))
inductive Rb {α : Type} : Except PF (α × List Tok) → Except PF (α × List Tok) → Prop
  | ok {a : α} {r q : List Tok} : Ak r q → Rb (.ok (a, r)) (.ok (a, q))
  | err {k a b : Nat} : Rb (.error (k, a)) (.error (k, b))
inductive Rt : Except Nat (Tok × List Tok) → Except Nat (Tok × List Tok) → Prop
  | ok {t u : Tok} {r q : List Tok} : t.s = u.s → Ak r q → Rt (.ok (t, r)) (.ok (u, q))
  | err {a b : Nat} : Rt (.error a) (.error b)
inductive Rp : Except PF (List Tm × Tm) → Except PF (List Tm × Tm) → Prop
  | ok (x : List Tm × Tm) : Rp (.ok x) (.ok x)
  | err (k a b : Nat) : Rp (.error (k, a)) (.error (k, b))
theorem take_ak {E F k : Nat} {ts us : List Tok} (h : Ak ts us) : Rt (takeT E k ts) (takeT F k us) := by
  cases h with
  | nil => exact .err
  | cons h1 h2 h3 =>
    simp only [takeT, h1]
    split
    · exact .ok h2 h3
    · exact .err
def DpA (dp dq : DP) : Prop := ∀ d u ts us, Ak ts us → Ra (dp d u ts) (dq d u us)
theorem kidsD_ak {dp dq : DP} (h : DpA dp dq) {d : Nat} : ∀ {c u : Nat} {ts us : List Tok}, Ak ts us → Ra (kidsD dp d c u ts) (kidsD dq d c u us)
  | 0, u, ts, us, hk => .ok hk
  | c + 1, u, ts, us, hk => by
    unfold kidsD
    have hr := h d u _ _ hk
    generalize dp d u ts = x at hr
    generalize dq d u us = y at hr
    cases hr with
    | err => exact .err
    | @ok a n r q hk2 =>
      have hr := kidsD_ak h (d := d) (c := c) (u := n) hk2
      dsimp only
      generalize kidsD dp d c n r = x at hr
      generalize kidsD dq d c n q = y at hr
      cases hr with
      | err => exact .err
      | ok hk3 => exact .ok hk3
theorem numD_ak {E F : Nat} {k : Int} {ts us : List Tok} (hk : Ak ts us) : Rb (numD E k ts) (numD F k us) := by
  unfold numD
  split
  · have hr := take_ak (E := E) (F := F) (k := 4) hk
    generalize takeT E 4 ts = x at hr
    generalize takeT F 4 us = y at hr
    cases hr with
    | err => exact .err
    | ok hs hk2 => dsimp only; rw [hs]; exact .ok hk2
  · exact .ok hk
theorem ruleD_ak {dp dq : DP} (h : DpA dp dq) {E F d u : Nat} {ts us : List Tok} (hk : Ak ts us) : Ra (ruleD dp E d u ts) (ruleD dq F d u us) := by
  unfold ruleD
  have hr := take_ak (E := E) (F := F) (k := 3) hk
  generalize takeT E 3 ts = x at hr
  generalize takeT F 3 us = y at hr
  cases hr with
  | err => exact .err
  | @ok t v r q hs hk2 =>
    dsimp only
    rw [hs]
    split
    · exact .err
    · have hr := numD_ak (E := E) (F := F) (k := ruleN v.s) hk2
      generalize numD E (ruleN v.s) r = x at hr
      generalize numD F (ruleN v.s) q = y at hr
      cases hr with
      | err => exact .err
      | @ok n r2 q2 hk3 =>
        dsimp only
        have hr := kidsD_ak h (d := d + 1) (c := (dkidsN (ruleN v.s)).toNat) (u := u + 1) hk3
        generalize kidsD dp (d + 1) (dkidsN (ruleN v.s)).toNat (u + 1) r2 = x at hr
        generalize kidsD dq (d + 1) (dkidsN (ruleN v.s)).toNat (u + 1) q2 = y at hr
        cases hr with
        | err => exact .err
        | @ok l u2 r3 q3 hk4 =>
          dsimp only
          have hr := take_ak (E := E) (F := F) (k := 2) hk4
          generalize takeT E 2 r3 = x at hr
          generalize takeT F 2 q3 = y at hr
          cases hr with
          | err => exact .err
          | ok _ hk5 => exact .ok hk5
theorem derP_ak {deep nodes E F : Nat} : ∀ f, DpA (derP deep nodes E f) (derP deep nodes F f)
  | 0 => fun d u ts us hk => .err
  | f + 1 => fun d u ts us hk => by
    unfold derP
    have hr := take_ak (E := E) (F := F) (k := 1) hk
    generalize takeT E 1 ts = x at hr
    generalize takeT F 1 us = y at hr
    cases hr with
    | err => exact .err
    | ok _ hk2 =>
      dsimp only
      split
      · exact .err
      · split
        · exact .err
        · exact ruleD_ak (derP_ak f) hk2
theorem head_ak {ts us : List Tok} (h : Ak ts us) : (ts.head?.map fun t => t.k == 2) = us.head?.map fun t => t.k == 2 := by
  cases h with
  | nil => rfl
  | cons h1 _ _ => simp [h1]
theorem ctxD_ak {dp dq : DP} (h : DpA dp dq) {E F : Nat} : ∀ {f u : Nat} {ts us : List Tok}, Ak ts us → Ra (ctxD dp E f u ts) (ctxD dq F f u us)
  | 0, u, ts, us, hk => .err
  | f + 1, u, ts, us, hk => by
    unfold ctxD
    rw [head_ak hk]
    split
    · exact .ok hk
    · have hr := h 1 u _ _ hk
      generalize dp 1 u ts = x at hr
      generalize dq 1 u us = y at hr
      cases hr with
      | err => exact .err
      | @ok a n r q hk2 =>
        have hr := ctxD_ak h (E := E) (F := F) (f := f) (u := n) hk2
        dsimp only
        generalize ctxD dp E f n r = x at hr
        generalize ctxD dq F f n q = y at hr
        cases hr with
        | err => exact .err
        | ok hk3 => exact .ok hk3
theorem fileP_ak {dp dq : DP} (h : DpA dp dq) {E F f : Nat} {ts us : List Tok} (hk : Ak ts us) : Rb (fileP dp E f ts) (fileP dq F f us) := by
  unfold fileP
  have hr := take_ak (E := E) (F := F) (k := 1) hk
  generalize takeT E 1 ts = x at hr
  generalize takeT F 1 us = y at hr
  cases hr with
  | err => exact .err
  | @ok t v r q hs hk =>
  dsimp only
  have hr := take_ak (E := E) (F := F) (k := 3) hk
  generalize takeT E 3 r = x at hr
  generalize takeT F 3 q = y at hr
  cases hr with
  | err => exact .err
  | @ok t v r q hs hk =>
  dsimp only
  rw [hs]
  split
  · have hr := take_ak (E := E) (F := F) (k := 1) hk
    generalize takeT E 1 r = x at hr
    generalize takeT F 1 q = y at hr
    cases hr with
    | err => exact .err
    | @ok t v r q hs hk =>
    dsimp only
    have hr := ctxD_ak h (E := E) (F := F) (f := f) (u := 0) hk
    generalize ctxD dp E f 0 r = x at hr
    generalize ctxD dq F f 0 q = y at hr
    cases hr with
    | err => exact .err
    | @ok c u r q hk =>
    dsimp only
    have hr := take_ak (E := E) (F := F) (k := 2) hk
    generalize takeT E 2 r = x at hr
    generalize takeT F 2 q = y at hr
    cases hr with
    | err => exact .err
    | @ok t v r q hs hk =>
    dsimp only
    have hr := h 1 u _ _ hk
    generalize dp 1 u r = x at hr
    generalize dq 1 u q = y at hr
    cases hr with
    | err => exact .err
    | @ok a u2 r q hk =>
    dsimp only
    have hr := take_ak (E := E) (F := F) (k := 2) hk
    generalize takeT E 2 r = x at hr
    generalize takeT F 2 q = y at hr
    cases hr with
    | err => exact .err
    | ok hs hk => exact .ok hk
  · exact .err
theorem parseB_ak {s S : List UInt8} {ts us : List Tok} (hs : lexL s 0 = (ts, none)) (hS : lexL S 0 = (us, none)) (hk : Ak ts us) (deep nodes : Nat) : Rp (parseB s deep nodes) (parseB S deep nodes) := by
  unfold parseB
  have h1 : ofL s = (ts, s.length, false) := by unfold ofL; rw [hs]
  have h2 : ofL S = (us, S.length, false) := by unfold ofL; rw [hS]
  rw [h1, h2]
  dsimp only
  have hl := hk.length
  rw [hl]
  have hr := fileP_ak (derP_ak (deep := deep) (nodes := nodes) (E := s.length) (F := S.length) (us.length + 1)) (E := s.length) (F := S.length) (f := us.length + 1) hk
  generalize fileP (derP deep nodes s.length (us.length + 1)) s.length (us.length + 1) ts = x at hr
  generalize fileP (derP deep nodes S.length (us.length + 1)) S.length (us.length + 1) us = y at hr
  cases hr with
  | err => exact .err _ _ _
  | @ok a r q hk2 =>
    dsimp only
    cases hk2 with
    | nil => exact .ok _
    | cons _ _ _ => exact .err _ _ _
/-- Where a fault stands nothing is read. -/
theorem parse_broken {s : List UInt8} {ts : List Tok} {p : Nat} (h : lexL s 0 = (ts, some p)) (hs : s.length ≤ 3000) : ∃ a, parseB s 4787326403894837248 4787326403894837248 = .error (0, a) := by
  cases hx : parseB s 4787326403894837248 4787326403894837248 with
  | error q =>
    obtain ⟨k, a⟩ := q
    have := parse_big hs hx
    dsimp only at this
    subst this
    exact ⟨a, rfl⟩
  | ok q =>
    exfalso
    unfold parseB at hx
    split at hx; · cases hx
    rename_i x r hf
    have h1 : (ofL s).2.2 = true := by unfold ofL; rw [h]
    rw [h1] at hx
    unfold endP at hx
    rw [if_neg (by simp)] at hx
    cases hx
/-- Gaps and tokens, one behind the other, and no more. -/
theorem lay_stops0 : ∀ ps : List (List UInt8 × Tok), (∀ x ∈ ps, Gap x.1) → Stops (layL ps)
  | [], _ => fun c r e => by cases e
  | (g, t) :: r, h => by
    show Stops (g ++ t.s ++ layL r)
    rw [List.append_assoc]
    exact (h (g, t) (List.mem_cons_self ..)).2 _
theorem lay_lex0 : ∀ ps : List (List UInt8 × Tok), (∀ x ∈ ps, Gap x.1) → (∀ x ∈ ps, Solid x.2) → (lexL (layL ps) 0).2 = none ∧ (lexL (layL ps) 0).1.map (fun t => (t.k, t.s)) = ps.map (fun x => (x.2.k, x.2.s))
  | [], _, _ => by
    rw [lexL_end (by simp [layL])]
    exact ⟨rfl, rfl⟩
  | (g, t) :: r, hg, hs => by
    obtain ⟨i1, i2⟩ := lay_lex0 r (fun x hx => hg x (List.mem_cons_of_mem _ hx)) (fun x hx => hs x (List.mem_cons_of_mem _ hx))
    obtain ⟨g1, -⟩ := hg (g, t) (List.mem_cons_self ..)
    obtain ⟨n1, n2⟩ := hs (g, t) (List.mem_cons_self ..) _ (lay_stops0 r (fun x hx => hg x (List.mem_cons_of_mem _ hx)))
    have e : layL ((g, t) :: r) = g ++ (t.s ++ layL r) := by show g ++ t.s ++ layL r = _; simp
    have hpos := nextL_range n1
    simp only at n1 n2 g1
    have hx := lex_shift (g ++ t.s) (layL r) _ 0 (Nat.le_refl _)
    rw [Nat.zero_add, List.length_append, List.append_assoc] at hx
    rw [e, lexL_next (q := g.length) (k := t.k) (n := t.s.length) (by rw [List.drop_zero, g1, n2]; omega) (by simp at hpos ⊢; omega) (by rw [List.drop_left]; exact n1), hx]
    refine ⟨?_, ?_⟩
    · show (lexL (layL r) 0).2.map _ = none
      rw [i1]; rfl
    · rw [List.drop_left, List.take_left]
      simp only [List.map_cons]
      rw [← i2]
      simp [shB]
end Go.Proofs.Ytgglkpfcaniciaa.Dv

namespace Go.Proofs.Ytgglkpfcaniciaa
open Go.RowKit Go.Lib

theorem foldl_lt (l : List UInt8) : ∀ a : Nat, digs l = true → l.foldl (fun n c => 10 * n + (c.toNat - 48)) a < (a + 1) * 10 ^ l.length := by
  induction l with
  | nil => intro a _; simp
  | cons c l ih =>
    intro a h
    simp only [digs, List.all_cons, Bool.and_eq_true, isd, decide_eq_true_eq] at h
    simp only [List.foldl_cons, List.length_cons, Nat.pow_succ]
    refine Nat.lt_of_lt_of_le (ih _ h.2) ?_
    rw [Nat.mul_comm (10 ^ l.length) 10, ← Nat.mul_assoc]
    exact Nat.mul_le_mul_right _ (by omega)
theorem val_lt {l : List UInt8} (h : digs l = true) : val l < 10 ^ l.length := by
  have := foldl_lt l 0 h
  simpa [val] using this

set_option maxHeartbeats 1000000 in
theorem refget_any (s : ByteArray) (w : World) (hs : s.size ≤ maxLen) : Calls Try.prog 33 #[.string s] w fun e w' => e = .returned (getV s.data.toList) ∧ w' = w := by
  unfold maxLen at hs
  have hsl : s.data.toList.length = s.size := by simp
  by_cases h0 : s.size = 0
  · have hl : s.data.toList = [] := List.eq_nil_of_length_eq_zero (by omega)
    have HV := Lib.hid (getV_none (l := s.data.toList) (by rw [hl]; rfl))
    clear hl hsl
    go_enter Try.func33, Try.ntmps33
    go_wp2
    go_ret2
    rw [HV.out]
    exact ⟨rfl, rfl⟩
  have hne : s.data.toList ≠ [] := fun h => by rw [h] at hsl; simp at hsl; omega
  have e0 : ((s.size : Int) == 0) = false := by simpa using h0
  by_cases h7 : 7 < s.size
  · have HV := Lib.hid (getV_none (get_long (l := s.data.toList) (by omega)))
    clear hne hsl
    go_enter Try.func33, Try.ntmps33
    go_wp2
    go_ret2
    rw [HV.out]
    exact ⟨rfl, rfl⟩
  have h0' : 0 < s.size := by omega
  have e7 : ¬ 7 < (s.size : Int) := by omega
  by_cases h1 : 1 < s.size ∧ ((s[0].toNat : Int) = 48)
  · obtain ⟨h1, h2⟩ := h1
    have HV := Lib.hid (getV_none (l := s.data.toList) (by
      unfold getB; rw [if_pos (Or.inr ⟨by omega, by rw [head_at s h0']; congr 1; apply UInt8.toNat_inj.1; simp; omega⟩)]))
    have e2 : ((s[0].toNat : Int) == 48) = true := by simpa using h2
    clear hne hsl h2
    go_enter Try.func33, Try.ntmps33
    go_wp2
    go_ret2
    rw [HV.out]
    exact ⟨rfl, rfl⟩
  have HN2 : Hid (¬ (1 < s.data.toList.length ∧ s.data.toList.head? = some 48)) := by
    rintro ⟨h, h'⟩
    rw [head_at s h0'] at h'
    simp only [Option.some.injEq] at h'
    exact h1 ⟨by omega, by rw [h']; rfl⟩
  by_cases hA : 1 < s.size
  · have e2 : ((s[0].toNat : Int) == 48) = false := by
      have : ¬ (s[0].toNat : Int) = 48 := fun h => h1 ⟨hA, h⟩
      simpa using this
    clear h1 h0
    have HHN := Lib.hid hne
    have HHS := Lib.hid hsl
    clear hne hsl
    go_enter Try.func33, Try.ntmps33
    go_wp2
    go_loop [4, 5] (fun n i => ∃ k : Nat, k ≤ s.size ∧ i = .int .i64 k ∧ n = .int .i64 (val (s.data.toList.take k) : Nat) ∧ Hid (digs (s.data.toList.take k) = true) ∧ Hid (val (s.data.toList.take k) < 10000000)) (fun _ i => s.size - (RowKit.intOf i).toNat)
    case atStart => exact ⟨0, Nat.zero_le _, rfl, rfl, rfl, (show (0 : Nat) < 10000000 by omega)⟩
    case round =>
      obtain ⟨k, hk, rfl, rfl, hd, hv⟩ := hrel
      by_cases hlt : k < s.size
      · have hts := take_snoc s k hlt
        have hsn := val_snoc (s.data.toList.take k) s[k]
        have hdn := digs_snoc (s.data.toList.take k) s[k]
        rw [← hts] at hsn hdn
        rw [hd.out, Bool.true_and] at hdn
        have hc0 := s[k].toNat_lt
        by_cases l1 : (s[k].toNat : Int) < 48
        · have HF := Lib.hid (getV_none (getB_digs (isd_at s k hlt (by unfold isd; simp; omega))))
          clear hts hsn hdn hc0 hd hv
          go_wp2
          go_ret2
          rw [HF.out]
          exact ⟨rfl, rfl⟩
        by_cases l2 : 57 < (s[k].toNat : Int)
        · have HF := Lib.hid (getV_none (getB_digs (isd_at s k hlt (by unfold isd; simp; omega))))
          clear hts hsn hdn hc0 hd hv
          go_wp2
          go_ret2
          rw [HF.out]
          exact ⟨rfl, rfl⟩
        have hv0 := hv.out
        obtain ⟨v, hve⟩ : ∃ v : Nat, val (s.data.toList.take k) = v := ⟨_, rfl⟩
        rw [hve] at hsn hv0 ⊢
        have l3 : 48 ≤ (s[k].toNat : Int) := by omega
        have l4 : (s[k].toNat : Int) ≤ 57 := by omega
        have HDN : Hid (digs (s.data.toList.take (k + 1)) = true) := by rw [Hid, hdn]; unfold isd; simp; omega
        have HSN := Lib.hid (show ((val (s.data.toList.take (k + 1)) : Nat) : Int) = 10 * (v : Int) + ((s[k].toNat : Int) - 48) by rw [hsn]; omega)
        have hvs := val_at s (k + 1)
        have hw1 : IntKind.u8.wrap ((s[k].toNat : Int) - 48) = (s[k].toNat : Int) - 48 := IntWalk.u8_in _ (by omega)
        have HV5 : Hid (val (s.data.toList.take (k + 1)) < 10000000) := by
          have h1 := val_lt (l := s.data.toList.take (k + 1)) HDN.out
          have h2 : (s.data.toList.take (k + 1)).length ≤ 7 := by rw [List.length_take]; omega
          have h3 : 10 ^ (s.data.toList.take (k + 1)).length ≤ 10 ^ 7 := Nat.pow_le_pow_right (by omega) h2
          rw [Hid]; omega
        clear hts hsn hdn hc0 hd hv hvs hve l1 l2
        go_wp2
        go_round
        case rel => exact ⟨k + 1, hlt, by go_num, by rw [HSN.out], HDN, HV5⟩
        case measure => simp [RowKit.intOf]; omega
      · have hte : s.data.toList.take k = s.data.toList := List.take_of_length_le (by rw [HHS.out]; omega)
        rw [hte] at hd hv ⊢
        obtain ⟨v, hve⟩ : ∃ v : Nat, val s.data.toList = v := ⟨_, rfl⟩
        have hd0 := hd.out
        have hv0 := hv.out
        rw [hve] at hv0
        by_cases l5 : 1000000 < v
        · have HG := Lib.hid (getV_none (getB_great (l := s.data.toList) (by omega)))
          have l6 : 1000000 < (v : Int) := by omega
          rw [hve]
          clear hte hd hv hd0 hve l5
          go_wp2
          go_ret2
          rw [HG.out]
          exact ⟨rfl, rfl⟩
        · have HG := Lib.hid (getV_some (getB_of HHN.out HN2.out hd0 (by omega)))
          have l6 : ¬ 1000000 < (v : Int) := by omega
          rw [hve] at HG ⊢
          clear hte hd hv hd0 hve l5
          go_wp2
          go_ret2
          rw [HG.out]
          exact ⟨rfl, rfl⟩
  · clear h1 h0
    have HHN := Lib.hid hne
    have HHS := Lib.hid hsl
    clear hne hsl
    go_enter Try.func33, Try.ntmps33
    go_wp2
    go_loop [4, 5] (fun n i => ∃ k : Nat, k ≤ s.size ∧ i = .int .i64 k ∧ n = .int .i64 (val (s.data.toList.take k) : Nat) ∧ Hid (digs (s.data.toList.take k) = true) ∧ Hid (val (s.data.toList.take k) < 10000000)) (fun _ i => s.size - (RowKit.intOf i).toNat)
    case atStart => exact ⟨0, Nat.zero_le _, rfl, rfl, rfl, (show (0 : Nat) < 10000000 by omega)⟩
    case round =>
      obtain ⟨k, hk, rfl, rfl, hd, hv⟩ := hrel
      by_cases hlt : k < s.size
      · have hts := take_snoc s k hlt
        have hsn := val_snoc (s.data.toList.take k) s[k]
        have hdn := digs_snoc (s.data.toList.take k) s[k]
        rw [← hts] at hsn hdn
        rw [hd.out, Bool.true_and] at hdn
        have hc0 := s[k].toNat_lt
        by_cases l1 : (s[k].toNat : Int) < 48
        · have HF := Lib.hid (getV_none (getB_digs (isd_at s k hlt (by unfold isd; simp; omega))))
          clear hts hsn hdn hc0 hd hv
          go_wp2
          go_ret2
          rw [HF.out]
          exact ⟨rfl, rfl⟩
        by_cases l2 : 57 < (s[k].toNat : Int)
        · have HF := Lib.hid (getV_none (getB_digs (isd_at s k hlt (by unfold isd; simp; omega))))
          clear hts hsn hdn hc0 hd hv
          go_wp2
          go_ret2
          rw [HF.out]
          exact ⟨rfl, rfl⟩
        have hv0 := hv.out
        obtain ⟨v, hve⟩ : ∃ v : Nat, val (s.data.toList.take k) = v := ⟨_, rfl⟩
        rw [hve] at hsn hv0 ⊢
        have l3 : 48 ≤ (s[k].toNat : Int) := by omega
        have l4 : (s[k].toNat : Int) ≤ 57 := by omega
        have HDN : Hid (digs (s.data.toList.take (k + 1)) = true) := by rw [Hid, hdn]; unfold isd; simp; omega
        have HSN := Lib.hid (show ((val (s.data.toList.take (k + 1)) : Nat) : Int) = 10 * (v : Int) + ((s[k].toNat : Int) - 48) by rw [hsn]; omega)
        have hvs := val_at s (k + 1)
        have hw1 : IntKind.u8.wrap ((s[k].toNat : Int) - 48) = (s[k].toNat : Int) - 48 := IntWalk.u8_in _ (by omega)
        have HV5 : Hid (val (s.data.toList.take (k + 1)) < 10000000) := by
          have h1 := val_lt (l := s.data.toList.take (k + 1)) HDN.out
          have h2 : (s.data.toList.take (k + 1)).length ≤ 7 := by rw [List.length_take]; omega
          have h3 : 10 ^ (s.data.toList.take (k + 1)).length ≤ 10 ^ 7 := Nat.pow_le_pow_right (by omega) h2
          rw [Hid]; omega
        clear hts hsn hdn hc0 hd hv hvs hve l1 l2
        go_wp2
        go_round
        case rel => exact ⟨k + 1, hlt, by go_num, by rw [HSN.out], HDN, HV5⟩
        case measure => simp [RowKit.intOf]; omega
      · have hte : s.data.toList.take k = s.data.toList := List.take_of_length_le (by rw [HHS.out]; omega)
        rw [hte] at hd hv ⊢
        obtain ⟨v, hve⟩ : ∃ v : Nat, val s.data.toList = v := ⟨_, rfl⟩
        have hd0 := hd.out
        have hv0 := hv.out
        rw [hve] at hv0
        by_cases l5 : 1000000 < v
        · have HG := Lib.hid (getV_none (getB_great (l := s.data.toList) (by omega)))
          have l6 : 1000000 < (v : Int) := by omega
          rw [hve]
          clear hte hd hv hd0 hve l5
          go_wp2
          go_ret2
          rw [HG.out]
          exact ⟨rfl, rfl⟩
        · have HG := Lib.hid (getV_some (getB_of HHN.out HN2.out hd0 (by omega)))
          have l6 : ¬ 1000000 < (v : Int) := by omega
          rw [hve] at HG ⊢
          clear hte hd hv hd0 hve l5
          go_wp2
          go_ret2
          rw [HG.out]
          exact ⟨rfl, rfl⟩

end Go.Proofs.Ytgglkpfcaniciaa

namespace Go.Proofs.Ytgglkpfcaniciaa
open Go.RowKit

theorem info_ptok : (Try.prog.info? 44).map (fun i => (i.zero, i.size, i.bytes)) = some (some (.agg #[.int .i64 0, .string ⟨#[]⟩, .int .i64 0]), 3, 32) := by kernel_rfl
theorem slice_two {P : Program} {t : TypeId} (w : World) (s : ByteArray) (p q : Nat) (ht : P.underlying t = some .string) (h : p ≤ q) (h2 : q ≤ s.size) :
    (Instr.slice t (.string s) (some (.int .i64 (p : Int))) (some (.int .i64 (q : Int))) none).run P w = .ok (.string (s.extract p q)) w := by
  rw [run_slice_string w t s .i64 .i64 _ _ ht (by omega) (by omega) (by omega)]
  rfl
theorem lx_blank {s : ByteArray} {p : Nat} (h : p < s.size) (hb : blankC s[p] = true) : lexL s.data.toList p = lexL s.data.toList (p + 1) := lexL_same (by rw [drop_at s p h, skipL_blank hb]; omega)
theorem lx_note {s : ByteArray} {p : Nat} (h : p < s.size) (hb : s[p].toNat = 59) : lexL s.data.toList p = lexL s.data.toList (p + runL lineC (s.data.toList.drop p)) := by
  have hline : lineC s[p] = true := by unfold lineC; rw [hb]; rfl
  have hbl : blankC s[p] = false := by unfold blankC; rw [hb]; rfl
  have hrl : runL lineC (s.data.toList.drop p) = runL lineC (s.data.toList.drop (p + 1)) + 1 := by rw [drop_at s p h, runL_yes hline]
  refine lexL_same ?_
  have hd : skipL (s.data.toList.drop p) = runL lineC (s.data.toList.drop (p + 1)) + 1 + skipL ((s.data.toList.drop (p + 1)).drop (runL lineC (s.data.toList.drop (p + 1)))) := by
    conv => lhs; rw [drop_at s p h]
    rw [skipL_note hbl hb]
  rw [List.drop_drop] at hd
  rw [hd, hrl, show p + (runL lineC (s.data.toList.drop (p + 1)) + 1) = p + 1 + runL lineC (s.data.toList.drop (p + 1)) by omega]
  omega
theorem lx_skip {s : ByteArray} {p : Nat} (h : p < s.size) (hb : blankC s[p] = false) (h59 : s[p].toNat ≠ 59) : p + skipL (s.data.toList.drop p) = p := by rw [drop_at s p h, skipL_stop hb h59]; rfl
theorem lx_tok {s : ByteArray} {p k n : Nat} {ts : List Tok} {R : List Tok × Option Nat} (hR : lexTo ts (lexL s.data.toList p) = R) (h : p < s.size) (hq : p + skipL (s.data.toList.drop p) = p) (hn : nextL (s.data.toList.drop p) = some (k, n)) : lexTo (ts ++ [⟨k, (s.data.toList.drop p).take n, p⟩]) (lexL s.data.toList (p + n)) = R := by
  rw [← hR, lexL_next hq (by simpa using h) hn]
  exact (lexTo_next ts ⟨k, _, p⟩ _).symm
theorem lx_bad {s : ByteArray} {p : Nat} {ts : List Tok} {R : List Tok × Option Nat} (hR : lexTo ts (lexL s.data.toList p) = R) (h : p < s.size) (hq : p + skipL (s.data.toList.drop p) = p) (hn : nextL (s.data.toList.drop p) = none) : R = (ts, some p) := by
  rw [← hR, lexL_fault hq (by simpa using h) hn]; simp [lexTo]

/-- What the page's Lex hands back. -/
def plexGives (T : TypeId) (w : World) (R : List Tok × Option Nat) (e : Ending) (w' : World) : Prop :=
  Below w.heap.size w w' ∧ ∃ v, Toks T w.heap.size w' v R.1 ∧ e = .returned (.tuple #[v, .int .i64 (match R.2 with | none => -1 | some p => (p : Int))])

set_option maxRecDepth 20000 in
set_option maxHeartbeats 8000000 in
theorem plex_any (s : ByteArray) (w : World) (hs : s.size ≤ 1000000) :
    Calls Try.prog 14 #[.string s] w (plexGives 44 w (lexL s.data.toList 0)) := by
  have HPL := Lib.hid pletter_any
  have HPD := Lib.hid pdigit_any
  have HGET := Lib.hid fun t w (h : t.size ≤ maxLen) => refget_any t w h
  have hsl : s.data.toList.length = s.size := by simp
  have HSL := Lib.hid hsl
  obtain ⟨R, hR⟩ : ∃ R, lexL s.data.toList 0 = R := ⟨_, rfl⟩
  rw [hR]
  have HRR := Lib.hid hR
  obtain ⟨i0, hi, hz0, hz1, hz2⟩ := tok_parts info_ptok
  have HI := Lib.hid (And.intro hi (And.intro hz0 (And.intro hz1 hz2)))
  clear hR hsl hi hz0 hz1 hz2
  go_enter Try.func14, Try.ntmps14
  go_wp2_with fail
  go_loopw [4, 5] (fun v i wr => ∃ (p : Nat) (ts : List Tok), p ≤ s.size ∧ ts.length ≤ p ∧ i = .int .i64 p ∧ Hid (lexTo ts (lexL s.data.toList p) = R) ∧ Hid (Toks 44 w.heap.size wr v ts) ∧ Below w.heap.size w wr) (fun _ i _ => s.size - (intOf i).toNat)
  case atStart => exact ⟨0, [], Nat.zero_le _, Nat.zero_le _, rfl, by rw [Hid, HRR.out]; simp [lexTo], toks_nil _ _ _, Below.refl _ _⟩
  case round =>
    obtain ⟨p, ts, hp, htp, rfl, hR, hT, hB⟩ := hrel
    have HB := Lib.hid hB
    have hB2 := hB.size
    clear hB
    by_cases hlt : p < s.size
    · by_cases c32 : s[p].toNat = 32
      · have b32 : ((s[p].toNat : Int) == 32) = true := (u8_eq (n := 32)).trans (by rw [c32]; rfl)
        have HN := Lib.hid (show lexTo ts (lexL s.data.toList (p + 1)) = R by rw [← lx_blank hlt (by unfold blankC; rw [c32]; rfl)]; exact hR.out)
        clear c32 hR
        go_wp2_with fail
        go_roundw
        case rel => exact ⟨p + 1, ts, hlt, by omega, by go_num, HN.out, hT, HB.out⟩
        case measure => simp [intOf]; omega
      have b32 : ((s[p].toNat : Int) == 32) = false := (u8_eq (n := 32)).trans (beq_eq_false_iff_ne.2 c32)
      by_cases c9 : s[p].toNat = 9
      · have b9 : ((s[p].toNat : Int) == 9) = true := (u8_eq (n := 9)).trans (by rw [c9]; rfl)
        have HN := Lib.hid (show lexTo ts (lexL s.data.toList (p + 1)) = R by rw [← lx_blank hlt (by unfold blankC; rw [c9]; rfl)]; exact hR.out)
        clear c9 hR
        go_wp2_with fail
        go_roundw
        case rel => exact ⟨p + 1, ts, hlt, by omega, by go_num, HN.out, hT, HB.out⟩
        case measure => simp [intOf]; omega
      have b9 : ((s[p].toNat : Int) == 9) = false := (u8_eq (n := 9)).trans (beq_eq_false_iff_ne.2 c9)
      by_cases c10 : s[p].toNat = 10
      · have b10 : ((s[p].toNat : Int) == 10) = true := (u8_eq (n := 10)).trans (by rw [c10]; rfl)
        have HN := Lib.hid (show lexTo ts (lexL s.data.toList (p + 1)) = R by rw [← lx_blank hlt (by unfold blankC; rw [c10]; rfl)]; exact hR.out)
        clear c10 hR
        go_wp2_with fail
        go_roundw
        case rel => exact ⟨p + 1, ts, hlt, by omega, by go_num, HN.out, hT, HB.out⟩
        case measure => simp [intOf]; omega
      have b10 : ((s[p].toNat : Int) == 10) = false := (u8_eq (n := 10)).trans (beq_eq_false_iff_ne.2 c10)
      have hblank : blankC s[p] = false := by unfold blankC; rw [beq_eq_false_iff_ne.2 c32, beq_eq_false_iff_ne.2 c9, beq_eq_false_iff_ne.2 c10]; rfl
      clear c32 c9 c10
      by_cases c59 : s[p].toNat = 59
      · have b59 : ((s[p].toNat : Int) == 59) = true := (u8_eq (n := 59)).trans (by rw [c59]; rfl)
        have hle := runL_at lineC s p hp
        obtain ⟨E, hE⟩ : ∃ E, p + runL lineC (s.data.toList.drop p) = E := ⟨_, rfl⟩
        have HE := Lib.hid hE
        have HN := Lib.hid (show lexTo ts (lexL s.data.toList E) = R by rw [← hE, ← lx_note hlt c59]; exact hR.out)
        have hE1 : p < E := by
          rw [← hE, drop_at s p hlt, runL_yes (by unfold lineC; rw [c59]; rfl)]; omega
        rw [hE] at hle
        clear hE c59 hR hblank
        go_wp2_with fail
        go_loop [5] (fun i => ∃ k : Nat, k ≤ s.size ∧ i = .int .i64 k ∧ Hid (k + runL lineC (s.data.toList.drop k) = E)) (fun i => s.size - (intOf i).toNat)
        case atStart => exact ⟨p, hp, rfl, HE.out⟩
        case round =>
          obtain ⟨k, hk, rfl, hq⟩ := hrel
          by_cases hk2 : k < s.size
          · have hd := hq.out
            rw [drop_at s k hk2] at hd
            by_cases d10 : s[k].toNat = 10
            · have f10 : ((s[k].toNat : Int) == 10) = true := (u8_eq (n := 10)).trans (by rw [d10]; rfl)
              have e10 : ((s[k].toNat : Int) != 10) = false := by rw [bne, f10]; rfl
              rw [runL_no (by unfold lineC; rw [d10]; rfl)] at hd
              obtain rfl : k = E := by omega
              clear hd hq d10 HE
              go_wp2_with fail
              go_roundw
              case rel => exact ⟨k, ts, hk, by omega, rfl, HN.out, hT, HB.out⟩
              case measure => simp [intOf]; omega
            · have f10 : ((s[k].toNat : Int) == 10) = false := (u8_eq (n := 10)).trans (beq_eq_false_iff_ne.2 d10)
              have e10 : ((s[k].toNat : Int) != 10) = true := by rw [bne, f10]; rfl
              rw [runL_yes (by unfold lineC; rw [beq_eq_false_iff_ne.2 d10]; rfl)] at hd
              have HQ := Lib.hid (show k + 1 + runL lineC (s.data.toList.drop (k + 1)) = E by omega)
              clear hd hq d10
              go_wp2_with fail
              go_round
              case rel => exact ⟨k + 1, hk2, by go_num, HQ.out⟩
              case measure => simp [intOf]; omega
          · have hd := hq.out
            rw [List.drop_of_length_le (by rw [HSL.out]; omega)] at hd
            obtain rfl : k = E := by simpa [runL] using hd
            clear hd hq HE
            go_wp2_with fail
            go_roundw
            case rel => exact ⟨k, ts, hk, by omega, rfl, HN.out, hT, HB.out⟩
            case measure => simp [intOf]; omega
      have b59 : ((s[p].toNat : Int) == 59) = false := (u8_eq (n := 59)).trans (beq_eq_false_iff_ne.2 c59)
      have hsk := lx_skip hlt hblank c59
      have HSKP := Lib.hid hsk
      clear hblank c59 hsk
      by_cases c40 : s[p].toNat = 40
      · have b40 : ((s[p].toNat : Int) == 40) = true := (u8_eq (n := 40)).trans (by rw [c40]; rfl)
        have HN := Lib.hid (show lexTo (ts ++ [⟨1, [40], p⟩]) (lexL s.data.toList (p + 1)) = R by
          have h0 := lx_tok hR.out hlt (lx_skip hlt (by unfold blankC; rw [c40]; rfl) (by omega)) (by rw [drop_at s p hlt]; exact next_open c40)
          rw [drop_at s p hlt, List.take_succ_cons, List.take_zero, show s[p] = 40 from UInt8.toNat_inj.1 (by rw [c40]; rfl)] at h0
          exact h0)
        clear c40 hR
        go_wp2_with (at_builtin; refine wpList_append_lies _ rfl _ _ 38 rfl w.heap.size 44 i0 _ 3 32 (by kernel_rfl) HI.out.1 HI.out.2.1 HI.out.2.2.1 HI.out.2.2.2 rfl (by decide) _ ts.length (cells3 ts) rfl (toks_later hT.out ((Below.refl _ _).alloc (Nat.le_refl _) _)) _ 1 1 (cells3 [⟨1, [40], p⟩]) rfl rfl ?news ?one (by decide) ?max ?bytes ?base _ rfl ?next)
        case news => first | exact news_tok _ _ _ | (intro j u h; exact h)
        case one => intro v hv; simp [cells3] at hv; rcases hv with rfl | rfl | rfl <;> rfl
        case max => unfold maxLen; omega
        case bytes => omega
        case base => first | (simp; omega) | omega
        case next =>
          intro g cap3 w3 hown hgrow hat _
          have HT2 := Lib.hid (toks_step hown)
          have HB2 := Lib.hid ((HB.out.alloc hB2 _).grown hgrow (by first | (simp; omega) | omega) (toks_above hT.out))
          clear hown hgrow hat
          go_wp2_with fail
          go_roundw
          case rel => exact ⟨p + 1, ts ++ [⟨1, [40], p⟩], by omega, by simp; omega, by go_num, HN, HT2, HB2.out⟩
          case measure => simp [intOf]; omega
      have b40 : ((s[p].toNat : Int) == 40) = false := (u8_eq (n := 40)).trans (beq_eq_false_iff_ne.2 c40)
      by_cases c41 : s[p].toNat = 41
      · have b41 : ((s[p].toNat : Int) == 41) = true := (u8_eq (n := 41)).trans (by rw [c41]; rfl)
        have HN := Lib.hid (show lexTo (ts ++ [⟨2, [41], p⟩]) (lexL s.data.toList (p + 1)) = R by
          have h0 := lx_tok hR.out hlt (lx_skip hlt (by unfold blankC; rw [c41]; rfl) (by omega)) (by rw [drop_at s p hlt]; exact next_close c41)
          rw [drop_at s p hlt, List.take_succ_cons, List.take_zero, show s[p] = 41 from UInt8.toNat_inj.1 (by rw [c41]; rfl)] at h0
          exact h0)
        clear c41 hR
        go_wp2_with (at_builtin; refine wpList_append_lies _ rfl _ _ 38 rfl w.heap.size 44 i0 _ 3 32 (by kernel_rfl) HI.out.1 HI.out.2.1 HI.out.2.2.1 HI.out.2.2.2 rfl (by decide) _ ts.length (cells3 ts) rfl (toks_later hT.out ((Below.refl _ _).alloc (Nat.le_refl _) _)) _ 1 1 (cells3 [⟨2, [41], p⟩]) rfl rfl ?news ?one (by decide) ?max ?bytes ?base _ rfl ?next)
        case news => first | exact news_tok _ _ _ | (intro j u h; exact h)
        case one => intro v hv; simp [cells3] at hv; rcases hv with rfl | rfl | rfl <;> rfl
        case max => unfold maxLen; omega
        case bytes => omega
        case base => first | (simp; omega) | omega
        case next =>
          intro g cap3 w3 hown hgrow hat _
          have HT2 := Lib.hid (toks_step hown)
          have HB2 := Lib.hid ((HB.out.alloc hB2 _).grown hgrow (by first | (simp; omega) | omega) (toks_above hT.out))
          clear hown hgrow hat
          go_wp2_with fail
          go_roundw
          case rel => exact ⟨p + 1, ts ++ [⟨2, [41], p⟩], by omega, by simp; omega, by go_num, HN, HT2, HB2.out⟩
          case measure => simp [intOf]; omega
      have b41 : ((s[p].toNat : Int) == 41) = false := (u8_eq (n := 41)).trans (beq_eq_false_iff_ne.2 c41)
      have HLC := Lib.hid (HPL.out s[p])
      cases cl : letterC s[p] with
      | true =>
        rw [cl] at HLC
        obtain ⟨n, hn⟩ : ∃ n, runL wordC (s.data.toList.drop p) = n := ⟨_, rfl⟩
        have hle := runL_at wordC s p hp
        rw [hn] at hle
        have hn1 : 1 ≤ n := by rw [← hn, drop_at s p hlt, runL_yes (by unfold wordC; rw [cl]; rfl)]; omega
        obtain ⟨E, hE⟩ : ∃ E, p + n = E := ⟨_, rfl⟩
        obtain ⟨c, hc⟩ : ∃ c, (s.data.toList.drop p).take n = c := ⟨_, rfl⟩
        have HE := Lib.hid (show p + runL wordC (s.data.toList.drop p) = E by rw [hn]; exact hE)
        have hsub : IntKind.i64.wrap ((E : Int) - (p : Int)) = (n : Int) := by rw [← hE, show ((p + n : Nat) : Int) - (p : Int) = n by omega]; exact IntWalk.i64_in _ (by omega)
        have hsli : ∀ w', (Instr.slice 9 (.string s) (some (.int .i64 (p : Int))) (some (.int .i64 (E : Int))) none).run Try.prog w' = .ok (.string ⟨c.toArray⟩) w' := fun w' => by
          rw [slice_two w' s p E rfl (by omega) (by omega), Lib.extract_eq, ← hE, Nat.add_sub_cancel_left, hc]
        have HLONG := Lib.hid (show 20 < n → R = (ts, some p) from fun h => lx_bad hR.out hlt HSKP.out (by rw [drop_at s p hlt]; exact next_long c40 c41 cl (by rw [← drop_at s p hlt, hn]; exact h)))
        have HSHORT := Lib.hid (show ¬ 20 < n → lexTo (ts ++ [⟨3, c, p⟩]) (lexL s.data.toList E) = R from fun h => by
          have h0 := lx_tok hR.out hlt HSKP.out (k := 3) (n := n) (by rw [drop_at s p hlt, next_word c40 c41 cl (by rw [← drop_at s p hlt, hn]; exact h), ← drop_at s p hlt, hn])
          rw [hc, hE] at h0; exact h0)
        have hpE : p < E := by omega
        have hEs : E ≤ s.size := by omega
        clear hE hc hn hR c40 c41 cl hle
        go_wp2_with fail
        refine (HLC.out _).mono ?_
        rintro e w1 ⟨rfl, rfl⟩
        go_wp2_with fail
        go_loop [7] (fun i => ∃ k : Nat, k ≤ s.size ∧ i = .int .i64 k ∧ Hid (k + runL wordC (s.data.toList.drop k) = E)) (fun i => s.size - (intOf i).toNat)
        case atStart => exact ⟨p, hp, rfl, HE.out⟩
        case round =>
          obtain ⟨k, hk, rfl, hq⟩ := hrel
          by_cases hk2 : k < s.size
          · have hd := hq.out
            rw [drop_at s k hk2] at hd
            have HKL := Lib.hid (HPL.out s[k])
            have HKD := Lib.hid (HPD.out s[k])
            cases d1 : letterC s[k] with
            | true =>
              rw [d1] at HKL
              rw [runL_yes (by unfold wordC; rw [d1]; rfl)] at hd
              have HQ := Lib.hid (show k + 1 + runL wordC (s.data.toList.drop (k + 1)) = E by omega)
              clear hd hq d1 hsub hsli
              go_wp2_with fail
              refine (HKL.out _).mono ?_
              rintro e w1 ⟨rfl, rfl⟩
              go_wp2_with fail
              go_round
              case rel => exact ⟨k + 1, hk2, by go_num, HQ.out⟩
              case measure => simp [intOf]; omega
            | false =>
              rw [d1] at HKL
              cases d2 : isd s[k] with
              | true =>
                rw [d2] at HKD
                rw [runL_yes (by unfold wordC; rw [d1, d2]; rfl)] at hd
                have HQ := Lib.hid (show k + 1 + runL wordC (s.data.toList.drop (k + 1)) = E by omega)
                clear hd hq d1 d2 hsub hsli
                go_wp2_with fail
                refine (HKL.out _).mono ?_
                rintro e w1 ⟨rfl, rfl⟩
                go_wp2_with fail
                refine (HKD.out _).mono ?_
                rintro e w1 ⟨rfl, rfl⟩
                go_wp2_with fail
                go_round
                case rel => exact ⟨k + 1, hk2, by go_num, HQ.out⟩
                case measure => simp [intOf]; omega
              | false =>
                rw [d2] at HKD
                rw [runL_no (by unfold wordC; rw [d1, d2]; rfl)] at hd
                obtain rfl : k = E := by omega
                clear hd hq d1 d2 HE
                go_wp2_with fail
                refine (HKL.out _).mono ?_
                rintro e w1 ⟨rfl, rfl⟩
                go_wp2_with fail
                refine (HKD.out _).mono ?_
                rintro e w1 ⟨rfl, rfl⟩
                by_cases h20 : 20 < n
                · have h20' : 20 < (n : Int) := by omega
                  have HF := Lib.hid (HLONG.out h20)
                  go_wp2
                  go_ret2
                  exact ⟨HB.out, by rw [HF.out]; exact ⟨_, hT.out, rfl⟩⟩
                · have h20' : ¬ 20 < (n : Int) := by omega
                  have HF := Lib.hid (HSHORT.out h20)
                  go_wp2_with (at_builtin; refine wpList_append_lies _ rfl _ _ 38 rfl w.heap.size 44 i0 _ 3 32 (by kernel_rfl) HI.out.1 HI.out.2.1 HI.out.2.2.1 HI.out.2.2.2 rfl (by decide) _ ts.length (cells3 ts) rfl (toks_later hT.out ((Below.refl _ _).alloc (Nat.le_refl _) _)) _ 1 1 (cells3 [⟨3, c, p⟩]) rfl rfl ?news ?one (by decide) ?max ?bytes ?base _ rfl ?next)
                  case news => first | exact news_tok _ _ _ | (intro j u h; exact h)
                  case one => intro v hv; simp [cells3] at hv; rcases hv with rfl | rfl | rfl <;> rfl
                  case max => unfold maxLen; omega
                  case bytes => omega
                  case base => first | (simp; omega) | omega
                  case next =>
                    intro g cap3 w3 hown hgrow hat _
                    have HT2 := Lib.hid (toks_step hown)
                    have HB2 := Lib.hid ((HB.out.alloc hB2 _).grown hgrow (by first | (simp; omega) | omega) (toks_above hT.out))
                    clear hown hgrow hat
                    go_wp2_with fail
                    go_roundw
                    case rel => exact ⟨k, ts ++ [⟨3, c, p⟩], by omega, by simp; omega, rfl, HF, HT2, HB2.out⟩
                    case measure => simp [intOf]; omega
          · have hd := hq.out
            rw [List.drop_of_length_le (by rw [HSL.out]; omega)] at hd
            obtain rfl : k = E := by simpa [runL] using hd
            clear hd hq HE
            by_cases h20 : 20 < n
            · have h20' : 20 < (n : Int) := by omega
              have HF := Lib.hid (HLONG.out h20)
              go_wp2
              go_ret2
              exact ⟨HB.out, by rw [HF.out]; exact ⟨_, hT.out, rfl⟩⟩
            · have h20' : ¬ 20 < (n : Int) := by omega
              have HF := Lib.hid (HSHORT.out h20)
              go_wp2_with (at_builtin; refine wpList_append_lies _ rfl _ _ 38 rfl w.heap.size 44 i0 _ 3 32 (by kernel_rfl) HI.out.1 HI.out.2.1 HI.out.2.2.1 HI.out.2.2.2 rfl (by decide) _ ts.length (cells3 ts) rfl (toks_later hT.out ((Below.refl _ _).alloc (Nat.le_refl _) _)) _ 1 1 (cells3 [⟨3, c, p⟩]) rfl rfl ?news ?one (by decide) ?max ?bytes ?base _ rfl ?next)
              case news => first | exact news_tok _ _ _ | (intro j u h; exact h)
              case one => intro v hv; simp [cells3] at hv; rcases hv with rfl | rfl | rfl <;> rfl
              case max => unfold maxLen; omega
              case bytes => omega
              case base => first | (simp; omega) | omega
              case next =>
                intro g cap3 w3 hown hgrow hat _
                have HT2 := Lib.hid (toks_step hown)
                have HB2 := Lib.hid ((HB.out.alloc hB2 _).grown hgrow (by first | (simp; omega) | omega) (toks_above hT.out))
                clear hown hgrow hat
                go_wp2_with fail
                go_roundw
                case rel => exact ⟨k, ts ++ [⟨3, c, p⟩], by omega, by simp; omega, rfl, HF, HT2, HB2.out⟩
                case measure => simp [intOf]; omega
      | false =>
        rw [cl] at HLC
        have HDC := Lib.hid (HPD.out s[p])
        cases cd : isd s[p] with
        | true =>
          rw [cd] at HDC
          obtain ⟨n, hn⟩ : ∃ n, runL isd (s.data.toList.drop p) = n := ⟨_, rfl⟩
          have hle := runL_at isd s p hp
          rw [hn] at hle
          have hn1 : 1 ≤ n := by rw [← hn, drop_at s p hlt, runL_yes cd]; omega
          obtain ⟨E, hE⟩ : ∃ E, p + n = E := ⟨_, rfl⟩
          obtain ⟨c, hc⟩ : ∃ c, (s.data.toList.drop p).take n = c := ⟨_, rfl⟩
          have HE := Lib.hid (show p + runL isd (s.data.toList.drop p) = E by rw [hn]; exact hE)
          have hsli : ∀ w', (Instr.slice 9 (.string s) (some (.int .i64 (p : Int))) (some (.int .i64 (E : Int))) none).run Try.prog w' = .ok (.string ⟨c.toArray⟩) w' := fun w' => by
            rw [slice_two w' s p E rfl (by omega) (by omega), Lib.extract_eq, ← hE, Nat.add_sub_cancel_left, hc]
          have hcl : c.length ≤ s.size := by rw [← hc, List.length_take, List.length_drop, HSL.out]; omega
          have HG := Lib.hid (fun w => HGET.out ⟨c.toArray⟩ w (by show c.toArray.size ≤ maxLen; unfold maxLen; simp; omega))
          rw [show (ByteArray.mk c.toArray).data.toList = c from rfl] at HG
          have HBAD := Lib.hid (show (getB c = none ∨ (((s.data.toList.drop E).head?.map letterC).getD false) = true) → R = (ts, some p) from fun h => lx_bad hR.out hlt HSKP.out (by
            rw [drop_at s p hlt]; exact next_bad c40 c41 cl cd (by rw [← drop_at s p hlt, hn, hc, List.drop_drop, hE]; exact h)))
          have HGOOD := Lib.hid (show getB c ≠ none → (((s.data.toList.drop E).head?.map letterC).getD false) = false → lexTo (ts ++ [⟨4, c, p⟩]) (lexL s.data.toList E) = R from fun h h' => by
            have h0 := lx_tok hR.out hlt HSKP.out (k := 4) (n := n) (by
              rw [drop_at s p hlt, next_num c40 c41 cl cd (by rw [← drop_at s p hlt, hn, hc, List.drop_drop, hE]; rintro (h1 | h1); exact h h1; rw [h'] at h1; cases h1), ← drop_at s p hlt, hn])
            rw [hc, hE] at h0; exact h0)
          have hpE : p < E := by omega
          have hEs : E ≤ s.size := by omega
          clear hE hc hn hR c40 c41 cl cd hle hcl
          go_wp2_with fail
          refine (HLC.out _).mono ?_
          rintro e w1 ⟨rfl, rfl⟩
          go_wp2_with fail
          refine (HDC.out _).mono ?_
          rintro e w1 ⟨rfl, rfl⟩
          go_wp2_with fail
          go_loop [7] (fun i => ∃ k : Nat, k ≤ s.size ∧ i = .int .i64 k ∧ Hid (k + runL isd (s.data.toList.drop k) = E)) (fun i => s.size - (intOf i).toNat)
          case atStart => exact ⟨p, hp, rfl, HE.out⟩
          case round =>
            obtain ⟨k, hk, rfl, hq⟩ := hrel
            by_cases hk2 : k < s.size
            · have hd := hq.out
              rw [drop_at s k hk2] at hd
              have HKD := Lib.hid (HPD.out s[k])
              cases d2 : isd s[k] with
              | true =>
                rw [d2] at HKD
                rw [runL_yes d2] at hd
                have HQ := Lib.hid (show k + 1 + runL isd (s.data.toList.drop (k + 1)) = E by omega)
                clear hd hq d2 hsli
                go_wp2_with fail
                refine (HKD.out _).mono ?_
                rintro e w1 ⟨rfl, rfl⟩
                go_wp2_with fail
                go_round
                case rel => exact ⟨k + 1, hk2, by go_num, HQ.out⟩
                case measure => simp [intOf]; omega
              | false =>
                rw [d2] at HKD
                rw [runL_no d2] at hd
                obtain rfl : k = E := by omega
                clear hd hq d2 HE
                go_wp2_with fail
                refine (HKD.out _).mono ?_
                rintro e w1 ⟨rfl, rfl⟩
                cases hg : getB c with
                | none =>
                  have HF := Lib.hid (HBAD.out (Or.inl hg))
                  rw [getV_none hg] at HG
                  clear hg
                  go_wp2_with fail
                  refine (HG.out _).mono ?_
                  rintro e w1 ⟨rfl, rfl⟩
                  go_wp2
                  go_ret2
                  exact ⟨HB.out, by rw [HF.out]; exact ⟨_, hT.out, rfl⟩⟩
                | some v =>
                  rw [getV_some hg] at HG
                  have HKL := Lib.hid (HPL.out s[k])
                  cases d1 : letterC s[k] with
                  | true =>
                    rw [d1] at HKL
                    have HF := Lib.hid (HBAD.out (Or.inr (by rw [drop_at s k hk2]; exact d1)))
                    clear hg d1
                    go_wp2_with fail
                    refine (HG.out _).mono ?_
                    rintro e w1 ⟨rfl, rfl⟩
                    go_wp2_with fail
                    refine (HKL.out _).mono ?_
                    rintro e w1 ⟨rfl, rfl⟩
                    go_wp2
                    go_ret2
                    exact ⟨HB.out, by rw [HF.out]; exact ⟨_, hT.out, rfl⟩⟩
                  | false =>
                    rw [d1] at HKL
                    have HF := Lib.hid (HGOOD.out (by rw [hg]; simp) (by rw [drop_at s k hk2]; exact d1))
                    clear hg d1
                    go_wp2_with fail
                    refine (HG.out _).mono ?_
                    rintro e w1 ⟨rfl, rfl⟩
                    go_wp2_with fail
                    refine (HKL.out _).mono ?_
                    rintro e w1 ⟨rfl, rfl⟩
                    go_wp2_with (at_builtin; refine wpList_append_lies _ rfl _ _ 38 rfl w.heap.size 44 i0 _ 3 32 (by kernel_rfl) HI.out.1 HI.out.2.1 HI.out.2.2.1 HI.out.2.2.2 rfl (by decide) _ ts.length (cells3 ts) rfl (toks_later hT.out ((Below.refl _ _).alloc (Nat.le_refl _) _)) _ 1 1 (cells3 [⟨4, c, p⟩]) rfl rfl ?news ?one (by decide) ?max ?bytes ?base _ rfl ?next)
                    case news => first | exact news_tok _ _ _ | (intro j u h; exact h)
                    case one => intro v hv; simp [cells3] at hv; rcases hv with rfl | rfl | rfl <;> rfl
                    case max => unfold maxLen; omega
                    case bytes => omega
                    case base => first | (simp; omega) | omega
                    case next =>
                      intro g cap3 w3 hown hgrow hat _
                      have HT2 := Lib.hid (toks_step hown)
                      have HB2 := Lib.hid ((HB.out.alloc hB2 _).grown hgrow (by first | (simp; omega) | omega) (toks_above hT.out))
                      clear hown hgrow hat
                      go_wp2_with fail
                      go_roundw
                      case rel => exact ⟨k, ts ++ [⟨4, c, p⟩], by omega, by simp; omega, rfl, HF, HT2, HB2.out⟩
                      case measure => simp [intOf]; omega
            · have hd := hq.out
              rw [List.drop_of_length_le (by rw [HSL.out]; omega)] at hd
              obtain rfl : k = E := by simpa [runL] using hd
              clear hd hq HE
              cases hg : getB c with
              | none =>
                have HF := Lib.hid (HBAD.out (Or.inl hg))
                rw [getV_none hg] at HG
                clear hg
                go_wp2_with fail
                refine (HG.out _).mono ?_
                rintro e w1 ⟨rfl, rfl⟩
                go_wp2
                go_ret2
                exact ⟨HB.out, by rw [HF.out]; exact ⟨_, hT.out, rfl⟩⟩
              | some v =>
                rw [getV_some hg] at HG
                have HF := Lib.hid (HGOOD.out (by rw [hg]; simp) (by rw [List.drop_of_length_le (by rw [HSL.out]; omega)]; rfl))
                clear hg
                go_wp2_with fail
                refine (HG.out _).mono ?_
                rintro e w1 ⟨rfl, rfl⟩
                go_wp2_with (at_builtin; refine wpList_append_lies _ rfl _ _ 38 rfl w.heap.size 44 i0 _ 3 32 (by kernel_rfl) HI.out.1 HI.out.2.1 HI.out.2.2.1 HI.out.2.2.2 rfl (by decide) _ ts.length (cells3 ts) rfl (toks_later hT.out ((Below.refl _ _).alloc (Nat.le_refl _) _)) _ 1 1 (cells3 [⟨4, c, p⟩]) rfl rfl ?news ?one (by decide) ?max ?bytes ?base _ rfl ?next)
                case news => first | exact news_tok _ _ _ | (intro j u h; exact h)
                case one => intro v hv; simp [cells3] at hv; rcases hv with rfl | rfl | rfl <;> rfl
                case max => unfold maxLen; omega
                case bytes => omega
                case base => first | (simp; omega) | omega
                case next =>
                  intro g cap3 w3 hown hgrow hat _
                  have HT2 := Lib.hid (toks_step hown)
                  have HB2 := Lib.hid ((HB.out.alloc hB2 _).grown hgrow (by first | (simp; omega) | omega) (toks_above hT.out))
                  clear hown hgrow hat
                  go_wp2_with fail
                  go_roundw
                  case rel => exact ⟨k, ts ++ [⟨4, c, p⟩], by omega, by simp; omega, rfl, HF, HT2, HB2.out⟩
                  case measure => simp [intOf]; omega
        | false =>
          rw [cd] at HDC
          have HF := Lib.hid (lx_bad hR.out hlt HSKP.out (by rw [drop_at s p hlt]; exact next_other c40 c41 cl cd))
          clear hR c40 c41 cl cd
          go_wp2_with fail
          refine (HLC.out _).mono ?_
          rintro e w1 ⟨rfl, rfl⟩
          go_wp2_with fail
          refine (HDC.out _).mono ?_
          rintro e w1 ⟨rfl, rfl⟩
          go_wp2
          go_ret2
          exact ⟨HB.out, by rw [HF.out]; exact ⟨_, hT.out, rfl⟩⟩
    · have : p = s.size := by omega
      have hf := lexL_end (l := s.data.toList) (p := p) (by rw [HSL.out]; omega)
      have HF := Lib.hid (show R = (ts, none) by rw [← hR.out, hf]; simp [lexTo])
      clear hf hR
      subst this
      go_wp2
      go_ret2
      exact ⟨HB.out, by rw [HF.out]; exact ⟨_, hT.out, rfl⟩⟩
end Go.Proofs.Ytgglkpfcaniciaa

namespace Go.Proofs.Ytgglkpfcaniciaa
open Go.RowKit Go.ChangeShapes Go.WideShapes Go.ChangeAt

/-- Ints that lie behind a slice. -/
structure LiesI (w : World) (l : List Int) (s : Value) : Prop where
  out : ∃ (a : Option Addr) (cap : Nat), s = .slice a l.length cap ∧ l.length ≤ cap ∧ cap ≤ maxLen ∧ ∀ i (h : i < l.length), ∃ b o, a = some ⟨b, o, none⟩ ∧ w.cell? ⟨b, o + i, none⟩ = some (.int .i64 l[i])
theorem LiesI.keep {w w' : World} {l : List Int} {s : Value} (h : LiesI w l s) (hb : Below w.heap.size w w') : LiesI w' l s := by
  obtain ⟨a, cap, hs, hc, hm, hn⟩ := h.out
  refine ⟨a, cap, hs, hc, hm, fun i hi => ?_⟩
  obtain ⟨b, o, ha, hx⟩ := hn i hi
  exact ⟨b, o, ha, (hb.cell (World.block_lt_of_cell? _ _ hx)).trans hx⟩

theorem cells_int : Try.prog.cellsOf 3 = 1 := by kernel_rfl
theorem add_plain' (b o k : Nat) : (⟨b, o, none⟩ : Addr).add k = ⟨b, o + k, none⟩ := by unfold Addr.add; split <;> simp_all
theorem open_argI {H : Type} {enc : TypeId × Value → H} {W : World} {r : Reach} {b0 base : Nat} {sp : Nat → Bool} {hd : Bool} {v : Value} {d : DataW H} {p : List MemPlace} (hv : Value.okWide Try.prog W r b0 37 v)
    (h : DataW.Trod enc Try.prog W base sp hd 37 v d p) : ∃ l : List Int, LiesI W l v := by
  obtain ⟨a0, len0, cap0, rfl⟩ := okWide_slice Try.underlying37 hv
  obtain ⟨fuel, hf⟩ := h
  rcases open_ints Try.underlying37 Try.underlying3 cells_int hf with ⟨hcs, -⟩ | ⟨a, len, cap, zs, hcs, -, hl, hm, hz, -, hcell, -⟩
  · simp [Value.cells] at hcs
    obtain ⟨rfl, rfl, rfl⟩ := hcs
    exact ⟨[], ⟨none, 0, rfl, Nat.le_refl _, by decide, fun i hi => by simp at hi⟩⟩
  · simp [Value.cells] at hcs
    obtain ⟨rfl, rfl, rfl⟩ := hcs
    have hlz : len0 ≤ zs.length := by rw [hz]; split <;> omega
    refine ⟨zs.take len0, ⟨some a, cap0, by rw [List.length_take, Nat.min_eq_left hlz], by rw [List.length_take]; omega, hm, fun i hi => ?_⟩⟩
    rw [List.length_take] at hi
    have h1 := hcell i (by omega)
    obtain ⟨b, o, spot⟩ := a
    have h0 := hcell 0 (by omega)
    have hs : spot = none := by simpa [Addr.add] using World.cell?_spot h0
    clear h0
    subst hs
    refine ⟨b, o, rfl, ?_⟩
    rw [add_plain'] at h1
    rw [h1, List.getElem_take]
    congr 2
    rw [List.getD_eq_getElem?_getD, List.getElem?_eq_getElem (by omega)]; rfl

/-- The five gaps lie in a block. -/
def GA (w : World) (b : Nat) : Prop := ∀ (k : Nat) (g : List UInt8), gapL[k]? = some g → w.cell? ⟨b, k, none⟩ = some (.string ⟨g.toArray⟩)
theorem GA.later {w w' : World} {b : Nat} (h : GA w b) (hb : Below w.heap.size w w') : GA w' b := fun k g e => (hb.cell (World.block_lt_of_cell? _ _ (h k g e))).trans (h k g e)
theorem ga_new (w : World) (T : TypeId) : GA (w.alloc (.cells #[.string ⟨#[32]⟩, .string ⟨#[10]⟩, .string ⟨#[9, 32]⟩, .string ⟨#[59, 32, 97, 32, 40, 32, 98, 10]⟩, .string ⟨#[32, 59, 10, 59, 41, 10]⟩] T)) w.heap.size := by
  intro k g e
  have h := World.news_of_block (alloc_new3 w (.cells #[.string ⟨#[32]⟩, .string ⟨#[10]⟩, .string ⟨#[9, 32]⟩, .string ⟨#[59, 32, 97, 32, 40, 32, 98, 10]⟩, .string ⟨#[32, 59, 10, 59, 41, 10]⟩] T)) k (.string ⟨g.toArray⟩) (by
    match k, e with
    | 0, e => cases e; rfl
    | 1, e => cases e; rfl
    | 2, e => cases e; rfl
    | 3, e => cases e; rfl
    | 4, e => cases e; rfl
    | k + 5, e => cases e)
  rw [add_plain', Nat.zero_add] at h
  exact h
theorem lexL_tokl {l : List UInt8} {o : Option Nat} : ∀ (ts : List Tok) (p : Nat), lexL l p = (ts, o) → ∀ t ∈ ts, t.s.length ≤ l.length
  | [], _, _, _, h => by cases h
  | t :: r, p, h, x, hx => by
    obtain ⟨q, k, n, -, hq, -, rfl, hr⟩ := lexL_inv h
    rcases List.mem_cons.1 hx with rfl | hx
    · show (List.take n (l.drop q)).length ≤ _
      rw [List.length_take, List.length_drop]; omega
    · exact lexL_tokl r _ hr x hx
end Go.Proofs.Ytgglkpfcaniciaa

namespace Go.Proofs.Ytgglkpfcaniciaa
open Go.RowKit

theorem toks_at {T : TypeId} {B n : Nat} {w : World} {v : Value} {ts : List Tok} (h : Toks T B w v ts) (hn : ts.length = n) : ∃ a cap, v = .slice a n cap ∧ ∀ i t, ts[i]? = some t → ∃ g, a = some ⟨g, 0, none⟩ ∧ w.cell? ⟨g, i * 3, none⟩ = some (.int .i64 t.k) ∧ w.cell? ⟨g, i * 3 + 1, none⟩ = some (.string ⟨t.s.toArray⟩) ∧ w.cell? ⟨g, i * 3 + 2, none⟩ = some (.int .i64 t.at_) ∧ g < w.heap.size := by
  subst hn
  have h' := h
  obtain ⟨-, ⟨rfl, hn⟩ | ⟨g, cap, cur, rfl, -, hg, -⟩⟩ := h'
  · exact ⟨none, 0, by rw [hn], fun i t hi => by have := (List.getElem?_eq_some_iff.1 hi).1; omega⟩
  · refine ⟨_, cap, rfl, fun i t ht => ?_⟩
    obtain ⟨hi, rfl⟩ := List.getElem?_eq_some_iff.1 ht
    refine ⟨g, rfl, ?_, ?_, ?_, (Array.getElem?_eq_some_iff.1 hg).1⟩
    · exact (World.ownsRow.cellAt h (i * 3 + 0) (by omega)).trans (cells3_get _ i hi 0 (by decide))
    · exact (World.ownsRow.cellAt h (i * 3 + 1) (by omega)).trans (cells3_get _ i hi 1 (by decide))
    · exact (World.ownsRow.cellAt h (i * 3 + 2) (by omega)).trans (cells3_get _ i hi 2 (by decide))
theorem below_drewB {B : Nat} {a w : World} (h : Below B a w) (k : Nat) : Below B a (w.drewN k) := ⟨h.os, h.tape, h.output, h.size, h.block⟩

theorem rem_five (x : Int) : ∃ m : Nat, m < 5 ∧ wrap64 ((IntKind.u64.wrap x).tmod 5) = (m : Int) := by
  have h0 : 0 ≤ IntKind.u64.wrap x := by
    unfold IntKind.wrap; simp only [IntKind.signed, IntKind.bits]; simp; omega
  have h1 : (IntKind.u64.wrap x).tmod 5 = (IntKind.u64.wrap x) % 5 := Int.tmod_eq_emod_of_nonneg h0
  refine ⟨((IntKind.u64.wrap x) % 5).toNat, by omega, ?_⟩
  rw [h1]
  refine (IntWalk.wrap64_in ((IntKind.u64.wrap x) % 5) (by omega)).trans ?_
  omega
theorem gap_at {m : Nat} (h : m < 5) : ∃ g, gapL[m]? = some g ∧ g.length ≤ 8 := by
  match m, h with
  | 0, _ => exact ⟨_, rfl, by decide⟩
  | 1, _ => exact ⟨_, rfl, by decide⟩
  | 2, _ => exact ⟨_, rfl, by decide⟩
  | 3, _ => exact ⟨_, rfl, by decide⟩
  | 4, _ => exact ⟨_, rfl, by decide⟩
end Go.Proofs.Ytgglkpfcaniciaa

namespace Go.Proofs.Ytgglkpfcaniciaa.Dv
open Go.RowKit

def valX : Except PF (List Tm × Tm) → List Tm × Tm × Int
  | .ok (l, t) => (l, t, 0)
  | .error _ => ([], .mk 0 0 [], 2)
theorem rp_val {x y : Except PF (List Tm × Tm)} (h : Rp x y) : valX x = valX y := by
  cases h with
  | ok => rfl
  | err => rfl
theorem rp_zero {x y : Except PF (List Tm × Tm)} (h : Rp x y) (hx : ∀ p, x = .error p → p.1 = 0) : ∀ p, y = .error p → p.1 = 0 := by
  cases h with
  | ok => intro p h; cases h
  | err k a b => intro p h; cases h; exact (hx (k, a) rfl : k = 0)
theorem samesB_id (l : List Tm) : samesB l l = true := by
  have := sameB_self (.mk 0 0 l)
  rw [sameB_eq] at this
  simpa [Tm.kids] using this
theorem fileB_id (l : List Tm) (t : Tm) : fileB l l t t = true := by unfold fileB; rw [samesB_id, sameB_self]; rfl
theorem lies_nil (w : World) : Lies w [] (.slice none 0 0) := .mk [] none 0 (fun _ => .nilIface) (Nat.le_refl _) (by decide) (fun _ h => by cases h) (fun _ h => absurd h (by simp)) (fun _ h => absurd h (by simp))
theorem parse_val {w w' : World} {x : Except PF (List Tm × Tm)} {e : Ending} (h : ParseG w x e w') (h0 : ∀ p, x = .error p → p.1 = 0) {l : List Tm} {t : Tm} {n : Int} (hv : valX x = (l, t, n)) : ∃ a1 c1 a2 c2 p s, e = .returned (.tuple #[.agg #[.slice a1 l.length c1, .int .i64 t.k, .int .i64 t.i, .slice a2 t.kids.length c2], .int .i64 n, .int .i64 p, .string s]) ∧ Below w.heap.size w w' ∧ Lies w' l (.slice a1 l.length c1) ∧ Lies w' t.kids (.slice a2 t.kids.length c2) := by
  obtain ⟨hb, h⟩ := h
  cases x with
  | error p =>
    obtain ⟨k, a⟩ := p
    have := h0 _ rfl
    dsimp only at this
    subst this
    simp only [valX, Prod.mk.injEq] at hv
    obtain ⟨rfl, rfl, rfl⟩ := hv
    exact ⟨none, 0, none, 0, _, _, h, hb, lies_nil _, lies_nil _⟩
  | ok q =>
    obtain ⟨l', t'⟩ := q
    simp only [valX, Prod.mk.injEq] at hv
    obtain ⟨rfl, rfl, rfl⟩ := hv
    obtain ⟨cv, sv, rfl, hl, ht, -⟩ := h
    obtain ⟨a1, c1, rfl, -, -⟩ := hl.out
    obtain ⟨a2, c2, rfl, -, -⟩ := ht.out
    exact ⟨_, _, _, _, _, _, rfl, hb, hl.lies, ht.lies⟩

set_option maxRecDepth 20000 in
set_option maxHeartbeats 4000000 in
theorem parseBetween_any (s : ByteArray) (gl : List Int) (v : Value) (w : World) (hl : LiesI w gl v) : Calls Try.prog 6 #[.string s, v] w fun e w' => e = .returned (.bool true) ∧ Below w.heap.size w w' := by
  have HI := Lib.hid hl
  obtain ⟨la, lcap, rfl, hlc, hlm, -⟩ := hl.out
  clear hl
  unfold maxLen at hlm
  by_cases h1 : 3000 < s.size
  · have h1' : 3000 < (s.size : Int) := by omega
    go_enter Try.func6, Try.ntmps6
    go_wp2
    go_ret
    exact ⟨rfl, Below.refl _ _⟩
  have h1' : ¬ 3000 < (s.size : Int) := by omega
  have hsl : s.data.toList.length = s.size := by simp
  have HP := Lib.hid (parse_any s 4787326403894837248 4787326403894837248 w (by omega))
  have HQ := Lib.hid (fun S w (h : S.size ≤ 10000000) => parse_any S 4787326403894837248 4787326403894837248 w h)
  have HLX := Lib.hid fun w => plex_any s w (by omega)
  obtain ⟨R, hR⟩ : ∃ R, lexL s.data.toList 0 = R := ⟨_, rfl⟩
  obtain ⟨ta, o⟩ := R
  have hfew := lexL_few hR
  have hlen := lexL_tokl ta 0 hR
  have hsol := solid_all ta 0 hR
  rw [show s.data.toList.length = s.size from by simp] at hfew hlen
  rw [hR] at HLX
  have HLEN := Lib.hid hlen
  have HSOL := Lib.hid hsol
  have HR := Lib.hid hR
  have HZ0 := Lib.hid (fun p h => parse_big (s := s.data.toList) (p := p) (by omega) h)
  clear hlen hsol
  obtain ⟨V, hV⟩ : ∃ V, valX (parseB s.data.toList 4787326403894837248 4787326403894837248) = V := ⟨_, rfl⟩
  obtain ⟨l, t, n⟩ := V
  have HV := Lib.hid hV
  have HBR := Lib.hid (show o ≠ none → n = 2 by
    intro ho
    cases o with
    | none => exact absurd rfl ho
    | some p =>
      obtain ⟨a, ha⟩ := parse_broken hR (by omega)
      rw [ha] at hV
      simp only [valX, Prod.mk.injEq] at hV
      exact hV.2.2.symm)
  clear hR hV hsl
  go_enter Try.func6, Try.ntmps6
  go_wp2_with fail
  refine HP.out.mono ?_
  intro e w1 hg
  obtain ⟨a1, c1, a2, c2, p0, s0, rfl, hb1, hl1, hl2⟩ := parse_val hg HZ0.out HV.out
  have hba := (Below.refl w1.heap.size w1).alloc (Nat.le_refl _) (.cells #[.slice a1 l.length c1, .int .i64 t.k, .int .i64 t.i, .slice a2 t.kids.length c2] 27)
  have hn := alloc_new w1 (.cells #[.slice a1 l.length c1, .int .i64 t.k, .int .i64 t.i, .slice a2 t.kids.length c2] 27)
  have HB1 := Lib.hid (hb1.trans (hba.mono hb1.size))
  have HL1 := Lib.hid (hl1.keep hba)
  have HL2 := Lib.hid (hl2.keep hba)
  have HI1 := Lib.hid (HI.out.keep (hb1.trans (hba.mono hb1.size)))
  clear hb1 hl1 hl2 hba hg HP
  go_upto_region 4 with fail
  obtain ⟨W, hW⟩ : ∃ W, W = w1.alloc (.cells #[.slice a1 l.length c1, .int .i64 t.k, .int .i64 t.i, .slice a2 t.kids.length c2] 27) := ⟨_, rfl⟩
  rw [← hW] at HB1 hn HL1 HL2 HI1
  rw [← hW]
  clear hW
  have HN := Lib.hid hn
  have HLT := Lib.hid (hltD hn)
  clear hn
  go_wp2_with fail
  refine (HLX.out _).mono ?_
  rintro e w2 ⟨hb2, vl, htl, rfl⟩
  cases o with
  | some p =>
    obtain rfl : n = 2 := HBR.out (by simp)
    have HB2 := Lib.hid (HB1.out.trans (hb2.mono HB1.out.size))
    have hp0 : (0 : Int) ≤ (p : Int) := by omega
    clear hb2 htl
    go_wp2_with fail
    refine (wakes13_any _).mono ?_
    rintro e w4 ⟨rfl, hb4⟩
    have HB4 := Lib.hid (HB2.out.trans (hb4.mono HB2.out.size))
    clear hb4
    go_wp2
    go_ret
    exact ⟨rfl, HB4.out⟩
  | none =>
    obtain ⟨m0, hm0⟩ : ∃ n, ta.length = n := ⟨_, rfl⟩
    rw [hm0] at hfew
    have HNT := Lib.hid hm0
    clear hm0
    have hga := (Below.refl w2.heap.size w2).alloc (Nat.le_refl _) (.cells #[.string ⟨#[32]⟩, .string ⟨#[10]⟩, .string ⟨#[9, 32]⟩, .string ⟨#[59, 32, 97, 32, 40, 32, 98, 10]⟩, .string ⟨#[32, 59, 10, 59, 41, 10]⟩] 9)
    have HB2 := Lib.hid (hb2.trans (hga.mono hb2.size))
    have HTL := Lib.hid (toks_later htl hga)
    obtain ⟨al, cl, rfl, -⟩ := toks_at htl HNT.out
    have HGA := Lib.hid (ga_new w2 9)
    clear hb2 htl hga
    go_upto_region 8 with fail
    obtain ⟨U, hU⟩ : ∃ U, U = w2.alloc (.cells #[.string ⟨#[32]⟩, .string ⟨#[10]⟩, .string ⟨#[9, 32]⟩, .string ⟨#[59, 32, 97, 32, 40, 32, 98, 10]⟩, .string ⟨#[32, 59, 10, 59, 41, 10]⟩] 9) := ⟨_, rfl⟩
    rw [← hU] at HB2 HTL HGA
    rw [← hU]
    clear hU
    have HI2 := Lib.hid (HI1.out.keep HB2.out)
    have HF2 := Lib.hid ((HB2.out.block _ HLT.out).trans HN.out)
    have HL12 := Lib.hid (HL1.out.keep HB2.out)
    have HL22 := Lib.hid (HL2.out.keep HB2.out)
    clear HI1
    go_wp2_with fail
    go_loopw [12, 13] (fun x i wr => ∃ (j : Nat) (ps : List (List UInt8 × Tok)) (S : ByteArray), j ≤ m0 ∧ x = .string S ∧ i = .int .i64 j ∧ S.size ≤ 3008 * j ∧ Hid (S.data.toList = layL ps) ∧ Hid (∀ x ∈ ps, Gap x.1) ∧ Hid (ps.map (·.2) = ta.take j) ∧ Hid (Below U.heap.size U wr)) (fun _ i _ => m0 - (intOf i).toNat)
    case atStart => exact ⟨0, [], _, Nat.zero_le _, rfl, rfl, by decide, rfl, (fun x h => by cases h), rfl, Below.refl _ _⟩
    case round =>
      obtain ⟨j, ps, S, hj, rfl, rfl, hS, hSL, hG, hM, HB⟩ := hrel
      by_cases hlt : j < m0
      · obtain ⟨tk, ht⟩ : ∃ t, ta[j]? = some t := ⟨ta[j]'(by rw [HNT.out]; exact hlt), List.getElem?_eq_getElem _⟩
        obtain ⟨a', cap1, he, hcell⟩ := toks_at (toks_later HTL.out HB.out) HNT.out
        obtain ⟨g, hg, -, k1, -, -⟩ := hcell j tk ht
        cases he
        subst hg
        clear hcell
        by_cases hjl : j < gl.length
        · obtain ⟨a', cap1, he, -, -, hcell⟩ := (HI2.out.keep HB.out).out
          obtain ⟨gb, go, hg, i0⟩ := hcell j hjl
          cases he
          subst hg
          clear hcell
          generalize gl[j] = xv at i0
          obtain ⟨m, hm5, hm⟩ := rem_five xv
          have HMM := Lib.hid hm
          clear hm
          go_wp2_with fail
          rw [HMM.out]
          clear i0
          obtain ⟨g5, hg5, hg8⟩ := gap_at hm5
          have c0 := HGA.out.later HB.out m g5 hg5
          obtain ⟨G, hGd⟩ : ∃ G : ByteArray, (⟨g5.toArray⟩ : ByteArray) = G := ⟨_, rfl⟩
          obtain ⟨X, hTd⟩ : ∃ X : ByteArray, (⟨tk.s.toArray⟩ : ByteArray) = X := ⟨_, rfl⟩
          have hGs : G.size ≤ 8 := by rw [← hGd]; show g5.toArray.size ≤ 8; simpa using hg8
          have hTs : X.size ≤ 3000 := by
            have h3 := HLEN.out tk (List.mem_of_getElem? ht)
            rw [← hTd]; show tk.s.toArray.size ≤ 3000
            have h4 : tk.s.toArray.size = tk.s.length := by simp
            omega
          rw [hGd] at c0
          rw [hTd] at k1
          have HP := Lib.hid (show (S ++ G ++ X).data.toList = layL (ps ++ [(g5, tk)]) by
            rw [layL_append, ← hSL.out, ← hGd, ← hTd]
            show (S ++ ⟨g5.toArray⟩ ++ ⟨tk.s.toArray⟩ : ByteArray).data.toList = S.data.toList ++ (g5 ++ tk.s ++ [])
            simp)
          have HZ := Lib.hid (show (S ++ G ++ X).size ≤ 3008 * (j + 1) by
            have e1 : (S ++ G ++ X).size = S.size + G.size + X.size := by rw [ByteArray.size_append, ByteArray.size_append]
            omega)
          have HG2 := Lib.hid (show ∀ x ∈ ps ++ [(g5, tk)], Gap x.1 from fun x hx => by
            rcases List.mem_append.1 hx with hx | hx
            · exact hG.out x hx
            · rw [List.mem_singleton.1 hx]; exact gap_all g5 (List.mem_of_getElem? hg5))
          have HM2 := Lib.hid (show (ps ++ [(g5, tk)]).map (·.2) = ta.take (j + 1) by
            rw [List.map_append, hM.out, List.take_add_one, ht]; rfl)
          have hj9 : j ≤ 3000 := by omega
          clear hGd hTd hg5 hg8 ht hSL hG hM
          go_quiet (fail)
          have HB3 := Lib.hid (below_drewB HB.out nq)
          have hw1 : IntKind.i64.wrap ((j : Int) + 1) = (j : Int) + 1 := IntWalk.i64_in _ (by omega)
          clear HB c0 k1
          go_wp2_with fail
          go_roundw
          case rel => exact ⟨j + 1, ps ++ [(g5, tk)], S ++ G ++ X, hlt, rfl, by go_num, HZ.out, HP, HG2, HM2, HB3⟩
          case measure => simp [intOf]; omega
        · skip
          obtain ⟨m, hm5, hm⟩ : ∃ m : Nat, m < 5 ∧ (0 : Int) = (m : Int) := ⟨0, by decide, rfl⟩
          obtain rfl : m = 0 := by omega
          clear hm
          go_wp2_with fail
          obtain ⟨g5, hg5, hg8⟩ := gap_at hm5
          have c0 := HGA.out.later HB.out 0 g5 hg5
          obtain ⟨G, hGd⟩ : ∃ G : ByteArray, (⟨g5.toArray⟩ : ByteArray) = G := ⟨_, rfl⟩
          obtain ⟨X, hTd⟩ : ∃ X : ByteArray, (⟨tk.s.toArray⟩ : ByteArray) = X := ⟨_, rfl⟩
          have hGs : G.size ≤ 8 := by rw [← hGd]; show g5.toArray.size ≤ 8; simpa using hg8
          have hTs : X.size ≤ 3000 := by
            have h3 := HLEN.out tk (List.mem_of_getElem? ht)
            rw [← hTd]; show tk.s.toArray.size ≤ 3000
            have h4 : tk.s.toArray.size = tk.s.length := by simp
            omega
          rw [hGd] at c0
          rw [hTd] at k1
          have HP := Lib.hid (show (S ++ G ++ X).data.toList = layL (ps ++ [(g5, tk)]) by
            rw [layL_append, ← hSL.out, ← hGd, ← hTd]
            show (S ++ ⟨g5.toArray⟩ ++ ⟨tk.s.toArray⟩ : ByteArray).data.toList = S.data.toList ++ (g5 ++ tk.s ++ [])
            simp)
          have HZ := Lib.hid (show (S ++ G ++ X).size ≤ 3008 * (j + 1) by
            have e1 : (S ++ G ++ X).size = S.size + G.size + X.size := by rw [ByteArray.size_append, ByteArray.size_append]
            omega)
          have HG2 := Lib.hid (show ∀ x ∈ ps ++ [(g5, tk)], Gap x.1 from fun x hx => by
            rcases List.mem_append.1 hx with hx | hx
            · exact hG.out x hx
            · rw [List.mem_singleton.1 hx]; exact gap_all g5 (List.mem_of_getElem? hg5))
          have HM2 := Lib.hid (show (ps ++ [(g5, tk)]).map (·.2) = ta.take (j + 1) by
            rw [List.map_append, hM.out, List.take_add_one, ht]; rfl)
          have hj9 : j ≤ 3000 := by omega
          clear hGd hTd hg5 hg8 ht hSL hG hM
          go_quiet (fail)
          have HB3 := Lib.hid (below_drewB HB.out nq)
          have hw1 : IntKind.i64.wrap ((j : Int) + 1) = (j : Int) + 1 := IntWalk.i64_in _ (by omega)
          clear HB c0 k1
          go_wp2_with fail
          go_roundw
          case rel => exact ⟨j + 1, ps ++ [(g5, tk)], S ++ G ++ X, hlt, rfl, by go_num, HZ.out, HP, HG2, HM2, HB3⟩
          case measure => simp [intOf]; omega
      · obtain rfl : j = m0 := by omega
        have hps : ps.map (·.2) = ta := by rw [hM.out, ← HNT.out, List.take_length]
        obtain ⟨x1, x2⟩ := lay_lex0 ps hG.out (fun x hx => HSOL.out x.2 (by rw [← hps]; exact List.mem_map_of_mem hx))
        rw [← hSL.out] at x1 x2
        obtain ⟨RC, hRC⟩ : ∃ R, lexL S.data.toList 0 = R := ⟨_, rfl⟩
        obtain ⟨tm, om⟩ := RC
        rw [hRC] at x1 x2
        obtain rfl : om = none := x1
        have hparts : tm.map (fun t => (t.k, t.s)) = ta.map (fun t => (t.k, t.s)) := by
          refine (show tm.map (fun t => (t.k, t.s)) = ps.map (fun x => (x.2.k, x.2.s)) from x2).trans ?_
          rw [← hps, List.map_map]; rfl
        have hrp := parseB_ak HR.out hRC (ak_of hparts) 4787326403894837248 4787326403894837248
        have HZ2 := Lib.hid (rp_zero hrp HZ0.out)
        have HV2 := Lib.hid ((rp_val hrp).symm.trans HV.out)
        have HC := Lib.hid (HQ.out S wr (by omega))
        clear hparts x2 hRC hps hrp hSL hG hM
        go_wp2_with fail
        refine HC.out.mono ?_
        intro e w3 hg
        obtain ⟨a3, c3, a4, c4, p1, s1, rfl, hb3, hl1, hl2⟩ := parse_val hg HZ2.out HV2.out
        have hba := (Below.refl w3.heap.size w3).alloc (Nat.le_refl _) (.cells #[.slice a3 l.length c3, .int .i64 t.k, .int .i64 t.i, .slice a4 t.kids.length c4] 27)
        have hbb := hb3.trans (hba.mono hb3.size)
        have hn2 := alloc_new w3 (.cells #[.slice a3 l.length c3, .int .i64 t.k, .int .i64 t.i, .slice a4 t.kids.length c4] 27)
        have hU3 := HB.out.trans (hbb.mono HB.out.size)
        have hn1 := (hU3.block _ (hltD HF2.out)).trans HF2.out
        have HL13 := Lib.hid (HL12.out.keep hU3)
        have HL23 := Lib.hid (HL22.out.keep hU3)
        have HL31 := Lib.hid (hl1.keep hba)
        have HL32 := Lib.hid (hl2.keep hba)
        have HB4 := Lib.hid (HB1.out.trans ((HB2.out.trans (hU3.mono HB2.out.size)).mono HB1.out.size))
        clear hb3 hba hbb hl1 hl2 hg hU3 HC HZ2 HV2 HB
        go_upto_region 17 with fail
        obtain ⟨Y, hY⟩ : ∃ Y, Y = w3.alloc (.cells #[.slice a3 l.length c3, .int .i64 t.k, .int .i64 t.i, .slice a4 t.kids.length c4] 27) := ⟨_, rfl⟩
        rw [← hY] at HB4 hn1 hn2 HL13 HL23 HL31 HL32
        rw [← hY]
        clear hY
        obtain ⟨y0, y1, y2, y3⟩ := four_cells hn1
        obtain ⟨z0, z1, z2, z3⟩ := four_cells hn2
        clear hn1 hn2
        go_wp2_with fail
        refine (keepfile_any l l t t Y _ _ _ _ HL13.out HL31.out HL23.out HL32.out).mono ?_
        rintro e w5 ⟨rfl, hb5⟩
        rw [fileB_id]
        have HB5 := Lib.hid (HB4.out.trans (hb5.mono HB4.out.size))
        clear hb5 y0 y1 y2 y3 z0 z1 z2 z3
        go_wp2_with fail
        refine (wakes13_any _).mono ?_
        rintro e w6 ⟨rfl, hb6⟩
        have HB6 := Lib.hid (HB5.out.trans (hb6.mono HB5.out.size))
        clear hb6
        go_wp2
        go_ret
        exact ⟨rfl, HB6.out⟩
end Go.Proofs.Ytgglkpfcaniciaa.Dv

namespace Go.Proofs.Ytgglkpfcaniciaa
open Go.RowKit Go.ChangeShapes Go.WideShapes Go.ChangeAt
theorem own : ownKnob Try.prog.godebug = none := by kernel_rfl
theorem laidOut : laidOutB Try.prog = true := by kernel_rfl
end Go.Proofs.Ytgglkpfcaniciaa

namespace Go.Proofs.Ytgglkpfcaniciaa
open Go.ChangeShapes Go.WideShapes

def code (l : List Nat) : List Char := l.map Char.ofNat
def joinN : List (List Nat) → List Nat
  | [] => []
  | [a] => a
  | a :: b :: r => a ++ 32 :: joinN (b :: r)

theorem words_one : ∀ a : List Nat, (a.all fun n => Char.ofNat n != Char.ofNat 32) = true → wordsSigns (code a) = [code a]
  | [], _ => rfl
  | n :: a, h => by
    simp only [List.all_cons, Bool.and_eq_true, bne_iff_ne] at h
    have ih := words_one a h.2
    show wordsSigns (Char.ofNat n :: code a) = _
    rw [wordsSigns]
    · rw [ih]; rfl
    · exact h.1
theorem words_more : ∀ (a : List Nat) (r : List Char), (a.all fun n => Char.ofNat n != Char.ofNat 32) = true → wordsSigns (code a ++ Char.ofNat 32 :: r) = code a :: wordsSigns r
  | [], r, _ => by
    show wordsSigns (Char.ofNat 32 :: r) = _
    rw [show Char.ofNat 32 = _ from rfl, wordsSigns]; rfl
  | n :: a, r, h => by
    simp only [List.all_cons, Bool.and_eq_true, bne_iff_ne] at h
    have ih := words_more a r h.2
    show wordsSigns (Char.ofNat n :: (code a ++ Char.ofNat 32 :: r)) = _
    rw [wordsSigns]
    · rw [ih]; rfl
    · exact h.1
theorem words_join : ∀ ws : List (List Nat), ws ≠ [] → (ws.all fun w => w.all fun n => Char.ofNat n != Char.ofNat 32) = true → wordsSigns (code (joinN ws)) = ws.map code
  | [], h, _ => absurd rfl h
  | [a], _, h => by simp only [List.all_cons, List.all_nil, Bool.and_true] at h; exact words_one a h
  | a :: b :: r, _, h => by
    have h' := h
    rw [List.all_cons, Bool.and_eq_true] at h'
    have ih := words_join (b :: r) (by simp) h'.2
    show wordsSigns (code (a ++ 32 :: joinN (b :: r))) = _
    rw [show code (a ++ 32 :: joinN (b :: r)) = code a ++ Char.ofNat 32 :: code (joinN (b :: r)) from by simp [code], words_more a _ h'.1, ih]; rfl

def cutWords : List (List Nat) := [[104, 97, 114, 110, 101, 115, 115],
  [99, 51, 56, 48, 55, 57, 100, 52, 57, 56, 52, 101, 53, 48, 51, 101, 56, 56, 102, 56, 101, 48, 50, 53, 54, 57, 54, 57, 98, 100, 48, 54, 49, 102, 99, 51, 49, 50, 98, 55, 49, 102, 57, 53, 54, 102, 56, 48, 102, 57, 50, 52, 56, 99, 98, 53, 50, 55, 50, 50, 57, 49, 99, 98],
  [99, 117, 116],
  [97, 116],
  [116, 114, 97, 110, 115, 104, 105, 112, 47, 116, 114, 97, 110, 115, 104, 105, 112, 108, 97, 119, 49, 51, 46, 80, 97, 114, 115, 101, 69, 120, 97, 99, 116],
  [116, 114, 97, 110, 115, 104, 105, 112, 47, 116, 114, 97, 110, 115, 104, 105, 112, 108, 97, 119, 49, 51, 46, 80, 97, 114, 115, 101, 77, 111, 114, 101],
  [116, 114, 97, 110, 115, 104, 105, 112, 47, 116, 114, 97, 110, 115, 104, 105, 112, 108, 97, 119, 49, 51, 46, 80, 97, 114, 115, 101, 76, 105, 109, 105, 116, 115],
  [116, 114, 97, 110, 115, 104, 105, 112, 47, 116, 114, 97, 110, 115, 104, 105, 112, 108, 97, 119, 49, 51, 46, 80, 97, 114, 115, 101, 66, 101, 116, 119, 101, 101, 110],
  [116, 114, 97, 110, 115, 104, 105, 112, 47, 116, 114, 97, 110, 115, 104, 105, 112, 108, 97, 119, 49, 51, 46, 80, 97, 114, 115, 101, 82, 105, 103, 104, 116]]

set_option maxRecDepth 100000 in
theorem cut_words : wordsSigns Try.prog.initOrder.toList = cutWords.map code := by
  have h : Try.prog.initOrder.toList = code (joinN cutWords) := by
    show (String.ofList (code (joinN cutWords))).toList = _
    exact String.toList_ofList
  rw [h]
  exact words_join cutWords (by simp [cutWords]) (by decide +kernel)

theorem cut_behind : behindMainWord (cutWords.map code) = code [99, 117, 116] :: cutWords.tail.tail.tail.map code := by kernel_rfl
theorem cut_lifts : stripLifts liftWords (code [99, 117, 116] :: cutWords.tail.tail.tail.map code) = ([], code [99, 117, 116] :: cutWords.tail.tail.tail.map code) := by kernel_rfl
theorem cut1 : (code [99, 117, 116] == "gc".toList) = false := by kernel_rfl
theorem cut2 : (code [99, 117, 116] == "spec".toList) = false := by kernel_rfl
theorem cut3 : (code [99, 117, 116] == "cut".toList) = true := by kernel_rfl
theorem cut_all : behindMainWord (wordsSigns Try.prog.initOrder.toList) = code [99, 117, 116] :: cutWords.tail.tail.tail.map code := by rw [cut_words, cut_behind]
theorem make_of (P : Program) {c : List Char} {rest : List (List Char)} (h : behindMainWord (wordsSigns P.initOrder.toList) = c :: rest) (h1 : (c == "gc".toList) = false) (h2 : (c == "spec".toList) = false) (h3 : (c == "cut".toList) = true) : P.make = some .cut := by
  unfold Program.make; rw [h]
  simp only [h1, h2, h3, Bool.or_self, Bool.false_eq_true, if_false, Bool.true_or, if_true]
theorem mayEnter_of (P : Program) {c : List Char} {rest : List (List Char)} (h : behindMainWord (wordsSigns P.initOrder.toList) = c :: rest) (h3 : ((stripLifts liftWords (c :: rest)).2.head? == some "cut".toList) = true)
    (h4 : (stripLifts liftWords (c :: rest)).1 = []) (h5 : P.laysLater = false) (h6 : P.bearsReflect = false) (h7 : P.doorFits [] = true) : P.mayEnter = true := by
  unfold Program.mayEnter; rw [h]
  refine Bool.or_eq_true_iff.2 (Or.inr ?_)
  rw [h3, h4, h5, h6, h7]; rfl
theorem row_make : Try.prog.make = some .cut := make_of Try.prog cut_all cut1 cut2 cut3
theorem row_mayEnter : Try.prog.mayEnter = true := mayEnter_of Try.prog cut_all (by rw [cut_lifts]; kernel_rfl) (by rw [cut_lifts]) (by kernel_rfl) (by kernel_rfl) (by kernel_rfl)
theorem row_lifts : Try.prog.liftsFinal = false := by unfold Program.liftsFinal Program.headLifts; rw [cut_all, cut_lifts]; kernel_rfl
end Go.Proofs.Ytgglkpfcaniciaa

namespace Go.Proofs.Ytgglkpfcaniciaa.lawParseBetween
open Go.ChangeShapes Go.WideShapes Go.ChangeAt Go.RowKit Go.ChangeMaps

set_option maxRecDepth 100000 in
theorem lifted (os : Os) (started : os.Started) (H : Type) (enc : TypeId × Value → H) :
    ReturnsInHanded {} Try.checked os 6 .any (Rows.parseBetweenSpec.pre6 enc Try.prog Try.f6 Rows.parseBetweenRow.domain false) (Rows.parseBetweenSpec.post enc Try.prog Try.f6 false true false false) := by
  refine returnsInHanded_of_change (C := Try.checked) own started (by kernel_rfl) Try.func6
    (ChangeSpec.witness6 (enc := enc) (C := Try.checked) false ⟨#[], #[.string ⟨#[]⟩, .slice none 0 0], []⟩ 8 (by kernel_rfl) (by kernel_rfl) (by kernel_rfl) (by kernel_rfl)) ?_
  intro W base args ds gs before hval0 hW hcnd _
  have hval : ∀ (j : Nat) t v, Try.f6.params[j]? = some t → args[j]? = some v → Value.okWide Try.prog W .any base t v := hval0
  have hW' := hW
  obtain ⟨p, q, hA0, hV, rfl, hfz, hnd⟩ := hW
  have hA : DataW.TrodAll enc Try.prog W 0 (fun _ => true) true Try.f6.params.toList args.toList ds p := hA0
  rw [Try.params6] at hA hval
  obtain ⟨v0, vs0, d0, ds0, p0, q0, hargs0, rfl, rfl, h0, r0⟩ := trodAll_cons hA
  obtain ⟨v1, vs1, d1, ds1, p1, q1, hargs1, rfl, rfl, h1, r1⟩ := trodAll_cons r0
  obtain ⟨rfl, rfl, rfl⟩ := trodAll_nil r1
  obtain rfl : args = #[v0, v1] := by cases args; simp_all
  obtain ⟨rfl, rfl⟩ := trodVars_none hV
  obtain ⟨a0, rfl, rfl, rfl, w0⟩ := open_string Try.underlying9 (hval 0 9 v0 rfl rfl) h0
  have h1k := h1
  have hlt1 : ∀ x ∈ p1, x.block < W.heap.size := fun x hx => by have := hW'.lt x (by simp [hx]); simpa using this
  obtain ⟨l1, hl1⟩ := open_argI (hval 1 37 v1 rfl rfl) h1
  clear hA0 hval0
  simp only [List.append_nil] at hW'
  refine (Dv.parseBetween_any a0 l1 v1 W hl1).mono fun e W' ⟨he, hb⟩ => ?_
  subst he
  exact ⟨_, rfl, _, _, _, [], _, [], hW', trodAll_cons_mk (shut_bool Try.underlying4 _) trodAll_mk0, (trodAll_cons_mk (shut_string Try.underlying9 w0) (trodAll_cons_mk (Below.trod laidOut (by kernel_rfl) (of_decide_eq_true (by kernel_rfl)) h1k hb hlt1) trodAll_mk0)), rfl, hb.frame _, fun h => by cases h⟩

theorem closed : joinedFacts Try.prog 6 Try.f6 Rows.parseBetweenSpec Rows.parseBetweenRow = true := by
  unfold joinedFacts
  rw [row_mayEnter, row_lifts, row_make]
  kernel_rfl

theorem proved : Rows.ParseBetweenSaid :=
  OpenClaim.holds_of_wide 6 Try.f6 rfl rfl rfl rfl rfl rfl rfl ⟨rfl, rfl, rfl, rfl, rfl⟩ rfl rfl rfl rfl rfl (by kernel_rfl) Try.func6 closed
    (of_decide_eq_true (by kernel_rfl)) (by unfold Func.isWrapper; first | (rw [if_pos (by decide +kernel)]; kernel_rfl) | (rw [if_neg (by decide +kernel)]; exact ⟨rfl, rfl⟩))
    (fun os started H enc _ => lifted os started H enc)
#print axioms proved
end Go.Proofs.Ytgglkpfcaniciaa.lawParseBetween
