/-
  ParseMore holds: for every input the call returns true, and the arguments read as before. No condition.
-/
import Derived.Lib.ItoaNum
import Derived.Lib.ItoaLen
import Derived.Test.YtgglkpfcaniciaaRows
import Derived.WalkKit
import Derived.Lib.Hide
import Derived.ProofKit
import Derived.LoopTactic
import Derived.Below
import Derived.IntWalk
import Derived.Lib.Strings
import Derived.Laws.Strings2
import Derived.Deep.AppendLies
import Derived.Laws.Rows
import Derived.OwnWalk
import Derived.KernelRfl
import Derived.Deep.RegionHeld3
import Derived.Lib.Builder
import Derived.WalkSmall
import Derived.Maps.GroupsBeside
import Derived.Maps.StringElems
import Derived.Laws.OwnMore
import Derived.Deep.RegionLaw
import Derived.Maps.AppendAt
import Derived.Deep.Cut
import Derived.Deep.DeepCutAuto
import Derived.Maps.OwnOps
import Derived.Maps.OwnSet
import Derived.Lib.MinMax
import Derived.Laws.IdiomCopy
import Derived.Deep.Slices
import Derived.Lib.QuietBelow
import Derived.StillTailTactics
import Derived.BigQuiet
import Derived.Deep.RegionWith
import Derived.OrdersHeld
import Derived.Laws.StructEq
import GoSem.Core.Float
import Derived.Laws.Cover2
import Derived.Laws.FloatArith
import Derived.Laws.Externs
import Derived.Deep.QuietTactic
import Derived.Laws.AppendOwn
import Derived.Recover
import Derived.RegionTactic
import Derived.OpenShut
import Derived.Carry
import Derived.JoinedOf
import Derived.ChangeMaps5
import Derived.Test.YtgglkpfcaniciaaParseMoreQ2
namespace Go.Proofs.Ytgglkpfcaniciaa.Dv
open Go.RowKit

set_option maxHeartbeats 1000000 in
theorem dterms_of (l : List Tm) (ih : ∀ x ∈ l, ∀ (y : Tm) (w : World) (s r : Value), Lies w x.kids s → Lies w y.kids r → Calls Try.prog 30 #[tv x s, tv y r] w fun e w' => e = .returned (.bool (sameB x y)) ∧ Below w.heap.size w w')
    (m : List Tm) (w : World) (s r : Value) (hl : Lies w l s) (hm : Lies w m r) : Calls Try.prog 29 #[s, r] w fun e w' => e = .returned (.bool (samesB l m)) ∧ Below w.heap.size w w' := by
  obtain ⟨a, cap, S, rfl, hc, hmx, -, hn, hk⟩ := hl.out
  obtain ⟨a2, cap2, S2, rfl, hc2, hmx2, -, hn2, hk2⟩ := hm.out
  unfold maxLen at hmx hmx2
  have IH := Lib.hid ih
  have HN := Lib.hid hn
  have HK := Lib.hid hk
  have HN2 := Lib.hid hn2
  have HK2 := Lib.hid hk2
  clear ih hn hk hn2 hk2 hl hm
  by_cases hlen : l.length = m.length
  rotate_left
  · have h1 : ((l.length : Int) == (m.length : Int)) = false := by simp; omega
    have h2 : ((l.length : Int) != (m.length : Int)) = true := by simp; omega
    have HS := Lib.hid (sames_ne hlen)
    clear hlen
    go_enter Try.func29, Try.ntmps29
    go_wp2
    go_ret
    exact ⟨ret_bool HS.out.symm, Below.refl _ _⟩
  have h1 : ((l.length : Int) == (m.length : Int)) = true := by simp; omega
  have h2 : ((l.length : Int) != (m.length : Int)) = false := by simp; omega
  have HL := Lib.hid hlen
  clear hlen
  go_enter Try.func29, Try.ntmps29
  go_wp2
  go_loopw [5] (fun iv wr => ∃ k : Nat, k ≤ l.length ∧ iv = .int .i64 k ∧ Hid (samesB (l.take k) (m.take k) = true) ∧ Below w.heap.size w wr) (fun iv _ => l.length - (intOf iv).toNat)
  case atStart => exact ⟨0, Nat.zero_le _, rfl, by simp [Hid, samesB], Below.refl _ _⟩
  case round =>
    obtain ⟨k, hk, rfl, hgood, hb⟩ := hrel
    by_cases hlt : k < l.length
    · have hlt2 : k < m.length := by have := HL.out; omega
      obtain ⟨b, o, rfl, hx⟩ := HN.out k hlt
      obtain ⟨b2, o2, rfl, hx2⟩ := HN2.out k hlt2
      obtain ⟨c0, c1, c2⟩ := hx.below hb hx.lt
      obtain ⟨e0, e1, e2⟩ := hx2.below hb hx2.lt
      have hq := (HK.out k hlt).keep hb
      have hq2 := (HK2.out k hlt2).keep hb
      obtain ⟨a', cap', S', hS, -⟩ := hq.out
      obtain ⟨a2', cap2', S2', hS2, -⟩ := hq2.out
      rw [hS] at c2 hq
      rw [hS2] at e2 hq2
      have HQ := Lib.hid hq
      have HQ2 := Lib.hid hq2
      have HM := Lib.hid (List.getElem_mem hlt)
      have HT := Lib.hid (sames_take l m k hlt hlt2)
      have HO := Lib.hid (sames_of l m k hlt hlt2)
      clear hS hS2 hq hq2
      go_wp2
      go_region_with (go_at_call 30; refine (IH.out _ HM.out _ _ _ _ (HQ.out.keep (Below.refl _ _).drew) (HQ2.out.keep (Below.refl _ _).drew)).mono ?_; rintro e wn ⟨rfl, hb'⟩; have HB3 := below_call hb.drew hb' hb.size; clear hb')
      all_goals
        cases hs : sameB l[k] m[k]
        · go_wp2
          go_ret
          exact ⟨ret_bool (HO.out hs).symm, HB3⟩
        · go_wp2
          go_roundw
          case rel => exact ⟨k + 1, by omega, by go_num, by show _ = true; rw [HT.out, hgood.out, hs]; rfl, HB3⟩
          case measure => simp [intOf]; omega
    · have : k = l.length := by omega
      subst this
      go_wp2
      go_ret
      exact ⟨ret_bool (by have hg := hgood.out; rw [List.take_length, HL.out, List.take_length] at hg; exact hg.symm), hb⟩

set_option maxHeartbeats 1000000 in
theorem dkeepsame_any (t : Tm) : ∀ (u : Tm) (w : World) (s r : Value), Lies w t.kids s → Lies w u.kids r → Calls Try.prog 30 #[tv t s, tv u r] w fun e w' => e = .returned (.bool (sameB t u)) ∧ Below w.heap.size w w' := by
  induction t using Tm.ind with
  | h t ih =>
    intro u w s r hl hm
    obtain ⟨a, cap, S, rfl, -⟩ := hl.out
    obtain ⟨a2, cap2, S2, rfl, -⟩ := hm.out
    have HTM := Lib.hid (dterms_of t.kids ih)
    have HE := Lib.hid (sameB_eq t u)
    have HL := Lib.hid hl
    have HM := Lib.hid hm
    have H0 := held2_start w t (.slice a t.kids.length cap) u (.slice a2 u.kids.length cap2)
    clear hl hm ih
    unfold tv
    cases ek : (t.k == u.k)
    · go_enter Try.func30, Try.ntmps30
      go_wp2
      go_ret
      exact ⟨ret_bool (by rw [HE.out]; simp only [ek, Bool.false_and]), held2_below H0⟩
    cases ei : (t.i == u.i)
    · go_enter Try.func30, Try.ntmps30
      go_wp2
      go_ret
      exact ⟨ret_bool (by rw [HE.out]; simp only [ek, ei, Bool.false_and, Bool.true_and]), held2_below H0⟩
    go_enter Try.func30, Try.ntmps30
    go_wp2_with fail
    refine (HTM.out u.kids _ _ _ (held2_lies H0 HL.out) (held2_lies H0 HM.out)).mono ?_
    rintro e wn ⟨rfl, hb'⟩
    have H1 := held2_call H0 hb'
    clear hb'
    go_wp2
    go_ret
    exact ⟨ret_bool (by rw [HE.out]; simp only [ek, ei, Bool.true_and]), held2_below H1⟩
end Go.Proofs.Ytgglkpfcaniciaa.Dv

namespace Go.Proofs.Ytgglkpfcaniciaa.Dv
open Go.RowKit

/-- Two files that are the same, or not. -/
def fileB (l m : List Tm) (t u : Tm) : Bool := samesB l m && sameB t u
set_option maxHeartbeats 2000000 in
theorem keepfile_any (l m : List Tm) (t u : Tm) (w : World) (cv dv s r : Value) (hl : Lies w l cv) (hm : Lies w m dv) (ht : Lies w t.kids s) (hu : Lies w u.kids r) : Calls Try.prog 10 #[fv cv t s, fv dv u r] w fun e w' => e = .returned (.bool (fileB l m t u)) ∧ Below w.heap.size w w' := by
  obtain ⟨a1, c1, S1, rfl, -⟩ := hl.out
  obtain ⟨a2, c2, S2, rfl, -⟩ := hm.out
  obtain ⟨a3, c3, S3, rfl, -⟩ := ht.out
  obtain ⟨a4, c4, S4, rfl, -⟩ := hu.out
  have hb1 := (Below.refl w.heap.size w).alloc (Nat.le_refl _) (.cells #[.slice a1 l.length c1, .int .i64 t.k, .int .i64 t.i, .slice a3 t.kids.length c3] 27)
  have hb2 := (Below.refl (w.alloc (.cells #[.slice a1 l.length c1, .int .i64 t.k, .int .i64 t.i, .slice a3 t.kids.length c3] 27)).heap.size (w.alloc (.cells #[.slice a1 l.length c1, .int .i64 t.k, .int .i64 t.i, .slice a3 t.kids.length c3] 27))).alloc (Nat.le_refl _) (.cells #[.slice a2 m.length c2, .int .i64 u.k, .int .i64 u.i, .slice a4 u.kids.length c4] 27)
  have hb := hb1.trans (hb2.mono hb1.size)
  have HBB := Lib.hid hb
  have HD := Lib.hid (dterms_of l (fun x _ y w s r h1 h2 => dkeepsame_any x y w s r h1 h2) m _ _ _ (hl.keep hb) (hm.keep hb))
  have n1 := (hb2.block w.heap.size (by simp)).trans (alloc_new w (.cells #[.slice a1 l.length c1, .int .i64 t.k, .int .i64 t.i, .slice a3 t.kids.length c3] 27))
  have n2 := alloc_new (w.alloc (.cells #[.slice a1 l.length c1, .int .i64 t.k, .int .i64 t.i, .slice a3 t.kids.length c3] 27)) (.cells #[.slice a2 m.length c2, .int .i64 u.k, .int .i64 u.i, .slice a4 u.kids.length c4] 27)
  rw [World.size_alloc] at n2
  have HT := Lib.hid (ht.keep hb)
  have HU := Lib.hid (hu.keep hb)
  have hlt1 : w.heap.size + 1 < ((w.alloc (.cells #[.slice a1 l.length c1, .int .i64 t.k, .int .i64 t.i, .slice a3 t.kids.length c3] 27)).alloc (.cells #[.slice a2 m.length c2, .int .i64 u.k, .int .i64 u.i, .slice a4 u.kids.length c4] 27)).heap.size := by simp
  clear hb1 hb2 hb hl hm ht hu
  unfold fv
  go_enter Try.func10, Try.ntmps10
  go_upto_region 1 with fail
  obtain ⟨W, hW⟩ : ∃ W, W = (w.alloc (.cells #[.slice a1 l.length c1, .int .i64 t.k, .int .i64 t.i, .slice a3 t.kids.length c3] 27)).alloc (.cells #[.slice a2 m.length c2, .int .i64 u.k, .int .i64 u.i, .slice a4 u.kids.length c4] 27) := ⟨_, rfl⟩
  rw [← hW] at HBB HD n1 n2 HT HU hlt1
  rw [← hW]
  clear hW
  have HN1 := Lib.hid n1
  have HN2 := Lib.hid n2
  obtain ⟨y0, y1, y2, y3⟩ := four_cells n1
  obtain ⟨z0, z1, z2, z3⟩ := four_cells n2
  clear n1 n2
  go_wp2_with fail
  refine HD.out.mono ?_
  rintro e w2 ⟨rfl, hb2⟩
  have HB2 := Lib.hid (HBB.out.trans (hb2.mono HBB.out.size))
  have n1 := (hb2.block _ (by omega)).trans HN1.out
  have n2 := (hb2.block _ hlt1).trans HN2.out
  have HT2 := Lib.hid (HT.out.keep hb2)
  have HU2 := Lib.hid (HU.out.keep hb2)
  clear hb2 y0 y1 y2 y3 z0 z1 z2 z3
  obtain ⟨y0, y1, y2, y3⟩ := four_cells n1
  obtain ⟨z0, z1, z2, z3⟩ := four_cells n2
  clear n1 n2
  cases hs : samesB l m with
  | false =>
    go_wp2
    go_ret
    exact ⟨by unfold fileB; rw [hs]; rfl, HB2.out⟩
  | true =>
    go_wp2_with fail
    refine (dkeepsame_any t u _ _ _ HT2.out HU2.out).mono ?_
    rintro e w3 ⟨rfl, hb3⟩
    have HB3 := Lib.hid (HB2.out.trans (hb3.mono HB2.out.size))
    clear hb3
    go_wp2
    go_ret
    exact ⟨by unfold fileB; rw [hs]; rfl, HB3.out⟩
set_option maxHeartbeats 4000000 in
set_option maxRecDepth 20000 in
theorem wakes13_any (w : World) : Calls Try.prog 11 #[] w fun e w' => e = .returned (.bool true) ∧ Below w.heap.size w w' := by
  have H1 := Lib.hid (fun w => parse_any ⟨#[40, 102, 105, 108, 101, 32, 40, 40, 115, 111, 114, 116, 32, 48, 41, 41, 32, 40, 118, 97, 114, 32, 48, 41, 41]⟩ 4611686018427387904 4611686018427387904 w (by decide))
  have H2 := Lib.hid (fun w => parse_any ⟨#[40, 102, 105, 108, 101, 32, 40, 41, 32, 40, 115, 111, 114, 116, 41, 41]⟩ 4621256167635550208 4621256167635550208 w (by decide))
  have H3 := Lib.hid (fun w => parse_any ⟨#[40, 102, 105, 108, 101, 32, 40, 41, 32, 40, 114, 101, 102, 108, 32, 40, 115, 111, 114, 116, 32, 48, 41, 41, 41]⟩ 4607182418800017408 4621256167635550208 w (by decide))
  go_enter Try.func11, Try.ntmps11
  go_wp2_with fail
  refine (H1.out w).mono ?_
  intro e w1 hg
  obtain ⟨l1, hl1⟩ : ∃ l1, ([.mk 1 0 []] : List Tm) = l1 := ⟨_, rfl⟩
  obtain ⟨t1, ht1⟩ : ∃ t1, Tm.mk 2 0 [] = t1 := ⟨_, rfl⟩
  rw [show parseB (ByteArray.mk #[40, 102, 105, 108, 101, 32, 40, 40, 115, 111, 114, 116, 32, 48, 41, 41, 32, 40, 118, 97, 114, 32, 48, 41, 41]).data.toList 4611686018427387904 4611686018427387904 = .ok ([.mk 1 0 []], .mk 2 0 []) from pk1, hl1, ht1] at hg
  obtain ⟨hb1, cv, s, rfl, hl, hlt, hfi⟩ := hg
  obtain ⟨a1, c1, rfl, -, -⟩ := hl.out
  obtain ⟨a2, c2, rfl, -, -⟩ := hlt.out
  have hba := (Below.refl w1.heap.size w1).alloc (Nat.le_refl _) (.cells #[.slice a1 l1.length c1, .int .i64 t1.k, .int .i64 t1.i, .slice a2 t1.kids.length c2] 27)
  have hn := alloc_new w1 (.cells #[.slice a1 l1.length c1, .int .i64 t1.k, .int .i64 t1.i, .slice a2 t1.kids.length c2] 27)
  have HB2 := Lib.hid (hb1.trans (hba.mono hb1.size))
  have HLL := Lib.hid (And.intro hl1 ht1)
  clear hl hlt hfi hb1 hba hl1 ht1
  unfold fv
  go_upto_region 2 with fail
  obtain ⟨W1, hW1⟩ : ∃ W1, W1 = w1.alloc (.cells #[.slice a1 l1.length c1, .int .i64 t1.k, .int .i64 t1.i, .slice a2 t1.kids.length c2] 27) := ⟨_, rfl⟩
  rw [← hW1] at HB2 hn
  rw [← hW1]
  have hlt1 := hltD hn
  have HN := Lib.hid hn
  clear hW1 hn H1
  go_wp2_with fail
  refine (H2.out W1).mono ?_
  intro e w2 hg
  rw [show parseB (ByteArray.mk #[40, 102, 105, 108, 101, 32, 40, 41, 32, 40, 115, 111, 114, 116, 41, 41]).data.toList 4621256167635550208 4621256167635550208 = .error (0, 14) from pk2] at hg
  obtain ⟨hb2, hg⟩ := hg
  have he : e = .returned (.tuple #[.agg #[.slice none 0 0, .int .i64 0, .int .i64 0, .slice none 0 0], .int .i64 2, .int .i64 14, .string ⟨#[]⟩]) := hg
  subst he
  have hba := (Below.refl w2.heap.size w2).alloc (Nat.le_refl _) (.cells #[.slice none 0 0, .int .i64 0, .int .i64 0, .slice none 0 0] 27)
  have HB3 := Lib.hid (HB2.out.trans ((hb2.trans (hba.mono hb2.size)).mono HB2.out.size))
  have HN2 := Lib.hid (((hb2.trans (hba.mono hb2.size)).block _ hlt1).trans HN.out)
  clear hb2 hg hba H2 HN hlt1 HB2
  go_upto_region 3 with fail
  obtain ⟨W2, hW2⟩ : ∃ W2, W2 = w2.alloc (.cells #[.slice none 0 0, .int .i64 0, .int .i64 0, .slice none 0 0] 27) := ⟨_, rfl⟩
  rw [← hW2] at HB3 HN2
  rw [← hW2]
  have hlt2 := hltD HN2.out
  clear hW2
  go_wp2_with fail
  refine (H3.out W2).mono ?_
  intro e w3 hg
  rw [show parseB (ByteArray.mk #[40, 102, 105, 108, 101, 32, 40, 41, 32, 40, 114, 101, 102, 108, 32, 40, 115, 111, 114, 116, 32, 48, 41, 41, 41]).data.toList 4607182418800017408 4621256167635550208 = .error (1, 15) from pk3] at hg
  obtain ⟨hb3, hg⟩ := hg
  have he : e = .returned (.tuple #[.agg #[.slice none 0 0, .int .i64 0, .int .i64 0, .slice none 0 0], .int .i64 4, .int .i64 15, .string ⟨#[100, 101, 101, 112]⟩]) := hg
  subst he
  have hba := (Below.refl w3.heap.size w3).alloc (Nat.le_refl _) (.cells #[.slice none 0 0, .int .i64 0, .int .i64 0, .slice none 0 0] 27)
  have HB4 := Lib.hid (HB3.out.trans ((hb3.trans (hba.mono hb3.size)).mono HB3.out.size))
  have hn4 := ((hb3.trans (hba.mono hb3.size)).block _ hlt2).trans HN2.out
  clear hb3 hg hba H3 HN2 hlt2 HB3
  go_upto_region 4 with fail
  obtain ⟨W3, hW3⟩ : ∃ W3, W3 = w3.alloc (.cells #[.slice none 0 0, .int .i64 0, .int .i64 0, .slice none 0 0] 27) := ⟨_, rfl⟩
  rw [← hW3] at HB4 hn4
  rw [← hW3]
  clear hW3
  obtain ⟨y0, y1, y2, y3⟩ := four_cells hn4
  clear hn4
  rw [show l1.length = 1 by rw [← HLL.out.1]; rfl] at y0
  rw [show t1.k = 2 by rw [← HLL.out.2]; rfl] at y1
  go_wp2
  go_ret
  exact ⟨rfl, HB4.out⟩
end Go.Proofs.Ytgglkpfcaniciaa.Dv

namespace Go.Proofs.Ytgglkpfcaniciaa.Dv

/-- What the one gives the other gives, but for what is beyond an allowance. -/
def Mo {α : Type} (x y : Except PF α) : Prop := (∀ r, x = .ok r → y = .ok r) ∧ ∀ a, x = .error (0, a) → y = .error (0, a)
theorem Mo.refl {α : Type} (x : Except PF α) : Mo x x := ⟨fun _ h => h, fun _ h => h⟩
theorem Mo.lim {α : Type} {k a : Nat} (y : Except PF α) : Mo (.error (k + 1, a)) y := ⟨fun r h => (by cases h), fun a h => (by cases h)⟩
def DpMo (dp dq : DP) : Prop := ∀ d u ts, Mo (dp d u ts) (dq d u ts)
theorem kidsD_mo {dp dq : DP} (h : DpMo dp dq) {d : Nat} : ∀ {c u : Nat} {ts : List Tok}, Mo (kidsD dp d c u ts) (kidsD dq d c u ts)
  | 0, u, ts => Mo.refl _
  | c + 1, u, ts => by
    unfold kidsD
    have hk := h d u ts
    cases hx : dp d u ts with
    | error p =>
      obtain ⟨k, a⟩ := p
      cases k with
      | zero => rw [hk.2 _ hx]; exact Mo.refl _
      | succ k => exact Mo.lim _
    | ok q =>
      rw [hk.1 _ hx]
      obtain ⟨t, u1, r⟩ := q
      dsimp only
      have hc := kidsD_mo h (d := d) (c := c) (u := u1) (ts := r)
      cases hy : kidsD dp d c u1 r with
      | ok q => rw [hc.1 _ hy]; exact Mo.refl _
      | error p =>
        obtain ⟨k, a⟩ := p
        cases k with
        | zero => rw [hc.2 _ hy]; exact Mo.refl _
        | succ k => exact Mo.lim _
theorem ruleD_mo {dp dq : DP} (h : DpMo dp dq) {E d u : Nat} {ts : List Tok} : Mo (ruleD dp E d u ts) (ruleD dq E d u ts) := by
  unfold ruleD
  cases takeT E 3 ts with
  | error e => exact Mo.refl _
  | ok w =>
    obtain ⟨w, r1⟩ := w
    dsimp only
    split
    · exact Mo.refl _
    · cases numD E (ruleN w.s) r1 with
      | error e => exact Mo.refl _
      | ok n =>
        obtain ⟨n, r2⟩ := n
        dsimp only
        have hk := kidsD_mo h (d := d + 1) (c := (dkidsN (ruleN w.s)).toNat) (u := u + 1) (ts := r2)
        cases hx : kidsD dp (d + 1) (dkidsN (ruleN w.s)).toNat (u + 1) r2 with
        | ok q => rw [hk.1 _ hx]; exact Mo.refl _
        | error p =>
          obtain ⟨k, a⟩ := p
          cases k with
          | zero => rw [hk.2 _ hx]; exact Mo.refl _
          | succ k => exact Mo.lim _
theorem derP_mo {deep nodes deeper more E : Nat} (h1 : ∀ n, withinB n deep = true → withinB n deeper = true) (h2 : ∀ n, withinB n nodes = true → withinB n more = true) : ∀ f, DpMo (derP deep nodes E f) (derP deeper more E f)
  | 0 => fun d u ts => Mo.refl _
  | f + 1 => fun d u ts => by
    unfold derP
    cases takeT E 1 ts with
    | error e => exact Mo.refl _
    | ok o =>
      obtain ⟨o, r⟩ := o
      dsimp only
      cases hd : withinB d deep with
      | false => rw [if_pos rfl]; exact Mo.lim _
      | true =>
        rw [h1 _ hd]
        simp only [reduceCtorEq, if_false]
        cases hn : withinB (u + 1 : Nat) nodes with
        | false => simp only [if_true]; exact Mo.lim _
        | true =>
          rw [h2 _ hn]
          simp only [reduceCtorEq, if_false]
          exact ruleD_mo (derP_mo h1 h2 f)
theorem ctxD_mo {dp dq : DP} (h : DpMo dp dq) {E : Nat} : ∀ {f u : Nat} {ts : List Tok}, Mo (ctxD dp E f u ts) (ctxD dq E f u ts)
  | 0, u, ts => Mo.refl _
  | f + 1, u, ts => by
    unfold ctxD
    split
    · exact Mo.refl _
    · have hk := h 1 u ts
      cases hx : dp 1 u ts with
      | error p =>
        obtain ⟨k, a⟩ := p
        cases k with
        | zero => rw [hk.2 _ hx]; exact Mo.refl _
        | succ k => exact Mo.lim _
      | ok q =>
        rw [hk.1 _ hx]
        obtain ⟨t, u1, r⟩ := q
        dsimp only
        have hc := ctxD_mo h (E := E) (f := f) (u := u1) (ts := r)
        cases hy : ctxD dp E f u1 r with
        | ok q => rw [hc.1 _ hy]; exact Mo.refl _
        | error p =>
          obtain ⟨k, a⟩ := p
          cases k with
          | zero => rw [hc.2 _ hy]; exact Mo.refl _
          | succ k => exact Mo.lim _
theorem fileP_mo {dp dq : DP} (h : DpMo dp dq) {E f : Nat} {ts : List Tok} : Mo (fileP dp E f ts) (fileP dq E f ts) := by
  unfold fileP
  cases takeT E 1 ts with
  | error e => exact Mo.refl _
  | ok o =>
  obtain ⟨o, r1⟩ := o
  dsimp only
  cases takeT E 3 r1 with
  | error e => exact Mo.refl _
  | ok o2 =>
  obtain ⟨w, r2⟩ := o2
  dsimp only
  split
  · cases takeT E 1 r2 with
    | error e => exact Mo.refl _
    | ok o3 =>
    obtain ⟨o3, r3⟩ := o3
    dsimp only
    have hc := ctxD_mo h (E := E) (f := f) (u := 0) (ts := r3)
    cases hy : ctxD dp E f 0 r3 with
    | error p =>
      obtain ⟨k, a⟩ := p
      cases k with
      | zero => rw [hc.2 _ hy]; exact Mo.refl _
      | succ k => exact Mo.lim _
    | ok q =>
    rw [hc.1 _ hy]
    obtain ⟨c, u, r4⟩ := q
    dsimp only
    cases takeT E 2 r4 with
    | error e => exact Mo.refl _
    | ok o5 =>
    obtain ⟨o5, r5⟩ := o5
    dsimp only
    have hk := h 1 u r5
    cases hx : dp 1 u r5 with
    | error p =>
      obtain ⟨k, a⟩ := p
      cases k with
      | zero => rw [hk.2 _ hx]; exact Mo.refl _
      | succ k => exact Mo.lim _
    | ok q => rw [hk.1 _ hx]; exact Mo.refl _
  · exact Mo.refl _
theorem parseB_mo {s : List UInt8} {deep nodes deeper more : Nat} (h1 : ∀ n, withinB n deep = true → withinB n deeper = true) (h2 : ∀ n, withinB n nodes = true → withinB n more = true) : Mo (parseB s deep nodes) (parseB s deeper more) := by
  unfold parseB
  have hk := fileP_mo (derP_mo h1 h2 (E := (ofL s).2.1) ((ofL s).1.length + 1)) (E := (ofL s).2.1) (f := (ofL s).1.length + 1) (ts := (ofL s).1)
  cases hx : fileP (derP deep nodes (ofL s).2.1 ((ofL s).1.length + 1)) (ofL s).2.1 ((ofL s).1.length + 1) (ofL s).1 with
  | ok q => rw [hk.1 _ hx]; exact Mo.refl _
  | error p =>
    obtain ⟨k, a⟩ := p
    cases k with
    | zero => rw [hk.2 _ hx]; exact Mo.refl _
    | succ k => exact Mo.lim _
end Go.Proofs.Ytgglkpfcaniciaa.Dv

namespace Go.Proofs.Ytgglkpfcaniciaa.Dv
open Go.RowKit

theorem within_moreD {n : Int} {a b : Nat} (hg : (FloatKind.f64.format.order b a == some .gt || FloatKind.f64.format.order b a == some .eq) = true) (h : withinB n a = true) : withinB n b = true := by
  rw [withinB_eq] at h ⊢
  exact Fl.leD_trans h (Fl.geD.symm.trans hg)
def errK : PF → Int
  | (0, _) => 2
  | (_ + 1, _) => 4
def errW : PF → ByteArray
  | (0, _) => ⟨#[]⟩
  | (1, _) => ⟨#[100, 101, 101, 112]⟩
  | (_ + 2, _) => ⟨#[110, 111, 100, 101, 115]⟩
theorem errV_eq (p : PF) : errV p = .tuple #[.agg #[.slice none 0 0, .int .i64 0, .int .i64 0, .slice none 0 0], .int .i64 (errK p), .int .i64 (p.2 : Nat), .string (errW p)] := by
  obtain ⟨k, a⟩ := p
  match k with
  | 0 => rfl
  | 1 => rfl
  | k + 2 => rfl
theorem samesB_self (l : List Tm) : samesB l l = true := by
  have := sameB_self (.mk 0 0 l)
  rw [sameB_eq] at this
  simpa [Tm.kids] using this
theorem fileB_self (l : List Tm) (t : Tm) : fileB l l t t = true := by unfold fileB; rw [samesB_self, sameB_self]; rfl
theorem nil_lies (w : World) : Lies w [] (.slice none 0 0) := .mk [] none 0 (fun _ => .nilIface) (Nat.le_refl _) (by decide) (fun _ h => by cases h) (fun _ h => absurd h (by simp)) (fun _ h => absurd h (by simp))
set_option maxHeartbeats 4000000 in
set_option maxRecDepth 20000 in
theorem parseMore_in (s : ByteArray) (deep nodes deeper more : Nat) (w : World) (hs : ¬ 3000 < s.size) (g1 : (FloatKind.f64.format.order deeper deep == some .gt || FloatKind.f64.format.order deeper deep == some .eq) = true) (g2 : (FloatKind.f64.format.order more nodes == some .gt || FloatKind.f64.format.order more nodes == some .eq) = true) : Calls Try.prog 4 #[.string s, .float .f64 deep, .float .f64 nodes, .float .f64 deeper, .float .f64 more] w fun e w' => e = .returned (.bool true) ∧ Below w.heap.size w w' := by
  have HP := Lib.hid (parse_any s deep nodes w (by omega))
  have HQ := Lib.hid (fun w => parse_any s deeper more w (by omega))
  have HM := Lib.hid (parseB_mo (s := s.data.toList) (deep := deep) (nodes := nodes) (deeper := deeper) (more := more) (fun n h => within_moreD g1 h) (fun n h => within_moreD g2 h))
  have hs' : ¬ 3000 < (s.size : Int) := by omega
  go_enter Try.func4, Try.ntmps4
  go_wp2_with fail
  refine HP.out.mono ?_
  intro e w1 hg
  cases hx : parseB s.data.toList deep nodes with
  | error p =>
    rw [hx] at hg
    obtain ⟨hb1, hg⟩ := hg
    obtain ⟨k, a⟩ := p
    cases k with
    | zero =>
      replace hg : e = .returned (.tuple #[.agg #[.slice none 0 0, .int .i64 0, .int .i64 0, .slice none 0 0], .int .i64 2, .int .i64 (a : Nat), .string ⟨#[]⟩]) := hg
      subst hg
      have hba := (Below.refl w1.heap.size w1).alloc (Nat.le_refl _) (.cells #[.slice none 0 0, .int .i64 0, .int .i64 0, .slice none 0 0] 27)
      have hn := alloc_new w1 (.cells #[.slice none 0 0, .int .i64 0, .int .i64 0, .slice none 0 0] 27)
      have HB2 := Lib.hid (hb1.trans (hba.mono hb1.size))
      clear hb1 hba HP g1 g2
      go_upto_region 4 with fail
      obtain ⟨W, hW⟩ : ∃ W, W = w1.alloc (.cells #[.slice none 0 0, .int .i64 0, .int .i64 0, .slice none 0 0] 27) := ⟨_, rfl⟩
      rw [← hW] at HB2 hn
      rw [← hW]
      clear hW
      have HN := Lib.hid hn
      have hlt1 := hltD hn
      clear hn
      have hy := HM.out.2 _ hx
      go_wp2_with fail
      refine (HQ.out W).mono ?_
      intro e w3 hg
      rw [hy] at hg
      obtain ⟨hb3, hg⟩ := hg
      replace hg : e = .returned (.tuple #[.agg #[.slice none 0 0, .int .i64 0, .int .i64 0, .slice none 0 0], .int .i64 2, .int .i64 (a : Nat), .string ⟨#[]⟩]) := hg
      subst hg
      have hba := (Below.refl w3.heap.size w3).alloc (Nat.le_refl _) (.cells #[.slice none 0 0, .int .i64 0, .int .i64 0, .slice none 0 0] 27)
      have hbb := hb3.trans (hba.mono hb3.size)
      have hn2 := alloc_new w3 (.cells #[.slice none 0 0, .int .i64 0, .int .i64 0, .slice none 0 0] 27)
      have hn1 := (hbb.block _ hlt1).trans HN.out
      have HB4 := Lib.hid (HB2.out.trans (hbb.mono HB2.out.size))
      clear hb3 hba hbb hy hx HQ HM
      go_upto_region 5 with fail
      obtain ⟨V, hV⟩ : ∃ V, V = w3.alloc (.cells #[.slice none 0 0, .int .i64 0, .int .i64 0, .slice none 0 0] 27) := ⟨_, rfl⟩
      rw [← hV] at HB4 hn1 hn2
      rw [← hV]
      clear hV
      obtain ⟨y0, y1, y2, y3⟩ := four_cells hn1
      obtain ⟨z0, z1, z2, z3⟩ := four_cells hn2
      clear hn1 hn2
      go_wp2_with fail
      refine (keepfile_any [] [] (.mk 0 0 []) (.mk 0 0 []) V _ _ _ _ (nil_lies _) (nil_lies _) (nil_lies _) (nil_lies _)).mono ?_
      rintro e w5 ⟨rfl, hb5⟩
      rw [fileB_self]
      have HB5 := Lib.hid (HB4.out.trans (hb5.mono HB4.out.size))
      clear hb5 y0 y1 y2 y3 z0 z1 z2 z3
      go_wp2_with fail
      refine (wakes13_any _).mono ?_
      rintro e w6 ⟨rfl, hb6⟩
      have HB6 := Lib.hid (HB5.out.trans (hb6.mono HB5.out.size))
      clear hb6
      go_wp2
      go_ret
      exact ⟨rfl, HB6.out⟩
    | succ k =>
      replace hg : e = .returned (.tuple #[.agg #[.slice none 0 0, .int .i64 0, .int .i64 0, .slice none 0 0], .int .i64 4, .int .i64 (a : Nat), .string (errW (k + 1, a))]) := by rw [hg]; cases k <;> rfl
      subst hg
      have hba := (Below.refl w1.heap.size w1).alloc (Nat.le_refl _) (.cells #[.slice none 0 0, .int .i64 0, .int .i64 0, .slice none 0 0] 27)
      have hn := alloc_new w1 (.cells #[.slice none 0 0, .int .i64 0, .int .i64 0, .slice none 0 0] 27)
      have HB2 := Lib.hid (hb1.trans (hba.mono hb1.size))
      clear hb1 hba HP g1 g2
      go_upto_region 4 with fail
      obtain ⟨W, hW⟩ : ∃ W, W = w1.alloc (.cells #[.slice none 0 0, .int .i64 0, .int .i64 0, .slice none 0 0] 27) := ⟨_, rfl⟩
      rw [← hW] at HB2 hn
      rw [← hW]
      clear hW
      have HN := Lib.hid hn
      have hlt1 := hltD hn
      clear hn
      go_wp2_with fail
      refine (HQ.out W).mono ?_
      intro e w3 hg
      obtain ⟨hb3, hg⟩ := hg
      obtain ⟨c0, c1, c2, c3, k3, p3, s3, he⟩ : ∃ c0 c1 c2 c3 k3 p3 s3, e = .returned (.tuple #[.agg #[c0, .int .i64 c1, .int .i64 c2, c3], .int .i64 k3, .int .i64 p3, .string s3]) ∧ (∃ a l c, c0 = .slice a l c) ∧ (∃ a l c, c3 = .slice a l c) := by
        cases hy : parseB s.data.toList deeper more with
        | error p => rw [hy] at hg; replace hg := Eq.trans (show e = .returned (errV p) from hg) (congrArg Ending.returned (errV_eq p)); exact ⟨_, _, _, _, _, _, _, hg, ⟨_, _, _, rfl⟩, ⟨_, _, _, rfl⟩⟩
        | ok q =>
          obtain ⟨l, t⟩ := q
          rw [hy] at hg
          obtain ⟨cv, sv, he, hl, hlt, -⟩ := hg
          obtain ⟨a1, c1, rfl, -, -⟩ := hl.out
          obtain ⟨a2, c2, rfl, -, -⟩ := hlt.out
          exact ⟨_, _, _, _, _, _, _, he, ⟨_, _, _, rfl⟩, ⟨_, _, _, rfl⟩⟩
      obtain ⟨he, ⟨a1, l1, q1, rfl⟩, ⟨a2, l2, q2, rfl⟩⟩ := he
      subst he
      have hba := (Below.refl w3.heap.size w3).alloc (Nat.le_refl _) (.cells #[.slice a1 l1 q1, .int .i64 c1, .int .i64 c2, .slice a2 l2 q2] 27)
      have hbb := hb3.trans (hba.mono hb3.size)
      have hn1 := (hbb.block _ hlt1).trans HN.out
      have HB4 := Lib.hid (HB2.out.trans (hbb.mono HB2.out.size))
      clear hb3 hba hbb hg hx HQ HM
      go_upto_region 5 with fail
      obtain ⟨V, hV⟩ : ∃ V, V = w3.alloc (.cells #[.slice a1 l1 q1, .int .i64 c1, .int .i64 c2, .slice a2 l2 q2] 27) := ⟨_, rfl⟩
      rw [← hV] at HB4 hn1
      rw [← hV]
      clear hV
      obtain ⟨y0, y1, y2, y3⟩ := four_cells hn1
      clear hn1
      go_wp2_with fail
      refine (wakes13_any _).mono ?_
      rintro e w6 ⟨rfl, hb6⟩
      have HB6 := Lib.hid (HB4.out.trans (hb6.mono HB4.out.size))
      clear hb6 y0 y1 y2 y3
      go_wp2
      go_ret
      exact ⟨rfl, HB6.out⟩
  | ok p =>
    obtain ⟨l, t⟩ := p
    rw [hx] at hg
    obtain ⟨hb1, cv, sv, rfl, hl, hlt, hfi⟩ := hg
    obtain ⟨a1, c1, rfl, -, -⟩ := hl.out
    obtain ⟨a2, c2, rfl, -, -⟩ := hlt.out
    have hba := (Below.refl w1.heap.size w1).alloc (Nat.le_refl _) (.cells #[.slice a1 l.length c1, .int .i64 t.k, .int .i64 t.i, .slice a2 t.kids.length c2] 27)
    have hn := alloc_new w1 (.cells #[.slice a1 l.length c1, .int .i64 t.k, .int .i64 t.i, .slice a2 t.kids.length c2] 27)
    have HB2 := Lib.hid (hb1.trans (hba.mono hb1.size))
    have HL := Lib.hid (hl.later hba).lies
    have HT := Lib.hid (hlt.later hba).lies
    have hy := HM.out.1 _ hx
    clear hl hlt hfi hb1 hba hx HP g1 g2 HM
    unfold fv
    go_upto_region 4 with fail
    obtain ⟨W, hW⟩ : ∃ W, W = w1.alloc (.cells #[.slice a1 l.length c1, .int .i64 t.k, .int .i64 t.i, .slice a2 t.kids.length c2] 27) := ⟨_, rfl⟩
    rw [← hW] at HB2 hn HL HT
    rw [← hW]
    clear hW
    have HN := Lib.hid hn
    have hlt1 := hltD hn
    clear hn
    go_wp2_with fail
    refine (HQ.out W).mono ?_
    intro e w3 hg
    rw [hy] at hg
    obtain ⟨hb3, cv, sv, rfl, hl, hlt, hfi⟩ := hg
    obtain ⟨a3, c3, rfl, -, -⟩ := hl.out
    obtain ⟨a4, c4, rfl, -, -⟩ := hlt.out
    have hba := (Below.refl w3.heap.size w3).alloc (Nat.le_refl _) (.cells #[.slice a3 l.length c3, .int .i64 t.k, .int .i64 t.i, .slice a4 t.kids.length c4] 27)
    have hbb := hb3.trans (hba.mono hb3.size)
    have hn2 := alloc_new w3 (.cells #[.slice a3 l.length c3, .int .i64 t.k, .int .i64 t.i, .slice a4 t.kids.length c4] 27)
    have hn1 := (hbb.block _ hlt1).trans HN.out
    have HB4 := Lib.hid (HB2.out.trans (hbb.mono HB2.out.size))
    have HL2 := Lib.hid (hl.later hba).lies
    have HT2 := Lib.hid (hlt.later hba).lies
    have HL1 := Lib.hid (HL.out.keep hbb)
    have HT1 := Lib.hid (HT.out.keep hbb)
    clear hb3 hba hbb hl hlt hfi hy HQ HL HT
    unfold fv
    go_upto_region 5 with fail
    obtain ⟨V, hV⟩ : ∃ V, V = w3.alloc (.cells #[.slice a3 l.length c3, .int .i64 t.k, .int .i64 t.i, .slice a4 t.kids.length c4] 27) := ⟨_, rfl⟩
    rw [← hV] at HB4 hn1 hn2 HL1 HL2 HT1 HT2
    rw [← hV]
    clear hV
    obtain ⟨y0, y1, y2, y3⟩ := four_cells hn1
    obtain ⟨z0, z1, z2, z3⟩ := four_cells hn2
    clear hn1 hn2
    go_wp2_with fail
    refine (keepfile_any l l t t V _ _ _ _ HL1.out HL2.out HT1.out HT2.out).mono ?_
    rintro e w5 ⟨rfl, hb5⟩
    rw [fileB_self]
    have HB5 := Lib.hid (HB4.out.trans (hb5.mono HB4.out.size))
    clear hb5 y0 y1 y2 y3 z0 z1 z2 z3
    go_wp2_with fail
    refine (wakes13_any _).mono ?_
    rintro e w6 ⟨rfl, hb6⟩
    have HB6 := Lib.hid (HB5.out.trans (hb6.mono HB5.out.size))
    clear hb6
    go_wp2
    go_ret
    exact ⟨rfl, HB6.out⟩
theorem parseMore_any (s : ByteArray) (deep nodes deeper more : Nat) (w : World) : Calls Try.prog 4 #[.string s, .float .f64 deep, .float .f64 nodes, .float .f64 deeper, .float .f64 more] w fun e w' => e = .returned (.bool true) ∧ Below w.heap.size w w' := by
  by_cases hbig : 3000 < s.size
  · have hbig' : 3000 < (s.size : Int) := by omega
    go_enter Try.func4, Try.ntmps4
    go_wp2
    go_ret
    exact ⟨rfl, Below.refl _ _⟩
  have hs' : ¬ 3000 < (s.size : Int) := by omega
  cases g1 : (FloatKind.f64.format.order deeper deep == some .gt || FloatKind.f64.format.order deeper deep == some .eq) with
  | false =>
    go_enter Try.func4, Try.ntmps4
    go_wp2
    go_ret
    exact ⟨rfl, Below.refl _ _⟩
  | true =>
    cases g2 : (FloatKind.f64.format.order more nodes == some .gt || FloatKind.f64.format.order more nodes == some .eq) with
    | false =>
      go_enter Try.func4, Try.ntmps4
      go_wp2
      go_ret
      exact ⟨rfl, Below.refl _ _⟩
    | true => exact parseMore_in s deep nodes deeper more w hbig g1 g2
end Go.Proofs.Ytgglkpfcaniciaa.Dv

namespace Go.Proofs.Ytgglkpfcaniciaa
open Go.RowKit Go.ChangeShapes Go.WideShapes Go.ChangeAt
theorem own : ownKnob Try.prog.godebug = none := by kernel_rfl
end Go.Proofs.Ytgglkpfcaniciaa

namespace Go.Proofs.Ytgglkpfcaniciaa
open Go.ChangeShapes Go.WideShapes

def code (l : List Nat) : List Char := l.map Char.ofNat
def joinN : List (List Nat) → List Nat
  | [] => []
  | [a] => a
  | a :: b :: r => a ++ 32 :: joinN (b :: r)

theorem words_one : ∀ a : List Nat, (a.all fun n => Char.ofNat n != Char.ofNat 32) = true → wordsSigns (code a) = [code a]
  | [], _ => rfl
  | n :: a, h => by
    simp only [List.all_cons, Bool.and_eq_true, bne_iff_ne] at h
    have ih := words_one a h.2
    show wordsSigns (Char.ofNat n :: code a) = _
    rw [wordsSigns]
    · rw [ih]; rfl
    · exact h.1
theorem words_more : ∀ (a : List Nat) (r : List Char), (a.all fun n => Char.ofNat n != Char.ofNat 32) = true → wordsSigns (code a ++ Char.ofNat 32 :: r) = code a :: wordsSigns r
  | [], r, _ => by
    show wordsSigns (Char.ofNat 32 :: r) = _
    rw [show Char.ofNat 32 = _ from rfl, wordsSigns]; rfl
  | n :: a, r, h => by
    simp only [List.all_cons, Bool.and_eq_true, bne_iff_ne] at h
    have ih := words_more a r h.2
    show wordsSigns (Char.ofNat n :: (code a ++ Char.ofNat 32 :: r)) = _
    rw [wordsSigns]
    · rw [ih]; rfl
    · exact h.1
theorem words_join : ∀ ws : List (List Nat), ws ≠ [] → (ws.all fun w => w.all fun n => Char.ofNat n != Char.ofNat 32) = true → wordsSigns (code (joinN ws)) = ws.map code
  | [], h, _ => absurd rfl h
  | [a], _, h => by simp only [List.all_cons, List.all_nil, Bool.and_true] at h; exact words_one a h
  | a :: b :: r, _, h => by
    have h' := h
    rw [List.all_cons, Bool.and_eq_true] at h'
    have ih := words_join (b :: r) (by simp) h'.2
    show wordsSigns (code (a ++ 32 :: joinN (b :: r))) = _
    rw [show code (a ++ 32 :: joinN (b :: r)) = code a ++ Char.ofNat 32 :: code (joinN (b :: r)) from by simp [code], words_more a _ h'.1, ih]; rfl

def cutWords : List (List Nat) := [[104, 97, 114, 110, 101, 115, 115],
  [99, 51, 56, 48, 55, 57, 100, 52, 57, 56, 52, 101, 53, 48, 51, 101, 56, 56, 102, 56, 101, 48, 50, 53, 54, 57, 54, 57, 98, 100, 48, 54, 49, 102, 99, 51, 49, 50, 98, 55, 49, 102, 57, 53, 54, 102, 56, 48, 102, 57, 50, 52, 56, 99, 98, 53, 50, 55, 50, 50, 57, 49, 99, 98],
  [99, 117, 116],
  [97, 116],
  [116, 114, 97, 110, 115, 104, 105, 112, 47, 116, 114, 97, 110, 115, 104, 105, 112, 108, 97, 119, 49, 51, 46, 80, 97, 114, 115, 101, 69, 120, 97, 99, 116],
  [116, 114, 97, 110, 115, 104, 105, 112, 47, 116, 114, 97, 110, 115, 104, 105, 112, 108, 97, 119, 49, 51, 46, 80, 97, 114, 115, 101, 77, 111, 114, 101],
  [116, 114, 97, 110, 115, 104, 105, 112, 47, 116, 114, 97, 110, 115, 104, 105, 112, 108, 97, 119, 49, 51, 46, 80, 97, 114, 115, 101, 76, 105, 109, 105, 116, 115],
  [116, 114, 97, 110, 115, 104, 105, 112, 47, 116, 114, 97, 110, 115, 104, 105, 112, 108, 97, 119, 49, 51, 46, 80, 97, 114, 115, 101, 66, 101, 116, 119, 101, 101, 110],
  [116, 114, 97, 110, 115, 104, 105, 112, 47, 116, 114, 97, 110, 115, 104, 105, 112, 108, 97, 119, 49, 51, 46, 80, 97, 114, 115, 101, 82, 105, 103, 104, 116]]

set_option maxRecDepth 100000 in
theorem cut_words : wordsSigns Try.prog.initOrder.toList = cutWords.map code := by
  have h : Try.prog.initOrder.toList = code (joinN cutWords) := by
    show (String.ofList (code (joinN cutWords))).toList = _
    exact String.toList_ofList
  rw [h]
  exact words_join cutWords (by simp [cutWords]) (by decide +kernel)

theorem cut_behind : behindMainWord (cutWords.map code) = code [99, 117, 116] :: cutWords.tail.tail.tail.map code := by kernel_rfl
theorem cut_lifts : stripLifts liftWords (code [99, 117, 116] :: cutWords.tail.tail.tail.map code) = ([], code [99, 117, 116] :: cutWords.tail.tail.tail.map code) := by kernel_rfl
theorem cut1 : (code [99, 117, 116] == "gc".toList) = false := by kernel_rfl
theorem cut2 : (code [99, 117, 116] == "spec".toList) = false := by kernel_rfl
theorem cut3 : (code [99, 117, 116] == "cut".toList) = true := by kernel_rfl
theorem cut_all : behindMainWord (wordsSigns Try.prog.initOrder.toList) = code [99, 117, 116] :: cutWords.tail.tail.tail.map code := by rw [cut_words, cut_behind]
theorem make_of (P : Program) {c : List Char} {rest : List (List Char)} (h : behindMainWord (wordsSigns P.initOrder.toList) = c :: rest) (h1 : (c == "gc".toList) = false) (h2 : (c == "spec".toList) = false) (h3 : (c == "cut".toList) = true) : P.make = some .cut := by
  unfold Program.make; rw [h]
  simp only [h1, h2, h3, Bool.or_self, Bool.false_eq_true, if_false, Bool.true_or, if_true]
theorem mayEnter_of (P : Program) {c : List Char} {rest : List (List Char)} (h : behindMainWord (wordsSigns P.initOrder.toList) = c :: rest) (h3 : ((stripLifts liftWords (c :: rest)).2.head? == some "cut".toList) = true)
    (h4 : (stripLifts liftWords (c :: rest)).1 = []) (h5 : P.laysLater = false) (h6 : P.bearsReflect = false) (h7 : P.doorFits [] = true) : P.mayEnter = true := by
  unfold Program.mayEnter; rw [h]
  refine Bool.or_eq_true_iff.2 (Or.inr ?_)
  rw [h3, h4, h5, h6, h7]; rfl
theorem row_make : Try.prog.make = some .cut := make_of Try.prog cut_all cut1 cut2 cut3
theorem row_mayEnter : Try.prog.mayEnter = true := mayEnter_of Try.prog cut_all (by rw [cut_lifts]; kernel_rfl) (by rw [cut_lifts]) (by kernel_rfl) (by kernel_rfl) (by kernel_rfl)
theorem row_lifts : Try.prog.liftsFinal = false := by unfold Program.liftsFinal Program.headLifts; rw [cut_all, cut_lifts]; kernel_rfl
end Go.Proofs.Ytgglkpfcaniciaa

namespace Go.Proofs.Ytgglkpfcaniciaa.lawParseMore
open Go.ChangeShapes Go.WideShapes Go.ChangeAt Go.RowKit Go.ChangeMaps

set_option maxRecDepth 100000 in
theorem lifted (os : Os) (started : os.Started) (H : Type) (enc : TypeId × Value → H) :
    ReturnsInHanded {} Try.checked os 4 .any (Rows.parseMoreSpec.pre6 enc Try.prog Try.f4 Rows.parseMoreRow.domain false) (Rows.parseMoreSpec.post enc Try.prog Try.f4 false true false false) := by
  refine returnsInHanded_of_change (C := Try.checked) own started (by kernel_rfl) Try.func4
    (ChangeSpec.witness6 (enc := enc) (C := Try.checked) false ⟨#[], #[.string ⟨#[]⟩, .float .f64 0, .float .f64 0, .float .f64 0, .float .f64 0], []⟩ 8 (by kernel_rfl) (by kernel_rfl) (by kernel_rfl) (by kernel_rfl)) ?_
  intro W base args ds gs before hval0 hW hcnd _
  have hval : ∀ (j : Nat) t v, Try.f4.params[j]? = some t → args[j]? = some v → Value.okWide Try.prog W .any base t v := hval0
  have hW' := hW
  obtain ⟨p, q, hA0, hV, rfl, hfz, hnd⟩ := hW
  have hA : DataW.TrodAll enc Try.prog W 0 (fun _ => true) true Try.f4.params.toList args.toList ds p := hA0
  rw [Try.params4] at hA hval
  obtain ⟨v0, vs0, d0, ds0, p0, q0, hargs0, rfl, rfl, h0, r0⟩ := trodAll_cons hA
  obtain ⟨v1, vs1, d1, ds1, p1, q1, hargs1, rfl, rfl, h1, r1⟩ := trodAll_cons r0
  obtain ⟨v2, vs2, d2, ds2, p2, q2, hargs2, rfl, rfl, h2, r2⟩ := trodAll_cons r1
  obtain ⟨v3, vs3, d3, ds3, p3, q3, hargs3, rfl, rfl, h3, r3⟩ := trodAll_cons r2
  obtain ⟨v4, vs4, d4, ds4, p4, q4, hargs4, rfl, rfl, h4, r4⟩ := trodAll_cons r3
  obtain ⟨rfl, rfl, rfl⟩ := trodAll_nil r4
  obtain rfl : args = #[v0, v1, v2, v3, v4] := by cases args; simp_all
  obtain ⟨rfl, rfl⟩ := trodVars_none hV
  obtain ⟨a0, rfl, rfl, rfl, w0⟩ := open_string Try.underlying9 (hval 0 9 v0 rfl rfl) h0
  obtain ⟨a1, rfl, rfl, rfl, w1⟩ := open_float Try.underlying22 (hval 1 22 v1 rfl rfl) h1
  obtain ⟨a2, rfl, rfl, rfl, w2⟩ := open_float Try.underlying22 (hval 2 22 v2 rfl rfl) h2
  obtain ⟨a3, rfl, rfl, rfl, w3⟩ := open_float Try.underlying22 (hval 3 22 v3 rfl rfl) h3
  obtain ⟨a4, rfl, rfl, rfl, w4⟩ := open_float Try.underlying22 (hval 4 22 v4 rfl rfl) h4
  clear hA0 hval0
  simp only [List.append_nil] at hW'
  refine (Dv.parseMore_any a0 a1 a2 a3 a4 W).mono fun e W' ⟨he, hb⟩ => ?_
  subst he
  exact ⟨_, rfl, _, _, _, [], _, [], hW', trodAll_cons_mk (shut_bool Try.underlying4 _) trodAll_mk0, (trodAll_cons_mk (shut_string Try.underlying9 w0) (trodAll_cons_mk (shut_float Try.underlying22 w1) (trodAll_cons_mk (shut_float Try.underlying22 w2) (trodAll_cons_mk (shut_float Try.underlying22 w3) (trodAll_cons_mk (shut_float Try.underlying22 w4) trodAll_mk0))))), rfl, hb.frame _, fun h => by cases h⟩

theorem closed : joinedFacts Try.prog 4 Try.f4 Rows.parseMoreSpec Rows.parseMoreRow = true := by
  unfold joinedFacts
  rw [row_mayEnter, row_lifts, row_make]
  kernel_rfl

theorem proved : Rows.ParseMoreSaid :=
  OpenClaim.holds_of_wide 4 Try.f4 rfl rfl rfl rfl rfl rfl rfl ⟨rfl, rfl, rfl, rfl, rfl⟩ rfl rfl rfl rfl rfl (by kernel_rfl) Try.func4 closed
    (of_decide_eq_true (by kernel_rfl)) (by unfold Func.isWrapper; first | (rw [if_pos (by decide +kernel)]; kernel_rfl) | (rw [if_neg (by decide +kernel)]; exact ⟨rfl, rfl⟩))
    (fun os started H enc _ => lifted os started H enc)
#print axioms proved
end Go.Proofs.Ytgglkpfcaniciaa.lawParseMore
