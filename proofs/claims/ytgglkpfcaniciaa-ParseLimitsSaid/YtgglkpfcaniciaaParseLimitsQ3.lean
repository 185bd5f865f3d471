/-
  ParseLimits holds: for every input the call returns true, and the arguments read as before. No condition.
-/
import Derived.Lib.ItoaNum
import Derived.Lib.ItoaLen
import Derived.Test.YtgglkpfcaniciaaRows
import Derived.WalkKit
import Derived.Lib.Hide
import Derived.ProofKit
import Derived.LoopTactic
import Derived.Below
import Derived.IntWalk
import Derived.Lib.Strings
import Derived.Laws.Strings2
import Derived.Deep.AppendLies
import Derived.Laws.Rows
import Derived.OwnWalk
import Derived.KernelRfl
import Derived.Deep.RegionHeld3
import Derived.Lib.Builder
import Derived.WalkSmall
import Derived.Maps.GroupsBeside
import Derived.Maps.StringElems
import Derived.Laws.OwnMore
import Derived.Deep.RegionLaw
import Derived.Maps.AppendAt
import Derived.Deep.Cut
import Derived.Deep.DeepCutAuto
import Derived.Maps.OwnOps
import Derived.Maps.OwnSet
import Derived.Lib.MinMax
import Derived.Laws.IdiomCopy
import Derived.Deep.Slices
import Derived.Lib.QuietBelow
import Derived.StillTailTactics
import Derived.BigQuiet
import Derived.Deep.RegionWith
import Derived.OrdersHeld
import Derived.Laws.StructEq
import GoSem.Core.Float
import Derived.Laws.Cover2
import Derived.Laws.FloatArith
import Derived.Laws.Externs
import Derived.Deep.QuietTactic
import Derived.Laws.AppendOwn
import Derived.Recover
import Derived.RegionTactic
import Derived.OpenShut
import Derived.Carry
import Derived.JoinedOf
import Derived.ChangeMaps5
import Derived.Test.YtgglkpfcaniciaaParseLimitsQ2
namespace Go.Proofs.Ytgglkpfcaniciaa.Dv
open Go.RowKit

set_option maxHeartbeats 4000000 in
set_option maxRecDepth 20000 in
theorem wakes13_any (w : World) : Calls Try.prog 11 #[] w fun e w' => e = .returned (.bool true) ∧ Below w.heap.size w w' := by
  have H1 := Lib.hid (fun w => parse_any ⟨#[40, 102, 105, 108, 101, 32, 40, 40, 115, 111, 114, 116, 32, 48, 41, 41, 32, 40, 118, 97, 114, 32, 48, 41, 41]⟩ 4611686018427387904 4611686018427387904 w (by decide))
  have H2 := Lib.hid (fun w => parse_any ⟨#[40, 102, 105, 108, 101, 32, 40, 41, 32, 40, 115, 111, 114, 116, 41, 41]⟩ 4621256167635550208 4621256167635550208 w (by decide))
  have H3 := Lib.hid (fun w => parse_any ⟨#[40, 102, 105, 108, 101, 32, 40, 41, 32, 40, 114, 101, 102, 108, 32, 40, 115, 111, 114, 116, 32, 48, 41, 41, 41]⟩ 4607182418800017408 4621256167635550208 w (by decide))
  go_enter Try.func11, Try.ntmps11
  go_wp2_with fail
  refine (H1.out w).mono ?_
  intro e w1 hg
  obtain ⟨l1, hl1⟩ : ∃ l1, ([.mk 1 0 []] : List Tm) = l1 := ⟨_, rfl⟩
  obtain ⟨t1, ht1⟩ : ∃ t1, Tm.mk 2 0 [] = t1 := ⟨_, rfl⟩
  rw [show parseB (ByteArray.mk #[40, 102, 105, 108, 101, 32, 40, 40, 115, 111, 114, 116, 32, 48, 41, 41, 32, 40, 118, 97, 114, 32, 48, 41, 41]).data.toList 4611686018427387904 4611686018427387904 = .ok ([.mk 1 0 []], .mk 2 0 []) from pk1, hl1, ht1] at hg
  obtain ⟨hb1, cv, s, rfl, hl, hlt, hfi⟩ := hg
  obtain ⟨a1, c1, rfl, -, -⟩ := hl.out
  obtain ⟨a2, c2, rfl, -, -⟩ := hlt.out
  have hba := (Below.refl w1.heap.size w1).alloc (Nat.le_refl _) (.cells #[.slice a1 l1.length c1, .int .i64 t1.k, .int .i64 t1.i, .slice a2 t1.kids.length c2] 27)
  have hn := alloc_new w1 (.cells #[.slice a1 l1.length c1, .int .i64 t1.k, .int .i64 t1.i, .slice a2 t1.kids.length c2] 27)
  have HB2 := Lib.hid (hb1.trans (hba.mono hb1.size))
  have HLL := Lib.hid (And.intro hl1 ht1)
  clear hl hlt hfi hb1 hba hl1 ht1
  unfold fv
  go_upto_region 2 with fail
  obtain ⟨W1, hW1⟩ : ∃ W1, W1 = w1.alloc (.cells #[.slice a1 l1.length c1, .int .i64 t1.k, .int .i64 t1.i, .slice a2 t1.kids.length c2] 27) := ⟨_, rfl⟩
  rw [← hW1] at HB2 hn
  rw [← hW1]
  have hlt1 := hltD hn
  have HN := Lib.hid hn
  clear hW1 hn H1
  go_wp2_with fail
  refine (H2.out W1).mono ?_
  intro e w2 hg
  rw [show parseB (ByteArray.mk #[40, 102, 105, 108, 101, 32, 40, 41, 32, 40, 115, 111, 114, 116, 41, 41]).data.toList 4621256167635550208 4621256167635550208 = .error (0, 14) from pk2] at hg
  obtain ⟨hb2, hg⟩ := hg
  have he : e = .returned (.tuple #[.agg #[.slice none 0 0, .int .i64 0, .int .i64 0, .slice none 0 0], .int .i64 2, .int .i64 14, .string ⟨#[]⟩]) := hg
  subst he
  have hba := (Below.refl w2.heap.size w2).alloc (Nat.le_refl _) (.cells #[.slice none 0 0, .int .i64 0, .int .i64 0, .slice none 0 0] 27)
  have HB3 := Lib.hid (HB2.out.trans ((hb2.trans (hba.mono hb2.size)).mono HB2.out.size))
  have HN2 := Lib.hid (((hb2.trans (hba.mono hb2.size)).block _ hlt1).trans HN.out)
  clear hb2 hg hba H2 HN hlt1 HB2
  go_upto_region 3 with fail
  obtain ⟨W2, hW2⟩ : ∃ W2, W2 = w2.alloc (.cells #[.slice none 0 0, .int .i64 0, .int .i64 0, .slice none 0 0] 27) := ⟨_, rfl⟩
  rw [← hW2] at HB3 HN2
  rw [← hW2]
  have hlt2 := hltD HN2.out
  clear hW2
  go_wp2_with fail
  refine (H3.out W2).mono ?_
  intro e w3 hg
  rw [show parseB (ByteArray.mk #[40, 102, 105, 108, 101, 32, 40, 41, 32, 40, 114, 101, 102, 108, 32, 40, 115, 111, 114, 116, 32, 48, 41, 41, 41]).data.toList 4607182418800017408 4621256167635550208 = .error (1, 15) from pk3] at hg
  obtain ⟨hb3, hg⟩ := hg
  have he : e = .returned (.tuple #[.agg #[.slice none 0 0, .int .i64 0, .int .i64 0, .slice none 0 0], .int .i64 4, .int .i64 15, .string ⟨#[100, 101, 101, 112]⟩]) := hg
  subst he
  have hba := (Below.refl w3.heap.size w3).alloc (Nat.le_refl _) (.cells #[.slice none 0 0, .int .i64 0, .int .i64 0, .slice none 0 0] 27)
  have HB4 := Lib.hid (HB3.out.trans ((hb3.trans (hba.mono hb3.size)).mono HB3.out.size))
  have hn4 := ((hb3.trans (hba.mono hb3.size)).block _ hlt2).trans HN2.out
  clear hb3 hg hba H3 HN2 hlt2 HB3
  go_upto_region 4 with fail
  obtain ⟨W3, hW3⟩ : ∃ W3, W3 = w3.alloc (.cells #[.slice none 0 0, .int .i64 0, .int .i64 0, .slice none 0 0] 27) := ⟨_, rfl⟩
  rw [← hW3] at HB4 hn4
  rw [← hW3]
  clear hW3
  obtain ⟨y0, y1, y2, y3⟩ := four_cells hn4
  clear hn4
  rw [show l1.length = 1 by rw [← HLL.out.1]; rfl] at y0
  rw [show t1.k = 2 by rw [← HLL.out.2]; rfl] at y1
  go_wp2
  go_ret
  exact ⟨rfl, HB4.out⟩
end Go.Proofs.Ytgglkpfcaniciaa.Dv

namespace Go.Proofs.Ytgglkpfcaniciaa.Dv

/-- What the one gives the other gives, but for what is beyond an allowance. -/
def Mo {α : Type} (x y : Except PF α) : Prop := (∀ r, x = .ok r → y = .ok r) ∧ ∀ a, x = .error (0, a) → y = .error (0, a)
theorem Mo.refl {α : Type} (x : Except PF α) : Mo x x := ⟨fun _ h => h, fun _ h => h⟩
theorem Mo.lim {α : Type} {k a : Nat} (y : Except PF α) : Mo (.error (k + 1, a)) y := ⟨fun r h => (by cases h), fun a h => (by cases h)⟩
def DpMo (dp dq : DP) : Prop := ∀ d u ts, Mo (dp d u ts) (dq d u ts)
theorem kidsD_mo {dp dq : DP} (h : DpMo dp dq) {d : Nat} : ∀ {c u : Nat} {ts : List Tok}, Mo (kidsD dp d c u ts) (kidsD dq d c u ts)
  | 0, u, ts => Mo.refl _
  | c + 1, u, ts => by
    unfold kidsD
    have hk := h d u ts
    cases hx : dp d u ts with
    | error p =>
      obtain ⟨k, a⟩ := p
      cases k with
      | zero => rw [hk.2 _ hx]; exact Mo.refl _
      | succ k => exact Mo.lim _
    | ok q =>
      rw [hk.1 _ hx]
      obtain ⟨t, u1, r⟩ := q
      dsimp only
      have hc := kidsD_mo h (d := d) (c := c) (u := u1) (ts := r)
      cases hy : kidsD dp d c u1 r with
      | ok q => rw [hc.1 _ hy]; exact Mo.refl _
      | error p =>
        obtain ⟨k, a⟩ := p
        cases k with
        | zero => rw [hc.2 _ hy]; exact Mo.refl _
        | succ k => exact Mo.lim _
theorem ruleD_mo {dp dq : DP} (h : DpMo dp dq) {E d u : Nat} {ts : List Tok} : Mo (ruleD dp E d u ts) (ruleD dq E d u ts) := by
  unfold ruleD
  cases takeT E 3 ts with
  | error e => exact Mo.refl _
  | ok w =>
    obtain ⟨w, r1⟩ := w
    dsimp only
    split
    · exact Mo.refl _
    · cases numD E (ruleN w.s) r1 with
      | error e => exact Mo.refl _
      | ok n =>
        obtain ⟨n, r2⟩ := n
        dsimp only
        have hk := kidsD_mo h (d := d + 1) (c := (dkidsN (ruleN w.s)).toNat) (u := u + 1) (ts := r2)
        cases hx : kidsD dp (d + 1) (dkidsN (ruleN w.s)).toNat (u + 1) r2 with
        | ok q => rw [hk.1 _ hx]; exact Mo.refl _
        | error p =>
          obtain ⟨k, a⟩ := p
          cases k with
          | zero => rw [hk.2 _ hx]; exact Mo.refl _
          | succ k => exact Mo.lim _
theorem derP_mo {deep nodes deeper more E : Nat} (h1 : ∀ n, withinB n deep = true → withinB n deeper = true) (h2 : ∀ n, withinB n nodes = true → withinB n more = true) : ∀ f, DpMo (derP deep nodes E f) (derP deeper more E f)
  | 0 => fun d u ts => Mo.refl _
  | f + 1 => fun d u ts => by
    unfold derP
    cases takeT E 1 ts with
    | error e => exact Mo.refl _
    | ok o =>
      obtain ⟨o, r⟩ := o
      dsimp only
      cases hd : withinB d deep with
      | false => rw [if_pos rfl]; exact Mo.lim _
      | true =>
        rw [h1 _ hd]
        simp only [reduceCtorEq, if_false]
        cases hn : withinB (u + 1 : Nat) nodes with
        | false => simp only [if_true]; exact Mo.lim _
        | true =>
          rw [h2 _ hn]
          simp only [reduceCtorEq, if_false]
          exact ruleD_mo (derP_mo h1 h2 f)
theorem ctxD_mo {dp dq : DP} (h : DpMo dp dq) {E : Nat} : ∀ {f u : Nat} {ts : List Tok}, Mo (ctxD dp E f u ts) (ctxD dq E f u ts)
  | 0, u, ts => Mo.refl _
  | f + 1, u, ts => by
    unfold ctxD
    split
    · exact Mo.refl _
    · have hk := h 1 u ts
      cases hx : dp 1 u ts with
      | error p =>
        obtain ⟨k, a⟩ := p
        cases k with
        | zero => rw [hk.2 _ hx]; exact Mo.refl _
        | succ k => exact Mo.lim _
      | ok q =>
        rw [hk.1 _ hx]
        obtain ⟨t, u1, r⟩ := q
        dsimp only
        have hc := ctxD_mo h (E := E) (f := f) (u := u1) (ts := r)
        cases hy : ctxD dp E f u1 r with
        | ok q => rw [hc.1 _ hy]; exact Mo.refl _
        | error p =>
          obtain ⟨k, a⟩ := p
          cases k with
          | zero => rw [hc.2 _ hy]; exact Mo.refl _
          | succ k => exact Mo.lim _
theorem fileP_mo {dp dq : DP} (h : DpMo dp dq) {E f : Nat} {ts : List Tok} : Mo (fileP dp E f ts) (fileP dq E f ts) := by
  unfold fileP
  cases takeT E 1 ts with
  | error e => exact Mo.refl _
  | ok o =>
  obtain ⟨o, r1⟩ := o
  dsimp only
  cases takeT E 3 r1 with
  | error e => exact Mo.refl _
  | ok o2 =>
  obtain ⟨w, r2⟩ := o2
  dsimp only
  split
  · cases takeT E 1 r2 with
    | error e => exact Mo.refl _
    | ok o3 =>
    obtain ⟨o3, r3⟩ := o3
    dsimp only
    have hc := ctxD_mo h (E := E) (f := f) (u := 0) (ts := r3)
    cases hy : ctxD dp E f 0 r3 with
    | error p =>
      obtain ⟨k, a⟩ := p
      cases k with
      | zero => rw [hc.2 _ hy]; exact Mo.refl _
      | succ k => exact Mo.lim _
    | ok q =>
    rw [hc.1 _ hy]
    obtain ⟨c, u, r4⟩ := q
    dsimp only
    cases takeT E 2 r4 with
    | error e => exact Mo.refl _
    | ok o5 =>
    obtain ⟨o5, r5⟩ := o5
    dsimp only
    have hk := h 1 u r5
    cases hx : dp 1 u r5 with
    | error p =>
      obtain ⟨k, a⟩ := p
      cases k with
      | zero => rw [hk.2 _ hx]; exact Mo.refl _
      | succ k => exact Mo.lim _
    | ok q => rw [hk.1 _ hx]; exact Mo.refl _
  · exact Mo.refl _
theorem parseB_mo {s : List UInt8} {deep nodes deeper more : Nat} (h1 : ∀ n, withinB n deep = true → withinB n deeper = true) (h2 : ∀ n, withinB n nodes = true → withinB n more = true) : Mo (parseB s deep nodes) (parseB s deeper more) := by
  unfold parseB
  have hk := fileP_mo (derP_mo h1 h2 (E := (ofL s).2.1) ((ofL s).1.length + 1)) (E := (ofL s).2.1) (f := (ofL s).1.length + 1) (ts := (ofL s).1)
  cases hx : fileP (derP deep nodes (ofL s).2.1 ((ofL s).1.length + 1)) (ofL s).2.1 ((ofL s).1.length + 1) (ofL s).1 with
  | ok q => rw [hk.1 _ hx]; exact Mo.refl _
  | error p =>
    obtain ⟨k, a⟩ := p
    cases k with
    | zero => rw [hk.2 _ hx]; exact Mo.refl _
    | succ k => exact Mo.lim _
end Go.Proofs.Ytgglkpfcaniciaa.Dv

namespace Go.Proofs.Ytgglkpfcaniciaa.Dv
open Go.RowKit

mutual
def Tm.deep : Tm → Nat
  | .mk _ _ l => deeps l + 1
def deeps : List Tm → Nat
  | [] => 0
  | t :: r => max t.deep (deeps r)
end

theorem deeps_take (l : List Tm) (k : Nat) (h : k < l.length) : deeps (l.take (k + 1)) = max (deeps (l.take k)) (l[k]).deep := by
  induction l generalizing k with
  | nil => simp at h
  | cons a r ih =>
    cases k with
    | zero => simp [deeps]
    | succ k => simp only [List.take_succ_cons, deeps, List.getElem_cons_succ]; rw [ih k (by simpa using h)]; omega

theorem Tm.deep_eq (t : Tm) : t.deep = deeps t.kids + 1 := by cases t; rfl

theorem deep_le_size (t : Tm) : t.deep ≤ t.size := by
  induction t using Tm.ind with
  | h t ih =>
    rw [t.deep_eq, t.size_eq]
    have : ∀ l : List Tm, (∀ x ∈ l, x.deep ≤ x.size) → deeps l ≤ sizes l := by
      intro l hl
      induction l with
      | nil => simp [deeps]
      | cons a r ihr => simp only [deeps, sizes]; have := ihr (fun x hx => hl x (List.mem_cons_of_mem _ hx)); have := hl a List.mem_cons_self; omega
    have := this t.kids ih
    omega

end Go.Proofs.Ytgglkpfcaniciaa.Dv

namespace Go.Proofs.Ytgglkpfcaniciaa.Dv
open Go.RowKit

set_option maxHeartbeats 800000 in
theorem drefsize_any (t : Tm) : ∀ (w : World) (s : Value), Lies w t.kids s → t.size ≤ 1000000000000 → Calls Try.prog 12 #[tv t s] w fun e w' => e = .returned (.int .i64 (t.size : Nat)) ∧ Below w.heap.size w w' := by
  induction t using Tm.ind with
  | h t ih =>
    intro w s hl hs
    obtain ⟨a, cap, S, rfl, hc, hm, hf, hn, hk⟩ := hl.out
    unfold tv
    unfold maxLen at hm
    have HSZ := Lib.hid (t.size_eq)
    have IH := Lib.hid ih
    have HN := Lib.hid hn
    have HK := Lib.hid hk
    have HBX := Lib.hid (fun (wr : World) => box_cells (w := w) (wr := wr) (v0 := .int .i64 t.k) (v1 := .int .i64 t.i) (v2 := .slice a t.kids.length cap) (T := 25))
    clear ih hn hk hf hl
    go_enter Try.func12, Try.ntmps12
    go_wp2
    go_loopw [3, 4] (fun n i wr => ∃ k : Nat, k ≤ t.kids.length ∧ i = .int .i64 k ∧ n = .int .i64 ((1 + sizes (t.kids.take k) : Nat) : Int) ∧ Below (w.heap.size + 1) (w.alloc (.cells #[.int .i64 t.k, .int .i64 t.i, .slice a t.kids.length cap] 25)) wr) (fun n i _ => t.kids.length - (intOf i).toNat)
    case atStart => exact ⟨0, Nat.zero_le _, rfl, by simp [sizes], Below.refl _ _⟩
    case round =>
      obtain ⟨k, hk, rfl, rfl, hb⟩ := hrel
      obtain ⟨d0, d1, d2⟩ := HBX.out _ hb
      have hb0 := below_of_box hb
      by_cases hlt : k < t.kids.length
      · obtain ⟨b, o, rfl, hx⟩ := HN.out k hlt
        have hy := hx.below hb0 hx.lt
        obtain ⟨c0, c1, c2⟩ := hy
        have hq := HK.out k hlt
        obtain ⟨a', cap', S', hS, -⟩ := hq.out
        rw [hS] at c2 hq
        have HQ := Lib.hid (hq.keep hb0)
        clear hS hq
        have HM := Lib.hid (List.getElem_mem hlt)
        have HT := Lib.hid (sizes_take t.kids k hlt)
        have h1 := sizes_le t.kids (k + 1)
        have h2 : 1 + sizes (t.kids.take k) + (t.kids[k]).size ≤ 1000000000000 := by rw [sizes_take t.kids k hlt] at h1; rw [HSZ.out] at hs; omega
        clear h1
        go_wp2_with fail
        refine (IH.out _ HM.out _ _ HQ.out (by omega)).mono ?_
        rintro e w2 ⟨rfl, hb'⟩
        have HB3 := below_call hb hb' (by have := hb.size; simpa using this)
        obtain ⟨x0, x1, x2⟩ := HBX.out _ HB3
        clear hb' hb d0 d1 d2 hb0 c0 c1 c2
        go_wp2
        go_roundw
        case rel => exact ⟨k + 1, by omega, by go_num, by rw [HT.out]; (try split) <;> go_num, HB3⟩
        case measure => simp [intOf]; omega
      · have : k = t.kids.length := by omega
        subst this
        go_wp2
        go_ret
        refine ⟨?_, hb0⟩
        rw [List.take_length, HSZ.out, Nat.add_comm]
        rfl

set_option maxHeartbeats 800000 in
theorem drefdeep_any (t : Tm) : ∀ (w : World) (s : Value), Lies w t.kids s → t.size ≤ 1000000000000 → Calls Try.prog 13 #[tv t s] w fun e w' => e = .returned (.int .i64 (t.deep : Nat)) ∧ Below w.heap.size w w' := by
  induction t using Tm.ind with
  | h t ih =>
    intro w s hl hs
    obtain ⟨a, cap, S, rfl, hc, hm, hf, hn, hk⟩ := hl.out
    unfold tv
    unfold maxLen at hm
    have HSZ := Lib.hid (t.size_eq)
    have HDP := Lib.hid (t.deep_eq)
    have IH := Lib.hid ih
    have HN := Lib.hid hn
    have HK := Lib.hid hk
    have HBX := Lib.hid (fun (wr : World) => box_cells (w := w) (wr := wr) (v0 := .int .i64 t.k) (v1 := .int .i64 t.i) (v2 := .slice a t.kids.length cap) (T := 25))
    clear ih hn hk hf hl
    go_enter Try.func13, Try.ntmps13
    go_wp2
    go_loopw [3, 4] (fun n i wr => ∃ k : Nat, k ≤ t.kids.length ∧ i = .int .i64 k ∧ n = .int .i64 ((deeps (t.kids.take k) : Nat) : Int) ∧ Below (w.heap.size + 1) (w.alloc (.cells #[.int .i64 t.k, .int .i64 t.i, .slice a t.kids.length cap] 25)) wr) (fun n i _ => t.kids.length - (intOf i).toNat)
    case atStart => exact ⟨0, Nat.zero_le _, rfl, by simp [deeps], Below.refl _ _⟩
    case round =>
      obtain ⟨k, hk, rfl, rfl, hb⟩ := hrel
      obtain ⟨d0, d1, d2⟩ := HBX.out _ hb
      have hb0 := below_of_box hb
      by_cases hlt : k < t.kids.length
      · obtain ⟨b, o, rfl, hx⟩ := HN.out k hlt
        have hy := hx.below hb0 hx.lt
        obtain ⟨c0, c1, c2⟩ := hy
        have hq := HK.out k hlt
        obtain ⟨a', cap', S', hS, -⟩ := hq.out
        rw [hS] at c2 hq
        have HQ := Lib.hid (hq.keep hb0)
        clear hS hq
        have HM := Lib.hid (List.getElem_mem hlt)
        have HT := Lib.hid (deeps_take t.kids k hlt)
        have h1 := sizes_le t.kids (k + 1)
        have h2 : 1 + sizes (t.kids.take k) + (t.kids[k]).size ≤ 1000000000000 := by rw [sizes_take t.kids k hlt] at h1; rw [HSZ.out] at hs; omega
        clear h1
        go_wp2_with fail
        refine (IH.out _ HM.out _ _ HQ.out (by omega)).mono ?_
        rintro e w2 ⟨rfl, hb'⟩
        have HB3 := below_call hb hb' (by have := hb.size; simpa using this)
        obtain ⟨x0, x1, x2⟩ := HBX.out _ HB3
        clear hb' hb d0 d1 d2 hb0 c0 c1 c2
        go_wp2
        go_roundw
        case rel => exact ⟨k + 1, by omega, by go_num, by rw [HT.out]; (try split) <;> go_num, HB3⟩
        case measure => simp [intOf]; omega
      · have : k = t.kids.length := by omega
        subst this
        have h3 : deeps t.kids ≤ 1000000000000 := by have := deep_le_size t; rw [HDP.out] at this; omega
        go_wp2
        go_ret
        refine ⟨?_, hb0⟩
        rw [List.take_length, HDP.out]
        rfl
end Go.Proofs.Ytgglkpfcaniciaa.Dv

namespace Go.Proofs.Ytgglkpfcaniciaa.Dv

/-- Within the depth from one to another. -/
def AllIn (m : Nat) (a b : Nat) : Prop := ∀ n : Nat, a ≤ n → n < b → withinB n m = true
def SomeOut (m : Nat) (a b : Nat) : Prop := ∃ n : Nat, a ≤ n ∧ n < b ∧ withinB n m = false
theorem AllIn.nil {m a : Nat} : AllIn m a a := fun n h1 h2 => by omega
theorem AllIn.join {m a b c : Nat} (h1 : AllIn m a b) (h2 : AllIn m b c) : AllIn m a c := fun n k1 k2 => by
  by_cases h : n < b
  · exact h1 n k1 h
  · exact h2 n (by omega) k2
theorem AllIn.top {m a b c : Nat} (h1 : AllIn m a b) (h2 : AllIn m a c) : AllIn m a (max b c) := fun n k1 k2 => by
  by_cases h : n < b
  · exact h1 n k1 h
  · exact h2 n k1 (by omega)
theorem AllIn.one {m a : Nat} (h : withinB a m = true) : AllIn m a (a + 1) := fun n h1 h2 => by
  obtain rfl : n = a := by omega
  exact h
theorem SomeOut.mono {m a b c d : Nat} (h : SomeOut m a b) (h1 : c ≤ a) (h2 : b ≤ d) : SomeOut m c d := by
  obtain ⟨n, k1, k2, k3⟩ := h
  exact ⟨n, by omega, by omega, k3⟩
/-- What a derivation that was read shows. -/
def DpS (deep nodes : Nat) (dp : DP) : Prop := ∀ d u ts t u2 r, dp d u ts = .ok (t, u2, r) → u2 = u + t.size ∧ AllIn deep d (d + t.deep) ∧ AllIn nodes (u + 1) (u2 + 1)
theorem kidsD_suc {deep nodes : Nat} {dp : DP} (h : DpS deep nodes dp) {d : Nat} : ∀ {c u : Nat} {ts r : List Tok} {l : List Tm} {u2 : Nat}, kidsD dp d c u ts = .ok (l, u2, r) → u2 = u + sizes l ∧ AllIn deep d (d + deeps l) ∧ AllIn nodes (u + 1) (u2 + 1)
  | 0, u, ts, r, l, u2, hx => by cases hx; exact ⟨rfl, AllIn.nil, AllIn.nil⟩
  | c + 1, u, ts, r, l, u2, hx => by
    unfold kidsD at hx
    split at hx
    · cases hx
    · rename_i t u1 r1 h1
      split at hx
      · cases hx
      · rename_i l2 u3 r2 h2
        cases hx
        obtain ⟨a1, a2, a3⟩ := h _ _ _ _ _ _ h1
        obtain ⟨b1, b2, b3⟩ := kidsD_suc h h2
        refine ⟨by simp only [sizes]; omega, ?_, a3.join b3⟩
        have := a2.top b2
        simp only [deeps]
        rwa [show d + max t.deep (deeps l2) = max (d + t.deep) (d + deeps l2) by omega]
theorem ruleD_suc {deep nodes : Nat} {dp : DP} (h : DpS deep nodes dp) {E d u : Nat} {ts r : List Tok} {t : Tm} {u2 : Nat} (hx : ruleD dp E d u ts = .ok (t, u2, r)) (hd : withinB d deep = true) (hu : withinB (u + 1 : Nat) nodes = true) : u2 = u + t.size ∧ AllIn deep d (d + t.deep) ∧ AllIn nodes (u + 1) (u2 + 1) := by
  unfold ruleD at hx
  split at hx; · cases hx
  split at hx; · cases hx
  split at hx; · cases hx
  split at hx; · cases hx
  rename_i l u3 r3 h3
  split at hx; · cases hx
  cases hx
  obtain ⟨b1, b2, b3⟩ := kidsD_suc h h3
  refine ⟨by rw [Tm.size_eq]; show _ = u + (sizes l + 1); omega, ?_, (AllIn.one hu).join b3⟩
  rw [Tm.deep_eq]
  show AllIn deep d (d + (deeps l + 1))
  have := (AllIn.one hd).join b2
  rwa [show d + (deeps l + 1) = d + 1 + deeps l by omega]
theorem derP_suc {deep nodes E : Nat} : ∀ f, DpS deep nodes (derP deep nodes E f)
  | 0 => fun d u ts t u2 r h => by cases h
  | f + 1 => fun d u ts t u2 r h => by
    unfold derP at h
    split at h
    · cases h
    · split at h
      · cases h
      · rename_i hd
        split at h
        · cases h
        · rename_i hu
          exact ruleD_suc (derP_suc f) h (by simpa using hd) (by simpa using hu)
theorem ctxD_suc {deep nodes : Nat} {dp : DP} (h : DpS deep nodes dp) {E : Nat} : ∀ {f u : Nat} {ts r : List Tok} {l : List Tm} {u2 : Nat}, ctxD dp E f u ts = .ok (l, u2, r) → u2 = u + sizes l ∧ AllIn deep 1 (1 + deeps l) ∧ AllIn nodes (u + 1) (u2 + 1)
  | 0, u, ts, r, l, u2, hx => by cases hx
  | f + 1, u, ts, r, l, u2, hx => by
    unfold ctxD at hx
    split at hx
    · cases hx; exact ⟨rfl, AllIn.nil, AllIn.nil⟩
    · split at hx
      · cases hx
      · rename_i t u1 r1 h1
        split at hx
        · cases hx
        · rename_i l2 u3 r2 h2
          cases hx
          obtain ⟨a1, a2, a3⟩ := h _ _ _ _ _ _ h1
          obtain ⟨b1, b2, b3⟩ := ctxD_suc h h2
          refine ⟨by simp only [sizes]; omega, ?_, a3.join b3⟩
          have := a2.top b2
          simp only [deeps]
          rwa [show 1 + max t.deep (deeps l2) = max (1 + t.deep) (1 + deeps l2) by omega]

/-- What is not read passes an allowance within what the greater allowances read. -/
def DpX (deep nodes : Nat) (dp dq : DP) : Prop := ∀ d u ts t u2 r, dq d u ts = .ok (t, u2, r) → (∀ a, dp d u ts = .error (1, a) → SomeOut deep d (d + t.deep)) ∧ ∀ k a, dp d u ts = .error (k + 2, a) → SomeOut nodes (u + 1) (u2 + 1)
section
variable {deep nodes : Nat} {dp dq : DP} (hm : DpMo dp dq) (hs : ∀ d u ts t u2 r, dq d u ts = .ok (t, u2, r) → u2 = u + t.size) (h : DpX deep nodes dp dq)
include hm hs h
theorem kidsD_out {d : Nat} : ∀ {c u : Nat} {ts r : List Tok} {l : List Tm} {u2 : Nat}, kidsD dq d c u ts = .ok (l, u2, r) → u ≤ u2 ∧ (∀ a, kidsD dp d c u ts = .error (1, a) → SomeOut deep d (d + deeps l)) ∧ ∀ k a, kidsD dp d c u ts = .error (k + 2, a) → SomeOut nodes (u + 1) (u2 + 1)
  | 0, u, ts, r, l, u2, hx => by cases hx; exact ⟨Nat.le_refl _, fun a h => (by cases h), fun k a h => by cases h⟩
  | c + 1, u, ts, r, l, u2, hx => by
    unfold kidsD at hx ⊢
    cases hq : dq d u ts with
    | error p => rw [hq] at hx; cases hx
    | ok q =>
      obtain ⟨t, u1, r1⟩ := q
      rw [hq] at hx
      dsimp only at hx
      cases hq2 : kidsD dq d c u1 r1 with
      | error p => rw [hq2] at hx; cases hx
      | ok q2 =>
        obtain ⟨l2, u3, r2⟩ := q2
        rw [hq2] at hx
        cases hx
        obtain ⟨a1, a2⟩ := h _ _ _ _ _ _ hq
        obtain ⟨b0, b1, b2⟩ := kidsD_out hq2
        have hu := hs _ _ _ _ _ _ hq
        have h1 : d + t.deep ≤ d + deeps (t :: l2) := by simp only [deeps]; omega
        have h2 : d + deeps l2 ≤ d + deeps (t :: l2) := by simp only [deeps]; omega
        have hk := hm d u ts
        refine ⟨by omega, ?_⟩
        cases hp : dp d u ts with
        | error p =>
          obtain ⟨k, a⟩ := p
          refine ⟨fun b hb => ?_, fun k b hb => ?_⟩
          · cases hb; exact (a1 _ hp).mono (Nat.le_refl _) h1
          · cases hb; exact (a2 _ _ hp).mono (Nat.le_refl _) (by omega)
        | ok p =>
          have := hk.1 _ hp
          rw [hq] at this
          cases this
          dsimp only
          cases hp2 : kidsD dp d c u1 r1 with
          | ok p2 => exact ⟨fun a h => (by cases h), fun k a h => by cases h⟩
          | error p =>
            refine ⟨fun b hb => ?_, fun k b hb => ?_⟩
            · cases hb; exact (b1 _ hp2).mono (Nat.le_refl _) h2
            · cases hb; exact (b2 _ _ hp2).mono (by omega) (Nat.le_refl _)
theorem ruleD_out {E d u : Nat} {ts r : List Tok} {t : Tm} {u2 : Nat} (hx : ruleD dq E d u ts = .ok (t, u2, r)) : u < u2 ∧ (∀ a, ruleD dp E d u ts = .error (1, a) → SomeOut deep d (d + t.deep)) ∧ ∀ k a, ruleD dp E d u ts = .error (k + 2, a) → SomeOut nodes (u + 1) (u2 + 1) := by
  unfold ruleD at hx ⊢
  cases h1 : takeT E 3 ts with
  | error e => rw [h1] at hx; cases hx
  | ok w =>
  obtain ⟨w, r1⟩ := w
  rw [h1] at hx
  dsimp only at hx ⊢
  split at hx; · cases hx
  rename_i hne
  rw [if_neg hne]
  cases h2 : numD E (ruleN w.s) r1 with
  | error e => rw [h2] at hx; cases hx
  | ok n =>
  obtain ⟨n, r2⟩ := n
  rw [h2] at hx
  dsimp only at hx ⊢
  cases h3 : kidsD dq (d + 1) (dkidsN (ruleN w.s)).toNat (u + 1) r2 with
  | error e => rw [h3] at hx; cases hx
  | ok q =>
  obtain ⟨l, u3, r3⟩ := q
  rw [h3] at hx
  dsimp only at hx
  split at hx; · cases hx
  cases hx
  rename_i h4
  obtain ⟨b0, b1, b2⟩ := kidsD_out hm hs h h3
  have hd : d + 1 + deeps l ≤ d + (Tm.mk (ruleN w.s) n l).deep := by rw [Tm.deep_eq]; show _ ≤ d + (deeps l + 1); omega
  refine ⟨by omega, ?_⟩
  have hk := kidsD_mo hm (d := d + 1) (c := (dkidsN (ruleN w.s)).toNat) (u := u + 1) (ts := r2)
  cases hp : kidsD dp (d + 1) (dkidsN (ruleN w.s)).toNat (u + 1) r2 with
  | error p =>
    refine ⟨fun b hb => ?_, fun k b hb => ?_⟩
    · cases hb; exact (b1 _ hp).mono (by omega) hd
    · cases hb; exact (b2 _ _ hp).mono (by omega) (Nat.le_refl _)
  | ok p =>
    have := hk.1 _ hp
    rw [h3] at this
    cases this
    dsimp only
    rw [h4]
    exact ⟨fun a h => (by cases h), fun k a h => by cases h⟩
theorem ctxD_out {E : Nat} : ∀ {f u : Nat} {ts r : List Tok} {l : List Tm} {u2 : Nat}, ctxD dq E f u ts = .ok (l, u2, r) → u ≤ u2 ∧ (∀ a, ctxD dp E f u ts = .error (1, a) → SomeOut deep 1 (1 + deeps l)) ∧ ∀ k a, ctxD dp E f u ts = .error (k + 2, a) → SomeOut nodes (u + 1) (u2 + 1)
  | 0, u, ts, r, l, u2, hx => by cases hx
  | f + 1, u, ts, r, l, u2, hx => by
    unfold ctxD at hx ⊢
    split at hx
    · rename_i hc
      cases hx
      rw [if_pos hc]
      exact ⟨Nat.le_refl _, fun a h => (by cases h), fun k a h => by cases h⟩
    rename_i hc
    rw [if_neg hc]
    cases hq : dq 1 u ts with
    | error p => rw [hq] at hx; cases hx
    | ok q =>
      obtain ⟨t, u1, r1⟩ := q
      rw [hq] at hx
      dsimp only at hx
      cases hq2 : ctxD dq E f u1 r1 with
      | error p => rw [hq2] at hx; cases hx
      | ok q2 =>
        obtain ⟨l2, u3, r2⟩ := q2
        rw [hq2] at hx
        cases hx
        obtain ⟨a1, a2⟩ := h _ _ _ _ _ _ hq
        obtain ⟨b0, b1, b2⟩ := ctxD_out hq2
        have hu := hs _ _ _ _ _ _ hq
        have h1 : 1 + t.deep ≤ 1 + deeps (t :: l2) := by simp only [deeps]; omega
        have h2 : 1 + deeps l2 ≤ 1 + deeps (t :: l2) := by simp only [deeps]; omega
        have hk := hm 1 u ts
        refine ⟨by omega, ?_⟩
        cases hp : dp 1 u ts with
        | error p =>
          refine ⟨fun b hb => ?_, fun k b hb => ?_⟩
          · cases hb; exact (a1 _ hp).mono (Nat.le_refl _) h1
          · cases hb; exact (a2 _ _ hp).mono (Nat.le_refl _) (by omega)
        | ok p =>
          have := hk.1 _ hp
          rw [hq] at this
          cases this
          dsimp only
          cases hp2 : ctxD dp E f u1 r1 with
          | ok p2 => exact ⟨fun a h => (by cases h), fun k a h => by cases h⟩
          | error p =>
            refine ⟨fun b hb => ?_, fun k b hb => ?_⟩
            · cases hb; exact (b1 _ hp2).mono (Nat.le_refl _) h2
            · cases hb; exact (b2 _ _ hp2).mono (by omega) (Nat.le_refl _)
end
theorem derP_out {deep nodes deeper more E : Nat} (h1 : ∀ n, withinB n deep = true → withinB n deeper = true) (h2 : ∀ n, withinB n nodes = true → withinB n more = true) : ∀ f, DpX deep nodes (derP deep nodes E f) (derP deeper more E f)
  | 0 => fun d u ts t u2 r h => by cases h
  | f + 1 => fun d u ts t u2 r hx => by
    have hss := derP_suc (deep := deeper) (nodes := more) (E := E) (f + 1) _ _ _ _ _ _ hx
    have ht : 1 ≤ t.size := by rw [Tm.size_eq]; omega
    have htd : 1 ≤ t.deep := by rw [Tm.deep_eq]; omega
    unfold derP at hx ⊢
    cases ho : takeT E 1 ts with
    | error e => rw [ho] at hx; cases hx
    | ok o =>
    obtain ⟨o, r1⟩ := o
    rw [ho] at hx
    dsimp only at hx ⊢
    split at hx; · cases hx
    split at hx; · cases hx
    cases hd : withinB d deep with
    | false =>
      simp only [if_true]
      exact ⟨fun a _ => ⟨d, Nat.le_refl _, by omega, hd⟩, fun k a h => by cases h⟩
    | true =>
      simp only [reduceCtorEq, if_false]
      cases hn : withinB (u + 1 : Nat) nodes with
      | false =>
        simp only [if_true]
        exact ⟨fun a h => (by cases h), fun k a _ => ⟨u + 1, Nat.le_refl _, by omega, hn⟩⟩
      | true =>
        simp only [reduceCtorEq, if_false]
        exact (ruleD_out (derP_mo h1 h2 f) (fun d u ts t u2 r h => (derP_suc f _ _ _ _ _ _ h).1) (derP_out h1 h2 f) hx).2
theorem fileP_suc {deep nodes E f g : Nat} {ts r : List Tok} {l : List Tm} {t : Tm} (h : fileP (derP deep nodes E g) E f ts = .ok ((l, t), r)) : AllIn deep 1 (1 + max (deeps l) t.deep) ∧ AllIn nodes 1 (1 + (sizes l + t.size)) := by
  obtain ⟨r3, u, r4, r5, u2, r6, h1, h2, -⟩ := fileP_inv h
  obtain ⟨a1, a2, a3⟩ := ctxD_suc (derP_suc g) h1
  obtain ⟨b1, b2, b3⟩ := derP_suc g _ _ _ _ _ _ h2
  refine ⟨?_, ?_⟩
  · have := a2.top b2
    rwa [show 1 + max (deeps l) t.deep = max (1 + deeps l) (1 + t.deep) by omega]
  · have := a3.join b3
    rwa [show u2 + 1 = 1 + (sizes l + t.size) by omega] at this
theorem parseB_suc {s : List UInt8} {deep nodes : Nat} {l : List Tm} {t : Tm} (h : parseB s deep nodes = .ok (l, t)) : AllIn deep 1 (1 + max (deeps l) t.deep) ∧ AllIn nodes 1 (1 + (sizes l + t.size)) := by
  unfold parseB at h
  split at h; · cases h
  rename_i x r hx
  split at h; · cases h
  cases h
  exact fileP_suc hx
theorem fileP_out {deep nodes deeper more E f g : Nat} {ts r : List Tok} {l : List Tm} {t : Tm} (h1 : ∀ n, withinB n deep = true → withinB n deeper = true) (h2 : ∀ n, withinB n nodes = true → withinB n more = true) (hx : fileP (derP deeper more E g) E f ts = .ok ((l, t), r)) : (∀ a, fileP (derP deep nodes E g) E f ts = .error (1, a) → SomeOut deep 1 (1 + max (deeps l) t.deep)) ∧ ∀ k a, fileP (derP deep nodes E g) E f ts = .error (k + 2, a) → SomeOut nodes 1 (1 + (sizes l + t.size)) := by
  have hm := derP_mo h1 h2 (E := E) g
  have hs : ∀ d u ts t u2 r, derP deeper more E g d u ts = .ok (t, u2, r) → u2 = u + t.size := fun d u ts t u2 r h => (derP_suc g _ _ _ _ _ _ h).1
  have ho := derP_out h1 h2 (E := E) g
  generalize derP deep nodes E g = dp at *
  have hc0 : ∀ {u u2 ts l r}, ctxD (derP deeper more E g) E f u ts = .ok (l, u2, r) → u2 = u + sizes l := fun h => (ctxD_suc (derP_suc g) h).1
  generalize derP deeper more E g = dq at *
  unfold fileP at hx ⊢
  cases e1 : takeT E 1 ts with
  | error e => rw [e1] at hx; cases hx
  | ok o =>
  obtain ⟨o1, r1⟩ := o
  rw [e1] at hx
  dsimp only at hx ⊢
  cases e2 : takeT E 3 r1 with
  | error e => rw [e2] at hx; cases hx
  | ok o =>
  obtain ⟨w, r2⟩ := o
  rw [e2] at hx
  dsimp only at hx ⊢
  split at hx
  case isFalse => cases hx
  rename_i hw
  rw [if_pos hw]
  cases e3 : takeT E 1 r2 with
  | error e => rw [e3] at hx; cases hx
  | ok o =>
  obtain ⟨o3, r3⟩ := o
  rw [e3] at hx
  dsimp only at hx ⊢
  cases e4 : ctxD dq E f 0 r3 with
  | error e => rw [e4] at hx; cases hx
  | ok q =>
  obtain ⟨c, u, r4⟩ := q
  rw [e4] at hx
  dsimp only at hx
  cases e5 : takeT E 2 r4 with
  | error e => rw [e5] at hx; cases hx
  | ok o =>
  obtain ⟨o5, r5⟩ := o
  rw [e5] at hx
  dsimp only at hx
  cases e6 : dq 1 u r5 with
  | error e => rw [e6] at hx; cases hx
  | ok q =>
  obtain ⟨t', u2, r6⟩ := q
  rw [e6] at hx
  dsimp only at hx
  cases e7 : takeT E 2 r6 with
  | error e => rw [e7] at hx; cases hx
  | ok o =>
  obtain ⟨o7, r7⟩ := o
  rw [e7] at hx
  cases hx
  have hu := hc0 e4
  have hu2 := hs _ _ _ _ _ _ e6
  obtain ⟨-, a1, a2⟩ := ctxD_out hm hs ho e4
  obtain ⟨b1, b2⟩ := ho _ _ _ _ _ _ e6
  have hk := ctxD_mo hm (E := E) (f := f) (u := 0) (ts := r3)
  cases hp : ctxD dp E f 0 r3 with
  | error p =>
    refine ⟨fun b hb => ?_, fun k b hb => ?_⟩
    · cases hb; exact (a1 _ hp).mono (Nat.le_refl _) (by omega)
    · cases hb; exact (a2 _ _ hp).mono (by omega) (by omega)
  | ok p =>
  have := hk.1 _ hp
  rw [e4] at this
  cases this
  dsimp only
  rw [e5]
  dsimp only
  have hk := hm 1 u r5
  cases hp : dp 1 u r5 with
  | error p =>
    refine ⟨fun b hb => ?_, fun k b hb => ?_⟩
    · cases hb; exact (b1 _ hp).mono (Nat.le_refl _) (by omega)
    · cases hb; exact (b2 _ _ hp).mono (by omega) (by omega)
  | ok p =>
  have := hk.1 _ hp
  rw [e6] at this
  cases this
  dsimp only
  rw [e7]
  exact ⟨fun a h => (by cases h), fun k a h => by cases h⟩
theorem parseB_out {s : List UInt8} {deep nodes deeper more : Nat} {l : List Tm} {t : Tm} (h1 : ∀ n, withinB n deep = true → withinB n deeper = true) (h2 : ∀ n, withinB n nodes = true → withinB n more = true) (h : parseB s deeper more = .ok (l, t)) : (∀ a, parseB s deep nodes = .error (1, a) → SomeOut deep 1 (1 + max (deeps l) t.deep)) ∧ ∀ k a, parseB s deep nodes = .error (k + 2, a) → SomeOut nodes 1 (1 + (sizes l + t.size)) := by
  unfold parseB at h ⊢
  split at h; · cases h
  rename_i x r hx
  split at h; · cases h
  cases h
  rename_i hz
  have ho := fileP_out h1 h2 hx
  have hk := fileP_mo (derP_mo h1 h2 (E := (ofL s).2.1) ((ofL s).1.length + 1)) (E := (ofL s).2.1) (f := (ofL s).1.length + 1) (ts := (ofL s).1)
  cases hp : fileP (derP deep nodes (ofL s).2.1 ((ofL s).1.length + 1)) (ofL s).2.1 ((ofL s).1.length + 1) (ofL s).1 with
  | error p =>
    refine ⟨fun b hb => ?_, fun k b hb => ?_⟩
    · cases hb; exact ho.1 _ hp
    · cases hb; exact ho.2 _ _ hp
  | ok p =>
    have := hk.1 _ hp
    rw [hx] at this
    cases this
    dsimp only
    rw [hz]
    exact ⟨fun a h => (by cases h), fun k a h => by cases h⟩

/-- No allowance is passed where the allowances are great enough. -/
def DpN (N : Nat) (dp : DP) : Prop := ∀ d u ts, d + ts.length ≤ N → u + ts.length ≤ N → ∀ k a, dp d u ts ≠ .error (k + 1, a)
section
variable {N : Nat} {dp : DP} (hl : DpL dp) (h : DpN N dp)
include hl h
theorem kidsD_no {d : Nat} : ∀ {c u : Nat} {ts : List Tok}, d + ts.length ≤ N → u + ts.length ≤ N → ∀ k a, kidsD dp d c u ts ≠ .error (k + 1, a)
  | 0, u, ts, h1, h2, k, a => fun h => by cases h
  | c + 1, u, ts, h1, h2, k, a => by
    unfold kidsD
    cases hx : dp d u ts with
    | error p => intro he; cases he; exact h _ _ _ h1 h2 _ _ hx
    | ok q =>
      obtain ⟨t, u1, r⟩ := q
      dsimp only
      obtain ⟨l1, l2, -⟩ := hl _ _ _ _ _ _ hx
      cases hy : kidsD dp d c u1 r with
      | error p => intro he; cases he; exact kidsD_no (by omega) (by omega) _ _ hy
      | ok q => intro he; cases he
theorem ruleD_no {E d u : Nat} {ts : List Tok} (h1 : d + ts.length ≤ N) (h2 : u + ts.length ≤ N) (k a : Nat) : ruleD dp E d u ts ≠ .error (k + 1, a) := by
  unfold ruleD
  cases hw : takeT E 3 ts with
  | error e => intro he; cases he
  | ok w =>
    obtain ⟨w, r1⟩ := w
    have hl1 := takeT_len hw
    dsimp only
    split
    · intro he; cases he
    · cases hn : numD E (ruleN w.s) r1 with
      | error e =>
        intro he
        cases he
        unfold numD at hn
        split at hn
        · split at hn <;> cases hn
        · cases hn
      | ok n =>
        obtain ⟨n, r2⟩ := n
        have hl2 := numD_le hn
        dsimp only
        cases hx : kidsD dp (d + 1) (dkidsN (ruleN w.s)).toNat (u + 1) r2 with
        | error p => intro he; cases he; exact kidsD_no hl h (by omega) (by omega) _ _ hx
        | ok q =>
          obtain ⟨l, u2, r3⟩ := q
          dsimp only
          cases takeT E 2 r3 with
          | error e => intro he; cases he
          | ok o => intro he; cases he
theorem ctxD_no {E : Nat} : ∀ {f u : Nat} {ts : List Tok}, 1 + ts.length ≤ N → u + ts.length ≤ N → ∀ k a, ctxD dp E f u ts ≠ .error (k + 1, a)
  | 0, u, ts, h1, h2, k, a => fun h => by cases h
  | f + 1, u, ts, h1, h2, k, a => by
    unfold ctxD
    split
    · intro he; cases he
    · cases hx : dp 1 u ts with
      | error p => intro he; cases he; exact h _ _ _ h1 h2 _ _ hx
      | ok q =>
        obtain ⟨t, u1, r⟩ := q
        dsimp only
        obtain ⟨l1, l2, -⟩ := hl _ _ _ _ _ _ hx
        cases hy : ctxD dp E f u1 r with
        | error p => intro he; cases he; exact ctxD_no (by omega) (by omega) _ _ hy
        | ok q => intro he; cases he
theorem fileP_no {E f : Nat} {ts : List Tok} (h1 : ts.length ≤ N) (k a : Nat) : fileP dp E f ts ≠ .error (k + 1, a) := by
  unfold fileP
  cases e1 : takeT E 1 ts with
  | error e => intro he; cases he
  | ok o =>
  obtain ⟨o, r1⟩ := o
  have l1 := takeT_len e1
  dsimp only
  cases e2 : takeT E 3 r1 with
  | error e => intro he; cases he
  | ok o =>
  obtain ⟨w, r2⟩ := o
  have l2 := takeT_len e2
  dsimp only
  split
  · cases e3 : takeT E 1 r2 with
    | error e => intro he; cases he
    | ok o =>
    obtain ⟨o3, r3⟩ := o
    have l3 := takeT_len e3
    dsimp only
    cases e4 : ctxD dp E f 0 r3 with
    | error p => intro he; cases he; exact ctxD_no hl h (by omega) (by omega) _ _ e4
    | ok q =>
    obtain ⟨c, u, r4⟩ := q
    dsimp only
    have l4 := ctxD_len hl e4
    cases e5 : takeT E 2 r4 with
    | error e => intro he; cases he
    | ok o =>
    obtain ⟨o5, r5⟩ := o
    have l5 := takeT_len e5
    dsimp only
    cases e6 : dp 1 u r5 with
    | error p => intro he; cases he; exact h _ _ _ (by omega) (by omega) _ _ e6
    | ok q =>
    obtain ⟨t, u2, r6⟩ := q
    dsimp only
    cases takeT E 2 r6 with
    | error e => intro he; cases he
    | ok o => intro he; cases he
  · intro he; cases he
end
theorem derP_no {deep nodes E N : Nat} (h1 : ∀ n : Nat, n ≤ N → withinB n deep = true) (h2 : ∀ n : Nat, n ≤ N → withinB n nodes = true) : ∀ f, DpN N (derP deep nodes E f)
  | 0 => fun d u ts _ _ k a h => by cases h
  | f + 1 => fun d u ts k1 k2 k a => by
    unfold derP
    cases e1 : takeT E 1 ts with
    | error e => intro he; cases he
    | ok o =>
      obtain ⟨o, r⟩ := o
      have l1 := takeT_len e1
      dsimp only
      rw [h1 d (by omega), h2 (u + 1) (by omega)]
      simp only [reduceCtorEq, if_false]
      exact ruleD_no (derP_len f) (derP_no h1 h2 f) (by omega) (by omega) k a
theorem parseB_no {s : List UInt8} {deep nodes N : Nat} (h1 : ∀ n : Nat, n ≤ N → withinB n deep = true) (h2 : ∀ n : Nat, n ≤ N → withinB n nodes = true) (hs : (ofL s).1.length ≤ N) (k a : Nat) : parseB s deep nodes ≠ .error (k + 1, a) := by
  unfold parseB
  cases hx : fileP (derP deep nodes (ofL s).2.1 ((ofL s).1.length + 1)) (ofL s).2.1 ((ofL s).1.length + 1) (ofL s).1 with
  | error p => intro he; cases he; exact fileP_no (derP_len _) (derP_no h1 h2 _) hs _ _ hx
  | ok q =>
    obtain ⟨x, r⟩ := q
    dsimp only
    split
    · intro he; cases he
    · intro he; cases he
end Go.Proofs.Ytgglkpfcaniciaa.Dv

namespace Go.Proofs.Ytgglkpfcaniciaa.Dv

/-- The float of a number. -/
abbrev fl (n : Int) : Nat := floatOfInt .f64 n
theorem within_fl (n m : Int) : withinB n (fl m) = Fl.leD (Fl.fi n) (Fl.fi m) := rfl
theorem big_read : Ieee.double.read 4787326403894837248 = Fl.fi 1099511627776 := by kernel_rfl
theorem within_big {n : Int} (h0 : 0 ≤ n) (h : n ≤ 1099511627776) : withinB n 4787326403894837248 = true := by
  rw [withinB_eq, big_read]
  exact Fl.fi_mono (by omega) (by decide) h
theorem within_to_big {n m : Int} (h0 : 0 ≤ m) (hm : m ≤ 1099511627776) (h : withinB n (fl m) = true) : withinB n 4787326403894837248 = true := by
  rw [within_fl] at h
  rw [withinB_eq, big_read]
  exact Fl.leD_trans h (Fl.fi_mono (by omega) (by decide) hm)
theorem steps_up : (List.range 3100).all (fun k => !Fl.leD (Fl.fi ((k + 1 : Nat) : Int)) (Fl.fi (k : Int))) = true := by kernel_rfl
theorem within_iff {n : Nat} {m : Int} (h0 : 0 ≤ m) (hm : m ≤ 1099511627776) (hn : n ≤ 3050) : withinB n (fl m) = decide ((n : Int) ≤ m) := by
  rw [within_fl]
  by_cases h : (n : Int) ≤ m
  · rw [Fl.fi_mono (by omega) (by omega) h]; simp [h]
  · have hf : Fl.leD (Fl.fi n) (Fl.fi m) = false := by
      cases hx : Fl.leD (Fl.fi n) (Fl.fi m) with
      | false => rfl
      | true =>
        have hs := List.all_eq_true.1 steps_up m.toNat (List.mem_range.2 (by omega))
        have h1 : Fl.leD (Fl.fi ((m.toNat + 1 : Nat) : Int)) (Fl.fi (n : Int)) = true := Fl.fi_mono (by omega) (by omega) (by omega)
        have h2 := Fl.leD_trans h1 hx
        rw [show ((m.toNat : Nat) : Int) = m by omega] at hs
        rw [h2] at hs
        simp at hs
    rw [hf]; simp [h]
theorem parseB_size {s : List UInt8} {deep nodes : Nat} {l : List Tm} {t : Tm} (h : parseB s deep nodes = .ok (l, t)) : sizes l + t.size ≤ s.length := by
  unfold parseB at h
  split at h; · cases h
  rename_i x r hx
  split at h; · cases h
  cases h
  obtain ⟨r3, u, r4, r5, u2, r6, h1, h2, h3, h4⟩ := fileP_inv hx
  have a1 := (ctxD_suc (derP_suc _) h1).1
  have b1 := (derP_suc _ _ _ _ _ _ _ h2).1
  have a2 := ctxD_len (derP_len _) h1
  have b2 := derP_len _ _ _ _ _ _ _ h2
  have := (ofL_bound s).1
  omega
theorem deeps_sizes (l : List Tm) : deeps l ≤ sizes l := by
  have := deep_le_size (.mk 0 0 l)
  rw [Tm.deep_eq, Tm.size_eq] at this
  simp only [Tm.kids] at this
  omega
/-- The depth and the number of nodes of a file. -/
def deepF (l : List Tm) (t : Tm) : Nat := max (deeps l) t.deep
def sizeF (l : List Tm) (t : Tm) : Nat := sizes l + t.size
theorem parse_big {s : List UInt8} (hs : s.length ≤ 3000) {p : PF} (h : parseB s 4787326403894837248 4787326403894837248 = .error p) : p.1 = 0 := by
  obtain ⟨k, a⟩ := p
  cases k with
  | zero => rfl
  | succ k => exact absurd h (parseB_no (N := 3000) (fun n hn => within_big (by omega) (by omega)) (fun n hn => within_big (by omega) (by omega)) (by have := (ofL_bound s).1; omega) k a)
theorem parse_limits {s : List UInt8} {D N : Int} (hs : s.length ≤ 3000) (hD : 0 ≤ D) (hD1 : D ≤ 1099511627776) (hN : 0 ≤ N) (hN1 : N ≤ 1099511627776) {l : List Tm} {t : Tm} (h : parseB s 4787326403894837248 4787326403894837248 = .ok (l, t)) : ((deepF l t : Int) ≤ D ∧ (sizeF l t : Int) ≤ N ∧ parseB s (fl D) (fl N) = .ok (l, t)) ∨ ((∃ a, parseB s (fl D) (fl N) = .error (1, a)) ∧ D < (deepF l t : Int)) ∨ ((∃ k a, parseB s (fl D) (fl N) = .error (k + 2, a)) ∧ N < (sizeF l t : Int)) := by
  have hz := parseB_size h
  have hdz := deep_le_size t
  have hlz := deeps_sizes l
  have ht : 1 ≤ t.size := by rw [Tm.size_eq]; omega
  have htd : 1 ≤ t.deep := by rw [Tm.deep_eq]; omega
  have h1 : ∀ n, withinB n (fl D) = true → withinB n 4787326403894837248 = true := fun n h => within_to_big hD hD1 h
  have h2 : ∀ n, withinB n (fl N) = true → withinB n 4787326403894837248 = true := fun n h => within_to_big hN hN1 h
  have hm := parseB_mo (s := s) h1 h2
  have ho := parseB_out h1 h2 h
  cases hx : parseB s (fl D) (fl N) with
  | ok q =>
    have := hm.1 _ hx
    rw [h] at this
    cases this
    obtain ⟨a1, a2⟩ := parseB_suc hx
    have b1 := a1 (deepF l t) (by unfold deepF; omega) (by unfold deepF; omega)
    have b2 := a2 (sizeF l t) (by unfold sizeF; omega) (by unfold sizeF; omega)
    rw [within_iff hD hD1 (by unfold deepF; omega)] at b1
    rw [within_iff hN hN1 (by unfold sizeF; omega)] at b2
    exact Or.inl ⟨by simpa using b1, by simpa using b2, rfl⟩
  | error p =>
    obtain ⟨k, a⟩ := p
    match k with
    | 0 => have := hm.2 _ hx; rw [h] at this; cases this
    | 1 =>
      obtain ⟨n, n1, n2, n3⟩ := ho.1 _ hx
      rw [within_iff hD hD1 (by omega)] at n3
      exact Or.inr (Or.inl ⟨⟨a, rfl⟩, by have := of_decide_eq_false n3; unfold deepF; omega⟩)
    | k + 2 =>
      obtain ⟨n, n1, n2, n3⟩ := ho.2 _ _ hx
      rw [within_iff hN hN1 (by omega)] at n3
      exact Or.inr (Or.inr ⟨⟨k, a, rfl⟩, by have := of_decide_eq_false n3; unfold sizeF; omega⟩)
end Go.Proofs.Ytgglkpfcaniciaa.Dv

namespace Go.Proofs.Ytgglkpfcaniciaa.Dv
open Go.RowKit

theorem pl_call {W w' wn : World} {b : Nat} {v0 v1 v2 v3 : Value} (h : Below W.heap.size W w' ∧ w'.cell? ⟨b, 0, none⟩ = some v0 ∧ w'.cell? ⟨b, 1, none⟩ = some v1 ∧ w'.cell? ⟨b, 2, none⟩ = some v2 ∧ w'.cell? ⟨b, 3, none⟩ = some v3) (hb : Below w'.heap.size w' wn) : Below W.heap.size W wn ∧ wn.cell? ⟨b, 0, none⟩ = some v0 ∧ wn.cell? ⟨b, 1, none⟩ = some v1 ∧ wn.cell? ⟨b, 2, none⟩ = some v2 ∧ wn.cell? ⟨b, 3, none⟩ = some v3 := by
  obtain ⟨hW, h0, h1, h2, h3⟩ := h
  have hk : ∀ q, wn.cell? ⟨b, q, none⟩ = w'.cell? ⟨b, q, none⟩ := fun q => World.cell?_of_block (a := ⟨b, q, none⟩) (hb.block b (World.block_lt_of_cell? _ _ h0))
  exact ⟨hW.trans (hb.mono hW.size), by rw [hk, h0], by rw [hk, h1], by rw [hk, h2], by rw [hk, h3]⟩
theorem pl_drew {W w' : World} {b : Nat} {v0 v1 v2 v3 : Value} (h : Below W.heap.size W w' ∧ w'.cell? ⟨b, 0, none⟩ = some v0 ∧ w'.cell? ⟨b, 1, none⟩ = some v1 ∧ w'.cell? ⟨b, 2, none⟩ = some v2 ∧ w'.cell? ⟨b, 3, none⟩ = some v3) : Below W.heap.size W w'.drew ∧ w'.drew.cell? ⟨b, 0, none⟩ = some v0 ∧ w'.drew.cell? ⟨b, 1, none⟩ = some v1 ∧ w'.drew.cell? ⟨b, 2, none⟩ = some v2 ∧ w'.drew.cell? ⟨b, 3, none⟩ = some v3 := ⟨Below.drew h.1, h.2⟩
def pl6_0 : Oper := { dst := some 51, op := Go.Op.fieldAddr 27 (Go.Operand.tmp 7) 1, type := 0, pos := "law.go:54", after := #[], guard := none }
def pl6_1 : Oper := { dst := some 52, op := Go.Op.load 25 (Go.Operand.tmp 51), type := 25, pos := "law.go:54", after := #[{ on := 0, ground := Go.Ground.data }], guard := none }
def pl6_2 : Oper := { dst := some 53, op := Go.Op.call { callee := Go.Callee.value (Go.Operand.func 12), args := #[Go.Operand.tmp 52], argTypes := #[25] }, type := 3, pos := "law.go:54", after := #[{ on := 1, ground := Go.Ground.data }], guard := none }
def pl6_3 : Oper := { dst := some 54, op := Go.Op.fieldAddr 27 (Go.Operand.tmp 7) 1, type := 0, pos := "law.go:54", after := #[], guard := none }
def pl6_4 : Oper := { dst := some 55, op := Go.Op.load 25 (Go.Operand.tmp 54), type := 25, pos := "law.go:54", after := #[{ on := 3, ground := Go.Ground.data }], guard := none }
def pl6_5 : Oper := { dst := some 56, op := Go.Op.call { callee := Go.Callee.value (Go.Operand.func 13), args := #[Go.Operand.tmp 55], argTypes := #[25] }, type := 3, pos := "law.go:54", after := #[{ on := 4, ground := Go.Ground.data }, { on := 2, ground := Go.Ground.chain }], guard := none }
def pl6_6 : Oper := { dst := some 11, op := Go.Op.assign (Go.Operand.tmp 53), type := 3, pos := "law.go:54", after := #[{ on := 2, ground := Go.Ground.data }, { on := 5, ground := Go.Ground.chain }, { on := 0, ground := Go.Ground.phase }, { on := 1, ground := Go.Ground.phase }, { on := 2, ground := Go.Ground.phase }, { on := 3, ground := Go.Ground.textOnly Go.Departure.lateStores }, { on := 4, ground := Go.Ground.textOnly Go.Departure.lateStores }, { on := 5, ground := Go.Ground.textOnly Go.Departure.lateStoresUnsure }], guard := none }
def pl6_7 : Oper := { dst := some 12, op := Go.Op.assign (Go.Operand.tmp 56), type := 3, pos := "law.go:54", after := #[{ on := 5, ground := Go.Ground.data }, { on := 6, ground := Go.Ground.chain }, { on := 0, ground := Go.Ground.phase }, { on := 1, ground := Go.Ground.phase }, { on := 2, ground := Go.Ground.phase }, { on := 3, ground := Go.Ground.phase }, { on := 4, ground := Go.Ground.phase }, { on := 5, ground := Go.Ground.phase }, { on := 6, ground := Go.Ground.phase }], guard := none }

set_option maxHeartbeats 4000000 in
set_option maxRecDepth 20000 in
theorem parseLimits_in (s : ByteArray) (D N : Int) (w : World) (hs : ¬ 3000 < s.size) (hD : ¬ D < 0) (hN : ¬ N < 0) (hD1 : ¬ 1099511627776 < D) (hN1 : ¬ 1099511627776 < N) : Calls Try.prog 5 #[.string s, .int .i64 D, .int .i64 N] w fun e w' => e = .returned (.bool true) ∧ Below w.heap.size w w' := by
  have HP := Lib.hid (parse_any s 4787326403894837248 4787326403894837248 w (by omega))
  have HQ := Lib.hid (fun w => parse_any s (fl D) (fl N) w (by omega))
  have hsl : s.data.toList.length = s.size := by simp
  have hs' : ¬ 3000 < (s.size : Int) := by omega
  go_enter Try.func5, Try.ntmps5
  go_wp2_with fail
  refine HP.out.mono ?_
  intro e w1 hg
  cases hx : parseB s.data.toList 4787326403894837248 4787326403894837248 with
  | error p =>
    have hp0 := parse_big (by omega) hx
    obtain ⟨k, a⟩ := p
    dsimp only at hp0
    subst hp0
    rw [hx] at hg
    obtain ⟨hb1, hg⟩ := hg
    replace hg : e = .returned (.tuple #[.agg #[.slice none 0 0, .int .i64 0, .int .i64 0, .slice none 0 0], .int .i64 2, .int .i64 (a : Nat), .string ⟨#[]⟩]) := hg
    subst hg
    have HB2 := Lib.hid (hb1.trans (((Below.refl w1.heap.size w1).alloc (Nat.le_refl _) (.cells #[.slice none 0 0, .int .i64 0, .int .i64 0, .slice none 0 0] 27)).mono hb1.size))
    have HK := Lib.hid (wakes13_any (w1.alloc (.cells #[.slice none 0 0, .int .i64 0, .int .i64 0, .slice none 0 0] 27)))
    clear hb1 HP HQ hx
    go_wp2_with fail
    refine HK.out.mono ?_
    rintro e w3 ⟨rfl, hb3⟩
    have HB3 := Lib.hid (HB2.out.trans (hb3.mono HB2.out.size))
    clear hb3 HK
    go_wp2
    go_ret
    exact ⟨rfl, HB3.out⟩
  | ok p =>
  obtain ⟨l, t⟩ := p
  have HPL := Lib.hid (parse_limits (D := D) (N := N) (by omega) (by omega) (by omega) (by omega) (by omega) hx)
  have HSZ := Lib.hid (show sizes l + t.size ≤ 3000 by have := parseB_size hx; omega)
  have HDD := Lib.hid (deep_le_size t)
  have HDB := Lib.hid (fun k => deeps_sizes (l.take k))
  rw [hx] at hg
  obtain ⟨hb1, cv, sv, rfl, hl, hlt, hfi⟩ := hg
  obtain ⟨a1, c1, rfl, -, -⟩ := hl.out
  obtain ⟨a2, c2, rfl, -, -⟩ := hlt.out
  have hba := (Below.refl w1.heap.size w1).alloc (Nat.le_refl _) (.cells #[.slice a1 l.length c1, .int .i64 t.k, .int .i64 t.i, .slice a2 t.kids.length c2] 27)
  have hn := alloc_new w1 (.cells #[.slice a1 l.length c1, .int .i64 t.k, .int .i64 t.i, .slice a2 t.kids.length c2] 27)
  have HB2 := Lib.hid (hb1.trans (hba.mono hb1.size))
  have HL := Lib.hid (hl.later hba).lies
  have HT := Lib.hid (hlt.later hba).lies
  clear hl hlt hfi hb1 hba hx HP
  unfold fv
  go_upto_region 6 with fail
  obtain ⟨W, hW⟩ : ∃ W, W = w1.alloc (.cells #[.slice a1 l.length c1, .int .i64 t.k, .int .i64 t.i, .slice a2 t.kids.length c2] 27) := ⟨_, rfl⟩
  rw [← hW] at HB2 hn HL HT
  rw [← hW]
  clear hW
  have HN := Lib.hid hn
  have HLT := Lib.hid (hltD hn)
  obtain ⟨y0, y1, y2, y3⟩ := four_cells hn
  clear hn
  have HN1 := Lib.hid (fun w' h => drefsize_any t w' (.slice a2 t.kids.length c2) h (by have := HSZ.out; omega))
  have HN2 := Lib.hid (fun w' h => drefdeep_any t w' (.slice a2 t.kids.length c2) h (by have := HSZ.out; omega))
  unfold tv at HN1 HN2
  obtain ⟨a1', c1', SL, hsl1, hcl, hml, hfl, hln, hlk⟩ := HL.out.out
  obtain ⟨rfl, -, rfl⟩ : a1 = a1' ∧ True ∧ c1 = c1' := by injection hsl1 with e1 e2 e3; exact ⟨e1, trivial, e3⟩
  unfold maxLen at hml
  have HLN := Lib.hid hln
  have HLK := Lib.hid hlk
  clear hsl1 hfl hln hlk
  have hS0 : Below W.heap.size W W ∧ W.cell? ⟨w1.heap.size, 0, none⟩ = some (.slice a1 l.length c1) ∧ W.cell? ⟨w1.heap.size, 1, none⟩ = some (.int .i64 t.k) ∧ W.cell? ⟨w1.heap.size, 2, none⟩ = some (.int .i64 t.i) ∧ W.cell? ⟨w1.heap.size, 3, none⟩ = some (.slice a2 t.kids.length c2) := ⟨Below.refl _ _, y0, y1, y2, y3⟩
  refine wp_region_held_drew (S := fun w' => Below W.heap.size W w' ∧ w'.cell? ⟨w1.heap.size, 0, none⟩ = some (.slice a1 l.length c1) ∧ w'.cell? ⟨w1.heap.size, 1, none⟩ = some (.int .i64 t.k) ∧ w'.cell? ⟨w1.heap.size, 2, none⟩ = some (.int .i64 t.i) ∧ w'.cell? ⟨w1.heap.size, 3, none⟩ = some (.slice a2 t.kids.length c2)) (by kernel_rfl) ?_ (fun hHeld => ?_)
  · (try dsimp only)
    (first | exact hS5 | exact hS2 | exact pl_drew hS0)
  refine take_at 0 51 pl6_0 (v := ?_) (Or.inl ⟨by rfl, ?_⟩) ?_
  rotate_left 1
  · ((intro w hSw; (try dsimp only at hSw); unfold pl6_0; go_simp) <;> with_reducible rfl)
  (try simp only [Act.put, List.setIfInBounds_toArray, List.set_cons_zero, List.set_cons_succ])
  refine take_at 1 52 pl6_1 (v := ?_) (Or.inl ⟨by rfl, ?_⟩) ?_
  rotate_left 1
  · ((intro w hSw; (try dsimp only at hSw); unfold pl6_1; go_simp) <;> with_reducible rfl)
  (try simp only [Act.put, List.setIfInBounds_toArray, List.set_cons_zero, List.set_cons_succ])
  refine take_at 3 54 pl6_3 (v := ?_) (Or.inl ⟨by rfl, ?_⟩) ?_
  rotate_left 1
  · ((intro w hSw; (try dsimp only at hSw); unfold pl6_3; go_simp) <;> with_reducible rfl)
  (try simp only [Act.put, List.setIfInBounds_toArray, List.set_cons_zero, List.set_cons_succ])
  refine take_at 4 55 pl6_4 (v := ?_) (Or.inl ⟨by rfl, ?_⟩) ?_
  rotate_left 1
  · ((intro w hSw; (try dsimp only at hSw); unfold pl6_4; go_simp) <;> with_reducible rfl)
  (try simp only [Act.put, List.setIfInBounds_toArray, List.set_cons_zero, List.set_cons_succ])
  refine wpAnyH_ready (rs := [2]) (by kernel_rfl) (by simp) ?_
  refine AllReadyH.cons (o := pl6_2) rfl (fun K hK => ?_) ?_
  · unfold pl6_2
    go_simp
    (go_at_call 12; with_reducible refine Calls.mono (HN1.out _ (HT.out.keep hHeld.1)) ?_)
    rintro e wn2 ⟨rfl, hb2⟩
    have hS2 := pl_call hHeld hb2
    clear hb2 hHeld
    (try clear hS0)
    refine hK.out _ _ ?_ (fun hHeld => ?_)
    · (try dsimp only)
      (first | exact hS5 | exact hS2 | exact pl_drew hS0)
    clear hK K
    (try simp only [Act.put, List.setIfInBounds_toArray, List.set_cons_zero, List.set_cons_succ])
    refine wpAnyH_ready (rs := [5]) (by kernel_rfl) (by simp) ?_
    refine AllReadyH.cons (o := pl6_5) rfl (fun K hK => ?_) ?_
    · unfold pl6_5
      go_simp
      (go_at_call 13; with_reducible refine Calls.mono (HN2.out _ (HT.out.keep hHeld.1)) ?_)
      rintro e wn5 ⟨rfl, hb5⟩
      have hS5 := pl_call hHeld hb5
      clear hb5 hHeld
      (try clear hS0)
      refine hK.out _ _ ?_ (fun hHeld => ?_)
      · (try dsimp only)
        (first | exact hS5 | exact hS2 | exact pl_drew hS0)
      clear hK K
      (try simp only [Act.put, List.setIfInBounds_toArray, List.set_cons_zero, List.set_cons_succ])
      refine take_at 6 11 pl6_6 (v := ?_) (Or.inl ⟨by rfl, ?_⟩) ?_
      rotate_left 1
      · ((intro w hSw; (try dsimp only at hSw); unfold pl6_6; go_simp) <;> with_reducible rfl)
      (try simp only [Act.put, List.setIfInBounds_toArray, List.set_cons_zero, List.set_cons_succ])
      refine take_at 7 12 pl6_7 (v := ?_) (Or.inl ⟨by rfl, ?_⟩) ?_
      rotate_left 1
      · ((intro w hSw; (try dsimp only at hSw); unfold pl6_7; go_simp) <;> with_reducible rfl)
      (try simp only [Act.put, List.setIfInBounds_toArray, List.set_cons_zero, List.set_cons_succ])
      refine wpAnyH_done (by kernel_rfl) ?_ _
      clear hHeld
      (try clear hS2)
      have HS := Lib.hid hS5
      clear hS5
      clear y0 y1 y2 y3
      go_wp2_with fail
      go_loopw [11, 12, 13] (fun nv dv iv wr => ∃ k : Nat, k ≤ l.length ∧ iv = .int .i64 k ∧ nv = .int .i64 ((t.size + sizes (l.take k) : Nat) : Int) ∧ dv = .int .i64 ((max t.deep (deeps (l.take k)) : Nat) : Int) ∧ Below W.heap.size W wr) (fun _ _ iv _ => l.length - (intOf iv).toNat)
      case atStart => exact ⟨0, Nat.zero_le _, rfl, by simp [sizes], by simp [deeps], HS.out.1⟩
      case round =>
        obtain ⟨k, hk, rfl, rfl, rfl, hb⟩ := hrel
        obtain ⟨y0, y1, y2, y3⟩ := four_cells ((hb.block _ HLT.out).trans HN.out)
        by_cases hlt : k < l.length
        · obtain ⟨b, o, rfl, hx⟩ := HLN.out k hlt
          obtain ⟨z0, z1, z2⟩ := hx.below hb hx.lt
          have hq := HLK.out k hlt
          obtain ⟨a', cap', S', hS, -⟩ := hq.out
          rw [hS] at z2 hq hx
          have HXN := Lib.hid hx
          have HQX := Lib.hid (hq.keep hb)
          have HTS := Lib.hid (sizes_take l k hlt)
          have HTD := Lib.hid (deeps_take l k hlt)
          have hsk := sizes_le l (k + 1)
          rw [HTS.out] at hsk
          have hsz1 : l[k].size ≤ 3000 := by have := HSZ.out; omega
          have HA1 := Lib.hid (fun (w' : World) (h : Lies w' l[k].kids (.slice a' l[k].kids.length cap')) => drefsize_any l[k] w' _ h (by omega))
          have HA2 := Lib.hid (fun (w' : World) (h : Lies w' l[k].kids (.slice a' l[k].kids.length cap')) => drefdeep_any l[k] w' _ h (by omega))
          unfold tv at HA1 HA2
          have HDZ := Lib.hid (deep_le_size l[k])
          have hsz2 : t.size + sizes (l.take k) + l[k].size ≤ 3000 := by have := HSZ.out; omega
          have hdz2 : max t.deep (deeps (l.take k)) ≤ 3000 := by have := HSZ.out; have := HDD.out; have := HDB.out k; omega
          generalize l[k] = x at z0 z1 z2 HXN HQX HTS HTD HA1 HA2 hsz1 hsk HDZ hsz2
          have hdz3 : x.deep ≤ 3000 := by have := HDZ.out; omega
          clear hS hq hx
          go_wp2_with fail
          refine (HA1.out _ HQX.out).mono ?_
          rintro e w4 ⟨rfl, hb4⟩
          have HB4 := Lib.hid (hb.trans (hb4.mono hb.size))
          have HQ4 := Lib.hid (HQX.out.keep hb4)
          have HB := Lib.hid hb
          clear hb y0 y1 y2 y3 z0 z1 z2
          obtain ⟨y0, y1, y2, y3⟩ := four_cells ((HB4.out.block _ HLT.out).trans HN.out)
          obtain ⟨z0, z1, z2⟩ := HXN.out.below HB4.out HXN.out.lt
          go_wp2_with fail
          refine (HA2.out _ HQ4.out).mono ?_
          rintro e w5 ⟨rfl, hb5⟩
          have HB5 := Lib.hid (HB4.out.trans (hb5.mono HB4.out.size))
          clear hb4 hb5 y0 y1 y2 y3 z0 z1 z2 HB4
          go_wp2
          go_roundw
          case rel => exact ⟨k + 1, hlt, by go_num, by rw [HTS.out]; go_num, by rw [HTD.out]; (try split) <;> go_num, HB5.out⟩
          case measure => simp [intOf]; omega
        · have hk2 : k = l.length := by omega
          subst hk2
          rw [List.take_length]
          have HB := Lib.hid hb
          have hdz : deeps l ≤ 3000 := by have := HDB.out l.length; rw [List.take_length] at this; have := HSZ.out; omega
          have hdt : t.deep ≤ 3000 := by have := HSZ.out; have := HDD.out; omega
          have hsz : sizes l + t.size ≤ 3000 := HSZ.out
          have hsw : t.size + sizes l = sizeF l t := by unfold sizeF; omega
          have hdw : max t.deep (deeps l) = deepF l t := by unfold deepF; omega
          rw [hsw, hdw]
          have hsz2 : sizeF l t ≤ 3000 := by omega
          have hdz2 : deepF l t ≤ 3000 := by omega
          clear hb hsw hdw hdz hdt hsz
          go_wp2_with fail
          refine (HQ.out wr).mono ?_
          intro e w3 hg
          obtain ⟨hb3, hg⟩ := hg
          have hbb := HB2.out.trans ((HB.out.trans (hb3.mono HB.out.size)).mono HB2.out.size)
          rcases HPL.out with ⟨hd, hn, hp⟩ | ⟨⟨a, hp⟩, hd⟩ | ⟨⟨q, a, hp⟩, hn⟩
          · rw [hp] at hg
            obtain ⟨cv, sv, rfl, hl, hlt, hfi⟩ := hg
            obtain ⟨a3, c3, rfl, -, -⟩ := hl.out
            obtain ⟨a4, c4, rfl, -, -⟩ := hlt.out
            unfold fv
            have HB4 := Lib.hid (hbb.trans (((Below.refl w3.heap.size w3).alloc (Nat.le_refl _) (.cells #[.slice a3 l.length c3, .int .i64 t.k, .int .i64 t.i, .slice a4 t.kids.length c4] 27)).mono hbb.size))
            clear hl hlt hfi hbb hb3 hp y0 y1 y2 y3
            go_wp2_with fail
            refine (wakes13_any _).mono ?_
            rintro e w6 ⟨rfl, hb6⟩
            have HB6 := Lib.hid (HB4.out.trans (hb6.mono HB4.out.size))
            clear hb6
            go_wp2
            go_ret
            exact ⟨rfl, HB6.out⟩
          · rw [hp] at hg
            replace hg : e = .returned (.tuple #[.agg #[.slice none 0 0, .int .i64 0, .int .i64 0, .slice none 0 0], .int .i64 4, .int .i64 (a : Nat), .string ⟨#[100, 101, 101, 112]⟩]) := hg
            subst hg
            have HB4 := Lib.hid (hbb.trans (((Below.refl w3.heap.size w3).alloc (Nat.le_refl _) (.cells #[.slice none 0 0, .int .i64 0, .int .i64 0, .slice none 0 0] 27)).mono hbb.size))
            clear hbb hb3 hp y0 y1 y2 y3
            go_wp2_with fail
            refine (wakes13_any _).mono ?_
            rintro e w6 ⟨rfl, hb6⟩
            have HB6 := Lib.hid (HB4.out.trans (hb6.mono HB4.out.size))
            clear hb6
            go_wp2
            go_ret
            exact ⟨rfl, HB6.out⟩
          · rw [hp] at hg
            replace hg : e = .returned (.tuple #[.agg #[.slice none 0 0, .int .i64 0, .int .i64 0, .slice none 0 0], .int .i64 4, .int .i64 (a : Nat), .string ⟨#[110, 111, 100, 101, 115]⟩]) := hg
            subst hg
            have HB4 := Lib.hid (hbb.trans (((Below.refl w3.heap.size w3).alloc (Nat.le_refl _) (.cells #[.slice none 0 0, .int .i64 0, .int .i64 0, .slice none 0 0] 27)).mono hbb.size))
            clear hbb hb3 hp y0 y1 y2 y3
            by_cases hdd : (deepF l t : Int) ≤ D
            · go_wp2_with fail
              refine (wakes13_any _).mono ?_
              rintro e w6 ⟨rfl, hb6⟩
              have HB6 := Lib.hid (HB4.out.trans (hb6.mono HB4.out.size))
              clear hb6
              go_wp2
              go_ret
              exact ⟨rfl, HB6.out⟩
            · go_wp2_with fail
              refine (wakes13_any _).mono ?_
              rintro e w6 ⟨rfl, hb6⟩
              have HB6 := Lib.hid (HB4.out.trans (hb6.mono HB4.out.size))
              clear hb6
              go_wp2
              go_ret
              exact ⟨rfl, HB6.out⟩
    exact AllReadyH.nil
  exact AllReadyH.nil

theorem parseLimits_any (s : ByteArray) (D N : Int) (w : World) : Calls Try.prog 5 #[.string s, .int .i64 D, .int .i64 N] w fun e w' => e = .returned (.bool true) ∧ Below w.heap.size w w' := by
  by_cases hs : 3000 < s.size
  · have hs' : 3000 < (s.size : Int) := by omega
    go_enter Try.func5, Try.ntmps5
    go_wp2
    go_ret
    exact ⟨rfl, Below.refl _ _⟩
  have hs' : ¬ 3000 < (s.size : Int) := by omega
  by_cases hD : D < 0
  · go_enter Try.func5, Try.ntmps5
    go_wp2
    go_ret
    exact ⟨rfl, Below.refl _ _⟩
  by_cases hN : N < 0
  · go_enter Try.func5, Try.ntmps5
    go_wp2
    go_ret
    exact ⟨rfl, Below.refl _ _⟩
  by_cases hD1 : 1099511627776 < D
  · go_enter Try.func5, Try.ntmps5
    go_wp2
    go_ret
    exact ⟨rfl, Below.refl _ _⟩
  by_cases hN1 : 1099511627776 < N
  · go_enter Try.func5, Try.ntmps5
    go_wp2
    go_ret
    exact ⟨rfl, Below.refl _ _⟩
  exact parseLimits_in s D N w hs hD hN hD1 hN1
end Go.Proofs.Ytgglkpfcaniciaa.Dv

namespace Go.Proofs.Ytgglkpfcaniciaa
open Go.RowKit Go.ChangeShapes Go.WideShapes Go.ChangeAt
theorem own : ownKnob Try.prog.godebug = none := by kernel_rfl
end Go.Proofs.Ytgglkpfcaniciaa

namespace Go.Proofs.Ytgglkpfcaniciaa
open Go.ChangeShapes Go.WideShapes

def code (l : List Nat) : List Char := l.map Char.ofNat
def joinN : List (List Nat) → List Nat
  | [] => []
  | [a] => a
  | a :: b :: r => a ++ 32 :: joinN (b :: r)

theorem words_one : ∀ a : List Nat, (a.all fun n => Char.ofNat n != Char.ofNat 32) = true → wordsSigns (code a) = [code a]
  | [], _ => rfl
  | n :: a, h => by
    simp only [List.all_cons, Bool.and_eq_true, bne_iff_ne] at h
    have ih := words_one a h.2
    show wordsSigns (Char.ofNat n :: code a) = _
    rw [wordsSigns]
    · rw [ih]; rfl
    · exact h.1
theorem words_more : ∀ (a : List Nat) (r : List Char), (a.all fun n => Char.ofNat n != Char.ofNat 32) = true → wordsSigns (code a ++ Char.ofNat 32 :: r) = code a :: wordsSigns r
  | [], r, _ => by
    show wordsSigns (Char.ofNat 32 :: r) = _
    rw [show Char.ofNat 32 = _ from rfl, wordsSigns]; rfl
  | n :: a, r, h => by
    simp only [List.all_cons, Bool.and_eq_true, bne_iff_ne] at h
    have ih := words_more a r h.2
    show wordsSigns (Char.ofNat n :: (code a ++ Char.ofNat 32 :: r)) = _
    rw [wordsSigns]
    · rw [ih]; rfl
    · exact h.1
theorem words_join : ∀ ws : List (List Nat), ws ≠ [] → (ws.all fun w => w.all fun n => Char.ofNat n != Char.ofNat 32) = true → wordsSigns (code (joinN ws)) = ws.map code
  | [], h, _ => absurd rfl h
  | [a], _, h => by simp only [List.all_cons, List.all_nil, Bool.and_true] at h; exact words_one a h
  | a :: b :: r, _, h => by
    have h' := h
    rw [List.all_cons, Bool.and_eq_true] at h'
    have ih := words_join (b :: r) (by simp) h'.2
    show wordsSigns (code (a ++ 32 :: joinN (b :: r))) = _
    rw [show code (a ++ 32 :: joinN (b :: r)) = code a ++ Char.ofNat 32 :: code (joinN (b :: r)) from by simp [code], words_more a _ h'.1, ih]; rfl

def cutWords : List (List Nat) := [[104, 97, 114, 110, 101, 115, 115],
  [99, 51, 56, 48, 55, 57, 100, 52, 57, 56, 52, 101, 53, 48, 51, 101, 56, 56, 102, 56, 101, 48, 50, 53, 54, 57, 54, 57, 98, 100, 48, 54, 49, 102, 99, 51, 49, 50, 98, 55, 49, 102, 57, 53, 54, 102, 56, 48, 102, 57, 50, 52, 56, 99, 98, 53, 50, 55, 50, 50, 57, 49, 99, 98],
  [99, 117, 116],
  [97, 116],
  [116, 114, 97, 110, 115, 104, 105, 112, 47, 116, 114, 97, 110, 115, 104, 105, 112, 108, 97, 119, 49, 51, 46, 80, 97, 114, 115, 101, 69, 120, 97, 99, 116],
  [116, 114, 97, 110, 115, 104, 105, 112, 47, 116, 114, 97, 110, 115, 104, 105, 112, 108, 97, 119, 49, 51, 46, 80, 97, 114, 115, 101, 77, 111, 114, 101],
  [116, 114, 97, 110, 115, 104, 105, 112, 47, 116, 114, 97, 110, 115, 104, 105, 112, 108, 97, 119, 49, 51, 46, 80, 97, 114, 115, 101, 76, 105, 109, 105, 116, 115],
  [116, 114, 97, 110, 115, 104, 105, 112, 47, 116, 114, 97, 110, 115, 104, 105, 112, 108, 97, 119, 49, 51, 46, 80, 97, 114, 115, 101, 66, 101, 116, 119, 101, 101, 110],
  [116, 114, 97, 110, 115, 104, 105, 112, 47, 116, 114, 97, 110, 115, 104, 105, 112, 108, 97, 119, 49, 51, 46, 80, 97, 114, 115, 101, 82, 105, 103, 104, 116]]

set_option maxRecDepth 100000 in
theorem cut_words : wordsSigns Try.prog.initOrder.toList = cutWords.map code := by
  have h : Try.prog.initOrder.toList = code (joinN cutWords) := by
    show (String.ofList (code (joinN cutWords))).toList = _
    exact String.toList_ofList
  rw [h]
  exact words_join cutWords (by simp [cutWords]) (by decide +kernel)

theorem cut_behind : behindMainWord (cutWords.map code) = code [99, 117, 116] :: cutWords.tail.tail.tail.map code := by kernel_rfl
theorem cut_lifts : stripLifts liftWords (code [99, 117, 116] :: cutWords.tail.tail.tail.map code) = ([], code [99, 117, 116] :: cutWords.tail.tail.tail.map code) := by kernel_rfl
theorem cut1 : (code [99, 117, 116] == "gc".toList) = false := by kernel_rfl
theorem cut2 : (code [99, 117, 116] == "spec".toList) = false := by kernel_rfl
theorem cut3 : (code [99, 117, 116] == "cut".toList) = true := by kernel_rfl
theorem cut_all : behindMainWord (wordsSigns Try.prog.initOrder.toList) = code [99, 117, 116] :: cutWords.tail.tail.tail.map code := by rw [cut_words, cut_behind]
theorem make_of (P : Program) {c : List Char} {rest : List (List Char)} (h : behindMainWord (wordsSigns P.initOrder.toList) = c :: rest) (h1 : (c == "gc".toList) = false) (h2 : (c == "spec".toList) = false) (h3 : (c == "cut".toList) = true) : P.make = some .cut := by
  unfold Program.make; rw [h]
  simp only [h1, h2, h3, Bool.or_self, Bool.false_eq_true, if_false, Bool.true_or, if_true]
theorem mayEnter_of (P : Program) {c : List Char} {rest : List (List Char)} (h : behindMainWord (wordsSigns P.initOrder.toList) = c :: rest) (h3 : ((stripLifts liftWords (c :: rest)).2.head? == some "cut".toList) = true)
    (h4 : (stripLifts liftWords (c :: rest)).1 = []) (h5 : P.laysLater = false) (h6 : P.bearsReflect = false) (h7 : P.doorFits [] = true) : P.mayEnter = true := by
  unfold Program.mayEnter; rw [h]
  refine Bool.or_eq_true_iff.2 (Or.inr ?_)
  rw [h3, h4, h5, h6, h7]; rfl
theorem row_make : Try.prog.make = some .cut := make_of Try.prog cut_all cut1 cut2 cut3
theorem row_mayEnter : Try.prog.mayEnter = true := mayEnter_of Try.prog cut_all (by rw [cut_lifts]; kernel_rfl) (by rw [cut_lifts]) (by kernel_rfl) (by kernel_rfl) (by kernel_rfl)
theorem row_lifts : Try.prog.liftsFinal = false := by unfold Program.liftsFinal Program.headLifts; rw [cut_all, cut_lifts]; kernel_rfl
end Go.Proofs.Ytgglkpfcaniciaa

namespace Go.Proofs.Ytgglkpfcaniciaa.lawParseLimits
open Go.ChangeShapes Go.WideShapes Go.ChangeAt Go.RowKit Go.ChangeMaps

set_option maxRecDepth 100000 in
theorem lifted (os : Os) (started : os.Started) (H : Type) (enc : TypeId × Value → H) :
    ReturnsInHanded {} Try.checked os 5 .any (Rows.parseLimitsSpec.pre6 enc Try.prog Try.f5 Rows.parseLimitsRow.domain false) (Rows.parseLimitsSpec.post enc Try.prog Try.f5 false true false false) := by
  refine returnsInHanded_of_change (C := Try.checked) own started (by kernel_rfl) Try.func5
    (ChangeSpec.witness6 (enc := enc) (C := Try.checked) false ⟨#[], #[.string ⟨#[]⟩, .int .i64 0, .int .i64 0], []⟩ 8 (by kernel_rfl) (by kernel_rfl) (by kernel_rfl) (by kernel_rfl)) ?_
  intro W base args ds gs before hval0 hW hcnd _
  have hval : ∀ (j : Nat) t v, Try.f5.params[j]? = some t → args[j]? = some v → Value.okWide Try.prog W .any base t v := hval0
  have hW' := hW
  obtain ⟨p, q, hA0, hV, rfl, hfz, hnd⟩ := hW
  have hA : DataW.TrodAll enc Try.prog W 0 (fun _ => true) true Try.f5.params.toList args.toList ds p := hA0
  rw [Try.params5] at hA hval
  obtain ⟨v0, vs0, d0, ds0, p0, q0, hargs0, rfl, rfl, h0, r0⟩ := trodAll_cons hA
  obtain ⟨v1, vs1, d1, ds1, p1, q1, hargs1, rfl, rfl, h1, r1⟩ := trodAll_cons r0
  obtain ⟨v2, vs2, d2, ds2, p2, q2, hargs2, rfl, rfl, h2, r2⟩ := trodAll_cons r1
  obtain ⟨rfl, rfl, rfl⟩ := trodAll_nil r2
  obtain rfl : args = #[v0, v1, v2] := by cases args; simp_all
  obtain ⟨rfl, rfl⟩ := trodVars_none hV
  obtain ⟨a0, rfl, rfl, rfl, w0⟩ := open_string Try.underlying9 (hval 0 9 v0 rfl rfl) h0
  obtain ⟨a1, rfl, rfl, rfl, w1⟩ := open_int Try.underlying3 (hval 1 3 v1 rfl rfl) h1
  obtain ⟨a2, rfl, rfl, rfl, w2⟩ := open_int Try.underlying3 (hval 2 3 v2 rfl rfl) h2
  clear hA0 hval0
  simp only [List.append_nil] at hW'
  refine (Dv.parseLimits_any a0 a1 a2 W).mono fun e W' ⟨he, hb⟩ => ?_
  subst he
  exact ⟨_, rfl, _, _, _, [], _, [], hW', trodAll_cons_mk (shut_bool Try.underlying4 _) trodAll_mk0, (trodAll_cons_mk (shut_string Try.underlying9 w0) (trodAll_cons_mk (shut_int Try.underlying3 w1) (trodAll_cons_mk (shut_int Try.underlying3 w2) trodAll_mk0))), rfl, hb.frame _, fun h => by cases h⟩

theorem closed : joinedFacts Try.prog 5 Try.f5 Rows.parseLimitsSpec Rows.parseLimitsRow = true := by
  unfold joinedFacts
  rw [row_mayEnter, row_lifts, row_make]
  kernel_rfl

theorem proved : Rows.ParseLimitsSaid :=
  OpenClaim.holds_of_wide 5 Try.f5 rfl rfl rfl rfl rfl rfl rfl ⟨rfl, rfl, rfl, rfl, rfl⟩ rfl rfl rfl rfl rfl (by kernel_rfl) Try.func5 closed
    (of_decide_eq_true (by kernel_rfl)) (by unfold Func.isWrapper; first | (rw [if_pos (by decide +kernel)]; kernel_rfl) | (rw [if_neg (by decide +kernel)]; exact ⟨rfl, rfl⟩))
    (fun os started H enc _ => lifted os started H enc)
#print axioms proved
end Go.Proofs.Ytgglkpfcaniciaa.lawParseLimits
