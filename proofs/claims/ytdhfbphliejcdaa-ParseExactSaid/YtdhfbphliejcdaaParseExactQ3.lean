/-
  Facts and contracts that the proof of ParseExact uses.
-/
import Derived.Lib.ItoaNum
import Derived.Lib.ItoaLen
import Derived.Test.YtdhfbphliejcdaaRows
import Derived.WalkKit
import Derived.Lib.Hide
import Derived.ProofKit
import Derived.LoopTactic
import Derived.Below
import Derived.IntWalk
import Derived.Lib.Strings
import Derived.Laws.Strings2
import Derived.Deep.AppendLies
import Derived.Laws.Rows
import Derived.OwnWalk
import Derived.KernelRfl
import Derived.Deep.RegionHeld3
import Derived.Lib.Builder
import Derived.WalkSmall
import Derived.Maps.GroupsBeside
import Derived.Maps.StringElems
import Derived.Laws.OwnMore
import Derived.Deep.RegionLaw
import Derived.Maps.AppendAt
import Derived.Deep.Cut
import Derived.Deep.DeepCutAuto
import Derived.Maps.OwnOps
import Derived.Maps.OwnSet
import Derived.Lib.MinMax
import Derived.Laws.IdiomCopy
import Derived.Deep.Slices
import Derived.Lib.QuietBelow
import Derived.StillTailTactics
import Derived.BigQuiet
import Derived.Deep.RegionWith
import Derived.OrdersHeld
import Derived.Laws.StructEq
import GoSem.Core.Float
import Derived.Laws.Cover2
import Derived.Laws.FloatArith
import Derived.Laws.Externs
import Derived.Deep.QuietTactic
import Derived.Laws.AppendOwn
import Derived.Recover
import Derived.RegionTactic
import Derived.Deep.LoopGhost
import Derived.Deep.CutBlock
import Derived.OpenShut
import Derived.Carry
import Derived.JoinedOf
import Derived.ChangeMaps5
import Derived.Test.YtdhfbphliejcdaaParseExactQ2
namespace Go.Proofs.Ytdhfbphliejcdaa.Dv
open Go.RowKit

set_option maxHeartbeats 1000000 in
theorem dterms_of (l : List Tm) (ih : ∀ x ∈ l, ∀ (y : Tm) (w : World) (s r : Value), Lies w x.kids s → Lies w y.kids r → Calls Try.prog 30 #[tv x s, tv y r] w fun e w' => e = .returned (.bool (sameB x y)) ∧ Below w.heap.size w w')
    (m : List Tm) (w : World) (s r : Value) (hl : Lies w l s) (hm : Lies w m r) : Calls Try.prog 29 #[s, r] w fun e w' => e = .returned (.bool (samesB l m)) ∧ Below w.heap.size w w' := by
  obtain ⟨a, cap, S, rfl, hc, hmx, -, hn, hk⟩ := hl.out
  obtain ⟨a2, cap2, S2, rfl, hc2, hmx2, -, hn2, hk2⟩ := hm.out
  unfold maxLen at hmx hmx2
  have IH := Lib.hid ih
  have HN := Lib.hid hn
  have HK := Lib.hid hk
  have HN2 := Lib.hid hn2
  have HK2 := Lib.hid hk2
  clear ih hn hk hn2 hk2 hl hm
  by_cases hlen : l.length = m.length
  rotate_left
  · have h1 : ((l.length : Int) == (m.length : Int)) = false := by simp; omega
    have h2 : ((l.length : Int) != (m.length : Int)) = true := by simp; omega
    have HS := Lib.hid (sames_ne hlen)
    clear hlen
    go_enter Try.func29, Try.ntmps29
    go_wp2
    go_ret
    exact ⟨ret_bool HS.out.symm, Below.refl _ _⟩
  have h1 : ((l.length : Int) == (m.length : Int)) = true := by simp; omega
  have h2 : ((l.length : Int) != (m.length : Int)) = false := by simp; omega
  have HL := Lib.hid hlen
  clear hlen
  go_enter Try.func29, Try.ntmps29
  go_wp2
  go_loopw [5] (fun iv wr => ∃ k : Nat, k ≤ l.length ∧ iv = .int .i64 k ∧ Hid (samesB (l.take k) (m.take k) = true) ∧ Below w.heap.size w wr) (fun iv _ => l.length - (intOf iv).toNat)
  case atStart => exact ⟨0, Nat.zero_le _, rfl, by simp [Hid, samesB], Below.refl _ _⟩
  case round =>
    obtain ⟨k, hk, rfl, hgood, hb⟩ := hrel
    by_cases hlt : k < l.length
    · have hlt2 : k < m.length := by have := HL.out; omega
      obtain ⟨b, o, rfl, hx⟩ := HN.out k hlt
      obtain ⟨b2, o2, rfl, hx2⟩ := HN2.out k hlt2
      obtain ⟨c0, c1, c2⟩ := hx.below hb hx.lt
      obtain ⟨e0, e1, e2⟩ := hx2.below hb hx2.lt
      have hq := (HK.out k hlt).keep hb
      have hq2 := (HK2.out k hlt2).keep hb
      obtain ⟨a', cap', S', hS, -⟩ := hq.out
      obtain ⟨a2', cap2', S2', hS2, -⟩ := hq2.out
      rw [hS] at c2 hq
      rw [hS2] at e2 hq2
      have HQ := Lib.hid hq
      have HQ2 := Lib.hid hq2
      have HM := Lib.hid (List.getElem_mem hlt)
      have HT := Lib.hid (sames_take l m k hlt hlt2)
      have HO := Lib.hid (sames_of l m k hlt hlt2)
      clear hS hS2 hq hq2
      go_wp2
      go_region_with (go_at_call 30; refine (IH.out _ HM.out _ _ _ _ (HQ.out.keep (Below.refl _ _).drew) (HQ2.out.keep (Below.refl _ _).drew)).mono ?_; rintro e wn ⟨rfl, hb'⟩; have HB3 := below_call hb.drew hb' hb.size; clear hb')
      all_goals
        cases hs : sameB l[k] m[k]
        · go_wp2
          go_ret
          exact ⟨ret_bool (HO.out hs).symm, HB3⟩
        · go_wp2
          go_roundw
          case rel => exact ⟨k + 1, by omega, by go_num, by show _ = true; rw [HT.out, hgood.out, hs]; rfl, HB3⟩
          case measure => simp [intOf]; omega
    · have : k = l.length := by omega
      subst this
      go_wp2
      go_ret
      exact ⟨ret_bool (by have hg := hgood.out; rw [List.take_length, HL.out, List.take_length] at hg; exact hg.symm), hb⟩

set_option maxHeartbeats 1000000 in
theorem dkeepsame_any (t : Tm) : ∀ (u : Tm) (w : World) (s r : Value), Lies w t.kids s → Lies w u.kids r → Calls Try.prog 30 #[tv t s, tv u r] w fun e w' => e = .returned (.bool (sameB t u)) ∧ Below w.heap.size w w' := by
  induction t using Tm.ind with
  | h t ih =>
    intro u w s r hl hm
    obtain ⟨a, cap, S, rfl, -⟩ := hl.out
    obtain ⟨a2, cap2, S2, rfl, -⟩ := hm.out
    have HTM := Lib.hid (dterms_of t.kids ih)
    have HE := Lib.hid (sameB_eq t u)
    have HL := Lib.hid hl
    have HM := Lib.hid hm
    have H0 := held2_start w t (.slice a t.kids.length cap) u (.slice a2 u.kids.length cap2)
    clear hl hm ih
    unfold tv
    cases ek : (t.k == u.k)
    · go_enter Try.func30, Try.ntmps30
      go_wp2
      go_ret
      exact ⟨ret_bool (by rw [HE.out]; simp only [ek, Bool.false_and]), held2_below H0⟩
    cases ei : (t.i == u.i)
    · go_enter Try.func30, Try.ntmps30
      go_wp2
      go_ret
      exact ⟨ret_bool (by rw [HE.out]; simp only [ek, ei, Bool.false_and, Bool.true_and]), held2_below H0⟩
    go_enter Try.func30, Try.ntmps30
    go_wp2_with fail
    refine (HTM.out u.kids _ _ _ (held2_lies H0 HL.out) (held2_lies H0 HM.out)).mono ?_
    rintro e wn ⟨rfl, hb'⟩
    have H1 := held2_call H0 hb'
    clear hb'
    go_wp2
    go_ret
    exact ⟨ret_bool (by rw [HE.out]; simp only [ek, ei, Bool.true_and]), held2_below H1⟩
end Go.Proofs.Ytdhfbphliejcdaa.Dv

namespace Go.Proofs.Ytdhfbphliejcdaa.Dv
open Go.RowKit

/-- Two files that are the same, or not. -/
def fileB (l m : List Tm) (t u : Tm) : Bool := samesB l m && sameB t u
set_option maxHeartbeats 2000000 in
theorem keepfile_any (l m : List Tm) (t u : Tm) (w : World) (cv dv s r : Value) (hl : Lies w l cv) (hm : Lies w m dv) (ht : Lies w t.kids s) (hu : Lies w u.kids r) : Calls Try.prog 10 #[fv cv t s, fv dv u r] w fun e w' => e = .returned (.bool (fileB l m t u)) ∧ Below w.heap.size w w' := by
  obtain ⟨a1, c1, S1, rfl, -⟩ := hl.out
  obtain ⟨a2, c2, S2, rfl, -⟩ := hm.out
  obtain ⟨a3, c3, S3, rfl, -⟩ := ht.out
  obtain ⟨a4, c4, S4, rfl, -⟩ := hu.out
  have hb1 := (Below.refl w.heap.size w).alloc (Nat.le_refl _) (.cells #[.slice a1 l.length c1, .int .i64 t.k, .int .i64 t.i, .slice a3 t.kids.length c3] 27)
  have hb2 := (Below.refl (w.alloc (.cells #[.slice a1 l.length c1, .int .i64 t.k, .int .i64 t.i, .slice a3 t.kids.length c3] 27)).heap.size (w.alloc (.cells #[.slice a1 l.length c1, .int .i64 t.k, .int .i64 t.i, .slice a3 t.kids.length c3] 27))).alloc (Nat.le_refl _) (.cells #[.slice a2 m.length c2, .int .i64 u.k, .int .i64 u.i, .slice a4 u.kids.length c4] 27)
  have hb := hb1.trans (hb2.mono hb1.size)
  have HBB := Lib.hid hb
  have HD := Lib.hid (dterms_of l (fun x _ y w s r h1 h2 => dkeepsame_any x y w s r h1 h2) m _ _ _ (hl.keep hb) (hm.keep hb))
  have n1 := (hb2.block w.heap.size (by simp)).trans (alloc_new w (.cells #[.slice a1 l.length c1, .int .i64 t.k, .int .i64 t.i, .slice a3 t.kids.length c3] 27))
  have n2 := alloc_new (w.alloc (.cells #[.slice a1 l.length c1, .int .i64 t.k, .int .i64 t.i, .slice a3 t.kids.length c3] 27)) (.cells #[.slice a2 m.length c2, .int .i64 u.k, .int .i64 u.i, .slice a4 u.kids.length c4] 27)
  rw [World.size_alloc] at n2
  have HT := Lib.hid (ht.keep hb)
  have HU := Lib.hid (hu.keep hb)
  have hlt1 : w.heap.size + 1 < ((w.alloc (.cells #[.slice a1 l.length c1, .int .i64 t.k, .int .i64 t.i, .slice a3 t.kids.length c3] 27)).alloc (.cells #[.slice a2 m.length c2, .int .i64 u.k, .int .i64 u.i, .slice a4 u.kids.length c4] 27)).heap.size := by simp
  clear hb1 hb2 hb hl hm ht hu
  unfold fv
  go_enter Try.func10, Try.ntmps10
  go_upto_region 1 with fail
  obtain ⟨W, hW⟩ : ∃ W, W = (w.alloc (.cells #[.slice a1 l.length c1, .int .i64 t.k, .int .i64 t.i, .slice a3 t.kids.length c3] 27)).alloc (.cells #[.slice a2 m.length c2, .int .i64 u.k, .int .i64 u.i, .slice a4 u.kids.length c4] 27) := ⟨_, rfl⟩
  rw [← hW] at HBB HD n1 n2 HT HU hlt1
  rw [← hW]
  clear hW
  have HN1 := Lib.hid n1
  have HN2 := Lib.hid n2
  obtain ⟨y0, y1, y2, y3⟩ := four_cells n1
  obtain ⟨z0, z1, z2, z3⟩ := four_cells n2
  clear n1 n2
  go_wp2_with fail
  refine HD.out.mono ?_
  rintro e w2 ⟨rfl, hb2⟩
  have HB2 := Lib.hid (HBB.out.trans (hb2.mono HBB.out.size))
  have n1 := (hb2.block _ (by omega)).trans HN1.out
  have n2 := (hb2.block _ hlt1).trans HN2.out
  have HT2 := Lib.hid (HT.out.keep hb2)
  have HU2 := Lib.hid (HU.out.keep hb2)
  clear hb2 y0 y1 y2 y3 z0 z1 z2 z3
  obtain ⟨y0, y1, y2, y3⟩ := four_cells n1
  obtain ⟨z0, z1, z2, z3⟩ := four_cells n2
  clear n1 n2
  cases hs : samesB l m with
  | false =>
    go_wp2
    go_ret
    exact ⟨by unfold fileB; rw [hs]; rfl, HB2.out⟩
  | true =>
    go_wp2_with fail
    refine (dkeepsame_any t u _ _ _ HT2.out HU2.out).mono ?_
    rintro e w3 ⟨rfl, hb3⟩
    have HB3 := Lib.hid (HB2.out.trans (hb3.mono HB2.out.size))
    clear hb3
    go_wp2
    go_ret
    exact ⟨by unfold fileB; rw [hs]; rfl, HB3.out⟩
set_option maxHeartbeats 4000000 in
set_option maxRecDepth 20000 in
theorem wakes13_any (w : World) : Calls Try.prog 11 #[] w fun e w' => e = .returned (.bool true) ∧ Below w.heap.size w w' := by
  have H1 := Lib.hid (fun w => parse_any ⟨#[40, 102, 105, 108, 101, 32, 40, 40, 115, 111, 114, 116, 32, 48, 41, 41, 32, 40, 118, 97, 114, 32, 48, 41, 41]⟩ 4611686018427387904 4611686018427387904 w (by decide))
  have H2 := Lib.hid (fun w => parse_any ⟨#[40, 102, 105, 108, 101, 32, 40, 41, 32, 40, 115, 111, 114, 116, 41, 41]⟩ 4621256167635550208 4621256167635550208 w (by decide))
  have H3 := Lib.hid (fun w => parse_any ⟨#[40, 102, 105, 108, 101, 32, 40, 41, 32, 40, 114, 101, 102, 108, 32, 40, 115, 111, 114, 116, 32, 48, 41, 41, 41]⟩ 4607182418800017408 4621256167635550208 w (by decide))
  go_enter Try.func11, Try.ntmps11
  go_wp2_with fail
  refine (H1.out w).mono ?_
  intro e w1 hg
  obtain ⟨l1, hl1⟩ : ∃ l1, ([.mk 1 0 []] : List Tm) = l1 := ⟨_, rfl⟩
  obtain ⟨t1, ht1⟩ : ∃ t1, Tm.mk 2 0 [] = t1 := ⟨_, rfl⟩
  rw [show parseB (ByteArray.mk #[40, 102, 105, 108, 101, 32, 40, 40, 115, 111, 114, 116, 32, 48, 41, 41, 32, 40, 118, 97, 114, 32, 48, 41, 41]).data.toList 4611686018427387904 4611686018427387904 = .ok ([.mk 1 0 []], .mk 2 0 []) from pk1, hl1, ht1] at hg
  obtain ⟨hb1, cv, s, rfl, hl, hlt, hfi⟩ := hg
  obtain ⟨a1, c1, rfl, -, -⟩ := hl.out
  obtain ⟨a2, c2, rfl, -, -⟩ := hlt.out
  have hba := (Below.refl w1.heap.size w1).alloc (Nat.le_refl _) (.cells #[.slice a1 l1.length c1, .int .i64 t1.k, .int .i64 t1.i, .slice a2 t1.kids.length c2] 27)
  have hn := alloc_new w1 (.cells #[.slice a1 l1.length c1, .int .i64 t1.k, .int .i64 t1.i, .slice a2 t1.kids.length c2] 27)
  have HB2 := Lib.hid (hb1.trans (hba.mono hb1.size))
  have HLL := Lib.hid (And.intro hl1 ht1)
  clear hl hlt hfi hb1 hba hl1 ht1
  unfold fv
  go_upto_region 2 with fail
  obtain ⟨W1, hW1⟩ : ∃ W1, W1 = w1.alloc (.cells #[.slice a1 l1.length c1, .int .i64 t1.k, .int .i64 t1.i, .slice a2 t1.kids.length c2] 27) := ⟨_, rfl⟩
  rw [← hW1] at HB2 hn
  rw [← hW1]
  have hlt1 := hltD hn
  have HN := Lib.hid hn
  clear hW1 hn H1
  go_wp2_with fail
  refine (H2.out W1).mono ?_
  intro e w2 hg
  rw [show parseB (ByteArray.mk #[40, 102, 105, 108, 101, 32, 40, 41, 32, 40, 115, 111, 114, 116, 41, 41]).data.toList 4621256167635550208 4621256167635550208 = .error (0, 14) from pk2] at hg
  obtain ⟨hb2, hg⟩ := hg
  have he : e = .returned (.tuple #[.agg #[.slice none 0 0, .int .i64 0, .int .i64 0, .slice none 0 0], .int .i64 2, .int .i64 14, .string ⟨#[]⟩]) := hg
  subst he
  have hba := (Below.refl w2.heap.size w2).alloc (Nat.le_refl _) (.cells #[.slice none 0 0, .int .i64 0, .int .i64 0, .slice none 0 0] 27)
  have HB3 := Lib.hid (HB2.out.trans ((hb2.trans (hba.mono hb2.size)).mono HB2.out.size))
  have HN2 := Lib.hid (((hb2.trans (hba.mono hb2.size)).block _ hlt1).trans HN.out)
  clear hb2 hg hba H2 HN hlt1 HB2
  go_upto_region 3 with fail
  obtain ⟨W2, hW2⟩ : ∃ W2, W2 = w2.alloc (.cells #[.slice none 0 0, .int .i64 0, .int .i64 0, .slice none 0 0] 27) := ⟨_, rfl⟩
  rw [← hW2] at HB3 HN2
  rw [← hW2]
  have hlt2 := hltD HN2.out
  clear hW2
  go_wp2_with fail
  refine (H3.out W2).mono ?_
  intro e w3 hg
  rw [show parseB (ByteArray.mk #[40, 102, 105, 108, 101, 32, 40, 41, 32, 40, 114, 101, 102, 108, 32, 40, 115, 111, 114, 116, 32, 48, 41, 41, 41]).data.toList 4607182418800017408 4621256167635550208 = .error (1, 15) from pk3] at hg
  obtain ⟨hb3, hg⟩ := hg
  have he : e = .returned (.tuple #[.agg #[.slice none 0 0, .int .i64 0, .int .i64 0, .slice none 0 0], .int .i64 4, .int .i64 15, .string ⟨#[100, 101, 101, 112]⟩]) := hg
  subst he
  have hba := (Below.refl w3.heap.size w3).alloc (Nat.le_refl _) (.cells #[.slice none 0 0, .int .i64 0, .int .i64 0, .slice none 0 0] 27)
  have HB4 := Lib.hid (HB3.out.trans ((hb3.trans (hba.mono hb3.size)).mono HB3.out.size))
  have hn4 := ((hb3.trans (hba.mono hb3.size)).block _ hlt2).trans HN2.out
  clear hb3 hg hba H3 HN2 hlt2 HB3
  go_upto_region 4 with fail
  obtain ⟨W3, hW3⟩ : ∃ W3, W3 = w3.alloc (.cells #[.slice none 0 0, .int .i64 0, .int .i64 0, .slice none 0 0] 27) := ⟨_, rfl⟩
  rw [← hW3] at HB4 hn4
  rw [← hW3]
  clear hW3
  obtain ⟨y0, y1, y2, y3⟩ := four_cells hn4
  clear hn4
  rw [show l1.length = 1 by rw [← HLL.out.1]; rfl] at y0
  rw [show t1.k = 2 by rw [← HLL.out.2]; rfl] at y1
  go_wp2
  go_ret
  exact ⟨rfl, HB4.out⟩
end Go.Proofs.Ytdhfbphliejcdaa.Dv

namespace Go.Proofs.Ytdhfbphliejcdaa.Dv

/-- What the one gives the other gives, but for what is beyond an allowance. -/
def Mo {α : Type} (x y : Except PF α) : Prop := (∀ r, x = .ok r → y = .ok r) ∧ ∀ a, x = .error (0, a) → y = .error (0, a)
theorem Mo.refl {α : Type} (x : Except PF α) : Mo x x := ⟨fun _ h => h, fun _ h => h⟩
end Go.Proofs.Ytdhfbphliejcdaa.Dv

namespace Go.Proofs.Ytdhfbphliejcdaa.Dv
open Go.RowKit

def errK : PF → Int
  | (0, _) => 2
  | (_ + 1, _) => 4
def errW : PF → ByteArray
  | (0, _) => ⟨#[]⟩
  | (1, _) => ⟨#[100, 101, 101, 112]⟩
  | (_ + 2, _) => ⟨#[110, 111, 100, 101, 115]⟩
theorem errV_eq (p : PF) : errV p = .tuple #[.agg #[.slice none 0 0, .int .i64 0, .int .i64 0, .slice none 0 0], .int .i64 (errK p), .int .i64 (p.2 : Nat), .string (errW p)] := by
  obtain ⟨k, a⟩ := p
  match k with
  | 0 => rfl
  | 1 => rfl
  | k + 2 => rfl
theorem samesB_self (l : List Tm) : samesB l l = true := by
  have := sameB_self (.mk 0 0 l)
  rw [sameB_eq] at this
  simpa [Tm.kids] using this
theorem fileB_self (l : List Tm) (t : Tm) : fileB l l t t = true := by unfold fileB; rw [samesB_self, sameB_self]; rfl
theorem nil_lies (w : World) : Lies w [] (.slice none 0 0) := .mk [] none 0 (fun _ => .nilIface) (Nat.le_refl _) (by decide) (fun _ h => by cases h) (fun _ h => absurd h (by simp)) (fun _ h => absurd h (by simp))
end Go.Proofs.Ytdhfbphliejcdaa.Dv

namespace Go.Proofs.Ytdhfbphliejcdaa.Dv

def kindAt (L : List Tok) (p : Nat) : Nat := (L[p]?.map (·.k)).getD 0
def wordAt (L : List Tok) (p : Nat) : List UInt8 := (L[p]?.map (·.s)).getD []
def placeAt (L : List Tok) (E : Nat) (p : Nat) : Nat := (L[p]?.map (·.at_)).getD E
/-- The page's parser: where it stands, the token at fault, the nodes used up, the allowance at an end (0: none, 1: deep, 2: nodes). -/
structure XS where
  p : Nat
  bad : Option Nat
  n : Nat
  word : Nat
def XS.fail (s : XS) : XS := match s.bad with
  | none => { s with bad := some s.p }
  | some _ => s
def XS.next (s : XS) : XS := { s with p := s.p + 1 }
def wantX (L : List Tok) (k : Nat) (s : XS) : List UInt8 × XS := match s.bad with
  | some _ => ([], s)
  | none => if kindAt L s.p = k then (wordAt L s.p, s.next) else ([], s.fail)
abbrev DX := Nat → XS → Tm × XS
def zeroX : Tm := .mk 0 0 []
def kidsX (dx : DX) (d : Nat) : Nat → XS → List Tm × XS
  | 0, s => ([], s)
  | c + 1, s => ((dx d s).1 :: (kidsX dx d c (dx d s).2).1, (kidsX dx d c (dx d s).2).2)
def numX (L : List Tok) (r : Int) (s : XS) : Int × XS :=
  if r = 1 ∨ r = 2 then ((((getB (wantX L 4 s).1).getD 0 : Nat) : Int), (wantX L 4 s).2) else (0, s)
/-- Behind the word of a rule. -/
def restX (L : List Tok) (dx : DX) (d : Nat) (r : Int) (s : XS) : Tm × XS :=
  (.mk r (numX L r s).1 (kidsX dx (d + 1) (dkidsN r).toNat (numX L r s).2).1, (wantX L 2 (kidsX dx (d + 1) (dkidsN r).toNat (numX L r s).2).2).2)
/-- Behind the bracket. -/
def ruleX (L : List Tok) (dx : DX) (d : Nat) (s : XS) : Tm × XS :=
  if kindAt L s.p = 3 ∧ ruleN (wordAt L s.p) ≠ 0 then restX L dx d (ruleN (wordAt L s.p)) s.next else (zeroX, s.fail)
def derX (deep nodes : Nat) (L : List Tok) : Nat → DX
  | 0, _, s => (zeroX, s.fail)
  | f + 1, d, s => match s.bad with
    | some _ => (zeroX, s)
    | none => if kindAt L s.p ≠ 1 then (zeroX, s.fail)
      else if withinB d deep = false then (zeroX, ({ s with n := s.n + 1, word := 1 } : XS).fail)
      else if withinB (s.n + 1 : Nat) nodes = false then (zeroX, ({ s with n := s.n + 1, word := 2 } : XS).fail)
      else ruleX L (derX deep nodes L f) d ({ s with n := s.n + 1 } : XS).next

/-- What the one reads beside what the other reads. -/
def SameX {α β : Type} (L : List Tok) (E : Nat) (g : α → β) (x : Except PF (α × Nat × List Tok)) (y : β × XS) : Prop := match x with
  | .ok (t, u, r) => y.1 = g t ∧ y.2.bad = none ∧ y.2.n = u ∧ y.2.word = 0 ∧ L.drop y.2.p = r
  | .error (k, a) => ∃ b, y.2.bad = some b ∧ placeAt L E b = a ∧ y.2.word = k
theorem kind_cons {L : List Tok} {E p : Nat} {t : Tok} {r : List Tok} (h : L.drop p = t :: r) : kindAt L p = t.k ∧ wordAt L p = t.s ∧ placeAt L E p = t.at_ ∧ L.drop (p + 1) = r := by
  have h1 : L[p]? = some t := by
    have := List.getElem?_drop (xs := L) (i := p) (j := 0)
    rw [h] at this
    simpa using this.symm
  refine ⟨by simp [kindAt, h1], by simp [wordAt, h1], by simp [placeAt, h1], ?_⟩
  have : L.drop (p + 1) = (L.drop p).drop 1 := by rw [List.drop_drop]
  rw [this, h]; rfl
theorem kind_nil {L : List Tok} {p : Nat} (h : L.drop p = []) : kindAt L p = 0 ∧ ∀ E, placeAt L E p = E := by
  have h1 : L[p]? = none := by
    rw [List.getElem?_eq_none]
    simpa using h
  exact ⟨by simp [kindAt, h1], fun E => by simp [placeAt, h1]⟩
theorem want_is {L : List Tok} {E k : Nat} (hk : k ≠ 0) (s : XS) (hb : s.bad = none) : match takeT E k (L.drop s.p) with
    | .ok (t, r) => wantX L k s = (t.s, s.next) ∧ L.drop (s.p + 1) = r ∧ kindAt L s.p = k ∧ wordAt L s.p = t.s
    | .error a => wantX L k s = ([], { s with bad := some s.p }) ∧ placeAt L E s.p = a ∧ (kindAt L s.p ≠ k) := by
  cases h : L.drop s.p with
  | nil =>
    obtain ⟨h1, h2⟩ := kind_nil h
    simp only [takeT]
    refine ⟨?_, h2 E, by rw [h1]; exact fun e => hk e.symm⟩
    unfold wantX XS.fail
    rw [hb]
    simp only
    rw [if_neg (by rw [h1]; exact fun e => hk e.symm)]
  | cons t r =>
    obtain ⟨h1, h2, h3, h4⟩ := kind_cons (E := E) h
    simp only [takeT]
    by_cases hc : t.k = k
    · rw [if_pos hc]
      refine ⟨?_, h4, by rw [h1, hc], h2⟩
      unfold wantX
      rw [hb]
      simp only
      rw [if_pos (by rw [h1, hc]), h2]
    · rw [if_neg hc]
      refine ⟨?_, h3, by rw [h1]; exact hc⟩
      unfold wantX XS.fail
      rw [hb]
      simp only
      rw [if_neg (by rw [h1]; exact hc)]
theorem want_bad {L : List Tok} {k b : Nat} {s : XS} (h : s.bad = some b) : wantX L k s = ([], s) := by unfold wantX; rw [h]
def Sticks (dx : DX) : Prop := ∀ d s b, s.bad = some b → dx d s = (zeroX, s)
theorem derX_sticks (deep nodes : Nat) (L : List Tok) : ∀ f, Sticks (derX deep nodes L f)
  | 0 => fun d s b h => by unfold derX XS.fail; rw [h]
  | f + 1 => fun d s b h => by unfold derX; rw [h]
theorem kidsX_sticks {dx : DX} (h : Sticks dx) {d : Nat} : ∀ {c : Nat} {s : XS} {b : Nat}, s.bad = some b → (kidsX dx d c s).2 = s
  | 0, s, b, hb => rfl
  | c + 1, s, b, hb => by
    unfold kidsX
    rw [h d s b hb]
    exact kidsX_sticks h hb
/-- Where it stands the one reads as the other. -/
def DXOk (L : List Tok) (E : Nat) (dp : DP) (dx : DX) : Prop := ∀ d (s : XS), s.bad = none → s.word = 0 → SameX L E id (dp d s.n (L.drop s.p)) (dx d s)
theorem kidsX_ok {L : List Tok} {E : Nat} {dp : DP} {dx : DX} (hs : Sticks dx) (h : DXOk L E dp dx) {d : Nat} : ∀ {c : Nat} {s : XS}, s.bad = none → s.word = 0 → SameX L E id (kidsD dp d c s.n (L.drop s.p)) (kidsX dx d c s)
  | 0, s, hb, hw => ⟨rfl, hb, rfl, hw, rfl⟩
  | c + 1, s, hb, hw => by
    have h1 := h d s hb hw
    unfold kidsD kidsX
    cases hx : dp d s.n (L.drop s.p) with
    | error p =>
      obtain ⟨k, a⟩ := p
      rw [hx] at h1
      obtain ⟨b, e1, e2, e3⟩ := h1
      exact ⟨b, by dsimp only; rw [kidsX_sticks hs e1]; exact e1, e2, by dsimp only; rw [kidsX_sticks hs e1]; exact e3⟩
    | ok q =>
      obtain ⟨t, u, r⟩ := q
      rw [hx] at h1
      obtain ⟨e1, e2, e3, e4, e5⟩ := h1
      have h2 := kidsX_ok hs h (d := d) (c := c) e2 e4
      rw [e3, e5] at h2
      dsimp only
      cases hy : kidsD dp d c u r with
      | error p =>
        obtain ⟨k, a⟩ := p
        rw [hy] at h2
        exact h2
      | ok q =>
        obtain ⟨l, u2, r2⟩ := q
        rw [hy] at h2
        obtain ⟨g1, g2, g3, g4, g5⟩ := h2
        exact ⟨by dsimp only; rw [e1, g1]; rfl, g2, g3, g4, g5⟩
theorem restX_ok {L : List Tok} {E : Nat} {dp : DP} {dx : DX} (hs : Sticks dx) (h : DXOk L E dp dx) {d : Nat} {R : Int} {s : XS} (hb : s.bad = none) (hw : s.word = 0) : SameX L E id (match numD E R (L.drop s.p) with
    | .error e => .error e
    | .ok (n, r2) => match kidsD dp (d + 1) (dkidsN R).toNat s.n r2 with
      | .error e => .error e
      | .ok (l, u2, r3) => match takeT E 2 r3 with
        | .error e => .error (0, e)
        | .ok (_, r4) => .ok (.mk R n l, u2, r4)) (restX L dx d R s) := by
  have hn : match numD E R (L.drop s.p) with
      | .error (k, a) => k = 0 ∧ ∃ b, (numX L R s).2.bad = some b ∧ placeAt L E b = a ∧ (numX L R s).2.word = 0
      | .ok (n, r2) => (numX L R s).1 = n ∧ (numX L R s).2.bad = none ∧ (numX L R s).2.n = s.n ∧ (numX L R s).2.word = 0 ∧ L.drop (numX L R s).2.p = r2 := by
    by_cases hR : R = 1 ∨ R = 2
    · simp only [numD, numX, if_pos hR]
      have h1 := want_is (L := L) (E := E) (k := 4) (by decide) s hb
      cases hx : takeT E 4 (L.drop s.p) with
      | error a =>
        rw [hx] at h1
        obtain ⟨e1, e2, -⟩ := h1
        exact ⟨rfl, s.p, by rw [e1], e2, by rw [e1]; exact hw⟩
      | ok q =>
        obtain ⟨t, r⟩ := q
        rw [hx] at h1
        obtain ⟨e1, e2, -⟩ := h1
        exact ⟨by rw [e1], by rw [e1]; exact hb, by rw [e1]; rfl, by rw [e1]; exact hw, by rw [e1]; exact e2⟩
    · simp only [numD, numX, if_neg hR]
      exact ⟨trivial, hb, trivial, hw, trivial⟩
  unfold restX
  generalize numX L R s = z at hn
  cases hx : numD E R (L.drop s.p) with
  | error p =>
    obtain ⟨k, a⟩ := p
    rw [hx] at hn
    obtain ⟨rfl, b, e1, e2, e3⟩ := hn
    have e4 := kidsX_sticks hs (d := d + 1) (c := (dkidsN R).toNat) e1
    refine ⟨b, ?_, e2, ?_⟩
    · dsimp only; rw [e4, want_bad e1]; exact e1
    · dsimp only; rw [e4, want_bad e1]; exact e3
  | ok q =>
    obtain ⟨n, r2⟩ := q
    rw [hx] at hn
    obtain ⟨e1, e2, e3, e4, e5⟩ := hn
    have hk := kidsX_ok hs h (d := d + 1) (c := (dkidsN R).toNat) e2 e4
    rw [e3, e5] at hk
    dsimp only
    generalize kidsX dx (d + 1) (dkidsN R).toNat z.2 = y at hk
    cases hy : kidsD dp (d + 1) (dkidsN R).toNat s.n r2 with
    | error p =>
      obtain ⟨k, a⟩ := p
      rw [hy] at hk
      obtain ⟨b, g1, g2, g3⟩ := hk
      refine ⟨b, ?_, g2, ?_⟩
      · dsimp only; rw [want_bad g1]; exact g1
      · dsimp only; rw [want_bad g1]; exact g3
    | ok q =>
      obtain ⟨l, u2, r3⟩ := q
      rw [hy] at hk
      obtain ⟨g1, g2, g3, g4, g5⟩ := hk
      have h1 := want_is (L := L) (E := E) (k := 2) (by decide) y.2 g2
      rw [g5] at h1
      dsimp only
      cases ht : takeT E 2 r3 with
      | error a =>
        rw [ht] at h1
        obtain ⟨k1, k2, -⟩ := h1
        exact ⟨y.2.p, by dsimp only; rw [k1], k2, by dsimp only; rw [k1]; exact g4⟩
      | ok q =>
        obtain ⟨t, r⟩ := q
        rw [ht] at h1
        obtain ⟨k1, k2, -⟩ := h1
        exact ⟨by dsimp only; rw [e1, g1]; rfl, by dsimp only; rw [k1]; exact g2, by dsimp only; rw [k1]; exact g3, by dsimp only; rw [k1]; exact g4, by dsimp only; rw [k1]; exact k2⟩
theorem ruleX_ok {L : List Tok} {E : Nat} {dp : DP} {dx : DX} (hs : Sticks dx) (h : DXOk L E dp dx) {d u : Nat} {s : XS} (hb : s.bad = none) (hw : s.word = 0) (hu : s.n = u + 1) : SameX L E id (ruleD dp E d u (L.drop s.p)) (ruleX L dx d s) := by
  unfold ruleD ruleX
  have h1 := want_is (L := L) (E := E) (k := 3) (by decide) s hb
  cases hx : takeT E 3 (L.drop s.p) with
  | error a =>
    rw [hx] at h1
    obtain ⟨-, e2, e3⟩ := h1
    rw [if_neg (by rintro ⟨e, -⟩; exact e3 e)]
    exact ⟨s.p, by simp only [XS.fail, hb], e2, by simp only [XS.fail, hb]; exact hw⟩
  | ok q =>
    obtain ⟨t, r⟩ := q
    have hpl : placeAt L E s.p = t.at_ := (kind_cons (E := E) (takeT_eq hx).1).2.2.1
    rw [hx] at h1
    obtain ⟨-, e2, e3, e4⟩ := h1
    rw [e4]
    dsimp only
    by_cases h0 : ruleN t.s = 0
    · rw [if_pos h0, if_neg (by rintro ⟨-, e⟩; exact e h0)]
      exact ⟨s.p, by simp only [XS.fail, hb], hpl, by simp only [XS.fail, hb]; exact hw⟩
    · rw [if_neg h0, if_pos ⟨e3, h0⟩]
      have := restX_ok hs h (d := d) (R := ruleN t.s) (s := s.next) hb hw
      rw [show s.next.p = s.p + 1 from rfl, e2, show s.next.n = u + 1 from hu] at this
      exact this
theorem here_place {L : List Tok} {E p : Nat} : placeAt L E p = hereT E (L.drop p) := by
  cases h : L.drop p with
  | nil => exact (kind_nil h).2 E
  | cons t r => exact (kind_cons (E := E) h).2.2.1
theorem derX_ok {deep nodes E : Nat} {L : List Tok} : ∀ f, DXOk L E (derP deep nodes E f) (derX deep nodes L f)
  | 0 => fun d s hb hw => ⟨s.p, by simp only [derX, XS.fail, hb], here_place, by simp only [derX, XS.fail, hb]; exact hw⟩
  | f + 1 => fun d s hb hw => by
    have h1 := want_is (L := L) (E := E) (k := 1) (by decide) s hb
    unfold derP derX
    rw [hb]
    dsimp only
    cases hx : takeT E 1 (L.drop s.p) with
    | error a =>
      rw [hx] at h1
      obtain ⟨-, e2, e3⟩ := h1
      rw [if_pos e3]
      exact ⟨s.p, by simp only [XS.fail, hb], e2, by simp only [XS.fail, hb]; exact hw⟩
    | ok q =>
      obtain ⟨t, r⟩ := q
      have hpl : placeAt L E s.p = t.at_ := (kind_cons (E := E) (takeT_eq hx).1).2.2.1
      rw [hx] at h1
      obtain ⟨-, e2, e3, e4⟩ := h1
      rw [if_neg (by rw [e3]; simp)]
      dsimp only
      cases hd : withinB d deep with
      | false =>
        simp only [if_true]
        exact ⟨s.p, by simp only [XS.fail], hpl, by simp only [XS.fail]⟩
      | true =>
        simp only [reduceCtorEq, if_false]
        cases hn : withinB (s.n + 1 : Nat) nodes with
        | false =>
          simp only [if_true]
          exact ⟨s.p, by simp only [XS.fail], hpl, by simp only [XS.fail]⟩
        | true =>
          simp only [reduceCtorEq, if_false]
          have := ruleX_ok (E := E) (dp := derP deep nodes E f) (derX_sticks deep nodes L f) (derX_ok f) (d := d) (u := s.n) (s := (⟨s.p, none, s.n + 1, s.word⟩ : XS).next) rfl hw rfl
          rw [show ((⟨s.p, none, s.n + 1, s.word⟩ : XS).next).p = s.p + 1 from rfl, e2] at this
          exact this
end Go.Proofs.Ytdhfbphliejcdaa.Dv

namespace Go.Proofs.Ytdhfbphliejcdaa.Dv

def ctxX (L : List Tok) (dx : DX) : Nat → XS → List Tm × XS
  | 0, s => ([], s.fail)
  | f + 1, s => if s.bad = none ∧ kindAt L s.p = 1 then ((dx 1 s).1 :: (ctxX L dx f (dx 1 s).2).1, (ctxX L dx f (dx 1 s).2).2) else ([], s)
def headX (L : List Tok) (s : XS) : XS := if s.bad = none ∧ ¬ (kindAt L s.p = 3 ∧ wordAt L s.p = fileW) then s.fail else s
def startX : XS := ⟨0, none, 0, 0⟩
/-- Where the contexts begin. -/
def preX (L : List Tok) : XS := (wantX L 1 (headX L (wantX L 1 startX).2).next).2
def endX (L : List Tok) (br : Bool) (s : XS) : XS := if s.bad = none ∧ (s.p < L.length ∨ br = true) then { s with bad := some s.p } else s
def fileX (deep nodes : Nat) (L : List Tok) (br : Bool) (f : Nat) : (List Tm × Tm) × XS :=
  let c := ctxX L (derX deep nodes L f) f (preX L)
  let t := derX deep nodes L f 1 (wantX L 2 c.2).2
  ((c.1, t.1), endX L br (wantX L 2 t.2).2)
theorem kind_head {L : List Tok} {p : Nat} : ((L.drop p).head?.map fun t => t.k == 2).getD false = true ↔ kindAt L p = 2 := by
  cases h : L.drop p with
  | nil => simp [(kind_nil h).1]
  | cons t r => simp [(kind_cons (E := 0) h).1]
theorem fail_bad {s : XS} : ∃ b, s.fail.bad = some b := by
  unfold XS.fail
  cases h : s.bad with
  | none => exact ⟨_, rfl⟩
  | some b => exact ⟨b, h⟩
theorem want_bads {L : List Tok} {k : Nat} {s : XS} {b : Nat} (h : s.bad = some b) : (wantX L k s).2 = s := by rw [want_bad h]
theorem ctxX_sticks {L : List Tok} {dx : DX} : ∀ {f : Nat} {s : XS} {b : Nat}, s.bad = some b → (ctxX L dx f s).2 = s
  | 0, s, b, h => by unfold ctxX XS.fail; rw [h]
  | f + 1, s, b, h => by unfold ctxX; rw [if_neg (by rw [h]; simp)]
/-- The contexts and the bracket behind them. -/
theorem ctxX_ok {L : List Tok} {E : Nat} {dp : DP} {dx : DX} (h : DXOk L E dp dx) (h1 : ∀ d (s : XS), s.bad = none → kindAt L s.p ≠ 1 → dx d s = (zeroX, s.fail)) : ∀ {f : Nat} {s : XS}, s.bad = none → s.word = 0 → SameX L E id (match ctxD dp E f s.n (L.drop s.p) with
    | .error e => .error e
    | .ok (c, u, r4) => match takeT E 2 r4 with
      | .error e => .error (0, e)
      | .ok (_, r5) => .ok (c, u, r5)) ((ctxX L dx f s).1, (wantX L 2 (ctxX L dx f s).2).2)
  | 0, s, hb, hw => by
    have e : s.fail.bad = some s.p := by simp only [XS.fail, hb]
    refine ⟨s.p, ?_, here_place, ?_⟩
    · show (wantX L 2 s.fail).2.bad = _; rw [want_bads e]; exact e
    · show (wantX L 2 s.fail).2.word = _; rw [want_bads e]; simp only [XS.fail, hb]; exact hw
  | f + 1, s, hb, hw => by
    unfold ctxD ctxX
    by_cases h2 : kindAt L s.p = 2
    · rw [if_pos (kind_head.2 h2), if_neg (by rw [h2]; simp)]
      dsimp only
      have hq := want_is (L := L) (E := E) (k := 2) (by decide) s hb
      cases hx : takeT E 2 (L.drop s.p) with
      | error a =>
        rw [hx] at hq
        obtain ⟨e1, e2, -⟩ := hq
        exact ⟨s.p, by rw [e1], e2, by rw [e1]; exact hw⟩
      | ok q =>
        obtain ⟨t, r⟩ := q
        rw [hx] at hq
        obtain ⟨e1, e2, -⟩ := hq
        exact ⟨rfl, by rw [e1]; exact hb, by rw [e1]; rfl, by rw [e1]; exact hw, by rw [e1]; exact e2⟩
    · rw [if_neg (fun e => h2 (kind_head.1 e))]
      have hd := h 1 s hb hw
      by_cases hk : kindAt L s.p = 1
      · rw [if_pos ⟨hb, hk⟩]
        cases hx : dp 1 s.n (L.drop s.p) with
        | error p =>
          obtain ⟨k, a⟩ := p
          rw [hx] at hd
          obtain ⟨b, e1, e2, e3⟩ := hd
          refine ⟨b, ?_, e2, ?_⟩
          · dsimp only; rw [ctxX_sticks e1, want_bads e1]; exact e1
          · dsimp only; rw [ctxX_sticks e1, want_bads e1]; exact e3
        | ok q =>
          obtain ⟨t, u, r⟩ := q
          rw [hx] at hd
          obtain ⟨e1, e2, e3, e4, e5⟩ := hd
          have hr := ctxX_ok h h1 (f := f) e2 e4
          rw [e3, e5] at hr
          dsimp only
          cases hy : ctxD dp E f u r with
          | error p =>
            obtain ⟨k, a⟩ := p
            rw [hy] at hr
            exact hr
          | ok q =>
            obtain ⟨l, u2, r2⟩ := q
            rw [hy] at hr
            dsimp only at hr ⊢
            cases hz : takeT E 2 r2 with
            | error a => rw [hz] at hr; exact hr
            | ok q =>
              obtain ⟨t2, r3⟩ := q
              rw [hz] at hr
              obtain ⟨g1, g2, g3, g4, g5⟩ := hr
              exact ⟨by dsimp only at g1 ⊢; rw [e1, g1]; rfl, g2, g3, g4, g5⟩
      · rw [if_neg (by rintro ⟨-, e⟩; exact hk e)]
        rw [h1 1 s hb hk] at hd
        have hwt : wantX L 2 s = ([], s.fail) := by
          unfold wantX
          rw [hb]
          simp only
          rw [if_neg h2]
        rw [hwt]
        cases hx : dp 1 s.n (L.drop s.p) with
        | error p =>
          obtain ⟨k, a⟩ := p
          rw [hx] at hd
          exact hd
        | ok q =>
          obtain ⟨t, u, r⟩ := q
          rw [hx] at hd
          obtain ⟨-, e2, -⟩ := hd
          obtain ⟨b, e⟩ := fail_bad (s := s)
          dsimp only at e2
          rw [e] at e2
          cases e2
theorem derX_far {deep nodes : Nat} {L : List Tok} : ∀ f d (s : XS), s.bad = none → kindAt L s.p ≠ 1 → derX deep nodes L f d s = (zeroX, s.fail)
  | 0, d, s, _, _ => rfl
  | f + 1, d, s, hb, hk => by
    unfold derX
    rw [hb]
    dsimp only
    rw [if_pos hk]
/-- What the page's File reads. -/
def FileSame (L : List Tok) (E : Nat) (x : Except PF (List Tm × Tm)) (y : (List Tm × Tm) × XS) : Prop := match x with
  | .ok v => y.1 = v ∧ y.2.bad = none ∧ y.2.word = 0
  | .error (k, a) => ∃ b, y.2.bad = some b ∧ placeAt L E b = a ∧ y.2.word = k
theorem endX_bad {L : List Tok} {br : Bool} {s : XS} {b : Nat} (h : s.bad = some b) : endX L br s = s := by unfold endX; rw [if_neg (by rw [h]; simp)]
theorem fileX_ok {deep nodes E f : Nat} {L : List Tok} {br : Bool} : FileSame L E (match fileP (derP deep nodes E f) E f L with
    | .error e => .error e
    | .ok (x, r) => match endP E br r with
      | .error a => .error (0, a)
      | .ok _ => .ok x) (fileX deep nodes L br f) := by
  have hs := derX_sticks deep nodes L f
  have hd := derX_ok (deep := deep) (nodes := nodes) (E := E) (L := L) f
  have hf := derX_far (deep := deep) (nodes := nodes) (L := L) f
  unfold fileX
  generalize derX deep nodes L f = dx at hs hd hf ⊢
  generalize derP deep nodes E f = dp at hd ⊢
  -- a fault ahead of the contexts goes through
  have stuck : ∀ (b : Nat), (preX L).bad = some b → (preX L).word = 0 → ∀ a, placeAt L E b = a → FileSame L E (.error (0, a)) (((ctxX L dx f (preX L)).1, (dx 1 (wantX L 2 (ctxX L dx f (preX L)).2).2).1), endX L br (wantX L 2 (dx 1 (wantX L 2 (ctxX L dx f (preX L)).2).2).2).2) := by
    intro b e1 e2 a e3
    rw [ctxX_sticks e1, want_bads e1, hs _ _ _ e1, want_bads e1, endX_bad e1]
    exact ⟨b, e1, e3, e2⟩
  have w1 := want_is (L := L) (E := E) (k := 1) (by decide) startX rfl
  unfold fileP
  rw [show L.drop startX.p = L from rfl] at w1
  cases t1 : takeT E 1 L with
  | error a =>
    rw [t1] at w1
    obtain ⟨e1, e2, -⟩ := w1
    refine stuck 0 ?_ ?_ a e2
    · unfold preX headX; rw [e1]; rfl
    · unfold preX headX; rw [e1]; rfl
  | ok q =>
  obtain ⟨o, r1⟩ := q
  rw [t1] at w1
  obtain ⟨e1, e2, -⟩ := w1
  have w2 := want_is (L := L) (E := E) (k := 3) (by decide) startX.next rfl
  rw [show startX.next.p = startX.p + 1 from rfl, e2] at w2
  dsimp only
  cases t2 : takeT E 3 r1 with
  | error a =>
    rw [t2] at w2
    obtain ⟨-, g2, g3⟩ := w2
    refine stuck 1 ?_ ?_ a g2
    · unfold preX headX; rw [e1, if_pos ⟨rfl, fun h => g3 h.1⟩]; rfl
    · unfold preX headX; rw [e1, if_pos ⟨rfl, fun h => g3 h.1⟩]; rfl
  | ok q =>
  obtain ⟨w, r2⟩ := q
  have hpl : placeAt L E 1 = w.at_ := by
    have h2 := (takeT_eq t2).1
    rw [← e2] at h2
    exact (kind_cons (E := E) h2).2.2.1
  rw [t2] at w2
  obtain ⟨-, g2, g3, g4⟩ := w2
  dsimp only
  by_cases hw : w.s = fileW
  case neg =>
    rw [if_neg hw]
    refine stuck 1 ?_ ?_ w.at_ hpl
    · unfold preX headX; rw [e1, if_pos ⟨rfl, fun h => hw (by rw [← g4]; exact h.2)⟩]; rfl
    · unfold preX headX; rw [e1, if_pos ⟨rfl, fun h => hw (by rw [← g4]; exact h.2)⟩]; rfl
  rw [if_pos hw]
  have hh : headX L (wantX L 1 startX).2 = startX.next := by
    unfold headX
    rw [e1, if_neg]
    rintro ⟨-, h⟩
    exact h ⟨g3, by rw [← hw]; exact g4⟩
  have w3 := want_is (L := L) (E := E) (k := 1) (by decide) startX.next.next rfl
  rw [show startX.next.next.p = startX.p + 1 + 1 from rfl, g2] at w3
  cases t3 : takeT E 1 r2 with
  | error a =>
    rw [t3] at w3
    obtain ⟨k1, k2, -⟩ := w3
    refine stuck 2 ?_ ?_ a k2
    · unfold preX; rw [hh, k1]; rfl
    · unfold preX; rw [hh, k1]; rfl
  | ok q =>
  obtain ⟨o3, r3⟩ := q
  rw [t3] at w3
  obtain ⟨k1, k2, -⟩ := w3
  have hp : preX L = startX.next.next.next := by unfold preX; rw [hh, k1]
  rw [hp]
  clear stuck
  have hc := ctxX_ok hd hf (f := f) (s := startX.next.next.next) rfl rfl
  rw [show startX.next.next.next.p = startX.p + 1 + 1 + 1 from rfl, k2, show startX.next.next.next.n = 0 from rfl] at hc
  dsimp only
  generalize ctxX L dx f startX.next.next.next = c at hc
  generalize hz : (wantX L 2 c.2).2 = z at hc ⊢
  have stuck : ∀ (b k : Nat), z.bad = some b → z.word = k → ∀ a, placeAt L E b = a → FileSame L E (.error (k, a)) ((c.1, (dx 1 z).1), endX L br (wantX L 2 (dx 1 z).2).2) := by
    intro b k h1 h2 a h3
    rw [hs _ _ _ h1, want_bads h1, endX_bad h1]
    exact ⟨b, h1, h3, h2⟩
  cases t4 : ctxD dp E f 0 r3 with
  | error p =>
    obtain ⟨k, a⟩ := p
    rw [t4] at hc
    obtain ⟨b, h1, h2, h3⟩ := hc
    exact stuck b k h1 h3 a h2
  | ok q =>
  obtain ⟨l, u, r4⟩ := q
  rw [t4] at hc
  dsimp only at hc ⊢
  cases t5 : takeT E 2 r4 with
  | error a =>
    rw [t5] at hc
    obtain ⟨b, h1, h2, h3⟩ := hc
    exact stuck b 0 h1 h3 a h2
  | ok q =>
  obtain ⟨o5, r5⟩ := q
  rw [t5] at hc
  obtain ⟨c1, c2, c3, c4, c5⟩ := hc
  dsimp only at c1 c2 c3 c4 c5 ⊢
  have hx := hd 1 z c2 c4
  rw [c3, c5] at hx
  generalize dx 1 z = y at hx ⊢
  cases t6 : dp 1 u r5 with
  | error p =>
    obtain ⟨k, a⟩ := p
    rw [t6] at hx
    obtain ⟨b, h1, h2, h3⟩ := hx
    dsimp only
    rw [want_bads h1, endX_bad h1]
    exact ⟨b, h1, h2, h3⟩
  | ok q =>
  obtain ⟨t, u2, r6⟩ := q
  rw [t6] at hx
  obtain ⟨d1, d2, d3, d4, d5⟩ := hx
  dsimp only
  have w7 := want_is (L := L) (E := E) (k := 2) (by decide) y.2 d2
  rw [d5] at w7
  cases t7 : takeT E 2 r6 with
  | error a =>
    rw [t7] at w7
    obtain ⟨m1, m2, -⟩ := w7
    rw [m1, endX_bad (b := y.2.p) rfl]
    exact ⟨y.2.p, rfl, m2, d4⟩
  | ok q =>
  obtain ⟨o7, r7⟩ := q
  rw [t7] at w7
  obtain ⟨m1, m2, -⟩ := w7
  rw [m1]
  dsimp only
  unfold endP endX
  have hpos : (y.2.next.p < L.length) ↔ r7 ≠ [] := by
    have h2 : L.drop y.2.next.p = r7 := m2
    constructor
    · intro h e
      rw [e] at h2
      have := List.drop_eq_nil_iff.1 h2
      omega
    · intro h
      by_cases hl : y.2.next.p < L.length
      · exact hl
      · exact absurd (h2 ▸ List.drop_eq_nil_iff.2 (by omega)) h
  have hnb : y.2.next.bad = none := d2
  by_cases hend : r7 = [] ∧ br = false
  · rw [if_pos hend, if_neg (by
      rintro ⟨-, h | h⟩
      · exact (hpos.1 h) hend.1
      · rw [hend.2] at h; cases h)]
    exact ⟨by rw [c1, d1]; rfl, hnb, d4⟩
  · rw [if_neg hend, if_pos ⟨hnb, by
      by_cases h : r7 = []
      · right
        cases br with
        | false => exact absurd ⟨h, rfl⟩ hend
        | true => rfl
      · exact Or.inl (hpos.2 h)⟩]
    have h2 : L.drop y.2.next.p = r7 := m2
    exact ⟨y.2.next.p, rfl, by rw [here_place, h2], d4⟩
end Go.Proofs.Ytdhfbphliejcdaa.Dv

namespace Go.Proofs.Ytdhfbphliejcdaa
open Go.RowKit

theorem lexL_inv {l : List UInt8} {p : Nat} {t : Tok} {r : List Tok} {o : Option Nat} (h : lexL l p = (t :: r, o)) : ∃ q k n, p + skipL (l.drop p) = q ∧ q < l.length ∧ nextL (l.drop q) = some (k, n) ∧ t = ⟨k, (l.drop q).take n, q⟩ ∧ lexL l (q + n) = (r, o) := by
  by_cases h1 : p + skipL (l.drop p) < l.length
  · cases hn : nextL (l.drop (p + skipL (l.drop p))) with
    | none => rw [lexL_fault rfl h1 hn] at h; cases h
    | some x =>
      obtain ⟨k, n⟩ := x
      rw [lexL_next rfl h1 hn] at h
      obtain ⟨h2, h3⟩ := Prod.mk.inj h
      obtain ⟨h4, h5⟩ := List.cons.inj h2
      exact ⟨_, k, n, rfl, h1, hn, h4.symm, Prod.ext h5 h3⟩
  · rw [lexL_end h1] at h; cases h
end Go.Proofs.Ytdhfbphliejcdaa

namespace Go.Proofs.Ytdhfbphliejcdaa

theorem runL_cutoff {p : UInt8 → Bool} : ∀ (X : List UInt8) (m : Nat), runL p (X.take m) = min (runL p X) m
  | [], m => by simp [runL]
  | c :: r, 0 => by simp [runL]
  | c :: r, m + 1 => by
    rw [List.take_succ_cons]
    cases h : p c with
    | true => rw [runL_yes h, runL_yes h, runL_cutoff r m]; omega
    | false => rw [runL_no h, runL_no h]; omega
theorem skipL_cutoff : ∀ (n : Nat) (X : List UInt8) (m : Nat), X.length ≤ n → skipL X ≤ m → skipL (X.take m) = skipL X
  | _, [], m, _, _ => by simp
  | 0, c :: r, m, h, _ => by simp at h
  | n + 1, c :: r, 0, h, h2 => by rw [List.take_zero, skipL_nil]; omega
  | n + 1, c :: r, m + 1, h, h2 => by
    rw [List.take_succ_cons]
    simp only [List.length_cons] at h
    by_cases hb : blankC c = true
    · rw [skipL_blank hb] at h2 ⊢
      rw [skipL_blank hb, skipL_cutoff n r m (by omega) (by omega)]
    · have hb' : blankC c = false := by simpa using hb
      by_cases h59 : c.toNat = 59
      · rw [skipL_note hb' h59] at h2 ⊢
        rw [skipL_note hb' h59, runL_cutoff, Nat.min_eq_left (by omega), List.drop_take, skipL_cutoff n _ _ (by rw [List.length_drop]; omega) (by omega)]
      · rw [skipL_stop hb' h59, skipL_stop hb' h59]
theorem nextL_cutoff {X : List UInt8} {k n m : Nat} (h : nextL X = some (k, n)) (hm : n ≤ m) : nextL (X.take m) = some (k, n) := by
  have hr := nextL_range h
  obtain ⟨m, rfl⟩ : ∃ q, m = q + 1 := ⟨m - 1, by omega⟩
  match X, h with
  | [], h => simp at hr; omega
  | c :: r, h =>
    by_cases c1 : c.toNat = 40
    · rw [next_open c1] at h; rw [List.take_succ_cons, next_open c1, h]
    by_cases c2 : c.toNat = 41
    · rw [next_close c2] at h; rw [List.take_succ_cons, next_close c2, h]
    cases c3 : letterC c with
    | true =>
      by_cases c4 : 20 < runL wordC (c :: r)
      · rw [next_long c1 c2 c3 c4] at h; cases h
      · rw [next_word c1 c2 c3 c4] at h
        cases h
        have hx := runL_cutoff (p := wordC) (c :: r) (m + 1)
        rw [Nat.min_eq_left hm, List.take_succ_cons] at hx
        rw [List.take_succ_cons, next_word c1 c2 c3 (by omega), hx]
    | false =>
      cases c5 : isd c with
      | true =>
        by_cases c6 : getB ((c :: r).take (runL isd (c :: r))) = none ∨ ((((c :: r).drop (runL isd (c :: r))).head?.map letterC).getD false) = true
        · rw [next_bad c1 c2 c3 c5 c6] at h; cases h
        · rw [next_num c1 c2 c3 c5 c6] at h
          cases h
          have hx := runL_cutoff (p := isd) (c :: r) (m + 1)
          rw [Nat.min_eq_left hm] at hx
          have ht : ((c :: r).take (m + 1)).take (runL isd (c :: r)) = (c :: r).take (runL isd (c :: r)) := by rw [List.take_take, Nat.min_eq_left hm]
          have hd : ((((c :: r).take (m + 1)).drop (runL isd (c :: r))).head?.map letterC).getD false = true → ((((c :: r).drop (runL isd (c :: r))).head?.map letterC).getD false) = true := by
            rw [List.drop_take]
            cases hq : m + 1 - runL isd (c :: r) with
            | zero => simp
            | succ q =>
              cases (c :: r).drop (runL isd (c :: r)) with
              | nil => simp
              | cons a b => simp
          rw [List.take_succ_cons] at hx ht hd ⊢
          rw [next_num c1 c2 c3 c5 (by
            rw [hx, ht]
            rintro (e | e)
            · exact c6 (Or.inl e)
            · exact c6 (Or.inr (hd e))), hx]
      | false => rw [next_other c1 c2 c3 c5] at h; cases h
theorem lexL_inv_fault {l : List UInt8} {q p : Nat} (h : lexL l q = ([], some p)) : q + skipL (l.drop q) = p ∧ p < l.length := by
  by_cases h1 : q + skipL (l.drop q) < l.length
  · cases hn : nextL (l.drop (q + skipL (l.drop q))) with
    | none =>
      rw [lexL_fault rfl h1 hn] at h
      simp only [Prod.mk.injEq, Option.some.injEq, true_and] at h
      exact ⟨h, by omega⟩
    | some x => obtain ⟨k, n⟩ := x; rw [lexL_next rfl h1 hn] at h; simp at h
  · rw [lexL_end h1] at h; simp at h
theorem lexL_cutoff {l : List UInt8} {p : Nat} : ∀ (ts : List Tok) (q : Nat), lexL l q = (ts, some p) → q ≤ p ∧ p < l.length ∧ lexL (l.take p) q = (ts, none)
  | [], q, h => by
    obtain ⟨h1, h2⟩ := lexL_inv_fault h
    refine ⟨by omega, h2, lexL_end ?_⟩
    rw [List.drop_take, skipL_cutoff _ _ _ (Nat.le_refl _) (by omega), List.length_take]
    omega
  | t :: r, q, h => by
    obtain ⟨q', k, n, h1, h2, h3, h4, h5⟩ := lexL_inv h
    obtain ⟨i1, i2, i3⟩ := lexL_cutoff r (q' + n) h5
    have hr := nextL_range h3
    refine ⟨by omega, i2, ?_⟩
    have e1 : q + skipL ((l.take p).drop q) = q' := by
      rw [List.drop_take, skipL_cutoff _ _ _ (Nat.le_refl _) (by omega), h1]
    have e2 : nextL ((l.take p).drop q') = some (k, n) := by
      rw [List.drop_take]; exact nextL_cutoff h3 (by omega)
    rw [lexL_next e1 (by rw [List.length_take]; omega) e2, i3, h4, List.drop_take, List.take_take, Nat.min_eq_left (by omega)]
/-- The tokens of a text, its end and whether a fault stands there, by one reading. -/
theorem ofL_eq (l : List UInt8) : ofL l = ((lexL l 0).1, (match (lexL l 0).2 with | none => l.length | some p => p), (lexL l 0).2.isSome) := by
  unfold ofL
  rcases hx : lexL l 0 with ⟨ts, o⟩
  cases o with
  | none => rfl
  | some p =>
    have h := (lexL_cutoff ts 0 hx).2.2
    simp only [h, toksO]
    rfl
end Go.Proofs.Ytdhfbphliejcdaa

namespace Go.Proofs.Ytdhfbphliejcdaa.Dv

theorem kind_in {L : List Tok} {p : Nat} (h : kindAt L p ≠ 0) : p < L.length := by
  by_cases hl : p < L.length
  · exact hl
  · exact absurd (by simp [kindAt, List.getElem?_eq_none (by omega : L.length ≤ p)]) h
structure InvX (L : List Tok) (s : XS) : Prop where
  wd : s.word ≠ 0 → ∃ b, s.bad = some b ∧ b < L.length
  n0 : s.bad = none → s.n ≤ s.p
  n1 : s.n ≤ s.p + 1
  p1 : s.p ≤ L.length + 1
  bd : ∀ b, s.bad = some b → b ≤ L.length + 1
theorem InvX.start (L : List Tok) : InvX L startX := ⟨fun h => absurd rfl h, fun _ => Nat.le_refl _, by decide, Nat.zero_le _, fun b h => (by cases h)⟩
theorem InvX.word0 {L : List Tok} {s : XS} (h : InvX L s) (hb : s.bad = none) : s.word = 0 := by
  by_cases hw : s.word = 0
  · exact hw
  · obtain ⟨b, e, -⟩ := h.wd hw; rw [hb] at e; cases e
theorem InvX.fail {L : List Tok} {s : XS} (h : InvX L s) : InvX L s.fail := by
  unfold XS.fail
  cases hb : s.bad with
  | some b => exact h
  | none => exact ⟨fun hw => absurd (h.word0 hb) hw, fun e => (by cases e), h.n1, h.p1, fun b e => (by cases e; exact h.p1)⟩
theorem InvX.next {L : List Tok} {s : XS} (h : InvX L s) (hb : s.bad = none) (hp : s.p ≤ L.length) : InvX L s.next :=
  ⟨fun hw => absurd (h.word0 hb) hw, fun _ => Nat.le_trans (h.n0 hb) (Nat.le_succ _), Nat.le_succ_of_le h.n1, (show s.p + 1 ≤ L.length + 1 by omega), fun b e => h.bd b e⟩
theorem InvX.want {L : List Tok} {k : Nat} (hk : k ≠ 0) {s : XS} (h : InvX L s) : InvX L (wantX L k s).2 := by
  unfold wantX
  cases hb : s.bad with
  | some b => exact h
  | none =>
    simp only
    split
    · rename_i e
      exact h.next hb (Nat.le_of_lt (kind_in (by rw [e]; exact hk)))
    · exact h.fail
def KeepX (L : List Tok) (dx : DX) : Prop := ∀ d s, InvX L s → InvX L (dx d s).2
theorem kidsX_keep {L : List Tok} {dx : DX} (hd : KeepX L dx) {d : Nat} : ∀ {c : Nat} {s : XS}, InvX L s → InvX L (kidsX dx d c s).2
  | 0, s, h => h
  | c + 1, s, h => by
    show InvX L (kidsX dx d c (dx d s).2).2
    exact kidsX_keep hd (hd d s h)
theorem numX_keep {L : List Tok} {r : Int} {s : XS} (h : InvX L s) : InvX L (numX L r s).2 := by
  unfold numX
  split
  · exact h.want (by decide)
  · exact h
theorem derX_keep {deep nodes : Nat} {L : List Tok} : ∀ f, KeepX L (derX deep nodes L f)
  | 0 => fun d s h => h.fail
  | f + 1 => fun d s h => by
    unfold derX
    cases hb : s.bad with
    | some b => exact h
    | none =>
      dsimp only
      split
      · exact h.fail
      · rename_i hk
        have hk1 : kindAt L s.p = 1 := by simpa using hk
        have hp := kind_in (L := L) (p := s.p) (by rw [hk1]; decide)
        have hn := h.n0 hb
        have hw := h.word0 hb
        split
        · exact ⟨fun _ => ⟨s.p, rfl, hp⟩, fun e => (by cases e), (show s.n + 1 ≤ s.p + 1 by omega), (show s.p ≤ L.length + 1 by omega), fun b e => (by cases e; show s.p ≤ L.length + 1; omega)⟩
        · split
          · exact ⟨fun _ => ⟨s.p, rfl, hp⟩, fun e => (by cases e), (show s.n + 1 ≤ s.p + 1 by omega), (show s.p ≤ L.length + 1 by omega), fun b e => (by cases e; show s.p ≤ L.length + 1; omega)⟩
          · have h2 : InvX L ((⟨s.p, none, s.n + 1, s.word⟩ : XS).next) := ⟨fun e => absurd hw e, fun _ => (show s.n + 1 ≤ s.p + 1 by omega), (show s.n + 1 ≤ s.p + 1 + 1 by omega), (show s.p + 1 ≤ L.length + 1 by omega), fun b e => (by cases e)⟩
            generalize (⟨s.p, none, s.n + 1, s.word⟩ : XS).next = z at h2 ⊢
            unfold ruleX
            split
            · rename_i h3
              have hz : z.bad = none → InvX L z.next := fun hzb => h2.next hzb (Nat.le_of_lt (kind_in (by rw [h3.1]; decide)))
              have hzb : InvX L z.next := by
                cases hz2 : z.bad with
                | none => exact hz hz2
                | some b => exact ⟨fun hw => h2.wd hw, fun e => (by rw [show z.next.bad = z.bad from rfl, hz2] at e; cases e), Nat.le_succ_of_le h2.n1, (show z.p + 1 ≤ L.length + 1 by have := kind_in (L := L) (p := z.p) (by rw [h3.1]; decide); omega), fun b e => h2.bd b e⟩
              exact (kidsX_keep (derX_keep f) (numX_keep hzb)).want (by decide)
            · exact h2.fail
theorem ctxX_keep {L : List Tok} {dx : DX} (hd : KeepX L dx) : ∀ {f : Nat} {s : XS}, InvX L s → InvX L (ctxX L dx f s).2
  | 0, s, h => h.fail
  | f + 1, s, h => by
    unfold ctxX
    split
    · exact ctxX_keep hd (hd 1 s h)
    · exact h
theorem endX_keep {L : List Tok} {br : Bool} {s : XS} (h : InvX L s) : (endX L br s).word ≠ 0 → ∃ b, (endX L br s).bad = some b ∧ b < L.length := by
  unfold endX
  split
  · rename_i hb
    intro hw
    exact absurd (h.word0 hb.1) hw
  · exact h.wd
theorem preX_keep (L : List Tok) : InvX L (preX L) := by
  unfold preX
  have h1 : InvX L (wantX L 1 startX).2 := (InvX.start L).want (by decide)
  have hp : (wantX L 1 startX).2.p ≤ 1 ∧ ((wantX L 1 startX).2.p = 1 → 1 ≤ L.length) ∧ (wantX L 1 startX).2.n = 0 := by
    unfold wantX startX
    simp only
    split
    · rename_i e
      have := kind_in (L := L) (p := 0) (by rw [e]; decide)
      exact ⟨Nat.le_refl _, fun _ => this, rfl⟩
    · exact ⟨by simp [XS.fail], by simp [XS.fail], rfl⟩
  have h2 : InvX L (headX L (wantX L 1 startX).2) ∧ (headX L (wantX L 1 startX).2).p = (wantX L 1 startX).2.p ∧ (headX L (wantX L 1 startX).2).n = 0 := by
    unfold headX
    split
    · rename_i hb
      exact ⟨h1.fail, by simp [XS.fail, hb.1], by simp only [XS.fail, hb.1]; exact hp.2.2⟩
    · exact ⟨h1, rfl, hp.2.2⟩
  generalize headX L (wantX L 1 startX).2 = z at h2
  generalize (wantX L 1 startX).2 = y at hp h2
  obtain ⟨h3, h4, h5⟩ := h2
  have hz1 : z.p + 1 ≤ L.length + 1 := by
    have := hp.1
    by_cases hy : y.p = 1
    · have := hp.2.1 hy; omega
    · omega
  have hz : InvX L z.next := ⟨fun hw => h3.wd hw, fun _ => (show z.n ≤ z.p + 1 by omega), (show z.n ≤ z.p + 1 + 1 by omega), hz1, fun b e => h3.bd b e⟩
  exact hz.want (by decide)
/-- The outcome of the page's File of a text. -/
def pgX (s : List UInt8) (deep nodes : Nat) : (List Tm × Tm) × XS := fileX deep nodes (lexL s 0).1 (lexL s 0).2.isSome ((lexL s 0).1.length + 1)
theorem pgX_same (s : List UInt8) (deep nodes : Nat) : FileSame (lexL s 0).1 (match (lexL s 0).2 with | none => s.length | some p => p) (parseB s deep nodes) (pgX s deep nodes) := by
  have h := fileX_ok (deep := deep) (nodes := nodes) (E := (match (lexL s 0).2 with | none => s.length | some p => p)) (f := (lexL s 0).1.length + 1) (L := (lexL s 0).1) (br := (lexL s 0).2.isSome)
  unfold parseB
  rw [ofL_eq]
  exact h
theorem pgX_word (s : List UInt8) (deep nodes : Nat) (h : (pgX s deep nodes).2.word ≠ 0) : ∃ b, (pgX s deep nodes).2.bad = some b ∧ b < (lexL s 0).1.length := by
  unfold pgX fileX at h ⊢
  exact endX_keep ((derX_keep _ _ _ ((ctxX_keep (derX_keep _) (preX_keep _)).want (by decide))).want (by decide)) h
end Go.Proofs.Ytdhfbphliejcdaa.Dv

namespace Go.Proofs.Ytdhfbphliejcdaa
open Go.RowKit Go.Lib

theorem foldl_lt (l : List UInt8) : ∀ a : Nat, digs l = true → l.foldl (fun n c => 10 * n + (c.toNat - 48)) a < (a + 1) * 10 ^ l.length := by
  induction l with
  | nil => intro a _; simp
  | cons c l ih =>
    intro a h
    simp only [digs, List.all_cons, Bool.and_eq_true, isd, decide_eq_true_eq] at h
    simp only [List.foldl_cons, List.length_cons, Nat.pow_succ]
    refine Nat.lt_of_lt_of_le (ih _ h.2) ?_
    rw [Nat.mul_comm (10 ^ l.length) 10, ← Nat.mul_assoc]
    exact Nat.mul_le_mul_right _ (by omega)
theorem val_lt {l : List UInt8} (h : digs l = true) : val l < 10 ^ l.length := by
  have := foldl_lt l 0 h
  simpa [val] using this

set_option maxHeartbeats 1000000 in
theorem refget_any (s : ByteArray) (w : World) (hs : s.size ≤ maxLen) : Calls Try.prog 33 #[.string s] w fun e w' => e = .returned (getV s.data.toList) ∧ w' = w := by
  unfold maxLen at hs
  have hsl : s.data.toList.length = s.size := by simp
  by_cases h0 : s.size = 0
  · have hl : s.data.toList = [] := List.eq_nil_of_length_eq_zero (by omega)
    have HV := Lib.hid (getV_none (l := s.data.toList) (by rw [hl]; rfl))
    clear hl hsl
    go_enter Try.func33, Try.ntmps33
    go_wp2
    go_ret2
    rw [HV.out]
    exact ⟨rfl, rfl⟩
  have hne : s.data.toList ≠ [] := fun h => by rw [h] at hsl; simp at hsl; omega
  have e0 : ((s.size : Int) == 0) = false := by simpa using h0
  by_cases h7 : 7 < s.size
  · have HV := Lib.hid (getV_none (get_long (l := s.data.toList) (by omega)))
    clear hne hsl
    go_enter Try.func33, Try.ntmps33
    go_wp2
    go_ret2
    rw [HV.out]
    exact ⟨rfl, rfl⟩
  have h0' : 0 < s.size := by omega
  have e7 : ¬ 7 < (s.size : Int) := by omega
  by_cases h1 : 1 < s.size ∧ ((s[0].toNat : Int) = 48)
  · obtain ⟨h1, h2⟩ := h1
    have HV := Lib.hid (getV_none (l := s.data.toList) (by
      unfold getB; rw [if_pos (Or.inr ⟨by omega, by rw [head_at s h0']; congr 1; apply UInt8.toNat_inj.1; simp; omega⟩)]))
    have e2 : ((s[0].toNat : Int) == 48) = true := by simpa using h2
    clear hne hsl h2
    go_enter Try.func33, Try.ntmps33
    go_wp2
    go_ret2
    rw [HV.out]
    exact ⟨rfl, rfl⟩
  have HN2 : Hid (¬ (1 < s.data.toList.length ∧ s.data.toList.head? = some 48)) := by
    rintro ⟨h, h'⟩
    rw [head_at s h0'] at h'
    simp only [Option.some.injEq] at h'
    exact h1 ⟨by omega, by rw [h']; rfl⟩
  by_cases hA : 1 < s.size
  · have e2 : ((s[0].toNat : Int) == 48) = false := by
      have : ¬ (s[0].toNat : Int) = 48 := fun h => h1 ⟨hA, h⟩
      simpa using this
    clear h1 h0
    have HHN := Lib.hid hne
    have HHS := Lib.hid hsl
    clear hne hsl
    go_enter Try.func33, Try.ntmps33
    go_wp2
    go_loop [4, 5] (fun n i => ∃ k : Nat, k ≤ s.size ∧ i = .int .i64 k ∧ n = .int .i64 (val (s.data.toList.take k) : Nat) ∧ Hid (digs (s.data.toList.take k) = true) ∧ Hid (val (s.data.toList.take k) < 10000000)) (fun _ i => s.size - (RowKit.intOf i).toNat)
    case atStart => exact ⟨0, Nat.zero_le _, rfl, rfl, rfl, (show (0 : Nat) < 10000000 by omega)⟩
    case round =>
      obtain ⟨k, hk, rfl, rfl, hd, hv⟩ := hrel
      by_cases hlt : k < s.size
      · have hts := take_snoc s k hlt
        have hsn := val_snoc (s.data.toList.take k) s[k]
        have hdn := digs_snoc (s.data.toList.take k) s[k]
        rw [← hts] at hsn hdn
        rw [hd.out, Bool.true_and] at hdn
        have hc0 := s[k].toNat_lt
        by_cases l1 : (s[k].toNat : Int) < 48
        · have HF := Lib.hid (getV_none (getB_digs (isd_at s k hlt (by unfold isd; simp; omega))))
          clear hts hsn hdn hc0 hd hv
          go_wp2
          go_ret2
          rw [HF.out]
          exact ⟨rfl, rfl⟩
        by_cases l2 : 57 < (s[k].toNat : Int)
        · have HF := Lib.hid (getV_none (getB_digs (isd_at s k hlt (by unfold isd; simp; omega))))
          clear hts hsn hdn hc0 hd hv
          go_wp2
          go_ret2
          rw [HF.out]
          exact ⟨rfl, rfl⟩
        have hv0 := hv.out
        obtain ⟨v, hve⟩ : ∃ v : Nat, val (s.data.toList.take k) = v := ⟨_, rfl⟩
        rw [hve] at hsn hv0 ⊢
        have l3 : 48 ≤ (s[k].toNat : Int) := by omega
        have l4 : (s[k].toNat : Int) ≤ 57 := by omega
        have HDN : Hid (digs (s.data.toList.take (k + 1)) = true) := by rw [Hid, hdn]; unfold isd; simp; omega
        have HSN := Lib.hid (show ((val (s.data.toList.take (k + 1)) : Nat) : Int) = 10 * (v : Int) + ((s[k].toNat : Int) - 48) by rw [hsn]; omega)
        have hvs := val_at s (k + 1)
        have hw1 : IntKind.u8.wrap ((s[k].toNat : Int) - 48) = (s[k].toNat : Int) - 48 := IntWalk.u8_in _ (by omega)
        have HV5 : Hid (val (s.data.toList.take (k + 1)) < 10000000) := by
          have h1 := val_lt (l := s.data.toList.take (k + 1)) HDN.out
          have h2 : (s.data.toList.take (k + 1)).length ≤ 7 := by rw [List.length_take]; omega
          have h3 : 10 ^ (s.data.toList.take (k + 1)).length ≤ 10 ^ 7 := Nat.pow_le_pow_right (by omega) h2
          rw [Hid]; omega
        clear hts hsn hdn hc0 hd hv hvs hve l1 l2
        go_wp2
        go_round
        case rel => exact ⟨k + 1, hlt, by go_num, by rw [HSN.out], HDN, HV5⟩
        case measure => simp [RowKit.intOf]; omega
      · have hte : s.data.toList.take k = s.data.toList := List.take_of_length_le (by rw [HHS.out]; omega)
        rw [hte] at hd hv ⊢
        obtain ⟨v, hve⟩ : ∃ v : Nat, val s.data.toList = v := ⟨_, rfl⟩
        have hd0 := hd.out
        have hv0 := hv.out
        rw [hve] at hv0
        by_cases l5 : 1000000 < v
        · have HG := Lib.hid (getV_none (getB_great (l := s.data.toList) (by omega)))
          have l6 : 1000000 < (v : Int) := by omega
          rw [hve]
          clear hte hd hv hd0 hve l5
          go_wp2
          go_ret2
          rw [HG.out]
          exact ⟨rfl, rfl⟩
        · have HG := Lib.hid (getV_some (getB_of HHN.out HN2.out hd0 (by omega)))
          have l6 : ¬ 1000000 < (v : Int) := by omega
          rw [hve] at HG ⊢
          clear hte hd hv hd0 hve l5
          go_wp2
          go_ret2
          rw [HG.out]
          exact ⟨rfl, rfl⟩
  · clear h1 h0
    have HHN := Lib.hid hne
    have HHS := Lib.hid hsl
    clear hne hsl
    go_enter Try.func33, Try.ntmps33
    go_wp2
    go_loop [4, 5] (fun n i => ∃ k : Nat, k ≤ s.size ∧ i = .int .i64 k ∧ n = .int .i64 (val (s.data.toList.take k) : Nat) ∧ Hid (digs (s.data.toList.take k) = true) ∧ Hid (val (s.data.toList.take k) < 10000000)) (fun _ i => s.size - (RowKit.intOf i).toNat)
    case atStart => exact ⟨0, Nat.zero_le _, rfl, rfl, rfl, (show (0 : Nat) < 10000000 by omega)⟩
    case round =>
      obtain ⟨k, hk, rfl, rfl, hd, hv⟩ := hrel
      by_cases hlt : k < s.size
      · have hts := take_snoc s k hlt
        have hsn := val_snoc (s.data.toList.take k) s[k]
        have hdn := digs_snoc (s.data.toList.take k) s[k]
        rw [← hts] at hsn hdn
        rw [hd.out, Bool.true_and] at hdn
        have hc0 := s[k].toNat_lt
        by_cases l1 : (s[k].toNat : Int) < 48
        · have HF := Lib.hid (getV_none (getB_digs (isd_at s k hlt (by unfold isd; simp; omega))))
          clear hts hsn hdn hc0 hd hv
          go_wp2
          go_ret2
          rw [HF.out]
          exact ⟨rfl, rfl⟩
        by_cases l2 : 57 < (s[k].toNat : Int)
        · have HF := Lib.hid (getV_none (getB_digs (isd_at s k hlt (by unfold isd; simp; omega))))
          clear hts hsn hdn hc0 hd hv
          go_wp2
          go_ret2
          rw [HF.out]
          exact ⟨rfl, rfl⟩
        have hv0 := hv.out
        obtain ⟨v, hve⟩ : ∃ v : Nat, val (s.data.toList.take k) = v := ⟨_, rfl⟩
        rw [hve] at hsn hv0 ⊢
        have l3 : 48 ≤ (s[k].toNat : Int) := by omega
        have l4 : (s[k].toNat : Int) ≤ 57 := by omega
        have HDN : Hid (digs (s.data.toList.take (k + 1)) = true) := by rw [Hid, hdn]; unfold isd; simp; omega
        have HSN := Lib.hid (show ((val (s.data.toList.take (k + 1)) : Nat) : Int) = 10 * (v : Int) + ((s[k].toNat : Int) - 48) by rw [hsn]; omega)
        have hvs := val_at s (k + 1)
        have hw1 : IntKind.u8.wrap ((s[k].toNat : Int) - 48) = (s[k].toNat : Int) - 48 := IntWalk.u8_in _ (by omega)
        have HV5 : Hid (val (s.data.toList.take (k + 1)) < 10000000) := by
          have h1 := val_lt (l := s.data.toList.take (k + 1)) HDN.out
          have h2 : (s.data.toList.take (k + 1)).length ≤ 7 := by rw [List.length_take]; omega
          have h3 : 10 ^ (s.data.toList.take (k + 1)).length ≤ 10 ^ 7 := Nat.pow_le_pow_right (by omega) h2
          rw [Hid]; omega
        clear hts hsn hdn hc0 hd hv hvs hve l1 l2
        go_wp2
        go_round
        case rel => exact ⟨k + 1, hlt, by go_num, by rw [HSN.out], HDN, HV5⟩
        case measure => simp [RowKit.intOf]; omega
      · have hte : s.data.toList.take k = s.data.toList := List.take_of_length_le (by rw [HHS.out]; omega)
        rw [hte] at hd hv ⊢
        obtain ⟨v, hve⟩ : ∃ v : Nat, val s.data.toList = v := ⟨_, rfl⟩
        have hd0 := hd.out
        have hv0 := hv.out
        rw [hve] at hv0
        by_cases l5 : 1000000 < v
        · have HG := Lib.hid (getV_none (getB_great (l := s.data.toList) (by omega)))
          have l6 : 1000000 < (v : Int) := by omega
          rw [hve]
          clear hte hd hv hd0 hve l5
          go_wp2
          go_ret2
          rw [HG.out]
          exact ⟨rfl, rfl⟩
        · have HG := Lib.hid (getV_some (getB_of HHN.out HN2.out hd0 (by omega)))
          have l6 : ¬ 1000000 < (v : Int) := by omega
          rw [hve] at HG ⊢
          clear hte hd hv hd0 hve l5
          go_wp2
          go_ret2
          rw [HG.out]
          exact ⟨rfl, rfl⟩

end Go.Proofs.Ytdhfbphliejcdaa

namespace Go.Proofs.Ytdhfbphliejcdaa
open Go.RowKit

theorem info_ptok : (Try.prog.info? 44).map (fun i => (i.zero, i.size, i.bytes)) = some (some (.agg #[.int .i64 0, .string ⟨#[]⟩, .int .i64 0]), 3, 32) := by kernel_rfl
theorem slice_two {P : Program} {t : TypeId} (w : World) (s : ByteArray) (p q : Nat) (ht : P.underlying t = some .string) (h : p ≤ q) (h2 : q ≤ s.size) :
    (Instr.slice t (.string s) (some (.int .i64 (p : Int))) (some (.int .i64 (q : Int))) none).run P w = .ok (.string (s.extract p q)) w := by
  rw [run_slice_string w t s .i64 .i64 _ _ ht (by omega) (by omega) (by omega)]
  rfl
theorem lx_blank {s : ByteArray} {p : Nat} (h : p < s.size) (hb : blankC s[p] = true) : lexL s.data.toList p = lexL s.data.toList (p + 1) := lexL_same (by rw [drop_at s p h, skipL_blank hb]; omega)
theorem lx_note {s : ByteArray} {p : Nat} (h : p < s.size) (hb : s[p].toNat = 59) : lexL s.data.toList p = lexL s.data.toList (p + runL lineC (s.data.toList.drop p)) := by
  have hline : lineC s[p] = true := by unfold lineC; rw [hb]; rfl
  have hbl : blankC s[p] = false := by unfold blankC; rw [hb]; rfl
  have hrl : runL lineC (s.data.toList.drop p) = runL lineC (s.data.toList.drop (p + 1)) + 1 := by rw [drop_at s p h, runL_yes hline]
  refine lexL_same ?_
  have hd : skipL (s.data.toList.drop p) = runL lineC (s.data.toList.drop (p + 1)) + 1 + skipL ((s.data.toList.drop (p + 1)).drop (runL lineC (s.data.toList.drop (p + 1)))) := by
    conv => lhs; rw [drop_at s p h]
    rw [skipL_note hbl hb]
  rw [List.drop_drop] at hd
  rw [hd, hrl, show p + (runL lineC (s.data.toList.drop (p + 1)) + 1) = p + 1 + runL lineC (s.data.toList.drop (p + 1)) by omega]
  omega
theorem lx_skip {s : ByteArray} {p : Nat} (h : p < s.size) (hb : blankC s[p] = false) (h59 : s[p].toNat ≠ 59) : p + skipL (s.data.toList.drop p) = p := by rw [drop_at s p h, skipL_stop hb h59]; rfl
theorem lx_tok {s : ByteArray} {p k n : Nat} {ts : List Tok} {R : List Tok × Option Nat} (hR : lexTo ts (lexL s.data.toList p) = R) (h : p < s.size) (hq : p + skipL (s.data.toList.drop p) = p) (hn : nextL (s.data.toList.drop p) = some (k, n)) : lexTo (ts ++ [⟨k, (s.data.toList.drop p).take n, p⟩]) (lexL s.data.toList (p + n)) = R := by
  rw [← hR, lexL_next hq (by simpa using h) hn]
  exact (lexTo_next ts ⟨k, _, p⟩ _).symm
theorem lx_bad {s : ByteArray} {p : Nat} {ts : List Tok} {R : List Tok × Option Nat} (hR : lexTo ts (lexL s.data.toList p) = R) (h : p < s.size) (hq : p + skipL (s.data.toList.drop p) = p) (hn : nextL (s.data.toList.drop p) = none) : R = (ts, some p) := by
  rw [← hR, lexL_fault hq (by simpa using h) hn]; simp [lexTo]

/-- What the page's Lex hands back. -/
def plexGives (T : TypeId) (w : World) (R : List Tok × Option Nat) (e : Ending) (w' : World) : Prop :=
  Below w.heap.size w w' ∧ ∃ v, Toks T w.heap.size w' v R.1 ∧ e = .returned (.tuple #[v, .int .i64 (match R.2 with | none => -1 | some p => (p : Int))])

set_option maxRecDepth 20000 in
set_option maxHeartbeats 8000000 in
theorem plex_any (s : ByteArray) (w : World) (hs : s.size ≤ 1000000) :
    Calls Try.prog 14 #[.string s] w (plexGives 44 w (lexL s.data.toList 0)) := by
  have HPL := Lib.hid pletter_any
  have HPD := Lib.hid pdigit_any
  have HGET := Lib.hid fun t w (h : t.size ≤ maxLen) => refget_any t w h
  have hsl : s.data.toList.length = s.size := by simp
  have HSL := Lib.hid hsl
  obtain ⟨R, hR⟩ : ∃ R, lexL s.data.toList 0 = R := ⟨_, rfl⟩
  rw [hR]
  have HRR := Lib.hid hR
  obtain ⟨i0, hi, hz0, hz1, hz2⟩ := tok_parts info_ptok
  have HI := Lib.hid (And.intro hi (And.intro hz0 (And.intro hz1 hz2)))
  clear hR hsl hi hz0 hz1 hz2
  go_enter Try.func14, Try.ntmps14
  go_wp2_with fail
  go_loopw [4, 5] (fun v i wr => ∃ (p : Nat) (ts : List Tok), p ≤ s.size ∧ ts.length ≤ p ∧ i = .int .i64 p ∧ Hid (lexTo ts (lexL s.data.toList p) = R) ∧ Hid (Toks 44 w.heap.size wr v ts) ∧ Below w.heap.size w wr) (fun _ i _ => s.size - (intOf i).toNat)
  case atStart => exact ⟨0, [], Nat.zero_le _, Nat.zero_le _, rfl, by rw [Hid, HRR.out]; simp [lexTo], toks_nil _ _ _, Below.refl _ _⟩
  case round =>
    obtain ⟨p, ts, hp, htp, rfl, hR, hT, hB⟩ := hrel
    have HB := Lib.hid hB
    have hB2 := hB.size
    clear hB
    by_cases hlt : p < s.size
    · by_cases c32 : s[p].toNat = 32
      · have b32 : ((s[p].toNat : Int) == 32) = true := (u8_eq (n := 32)).trans (by rw [c32]; rfl)
        have HN := Lib.hid (show lexTo ts (lexL s.data.toList (p + 1)) = R by rw [← lx_blank hlt (by unfold blankC; rw [c32]; rfl)]; exact hR.out)
        clear c32 hR
        go_wp2_with fail
        go_roundw
        case rel => exact ⟨p + 1, ts, hlt, by omega, by go_num, HN.out, hT, HB.out⟩
        case measure => simp [intOf]; omega
      have b32 : ((s[p].toNat : Int) == 32) = false := (u8_eq (n := 32)).trans (beq_eq_false_iff_ne.2 c32)
      by_cases c9 : s[p].toNat = 9
      · have b9 : ((s[p].toNat : Int) == 9) = true := (u8_eq (n := 9)).trans (by rw [c9]; rfl)
        have HN := Lib.hid (show lexTo ts (lexL s.data.toList (p + 1)) = R by rw [← lx_blank hlt (by unfold blankC; rw [c9]; rfl)]; exact hR.out)
        clear c9 hR
        go_wp2_with fail
        go_roundw
        case rel => exact ⟨p + 1, ts, hlt, by omega, by go_num, HN.out, hT, HB.out⟩
        case measure => simp [intOf]; omega
      have b9 : ((s[p].toNat : Int) == 9) = false := (u8_eq (n := 9)).trans (beq_eq_false_iff_ne.2 c9)
      by_cases c10 : s[p].toNat = 10
      · have b10 : ((s[p].toNat : Int) == 10) = true := (u8_eq (n := 10)).trans (by rw [c10]; rfl)
        have HN := Lib.hid (show lexTo ts (lexL s.data.toList (p + 1)) = R by rw [← lx_blank hlt (by unfold blankC; rw [c10]; rfl)]; exact hR.out)
        clear c10 hR
        go_wp2_with fail
        go_roundw
        case rel => exact ⟨p + 1, ts, hlt, by omega, by go_num, HN.out, hT, HB.out⟩
        case measure => simp [intOf]; omega
      have b10 : ((s[p].toNat : Int) == 10) = false := (u8_eq (n := 10)).trans (beq_eq_false_iff_ne.2 c10)
      have hblank : blankC s[p] = false := by unfold blankC; rw [beq_eq_false_iff_ne.2 c32, beq_eq_false_iff_ne.2 c9, beq_eq_false_iff_ne.2 c10]; rfl
      clear c32 c9 c10
      by_cases c59 : s[p].toNat = 59
      · have b59 : ((s[p].toNat : Int) == 59) = true := (u8_eq (n := 59)).trans (by rw [c59]; rfl)
        have hle := runL_at lineC s p hp
        obtain ⟨E, hE⟩ : ∃ E, p + runL lineC (s.data.toList.drop p) = E := ⟨_, rfl⟩
        have HE := Lib.hid hE
        have HN := Lib.hid (show lexTo ts (lexL s.data.toList E) = R by rw [← hE, ← lx_note hlt c59]; exact hR.out)
        have hE1 : p < E := by
          rw [← hE, drop_at s p hlt, runL_yes (by unfold lineC; rw [c59]; rfl)]; omega
        rw [hE] at hle
        clear hE c59 hR hblank
        go_wp2_with fail
        go_loop [5] (fun i => ∃ k : Nat, k ≤ s.size ∧ i = .int .i64 k ∧ Hid (k + runL lineC (s.data.toList.drop k) = E)) (fun i => s.size - (intOf i).toNat)
        case atStart => exact ⟨p, hp, rfl, HE.out⟩
        case round =>
          obtain ⟨k, hk, rfl, hq⟩ := hrel
          by_cases hk2 : k < s.size
          · have hd := hq.out
            rw [drop_at s k hk2] at hd
            by_cases d10 : s[k].toNat = 10
            · have f10 : ((s[k].toNat : Int) == 10) = true := (u8_eq (n := 10)).trans (by rw [d10]; rfl)
              have e10 : ((s[k].toNat : Int) != 10) = false := by rw [bne, f10]; rfl
              rw [runL_no (by unfold lineC; rw [d10]; rfl)] at hd
              obtain rfl : k = E := by omega
              clear hd hq d10 HE
              go_wp2_with fail
              go_roundw
              case rel => exact ⟨k, ts, hk, by omega, rfl, HN.out, hT, HB.out⟩
              case measure => simp [intOf]; omega
            · have f10 : ((s[k].toNat : Int) == 10) = false := (u8_eq (n := 10)).trans (beq_eq_false_iff_ne.2 d10)
              have e10 : ((s[k].toNat : Int) != 10) = true := by rw [bne, f10]; rfl
              rw [runL_yes (by unfold lineC; rw [beq_eq_false_iff_ne.2 d10]; rfl)] at hd
              have HQ := Lib.hid (show k + 1 + runL lineC (s.data.toList.drop (k + 1)) = E by omega)
              clear hd hq d10
              go_wp2_with fail
              go_round
              case rel => exact ⟨k + 1, hk2, by go_num, HQ.out⟩
              case measure => simp [intOf]; omega
          · have hd := hq.out
            rw [List.drop_of_length_le (by rw [HSL.out]; omega)] at hd
            obtain rfl : k = E := by simpa [runL] using hd
            clear hd hq HE
            go_wp2_with fail
            go_roundw
            case rel => exact ⟨k, ts, hk, by omega, rfl, HN.out, hT, HB.out⟩
            case measure => simp [intOf]; omega
      have b59 : ((s[p].toNat : Int) == 59) = false := (u8_eq (n := 59)).trans (beq_eq_false_iff_ne.2 c59)
      have hsk := lx_skip hlt hblank c59
      have HSKP := Lib.hid hsk
      clear hblank c59 hsk
      by_cases c40 : s[p].toNat = 40
      · have b40 : ((s[p].toNat : Int) == 40) = true := (u8_eq (n := 40)).trans (by rw [c40]; rfl)
        have HN := Lib.hid (show lexTo (ts ++ [⟨1, [40], p⟩]) (lexL s.data.toList (p + 1)) = R by
          have h0 := lx_tok hR.out hlt (lx_skip hlt (by unfold blankC; rw [c40]; rfl) (by omega)) (by rw [drop_at s p hlt]; exact next_open c40)
          rw [drop_at s p hlt, List.take_succ_cons, List.take_zero, show s[p] = 40 from UInt8.toNat_inj.1 (by rw [c40]; rfl)] at h0
          exact h0)
        clear c40 hR
        go_wp2_with (at_builtin; refine wpList_append_lies _ rfl _ _ 38 rfl w.heap.size 44 i0 _ 3 32 (by kernel_rfl) HI.out.1 HI.out.2.1 HI.out.2.2.1 HI.out.2.2.2 rfl (by decide) _ ts.length (cells3 ts) rfl (toks_later hT.out ((Below.refl _ _).alloc (Nat.le_refl _) _)) _ 1 1 (cells3 [⟨1, [40], p⟩]) rfl rfl ?news ?one (by decide) ?max ?bytes ?base _ rfl ?next)
        case news => first | exact news_tok _ _ _ | (intro j u h; exact h)
        case one => intro v hv; simp [cells3] at hv; rcases hv with rfl | rfl | rfl <;> rfl
        case max => unfold maxLen; omega
        case bytes => omega
        case base => first | (simp; omega) | omega
        case next =>
          intro g cap3 w3 hown hgrow hat _
          have HT2 := Lib.hid (toks_step hown)
          have HB2 := Lib.hid ((HB.out.alloc hB2 _).grown hgrow (by first | (simp; omega) | omega) (toks_above hT.out))
          clear hown hgrow hat
          go_wp2_with fail
          go_roundw
          case rel => exact ⟨p + 1, ts ++ [⟨1, [40], p⟩], by omega, by simp; omega, by go_num, HN, HT2, HB2.out⟩
          case measure => simp [intOf]; omega
      have b40 : ((s[p].toNat : Int) == 40) = false := (u8_eq (n := 40)).trans (beq_eq_false_iff_ne.2 c40)
      by_cases c41 : s[p].toNat = 41
      · have b41 : ((s[p].toNat : Int) == 41) = true := (u8_eq (n := 41)).trans (by rw [c41]; rfl)
        have HN := Lib.hid (show lexTo (ts ++ [⟨2, [41], p⟩]) (lexL s.data.toList (p + 1)) = R by
          have h0 := lx_tok hR.out hlt (lx_skip hlt (by unfold blankC; rw [c41]; rfl) (by omega)) (by rw [drop_at s p hlt]; exact next_close c41)
          rw [drop_at s p hlt, List.take_succ_cons, List.take_zero, show s[p] = 41 from UInt8.toNat_inj.1 (by rw [c41]; rfl)] at h0
          exact h0)
        clear c41 hR
        go_wp2_with (at_builtin; refine wpList_append_lies _ rfl _ _ 38 rfl w.heap.size 44 i0 _ 3 32 (by kernel_rfl) HI.out.1 HI.out.2.1 HI.out.2.2.1 HI.out.2.2.2 rfl (by decide) _ ts.length (cells3 ts) rfl (toks_later hT.out ((Below.refl _ _).alloc (Nat.le_refl _) _)) _ 1 1 (cells3 [⟨2, [41], p⟩]) rfl rfl ?news ?one (by decide) ?max ?bytes ?base _ rfl ?next)
        case news => first | exact news_tok _ _ _ | (intro j u h; exact h)
        case one => intro v hv; simp [cells3] at hv; rcases hv with rfl | rfl | rfl <;> rfl
        case max => unfold maxLen; omega
        case bytes => omega
        case base => first | (simp; omega) | omega
        case next =>
          intro g cap3 w3 hown hgrow hat _
          have HT2 := Lib.hid (toks_step hown)
          have HB2 := Lib.hid ((HB.out.alloc hB2 _).grown hgrow (by first | (simp; omega) | omega) (toks_above hT.out))
          clear hown hgrow hat
          go_wp2_with fail
          go_roundw
          case rel => exact ⟨p + 1, ts ++ [⟨2, [41], p⟩], by omega, by simp; omega, by go_num, HN, HT2, HB2.out⟩
          case measure => simp [intOf]; omega
      have b41 : ((s[p].toNat : Int) == 41) = false := (u8_eq (n := 41)).trans (beq_eq_false_iff_ne.2 c41)
      have HLC := Lib.hid (HPL.out s[p])
      cases cl : letterC s[p] with
      | true =>
        rw [cl] at HLC
        obtain ⟨n, hn⟩ : ∃ n, runL wordC (s.data.toList.drop p) = n := ⟨_, rfl⟩
        have hle := runL_at wordC s p hp
        rw [hn] at hle
        have hn1 : 1 ≤ n := by rw [← hn, drop_at s p hlt, runL_yes (by unfold wordC; rw [cl]; rfl)]; omega
        obtain ⟨E, hE⟩ : ∃ E, p + n = E := ⟨_, rfl⟩
        obtain ⟨c, hc⟩ : ∃ c, (s.data.toList.drop p).take n = c := ⟨_, rfl⟩
        have HE := Lib.hid (show p + runL wordC (s.data.toList.drop p) = E by rw [hn]; exact hE)
        have hsub : IntKind.i64.wrap ((E : Int) - (p : Int)) = (n : Int) := by rw [← hE, show ((p + n : Nat) : Int) - (p : Int) = n by omega]; exact IntWalk.i64_in _ (by omega)
        have hsli : ∀ w', (Instr.slice 9 (.string s) (some (.int .i64 (p : Int))) (some (.int .i64 (E : Int))) none).run Try.prog w' = .ok (.string ⟨c.toArray⟩) w' := fun w' => by
          rw [slice_two w' s p E rfl (by omega) (by omega), Lib.extract_eq, ← hE, Nat.add_sub_cancel_left, hc]
        have HLONG := Lib.hid (show 20 < n → R = (ts, some p) from fun h => lx_bad hR.out hlt HSKP.out (by rw [drop_at s p hlt]; exact next_long c40 c41 cl (by rw [← drop_at s p hlt, hn]; exact h)))
        have HSHORT := Lib.hid (show ¬ 20 < n → lexTo (ts ++ [⟨3, c, p⟩]) (lexL s.data.toList E) = R from fun h => by
          have h0 := lx_tok hR.out hlt HSKP.out (k := 3) (n := n) (by rw [drop_at s p hlt, next_word c40 c41 cl (by rw [← drop_at s p hlt, hn]; exact h), ← drop_at s p hlt, hn])
          rw [hc, hE] at h0; exact h0)
        have hpE : p < E := by omega
        have hEs : E ≤ s.size := by omega
        clear hE hc hn hR c40 c41 cl hle
        go_wp2_with fail
        refine (HLC.out _).mono ?_
        rintro e w1 ⟨rfl, rfl⟩
        go_wp2_with fail
        go_loop [7] (fun i => ∃ k : Nat, k ≤ s.size ∧ i = .int .i64 k ∧ Hid (k + runL wordC (s.data.toList.drop k) = E)) (fun i => s.size - (intOf i).toNat)
        case atStart => exact ⟨p, hp, rfl, HE.out⟩
        case round =>
          obtain ⟨k, hk, rfl, hq⟩ := hrel
          by_cases hk2 : k < s.size
          · have hd := hq.out
            rw [drop_at s k hk2] at hd
            have HKL := Lib.hid (HPL.out s[k])
            have HKD := Lib.hid (HPD.out s[k])
            cases d1 : letterC s[k] with
            | true =>
              rw [d1] at HKL
              rw [runL_yes (by unfold wordC; rw [d1]; rfl)] at hd
              have HQ := Lib.hid (show k + 1 + runL wordC (s.data.toList.drop (k + 1)) = E by omega)
              clear hd hq d1 hsub hsli
              go_wp2_with fail
              refine (HKL.out _).mono ?_
              rintro e w1 ⟨rfl, rfl⟩
              go_wp2_with fail
              go_round
              case rel => exact ⟨k + 1, hk2, by go_num, HQ.out⟩
              case measure => simp [intOf]; omega
            | false =>
              rw [d1] at HKL
              cases d2 : isd s[k] with
              | true =>
                rw [d2] at HKD
                rw [runL_yes (by unfold wordC; rw [d1, d2]; rfl)] at hd
                have HQ := Lib.hid (show k + 1 + runL wordC (s.data.toList.drop (k + 1)) = E by omega)
                clear hd hq d1 d2 hsub hsli
                go_wp2_with fail
                refine (HKL.out _).mono ?_
                rintro e w1 ⟨rfl, rfl⟩
                go_wp2_with fail
                refine (HKD.out _).mono ?_
                rintro e w1 ⟨rfl, rfl⟩
                go_wp2_with fail
                go_round
                case rel => exact ⟨k + 1, hk2, by go_num, HQ.out⟩
                case measure => simp [intOf]; omega
              | false =>
                rw [d2] at HKD
                rw [runL_no (by unfold wordC; rw [d1, d2]; rfl)] at hd
                obtain rfl : k = E := by omega
                clear hd hq d1 d2 HE
                go_wp2_with fail
                refine (HKL.out _).mono ?_
                rintro e w1 ⟨rfl, rfl⟩
                go_wp2_with fail
                refine (HKD.out _).mono ?_
                rintro e w1 ⟨rfl, rfl⟩
                by_cases h20 : 20 < n
                · have h20' : 20 < (n : Int) := by omega
                  have HF := Lib.hid (HLONG.out h20)
                  go_wp2
                  go_ret2
                  exact ⟨HB.out, by rw [HF.out]; exact ⟨_, hT.out, rfl⟩⟩
                · have h20' : ¬ 20 < (n : Int) := by omega
                  have HF := Lib.hid (HSHORT.out h20)
                  go_wp2_with (at_builtin; refine wpList_append_lies _ rfl _ _ 38 rfl w.heap.size 44 i0 _ 3 32 (by kernel_rfl) HI.out.1 HI.out.2.1 HI.out.2.2.1 HI.out.2.2.2 rfl (by decide) _ ts.length (cells3 ts) rfl (toks_later hT.out ((Below.refl _ _).alloc (Nat.le_refl _) _)) _ 1 1 (cells3 [⟨3, c, p⟩]) rfl rfl ?news ?one (by decide) ?max ?bytes ?base _ rfl ?next)
                  case news => first | exact news_tok _ _ _ | (intro j u h; exact h)
                  case one => intro v hv; simp [cells3] at hv; rcases hv with rfl | rfl | rfl <;> rfl
                  case max => unfold maxLen; omega
                  case bytes => omega
                  case base => first | (simp; omega) | omega
                  case next =>
                    intro g cap3 w3 hown hgrow hat _
                    have HT2 := Lib.hid (toks_step hown)
                    have HB2 := Lib.hid ((HB.out.alloc hB2 _).grown hgrow (by first | (simp; omega) | omega) (toks_above hT.out))
                    clear hown hgrow hat
                    go_wp2_with fail
                    go_roundw
                    case rel => exact ⟨k, ts ++ [⟨3, c, p⟩], by omega, by simp; omega, rfl, HF, HT2, HB2.out⟩
                    case measure => simp [intOf]; omega
          · have hd := hq.out
            rw [List.drop_of_length_le (by rw [HSL.out]; omega)] at hd
            obtain rfl : k = E := by simpa [runL] using hd
            clear hd hq HE
            by_cases h20 : 20 < n
            · have h20' : 20 < (n : Int) := by omega
              have HF := Lib.hid (HLONG.out h20)
              go_wp2
              go_ret2
              exact ⟨HB.out, by rw [HF.out]; exact ⟨_, hT.out, rfl⟩⟩
            · have h20' : ¬ 20 < (n : Int) := by omega
              have HF := Lib.hid (HSHORT.out h20)
              go_wp2_with (at_builtin; refine wpList_append_lies _ rfl _ _ 38 rfl w.heap.size 44 i0 _ 3 32 (by kernel_rfl) HI.out.1 HI.out.2.1 HI.out.2.2.1 HI.out.2.2.2 rfl (by decide) _ ts.length (cells3 ts) rfl (toks_later hT.out ((Below.refl _ _).alloc (Nat.le_refl _) _)) _ 1 1 (cells3 [⟨3, c, p⟩]) rfl rfl ?news ?one (by decide) ?max ?bytes ?base _ rfl ?next)
              case news => first | exact news_tok _ _ _ | (intro j u h; exact h)
              case one => intro v hv; simp [cells3] at hv; rcases hv with rfl | rfl | rfl <;> rfl
              case max => unfold maxLen; omega
              case bytes => omega
              case base => first | (simp; omega) | omega
              case next =>
                intro g cap3 w3 hown hgrow hat _
                have HT2 := Lib.hid (toks_step hown)
                have HB2 := Lib.hid ((HB.out.alloc hB2 _).grown hgrow (by first | (simp; omega) | omega) (toks_above hT.out))
                clear hown hgrow hat
                go_wp2_with fail
                go_roundw
                case rel => exact ⟨k, ts ++ [⟨3, c, p⟩], by omega, by simp; omega, rfl, HF, HT2, HB2.out⟩
                case measure => simp [intOf]; omega
      | false =>
        rw [cl] at HLC
        have HDC := Lib.hid (HPD.out s[p])
        cases cd : isd s[p] with
        | true =>
          rw [cd] at HDC
          obtain ⟨n, hn⟩ : ∃ n, runL isd (s.data.toList.drop p) = n := ⟨_, rfl⟩
          have hle := runL_at isd s p hp
          rw [hn] at hle
          have hn1 : 1 ≤ n := by rw [← hn, drop_at s p hlt, runL_yes cd]; omega
          obtain ⟨E, hE⟩ : ∃ E, p + n = E := ⟨_, rfl⟩
          obtain ⟨c, hc⟩ : ∃ c, (s.data.toList.drop p).take n = c := ⟨_, rfl⟩
          have HE := Lib.hid (show p + runL isd (s.data.toList.drop p) = E by rw [hn]; exact hE)
          have hsli : ∀ w', (Instr.slice 9 (.string s) (some (.int .i64 (p : Int))) (some (.int .i64 (E : Int))) none).run Try.prog w' = .ok (.string ⟨c.toArray⟩) w' := fun w' => by
            rw [slice_two w' s p E rfl (by omega) (by omega), Lib.extract_eq, ← hE, Nat.add_sub_cancel_left, hc]
          have hcl : c.length ≤ s.size := by rw [← hc, List.length_take, List.length_drop, HSL.out]; omega
          have HG := Lib.hid (fun w => HGET.out ⟨c.toArray⟩ w (by show c.toArray.size ≤ maxLen; unfold maxLen; simp; omega))
          rw [show (ByteArray.mk c.toArray).data.toList = c from rfl] at HG
          have HBAD := Lib.hid (show (getB c = none ∨ (((s.data.toList.drop E).head?.map letterC).getD false) = true) → R = (ts, some p) from fun h => lx_bad hR.out hlt HSKP.out (by
            rw [drop_at s p hlt]; exact next_bad c40 c41 cl cd (by rw [← drop_at s p hlt, hn, hc, List.drop_drop, hE]; exact h)))
          have HGOOD := Lib.hid (show getB c ≠ none → (((s.data.toList.drop E).head?.map letterC).getD false) = false → lexTo (ts ++ [⟨4, c, p⟩]) (lexL s.data.toList E) = R from fun h h' => by
            have h0 := lx_tok hR.out hlt HSKP.out (k := 4) (n := n) (by
              rw [drop_at s p hlt, next_num c40 c41 cl cd (by rw [← drop_at s p hlt, hn, hc, List.drop_drop, hE]; rintro (h1 | h1); exact h h1; rw [h'] at h1; cases h1), ← drop_at s p hlt, hn])
            rw [hc, hE] at h0; exact h0)
          have hpE : p < E := by omega
          have hEs : E ≤ s.size := by omega
          clear hE hc hn hR c40 c41 cl cd hle hcl
          go_wp2_with fail
          refine (HLC.out _).mono ?_
          rintro e w1 ⟨rfl, rfl⟩
          go_wp2_with fail
          refine (HDC.out _).mono ?_
          rintro e w1 ⟨rfl, rfl⟩
          go_wp2_with fail
          go_loop [7] (fun i => ∃ k : Nat, k ≤ s.size ∧ i = .int .i64 k ∧ Hid (k + runL isd (s.data.toList.drop k) = E)) (fun i => s.size - (intOf i).toNat)
          case atStart => exact ⟨p, hp, rfl, HE.out⟩
          case round =>
            obtain ⟨k, hk, rfl, hq⟩ := hrel
            by_cases hk2 : k < s.size
            · have hd := hq.out
              rw [drop_at s k hk2] at hd
              have HKD := Lib.hid (HPD.out s[k])
              cases d2 : isd s[k] with
              | true =>
                rw [d2] at HKD
                rw [runL_yes d2] at hd
                have HQ := Lib.hid (show k + 1 + runL isd (s.data.toList.drop (k + 1)) = E by omega)
                clear hd hq d2 hsli
                go_wp2_with fail
                refine (HKD.out _).mono ?_
                rintro e w1 ⟨rfl, rfl⟩
                go_wp2_with fail
                go_round
                case rel => exact ⟨k + 1, hk2, by go_num, HQ.out⟩
                case measure => simp [intOf]; omega
              | false =>
                rw [d2] at HKD
                rw [runL_no d2] at hd
                obtain rfl : k = E := by omega
                clear hd hq d2 HE
                go_wp2_with fail
                refine (HKD.out _).mono ?_
                rintro e w1 ⟨rfl, rfl⟩
                cases hg : getB c with
                | none =>
                  have HF := Lib.hid (HBAD.out (Or.inl hg))
                  rw [getV_none hg] at HG
                  clear hg
                  go_wp2_with fail
                  refine (HG.out _).mono ?_
                  rintro e w1 ⟨rfl, rfl⟩
                  go_wp2
                  go_ret2
                  exact ⟨HB.out, by rw [HF.out]; exact ⟨_, hT.out, rfl⟩⟩
                | some v =>
                  rw [getV_some hg] at HG
                  have HKL := Lib.hid (HPL.out s[k])
                  cases d1 : letterC s[k] with
                  | true =>
                    rw [d1] at HKL
                    have HF := Lib.hid (HBAD.out (Or.inr (by rw [drop_at s k hk2]; exact d1)))
                    clear hg d1
                    go_wp2_with fail
                    refine (HG.out _).mono ?_
                    rintro e w1 ⟨rfl, rfl⟩
                    go_wp2_with fail
                    refine (HKL.out _).mono ?_
                    rintro e w1 ⟨rfl, rfl⟩
                    go_wp2
                    go_ret2
                    exact ⟨HB.out, by rw [HF.out]; exact ⟨_, hT.out, rfl⟩⟩
                  | false =>
                    rw [d1] at HKL
                    have HF := Lib.hid (HGOOD.out (by rw [hg]; simp) (by rw [drop_at s k hk2]; exact d1))
                    clear hg d1
                    go_wp2_with fail
                    refine (HG.out _).mono ?_
                    rintro e w1 ⟨rfl, rfl⟩
                    go_wp2_with fail
                    refine (HKL.out _).mono ?_
                    rintro e w1 ⟨rfl, rfl⟩
                    go_wp2_with (at_builtin; refine wpList_append_lies _ rfl _ _ 38 rfl w.heap.size 44 i0 _ 3 32 (by kernel_rfl) HI.out.1 HI.out.2.1 HI.out.2.2.1 HI.out.2.2.2 rfl (by decide) _ ts.length (cells3 ts) rfl (toks_later hT.out ((Below.refl _ _).alloc (Nat.le_refl _) _)) _ 1 1 (cells3 [⟨4, c, p⟩]) rfl rfl ?news ?one (by decide) ?max ?bytes ?base _ rfl ?next)
                    case news => first | exact news_tok _ _ _ | (intro j u h; exact h)
                    case one => intro v hv; simp [cells3] at hv; rcases hv with rfl | rfl | rfl <;> rfl
                    case max => unfold maxLen; omega
                    case bytes => omega
                    case base => first | (simp; omega) | omega
                    case next =>
                      intro g cap3 w3 hown hgrow hat _
                      have HT2 := Lib.hid (toks_step hown)
                      have HB2 := Lib.hid ((HB.out.alloc hB2 _).grown hgrow (by first | (simp; omega) | omega) (toks_above hT.out))
                      clear hown hgrow hat
                      go_wp2_with fail
                      go_roundw
                      case rel => exact ⟨k, ts ++ [⟨4, c, p⟩], by omega, by simp; omega, rfl, HF, HT2, HB2.out⟩
                      case measure => simp [intOf]; omega
            · have hd := hq.out
              rw [List.drop_of_length_le (by rw [HSL.out]; omega)] at hd
              obtain rfl : k = E := by simpa [runL] using hd
              clear hd hq HE
              cases hg : getB c with
              | none =>
                have HF := Lib.hid (HBAD.out (Or.inl hg))
                rw [getV_none hg] at HG
                clear hg
                go_wp2_with fail
                refine (HG.out _).mono ?_
                rintro e w1 ⟨rfl, rfl⟩
                go_wp2
                go_ret2
                exact ⟨HB.out, by rw [HF.out]; exact ⟨_, hT.out, rfl⟩⟩
              | some v =>
                rw [getV_some hg] at HG
                have HF := Lib.hid (HGOOD.out (by rw [hg]; simp) (by rw [List.drop_of_length_le (by rw [HSL.out]; omega)]; rfl))
                clear hg
                go_wp2_with fail
                refine (HG.out _).mono ?_
                rintro e w1 ⟨rfl, rfl⟩
                go_wp2_with (at_builtin; refine wpList_append_lies _ rfl _ _ 38 rfl w.heap.size 44 i0 _ 3 32 (by kernel_rfl) HI.out.1 HI.out.2.1 HI.out.2.2.1 HI.out.2.2.2 rfl (by decide) _ ts.length (cells3 ts) rfl (toks_later hT.out ((Below.refl _ _).alloc (Nat.le_refl _) _)) _ 1 1 (cells3 [⟨4, c, p⟩]) rfl rfl ?news ?one (by decide) ?max ?bytes ?base _ rfl ?next)
                case news => first | exact news_tok _ _ _ | (intro j u h; exact h)
                case one => intro v hv; simp [cells3] at hv; rcases hv with rfl | rfl | rfl <;> rfl
                case max => unfold maxLen; omega
                case bytes => omega
                case base => first | (simp; omega) | omega
                case next =>
                  intro g cap3 w3 hown hgrow hat _
                  have HT2 := Lib.hid (toks_step hown)
                  have HB2 := Lib.hid ((HB.out.alloc hB2 _).grown hgrow (by first | (simp; omega) | omega) (toks_above hT.out))
                  clear hown hgrow hat
                  go_wp2_with fail
                  go_roundw
                  case rel => exact ⟨k, ts ++ [⟨4, c, p⟩], by omega, by simp; omega, rfl, HF, HT2, HB2.out⟩
                  case measure => simp [intOf]; omega
        | false =>
          rw [cd] at HDC
          have HF := Lib.hid (lx_bad hR.out hlt HSKP.out (by rw [drop_at s p hlt]; exact next_other c40 c41 cl cd))
          clear hR c40 c41 cl cd
          go_wp2_with fail
          refine (HLC.out _).mono ?_
          rintro e w1 ⟨rfl, rfl⟩
          go_wp2_with fail
          refine (HDC.out _).mono ?_
          rintro e w1 ⟨rfl, rfl⟩
          go_wp2
          go_ret2
          exact ⟨HB.out, by rw [HF.out]; exact ⟨_, hT.out, rfl⟩⟩
    · have : p = s.size := by omega
      have hf := lexL_end (l := s.data.toList) (p := p) (by rw [HSL.out]; omega)
      have HF := Lib.hid (show R = (ts, none) by rw [← hR.out, hf]; simp [lexTo])
      clear hf hR
      subst this
      go_wp2
      go_ret2
      exact ⟨HB.out, by rw [HF.out]; exact ⟨_, hT.out, rfl⟩⟩
end Go.Proofs.Ytdhfbphliejcdaa

namespace Go.Proofs.Ytdhfbphliejcdaa.Dv
open Go.RowKit

/-- The page's tokens behind a slice. -/
def PTok (w : World) (L : List Tok) (v : Value) : Prop := ∃ a cap, v = .slice a L.length cap ∧ L.length ≤ cap ∧ cap ≤ maxLen ∧ (L = [] ∨ ∃ g cs fz, a = some ⟨g, 0, none⟩ ∧ w.heap[g]? = some (Obj.cells cs 44 fz) ∧ cs.toList.take (L.length * 3) = cells3 L)
theorem PTok.keep {w w' : World} {ts : List Tok} {v : Value} (h : PTok w ts v) (hk : ∀ (g : Nat) (cs : Array Value) (fz : Nat × Nat), w.heap[g]? = some (Obj.cells cs 44 fz) → w'.heap[g]? = some (Obj.cells cs 44 fz)) : PTok w' ts v := by
  obtain ⟨a, cap, hv, h1, h2, h3⟩ := h
  refine ⟨a, cap, hv, h1, h2, ?_⟩
  rcases h3 with h3 | ⟨g, cs, fz, h4, h5, h6⟩
  · exact Or.inl h3
  · exact Or.inr ⟨g, cs, fz, h4, hk _ _ _ h5, h6⟩
theorem PTok.cell {w : World} {L : List Tok} {v : Value} (h : PTok w L v) : ∃ a cap, v = .slice a L.length cap ∧ ∀ p t, L[p]? = some t → ∃ g, a = some ⟨g, 0, none⟩ ∧ w.cell? ⟨g, p * 3, none⟩ = some (.int .i64 t.k) ∧ w.cell? ⟨g, p * 3 + 1, none⟩ = some (.string ⟨t.s.toArray⟩) ∧ w.cell? ⟨g, p * 3 + 2, none⟩ = some (.int .i64 t.at_) := by
  obtain ⟨a, cap, hv, h1, h2, h3⟩ := h
  refine ⟨a, cap, hv, fun p t ht => ?_⟩
  obtain ⟨hp, rfl⟩ := List.getElem?_eq_some_iff.1 ht
  rcases h3 with rfl | ⟨g, cs, fz, h4, h5, h6⟩
  · simp at hp
  · refine ⟨g, h4, ?_, ?_, ?_⟩
    · have hc := cells3_get L p hp 0 (by decide)
      rw [← h6, List.getElem?_take, if_pos (by omega)] at hc
      rw [Lib.cell_of_heap h5]; simpa using hc
    · have hc := cells3_get L p hp 1 (by decide)
      rw [← h6, List.getElem?_take, if_pos (by omega)] at hc
      rw [Lib.cell_of_heap h5]; simpa using hc
    · have hc := cells3_get L p hp 2 (by decide)
      rw [← h6, List.getElem?_take, if_pos (by omega)] at hc
      rw [Lib.cell_of_heap h5]; simpa using hc
/-- The block of the page's Reader. -/
def rrO (v : Value) (p : Nat) (bad : Int) (i j : Int) (nv : Value) : Obj := .cells #[v, .int .i64 p, .int .i64 bad, .int .i64 i, .int .i64 j, nv] 62 (0, 0)
theorem rr_cells {w : World} {R p : Nat} {v nv : Value} {bad i j : Int} (h : w.heap[R]? = some (rrO v p bad i j nv)) : w.cell? ⟨R, 0, none⟩ = some v ∧ w.cell? ⟨R, 1, none⟩ = some (.int .i64 p) ∧ w.cell? ⟨R, 2, none⟩ = some (.int .i64 bad) := by
  unfold rrO at h
  exact ⟨by rw [Lib.cell_of_heap h]; rfl, by rw [Lib.cell_of_heap h]; rfl, by rw [Lib.cell_of_heap h]; rfl⟩
def DrewOf (w w' : World) : Prop := ∃ k, w' = w.drewN k
theorem drewN_heap (w : World) : ∀ k, (w.drewN k).heap = w.heap
  | 0 => rfl
  | k + 1 => drewN_heap w k
theorem drewN_cell (w : World) (k : Nat) (a : Addr) : (w.drewN k).cell? a = w.cell? a := by
  induction k with
  | zero => rfl
  | succ k ih => exact ih
theorem drewN_two (w : World) (k m : Nat) : DrewOf w ((w.drewN k).drewN m) := by
  induction m with
  | zero => exact ⟨k, rfl⟩
  | succ m ih => obtain ⟨q, hq⟩ := ih; exact ⟨q + 1, by show ((w.drewN k).drewN m).drew = (w.drewN q).drew; rw [hq]⟩
set_option maxRecDepth 20000 in
theorem rkind_any (R p : Nat) (v nv : Value) (bad i j : Int) (L : List Tok) (w : World) (hR : w.heap[R]? = some (rrO v p bad i j nv)) (hL : PTok w L v) : Calls Try.prog 24 #[.pointer (some ⟨R, 0, none⟩)] w fun e w' => e = .returned (.int .i64 (kindAt L p : Nat)) ∧ DrewOf w w' := by
  obtain ⟨a, cap, rfl, hc⟩ := hL.cell
  obtain ⟨c0, c1, c2⟩ := rr_cells hR
  have HLN := Lib.hid (show L.length ≤ maxLen by obtain ⟨a', cap', e, h1, h2, -⟩ := hL; omega)
  clear hR hL
  by_cases hlt : p < L.length
  · obtain ⟨g, rfl, k0, -, -⟩ := hc p L[p] (List.getElem?_eq_getElem hlt)
    have hk : kindAt L p = L[p].k := by simp [kindAt, List.getElem?_eq_getElem hlt]
    rw [hk]
    generalize L[p].k = kk at k0
    clear hc hk
    go_enter Try.func24, Try.ntmps24
    go_wp2_with fail
    go_quiet (fail)
    have d0 := (drewN_cell w nq _).trans c0
    have d1 := (drewN_cell w nq _).trans c1
    have m0 := (drewN_cell w nq _).trans k0
    have HD := Lib.hid (drewN_two w nq)
    generalize w.drewN nq = W at d0 d1 m0 HD
    clear c0 c1 c2 k0
    go_wp2_with fail
    go_quiet (fail)
    go_wp2
    go_ret
    exact ⟨rfl, HD.out _⟩
  · have hk : kindAt L p = 0 := by simp [kindAt, List.getElem?_eq_none (by omega : L.length ≤ p)]
    rw [hk]
    clear hc hk
    go_enter Try.func24, Try.ntmps24
    go_wp2_with fail
    go_quiet (fail)
    have HD := Lib.hid (show DrewOf w (w.drewN nq) from ⟨nq, rfl⟩)
    generalize w.drewN nq = W at HD
    go_wp2
    go_ret
    exact ⟨rfl, HD.out⟩
set_option maxRecDepth 20000 in
theorem rword_any (R p : Nat) (v nv : Value) (bad i j : Int) (L : List Tok) (w : World) (hR : w.heap[R]? = some (rrO v p bad i j nv)) (hL : PTok w L v) : Calls Try.prog 25 #[.pointer (some ⟨R, 0, none⟩)] w fun e w' => e = .returned (.string ⟨(wordAt L p).toArray⟩) ∧ DrewOf w w' := by
  obtain ⟨a, cap, rfl, hc⟩ := hL.cell
  obtain ⟨c0, c1, c2⟩ := rr_cells hR
  have HLN := Lib.hid (show L.length ≤ maxLen by obtain ⟨a', cap', e, h1, h2, -⟩ := hL; omega)
  clear hR hL
  by_cases hlt : p < L.length
  · obtain ⟨g, rfl, -, k0, -⟩ := hc p L[p] (List.getElem?_eq_getElem hlt)
    have hk : wordAt L p = L[p].s := by simp [wordAt, List.getElem?_eq_getElem hlt]
    rw [hk]
    generalize (⟨(L[p].s).toArray⟩ : ByteArray) = kk at k0
    clear hc hk
    go_enter Try.func25, Try.ntmps25
    go_wp2_with fail
    go_quiet (fail)
    have d0 := (drewN_cell w nq _).trans c0
    have d1 := (drewN_cell w nq _).trans c1
    have m0 := (drewN_cell w nq _).trans k0
    have HD := Lib.hid (drewN_two w nq)
    generalize w.drewN nq = W at d0 d1 m0 HD
    clear c0 c1 c2 k0
    go_wp2_with fail
    go_quiet (fail)
    go_wp2
    go_ret
    exact ⟨rfl, HD.out _⟩
  · have hk : wordAt L p = [] := by simp [wordAt, List.getElem?_eq_none (by omega : L.length ≤ p)]
    rw [hk]
    clear hc hk
    go_enter Try.func25, Try.ntmps25
    go_wp2_with fail
    go_quiet (fail)
    have HD := Lib.hid (show DrewOf w (w.drewN nq) from ⟨nq, rfl⟩)
    generalize w.drewN nq = W at HD
    go_wp2
    go_ret
    exact ⟨rfl, HD.out⟩
/-- The token at fault, as an int. -/
def badV : Option Nat → Int
  | none => -1
  | some b => b
def rrX (v : Value) (s : XS) (i j : Int) (nv : Value) : Obj := rrO v s.p (badV s.bad) i j nv
theorem rr_set {w : World} {R p : Nat} {v nv : Value} {bad i j : Int} (h : w.heap[R]? = some (rrO v p bad i j nv)) (b : Int) : (w.setCell ⟨R, 2, none⟩ (.int .i64 b)).heap[R]? = some (rrO v p b i j nv) := heap_setCell_same w R 2 _ _ _ h
theorem rr_setp {w : World} {R p : Nat} {v nv : Value} {bad i j : Int} (h : w.heap[R]? = some (rrO v p bad i j nv)) (q : Nat) : (w.setCell ⟨R, 1, none⟩ (.int .i64 q)).heap[R]? = some (rrO v q bad i j nv) := heap_setCell_same w R 1 _ _ _ h
set_option maxRecDepth 20000 in
theorem rfail_any (R : Nat) (v nv : Value) (s : XS) (i j : Int) (w : World) (hR : w.heap[R]? = some (rrX v s i j nv)) : Calls Try.prog 26 #[.pointer (some ⟨R, 0, none⟩), .int .i64 s.p] w fun e w' => e = .returned (.tuple #[]) ∧ w.grownBy w' (some R) ∧ w'.heap[R]? = some (rrX v s.fail i j nv) := by
  obtain ⟨c0, c1, c2⟩ := rr_cells hR
  have hf : w.frozen? ⟨R, 2, none⟩ = false := by
    unfold rrX rrO at hR
    unfold World.frozen?
    rw [hR]
    rfl
  have HG := Lib.hid (grown_at (S := R) (⟨rfl, rfl, rfl, Nat.le_refl _, fun _ _ _ => rfl⟩ : w.grownBy w none) 2 (.int .i64 (s.p : Nat)))
  have HR := Lib.hid hR
  have HG0 := Lib.hid (show w.grownBy w (some R) from ⟨rfl, rfl, rfl, Nat.le_refl _, fun _ _ _ => rfl⟩)
  clear hR
  cases hb : s.bad with
  | none =>
    have hq := rr_set (HR.out) (s.p : Nat)
    have HQ := Lib.hid (show (w.setCell ⟨R, 2, none⟩ (.int .i64 (s.p : Nat))).heap[R]? = some (rrX v s.fail i j nv) by
      rw [hq]; unfold rrX XS.fail; rw [hb]; rfl)
    rw [hb] at c2
    unfold badV at c2
    clear hq
    go_enter Try.func26, Try.ntmps26
    go_wp2
    exact bodyPost_end (results_none rfl _ _ _) rfl ⟨rfl, HG.out, HQ.out⟩
  | some b =>
    have HQ := Lib.hid (show w.heap[R]? = some (rrX v s.fail i j nv) by
      rw [HR.out]; unfold rrX XS.fail; rw [hb]; simp [hb])
    rw [hb] at c2
    unfold badV at c2
    have h0 : (0 : Int) ≤ (b : Int) := by omega
    go_enter Try.func26, Try.ntmps26
    go_wp2
    exact bodyPost_end (results_none rfl _ _ _) rfl ⟨rfl, HG0.out, HQ.out⟩
theorem drewN_row (w : World) (k : Nat) (row : Option Nat) : w.grownBy (w.drewN k) row := by
  have h := drewN_grown w k
  exact ⟨h.os, h.tape, h.output, h.size, fun b hb _ => by rw [drewN_heap]⟩
theorem PTok.heap {w w' : World} {L : List Tok} {v : Value} (h : PTok w L v) (e : w'.heap = w.heap) : PTok w' L v := h.keep fun g cs fz h2 => by rw [e]; exact h2
theorem PTok.row {w w' : World} {L : List Tok} {v v0 nv : Value} {R p : Nat} {bad i j : Int} (h : PTok w L v) (hR : w.heap[R]? = some (rrO v0 p bad i j nv)) (hg : w.grownBy w' (some R)) : PTok w' L v :=
  h.keep fun g cs fz e => by
    rw [hg.block g (hltD e) (fun e2 => by
      obtain rfl := Option.some.inj e2
      unfold rrO at hR
      exact absurd (typeD e hR) (by decide))]
    exact e
/-- What Want gives. -/
def WantG (R : Nat) (v nv : Value) (i j : Int) (w : World) (x : List UInt8 × XS) (e : Ending) (w' : World) : Prop := e = .returned (.string ⟨x.1.toArray⟩) ∧ w.grownBy w' (some R) ∧ w'.heap[R]? = some (rrX v x.2 i j nv)
set_option maxHeartbeats 1000000 in
set_option maxRecDepth 20000 in
theorem rwant_any (R k : Nat) (v nv : Value) (s : XS) (i j : Int) (L : List Tok) (w : World) (hR : w.heap[R]? = some (rrX v s i j nv)) (hL : PTok w L v) (hp : s.p ≤ 1000000000) : Calls Try.prog 22 #[.pointer (some ⟨R, 0, none⟩), .int .i64 k] w (WantG R v nv i j w (wantX L k s)) := by
  obtain ⟨c0, c1, c2⟩ := rr_cells hR
  have HG0 := Lib.hid (show w.grownBy w (some R) from ⟨rfl, rfl, rfl, Nat.le_refl _, fun _ _ _ => rfl⟩)
  have HR := Lib.hid hR
  have HL := Lib.hid hL
  have HK := Lib.hid (rkind_any R s.p v nv (badV s.bad) i j L w hR hL)
  clear hR hL
  cases hb : s.bad with
  | some b =>
    have hx : wantX L k s = ([], s) := want_bad hb
    rw [hb] at c2
    unfold badV at c2
    have h0 : (0 : Int) ≤ (b : Int) := by omega
    rw [hx]
    go_enter Try.func22, Try.ntmps22
    go_wp2
    go_ret
    exact ⟨rfl, HG0.out, HR.out⟩
  | none =>
    rw [hb] at c2
    unfold badV at c2
    by_cases hk : kindAt L s.p = k
    · have hx : wantX L k s = (wordAt L s.p, s.next) := by unfold wantX; rw [hb]; simp only; rw [if_pos hk]
      rw [hx]
      have hkb : ((kindAt L s.p : Nat) : Int) = (k : Int) := by rw [hk]
      go_enter Try.func22, Try.ntmps22
      go_wp2_with fail
      refine HK.out.mono ?_
      rintro e w1 ⟨rfl, q1, rfl⟩
      rw [hkb]
      have HR1 := Lib.hid (show (w.drewN q1).heap[R]? = some (rrX v s i j nv) by rw [drewN_heap]; exact HR.out)
      have HL1 := Lib.hid (HL.out.heap (drewN_heap w q1))
      have HG1 := Lib.hid (drewN_row w q1 (some R))
      generalize w.drewN q1 = W at HR1 HL1 HG1
      clear HK HG0 c0 c1 c2
      go_wp2_with fail
      refine (rword_any R s.p v nv (badV s.bad) i j L W HR1.out HL1.out).mono ?_
      rintro e w2 ⟨rfl, q2, rfl⟩
      have HR2 := Lib.hid (show (W.drewN q2).heap[R]? = some (rrX v s i j nv) by rw [drewN_heap]; exact HR1.out)
      have HG2 := Lib.hid (HG1.out.trans (drewN_row W q2 (some R)))
      generalize W.drewN q2 = U at HR2 HG2
      obtain ⟨c0, c1, c2⟩ := rr_cells HR2.out
      have hf : U.frozen? ⟨R, 1, none⟩ = false := by
        have hR := HR2.out
        unfold rrX rrO at hR
        unfold World.frozen?
        rw [hR]
        rfl
      have HQ := Lib.hid (show (U.setCell ⟨R, 1, none⟩ (.int .i64 ((s.p : Int) + 1))).heap[R]? = some (rrX v s.next i j nv) from rr_setp HR2.out (s.p + 1))
      have HG := Lib.hid (HG2.out.trans (grown_at (S := R) (⟨rfl, rfl, rfl, Nat.le_refl _, fun _ _ _ => rfl⟩ : U.grownBy U none) 1 (.int .i64 ((s.p : Int) + 1))))
      go_wp2
      go_ret
      exact ⟨rfl, HG.out, HQ.out⟩
    · have hx : wantX L k s = ([], s.fail) := by unfold wantX; rw [hb]; simp only; rw [if_neg hk]
      rw [hx]
      have hkb : ¬ ((kindAt L s.p : Nat) : Int) = (k : Int) := by omega
      go_enter Try.func22, Try.ntmps22
      go_wp2_with fail
      refine HK.out.mono ?_
      rintro e w1 ⟨rfl, q1, rfl⟩
      have HR1 := Lib.hid (show (w.drewN q1).heap[R]? = some (rrX v s i j nv) by rw [drewN_heap]; exact HR.out)
      have HG1 := Lib.hid (drewN_row w q1 (some R))
      generalize w.drewN q1 = W at HR1 HG1
      clear HK HG0 HL c0 c1 c2
      obtain ⟨c0, c1, c2⟩ := rr_cells HR1.out
      go_wp2_with fail
      refine (rfail_any R v nv s i j W HR1.out).mono ?_
      rintro e w2 ⟨rfl, hg2, hq2⟩
      have HG := Lib.hid (HG1.out.trans hg2)
      have HQ := Lib.hid hq2
      clear hg2 hq2
      go_wp2
      go_ret
      exact ⟨rfl, HG.out, HQ.out⟩
end Go.Proofs.Ytdhfbphliejcdaa.Dv

namespace Go.Proofs.Ytdhfbphliejcdaa.Dv
open Go.RowKit

/-- The constants of a parsing by the page. -/
structure PX where
  B : Nat
  R : Nat
  P : Nat
  v : Value
  L : List Tok
  deep : Nat
  nodes : Nat
def wordV : Nat → ByteArray
  | 0 => ⟨#[]⟩
  | 1 => ⟨#[100, 101, 101, 112]⟩
  | _ + 2 => ⟨#[110, 111, 100, 101, 115]⟩
def prO (c : PX) (n word : Nat) : Obj := .cells #[.pointer (some ⟨c.R, 0, none⟩), .float .f64 c.deep, .float .f64 c.nodes, .int .i64 n, .string (wordV word)] 65 (0, 0)
structure XSt (c : PX) (s : XS) (w : World) : Prop where
  bR : c.B ≤ c.R
  bP : c.B ≤ c.P
  lo : c.B ≤ w.heap.size
  rd : w.heap[c.R]? = some (rrX c.v s 0 0 (.slice none 0 0))
  par : w.heap[c.P]? = some (prO c s.n s.word)
  tok : PTok w c.L c.v
/-- What stays: all that is older than the parsing, and every block of its own but the reader and the parser. -/
structure Fx (c : PX) (w w' : World) : Prop where
  below : Below c.B w w'
  kept : ∀ (b : Nat) (cs : Array Value) (T : TypeId) (fz : Nat × Nat), w.heap[b]? = some (Obj.cells cs T fz) → T ≠ 62 → T ≠ 65 → w'.heap[b]? = some (Obj.cells cs T fz)
theorem Fx.size {c : PX} {w w' : World} (h : Fx c w w') : w.heap.size ≤ w'.heap.size := h.below.size
theorem Fx.refl (c : PX) (w : World) : Fx c w w := ⟨Below.refl _ _, fun _ _ _ _ h _ _ => h⟩
theorem Fx.trans {c : PX} {w w1 w2 : World} (h : Fx c w w1) (k : Fx c w1 w2) : Fx c w w2 := ⟨h.below.trans k.below, fun b cs T fz e h1 h2 => k.kept b cs T fz (h.kept b cs T fz e h1 h2) h1 h2⟩
theorem Fx.grown {c : PX} {w w' : World} {row : Option Nat} (hg : w.grownBy w' row) (hB : ∀ b, row = some b → c.B ≤ b) (hT : ∀ b, row = some b → ∀ cs T fz, w.heap[b]? = some (Obj.cells cs T fz) → T = 62 ∨ T = 65) (hlo : c.B ≤ w.heap.size) : Fx c w w' := by
  refine ⟨⟨hg.os, hg.tape, hg.output, hg.size, fun k hk => hg.block k (by omega) (fun e => by have := hB k e.symm; omega)⟩, fun b cs T fz e h1 h2 => ?_⟩
  by_cases hb : some b = row
  · rcases hT b hb.symm cs T fz e with h | h
    · exact absurd h h1
    · exact absurd h h2
  · rw [hg.block b (hltD e) hb]; exact e
theorem Fx.later {c : PX} {w w' : World} (hb : Below w.heap.size w w') (hlo : c.B ≤ w.heap.size) : Fx c w w' := ⟨hb.mono hlo, fun b cs T fz e _ _ => by rw [hb.block b (hltD e)]; exact e⟩
theorem Fx.drew {c : PX} {w w' : World} (h : Fx c w w') : Fx c w w'.drew := ⟨h.below.drew, h.kept⟩
theorem Fx.drewN {c : PX} {w w' : World} (h : Fx c w w') : ∀ k, Fx c w (w'.drewN k)
  | 0 => h
  | k + 1 => (Fx.drewN h k).drew
theorem Fx.row {c : PX} {w w1 w2 : World} (h : Fx c w w1) {row : Option Nat} (hg : w1.grownBy w2 row) (hb : ∀ b, row = some b → w.heap.size ≤ b) (hlo : c.B ≤ w.heap.size) : Fx c w w2 := by
  refine ⟨h.below.trans ⟨hg.os, hg.tape, hg.output, hg.size, fun k hk => hg.block k (by have := h.size; omega) (fun e => by have := hb k e.symm; omega)⟩, fun q cs T fz e h1 h2 => ?_⟩
  have e1 := h.kept q cs T fz e h1 h2
  rw [hg.block q (hltD e1) (fun e2 => by have := hltD e; have := hb q e2.symm; omega)]; exact e1
theorem XSt.ne {c : PX} {s : XS} {w : World} (h : XSt c s w) : c.P ≠ c.R := fun e => by
  have h1 := h.rd
  have h2 := h.par
  rw [e] at h2
  unfold rrX rrO at h1
  unfold prO at h2
  exact absurd (typeD h1 h2) (by decide)
theorem XSt.later {c : PX} {s : XS} {w w' : World} (h : XSt c s w) (hb : Below w.heap.size w w') : XSt c s w' :=
  ⟨h.bR, h.bP, Nat.le_trans h.lo hb.size, by rw [hb.block _ (hltD h.rd)]; exact h.rd, by rw [hb.block _ (hltD h.par)]; exact h.par, h.tok.keep fun g cs fz e => by rw [hb.block _ (hltD e)]; exact e⟩
theorem XSt.drew {c : PX} {s : XS} {w : World} (h : XSt c s w) : XSt c s w.drew := h.later (Below.refl _ _).drew
theorem XSt.drewN {c : PX} {s : XS} {w : World} (h : XSt c s w) (k : Nat) : XSt c s (w.drewN k) :=
  ⟨h.bR, h.bP, by rw [drewN_heap]; exact h.lo, by rw [drewN_heap]; exact h.rd, by rw [drewN_heap]; exact h.par, h.tok.heap (drewN_heap w k)⟩
theorem XSt.alloc {c : PX} {s : XS} {w : World} (h : XSt c s w) (o : Obj) : XSt c s (w.alloc o) := h.later ((Below.refl _ _).alloc (Nat.le_refl _) o)
/-- A step that writes a block of derivations. -/
theorem XSt.other {c : PX} {s : XS} {w w' : World} (h : XSt c s w) {row : Option Nat} (hg : w.grownBy w' row) (hb : ∀ b, row = some b → c.B ≤ b ∧ ∃ cs T fz, w.heap[b]? = some (Obj.cells cs T fz) ∧ T ≠ 62 ∧ T ≠ 65 ∧ T ≠ 44) : XSt c s w' := by
  have r1 := h.rd
  have r2 := h.par
  unfold rrX rrO at r1
  unfold prO at r2
  refine ⟨h.bR, h.bP, Nat.le_trans h.lo hg.size, ?_, ?_, h.tok.keep fun g cs fz e => ?_⟩
  · rw [hg.block _ (hltD r1) (fun e => by obtain ⟨-, cs, T, fz, h1, h2, -⟩ := hb _ e.symm; exact h2 (typeD h1 r1))]; exact h.rd
  · rw [hg.block _ (hltD r2) (fun e => by obtain ⟨-, cs, T, fz, h1, -, h2, -⟩ := hb _ e.symm; exact h2 (typeD h1 r2))]; exact h.par
  · rw [hg.block _ (hltD e) (fun e2 => by obtain ⟨-, cs, T, fz, h1, -, -, h2⟩ := hb _ e2.symm; exact h2 (typeD h1 e))]; exact e
/-- A step of the reader. -/
theorem XSt.reader {c : PX} {s s' : XS} {w w' : World} (h : XSt c s w) (hg : w.grownBy w' (some c.R)) (hr : w'.heap[c.R]? = some (rrX c.v s' 0 0 (.slice none 0 0))) (hn : s'.n = s.n) (hw : s'.word = s.word) : XSt c s' w' ∧ Fx c w w' := by
  have r1 := h.rd
  unfold rrX rrO at r1
  refine ⟨⟨h.bR, h.bP, Nat.le_trans h.lo hg.size, hr, ?_, h.tok.row (by have := h.rd; unfold rrX at this; exact this) hg⟩, Fx.grown hg (fun b e => by obtain rfl := Option.some.inj e; exact h.bR) (fun b e cs T fz e2 => by obtain rfl := Option.some.inj e; exact Or.inl (typeD e2 r1)) h.lo⟩
  rw [hg.block _ (hltD h.par) (fun e => h.ne (Option.some.inj e)), hn, hw]
  exact h.par
/-- A step of the parser's own block. -/
theorem XSt.parser {c : PX} {s s' : XS} {w w' : World} (h : XSt c s w) (hg : w.grownBy w' (some c.P)) (hr : w'.heap[c.P]? = some (prO c s'.n s'.word)) (hp : s'.p = s.p) (hb : s'.bad = s.bad) : XSt c s' w' ∧ Fx c w w' := by
  have r2 := h.par
  unfold prO at r2
  refine ⟨⟨h.bR, h.bP, Nat.le_trans h.lo hg.size, ?_, hr, h.tok.keep fun g cs fz e => ?_⟩, Fx.grown hg (fun b e => by obtain rfl := Option.some.inj e; exact h.bP) (fun b e cs T fz e2 => by obtain rfl := Option.some.inj e; exact Or.inr (typeD e2 r2)) h.lo⟩
  · rw [hg.block _ (hltD h.rd) (fun e => h.ne (Option.some.inj e).symm)]
    unfold rrX
    rw [hp, hb]
    exact h.rd
  · rw [hg.block _ (hltD e) (fun e2 => by obtain rfl := Option.some.inj e2; exact absurd (typeD e r2) (by decide))]
    exact e
theorem XSt.setn {c : PX} {s : XS} {w : World} (h : XSt c s w) (n : Nat) : XSt c { s with n := n } (w.setCell ⟨c.P, 3, none⟩ (.int .i64 n)) ∧ Fx c w (w.setCell ⟨c.P, 3, none⟩ (.int .i64 n)) :=
  h.parser (s' := { s with n := n }) (grown_at ⟨rfl, rfl, rfl, Nat.le_refl _, fun _ _ _ => rfl⟩ 3 _) (heap_setCell_same w c.P 3 _ _ _ h.par) rfl rfl
theorem XSt.setw {c : PX} {s : XS} {w : World} (h : XSt c s w) (k : Nat) : XSt c { s with word := k } (w.setCell ⟨c.P, 4, none⟩ (.string (wordV k))) ∧ Fx c w (w.setCell ⟨c.P, 4, none⟩ (.string (wordV k))) :=
  h.parser (s' := { s with word := k }) (grown_at ⟨rfl, rfl, rfl, Nat.le_refl _, fun _ _ _ => rfl⟩ 4 _) (heap_setCell_same w c.P 4 _ _ _ h.par) rfl rfl
theorem XSt.step {c : PX} {s : XS} {w : World} (h : XSt c s w) (q : Nat) : XSt c { s with p := q } (w.setCell ⟨c.R, 1, none⟩ (.int .i64 q)) ∧ Fx c w (w.setCell ⟨c.R, 1, none⟩ (.int .i64 q)) :=
  h.reader (s' := { s with p := q }) (grown_at ⟨rfl, rfl, rfl, Nat.le_refl _, fun _ _ _ => rfl⟩ 1 _) (by have := h.rd; unfold rrX at this ⊢; exact rr_setp this q) rfl rfl
theorem XSt.cells {c : PX} {s : XS} {w : World} (h : XSt c s w) : (w.cell? ⟨c.P, 0, none⟩ = some (.pointer (some ⟨c.R, 0, none⟩)) ∧ w.cell? ⟨c.P, 1, none⟩ = some (.float .f64 c.deep) ∧ w.cell? ⟨c.P, 2, none⟩ = some (.float .f64 c.nodes) ∧ w.cell? ⟨c.P, 3, none⟩ = some (.int .i64 s.n) ∧ w.cell? ⟨c.P, 4, none⟩ = some (.string (wordV s.word))) ∧ w.cell? ⟨c.R, 1, none⟩ = some (.int .i64 s.p) ∧ w.cell? ⟨c.R, 2, none⟩ = some (.int .i64 (badV s.bad)) := by
  have r := h.par
  unfold prO at r
  have q := rr_cells h.rd
  exact ⟨⟨by rw [Lib.cell_of_heap r]; rfl, by rw [Lib.cell_of_heap r]; rfl, by rw [Lib.cell_of_heap r]; rfl, by rw [Lib.cell_of_heap r]; rfl, by rw [Lib.cell_of_heap r]; rfl⟩, q.2.1, q.2.2⟩
theorem XSt.free {c : PX} {s : XS} {w : World} (h : XSt c s w) : (∀ q, w.frozen? ⟨c.P, q, none⟩ = false) ∧ ∀ q, w.frozen? ⟨c.R, q, none⟩ = false := by
  have r := h.par
  have d := h.rd
  unfold prO at r
  unfold rrX rrO at d
  refine ⟨fun q => ?_, fun q => ?_⟩
  · unfold World.frozen?; rw [r]; rfl
  · unfold World.frozen?; rw [d]; rfl
theorem XSt.kind {c : PX} {s : XS} {w : World} (h : XSt c s w) : Calls Try.prog 24 #[.pointer (some ⟨c.R, 0, none⟩)] w fun e w' => e = .returned (.int .i64 (kindAt c.L s.p : Nat)) ∧ XSt c s w' ∧ Fx c w w' := by
  refine (rkind_any c.R s.p c.v _ (badV s.bad) 0 0 c.L w h.rd h.tok).mono ?_
  rintro e w' ⟨he, k, rfl⟩
  exact ⟨he, h.drewN k, (Fx.refl c w).drewN k⟩
theorem XSt.word {c : PX} {s : XS} {w : World} (h : XSt c s w) : Calls Try.prog 25 #[.pointer (some ⟨c.R, 0, none⟩)] w fun e w' => e = .returned (.string ⟨(wordAt c.L s.p).toArray⟩) ∧ XSt c s w' ∧ Fx c w w' := by
  refine (rword_any c.R s.p c.v _ (badV s.bad) 0 0 c.L w h.rd h.tok).mono ?_
  rintro e w' ⟨he, k, rfl⟩
  exact ⟨he, h.drewN k, (Fx.refl c w).drewN k⟩
theorem XS.fail_n (s : XS) : s.fail.n = s.n ∧ s.fail.word = s.word ∧ s.fail.p = s.p := by
  unfold XS.fail
  cases s.bad <;> exact ⟨rfl, rfl, rfl⟩
theorem want_n (L : List Tok) (k : Nat) (s : XS) : (wantX L k s).2.n = s.n ∧ (wantX L k s).2.word = s.word := by
  unfold wantX
  cases s.bad with
  | some b => exact ⟨rfl, rfl⟩
  | none =>
    simp only
    split
    · exact ⟨rfl, rfl⟩
    · exact ⟨s.fail_n.1, s.fail_n.2.1⟩
theorem XSt.failed {c : PX} {s : XS} {w : World} (h : XSt c s w) : Calls Try.prog 26 #[.pointer (some ⟨c.R, 0, none⟩), .int .i64 s.p] w fun e w' => e = .returned (.tuple #[]) ∧ XSt c s.fail w' ∧ Fx c w w' := by
  refine (rfail_any c.R c.v _ s 0 0 w h.rd).mono ?_
  rintro e w' ⟨he, hg, hr⟩
  exact ⟨he, h.reader hg hr s.fail_n.1 s.fail_n.2.1⟩
theorem XSt.want {c : PX} {s : XS} {w : World} (h : XSt c s w) (k : Nat) (hp : s.p ≤ 1000000000) : Calls Try.prog 22 #[.pointer (some ⟨c.R, 0, none⟩), .int .i64 k] w fun e w' => e = .returned (.string ⟨(wantX c.L k s).1.toArray⟩) ∧ XSt c (wantX c.L k s).2 w' ∧ Fx c w w' := by
  refine (rwant_any c.R k c.v _ s 0 0 c.L w h.rd h.tok hp).mono ?_
  rintro e w' ⟨he, hg, hr⟩
  exact ⟨he, h.reader hg hr (want_n _ _ _).1 (want_n _ _ _).2⟩
theorem XSt.stop {c : PX} {s : XS} {w : World} (h : XSt c s w) : Calls Try.prog 23 #[.pointer (some ⟨c.P, 0, none⟩)] w fun e w' => e = .returned (.bool s.bad.isSome) ∧ w' = w := by
  obtain ⟨⟨p0, p1, p2, p3, p4⟩, q1, q2⟩ := h.cells
  clear h p1 p2 p3 p4 q1
  cases hb : s.bad with
  | none =>
    rw [hb] at q2
    unfold badV at q2
    go_enter Try.func23, Try.ntmps23
    go_wp2
    go_ret
    exact ⟨rfl, rfl⟩
  | some b =>
    rw [hb] at q2
    unfold badV at q2
    have h0 : (0 : Int) ≤ (b : Int) := by omega
    go_enter Try.func23, Try.ntmps23
    go_wp2
    go_ret
    exact ⟨rfl, rfl⟩
end Go.Proofs.Ytdhfbphliejcdaa.Dv
