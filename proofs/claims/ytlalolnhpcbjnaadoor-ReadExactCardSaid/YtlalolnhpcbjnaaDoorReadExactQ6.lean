/-
  ReadExact holds: for every input the call returns true, and the arguments read as before. No condition.
-/
import Derived.Lib.ItoaNum
import Derived.Lib.ItoaLen
import Derived.Test.YtlalolnhpcbjnaaDoorRows
import Derived.WalkKit
import Derived.Lib.Hide
import Derived.ProofKit
import Derived.LoopTactic
import Derived.Below
import Derived.IntWalk
import Derived.Lib.Strings
import Derived.Laws.Strings2
import Derived.Deep.AppendLies
import Derived.Laws.Rows
import Derived.OwnWalk
import Derived.KernelRfl
import Derived.Deep.RegionHeld3
import Derived.Lib.Builder
import Derived.WalkSmall
import Derived.Maps.GroupsBeside
import Derived.Maps.StringElems
import Derived.Laws.OwnMore
import Derived.Deep.RegionLaw
import Derived.Maps.AppendAt
import Derived.Deep.Cut
import Derived.Deep.DeepCutAuto
import Derived.Maps.OwnOps
import Derived.Maps.OwnSet
import Derived.Lib.MinMax
import Derived.Laws.IdiomCopy
import Derived.Deep.Slices
import Derived.Lib.QuietBelow
import Derived.StillTailTactics
import Derived.BigQuiet
import Derived.Deep.RegionWith
import Derived.OrdersHeld
import Derived.Laws.StructEq
import GoSem.Core.Float
import Derived.Laws.Cover2
import Derived.Laws.FloatArith
import Derived.Laws.Externs
import Derived.Deep.QuietTactic
import Derived.Deep.CutBlock
import Derived.Deep.LoopGhost
import Derived.Recover
import Derived.RegionTactic
import Derived.Defers
import Derived.OpenShut
import Derived.Carry
import Derived.SliceStrings
import Derived.Test.YtlalolnhpcbjnaaDoorShelf
import Derived.Lib.AppendIntMem
import Derived.Lib.LaidTab
import Derived.LaidMore
import Derived.LaidSub
import Derived.LaidHandle
import Derived.Stop.Joined
import Derived.JoinedOf
import Derived.Test.YtlalolnhpcbjnaaDoorCards
import Derived.Test.YtlalolnhpcbjnaaDoorTie
import Derived.SevenTiedAt
import Derived.ChangeMaps5
import Derived.Test.YtlalolnhpcbjnaaDoorReadExactQ5
namespace Go.Proofs.YtlalolnhpcbjnaaDoor.Rt
open Go.RowKit
open Dv (XS kindAt wordAt placeAt wantX rrO rrX badV PTok hltD typeD startX endX endX_bad here_place)

theorem ptok_of {B : Nat} {w : World} {v : Value} {ts : List Tok} (h : Toks 79 B w v ts) : PTok w ts v := by
  obtain ⟨-, ⟨rfl, hn⟩ | ⟨g, cap, cur, rfl, hg, hh, hnc, hcm, hsz, htk⟩⟩ := h
  · obtain rfl : ts = [] := List.eq_nil_of_length_eq_zero hn
    exact ⟨none, 0, rfl, Nat.le_refl _, by decide, Or.inl rfl⟩
  · exact ⟨_, cap, rfl, hnc, hcm, Or.inr ⟨g, cur, _, rfl, hh, by first | exact htk | simpa using htk⟩⟩
/-- The place of a token, or of what stands behind all of them. -/
def placeV (L : List Tok) (fa : Int) (n p : Nat) : Int := match L[p]? with
  | some t => t.at_
  | none => if 0 ≤ fa then fa else n
theorem place_any (s : ByteArray) (L : List Tok) (v : Value) (fa : Int) (p : Nat) (w : World) (h : PTok w L v) : Calls Tryd.prog 24 #[.string s, v, .int .i64 fa, .int .i64 p] w fun e w' => e = .returned (.int .i64 (placeV L fa s.size p)) ∧ w' = w := by
  obtain ⟨a, cap, rfl, hc⟩ := h.cell
  have HLN := Lib.hid (show L.length ≤ cap ∧ cap ≤ maxLen by obtain ⟨a', cap', e, h1, h2, -⟩ := h; cases e; exact ⟨h1, h2⟩)
  clear h
  by_cases hlt : p < L.length
  · obtain ⟨g, rfl, -, -, k0⟩ := hc p L[p] (List.getElem?_eq_getElem hlt)
    have hk : placeV L fa s.size p = L[p].at_ := by simp [placeV, List.getElem?_eq_getElem hlt]
    rw [hk]
    generalize L[p].at_ = kk at k0
    clear hc hk
    go_enter Tryd.func24, Tryd.ntmps24
    go_wp2
    go_ret
    exact ⟨rfl, rfl⟩
  · have hk : placeV L fa s.size p = if 0 ≤ fa then fa else (s.size : Int) := by simp [placeV, List.getElem?_eq_none (by omega : L.length ≤ p)]
    rw [hk]
    clear hc hk
    by_cases hf : 0 ≤ fa
    · rw [if_pos hf]
      go_enter Tryd.func24, Tryd.ntmps24
      go_wp2
      go_ret
      exact ⟨rfl, rfl⟩
    · rw [if_neg hf]
      go_enter Tryd.func24, Tryd.ntmps24
      go_wp2
      go_ret
      exact ⟨rfl, rfl⟩
def endO (n : Nat) : Option Nat → Nat
  | none => n
  | some p => p
def fauO : Option Nat → Int
  | none => -1
  | some p => p
theorem fau_facts {L : List Tok} {n : Nat} {o : Option Nat} (hb : ∀ q, o = some q → q < n) (hn : n ≤ 1000000) : (o.isSome = true ↔ 0 ≤ fauO o) ∧ -1 ≤ fauO o ∧ fauO o ≤ 1000000 ∧ ∀ p, placeV L (fauO o) n p = (placeAt L (endO n o) p : Nat) := by
  cases o with
  | none => exact ⟨by simp [fauO], by simp [fauO], by simp [fauO], fun p => by unfold placeV placeAt; cases L[p]? <;> simp [fauO, endO]⟩
  | some q =>
    have := hb q rfl
    exact ⟨by simp [fauO], by simp only [fauO]; omega, by simp only [fauO]; omega, fun p => by unfold placeV placeAt; cases L[p]? <;> simp [fauO, endO]⟩
theorem lexL_ne {l : List UInt8} : ∀ (n p : Nat), l.length - p ≤ n → ∀ t ∈ (lexL l p).1, t.s ≠ []
  | 0, p, h => by
    rw [lexL_end (by omega)]
    intro t ht; cases ht
  | n + 1, p, h => by
    by_cases h1 : p + skipL (l.drop p) < l.length
    · cases hn : nextL (l.drop (p + skipL (l.drop p))) with
      | none =>
        rw [lexL_fault rfl h1 hn]
        intro t ht; cases ht
      | some x =>
        obtain ⟨k, m⟩ := x
        have hb := (nextL_range hn).2.1
        have hb1 := (nextL_range hn).1
        rw [lexL_next rfl h1 hn]
        intro t ht
        rcases List.mem_cons.1 ht with rfl | ht
        · intro e
          have := congrArg List.length e
          simp only [List.length_take, List.length_nil] at this
          omega
        · exact lexL_ne n _ (by omega) t ht
    · rw [lexL_end h1]
      intro t ht; cases ht
/-- What the page's Read reads. -/
def pgR (L : List Tok) (br : Bool) (names : Names) (i j : Int) : Tm × XS := ((termX L i j (L.length + 1) 0 names.reverse startX).1, endX L br (termX L i j (L.length + 1) 0 names.reverse startX).2)
def SameT (L : List Tok) (E : Nat) (x : Except Nat Tm) (y : Tm × XS) : Prop := match x with
  | .ok t => y.1 = t ∧ y.2.bad = none
  | .error a => ∃ b, y.2.bad = some b ∧ placeAt L E b = a
theorem pgR_same (l : List UInt8) (names : Names) (i j : Int) : SameT (lexL l 0).1 (endO l.length (lexL l 0).2) (readT l names i j) (pgR (lexL l 0).1 (lexL l 0).2.isSome names i j) := by
  have e1 : (ofL l).1 = (lexL l 0).1 := by rw [ofL_eq]
  have e2 : (ofL l).2.1 = endO l.length (lexL l 0).2 := by rw [ofL_eq]; dsimp only; cases (lexL l 0).2 <;> rfl
  have e3 : (ofL l).2.2 = (lexL l 0).2.isSome := by rw [ofL_eq]
  unfold readT pgR
  rw [e1, e2, e3]
  generalize endO l.length (lexL l 0).2 = E
  generalize (lexL l 0).2.isSome = br
  generalize (lexL l 0).1 = L
  have h := termX_ok (L := L) (E := E) (i := i) (j := j) (L.length + 1) 0 names.reverse startX rfl
  rw [show L.drop startX.p = L from List.drop_zero] at h
  generalize termX L i j (L.length + 1) 0 names.reverse startX = y at h
  cases hx : termP E i j (L.length + 1) 0 names.reverse L with
  | error a =>
    rw [hx] at h
    obtain ⟨b, h1, h2⟩ := h
    exact ⟨b, by dsimp only; rw [endX_bad h1]; exact h1, h2⟩
  | ok q =>
    obtain ⟨t, r⟩ := q
    rw [hx] at h
    obtain ⟨h1, h2, h3⟩ := h
    dsimp only
    unfold endP endX
    have hr : r = [] ↔ ¬ y.2.p < L.length := by rw [← h3]; simp
    by_cases hc : y.2.p < L.length ∨ br = true
    · rw [if_neg (show ¬ (r = [] ∧ br = false) from fun e => hc.elim (hr.1 e.1) (fun h => by rw [e.2] at h; cases h)), if_pos (show y.2.bad = none ∧ (y.2.p < L.length ∨ br = true) from ⟨h2, hc⟩)]
      exact ⟨y.2.p, rfl, by rw [here_place, h3]⟩
    · rw [if_pos (show r = [] ∧ br = false from ⟨hr.2 (fun e => hc (Or.inl e)), by
        cases hbr : br with
        | false => rfl
        | true => exact absurd (Or.inr hbr) hc⟩), if_neg (show ¬ (y.2.bad = none ∧ (y.2.p < L.length ∨ br = true)) from fun e => hc e.2)]
      exact ⟨h1, h2⟩
def errT (x : Except Nat Tm) : Except (Nat × Nat) Tm := match x with
  | .error a => .error (2, a)
  | .ok t => .ok t
theorem readB_of {l : List UInt8} {names : Names} {i j : Int} (h : ¬ (i < 0 ∨ 1000 < i ∨ j < 0 ∨ 1000 < j)) : readB l names i j = errT (readT l names i j) := by
  unfold readB
  rw [if_neg h]
  cases readT l names i j <;> rfl
theorem below_fw {c : PR} {w w' : World} {B : Nat} (h : Fw c w w') (hB : B ≤ c.R) (hR : c.R < w.heap.size) : Below B w w' := ⟨h.os, h.tape, h.output, h.size, fun k hk => h.block k (by omega) (fun e => by have := Option.some.inj e; omega)⟩
theorem RS.setbad {c : PR} {nv : Value} {s : XS} {w : World} (h : RS c nv s w) (q : Nat) : RS c nv { s with bad := some q } (w.setCell ⟨c.R, 2, none⟩ (.int .i64 q)) ∧ Fw c w (w.setCell ⟨c.R, 2, none⟩ (.int .i64 q)) := by
  have hg : Fw c w (w.setCell ⟨c.R, 2, none⟩ (.int .i64 q)) := grown_at ⟨rfl, rfl, rfl, Nat.le_refl _, fun _ _ _ => rfl⟩ 2 _
  refine ⟨h.of hg ?_, hg⟩
  have r := h.rd
  unfold rrX at r ⊢
  exact Dv.rr_set r (q : Nat)
theorem append_none {w : World} {g : Nat} {cp : Nat} (ty : TypeId) (_h : w.heap[g]? = some (.cells #[] 9 (0, 0))) : (Builtin.append_ #[22, 22] ty #[.slice (some ⟨g, 0, none⟩) 0 0, .slice none 0 cp]).run Tryd.prog w = .ok (.slice (some ⟨g, 0, none⟩) 0 0) w := by
  obtain ⟨i0, hi, hz0, hz1, hz2⟩ := info_parts info_str
  have ht : Tryd.prog.underlying 22 = some (.slice 9) := by kernel_rfl
  simp [Builtin.append_, run_underlying ht, sizeOf, typeInfo, hi, Builtin.lenOf, Builtin.firstCells, storeCells]
theorem wpList_append_none {ops : Array Oper} {rest : List Oper} {o : Oper} {a : Act} {w : World} {E : Exit → Act → World → Prop} (hgd : o.guard = none) (s x : Operand) {g cp : Nat}
    (ho : o.op = .call { callee := .builtin .append, args := #[s, x], argTypes := #[22, 22] }) (hs : a.eval s = .slice (some ⟨g, 0, none⟩) 0 0) {m : Nat} (hx : a.eval x = .slice none m cp) (hm : m = 0) (h : w.heap[g]? = some (.cells #[] 9 (0, 0)))
    (hk : wpList Tryd.prog ops E rest (a.put o.dst (.slice (some ⟨g, 0, none⟩) 0 0)) w) : wpList Tryd.prog ops E (o :: rest) a w :=
  wpList_plain hgd fun K hK => by
    subst hm
    unfold Oper.wp execOp
    simp only [ho, resolve, invoke, builtin, Sem.run_bind, Sem.run_pure, Result.andThen_ok, List.map_toArray, List.map_cons, List.map_nil, hs, hx, append_none _ h]
    exact hK _ _ hk
theorem txlies_cells {B : Nat} {w : World} {names : Names} {ad : Addr} {cap : Nat} (h : TxLies B w names (.slice (some ad) names.length cap)) : ∀ j u, (names.reverse.reverse.map strV)[j]? = some u → w.cell? (ad.add j) = some u := by
  obtain ⟨a, c, e, -, -, hc⟩ := h
  intro j u hu
  rw [List.reverse_reverse, List.getElem?_map] at hu
  obtain ⟨y, hy, rfl⟩ := Option.map_eq_some_iff.1 hu
  obtain ⟨hj, rfl⟩ := List.getElem?_eq_some_iff.1 hy
  obtain ⟨g, o, e2, -, h2⟩ := hc j hj
  cases e
  cases e2
  rw [Addr.add_lit]
  exact h2
set_option maxHeartbeats 8000000 in
set_option maxRecDepth 20000 in
theorem pread_any (s : ByteArray) (names : Names) (nv : Value) (i j : Int) (w : World) (hs : s.size ≤ 1000000) (hN : TxLies w.heap.size w names nv) (hm : names.length ≤ 1000000) : Calls Tryd.prog 9 #[.string s, nv, .int .i64 i, .int .i64 j] w (ReadG w (readB s.data.toList names i j)) := by
  obtain ⟨du, hu1, hu2⟩ := under_term
  have hba := (Below.refl w.heap.size w).alloc (Nat.le_refl _) zeroObj
  have HG := Lib.hid (show (w.alloc zeroObj).heap[w.heap.size]? = some zeroObj from alloc_new _ _)
  have HBA := Lib.hid hba
  obtain ⟨a, cap, rfl, hN2⟩ := id hN
  by_cases c1 : i < 0
  · have HX := Lib.hid (show readB s.data.toList names i j = .error (1, 0) from if_pos (by omega))
    clear hN hN2 hba
    go_enter Tryd.func9, Tryd.ntmps9
    go_wp2
    refine bodyPost_ret (results_ct2 rfl _ _ w.heap.size _ _ _ du rfl HG.out hu1 (by cases du <;> first | rfl | exact hu2) size_term) rfl ?_
    rw [HX.out]
    exact ⟨HBA.out, rfl⟩
  by_cases c2 : 1000 < i
  · have HX := Lib.hid (show readB s.data.toList names i j = .error (1, 0) from if_pos (by omega))
    clear hN hN2 hba
    go_enter Tryd.func9, Tryd.ntmps9
    go_wp2
    refine bodyPost_ret (results_ct2 rfl _ _ w.heap.size _ _ _ du rfl HG.out hu1 (by cases du <;> first | rfl | exact hu2) size_term) rfl ?_
    rw [HX.out]
    exact ⟨HBA.out, rfl⟩
  by_cases c3 : j < 0
  · have HX := Lib.hid (show readB s.data.toList names i j = .error (1, 0) from if_pos (by omega))
    clear hN hN2 hba
    go_enter Tryd.func9, Tryd.ntmps9
    go_wp2
    refine bodyPost_ret (results_ct2 rfl _ _ w.heap.size _ _ _ du rfl HG.out hu1 (by cases du <;> first | rfl | exact hu2) size_term) rfl ?_
    rw [HX.out]
    exact ⟨HBA.out, rfl⟩
  by_cases c4 : 1000 < j
  · have HX := Lib.hid (show readB s.data.toList names i j = .error (1, 0) from if_pos (by omega))
    clear hN hN2 hba
    go_enter Tryd.func9, Tryd.ntmps9
    go_wp2
    refine bodyPost_ret (results_ct2 rfl _ _ w.heap.size _ _ _ du rfl HG.out hu1 (by cases du <;> first | rfl | exact hu2) size_term) rfl ?_
    rw [HX.out]
    exact ⟨HBA.out, rfl⟩
  have hls : s.data.toList.length = s.size := by simp
  have HBD := Lib.hid (lexL_bound (l := s.data.toList) s.data.toList.length 0 (by omega))
  have HNE := Lib.hid (lexL_ne (l := s.data.toList) s.data.toList.length 0 (by omega))
  have HSM := pgR_same s.data.toList names i j
  obtain ⟨L, o, hR⟩ : ∃ L o, lexL s.data.toList 0 = (L, o) := ⟨_, _, rfl⟩
  rw [hR] at HSM HBD HNE
  dsimp only at HSM HBD HNE
  have HFA := Lib.hid (fau_facts (L := L) (n := s.size) (by rw [← hls]; exact HBD.out.1) hs)
  have HLL := Lib.hid (show L.length ≤ 1000000 ∧ (∀ t ∈ L, t.s.length ≤ 10000000) from by
    have hb := HBD.out
    exact ⟨by have := hb.2.2; omega, fun t ht => by have := (hb.2.1 t ht).1; omega⟩)
  rw [hls] at HSM
  obtain ⟨XT, hXT⟩ : ∃ XT, readT s.data.toList names i j = XT := ⟨_, rfl⟩
  rw [hXT] at HSM
  have HE := Lib.hid HSM
  have HX := Lib.hid (show readB s.data.toList names i j = errT XT by rw [← hXT]; exact readB_of (by omega))
  have HR := Lib.hid hR
  have HIJ := Lib.hid (show (0 ≤ i ∧ i ≤ 1000) ∧ (0 ≤ j ∧ j ≤ 1000) by omega)
  have HN := Lib.hid hN
  obtain ⟨XB, hXB⟩ : ∃ XB, readB s.data.toList names i j = XB := ⟨_, rfl⟩
  rw [hXB] at HX
  rw [hXB]
  clear HSM hR hXT hXB HBD hN hN2 hba hls
  go_enter Tryd.func9, Tryd.ntmps9
  go_wp2_with fail
  refine (plex_any s _ hs).mono ?_
  intro e w1 hg
  rw [HR.out] at hg
  obtain ⟨hb1, v, htk, rfl⟩ := (show Below (w.alloc zeroObj).heap.size (w.alloc zeroObj) w1 ∧ ∃ v, Toks 79 (w.alloc zeroObj).heap.size w1 v L ∧ e = .returned (.tuple #[v, .int .i64 (fauO o)]) from hg)
  obtain ⟨fa, hfa⟩ : ∃ fa, fauO o = fa := ⟨_, rfl⟩
  rw [hfa] at HFA
  rw [hfa]
  have HPT := Lib.hid (ptok_of htk)
  have hz1 : w1.heap[w.heap.size]? = some zeroObj := (hb1.block _ (by simp)).trans HG.out
  have HB1 := Lib.hid (HBA.out.trans (hb1.mono (by simp)))
  have hs1 : w.heap.size < w1.heap.size := hltD hz1
  have HZ1 := Lib.hid hz1
  have HN1 := Lib.hid (HN.out.keep HB1.out)
  clear hb1 htk hfa hz1 HG HBA HN
  obtain ⟨av, cv, hvv, -, -, -⟩ := id HPT.out
  subst hvv
  go_upto_region 4 with fail
  go_cut [13] (fun s13 wx => ∃ (R : Nat) (nvr : Value), s13 = .pointer (some ⟨R, 0, none⟩) ∧ Hid (RS ⟨R, L, .slice av L.length cv, i, j⟩ nvr startX wx) ∧ Hid (NR wx nvr names.reverse) ∧ Hid (Below w.heap.size w wx) ∧ Hid (w.heap.size < R) ∧ Hid (wx.heap[w.heap.size]? = some zeroObj))
  case first =>
    have HA := Lib.hid (below_gr ((Below.refl w1.heap.size w1).alloc (Nat.le_refl _) (.cells #[] 9)))
    have HO := Lib.hid (own_empty w1)
    have fin : ∀ (v2 : Value) (w2 : World), w1.grownBy w2 none → NR w2 v2 names.reverse → RS ⟨w2.heap.size, L, .slice av L.length cv, i, j⟩ v2 startX (w2.alloc (.cells #[.slice av L.length cv, .int .i64 0, .int .i64 (-1), .int .i64 i, .int .i64 j, v2] 52)) ∧ NR (w2.alloc (.cells #[.slice av L.length cv, .int .i64 0, .int .i64 (-1), .int .i64 i, .int .i64 j, v2] 52)) v2 names.reverse ∧ Below w.heap.size w (w2.alloc (.cells #[.slice av L.length cv, .int .i64 0, .int .i64 (-1), .int .i64 i, .int .i64 j, v2] 52)) ∧ w.heap.size < w2.heap.size ∧ (w2.alloc (.cells #[.slice av L.length cv, .int .i64 0, .int .i64 (-1), .int .i64 i, .int .i64 j, v2] 52)).heap[w.heap.size]? = some zeroObj := by
      intro v2 w2 hg hn
      have hal := (Below.refl w2.heap.size w2).alloc (Nat.le_refl _) (.cells #[.slice av L.length cv, .int .i64 0, .int .i64 (-1), .int .i64 i, .int .i64 j, v2] 52)
      have hb2 := below_of hg
      have hbb := hb2.trans (hal.mono hb2.size)
      refine ⟨⟨alloc_new _ _, HPT.out.keep fun g cs fz e => (hbb.block _ (hltD e)).trans e⟩, hn.same (below_gr hal), HB1.out.trans (hbb.mono (by omega)), by have := hb2.size; omega, (hbb.block _ hs1).trans HZ1.out⟩
    have FIN := Lib.hid fin
    clear fin
    cases a with
    | none =>
      have hn0 : names = [] := by
        obtain ⟨a', c', e, -, -, hc⟩ := HN1.out
        cases names with
        | nil => rfl
        | cons y r =>
          obtain ⟨g, o, e2, -, -⟩ := hc 0 (by simp)
          cases e
          cases e2
      have HNR := Lib.hid (show NR (w1.alloc (.cells #[] 9)) (.slice (some ⟨w1.heap.size, 0, none⟩) 0 0) names.reverse by rw [hn0]; exact ⟨_, 0, #[], rfl, alloc_new _ _, Nat.le_refl _, Nat.zero_le _, rfl, rfl⟩)
      have HLN := Lib.hid (show names.length = 0 by rw [hn0]; rfl)
      clear hn0
      go_wp2_with (at_builtin; refine wpList_append_none rfl (.tmp 38) (.tmp 39) rfl rfl rfl HLN.out (alloc_new _ _) ?_)
      go_meet
      case rel =>
        obtain ⟨f1, f2, f3, f4, f5⟩ := FIN.out _ _ HA.out HNR.out
        rw [World.size_alloc] at f1 f4
        exact ⟨_, _, rfl, Lib.hid f1, Lib.hid f2, Lib.hid f3, Lib.hid f4, Lib.hid f5⟩
    | some ad =>
      have HCX := Lib.hid (fun (jq : Nat) (u : Value) (hu : (names.reverse.reverse.map strV)[jq]? = some u) => cell_gr HA.out (txlies_cells HN1.out jq u hu))
      go_wp2_with (at_builtin
                   refine wpList_append_strs rfl (.tmp 38) (.tmp 39) rfl (.slice (some ⟨w1.heap.size, 0, none⟩) 0 0) 0 [] rfl HO.out ad names.length cap (names.reverse.reverse.map strV) rfl (by simp) HCX.out (strs_one _) (by omega) ?_
                   intro v2 w2 hown hgr hnil hat
                   have HB2 := Lib.hid (show w1.grownBy w2 none from below_gr ((below_of HA.out).grown hgr (below_of HA.out).size (fun k hk => by rw [own_empty_block] at hk; cases hk; exact Nat.le_refl _)))
                   have HN2 := Lib.hid (nr_of hown (fun e => by have := (hnil.1 e).1; cases this) (N := names.reverse) (by simp) rfl)
                   clear hown hgr hnil hat
                   obtain ⟨g2, cap2, hv2, -, -, -⟩ := HN2.out.cells
                   rw [List.length_reverse] at hv2
                   subst hv2)
      go_meet
      case rel =>
        obtain ⟨f1, f2, f3, f4, f5⟩ := FIN.out _ _ HB2.out HN2.out
        exact ⟨_, _, rfl, Lib.hid f1, Lib.hid f2, Lib.hid f3, Lib.hid f4, Lib.hid f5⟩
  case rest =>
  obtain ⟨R, nvr, rfl, HS, HNM, HBW, HRL, HZ⟩ := hcut
  clear HB1 HZ1 HN1 hs1 c1 c2 c3 c4
  have HC := Lib.hid ((rterm_any ⟨R, L, .slice av L.length cv, i, j⟩ HLL.out.1 HLL.out.2 (fun t ht _ => HNE.out t ht) HIJ.out.1 HIJ.out.2 (L.length + 1)).use 0 names.reverse nvr startX _ (Or.inl rfl) ⟨Nat.zero_le _, fun b e => by cases e⟩ (by show L.length + 1 ≤ 0 + (L.length + 1); omega) (by rw [List.length_reverse]; have := HLL.out.1; omega) HS.out HNM.out)
  have HIX := Lib.hid ((termX_keep (L := L) HIJ.out.1 HIJ.out.2 (L.length + 1)).keep 0 names.reverse startX ⟨Nat.zero_le _, fun b e => by cases e⟩)
  have hE := HE.out
  unfold pgR at hE
  obtain ⟨t1, q, hxq⟩ : ∃ t1 q, termX L i j (L.length + 1) 0 names.reverse startX = (t1, q) := ⟨_, _, rfl⟩
  have HC2 := Lib.hid (show Calls Tryd.prog 23 #[.pointer (some ⟨R, 0, none⟩), .int .i64 0] _ (TermG ⟨R, L, .slice av L.length cv, i, j⟩ names.reverse _ (t1, q)) by rw [← hxq]; exact HC.out)
  rw [hxq] at hE HIX
  dsimp only at hE HIX
  have HEE := Lib.hid hE
  have hRw := HS.out.lt
  clear hE hxq HC HE
  go_wp2_with fail
  refine HC2.out.mono ?_
  rintro e w3 ⟨sv, nv3, rfl, hl, hfi, hs3, hn3, hg3⟩
  obtain ⟨a2, cap2, rfl, -, -⟩ := hl.out
  have hb3 := below_fw hg3 (B := w.heap.size) (by have := HRL.out; show w.heap.size ≤ R; omega) hRw
  have hal := (Below.refl w3.heap.size w3).alloc (Nat.le_refl _) (.cells #[.int .i64 t1.k, .int .i64 t1.i, .int .i64 t1.j, .int .i64 t1.n, .slice a2 t1.kids.length cap2] 26)
  have hz3 := (hg3.block _ (hltD HZ.out) (fun e => by have e2 : w.heap.size = R := Option.some.inj e; have := HRL.out; omega)).trans HZ.out
  have HS4 := Lib.hid (hs3.same (below_gr hal))
  have HB4 := Lib.hid ((HBW.out.trans hb3).trans (hal.mono (by have := hltD hz3; omega)))
  have HZ4 := Lib.hid ((hal.block _ (hltD hz3)).trans hz3)
  have HL4 := Lib.hid (hl.later hal)
  have HX4 := Lib.hid (alloc_new w3 (.cells #[.int .i64 t1.k, .int .i64 t1.i, .int .i64 t1.j, .int .i64 t1.n, .slice a2 t1.kids.length cap2] 26))
  have HFI := Lib.hid hfi
  have hwb : w.heap.size < _ := Nat.lt_of_lt_of_le HRL.out (Nat.le_of_lt hRw)
  have HWB := Lib.hid hwb
  clear hl hfi hs3 hn3 hg3 hb3 hal hz3 HC2 HS HNM HBW HZ hRw hwb
  unfold tv
  go_upto_region 6 with fail
  obtain ⟨W, hW⟩ : ∃ W, W = w3.alloc (.cells #[.int .i64 t1.k, .int .i64 t1.i, .int .i64 t1.j, .int .i64 t1.n, .slice a2 t1.kids.length cap2] 26) := ⟨_, rfl⟩
  rw [← hW] at HS4 HB4 HZ4 HL4 HX4
  rw [← hW]
  clear hW
  obtain ⟨c0, c1, c2, c3, c4, c5⟩ := HS4.out.cells
  dsimp only at c0 c1 c2 c3 c4 c5
  cases hb : q.bad with
  | some b =>
    rw [hb] at c2
    unfold badV at c2
    have h0 : (0 : Int) ≤ (b : Int) := by omega
    have HER := Lib.hid (show ∃ a, XB = .error (2, a) ∧ placeAt L (endO s.size o) b = a by
      have h := HEE.out
      unfold SameT at h
      cases XT with
      | ok t =>
        exfalso
        obtain ⟨-, h2⟩ := h
        rw [endX_bad hb, hb] at h2
        cases h2
      | error a =>
        obtain ⟨b', h1, h2⟩ := h
        rw [endX_bad hb, hb] at h1
        obtain rfl := Option.some.inj h1
        exact ⟨a, HX.out, h2⟩)
    obtain ⟨ae, hae, hpe⟩ := HER.out
    have HAE := Lib.hid hae
    clear hb
    have HPW := Lib.hid (show PTok W L (.slice av L.length cv) from HS4.out.tok)
    go_wp2_with fail
    refine (place_any s L _ fa b _ HPW.out).mono ?_
    rintro e w' ⟨rfl, hww⟩
    obtain rfl := hww.symm
    rw [(HFA.out.2.2.2 b), hpe]
    clear hpe hae HER
    obtain ⟨z0, z1, z2, z3, z4⟩ := five_cells HZ4.out
    obtain ⟨g0, g1, g2, g3, g4⟩ := five_free HZ4.out
    have hz := HZ4.out
    have HBF := Lib.hid (below_five HB4.out (Nat.le_refl w.heap.size) (.int .i64 0) (.int .i64 0) (.int .i64 0) (.int .i64 0) (.slice none 0 0))
    go_wp2
    (try simp only [Exit.inBlock, Exit.then])
    refine bodyPost_ret (results_ct2 rfl _ _ w.heap.size _ _ _ du rfl (five_set hz) hu1 (by cases du <;> first | rfl | exact hu2) size_term) rfl ?_
    rw [HAE.out]
    exact ⟨HBF.out, rfl⟩
  | none =>
  rw [hb] at c2
  unfold badV at c2
  have f2 := HS4.out.free 2
  dsimp only at f2
  have HIP := Lib.hid HIX.out.p
  have hst := HS4.out.setbad q.p
  have HS5 := Lib.hid hst.1
  have HZ5 := Lib.hid ((hst.2.block _ (hltD HZ4.out) (fun e => by have e2 : w.heap.size = R := Option.some.inj e; have := HRL.out; omega)).trans HZ4.out)
  have HB5 := Lib.hid (HB4.out.trans (below_fw hst.2 (by have := HRL.out; show w.heap.size ≤ R; omega) HS4.out.lt))
  clear hst
  have h0 : (0 : Int) ≤ (q.p : Int) := by omega
  by_cases hlt : q.p < L.length
  · have hlt' : (q.p : Int) < (L.length : Int) := by omega
    have HER := Lib.hid (show ∃ a, XB = .error (2, a) ∧ placeAt L (endO s.size o) q.p = a by
      have h := HEE.out
      unfold SameT at h
      cases XT with
      | ok t =>
        exfalso
        obtain ⟨-, h2⟩ := h
        rw [show endX L o.isSome q = { q with bad := some q.p } from if_pos ⟨hb, Or.inl hlt⟩] at h2
        cases h2
      | error a =>
        obtain ⟨b', h1, h2⟩ := h
        rw [show endX L o.isSome q = { q with bad := some q.p } from if_pos ⟨hb, Or.inl hlt⟩] at h1
        obtain rfl := Option.some.inj h1
        exact ⟨a, HX.out, h2⟩)
    obtain ⟨ae, hae, hpe⟩ := HER.out
    have HAE := Lib.hid hae
    clear hb
    go_upto_region 8 with fail
    obtain ⟨V, hV⟩ : ∃ V, V = W.setCell ⟨R, 2, none⟩ (.int .i64 (q.p : Nat)) := ⟨_, rfl⟩
    rw [← hV] at HS5 HZ5 HB5
    rw [← hV]
    clear hV c0 c1 c2 c3 c4 c5 f2
    obtain ⟨c0, c1, c2, c3, c4, c5⟩ := HS5.out.cells
    dsimp only at c0 c1 c2 c3 c4 c5
    unfold badV at c2
    have HPW := Lib.hid (show PTok V L (.slice av L.length cv) from HS5.out.tok)
    go_wp2_with fail
    refine (place_any s L _ fa q.p _ HPW.out).mono ?_
    rintro e w' ⟨rfl, hww⟩
    obtain rfl := hww.symm
    rw [(HFA.out.2.2.2 q.p), hpe]
    clear hpe hae HER
    obtain ⟨z0, z1, z2, z3, z4⟩ := five_cells HZ5.out
    obtain ⟨g0, g1, g2, g3, g4⟩ := five_free HZ5.out
    have hz := HZ5.out
    have HBF := Lib.hid (below_five HB5.out (Nat.le_refl w.heap.size) (.int .i64 0) (.int .i64 0) (.int .i64 0) (.int .i64 0) (.slice none 0 0))
    go_wp2
    (try simp only [Exit.inBlock, Exit.then])
    refine bodyPost_ret (results_ct2 rfl _ _ w.heap.size _ _ _ du rfl (five_set hz) hu1 (by cases du <;> first | rfl | exact hu2) size_term) rfl ?_
    rw [HAE.out]
    exact ⟨HBF.out, rfl⟩
  · have hlt' : ¬ (q.p : Int) < (L.length : Int) := by omega
    by_cases hfa : 0 ≤ fa
    · have HSO := Lib.hid (HFA.out.1.2 hfa)
      have HER := Lib.hid (show ∃ a, XB = .error (2, a) ∧ placeAt L (endO s.size o) q.p = a by
        have h := HEE.out
        unfold SameT at h
        cases XT with
        | ok t =>
          exfalso
          obtain ⟨-, h2⟩ := h
          rw [show endX L o.isSome q = { q with bad := some q.p } from if_pos ⟨hb, Or.inr HSO.out⟩] at h2
          cases h2
        | error a =>
          obtain ⟨b', h1, h2⟩ := h
          rw [show endX L o.isSome q = { q with bad := some q.p } from if_pos ⟨hb, Or.inr HSO.out⟩] at h1
          obtain rfl := Option.some.inj h1
          exact ⟨a, HX.out, h2⟩)
      obtain ⟨ae, hae, hpe⟩ := HER.out
      have HAE := Lib.hid hae
      clear hb
      go_upto_region 8 with fail
      obtain ⟨V, hV⟩ : ∃ V, V = W.setCell ⟨R, 2, none⟩ (.int .i64 (q.p : Nat)) := ⟨_, rfl⟩
      rw [← hV] at HS5 HZ5 HB5
      rw [← hV]
      clear hV c0 c1 c2 c3 c4 c5 f2
      obtain ⟨c0, c1, c2, c3, c4, c5⟩ := HS5.out.cells
      dsimp only at c0 c1 c2 c3 c4 c5
      unfold badV at c2
      have HPW := Lib.hid (show PTok V L (.slice av L.length cv) from HS5.out.tok)
      go_wp2_with fail
      refine (place_any s L _ fa q.p _ HPW.out).mono ?_
      rintro e w' ⟨rfl, hww⟩
      obtain rfl := hww.symm
      rw [(HFA.out.2.2.2 q.p), hpe]
      clear hpe hae HER
      obtain ⟨z0, z1, z2, z3, z4⟩ := five_cells HZ5.out
      obtain ⟨g0, g1, g2, g3, g4⟩ := five_free HZ5.out
      have hz := HZ5.out
      have HBF := Lib.hid (below_five HB5.out (Nat.le_refl w.heap.size) (.int .i64 0) (.int .i64 0) (.int .i64 0) (.int .i64 0) (.slice none 0 0))
      go_wp2
      (try simp only [Exit.inBlock, Exit.then])
      refine bodyPost_ret (results_ct2 rfl _ _ w.heap.size _ _ _ du rfl (five_set hz) hu1 (by cases du <;> first | rfl | exact hu2) size_term) rfl ?_
      rw [HAE.out]
      exact ⟨HBF.out, rfl⟩
    · have HOK := Lib.hid (show XB = .ok t1 by
        have h := HEE.out
        have hso : o.isSome = false := by cases ho : o.isSome; rfl; exact absurd (HFA.out.1.1 ho) hfa
        have he : endX L o.isSome q = q := if_neg (fun e => e.2.elim hlt (fun h => by rw [hso] at h; cases h))
        unfold SameT at h
        rw [he] at h
        have hx := HX.out
        cases XT with
        | ok t =>
          obtain ⟨h1, -⟩ := h
          rw [hx]
          have h1' : t1 = t := h1
          show (Except.ok t : Except (Nat × Nat) Tm) = .ok t1
          rw [h1']
        | error a =>
          obtain ⟨b', h1, -⟩ := h
          exfalso
          dsimp only at h1
          rw [hb] at h1
          cases h1)
      clear hb
      obtain ⟨x0, x1, x2, x3, x4⟩ := five_cells HX4.out
      obtain ⟨z0, z1, z2, z3, z4⟩ := five_cells HZ4.out
      obtain ⟨g0, g1, g2, g3, g4⟩ := five_free HZ4.out
      have hz := HZ4.out
      have HBF := Lib.hid (below_five HB4.out (Nat.le_refl w.heap.size) (.int .i64 t1.k) (.int .i64 t1.i) (.int .i64 t1.j) (.int .i64 t1.n) (.slice a2 t1.kids.length cap2))
      have HLF := Lib.hid (liesP_fives (N := w.heap.size) HL4.out HWB.out (Nat.le_of_lt HWB.out) (.int .i64 t1.k) (.int .i64 t1.i) (.int .i64 t1.j) (.int .i64 t1.n) (.slice a2 t1.kids.length cap2))
      go_wp2
      (try simp only [Exit.inBlock, Exit.then])
      refine bodyPost_ret (results_ct2 rfl _ _ w.heap.size _ _ _ du rfl (five_set hz) hu1 (by cases du <;> first | rfl | exact hu2) size_term) rfl ?_
      rw [HOK.out]
      exact ⟨HBF.out, _, rfl, HLF.out, HFI.out⟩
end Go.Proofs.YtlalolnhpcbjnaaDoor.Rt

namespace Go.Proofs.YtlalolnhpcbjnaaDoor
open Go.RowKit Go.Maps Go.ChangeShapes

def GreatR (l : Names) (w : World) (e : Ending) (w' : World) : Prop := ∃ b, e = .returned (.bool b) ∧ w = w' ∧ (b = false → l.length ≤ 60 ∧ ∀ y ∈ l, y.length ≤ 60)
set_option maxHeartbeats 1000000 in
set_option maxRecDepth 20000 in
theorem greatR_any (B : Nat) (l : Names) (v : Value) (w : World) (hN : TxLies B w l v) : Calls Tryd.prog 7 #[v] w (GreatR l w) := by
  obtain ⟨a, cap, rfl, hc, hm, hcell⟩ := hN
  have HC := Lib.hid hcell
  clear hcell hc hm
  by_cases hbig : 60 < l.length
  · go_enter Tryd.func7, Tryd.ntmps7
    go_wp2
    go_ret
    exact ⟨true, rfl, rfl, fun h => by cases h⟩
  have hbig' : l.length ≤ 60 := by omega
  go_enter Tryd.func7, Tryd.ntmps7
  go_wp2_with fail
  go_loop [3] (fun i => ∃ k : Nat, k ≤ l.length ∧ i = .int .i64 k ∧ Hid (∀ y ∈ l.take k, y.length ≤ 60)) (fun i => l.length - (intOf i).toNat)
  case atStart => exact ⟨0, Nat.zero_le _, rfl, Lib.hid (fun y hy => by simp at hy)⟩
  case round =>
    obtain ⟨k, hk, rfl, hno⟩ := hrel
    by_cases hlt : k < l.length
    · obtain ⟨g, o, rfl, hgB, c0⟩ := HC.out k hlt
      obtain ⟨y, hy⟩ : ∃ y, l[k] = y := ⟨_, rfl⟩
      rw [hy] at c0
      have HT := Lib.hid (show l.take (k + 1) = l.take k ++ [y] by rw [List.take_add_one, List.getElem?_eq_getElem hlt, hy]; rfl)
      clear hy
      by_cases hyl : 60 < y.length
      · go_wp2
        go_ret
        exact ⟨true, rfl, rfl, fun h => by cases h⟩
      · go_wp2
        go_round
        case rel =>
          refine ⟨k + 1, by omega, by go_num, Lib.hid ?_⟩
          rw [HT.out]
          intro z hz
          rcases List.mem_append.1 hz with h | h
          · exact hno.out z h
          · obtain rfl := List.mem_singleton.1 h; omega
        case measure => simp [intOf]; omega
    · obtain rfl : k = l.length := by omega
      have h1 := hno.out
      rw [List.take_length] at h1
      have H1 := Lib.hid h1
      clear h1 hno
      go_wp2
      go_ret
      exact ⟨false, rfl, rfl, fun _ => ⟨hbig', H1.out⟩⟩
end Go.Proofs.YtlalolnhpcbjnaaDoor

namespace Go.Proofs.YtlalolnhpcbjnaaDoor
theorem wk1 : readB [40, 76, 97, 109, 32, 120, 32, 40, 115, 111, 114, 116, 32, 105, 41, 32, 120, 41] [] 4 0 = .ok (.mk 14 0 0 0 [.mk 1 4 0 0 [], .mk 2 0 0 0 []]) := by kernel_rfl
theorem wk2 : readB [40, 76, 97, 109, 32, 120, 32, 40, 115, 111, 114, 116, 32, 48, 41, 32, 121, 41] [] 0 0 = .error (2, 16) := by kernel_rfl
end Go.Proofs.YtlalolnhpcbjnaaDoor

namespace Go.Proofs.YtlalolnhpcbjnaaDoor
open Go.RowKit Go.Maps Go.ChangeShapes

def wkT : Tm := .mk 14 0 0 0 [.mk 1 4 0 0 [], .mk 2 0 0 0 []]
theorem nil_texts (B : Nat) (w : World) : TxLies B w [] (.slice none 0 0) := ⟨none, 0, rfl, Nat.le_refl _, by unfold maxLen; omega, fun q hq => absurd hq (by simp)⟩
theorem kids2_cells {w : World} {B cap : Nat} {a : Option Addr} {x y : Tm} (h : LiesP w (Own B w) [x, y] (.slice a 2 cap)) : ∃ g, a = some ⟨g, 0, none⟩ ∧ 2 ≤ cap ∧ g < w.heap.size ∧ w.cell? ⟨g, 1, none⟩ = some (.int .i64 x.i) ∧ w.cell? ⟨g, 6, none⟩ = some (.int .i64 y.i) := by
  cases h with
  | mk _ _ _ S hc hm hf hn hk =>
    obtain ⟨b, rfl, hp, n0⟩ := hn 0 (by simp)
    obtain ⟨b', e, hp', n1⟩ := hn 1 (by simp)
    obtain rfl : b = b' := by injection e with e; injection e
    exact ⟨b, rfl, hc, hlt_of hp.2.choose_spec, n0.c1, n1.c1⟩
theorem symN_crefl : symN [99, 114, 101, 102, 108] = 21 := by decide
theorem nameB_one : nameB 1 = [117, 105, 112] := by decide
set_option maxRecDepth 20000 in
set_option maxHeartbeats 2000000 in
theorem wakes9_any (w : World) (hT : TabsR w.heap.size w) : Calls Tryd.prog 11 #[] w fun e w' => e = .returned (.bool true) ∧ Below w.heap.size w w' := by
  have H1 := Lib.hid (read_any ⟨#[40, 76, 97, 109, 32, 120, 32, 40, 115, 111, 114, 116, 32, 105, 41, 32, 120, 41]⟩ [] (.slice none 0 0) 4 0 w (by decide) hT (nil_texts _ _) (by decide) (fun y hy => by cases hy))
  rw [show readB (ByteArray.mk #[40, 76, 97, 109, 32, 120, 32, 40, 115, 111, 114, 116, 32, 105, 41, 32, 120, 41]).data.toList [] 4 0 = .ok wkT from wk1] at H1
  have HT := Lib.hid hT
  clear hT
  go_enter Tryd.func11, Tryd.ntmps11
  go_wp2_with fail
  refine H1.out.mono ?_
  intro e w1 hg
  obtain ⟨hB1, sv, he, hl, hfi⟩ := hg
  obtain ⟨a, cap, rfl, -, -⟩ := hl.out
  have he' : e = .returned (.tuple #[.agg #[.int .i64 14, .int .i64 0, .int .i64 0, .int .i64 0, .slice a 2 cap], .int .i64 0, .int .i64 0]) := he
  clear he
  subst he'
  have hT1 := (HT.out.keep hB1).up hB1.size
  have hba := al w1 (.cells #[.int .i64 14, .int .i64 0, .int .i64 0, .int .i64 0, .slice a 2 cap] 26)
  have HT2 := Lib.hid ((hT1.keep hba).up hba.size)
  have HN2 := Lib.hid (show (w1.alloc (.cells #[.int .i64 14, .int .i64 0, .int .i64 0, .int .i64 0, .slice a 2 cap] 26)).heap[w1.heap.size]? = some (.cells #[.int .i64 14, .int .i64 0, .int .i64 0, .int .i64 0, .slice a 2 cap] 26) from alloc_new _ _)
  have HL2 := Lib.hid (hl.later hba)
  have HB2 := Lib.hid (hB1.trans (hba.mono hB1.size))
  have hs1 : w1.heap.size < (w1.alloc (.cells #[.int .i64 14, .int .i64 0, .int .i64 0, .int .i64 0, .slice a 2 cap] 26)).heap.size := by simp
  clear hB1 hl hfi hT1 hba
  go_upto_region 2 with fail
  obtain ⟨W, hW⟩ : ∃ W, W = w1.alloc (.cells #[.int .i64 14, .int .i64 0, .int .i64 0, .int .i64 0, .slice a 2 cap] 26) := ⟨_, rfl⟩
  rw [← hW] at HT2 HN2 HL2 HB2 hs1
  rw [← hW]
  clear hW
  have H2 := Lib.hid (read_any ⟨#[40, 76, 97, 109, 32, 120, 32, 40, 115, 111, 114, 116, 32, 48, 41, 32, 121, 41]⟩ [] (.slice none 0 0) 0 0 W (by decide) HT2.out (nil_texts _ _) (by decide) (fun y hy => by cases hy))
  rw [show readB (ByteArray.mk #[40, 76, 97, 109, 32, 120, 32, 40, 115, 111, 114, 116, 32, 48, 41, 32, 121, 41]).data.toList [] 0 0 = .error (2, 16) from wk2] at H2
  go_wp2_with fail
  refine H2.out.mono ?_
  intro e w2 hg
  obtain ⟨hB, hg⟩ := hg
  obtain rfl := hg
  have hba := al w2 (.cells #[.int .i64 0, .int .i64 0, .int .i64 0, .int .i64 0, .slice none 0 0] 26)
  have hW3 := hB.trans (hba.mono hB.size)
  have HT3 := Lib.hid ((HT2.out.keep hW3).up hW3.size)
  have HB3 := Lib.hid (HB2.out.trans (hW3.mono HB2.out.size))
  have hn3 := (hW3.block _ hs1).trans HN2.out
  obtain ⟨⟨q0, q1, q2, q3, q4⟩, -, hGl⟩ := cells5_of hn3
  obtain ⟨g, rfl, hcap, hgl, k1, k2⟩ := kids2_cells (HL2.out.later hW3)
  clear hB hba hn3 H1 H2 HN2 HL2
  go_upto_region 3 with fail
  obtain ⟨V, hV⟩ : ∃ V, V = w2.alloc (.cells #[.int .i64 0, .int .i64 0, .int .i64 0, .int .i64 0, .slice none 0 0] 26) := ⟨_, rfl⟩
  rw [← hV] at HT3 HB3 q0 q1 q2 q3 q4 hGl hgl k1 k2
  rw [← hV]
  clear hV hW3
  have HS := Lib.hid (symbol_any V.heap.size [99, 114, 101, 102, 108] V HT3.out)
  have HN := Lib.hid (nameR_any V.heap.size 1 V HT3.out)
  rw [symN_crefl] at HS
  rw [nameB_one] at HN
  go_wp2_with fail
  refine HS.out.mono ?_
  rintro e w4 ⟨rfl, rfl⟩
  go_wp2_with fail
  refine HN.out.mono ?_
  rintro e w4 ⟨rfl, rfl⟩
  go_wp2
  go_ret
  exact ⟨rfl, HB3.out⟩
end Go.Proofs.YtlalolnhpcbjnaaDoor

namespace Go.Proofs.YtlalolnhpcbjnaaDoor
open Go.RowKit

mutual
def sameB : Tm → Tm → Bool
  | .mk k i j n l, .mk k' i' j' n' l' => (k == k') && ((i == i') && ((j == j') && ((n == n') && samesB l l')))
def samesB : List Tm → List Tm → Bool
  | [], [] => true
  | x :: r, y :: s => sameB x y && samesB r s
  | [], _ :: _ => false
  | _ :: _, [] => false
end

theorem sameB_eq (a b : Tm) : sameB a b = ((a.k == b.k) && ((a.i == b.i) && ((a.j == b.j) && ((a.n == b.n) && samesB a.kids b.kids)))) := by
  cases a; cases b; simp only [sameB]; rfl

theorem samesB_length : ∀ {l m : List Tm}, samesB l m = true → l.length = m.length
  | [], [], _ => rfl
  | x :: r, y :: s, h => by simp only [samesB, Bool.and_eq_true] at h; simp [samesB_length h.2]
  | [], _ :: _, h => by simp [samesB] at h
  | _ :: _, [], h => by simp [samesB] at h

theorem sameB_self (a : Tm) : sameB a a = true := by
  induction a using Tm.ind with
  | h a ih =>
    rw [sameB_eq]
    have key : ∀ (l : List Tm), (∀ x ∈ l, sameB x x = true) → samesB l l = true := by
      intro l
      induction l with
      | nil => intro _; simp [samesB]
      | cons x r ihl => intro hx; simp only [samesB, hx x List.mem_cons_self, Bool.true_and]; exact ihl (fun z hz => hx z (List.mem_cons_of_mem _ hz))
    simp [key a.kids ih]

theorem sames_take : ∀ (l m : List Tm) (k : Nat) (h : k < l.length) (h' : k < m.length), samesB (l.take (k + 1)) (m.take (k + 1)) = (samesB (l.take k) (m.take k) && sameB l[k] m[k])
  | x :: r, y :: s, 0, _, _ => by simp [samesB]
  | x :: r, y :: s, k + 1, h, h' => by
    simp only [List.take_succ_cons, samesB, List.getElem_cons_succ]
    rw [sames_take r s k (by simpa using h) (by simpa using h'), Bool.and_assoc]

theorem sames_of : ∀ (l m : List Tm) (k : Nat) (h : k < l.length) (h' : k < m.length), sameB l[k] m[k] = false → samesB l m = false
  | x :: r, y :: s, 0, _, _, hs => by simp only [List.getElem_cons_zero] at hs; simp [samesB, hs]
  | x :: r, y :: s, k + 1, h, h', hs => by
    simp only [List.getElem_cons_succ] at hs
    simp [samesB, sames_of r s k (by simpa using h) (by simpa using h') hs]

theorem sames_ne {l m : List Tm} (h : l.length ≠ m.length) : samesB l m = false := by
  cases hs : samesB l m with
  | false => rfl
  | true => exact absurd (samesB_length hs) h

/-- Two boxed terms, and what is new beside them. -/
def Held2 (w : World) (a : Tm) (s : Value) (b : Tm) (r : Value) (w' : World) : Prop := Below (w.heap.size + 2) ((w.alloc (boxOf a s)).alloc (boxOf b r)) w'

theorem held2_start (w : World) (a : Tm) (s : Value) (b : Tm) (r : Value) : Held2 w a s b r ((w.alloc (.cells #[.int .i64 a.k, .int .i64 a.i, .int .i64 a.j, .int .i64 a.n, s] 26)).alloc (.cells #[.int .i64 b.k, .int .i64 b.i, .int .i64 b.j, .int .i64 b.n, r] 26)) := Below.refl _ _
theorem held2_first {w w' : World} {a b : Tm} {s r : Value} (h : Held2 w a s b r w') : Held w a s w' := by
  unfold Held2 at h; unfold Held
  exact ((Below.refl _ _).alloc (by simp) _).trans (h.mono (by omega))
theorem held2_call {w w1 w2 : World} {a b : Tm} {s r : Value} (h : Held2 w a s b r w1) (hb : Below w1.heap.size w1 w2) : Held2 w a s b r w2 :=
  below_call h hb (by have := h.size; simpa using this)
theorem held2_below {w w1 : World} {a b : Tm} {s r : Value} (h : Held2 w a s b r w1) : Below w.heap.size w w1 := held_below (held2_first h)
theorem held2_lies {w w1 : World} {a b : Tm} {s r s' : Value} {l : List Tm} (h : Held2 w a s b r w1) (hl : Lies w l s') : Lies w1 l s' := hl.keep (held2_below h)
end Go.Proofs.YtlalolnhpcbjnaaDoor

namespace Go.Proofs.YtlalolnhpcbjnaaDoor
open Go.RowKit

set_option maxHeartbeats 1000000 in
theorem terms_of (l : List Tm) (ih : ∀ x ∈ l, ∀ (y : Tm) (w : World) (s r : Value), Lies w x.kids s → Lies w y.kids r → Calls Tryd.prog 10 #[tv x s, tv y r] w fun e w' => e = .returned (.bool (sameB x y)) ∧ Below w.heap.size w w')
    (m : List Tm) (w : World) (s r : Value) (hl : Lies w l s) (hm : Lies w m r) : Calls Tryd.prog 14 #[s, r] w fun e w' => e = .returned (.bool (samesB l m)) ∧ Below w.heap.size w w' := by
  obtain ⟨a, cap, S, rfl, hc, hmx, -, hn, hk⟩ := hl.out
  obtain ⟨a2, cap2, S2, rfl, hc2, hmx2, -, hn2, hk2⟩ := hm.out
  unfold maxLen at hmx hmx2
  have IH := Lib.hid ih
  have HN := Lib.hid hn
  have HK := Lib.hid hk
  have HN2 := Lib.hid hn2
  have HK2 := Lib.hid hk2
  clear ih hn hk hn2 hk2 hl hm
  by_cases hlen : l.length = m.length
  rotate_left
  · have h1 : ((l.length : Int) == (m.length : Int)) = false := by simp; omega
    have h2 : ((l.length : Int) != (m.length : Int)) = true := by simp; omega
    have HS := Lib.hid (sames_ne hlen)
    clear hlen
    go_enter Tryd.func14, Tryd.ntmps14
    go_wp2
    go_ret
    exact ⟨ret_bool HS.out.symm, Below.refl _ _⟩
  have h1 : ((l.length : Int) == (m.length : Int)) = true := by simp; omega
  have h2 : ((l.length : Int) != (m.length : Int)) = false := by simp; omega
  have HL := Lib.hid hlen
  clear hlen
  go_enter Tryd.func14, Tryd.ntmps14
  go_wp2
  go_loopw [5] (fun iv wr => ∃ k : Nat, k ≤ l.length ∧ iv = .int .i64 k ∧ Hid (samesB (l.take k) (m.take k) = true) ∧ Below w.heap.size w wr) (fun iv _ => l.length - (intOf iv).toNat)
  case atStart => exact ⟨0, Nat.zero_le _, rfl, by simp [Hid, samesB], Below.refl _ _⟩
  case round =>
    obtain ⟨k, hk, rfl, hgood, hb⟩ := hrel
    by_cases hlt : k < l.length
    · have hlt2 : k < m.length := by have := HL.out; omega
      obtain ⟨b, o, rfl, hx⟩ := HN.out k hlt
      obtain ⟨b2, o2, rfl, hx2⟩ := HN2.out k hlt2
      obtain ⟨c0, c1, c2, c3, c4⟩ := hx.below hb hx.lt
      obtain ⟨e0, e1, e2, e3, e4⟩ := hx2.below hb hx2.lt
      have hq := (HK.out k hlt).keep hb
      have hq2 := (HK2.out k hlt2).keep hb
      obtain ⟨a', cap', S', hS, -⟩ := hq.out
      obtain ⟨a2', cap2', S2', hS2, -⟩ := hq2.out
      rw [hS] at c4 hq
      rw [hS2] at e4 hq2
      have HQ := Lib.hid hq
      have HQ2 := Lib.hid hq2
      have HM := Lib.hid (List.getElem_mem hlt)
      have HT := Lib.hid (sames_take l m k hlt hlt2)
      have HO := Lib.hid (sames_of l m k hlt hlt2)
      clear hS hS2 hq hq2
      go_wp2
      go_region_with (go_at_call 10; refine (IH.out _ HM.out _ _ _ _ (HQ.out.keep (Below.refl _ _).drew) (HQ2.out.keep (Below.refl _ _).drew)).mono ?_; rintro e wn ⟨rfl, hb'⟩; have HB3 := below_call hb.drew hb' hb.size; clear hb')
      all_goals
        cases hs : sameB l[k] m[k]
        · go_wp2
          go_ret
          exact ⟨ret_bool (HO.out hs).symm, HB3⟩
        · go_wp2
          go_roundw
          case rel => exact ⟨k + 1, by omega, by go_num, by show _ = true; rw [HT.out, hgood.out, hs]; rfl, HB3⟩
          case measure => simp [intOf]; omega
    · have : k = l.length := by omega
      subst this
      go_wp2
      go_ret
      exact ⟨ret_bool (by have hg := hgood.out; rw [List.take_length, HL.out, List.take_length] at hg; exact hg.symm), hb⟩

set_option maxHeartbeats 1000000 in
theorem keepsame_any (t : Tm) : ∀ (u : Tm) (w : World) (s r : Value), Lies w t.kids s → Lies w u.kids r → Calls Tryd.prog 10 #[tv t s, tv u r] w fun e w' => e = .returned (.bool (sameB t u)) ∧ Below w.heap.size w w' := by
  induction t using Tm.ind with
  | h t ih =>
    intro u w s r hl hm
    obtain ⟨a, cap, S, rfl, -⟩ := hl.out
    obtain ⟨a2, cap2, S2, rfl, -⟩ := hm.out
    have HTM := Lib.hid (terms_of t.kids ih)
    have HE := Lib.hid (sameB_eq t u)
    have HL := Lib.hid hl
    have HM := Lib.hid hm
    have H0 := held2_start w t (.slice a t.kids.length cap) u (.slice a2 u.kids.length cap2)
    clear hl hm ih
    unfold tv
    cases ek : (t.k == u.k)
    · go_enter Tryd.func10, Tryd.ntmps10
      go_wp2
      go_ret
      exact ⟨ret_bool (by rw [HE.out]; simp only [ek, Bool.false_and]), held2_below H0⟩
    cases ei : (t.i == u.i)
    · go_enter Tryd.func10, Tryd.ntmps10
      go_wp2
      go_ret
      exact ⟨ret_bool (by rw [HE.out]; simp only [ek, ei, Bool.false_and, Bool.true_and]), held2_below H0⟩
    cases ej : (t.j == u.j)
    · go_enter Tryd.func10, Tryd.ntmps10
      go_wp2
      go_ret
      exact ⟨ret_bool (by rw [HE.out]; simp only [ek, ei, ej, Bool.false_and, Bool.true_and]), held2_below H0⟩
    cases en : (t.n == u.n)
    · go_enter Tryd.func10, Tryd.ntmps10
      go_wp2
      go_ret
      exact ⟨ret_bool (by rw [HE.out]; simp only [ek, ei, ej, en, Bool.false_and, Bool.true_and]), held2_below H0⟩
    go_enter Tryd.func10, Tryd.ntmps10
    go_wp2_with fail
    refine (HTM.out u.kids _ _ _ (held2_lies H0 HL.out) (held2_lies H0 HM.out)).mono ?_
    rintro e wn ⟨rfl, hb'⟩
    have H1 := held2_call H0 hb'
    clear hb'
    go_wp2
    go_ret
    exact ⟨ret_bool (by rw [HE.out]; simp only [ek, ei, ej, en, Bool.true_and]), held2_below H1⟩
end Go.Proofs.YtlalolnhpcbjnaaDoor

namespace Go.Proofs.YtlalolnhpcbjnaaDoor
open Go.RowKit Go.Maps Go.ChangeShapes

def outT (x : Except (Nat × Nat) Tm) : Tm := match x with
  | .error _ => Tm.zero
  | .ok t => t
def outK (x : Except (Nat × Nat) Tm) : Nat := match x with
  | .error (k, _) => k
  | .ok _ => 0
def outA (x : Except (Nat × Nat) Tm) : Nat := match x with
  | .error (_, a) => a
  | .ok _ => 0
theorem readG_out {w w' : World} {x : Except (Nat × Nat) Tm} {e : Ending} (h : ReadG w x e w') : ∃ s, e = .returned (.tuple #[tv (outT x) s, .int .i64 (outK x : Nat), .int .i64 (outA x : Nat)]) ∧ LiesP w' (Own w.heap.size w') (outT x).kids s ∧ Below w.heap.size w w' := by
  obtain ⟨hb, h⟩ := h
  cases x with
  | error p =>
    obtain ⟨k, a⟩ := p
    exact ⟨_, h, liesP_nil _ _, hb⟩
  | ok t =>
    obtain ⟨s, h1, h2, -⟩ := h
    exact ⟨s, h1, h2, hb⟩
set_option maxHeartbeats 2000000 in
set_option maxRecDepth 20000 in
theorem readExact_any (s : ByteArray) (l : Names) (v : Value) (i j : Int) (w : World) (hN : TxLies w.heap.size w l v) (hT : TabsR w.heap.size w) : Calls Tryd.prog 3 #[.string s, v, .int .i64 i, .int .i64 j] w fun e w' => e = .returned (.bool true) ∧ Below w.heap.size w w' := by
  have HG := Lib.hid (greatR_any w.heap.size l v w hN)
  have HRD := Lib.hid (fun (h1 : s.size ≤ 2000) (h2 : l.length ≤ 60 ∧ ∀ y ∈ l, y.length ≤ 60) => read_any s l v i j w (by omega) hT hN (by omega) (fun y hy => by have := h2.2 y hy; omega))
  have HRP := Lib.hid (fun (h1 : s.size ≤ 2000) (h2 : l.length ≤ 60) (w' : World) (hb : Below w.heap.size w w') => Rt.pread_any s l v i j w' (by omega) ((hN.keep hb).up hb.size) (by omega))
  obtain ⟨a, cap, rfl, -⟩ := hN
  have HT := Lib.hid hT
  clear hT
  by_cases hbig : 2000 < s.size
  · go_enter Tryd.func3, Tryd.ntmps3
    go_wp2
    go_ret
    exact ⟨rfl, Below.refl _ _⟩
  have hbig' : s.size ≤ 2000 := by omega
  go_enter Tryd.func3, Tryd.ntmps3
  go_wp2_with fail
  refine HG.out.mono ?_
  rintro e w1 ⟨b, rfl, rfl, hb⟩
  cases b with
  | true =>
    go_wp2
    go_ret
    exact ⟨rfl, Below.refl _ _⟩
  | false =>
  have hb := hb rfl
  have H1 := Lib.hid (HRD.out hbig' hb)
  have HP1 := Lib.hid (HRP.out hbig' hb.1)
  clear hb HRD HRP
  obtain ⟨X, hX⟩ : ∃ X, readB s.data.toList l i j = X := ⟨_, rfl⟩
  rw [hX] at H1 HP1
  clear hX
  go_wp2_with fail
  refine H1.out.mono ?_
  intro e w2 hg
  obtain ⟨sv, rfl, hl, hB⟩ := readG_out hg
  obtain ⟨t, ht⟩ : ∃ t, outT X = t := ⟨_, rfl⟩
  obtain ⟨kk, hkk⟩ : ∃ kk, outK X = kk := ⟨_, rfl⟩
  obtain ⟨aa, haa⟩ : ∃ aa, outA X = aa := ⟨_, rfl⟩
  have HQ := Lib.hid (fun (w' e w'') (h : ReadG w' X e w'') => show ∃ s, e = .returned (.tuple #[tv t s, .int .i64 (kk : Nat), .int .i64 (aa : Nat)]) ∧ LiesP w'' (Own w'.heap.size w'') t.kids s ∧ Below w'.heap.size w' w'' from by rw [← ht, ← hkk, ← haa]; exact readG_out h)
  rw [ht] at hl
  rw [ht, hkk, haa]
  clear ht hkk haa hg H1
  obtain ⟨au, cu, rfl, -, -⟩ := hl.out
  have hba := al w2 (.cells #[.int .i64 t.k, .int .i64 t.i, .int .i64 t.j, .int .i64 t.n, .slice au t.kids.length cu] 26)
  have HB2 := Lib.hid (hB.trans (hba.mono hB.size))
  have HL2 := Lib.hid (hl.later hba)
  have HN2 := Lib.hid (alloc_new w2 (.cells #[.int .i64 t.k, .int .i64 t.i, .int .i64 t.j, .int .i64 t.n, .slice au t.kids.length cu] 26))
  clear hB hba hl
  unfold tv
  go_upto_region 4 with fail
  obtain ⟨W, hW⟩ : ∃ W, W = w2.alloc (.cells #[.int .i64 t.k, .int .i64 t.i, .int .i64 t.j, .int .i64 t.n, .slice au t.kids.length cu] 26) := ⟨_, rfl⟩
  rw [← hW] at HB2 HL2 HN2
  rw [← hW]
  have hlt : w2.heap.size < W.heap.size := by rw [hW]; simp
  clear hW
  have HP2 := Lib.hid (HP1.out W HB2.out)
  clear HP1
  go_wp2_with fail
  refine HP2.out.mono ?_
  intro e w4 hg
  obtain ⟨sv, rfl, hl, hB⟩ := HQ.out _ _ _ hg
  obtain ⟨a2, c2, rfl, -, -⟩ := hl.out
  have hba := al w4 (.cells #[.int .i64 t.k, .int .i64 t.i, .int .i64 t.j, .int .i64 t.n, .slice a2 t.kids.length c2] 26)
  have hW4 := hB.trans (hba.mono hB.size)
  have HB4 := Lib.hid (HB2.out.trans (hW4.mono HB2.out.size))
  have HL4 := Lib.hid (hl.later hba)
  have HM4 := Lib.hid (HL2.out.later hW4)
  have HN4 := Lib.hid ((hW4.block _ hlt).trans HN2.out)
  have HO4 := Lib.hid (alloc_new w4 (.cells #[.int .i64 t.k, .int .i64 t.i, .int .i64 t.j, .int .i64 t.n, .slice a2 t.kids.length c2] 26))
  clear hB hba hl hW4 HL2 HN2 hg HQ HP2
  unfold tv
  go_upto_region 5 with fail
  obtain ⟨V, hV⟩ : ∃ V, V = w4.alloc (.cells #[.int .i64 t.k, .int .i64 t.i, .int .i64 t.j, .int .i64 t.n, .slice a2 t.kids.length c2] 26) := ⟨_, rfl⟩
  rw [← hV] at HB4 HL4 HM4 HN4 HO4
  rw [← hV]
  clear hV
  obtain ⟨⟨q0, q1, q2, q3, q4⟩, -, -⟩ := cells5_of HN4.out
  obtain ⟨⟨p0, p1, p2, p3, p4⟩, -, -⟩ := cells5_of HO4.out
  go_wp2_with fail
  refine (keepsame_any t t V _ _ HM4.out.lies HL4.out.lies).mono ?_
  rintro e w5 ⟨rfl, hb5⟩
  rw [sameB_self]
  have HB5 := Lib.hid (HB4.out.trans (hb5.mono HB4.out.size))
  clear hb5 q0 q1 q2 q3 q4 p0 p1 p2 p3 p4
  go_wp2_with fail
  refine (wakes9_any _ ((HT.out.keep HB5.out).up HB5.out.size)).mono ?_
  rintro e w6 ⟨rfl, hb6⟩
  have HB6 := Lib.hid (HB5.out.trans (hb6.mono HB5.out.size))
  clear hb6
  go_wp2
  go_ret
  exact ⟨rfl, HB6.out⟩
end Go.Proofs.YtlalolnhpcbjnaaDoor

namespace Go.Proofs.YtlalolnhpcbjnaaDoor
open Go.ChangeShapes Go.WideShapes Go.ChangeAt Go.RowKit

theorem own : ownKnob Tryd.prog.godebug = none := by kernel_rfl
theorem laidOut : laidOutB Tryd.prog = true := by kernel_rfl

instance instOpenTm : Inhabited (Tm × Value) := ⟨(.mk 0 0 0 0 [], .nilIface)⟩

end Go.Proofs.YtlalolnhpcbjnaaDoor

namespace Go.Proofs.YtlalolnhpcbjnaaDoor
open Go.ChangeShapes Go.WideShapes Go.ChangeAt Go.RowKit

theorem cells_str : Tryd.prog.cellsOf 9 = 1 := by kernel_rfl
theorem add_plainS (b o i : Nat) : (⟨b, o, none⟩ : Addr).add i = ⟨b, o + i, none⟩ := by simp [Addr.add]
theorem lt_of_cellS {w : World} {b i : Nat} {v : Value} (h : w.cell? ⟨b, i, none⟩ = some v) : b < w.heap.size := by
  rcases Nat.lt_or_ge b w.heap.size with h1 | h1
  · exact h1
  · exfalso
    simp [World.cell?, Array.getElem?_eq_none h1] at h
set_option maxRecDepth 20000 in
theorem open_argSS {H : Type} {enc : TypeId × Value → H} {W : World} {r : Reach} {b0 base : Nat} {sp : Nat → Bool} {hd : Bool} {v : Value} {d : DataW H} {p : List MemPlace} (hv : Value.okWide Tryd.prog W r b0 22 v)
    (h : DataW.Trod enc Tryd.prog W base sp hd 22 v d p) : ∃ l : Names, TxLies W.heap.size W l v := by
  obtain ⟨a0, len0, cap0, rfl⟩ := okWide_slice Tryd.underlying22 hv
  obtain ⟨fuel, hf⟩ := h
  rcases open_strings Tryd.underlying22 Tryd.underlying9 cells_str hf with ⟨hcs, -⟩ | ⟨a, len, cap, zs, hcs, -, hl, hm, hz, -, hcell, -⟩
  · simp [Value.cells] at hcs
    obtain ⟨rfl, rfl, rfl⟩ := hcs
    exact ⟨[], none, 0, rfl, Nat.zero_le _, Nat.zero_le _, fun i hi => absurd hi (Nat.not_lt_zero _)⟩
  · simp [Value.cells] at hcs
    obtain ⟨rfl, rfl, rfl⟩ := hcs
    have hlz : len0 ≤ zs.length := by rw [hz]; split <;> omega
    have hln : ((zs.take len0).map fun s => s.data.toList).length = len0 := by rw [List.length_map, List.length_take, Nat.min_eq_left hlz]
    refine ⟨(zs.take len0).map fun s => s.data.toList, some a, cap0, by rw [hln], by rw [hln]; omega, hm, fun i hi => ?_⟩
    have hi' : i < len0 := by rw [hln] at hi; exact hi
    have h1 := hcell i (by omega)
    obtain ⟨b, o, spot⟩ := a
    have h0 := hcell 0 (by omega)
    have hs : spot = none := by simpa [Addr.add] using World.cell?_spot h0
    clear h0
    subst hs
    rw [add_plainS] at h1
    refine ⟨b, o, rfl, lt_of_cellS h1, ?_⟩
    rw [h1, List.getElem_map, List.getElem_take]
    have hzz : zs.getD i ByteArray.empty = zs[i] := by rw [List.getD_eq_getElem?_getD, List.getElem?_eq_getElem (by omega)]; rfl
    rw [hzz]
end Go.Proofs.YtlalolnhpcbjnaaDoor

namespace Go.Proofs.YtlalolnhpcbjnaaDoor
open Go.RowKit Go.Lib

/-- The library's table stays as it is whatever is made. -/
def Tab (w : World) : Prop := TabBelow Tryd.prog w.heap.size w "internal/strconv.uint64pow10" .u64 pow10Tab
theorem Tab.later {w w' : World} (h : Tab w) (hb : Below w.heap.size w w') : Tab w' := fun _ h2 => TabBelow.here (TabBelow.on h (hb.trans (h2.mono hb.size)))
/-- A variable that holds just these texts. -/
def StrIs (w : World) (name : String) (ss : List (List UInt8)) : Prop := w.var? Tryd.prog name = some (ss.map fun s => Value.string ⟨s.toArray⟩).toArray
theorem StrIs.cell {W : World} {name : String} {ss : List (List UInt8)} {g : Nat} (h : StrIs W name ss) (hg : Tryd.prog.globalNamed name = some g) (i : Nat) (hi : i < ss.length) : W.cell? ⟨g, i, none⟩ = some (.string ⟨(ss[i]).toArray⟩) := by
  have := World.var?_cell hg h i
  simpa [hi] using this
theorem StrIs.on {w w' : World} {name : String} {ss : List (List UInt8)} (h : StrIs w name ss) (hb : Below w.heap.size w w') : StrIs w' name ss := by
  unfold StrIs World.var? at *
  cases hg : Tryd.prog.globalNamed name with
  | none => simp [hg] at h
  | some g =>
    simp only [hg, Option.bind_some] at h ⊢
    have hlt : g < w.heap.size := by
      rcases Nat.lt_or_ge g w.heap.size with h' | h'
      · exact h'
      · rw [Array.getElem?_eq_none h'] at h; simp at h
    rw [hb.block g hlt]
    exact h
/-- What a text of a term is written from. -/
structure WTab (w : World) : Prop where
  pow : Tab w
  syms : StrIs w "tranship/read.symbols" symsW
  heads : StrIs w "tranship/write.heads" headsW
theorem WTab.later {w w' : World} (h : WTab w) (hb : Below w.heap.size w w') : WTab w' := ⟨h.pow.later hb, h.syms.on hb, h.heads.on hb⟩
end Go.Proofs.YtlalolnhpcbjnaaDoor

namespace Go.Proofs.YtlalolnhpcbjnaaDoor
theorem lt_of_cell {w : World} {b i : Nat} {v : Value} (h : w.cell? ⟨b, i, none⟩ = some v) : b < w.heap.size := by
  rcases Nat.lt_or_ge b w.heap.size with h1 | h1
  · exact h1
  · exfalso
    simp [World.cell?, Array.getElem?_eq_none h1] at h
open Go.ChangeShapes Go.WideShapes Go.ChangeAt Go.WideMaps Go.WideElems Go.RowKit

def laidT : List (String × DataW Unit) := Rows.readExactRow.laid
theorem door_met (os : Os) (args : Array Value) : laidMetH Tryd.prog laidT ((World.doorLaid Tryd.prog 400 os).forCall (fun _ _ => 0) ⟨#[], args, []⟩).memory :=
  laidMetH_of_parts3 (fuel := 8) (laidMet_of_run' 8 (by kernel_rfl) (by kernel_rfl)) (by kernel_rfl) (by kernel_rfl)
/-- A table of texts as a row lists it. -/
def strData {H : Type} (ss : List (List UInt8)) : DataW H := .agg (ss.map fun s => .lit (.string s))
theorem cells_of_strs {H : Type} {enc : TypeId × Value → H} {P : Program} {w : World} {base : Nat} {sp : Nat → Bool} {held : Bool} {fuel : Nat} {t e : TypeId} {n : Nat} {cs : List Value} {zs : List (List UInt8)} {p : List MemPlace}
    (ht : P.underlying t = some (.array n e)) (he : P.underlying e = some .string) (hce : P.cellsOf e = 1) (hct : P.cellsOf t = n)
    (h : DataW.trod enc P w base sp held fuel t cs = some (strData zs, p)) : cs = zs.map fun z => Value.string ⟨z.toArray⟩ := by
  cases fuel with
  | zero => simp [DataW.trod] at h
  | succ fuel =>
    simp only [DataW.trod, ht, hce, hct, Nat.mul_one] at h
    split at h
    · rename_i hl
      obtain ⟨xs, hm, hx⟩ := Option.map_eq_some_iff.1 h
      have hxs : xs.map (·.1) = zs.map fun z => (DataW.lit (.string z) : DataW H) := by
        have := congrArg Prod.fst hx
        simpa [strData] using this
      have hxl : xs.length = n := by simpa using Lib.mapM_length hm
      have hzl : zs.length = n := by
        have := congrArg List.length hxs
        simp at this
        omega
      apply List.ext_getElem?
      intro i
      by_cases hi : i < n
      · obtain ⟨b, hb, hf⟩ := Lib.mapM_at hm i i (by simp [hi])
        obtain ⟨z, hc, rfl, _⟩ := DataW.trod_string he hf
        have h1 : cs[i]? = some (.string z) := by
          have := congrArg (·[0]?) hc
          simpa [List.getElem?_take, List.getElem?_drop] using this
        have h2 : (xs.map (·.1))[i]? = some (DataW.lit (.string z.data.toList) : DataW H) := by simp [hb]
        rw [hxs] at h2
        simp only [List.getElem?_map, Option.map_eq_some_iff, DataW.lit.injEq, Lit.string.injEq] at h2
        obtain ⟨z', hz', e2⟩ := h2
        rw [h1, List.getElem?_map, hz']
        subst e2
        simp
      · rw [List.getElem?_eq_none (by omega), List.getElem?_eq_none (by simp; omega)]
    · cases h
theorem strIs_of_head {W : World} {name : String} {zs : List (List UInt8)} {rest : List (String × DataW Unit)} {g : Nat} {t e : TypeId} {n : Nat}
    (hg : Tryd.prog.globalNamed name = some g) (hty : (Tryd.prog.globals[g]?).map (·.type) = some t) (ht : Tryd.prog.underlying t = some (.array n e)) (he : Tryd.prog.underlying e = some .string) (hce : Tryd.prog.cellsOf e = 1) (hct : Tryd.prog.cellsOf t = n)
    (h : laidMet Tryd.prog ((name, strData zs) :: rest) W) : StrIs W name zs := by
  obtain ⟨ps, ⟨g', t', cs, fuel, p, q, hg', ht', hvar, hd, _, _⟩, _⟩ := h
  obtain rfl := Option.some.inj (hg.symm.trans hg')
  obtain rfl := Option.some.inj (hty.symm.trans ht')
  unfold StrIs
  rw [hvar, ← cells_of_strs ht he hce hct hd]
theorem syms_of_laid {W : World} (h : laidMetH Tryd.prog laidT W) : StrIs W "tranship/read.symbols" symsW := by
  have h2 := h.filter fun x => x.1 == "tranship/read.symbols"
  have e : (laidT.filter fun x => x.1 == "tranship/read.symbols") = [("tranship/read.symbols", strData symsW)] := by kernel_rfl
  rw [e] at h2
  rw [MakeChecks.laidMetH_plain _ _ _ (by kernel_rfl)] at h2
  exact strIs_of_head (g := 0) (t := 69) (e := 9) (n := 21) (by kernel_rfl) (by kernel_rfl) Tryd.underlying69 Tryd.underlying9 (by kernel_rfl) (by kernel_rfl) h2
theorem rheads_of_laid {W : World} (h : laidMetH Tryd.prog laidT W) : StrIs W "tranship/read.heads" (headsW.drop 3) := by
  have h2 := h.filter fun x => x.1 == "tranship/read.heads"
  have e : (laidT.filter fun x => x.1 == "tranship/read.heads") = [("tranship/read.heads", strData (headsW.drop 3))] := by kernel_rfl
  rw [e] at h2
  rw [MakeChecks.laidMetH_plain _ _ _ (by kernel_rfl)] at h2
  exact strIs_of_head (g := 1) (t := 69) (e := 9) (n := 21) (by kernel_rfl) (by kernel_rfl) Tryd.underlying69 Tryd.underlying9 (by kernel_rfl) (by kernel_rfl) h2
theorem tabsR_of_laid {W : World} (h : laidMetH Tryd.prog laidT W) : TabsR W.heap.size W := by
  have h1 := syms_of_laid h
  have h2 := rheads_of_laid h
  have c1 : ∀ k < 21, W.cell? ⟨0, k, none⟩ = some (.string ⟨((symsW[k]?).getD []).toArray⟩) := fun k hk => by
    have hl : k < symsW.length := hk
    rw [h1.cell (g := 0) (by kernel_rfl) k hl, List.getElem?_eq_getElem hl]; rfl
  have c2 : ∀ k < 21, W.cell? ⟨1, k, none⟩ = some (.string ⟨(((headsW.drop 3)[k]?).getD []).toArray⟩) := fun k hk => by
    have hl : k < (headsW.drop 3).length := hk
    rw [h2.cell (g := 1) (by kernel_rfl) k hl, List.getElem?_eq_getElem hl]; rfl
  exact ⟨⟨lt_of_cell (c2 0 (by decide)), lt_of_cell (c1 0 (by decide))⟩, c2, c1⟩
end Go.Proofs.YtlalolnhpcbjnaaDoor

namespace Go.Proofs.YtlalolnhpcbjnaaDoor
open Go.ChangeShapes Go.WideShapes

def code (l : List Nat) : List Char := l.map Char.ofNat
def joinN : List (List Nat) → List Nat
  | [] => []
  | [a] => a
  | a :: b :: r => a ++ 32 :: joinN (b :: r)

theorem words_one : ∀ a : List Nat, (a.all fun n => Char.ofNat n != Char.ofNat 32) = true → wordsSigns (code a) = [code a]
  | [], _ => rfl
  | n :: a, h => by
    simp only [List.all_cons, Bool.and_eq_true, bne_iff_ne] at h
    have ih := words_one a h.2
    show wordsSigns (Char.ofNat n :: code a) = _
    rw [wordsSigns]
    · rw [ih]; rfl
    · exact h.1
theorem words_more : ∀ (a : List Nat) (r : List Char), (a.all fun n => Char.ofNat n != Char.ofNat 32) = true → wordsSigns (code a ++ Char.ofNat 32 :: r) = code a :: wordsSigns r
  | [], r, _ => by
    show wordsSigns (Char.ofNat 32 :: r) = _
    rw [show Char.ofNat 32 = _ from rfl, wordsSigns]; rfl
  | n :: a, r, h => by
    simp only [List.all_cons, Bool.and_eq_true, bne_iff_ne] at h
    have ih := words_more a r h.2
    show wordsSigns (Char.ofNat n :: (code a ++ Char.ofNat 32 :: r)) = _
    rw [wordsSigns]
    · rw [ih]; rfl
    · exact h.1
theorem words_join : ∀ ws : List (List Nat), ws ≠ [] → (ws.all fun w => w.all fun n => Char.ofNat n != Char.ofNat 32) = true → wordsSigns (code (joinN ws)) = ws.map code
  | [], h, _ => absurd rfl h
  | [a], _, h => by simp only [List.all_cons, List.all_nil, Bool.and_true] at h; exact words_one a h
  | a :: b :: r, _, h => by
    have h' := h
    rw [List.all_cons, Bool.and_eq_true] at h'
    have ih := words_join (b :: r) (by simp) h'.2
    show wordsSigns (code (a ++ 32 :: joinN (b :: r))) = _
    rw [show code (a ++ 32 :: joinN (b :: r)) = code a ++ Char.ofNat 32 :: code (joinN (b :: r)) from by simp [code], words_more a _ h'.1, ih]; rfl

def cutWords : List (List Nat) := [[104, 97, 114, 110, 101, 115, 115],
  [99, 55, 102, 55, 51, 55, 100, 97, 54, 53, 53, 56, 55, 54, 50, 99, 53, 97, 52, 53, 49, 55, 48, 53, 51, 55, 101, 99, 53, 102, 53, 98, 51, 101, 100, 50, 99, 100, 48, 48, 99, 56, 102, 54, 101, 98, 100, 49, 48, 48, 56, 50, 52, 54, 53, 99, 102, 100, 57, 55, 99, 97, 50, 100],
  [99, 117, 116],
  [97, 116],
  [116, 114, 97, 110, 115, 104, 105, 112, 47, 116, 114, 97, 110, 115, 104, 105, 112, 108, 97, 119, 48, 57, 46, 82, 101, 97, 100, 69, 120, 97, 99, 116],
  [116, 114, 97, 110, 115, 104, 105, 112, 47, 116, 114, 97, 110, 115, 104, 105, 112, 108, 97, 119, 49, 55, 46, 83, 105, 103, 69, 120, 97, 99, 116],
  [116, 114, 97, 110, 115, 104, 105, 112, 47, 116, 114, 97, 110, 115, 104, 105, 112, 108, 97, 119, 49, 55, 46, 83, 105, 103, 83, 104, 97, 112, 101],
  [116, 114, 97, 110, 115, 104, 105, 112, 47, 116, 114, 97, 110, 115, 104, 105, 112, 108, 97, 119, 49, 55, 46, 83, 105, 103, 76, 101, 118, 101, 108, 115]]

set_option maxRecDepth 100000 in
theorem cut_words : wordsSigns Tryd.prog.initOrder.toList = cutWords.map code := by
  have h : Tryd.prog.initOrder.toList = code (joinN cutWords) := by
    show (String.ofList (code (joinN cutWords))).toList = _
    exact String.toList_ofList
  rw [h]
  exact words_join cutWords (by simp [cutWords]) (by decide +kernel)

theorem cut_behind : behindMainWord (cutWords.map code) = code [99, 117, 116] :: cutWords.tail.tail.tail.map code := by kernel_rfl
theorem cut_lifts : stripLifts liftWords (code [99, 117, 116] :: cutWords.tail.tail.tail.map code) = ([], code [99, 117, 116] :: cutWords.tail.tail.tail.map code) := by kernel_rfl
theorem cut1 : (code [99, 117, 116] == "gc".toList) = false := by kernel_rfl
theorem cut2 : (code [99, 117, 116] == "spec".toList) = false := by kernel_rfl
theorem cut3 : (code [99, 117, 116] == "cut".toList) = true := by kernel_rfl
theorem cut_all : behindMainWord (wordsSigns Tryd.prog.initOrder.toList) = code [99, 117, 116] :: cutWords.tail.tail.tail.map code := by rw [cut_words, cut_behind]
theorem make_of (P : Program) {c : List Char} {rest : List (List Char)} (h : behindMainWord (wordsSigns P.initOrder.toList) = c :: rest) (h1 : (c == "gc".toList) = false) (h2 : (c == "spec".toList) = false) (h3 : (c == "cut".toList) = true) : P.make = some .cut := by
  unfold Program.make; rw [h]
  simp only [h1, h2, h3, Bool.or_self, Bool.false_eq_true, if_false, Bool.true_or, if_true]
theorem mayEnter_of (P : Program) {c : List Char} {rest : List (List Char)} (h : behindMainWord (wordsSigns P.initOrder.toList) = c :: rest) (h3 : ((stripLifts liftWords (c :: rest)).2.head? == some "cut".toList) = true)
    (h4 : (stripLifts liftWords (c :: rest)).1 = []) (h5 : P.laysLater = false) (h6 : P.bearsReflect = false) (h7 : P.doorFits [] = true) : P.mayEnter = true := by
  unfold Program.mayEnter; rw [h]
  refine Bool.or_eq_true_iff.2 (Or.inr ?_)
  rw [h3, h4, h5, h6, h7]; rfl
theorem row_make : Tryd.prog.make = some .cut := make_of Tryd.prog cut_all cut1 cut2 cut3
theorem row_mayEnter : Tryd.prog.mayEnter = true := mayEnter_of Tryd.prog cut_all (by rw [cut_lifts]; kernel_rfl) (by rw [cut_lifts]) (by kernel_rfl) (by kernel_rfl) (by kernel_rfl)
theorem row_lifts : Tryd.prog.liftsFinal = false := by unfold Program.liftsFinal Program.headLifts; rw [cut_all, cut_lifts]; kernel_rfl
end Go.Proofs.YtlalolnhpcbjnaaDoor

namespace Go.Proofs.YtlalolnhpcbjnaaDoor.lawReadExact
open Go.ChangeShapes Go.WideShapes Go.ChangeAt Go.RowKit Go.ChangeMaps

set_option maxRecDepth 100000 in
theorem lifted (os : Os) (started : os.Started) (H : Type) (enc : TypeId × Value → H) :
    ReturnsInHanded {} Tryd.checked os 3 .any (fun w args => (Rows.readExactSpec.pre enc Tryd.prog Tryd.f3 [] false w args ∧ laidMetH Tryd.prog laidT w) ∧ sizedMet enc Tryd.prog Tryd.f3 (OpenSpec.ofChange Rows.readExactSpec) false w args)
      (Rows.readExactSpec.post enc Tryd.prog Tryd.f3 false true false false) := by
  refine returnsInHanded_of_change_and (C := Tryd.checked) (X := fun w _ => laidMetH Tryd.prog laidT w) (fun _ _ _ hh h => h.of_heap hh) own started (by kernel_rfl) Tryd.func3
    (ChangeSpec.witness_shaped (enc := enc) (C := Tryd.checked) (os := os) (X := fun w _ => laidMetH Tryd.prog laidT w) false (World.doorLaid Tryd.prog 400 os) #[.string ⟨#[]⟩, .slice none 0 0, .int .i64 0, .int .i64 0] 8 rfl (World.shaped_of_RefB (by kernel_rfl) (by kernel_rfl)) (by kernel_rfl) (by kernel_rfl) (by kernel_rfl) (door_met os _)) ?_
  intro W base args ds gs before hval0 hW _ _ hL _
  have hval : ∀ (j : Nat) t v, Tryd.f3.params[j]? = some t → args[j]? = some v → Value.okWide Tryd.prog W .any base t v := hval0
  have hW' := hW
  obtain ⟨p, q, hA0, hV, rfl, hfz, hnd⟩ := hW
  have hA : DataW.TrodAll enc Tryd.prog W 0 (fun _ => true) true Tryd.f3.params.toList args.toList ds p := hA0
  rw [Tryd.params3] at hA hval
  obtain ⟨v0, vs0, d0, ds0, p0, q0, hargs0, rfl, rfl, h0, r0⟩ := trodAll_cons hA
  obtain ⟨v1, vs1, d1, ds1, p1, q1, hargs1, rfl, rfl, h1, r1⟩ := trodAll_cons r0
  obtain ⟨v2, vs2, d2, ds2, p2, q2, hargs2, rfl, rfl, h2, r2⟩ := trodAll_cons r1
  obtain ⟨v3, vs3, d3, ds3, p3, q3, hargs3, rfl, rfl, h3, r3⟩ := trodAll_cons r2
  obtain ⟨rfl, rfl, rfl⟩ := trodAll_nil r3
  obtain rfl : args = #[v0, v1, v2, v3] := by cases args; simp_all
  obtain ⟨rfl, rfl⟩ := trodVars_none hV
  obtain ⟨a0, rfl, rfl, rfl, w0⟩ := open_string Tryd.underlying9 (hval 0 9 v0 rfl rfl) h0
  have h1k := h1
  have hlt1 : ∀ x ∈ p1, x.block < W.heap.size := fun x hx => by have := hW'.lt x (by simp [hx]); simpa using this
  obtain ⟨l1, hl1⟩ := open_argSS (hval 1 22 v1 rfl rfl) h1
  obtain ⟨a2, rfl, rfl, rfl, w2⟩ := open_int Tryd.underlying3 (hval 2 3 v2 rfl rfl) h2
  obtain ⟨a3, rfl, rfl, rfl, w3⟩ := open_int Tryd.underlying3 (hval 3 3 v3 rfl rfl) h3
  clear hA0 hval0
  simp only [List.append_nil] at hW'
  have hT := tabsR_of_laid hL
  refine (readExact_any a0 l1 v1 a2 a3 W hl1 hT).mono fun e W' ⟨he, hb⟩ => ?_
  subst he
  exact ⟨_, rfl, _, _, _, [], _, [], hW', trodAll_cons_mk (shut_bool Tryd.underlying4 _) trodAll_mk0, (trodAll_cons_mk (shut_string Tryd.underlying9 w0) (trodAll_cons_mk (Below.trod laidOut (by kernel_rfl) (of_decide_eq_true (by kernel_rfl)) h1k hb hlt1) (trodAll_cons_mk (shut_int Tryd.underlying3 w2) (trodAll_cons_mk (shut_int Tryd.underlying3 w3) trodAll_mk0)))), rfl, hb.frame _, fun h => by cases h⟩

theorem closed : joinedFacts Tryd.prog 3 Tryd.f3 Rows.readExactSpec Rows.readExactRow = true := by
  unfold joinedFacts
  rw [row_mayEnter, row_lifts, row_make]
  kernel_rfl
theorem readExact_holds : Rows.ReadExactSaid :=
  OpenClaim.holds_of_wide 3 Tryd.f3 rfl rfl rfl rfl rfl rfl rfl ⟨rfl, rfl, rfl, rfl, rfl⟩ rfl rfl rfl rfl rfl (by kernel_rfl) Tryd.func3 closed
    (of_decide_eq_true (by kernel_rfl)) (by unfold Func.isWrapper; first | (rw [if_pos (by decide +kernel)]; kernel_rfl) | (rw [if_neg (by decide +kernel)]; exact ⟨rfl, rfl⟩))
    (fun os started H enc _ => lifted os started H enc)
theorem proved : Rows.ReadExactCardSaid :=
  Claim7.holds_tied_plain_at .later [] [.data, .data] true Rows.readExactCard.stood.harness true
    readExact_holds (fun _ h => by cases h) (by kernel_rfl) (fun _ h => by cases h) readExact_row_tie rfl ⟨rfl, rfl⟩ (by kernel_rfl) rfl
    (fun f fn hf hfn => by
      obtain rfl : f = 3 := Option.some.inj ((show Tryd.prog.funcNamed "tranship/transhiplaw09.ReadExact" = some 3 by kernel_rfl).symm.trans hf) |>.symm
      obtain rfl : fn = Tryd.f3 := (Option.some.inj (Tryd.func3.symm.trans hfn)).symm
      exact ⟨by kernel_rfl, fun j t ht => by
        rw [Tryd.params3] at ht
        have hm : t ∈ [9, 22, 3, 3] := by simpa using Array.mem_of_getElem? ht
        have hall : ([9, 22, 3, 3].all fun u => !Tryd.prog.wantsStandIn u) = true := by kernel_rfl
        exact (show Tryd.prog.wantsStandIn t = false by simpa using List.all_eq_true.1 hall t hm)⟩)
    (by kernel_rfl)
#print axioms proved
end Go.Proofs.YtlalolnhpcbjnaaDoor.lawReadExact
