/-
  ReadLevels holds: for every input the call returns true, and the arguments read as before. No condition.
-/
import Derived.Lib.ItoaNum
import Derived.Lib.ItoaLen
import Derived.Test.YtllkackipdcekaaDoorRows
import Derived.WalkKit
import Derived.Lib.Hide
import Derived.ProofKit
import Derived.LoopTactic
import Derived.Below
import Derived.IntWalk
import Derived.Lib.Strings
import Derived.Laws.Strings2
import Derived.Deep.AppendLies
import Derived.Laws.Rows
import Derived.OwnWalk
import Derived.KernelRfl
import Derived.Deep.RegionHeld3
import Derived.Lib.Builder
import Derived.WalkSmall
import Derived.Maps.GroupsBeside
import Derived.Maps.StringElems
import Derived.Laws.OwnMore
import Derived.Deep.RegionLaw
import Derived.Maps.AppendAt
import Derived.Deep.Cut
import Derived.Deep.DeepCutAuto
import Derived.Maps.OwnOps
import Derived.Maps.OwnSet
import Derived.Lib.MinMax
import Derived.Laws.IdiomCopy
import Derived.Deep.Slices
import Derived.Lib.QuietBelow
import Derived.StillTailTactics
import Derived.BigQuiet
import Derived.Deep.RegionWith
import Derived.OrdersHeld
import Derived.Recover
import Derived.RegionTactic
import Derived.Defers
import Derived.Test.YtllkackipdcekaaDoorShelf
import Derived.Lib.AppendIntMem
import Derived.Lib.LaidTab
import Derived.OpenShut
import Derived.Carry
import Derived.LaidMore
import Derived.LaidSub
import Derived.LaidHandle
import Derived.Stop.Joined
import Derived.JoinedOf
import Derived.Test.YtllkackipdcekaaDoorCards
import Derived.Test.YtllkackipdcekaaDoorTie
import Derived.SevenTiedAt
import Derived.ChangeMaps5
import Derived.Test.YtllkackipdcekaaDoorReadLevelsQ2
namespace Go.Proofs.YtllkackipdcekaaDoor
open Go.RowKit Go.Maps Go.ChangeShapes

def toksO (x : List Tok × Option Nat) : List Tok := match x with
  | (ts, none) => ts
  | (_, some _) => []
/-- The tokens of a text, where they end, and whether a fault stands there. -/
def ofL (l : List UInt8) : List Tok × Nat × Bool := match lexL l 0 with
  | (ts, none) => (ts, l.length, false)
  | (_, some p) => (toksO (lexL (l.take p) 0), p, true)
theorem lexL_bound {l : List UInt8} : ∀ (n p : Nat), l.length - p ≤ n → (∀ q, (lexL l p).2 = some q → q < l.length) ∧ (∀ t ∈ (lexL l p).1, t.s.length ≤ l.length ∧ t.at_ < l.length) ∧ (lexL l p).1.length + min p l.length ≤ l.length
  | 0, p, h => by
    rw [lexL_end (by omega)]
    exact ⟨fun q hq => (by cases hq), fun t ht => (by cases ht), by simp; omega⟩
  | n + 1, p, h => by
    by_cases h1 : p + skipL (l.drop p) < l.length
    · cases hn : nextL (l.drop (p + skipL (l.drop p))) with
      | none =>
        rw [lexL_fault rfl h1 hn]
        exact ⟨fun q hq => (by obtain rfl := Option.some.inj hq; exact h1), fun t ht => (by cases ht), by simp; omega⟩
      | some x =>
        obtain ⟨k, m⟩ := x
        have hb := (nextL_range hn).2.1
        have hb1 := (nextL_range hn).1
        rw [lexL_next rfl h1 hn]
        have hr := lexL_bound (l := l) n (p + skipL (l.drop p) + m) (by omega)
        refine ⟨hr.1, fun t ht => ?_, ?_⟩
        · rcases List.mem_cons.1 ht with rfl | ht
          · exact ⟨by simp; omega, h1⟩
          · exact hr.2.1 t ht
        · have := hr.2.2
          simp only [List.length_cons]
          rw [List.length_drop] at hb
          omega
    · rw [lexL_end h1]
      exact ⟨fun q hq => (by cases hq), fun t ht => (by cases ht), by simp; omega⟩
theorem ofL_bound (l : List UInt8) : (ofL l).1.length ≤ l.length ∧ (ofL l).2.1 ≤ l.length ∧ ∀ t ∈ (ofL l).1, t.s.length ≤ l.length ∧ t.at_ ≤ l.length := by
  have h := lexL_bound (l := l) l.length 0 (by omega)
  unfold ofL
  rcases hx : lexL l 0 with ⟨ts, o⟩
  rw [hx] at h
  cases o with
  | none =>
    simp only
    exact ⟨by have := h.2.2; simp at this; omega, Nat.le_refl _, fun t ht => ⟨(h.2.1 t ht).1, Nat.le_of_lt (h.2.1 t ht).2⟩⟩
  | some p =>
    have hp : p < l.length := h.1 p rfl
    have k := lexL_bound (l := l.take p) (l.take p).length 0 (by omega)
    have hl : (l.take p).length = p := by rw [List.length_take]; omega
    rw [hl] at k
    simp only
    rcases hy : lexL (l.take p) 0 with ⟨us, o⟩
    rw [hy] at k
    cases o with
    | none => exact ⟨by show us.length ≤ _; have := k.2.2; simp at this; omega, by omega, fun t ht => by have := k.2.1 t ht; exact ⟨by omega, by omega⟩⟩
    | some q => exact ⟨by show 0 ≤ _; omega, by omega, fun t ht => (by cases ht)⟩
theorem toks_lies {B : Nat} {w : World} {v : Value} {ts : List Tok} (h : Toks 97 B w v ts) : TLies w ts v := by
  obtain ⟨h1, h2⟩ := h
  rcases h2 with ⟨rfl, h0⟩ | ⟨g, cap, cur, rfl, hg, hh, hn, hc, hs, ht⟩
  · have h3 : ts = [] := List.eq_nil_of_length_eq_zero h0
    subst h3
    exact ⟨none, 0, rfl, Nat.le_refl _, by unfold maxLen; omega, Or.inl rfl⟩
  · exact ⟨some ⟨g, 0, none⟩, cap, rfl, hn, hc, Or.inr ⟨g, 0, cur, (0, 0), rfl, hh, by rw [List.drop_zero]; exact ht⟩⟩
def OfG (w : World) (x : List Tok × Nat × Bool) (e : Ending) (w' : World) : Prop := ∃ tv, e = .returned (.pointer (some ⟨w'.heap.size - 1, 0, none⟩)) ∧ w.heap.size < w'.heap.size ∧ SAt w' (w'.heap.size - 1) tv x.2.1 x.2.2 ∧ TLies w' x.1 tv ∧ Below w.heap.size w w'
theorem ofG_of {w w1 : World} {x : List Tok × Nat × Bool} {tv : Value} (hB : Below w.heap.size w w1) (hT : TLies w1 x.1 tv) : OfG w x (.returned (.pointer (some ⟨w1.heap.size, 0, none⟩))) (w1.alloc (.cells #[tv, .int .i64 x.2.1, .bool x.2.2] 94)) := by
  have hb := (Below.refl w1.heap.size w1).alloc (Nat.le_refl _) (.cells #[tv, .int .i64 x.2.1, .bool x.2.2] 94)
  have hs : (w1.alloc (.cells #[tv, .int .i64 x.2.1, .bool x.2.2] 94)).heap.size - 1 = w1.heap.size := by simp
  have := hB.size
  unfold OfG
  rw [hs]
  exact ⟨tv, rfl, by simp; omega, alloc_new _ _, hT.keep fun g cs fz e => by rw [hb.block _ (hlt_of e)]; exact e, hB.trans (hb.mono hB.size)⟩
set_option maxHeartbeats 2000000 in
set_option maxRecDepth 20000 in
theorem of_any (s : ByteArray) (w : World) (hs : s.size ≤ 10000000) : Calls Tryd.prog 41 #[.string s] w (OfG w (ofL s.data.toList)) := by
  have HLX := Lib.hid (fun (s : ByteArray) (w : World) (h : s.size ≤ 10000000) => lex_any s w h)
  have hsl : s.data.toList.length = s.size := by simp
  have HSL := Lib.hid hsl
  clear hsl
  go_enter Tryd.func41, Tryd.ntmps41
  go_wp2_with fail
  refine (HLX.out s w hs).mono ?_
  intro e w1 hg
  cases hl : lexL s.data.toList 0 with
  | mk ts o =>
  rw [hl] at hg
  obtain ⟨hB, hg⟩ := hg
  cases o with
  | none =>
    obtain ⟨v, hT, rfl⟩ := hg
    have HO := Lib.hid (show ofL s.data.toList = (ts, s.size, false) by unfold ofL; rw [hl]; simp only; rw [HSL.out])
    obtain ⟨a, cap, rfl, hv⟩ := toks_lies hT
    have HT := Lib.hid (show TLies w1 ts (.slice a ts.length cap) from ⟨a, cap, rfl, hv⟩)
    have HB := Lib.hid hB
    clear hT hB hl hv
    go_wp2
    go_ret
    rw [HO.out]
    exact ofG_of (x := (ts, s.size, false)) HB.out HT.out
  | some p =>
    obtain rfl := hg
    have hp : p < s.size := by have := (lexL_bound (l := s.data.toList) s.data.toList.length 0 (by omega)).1 p (by rw [hl]); rw [HSL.out] at this; exact this
    obtain ⟨P, hP⟩ : ∃ P, s.extract 0 p = P := ⟨_, rfl⟩
    have hPd : P.data.toList = s.data.toList.take p := by rw [← hP]; exact (Lib.extract_data s 0 p).trans (by simp)
    have hPs : P.size ≤ 10000000 := by
      have h1 : P.data.toList.length = P.size := by simp
      rw [hPd, List.length_take] at h1
      omega
    have hsli : ∀ w', (Instr.slice 9 (.string s) none (some (.int .i64 (p : Int))) none).run Tryd.prog w' = .ok (.string P) w' := fun w' => by
      rw [← hP]; exact run_slice_string_h w' 9 s Tryd.underlying9 .i64 (p : Int) (by omega) (by omega)
    have HO := Lib.hid (show ofL s.data.toList = (toksO (lexL P.data.toList 0), p, true) by unfold ofL; rw [hl, hPd])
    have HB := Lib.hid hB
    clear hB hl hP hPd
    go_wp2_with fail
    refine (HLX.out P w1 hPs).mono ?_
    intro e w2 hg
    cases hl : lexL P.data.toList 0 with
    | mk us o =>
    rw [hl] at hg HO
    obtain ⟨hB2, hg⟩ := hg
    have HB2 := Lib.hid (HB.out.trans (hB2.mono HB.out.size))
    cases o with
    | none =>
      obtain ⟨v, hT, rfl⟩ := hg
      obtain ⟨a, cap, rfl, hv⟩ := toks_lies hT
      have HT := Lib.hid (show TLies w2 us (.slice a us.length cap) from ⟨a, cap, rfl, hv⟩)
      clear hT hB2 hl hv
      go_wp2
      go_ret
      rw [HO.out]
      exact ofG_of (x := (us, p, true)) HB2.out HT.out
    | some q =>
      obtain rfl := hg
      clear hB2 hl
      go_wp2
      go_ret
      rw [HO.out]
      exact ofG_of (x := ([], p, true)) HB2.out ⟨none, 0, rfl, Nat.le_refl _, by unfold maxLen; omega, Or.inl rfl⟩
/-- The end of the reading. -/
def endP (E : Nat) (br : Bool) (ts : List Tok) : Except Nat Unit := if ts = [] ∧ br = false then .ok () else .error (hereT E ts)
def EndG (w : World) (x : Except Nat Unit) (e : Ending) (w' : World) : Prop := w = w' ∧ match x with
  | .error a => e = faultP a
  | .ok _ => e = .returned (.tuple #[])
set_option maxRecDepth 20000 in
theorem end_any (S : Nat) (v : Value) (E : Nat) (br : Bool) (ts : List Tok) (w : World) (hS : SAt w S v E br) (hv : TLies w ts v) : Calls Tryd.prog 44 #[.pointer (some ⟨S, 0, none⟩)] w (EndG w (endP E br ts)) := by
  have HH := Lib.hid (here_any S v E br ts w hS hv)
  have c0 : w.cell? ⟨S, 0, none⟩ = some v := by rw [Lib.cell_of_heap hS]; rfl
  have c2 : w.cell? ⟨S, 2, none⟩ = some (.bool br) := by rw [Lib.cell_of_heap hS]; rfl
  obtain ⟨a, cap, rfl, -, hcp, -⟩ := hv
  clear hS
  by_cases h0 : ts = []
  · cases br with
    | false =>
      have HE := Lib.hid (show endP E false ts = .ok () from if_pos ⟨h0, rfl⟩)
      subst h0
      go_enter Tryd.func44, Tryd.ntmps44
      go_wp2
      go_end0
      rw [HE.out]
      exact ⟨rfl, rfl⟩
    | true =>
      have HE := Lib.hid (show endP E true ts = .error (hereT E ts) from if_neg (fun h => by cases h.2))
      subst h0
      go_enter Tryd.func44, Tryd.ntmps44
      go_wp2_with fail
      refine HH.out.mono ?_
      rintro e w1 ⟨rfl, rfl⟩
      go_wp2_with fail
      refine (fail_any _ _).mono ?_
      rintro e w1 ⟨rfl, rfl⟩
      unfold faultP
      go_wp2
      rw [HE.out]
      exact ⟨rfl, rfl, rfl⟩
  · have HE := Lib.hid (show endP E br ts = .error (hereT E ts) from if_neg (fun h => h0 h.1))
    have hl : 0 < ts.length := List.length_pos_iff.2 h0
    clear h0
    go_enter Tryd.func44, Tryd.ntmps44
    go_wp2_with fail
    refine HH.out.mono ?_
    rintro e w1 ⟨rfl, rfl⟩
    go_wp2_with fail
    refine (fail_any _ _).mono ?_
    rintro e w1 ⟨rfl, rfl⟩
    unfold faultP
    go_wp2
    rw [HE.out]
    exact ⟨rfl, rfl, rfl⟩
end Go.Proofs.YtllkackipdcekaaDoor

namespace Go.Proofs.YtllkackipdcekaaDoor
open Go.RowKit Go.Maps Go.ChangeShapes

theorem below_grown {B b : Nat} {w w' : World} (hB : B ≤ b) (hg : w.grownBy w' (some b)) (hlo : B ≤ w.heap.size) : Below B w w' := ⟨hg.os, hg.tape, hg.output, hg.size, fun k hk => hg.block k (by omega) (fun e => by have := Option.some.inj e; omega)⟩
abbrev W5' (w : World) (B at_ : Nat) : World := (w.setCell ⟨B + 1, 0, none⟩ (.int .i64 2)).setCell ⟨B + 2, 0, none⟩ (.int .i64 at_)
theorem assert_fault (at_ : Nat) (w : World) : (Instr.typeAssert (.iface 71 (.agg #[.int .i64 at_])) 20 71 true).run Tryd.prog w = .ok (.tuple #[.agg #[.int .i64 at_], .bool true]) w := by kernel_rfl
/-- What the closure leaves in the results of a reading that failed. -/
def CatchG (B : Nat) (at_ : Nat) (w w' : World) : Prop := w'.heap[B]? = some (.cells #[.int .i64 0, .int .i64 0, .int .i64 0, .int .i64 0, .slice none 0 0] 26) ∧ w'.heap[B + 1]? = some (.cells #[.int .i64 2] 27) ∧ w'.heap[B + 2]? = some (.cells #[.int .i64 at_] 3) ∧ Below B w w'
set_option maxHeartbeats 2000000 in
set_option maxRecDepth 20000 in
theorem catch_panicking (B : Nat) (at_ : Nat) (w : World) {v0 v1 v2 v3 v4 x y : Value} (hT : w.heap[B]? = some (.cells #[v0, v1, v2, v3, v4] 26 (0, 0))) (hE : w.heap[B + 1]? = some (.cells #[x] 27 (0, 0))) (hA : w.heap[B + 2]? = some (.cells #[y] 3 (0, 0))) :
    CallsD Tryd.prog 42 #[.pointer (some ⟨B, 0, none⟩), .pointer (some ⟨B + 1, 0, none⟩), .pointer (some ⟨B + 2, 0, none⟩)] (.panicking ({ v := .iface 71 (.agg #[.int .i64 at_]), recovered := false } :: [])) w fun e u' w' =>
      e = .returned (.tuple #[]) ∧ u' = .panicking ({ v := .iface 71 (.agg #[.int .i64 at_]), recovered := true } :: []) ∧ CatchG B at_ w w' := by
  refine callsD_of_wpS Tryd.func42 rfl fun c₀ cs hu => ?_
  apply wpS_seq
  apply wpS_region
  simp [wpOpsS, go_sem, recoverD, hu, Tryd.ntmps42, Exit.thenS]
  apply wpS_seq
  apply wpS_region
  simp [wpOpsS, go_sem, Exit.thenS]
  refine wpS_cond (t := true) (by simp [Act.eval, Array.replicate]) ?_
  simp only [if_true]
  refine wpS_of_wp (wp_mono (Q := fun e a' w' => e = Exit.normal ∧ a'.defers = [] ∧ CatchG B at_ w w') ?_ (fun e a' w' h => ?_))
  · have hta := assert_fault at_
    obtain ⟨du, hu1, hu2⟩ := under_term
    have hb := (Below.refl w.heap.size w).alloc (Nat.le_refl _) (.cells #[.int .i64 at_] 71)
    have hT1 := (hb.block _ (hlt_of hT)).trans hT
    have hE1 := (hb.block _ (hlt_of hE)).trans hE
    have hA1 := (hb.block _ (hlt_of hA)).trans hA
    have hF1 : (w.alloc (.cells #[.int .i64 at_] 71)).heap[w.heap.size]? = some (.cells #[.int .i64 at_] 71) := alloc_new _ _
    have hs1 : w.heap.size < (w.alloc (.cells #[.int .i64 at_] 71)).heap.size := by simp
    have hBS : B < w.heap.size ∧ B + 1 < w.heap.size ∧ B + 2 < w.heap.size := ⟨hlt_of hT, hlt_of hE, hlt_of hA⟩
    have HB := Lib.hid (hb.mono (Nat.le_of_lt hBS.1))
    clear hT hE hA hu hb
    change Code.wp _ _ _ { tmps := #[.pointer (some ⟨B, 0, none⟩), .pointer (some ⟨B + 1, 0, none⟩), .pointer (some ⟨B + 2, 0, none⟩), (.iface 71 (.agg #[.int .i64 at_])), undef, undef, (.iface 71 (.agg #[.int .i64 at_])), (.iface 71 (.agg #[.int .i64 at_])), .bool true, undef, undef, undef, undef, undef, undef, undef, undef], defers := [] } w
    go_upto_region 3 with fail
    obtain ⟨W, hW⟩ : ∃ W, W = w.alloc (.cells #[.int .i64 at_] 71) := ⟨_, rfl⟩
    rw [← hW] at hT1 hE1 hA1 hF1 hs1 HB
    rw [← hW]
    clear hW
    have x0 : W.cell? ⟨B, 0, none⟩ = some v0 := by rw [Lib.cell_of_heap hT1]; rfl
    have x1 : W.cell? ⟨B, 1, none⟩ = some v1 := by rw [Lib.cell_of_heap hT1]; rfl
    have x2 : W.cell? ⟨B, 2, none⟩ = some v2 := by rw [Lib.cell_of_heap hT1]; rfl
    have x3 : W.cell? ⟨B, 3, none⟩ = some v3 := by rw [Lib.cell_of_heap hT1]; rfl
    have x4 : W.cell? ⟨B, 4, none⟩ = some v4 := by rw [Lib.cell_of_heap hT1]; rfl
    have x5 : W.cell? ⟨B + 1, 0, none⟩ = some x := by rw [Lib.cell_of_heap hE1]; rfl
    have x6 : W.cell? ⟨B + 2, 0, none⟩ = some y := by rw [Lib.cell_of_heap hA1]; rfl
    have x7 : W.cell? ⟨w.heap.size, 0, none⟩ = some (.int .i64 at_) := by rw [Lib.cell_of_heap hF1]; rfl
    have f0 : W.frozen? ⟨B, 0, none⟩ = false := Lib.frozen_of_heap hT1 0
    have f1 : W.frozen? ⟨B, 1, none⟩ = false := Lib.frozen_of_heap hT1 1
    have f2 : W.frozen? ⟨B, 2, none⟩ = false := Lib.frozen_of_heap hT1 2
    have f3 : W.frozen? ⟨B, 3, none⟩ = false := Lib.frozen_of_heap hT1 3
    have f4 : W.frozen? ⟨B, 4, none⟩ = false := Lib.frozen_of_heap hT1 4
    have f5 : W.frozen? ⟨B + 1, 0, none⟩ = false := Lib.frozen_of_heap hE1 0
    have f6 : W.frozen? ⟨B + 2, 0, none⟩ = false := Lib.frozen_of_heap hA1 0
    have HH := Lib.hid (And.intro hT1 (And.intro hE1 hA1))
    have hne : ¬ B = w.heap.size := by omega
    have hne1 : ¬ B + 1 = w.heap.size := by omega
    have hne2 : ¬ B + 2 = w.heap.size := by omega
    have hWs : w.heap.size < W.heap.size := hs1
    clear hT1 hE1 hA1 hF1
    go_region
    go_step
    refine ⟨rfl, rfl, ?_⟩
    have hc5 := cell5_grown W B 0 (.int .i64 0) (.int .i64 0) (.int .i64 0) (.int .i64 0) (.slice none 0 0)
    have k1 : (cell5 W B 0 (.int .i64 0) (.int .i64 0) (.int .i64 0) (.int .i64 0) (.slice none 0 0)).heap[B]? = some (.cells #[.int .i64 0, .int .i64 0, .int .i64 0, .int .i64 0, .slice none 0 0] 26 (0, 0)) := five_set HH.out.1
    have k2 := (hc5.block (B + 1) (by omega) (fun e => by have := Option.some.inj e; omega)).trans HH.out.2.1
    have k3 := (hc5.block (B + 2) (by omega) (fun e => by have := Option.some.inj e; omega)).trans HH.out.2.2
    have hb5 := below_grown (B := B) (Nat.le_refl _) hc5 (by omega)
    obtain ⟨W5, hW5⟩ : ∃ W5, W5 = cell5 W B 0 (.int .i64 0) (.int .i64 0) (.int .i64 0) (.int .i64 0) (.slice none 0 0) := ⟨_, rfl⟩
    rw [← hW5] at hc5 k1 k2 k3 hb5
    have hs5 := hc5.size
    show CatchG B at_ w ((W5' (cell5 W B 0 (.int .i64 0) (.int .i64 0) (.int .i64 0) (.int .i64 0) (.slice none 0 0)) B at_).drew)
    rw [← hW5]
    have m1 := g1 W5 (B + 1) 0 (.int .i64 2)
    have m2 := g1 (W5.setCell ⟨B + 1, 0, none⟩ (.int .i64 2)) (B + 2) 0 (.int .i64 at_)
    have hs6 : (W5.setCell ⟨B + 1, 0, none⟩ (.int .i64 2)).heap.size = W5.heap.size := by simp
    refine ⟨?_, ?_, ?_, ?_⟩
    · exact ((m2.block B (by omega) (fun e => by have := Option.some.inj e; omega)).trans (m1.block B (by omega) (fun e => by have := Option.some.inj e; omega))).trans k1
    · exact (m2.block (B + 1) (by omega) (fun e => by have := Option.some.inj e; omega)).trans (heap_setCell_same _ _ _ _ _ _ k2)
    · exact heap_setCell_same _ _ _ _ _ _ ((m1.block (B + 2) (by omega) (fun e => by have := Option.some.inj e; omega)).trans k3)
    · exact (((HB.out.trans hb5).trans (below_grown (by omega) m1 (by omega))).trans (below_grown (by omega) m2 (by omega))).drew
  · obtain ⟨rfl, hd, hC⟩ := h
    exact ⟨hd, _, rfl, .tuple #[], results_none rfl _ _ _, rfl, rfl, hC⟩
theorem catch_idle (B : Nat) (w : World) :
    CallsD Tryd.prog 42 #[.pointer (some ⟨B, 0, none⟩), .pointer (some ⟨B + 1, 0, none⟩), .pointer (some ⟨B + 2, 0, none⟩)] .returning w fun e u' w' => e = .returned (.tuple #[]) ∧ u' = .returning ∧ w' = w := by
  refine callsD_of_wpS Tryd.func42 rfl fun c₀ cs hu => ?_
  apply wpS_seq
  apply wpS_region
  simp [wpOpsS, go_sem, recoverD, hu, Tryd.ntmps42, Exit.thenS]
  apply wpS_seq
  apply wpS_region
  simp [wpOpsS, go_sem, Exit.thenS]
  refine wpS_cond (t := false) (by simp [Act.eval, Array.replicate]) ?_
  simp only [Bool.false_eq_true, if_false]
  refine wpS_of_wp (wp_skip ?_)
  cases c₀
  simp_all [bodyPostS, results, Tryd.results42]
end Go.Proofs.YtllkackipdcekaaDoor

namespace Go.Proofs.YtllkackipdcekaaDoor
open Go.RowKit Go.Maps Go.ChangeShapes

def readT (l : List UInt8) (names : Names) (i j : Int) : Except Nat Tm :=
  match termP (ofL l).2.1 i j ((ofL l).1.length + 1) 0 names.reverse (ofL l).1 with
  | .error a => .error a
  | .ok (t, r) => match endP (ofL l).2.1 (ofL l).2.2 r with
    | .error a => .error a
    | .ok _ => .ok t
def WholeG (w : World) (x : Except Nat Tm) (e : Ending) (w' : World) : Prop := Below w.heap.size w w' ∧ match x with
  | .error a => e = .returned (.tuple #[.agg #[.int .i64 0, .int .i64 0, .int .i64 0, .int .i64 0, .slice none 0 0], .int .i64 2, .int .i64 a])
  | .ok t => ∃ s, e = .returned (.tuple #[tv t s, .int .i64 0, .int .i64 0]) ∧ LiesP w' (Own w.heap.size w') t.kids s ∧ t.fine
abbrev zT : Obj := .cells #[.int .i64 0, .int .i64 0, .int .i64 0, .int .i64 0, .slice none 0 0] 26
abbrev zE : Obj := .cells #[.int .i64 0] 27
abbrev zA : Obj := .cells #[.int .i64 0] 3
theorem three_new (w : World) : ((((w.alloc zT).alloc zE).alloc zA).heap.size = w.heap.size + 3) ∧ (((w.alloc zT).alloc zE).alloc zA).heap[w.heap.size]? = some zT ∧ (((w.alloc zT).alloc zE).alloc zA).heap[w.heap.size + 1]? = some zE ∧ (((w.alloc zT).alloc zE).alloc zA).heap[w.heap.size + 2]? = some zA ∧ Below w.heap.size w (((w.alloc zT).alloc zE).alloc zA) := by
  have b1 := al w zT
  have b2 := al (w.alloc zT) zE
  have b3 := al ((w.alloc zT).alloc zE) zA
  have s1 : (w.alloc zT).heap.size = w.heap.size + 1 := by simp
  have s2 : ((w.alloc zT).alloc zE).heap.size = w.heap.size + 2 := by simp
  have e1 : (w.alloc zT).heap[w.heap.size]? = some zT := alloc_new _ _
  have e2 : ((w.alloc zT).alloc zE).heap[w.heap.size + 1]? = some zE := by have := alloc_new (w.alloc zT) zE; rw [s1] at this; exact this
  have e3 : (((w.alloc zT).alloc zE).alloc zA).heap[w.heap.size + 2]? = some zA := by have := alloc_new ((w.alloc zT).alloc zE) zA; rw [s2] at this; exact this
  exact ⟨by simp, (b3.block _ (by omega)).trans ((b2.block _ (by omega)).trans e1), (b3.block _ (by omega)).trans e2, e3, (b1.trans (b2.mono (by omega))).trans (b3.mono (by omega))⟩
theorem make_inner (w : World) : (Instr.makeMap 66 none).run Tryd.prog w = .ok (.map (some w.heap.size)) (w.alloc (.map #[] 0)) := by kernel_rfl
theorem rd_start {l : List UInt8} {w w1 : World} {S : Nat} {i j : Int} {names : Names} {a : Option Addr} {cap : Nat} {v : Value} (hS : w1.heap.size = S + 1) (hB : w.heap.size + 3 ≤ S) (h1 : SAt w1 S v (ofL l).2.1 (ofL l).2.2) (h2 : TLies w1 (ofL l).1 v) (ho : TxLies (w.heap.size + 3) w1 names (.slice a names.length cap)) (hl : l.length ≤ 10000000) (hm : names.length ≤ 10000000) (hsh : ∀ y ∈ names, y.length ≤ 10000000) :
    RSt (RC.mk (w.heap.size + 3) S (w1.heap.size + 1) w1.heap.size (ofL l).2.1 (ofL l).2.2 i j names (.slice a names.length cap) (100 * (ofL l).1.length)) 0 names.reverse (ofL l).1 ((w1.alloc (.map #[] 0)).alloc (.cells #[.pointer (some ⟨S, 0, none⟩), .int .i64 i, .int .i64 j, .slice a names.length cap, .map (some w1.heap.size), .int .i64 names.length, .map none, .int .i64 0] 69)) ∧ Below w1.heap.size w1 ((w1.alloc (.map #[] 0)).alloc (.cells #[.pointer (some ⟨S, 0, none⟩), .int .i64 i, .int .i64 j, .slice a names.length cap, .map (some w1.heap.size), .int .i64 names.length, .map none, .int .i64 0] 69)) := by
  have hbd := ofL_bound l
  have b1 := al w1 (.map #[] 0)
  have b2 := al (w1.alloc (.map #[] 0)) (.cells #[.pointer (some ⟨S, 0, none⟩), .int .i64 i, .int .i64 j, .slice a names.length cap, .map (some w1.heap.size), .int .i64 names.length, .map none, .int .i64 0] 69)
  have s1 : (w1.alloc (.map #[] 0)).heap.size = w1.heap.size + 1 := by simp
  have bb := b1.trans (b2.mono (by omega))
  have g0 := World.ownsGroups_made (H := Unit) w1 Tryd.prog 9 3 .i64
  have hbs := bb.size
  have q1 := alloc_new (w1.alloc (.map #[] 0)) (.cells #[.pointer (some ⟨S, 0, none⟩), .int .i64 i, .int .i64 j, .slice a names.length cap, .map (some w1.heap.size), .int .i64 names.length, .map none, .int .i64 0] 69)
  rw [s1] at q1
  have q2 := groups_same g0 (b2.block _ (by omega)) (fun g cs fz e => by rw [b2.block _ (hlt_of e)]; exact e)
  have q3 := (bb.block S (by omega)).trans h1
  have q4 : TLies ((w1.alloc (.map #[] 0)).alloc (.cells #[.pointer (some ⟨S, 0, none⟩), .int .i64 i, .int .i64 j, .slice a names.length cap, .map (some w1.heap.size), .int .i64 names.length, .map none, .int .i64 0] 69)) (ofL l).1 v := h2.keep fun g cs fz e => by rw [bb.block _ (hlt_of e)]; exact e
  have q5 := ho.keep (bb.mono (by omega))
  have q6 : ∀ t ∈ (ofL l).1, t.s.length ≤ 10000000 := fun t ht => by have := (hbd.2.2 t ht).1; omega
  have q7 : (ofL l).1.length ≤ 10000000 := by omega
  have q8 : names.reverse.length = names.length := List.length_reverse
  obtain ⟨W, hW⟩ : ∃ W, W = (w1.alloc (.map #[] 0)).alloc (.cells #[.pointer (some ⟨S, 0, none⟩), .int .i64 i, .int .i64 j, .slice a names.length cap, .map (some w1.heap.size), .int .i64 names.length, .map none, .int .i64 0] 69) := ⟨_, rfl⟩
  rw [← hW] at hbs bb q1 q2 q3 q4 q5
  rw [← hW]
  clear hW b2 hbd
  obtain ⟨ts, hts⟩ : ∃ ts, (ofL l).1 = ts := ⟨_, rfl⟩
  rw [hts] at q4 q6 q7
  rw [hts]
  refine ⟨?_, bb⟩
  refine { bS := hB, bR := ?_, bM := ?_, lo := ?_, kk := ?_, str := ⟨v, q3, q4⟩, tok := q6, rdr := ?_, outs := q5, many := ?_, short := hsh }
  · dsimp only; omega
  · dsimp only; omega
  · dsimp only; omega
  · dsimp only; omega
  · refine ⟨0, 0, .map none, .map [], [], ?_, ?_, Or.inl rfl, q2, rfl, ⟨⟨[], rfl⟩, fun x => Or.inl ⟨rfl, rfl⟩⟩⟩
    · unfold RAt
      rw [q8]
      exact q1
    · dsimp only; omega
  · show names.reverse.length + 100 * ts.length + 0 ≤ 100000000000
    omega
theorem liesP_setR {w : World} {B g i : Nat} {l : List Tm} {s v : Value} (h : LiesP w (Own B w) l s) (hB : g < B) : LiesP (w.setCell ⟨g, i, none⟩ v) (Own B (w.setCell ⟨g, i, none⟩ v)) l s := by
  have k := g1 w g i v
  revert k
  generalize w.setCell ⟨g, i, none⟩ v = w'
  intro k
  exact liesP_grown h k hB
def finV (w : World) (n : Nat) (v0 v1 v2 v3 v4 : Value) : World := ((cell5 w n 0 v0 v1 v2 v3 v4).setCell ⟨n + 1, 0, none⟩ (.int .i64 0)).setCell ⟨n + 2, 0, none⟩ (.int .i64 0)
set_option maxHeartbeats 4000000 in
theorem whole_fin {w2 : World} {n B' : Nat} {v0 v1 v2 v3 v4 z0 z1 z2 z3 z4 x y s : Value} {l : List Tm} (hz : w2.heap[n]? = some (.cells #[z0, z1, z2, z3, z4] 26 (0, 0))) (h1 : w2.heap[n + 1]? = some (.cells #[x] 27 (0, 0))) (h2 : w2.heap[n + 2]? = some (.cells #[y] 3 (0, 0))) (hl : LiesP w2 (Own B' w2) l s) (hB : n + 2 < B') :
    (finV (cell5 w2 n 0 v0 v1 v2 v3 v4) n v0 v1 v2 v3 v4).heap[n]? = some (.cells #[v0, v1, v2, v3, v4] 26 (0, 0)) ∧ (finV (cell5 w2 n 0 v0 v1 v2 v3 v4) n v0 v1 v2 v3 v4).heap[n + 1]? = some (.cells #[.int .i64 0] 27 (0, 0)) ∧ (finV (cell5 w2 n 0 v0 v1 v2 v3 v4) n v0 v1 v2 v3 v4).heap[n + 2]? = some (.cells #[.int .i64 0] 3 (0, 0)) ∧ LiesP (finV (cell5 w2 n 0 v0 v1 v2 v3 v4) n v0 v1 v2 v3 v4) (Own B' (finV (cell5 w2 n 0 v0 v1 v2 v3 v4) n v0 v1 v2 v3 v4)) l s ∧ Below n w2 (finV (cell5 w2 n 0 v0 v1 v2 v3 v4) n v0 v1 v2 v3 v4) := by
  have hn := hlt_of h2
  have c1 := cell5_grown w2 n 0 v0 v1 v2 v3 v4
  have c2 := cell5_grown (cell5 w2 n 0 v0 v1 v2 v3 v4) n 0 v0 v1 v2 v3 v4
  have k1 : (cell5 w2 n 0 v0 v1 v2 v3 v4).heap[n]? = some (.cells #[v0, v1, v2, v3, v4] 26 (0, 0)) := five_set hz
  have k2 : (cell5 (cell5 w2 n 0 v0 v1 v2 v3 v4) n 0 v0 v1 v2 v3 v4).heap[n]? = some (.cells #[v0, v1, v2, v3, v4] 26 (0, 0)) := five_set k1
  have l2 := liesP_grown (liesP_grown hl c1 (by omega)) c2 (by omega)
  have cc := c1.trans c2
  have e1 := (cc.block (n + 1) (by omega) (fun e => by have := Option.some.inj e; omega)).trans h1
  have e2 := (cc.block (n + 2) (by omega) (fun e => by have := Option.some.inj e; omega)).trans h2
  have hb := below_grown (B := n) (Nat.le_refl _) cc (by omega)
  have hs := cc.size
  obtain ⟨W, hW⟩ : ∃ W, W = cell5 (cell5 w2 n 0 v0 v1 v2 v3 v4) n 0 v0 v1 v2 v3 v4 := ⟨_, rfl⟩
  rw [← hW] at k2 l2 e1 e2 hb hs
  unfold finV
  rw [← hW]
  have m1 := g1 W (n + 1) 0 (.int .i64 0)
  have m2 := g1 (W.setCell ⟨n + 1, 0, none⟩ (.int .i64 0)) (n + 2) 0 (.int .i64 0)
  have hs6 : (W.setCell ⟨n + 1, 0, none⟩ (.int .i64 0)).heap.size = W.heap.size := by simp
  refine ⟨?_, ?_, ?_, liesP_setR (liesP_setR l2 (by omega)) hB, ?_⟩
  · exact ((m2.block n (by omega) (fun e => by have := Option.some.inj e; omega)).trans (m1.block n (by omega) (fun e => by have := Option.some.inj e; omega))).trans k2
  · exact (m2.block (n + 1) (by omega) (fun e => by have := Option.some.inj e; omega)).trans (heap_setCell_same _ _ _ _ _ _ e1)
  · exact heap_setCell_same _ _ _ _ _ _ ((m1.block (n + 2) (by omega) (fun e => by have := Option.some.inj e; omega)).trans e2)
  · exact (hb.trans (below_grown (by omega) m1 (by omega))).trans (below_grown (by omega) m2 (by omega))
set_option maxRecDepth 20000 in
theorem read_results (tmps : Array Value) (w : World) (n : Nat) (v0 v1 v2 v3 v4 u1 u2 : Value) (h8 : tmps.getD 8 undef = .pointer (some ⟨n, 0, none⟩)) (h9 : tmps.getD 9 undef = .pointer (some ⟨n + 1, 0, none⟩)) (h10 : tmps.getD 10 undef = .pointer (some ⟨n + 2, 0, none⟩)) (k0 : w.heap[n]? = some (.cells #[v0, v1, v2, v3, v4] 26 (0, 0))) (k1 : w.heap[n + 1]? = some (.cells #[u1] 27 (0, 0))) (k2 : w.heap[n + 2]? = some (.cells #[u2] 3 (0, 0))) :
    (results Tryd.f26 tmps).run Tryd.prog w = .ok (.tuple #[.agg #[v0, v1, v2, v3, v4], u1, u2]) w := by
  have h8' : tmps[8]?.getD undef = .pointer (some ⟨n, 0, none⟩) := by simpa using h8
  have h9' : tmps[9]?.getD undef = .pointer (some ⟨n + 1, 0, none⟩) := by simpa using h9
  have h10' : tmps[10]?.getD undef = .pointer (some ⟨n + 2, 0, none⟩) := by simpa using h10
  have y0 : w.cell? ⟨n, 0, none⟩ = some v0 := by rw [Lib.cell_of_heap k0]; rfl
  have y1 : w.cell? ⟨n, 1, none⟩ = some v1 := by rw [Lib.cell_of_heap k0]; rfl
  have y2 : w.cell? ⟨n, 2, none⟩ = some v2 := by rw [Lib.cell_of_heap k0]; rfl
  have y3 : w.cell? ⟨n, 3, none⟩ = some v3 := by rw [Lib.cell_of_heap k0]; rfl
  have y4 : w.cell? ⟨n, 4, none⟩ = some v4 := by rw [Lib.cell_of_heap k0]; rfl
  have x1 : w.cell? ⟨n + 1, 0, none⟩ = some u1 := by rw [Lib.cell_of_heap k1]; rfl
  have x2 : w.cell? ⟨n + 2, 0, none⟩ = some u2 := by rw [Lib.cell_of_heap k2]; rfl
  simp [results, Tryd.results26, h8', h9', h10', asAddr, y0, y1, y2, y3, y4, x1, x2, go_sem]
end Go.Proofs.YtllkackipdcekaaDoor

namespace Go.Proofs.YtllkackipdcekaaDoor
open Go.RowKit Go.Maps Go.ChangeShapes

set_option maxHeartbeats 1600000 in
set_option maxRecDepth 20000 in
theorem whole_any (s : ByteArray) (names : Names) (a : Option Addr) (cap : Nat) (i j : Int) (hij : (0 ≤ i ∧ i ≤ 1000) ∧ 0 ≤ j ∧ j ≤ 1000) (w : World) (hs : s.size ≤ 10000000) (hT : TabsR w.heap.size w) (hN : TxLies w.heap.size w names (.slice a names.length cap)) (hm : names.length ≤ 10000000) (hsh : ∀ y ∈ names, y.length ≤ 10000000) :
    Calls Tryd.prog 26 #[.string s, .slice a names.length cap, .int .i64 i, .int .i64 j] w (WholeG w (readT s.data.toList names i j)) := by
  have hmf : ∀ (fn : Fn) (first cap : Array Value) (w : World), (Instr.makeFunc fn first cap).run Tryd.prog w = .ok (.func fn first cap) w := fun _ _ _ _ => rfl
  have hmk := make_inner
  have HN := Lib.hid hN
  have HT := Lib.hid hT
  have HSH := Lib.hid hsh
  have HIJ := Lib.hid hij
  have H3 := Lib.hid (three_new w)
  have hsl : s.data.toList.length = s.size := by simp
  have HSL := Lib.hid hsl
  clear hN hT hsh hij hsl
  go_enter_defers Tryd.func26, Tryd.ntmps26
  go_upto_region 1 with fail
  obtain ⟨w3, hw3⟩ : ∃ w3, w3 = ((w.alloc zT).alloc zE).alloc zA := ⟨_, rfl⟩
  rw [← hw3]
  have HC := Lib.hid H3.out
  rw [← hw3] at HC
  have h3s : w.heap.size + 3 = w3.heap.size := HC.out.1.symm
  clear hw3 H3
  go_wp2_with fail
  refine (of_any s w3 hs).mono ?_
  intro e w1 hg
  obtain ⟨v, rfl, hlt, hSA, hTL, hB1⟩ := hg
  obtain ⟨S, hS⟩ : ∃ S, w1.heap.size - 1 = S := ⟨_, rfl⟩
  rw [hS] at hSA
  rw [hS]
  have hS1 : w1.heap.size = S + 1 := by omega
  have hSB : w.heap.size + 3 ≤ S := by omega
  have hN1 := (HN.out.keep HC.out.2.2.2.2).keep (hB1.mono (by omega))
  have hN3 : TxLies (w.heap.size + 3) w1 names (.slice a names.length cap) := by
    obtain ⟨a', c', e1, e2, e3, e4⟩ := hN1
    exact ⟨a', c', e1, e2, e3, fun q hq => by obtain ⟨g, o, h1, h2, h3⟩ := e4 q hq; exact ⟨g, o, h1, by omega, h3⟩⟩
  have hst := rd_start (l := s.data.toList) (i := i) (j := j) hS1 hSB hSA hTL hN3 (by rw [HSL.out]; exact hs) hm HSH.out
  have HR := Lib.hid hst.1
  have HB := Lib.hid ((HC.out.2.2.2.2.trans (hB1.mono (by omega))).trans (hst.2.mono (by omega)))
  have HB3 := Lib.hid (hB1.trans (hst.2.mono (by omega)))
  have hw1 : w.heap.size + 4 ≤ w1.heap.size := by omega
  have HS := Lib.hid hS1
  have HBD := Lib.hid (ofL_bound s.data.toList)
  clear hSA hTL hB1 hN1 hN3 hst hS hS1 hlt
  go_upto_region 2 with fail
  obtain ⟨W, hW⟩ : ∃ W, W = (w1.alloc (.map #[] 0)).alloc (.cells #[.pointer (some ⟨S, 0, none⟩), .int .i64 i, .int .i64 j, .slice a names.length cap, .map (some w1.heap.size), .int .i64 names.length, .map none, .int .i64 0] 69) := ⟨_, rfl⟩
  rw [← hW]
  rw [← hW] at HR HB HB3
  have hWs : W.heap.size = w1.heap.size + 2 := by rw [hW]; simp
  have HWS := Lib.hid hWs
  have HT1 := Lib.hid (show TabsR (w.heap.size + 3) W from ⟨by have := HT.out.lo; omega, (HT.out.keep HB.out).heads, (HT.out.keep HB.out).syms⟩)
  have HTM := Lib.hid (rterm_any (RC.mk (w.heap.size + 3) S (w1.heap.size + 1) w1.heap.size (ofL s.data.toList).2.1 (ofL s.data.toList).2.2 i j names (.slice a names.length cap) (100 * (ofL s.data.toList).1.length)) HIJ.out ((ofL s.data.toList).1.length + 1) 0 names.reverse (ofL s.data.toList).1 0 W (by omega) HR.out HT1.out)
  have z0 := (HB3.out.block w.heap.size (by omega)).trans HC.out.2.1
  have z1 := (HB3.out.block (w.heap.size + 1) (by omega)).trans HC.out.2.2.1
  have z2 := (HB3.out.block (w.heap.size + 2) (by omega)).trans HC.out.2.2.2.1
  have HZ := Lib.hid (And.intro z0 (And.intro z1 z2))
  clear hW z0 z1 z2 hWs
  go_wp2_with fail
  refine HTM.out.mono ?_
  intro e w2 hg
  cases hx : termP (ofL s.data.toList).2.1 i j ((ofL s.data.toList).1.length + 1) 0 names.reverse (ofL s.data.toList).1 with
  | error at_ =>
    rw [show termP (RC.E (RC.mk (w.heap.size + 3) S (w1.heap.size + 1) w1.heap.size (ofL s.data.toList).2.1 (ofL s.data.toList).2.2 i j names (.slice a names.length cap) (100 * (ofL s.data.toList).1.length))) (RC.i (RC.mk (w.heap.size + 3) S (w1.heap.size + 1) w1.heap.size (ofL s.data.toList).2.1 (ofL s.data.toList).2.2 i j names (.slice a names.length cap) (100 * (ofL s.data.toList).1.length))) (RC.j (RC.mk (w.heap.size + 3) S (w1.heap.size + 1) w1.heap.size (ofL s.data.toList).2.1 (ofL s.data.toList).2.2 i j names (.slice a names.length cap) (100 * (ofL s.data.toList).1.length))) ((ofL s.data.toList).1.length + 1) 0 names.reverse (ofL s.data.toList).1 = .error at_ from hx] at hg
    obtain ⟨rfl, hf⟩ := hg
    have HX := Lib.hid (show readT s.data.toList names i j = .error at_ by unfold readT; rw [hx])
    have hfb : Below (w.heap.size + 3) W w2 := hf.below
    have HZ2 := Lib.hid (And.intro ((hfb.block _ (by omega)).trans HZ.out.1) (And.intro ((hfb.block _ (by omega)).trans HZ.out.2.1) ((hfb.block _ (by omega)).trans HZ.out.2.2)))
    have HB2 := Lib.hid (HB.out.trans (hfb.mono (by omega)))
    clear hx hf hfb
    unfold faultP
    go_wp2
    refine leaves_cons (f := 42) (args := #[.pointer (some ⟨w.heap.size, 0, none⟩), .pointer (some ⟨w.heap.size + 1, 0, none⟩), .pointer (some ⟨w.heap.size + 2, 0, none⟩)]) (by simp) (by simp [go_sem]) ?_
    refine (catch_panicking w.heap.size at_ w2 HZ2.out.1 HZ2.out.2.1 HZ2.out.2.2).mono ?_
    rintro e u' w'' ⟨rfl, rfl, hC⟩
    show ∃ v, (results _ _).run _ _ = .ok v _ ∧ _
    refine ⟨_, read_results _ w'' w.heap.size _ _ _ _ _ _ _ rfl rfl rfl hC.1 hC.2.1 hC.2.2.1, ?_⟩
    rw [HX.out]
    exact ⟨HB2.out.trans hC.2.2.2, rfl⟩
  | ok m =>
    obtain ⟨t, r⟩ := m
    rw [show termP (RC.E (RC.mk (w.heap.size + 3) S (w1.heap.size + 1) w1.heap.size (ofL s.data.toList).2.1 (ofL s.data.toList).2.2 i j names (.slice a names.length cap) (100 * (ofL s.data.toList).1.length))) (RC.i (RC.mk (w.heap.size + 3) S (w1.heap.size + 1) w1.heap.size (ofL s.data.toList).2.1 (ofL s.data.toList).2.2 i j names (.slice a names.length cap) (100 * (ofL s.data.toList).1.length))) (RC.j (RC.mk (w.heap.size + 3) S (w1.heap.size + 1) w1.heap.size (ofL s.data.toList).2.1 (ofL s.data.toList).2.2 i j names (.slice a names.length cap) (100 * (ofL s.data.toList).1.length))) ((ofL s.data.toList).1.length + 1) 0 names.reverse (ofL s.data.toList).1 = .ok (t, r) from hx] at hg
    obtain ⟨sv, rfl, hl, hfi, hs2, hf⟩ := hg
    obtain ⟨au, cu, rfl, -, -⟩ := hl.out
    have hfb : Below (w.heap.size + 3) W w2 := hf.below
    have HZ2 := Lib.hid (And.intro ((hfb.block _ (by omega)).trans HZ.out.1) (And.intro ((hfb.block _ (by omega)).trans HZ.out.2.1) ((hfb.block _ (by omega)).trans HZ.out.2.2)))
    have HB2 := Lib.hid (HB.out.trans (hfb.mono (by omega)))
    have rr : w2.cell? ⟨w1.heap.size + 1, 0, none⟩ = some (.pointer (some ⟨S, 0, none⟩)) := hs2.cells.1
    have rlt : w1.heap.size + 1 < w2.heap.size := hs2.cells.2.2.2.2
    obtain ⟨tv2, hSA2, hTL2⟩ := hs2.str
    have c5 := cell5_grown w2 w.heap.size 0 (.int .i64 t.k) (.int .i64 t.i) (.int .i64 t.j) (.int .i64 t.n) (.slice au t.kids.length cu)
    have k0 : (cell5 w2 w.heap.size 0 (.int .i64 t.k) (.int .i64 t.i) (.int .i64 t.j) (.int .i64 t.n) (.slice au t.kids.length cu)).heap[w.heap.size]? = some (.cells #[.int .i64 t.k, .int .i64 t.i, .int .i64 t.j, .int .i64 t.n, .slice au t.kids.length cu] 26 (0, 0)) := five_set HZ2.out.1
    have k1 := (c5.block (w.heap.size + 1) (by omega) (fun e => by have := Option.some.inj e; omega)).trans HZ2.out.2.1
    have k2 := (c5.block (w.heap.size + 2) (by omega) (fun e => by have := Option.some.inj e; omega)).trans HZ2.out.2.2
    have hSA3 : SAt (cell5 w2 w.heap.size 0 (.int .i64 t.k) (.int .i64 t.i) (.int .i64 t.j) (.int .i64 t.n) (.slice au t.kids.length cu)) S tv2 (ofL s.data.toList).2.1 (ofL s.data.toList).2.2 := (c5.block S (hlt_of hSA2) (fun e => by have := Option.some.inj e; omega)).trans hSA2
    have hTL3 : TLies (cell5 w2 w.heap.size 0 (.int .i64 t.k) (.int .i64 t.i) (.int .i64 t.j) (.int .i64 t.n) (.slice au t.kids.length cu)) r tv2 := hTL2.keep fun g cs fz e => by
      rw [c5.block g (hlt_of e) (fun e2 => by
        have e3 := Option.some.inj e2
        rw [e3] at e
        exact (by decide : (97 : TypeId) ≠ 26) (type_one e HZ2.out.1))]
      exact e
    have HEND := Lib.hid (end_any S tv2 (ofL s.data.toList).2.1 (ofL s.data.toList).2.2 r _ hSA3 hTL3)
    have HKK := Lib.hid (And.intro k0 (And.intro k1 k2))
    have HB5 := Lib.hid (HB2.out.trans (below_grown (Nat.le_refl _) c5 (by omega)))
    have HFIN := Lib.hid (whole_fin (B' := W.heap.size) (v0 := .int .i64 t.k) (v1 := .int .i64 t.i) (v2 := .int .i64 t.j) (v3 := .int .i64 t.n) (v4 := .slice au t.kids.length cu) HZ2.out.1 HZ2.out.2.1 HZ2.out.2.2 hl (by have := HWS.out; omega))
    have HFI := Lib.hid hfi
    have HX1 := Lib.hid hx
    obtain ⟨⟨q0, q1, q2, q3, q4⟩, ⟨g0, g1x, g2, g3, g4⟩, hGl⟩ := cells5_of HZ2.out.1
    have p1 : w2.cell? ⟨w.heap.size + 1, 0, none⟩ = some (.int .i64 0) := by rw [Lib.cell_of_heap HZ2.out.2.1]; rfl
    have p2 : w2.cell? ⟨w.heap.size + 2, 0, none⟩ = some (.int .i64 0) := by rw [Lib.cell_of_heap HZ2.out.2.2]; rfl
    have p3 : w2.frozen? ⟨w.heap.size + 1, 0, none⟩ = false := Lib.frozen_of_heap HZ2.out.2.1 0
    have p4 : w2.frozen? ⟨w.heap.size + 2, 0, none⟩ = false := Lib.frozen_of_heap HZ2.out.2.2 0
    have hne : ¬ w1.heap.size + 1 = w.heap.size := by omega
    clear hl hfi hs2 hf hfb hSA2 hTL2 c5 k0 k1 k2 hSA3 hTL3 hx
    unfold tv
    go_wp2_with fail
    refine HEND.out.mono ?_
    intro e w4 hg
    obtain ⟨hww, hg⟩ := hg
    rw [hww] at HKK HB5 HFIN
    clear hww HEND q0 q1 q2 q3 q4 g0 g1x g2 g3 g4 hGl p1 p2 p3 p4 rr
    obtain ⟨⟨q0, q1, q2, q3, q4⟩, ⟨g0, g1x, g2, g3, g4⟩, hGl⟩ := cells5_of HKK.out.1
    have p1 : w4.cell? ⟨w.heap.size + 1, 0, none⟩ = some (.int .i64 0) := by rw [Lib.cell_of_heap HKK.out.2.1]; rfl
    have p2 : w4.cell? ⟨w.heap.size + 2, 0, none⟩ = some (.int .i64 0) := by rw [Lib.cell_of_heap HKK.out.2.2]; rfl
    have p3 : w4.frozen? ⟨w.heap.size + 1, 0, none⟩ = false := Lib.frozen_of_heap HKK.out.2.1 0
    have p4 : w4.frozen? ⟨w.heap.size + 2, 0, none⟩ = false := Lib.frozen_of_heap HKK.out.2.2 0
    cases hy : endP (ofL s.data.toList).2.1 (ofL s.data.toList).2.2 r with
    | error at_ =>
      rw [hy] at hg
      obtain rfl := hg
      have HX := Lib.hid (show readT s.data.toList names i j = .error at_ by unfold readT; rw [HX1.out]; simp only; rw [hy])
      clear hy
      unfold faultP
      go_wp2
      refine leaves_cons (f := 42) (args := #[.pointer (some ⟨w.heap.size, 0, none⟩), .pointer (some ⟨w.heap.size + 1, 0, none⟩), .pointer (some ⟨w.heap.size + 2, 0, none⟩)]) (by simp) (by simp [go_sem]) ?_
      refine (catch_panicking w.heap.size at_ w4 HKK.out.1 HKK.out.2.1 HKK.out.2.2).mono ?_
      rintro e u' w'' ⟨rfl, rfl, hC⟩
      show ∃ v, (results _ _).run _ _ = .ok v _ ∧ _
      refine ⟨_, read_results _ w'' w.heap.size _ _ _ _ _ _ _ rfl rfl rfl hC.1 hC.2.1 hC.2.2.1, ?_⟩
      rw [HX.out]
      exact ⟨HB5.out.trans hC.2.2.2, rfl⟩
    | ok u =>
      rw [hy] at hg
      obtain rfl := hg
      have HX := Lib.hid (show readT s.data.toList names i j = .ok t by unfold readT; rw [HX1.out]; simp only; rw [hy])
      clear hy
      go_wp2
      refine leaves_cons (f := 42) (args := #[.pointer (some ⟨w.heap.size, 0, none⟩), .pointer (some ⟨w.heap.size + 1, 0, none⟩), .pointer (some ⟨w.heap.size + 2, 0, none⟩)]) (by simp) (by simp [go_sem]) ?_
      refine (catch_idle w.heap.size _).mono ?_
      rintro e u' w'' ⟨rfl, rfl, rfl⟩
      show ∃ v, (results _ _).run _ _ = .ok v _ ∧ _
      refine ⟨_, read_results _ (finV w4 w.heap.size (.int .i64 t.k) (.int .i64 t.i) (.int .i64 t.j) (.int .i64 t.n) (.slice au t.kids.length cu)) w.heap.size _ _ _ _ _ _ _ rfl rfl rfl HFIN.out.1 HFIN.out.2.1 HFIN.out.2.2.1, ?_⟩
      rw [HX.out]
      exact ⟨HB2.out.trans HFIN.out.2.2.2.2, _, rfl, HFIN.out.2.2.2.1.from (by have := HWS.out; omega), HFI.out⟩
end Go.Proofs.YtllkackipdcekaaDoor

namespace Go.Proofs.YtllkackipdcekaaDoor
open Go.RowKit Go.Maps Go.ChangeShapes

theorem results_ct2 {P : Program} {fn : Func} {p q r : Tmp} {ty : TypeId} (h : fn.results = #[.cell p ty, .tmp q, .tmp r]) (tmps : Array Value) (w : World) (g : Nat) (t : TypeId) (cs : Array Value) (fr : Nat × Nat) (d : TypeDesc)
    (hp : tmps.getD p undef = .pointer (some ⟨g, 0, none⟩)) (hg : w.heap[g]? = some (.cells cs t fr))
    (hu : P.underlying ty = some d) (hd : (match d with | .struct _ | .array _ _ => true | _ => false) = true) (hi : (P.info? ty).map (·.size) = some cs.size) :
    (results fn tmps).run P w = .ok (.tuple #[.agg cs, tmps.getD q undef, tmps.getD r undef]) w := by
  have hp' : tmps[p]?.getD undef = .pointer (some ⟨g, 0, none⟩) := by simpa using hp
  simp [results, h, hp', asAddr, run_loadVar_row w g t ty cs fr d hg hu hd hi]
def readB (l : List UInt8) (names : Names) (i j : Int) : Except (Nat × Nat) Tm :=
  if i < 0 ∨ 1000 < i ∨ j < 0 ∨ 1000 < j then .error (1, 0) else
    match readT l names i j with
    | .error a => .error (2, a)
    | .ok t => .ok t
def ReadG (w : World) (x : Except (Nat × Nat) Tm) (e : Ending) (w' : World) : Prop := Below w.heap.size w w' ∧ match x with
  | .error (k, a) => e = .returned (.tuple #[.agg #[.int .i64 0, .int .i64 0, .int .i64 0, .int .i64 0, .slice none 0 0], .int .i64 k, .int .i64 a])
  | .ok t => ∃ s, e = .returned (.tuple #[tv t s, .int .i64 0, .int .i64 0]) ∧ LiesP w' (Own w.heap.size w') t.kids s ∧ t.fine
theorem TabsR.up {B B' : Nat} {w : World} (h : TabsR B w) (hB : B ≤ B') : TabsR B' w := ⟨by have := h.lo; omega, h.heads, h.syms⟩
theorem TxLies.up {B B' : Nat} {w : World} {l : Names} {v : Value} (h : TxLies B w l v) (hB : B ≤ B') : TxLies B' w l v := by
  obtain ⟨a, c, e1, e2, e3, e4⟩ := h
  exact ⟨a, c, e1, e2, e3, fun q hq => by obtain ⟨g, o, h1, h2, h3⟩ := e4 q hq; exact ⟨g, o, h1, by omega, h3⟩⟩
set_option maxHeartbeats 400000 in
set_option maxRecDepth 20000 in
theorem read_any (s : ByteArray) (names : Names) (nv : Value) (i j : Int) (w : World) (hs : s.size ≤ 10000000) (hT : TabsR w.heap.size w) (hN : TxLies w.heap.size w names nv) (hm : names.length ≤ 10000000) (hsh : ∀ y ∈ names, y.length ≤ 10000000) :
    Calls Tryd.prog 12 #[.string s, nv, .int .i64 i, .int .i64 j] w (ReadG w (readB s.data.toList names i j)) := by
  obtain ⟨du, hu1, hu2⟩ := under_term
  obtain ⟨a, cap, rfl, hN2⟩ := hN
  have hN : TxLies w.heap.size w names (.slice a names.length cap) := ⟨a, cap, rfl, hN2⟩
  have hba := al w zT
  have hsz : (w.alloc zT).heap.size = w.heap.size + 1 := by simp
  have HG := Lib.hid (show (w.alloc zT).heap[w.heap.size]? = some zT from alloc_new _ _)
  have HW := Lib.hid (fun (h : (0 ≤ i ∧ i ≤ 1000) ∧ 0 ≤ j ∧ j ≤ 1000) => whole_any s names a cap i j h (w.alloc zT) hs ((hT.keep hba).up (by omega)) ((hN.keep hba).up (by omega)) hm hsh)
  have HBA := Lib.hid hba
  have HSZ := Lib.hid hsz
  clear hN hN2 hT hba hsh hsz
  by_cases c1 : i < 0
  · skip
    have HX := Lib.hid (show readB s.data.toList names i j = .error (1, 0) from if_pos (by omega))
    go_enter Tryd.func12, Tryd.ntmps12
    go_wp2
    refine bodyPost_ret (results_ct2 rfl _ _ w.heap.size _ _ _ du rfl HG.out hu1 (by cases du <;> first | rfl | exact hu2) size_term) rfl ?_
    rw [HX.out]
    exact ⟨HBA.out, rfl⟩
  by_cases c2 : 1000 < i
  · skip
    have HX := Lib.hid (show readB s.data.toList names i j = .error (1, 0) from if_pos (by omega))
    go_enter Tryd.func12, Tryd.ntmps12
    go_wp2
    refine bodyPost_ret (results_ct2 rfl _ _ w.heap.size _ _ _ du rfl HG.out hu1 (by cases du <;> first | rfl | exact hu2) size_term) rfl ?_
    rw [HX.out]
    exact ⟨HBA.out, rfl⟩
  by_cases c3 : j < 0
  · skip
    have HX := Lib.hid (show readB s.data.toList names i j = .error (1, 0) from if_pos (by omega))
    go_enter Tryd.func12, Tryd.ntmps12
    go_wp2
    refine bodyPost_ret (results_ct2 rfl _ _ w.heap.size _ _ _ du rfl HG.out hu1 (by cases du <;> first | rfl | exact hu2) size_term) rfl ?_
    rw [HX.out]
    exact ⟨HBA.out, rfl⟩
  by_cases c4 : 1000 < j
  · skip
    have HX := Lib.hid (show readB s.data.toList names i j = .error (1, 0) from if_pos (by omega))
    go_enter Tryd.func12, Tryd.ntmps12
    go_wp2
    refine bodyPost_ret (results_ct2 rfl _ _ w.heap.size _ _ _ du rfl HG.out hu1 (by cases du <;> first | rfl | exact hu2) size_term) rfl ?_
    rw [HX.out]
    exact ⟨HBA.out, rfl⟩
  have HC := Lib.hid (HW.out (by omega))
  have HX := Lib.hid (show readB s.data.toList names i j = (match readT s.data.toList names i j with
    | .error a => .error (2, a)
    | .ok t => .ok t) from if_neg (by omega))
  clear HW
  go_enter Tryd.func12, Tryd.ntmps12
  go_wp2_with fail
  refine HC.out.mono ?_
  intro e w2 hg
  obtain ⟨hB, hg⟩ := hg
  have hz2 := (hB.block w.heap.size (by have := HSZ.out; omega)).trans HG.out
  obtain ⟨⟨q0, q1, q2, q3, q4⟩, ⟨g0, g1x, g2, g3, g4⟩, hGl⟩ := cells5_of hz2
  have HZ := Lib.hid hz2
  have HB := Lib.hid (HBA.out.trans (hB.mono (by have := HSZ.out; omega)))
  clear hz2 hB HBA
  cases hx : readT s.data.toList names i j with
  | error at_ =>
    rw [hx] at hg HX
    obtain rfl := hg
    clear hx
    go_wp2
    refine bodyPost_ret (results_ct2 rfl _ _ w.heap.size _ _ _ du rfl (five_set HZ.out) hu1 (by cases du <;> first | rfl | exact hu2) size_term) rfl ?_
    rw [HX.out]
    exact ⟨HB.out.trans (below_grown (Nat.le_refl _) (cell5_grown w2 w.heap.size 0 (.int .i64 0) (.int .i64 0) (.int .i64 0) (.int .i64 0) (.slice none 0 0)) (by omega)), rfl⟩
  | ok t =>
    rw [hx] at hg HX
    obtain ⟨sv, rfl, hl, hfi⟩ := hg
    obtain ⟨au, cu, rfl, -, -⟩ := hl.out
    have c5 := cell5_grown w2 w.heap.size 0 (.int .i64 t.k) (.int .i64 t.i) (.int .i64 t.j) (.int .i64 t.n) (.slice au t.kids.length cu)
    have HLL := Lib.hid ((liesP_grown hl c5 (by have := HSZ.out; omega)).from (B' := w.heap.size) (by have := HSZ.out; omega))
    have HBB := Lib.hid (HB.out.trans (below_grown (Nat.le_refl _) c5 (by omega)))
    have HFI := Lib.hid hfi
    clear hx hl c5 hfi
    unfold tv
    go_wp2
    refine bodyPost_ret (results_ct2 rfl _ _ w.heap.size _ _ _ du rfl (five_set HZ.out) hu1 (by cases du <;> first | rfl | exact hu2) size_term) rfl ?_
    rw [HX.out]
    exact ⟨HBB.out, _, rfl, HLL.out, HFI.out⟩
/-- Name. -/
def nameB (n : Int) : List UInt8 := if 1 ≤ n ∧ n ≤ 21 then (symsW[(n - 1).toNat]?).getD [] else []
set_option maxHeartbeats 2000000 in
set_option maxRecDepth 20000 in
theorem nameR_any (B : Nat) (n : Int) (w : World) (hT : TabsR B w) : Calls Tryd.prog 18 #[.int .i64 n] w fun e w' => e = .returned (.string ⟨(nameB n).toArray⟩) ∧ w = w' := by
  have HT := Lib.hid hT
  clear hT
  by_cases c1 : n < 1
  · have HX := Lib.hid (show nameB n = [] from if_neg (by omega))
    go_enter Tryd.func18, Tryd.ntmps18
    go_wp2
    go_ret
    rw [HX.out]
    exact ⟨rfl, rfl⟩
  by_cases c2 : 21 < n
  · have HX := Lib.hid (show nameB n = [] from if_neg (by omega))
    go_enter Tryd.func18, Tryd.ntmps18
    go_wp2
    go_ret
    rw [HX.out]
    exact ⟨rfl, rfl⟩
  obtain ⟨k, rfl⟩ : ∃ k : Nat, n = (k : Int) + 1 := ⟨(n - 1).toNat, by omega⟩
  have hk : k < 21 := by omega
  have HX := Lib.hid (show nameB ((k : Int) + 1) = (symsW[k]?).getD [] by unfold nameB; rw [if_pos (by omega), show ((k : Int) + 1 - 1).toNat = k by omega])
  have hw : IntKind.i64.wrap ((k : Int) + 1 - 1) = (k : Int) := by rw [IntWalk.i64_in _ (by omega)]; omega
  have hc := HT.out.syms k hk
  generalize (symsW[k]?).getD [] = y at HX hc
  go_enter Tryd.func18, Tryd.ntmps18
  go_wp2
  go_ret
  rw [HX.out]
  exact ⟨rfl, rfl⟩
end Go.Proofs.YtllkackipdcekaaDoor

namespace Go.Proofs.YtllkackipdcekaaDoor

def Lk (a b : List Tok) : Prop := a.map (fun t => (t.k, t.s)) = b.map (fun t => (t.k, t.s))
theorem Lk.nil {b : List Tok} (h : Lk [] b) : b = [] := by unfold Lk at h; simpa using h.symm
theorem Lk.cons {t : Tok} {r b : List Tok} (h : Lk (t :: r) b) : ∃ t1 r1, b = t1 :: r1 ∧ t1.k = t.k ∧ t1.s = t.s ∧ Lk r r1 := by
  cases b with
  | nil => unfold Lk at h; simp at h
  | cons t1 r1 =>
    unfold Lk at h
    simp only [List.map_cons, List.cons.injEq, Prod.mk.injEq] at h
    exact ⟨t1, r1, rfl, h.1.1.symm, h.1.2.symm, h.2⟩
end Go.Proofs.YtllkackipdcekaaDoor

namespace Go.Proofs.YtllkackipdcekaaDoor

theorem Lk.refl (ts : List Tok) : Lk ts ts := rfl
end Go.Proofs.YtllkackipdcekaaDoor

namespace Go.Proofs.YtllkackipdcekaaDoor

def levT (b : Bool) : Nat → List UInt8
  | 0 => if b then [40, 109, 97, 120, 32, 105, 32, 106, 41] else [105]
  | k + 1 => [40, 115, 117, 99, 32] ++ levT b k ++ [41]
def levK (b : Bool) : Nat → Nat → List Tok
  | 0, p => if b then [⟨1, [40], p⟩, ⟨3, [109, 97, 120], p + 1⟩, ⟨3, [105], p + 5⟩, ⟨3, [106], p + 7⟩, ⟨2, [41], p + 8⟩] else [⟨3, [105], p⟩]
  | k + 1, p => ⟨1, [40], p⟩ :: ⟨3, [115, 117, 99], p + 1⟩ :: (levK b k (p + 5) ++ [⟨2, [41], p + 5 + (levT b k).length⟩])
def srtT (b : Bool) (k : Nat) : List UInt8 := [40, 115, 111, 114, 116, 32] ++ levT b k ++ [41]
def srtK (b : Bool) (k : Nat) : List Tok := ⟨1, [40], 0⟩ :: ⟨3, [115, 111, 114, 116], 1⟩ :: (levK b k 6 ++ [⟨2, [41], 6 + (levT b k).length⟩])
def levW (b : Bool) (i j : Int) : Int := if b then max i j else i
theorem lex_levF : (List.range 31).map (fun k => lexL (srtT false k) 0) = (List.range 31).map (fun k => (srtK false k, none)) := by kernel_rfl
theorem lex_levT : (List.range 31).map (fun k => lexL (srtT true k) 0) = (List.range 31).map (fun k => (srtK true k, none)) := by kernel_rfl
theorem lex_lev (b : Bool) (k : Nat) (hk : k ≤ 30) : lexL (srtT b k) 0 = (srtK b k, none) := by
  have hr : (List.range 31)[k]? = some k := List.getElem?_range (by omega)
  cases b with
  | false =>
    have := congrArg (fun l => l[k]?) lex_levF
    simpa [List.getElem?_map, hr] using this
  | true =>
    have := congrArg (fun l => l[k]?) lex_levT
    simpa [List.getElem?_map, hr] using this
theorem lev_read (E : Nat) (b : Bool) (i j : Int) (hi : 0 ≤ i ∧ i ≤ 1000) (hj : 0 ≤ j ∧ j ≤ 1000) : ∀ (k p f : Nat) (r : List Tok), k + 2 ≤ f →
    levelP E i j f (levK b k p ++ r) = if levW b i j + k ≤ 1000 then .ok (levW b i j + k, r) else .error (p + 5 * (k - (1001 - levW b i j).toNat))
  | 0, p, f + 2, r, hf => by
    have one : ∀ (q : Nat) (r : List Tok), levelP E i j (f + 1) (⟨3, [105], q⟩ :: r) = .ok (i, r) := fun q r => by
      unfold levelP numP
      simp only [show ¬ ((3 : Nat) = 4) by omega, if_false, if_true]
      rw [if_neg (by omega)]
    have two : ∀ (q : Nat) (r : List Tok), levelP E i j (f + 1) (⟨3, [106], q⟩ :: r) = .ok (j, r) := fun q r => by
      unfold levelP numP
      simp only [show ¬ ((3 : Nat) = 4) by omega, if_false, if_true, show ¬ (([106] : List UInt8) = [105]) by decide]
      rw [if_neg (by omega)]
    have hw : levW b i j + (0 : Nat) ≤ 1000 := by unfold levW; split <;> omega
    rw [if_pos hw]
    cases b with
    | false =>
      show levelP E i j (f + 1 + 1) (⟨3, [105], p⟩ :: r) = _
      unfold levelP numP
      simp only [show ¬ ((3 : Nat) = 4) by omega, if_false, if_true]
      rw [if_neg (by omega)]
      simp [levW]
    | true =>
      show levelP E i j (f + 1 + 1) (⟨1, [40], p⟩ :: ⟨3, [109, 97, 120], p + 1⟩ :: ⟨3, [105], p + 5⟩ :: ⟨3, [106], p + 7⟩ :: ⟨2, [41], p + 8⟩ :: r) = _
      rw [levelP]
      unfold numP
      simp only [show ¬ ((1 : Nat) = 4) by omega, show ¬ ((1 : Nat) = 3) by omega, if_false, if_true]
      unfold numQ takeT
      simp only [if_true, show ¬ (([109, 97, 120] : List UInt8) = [115, 117, 99]) by decide, if_false, one, two]
      rw [if_neg (by omega)]
      simp [levW]
  | k + 1, p, f + 1, r, hf => by
    have ih := lev_read E b i j hi hj k (p + 5) f (⟨2, [41], p + 5 + (levT b k).length⟩ :: r) (by omega)
    show levelP E i j (f + 1) (⟨1, [40], p⟩ :: ⟨3, [115, 117, 99], p + 1⟩ :: ((levK b k (p + 5) ++ [⟨2, [41], p + 5 + (levT b k).length⟩]) ++ r)) = _
    rw [List.append_assoc, List.singleton_append]
    rw [levelP]
    unfold numP
    simp only [show ¬ ((1 : Nat) = 4) by omega, show ¬ ((1 : Nat) = 3) by omega, if_false, if_true]
    unfold numQ takeT
    simp only [if_true]
    rw [ih]
    have h0 : 0 ≤ levW b i j ∧ levW b i j ≤ 1000 := by unfold levW; split <;> omega
    by_cases h : levW b i j + k ≤ 1000
    · rw [if_pos h]
      simp only [if_true]
      by_cases h2 : levW b i j + k + 1 ≤ 1000
      · rw [if_neg (by omega), if_pos (by omega)]
        congr 2
        simp [Int.add_assoc]
      · rw [if_pos (by omega), if_neg (by omega)]
        show Except.error p = _
        rw [show k + 1 - (1001 - levW b i j).toNat = 0 by omega]
        rfl
    · rw [if_neg h, if_neg (by omega)]
      show Except.error _ = Except.error _
      congr 1
      omega
theorem readLv (b : Bool) (k : Nat) (hk : k ≤ 30) (i j : Int) (hi : 0 ≤ i ∧ i ≤ 1000) (hj : 0 ≤ j ∧ j ≤ 1000) :
    readB (srtT b k) [] i j = if levW b i j + k ≤ 1000 then .ok (.mk 1 (levW b i j + k) 0 0 []) else .error (2, 6 + 5 * (k - (1001 - levW b i j).toNat)) := by
  have ho : ofL (srtT b k) = (srtK b k, (srtT b k).length, false) := by unfold ofL; rw [lex_lev b k hk]
  have hlen : ∀ (k p : Nat), k + 1 ≤ (levK b k p).length := fun k => by
    induction k with
    | zero => intro p; unfold levK; split <;> simp
    | succ k ih => intro p; unfold levK; have := ih (p + 5); simp; omega
  have hl := lev_read (srtT b k).length b i j hi hj k 6 (srtK b k).length [⟨2, [41], 6 + (levT b k).length⟩] (by have := hlen k 6; unfold srtK; simp; omega)
  unfold readB readT
  rw [if_neg (by omega), ho]
  dsimp only
  generalize hF : (srtK b k).length = F at hl ⊢
  generalize (srtT b k).length = E at hl ⊢
  unfold srtK
  rw [termP]
  simp only [if_true]
  unfold listP takeT
  simp only [if_true]
  rw [show headN [115, 111, 114, 116] = 1 from rfl]
  rw [if_neg (by unfold sortN; simp)]
  unfold bodyP symP
  simp only [show ¬ ((1 : Int) = 23) by omega, if_false]
  unfold lvaP
  rw [show levelsN 1 = 1 from rfl]
  simp only [show (0 : Int) < 1 by omega, if_true]
  rw [hl]
  by_cases h : levW b i j + k ≤ 1000
  · rw [if_pos h, if_pos h]
    simp only [lvbP, show levelsN 1 = 1 from rfl, show ¬ ((1 : Int) < 1) by omega, if_false, kdsP, show ¬ ((1 : Int) = 22) by omega, kidsK, show kidsN 1 0 = 0 from rfl, Int.le_refl, if_true]
    rfl
  · rw [if_neg h, if_neg h]
end Go.Proofs.YtllkackipdcekaaDoor

namespace Go.Proofs.YtllkackipdcekaaDoor
theorem wk1 : readB [40, 76, 97, 109, 32, 120, 32, 40, 115, 111, 114, 116, 32, 105, 41, 32, 120, 41] [] 4 0 = .ok (.mk 14 0 0 0 [.mk 1 4 0 0 [], .mk 2 0 0 0 []]) := by kernel_rfl
theorem wk2 : readB [40, 76, 97, 109, 32, 120, 32, 40, 115, 111, 114, 116, 32, 48, 41, 32, 121, 41] [] 0 0 = .error (2, 16) := by kernel_rfl
end Go.Proofs.YtllkackipdcekaaDoor

namespace Go.Proofs.YtllkackipdcekaaDoor
open Go.RowKit Go.Maps Go.ChangeShapes

def wkT : Tm := .mk 14 0 0 0 [.mk 1 4 0 0 [], .mk 2 0 0 0 []]
theorem nil_texts (B : Nat) (w : World) : TxLies B w [] (.slice none 0 0) := ⟨none, 0, rfl, Nat.le_refl _, by unfold maxLen; omega, fun q hq => absurd hq (by simp)⟩
theorem kids2_cells {w : World} {B cap : Nat} {a : Option Addr} {x y : Tm} (h : LiesP w (Own B w) [x, y] (.slice a 2 cap)) : ∃ g, a = some ⟨g, 0, none⟩ ∧ 2 ≤ cap ∧ g < w.heap.size ∧ w.cell? ⟨g, 1, none⟩ = some (.int .i64 x.i) ∧ w.cell? ⟨g, 6, none⟩ = some (.int .i64 y.i) := by
  cases h with
  | mk _ _ _ S hc hm hf hn hk =>
    obtain ⟨b, rfl, hp, n0⟩ := hn 0 (by simp)
    obtain ⟨b', e, hp', n1⟩ := hn 1 (by simp)
    obtain rfl : b = b' := by injection e with e; injection e
    exact ⟨b, rfl, hc, hlt_of hp.2.choose_spec, n0.c1, n1.c1⟩
theorem symN_crefl : symN [99, 114, 101, 102, 108] = 21 := by decide
theorem nameB_one : nameB 1 = [117, 105, 112] := by decide
set_option maxRecDepth 20000 in
set_option maxHeartbeats 2000000 in
theorem wakes9_any (w : World) (hT : TabsR w.heap.size w) : Calls Tryd.prog 15 #[] w fun e w' => e = .returned (.bool true) ∧ Below w.heap.size w w' := by
  have H1 := Lib.hid (read_any ⟨#[40, 76, 97, 109, 32, 120, 32, 40, 115, 111, 114, 116, 32, 105, 41, 32, 120, 41]⟩ [] (.slice none 0 0) 4 0 w (by decide) hT (nil_texts _ _) (by decide) (fun y hy => by cases hy))
  rw [show readB (ByteArray.mk #[40, 76, 97, 109, 32, 120, 32, 40, 115, 111, 114, 116, 32, 105, 41, 32, 120, 41]).data.toList [] 4 0 = .ok wkT from wk1] at H1
  have HT := Lib.hid hT
  clear hT
  go_enter Tryd.func15, Tryd.ntmps15
  go_wp2_with fail
  refine H1.out.mono ?_
  intro e w1 hg
  obtain ⟨hB1, sv, he, hl, hfi⟩ := hg
  obtain ⟨a, cap, rfl, -, -⟩ := hl.out
  have he' : e = .returned (.tuple #[.agg #[.int .i64 14, .int .i64 0, .int .i64 0, .int .i64 0, .slice a 2 cap], .int .i64 0, .int .i64 0]) := he
  clear he
  subst he'
  have hT1 := (HT.out.keep hB1).up hB1.size
  have hba := al w1 (.cells #[.int .i64 14, .int .i64 0, .int .i64 0, .int .i64 0, .slice a 2 cap] 26)
  have HT2 := Lib.hid ((hT1.keep hba).up hba.size)
  have HN2 := Lib.hid (show (w1.alloc (.cells #[.int .i64 14, .int .i64 0, .int .i64 0, .int .i64 0, .slice a 2 cap] 26)).heap[w1.heap.size]? = some (.cells #[.int .i64 14, .int .i64 0, .int .i64 0, .int .i64 0, .slice a 2 cap] 26) from alloc_new _ _)
  have HL2 := Lib.hid (hl.later hba)
  have HB2 := Lib.hid (hB1.trans (hba.mono hB1.size))
  have hs1 : w1.heap.size < (w1.alloc (.cells #[.int .i64 14, .int .i64 0, .int .i64 0, .int .i64 0, .slice a 2 cap] 26)).heap.size := by simp
  clear hB1 hl hfi hT1 hba
  go_upto_region 2 with fail
  obtain ⟨W, hW⟩ : ∃ W, W = w1.alloc (.cells #[.int .i64 14, .int .i64 0, .int .i64 0, .int .i64 0, .slice a 2 cap] 26) := ⟨_, rfl⟩
  rw [← hW] at HT2 HN2 HL2 HB2 hs1
  rw [← hW]
  clear hW
  have H2 := Lib.hid (read_any ⟨#[40, 76, 97, 109, 32, 120, 32, 40, 115, 111, 114, 116, 32, 48, 41, 32, 121, 41]⟩ [] (.slice none 0 0) 0 0 W (by decide) HT2.out (nil_texts _ _) (by decide) (fun y hy => by cases hy))
  rw [show readB (ByteArray.mk #[40, 76, 97, 109, 32, 120, 32, 40, 115, 111, 114, 116, 32, 48, 41, 32, 121, 41]).data.toList [] 0 0 = .error (2, 16) from wk2] at H2
  go_wp2_with fail
  refine H2.out.mono ?_
  intro e w2 hg
  obtain ⟨hB, hg⟩ := hg
  obtain rfl := hg
  have hba := al w2 (.cells #[.int .i64 0, .int .i64 0, .int .i64 0, .int .i64 0, .slice none 0 0] 26)
  have hW3 := hB.trans (hba.mono hB.size)
  have HT3 := Lib.hid ((HT2.out.keep hW3).up hW3.size)
  have HB3 := Lib.hid (HB2.out.trans (hW3.mono HB2.out.size))
  have hn3 := (hW3.block _ hs1).trans HN2.out
  obtain ⟨⟨q0, q1, q2, q3, q4⟩, -, hGl⟩ := cells5_of hn3
  obtain ⟨g, rfl, hcap, hgl, k1, k2⟩ := kids2_cells (HL2.out.later hW3)
  clear hB hba hn3 H1 H2 HN2 HL2
  go_upto_region 3 with fail
  obtain ⟨V, hV⟩ : ∃ V, V = w2.alloc (.cells #[.int .i64 0, .int .i64 0, .int .i64 0, .int .i64 0, .slice none 0 0] 26) := ⟨_, rfl⟩
  rw [← hV] at HT3 HB3 q0 q1 q2 q3 q4 hGl hgl k1 k2
  rw [← hV]
  clear hV hW3
  have HS := Lib.hid (symbol_any V.heap.size [99, 114, 101, 102, 108] V HT3.out)
  have HN := Lib.hid (nameR_any V.heap.size 1 V HT3.out)
  rw [symN_crefl] at HS
  rw [nameB_one] at HN
  go_wp2_with fail
  refine HS.out.mono ?_
  rintro e w4 ⟨rfl, rfl⟩
  go_wp2_with fail
  refine HN.out.mono ?_
  rintro e w4 ⟨rfl, rfl⟩
  go_wp2
  go_ret
  exact ⟨rfl, HB3.out⟩
end Go.Proofs.YtllkackipdcekaaDoor

namespace Go.Proofs.YtllkackipdcekaaDoor
open Go.RowKit Go.Lib

/-- The library's table stays as it is whatever is made. -/
def Tab (w : World) : Prop := TabBelow Tryd.prog w.heap.size w "internal/strconv.uint64pow10" .u64 pow10Tab
theorem Tab.later {w w' : World} (h : Tab w) (hb : Below w.heap.size w w') : Tab w' := fun _ h2 => TabBelow.here (TabBelow.on h (hb.trans (h2.mono hb.size)))
/-- A variable that holds just these texts. -/
def StrIs (w : World) (name : String) (ss : List (List UInt8)) : Prop := w.var? Tryd.prog name = some (ss.map fun s => Value.string ⟨s.toArray⟩).toArray
theorem StrIs.cell {W : World} {name : String} {ss : List (List UInt8)} {g : Nat} (h : StrIs W name ss) (hg : Tryd.prog.globalNamed name = some g) (i : Nat) (hi : i < ss.length) : W.cell? ⟨g, i, none⟩ = some (.string ⟨(ss[i]).toArray⟩) := by
  have := World.var?_cell hg h i
  simpa [hi] using this
theorem StrIs.on {w w' : World} {name : String} {ss : List (List UInt8)} (h : StrIs w name ss) (hb : Below w.heap.size w w') : StrIs w' name ss := by
  unfold StrIs World.var? at *
  cases hg : Tryd.prog.globalNamed name with
  | none => simp [hg] at h
  | some g =>
    simp only [hg, Option.bind_some] at h ⊢
    have hlt : g < w.heap.size := by
      rcases Nat.lt_or_ge g w.heap.size with h' | h'
      · exact h'
      · rw [Array.getElem?_eq_none h'] at h; simp at h
    rw [hb.block g hlt]
    exact h
/-- What a text of a term is written from. -/
structure WTab (w : World) : Prop where
  pow : Tab w
  syms : StrIs w "tranship/read.symbols" symsW
  heads : StrIs w "tranship/write.heads" headsW
theorem WTab.later {w w' : World} (h : WTab w) (hb : Below w.heap.size w w') : WTab w' := ⟨h.pow.later hb, h.syms.on hb, h.heads.on hb⟩
end Go.Proofs.YtllkackipdcekaaDoor

namespace Go.Proofs.YtllkackipdcekaaDoor
open Go.RowKit Go.Maps Go.ChangeShapes

set_option maxHeartbeats 1000000 in
set_option maxRecDepth 20000 in
theorem readLevels_f (i j : Int) (k : Nat) (hk : k ≤ 30) (hi : 0 ≤ i ∧ i ≤ 1000) (hj : 0 ≤ j ∧ j ≤ 1000) (w : World) (hT : TabsR w.heap.size w) : Calls Tryd.prog 7 #[.int .i64 i, .int .i64 j, .int .i64 k, .bool false] w fun e w' => e = .returned (.bool true) ∧ Below w.heap.size w w' := by
  have HT := Lib.hid hT
  have HRD := Lib.hid (fun (y : ByteArray) (w' : World) (h1 : y.size ≤ 3000) (hb : Below w.heap.size w w') => read_any y [] (.slice none 0 0) i j w' (by omega) ((hT.keep hb).up hb.size) (nil_texts _ _) (by decide) (fun y hy => by cases hy))
  have HLV := Lib.hid (readLv false k hk i j hi hj)
  clear hT
  have hi0 : ¬ i < 0 := by omega
  have hi1 : ¬ 1000 < i := by omega
  have hj0 : ¬ j < 0 := by omega
  have hj1 : ¬ 1000 < j := by omega
  have hk1 : ¬ (30 : Int) < (k : Int) := by omega
  have hk0 : ¬ (k : Int) < 0 := by omega
  have hW : levW false i j = i := rfl
  rw [hW] at HLV
  clear hW
  go_enter Tryd.func7, Tryd.ntmps7
  go_wp2_with fail
  go_loopw [9, 11] (fun x q wr => ∃ (m : Nat) (S : ByteArray), m ≤ k ∧ x = .string S ∧ q = .int .i64 m ∧ S.size ≤ 9 + 6 * m ∧ Hid (S.data.toList = levT false m) ∧ wr = w) (fun _ q _ => k - (intOf q).toNat)
  case atStart => exact ⟨0, _, Nat.zero_le _, rfl, rfl, by decide, rfl, (by first | rfl | trivial)⟩
  case round =>
    obtain ⟨m, S, hm, rfl, rfl, hS, hSL, rfl⟩ := hrel
    by_cases hlt : m < k
    · have hlt' : (m : Int) < (k : Int) := by omega
      have hm9 : m ≤ 30 := by omega
      have HP := Lib.hid (show ((⟨#[40, 115, 117, 99, 32]⟩ : ByteArray) ++ S ++ ⟨#[41]⟩).data.toList = levT false (m + 1) by
        show _ = [40, 115, 117, 99, 32] ++ levT false m ++ [41]
        rw [← hSL.out]
        simp)
      have HZ := Lib.hid (show ((⟨#[40, 115, 117, 99, 32]⟩ : ByteArray) ++ S ++ ⟨#[41]⟩).size ≤ 9 + 6 * (m + 1) by
        rw [ByteArray.size_append, ByteArray.size_append]
        show 5 + S.size + 1 ≤ _
        omega)
      have hw1 : IntKind.i64.wrap ((m : Int) + 1) = (m : Int) + 1 := IntWalk.i64_in _ (by omega)
      clear hSL HRD HLV HT
      go_wp2_with fail
      go_roundw
      case rel => exact ⟨m + 1, _, hlt, rfl, by go_num, HZ.out, HP, (by first | rfl | trivial)⟩
      case measure => simp [intOf]; omega
    · obtain rfl : m = k := by omega
      obtain ⟨c, hc⟩ : ∃ c : ByteArray, (⟨#[40, 115, 111, 114, 116, 32]⟩ : ByteArray) ++ S ++ ⟨#[41]⟩ = c := ⟨_, rfl⟩
      have hcd : c.data.toList = srtT false m := by rw [← hc]; show _ = [40, 115, 111, 114, 116, 32] ++ levT false m ++ [41]; rw [← hSL.out]; simp
      have hcs : c.size ≤ 3000 := by
        have e1 : c.size = 6 + S.size + 1 := by rw [← hc, ByteArray.size_append, ByteArray.size_append]; rfl
        omega
      have HC := Lib.hid (HRD.out c wr hcs (Below.refl _ _))
      rw [hcd, HLV.out, ← hc] at HC
      have hS9 : S.size ≤ 300 := by omega
      clear hcd hcs hc hSL HRD HLV
      have hw1 : IntKind.i64.wrap (i + (m : Int)) = i + (m : Int) := IntWalk.i64_in _ (by omega)
      by_cases hle : i + (m : Int) ≤ 1000
      · rw [if_pos hle] at HC
        go_wp2_with fail
        refine HC.out.mono ?_
        rintro e w2 ⟨hB, sv, rfl, hl, hfi⟩
        obtain ⟨au, cu, rfl, -, -⟩ := hl.out
        have hba := al w2 (.cells #[.int .i64 1, .int .i64 (i + (m : Int)), .int .i64 0, .int .i64 0, .slice au ([] : List Tm).length cu] 26)
        have HB2 := Lib.hid (hB.trans (hba.mono hB.size))
        have hT2 := (HT.out.keep HB2.out).up HB2.out.size
        have HK := Lib.hid (wakes9_any _ hT2)
        unfold tv
        clear hB hba hl hfi HC hT2
        go_wp2_with fail
        refine HK.out.mono ?_
        rintro e w3 ⟨rfl, hb3⟩
        have HB3 := Lib.hid (HB2.out.trans (hb3.mono HB2.out.size))
        clear hb3 HK
        go_wp2
        go_ret
        exact ⟨rfl, HB3.out⟩
      · rw [if_neg hle] at HC
        have hat : (((6 + 5 * (m - (1001 - i).toNat) : Nat)) : Int) = 6 + 5 * ((m : Int) - (1001 - i)) := by omega
        go_wp2_with fail
        refine HC.out.mono ?_
        rintro e w2 ⟨hB, hg⟩
        obtain rfl := hg
        rw [hat]
        have hba := al w2 (.cells #[.int .i64 0, .int .i64 0, .int .i64 0, .int .i64 0, .slice none 0 0] 26)
        have HB2 := Lib.hid (hB.trans (hba.mono hB.size))
        have hT2 := (HT.out.keep HB2.out).up HB2.out.size
        have HK := Lib.hid (wakes9_any _ hT2)
        have hw2 : IntKind.i64.wrap (1001 - i) = 1001 - i := IntWalk.i64_in _ (by omega)
        have hw3 : IntKind.i64.wrap ((m : Int) - (1001 - i)) = (m : Int) - (1001 - i) := IntWalk.i64_in _ (by omega)
        have hw4 : IntKind.i64.wrap (5 * ((m : Int) - (1001 - i))) = 5 * ((m : Int) - (1001 - i)) := IntWalk.i64_in _ (by omega)
        have hw5 : IntKind.i64.wrap (6 + 5 * ((m : Int) - (1001 - i))) = 6 + 5 * ((m : Int) - (1001 - i)) := IntWalk.i64_in _ (by omega)
        clear hB hba HC hat hT2
        go_wp2_with fail
        refine HK.out.mono ?_
        rintro e w3 ⟨rfl, hb3⟩
        have HB3 := Lib.hid (HB2.out.trans (hb3.mono HB2.out.size))
        clear hb3 HK
        go_wp2
        go_ret
        exact ⟨rfl, HB3.out⟩
set_option maxHeartbeats 1000000 in
set_option maxRecDepth 20000 in
theorem readLevels_t (i j : Int) (k : Nat) (hk : k ≤ 30) (hi : 0 ≤ i ∧ i ≤ 1000) (hj : 0 ≤ j ∧ j ≤ 1000) (hij : i < j) (w : World) (hT : TabsR w.heap.size w) : Calls Tryd.prog 7 #[.int .i64 i, .int .i64 j, .int .i64 k, .bool true] w fun e w' => e = .returned (.bool true) ∧ Below w.heap.size w w' := by
  have HT := Lib.hid hT
  have HRD := Lib.hid (fun (y : ByteArray) (w' : World) (h1 : y.size ≤ 3000) (hb : Below w.heap.size w w') => read_any y [] (.slice none 0 0) i j w' (by omega) ((hT.keep hb).up hb.size) (nil_texts _ _) (by decide) (fun y hy => by cases hy))
  have HLV := Lib.hid (readLv true k hk i j hi hj)
  clear hT
  have hi0 : ¬ i < 0 := by omega
  have hi1 : ¬ 1000 < i := by omega
  have hj0 : ¬ j < 0 := by omega
  have hj1 : ¬ 1000 < j := by omega
  have hk1 : ¬ (30 : Int) < (k : Int) := by omega
  have hk0 : ¬ (k : Int) < 0 := by omega
  have hW : levW true i j = j := by unfold levW; simp; omega
  rw [hW] at HLV
  clear hW
  go_enter Tryd.func7, Tryd.ntmps7
  go_wp2_with fail
  go_loopw [9, 11] (fun x q wr => ∃ (m : Nat) (S : ByteArray), m ≤ k ∧ x = .string S ∧ q = .int .i64 m ∧ S.size ≤ 9 + 6 * m ∧ Hid (S.data.toList = levT true m) ∧ wr = w) (fun _ q _ => k - (intOf q).toNat)
  case atStart => exact ⟨0, _, Nat.zero_le _, rfl, rfl, by decide, rfl, (by first | rfl | trivial)⟩
  case round =>
    obtain ⟨m, S, hm, rfl, rfl, hS, hSL, rfl⟩ := hrel
    by_cases hlt : m < k
    · have hlt' : (m : Int) < (k : Int) := by omega
      have hm9 : m ≤ 30 := by omega
      have HP := Lib.hid (show ((⟨#[40, 115, 117, 99, 32]⟩ : ByteArray) ++ S ++ ⟨#[41]⟩).data.toList = levT true (m + 1) by
        show _ = [40, 115, 117, 99, 32] ++ levT true m ++ [41]
        rw [← hSL.out]
        simp)
      have HZ := Lib.hid (show ((⟨#[40, 115, 117, 99, 32]⟩ : ByteArray) ++ S ++ ⟨#[41]⟩).size ≤ 9 + 6 * (m + 1) by
        rw [ByteArray.size_append, ByteArray.size_append]
        show 5 + S.size + 1 ≤ _
        omega)
      have hw1 : IntKind.i64.wrap ((m : Int) + 1) = (m : Int) + 1 := IntWalk.i64_in _ (by omega)
      clear hSL HRD HLV HT
      go_wp2_with fail
      go_roundw
      case rel => exact ⟨m + 1, _, hlt, rfl, by go_num, HZ.out, HP, (by first | rfl | trivial)⟩
      case measure => simp [intOf]; omega
    · obtain rfl : m = k := by omega
      obtain ⟨c, hc⟩ : ∃ c : ByteArray, (⟨#[40, 115, 111, 114, 116, 32]⟩ : ByteArray) ++ S ++ ⟨#[41]⟩ = c := ⟨_, rfl⟩
      have hcd : c.data.toList = srtT true m := by rw [← hc]; show _ = [40, 115, 111, 114, 116, 32] ++ levT true m ++ [41]; rw [← hSL.out]; simp
      have hcs : c.size ≤ 3000 := by
        have e1 : c.size = 6 + S.size + 1 := by rw [← hc, ByteArray.size_append, ByteArray.size_append]; rfl
        omega
      have HC := Lib.hid (HRD.out c wr hcs (Below.refl _ _))
      rw [hcd, HLV.out, ← hc] at HC
      have hS9 : S.size ≤ 300 := by omega
      clear hcd hcs hc hSL HRD HLV
      have hw1 : IntKind.i64.wrap (j + (m : Int)) = j + (m : Int) := IntWalk.i64_in _ (by omega)
      by_cases hle : j + (m : Int) ≤ 1000
      · rw [if_pos hle] at HC
        go_wp2_with fail
        refine HC.out.mono ?_
        rintro e w2 ⟨hB, sv, rfl, hl, hfi⟩
        obtain ⟨au, cu, rfl, -, -⟩ := hl.out
        have hba := al w2 (.cells #[.int .i64 1, .int .i64 (j + (m : Int)), .int .i64 0, .int .i64 0, .slice au ([] : List Tm).length cu] 26)
        have HB2 := Lib.hid (hB.trans (hba.mono hB.size))
        have hT2 := (HT.out.keep HB2.out).up HB2.out.size
        have HK := Lib.hid (wakes9_any _ hT2)
        unfold tv
        clear hB hba hl hfi HC hT2
        go_wp2_with fail
        refine HK.out.mono ?_
        rintro e w3 ⟨rfl, hb3⟩
        have HB3 := Lib.hid (HB2.out.trans (hb3.mono HB2.out.size))
        clear hb3 HK
        go_wp2
        go_ret
        exact ⟨rfl, HB3.out⟩
      · rw [if_neg hle] at HC
        have hat : (((6 + 5 * (m - (1001 - j).toNat) : Nat)) : Int) = 6 + 5 * ((m : Int) - (1001 - j)) := by omega
        go_wp2_with fail
        refine HC.out.mono ?_
        rintro e w2 ⟨hB, hg⟩
        obtain rfl := hg
        rw [hat]
        have hba := al w2 (.cells #[.int .i64 0, .int .i64 0, .int .i64 0, .int .i64 0, .slice none 0 0] 26)
        have HB2 := Lib.hid (hB.trans (hba.mono hB.size))
        have hT2 := (HT.out.keep HB2.out).up HB2.out.size
        have HK := Lib.hid (wakes9_any _ hT2)
        have hw2 : IntKind.i64.wrap (1001 - j) = 1001 - j := IntWalk.i64_in _ (by omega)
        have hw3 : IntKind.i64.wrap ((m : Int) - (1001 - j)) = (m : Int) - (1001 - j) := IntWalk.i64_in _ (by omega)
        have hw4 : IntKind.i64.wrap (5 * ((m : Int) - (1001 - j))) = 5 * ((m : Int) - (1001 - j)) := IntWalk.i64_in _ (by omega)
        have hw5 : IntKind.i64.wrap (6 + 5 * ((m : Int) - (1001 - j))) = 6 + 5 * ((m : Int) - (1001 - j)) := IntWalk.i64_in _ (by omega)
        clear hB hba HC hat hT2
        go_wp2_with fail
        refine HK.out.mono ?_
        rintro e w3 ⟨rfl, hb3⟩
        have HB3 := Lib.hid (HB2.out.trans (hb3.mono HB2.out.size))
        clear hb3 HK
        go_wp2
        go_ret
        exact ⟨rfl, HB3.out⟩
set_option maxHeartbeats 1000000 in
set_option maxRecDepth 20000 in
theorem readLevels_s (i j : Int) (k : Nat) (hk : k ≤ 30) (hi : 0 ≤ i ∧ i ≤ 1000) (hj : 0 ≤ j ∧ j ≤ 1000) (hij : ¬ i < j) (w : World) (hT : TabsR w.heap.size w) : Calls Tryd.prog 7 #[.int .i64 i, .int .i64 j, .int .i64 k, .bool true] w fun e w' => e = .returned (.bool true) ∧ Below w.heap.size w w' := by
  have HT := Lib.hid hT
  have HRD := Lib.hid (fun (y : ByteArray) (w' : World) (h1 : y.size ≤ 3000) (hb : Below w.heap.size w w') => read_any y [] (.slice none 0 0) i j w' (by omega) ((hT.keep hb).up hb.size) (nil_texts _ _) (by decide) (fun y hy => by cases hy))
  have HLV := Lib.hid (readLv true k hk i j hi hj)
  clear hT
  have hi0 : ¬ i < 0 := by omega
  have hi1 : ¬ 1000 < i := by omega
  have hj0 : ¬ j < 0 := by omega
  have hj1 : ¬ 1000 < j := by omega
  have hk1 : ¬ (30 : Int) < (k : Int) := by omega
  have hk0 : ¬ (k : Int) < 0 := by omega
  have hW : levW true i j = i := by unfold levW; simp; omega
  rw [hW] at HLV
  clear hW
  go_enter Tryd.func7, Tryd.ntmps7
  go_wp2_with fail
  go_loopw [9, 11] (fun x q wr => ∃ (m : Nat) (S : ByteArray), m ≤ k ∧ x = .string S ∧ q = .int .i64 m ∧ S.size ≤ 9 + 6 * m ∧ Hid (S.data.toList = levT true m) ∧ wr = w) (fun _ q _ => k - (intOf q).toNat)
  case atStart => exact ⟨0, _, Nat.zero_le _, rfl, rfl, by decide, rfl, (by first | rfl | trivial)⟩
  case round =>
    obtain ⟨m, S, hm, rfl, rfl, hS, hSL, rfl⟩ := hrel
    by_cases hlt : m < k
    · have hlt' : (m : Int) < (k : Int) := by omega
      have hm9 : m ≤ 30 := by omega
      have HP := Lib.hid (show ((⟨#[40, 115, 117, 99, 32]⟩ : ByteArray) ++ S ++ ⟨#[41]⟩).data.toList = levT true (m + 1) by
        show _ = [40, 115, 117, 99, 32] ++ levT true m ++ [41]
        rw [← hSL.out]
        simp)
      have HZ := Lib.hid (show ((⟨#[40, 115, 117, 99, 32]⟩ : ByteArray) ++ S ++ ⟨#[41]⟩).size ≤ 9 + 6 * (m + 1) by
        rw [ByteArray.size_append, ByteArray.size_append]
        show 5 + S.size + 1 ≤ _
        omega)
      have hw1 : IntKind.i64.wrap ((m : Int) + 1) = (m : Int) + 1 := IntWalk.i64_in _ (by omega)
      clear hSL HRD HLV HT
      go_wp2_with fail
      go_roundw
      case rel => exact ⟨m + 1, _, hlt, rfl, by go_num, HZ.out, HP, (by first | rfl | trivial)⟩
      case measure => simp [intOf]; omega
    · obtain rfl : m = k := by omega
      obtain ⟨c, hc⟩ : ∃ c : ByteArray, (⟨#[40, 115, 111, 114, 116, 32]⟩ : ByteArray) ++ S ++ ⟨#[41]⟩ = c := ⟨_, rfl⟩
      have hcd : c.data.toList = srtT true m := by rw [← hc]; show _ = [40, 115, 111, 114, 116, 32] ++ levT true m ++ [41]; rw [← hSL.out]; simp
      have hcs : c.size ≤ 3000 := by
        have e1 : c.size = 6 + S.size + 1 := by rw [← hc, ByteArray.size_append, ByteArray.size_append]; rfl
        omega
      have HC := Lib.hid (HRD.out c wr hcs (Below.refl _ _))
      rw [hcd, HLV.out, ← hc] at HC
      have hS9 : S.size ≤ 300 := by omega
      clear hcd hcs hc hSL HRD HLV
      have hw1 : IntKind.i64.wrap (i + (m : Int)) = i + (m : Int) := IntWalk.i64_in _ (by omega)
      by_cases hle : i + (m : Int) ≤ 1000
      · rw [if_pos hle] at HC
        go_wp2_with fail
        refine HC.out.mono ?_
        rintro e w2 ⟨hB, sv, rfl, hl, hfi⟩
        obtain ⟨au, cu, rfl, -, -⟩ := hl.out
        have hba := al w2 (.cells #[.int .i64 1, .int .i64 (i + (m : Int)), .int .i64 0, .int .i64 0, .slice au ([] : List Tm).length cu] 26)
        have HB2 := Lib.hid (hB.trans (hba.mono hB.size))
        have hT2 := (HT.out.keep HB2.out).up HB2.out.size
        have HK := Lib.hid (wakes9_any _ hT2)
        unfold tv
        clear hB hba hl hfi HC hT2
        go_wp2_with fail
        refine HK.out.mono ?_
        rintro e w3 ⟨rfl, hb3⟩
        have HB3 := Lib.hid (HB2.out.trans (hb3.mono HB2.out.size))
        clear hb3 HK
        go_wp2
        go_ret
        exact ⟨rfl, HB3.out⟩
      · rw [if_neg hle] at HC
        have hat : (((6 + 5 * (m - (1001 - i).toNat) : Nat)) : Int) = 6 + 5 * ((m : Int) - (1001 - i)) := by omega
        go_wp2_with fail
        refine HC.out.mono ?_
        rintro e w2 ⟨hB, hg⟩
        obtain rfl := hg
        rw [hat]
        have hba := al w2 (.cells #[.int .i64 0, .int .i64 0, .int .i64 0, .int .i64 0, .slice none 0 0] 26)
        have HB2 := Lib.hid (hB.trans (hba.mono hB.size))
        have hT2 := (HT.out.keep HB2.out).up HB2.out.size
        have HK := Lib.hid (wakes9_any _ hT2)
        have hw2 : IntKind.i64.wrap (1001 - i) = 1001 - i := IntWalk.i64_in _ (by omega)
        have hw3 : IntKind.i64.wrap ((m : Int) - (1001 - i)) = (m : Int) - (1001 - i) := IntWalk.i64_in _ (by omega)
        have hw4 : IntKind.i64.wrap (5 * ((m : Int) - (1001 - i))) = 5 * ((m : Int) - (1001 - i)) := IntWalk.i64_in _ (by omega)
        have hw5 : IntKind.i64.wrap (6 + 5 * ((m : Int) - (1001 - i))) = 6 + 5 * ((m : Int) - (1001 - i)) := IntWalk.i64_in _ (by omega)
        clear hB hba HC hat hT2
        go_wp2_with fail
        refine HK.out.mono ?_
        rintro e w3 ⟨rfl, hb3⟩
        have HB3 := Lib.hid (HB2.out.trans (hb3.mono HB2.out.size))
        clear hb3 HK
        go_wp2
        go_ret
        exact ⟨rfl, HB3.out⟩
set_option maxHeartbeats 400000 in
theorem readLevels_any (i j s : Int) (b : Bool) (w : World) (hT : TabsR w.heap.size w) : Calls Tryd.prog 7 #[.int .i64 i, .int .i64 j, .int .i64 s, .bool b] w fun e w' => e = .returned (.bool true) ∧ Below w.heap.size w w' := by
  by_cases ci0 : i < 0
  · clear hT
    go_enter Tryd.func7, Tryd.ntmps7
    go_wp2
    go_ret
    exact ⟨rfl, Below.refl _ _⟩
  by_cases c1000i : 1000 < i
  · clear hT
    go_enter Tryd.func7, Tryd.ntmps7
    go_wp2
    go_ret
    exact ⟨rfl, Below.refl _ _⟩
  by_cases cj0 : j < 0
  · clear hT
    go_enter Tryd.func7, Tryd.ntmps7
    go_wp2
    go_ret
    exact ⟨rfl, Below.refl _ _⟩
  by_cases c1000j : 1000 < j
  · clear hT
    go_enter Tryd.func7, Tryd.ntmps7
    go_wp2
    go_ret
    exact ⟨rfl, Below.refl _ _⟩
  by_cases cs0 : s < 0
  · clear hT
    go_enter Tryd.func7, Tryd.ntmps7
    go_wp2
    go_ret
    exact ⟨rfl, Below.refl _ _⟩
  by_cases c30s : 30 < s
  · clear hT
    go_enter Tryd.func7, Tryd.ntmps7
    go_wp2
    go_ret
    exact ⟨rfl, Below.refl _ _⟩
  obtain ⟨k, rfl⟩ : ∃ k : Nat, s = k := ⟨s.toNat, by omega⟩
  cases b with
  | false => exact readLevels_f i j k (by omega) (by omega) (by omega) w hT
  | true =>
    by_cases h : i < j
    · exact readLevels_t i j k (by omega) (by omega) (by omega) h w hT
    · exact readLevels_s i j k (by omega) (by omega) (by omega) h w hT
end Go.Proofs.YtllkackipdcekaaDoor

namespace Go.Proofs.YtllkackipdcekaaDoor
open Go.ChangeShapes Go.WideShapes Go.ChangeAt Go.RowKit

theorem own : ownKnob Tryd.prog.godebug = none := by kernel_rfl
instance instOpenTm : Inhabited (Tm × Value) := ⟨(.mk 0 0 0 0 [], .nilIface)⟩

end Go.Proofs.YtllkackipdcekaaDoor

namespace Go.Proofs.YtllkackipdcekaaDoor
theorem lt_of_cell {w : World} {b i : Nat} {v : Value} (h : w.cell? ⟨b, i, none⟩ = some v) : b < w.heap.size := by
  rcases Nat.lt_or_ge b w.heap.size with h1 | h1
  · exact h1
  · exfalso
    simp [World.cell?, Array.getElem?_eq_none h1] at h
open Go.ChangeShapes Go.WideShapes Go.ChangeAt Go.WideMaps Go.WideElems Go.RowKit

def laidT : List (String × DataW Unit) := Rows.readSymbolsRow.laid
theorem door_met (os : Os) (args : Array Value) : laidMetH Tryd.prog laidT ((World.doorLaid Tryd.prog 400 os).forCall (fun _ _ => 0) ⟨#[], args, []⟩).memory :=
  laidMetH_of_parts3 (fuel := 8) (laidMet_of_run' 8 (by kernel_rfl) (by kernel_rfl)) (by kernel_rfl) (by kernel_rfl)
/-- A table of texts as a row lists it. -/
def strData {H : Type} (ss : List (List UInt8)) : DataW H := .agg (ss.map fun s => .lit (.string s))
theorem cells_of_strs {H : Type} {enc : TypeId × Value → H} {P : Program} {w : World} {base : Nat} {sp : Nat → Bool} {held : Bool} {fuel : Nat} {t e : TypeId} {n : Nat} {cs : List Value} {zs : List (List UInt8)} {p : List MemPlace}
    (ht : P.underlying t = some (.array n e)) (he : P.underlying e = some .string) (hce : P.cellsOf e = 1) (hct : P.cellsOf t = n)
    (h : DataW.trod enc P w base sp held fuel t cs = some (strData zs, p)) : cs = zs.map fun z => Value.string ⟨z.toArray⟩ := by
  cases fuel with
  | zero => simp [DataW.trod] at h
  | succ fuel =>
    simp only [DataW.trod, ht, hce, hct, Nat.mul_one] at h
    split at h
    · rename_i hl
      obtain ⟨xs, hm, hx⟩ := Option.map_eq_some_iff.1 h
      have hxs : xs.map (·.1) = zs.map fun z => (DataW.lit (.string z) : DataW H) := by
        have := congrArg Prod.fst hx
        simpa [strData] using this
      have hxl : xs.length = n := by simpa using Lib.mapM_length hm
      have hzl : zs.length = n := by
        have := congrArg List.length hxs
        simp at this
        omega
      apply List.ext_getElem?
      intro i
      by_cases hi : i < n
      · obtain ⟨b, hb, hf⟩ := Lib.mapM_at hm i i (by simp [hi])
        obtain ⟨z, hc, rfl, _⟩ := DataW.trod_string he hf
        have h1 : cs[i]? = some (.string z) := by
          have := congrArg (·[0]?) hc
          simpa [List.getElem?_take, List.getElem?_drop] using this
        have h2 : (xs.map (·.1))[i]? = some (DataW.lit (.string z.data.toList) : DataW H) := by simp [hb]
        rw [hxs] at h2
        simp only [List.getElem?_map, Option.map_eq_some_iff, DataW.lit.injEq, Lit.string.injEq] at h2
        obtain ⟨z', hz', e2⟩ := h2
        rw [h1, List.getElem?_map, hz']
        subst e2
        simp
      · rw [List.getElem?_eq_none (by omega), List.getElem?_eq_none (by simp; omega)]
    · cases h
theorem strIs_of_head {W : World} {name : String} {zs : List (List UInt8)} {rest : List (String × DataW Unit)} {g : Nat} {t e : TypeId} {n : Nat}
    (hg : Tryd.prog.globalNamed name = some g) (hty : (Tryd.prog.globals[g]?).map (·.type) = some t) (ht : Tryd.prog.underlying t = some (.array n e)) (he : Tryd.prog.underlying e = some .string) (hce : Tryd.prog.cellsOf e = 1) (hct : Tryd.prog.cellsOf t = n)
    (h : laidMet Tryd.prog ((name, strData zs) :: rest) W) : StrIs W name zs := by
  obtain ⟨ps, ⟨g', t', cs, fuel, p, q, hg', ht', hvar, hd, _, _⟩, _⟩ := h
  obtain rfl := Option.some.inj (hg.symm.trans hg')
  obtain rfl := Option.some.inj (hty.symm.trans ht')
  unfold StrIs
  rw [hvar, ← cells_of_strs ht he hce hct hd]
theorem syms_of_laid {W : World} (h : laidMetH Tryd.prog laidT W) : StrIs W "tranship/read.symbols" symsW := by
  have h2 := h.filter fun x => x.1 == "tranship/read.symbols"
  have e : (laidT.filter fun x => x.1 == "tranship/read.symbols") = [("tranship/read.symbols", strData symsW)] := by kernel_rfl
  rw [e] at h2
  rw [MakeChecks.laidMetH_plain _ _ _ (by kernel_rfl)] at h2
  exact strIs_of_head (g := 0) (t := 55) (e := 9) (n := 21) (by kernel_rfl) (by kernel_rfl) Tryd.underlying55 Tryd.underlying9 (by kernel_rfl) (by kernel_rfl) h2
theorem rheads_of_laid {W : World} (h : laidMetH Tryd.prog laidT W) : StrIs W "tranship/read.heads" (headsW.drop 3) := by
  have h2 := h.filter fun x => x.1 == "tranship/read.heads"
  have e : (laidT.filter fun x => x.1 == "tranship/read.heads") = [("tranship/read.heads", strData (headsW.drop 3))] := by kernel_rfl
  rw [e] at h2
  rw [MakeChecks.laidMetH_plain _ _ _ (by kernel_rfl)] at h2
  exact strIs_of_head (g := 2) (t := 55) (e := 9) (n := 21) (by kernel_rfl) (by kernel_rfl) Tryd.underlying55 Tryd.underlying9 (by kernel_rfl) (by kernel_rfl) h2
theorem tabsR_of_laid {W : World} (h : laidMetH Tryd.prog laidT W) : TabsR W.heap.size W := by
  have h1 := syms_of_laid h
  have h2 := rheads_of_laid h
  have c1 : ∀ k < 21, W.cell? ⟨0, k, none⟩ = some (.string ⟨((symsW[k]?).getD []).toArray⟩) := fun k hk => by
    have hl : k < symsW.length := hk
    rw [h1.cell (g := 0) (by kernel_rfl) k hl, List.getElem?_eq_getElem hl]; rfl
  have c2 : ∀ k < 21, W.cell? ⟨2, k, none⟩ = some (.string ⟨(((headsW.drop 3)[k]?).getD []).toArray⟩) := fun k hk => by
    have hl : k < (headsW.drop 3).length := hk
    rw [h2.cell (g := 2) (by kernel_rfl) k hl, List.getElem?_eq_getElem hl]; rfl
  exact ⟨⟨lt_of_cell (c2 0 (by decide)), lt_of_cell (c1 0 (by decide))⟩, c2, c1⟩
end Go.Proofs.YtllkackipdcekaaDoor

namespace Go.Proofs.YtllkackipdcekaaDoor
open Go.ChangeShapes Go.WideShapes

def code (l : List Nat) : List Char := l.map Char.ofNat
def joinN : List (List Nat) → List Nat
  | [] => []
  | [a] => a
  | a :: b :: r => a ++ 32 :: joinN (b :: r)

theorem words_one : ∀ a : List Nat, (a.all fun n => Char.ofNat n != Char.ofNat 32) = true → wordsSigns (code a) = [code a]
  | [], _ => rfl
  | n :: a, h => by
    simp only [List.all_cons, Bool.and_eq_true, bne_iff_ne] at h
    have ih := words_one a h.2
    show wordsSigns (Char.ofNat n :: code a) = _
    rw [wordsSigns]
    · rw [ih]; rfl
    · exact h.1
theorem words_more : ∀ (a : List Nat) (r : List Char), (a.all fun n => Char.ofNat n != Char.ofNat 32) = true → wordsSigns (code a ++ Char.ofNat 32 :: r) = code a :: wordsSigns r
  | [], r, _ => by
    show wordsSigns (Char.ofNat 32 :: r) = _
    rw [show Char.ofNat 32 = _ from rfl, wordsSigns]; rfl
  | n :: a, r, h => by
    simp only [List.all_cons, Bool.and_eq_true, bne_iff_ne] at h
    have ih := words_more a r h.2
    show wordsSigns (Char.ofNat n :: (code a ++ Char.ofNat 32 :: r)) = _
    rw [wordsSigns]
    · rw [ih]; rfl
    · exact h.1
theorem words_join : ∀ ws : List (List Nat), ws ≠ [] → (ws.all fun w => w.all fun n => Char.ofNat n != Char.ofNat 32) = true → wordsSigns (code (joinN ws)) = ws.map code
  | [], h, _ => absurd rfl h
  | [a], _, h => by simp only [List.all_cons, List.all_nil, Bool.and_true] at h; exact words_one a h
  | a :: b :: r, _, h => by
    have h' := h
    rw [List.all_cons, Bool.and_eq_true] at h'
    have ih := words_join (b :: r) (by simp) h'.2
    show wordsSigns (code (a ++ 32 :: joinN (b :: r))) = _
    rw [show code (a ++ 32 :: joinN (b :: r)) = code a ++ Char.ofNat 32 :: code (joinN (b :: r)) from by simp [code], words_more a _ h'.1, ih]; rfl

def cutWords : List (List Nat) := [[104, 97, 114, 110, 101, 115, 115],
  [56, 97, 48, 97, 97, 53, 100, 51, 57, 102, 101, 100, 56, 50, 99, 49, 49, 57, 97, 50, 101, 50, 97, 57, 97, 54, 98, 48, 101, 53, 98, 51, 50, 57, 49, 100, 50, 99, 56, 52, 48, 50, 99, 54, 102, 54, 101, 101, 51, 54, 50, 98, 49, 99, 48, 100, 56, 101, 56, 57, 49, 55, 102, 101],
  [99, 117, 116],
  [97, 116],
  [116, 114, 97, 110, 115, 104, 105, 112, 47, 116, 114, 97, 110, 115, 104, 105, 112, 108, 97, 119, 48, 57, 46, 82, 101, 97, 100, 69, 120, 97, 99, 116],
  [116, 114, 97, 110, 115, 104, 105, 112, 47, 116, 114, 97, 110, 115, 104, 105, 112, 108, 97, 119, 48, 57, 46, 82, 101, 97, 100, 82, 105, 103, 104, 116],
  [116, 114, 97, 110, 115, 104, 105, 112, 47, 116, 114, 97, 110, 115, 104, 105, 112, 108, 97, 119, 48, 57, 46, 82, 101, 97, 100, 66, 101, 104, 105, 110, 100],
  [116, 114, 97, 110, 115, 104, 105, 112, 47, 116, 114, 97, 110, 115, 104, 105, 112, 108, 97, 119, 48, 57, 46, 82, 101, 97, 100, 73, 110, 110, 101, 114],
  [116, 114, 97, 110, 115, 104, 105, 112, 47, 116, 114, 97, 110, 115, 104, 105, 112, 108, 97, 119, 48, 57, 46, 82, 101, 97, 100, 76, 101, 118, 101, 108, 115],
  [116, 114, 97, 110, 115, 104, 105, 112, 47, 116, 114, 97, 110, 115, 104, 105, 112, 108, 97, 119, 48, 57, 46, 82, 101, 97, 100, 83, 121, 109, 98, 111, 108, 115],
  [116, 114, 97, 110, 115, 104, 105, 112, 47, 116, 114, 97, 110, 115, 104, 105, 112, 108, 97, 119, 49, 48, 46, 87, 114, 105, 116, 101, 66, 97, 99, 107],
  [116, 114, 97, 110, 115, 104, 105, 112, 47, 116, 114, 97, 110, 115, 104, 105, 112, 108, 97, 119, 49, 48, 46, 87, 114, 105, 116, 101, 70, 105, 120, 101, 100]]

set_option maxRecDepth 100000 in
theorem cut_words : wordsSigns Tryd.prog.initOrder.toList = cutWords.map code := by
  have h : Tryd.prog.initOrder.toList = code (joinN cutWords) := by
    show (String.ofList (code (joinN cutWords))).toList = _
    exact String.toList_ofList
  rw [h]
  exact words_join cutWords (by simp [cutWords]) (by decide +kernel)

theorem cut_behind : behindMainWord (cutWords.map code) = code [99, 117, 116] :: cutWords.tail.tail.tail.map code := by kernel_rfl
theorem cut_lifts : stripLifts liftWords (code [99, 117, 116] :: cutWords.tail.tail.tail.map code) = ([], code [99, 117, 116] :: cutWords.tail.tail.tail.map code) := by kernel_rfl
theorem cut1 : (code [99, 117, 116] == "gc".toList) = false := by kernel_rfl
theorem cut2 : (code [99, 117, 116] == "spec".toList) = false := by kernel_rfl
theorem cut3 : (code [99, 117, 116] == "cut".toList) = true := by kernel_rfl
theorem cut_all : behindMainWord (wordsSigns Tryd.prog.initOrder.toList) = code [99, 117, 116] :: cutWords.tail.tail.tail.map code := by rw [cut_words, cut_behind]
theorem make_of (P : Program) {c : List Char} {rest : List (List Char)} (h : behindMainWord (wordsSigns P.initOrder.toList) = c :: rest) (h1 : (c == "gc".toList) = false) (h2 : (c == "spec".toList) = false) (h3 : (c == "cut".toList) = true) : P.make = some .cut := by
  unfold Program.make; rw [h]
  simp only [h1, h2, h3, Bool.or_self, Bool.false_eq_true, if_false, Bool.true_or, if_true]
theorem mayEnter_of (P : Program) {c : List Char} {rest : List (List Char)} (h : behindMainWord (wordsSigns P.initOrder.toList) = c :: rest) (h3 : ((stripLifts liftWords (c :: rest)).2.head? == some "cut".toList) = true)
    (h4 : (stripLifts liftWords (c :: rest)).1 = []) (h5 : P.laysLater = false) (h6 : P.bearsReflect = false) (h7 : P.doorFits [] = true) : P.mayEnter = true := by
  unfold Program.mayEnter; rw [h]
  refine Bool.or_eq_true_iff.2 (Or.inr ?_)
  rw [h3, h4, h5, h6, h7]; rfl
theorem row_make : Tryd.prog.make = some .cut := make_of Tryd.prog cut_all cut1 cut2 cut3
theorem row_mayEnter : Tryd.prog.mayEnter = true := mayEnter_of Tryd.prog cut_all (by rw [cut_lifts]; kernel_rfl) (by rw [cut_lifts]) (by kernel_rfl) (by kernel_rfl) (by kernel_rfl)
theorem row_lifts : Tryd.prog.liftsFinal = false := by unfold Program.liftsFinal Program.headLifts; rw [cut_all, cut_lifts]; kernel_rfl
end Go.Proofs.YtllkackipdcekaaDoor

namespace Go.Proofs.YtllkackipdcekaaDoor.lawReadLevels
open Go.ChangeShapes Go.WideShapes Go.ChangeAt Go.RowKit Go.ChangeMaps

set_option maxRecDepth 100000 in
theorem lifted (os : Os) (started : os.Started) (H : Type) (enc : TypeId × Value → H) :
    ReturnsInHanded {} Tryd.checked os 7 .any (fun w args => (Rows.readLevelsSpec.pre enc Tryd.prog Tryd.f7 [] false w args ∧ laidMetH Tryd.prog laidT w) ∧ sizedMet enc Tryd.prog Tryd.f7 (OpenSpec.ofChange Rows.readLevelsSpec) false w args)
      (Rows.readLevelsSpec.post enc Tryd.prog Tryd.f7 false true false false) := by
  refine returnsInHanded_of_change_and (C := Tryd.checked) (X := fun w _ => laidMetH Tryd.prog laidT w) (fun _ _ _ hh h => h.of_heap hh) own started (by kernel_rfl) Tryd.func7
    (ChangeSpec.witness_shaped (enc := enc) (C := Tryd.checked) (os := os) (X := fun w _ => laidMetH Tryd.prog laidT w) false (World.doorLaid Tryd.prog 400 os) #[.int .i64 0, .int .i64 0, .int .i64 0, .bool false] 8 rfl (World.shaped_of_RefB (by kernel_rfl) (by kernel_rfl)) (by kernel_rfl) (by kernel_rfl) (by kernel_rfl) (door_met os _)) ?_
  intro W base args ds gs before hval0 hW _ _ hL _
  have hval : ∀ (j : Nat) t v, Tryd.f7.params[j]? = some t → args[j]? = some v → Value.okWide Tryd.prog W .any base t v := hval0
  have hW' := hW
  obtain ⟨p, q, hA0, hV, rfl, hfz, hnd⟩ := hW
  have hA : DataW.TrodAll enc Tryd.prog W 0 (fun _ => true) true Tryd.f7.params.toList args.toList ds p := hA0
  rw [Tryd.params7] at hA hval
  obtain ⟨v0, vs0, d0, ds0, p0, q0, hargs0, rfl, rfl, h0, r0⟩ := trodAll_cons hA
  obtain ⟨v1, vs1, d1, ds1, p1, q1, hargs1, rfl, rfl, h1, r1⟩ := trodAll_cons r0
  obtain ⟨v2, vs2, d2, ds2, p2, q2, hargs2, rfl, rfl, h2, r2⟩ := trodAll_cons r1
  obtain ⟨v3, vs3, d3, ds3, p3, q3, hargs3, rfl, rfl, h3, r3⟩ := trodAll_cons r2
  obtain ⟨rfl, rfl, rfl⟩ := trodAll_nil r3
  obtain rfl : args = #[v0, v1, v2, v3] := by cases args; simp_all
  obtain ⟨rfl, rfl⟩ := trodVars_none hV
  obtain ⟨a0, rfl, rfl, rfl, w0⟩ := open_int Tryd.underlying3 (hval 0 3 v0 rfl rfl) h0
  obtain ⟨a1, rfl, rfl, rfl, w1⟩ := open_int Tryd.underlying3 (hval 1 3 v1 rfl rfl) h1
  obtain ⟨a2, rfl, rfl, rfl, w2⟩ := open_int Tryd.underlying3 (hval 2 3 v2 rfl rfl) h2
  obtain ⟨a3, rfl, rfl, rfl, w3⟩ := open_bool Tryd.underlying4 (hval 3 4 v3 rfl rfl) h3
  clear hA0 hval0
  simp only [List.append_nil] at hW'
  have hT := tabsR_of_laid hL
  refine (readLevels_any a0 a1 a2 a3 W hT).mono fun e W' ⟨he, hb⟩ => ?_
  subst he
  exact ⟨_, rfl, _, _, _, [], _, [], hW', trodAll_cons_mk (shut_bool Tryd.underlying4 _) trodAll_mk0, (trodAll_cons_mk (shut_int Tryd.underlying3 w0) (trodAll_cons_mk (shut_int Tryd.underlying3 w1) (trodAll_cons_mk (shut_int Tryd.underlying3 w2) (trodAll_cons_mk (shut_bool Tryd.underlying4 _) trodAll_mk0)))), rfl, hb.frame _, fun h => by cases h⟩

theorem closed : joinedFacts Tryd.prog 7 Tryd.f7 Rows.readLevelsSpec Rows.readLevelsRow = true := by
  unfold joinedFacts
  rw [row_mayEnter, row_lifts, row_make]
  kernel_rfl
theorem readLevels_holds : Rows.ReadLevelsSaid :=
  OpenClaim.holds_of_wide 7 Tryd.f7 rfl rfl rfl rfl rfl rfl rfl ⟨rfl, rfl, rfl, rfl, rfl⟩ rfl rfl rfl rfl rfl (by kernel_rfl) Tryd.func7 closed
    (of_decide_eq_true (by kernel_rfl)) (by unfold Func.isWrapper; first | (rw [if_pos (by decide +kernel)]; kernel_rfl) | (rw [if_neg (by decide +kernel)]; exact ⟨rfl, rfl⟩))
    (fun os started H enc _ => lifted os started H enc)
theorem proved : Rows.ReadLevelsCardSaid :=
  Claim7.holds_tied_plain_at .later [] [.data, .data] true Rows.readLevelsCard.stood.harness true
    readLevels_holds (fun _ h => by cases h) (by kernel_rfl) (fun _ h => by cases h) readLevels_row_tie rfl ⟨rfl, rfl⟩ (by kernel_rfl) rfl
    (fun f fn hf hfn => by
      obtain rfl : f = 7 := Option.some.inj ((show Tryd.prog.funcNamed "tranship/transhiplaw09.ReadLevels" = some 7 by kernel_rfl).symm.trans hf) |>.symm
      obtain rfl : fn = Tryd.f7 := (Option.some.inj (Tryd.func7.symm.trans hfn)).symm
      exact ⟨by kernel_rfl, fun j t ht => by
        rw [Tryd.params7] at ht
        have hm : t ∈ [3, 3, 3, 4] := by simpa using Array.mem_of_getElem? ht
        have hall : ([3, 3, 3, 4].all fun u => !Tryd.prog.wantsStandIn u) = true := by kernel_rfl
        exact (show Tryd.prog.wantsStandIn t = false by simpa using List.all_eq_true.1 hall t hm)⟩)
    (by kernel_rfl)
#print axioms proved
end Go.Proofs.YtllkackipdcekaaDoor.lawReadLevels
