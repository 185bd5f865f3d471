/-
  Facts and contracts that the proof of ShowFixed uses.
-/
import Derived.Lib.ItoaNum
import Derived.Lib.ItoaLen
import Derived.Test.YtdhfbphliejcdaaDoorRows
import Derived.WalkKit
import Derived.Lib.Hide
import Derived.ProofKit
import Derived.LoopTactic
import Derived.Below
import Derived.IntWalk
import Derived.Lib.Strings
import Derived.Laws.Strings2
import Derived.Deep.AppendLies
import Derived.Laws.Rows
import Derived.OwnWalk
import Derived.KernelRfl
import Derived.Deep.RegionHeld3
import Derived.Lib.Builder
import Derived.WalkSmall
import Derived.Maps.GroupsBeside
import Derived.Maps.StringElems
import Derived.Laws.OwnMore
import Derived.Deep.RegionLaw
import Derived.Maps.AppendAt
import Derived.Deep.Cut
import Derived.Deep.DeepCutAuto
import Derived.Maps.OwnOps
import Derived.Maps.OwnSet
import Derived.Lib.MinMax
import Derived.Laws.IdiomCopy
import Derived.Deep.Slices
import Derived.Lib.QuietBelow
import Derived.StillTailTactics
import Derived.BigQuiet
import Derived.Deep.RegionWith
import Derived.OrdersHeld
import Derived.Laws.StructEq
import GoSem.Core.Float
import Derived.Laws.Cover2
import Derived.Laws.FloatArith
import Derived.Laws.Externs
import Derived.Deep.QuietTactic
import Derived.Recover
import Derived.RegionTactic
import Derived.Defers
import Derived.Test.YtdhfbphliejcdaaDoorShelf
import Derived.Lib.AppendIntMem
import Derived.Lib.LaidTab
import Derived.Lib.AppendStr
import Derived.Lib.UnsafeStr
import Derived.Shelf.RegionOpenPlain
import Derived.Laws.AppendOwn
import Derived.Deep.CutBlock
import Derived.Deep.LoopGhost
import Derived.Laws.BytesArg
import Derived.Laws.AppendOwnNone
import Derived.OpenShut
import Derived.Carry
import Derived.LaidMore
import Derived.LaidSub
import Derived.LaidHandle
import Derived.Stop.Joined
import Derived.JoinedOf
import Derived.Test.YtdhfbphliejcdaaDoorCards
import Derived.Test.YtdhfbphliejcdaaDoorTie
import Derived.SevenTiedAt
import Derived.ChangeMaps5
import Derived.Test.YtdhfbphliejcdaaDoorShowFixedQ2
namespace Go.Proofs.YtdhfbphliejcdaaDoor.Dv
open Go.RowKit

set_option maxRecDepth 20000 in
theorem field_tok2 (a b d : Value) (w : World) : (Instr.field 88 (.agg #[a, b, d]) 2).run Tryd.prog w = .ok d w := by kernel_rfl
theorem setD_grown (w : World) (b i : Nat) (v : Value) : w.grownBy (w.setCell ⟨b, i, none⟩ v) (some b) := grown_at ⟨rfl, rfl, rfl, Nat.le_refl _, fun _ _ _ => rfl⟩ i v
/-- What stands by when the premises are parsed: the result's block, the derivation's block. -/
structure Stand (c : PC) (w : World) (D : Nat) (t : Tm) (v : Value) (u : Nat) (ts : List Tok) (w' : World) : Prop where
  box : w'.heap[D]? = some (boxOf t v)
  res : w'.heap[w.heap.size]? = some zeroObj
  st : PSt c u ts w'
  fr : Fp c w w'
theorem Stand.size {c : PC} {w w' : World} {D u : Nat} {t : Tm} {v : Value} {ts : List Tok} (h : Stand c w D t v u ts w') : D < w'.heap.size := hltD h.box
theorem Stand.drew {c : PC} {w w' : World} {D u : Nat} {t : Tm} {v : Value} {ts : List Tok} (h : Stand c w D t v u ts w') : Stand c w D t v u ts w'.drew := ⟨h.box, h.res, h.st.drew, h.fr.drew⟩
theorem Stand.call {c : PC} {w w' wn : World} {D u u1 : Nat} {t : Tm} {v : Value} {ts r : List Tok} (h : Stand c w D t v u ts w') (hf : Fp c w' wn) (hs : PSt c u1 r wn) : Stand c w D t v u1 r wn :=
  ⟨hf.kept _ _ _ _ h.box (by decide) (by decide), hf.kept _ _ _ _ h.res (by decide) (by decide), hs, h.fr.trans hf⟩
theorem Stand.later {c : PC} {w w' wn : World} {D u : Nat} {t : Tm} {v : Value} {ts : List Tok} (h : Stand c w D t v u ts w') (hb : Below w'.heap.size w' wn) : Stand c w D t v u ts wn :=
  h.call (Fp.later hb h.st.lo) (h.st.later hb)
theorem Stand.grow {c : PC} {w w' wn : World} {D u : Nat} {t : Tm} {v : Value} {ts : List Tok} (h : Stand c w D t v u ts w') {row : Option Nat} (hg : w'.grownBy wn row) (hlo : c.B ≤ w.heap.size) (hD : w.heap.size < D) (hb : ∀ b, row = some b → D + 1 ≤ b ∧ ∃ cs fz, w'.heap[b]? = some (Obj.cells cs 24 fz)) : Stand c w D t v u ts wn :=
  ⟨by rw [hg.block _ h.size (fun e => by have := (hb D e.symm).1; omega)]; exact h.box, by rw [hg.block _ (hltD h.res) (fun e => by have := (hb _ e.symm).1; omega)]; exact h.res,
    h.st.other hg (fun b e => ⟨by have := (hb b e).1; omega, (hb b e).2⟩), h.fr.row hg (fun b e => by have := (hb b e).1; omega) hlo⟩
theorem Stand.put {c : PC} {w w' : World} {D u : Nat} {t : Tm} {v : Value} {ts : List Tok} (h : Stand c w D t v u ts w') (hlo : c.B ≤ w.heap.size) (hD : w.heap.size < D) (v' : Value) : Stand c w D t v' u ts (w'.setCell ⟨D, 2, none⟩ v') :=
  ⟨by exact heap_setCell_same _ _ 2 _ _ v' h.box, (Below.heap_setCell _ _ _ _ (by show w.heap.size ≠ D; omega)).trans h.res,
    h.st.other (setD_grown w' D 2 v') (fun b e => by obtain rfl := Option.some.inj e; exact ⟨by omega, _, _, h.box⟩), h.fr.row (setD_grown w' D 2 v') (fun b e => by obtain rfl := Option.some.inj e; omega) hlo⟩
theorem Stand.num {c : PC} {w w' : World} {D u : Nat} {k : Int} {v : Value} {ts : List Tok} {m : Int} (h : Stand c w D (.mk k m []) v u ts w') (hlo : c.B ≤ w.heap.size) (hD : w.heap.size < D) (n : Int) : Stand c w D (.mk k n []) v u ts (w'.setCell ⟨D, 1, none⟩ (.int .i64 n)) :=
  ⟨by exact heap_setCell_same _ _ 1 _ _ (.int .i64 n) h.box, (Below.heap_setCell _ _ _ _ (by show w.heap.size ≠ D; omega)).trans h.res,
    h.st.other (setD_grown w' D 1 _) (fun b e => by obtain rfl := Option.some.inj e; exact ⟨by omega, _, _, h.box⟩), h.fr.row (setD_grown w' D 1 _) (fun b e => by obtain rfl := Option.some.inj e; omega) hlo⟩
theorem below_made {B b o : Nat} {w : World} {v : Value} {ps : List (Tm × Value)} (h : Made B w v ps) (hb : b < B) (x : Value) : Made B (w.setCell ⟨b, o, none⟩ x) v ps := by
  have hk : ∀ b', B ≤ b' → (w.setCell ⟨b, o, none⟩ x).heap[b']? = w.heap[b']? := fun b' hb' => Below.heap_setCell _ _ _ _ (by show b' ≠ b; omega)
  obtain ⟨h1, h2⟩ := h.own
  refine ⟨⟨h1, ?_⟩, h.fine, fun p hp => (h.kids p hp).keep (fun b' hb' _ => hk b' hb'.1.1) (fun b' hb' _ => ⟨hb'.1.same (hk b' hb'.1.1), hb'.2⟩)⟩
  rcases h2 with h2 | ⟨g, cap, cur, hv, hg, hh, r⟩
  · exact Or.inl h2
  · exact Or.inr ⟨g, cap, cur, hv, hg, by rw [hk g hg]; exact hh, r⟩
/-- The end: the derivation is stored as the result. -/
theorem psd_end {c : PC} {w w' : World} {D u : Nat} {t x : Tm} {v s : Value} {r : List Tok} (h : Stand c w D t v u r w') (hlo : c.B ≤ w.heap.size) (hD : w.heap.size < D) (hl : LiesP w' (Own (D + 1) w') x.kids s) :
    LiesP (five w' w.heap.size (.int .i64 x.k) (.int .i64 x.i) s) (Own w.heap.size (five w' w.heap.size (.int .i64 x.k) (.int .i64 x.i) s)) x.kids s ∧ PSt c u r (five w' w.heap.size (.int .i64 x.k) (.int .i64 x.i) s) ∧ Fp c w (five w' w.heap.size (.int .i64 x.k) (.int .i64 x.i) s) := by
  have hg : w'.grownBy (five w' w.heap.size (.int .i64 x.k) (.int .i64 x.i) s) (some w.heap.size) := ((setD_grown _ _ _ _).trans (setD_grown _ _ _ _)).trans (setD_grown _ _ _ _)
  exact ⟨liesP_fives hl (by omega) (by omega) _ _ _, h.st.other hg (fun b e => by obtain rfl := Option.some.inj e; exact ⟨hlo, _, _, h.res⟩), h.fr.row hg (fun b e => by obtain rfl := Option.some.inj e; exact Nat.le_refl _) hlo⟩
def ps16_0 : Oper := { dst := some 68, op := Go.Op.fieldAddr 24 (Go.Operand.tmp 7) 2, type := 0, pos := "parse.go:77", after := #[], guard := none }
def ps16_1 : Oper := { dst := some 69, op := Go.Op.load 22 (Go.Operand.tmp 68), type := 22, pos := "parse.go:77", after := #[{ on := 0, ground := Go.Ground.data }], guard := none }
def ps16_2 : Oper := { dst := some 70, op := Go.Op.move (Go.Operand.tmp 0), type := 87, pos := "parse.go:77", after := #[], guard := none }
def ps16_3 : Oper := { dst := some 71, op := Go.Op.move (Go.Operand.tmp 1), type := 3, pos := "parse.go:77", after := #[], guard := none }
def ps16_4 : Oper := { dst := some 72, op := Go.Op.binOp Go.BinOp.add 3 (Go.Operand.tmp 71) (Go.Operand.const (Go.Value.int Go.IntKind.i64 1)) 3, type := 3, pos := "parse.go:77", after := #[{ on := 3, ground := Go.Ground.data }], guard := none }
def ps16_5 : Oper := { dst := some 73, op := Go.Op.call { callee := Go.Callee.value (Go.Operand.func 49), args := #[Go.Operand.tmp 70, Go.Operand.tmp 72], argTypes := #[87, 3] }, type := 24, pos := "parse.go:77", after := #[{ on := 2, ground := Go.Ground.data }, { on := 4, ground := Go.Ground.data }], guard := none }
set_option maxHeartbeats 8000000 in
set_option maxRecDepth 20000 in
theorem pderiv_step (c : PC) (f : Nat) (hL : DerC c f (derP c.deep c.nodes c.E f)) : DerC c (f + 1) (derP c.deep c.nodes c.E (f + 1)) := by
  intro d u ts w hf hd h
  obtain ⟨du, hu1, hu2⟩ := under_term
  obtain ⟨i0, hi, hz0, hz1, hz2⟩ := info_parts info_term
  have HI := Lib.hid (And.intro hi (And.intro hz0 (And.intro hz1 hz2)))
  have hlo := h.lo
  have hfew := h.few
  have HL := Lib.hid hL
  have HDL := Lib.hid (derP_len (deep := c.deep) (nodes := c.nodes) (E := c.E) f)
  have HS0 := Lib.hid (h.alloc zeroObj)
  have HF0 := Lib.hid (Fp.later ((Below.refl w.heap.size w).alloc (Nat.le_refl _) zeroObj) hlo)
  have HR0 := Lib.hid (show (w.alloc zeroObj).heap[w.heap.size]? = some zeroObj from alloc_new _ _)
  have HV := Lib.hid (show derP c.deep c.nodes c.E (f + 1) d u ts = (match takeT c.E 1 ts with | .error e => .error (0, e) | .ok (o, r) => if withinB d c.deep = false then .error (1, o.at_) else if withinB (u + 1 : Nat) c.nodes = false then .error (2, o.at_) else ruleD (derP c.deep c.nodes c.E f) c.E d u r) from rfl)
  generalize derP c.deep c.nodes c.E f = dp at HL HDL HV
  generalize derP c.deep c.nodes c.E (f + 1) d u ts = X at HV
  obtain ⟨p0, p1, p2, plt⟩ := HS0.out.cells
  have hfld := field_tok
  have hfld2 := field_tok2
  clear hL h hi hz0 hz1 hz2
  go_enter Tryd.func49, Tryd.ntmps49
  go_wp2_with fail
  refine (HS0.out.ptake 1).mono ?_
  intro e w1 hg
  cases hx : takeT c.E 1 ts with
  | error ea =>
    rw [hx] at hg
    obtain ⟨rfl, hf⟩ := hg
    rw [fault_leave]
    unfold leaveP
    go_wp2
    rw [HV.out, hx]
    exact ⟨rfl, rfl, HF0.out.trans hf⟩
  | ok p =>
  obtain ⟨o1, r1⟩ := p
  rw [hx] at hg
  obtain ⟨rfl, hs, hf⟩ := hg
  have HX1 := Lib.hid hx
  have hl1 := takeT_len hx
  have HS1 := Lib.hid hs
  have HF1 := Lib.hid (HF0.out.trans hf)
  have HR1 := Lib.hid (hf.kept _ _ _ _ HR0.out (by decide) (by decide))
  clear hs hf hx p0 p1 p2 plt
  obtain ⟨p0, p1, p2, plt⟩ := HS1.out.cells
  go_wp2_with fail
  refine (within_any d c.deep w1).mono ?_
  rintro e w' ⟨rfl, rfl⟩
  cases hwd : withinB d c.deep with
  | false =>
    go_wp2
    rw [HV.out, HX1.out]
    dsimp only
    rw [if_pos hwd]
    exact ⟨rfl, rfl, HF1.out⟩
  | true =>
  have HWD := Lib.hid (show ¬ withinB d c.deep = false by rw [hwd]; decide)
  clear hwd
  go_wp2_with fail
  refine (HS1.out.pnode (by omega)).mono ?_
  rintro e w2 ⟨rfl, hf, hs⟩
  cases hwn : withinB (u + 1 : Nat) c.nodes with
  | false =>
    go_wp2
    rw [HV.out, HX1.out]
    dsimp only
    rw [if_neg HWD.out, if_pos hwn]
    exact ⟨rfl, rfl, HF1.out.trans hf⟩
  | true =>
  have HS2 := Lib.hid (hs hwn)
  have HF2 := Lib.hid (HF1.out.trans hf)
  have HR2 := Lib.hid (hf.kept _ _ _ _ HR1.out (by decide) (by decide))
  have HRD := Lib.hid (show X = ruleD dp c.E d u r1 by
    rw [HV.out, HX1.out]
    dsimp only
    rw [if_neg HWD.out, if_neg (by rw [hwn]; decide)])
  clear hs hf hwn p0 p1 p2 plt HV
  obtain ⟨p0, p1, p2, plt⟩ := HS2.out.cells
  go_wp2_with fail
  refine (HS2.out.ptake 3).mono ?_
  intro e w3 hg
  cases hx : takeT c.E 3 r1 with
  | error ea =>
    rw [hx] at hg
    obtain ⟨rfl, hf⟩ := hg
    rw [fault_leave]
    unfold leaveP
    go_wp2
    rw [HRD.out, ruleD, hx]
    exact ⟨rfl, rfl, HF2.out.trans hf⟩
  | ok p =>
  obtain ⟨tk, r0⟩ := p
  rw [hx] at hg
  obtain ⟨rfl, hs, hf⟩ := hg
  have HX3 := Lib.hid hx
  have hl3 := takeT_len hx
  have htl := HS2.out.tokOk hx
  have hr3 := hf.kept _ _ _ _ HR2.out (by decide) (by decide)
  obtain ⟨R, hRe⟩ : ∃ R, ruleN tk.s = R := ⟨_, rfl⟩
  have HRE := Lib.hid hRe
  have hRg := ruleN_range tk.s
  rw [hRe] at hRg
  have HRI := Lib.hid (ruleN_is tk.s)
  rw [hRe] at HRI
  have hb1 := (Below.refl w3.heap.size w3).alloc (Nat.le_refl _) (.cells #[.int .i64 tk.k, .string ⟨tk.s.toArray⟩, .int .i64 tk.at_] 88)
  have hb2 := (Below.refl (w3.alloc (.cells #[.int .i64 tk.k, .string ⟨tk.s.toArray⟩, .int .i64 tk.at_] 88)).heap.size (w3.alloc (.cells #[.int .i64 tk.k, .string ⟨tk.s.toArray⟩, .int .i64 tk.at_] 88))).alloc (Nat.le_refl _) (.cells #[.int .i64 R, .int .i64 0, .slice none 0 0] 24)
  have hb := hb1.trans (hb2.mono hb1.size)
  have HS := Lib.hid (show Stand c w (w3.heap.size + 1) (.mk R 0 []) (.slice none 0 0) (u + 1) r0 ((w3.alloc (.cells #[.int .i64 tk.k, .string ⟨tk.s.toArray⟩, .int .i64 tk.at_] 88)).alloc (.cells #[.int .i64 R, .int .i64 0, .slice none 0 0] 24)) from ⟨by have h := alloc_new (w3.alloc (.cells #[.int .i64 tk.k, .string ⟨tk.s.toArray⟩, .int .i64 tk.at_] 88)) (.cells #[.int .i64 R, .int .i64 0, .slice none 0 0] 24); rw [World.size_alloc] at h; exact h, (hb.block _ (hltD hr3)).trans hr3, hs.later hb, (HF2.out.trans hf).trans (Fp.later hb hs.lo)⟩)
  have hto := ((hb2.block w3.heap.size (by simp)).trans (alloc_new w3 (.cells #[.int .i64 tk.k, .string ⟨tk.s.toArray⟩, .int .i64 tk.at_] 88)))
  have HT3 := Lib.hid (show (w3.alloc (.cells #[.int .i64 tk.k, .string ⟨tk.s.toArray⟩, .int .i64 tk.at_] 88)).heap[w3.heap.size]? = some (.cells #[.int .i64 tk.k, .string ⟨tk.s.toArray⟩, .int .i64 tk.at_] 88) from alloc_new _ _)
  have hDR0 : w.heap.size < w3.heap.size + 1 := by have := hltD hr3; omega
  have HFW := Lib.hid (HF2.out.trans hf)
  obtain ⟨t0, t1, t2⟩ := five_cells HT3.out
  clear hs hf hx hr3 hRe hb1 hb2 hb p0 p1 p2 plt
  go_wp2_with fail
  refine (drule_any ⟨tk.s.toArray⟩ R HRI.out _).mono ?_
  rintro e w' ⟨rfl, rfl⟩
  clear t0 t1 t2
  go_upto_region 8 with fail
  obtain ⟨U, hU⟩ : ∃ U, U = (w3.alloc (.cells #[.int .i64 tk.k, .string ⟨tk.s.toArray⟩, .int .i64 tk.at_] 88)).alloc (.cells #[.int .i64 R, .int .i64 0, .slice none 0 0] 24) := ⟨_, rfl⟩
  rw [← hU] at HS hto
  rw [← hU]
  clear hU
  obtain ⟨t0, t1, t2⟩ := five_cells hto
  obtain ⟨y0, y1, y2⟩ := five_cells HS.out.box
  change U.cell? ⟨(w3.heap.size + 1), 0, none⟩ = some (.int .i64 R) at y0
  obtain ⟨f0, f1, f2⟩ := five_free HS.out.box
  have hDR : w.heap.size < (w3.heap.size + 1) := hDR0
  clear hto hDR0 HR0 HR1 HR2 HS0 HS1 HF0 HF1 HT3
  by_cases hr0 : R = 0
  · subst hr0
    go_wp2_with fail
    refine (fail_any _ _).mono ?_
    rintro e w' ⟨rfl, rfl⟩
    rw [fault_leave]
    unfold leaveP
    go_wp2
    rw [HRD.out, ruleD, HX3.out]
    dsimp only
    rw [if_pos HRE.out]
    exact ⟨rfl, rfl, HS.out.fr⟩
  have hRR : 1 ≤ R ∧ R ≤ 28 := by omega
  by_cases h12 : R = 1 ∨ R = 2
  · have HRN := Lib.hid (show numD c.E R r0 = (match takeT c.E 4 r0 with | .error e => .error (0, e) | .ok (t, q) => .ok ((((getB t.s).getD 0 : Nat) : Int), q)) from if_pos h12)
    have HRX := Lib.hid (show X = (match numD c.E R r0 with | .error e => .error e | .ok (n, r2) => match kidsD dp (d + 1) (dkidsN R).toNat (u + 1) r2 with | .error e => .error e | .ok (l, u2, r3) => match takeT c.E 2 r3 with | .error e => .error (0, e) | .ok (_, r4) => .ok (.mk R n l, u2, r4)) by
      rw [HRD.out, ruleD, HX3.out]
      dsimp only
      rw [HRE.out, if_neg hr0]
      rfl)
    obtain ⟨p0, p1, p2, plt⟩ := HS.out.st.cells
    rcases h12 with hc12 | hc12
    · subst hc12
      go_wp2_with fail
      refine (HS.out.st.ptake 4).mono ?_
      intro e w4 hg
      cases hx : takeT c.E 4 r0 with
      | error ea =>
        rw [hx] at hg
        obtain ⟨rfl, hf⟩ := hg
        rw [fault_leave]
        unfold leaveP
        go_wp2
        rw [HRX.out, HRN.out, hx]
        exact ⟨rfl, rfl, HS.out.fr.trans hf⟩
      | ok p =>
      obtain ⟨tn, r2⟩ := p
      rw [hx] at hg
      obtain ⟨rfl, hs, hf⟩ := hg
      have htn := HS.out.st.tokOk hx
      have hl5 : r2.length ≤ r0.length := by have := takeT_len hx; omega
      have hgb := getB_d tn.s
      have HGE := Lib.hid (getV_eq tn.s)
      obtain ⟨z, hz⟩ : ∃ z, (getB tn.s).getD 0 = z := ⟨_, rfl⟩
      rw [hz] at hgb HGE
      obtain ⟨nm, hnm⟩ : ∃ nm : Int, nm = (z : Int) := ⟨_, rfl⟩
      have hnmR : 0 ≤ nm ∧ nm ≤ 1000000 := by omega
      have HKX := Lib.hid (show numD c.E _ r0 = .ok (nm, r2) by rw [HRN.out, hx]; dsimp only; rw [hz, hnm])
      have HS4 := Lib.hid (HS.out.call hf hs)
      clear hs hf hx y0 y1 y2 f0 f1 f2 t0 t1 t2 p0 p1 p2 plt hz
      obtain ⟨y0, y1, y2⟩ := five_cells HS4.out.box
      obtain ⟨f0, f1, f2⟩ := five_free HS4.out.box
      go_wp2_with fail
      refine (get_any ⟨tn.s.toArray⟩ w4 (by show tn.s.toArray.size ≤ maxLen; unfold maxLen; rw [List.size_toArray]; omega)).mono ?_
      rintro e w' ⟨rfl, hww⟩
      rw [hww]
      clear hww
      obtain ⟨bb, hbb⟩ := HGE.out
      rw [show (⟨tn.s.toArray⟩ : ByteArray).data.toList = tn.s from rfl, hbb, ← hnm]
      have HSV := Lib.hid (HS4.out.num hlo hDR nm)
      clear hnm
      go_upto_region 14 with fail
      clear y0 y1 y2 f0 f1 f2 HS
      obtain ⟨V, hV⟩ : ∃ V, V = w4.setCell ⟨(w3.heap.size + 1), 1, none⟩ (.int .i64 nm) := ⟨_, rfl⟩
      rw [← hV] at HSV
      rw [← hV]
      have HS := HSV
      clear hV HSV HS4 HGE hbb hgb
      obtain ⟨n, hn⟩ : ∃ n : Nat, dkidsN 1 = (n : Int) := ⟨(dkidsN 1).toNat, by have := dkids_nn (r := 1) (by omega); omega⟩
      have HKE := Lib.hid (fun ea (hk : kidsD dp (d + 1) n (u + 1) r2 = .error ea) => show X = .error ea by rw [HRX.out, HKX.out]; dsimp only; rw [hn, Int.toNat_natCast, hk])
      have HKT := Lib.hid (fun l u2 r3 (hk : kidsD dp (d + 1) n (u + 1) r2 = .ok (l, u2, r3)) => show X = (match takeT c.E 2 r3 with | .error e => .error (0, e) | .ok (_, r4) => .ok (.mk 1 nm l, u2, r4)) by rw [HRX.out, HKX.out]; dsimp only; rw [hn, Int.toNat_natCast, hk])
      have hn4 : n ≤ 4 := by have := (dkids_nn (r := 1) (by omega)).2; omega
      have HN := Lib.hid hn
      have HRF := Lib.hid hRR
      obtain ⟨y0, y1, y2⟩ := five_cells HS.out.box
      change V.cell? ⟨(w3.heap.size + 1), 0, none⟩ = some (.int .i64 1) at y0
      clear hn
      go_wp2_with fail
      refine (dkids_any 1 V).mono ?_
      rintro e w' ⟨rfl, rfl⟩
      rw [HN.out]
      clear y0 y1 y2
      go_wp2_with fail
      go_loopw [66] (fun i wr => ∃ (j u' : Nat) (q : List Tok) (ps : List (Tm × Value)) (vv : Value), j ≤ n ∧ i = .int .i64 j ∧ Hid (KInv dp (d + 1) n (u + 1) r2 (ps.map (·.1)) (n - j) u' q) ∧ Hid (ps.length = j) ∧ q.length ≤ r2.length ∧ Hid (Made (w3.heap.size + 1 + 1) wr vv ps) ∧ Hid (Stand c w (w3.heap.size + 1) (.mk 1 nm []) vv u' q wr)) (fun i _ => n - (intOf i).toNat)
      case atStart => exact ⟨0, u + 1, r2, [], _, Nat.zero_le _, rfl, KInv.start _ _ _ _ _, rfl, Nat.le_refl _, made_nil _ _, HS.out⟩
      case round =>
        clear HS
        obtain ⟨j, u', q, ps, vv, hj, rfl, hki, hpl, hql, hmd, hsd⟩ := hrel
        obtain ⟨y0, y1, y2⟩ := five_cells hsd.out.box
        obtain ⟨f0, f1, f2⟩ := five_free hsd.out.box
        by_cases hlt : j < n
        · have hlt' : (j : Int) < (n : Int) := by omega
          obtain ⟨m, hm⟩ : ∃ m, n - j = m + 1 := ⟨n - j - 1, by omega⟩
          have HKI := Lib.hid (show KInv dp (d + 1) n (u + 1) r2 (ps.map (·.1)) (m + 1) u' q by rw [← hm]; exact hki.out)
          have HM := Lib.hid hm
          have HSD := Lib.hid hsd.out.drew
          have HMD := Lib.hid (show Made (w3.heap.size + 1 + 1) wr.drew vv ps from made_fp hmd.out ((Fp.refl c wr).drew))
          have HPL := Lib.hid hpl.out
          have hdsz := hsd.out.size
          have HCALL := Lib.hid (show Calls Tryd.prog 49 #[.pointer (some ⟨c.P, 0, none⟩), .int .i64 ((d : Int) + 1)] wr.drew (DerG c wr.drew (dp (d + 1) u' q)) from by rw [show (d : Int) + 1 = ((d + 1 : Nat) : Int) by omega]; exact HL.out.use (d + 1) u' q wr.drew (by omega) (by omega) HSD.out.st)
          have hw1 : IntKind.i64.wrap ((d : Int) + 1) = (d : Int) + 1 := IntWalk.i64_in _ (by omega)
          have hw2 : IntKind.i64.wrap ((j : Int) + 1) = (j : Int) + 1 := IntWalk.i64_in _ (by omega)
          clear hki hpl hmd hsd hm
          cases hx : dp (d + 1) u' q with
          | error ea =>
            have HC2 : Hid (Calls Tryd.prog 49 #[.pointer (some ⟨c.P, 0, none⟩), .int .i64 ((d : Int) + 1)] wr.drew fun e w' => e = leaveP ea ∧ Fp c wr.drew w') := HCALL.out.mono (fun e w' hg => by rw [hx] at hg; exact hg)
            have HXE := Lib.hid (HKE.out _ (HKI.out.err hx))
            have hyd : wr.drew.cell? ⟨(w3.heap.size + 1), 2, none⟩ = some vv := y2
            clear HCALL
            go_wp2_with fail
            refine wp_region_held_drew (S := fun w' => w'.cell? ⟨(w3.heap.size + 1), 2, none⟩ = some vv) (by kernel_rfl) ?_ (fun hHeld => ?_)
            · (try dsimp only)
              exact hyd
            refine take_at 0 68 ps16_0 (v := ?_) (Or.inl ⟨by rfl, ?_⟩) ?_
            rotate_left 1
            · ((intro w hSw; (try dsimp only at hSw); unfold ps16_0; go_simp) <;> with_reducible rfl)
            (try simp only [Act.put, List.setIfInBounds_toArray, List.set_cons_zero, List.set_cons_succ])
            refine take_at 1 69 ps16_1 (v := ?_) (Or.inl ⟨by rfl, ?_⟩) ?_
            rotate_left 1
            · ((intro w hSw; (try dsimp only at hSw); unfold ps16_1; go_simp) <;> with_reducible rfl)
            (try simp only [Act.put, List.setIfInBounds_toArray, List.set_cons_zero, List.set_cons_succ])
            refine take_at 2 70 ps16_2 (v := ?_) (Or.inl ⟨by rfl, ?_⟩) ?_
            rotate_left 1
            · ((intro w hSw; (try dsimp only at hSw); unfold ps16_2; go_simp) <;> with_reducible rfl)
            (try simp only [Act.put, List.setIfInBounds_toArray, List.set_cons_zero, List.set_cons_succ])
            refine take_at 3 71 ps16_3 (v := ?_) (Or.inl ⟨by rfl, ?_⟩) ?_
            rotate_left 1
            · ((intro w hSw; (try dsimp only at hSw); unfold ps16_3; go_simp) <;> with_reducible rfl)
            (try simp only [Act.put, List.setIfInBounds_toArray, List.set_cons_zero, List.set_cons_succ])
            refine take_at 4 72 ps16_4 (v := ?_) (Or.inl ⟨by rfl, ?_⟩) ?_
            rotate_left 1
            · ((intro w hSw; (try dsimp only at hSw); unfold ps16_4; go_simp) <;> with_reducible rfl)
            (try simp only [Act.put, List.setIfInBounds_toArray, List.set_cons_zero, List.set_cons_succ])
            refine wpAnyH_ready (rs := [5]) (by kernel_rfl) (by simp) ?_
            refine AllReadyH.cons (o := ps16_5) rfl (fun K hK => ?_) ?_
            · unfold ps16_5
              go_simp
              (go_at_call 49; with_reducible refine Calls.mono HC2.out ?_)
              rintro e wn ⟨rfl, hf⟩
              unfold leaveP
              go_wp2
              rw [HXE.out]
              exact ⟨rfl, rfl, HSD.out.fr.trans hf⟩
            exact AllReadyH.nil
          | ok m =>
            obtain ⟨t1, u1, q1⟩ := m
            have HC2 : Hid (Calls Tryd.prog 49 #[.pointer (some ⟨c.P, 0, none⟩), .int .i64 ((d : Int) + 1)] wr.drew fun e w' => ∃ s, e = .returned (tv t1 s) ∧ LiesP w' (Own wr.drew.heap.size w') t1.kids s ∧ t1.fine ∧ PSt c u1 q1 w' ∧ Fp c wr.drew w') := HCALL.out.mono (fun e w' hg => by rw [hx] at hg; exact hg)
            have HXN := Lib.hid hx
            clear HCALL hx
            go_wp2_with fail
            go_region_law (first | (refine step_append_lies _ rfl _ _ 22 rfl (w3.heap.size + 1 + 1) 24 i0 _ 3 40 (by kernel_rfl) HI.out.1 HI.out.2.1 HI.out.2.2.1 HI.out.2.2.2 rfl (by decide) _ ps.length (cells5 ps) rfl (made_later (made_fp HMD.out HFN.out) ((Below.refl _ _).alloc (Nat.le_refl _) _)).own ⟨wn.heap.size, 0, none⟩ 1 1 (cells5 [(t1, .slice a2 t1.kids.length cap2)]) rfl rfl (news_new _ _ _ _) (by intro z hz; simp [cells5] at hz; rcases hz with rfl | rfl | rfl <;> rfl) (by decide) (by have := HPL.out; unfold maxLen; omega) (by have := HPL.out; omega) (by have := HSN.out.size; simp; omega) _ rfl ?_; intro g cap3 w9 hown hgrow hat _; have HPB := Lib.hid (made_push_fp HMD.out hdszd HFN.out HFI.out HLN.out _ hown hgrow (by rcases hat with h | h; exact Or.inl h; exact Or.inr (h.trans (by simp)))); have hs3 := (HSN.out.later ((Below.refl _ _).alloc (Nat.le_refl _) (.cells #[.int .i64 t1.k, .int .i64 t1.i, .slice a2 t1.kids.length cap2] 24))).grow hgrow hlo hDR (made_row (made_later (made_fp HMD.out HFN.out) ((Below.refl _ _).alloc (Nat.le_refl _) _))); have HS3 := Lib.hid hs3; obtain ⟨r0, r1, r2'⟩ := five_cells hs3.box; obtain ⟨s0, s1, s2'⟩ := five_free hs3.box; clear hown hgrow hat hs3) | (go_simp; go_at_call 49; (with_reducible refine Calls.mono HC2.out ?_); rintro e wn ⟨s1, rfl, hl1, hfi, hs1, hf1⟩; obtain ⟨a2, cap2, rfl, -, -⟩ := hl1.out; have HFN := Lib.hid hf1; have HLN := Lib.hid hl1; have HFI := Lib.hid hfi; have HSN := Lib.hid (HSD.out.call hf1 hs1); obtain ⟨r0, r1, r2'⟩ := five_cells HSN.out.box; have hdszd : w3.heap.size + 1 + 1 ≤ wr.drew.heap.size := hdsz; have hsn : w3.heap.size + 1 < wn.heap.size := HSN.out.size; clear hl1 hfi hs1 hf1))
            all_goals
              go_wp2_with fail
              go_roundw
              case rel =>
                have hlen1 := (HDL.out _ _ _ _ _ _ HXN.out).1
                exact ⟨j + 1, u1, q1, ps ++ [(t1, .slice a2 t1.kids.length cap2)], _, hlt, by go_num, by rw [show n - (j + 1) = m by have := HM.out; omega, List.map_append]; exact HKI.out.step HXN.out, by have := HPL.out; simp [Hid]; omega, by omega, Lib.hid (below_made HPB.out (by omega) _), Lib.hid (HS3.out.put hlo hDR _)⟩
              case measure => simp [intOf]; omega
        · obtain rfl : j = n := by omega
          have hkd := hki.out
          rw [Nat.sub_self] at hkd
          have HKD := Lib.hid hkd.done
          have hmdl := made_lies hmd.out
          have HSD := Lib.hid hsd.out
          obtain ⟨p0, p1, p2, plt⟩ := hsd.out.st.cells
          have HML := Lib.hid hmdl
          clear hki hpl hmd hsd hkd hmdl
          go_wp2_with fail
          refine (HSD.out.st.ptake 2).mono ?_
          intro e w6 hg
          cases hx : takeT c.E 2 q with
          | error ea =>
            rw [hx] at hg
            obtain ⟨rfl, hf⟩ := hg
            rw [fault_leave]
            unfold leaveP
            go_wp2
            rw [HKT.out _ _ _ HKD.out, hx]
            exact ⟨rfl, rfl, HSD.out.fr.trans hf⟩
          | ok p =>
            obtain ⟨z, q4⟩ := p
            rw [hx] at hg
            obtain ⟨rfl, hs6, hf6⟩ := hg
            have hs6' := HSD.out.call hf6 hs6
            have HX6 := Lib.hid hx
            have hl6 := liesP_fp HML.out hf6
            obtain ⟨al, cl, rfl, -, -⟩ := hl6.out
            rw [List.length_map] at hl6 hs6'
            have HS6 := Lib.hid hs6'
            clear hs6'
            have HE := Lib.hid (psd_end (x := Tm.mk 1 nm (ps.map fun p : Tm × Value => p.1)) HS6.out hlo hDR hl6)
            obtain ⟨x0, x1, x2⟩ := five_cells HS6.out.box
            obtain ⟨z0, z1, z2⟩ := five_cells HS6.out.res
            obtain ⟨g0, g1, g2⟩ := five_free HS6.out.res
            have hz6 := HS6.out.res
            clear hs6 hf6 hx hl6 y0 y1 y2 f0 f1 f2 p0 p1 p2
            go_wp2
            (try simp only [Exit.inBlock, Exit.then])
            refine bodyPost_ret (results_cell_row rfl _ _ w.heap.size _ _ _ du rfl (five_set hz6) hu1 (by cases du <;> first | rfl | exact hu2) size_term) rfl ?_
            rw [HKT.out _ _ _ HKD.out, HX6.out]
            exact ⟨_, rfl, HE.out.1, ⟨by unfold I64; show -9223372036854775808 ≤ (1 : Int) ∧ (1 : Int) ≤ 9223372036854775807; omega, by unfold I64; show -9223372036854775808 ≤ nm ∧ nm ≤ 9223372036854775807; omega⟩, HE.out.2.1, HE.out.2.2⟩
    · subst hc12
      go_wp2_with fail
      refine (HS.out.st.ptake 4).mono ?_
      intro e w4 hg
      cases hx : takeT c.E 4 r0 with
      | error ea =>
        rw [hx] at hg
        obtain ⟨rfl, hf⟩ := hg
        rw [fault_leave]
        unfold leaveP
        go_wp2
        rw [HRX.out, HRN.out, hx]
        exact ⟨rfl, rfl, HS.out.fr.trans hf⟩
      | ok p =>
      obtain ⟨tn, r2⟩ := p
      rw [hx] at hg
      obtain ⟨rfl, hs, hf⟩ := hg
      have htn := HS.out.st.tokOk hx
      have hl5 : r2.length ≤ r0.length := by have := takeT_len hx; omega
      have hgb := getB_d tn.s
      have HGE := Lib.hid (getV_eq tn.s)
      obtain ⟨z, hz⟩ : ∃ z, (getB tn.s).getD 0 = z := ⟨_, rfl⟩
      rw [hz] at hgb HGE
      obtain ⟨nm, hnm⟩ : ∃ nm : Int, nm = (z : Int) := ⟨_, rfl⟩
      have hnmR : 0 ≤ nm ∧ nm ≤ 1000000 := by omega
      have HKX := Lib.hid (show numD c.E _ r0 = .ok (nm, r2) by rw [HRN.out, hx]; dsimp only; rw [hz, hnm])
      have HS4 := Lib.hid (HS.out.call hf hs)
      clear hs hf hx y0 y1 y2 f0 f1 f2 t0 t1 t2 p0 p1 p2 plt hz
      obtain ⟨y0, y1, y2⟩ := five_cells HS4.out.box
      obtain ⟨f0, f1, f2⟩ := five_free HS4.out.box
      go_wp2_with fail
      refine (get_any ⟨tn.s.toArray⟩ w4 (by show tn.s.toArray.size ≤ maxLen; unfold maxLen; rw [List.size_toArray]; omega)).mono ?_
      rintro e w' ⟨rfl, hww⟩
      rw [hww]
      clear hww
      obtain ⟨bb, hbb⟩ := HGE.out
      rw [show (⟨tn.s.toArray⟩ : ByteArray).data.toList = tn.s from rfl, hbb, ← hnm]
      have HSV := Lib.hid (HS4.out.num hlo hDR nm)
      clear hnm
      go_upto_region 14 with fail
      clear y0 y1 y2 f0 f1 f2 HS
      obtain ⟨V, hV⟩ : ∃ V, V = w4.setCell ⟨(w3.heap.size + 1), 1, none⟩ (.int .i64 nm) := ⟨_, rfl⟩
      rw [← hV] at HSV
      rw [← hV]
      have HS := HSV
      clear hV HSV HS4 HGE hbb hgb
      obtain ⟨n, hn⟩ : ∃ n : Nat, dkidsN 2 = (n : Int) := ⟨(dkidsN 2).toNat, by have := dkids_nn (r := 2) (by omega); omega⟩
      have HKE := Lib.hid (fun ea (hk : kidsD dp (d + 1) n (u + 1) r2 = .error ea) => show X = .error ea by rw [HRX.out, HKX.out]; dsimp only; rw [hn, Int.toNat_natCast, hk])
      have HKT := Lib.hid (fun l u2 r3 (hk : kidsD dp (d + 1) n (u + 1) r2 = .ok (l, u2, r3)) => show X = (match takeT c.E 2 r3 with | .error e => .error (0, e) | .ok (_, r4) => .ok (.mk 2 nm l, u2, r4)) by rw [HRX.out, HKX.out]; dsimp only; rw [hn, Int.toNat_natCast, hk])
      have hn4 : n ≤ 4 := by have := (dkids_nn (r := 2) (by omega)).2; omega
      have HN := Lib.hid hn
      have HRF := Lib.hid hRR
      obtain ⟨y0, y1, y2⟩ := five_cells HS.out.box
      change V.cell? ⟨(w3.heap.size + 1), 0, none⟩ = some (.int .i64 2) at y0
      clear hn
      go_wp2_with fail
      refine (dkids_any 2 V).mono ?_
      rintro e w' ⟨rfl, rfl⟩
      rw [HN.out]
      clear y0 y1 y2
      go_wp2_with fail
      go_loopw [66] (fun i wr => ∃ (j u' : Nat) (q : List Tok) (ps : List (Tm × Value)) (vv : Value), j ≤ n ∧ i = .int .i64 j ∧ Hid (KInv dp (d + 1) n (u + 1) r2 (ps.map (·.1)) (n - j) u' q) ∧ Hid (ps.length = j) ∧ q.length ≤ r2.length ∧ Hid (Made (w3.heap.size + 1 + 1) wr vv ps) ∧ Hid (Stand c w (w3.heap.size + 1) (.mk 2 nm []) vv u' q wr)) (fun i _ => n - (intOf i).toNat)
      case atStart => exact ⟨0, u + 1, r2, [], _, Nat.zero_le _, rfl, KInv.start _ _ _ _ _, rfl, Nat.le_refl _, made_nil _ _, HS.out⟩
      case round =>
        clear HS
        obtain ⟨j, u', q, ps, vv, hj, rfl, hki, hpl, hql, hmd, hsd⟩ := hrel
        obtain ⟨y0, y1, y2⟩ := five_cells hsd.out.box
        obtain ⟨f0, f1, f2⟩ := five_free hsd.out.box
        by_cases hlt : j < n
        · have hlt' : (j : Int) < (n : Int) := by omega
          obtain ⟨m, hm⟩ : ∃ m, n - j = m + 1 := ⟨n - j - 1, by omega⟩
          have HKI := Lib.hid (show KInv dp (d + 1) n (u + 1) r2 (ps.map (·.1)) (m + 1) u' q by rw [← hm]; exact hki.out)
          have HM := Lib.hid hm
          have HSD := Lib.hid hsd.out.drew
          have HMD := Lib.hid (show Made (w3.heap.size + 1 + 1) wr.drew vv ps from made_fp hmd.out ((Fp.refl c wr).drew))
          have HPL := Lib.hid hpl.out
          have hdsz := hsd.out.size
          have HCALL := Lib.hid (show Calls Tryd.prog 49 #[.pointer (some ⟨c.P, 0, none⟩), .int .i64 ((d : Int) + 1)] wr.drew (DerG c wr.drew (dp (d + 1) u' q)) from by rw [show (d : Int) + 1 = ((d + 1 : Nat) : Int) by omega]; exact HL.out.use (d + 1) u' q wr.drew (by omega) (by omega) HSD.out.st)
          have hw1 : IntKind.i64.wrap ((d : Int) + 1) = (d : Int) + 1 := IntWalk.i64_in _ (by omega)
          have hw2 : IntKind.i64.wrap ((j : Int) + 1) = (j : Int) + 1 := IntWalk.i64_in _ (by omega)
          clear hki hpl hmd hsd hm
          cases hx : dp (d + 1) u' q with
          | error ea =>
            have HC2 : Hid (Calls Tryd.prog 49 #[.pointer (some ⟨c.P, 0, none⟩), .int .i64 ((d : Int) + 1)] wr.drew fun e w' => e = leaveP ea ∧ Fp c wr.drew w') := HCALL.out.mono (fun e w' hg => by rw [hx] at hg; exact hg)
            have HXE := Lib.hid (HKE.out _ (HKI.out.err hx))
            have hyd : wr.drew.cell? ⟨(w3.heap.size + 1), 2, none⟩ = some vv := y2
            clear HCALL
            go_wp2_with fail
            refine wp_region_held_drew (S := fun w' => w'.cell? ⟨(w3.heap.size + 1), 2, none⟩ = some vv) (by kernel_rfl) ?_ (fun hHeld => ?_)
            · (try dsimp only)
              exact hyd
            refine take_at 0 68 ps16_0 (v := ?_) (Or.inl ⟨by rfl, ?_⟩) ?_
            rotate_left 1
            · ((intro w hSw; (try dsimp only at hSw); unfold ps16_0; go_simp) <;> with_reducible rfl)
            (try simp only [Act.put, List.setIfInBounds_toArray, List.set_cons_zero, List.set_cons_succ])
            refine take_at 1 69 ps16_1 (v := ?_) (Or.inl ⟨by rfl, ?_⟩) ?_
            rotate_left 1
            · ((intro w hSw; (try dsimp only at hSw); unfold ps16_1; go_simp) <;> with_reducible rfl)
            (try simp only [Act.put, List.setIfInBounds_toArray, List.set_cons_zero, List.set_cons_succ])
            refine take_at 2 70 ps16_2 (v := ?_) (Or.inl ⟨by rfl, ?_⟩) ?_
            rotate_left 1
            · ((intro w hSw; (try dsimp only at hSw); unfold ps16_2; go_simp) <;> with_reducible rfl)
            (try simp only [Act.put, List.setIfInBounds_toArray, List.set_cons_zero, List.set_cons_succ])
            refine take_at 3 71 ps16_3 (v := ?_) (Or.inl ⟨by rfl, ?_⟩) ?_
            rotate_left 1
            · ((intro w hSw; (try dsimp only at hSw); unfold ps16_3; go_simp) <;> with_reducible rfl)
            (try simp only [Act.put, List.setIfInBounds_toArray, List.set_cons_zero, List.set_cons_succ])
            refine take_at 4 72 ps16_4 (v := ?_) (Or.inl ⟨by rfl, ?_⟩) ?_
            rotate_left 1
            · ((intro w hSw; (try dsimp only at hSw); unfold ps16_4; go_simp) <;> with_reducible rfl)
            (try simp only [Act.put, List.setIfInBounds_toArray, List.set_cons_zero, List.set_cons_succ])
            refine wpAnyH_ready (rs := [5]) (by kernel_rfl) (by simp) ?_
            refine AllReadyH.cons (o := ps16_5) rfl (fun K hK => ?_) ?_
            · unfold ps16_5
              go_simp
              (go_at_call 49; with_reducible refine Calls.mono HC2.out ?_)
              rintro e wn ⟨rfl, hf⟩
              unfold leaveP
              go_wp2
              rw [HXE.out]
              exact ⟨rfl, rfl, HSD.out.fr.trans hf⟩
            exact AllReadyH.nil
          | ok m =>
            obtain ⟨t1, u1, q1⟩ := m
            have HC2 : Hid (Calls Tryd.prog 49 #[.pointer (some ⟨c.P, 0, none⟩), .int .i64 ((d : Int) + 1)] wr.drew fun e w' => ∃ s, e = .returned (tv t1 s) ∧ LiesP w' (Own wr.drew.heap.size w') t1.kids s ∧ t1.fine ∧ PSt c u1 q1 w' ∧ Fp c wr.drew w') := HCALL.out.mono (fun e w' hg => by rw [hx] at hg; exact hg)
            have HXN := Lib.hid hx
            clear HCALL hx
            go_wp2_with fail
            go_region_law (first | (refine step_append_lies _ rfl _ _ 22 rfl (w3.heap.size + 1 + 1) 24 i0 _ 3 40 (by kernel_rfl) HI.out.1 HI.out.2.1 HI.out.2.2.1 HI.out.2.2.2 rfl (by decide) _ ps.length (cells5 ps) rfl (made_later (made_fp HMD.out HFN.out) ((Below.refl _ _).alloc (Nat.le_refl _) _)).own ⟨wn.heap.size, 0, none⟩ 1 1 (cells5 [(t1, .slice a2 t1.kids.length cap2)]) rfl rfl (news_new _ _ _ _) (by intro z hz; simp [cells5] at hz; rcases hz with rfl | rfl | rfl <;> rfl) (by decide) (by have := HPL.out; unfold maxLen; omega) (by have := HPL.out; omega) (by have := HSN.out.size; simp; omega) _ rfl ?_; intro g cap3 w9 hown hgrow hat _; have HPB := Lib.hid (made_push_fp HMD.out hdszd HFN.out HFI.out HLN.out _ hown hgrow (by rcases hat with h | h; exact Or.inl h; exact Or.inr (h.trans (by simp)))); have hs3 := (HSN.out.later ((Below.refl _ _).alloc (Nat.le_refl _) (.cells #[.int .i64 t1.k, .int .i64 t1.i, .slice a2 t1.kids.length cap2] 24))).grow hgrow hlo hDR (made_row (made_later (made_fp HMD.out HFN.out) ((Below.refl _ _).alloc (Nat.le_refl _) _))); have HS3 := Lib.hid hs3; obtain ⟨r0, r1, r2'⟩ := five_cells hs3.box; obtain ⟨s0, s1, s2'⟩ := five_free hs3.box; clear hown hgrow hat hs3) | (go_simp; go_at_call 49; (with_reducible refine Calls.mono HC2.out ?_); rintro e wn ⟨s1, rfl, hl1, hfi, hs1, hf1⟩; obtain ⟨a2, cap2, rfl, -, -⟩ := hl1.out; have HFN := Lib.hid hf1; have HLN := Lib.hid hl1; have HFI := Lib.hid hfi; have HSN := Lib.hid (HSD.out.call hf1 hs1); obtain ⟨r0, r1, r2'⟩ := five_cells HSN.out.box; have hdszd : w3.heap.size + 1 + 1 ≤ wr.drew.heap.size := hdsz; have hsn : w3.heap.size + 1 < wn.heap.size := HSN.out.size; clear hl1 hfi hs1 hf1))
            all_goals
              go_wp2_with fail
              go_roundw
              case rel =>
                have hlen1 := (HDL.out _ _ _ _ _ _ HXN.out).1
                exact ⟨j + 1, u1, q1, ps ++ [(t1, .slice a2 t1.kids.length cap2)], _, hlt, by go_num, by rw [show n - (j + 1) = m by have := HM.out; omega, List.map_append]; exact HKI.out.step HXN.out, by have := HPL.out; simp [Hid]; omega, by omega, Lib.hid (below_made HPB.out (by omega) _), Lib.hid (HS3.out.put hlo hDR _)⟩
              case measure => simp [intOf]; omega
        · obtain rfl : j = n := by omega
          have hkd := hki.out
          rw [Nat.sub_self] at hkd
          have HKD := Lib.hid hkd.done
          have hmdl := made_lies hmd.out
          have HSD := Lib.hid hsd.out
          obtain ⟨p0, p1, p2, plt⟩ := hsd.out.st.cells
          have HML := Lib.hid hmdl
          clear hki hpl hmd hsd hkd hmdl
          go_wp2_with fail
          refine (HSD.out.st.ptake 2).mono ?_
          intro e w6 hg
          cases hx : takeT c.E 2 q with
          | error ea =>
            rw [hx] at hg
            obtain ⟨rfl, hf⟩ := hg
            rw [fault_leave]
            unfold leaveP
            go_wp2
            rw [HKT.out _ _ _ HKD.out, hx]
            exact ⟨rfl, rfl, HSD.out.fr.trans hf⟩
          | ok p =>
            obtain ⟨z, q4⟩ := p
            rw [hx] at hg
            obtain ⟨rfl, hs6, hf6⟩ := hg
            have hs6' := HSD.out.call hf6 hs6
            have HX6 := Lib.hid hx
            have hl6 := liesP_fp HML.out hf6
            obtain ⟨al, cl, rfl, -, -⟩ := hl6.out
            rw [List.length_map] at hl6 hs6'
            have HS6 := Lib.hid hs6'
            clear hs6'
            have HE := Lib.hid (psd_end (x := Tm.mk 2 nm (ps.map fun p : Tm × Value => p.1)) HS6.out hlo hDR hl6)
            obtain ⟨x0, x1, x2⟩ := five_cells HS6.out.box
            obtain ⟨z0, z1, z2⟩ := five_cells HS6.out.res
            obtain ⟨g0, g1, g2⟩ := five_free HS6.out.res
            have hz6 := HS6.out.res
            clear hs6 hf6 hx hl6 y0 y1 y2 f0 f1 f2 p0 p1 p2
            go_wp2
            (try simp only [Exit.inBlock, Exit.then])
            refine bodyPost_ret (results_cell_row rfl _ _ w.heap.size _ _ _ du rfl (five_set hz6) hu1 (by cases du <;> first | rfl | exact hu2) size_term) rfl ?_
            rw [HKT.out _ _ _ HKD.out, HX6.out]
            exact ⟨_, rfl, HE.out.1, ⟨by unfold I64; show -9223372036854775808 ≤ (2 : Int) ∧ (2 : Int) ≤ 9223372036854775807; omega, by unfold I64; show -9223372036854775808 ≤ nm ∧ nm ≤ 9223372036854775807; omega⟩, HE.out.2.1, HE.out.2.2⟩
  · have hn1 : ¬ R = 1 := fun e => h12 (Or.inl e)
    have hn2 : ¬ R = 2 := fun e => h12 (Or.inr e)
    have HRX := Lib.hid (show X = (match numD c.E R r0 with | .error e => .error e | .ok (n, r2) => match kidsD dp (d + 1) (dkidsN R).toNat (u + 1) r2 with | .error e => .error e | .ok (l, u2, r3) => match takeT c.E 2 r3 with | .error e => .error (0, e) | .ok (_, r4) => .ok (.mk R n l, u2, r4)) by
      rw [HRD.out, ruleD, HX3.out]
      dsimp only
      rw [HRE.out, if_neg hr0]
      rfl)
    obtain ⟨nm, hnm⟩ : ∃ nm : Int, nm = 0 := ⟨_, rfl⟩
    have hnmR : 0 ≤ nm ∧ nm ≤ 1000000 := by omega
    obtain ⟨r2, hr2⟩ : ∃ r2, r2 = r0 := ⟨_, rfl⟩
    have HKX := Lib.hid (show numD c.E R r0 = .ok (nm, r2) by unfold numD; rw [if_neg h12, hnm, hr2])
    rw [← hnm] at HS
    rw [← hr2] at HS
    have hl5 : r2.length ≤ r0.length := by rw [hr2]; exact Nat.le_refl _
    clear hnm hr2 h12 t0 t1 t2
    go_upto_region 14 with fail
    clear y0 y1 y2 f0 f1 f2
    obtain ⟨V, hV⟩ : ∃ V, V = U := ⟨_, rfl⟩
    rw [← hV] at HS
    rw [← hV]
    clear hV
    obtain ⟨n, hn⟩ : ∃ n : Nat, dkidsN R = (n : Int) := ⟨(dkidsN R).toNat, by have := dkids_nn (r := R) (by omega); omega⟩
    have HKE := Lib.hid (fun ea (hk : kidsD dp (d + 1) n (u + 1) r2 = .error ea) => show X = .error ea by rw [HRX.out, HKX.out]; dsimp only; rw [hn, Int.toNat_natCast, hk])
    have HKT := Lib.hid (fun l u2 r3 (hk : kidsD dp (d + 1) n (u + 1) r2 = .ok (l, u2, r3)) => show X = (match takeT c.E 2 r3 with | .error e => .error (0, e) | .ok (_, r4) => .ok (.mk R nm l, u2, r4)) by rw [HRX.out, HKX.out]; dsimp only; rw [hn, Int.toNat_natCast, hk])
    have hn4 : n ≤ 4 := by have := (dkids_nn (r := R) (by omega)).2; omega
    have HN := Lib.hid hn
    have HRF := Lib.hid hRR
    obtain ⟨y0, y1, y2⟩ := five_cells HS.out.box
    change V.cell? ⟨(w3.heap.size + 1), 0, none⟩ = some (.int .i64 R) at y0
    clear hn
    go_wp2_with fail
    refine (dkids_any R V).mono ?_
    rintro e w' ⟨rfl, rfl⟩
    rw [HN.out]
    clear y0 y1 y2
    go_wp2_with fail
    go_loopw [66] (fun i wr => ∃ (j u' : Nat) (q : List Tok) (ps : List (Tm × Value)) (vv : Value), j ≤ n ∧ i = .int .i64 j ∧ Hid (KInv dp (d + 1) n (u + 1) r2 (ps.map (·.1)) (n - j) u' q) ∧ Hid (ps.length = j) ∧ q.length ≤ r2.length ∧ Hid (Made (w3.heap.size + 1 + 1) wr vv ps) ∧ Hid (Stand c w (w3.heap.size + 1) (.mk R nm []) vv u' q wr)) (fun i _ => n - (intOf i).toNat)
    case atStart => exact ⟨0, u + 1, r2, [], _, Nat.zero_le _, rfl, KInv.start _ _ _ _ _, rfl, Nat.le_refl _, made_nil _ _, HS.out⟩
    case round =>
      clear HS
      obtain ⟨j, u', q, ps, vv, hj, rfl, hki, hpl, hql, hmd, hsd⟩ := hrel
      obtain ⟨y0, y1, y2⟩ := five_cells hsd.out.box
      obtain ⟨f0, f1, f2⟩ := five_free hsd.out.box
      by_cases hlt : j < n
      · have hlt' : (j : Int) < (n : Int) := by omega
        obtain ⟨m, hm⟩ : ∃ m, n - j = m + 1 := ⟨n - j - 1, by omega⟩
        have HKI := Lib.hid (show KInv dp (d + 1) n (u + 1) r2 (ps.map (·.1)) (m + 1) u' q by rw [← hm]; exact hki.out)
        have HM := Lib.hid hm
        have HSD := Lib.hid hsd.out.drew
        have HMD := Lib.hid (show Made (w3.heap.size + 1 + 1) wr.drew vv ps from made_fp hmd.out ((Fp.refl c wr).drew))
        have HPL := Lib.hid hpl.out
        have hdsz := hsd.out.size
        have HCALL := Lib.hid (show Calls Tryd.prog 49 #[.pointer (some ⟨c.P, 0, none⟩), .int .i64 ((d : Int) + 1)] wr.drew (DerG c wr.drew (dp (d + 1) u' q)) from by rw [show (d : Int) + 1 = ((d + 1 : Nat) : Int) by omega]; exact HL.out.use (d + 1) u' q wr.drew (by omega) (by omega) HSD.out.st)
        have hw1 : IntKind.i64.wrap ((d : Int) + 1) = (d : Int) + 1 := IntWalk.i64_in _ (by omega)
        have hw2 : IntKind.i64.wrap ((j : Int) + 1) = (j : Int) + 1 := IntWalk.i64_in _ (by omega)
        clear hki hpl hmd hsd hm
        cases hx : dp (d + 1) u' q with
        | error ea =>
          have HC2 : Hid (Calls Tryd.prog 49 #[.pointer (some ⟨c.P, 0, none⟩), .int .i64 ((d : Int) + 1)] wr.drew fun e w' => e = leaveP ea ∧ Fp c wr.drew w') := HCALL.out.mono (fun e w' hg => by rw [hx] at hg; exact hg)
          have HXE := Lib.hid (HKE.out _ (HKI.out.err hx))
          have hyd : wr.drew.cell? ⟨(w3.heap.size + 1), 2, none⟩ = some vv := y2
          clear HCALL
          go_wp2_with fail
          refine wp_region_held_drew (S := fun w' => w'.cell? ⟨(w3.heap.size + 1), 2, none⟩ = some vv) (by kernel_rfl) ?_ (fun hHeld => ?_)
          · (try dsimp only)
            exact hyd
          refine take_at 0 68 ps16_0 (v := ?_) (Or.inl ⟨by rfl, ?_⟩) ?_
          rotate_left 1
          · ((intro w hSw; (try dsimp only at hSw); unfold ps16_0; go_simp) <;> with_reducible rfl)
          (try simp only [Act.put, List.setIfInBounds_toArray, List.set_cons_zero, List.set_cons_succ])
          refine take_at 1 69 ps16_1 (v := ?_) (Or.inl ⟨by rfl, ?_⟩) ?_
          rotate_left 1
          · ((intro w hSw; (try dsimp only at hSw); unfold ps16_1; go_simp) <;> with_reducible rfl)
          (try simp only [Act.put, List.setIfInBounds_toArray, List.set_cons_zero, List.set_cons_succ])
          refine take_at 2 70 ps16_2 (v := ?_) (Or.inl ⟨by rfl, ?_⟩) ?_
          rotate_left 1
          · ((intro w hSw; (try dsimp only at hSw); unfold ps16_2; go_simp) <;> with_reducible rfl)
          (try simp only [Act.put, List.setIfInBounds_toArray, List.set_cons_zero, List.set_cons_succ])
          refine take_at 3 71 ps16_3 (v := ?_) (Or.inl ⟨by rfl, ?_⟩) ?_
          rotate_left 1
          · ((intro w hSw; (try dsimp only at hSw); unfold ps16_3; go_simp) <;> with_reducible rfl)
          (try simp only [Act.put, List.setIfInBounds_toArray, List.set_cons_zero, List.set_cons_succ])
          refine take_at 4 72 ps16_4 (v := ?_) (Or.inl ⟨by rfl, ?_⟩) ?_
          rotate_left 1
          · ((intro w hSw; (try dsimp only at hSw); unfold ps16_4; go_simp) <;> with_reducible rfl)
          (try simp only [Act.put, List.setIfInBounds_toArray, List.set_cons_zero, List.set_cons_succ])
          refine wpAnyH_ready (rs := [5]) (by kernel_rfl) (by simp) ?_
          refine AllReadyH.cons (o := ps16_5) rfl (fun K hK => ?_) ?_
          · unfold ps16_5
            go_simp
            (go_at_call 49; with_reducible refine Calls.mono HC2.out ?_)
            rintro e wn ⟨rfl, hf⟩
            unfold leaveP
            go_wp2
            rw [HXE.out]
            exact ⟨rfl, rfl, HSD.out.fr.trans hf⟩
          exact AllReadyH.nil
        | ok m =>
          obtain ⟨t1, u1, q1⟩ := m
          have HC2 : Hid (Calls Tryd.prog 49 #[.pointer (some ⟨c.P, 0, none⟩), .int .i64 ((d : Int) + 1)] wr.drew fun e w' => ∃ s, e = .returned (tv t1 s) ∧ LiesP w' (Own wr.drew.heap.size w') t1.kids s ∧ t1.fine ∧ PSt c u1 q1 w' ∧ Fp c wr.drew w') := HCALL.out.mono (fun e w' hg => by rw [hx] at hg; exact hg)
          have HXN := Lib.hid hx
          clear HCALL hx
          go_wp2_with fail
          go_region_law (first | (refine step_append_lies _ rfl _ _ 22 rfl (w3.heap.size + 1 + 1) 24 i0 _ 3 40 (by kernel_rfl) HI.out.1 HI.out.2.1 HI.out.2.2.1 HI.out.2.2.2 rfl (by decide) _ ps.length (cells5 ps) rfl (made_later (made_fp HMD.out HFN.out) ((Below.refl _ _).alloc (Nat.le_refl _) _)).own ⟨wn.heap.size, 0, none⟩ 1 1 (cells5 [(t1, .slice a2 t1.kids.length cap2)]) rfl rfl (news_new _ _ _ _) (by intro z hz; simp [cells5] at hz; rcases hz with rfl | rfl | rfl <;> rfl) (by decide) (by have := HPL.out; unfold maxLen; omega) (by have := HPL.out; omega) (by have := HSN.out.size; simp; omega) _ rfl ?_; intro g cap3 w9 hown hgrow hat _; have HPB := Lib.hid (made_push_fp HMD.out hdszd HFN.out HFI.out HLN.out _ hown hgrow (by rcases hat with h | h; exact Or.inl h; exact Or.inr (h.trans (by simp)))); have hs3 := (HSN.out.later ((Below.refl _ _).alloc (Nat.le_refl _) (.cells #[.int .i64 t1.k, .int .i64 t1.i, .slice a2 t1.kids.length cap2] 24))).grow hgrow hlo hDR (made_row (made_later (made_fp HMD.out HFN.out) ((Below.refl _ _).alloc (Nat.le_refl _) _))); have HS3 := Lib.hid hs3; obtain ⟨r0, r1, r2'⟩ := five_cells hs3.box; obtain ⟨s0, s1, s2'⟩ := five_free hs3.box; clear hown hgrow hat hs3) | (go_simp; go_at_call 49; (with_reducible refine Calls.mono HC2.out ?_); rintro e wn ⟨s1, rfl, hl1, hfi, hs1, hf1⟩; obtain ⟨a2, cap2, rfl, -, -⟩ := hl1.out; have HFN := Lib.hid hf1; have HLN := Lib.hid hl1; have HFI := Lib.hid hfi; have HSN := Lib.hid (HSD.out.call hf1 hs1); obtain ⟨r0, r1, r2'⟩ := five_cells HSN.out.box; have hdszd : w3.heap.size + 1 + 1 ≤ wr.drew.heap.size := hdsz; have hsn : w3.heap.size + 1 < wn.heap.size := HSN.out.size; clear hl1 hfi hs1 hf1))
          all_goals
            go_wp2_with fail
            go_roundw
            case rel =>
              have hlen1 := (HDL.out _ _ _ _ _ _ HXN.out).1
              exact ⟨j + 1, u1, q1, ps ++ [(t1, .slice a2 t1.kids.length cap2)], _, hlt, by go_num, by rw [show n - (j + 1) = m by have := HM.out; omega, List.map_append]; exact HKI.out.step HXN.out, by have := HPL.out; simp [Hid]; omega, by omega, Lib.hid (below_made HPB.out (by omega) _), Lib.hid (HS3.out.put hlo hDR _)⟩
            case measure => simp [intOf]; omega
      · obtain rfl : j = n := by omega
        have hkd := hki.out
        rw [Nat.sub_self] at hkd
        have HKD := Lib.hid hkd.done
        have hmdl := made_lies hmd.out
        have HSD := Lib.hid hsd.out
        obtain ⟨p0, p1, p2, plt⟩ := hsd.out.st.cells
        have HML := Lib.hid hmdl
        clear hki hpl hmd hsd hkd hmdl
        go_wp2_with fail
        refine (HSD.out.st.ptake 2).mono ?_
        intro e w6 hg
        cases hx : takeT c.E 2 q with
        | error ea =>
          rw [hx] at hg
          obtain ⟨rfl, hf⟩ := hg
          rw [fault_leave]
          unfold leaveP
          go_wp2
          rw [HKT.out _ _ _ HKD.out, hx]
          exact ⟨rfl, rfl, HSD.out.fr.trans hf⟩
        | ok p =>
          obtain ⟨z, q4⟩ := p
          rw [hx] at hg
          obtain ⟨rfl, hs6, hf6⟩ := hg
          have hs6' := HSD.out.call hf6 hs6
          have HX6 := Lib.hid hx
          have hl6 := liesP_fp HML.out hf6
          obtain ⟨al, cl, rfl, -, -⟩ := hl6.out
          rw [List.length_map] at hl6 hs6'
          have HS6 := Lib.hid hs6'
          clear hs6'
          have HE := Lib.hid (psd_end (x := Tm.mk R nm (ps.map fun p : Tm × Value => p.1)) HS6.out hlo hDR hl6)
          obtain ⟨x0, x1, x2⟩ := five_cells HS6.out.box
          obtain ⟨z0, z1, z2⟩ := five_cells HS6.out.res
          obtain ⟨g0, g1, g2⟩ := five_free HS6.out.res
          have hz6 := HS6.out.res
          clear hs6 hf6 hx hl6 y0 y1 y2 f0 f1 f2 p0 p1 p2
          go_wp2
          (try simp only [Exit.inBlock, Exit.then])
          refine bodyPost_ret (results_cell_row rfl _ _ w.heap.size _ _ _ du rfl (five_set hz6) hu1 (by cases du <;> first | rfl | exact hu2) size_term) rfl ?_
          rw [HKT.out _ _ _ HKD.out, HX6.out]
          exact ⟨_, rfl, HE.out.1, ⟨by unfold I64; show -9223372036854775808 ≤ R ∧ R ≤ 9223372036854775807; omega, by unfold I64; show -9223372036854775808 ≤ nm ∧ nm ≤ 9223372036854775807; omega⟩, HE.out.2.1, HE.out.2.2⟩
theorem pderiv_any (c : PC) : ∀ f, DerC c f (derP c.deep c.nodes c.E f)
  | 0 => fun d u ts w hf _ _ => by omega
  | f + 1 => pderiv_step c f (pderiv_any c f)
end Go.Proofs.YtdhfbphliejcdaaDoor.Dv

namespace Go.Proofs.YtdhfbphliejcdaaDoor.Dv
open Go.RowKit

/-- A file by value. -/
abbrev fv (cv : Value) (t : Tm) (s : Value) : Value := .agg #[cv, .int .i64 t.k, .int .i64 t.i, s]
abbrev fileO (cv : Value) (k i : Int) (s : Value) : Obj := .cells #[cv, .int .i64 k, .int .i64 i, s] 26
theorem under_file : ∃ d, Tryd.prog.underlying 26 = some d ∧ (match d with | .struct _ | .array _ _ => true | _ => false) = true := by
  have h : (Tryd.prog.underlying 26).map (fun d => match d with | .struct _ | .array _ _ => true | _ => false) = some true := by kernel_rfl
  cases e : Tryd.prog.underlying 26 with
  | none => rw [e] at h; cases h
  | some d => rw [e] at h; exact ⟨d, rfl, Option.some.inj h⟩
theorem size_file : (Tryd.prog.info? 26).map (·.size) = some 4 := by kernel_rfl
theorem four_cells {w : World} {g : Nat} {v0 v1 v2 v3 : Value} {T : TypeId} (h : w.heap[g]? = some (.cells #[v0, v1, v2, v3] T (0, 0))) :
    w.cell? ⟨g, 0, none⟩ = some v0 ∧ w.cell? ⟨g, 1, none⟩ = some v1 ∧ w.cell? ⟨g, 2, none⟩ = some v2 ∧ w.cell? ⟨g, 3, none⟩ = some v3 := by
  refine ⟨?_, ?_, ?_, ?_⟩ <;> (rw [cell_of_row w g _ _ _ _ h]; rfl)
theorem four_free {w : World} {g : Nat} {cs : Array Value} {T : TypeId} (h : w.heap[g]? = some (.cells cs T (0, 0))) :
    w.frozen? ⟨g, 0, none⟩ = false ∧ w.frozen? ⟨g, 1, none⟩ = false ∧ w.frozen? ⟨g, 2, none⟩ = false ∧ w.frozen? ⟨g, 3, none⟩ = false :=
  ⟨open_unfrozen h _, open_unfrozen h _, open_unfrozen h _, open_unfrozen h _⟩
abbrev four (w : World) (g : Nat) (v0 v1 v2 v3 : Value) : World := (((w.setCell ⟨g, 0, none⟩ v0).setCell ⟨g, 1, none⟩ v1).setCell ⟨g, 2, none⟩ v2).setCell ⟨g, 3, none⟩ v3
theorem four_set {w : World} {g : Nat} {T : TypeId} {z0 z1 z2 z3 v0 v1 v2 v3 : Value} (h : w.heap[g]? = some (.cells #[z0, z1, z2, z3] T (0, 0))) :
    (four w g v0 v1 v2 v3).heap[g]? = some (.cells #[v0, v1, v2, v3] T (0, 0)) :=
  heap_setCell_same _ _ _ _ _ _ (heap_setCell_same _ _ _ _ _ _ (heap_setCell_same _ _ _ _ _ _ (heap_setCell_same _ _ _ _ _ _ h)))
/-- A step that writes a block of the sort of files. -/
theorem PSt.file {c : PC} {u : Nat} {ts : List Tok} {w w' : World} (h : PSt c u ts w) {b : Nat} (hg : w.grownBy w' (some b)) {cs : Array Value} {fz : Nat × Nat} (hb : w.heap[b]? = some (Obj.cells cs 26 fz)) : PSt c u ts w' := by
  obtain ⟨tv, h1, h2⟩ := h.str
  have old : ∀ {q : Nat} {cs : Array Value} {T : TypeId} {fz : Nat × Nat}, T ≠ 26 → w.heap[q]? = some (Obj.cells cs T fz) → w'.heap[q]? = some (Obj.cells cs T fz) := fun {q cs T fz} hne e => by
    rw [hg.block q (hltD e) (fun e2 => by obtain rfl := Option.some.inj e2; exact hne (typeD e hb))]; exact e
  refine ⟨h.bS, h.bP, h.bG, Nat.le_trans h.lo hg.size, ⟨tv, ?_, ?_⟩, ?_, ?_, h.tok, h.few⟩
  · exact old (by decide) h1
  · exact h2.keep fun g cs fz e => old (by decide) e
  · exact old (by decide) h.par
  · exact old (by decide) h.bud
/-- What stands by when a file is parsed: the result's block, the file's block. -/
structure StandF (c : PC) (w : World) (D : Nat) (cv : Value) (k i : Int) (s : Value) (u : Nat) (ts : List Tok) (w' : World) : Prop where
  box : w'.heap[D]? = some (fileO cv k i s)
  res : w'.heap[w.heap.size]? = some (fileO (.slice none 0 0) 0 0 (.slice none 0 0))
  st : PSt c u ts w'
  fr : Fp c w w'
theorem StandF.size {c : PC} {w w' : World} {D u : Nat} {cv : Value} {k i : Int} {s : Value} {ts : List Tok} (h : StandF c w D cv k i s u ts w') : D < w'.heap.size := hltD h.box
theorem StandF.drew {c : PC} {w w' : World} {D u : Nat} {cv : Value} {k i : Int} {s : Value} {ts : List Tok} (h : StandF c w D cv k i s u ts w') : StandF c w D cv k i s u ts w'.drew := ⟨h.box, h.res, h.st.drew, h.fr.drew⟩
theorem StandF.call {c : PC} {w w' wn : World} {D u u1 : Nat} {cv : Value} {k i : Int} {s : Value} {ts r : List Tok} (h : StandF c w D cv k i s u ts w') (hf : Fp c w' wn) (hs : PSt c u1 r wn) : StandF c w D cv k i s u1 r wn :=
  ⟨hf.kept _ _ _ _ h.box (by decide) (by decide), hf.kept _ _ _ _ h.res (by decide) (by decide), hs, h.fr.trans hf⟩
theorem StandF.later {c : PC} {w w' wn : World} {D u : Nat} {cv : Value} {k i : Int} {s : Value} {ts : List Tok} (h : StandF c w D cv k i s u ts w') (hb : Below w'.heap.size w' wn) : StandF c w D cv k i s u ts wn :=
  h.call (Fp.later hb h.st.lo) (h.st.later hb)
theorem StandF.grow {c : PC} {w w' wn : World} {D u : Nat} {cv : Value} {k i : Int} {s : Value} {ts : List Tok} (h : StandF c w D cv k i s u ts w') {row : Option Nat} (hg : w'.grownBy wn row) (hlo : c.B ≤ w.heap.size) (hD : w.heap.size < D) (hb : ∀ b, row = some b → D + 1 ≤ b ∧ ∃ cs fz, w'.heap[b]? = some (Obj.cells cs 24 fz)) : StandF c w D cv k i s u ts wn :=
  ⟨by rw [hg.block _ h.size (fun e => by have := (hb D e.symm).1; omega)]; exact h.box, by rw [hg.block _ (hltD h.res) (fun e => by have := (hb _ e.symm).1; omega)]; exact h.res,
    h.st.other hg (fun b e => ⟨by have := (hb b e).1; omega, (hb b e).2⟩), h.fr.row hg (fun b e => by have := (hb b e).1; omega) hlo⟩
theorem StandF.put {c : PC} {w w' : World} {D u : Nat} {cv : Value} {k i : Int} {s : Value} {ts : List Tok} (h : StandF c w D cv k i s u ts w') (hlo : c.B ≤ w.heap.size) (hD : w.heap.size < D) (v' : Value) : StandF c w D v' k i s u ts (w'.setCell ⟨D, 0, none⟩ v') :=
  ⟨heap_setCell_same _ _ 0 _ _ v' h.box, (Below.heap_setCell _ _ _ _ (by show w.heap.size ≠ D; omega)).trans h.res,
    h.st.file (setD_grown w' D 0 v') h.box, h.fr.row (setD_grown w' D 0 v') (fun b e => by obtain rfl := Option.some.inj e; omega) hlo⟩
abbrev putF (w' : World) (D : Nat) (k i : Int) (s : Value) : World := ((w'.setCell ⟨D, 1, none⟩ (.int .i64 k)).setCell ⟨D, 2, none⟩ (.int .i64 i)).setCell ⟨D, 3, none⟩ s
theorem StandF.deriv {c : PC} {w w' : World} {D u : Nat} {cv : Value} {k i : Int} {s : Value} {ts : List Tok} (h : StandF c w D cv k i s u ts w') (hlo : c.B ≤ w.heap.size) (hD : w.heap.size < D) (k' i' : Int) (s' : Value) : StandF c w D cv k' i' s' u ts (putF w' D k' i' s') := by
  have hg : w'.grownBy (putF w' D k' i' s') (some D) := ((setD_grown _ _ _ _).trans (setD_grown _ _ _ _)).trans (setD_grown _ _ _ _)
  exact ⟨heap_setCell_same _ _ 3 _ _ s' (heap_setCell_same _ _ 2 _ _ _ (heap_setCell_same _ _ 1 _ _ _ h.box)), (hg.block _ (hltD h.res) (fun e => by have := Option.some.inj e; omega)).trans h.res,
    h.st.file hg h.box, h.fr.row hg (fun b e => by obtain rfl := Option.some.inj e; omega) hlo⟩
/-- The contexts, some of them done. -/
def CInv (dp : DP) (E f u0 : Nat) (ts0 : List Tok) (acc : List Tm) (m u : Nat) (ts : List Tok) : Prop := ctxD dp E f u0 ts0 = (match ctxD dp E m u ts with
  | .error e => .error e
  | .ok (l, u2, r) => .ok (acc ++ l, u2, r))
theorem CInv.start (dp : DP) (E f u : Nat) (ts : List Tok) : CInv dp E f u ts [] f u ts := by
  unfold CInv
  cases ctxD dp E f u ts with
  | error e => rfl
  | ok x => rfl
theorem CInv.err {dp : DP} {E f u0 m u : Nat} {ts0 ts : List Tok} {acc : List Tm} {e : PF} (h : CInv dp E f u0 ts0 acc (m + 1) u ts) (hn : ((ts.head?.map fun t => t.k == 2).getD false) = false) (hx : dp 1 u ts = .error e) : ctxD dp E f u0 ts0 = .error e := by
  unfold CInv at h
  rw [h, ctxD, if_neg (by rw [hn]; decide), hx]
theorem CInv.step {dp : DP} {E f u0 m u u1 : Nat} {ts0 ts r : List Tok} {acc : List Tm} {t : Tm} (h : CInv dp E f u0 ts0 acc (m + 1) u ts) (hn : ((ts.head?.map fun t => t.k == 2).getD false) = false) (hx : dp 1 u ts = .ok (t, u1, r)) : CInv dp E f u0 ts0 (acc ++ [t]) m u1 r := by
  unfold CInv at h ⊢
  rw [h, ctxD, if_neg (by rw [hn]; decide), hx]
  dsimp only
  cases ctxD dp E m u1 r with
  | error e => rfl
  | ok x => obtain ⟨l, u2, r2⟩ := x; simp
theorem CInv.done {dp : DP} {E f u0 m u : Nat} {ts0 ts : List Tok} {acc : List Tm} (h : CInv dp E f u0 ts0 acc (m + 1) u ts) (hn : ((ts.head?.map fun t => t.k == 2).getD false) = true) : ctxD dp E f u0 ts0 = .ok (acc, u, ts) := by
  unfold CInv at h
  rw [h, ctxD, if_pos hn]
  simp
/-- What the parsing of a file gives. -/
def FileG (c : PC) (w : World) (x : Except PF ((List Tm × Tm) × List Tok)) (e : Ending) (w' : World) : Prop :=
  match x with
  | .error a => e = leaveP a ∧ Fp c w w'
  | .ok ((l, t), r) => ∃ cv s, e = .returned (fv cv t s) ∧ LiesP w' (Own w.heap.size w') l cv ∧ LiesP w' (Own w.heap.size w') t.kids s ∧ t.fine ∧ (∃ u, PSt c u r w') ∧ Fp c w w'
/-- The end: the file is stored as the result. -/
theorem psf_end {c : PC} {w w' : World} {D u : Nat} {cv : Value} {k i : Int} {s : Value} {r : List Tok} {l l2 : List Tm} (h : StandF c w D cv k i s u r w') (hlo : c.B ≤ w.heap.size) (hD : w.heap.size < D) (hl : LiesP w' (Own (D + 1) w') l cv) (hl2 : LiesP w' (Own (D + 1) w') l2 s) :
    LiesP (four w' w.heap.size cv (.int .i64 k) (.int .i64 i) s) (Own w.heap.size (four w' w.heap.size cv (.int .i64 k) (.int .i64 i) s)) l cv ∧ LiesP (four w' w.heap.size cv (.int .i64 k) (.int .i64 i) s) (Own w.heap.size (four w' w.heap.size cv (.int .i64 k) (.int .i64 i) s)) l2 s ∧ PSt c u r (four w' w.heap.size cv (.int .i64 k) (.int .i64 i) s) ∧ Fp c w (four w' w.heap.size cv (.int .i64 k) (.int .i64 i) s) := by
  have hg : w'.grownBy (four w' w.heap.size cv (.int .i64 k) (.int .i64 i) s) (some w.heap.size) := (((setD_grown _ _ _ _).trans (setD_grown _ _ _ _)).trans (setD_grown _ _ _ _)).trans (setD_grown _ _ _ _)
  have hk : ∀ b, w.heap.size < b → b < w'.heap.size → (four w' w.heap.size cv (.int .i64 k) (.int .i64 i) s).heap[b]? = w'.heap[b]? := fun b h1 h2 => hg.block b h2 (fun e => by have := Option.some.inj e; omega)
  exact ⟨hl.keep (fun b hb hlt => hk b (by have := hb.1; omega) hlt) (fun b hb hlt => (hb.from (by omega)).same (hk b (by have := hb.1; omega) hlt)), hl2.keep (fun b hb hlt => hk b (by have := hb.1; omega) hlt) (fun b hb hlt => (hb.from (by omega)).same (hk b (by have := hb.1; omega) hlt)), h.st.file hg h.res, h.fr.row hg (fun b e => by obtain rfl := Option.some.inj e; exact Nat.le_refl _) hlo⟩
def psf8_0 : Oper := { dst := some 32, op := Go.Op.fieldAddr 26 (Go.Operand.tmp 4) 0, type := 0, pos := "parse.go:52", after := #[], guard := none }
def psf8_1 : Oper := { dst := some 33, op := Go.Op.load 22 (Go.Operand.tmp 32), type := 22, pos := "parse.go:52", after := #[{ on := 0, ground := Go.Ground.data }], guard := none }
def psf8_2 : Oper := { dst := some 34, op := Go.Op.move (Go.Operand.tmp 0), type := 87, pos := "parse.go:52", after := #[], guard := none }
def psf8_3 : Oper := { dst := some 35, op := Go.Op.call { callee := Go.Callee.value (Go.Operand.func 49), args := #[Go.Operand.tmp 34, Go.Operand.const (Go.Value.int Go.IntKind.i64 1)], argTypes := #[87, 3] }, type := 24, pos := "parse.go:52", after := #[{ on := 2, ground := Go.Ground.data }], guard := none }
set_option maxHeartbeats 8000000 in
set_option maxRecDepth 20000 in
theorem pfile_any (c : PC) (f : Nat) (dp : DP) (hL : DerC c f dp) (hDL : DpL dp) (ts : List Tok) (w : World) (hf : ts.length < f) (h : PSt c 0 ts w) : Calls Tryd.prog 32 #[.pointer (some ⟨c.P, 0, none⟩)] w (FileG c w (fileP dp c.E f ts)) := by
  obtain ⟨df, hu1, hu2⟩ := under_file
  obtain ⟨i0, hi, hz0, hz1, hz2⟩ := info_parts info_term
  have HI := Lib.hid (And.intro hi (And.intro hz0 (And.intro hz1 hz2)))
  have hlo := h.lo
  have hfew := h.few
  have HL := Lib.hid hL
  have HDL := Lib.hid hDL
  have HS0 := Lib.hid (h.alloc (fileO (.slice none 0 0) 0 0 (.slice none 0 0)))
  have HF0 := Lib.hid (Fp.later ((Below.refl w.heap.size w).alloc (Nat.le_refl _) (fileO (.slice none 0 0) 0 0 (.slice none 0 0))) hlo)
  have HR0 := Lib.hid (show (w.alloc (fileO (.slice none 0 0) 0 0 (.slice none 0 0))).heap[w.heap.size]? = some (fileO (.slice none 0 0) 0 0 (.slice none 0 0)) from alloc_new _ _)
  obtain ⟨X, hX⟩ : ∃ X, X = fileP dp c.E f ts := ⟨_, rfl⟩
  rw [← hX]
  unfold fileP at hX
  have HV := Lib.hid hX
  obtain ⟨p0, p1, p2, plt⟩ := HS0.out.cells
  have hfld := field_tok
  clear hL h hi hz0 hz1 hz2 hX hDL
  go_enter Tryd.func32, Tryd.ntmps32
  go_wp2_with fail
  refine (HS0.out.ptake 1).mono ?_
  intro e w1 hg
  cases hx : takeT c.E 1 ts with
  | error ea =>
    rw [hx] at hg
    obtain ⟨rfl, hf⟩ := hg
    rw [fault_leave]
    unfold leaveP
    go_wp2
    rw [HV.out, hx]
    exact ⟨rfl, rfl, HF0.out.trans hf⟩
  | ok p =>
  obtain ⟨o1, r1⟩ := p
  rw [hx] at hg
  obtain ⟨rfl, hs, hf⟩ := hg
  have hl1 := takeT_len hx
  have HS1 := Lib.hid hs
  have HF1 := Lib.hid (HF0.out.trans hf)
  have HR1 := Lib.hid (hf.kept _ _ _ _ HR0.out (by decide) (by decide))
  rw [hx] at HV
  simp only at HV
  clear hs hf hx p0 p1 p2 plt HS0 HF0 HR0
  obtain ⟨p0, p1, p2, plt⟩ := HS1.out.cells
  go_wp2_with fail
  refine (HS1.out.ptake 3).mono ?_
  intro e w3 hg
  cases hx : takeT c.E 3 r1 with
  | error ea =>
    rw [hx] at hg
    obtain ⟨rfl, hf⟩ := hg
    rw [fault_leave]
    unfold leaveP
    go_wp2
    rw [HV.out, hx]
    exact ⟨rfl, rfl, HF1.out.trans hf⟩
  | ok p =>
  obtain ⟨tk, r2⟩ := p
  rw [hx] at hg
  obtain ⟨rfl, hs, hf⟩ := hg
  have hl3 := takeT_len hx
  have htl := HS1.out.tokOk hx
  have hr3 := hf.kept _ _ _ _ HR1.out (by decide) (by decide)
  rw [hx] at HV
  simp only at HV
  have hb1 := (Below.refl w3.heap.size w3).alloc (Nat.le_refl _) (.cells #[.int .i64 tk.k, .string ⟨tk.s.toArray⟩, .int .i64 tk.at_] 88)
  have hb2 := (Below.refl (w3.alloc (.cells #[.int .i64 tk.k, .string ⟨tk.s.toArray⟩, .int .i64 tk.at_] 88)).heap.size (w3.alloc (.cells #[.int .i64 tk.k, .string ⟨tk.s.toArray⟩, .int .i64 tk.at_] 88))).alloc (Nat.le_refl _) (.cells #[.slice none 0 0, .int .i64 0, .int .i64 0, .slice none 0 0] 26)
  have hb := hb1.trans (hb2.mono hb1.size)
  have HSX := Lib.hid (show StandF c w (w3.heap.size + 1) (.slice none 0 0) 0 0 (.slice none 0 0) 0 r2 ((w3.alloc (.cells #[.int .i64 tk.k, .string ⟨tk.s.toArray⟩, .int .i64 tk.at_] 88)).alloc (.cells #[.slice none 0 0, .int .i64 0, .int .i64 0, .slice none 0 0] 26)) from ⟨by have h := alloc_new (w3.alloc (.cells #[.int .i64 tk.k, .string ⟨tk.s.toArray⟩, .int .i64 tk.at_] 88)) (.cells #[.slice none 0 0, .int .i64 0, .int .i64 0, .slice none 0 0] 26); rw [World.size_alloc] at h; exact h, (hb.block _ (hltD hr3)).trans hr3, hs.later hb, (HF1.out.trans hf).trans (Fp.later hb hs.lo)⟩)
  have HT3 := Lib.hid (show (w3.alloc (.cells #[.int .i64 tk.k, .string ⟨tk.s.toArray⟩, .int .i64 tk.at_] 88)).heap[w3.heap.size]? = some (.cells #[.int .i64 tk.k, .string ⟨tk.s.toArray⟩, .int .i64 tk.at_] 88) from alloc_new _ _)
  have HF3 := Lib.hid ((HF1.out.trans hf).trans (Fp.later hb1 hs.lo))
  have hDR : w.heap.size < w3.heap.size + 1 := by have := hltD hr3; omega
  obtain ⟨t0, t1, t2⟩ := five_cells HT3.out
  clear hs hf hx hr3 hb1 hb2 hb p0 p1 p2 plt HS1 HF1 HR1
  by_cases si : tk.s = fileW
  rotate_left 1
  · have sb : (tk.s == [102, 105, 108, 101]) = false := by simpa [fileW] using si
    rw [if_neg si] at HV
    go_wp2_with fail
    refine (fail_any _ _).mono ?_
    rintro e w' ⟨rfl, rfl⟩
    rw [fault_leave]
    unfold leaveP
    go_wp2
    rw [HV.out]
    exact ⟨rfl, rfl, HF3.out⟩
  have sb : (tk.s == [102, 105, 108, 101]) = true := by rw [si]; rfl
  rw [if_pos si] at HV
  have HSIB := Lib.hid sb
  rw [si] at HSX
  go_upto_region 6 with fail
  clear t0 t1 t2 si sb HT3 HF3
  obtain ⟨U, hU⟩ : ∃ U, U = (w3.alloc (.cells #[.int .i64 tk.k, .string ⟨fileW.toArray⟩, .int .i64 tk.at_] 88)).alloc (.cells #[.slice none 0 0, .int .i64 0, .int .i64 0, .slice none 0 0] 26) := ⟨_, rfl⟩
  rw [← hU] at HSX
  rw [← hU]
  clear hU
  obtain ⟨p0, p1, p2, plt⟩ := HSX.out.st.cells
  go_wp2_with fail
  refine (HSX.out.st.ptake 1).mono ?_
  intro e w4 hg
  cases hx : takeT c.E 1 r2 with
  | error ea =>
    rw [hx] at hg
    obtain ⟨rfl, hf⟩ := hg
    rw [fault_leave]
    unfold leaveP
    go_wp2
    rw [HV.out, hx]
    exact ⟨rfl, rfl, HSX.out.fr.trans hf⟩
  | ok p =>
  obtain ⟨o4, r3⟩ := p
  rw [hx] at hg
  obtain ⟨rfl, hs, hf⟩ := hg
  have hl4 := takeT_len hx
  have HS := Lib.hid (HSX.out.call hf hs)
  rw [hx] at HV
  simp only at HV
  clear hs hf hx p0 p1 p2 plt HSX
  go_wp2_with fail
  go_loopg [] r3.length (fun g wr => ∃ (m u' : Nat) (q : List Tok) (ps : List (Tm × Value)) (vv : Value), g = q.length ∧ Hid (CInv dp c.E f 0 r3 (ps.map (·.1)) m u' q) ∧ q.length < m ∧ q.length ≤ r3.length ∧ Hid (ps.length + q.length ≤ r3.length) ∧ Hid (Made (w3.heap.size + 1 + 1) wr vv ps) ∧ Hid (StandF c w (w3.heap.size + 1) vv 0 0 (.slice none 0 0) u' q wr))
  case atStart => exact ⟨f, 0, r3, [], _, rfl, CInv.start _ _ _ _ _, by omega, Nat.le_refl _, by simp [Hid], made_nil _ _, HS.out⟩
  case round =>
    clear HS
    obtain ⟨m, u', q, ps, vv, hgq, hci, hqm, hql, hpl, hmd, hsd⟩ := hrel
    have HGQ := Lib.hid hgq
    clear hgq
    obtain ⟨y0, y1, y2, y3⟩ := four_cells hsd.out.box
    obtain ⟨f0, f1, f2, f3⟩ := four_free hsd.out.box
    obtain ⟨p0, p1, p2, plt⟩ := hsd.out.st.cells
    obtain ⟨m, rfl⟩ : ∃ m', m = m' + 1 := ⟨m - 1, by omega⟩
    cases hnx : ((q.head?.map fun t => t.k == 2).getD false) with
    | false =>
      have HNX := Lib.hid hnx
      have HCI := Lib.hid hci.out
      have HSD0 := Lib.hid hsd.out
      have HSD := Lib.hid hsd.out.drew
      have HMD := Lib.hid (made_fp hmd.out ((Fp.refl c wr).drew))
      have HPL := Lib.hid hpl.out
      have hdsz := hsd.out.size
      have HCALL := Lib.hid (HL.out.use 1 u' q wr.drew (by omega) (by omega) HSD.out.st)
      clear hci hpl hmd hsd
      go_wp2_with fail
      refine (HSD0.out.st.pnext 2).mono ?_
      rintro e w' ⟨rfl, hww⟩
      rw [← hww, hnx]
      clear hww hnx HSD0 p0 p1 p2 plt
      cases hx : dp 1 u' q with
      | error ea =>
        have HC2 : Hid (Calls Tryd.prog 49 #[.pointer (some ⟨c.P, 0, none⟩), .int .i64 1] wr.drew fun e w' => e = leaveP ea ∧ Fp c wr.drew w') := HCALL.out.mono (fun e w' hg => by rw [hx] at hg; exact hg)
        have HCE := HCI.out.err HNX.out hx
        rw [HCE] at HV
        simp only at HV
        have HXE := HV
        have hyd : wr.drew.cell? ⟨(w3.heap.size + 1), 0, none⟩ = some vv := y0
        clear HCALL HCE
        go_wp2_with fail
        refine wp_region_held_drew (S := fun w' => w'.cell? ⟨(w3.heap.size + 1), 0, none⟩ = some vv) (by kernel_rfl) ?_ (fun hHeld => ?_)
        · (try dsimp only)
          exact hyd
        refine take_at 0 32 psf8_0 (v := ?_) (Or.inl ⟨by rfl, ?_⟩) ?_
        rotate_left 1
        · ((intro w hSw; (try dsimp only at hSw); unfold psf8_0; go_simp) <;> with_reducible rfl)
        (try simp only [Act.put, List.setIfInBounds_toArray, List.set_cons_zero, List.set_cons_succ])
        refine take_at 1 33 psf8_1 (v := ?_) (Or.inl ⟨by rfl, ?_⟩) ?_
        rotate_left 1
        · ((intro w hSw; (try dsimp only at hSw); unfold psf8_1; go_simp) <;> with_reducible rfl)
        (try simp only [Act.put, List.setIfInBounds_toArray, List.set_cons_zero, List.set_cons_succ])
        refine take_at 2 34 psf8_2 (v := ?_) (Or.inl ⟨by rfl, ?_⟩) ?_
        rotate_left 1
        · ((intro w hSw; (try dsimp only at hSw); unfold psf8_2; go_simp) <;> with_reducible rfl)
        (try simp only [Act.put, List.setIfInBounds_toArray, List.set_cons_zero, List.set_cons_succ])
        refine wpAnyH_ready (rs := [3]) (by kernel_rfl) (by simp) ?_
        refine AllReadyH.cons (o := psf8_3) rfl (fun K hK => ?_) ?_
        · unfold psf8_3
          go_simp
          (go_at_call 49; with_reducible refine Calls.mono HC2.out ?_)
          rintro e wn ⟨rfl, hf⟩
          unfold leaveP
          go_wp2
          rw [HXE.out]
          exact ⟨rfl, rfl, HSD.out.fr.trans hf⟩
        exact AllReadyH.nil
      | ok p =>
        obtain ⟨t1, u1, q1⟩ := p
        have HC2 : Hid (Calls Tryd.prog 49 #[.pointer (some ⟨c.P, 0, none⟩), .int .i64 1] wr.drew fun e w' => ∃ s, e = .returned (tv t1 s) ∧ LiesP w' (Own wr.drew.heap.size w') t1.kids s ∧ t1.fine ∧ PSt c u1 q1 w' ∧ Fp c wr.drew w') := HCALL.out.mono (fun e w' hg => by rw [hx] at hg; exact hg)
        have HXN := Lib.hid hx
        clear HCALL hx
        go_wp2_with fail
        go_region_law (first | (refine step_append_lies _ rfl _ _ 22 rfl (w3.heap.size + 1 + 1) 24 i0 _ 3 40 (by kernel_rfl) HI.out.1 HI.out.2.1 HI.out.2.2.1 HI.out.2.2.2 rfl (by decide) _ ps.length (cells5 ps) rfl (made_later (made_fp HMD.out HFN.out) ((Below.refl _ _).alloc (Nat.le_refl _) _)).own ⟨wn.heap.size, 0, none⟩ 1 1 (cells5 [(t1, .slice a2 t1.kids.length cap2)]) rfl rfl (news_new _ _ _ _) (by intro z hz; simp [cells5] at hz; rcases hz with rfl | rfl | rfl <;> rfl) (by decide) (by have := HPL.out; unfold maxLen; omega) (by have := HPL.out; omega) (by have := HSN.out.size; simp; omega) _ rfl ?_; intro g cap3 w9 hown hgrow hat _; have HPB := Lib.hid (made_push_fp HMD.out hdszd HFN.out HFI.out HLN.out _ hown hgrow (by rcases hat with h | h; exact Or.inl h; exact Or.inr (h.trans (by simp)))); have hs3 := (HSN.out.later ((Below.refl _ _).alloc (Nat.le_refl _) (.cells #[.int .i64 t1.k, .int .i64 t1.i, .slice a2 t1.kids.length cap2] 24))).grow hgrow hlo hDR (made_row (made_later (made_fp HMD.out HFN.out) ((Below.refl _ _).alloc (Nat.le_refl _) _))); have HS3 := Lib.hid hs3; obtain ⟨r0, r1', r2', r3'⟩ := four_cells hs3.box; obtain ⟨s0, s1, s2', s3'⟩ := four_free hs3.box; clear hown hgrow hat hs3) | (go_simp; go_at_call 49; (with_reducible refine Calls.mono HC2.out ?_); rintro e wn ⟨s1, rfl, hl1, hfi, hs1, hf1⟩; obtain ⟨a2, cap2, rfl, -, -⟩ := hl1.out; have HFN := Lib.hid hf1; have HLN := Lib.hid hl1; have HFI := Lib.hid hfi; have HSN := Lib.hid (HSD.out.call hf1 hs1); obtain ⟨r0, r1', r2', r3'⟩ := four_cells HSN.out.box; have hdszd : w3.heap.size + 1 + 1 ≤ wr.drew.heap.size := hdsz; have hsn : w3.heap.size + 1 < wn.heap.size := HSN.out.size; clear hl1 hfi hs1 hf1))
        all_goals
          have hlen1 := (HDL.out _ _ _ _ _ _ HXN.out).1
          go_wp2_with fail
          go_roundg q1.length
          case measure => rw [HGQ.out]; exact hlen1
          case rel =>
            exact ⟨m, u1, q1, ps ++ [(t1, .slice a2 t1.kids.length cap2)], _, rfl, by rw [List.map_append]; exact HCI.out.step HNX.out HXN.out, by omega, by omega, by have := HPL.out; simp [Hid]; omega, Lib.hid (below_made HPB.out (by omega) _), Lib.hid (HS3.out.put hlo hDR _)⟩
    | true =>
      have HSD := Lib.hid hsd.out
      have hcd := hci.out.done hnx
      rw [hcd] at HV
      simp only at HV
      have HML := Lib.hid (made_lies hmd.out)
      clear hci hpl hmd hsd hcd
      go_wp2_with fail
      refine (HSD.out.st.pnext 2).mono ?_
      rintro e w' ⟨rfl, hww⟩
      rw [← hww, hnx]
      clear hww hnx
      go_wp2_with fail
      refine (HSD.out.st.ptake 2).mono ?_
      intro e w5 hg
      cases hx : takeT c.E 2 q with
      | error ea =>
        rw [hx] at hg
        obtain ⟨rfl, hf⟩ := hg
        rw [fault_leave]
        unfold leaveP
        go_wp2
        rw [HV.out, hx]
        exact ⟨rfl, rfl, HSD.out.fr.trans hf⟩
      | ok p =>
      obtain ⟨o5, q2⟩ := p
      rw [hx] at hg
      obtain ⟨rfl, hs, hf⟩ := hg
      have hl5 := takeT_len hx
      have HS5 := Lib.hid (HSD.out.call hf hs)
      have HM5 := Lib.hid (liesP_fp HML.out hf)
      rw [hx] at HV
      simp only at HV
      clear hs hf hx y0 y1 y2 y3 f0 f1 f2 f3 p0 p1 p2 plt HSD HML
      have HCALL := Lib.hid (HL.out.use 1 u' q2 w5 (by omega) (by omega) HS5.out.st)
      go_wp2_with fail
      refine HCALL.out.mono ?_
      intro e w6 hg
      cases hx : dp 1 u' q2 with
      | error ea =>
        rw [hx] at hg
        obtain ⟨rfl, hf⟩ := hg
        unfold leaveP
        go_wp2
        rw [HV.out, hx]
        exact ⟨rfl, rfl, HS5.out.fr.trans hf⟩
      | ok p =>
      obtain ⟨t, u2, q3⟩ := p
      rw [hx] at hg
      obtain ⟨s, rfl, hl, hfi, hs, hf⟩ := hg
      obtain ⟨a2, cap2, rfl, -, -⟩ := hl.out
      have hlen2 := (HDL.out _ _ _ _ _ _ hx).1
      have HS6 := Lib.hid (HS5.out.call hf hs)
      have HM6 := Lib.hid (liesP_fp HM5.out hf)
      have hsz5 := HS5.out.size
      have HK6 := Lib.hid (hl.from (B' := w3.heap.size + 1 + 1) (by omega))
      have HFI := Lib.hid hfi
      rw [hx] at HV
      simp only at HV
      obtain ⟨y0, y1, y2, y3⟩ := four_cells HS6.out.box
      obtain ⟨f0, f1, f2, f3⟩ := four_free HS6.out.box
      clear hs hf hx hl hfi HCALL HS5 HM5
      have hg7 : w6.grownBy (putF w6 (w3.heap.size + 1) t.k t.i (.slice a2 t.kids.length cap2)) (some (w3.heap.size + 1)) := ((setD_grown _ _ _ _).trans (setD_grown _ _ _ _)).trans (setD_grown _ _ _ _)
      have hk7 : ∀ b, w3.heap.size + 1 < b → b < w6.heap.size → (putF w6 (w3.heap.size + 1) t.k t.i (.slice a2 t.kids.length cap2)).heap[b]? = w6.heap[b]? := fun b h1 h2 => hg7.block b h2 (fun e => by have := Option.some.inj e; omega)
      have HM7 := Lib.hid (HM6.out.keep (w' := putF w6 (w3.heap.size + 1) t.k t.i (.slice a2 t.kids.length cap2)) (Q := Own (w3.heap.size + 1 + 1) (putF w6 (w3.heap.size + 1) t.k t.i (.slice a2 t.kids.length cap2))) (fun b hb hlt => hk7 b (by have := hb.1; omega) hlt) (fun b hb hlt => hb.same (hk7 b (by have := hb.1; omega) hlt)))
      have HK7 := Lib.hid (HK6.out.keep (w' := putF w6 (w3.heap.size + 1) t.k t.i (.slice a2 t.kids.length cap2)) (Q := Own (w3.heap.size + 1 + 1) (putF w6 (w3.heap.size + 1) t.k t.i (.slice a2 t.kids.length cap2))) (fun b hb hlt => hk7 b (by have := hb.1; omega) hlt) (fun b hb hlt => hb.same (hk7 b (by have := hb.1; omega) hlt)))
      have HS7 := Lib.hid (HS6.out.deriv hlo hDR t.k t.i (.slice a2 t.kids.length cap2))
      clear hg7 hk7 HM6 HK6
      unfold tv
      go_upto_region 11 with fail
      clear y0 y1 y2 y3 f0 f1 f2 f3
      obtain ⟨V, hV⟩ : ∃ V, V = ((w6.setCell ⟨w3.heap.size + 1, 1, none⟩ (.int .i64 t.k)).setCell ⟨w3.heap.size + 1, 2, none⟩ (.int .i64 t.i)).setCell ⟨w3.heap.size + 1, 3, none⟩ (.slice a2 t.kids.length cap2) := ⟨_, rfl⟩
      have hV2 : V = putF w6 (w3.heap.size + 1) t.k t.i (.slice a2 t.kids.length cap2) := hV
      rw [← hV2] at HS7 HM7 HK7
      rw [← hV]
      clear hV hV2 HS6
      obtain ⟨p0, p1, p2, plt⟩ := HS7.out.st.cells
      go_wp2_with fail
      refine (HS7.out.st.ptake 2).mono ?_
      intro e w8 hg
      cases hx : takeT c.E 2 q3 with
      | error ea =>
        rw [hx] at hg
        obtain ⟨rfl, hf⟩ := hg
        rw [fault_leave]
        unfold leaveP
        go_wp2
        rw [HV.out, hx]
        exact ⟨rfl, rfl, HS7.out.fr.trans hf⟩
      | ok p =>
      obtain ⟨o6, q4⟩ := p
      rw [hx] at hg
      obtain ⟨rfl, hs, hf⟩ := hg
      have HS8 := Lib.hid (HS7.out.call hf hs)
      have hl8 := liesP_fp HM7.out hf
      have hk8 := liesP_fp HK7.out hf
      rw [hx] at HV
      simp only at HV
      obtain ⟨al, cl, rfl, -, -⟩ := hl8.out
      have hs8 := HS8.out
      rw [List.length_map] at hl8 hs8
      have HS8 := Lib.hid hs8
      clear hs8
      have HE := Lib.hid (psf_end HS8.out hlo hDR hl8 hk8)
      obtain ⟨y0, y1, y2, y3⟩ := four_cells HS8.out.box
      obtain ⟨z0, z1, z2, z3⟩ := four_cells HS8.out.res
      obtain ⟨g0, g1, g2, g3⟩ := four_free HS8.out.res
      have hz8 := HS8.out.res
      clear hs hf hx hl8 hk8 p0 p1 p2 plt HM7 HK7 HS7
      go_wp2
      (try simp only [Exit.inBlock, Exit.then])
      refine bodyPost_ret (results_cell_row rfl _ _ w.heap.size _ _ _ df rfl (four_set hz8) hu1 (by cases df <;> first | rfl | exact hu2) size_file) rfl ?_
      rw [HV.out]
      exact ⟨_, _, rfl, HE.out.1, HE.out.2.1, HFI.out, ⟨_, HE.out.2.2.1⟩, HE.out.2.2.2⟩
end Go.Proofs.YtdhfbphliejcdaaDoor.Dv

namespace Go.Proofs.YtdhfbphliejcdaaDoor.Dv
open Go.RowKit

/-- Beside the boxed derivation there is a builder that holds cs. -/
structure WSt (w0 : World) (b : Nat) (w : World) (cs : List Value) (wr : World) : Prop where
  bld : IsB w0.heap.size b cs wr
  low : Below w0.heap.size w0 wr
  kept : Kept b w wr
  up : Below w0.heap.size w wr
theorem WSt.size {w0 w wr : World} {b : Nat} {cs : List Value} (h : WSt w0 b w cs wr) : w.heap.size ≤ wr.heap.size := h.up.size
theorem WSt.call {w0 w wr wr' : World} {b : Nat} {cs : List Value} (h : WSt w0 b w cs wr) (k : Below wr.heap.size wr wr') : WSt w0 b w cs wr' :=
  ⟨isb_below h.bld k, h.low.trans (k.mono h.low.size), h.kept.trans (Kept.below k), h.up.trans (k.mono h.low.size)⟩
theorem WSt.put {w0 w wr wr' : World} {b : Nat} {cs cs' : List Value} (h : WSt w0 b w cs wr) (h1 : BAt w0.heap.size b (.pointer (some ⟨b, 0, none⟩)) cs' wr') (h2 : Below w0.heap.size wr wr') (h3 : Kept b wr wr') : WSt w0 b w cs' wr' :=
  ⟨.inr h1, h.low.trans h2, h.kept.trans h3, h.up.trans h2⟩
theorem WSt.tab {w0 w wr : World} {b : Nat} {cs : List Value} (h : WSt w0 b w cs wr) (hT : Tab w0) : Tab wr := hT.later h.low
theorem WSt.hB {w0 w wr : World} {b : Nat} {cs : List Value} (h : WSt w0 b w cs wr) : w0.heap.size ≤ wr.heap.size := h.low.size
theorem isB_lt {B b : Nat} {bs : List Value} {w : World} (h : IsB B b bs w) : b < w.heap.size := h.elim (fun h => h.lt) (fun h => h.lt)
theorem wst_start {w0 w : World} {b : Nat} {cs : List Value} (h : IsB w0.heap.size b cs w) (hl : Below w0.heap.size w0 w) (o : Obj) : WSt w0 b (w.alloc o) cs (w.alloc o) :=
  ⟨isb_below h ((Below.refl _ w).alloc (Nat.le_refl _) o), hl.alloc hl.size o, Kept.refl _ _, Below.refl _ _⟩
theorem WSt.at {w0 w wr : World} {b j : Nat} {cs : List Value} {vs : Array Value} {T : TypeId} {fr : Nat × Nat} (h : WSt w0 b w cs wr) (hj : w.heap[j]? = some (.cells vs T fr)) (hb : j ≠ b) (hT : T ≠ 5) : wr.heap[j]? = some (.cells vs T fr) :=
  h.kept _ _ hj hb (fun cur fz e => by injection e with _ e2 _; exact hT e2)
theorem WSt.again {w0 w wr : World} {b : Nat} {cs : List Value} (h : WSt w0 b w cs wr) : WSt w0 b wr cs wr := ⟨h.bld, h.low, Kept.refl _ _, Below.refl _ _⟩
theorem WSt.over {w0 w wr w8 : World} {b : Nat} {cs cs' : List Value} {o : Obj} (h : WSt w0 b w cs wr) (k : WSt w0 b (wr.alloc o) cs' w8) : WSt w0 b w cs' w8 := ⟨k.bld, k.low, h.kept.trans ((Kept.alloc b wr o).trans k.kept), (h.up.alloc h.hB o).trans k.up⟩
theorem ud_ne : (24 : TypeId) ≠ 5 := by decide
theorem uf_ne : (26 : TypeId) ≠ 5 := by decide
theorem WSt.cells {w0 w wr : World} {b x : Nat} {cs : List Value} {v0 v1 v2 : Value} (h : WSt w0 b w cs wr) (hx : w.heap[x]? = some (.cells #[v0, v1, v2] 24)) (hb : x ≠ b) :
    wr.cell? ⟨x, 0, none⟩ = some v0 ∧ wr.cell? ⟨x, 1, none⟩ = some v1 ∧ wr.cell? ⟨x, 2, none⟩ = some v2 := five_cells (h.at hx hb ud_ne)
theorem bytes_app (a : List Value) (x y : List UInt8) : (a ++ Lib.byteCells x) ++ Lib.byteCells y = a ++ Lib.byteCells (x ++ y) := by simp [Lib.byteCells]
theorem word_of (k : Int) : wordN k = ⟨(wordL k).toArray⟩ := by
  unfold wordL
  cases wordN k
  rfl
def WPut (w0 : World) (b : Nat) (t : Tm) : Prop := ∀ (w : World) (s : Value) (bs : List Value), Lies w0 t.kids s → Below w0.heap.size w0 w → IsB w0.heap.size b bs w → t.rightB = true → bs.length + 32 * t.size ≤ 140737488355328 →
    Calls Tryd.prog 22 #[.pointer (some ⟨b, 0, none⟩), tv t s] w fun e w' => e = .returned (.tuple #[]) ∧ BAt w0.heap.size b (.pointer (some ⟨b, 0, none⟩)) (bs ++ Lib.byteCells t.sh) w' ∧ Below w0.heap.size w w' ∧ Kept b w w'
theorem WPut.use {w0 : World} {b : Nat} {t : Tm} (h : WPut w0 b t) (w : World) (s : Value) (bs : List Value) (h1 : Lies w0 t.kids s) (h2 : Below w0.heap.size w0 w) (h3 : IsB w0.heap.size b bs w) (h4 : t.rightB = true) (h8 : bs.length + 32 * t.size ≤ 140737488355328) :
    Calls Tryd.prog 22 #[.pointer (some ⟨b, 0, none⟩), tv t s] w fun e w' => e = .returned (.tuple #[]) ∧ BAt w0.heap.size b (.pointer (some ⟨b, 0, none⟩)) (bs ++ Lib.byteCells t.sh) w' ∧ Below w0.heap.size w w' ∧ Kept b w w' := h w s bs h1 h2 h3 h4 h8
theorem shs_take (l : List Tm) (q : Nat) (h : q < l.length) : shs (l.take (q + 1)) = shs (l.take q) ++ 32 :: (l[q]).sh := by
  rw [List.take_add_one, List.getElem?_eq_getElem h, Option.toList_some, shs_append]
  simp [shs]
theorem take_len {l : List Tm} (hr : rights l = true) (q : Nat) (h : q < l.length) : (shs (l.take q)).length + 32 * (l[q]).size ≤ 32 * sizes l := by
  have h1 := shs_len (l.take q) (fun x hx => sh_len x (rights_mem hr x (List.mem_of_mem_take hx)))
  have h2 := sizes_take l q h
  have h3 := sizes_le l (q + 1)
  omega
set_option maxHeartbeats 4000000 in
set_option maxRecDepth 100000 in
theorem sput_any (w0 : World) (hT : Tab w0) (b : Nat) (t : Tm) : WPut w0 b t := by
  induction t using Tm.ind with
  | h t ih =>
    intro w s bs hl hlw hB hr hbs
    obtain ⟨a, cap, S, rfl, hc, hmx, hfi, hn, hk⟩ := hl.out
    obtain ⟨k1, hlen, i0, i1, hrk⟩ := dright_of hr
    have hi := most_num i1
    have HX := Lib.hid t.sh_eq
    have HWD := Lib.hid (word_of t.k)
    have HWL := Lib.hid (word_read k1).2.2.1
    have HNL := Lib.hid (show (numL t.k t.i).length ≤ 22 from by
      have := Lib.itoa_length_le t.i (by omega) (by omega)
      unfold numL
      split
      · simp only [List.length_cons]; omega
      · simp)
    have HS := Lib.hid (wst_start hB hlw (.cells #[.int .i64 t.k, .int .i64 t.i, .slice a t.kids.length cap] 24))
    have HBX := Lib.hid (show (w.alloc (.cells #[.int .i64 t.k, .int .i64 t.i, .slice a t.kids.length cap] 24)).heap[w.heap.size]? = some (.cells #[.int .i64 t.k, .int .i64 t.i, .slice a t.kids.length cap] 24) from alloc_new _ _)
    have HNB := Lib.hid (show w.heap.size ≠ b by have := isB_lt hB; omega)
    have HT := Lib.hid hT
    have HLN := Lib.hid (show bs.length + 32 * (sizes t.kids + 1) ≤ 140737488355328 by rw [← t.size_eq]; exact hbs)
    have HSL := Lib.hid (shs_len t.kids (fun x hx => sh_len x (rights_mem hrk x hx)))
    have HN := Lib.hid hn
    have HK := Lib.hid hk
    have HR := Lib.hid (rights_mem hrk)
    have HRK := Lib.hid hrk
    have IH := Lib.hid ih
    have hI : I64 t.i := by unfold I64; omega
    have HUP0 := Lib.hid (show Below w0.heap.size w (w.alloc (.cells #[.int .i64 t.k, .int .i64 t.i, .slice a t.kids.length cap] 24)) ∧ Kept b w (w.alloc (.cells #[.int .i64 t.k, .int .i64 t.i, .slice a t.kids.length cap] 24)) from ⟨(Below.refl _ w).alloc hlw.size _, Kept.alloc _ _ _⟩)
    clear hB hlw hr hbs hn hk hl ih hfi hrk hlen k1
    unfold tv
    unfold maxLen at hmx
    go_enter Tryd.func22, Tryd.ntmps22
    go_upto_region 1 with fail
    obtain ⟨wB, hwB⟩ : ∃ wB, wB = w.alloc (.cells #[.int .i64 t.k, .int .i64 t.i, .slice a t.kids.length cap] 24) := ⟨_, rfl⟩
    rw [← hwB] at HS HBX HUP0
    rw [← hwB]
    clear hwB
    go_cut [11] (fun s11 wx => ∃ v : Value, s11 = v ∧ Hid (WSt w0 b wB (bs ++ Lib.byteCells ([40] ++ wordL t.k)) wx))
    case first =>
      obtain ⟨d0, d1, d2⟩ := HS.out.cells HBX.out HNB.out
      go_wp2_with fail
      refine (dword_any t.k _).mono ?_
      rintro e w' ⟨rfl, hw'⟩
      obtain rfl := hw'.symm
      rw [HWD.out]
      go_wp2_with fail
      · exfalso; have := HWL.out; omega
      rw [show (⟨#[40]⟩ : ByteArray) = ⟨[(40 : UInt8)].toArray⟩ from rfl, str_add]
      refine (bstr_any _ b _ _ _ HS.out.bld (by have := HLN.out; have := HWL.out; simp [ByteArray.size]; omega) HS.out.hB).mono ?_
      rintro e w1 ⟨rfl, hb1, hl1, hk1⟩
      have h1 := HS.out.put hb1 hl1 hk1
      rw [Lib.strCells_toArray] at h1
      have H1 := Lib.hid h1
      clear hb1 hl1 hk1 h1
      go_wp2_with fail
      go_meet
      case rel => exact ⟨_, rfl, H1⟩
    case rest =>
    obtain ⟨v11, rfl, hcut⟩ := hcut
    have HS1 := hcut
    clear hcut
    go_step
    go_step
    go_cut [19] (fun s19 wx => ∃ v : Bool, s19 = .bool v ∧ Hid (WSt w0 b wB (bs ++ Lib.byteCells ([40] ++ wordL t.k ++ numL t.k t.i)) wx))
    case first =>
      obtain ⟨d0, d1, d2⟩ := HS1.out.cells HBX.out HNB.out
      by_cases h12 : t.k = 1 ∨ t.k = 2
      · have HNM := Lib.hid (show numL t.k t.i = 32 :: Lib.itoa t.i from if_pos h12)
        have HNL2 := Lib.hid (by have h := HNL.out; rw [HNM.out] at h; exact h)
        have hcs : ((t.k == 1) = true ∧ True) ∨ ((t.k == 1) = false ∧ (t.k == 2) = true) := by
          rcases h12 with h | h
          · left; exact ⟨by rw [h]; rfl, trivial⟩
          · right; exact ⟨by rw [h]; rfl, by rw [h]; rfl⟩
        clear h12
        rcases hcs with ⟨e1, -⟩ | ⟨e1, e2⟩
        all_goals
          go_wp2_with fail
          refine (put_any _ _ hI (HS1.out.tab HT.out)).mono ?_
          rintro e w3 ⟨rfl, hb3⟩
          have HS3 := Lib.hid (HS1.out.call hb3)
          clear hb3
          go_wp2_with fail
          · exfalso; have := HNL2.out; simp at this; omega
          rw [show (⟨#[32]⟩ : ByteArray) = ⟨[(32 : UInt8)].toArray⟩ from rfl, str_add]
          refine (bstr_any _ b _ _ _ HS3.out.bld (by have := HLN.out; have := HWL.out; have := HNL2.out; simp [ByteArray.size, Lib.byteCells] at this ⊢; omega) HS3.out.hB).mono ?_
          rintro e w4 ⟨rfl, hb4, hl4, hk4⟩
          have h4 := HS3.out.put hb4 hl4 hk4
          rw [Lib.strCells_toArray, bytes_app] at h4
          have H4 := Lib.hid h4
          clear hb4 hl4 hk4 h4
          go_wp2_with fail
          go_meet
          case rel => exact ⟨_, rfl, by rw [HNM.out]; exact H4⟩
      · have HNM := Lib.hid (show numL t.k t.i = [] from if_neg h12)
        have e1 : (t.k == 1) = false := by simpa using fun e => h12 (Or.inl e)
        have e2 : (t.k == 2) = false := by simpa using fun e => h12 (Or.inr e)
        clear h12
        go_wp2_with fail
        go_meet
        case rel => exact ⟨_, rfl, by rw [HNM.out, List.append_nil]; exact HS1⟩
    case rest =>
    obtain ⟨v19, rfl, hcut⟩ := hcut
    have HS2 := hcut
    clear hcut HS1 HS
    obtain ⟨d0, d1, d2⟩ := HS2.out.cells HBX.out HNB.out
    go_wp2_with fail
    clear d0 d1 d2
    go_loopw [29] (fun i wv => ∃ q : Nat, q ≤ t.kids.length ∧ i = .int .i64 q ∧ Hid (WSt w0 b wB (bs ++ Lib.byteCells ([40] ++ wordL t.k ++ numL t.k t.i ++ shs (t.kids.take q))) wv)) (fun i _ => t.kids.length - (intOf i).toNat)
    case atStart => exact ⟨0, Nat.zero_le _, rfl, by have h := HS2.out; simp only [List.take_zero, shs, List.append_nil]; exact h⟩
    case round =>
      obtain ⟨q, hq, rfl, hv⟩ := hrel
      have HV := Lib.hid hv.out
      clear hv HS2
      by_cases hlt : q < t.kids.length
      · obtain ⟨bn, oo, rfl, hx⟩ := HN.out q hlt
        obtain ⟨c0, c1, c2⟩ := hx.below HV.out.low hx.lt
        have hq4 := HK.out q hlt
        obtain ⟨a', cap', S', hS, -⟩ := hq4.out
        rw [hS] at c2 hq4
        have HQ := Lib.hid hq4
        have HM := Lib.hid (List.getElem_mem hlt)
        have HTL := Lib.hid (take_len HRK.out q hlt)
        have HTK := Lib.hid (shs_take t.kids q hlt)
        have HV5 := Lib.hid (HV.out.call (wr' := wr.alloc (.cells #[.int .i64 t.kids[q].k, .int .i64 t.kids[q].i, .slice a' t.kids[q].kids.length cap'] 24)) ((Below.refl _ _).alloc (Nat.le_refl _) _)).again
        have hsv : b < wr.heap.size := isB_lt HV.out.bld
        clear hS hq4 hx
        go_wp2_with fail
        refine (bbyte_any _ b _ _ _ HV5.out.bld (by have := HLN.out; have := HWL.out; have := HNL.out; have := HTL.out; simp [Lib.byteCells]; omega) HV5.out.hB).mono ?_
        rintro e w6 ⟨rfl, hb6, hl6, hk6⟩
        have HS6 := Lib.hid (HV5.out.put hb6 hl6 hk6)
        clear hb6 hl6 hk6 c0 c1 c2
        obtain ⟨y0, y1, y2⟩ := HS6.out.cells (x := wr.heap.size) (alloc_new _ _) (by omega)
        go_wp2_with fail
        refine ((IH.out _ HM.out).use _ _ _ HQ.out HS6.out.low HS6.out.bld (HR.out _ HM.out) (by have := HLN.out; have := HWL.out; have := HNL.out; have := HTL.out; simp [Lib.byteCells]; omega)).mono ?_
        rintro e w8 ⟨rfl, hb8, hl8, hk8⟩
        have HS8 := Lib.hid (HV.out.over (HS6.out.put hb8 hl8 hk8))
        clear hb8 hl8 hk8 y0 y1 y2
        have hwq : IntKind.i64.wrap ((q : Int) + 1) = (q : Int) + 1 := IntWalk.i64_in _ (by omega)
        go_wp2_with fail
        go_roundw
        case rel => exact ⟨q + 1, hlt, by go_num, by have h := HS8.out; rw [HTK.out]; simpa [Lib.byteCells, Hid] using h⟩
        case measure => simp [intOf]; omega
      · obtain rfl : q = t.kids.length := by omega
        go_wp2_with fail
        refine (bbyte_any _ b _ _ _ HV.out.bld (by have := HLN.out; have := HWL.out; have := HNL.out; have := HSL.out; simp [Lib.byteCells]; omega) HV.out.hB).mono ?_
        rintro e w6 ⟨rfl, hb6, hl6, hk6⟩
        have HS6 := Lib.hid (HV.out.put hb6 hl6 hk6)
        have HB6 := Lib.hid hb6
        clear hb6 hl6 hk6
        go_wp2
        go_end0
        exact ⟨rfl, by have h := HB6.out; rw [HX.out]; rw [List.take_length] at h; simpa [Lib.byteCells] using h, HUP0.out.1.trans HS6.out.up, HUP0.out.2.trans HS6.out.kept⟩
end Go.Proofs.YtdhfbphliejcdaaDoor.Dv

namespace Go.Proofs.YtdhfbphliejcdaaDoor.Dv
open Go.RowKit

/-- The text of a derivation, or nothing. -/
def shownD (t : Tm) : List UInt8 := if t.rightB = true then t.sh else []
def shownF (c : List Tm) (t : Tm) : List UInt8 := if rights c = true ∧ t.rightB = true then fileL c t else []
theorem sh_some (t : Tm) : t.sh ≠ [] := by rw [t.sh_eq]; simp
def headF : List UInt8 := [40, 102, 105, 108, 101, 32, 40]
theorem file_text (c : List Tm) (t : Tm) : fileL c t = headF ++ ctxL c ++ [41, 32] ++ t.sh ++ [41, 10] := by unfold fileL headF fileW; simp
theorem ctx_take (l : List Tm) (q : Nat) (h : q < l.length) : ctxL (l.take (q + 1)) = (ctxL (l.take q) ++ (if 0 < q then [32] else [])) ++ (l[q]).sh := by
  cases l with
  | nil => simp at h
  | cons x r =>
    cases q with
    | zero => simp [ctxL, shs]
    | succ q =>
      simp only [List.take_succ_cons, ctxL, List.getElem_cons_succ]
      rw [shs_take r q (by simpa using h)]
      simp
theorem ctx_room {l : List Tm} {q : Nat} (hr : rights (l.take q) = true) (h : q < l.length) : (ctxL (l.take q)).length + 32 * (l[q]).size ≤ 32 * sizes l := by
  have h1 := ctx_len hr
  have h2 := sizes_take l q h
  have h3 := sizes_le l (q + 1)
  omega
theorem rights_false {l : List Tm} {q : Nat} (h : q < l.length) (hr : (l[q]).rightB = false) : rights l = false := rights_of l q h hr
/-- Beside the boxed file there is only what is new. -/
def HeldF (w : World) (cv : Value) (k i : Int) (s : Value) (w' : World) : Prop := Below (w.heap.size + 1) (w.alloc (fileO cv k i s)) w'
theorem heldF_at {w w' : World} {cv : Value} {k i : Int} {s : Value} (h : HeldF w cv k i s w') : w'.heap[w.heap.size]? = some (fileO cv k i s) := (h.block _ (Nat.lt_succ_self _)).trans (alloc_new _ _)
theorem heldF_call {w w1 w2 : World} {cv : Value} {k i : Int} {s : Value} (h : HeldF w cv k i s w1) (hb : Below w1.heap.size w1 w2) : HeldF w cv k i s w2 := below_call h hb (by have := h.size; simpa using this)
theorem heldF_below {w w1 : World} {cv : Value} {k i : Int} {s : Value} (h : HeldF w cv k i s w1) : Below w.heap.size w w1 := below_of_box h
theorem heldF_lies {w w1 : World} {cv : Value} {k i : Int} {s s' : Value} {l : List Tm} (h : HeldF w cv k i s w1) (hl : Lies w l s') : Lies w1 l s' := hl.keep (heldF_below h)
theorem tab_up {w w' : World} (h : Tab w) (hb : Below w.heap.size w w') : Tab w' := h.later hb
set_option maxHeartbeats 4000000 in
set_option maxRecDepth 100000 in
theorem sderiv_any (t : Tm) (w : World) (s : Value) (hl : Lies w t.kids s) (hT : Tab w) (hz : t.size ≤ 1000000) :
    Calls Tryd.prog 8 #[tv t s] w fun e w' => e = .returned (.string ⟨(shownD t).toArray⟩) ∧ Below w.heap.size w w' := by
  obtain ⟨a, cap, S, rfl, -⟩ := hl.out
  have HH := Lib.hid (held_start w t (.slice a t.kids.length cap))
  have HL := Lib.hid (hl.keep ((Below.refl _ _).alloc (Nat.le_refl _) (.cells #[.int .i64 t.k, .int .i64 t.i, .slice a t.kids.length cap] 24)))
  have HT := Lib.hid hT
  clear hl hT
  unfold tv
  go_enter Tryd.func8, Tryd.ntmps8
  cases hr : t.rightB with
  | false =>
    go_wp2_with fail
    refine (dright_any t _ _ HL.out).mono ?_
    rintro e w1 ⟨rfl, hb1⟩
    rw [hr]
    have HB1 := Lib.hid (held_below (held_call HH.out hb1))
    clear hb1
    go_wp2
    go_ret
    exact ⟨by unfold shownD; rw [if_neg (by rw [hr]; decide)]; rfl, HB1.out⟩
  | true =>
    go_wp2_with fail
    refine (dright_any t _ _ HL.out).mono ?_
    rintro e w1 ⟨rfl, hb1⟩
    rw [hr]
    have H1 := Lib.hid (held_call HH.out hb1)
    have HL1 := Lib.hid (HL.out.keep hb1)
    have HT1 := Lib.hid (tab_up HT.out (held_below H1.out))
    obtain ⟨d0, d1, d2⟩ := held_cells H1.out
    have hlt1 : w.heap.size < w1.heap.size := by have := H1.out.size; simp at this; omega
    clear hb1
    go_wp2_with fail
    refine ((sput_any w1 HT1.out w1.heap.size t).use _ _ [] HL1.out ((Below.refl _ w1).alloc (Nat.le_refl _) _) (Lib.fresh_isBuilder _ _ w1) hr (by simp; omega)).mono ?_
    rintro e w3 ⟨rfl, hb3, hl3, hk3⟩
    have HB3 := Lib.hid hb3
    have HL3 := Lib.hid hl3
    clear hb3 hl3 hk3
    go_wp2_with fail
    refine (btext_any _ _ _ t.sh w3 (by simpa using HB3.out) (sh_some t)).mono ?_
    rintro e w4 ⟨rfl, hb4⟩
    have HB4 := Lib.hid hb4
    clear hb4
    go_wp2
    go_ret
    exact ⟨by unfold shownD; rw [if_pos hr]; rfl, (held_below H1.out).trans ((((Below.refl _ w1).alloc (Nat.le_refl _) _).trans (HL3.out.trans HB4.out)).mono (by omega))⟩
set_option maxHeartbeats 4000000 in
set_option maxRecDepth 100000 in
theorem sfile_any (c : List Tm) (t : Tm) (w : World) (cv s : Value) (hc : Lies w c cv) (hl : Lies w t.kids s) (hT : Tab w) (hz : sizes c + t.size ≤ 1000000) :
    Calls Tryd.prog 10 #[fv cv t s] w fun e w' => e = .returned (.string ⟨(shownF c t).toArray⟩) ∧ Below w.heap.size w w' := by
  obtain ⟨a1, c1, S1, rfl, hcc, hcm, -, hn, hk⟩ := hc.out
  obtain ⟨a2, c2, S2, rfl, -⟩ := hl.out
  have HH := Lib.hid (show HeldF w (.slice a1 c.length c1) t.k t.i (.slice a2 t.kids.length c2) (w.alloc (fileO (.slice a1 c.length c1) t.k t.i (.slice a2 t.kids.length c2))) from Below.refl _ _)
  have HC := Lib.hid (heldF_lies HH.out hc)
  have HL := Lib.hid (heldF_lies HH.out hl)
  have HT := Lib.hid hT
  have HN := Lib.hid hn
  have HK := Lib.hid hk
  unfold maxLen at hcm
  clear hl hT hc hn hk
  unfold fv
  go_enter Tryd.func10, Tryd.ntmps10
  go_upto_region 1 with fail
  obtain ⟨wB, hwB⟩ : ∃ wB, wB = w.alloc (fileO (.slice a1 c.length c1) t.k t.i (.slice a2 t.kids.length c2)) := ⟨_, rfl⟩
  rw [← hwB] at HH HC HL
  rw [← hwB]
  clear hwB
  obtain ⟨y0, y1, y2, y3⟩ := four_cells (heldF_at HH.out)
  cases hr : t.rightB with
  | false =>
    go_wp2_with fail
    refine (dright_any t _ _ HL.out).mono ?_
    rintro e w1 ⟨rfl, hb1⟩
    rw [hr]
    have HB1 := Lib.hid (heldF_below (heldF_call HH.out hb1))
    clear hb1
    go_wp2
    go_ret
    exact ⟨by unfold shownF; rw [if_neg (by rw [hr]; simp)]; rfl, HB1.out⟩
  | true =>
    go_wp2_with fail
    refine (dright_any t _ _ HL.out).mono ?_
    rintro e w1 ⟨rfl, hb1⟩
    rw [hr]
    have H1 := Lib.hid (heldF_call HH.out hb1)
    have HC1 := Lib.hid (HC.out.keep hb1)
    have HL1 := Lib.hid (HL.out.keep hb1)
    have HT1 := Lib.hid (tab_up HT.out (heldF_below H1.out))
    have HW1 := Lib.hid (heldF_below H1.out)
    have HF1 := Lib.hid (heldF_at H1.out)
    have hlt1 : w.heap.size < w1.heap.size := hltD HF1.out
    have HS := Lib.hid (show WSt w1 w1.heap.size (w1.alloc (.cells #[.pointer none, .slice none 0 0] 51)) [] (w1.alloc (.cells #[.pointer none, .slice none 0 0] 51)) from ⟨Lib.fresh_isBuilder _ _ w1, (Below.refl _ w1).alloc (Nat.le_refl _) _, Kept.refl _ _, Below.refl _ _⟩)
    have HFB := Lib.hid (show (w1.alloc (.cells #[.pointer none, .slice none 0 0] 51)).heap[w.heap.size]? = some (fileO (.slice a1 c.length c1) t.k t.i (.slice a2 t.kids.length c2)) from by rw [Lib.alloc_old _ _ _ hlt1]; exact HF1.out)
    have hne : w.heap.size ≠ w1.heap.size := by omega
    clear hb1 y0 y1 y2 y3 HH HC HL
    go_upto_region 4 with fail
    obtain ⟨V, hV⟩ : ∃ V, V = w1.alloc (.cells #[.pointer none, .slice none 0 0] 51) := ⟨_, rfl⟩
    rw [← hV] at HS HFB
    rw [← hV]
    clear hV
    go_wp2_with fail
    refine (bstr_any _ w1.heap.size _ _ _ HS.out.bld (by decide) HS.out.hB).mono ?_
    rintro e w2 ⟨rfl, hb2, hl2, hk2⟩
    have h2 := HS.out.put hb2 hl2 hk2
    rw [show (⟨#[40, 102, 105, 108, 101, 32, 40]⟩ : ByteArray) = ⟨headF.toArray⟩ from rfl, Lib.strCells_toArray, List.nil_append] at h2
    have HS2 := Lib.hid h2
    clear hb2 hl2 hk2 h2
    have hfb := HS2.out.at HFB.out hne uf_ne
    obtain ⟨y0, y1, y2, y3⟩ := four_cells hfb
    clear hfb
    go_wp2_with fail
    clear y0 y1 y2 y3
    go_loopw [14] (fun i wv => ∃ q : Nat, q ≤ c.length ∧ i = .int .i64 q ∧ Hid (rights (c.take q) = true) ∧ Hid (WSt w1 w1.heap.size V (Lib.byteCells (headF ++ ctxL (c.take q))) wv)) (fun i _ => c.length - (intOf i).toNat)
    case atStart => exact ⟨0, Nat.zero_le _, rfl, rfl, by have h := HS2.out; simp only [List.take_zero, ctxL, List.append_nil]; exact h⟩
    case round =>
      clear HS2
      obtain ⟨q, hq, rfl, hrq, hv⟩ := hrel
      have HV := Lib.hid hv.out
      have HRQ := Lib.hid hrq.out
      clear hv hrq
      by_cases hlt : q < c.length
      · obtain ⟨bn, oo, rfl, hx⟩ := HN.out q hlt
        obtain ⟨e0, e1, e2⟩ := hx.below (HW1.out.trans (HV.out.low.mono (Nat.le_of_lt hlt1))) hx.lt
        have hq4 := HK.out q hlt
        obtain ⟨a', cap', S', hS, -⟩ := hq4.out
        rw [hS] at e2 hq4
        have HQ := Lib.hid (hq4.keep HW1.out)
        have HM := Lib.hid (List.getElem_mem hlt)
        have HRM := Lib.hid (ctx_room HRQ.out hlt)
        have HTK := Lib.hid (ctx_take c q hlt)
        have HRT := Lib.hid (rights_take c q hlt)
        have HNR := Lib.hid (fun h => rights_false hlt h)
        have HV5 := Lib.hid (HV.out.call (wr' := wr.alloc (.cells #[.int .i64 c[q].k, .int .i64 c[q].i, .slice a' c[q].kids.length cap'] 24)) ((Below.refl _ _).alloc (Nat.le_refl _) _))
        have hq5 := HQ.out.keep HV5.out.low
        have HR5 := Lib.hid (dright_any c[q] _ _ hq5)
        have HV5a := Lib.hid HV5.out.again
        have hsv : w1.heap.size < wr.heap.size := isB_lt HV.out.bld
        clear hS hq4 hx hq5
        cases hrk : (c[q]).rightB with
        | false =>
          go_wp2_with fail
          refine HR5.out.mono ?_
          rintro e w3 ⟨rfl, hb3⟩
          rw [hrk]
          have HB3 := Lib.hid (HW1.out.trans ((HV5.out.call hb3).low.mono (Nat.le_of_lt hlt1)))
          clear hb3 e0 e1 e2
          go_wp2
          go_ret
          exact ⟨by unfold shownF; rw [HNR.out hrk, if_neg (by simp)]; rfl, HB3.out⟩
        | true =>
          go_wp2_with fail
          refine HR5.out.mono ?_
          rintro e w3 ⟨rfl, hb3⟩
          rw [hrk]
          have HS3 := Lib.hid (HV5a.out.call hb3)
          clear hb3 e0 e1 e2
          have hwq : IntKind.i64.wrap ((q : Int) + 1) = (q : Int) + 1 := IntWalk.i64_in _ (by omega)
          by_cases hq0 : 0 < q
          · have hq0' : (0 : Int) < (q : Int) := by omega
            have hqd : decide ((0 : Int) < (q : Int)) = true := decide_eq_true hq0'
            have HTE := Lib.hid (show ctxL (c.take (q + 1)) = ctxL (c.take q) ++ [32] ++ (c[q]).sh by rw [HTK.out, if_pos hq0])
            clear hq0
            go_wp2_with fail
            refine (bbyte_any _ w1.heap.size _ _ _ HS3.out.bld (by have := HRM.out; simp [Lib.byteCells, headF]; omega) HS3.out.hB).mono ?_
            rintro e w6 ⟨rfl, hb6, hl6, hk6⟩
            have HS6 := Lib.hid (HS3.out.put hb6 hl6 hk6)
            clear hb6 hl6 hk6
            obtain ⟨y0, y1, y2⟩ := HS6.out.cells (x := wr.heap.size) (alloc_new _ _) (by omega)
            go_wp2_with fail
            refine ((sput_any w1 HT1.out w1.heap.size c[q]).use _ _ _ HQ.out HS6.out.low HS6.out.bld hrk (by have := HRM.out; simp [Lib.byteCells, headF]; omega)).mono ?_
            rintro e w8 ⟨rfl, hb8, hl8, hk8⟩
            have HS8 := Lib.hid (HV.out.over (HS6.out.put hb8 hl8 hk8))
            clear hb8 hl8 hk8 y0 y1 y2
            go_wp2_with fail
            go_roundw
            case rel => exact ⟨q + 1, hlt, by go_num, by show _ = true; rw [HRT.out, HRQ.out, hrk]; rfl, by have h := HS8.out; rw [HTE.out]; simpa [Lib.byteCells, Hid] using h⟩
            case measure => simp [intOf]; omega
          · obtain rfl : q = 0 := by omega
            have HTE := Lib.hid (show ctxL (c.take (0 + 1)) = ctxL (c.take 0) ++ (c[0]).sh by rw [HTK.out, if_neg (by omega), List.append_nil])
            have hqd : decide ((0 : Int) < ((0 : Nat) : Int)) = false := rfl
            obtain ⟨y0, y1, y2⟩ := HS3.out.cells (x := wr.heap.size) (alloc_new _ _) (by omega)
            go_wp2_with fail
            refine ((sput_any w1 HT1.out w1.heap.size c[0]).use _ _ _ HQ.out HS3.out.low HS3.out.bld hrk (by have := HRM.out; simp [Lib.byteCells, headF, ctxL]; omega)).mono ?_
            rintro e w8 ⟨rfl, hb8, hl8, hk8⟩
            have HS8 := Lib.hid (HV.out.over (HS3.out.put hb8 hl8 hk8))
            clear hb8 hl8 hk8 y0 y1 y2
            go_wp2_with fail
            go_roundw
            case rel => exact ⟨0 + 1, hlt, by go_num, by show _ = true; rw [HRT.out, HRQ.out, hrk]; rfl, by have h := HS8.out; rw [HTE.out]; simpa [Lib.byteCells, Hid] using h⟩
            case measure => simp [intOf]; omega
      · obtain rfl : q = c.length := by omega
        rw [List.take_length] at HV HRQ
        have HLC := Lib.hid (ctx_len HRQ.out)
        have HLT := Lib.hid (sh_len t hr)
        go_wp2_with fail
        refine (bstr_any _ w1.heap.size _ _ _ HV.out.bld (by have := HLC.out; simp [Lib.byteCells, headF, ByteArray.size]; omega) HV.out.hB).mono ?_
        rintro e w5 ⟨rfl, hb5, hl5, hk5⟩
        have h5 := HV.out.put hb5 hl5 hk5
        rw [show (⟨#[41, 32]⟩ : ByteArray) = ⟨[(41 : UInt8), 32].toArray⟩ from rfl, Lib.strCells_toArray] at h5
        have HS5 := Lib.hid h5
        clear hb5 hl5 hk5 h5
        have hfb := HS5.out.at HFB.out hne uf_ne
        obtain ⟨y0, y1, y2, y3⟩ := four_cells hfb
        clear hfb
        go_wp2_with fail
        refine ((sput_any w1 HT1.out w1.heap.size t).use _ _ _ HL1.out HS5.out.low HS5.out.bld hr (by have := HLC.out; simp [Lib.byteCells, headF]; omega)).mono ?_
        rintro e w6 ⟨rfl, hb6, hl6, hk6⟩
        have HS6 := Lib.hid (HS5.out.put hb6 hl6 hk6)
        clear hb6 hl6 hk6 y0 y1 y2 y3
        go_wp2_with fail
        refine (bstr_any _ w1.heap.size _ _ _ HS6.out.bld (by have := HLC.out; have := HLT.out; simp [Lib.byteCells, headF, ByteArray.size]; omega) HS6.out.hB).mono ?_
        rintro e w7 ⟨rfl, hb7, hl7, hk7⟩
        have HS7 := Lib.hid (HS6.out.put hb7 hl7 hk7)
        have HB7 := Lib.hid (show BAt w1.heap.size w1.heap.size (.pointer (some ⟨w1.heap.size, 0, none⟩)) (Lib.byteCells (fileL c t)) w7 from by
          have h := hb7
          rw [show (⟨#[41, 10]⟩ : ByteArray) = ⟨[(41 : UInt8), 10].toArray⟩ from rfl, Lib.strCells_toArray] at h
          rw [file_text]
          simpa [Lib.byteCells] using h)
        clear hb7 hl7 hk7
        go_wp2_with fail
        refine (btext_any _ _ _ (fileL c t) w7 HB7.out (by unfold fileL; simp)).mono ?_
        rintro e w8 ⟨rfl, hb8⟩
        have HB8 := Lib.hid hb8
        clear hb8
        go_wp2
        go_ret
        exact ⟨by unfold shownF; rw [if_pos ⟨HRQ.out, hr⟩]; rfl, HW1.out.trans ((HS7.out.low.trans HB8.out).mono (Nat.le_of_lt hlt1))⟩
end Go.Proofs.YtdhfbphliejcdaaDoor.Dv

namespace Go.Proofs.YtdhfbphliejcdaaDoor
open Go.RowKit Go.Lib

theorem foldl_lt (l : List UInt8) : ∀ a : Nat, digs l = true → l.foldl (fun n c => 10 * n + (c.toNat - 48)) a < (a + 1) * 10 ^ l.length := by
  induction l with
  | nil => intro a _; simp
  | cons c l ih =>
    intro a h
    simp only [digs, List.all_cons, Bool.and_eq_true, isd, decide_eq_true_eq] at h
    simp only [List.foldl_cons, List.length_cons, Nat.pow_succ]
    refine Nat.lt_of_lt_of_le (ih _ h.2) ?_
    rw [Nat.mul_comm (10 ^ l.length) 10, ← Nat.mul_assoc]
    exact Nat.mul_le_mul_right _ (by omega)
theorem val_lt {l : List UInt8} (h : digs l = true) : val l < 10 ^ l.length := by
  have := foldl_lt l 0 h
  simpa [val] using this

set_option maxHeartbeats 1000000 in
theorem refget_any (s : ByteArray) (w : World) (hs : s.size ≤ maxLen) : Calls Tryd.prog 37 #[.string s] w fun e w' => e = .returned (getV s.data.toList) ∧ w' = w := by
  unfold maxLen at hs
  have hsl : s.data.toList.length = s.size := by simp
  by_cases h0 : s.size = 0
  · have hl : s.data.toList = [] := List.eq_nil_of_length_eq_zero (by omega)
    have HV := Lib.hid (getV_none (l := s.data.toList) (by rw [hl]; rfl))
    clear hl hsl
    go_enter Tryd.func37, Tryd.ntmps37
    go_wp2
    go_ret2
    rw [HV.out]
    exact ⟨rfl, rfl⟩
  have hne : s.data.toList ≠ [] := fun h => by rw [h] at hsl; simp at hsl; omega
  have e0 : ((s.size : Int) == 0) = false := by simpa using h0
  by_cases h7 : 7 < s.size
  · have HV := Lib.hid (getV_none (get_long (l := s.data.toList) (by omega)))
    clear hne hsl
    go_enter Tryd.func37, Tryd.ntmps37
    go_wp2
    go_ret2
    rw [HV.out]
    exact ⟨rfl, rfl⟩
  have h0' : 0 < s.size := by omega
  have e7 : ¬ 7 < (s.size : Int) := by omega
  by_cases h1 : 1 < s.size ∧ ((s[0].toNat : Int) = 48)
  · obtain ⟨h1, h2⟩ := h1
    have HV := Lib.hid (getV_none (l := s.data.toList) (by
      unfold getB; rw [if_pos (Or.inr ⟨by omega, by rw [head_at s h0']; congr 1; apply UInt8.toNat_inj.1; simp; omega⟩)]))
    have e2 : ((s[0].toNat : Int) == 48) = true := by simpa using h2
    clear hne hsl h2
    go_enter Tryd.func37, Tryd.ntmps37
    go_wp2
    go_ret2
    rw [HV.out]
    exact ⟨rfl, rfl⟩
  have HN2 : Hid (¬ (1 < s.data.toList.length ∧ s.data.toList.head? = some 48)) := by
    rintro ⟨h, h'⟩
    rw [head_at s h0'] at h'
    simp only [Option.some.injEq] at h'
    exact h1 ⟨by omega, by rw [h']; rfl⟩
  by_cases hA : 1 < s.size
  · have e2 : ((s[0].toNat : Int) == 48) = false := by
      have : ¬ (s[0].toNat : Int) = 48 := fun h => h1 ⟨hA, h⟩
      simpa using this
    clear h1 h0
    have HHN := Lib.hid hne
    have HHS := Lib.hid hsl
    clear hne hsl
    go_enter Tryd.func37, Tryd.ntmps37
    go_wp2
    go_loop [4, 5] (fun n i => ∃ k : Nat, k ≤ s.size ∧ i = .int .i64 k ∧ n = .int .i64 (val (s.data.toList.take k) : Nat) ∧ Hid (digs (s.data.toList.take k) = true) ∧ Hid (val (s.data.toList.take k) < 10000000)) (fun _ i => s.size - (RowKit.intOf i).toNat)
    case atStart => exact ⟨0, Nat.zero_le _, rfl, rfl, rfl, (show (0 : Nat) < 10000000 by omega)⟩
    case round =>
      obtain ⟨k, hk, rfl, rfl, hd, hv⟩ := hrel
      by_cases hlt : k < s.size
      · have hts := take_snoc s k hlt
        have hsn := val_snoc (s.data.toList.take k) s[k]
        have hdn := digs_snoc (s.data.toList.take k) s[k]
        rw [← hts] at hsn hdn
        rw [hd.out, Bool.true_and] at hdn
        have hc0 := s[k].toNat_lt
        by_cases l1 : (s[k].toNat : Int) < 48
        · have HF := Lib.hid (getV_none (getB_digs (isd_at s k hlt (by unfold isd; simp; omega))))
          clear hts hsn hdn hc0 hd hv
          go_wp2
          go_ret2
          rw [HF.out]
          exact ⟨rfl, rfl⟩
        by_cases l2 : 57 < (s[k].toNat : Int)
        · have HF := Lib.hid (getV_none (getB_digs (isd_at s k hlt (by unfold isd; simp; omega))))
          clear hts hsn hdn hc0 hd hv
          go_wp2
          go_ret2
          rw [HF.out]
          exact ⟨rfl, rfl⟩
        have hv0 := hv.out
        obtain ⟨v, hve⟩ : ∃ v : Nat, val (s.data.toList.take k) = v := ⟨_, rfl⟩
        rw [hve] at hsn hv0 ⊢
        have l3 : 48 ≤ (s[k].toNat : Int) := by omega
        have l4 : (s[k].toNat : Int) ≤ 57 := by omega
        have HDN : Hid (digs (s.data.toList.take (k + 1)) = true) := by rw [Hid, hdn]; unfold isd; simp; omega
        have HSN := Lib.hid (show ((val (s.data.toList.take (k + 1)) : Nat) : Int) = 10 * (v : Int) + ((s[k].toNat : Int) - 48) by rw [hsn]; omega)
        have hvs := val_at s (k + 1)
        have hw1 : IntKind.u8.wrap ((s[k].toNat : Int) - 48) = (s[k].toNat : Int) - 48 := IntWalk.u8_in _ (by omega)
        have HV5 : Hid (val (s.data.toList.take (k + 1)) < 10000000) := by
          have h1 := val_lt (l := s.data.toList.take (k + 1)) HDN.out
          have h2 : (s.data.toList.take (k + 1)).length ≤ 7 := by rw [List.length_take]; omega
          have h3 : 10 ^ (s.data.toList.take (k + 1)).length ≤ 10 ^ 7 := Nat.pow_le_pow_right (by omega) h2
          rw [Hid]; omega
        clear hts hsn hdn hc0 hd hv hvs hve l1 l2
        go_wp2
        go_round
        case rel => exact ⟨k + 1, hlt, by go_num, by rw [HSN.out], HDN, HV5⟩
        case measure => simp [RowKit.intOf]; omega
      · have hte : s.data.toList.take k = s.data.toList := List.take_of_length_le (by rw [HHS.out]; omega)
        rw [hte] at hd hv ⊢
        obtain ⟨v, hve⟩ : ∃ v : Nat, val s.data.toList = v := ⟨_, rfl⟩
        have hd0 := hd.out
        have hv0 := hv.out
        rw [hve] at hv0
        by_cases l5 : 1000000 < v
        · have HG := Lib.hid (getV_none (getB_great (l := s.data.toList) (by omega)))
          have l6 : 1000000 < (v : Int) := by omega
          rw [hve]
          clear hte hd hv hd0 hve l5
          go_wp2
          go_ret2
          rw [HG.out]
          exact ⟨rfl, rfl⟩
        · have HG := Lib.hid (getV_some (getB_of HHN.out HN2.out hd0 (by omega)))
          have l6 : ¬ 1000000 < (v : Int) := by omega
          rw [hve] at HG ⊢
          clear hte hd hv hd0 hve l5
          go_wp2
          go_ret2
          rw [HG.out]
          exact ⟨rfl, rfl⟩
  · clear h1 h0
    have HHN := Lib.hid hne
    have HHS := Lib.hid hsl
    clear hne hsl
    go_enter Tryd.func37, Tryd.ntmps37
    go_wp2
    go_loop [4, 5] (fun n i => ∃ k : Nat, k ≤ s.size ∧ i = .int .i64 k ∧ n = .int .i64 (val (s.data.toList.take k) : Nat) ∧ Hid (digs (s.data.toList.take k) = true) ∧ Hid (val (s.data.toList.take k) < 10000000)) (fun _ i => s.size - (RowKit.intOf i).toNat)
    case atStart => exact ⟨0, Nat.zero_le _, rfl, rfl, rfl, (show (0 : Nat) < 10000000 by omega)⟩
    case round =>
      obtain ⟨k, hk, rfl, rfl, hd, hv⟩ := hrel
      by_cases hlt : k < s.size
      · have hts := take_snoc s k hlt
        have hsn := val_snoc (s.data.toList.take k) s[k]
        have hdn := digs_snoc (s.data.toList.take k) s[k]
        rw [← hts] at hsn hdn
        rw [hd.out, Bool.true_and] at hdn
        have hc0 := s[k].toNat_lt
        by_cases l1 : (s[k].toNat : Int) < 48
        · have HF := Lib.hid (getV_none (getB_digs (isd_at s k hlt (by unfold isd; simp; omega))))
          clear hts hsn hdn hc0 hd hv
          go_wp2
          go_ret2
          rw [HF.out]
          exact ⟨rfl, rfl⟩
        by_cases l2 : 57 < (s[k].toNat : Int)
        · have HF := Lib.hid (getV_none (getB_digs (isd_at s k hlt (by unfold isd; simp; omega))))
          clear hts hsn hdn hc0 hd hv
          go_wp2
          go_ret2
          rw [HF.out]
          exact ⟨rfl, rfl⟩
        have hv0 := hv.out
        obtain ⟨v, hve⟩ : ∃ v : Nat, val (s.data.toList.take k) = v := ⟨_, rfl⟩
        rw [hve] at hsn hv0 ⊢
        have l3 : 48 ≤ (s[k].toNat : Int) := by omega
        have l4 : (s[k].toNat : Int) ≤ 57 := by omega
        have HDN : Hid (digs (s.data.toList.take (k + 1)) = true) := by rw [Hid, hdn]; unfold isd; simp; omega
        have HSN := Lib.hid (show ((val (s.data.toList.take (k + 1)) : Nat) : Int) = 10 * (v : Int) + ((s[k].toNat : Int) - 48) by rw [hsn]; omega)
        have hvs := val_at s (k + 1)
        have hw1 : IntKind.u8.wrap ((s[k].toNat : Int) - 48) = (s[k].toNat : Int) - 48 := IntWalk.u8_in _ (by omega)
        have HV5 : Hid (val (s.data.toList.take (k + 1)) < 10000000) := by
          have h1 := val_lt (l := s.data.toList.take (k + 1)) HDN.out
          have h2 : (s.data.toList.take (k + 1)).length ≤ 7 := by rw [List.length_take]; omega
          have h3 : 10 ^ (s.data.toList.take (k + 1)).length ≤ 10 ^ 7 := Nat.pow_le_pow_right (by omega) h2
          rw [Hid]; omega
        clear hts hsn hdn hc0 hd hv hvs hve l1 l2
        go_wp2
        go_round
        case rel => exact ⟨k + 1, hlt, by go_num, by rw [HSN.out], HDN, HV5⟩
        case measure => simp [RowKit.intOf]; omega
      · have hte : s.data.toList.take k = s.data.toList := List.take_of_length_le (by rw [HHS.out]; omega)
        rw [hte] at hd hv ⊢
        obtain ⟨v, hve⟩ : ∃ v : Nat, val s.data.toList = v := ⟨_, rfl⟩
        have hd0 := hd.out
        have hv0 := hv.out
        rw [hve] at hv0
        by_cases l5 : 1000000 < v
        · have HG := Lib.hid (getV_none (getB_great (l := s.data.toList) (by omega)))
          have l6 : 1000000 < (v : Int) := by omega
          rw [hve]
          clear hte hd hv hd0 hve l5
          go_wp2
          go_ret2
          rw [HG.out]
          exact ⟨rfl, rfl⟩
        · have HG := Lib.hid (getV_some (getB_of HHN.out HN2.out hd0 (by omega)))
          have l6 : ¬ 1000000 < (v : Int) := by omega
          rw [hve] at HG ⊢
          clear hte hd hv hd0 hve l5
          go_wp2
          go_ret2
          rw [HG.out]
          exact ⟨rfl, rfl⟩

end Go.Proofs.YtdhfbphliejcdaaDoor

namespace Go.Proofs.YtdhfbphliejcdaaDoor.Dv
open Go.RowKit

theorem belowD {B b : Nat} {w w' : World} (hB : B ≤ b) (hg : w.grownBy w' (some b)) (hlo : B ≤ w.heap.size) : Below B w w' := ⟨hg.os, hg.tape, hg.output, hg.size, fun k hk => hg.block k (by omega) (fun e => by have := Option.some.inj e; omega)⟩
abbrev zF : Obj := fileO (.slice none 0 0) 0 0 (.slice none 0 0)
abbrev oE (k : Int) : Obj := .cells #[.int .i64 k] 34
abbrev oA (a : Int) : Obj := .cells #[.int .i64 a] 3
abbrev oS (s : ByteArray) : Obj := .cells #[.string s] 9
theorem assertF (a : Nat) (w : World) : (Instr.typeAssert (.iface 70 (.agg #[.int .i64 a])) 20 70 true).run Tryd.prog w = .ok (.tuple #[.agg #[.int .i64 a], .bool true]) w := by kernel_rfl
theorem assertFB (a : Nat) (w : World) : (Instr.typeAssert (.iface 70 (.agg #[.int .i64 a])) 20 68 true).run Tryd.prog w = .ok (.tuple #[.agg #[.int .i64 0, .string ⟨#[]⟩], .bool false]) w := by kernel_rfl
theorem assertB (a : Nat) (s : ByteArray) (w : World) : (Instr.typeAssert (.iface 68 (.agg #[.int .i64 a, .string s])) 20 68 true).run Tryd.prog w = .ok (.tuple #[.agg #[.int .i64 a, .string s], .bool true]) w := by kernel_rfl
/-- What the closure leaves in the results of a parsing that failed. -/
def CatchF (B : Nat) (k : Int) (a : Nat) (s : ByteArray) (w w' : World) : Prop := w'.heap[B]? = some zF ∧ w'.heap[B + 1]? = some (oE k) ∧ w'.heap[B + 2]? = some (oA a) ∧ w'.heap[B + 3]? = some (oS s) ∧ Below B w w'
theorem catch_drewF {B : Nat} {k : Int} {a : Nat} {s : ByteArray} {w w' : World} (h : CatchF B k a s w w') : CatchF B k a s w w'.drew := ⟨h.1, h.2.1, h.2.2.1, h.2.2.2.1, h.2.2.2.2.drew⟩
/-- The four results as they stand. -/
structure Four (B : Nat) (w : World) : Prop where
  f : ∃ v0 v1 v2 v3, w.heap[B]? = some (.cells #[v0, v1, v2, v3] 26 (0, 0))
  e : ∃ x, w.heap[B + 1]? = some (.cells #[x] 34 (0, 0))
  a : ∃ x, w.heap[B + 2]? = some (.cells #[x] 3 (0, 0))
  s : ∃ x, w.heap[B + 3]? = some (.cells #[x] 9 (0, 0))
theorem catch_fin {B : Nat} {w W : World} {v0 v1 v2 v3 x y z : Value} (hF : W.heap[B]? = some (.cells #[v0, v1, v2, v3] 26 (0, 0))) (hE : W.heap[B + 1]? = some (.cells #[x] 34 (0, 0))) (hA : W.heap[B + 2]? = some (.cells #[y] 3 (0, 0))) (hS : W.heap[B + 3]? = some (.cells #[z] 9 (0, 0))) (hb : Below B w W) (k : Int) (a : Nat) (s : ByteArray) :
    CatchF B k a s w ((((four W B (.slice none 0 0) (.int .i64 0) (.int .i64 0) (.slice none 0 0)).setCell ⟨B + 1, 0, none⟩ (.int .i64 k)).setCell ⟨B + 2, 0, none⟩ (.int .i64 a)).setCell ⟨B + 3, 0, none⟩ (.string s)) := by
  have c4 : W.grownBy (four W B (.slice none 0 0) (.int .i64 0) (.int .i64 0) (.slice none 0 0)) (some B) := (((setD_grown _ _ _ _).trans (setD_grown _ _ _ _)).trans (setD_grown _ _ _ _)).trans (setD_grown _ _ _ _)
  have k0 : (four W B (.slice none 0 0) (.int .i64 0) (.int .i64 0) (.slice none 0 0)).heap[B]? = some zF := four_set hF
  have hsF := hltD hF
  have hsE := hltD hE
  have hsA := hltD hA
  have hsS := hltD hS
  have k1 := (c4.block (B + 1) hsE (fun e => by have := Option.some.inj e; omega)).trans hE
  have k2 := (c4.block (B + 2) hsA (fun e => by have := Option.some.inj e; omega)).trans hA
  have k3 := (c4.block (B + 3) hsS (fun e => by have := Option.some.inj e; omega)).trans hS
  have hb4 := hb.trans (belowD (B := B) (Nat.le_refl _) c4 (by omega))
  have hs4 := c4.size
  generalize four W B (.slice none 0 0) (.int .i64 0) (.int .i64 0) (.slice none 0 0) = V at k0 k1 k2 k3 hb4 hs4 ⊢
  have m1 := setD_grown V (B + 1) 0 (.int .i64 k)
  have m2 := setD_grown (V.setCell ⟨B + 1, 0, none⟩ (.int .i64 k)) (B + 2) 0 (.int .i64 a)
  have m3 := setD_grown ((V.setCell ⟨B + 1, 0, none⟩ (.int .i64 k)).setCell ⟨B + 2, 0, none⟩ (.int .i64 a)) (B + 3) 0 (.string s)
  have z1 : (V.setCell ⟨B + 1, 0, none⟩ (.int .i64 k)).heap.size = V.heap.size := by simp
  have z2 : ((V.setCell ⟨B + 1, 0, none⟩ (.int .i64 k)).setCell ⟨B + 2, 0, none⟩ (.int .i64 a)).heap.size = V.heap.size := by simp
  refine ⟨?_, ?_, ?_, ?_, ?_⟩
  · exact (((m3.block B (by omega) (fun e => by have := Option.some.inj e; omega)).trans (m2.block B (by omega) (fun e => by have := Option.some.inj e; omega))).trans (m1.block B (by omega) (fun e => by have := Option.some.inj e; omega))).trans k0
  · exact ((m3.block (B + 1) (by omega) (fun e => by have := Option.some.inj e; omega)).trans (m2.block (B + 1) (by omega) (fun e => by have := Option.some.inj e; omega))).trans (heap_setCell_same _ _ _ _ _ _ k1)
  · exact (m3.block (B + 2) (by omega) (fun e => by have := Option.some.inj e; omega)).trans (heap_setCell_same _ _ _ _ _ _ ((m1.block (B + 2) (by omega) (fun e => by have := Option.some.inj e; omega)).trans k2))
  · exact heap_setCell_same _ _ _ _ _ _ (((m2.block (B + 3) (by omega) (fun e => by have := Option.some.inj e; omega)).trans (m1.block (B + 3) (by omega) (fun e => by have := Option.some.inj e; omega))).trans k3)
  · exact ((hb4.trans (belowD (by omega) m1 (by omega))).trans (belowD (by omega) m2 (by omega))).trans (belowD (by omega) m3 (by omega))
theorem catch_drew {W : World} {p : Addr} {v : Value} (h : W.cell? p = some v) : W.drew.cell? p = some v := h
theorem catch_keep {W : World} {b i n q : Nat} {x v : Value} (h : W.cell? ⟨n, q, none⟩ = some v) (hne : n ≠ b) : (W.setCell ⟨b, i, none⟩ x).cell? ⟨n, q, none⟩ = some v := (World.cell?_of_block (a := ⟨n, q, none⟩) (Below.heap_setCell _ _ _ _ (by show n ≠ b; exact hne))).trans h
theorem tm27 (p0 p1 p2 p3 v : Value) : #[p0, p1, p2, p3] ++ (Array.replicate 23 undef).setIfInBounds 5 v = #[p0, p1, p2, p3, undef, undef, undef, undef, undef, v, undef, undef, undef, undef, undef, undef, undef, undef, undef, undef, undef, undef, undef, undef, undef, undef, undef] := by
  apply Array.toList_inj.1
  rw [Array.toList_append, Array.toList_setIfInBounds, Array.toList_replicate]
  rfl
def psv3_0 : Oper := { dst := some 15, op := Go.Op.build 26 #[], type := 26, pos := "parse.go:23", after := #[], guard := none }
def psv3_1 : Oper := { dst := some 16, op := Go.Op.fieldAddr 70 (Go.Operand.tmp 7) 0, type := 0, pos := "parse.go:23", after := #[{ on := 4, ground := Go.Ground.gcOnly Go.Departure.lateStores }], guard := none }
def psv3_2 : Oper := { dst := some 17, op := Go.Op.load 3 (Go.Operand.tmp 16), type := 3, pos := "parse.go:23", after := #[{ on := 1, ground := Go.Ground.data }, { on := 4, ground := Go.Ground.gcOnly Go.Departure.lateStores }], guard := none }
def psv3_3 : Oper := { dst := none, op := Go.Op.store 26 (Go.Operand.tmp 0) (Go.Operand.tmp 15), type := 0, pos := "parse.go:23", after := #[{ on := 0, ground := Go.Ground.data }, { on := 0, ground := Go.Ground.phase }, { on := 1, ground := Go.Ground.textOnly Go.Departure.lateStores }, { on := 2, ground := Go.Ground.textOnly Go.Departure.lateStores }], guard := none }
def psv3_4 : Oper := { dst := none, op := Go.Op.store 34 (Go.Operand.tmp 1) (Go.Operand.const (Go.Value.int Go.IntKind.i64 2)), type := 0, pos := "parse.go:23", after := #[{ on := 3, ground := Go.Ground.chain }, { on := 0, ground := Go.Ground.phase }, { on := 1, ground := Go.Ground.textOnly Go.Departure.lateStores }, { on := 2, ground := Go.Ground.textOnly Go.Departure.lateStores }, { on := 3, ground := Go.Ground.phase }], guard := none }
def psv3_5 : Oper := { dst := none, op := Go.Op.store 3 (Go.Operand.tmp 2) (Go.Operand.tmp 17), type := 0, pos := "parse.go:23", after := #[{ on := 2, ground := Go.Ground.data }, { on := 4, ground := Go.Ground.chain }, { on := 0, ground := Go.Ground.phase }, { on := 1, ground := Go.Ground.phase }, { on := 2, ground := Go.Ground.phase }, { on := 3, ground := Go.Ground.phase }, { on := 4, ground := Go.Ground.phase }], guard := none }
def psv3_6 : Oper := { dst := none, op := Go.Op.store 9 (Go.Operand.tmp 3) (Go.Operand.const (Go.Value.string { data := #[] })), type := 0, pos := "parse.go:23", after := #[{ on := 5, ground := Go.Ground.chain }, { on := 0, ground := Go.Ground.phase }, { on := 1, ground := Go.Ground.phase }, { on := 2, ground := Go.Ground.phase }, { on := 3, ground := Go.Ground.phase }, { on := 4, ground := Go.Ground.phase }, { on := 5, ground := Go.Ground.phase }], guard := none }
def psv8_0 : Oper := { dst := some 22, op := Go.Op.build 26 #[], type := 26, pos := "parse.go:20", after := #[], guard := none }
def psv8_1 : Oper := { dst := some 23, op := Go.Op.fieldAddr 68 (Go.Operand.tmp 5) 0, type := 0, pos := "parse.go:20", after := #[{ on := 6, ground := Go.Ground.gcOnly Go.Departure.lateStores }], guard := none }
def psv8_2 : Oper := { dst := some 24, op := Go.Op.load 3 (Go.Operand.tmp 23), type := 3, pos := "parse.go:20", after := #[{ on := 1, ground := Go.Ground.data }, { on := 6, ground := Go.Ground.gcOnly Go.Departure.lateStores }], guard := none }
def psv8_3 : Oper := { dst := some 25, op := Go.Op.fieldAddr 68 (Go.Operand.tmp 5) 1, type := 0, pos := "parse.go:20", after := #[{ on := 7, ground := Go.Ground.gcOnly Go.Departure.lateStores }], guard := none }
def psv8_4 : Oper := { dst := some 26, op := Go.Op.load 9 (Go.Operand.tmp 25), type := 9, pos := "parse.go:20", after := #[{ on := 3, ground := Go.Ground.data }, { on := 7, ground := Go.Ground.gcOnly Go.Departure.lateStores }], guard := none }
def psv8_5 : Oper := { dst := none, op := Go.Op.store 26 (Go.Operand.tmp 0) (Go.Operand.tmp 22), type := 0, pos := "parse.go:20", after := #[{ on := 0, ground := Go.Ground.data }, { on := 0, ground := Go.Ground.phase }, { on := 1, ground := Go.Ground.textOnly Go.Departure.lateStores }, { on := 2, ground := Go.Ground.textOnly Go.Departure.lateStores }, { on := 3, ground := Go.Ground.textOnly Go.Departure.lateStores }, { on := 4, ground := Go.Ground.textOnly Go.Departure.lateStores }], guard := none }
def psv8_6 : Oper := { dst := none, op := Go.Op.store 34 (Go.Operand.tmp 1) (Go.Operand.const (Go.Value.int Go.IntKind.i64 4)), type := 0, pos := "parse.go:20", after := #[{ on := 5, ground := Go.Ground.chain }, { on := 0, ground := Go.Ground.phase }, { on := 1, ground := Go.Ground.textOnly Go.Departure.lateStores }, { on := 2, ground := Go.Ground.textOnly Go.Departure.lateStores }, { on := 3, ground := Go.Ground.textOnly Go.Departure.lateStores }, { on := 4, ground := Go.Ground.textOnly Go.Departure.lateStores }, { on := 5, ground := Go.Ground.phase }], guard := none }
def psv8_7 : Oper := { dst := none, op := Go.Op.store 3 (Go.Operand.tmp 2) (Go.Operand.tmp 24), type := 0, pos := "parse.go:20", after := #[{ on := 2, ground := Go.Ground.data }, { on := 6, ground := Go.Ground.chain }, { on := 0, ground := Go.Ground.phase }, { on := 1, ground := Go.Ground.phase }, { on := 2, ground := Go.Ground.phase }, { on := 3, ground := Go.Ground.textOnly Go.Departure.lateStores }, { on := 4, ground := Go.Ground.textOnly Go.Departure.lateStores }, { on := 5, ground := Go.Ground.phase }, { on := 6, ground := Go.Ground.phase }], guard := none }
def psv8_8 : Oper := { dst := none, op := Go.Op.store 9 (Go.Operand.tmp 3) (Go.Operand.tmp 26), type := 0, pos := "parse.go:20", after := #[{ on := 4, ground := Go.Ground.data }, { on := 7, ground := Go.Ground.chain }, { on := 0, ground := Go.Ground.phase }, { on := 1, ground := Go.Ground.phase }, { on := 2, ground := Go.Ground.phase }, { on := 3, ground := Go.Ground.phase }, { on := 4, ground := Go.Ground.phase }, { on := 5, ground := Go.Ground.phase }, { on := 6, ground := Go.Ground.phase }, { on := 7, ground := Go.Ground.phase }], guard := none }
set_option maxHeartbeats 4000000 in
set_option maxRecDepth 20000 in
theorem catch_fault (B : Nat) (a : Nat) (w : World) (h4 : Four B w) :
    CallsD Tryd.prog 31 #[.pointer (some ⟨B, 0, none⟩), .pointer (some ⟨B + 1, 0, none⟩), .pointer (some ⟨B + 2, 0, none⟩), .pointer (some ⟨B + 3, 0, none⟩)] (.panicking ({ v := .iface 70 (.agg #[.int .i64 a]), recovered := false } :: [])) w fun e u' w' =>
      e = .returned (.tuple #[]) ∧ u' = .panicking ({ v := .iface 70 (.agg #[.int .i64 a]), recovered := true } :: []) ∧ CatchF B 2 a ⟨#[]⟩ w w' := by
  obtain ⟨⟨v0, v1, v2, v3, hT⟩, ⟨x, hE⟩, ⟨y, hA⟩, ⟨z, hS⟩⟩ := h4
  refine callsD_of_wpS Tryd.func31 rfl fun c₀ cs hu => ?_
  apply wpS_seq
  apply wpS_region
  simp [wpOpsS, go_sem, recoverD, hu, Tryd.ntmps31, Exit.thenS]
  refine wpS_of_wp (wp_mono (Q := fun e a' w' => e = Exit.normal ∧ a'.defers = [] ∧ CatchF B 2 a ⟨#[]⟩ w w') ?_ (fun e a' w' h => ?_))
  · have hta := assertF
    have htb := assertFB
    have htc := assertB
    have hb := (Below.refl w.heap.size w).alloc (Nat.le_refl _) (.cells #[.int .i64 a] 70)
    have hT1 := (hb.block _ (hltD hT)).trans hT
    have hE1 := (hb.block _ (hltD hE)).trans hE
    have hA1 := (hb.block _ (hltD hA)).trans hA
    have hS1 := (hb.block _ (hltD hS)).trans hS
    have hF1 : (w.alloc (.cells #[.int .i64 a] 70)).heap[w.heap.size]? = some (.cells #[.int .i64 a] 70) := alloc_new _ _
    have hs1 : w.heap.size < (w.alloc (.cells #[.int .i64 a] 70)).heap.size := by simp
    have hBS : B < w.heap.size ∧ B + 1 < w.heap.size ∧ B + 2 < w.heap.size ∧ B + 3 < w.heap.size := ⟨hltD hT, hltD hE, hltD hA, hltD hS⟩
    have HB := Lib.hid (hb.mono (Nat.le_of_lt hBS.1))
    clear hT hE hA hS hu hb
    rw [tm27]
    go_upto_region 3 with fail
    obtain ⟨W, hW⟩ : ∃ W, W = w.alloc (.cells #[.int .i64 a] 70) := ⟨_, rfl⟩
    rw [← hW] at hT1 hE1 hA1 hS1 hF1 hs1 HB
    rw [← hW]
    clear hW
    obtain ⟨x0, x1, x2, x3⟩ := four_cells hT1
    obtain ⟨f0, f1, f2, f3⟩ := four_free hT1
    have x5 : W.cell? ⟨B + 1, 0, none⟩ = some x := by rw [Lib.cell_of_heap hE1]; rfl
    have x6 : W.cell? ⟨B + 2, 0, none⟩ = some y := by rw [Lib.cell_of_heap hA1]; rfl
    have x7 : W.cell? ⟨B + 3, 0, none⟩ = some z := by rw [Lib.cell_of_heap hS1]; rfl
    have x8 : W.cell? ⟨w.heap.size, 0, none⟩ = some (.int .i64 a) := by rw [Lib.cell_of_heap hF1]; rfl
    have f5 : W.frozen? ⟨B + 1, 0, none⟩ = false := Lib.frozen_of_heap hE1 0
    have f6 : W.frozen? ⟨B + 2, 0, none⟩ = false := Lib.frozen_of_heap hA1 0
    have f7 : W.frozen? ⟨B + 3, 0, none⟩ = false := Lib.frozen_of_heap hS1 0
    have HH := Lib.hid (catch_drewF (catch_fin (W := W) hT1 hE1 hA1 hS1 HB.out 2 a ⟨#[]⟩))
    have hne : w.heap.size ≠ B := by omega
    have hne1 : w.heap.size ≠ B + 1 := by omega
    have hne2 : w.heap.size ≠ B + 2 := by omega
    have hne3 : w.heap.size ≠ B + 3 := by omega
    have hWs : w.heap.size < W.heap.size := hs1
    clear hT1 hE1 hA1 hS1 hF1 hta htb htc
    refine wp_region_held_drew (S := fun w' => w'.cell? ⟨w.heap.size, 0, none⟩ = some (.int .i64 a)) (by kernel_rfl) ?_ (fun hHeld => ?_)
    · (try dsimp only)
      repeat (first | with_reducible exact x8 | with_reducible refine catch_drew ?_ | with_reducible refine catch_keep ?_ (by assumption))
    refine take_at 0 15 psv3_0 (v := ?_) (Or.inl ⟨by rfl, ?_⟩) ?_
    rotate_left 1
    · ((intro w hSw; (try dsimp only at hSw); unfold psv3_0; go_simp) <;> with_reducible rfl)
    (try simp only [Act.put, List.setIfInBounds_toArray, List.set_cons_zero, List.set_cons_succ])
    refine take_at 1 16 psv3_1 (v := ?_) (Or.inl ⟨by rfl, ?_⟩) ?_
    rotate_left 1
    · ((intro w hSw; (try dsimp only at hSw); unfold psv3_1; go_simp) <;> with_reducible rfl)
    (try simp only [Act.put, List.setIfInBounds_toArray, List.set_cons_zero, List.set_cons_succ])
    refine take_at 2 17 psv3_2 (v := ?_) (Or.inl ⟨by rfl, ?_⟩) ?_
    rotate_left 1
    · ((intro w hSw; (try dsimp only at hSw); unfold psv3_2; go_simp) <;> with_reducible rfl)
    (try simp only [Act.put, List.setIfInBounds_toArray, List.set_cons_zero, List.set_cons_succ])
    refine wpAnyH_ready (rs := [3]) (by kernel_rfl) (by simp) ?_
    refine AllReadyH.cons (o := psv3_3) rfl (fun K hK => ?_) ?_
    · unfold psv3_3
      go_simp
      clear hHeld
      refine hK.out _ _ ?_ (fun hHeld => ?_)
      · (try dsimp only)
        repeat (first | with_reducible exact x8 | with_reducible refine catch_drew ?_ | with_reducible refine catch_keep ?_ (by assumption))
      clear hK K
      (try simp only [Act.put, List.setIfInBounds_toArray, List.set_cons_zero, List.set_cons_succ])
      refine wpAnyH_ready (rs := [4]) (by kernel_rfl) (by simp) ?_
      refine AllReadyH.cons (o := psv3_4) rfl (fun K hK => ?_) ?_
      · unfold psv3_4
        go_simp
        clear hHeld
        refine hK.out _ _ ?_ (fun hHeld => ?_)
        · (try dsimp only)
          repeat (first | with_reducible exact x8 | with_reducible refine catch_drew ?_ | with_reducible refine catch_keep ?_ (by assumption))
        clear hK K
        (try simp only [Act.put, List.setIfInBounds_toArray, List.set_cons_zero, List.set_cons_succ])
        refine wpAnyH_ready (rs := [5]) (by kernel_rfl) (by simp) ?_
        refine AllReadyH.cons (o := psv3_5) rfl (fun K hK => ?_) ?_
        · unfold psv3_5
          go_simp
          clear hHeld
          refine hK.out _ _ ?_ (fun hHeld => ?_)
          · (try dsimp only)
            repeat (first | with_reducible exact x8 | with_reducible refine catch_drew ?_ | with_reducible refine catch_keep ?_ (by assumption))
          clear hK K
          (try simp only [Act.put, List.setIfInBounds_toArray, List.set_cons_zero, List.set_cons_succ])
          refine wpAnyH_ready (rs := [6]) (by kernel_rfl) (by simp) ?_
          refine AllReadyH.cons (o := psv3_6) rfl (fun K hK => ?_) ?_
          · unfold psv3_6
            go_simp
            clear hHeld
            refine hK.out _ _ ?_ (fun hHeld => ?_)
            · (try dsimp only)
              repeat (first | with_reducible exact x8 | with_reducible refine catch_drew ?_ | with_reducible refine catch_keep ?_ (by assumption))
            clear hK K
            (try simp only [Act.put, List.setIfInBounds_toArray, List.set_cons_zero, List.set_cons_succ])
            refine wpAnyH_done (by kernel_rfl) ?_ _
            refine ⟨rfl, rfl, ?_⟩
            with_reducible exact HH.out
          exact AllReadyH.nil
        exact AllReadyH.nil
      exact AllReadyH.nil
    exact AllReadyH.nil
  · obtain ⟨rfl, hd, hC⟩ := h
    exact ⟨hd, _, rfl, .tuple #[], results_none rfl _ _ _, rfl, rfl, hC⟩
set_option maxHeartbeats 4000000 in
set_option maxRecDepth 20000 in
theorem catch_beyond (B : Nat) (a : Nat) (s : ByteArray) (w : World) (h4 : Four B w) :
    CallsD Tryd.prog 31 #[.pointer (some ⟨B, 0, none⟩), .pointer (some ⟨B + 1, 0, none⟩), .pointer (some ⟨B + 2, 0, none⟩), .pointer (some ⟨B + 3, 0, none⟩)] (.panicking ({ v := .iface 68 (.agg #[.int .i64 a, .string s]), recovered := false } :: [])) w fun e u' w' =>
      e = .returned (.tuple #[]) ∧ u' = .panicking ({ v := .iface 68 (.agg #[.int .i64 a, .string s]), recovered := true } :: []) ∧ CatchF B 4 a s w w' := by
  obtain ⟨⟨v0, v1, v2, v3, hT⟩, ⟨x, hE⟩, ⟨y, hA⟩, ⟨z, hS⟩⟩ := h4
  refine callsD_of_wpS Tryd.func31 rfl fun c₀ cs hu => ?_
  apply wpS_seq
  apply wpS_region
  simp [wpOpsS, go_sem, recoverD, hu, Tryd.ntmps31, Exit.thenS]
  refine wpS_of_wp (wp_mono (Q := fun e a' w' => e = Exit.normal ∧ a'.defers = [] ∧ CatchF B 4 a s w w') ?_ (fun e a' w' h => ?_))
  · have hta := assertF
    have htb := assertFB
    have htc := assertB
    have hb := (Below.refl w.heap.size w).alloc (Nat.le_refl _) (.cells #[.int .i64 a, .string s] 68)
    have hT1 := (hb.block _ (hltD hT)).trans hT
    have hE1 := (hb.block _ (hltD hE)).trans hE
    have hA1 := (hb.block _ (hltD hA)).trans hA
    have hS1 := (hb.block _ (hltD hS)).trans hS
    have hF1 : (w.alloc (.cells #[.int .i64 a, .string s] 68)).heap[w.heap.size]? = some (.cells #[.int .i64 a, .string s] 68) := alloc_new _ _
    have hs1 : w.heap.size < (w.alloc (.cells #[.int .i64 a, .string s] 68)).heap.size := by simp
    have hBS : B < w.heap.size ∧ B + 1 < w.heap.size ∧ B + 2 < w.heap.size ∧ B + 3 < w.heap.size := ⟨hltD hT, hltD hE, hltD hA, hltD hS⟩
    have HB := Lib.hid (hb.mono (Nat.le_of_lt hBS.1))
    clear hT hE hA hS hu hb
    rw [tm27]
    go_upto_region 8 with fail
    obtain ⟨W, hW⟩ : ∃ W, W = w.alloc (.cells #[.int .i64 a, .string s] 68) := ⟨_, rfl⟩
    rw [← hW] at hT1 hE1 hA1 hS1 hF1 hs1 HB
    rw [← hW]
    clear hW
    obtain ⟨x0, x1, x2, x3⟩ := four_cells hT1
    obtain ⟨f0, f1, f2, f3⟩ := four_free hT1
    have x5 : W.cell? ⟨B + 1, 0, none⟩ = some x := by rw [Lib.cell_of_heap hE1]; rfl
    have x6 : W.cell? ⟨B + 2, 0, none⟩ = some y := by rw [Lib.cell_of_heap hA1]; rfl
    have x7 : W.cell? ⟨B + 3, 0, none⟩ = some z := by rw [Lib.cell_of_heap hS1]; rfl
    have x8 : W.cell? ⟨w.heap.size, 0, none⟩ = some (.int .i64 a) := by rw [Lib.cell_of_heap hF1]; rfl
    have x9 : W.cell? ⟨w.heap.size, 1, none⟩ = some (.string s) := by rw [Lib.cell_of_heap hF1]; rfl
    have f5 : W.frozen? ⟨B + 1, 0, none⟩ = false := Lib.frozen_of_heap hE1 0
    have f6 : W.frozen? ⟨B + 2, 0, none⟩ = false := Lib.frozen_of_heap hA1 0
    have f7 : W.frozen? ⟨B + 3, 0, none⟩ = false := Lib.frozen_of_heap hS1 0
    have HH := Lib.hid (catch_drewF (catch_fin (W := W) hT1 hE1 hA1 hS1 HB.out 4 a s))
    have hne : w.heap.size ≠ B := by omega
    have hne1 : w.heap.size ≠ B + 1 := by omega
    have hne2 : w.heap.size ≠ B + 2 := by omega
    have hne3 : w.heap.size ≠ B + 3 := by omega
    have hWs : w.heap.size < W.heap.size := hs1
    clear hT1 hE1 hA1 hS1 hF1 hta htb htc
    refine wp_region_held_drew (S := fun w' => w'.cell? ⟨w.heap.size, 0, none⟩ = some (.int .i64 a) ∧ w'.cell? ⟨w.heap.size, 1, none⟩ = some (.string s)) (by kernel_rfl) ?_ (fun hHeld => ?_)
    · (try dsimp only)
      refine ⟨?_, ?_⟩ <;> repeat (first | with_reducible exact x8 | with_reducible exact x9 | with_reducible refine catch_drew ?_ | with_reducible refine catch_keep ?_ (by assumption))
    refine take_at 0 22 psv8_0 (v := ?_) (Or.inl ⟨by rfl, ?_⟩) ?_
    rotate_left 1
    · ((intro w hSw; (try dsimp only at hSw); unfold psv8_0; go_simp) <;> with_reducible rfl)
    (try simp only [Act.put, List.setIfInBounds_toArray, List.set_cons_zero, List.set_cons_succ])
    refine take_at 1 23 psv8_1 (v := ?_) (Or.inl ⟨by rfl, ?_⟩) ?_
    rotate_left 1
    · ((intro w hSw; (try dsimp only at hSw); unfold psv8_1; go_simp) <;> with_reducible rfl)
    (try simp only [Act.put, List.setIfInBounds_toArray, List.set_cons_zero, List.set_cons_succ])
    refine take_at 2 24 psv8_2 (v := ?_) (Or.inl ⟨by rfl, ?_⟩) ?_
    rotate_left 1
    · ((intro w hSw; (try dsimp only at hSw); unfold psv8_2; go_simp) <;> with_reducible rfl)
    (try simp only [Act.put, List.setIfInBounds_toArray, List.set_cons_zero, List.set_cons_succ])
    refine take_at 3 25 psv8_3 (v := ?_) (Or.inl ⟨by rfl, ?_⟩) ?_
    rotate_left 1
    · ((intro w hSw; (try dsimp only at hSw); unfold psv8_3; go_simp) <;> with_reducible rfl)
    (try simp only [Act.put, List.setIfInBounds_toArray, List.set_cons_zero, List.set_cons_succ])
    refine take_at 4 26 psv8_4 (v := ?_) (Or.inl ⟨by rfl, ?_⟩) ?_
    rotate_left 1
    · ((intro w hSw; (try dsimp only at hSw); unfold psv8_4; go_simp) <;> with_reducible rfl)
    (try simp only [Act.put, List.setIfInBounds_toArray, List.set_cons_zero, List.set_cons_succ])
    refine wpAnyH_ready (rs := [5]) (by kernel_rfl) (by simp) ?_
    refine AllReadyH.cons (o := psv8_5) rfl (fun K hK => ?_) ?_
    · unfold psv8_5
      go_simp
      clear hHeld
      refine hK.out _ _ ?_ (fun hHeld => ?_)
      · (try dsimp only)
        refine ⟨?_, ?_⟩ <;> repeat (first | with_reducible exact x8 | with_reducible exact x9 | with_reducible refine catch_drew ?_ | with_reducible refine catch_keep ?_ (by assumption))
      clear hK K
      (try simp only [Act.put, List.setIfInBounds_toArray, List.set_cons_zero, List.set_cons_succ])
      refine wpAnyH_ready (rs := [6]) (by kernel_rfl) (by simp) ?_
      refine AllReadyH.cons (o := psv8_6) rfl (fun K hK => ?_) ?_
      · unfold psv8_6
        go_simp
        clear hHeld
        refine hK.out _ _ ?_ (fun hHeld => ?_)
        · (try dsimp only)
          refine ⟨?_, ?_⟩ <;> repeat (first | with_reducible exact x8 | with_reducible exact x9 | with_reducible refine catch_drew ?_ | with_reducible refine catch_keep ?_ (by assumption))
        clear hK K
        (try simp only [Act.put, List.setIfInBounds_toArray, List.set_cons_zero, List.set_cons_succ])
        refine wpAnyH_ready (rs := [7]) (by kernel_rfl) (by simp) ?_
        refine AllReadyH.cons (o := psv8_7) rfl (fun K hK => ?_) ?_
        · unfold psv8_7
          go_simp
          clear hHeld
          refine hK.out _ _ ?_ (fun hHeld => ?_)
          · (try dsimp only)
            refine ⟨?_, ?_⟩ <;> repeat (first | with_reducible exact x8 | with_reducible exact x9 | with_reducible refine catch_drew ?_ | with_reducible refine catch_keep ?_ (by assumption))
          clear hK K
          (try simp only [Act.put, List.setIfInBounds_toArray, List.set_cons_zero, List.set_cons_succ])
          refine wpAnyH_ready (rs := [8]) (by kernel_rfl) (by simp) ?_
          refine AllReadyH.cons (o := psv8_8) rfl (fun K hK => ?_) ?_
          · unfold psv8_8
            go_simp
            clear hHeld
            refine hK.out _ _ ?_ (fun hHeld => ?_)
            · (try dsimp only)
              refine ⟨?_, ?_⟩ <;> repeat (first | with_reducible exact x8 | with_reducible exact x9 | with_reducible refine catch_drew ?_ | with_reducible refine catch_keep ?_ (by assumption))
            clear hK K
            (try simp only [Act.put, List.setIfInBounds_toArray, List.set_cons_zero, List.set_cons_succ])
            refine wpAnyH_done (by kernel_rfl) ?_ _
            refine ⟨rfl, rfl, ?_⟩
            with_reducible exact HH.out
          exact AllReadyH.nil
        exact AllReadyH.nil
      exact AllReadyH.nil
    exact AllReadyH.nil
  · obtain ⟨rfl, hd, hC⟩ := h
    exact ⟨hd, _, rfl, .tuple #[], results_none rfl _ _ _, rfl, rfl, hC⟩
theorem catch_idleF (B : Nat) (w : World) :
    CallsD Tryd.prog 31 #[.pointer (some ⟨B, 0, none⟩), .pointer (some ⟨B + 1, 0, none⟩), .pointer (some ⟨B + 2, 0, none⟩), .pointer (some ⟨B + 3, 0, none⟩)] .returning w fun e u' w' => e = .returned (.tuple #[]) ∧ u' = .returning ∧ w' = w := by
  refine callsD_of_wpS Tryd.func31 rfl fun c₀ cs hu => ?_
  apply wpS_seq
  apply wpS_region
  simp [wpOpsS, go_sem, recoverD, hu, Tryd.ntmps31, Exit.thenS]
  refine wpS_of_wp (wp_mono (Q := fun e a' w' => e = Exit.normal ∧ a'.defers = [] ∧ w' = w) ?_ (fun e a' w' h => ?_))
  · rw [tm27]
    go_wp2
  · obtain ⟨rfl, hd, rfl⟩ := h
    cases c₀
    refine ⟨hd, _, rfl, .tuple #[], results_none rfl _ _ _, rfl, ?_, rfl⟩
    simp_all
end Go.Proofs.YtdhfbphliejcdaaDoor.Dv
