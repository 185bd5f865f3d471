/-
  Facts and contracts that the proof of SigExact uses.
-/
import Derived.Lib.ItoaNum
import Derived.Lib.ItoaLen
import Derived.Test.YtpekceadjcbphaaDoorRows
import Derived.WalkKit
import Derived.Lib.Hide
import Derived.ProofKit
import Derived.LoopTactic
import Derived.Below
import Derived.IntWalk
import Derived.Lib.Strings
import Derived.Laws.Strings2
import Derived.Deep.AppendLies
import Derived.Laws.Rows
import Derived.OwnWalk
import Derived.KernelRfl
import Derived.Deep.RegionHeld3
import Derived.Lib.Builder
import Derived.WalkSmall
import Derived.Maps.GroupsBeside
import Derived.Maps.StringElems
import Derived.Laws.OwnMore
import Derived.Deep.RegionLaw
import Derived.Maps.AppendAt
import Derived.Deep.Cut
import Derived.Deep.DeepCutAuto
import Derived.Maps.OwnOps
import Derived.Maps.OwnSet
import Derived.Lib.MinMax
import Derived.Laws.IdiomCopy
import Derived.Deep.Slices
import Derived.Lib.QuietBelow
import Derived.StillTailTactics
import Derived.BigQuiet
import Derived.Deep.RegionWith
import Derived.OrdersHeld
import Derived.Recover
import Derived.RegionTactic
import Derived.Defers
import Derived.Laws.StructEq
import GoSem.Core.Float
import Derived.Laws.Cover2
import Derived.Laws.FloatArith
import Derived.Laws.Externs
import Derived.Deep.QuietTactic
import Derived.Deep.CutBlock
import Derived.Deep.LoopGhost
import Derived.Test.YtpekceadjcbphaaDoorShelf
import Derived.Lib.AppendIntMem
import Derived.Lib.LaidTab
import Derived.OpenShut
import Derived.Carry
import Derived.LaidMore
import Derived.LaidSub
import Derived.LaidHandle
import Derived.Stop.Joined
import Derived.JoinedOf
import Derived.Test.YtpekceadjcbphaaDoorCards
import Derived.Test.YtpekceadjcbphaaDoorTie
import Derived.SevenTiedAt
import Derived.ChangeMaps5
import Derived.Test.YtpekceadjcbphaaDoorSigExactQ2
namespace Go.Proofs.YtpekceadjcbphaaDoor
open Go.RowKit Go.Maps Go.ChangeShapes

/-- A term that was read lies in a box. -/
structure BoxT (B : Nat) (w : World) (b : Nat) (t : Tm) (s : Value) : Prop where
  box : w.heap[b]? = some (.cells #[.int .i64 t.k, .int .i64 t.i, .int .i64 t.j, .int .i64 t.n, s] 26 (0, 0))
  kids : LiesP w (Own B w) t.kids s
  fine : t.fine
theorem BoxT.fr {c : RC} {B : Nat} {w w' : World} {b : Nat} {t : Tm} {s : Value} (h : BoxT B w b t s) (hf : Fr c w w') : BoxT B w' b t s := ⟨hf.kept _ _ _ _ h.box (by decide) (by decide) (by decide), liesP_fr h.kids hf, h.fine⟩
theorem BoxT.below {B : Nat} {w w' : World} {b : Nat} {t : Tm} {s : Value} (h : BoxT B w b t s) (hb : Below w.heap.size w w') : BoxT B w' b t s := ⟨(hb.block _ (hlt_of h.box)).trans h.box, h.kids.later hb, h.fine⟩
theorem boxT_new {B : Nat} {w : World} {t : Tm} {s : Value} (h : LiesP w (Own B w) t.kids s) (hf : t.fine) : BoxT B (w.alloc (.cells #[.int .i64 t.k, .int .i64 t.i, .int .i64 t.j, .int .i64 t.n, s] 26)) w.heap.size t s := ⟨alloc_new _ _, h.later ((Below.refl _ w).alloc (Nat.le_refl _) _), hf⟩
theorem al (w : World) (o : Obj) : Below w.heap.size w (w.alloc o) := (Below.refl _ w).alloc (Nat.le_refl _) o
/-- Six boxed terms, laid into a list. -/
theorem six_made {B : Nat} {w : World} (hB : B ≤ w.heap.size) {ps : List (Tm × Value)} (h6 : ps.length = 6) (hf : ∀ p ∈ ps, p.1.fine) (hk : ∀ p ∈ ps, LiesP w (Own B w) p.1.kids p.2) :
    LiesP (w.alloc (.cells (cells5 ps).toArray 26)) (Own B (w.alloc (.cells (cells5 ps).toArray 26))) (ps.map (·.1)) (.slice (some ⟨w.heap.size, 0, none⟩) 6 6) := by
  have hown := World.ownsRow_lit (base := B) (e := 26) (size := 5) w (cells5 ps).toArray 6 hB (by decide) (by simp [cells5_length, h6])
  refine made_lies (B := B) (v := .slice (some ⟨w.heap.size, 0, none⟩) 6 6) (ps := ps) ⟨by rw [h6]; simpa using hown, hf, fun p hp => ?_⟩
  exact (hk p hp).keep (fun b _ hlt => (al w (.cells (cells5 ps).toArray 26)).block b hlt) (fun b hb hlt => ⟨hb.later (al w _), fun e => by have e2 : w.heap.size = b := Option.some.inj e; omega⟩)
def j2_0 : Oper := { dst := some 14, op := Go.Op.move (Go.Operand.tmp 0), type := 92, pos := "read.go:189", after := #[], guard := none }
def j2_1 : Oper := { dst := some 15, op := Go.Op.nilCheck (Go.Operand.tmp 14), type := 0, pos := "read.go:189", after := #[{ on := 0, ground := Go.Ground.data }], guard := none }
def j2_2 : Oper := { dst := some 16, op := Go.Op.fieldAddr 75 (Go.Operand.tmp 15) 0, type := 0, pos := "read.go:189", after := #[{ on := 1, ground := Go.Ground.data }], guard := none }
def j2_3 : Oper := { dst := some 17, op := Go.Op.load 70 (Go.Operand.tmp 16), type := 70, pos := "read.go:189", after := #[{ on := 2, ground := Go.Ground.data }], guard := none }
def j2_4 : Oper := { dst := some 18, op := Go.Op.call { callee := Go.Callee.value (Go.Operand.func 54), args := #[Go.Operand.tmp 17, Go.Operand.const (Go.Value.int Go.IntKind.i64 3)], argTypes := #[70, 3] }, type := 63, pos := "read.go:189", after := #[{ on := 3, ground := Go.Ground.data }], guard := none }
def j2_5 : Oper := { dst := some 19, op := Go.Op.field 63 (Go.Operand.tmp 18) 1, type := 9, pos := "read.go:189", after := #[{ on := 4, ground := Go.Ground.data }], guard := none }
def j2_6 : Oper := { dst := some 20, op := Go.Op.move (Go.Operand.tmp 0), type := 92, pos := "read.go:189", after := #[], guard := none }
def j2_7 : Oper := { dst := some 21, op := Go.Op.nilCheck (Go.Operand.tmp 20), type := 0, pos := "read.go:189", after := #[{ on := 6, ground := Go.Ground.data }], guard := none }
def j2_8 : Oper := { dst := some 22, op := Go.Op.fieldAddr 75 (Go.Operand.tmp 21) 0, type := 0, pos := "read.go:189", after := #[{ on := 7, ground := Go.Ground.data }], guard := none }
def j2_9 : Oper := { dst := some 23, op := Go.Op.load 70 (Go.Operand.tmp 22), type := 70, pos := "read.go:189", after := #[{ on := 8, ground := Go.Ground.data }], guard := none }
def j2_10 : Oper := { dst := some 24, op := Go.Op.call { callee := Go.Callee.value (Go.Operand.func 54), args := #[Go.Operand.tmp 23, Go.Operand.const (Go.Value.int Go.IntKind.i64 3)], argTypes := #[70, 3] }, type := 63, pos := "read.go:189", after := #[{ on := 9, ground := Go.Ground.data }, { on := 4, ground := Go.Ground.chain }], guard := none }
def j2_11 : Oper := { dst := some 25, op := Go.Op.field 63 (Go.Operand.tmp 24) 1, type := 9, pos := "read.go:189", after := #[{ on := 10, ground := Go.Ground.data }, { on := 12, ground := Go.Ground.gcOnly Go.Departure.lateStores }], guard := none }
def j2_12 : Oper := { dst := some 5, op := Go.Op.assign (Go.Operand.tmp 19), type := 9, pos := "read.go:189", after := #[{ on := 5, ground := Go.Ground.data }, { on := 10, ground := Go.Ground.chain }, { on := 0, ground := Go.Ground.phase }, { on := 1, ground := Go.Ground.phase }, { on := 2, ground := Go.Ground.phase }, { on := 3, ground := Go.Ground.phase }, { on := 4, ground := Go.Ground.phase }, { on := 5, ground := Go.Ground.phase }, { on := 6, ground := Go.Ground.textOnly Go.Departure.lateStores }, { on := 7, ground := Go.Ground.textOnly Go.Departure.lateStores }, { on := 8, ground := Go.Ground.textOnly Go.Departure.lateStores }, { on := 9, ground := Go.Ground.textOnly Go.Departure.lateStores }, { on := 10, ground := Go.Ground.textOnly Go.Departure.lateStoresUnsure }, { on := 11, ground := Go.Ground.textOnly Go.Departure.lateStores }], guard := none }
def j2_13 : Oper := { dst := some 6, op := Go.Op.assign (Go.Operand.tmp 25), type := 9, pos := "read.go:189", after := #[{ on := 11, ground := Go.Ground.data }, { on := 12, ground := Go.Ground.chain }, { on := 0, ground := Go.Ground.phase }, { on := 1, ground := Go.Ground.phase }, { on := 2, ground := Go.Ground.phase }, { on := 3, ground := Go.Ground.phase }, { on := 4, ground := Go.Ground.phase }, { on := 5, ground := Go.Ground.phase }, { on := 6, ground := Go.Ground.phase }, { on := 7, ground := Go.Ground.phase }, { on := 8, ground := Go.Ground.phase }, { on := 9, ground := Go.Ground.phase }, { on := 10, ground := Go.Ground.phase }, { on := 11, ground := Go.Ground.phase }, { on := 12, ground := Go.Ground.phase }], guard := none }
def j9_0 : Oper := { dst := some 44, op := Go.Op.load 26 (Go.Operand.tmp 3), type := 26, pos := "read.go:196", after := #[], guard := none }
def j9_1 : Oper := { dst := some 45, op := Go.Op.load 26 (Go.Operand.tmp 4), type := 26, pos := "read.go:196", after := #[], guard := none }
def j9_2 : Oper := { dst := some 46, op := Go.Op.load 26 (Go.Operand.tmp 7), type := 26, pos := "read.go:196", after := #[], guard := none }
def j9_3 : Oper := { dst := some 47, op := Go.Op.load 26 (Go.Operand.tmp 8), type := 26, pos := "read.go:196", after := #[], guard := none }
def j9_4 : Oper := { dst := some 48, op := Go.Op.load 26 (Go.Operand.tmp 9), type := 26, pos := "read.go:196", after := #[], guard := none }
def j9_5 : Oper := { dst := some 49, op := Go.Op.move (Go.Operand.tmp 0), type := 92, pos := "read.go:196", after := #[], guard := none }
def j9_6 : Oper := { dst := some 50, op := Go.Op.call { callee := Go.Callee.value (Go.Operand.func 38), args := #[Go.Operand.tmp 49, Go.Operand.const (Go.Value.int Go.IntKind.i64 2)], argTypes := #[92, 3] }, type := 26, pos := "read.go:196", after := #[{ on := 5, ground := Go.Ground.data }], guard := none }
def j9_7 : Oper := { dst := some 51, op := Go.Op.buildSlice 24 6 #[(0, Go.Operand.tmp 44), (1, Go.Operand.tmp 45), (2, Go.Operand.tmp 46), (3, Go.Operand.tmp 47), (4, Go.Operand.tmp 48), (5, Go.Operand.tmp 50)], type := 24, pos := "read.go:196", after := #[{ on := 0, ground := Go.Ground.data }, { on := 1, ground := Go.Ground.data }, { on := 2, ground := Go.Ground.data }, { on := 3, ground := Go.Ground.data }, { on := 4, ground := Go.Ground.data }, { on := 6, ground := Go.Ground.data }], guard := none }
def j9_8 : Oper := { dst := some 2, op := Go.Op.assign (Go.Operand.tmp 51), type := 24, pos := "read.go:196", after := #[{ on := 7, ground := Go.Ground.data }, { on := 6, ground := Go.Ground.chain }, { on := 0, ground := Go.Ground.phase }, { on := 1, ground := Go.Ground.phase }, { on := 2, ground := Go.Ground.phase }, { on := 3, ground := Go.Ground.phase }, { on := 4, ground := Go.Ground.phase }, { on := 5, ground := Go.Ground.phase }, { on := 6, ground := Go.Ground.phase }, { on := 7, ground := Go.Ground.phase }], guard := none }

set_option maxHeartbeats 8000000 in
set_option maxRecDepth 20000 in
theorem rkidsJ_any (c : RC) (f : Nat) (tp : Int → Names → List Tok → Except Nat (Tm × List Tok)) (htp : TermC c f tp) (hlen : ∀ s N ts t r, tp s N ts = .ok (t, r) → r.length < ts.length) (N : Names) (ts : List Tok) (sl : Nat) (w : World) (hf : ts.length < f) (h : RSt c (sl + 100) N ts w) (hT : TabsR c.B w) :
    Calls Tryd.prog 75 #[.pointer (some ⟨c.R, 0, none⟩)] w (KidsG c sl N w (kidsJ tp c.E N ts)) := by
  obtain ⟨du, hu1, hu2⟩ := under_term
  have hlo := h.lo
  have HF0 := Lib.hid (Fr.refl c w)
  have HS0 := Lib.hid h
  have HT0 := Lib.hid hT
  have HL := Lib.hid htp
  have HLE := Lib.hid hlen
  obtain ⟨r0, r1, r2, r5, rlt⟩ := h.cells
  have hfld := field_tok
  clear htp h hT hlen
  go_enter Tryd.func75, Tryd.ntmps75
  go_wp2_with fail
  refine (HL.out.use 2 N ts (sl + 100) _ (by omega) HS0.out HT0.out).mono ?_
  intro e w1 hg
  cases hx : tp 2 N ts with
  | error a =>
    rw [hx] at hg
    obtain ⟨rfl, hf⟩ := hg
    unfold faultP
    go_wp2
    unfold kidsJ; rw [hx]
    exact ⟨rfl, rfl, HF0.out.trans hf⟩
  | ok m =>
  obtain ⟨t1, q1⟩ := m
  rw [hx] at hg
  obtain ⟨s, rfl, hl1, hfi1, hs1, hf1⟩ := hg
  obtain ⟨a1, p1, rfl, -, -⟩ := hl1.out
  have HX1 := Lib.hid hx
  have HLN1 := Lib.hid (HLE.out _ _ _ _ _ hx)
  have HS1 := Lib.hid hs1
  have HF1 := Lib.hid (HF0.out.trans hf1)
  have HT1 := Lib.hid (HT0.out.keep hf1.below)
  have HLL1 := Lib.hid (hl1.from (B' := w.heap.size) (by have := HF0.out.size; omega))
  have HFI1 := Lib.hid hfi1
  clear hl1 hfi1 hs1 hf1 hx r0 r1 r2 r5 rlt
  obtain ⟨r0, r1, r2, r5, rlt⟩ := HS1.out.cells
  unfold tv
  go_wp2_with fail
  refine (HL.out.use 2 N q1 (sl + 100) _ (by have := HLN1.out; omega) HS1.out HT1.out).mono ?_
  intro e w2 hg
  cases hx : tp 2 N q1 with
  | error a =>
    rw [hx] at hg
    obtain ⟨rfl, hf⟩ := hg
    unfold faultP
    go_wp2
    unfold kidsJ; rw [HX1.out]; simp only; rw [hx]
    exact ⟨rfl, rfl, HF1.out.trans hf⟩
  | ok m =>
  obtain ⟨t2, q2⟩ := m
  rw [hx] at hg
  obtain ⟨s, rfl, hl2, hfi2, hs2, hf2⟩ := hg
  obtain ⟨a2, p2, rfl, -, -⟩ := hl2.out
  have HX2 := Lib.hid hx
  have HLN2 := Lib.hid (HLE.out _ _ _ _ _ hx)
  have HS2 := Lib.hid hs2
  have HF2 := Lib.hid (HF1.out.trans hf2)
  have HT2 := Lib.hid (HT1.out.keep hf2.below)
  have HLL2 := Lib.hid (hl2.from (B' := w.heap.size) (by have := HF1.out.size; omega))
  have HFI2 := Lib.hid hfi2
  have HLL1 := Lib.hid (liesP_fr HLL1.out hf2)
  clear hl2 hfi2 hs2 hf2 hx r0 r1 r2 r5 rlt
  obtain ⟨r0, r1, r2, r5, rlt⟩ := HS2.out.cells
  unfold tv
  go_wp2_with fail
  have hal1 := al w2 (.cells #[.int .i64 t1.k, .int .i64 t1.i, .int .i64 t1.j, .int .i64 t1.n, .slice a1 t1.kids.length p1] 26)
  have hal2 := al (w2.alloc (.cells #[.int .i64 t1.k, .int .i64 t1.i, .int .i64 t1.j, .int .i64 t1.n, .slice a1 t1.kids.length p1] 26)) (.cells #[.int .i64 t2.k, .int .i64 t2.i, .int .i64 t2.j, .int .i64 t2.n, .slice a2 t2.kids.length p2] 26)
  have hal : Below w2.heap.size w2 ((w2.alloc (.cells #[.int .i64 t1.k, .int .i64 t1.i, .int .i64 t1.j, .int .i64 t1.n, .slice a1 t1.kids.length p1] 26)).alloc (.cells #[.int .i64 t2.k, .int .i64 t2.i, .int .i64 t2.j, .int .i64 t2.n, .slice a2 t2.kids.length p2] 26)) := hal1.trans (hal2.mono (by simp))
  have BX3 := Lib.hid ((boxT_new HLL1.out HFI1.out).below hal2)
  have BX4 := Lib.hid (show BoxT w.heap.size ((w2.alloc (.cells #[.int .i64 t1.k, .int .i64 t1.i, .int .i64 t1.j, .int .i64 t1.n, .slice a1 t1.kids.length p1] 26)).alloc (.cells #[.int .i64 t2.k, .int .i64 t2.i, .int .i64 t2.j, .int .i64 t2.n, .slice a2 t2.kids.length p2] 26)) (w2.heap.size + 1) t2 (.slice a2 t2.kids.length p2) from by have h := boxT_new (HLL2.out.later hal1) HFI2.out; rw [World.size_alloc] at h; exact h)
  have HS3 := Lib.hid (HS2.out.later hal)
  have HF3 := Lib.hid (HF2.out.trans (Fr.later hal HS2.out.lo))
  have HT3 := Lib.hid (HT2.out.keep (hal.mono HS2.out.lo))
  clear hal hal1 hal2
  have HSd := Lib.hid HS3.out.drew
  have hR0 := HS3.out.cells.1
  have hR0d := HSd.out.cells.1
  refine wp_region_held_drew (S := fun w' => w'.cell? ⟨c.R, 0, none⟩ = some (.pointer (some ⟨c.S, 0, none⟩))) (by kernel_rfl) ?_ (fun hHeld => ?_)
  · (try dsimp only)
    (first | exact hR5 | exact hR4 | exact hR0d | exact hR0)
  refine take_at 0 14 j2_0 (v := ?_) (Or.inl ⟨by rfl, ?_⟩) ?_
  rotate_left 1
  · ((intro w hSw; (try dsimp only at hSw); unfold j2_0; go_simp) <;> with_reducible rfl)
  (try simp only [Act.put, List.setIfInBounds_toArray, List.set_cons_zero, List.set_cons_succ])
  refine take_at 1 15 j2_1 (v := ?_) (Or.inl ⟨by rfl, ?_⟩) ?_
  rotate_left 1
  · ((intro w hSw; (try dsimp only at hSw); unfold j2_1; go_simp) <;> with_reducible rfl)
  (try simp only [Act.put, List.setIfInBounds_toArray, List.set_cons_zero, List.set_cons_succ])
  refine take_at 2 16 j2_2 (v := ?_) (Or.inl ⟨by rfl, ?_⟩) ?_
  rotate_left 1
  · ((intro w hSw; (try dsimp only at hSw); unfold j2_2; go_simp) <;> with_reducible rfl)
  (try simp only [Act.put, List.setIfInBounds_toArray, List.set_cons_zero, List.set_cons_succ])
  refine take_at 3 17 j2_3 (v := ?_) (Or.inl ⟨by rfl, ?_⟩) ?_
  rotate_left 1
  · ((intro w hSw; (try dsimp only at hSw); unfold j2_3; go_simp) <;> with_reducible rfl)
  (try simp only [Act.put, List.setIfInBounds_toArray, List.set_cons_zero, List.set_cons_succ])
  refine take_at 6 20 j2_6 (v := ?_) (Or.inl ⟨by rfl, ?_⟩) ?_
  rotate_left 1
  · ((intro w hSw; (try dsimp only at hSw); unfold j2_6; go_simp) <;> with_reducible rfl)
  (try simp only [Act.put, List.setIfInBounds_toArray, List.set_cons_zero, List.set_cons_succ])
  refine take_at 7 21 j2_7 (v := ?_) (Or.inl ⟨by rfl, ?_⟩) ?_
  rotate_left 1
  · ((intro w hSw; (try dsimp only at hSw); unfold j2_7; go_simp) <;> with_reducible rfl)
  (try simp only [Act.put, List.setIfInBounds_toArray, List.set_cons_zero, List.set_cons_succ])
  refine take_at 8 22 j2_8 (v := ?_) (Or.inl ⟨by rfl, ?_⟩) ?_
  rotate_left 1
  · ((intro w hSw; (try dsimp only at hSw); unfold j2_8; go_simp) <;> with_reducible rfl)
  (try simp only [Act.put, List.setIfInBounds_toArray, List.set_cons_zero, List.set_cons_succ])
  refine take_at 9 23 j2_9 (v := ?_) (Or.inl ⟨by rfl, ?_⟩) ?_
  rotate_left 1
  · ((intro w hSw; (try dsimp only at hSw); unfold j2_9; go_simp) <;> with_reducible rfl)
  (try simp only [Act.put, List.setIfInBounds_toArray, List.set_cons_zero, List.set_cons_succ])
  refine wpAnyH_ready (rs := [4]) (by kernel_rfl) (by simp) ?_
  refine AllReadyH.cons (o := j2_4) rfl (fun K hK => ?_) ?_
  · unfold j2_4
    go_simp
    (go_at_call 54; with_reducible refine Calls.mono (HSd.out.rtake 3) ?_; intro e w4 hg)
    cases hx : takeT c.E 3 q2 with
    | error a =>
      rw [hx] at hg
      obtain ⟨rfl, hf⟩ := hg
      unfold faultP
      go_wp2
      unfold kidsJ; rw [HX1.out]; simp only; rw [HX2.out]; simp only; rw [hx]
      exact ⟨rfl, rfl, HF3.out.trans ((Fr.drew (Fr.refl c _)).trans hf)⟩
    | ok m =>
    obtain ⟨t4, q4⟩ := m
    rw [hx] at hg
    obtain ⟨rfl, hs, hf⟩ := hg
    have HX4 := Lib.hid hx
    have HXN4 := Lib.hid (takeT_len hx)
    have HXK4 := Lib.hid (HSd.out.tokOk hx)
    have HS4 := Lib.hid hs
    have HF4 := Lib.hid (HF3.out.trans ((Fr.drew (Fr.refl c _)).trans hf))
    have HT4 := Lib.hid (HT3.out.keep (Fr.below ((Fr.drew (Fr.refl c _)).trans hf)))
    have BX3 := Lib.hid (BX3.out.fr ((Fr.drew (Fr.refl c _)).trans hf))
    have BX4 := Lib.hid (BX4.out.fr ((Fr.drew (Fr.refl c _)).trans hf))
    have hR4 := hs.cells.1
    clear hs hf hx hHeld
    refine hK.out _ _ ?_ (fun hHeld => ?_)
    · (try dsimp only)
      (first | exact hR5 | exact hR4 | exact hR0d | exact hR0)
    clear hK K
    (try simp only [Act.put, List.setIfInBounds_toArray, List.set_cons_zero, List.set_cons_succ])
    refine take_at 5 19 j2_5 (v := ?_) (Or.inl ⟨by rfl, ?_⟩) ?_
    rotate_left 1
    · ((intro w hSw; (try dsimp only at hSw); unfold j2_5; go_simp) <;> with_reducible rfl)
    (try simp only [Act.put, List.setIfInBounds_toArray, List.set_cons_zero, List.set_cons_succ])
    refine wpAnyH_ready (rs := [10]) (by kernel_rfl) (by simp) ?_
    refine AllReadyH.cons (o := j2_10) rfl (fun K hK => ?_) ?_
    · unfold j2_10
      go_simp
      (go_at_call 54; with_reducible refine Calls.mono (HS4.out.rtake 3) ?_; intro e w5 hg)
      cases hx : takeT c.E 3 q4 with
      | error a =>
        rw [hx] at hg
        obtain ⟨rfl, hf⟩ := hg
        unfold faultP
        go_wp2
        unfold kidsJ; rw [HX1.out]; simp only; rw [HX2.out]; simp only; rw [HX4.out]; simp only; rw [hx]
        exact ⟨rfl, rfl, HF4.out.trans hf⟩
      | ok m =>
      obtain ⟨t5, q5⟩ := m
      rw [hx] at hg
      obtain ⟨rfl, hs, hf⟩ := hg
      have HX5 := Lib.hid hx
      have HXN5 := Lib.hid (takeT_len hx)
      have HXK5 := Lib.hid (HS4.out.tokOk hx)
      have HS5 := Lib.hid hs
      have HF5 := Lib.hid (HF4.out.trans hf)
      have HT5 := Lib.hid (HT4.out.keep (Fr.below hf))
      have BX3 := Lib.hid (BX3.out.fr hf)
      have BX4 := Lib.hid (BX4.out.fr hf)
      have hR5 := hs.cells.1
      clear hs hf hx hHeld
      refine hK.out _ _ ?_ (fun hHeld => ?_)
      · (try dsimp only)
        (first | exact hR5 | exact hR4 | exact hR0d | exact hR0)
      clear hK K
      (try simp only [Act.put, List.setIfInBounds_toArray, List.set_cons_zero, List.set_cons_succ])
      refine take_at 11 25 j2_11 (v := ?_) (Or.inl ⟨by rfl, ?_⟩) ?_
      rotate_left 1
      · ((intro w hSw; (try dsimp only at hSw); unfold j2_11; go_simp) <;> with_reducible rfl)
      (try simp only [Act.put, List.setIfInBounds_toArray, List.set_cons_zero, List.set_cons_succ])
      refine take_at 12 5 j2_12 (v := ?_) (Or.inl ⟨by rfl, ?_⟩) ?_
      rotate_left 1
      · ((intro w hSw; (try dsimp only at hSw); unfold j2_12; go_simp) <;> with_reducible rfl)
      (try simp only [Act.put, List.setIfInBounds_toArray, List.set_cons_zero, List.set_cons_succ])
      refine take_at 13 6 j2_13 (v := ?_) (Or.inl ⟨by rfl, ?_⟩) ?_
      rotate_left 1
      · ((intro w hSw; (try dsimp only at hSw); unfold j2_13; go_simp) <;> with_reducible rfl)
      (try simp only [Act.put, List.setIfInBounds_toArray, List.set_cons_zero, List.set_cons_succ])
      refine wpAnyH_done (by kernel_rfl) ?_ _
      clear hHeld hR0 hR0d hR4 hR5 r0 r1 r2 r5 rlt
      obtain ⟨r0, r1, r2, r5, rlt⟩ := HS5.out.cells
      go_wp2_with fail
      refine (bind_any c (sl + 299) t4.s N q5 w5 (HS5.out.less (by omega)) HXK4.out).mono ?_
      rintro e w6 ⟨rfl, hs, hf⟩
      have HS6 := Lib.hid hs
      have HF6 := Lib.hid (HF5.out.trans hf)
      have HT6 := Lib.hid (HT5.out.keep hf.below)
      have BX3 := Lib.hid (BX3.out.fr hf)
      have BX4 := Lib.hid (BX4.out.fr hf)
      clear hs hf r0 r1 r2 r5 rlt
      obtain ⟨r0, r1, r2, r5, rlt⟩ := HS6.out.cells
      go_wp2_with fail
      refine (bind_any c (sl + 298) t5.s (t4.s :: N) q5 w6 HS6.out HXK5.out).mono ?_
      rintro e w7 ⟨rfl, hs, hf⟩
      have HS7 := Lib.hid hs
      have HF7 := Lib.hid (HF6.out.trans hf)
      have HT7 := Lib.hid (HT6.out.keep hf.below)
      have BX3 := Lib.hid (BX3.out.fr hf)
      have BX4 := Lib.hid (BX4.out.fr hf)
      clear hs hf r0 r1 r2 r5 rlt
      obtain ⟨r0, r1, r2, r5, rlt⟩ := HS7.out.cells
      go_wp2_with fail
      refine (HL.out.use 2 (t5.s :: t4.s :: N) q5 (sl + 298) _ (by have := HLN1.out; have := HLN2.out; have := HXN4.out; have := HXN5.out; omega) HS7.out HT7.out).mono ?_
      intro e w8 hg
      cases hx : tp 2 (t5.s :: t4.s :: N) q5 with
      | error a =>
        rw [hx] at hg
        obtain ⟨rfl, hf⟩ := hg
        unfold faultP
        go_wp2
        unfold kidsJ; rw [HX1.out]; simp only; rw [HX2.out]; simp only; rw [HX4.out]; simp only; rw [HX5.out]; simp only; rw [hx]
        exact ⟨rfl, rfl, HF7.out.trans hf⟩
      | ok m =>
      obtain ⟨t8, q8⟩ := m
      rw [hx] at hg
      obtain ⟨s, rfl, hl8, hfi8, hs8, hf8⟩ := hg
      obtain ⟨a8, p8, rfl, -, -⟩ := hl8.out
      have HX8 := Lib.hid hx
      have HLN8 := Lib.hid (HLE.out _ _ _ _ _ hx)
      have HS8 := Lib.hid hs8
      have HF8 := Lib.hid (HF7.out.trans hf8)
      have HT8 := Lib.hid (HT7.out.keep hf8.below)
      have HLL8 := Lib.hid (hl8.from (B' := w.heap.size) (by have := HF7.out.size; omega))
      have HFI8 := Lib.hid hfi8
      have BX3 := Lib.hid (BX3.out.fr hf8)
      have BX4 := Lib.hid (BX4.out.fr hf8)
      clear hl8 hfi8 hs8 hf8 hx r0 r1 r2 r5 rlt
      obtain ⟨r0, r1, r2, r5, rlt⟩ := HS8.out.cells
      unfold tv
      go_wp2_with fail
      have hal1 := al w8 (.cells #[.int .i64 t8.k, .int .i64 t8.i, .int .i64 t8.j, .int .i64 t8.n, .slice a8 t8.kids.length p8] 26)
      have hal := hal1
      have BX7 := Lib.hid (boxT_new HLL8.out HFI8.out)
      have BX3 := Lib.hid (BX3.out.below hal)
      have BX4 := Lib.hid (BX4.out.below hal)
      have HS9 := Lib.hid (HS8.out.later hal)
      have HF9 := Lib.hid (HF8.out.trans (Fr.later hal HS8.out.lo))
      have HT9 := Lib.hid (HT8.out.keep (hal.mono HS8.out.lo))
      clear hal hal1
      clear r0 r1 r2 r5 rlt
      obtain ⟨r0, r1, r2, r5, rlt⟩ := HS9.out.cells
      refine (unbind_any c (sl + 297) t5.s (t4.s :: N) q8 _ HS9.out HXK5.out (by have := HS0.out.inner; simp; omega)).mono ?_
      rintro e w10 ⟨rfl, hs, hf⟩
      have HS10 := Lib.hid hs
      have HF10 := Lib.hid (HF9.out.trans hf)
      have HT10 := Lib.hid (HT9.out.keep hf.below)
      have BX3 := Lib.hid (BX3.out.fr hf)
      have BX4 := Lib.hid (BX4.out.fr hf)
      have BX7 := Lib.hid (BX7.out.fr hf)
      clear hs hf r0 r1 r2 r5 rlt
      obtain ⟨r0, r1, r2, r5, rlt⟩ := HS10.out.cells
      go_wp2_with fail
      refine (unbind_any c (sl + 296) t4.s N q8 _ HS10.out HXK4.out (by have := HS0.out.inner; simp; omega)).mono ?_
      rintro e w11 ⟨rfl, hs, hf⟩
      have HS11 := Lib.hid hs
      have HF11 := Lib.hid (HF10.out.trans hf)
      have HT11 := Lib.hid (HT10.out.keep hf.below)
      have BX3 := Lib.hid (BX3.out.fr hf)
      have BX4 := Lib.hid (BX4.out.fr hf)
      have BX7 := Lib.hid (BX7.out.fr hf)
      clear hs hf r0 r1 r2 r5 rlt
      obtain ⟨r0, r1, r2, r5, rlt⟩ := HS11.out.cells
      go_wp2_with fail
      refine (HL.out.use 2 N q8 (sl + 296) _ (by have := HLN1.out; have := HLN2.out; have := HXN4.out; have := HXN5.out; have := HLN8.out; omega) HS11.out HT11.out).mono ?_
      intro e w12 hg
      cases hx : tp 2 N q8 with
      | error a =>
        rw [hx] at hg
        obtain ⟨rfl, hf⟩ := hg
        unfold faultP
        go_wp2
        unfold kidsJ; rw [HX1.out]; simp only; rw [HX2.out]; simp only; rw [HX4.out]; simp only; rw [HX5.out]; simp only; rw [HX8.out]; simp only; rw [hx]
        exact ⟨rfl, rfl, HF11.out.trans hf⟩
      | ok m =>
      obtain ⟨t12, q12⟩ := m
      rw [hx] at hg
      obtain ⟨s, rfl, hl12, hfi12, hs12, hf12⟩ := hg
      obtain ⟨a12, p12, rfl, -, -⟩ := hl12.out
      have HX12 := Lib.hid hx
      have HLN12 := Lib.hid (HLE.out _ _ _ _ _ hx)
      have HS12 := Lib.hid hs12
      have HF12 := Lib.hid (HF11.out.trans hf12)
      have HT12 := Lib.hid (HT11.out.keep hf12.below)
      have HLL12 := Lib.hid (hl12.from (B' := w.heap.size) (by have := HF11.out.size; omega))
      have HFI12 := Lib.hid hfi12
      have BX3 := Lib.hid (BX3.out.fr hf12)
      have BX4 := Lib.hid (BX4.out.fr hf12)
      have BX7 := Lib.hid (BX7.out.fr hf12)
      clear hl12 hfi12 hs12 hf12 hx r0 r1 r2 r5 rlt
      obtain ⟨r0, r1, r2, r5, rlt⟩ := HS12.out.cells
      unfold tv
      go_wp2_with fail
      refine (HL.out.use 2 N q12 (sl + 296) _ (by have := HLN1.out; have := HLN2.out; have := HXN4.out; have := HXN5.out; have := HLN8.out; have := HLN12.out; omega) HS12.out HT12.out).mono ?_
      intro e w13 hg
      cases hx : tp 2 N q12 with
      | error a =>
        rw [hx] at hg
        obtain ⟨rfl, hf⟩ := hg
        unfold faultP
        go_wp2
        unfold kidsJ; rw [HX1.out]; simp only; rw [HX2.out]; simp only; rw [HX4.out]; simp only; rw [HX5.out]; simp only; rw [HX8.out]; simp only; rw [HX12.out]; simp only; rw [hx]
        exact ⟨rfl, rfl, HF12.out.trans hf⟩
      | ok m =>
      obtain ⟨t13, q13⟩ := m
      rw [hx] at hg
      obtain ⟨s, rfl, hl13, hfi13, hs13, hf13⟩ := hg
      obtain ⟨a13, p13, rfl, -, -⟩ := hl13.out
      have HX13 := Lib.hid hx
      have HLN13 := Lib.hid (HLE.out _ _ _ _ _ hx)
      have HS13 := Lib.hid hs13
      have HF13 := Lib.hid (HF12.out.trans hf13)
      have HT13 := Lib.hid (HT12.out.keep hf13.below)
      have HLL13 := Lib.hid (hl13.from (B' := w.heap.size) (by have := HF12.out.size; omega))
      have HFI13 := Lib.hid hfi13
      have BX3 := Lib.hid (BX3.out.fr hf13)
      have BX4 := Lib.hid (BX4.out.fr hf13)
      have BX7 := Lib.hid (BX7.out.fr hf13)
      have HLL12 := Lib.hid (liesP_fr HLL12.out hf13)
      clear hl13 hfi13 hs13 hf13 hx r0 r1 r2 r5 rlt
      obtain ⟨r0, r1, r2, r5, rlt⟩ := HS13.out.cells
      unfold tv
      go_wp2_with fail
      have hal1 := al w13 (.cells #[.int .i64 t12.k, .int .i64 t12.i, .int .i64 t12.j, .int .i64 t12.n, .slice a12 t12.kids.length p12] 26)
      have hal2 := al (w13.alloc (.cells #[.int .i64 t12.k, .int .i64 t12.i, .int .i64 t12.j, .int .i64 t12.n, .slice a12 t12.kids.length p12] 26)) (.cells #[.int .i64 t13.k, .int .i64 t13.i, .int .i64 t13.j, .int .i64 t13.n, .slice a13 t13.kids.length p13] 26)
      have hal : Below w13.heap.size w13 ((w13.alloc (.cells #[.int .i64 t12.k, .int .i64 t12.i, .int .i64 t12.j, .int .i64 t12.n, .slice a12 t12.kids.length p12] 26)).alloc (.cells #[.int .i64 t13.k, .int .i64 t13.i, .int .i64 t13.j, .int .i64 t13.n, .slice a13 t13.kids.length p13] 26)) := hal1.trans (hal2.mono (by simp))
      have BX8 := Lib.hid ((boxT_new HLL12.out HFI12.out).below hal2)
      have BX9 := Lib.hid (show BoxT w.heap.size ((w13.alloc (.cells #[.int .i64 t12.k, .int .i64 t12.i, .int .i64 t12.j, .int .i64 t12.n, .slice a12 t12.kids.length p12] 26)).alloc (.cells #[.int .i64 t13.k, .int .i64 t13.i, .int .i64 t13.j, .int .i64 t13.n, .slice a13 t13.kids.length p13] 26)) (w13.heap.size + 1) t13 (.slice a13 t13.kids.length p13) from by have h := boxT_new (HLL13.out.later hal1) HFI13.out; rw [World.size_alloc] at h; exact h)
      have BX3 := Lib.hid (BX3.out.below hal)
      have BX4 := Lib.hid (BX4.out.below hal)
      have BX7 := Lib.hid (BX7.out.below hal)
      have HS14 := Lib.hid (HS13.out.later hal)
      have HF14 := Lib.hid (HF13.out.trans (Fr.later hal HS13.out.lo))
      have HT14 := Lib.hid (HT13.out.keep (hal.mono HS13.out.lo))
      clear hal hal1 hal2
      have HSe := Lib.hid HS14.out.drew
      have HTe := Lib.hid (HT14.out.keep (Fr.below (Fr.drew (Fr.refl c _))))
      refine wp_region_held_drew (S := fun w' => w'.heap[w2.heap.size]? = some (.cells #[.int .i64 t1.k, .int .i64 t1.i, .int .i64 t1.j, .int .i64 t1.n, .slice a1 t1.kids.length p1] 26) ∧ w'.heap[w2.heap.size + 1]? = some (.cells #[.int .i64 t2.k, .int .i64 t2.i, .int .i64 t2.j, .int .i64 t2.n, .slice a2 t2.kids.length p2] 26) ∧ w'.heap[w8.heap.size]? = some (.cells #[.int .i64 t8.k, .int .i64 t8.i, .int .i64 t8.j, .int .i64 t8.n, .slice a8 t8.kids.length p8] 26) ∧ w'.heap[w13.heap.size]? = some (.cells #[.int .i64 t12.k, .int .i64 t12.i, .int .i64 t12.j, .int .i64 t12.n, .slice a12 t12.kids.length p12] 26) ∧ w'.heap[w13.heap.size + 1]? = some (.cells #[.int .i64 t13.k, .int .i64 t13.i, .int .i64 t13.j, .int .i64 t13.n, .slice a13 t13.kids.length p13] 26)) (by kernel_rfl) ?_ (fun hHeld => ?_)
      · (try dsimp only)
        (first | exact hS16 | exact hS15 | exact ⟨BX3.out.box, BX4.out.box, BX7.out.box, BX8.out.box, BX9.out.box⟩)
      refine take_at 0 44 j9_0 (yields_row (w2.heap.size) _ _ _ #[.int .i64 t1.k, .int .i64 t1.i, .int .i64 t1.j, .int .i64 t1.n, .slice a1 t1.kids.length p1] _ du (by rfl) rfl (by rfl) (fun w' h => h.1) hu1 (by cases du <;> first | rfl | exact hu2) size_term) ?_
      (try simp only [Act.put, List.setIfInBounds_toArray, List.set_cons_zero, List.set_cons_succ])
      refine take_at 1 45 j9_1 (yields_row (w2.heap.size + 1) _ _ _ #[.int .i64 t2.k, .int .i64 t2.i, .int .i64 t2.j, .int .i64 t2.n, .slice a2 t2.kids.length p2] _ du (by rfl) rfl (by rfl) (fun w' h => h.2.1) hu1 (by cases du <;> first | rfl | exact hu2) size_term) ?_
      (try simp only [Act.put, List.setIfInBounds_toArray, List.set_cons_zero, List.set_cons_succ])
      refine take_at 2 46 j9_2 (yields_row (w8.heap.size) _ _ _ #[.int .i64 t8.k, .int .i64 t8.i, .int .i64 t8.j, .int .i64 t8.n, .slice a8 t8.kids.length p8] _ du (by rfl) rfl (by rfl) (fun w' h => h.2.2.1) hu1 (by cases du <;> first | rfl | exact hu2) size_term) ?_
      (try simp only [Act.put, List.setIfInBounds_toArray, List.set_cons_zero, List.set_cons_succ])
      refine take_at 3 47 j9_3 (yields_row (w13.heap.size) _ _ _ #[.int .i64 t12.k, .int .i64 t12.i, .int .i64 t12.j, .int .i64 t12.n, .slice a12 t12.kids.length p12] _ du (by rfl) rfl (by rfl) (fun w' h => h.2.2.2.1) hu1 (by cases du <;> first | rfl | exact hu2) size_term) ?_
      (try simp only [Act.put, List.setIfInBounds_toArray, List.set_cons_zero, List.set_cons_succ])
      refine take_at 4 48 j9_4 (yields_row (w13.heap.size + 1) _ _ _ #[.int .i64 t13.k, .int .i64 t13.i, .int .i64 t13.j, .int .i64 t13.n, .slice a13 t13.kids.length p13] _ du (by rfl) rfl (by rfl) (fun w' h => h.2.2.2.2) hu1 (by cases du <;> first | rfl | exact hu2) size_term) ?_
      (try simp only [Act.put, List.setIfInBounds_toArray, List.set_cons_zero, List.set_cons_succ])
      refine take_at 5 49 j9_5 (v := ?_) (Or.inl ⟨by rfl, ?_⟩) ?_
      rotate_left 1
      · ((intro w hSw; (try dsimp only at hSw); unfold j9_5; go_simp) <;> with_reducible rfl)
      (try simp only [Act.put, List.setIfInBounds_toArray, List.set_cons_zero, List.set_cons_succ])
      refine wpAnyH_ready (rs := [6]) (by kernel_rfl) (by simp) ?_
      refine AllReadyH.cons (o := j9_6) rfl (fun K hK => ?_) ?_
      · unfold j9_6
        go_simp
        (go_at_call 38; with_reducible refine Calls.mono (HL.out.use 2 N q13 (sl + 296) _ (by have := HLN1.out; have := HLN2.out; have := HXN4.out; have := HXN5.out; have := HLN8.out; have := HLN12.out; have := HLN13.out; omega) HSe.out HTe.out) ?_; intro e w15 hg)
        cases hx : tp 2 N q13 with
        | error a =>
          rw [hx] at hg
          obtain ⟨rfl, hf⟩ := hg
          unfold faultP
          go_wp2
          unfold kidsJ; rw [HX1.out]; simp only; rw [HX2.out]; simp only; rw [HX4.out]; simp only; rw [HX5.out]; simp only; rw [HX8.out]; simp only; rw [HX12.out]; simp only; rw [HX13.out]; simp only; rw [hx]
          exact ⟨rfl, rfl, HF14.out.trans ((Fr.drew (Fr.refl c _)).trans hf)⟩
        | ok m =>
        obtain ⟨t15, q15⟩ := m
        rw [hx] at hg
        obtain ⟨s, rfl, hl, hfi, hs, hf⟩ := hg
        obtain ⟨a15, p15, rfl, -, -⟩ := hl.out
        have HX15 := Lib.hid hx
        have HS15 := Lib.hid hs
        have hfd := (Fr.drew (Fr.refl c _)).trans hf
        have HF15 := Lib.hid (HF14.out.trans hfd)
        have HLL15 := Lib.hid (hl.from (B' := w.heap.size) (by have := HF14.out.size; exact this))
        have HFI15 := Lib.hid hfi
        have BX3 := Lib.hid (BX3.out.fr hfd)
        have BX4 := Lib.hid (BX4.out.fr hfd)
        have BX7 := Lib.hid (BX7.out.fr hfd)
        have BX8 := Lib.hid (BX8.out.fr hfd)
        have BX9 := Lib.hid (BX9.out.fr hfd)
        have hS15 : (fun w' => w'.heap[w2.heap.size]? = some (.cells #[.int .i64 t1.k, .int .i64 t1.i, .int .i64 t1.j, .int .i64 t1.n, .slice a1 t1.kids.length p1] 26) ∧ w'.heap[w2.heap.size + 1]? = some (.cells #[.int .i64 t2.k, .int .i64 t2.i, .int .i64 t2.j, .int .i64 t2.n, .slice a2 t2.kids.length p2] 26) ∧ w'.heap[w8.heap.size]? = some (.cells #[.int .i64 t8.k, .int .i64 t8.i, .int .i64 t8.j, .int .i64 t8.n, .slice a8 t8.kids.length p8] 26) ∧ w'.heap[w13.heap.size]? = some (.cells #[.int .i64 t12.k, .int .i64 t12.i, .int .i64 t12.j, .int .i64 t12.n, .slice a12 t12.kids.length p12] 26) ∧ w'.heap[w13.heap.size + 1]? = some (.cells #[.int .i64 t13.k, .int .i64 t13.i, .int .i64 t13.j, .int .i64 t13.n, .slice a13 t13.kids.length p13] 26)) w15 := ⟨BX3.out.box, BX4.out.box, BX7.out.box, BX8.out.box, BX9.out.box⟩
        clear hl hfi hs hf hfd hx hHeld
        unfold tv
        refine hK.out _ _ ?_ (fun hHeld => ?_)
        · (try dsimp only)
          (first | exact hS16 | exact hS15 | exact ⟨BX3.out.box, BX4.out.box, BX7.out.box, BX8.out.box, BX9.out.box⟩)
        clear hK K
        (try simp only [Act.put, List.setIfInBounds_toArray, List.set_cons_zero, List.set_cons_succ])
        refine wpAnyH_ready (rs := [7]) (by kernel_rfl) (by simp) ?_
        refine AllReadyH.cons (o := j9_7) rfl (fun K hK => ?_) ?_
        · unfold j9_7
          go_simp
          have hS16 : (fun w' => w'.heap[w2.heap.size]? = some (.cells #[.int .i64 t1.k, .int .i64 t1.i, .int .i64 t1.j, .int .i64 t1.n, .slice a1 t1.kids.length p1] 26) ∧ w'.heap[w2.heap.size + 1]? = some (.cells #[.int .i64 t2.k, .int .i64 t2.i, .int .i64 t2.j, .int .i64 t2.n, .slice a2 t2.kids.length p2] 26) ∧ w'.heap[w8.heap.size]? = some (.cells #[.int .i64 t8.k, .int .i64 t8.i, .int .i64 t8.j, .int .i64 t8.n, .slice a8 t8.kids.length p8] 26) ∧ w'.heap[w13.heap.size]? = some (.cells #[.int .i64 t12.k, .int .i64 t12.i, .int .i64 t12.j, .int .i64 t12.n, .slice a12 t12.kids.length p12] 26) ∧ w'.heap[w13.heap.size + 1]? = some (.cells #[.int .i64 t13.k, .int .i64 t13.i, .int .i64 t13.j, .int .i64 t13.n, .slice a13 t13.kids.length p13] 26)) (w15.alloc (.cells (cells5 [(t1, .slice a1 t1.kids.length p1), (t2, .slice a2 t2.kids.length p2), (t8, .slice a8 t8.kids.length p8), (t12, .slice a12 t12.kids.length p12), (t13, .slice a13 t13.kids.length p13), (t15, .slice a15 t15.kids.length p15)]).toArray 26)) := ⟨(BX3.out.below (al w15 _)).box, (BX4.out.below (al w15 _)).box, (BX7.out.below (al w15 _)).box, (BX8.out.below (al w15 _)).box, (BX9.out.below (al w15 _)).box⟩
          clear hHeld
          refine hK.out _ _ ?_ (fun hHeld => ?_)
          · (try dsimp only)
            (first | exact hS16 | exact hS15 | exact ⟨BX3.out.box, BX4.out.box, BX7.out.box, BX8.out.box, BX9.out.box⟩)
          clear hK K
          (try simp only [Act.put, List.setIfInBounds_toArray, List.set_cons_zero, List.set_cons_succ])
          refine take_at 8 2 j9_8 (v := ?_) (Or.inl ⟨by rfl, ?_⟩) ?_
          rotate_left 1
          · ((intro w hSw; (try dsimp only at hSw); unfold j9_8; go_simp) <;> with_reducible rfl)
          (try simp only [Act.put, List.setIfInBounds_toArray, List.set_cons_zero, List.set_cons_succ])
          refine wpAnyH_done (by kernel_rfl) ?_ _
          have HSIX := Lib.hid (six_made (B := w.heap.size) (w := w15) (by have := HF15.out.size; omega) (ps := [(t1, .slice a1 t1.kids.length p1), (t2, .slice a2 t2.kids.length p2), (t8, .slice a8 t8.kids.length p8), (t12, .slice a12 t12.kids.length p12), (t13, .slice a13 t13.kids.length p13), (t15, .slice a15 t15.kids.length p15)]) rfl (by
            intro p hp
            simp only [List.mem_cons, List.not_mem_nil, or_false] at hp
            rcases hp with rfl | rfl | rfl | rfl | rfl | rfl
            · exact BX3.out.fine
            · exact BX4.out.fine
            · exact BX7.out.fine
            · exact BX8.out.fine
            · exact BX9.out.fine
            · exact HFI15.out) (by
            intro p hp
            simp only [List.mem_cons, List.not_mem_nil, or_false] at hp
            rcases hp with rfl | rfl | rfl | rfl | rfl | rfl
            · exact BX3.out.kids
            · exact BX4.out.kids
            · exact BX7.out.kids
            · exact BX8.out.kids
            · exact BX9.out.kids
            · exact HLL15.out))
          clear hHeld hS15 hS16
          go_wp2
          go_ret
          unfold kidsJ; rw [HX1.out]; simp only; rw [HX2.out]; simp only; rw [HX4.out]; simp only; rw [HX5.out]; simp only; rw [HX8.out]; simp only; rw [HX12.out]; simp only; rw [HX13.out]; simp only; rw [HX15.out]
          exact ⟨_, rfl, HSIX.out, (HS15.out.later (al w15 _)).less (by omega), HF15.out.trans (Fr.later (al w15 _) HS15.out.lo)⟩
        exact AllReadyH.nil
      exact AllReadyH.nil
    exact AllReadyH.nil
  exact AllReadyH.nil
end Go.Proofs.YtpekceadjcbphaaDoor

namespace Go.Proofs.YtpekceadjcbphaaDoor
open Go.RowKit Go.Maps Go.ChangeShapes

/-- The state while a list is read: the result's block G, the box b of the term so far. -/
structure LSt (c : RC) (sl : Nat) (N : Names) (w0 : World) (b : Nat) (k i j n : Int) (s : Value) (q : List Tok) (w : World) : Prop where
  st : RSt c sl N q w
  fr : Fr c w0 w
  tab : TabsR c.B w
  zg : w.heap[w0.heap.size]? = some (zeroT)
  bx : w.heap[b]? = some (.cells #[.int .i64 k, .int .i64 i, .int .i64 j, .int .i64 n, s] 26 (0, 0))
theorem LSt.on {c : RC} {sl sl' : Nat} {N : Names} {w0 : World} {b : Nat} {k i j n : Int} {s : Value} {q q' : List Tok} {w w' : World} (h : LSt c sl N w0 b k i j n s q w) (hf : Fr c w w') (hs : RSt c sl' N q' w') : LSt c sl' N w0 b k i j n s q' w' :=
  ⟨hs, h.fr.trans hf, h.tab.keep hf.below, hf.kept _ _ _ _ h.zg (by decide) (by decide) (by decide), hf.kept _ _ _ _ h.bx (by decide) (by decide) (by decide)⟩
theorem LSt.turn {c : RC} {sl : Nat} {N : Names} {w0 : World} {b : Nat} {k i j n k' i' j' n' : Int} {s s' : Value} {q : List Tok} {w w' : World} (h : LSt c sl N w0 b k i j n s q w) (hlo : c.B ≤ w0.heap.size) (hb : w0.heap.size < b) (hg : w.grownBy w' (some b)) (hx : w'.heap[b]? = some (.cells #[.int .i64 k', .int .i64 i', .int .i64 j', .int .i64 n', s'] 26 (0, 0))) : LSt c sl N w0 b k' i' j' n' s' q w' :=
  ⟨h.st.other hg h.bx (by omega), h.fr.other hg (by omega) hlo, h.tab.keep ⟨hg.os, hg.tape, hg.output, hg.size, fun p hp => hg.block p (by have := h.st.lo; omega) (fun e => by have := Option.some.inj e; omega)⟩, by rw [hg.block _ (hlt_of h.zg) (fun e => by have := Option.some.inj e; omega)]; exact h.zg, hx⟩
theorem g1 (w : World) (b i : Nat) (v : Value) : w.grownBy (w.setCell ⟨b, i, none⟩ v) (some b) := grown_at ⟨rfl, rfl, rfl, Nat.le_refl _, fun _ _ _ => rfl⟩ i v
theorem LSt.setN {c : RC} {sl : Nat} {N : Names} {w0 : World} {b : Nat} {k i j n : Int} {s : Value} {q : List Tok} {w : World} (h : LSt c sl N w0 b k i j n s q w) (hlo : c.B ≤ w0.heap.size) (hb : w0.heap.size < b) (m : Int) : LSt c sl N w0 b k i j m s q (w.setCell ⟨b, 3, none⟩ (.int .i64 m)) := h.turn hlo hb (g1 _ _ _ _) (heap_setCell_same _ _ _ _ _ _ h.bx)
theorem LSt.setI {c : RC} {sl : Nat} {N : Names} {w0 : World} {b : Nat} {k i j n : Int} {s : Value} {q : List Tok} {w : World} (h : LSt c sl N w0 b k i j n s q w) (hlo : c.B ≤ w0.heap.size) (hb : w0.heap.size < b) (m : Int) : LSt c sl N w0 b k m j n s q (w.setCell ⟨b, 1, none⟩ (.int .i64 m)) := h.turn hlo hb (g1 _ _ _ _) (heap_setCell_same _ _ _ _ _ _ h.bx)
theorem LSt.setJ {c : RC} {sl : Nat} {N : Names} {w0 : World} {b : Nat} {k i j n : Int} {s : Value} {q : List Tok} {w : World} (h : LSt c sl N w0 b k i j n s q w) (hlo : c.B ≤ w0.heap.size) (hb : w0.heap.size < b) (m : Int) : LSt c sl N w0 b k i m n s q (w.setCell ⟨b, 2, none⟩ (.int .i64 m)) := h.turn hlo hb (g1 _ _ _ _) (heap_setCell_same _ _ _ _ _ _ h.bx)
theorem LSt.setS {c : RC} {sl : Nat} {N : Names} {w0 : World} {b : Nat} {k i j n : Int} {s : Value} {q : List Tok} {w : World} (h : LSt c sl N w0 b k i j n s q w) (hlo : c.B ≤ w0.heap.size) (hb : w0.heap.size < b) (s' : Value) : LSt c sl N w0 b k i j n s' q (w.setCell ⟨b, 4, none⟩ s') := h.turn hlo hb (g1 _ _ _ _) (heap_setCell_same _ _ _ _ _ _ h.bx)
theorem headN_range (x : List UInt8) : 0 ≤ headN x ∧ headN x ≤ 30 := by
  unfold headN
  split
  · omega
  · split
    · rename_i i hi
      have := idxL_lt hi
      simp [headsW] at this
      omega
    · omega
theorem symN_range (x : List UInt8) : 0 ≤ symN x ∧ symN x ≤ 30 := by
  unfold symN
  split
  · rename_i i hi
    have := idxL_lt hi
    simp [symsW] at this
    omega
  · omega
theorem levelsN_range (k : Int) : 0 ≤ levelsN k ∧ levelsN k ≤ 2 := by unfold levelsN; (repeat' split) <;> omega
theorem body1 {lv : List Tok → Except Nat (Int × List Tok)} {tp : Int → Names → List Tok → Except Nat (Tm × List Tok)} {E : Nat} {k : Int} {N : Names} {ts : List Tok} {a : Nat} (h : symP E k ts = .error a) : bodyP lv tp E k N ts = .error a := by unfold bodyP; rw [h]
theorem body2 {lv : List Tok → Except Nat (Int × List Tok)} {tp : Int → Names → List Tok → Except Nat (Tm × List Tok)} {E : Nat} {k n : Int} {N : Names} {ts r1 : List Tok} {a : Nat} (h : symP E k ts = .ok (n, r1)) (h1 : lvaP lv k r1 = .error a) : bodyP lv tp E k N ts = .error a := by unfold bodyP; rw [h]; simp only; rw [h1]
theorem body3 {lv : List Tok → Except Nat (Int × List Tok)} {tp : Int → Names → List Tok → Except Nat (Tm × List Tok)} {E : Nat} {k n i : Int} {N : Names} {ts r1 r2 : List Tok} {a : Nat} (h : symP E k ts = .ok (n, r1)) (h1 : lvaP lv k r1 = .ok (i, r2)) (h2 : lvbP lv k r2 = .error a) : bodyP lv tp E k N ts = .error a := by unfold bodyP; rw [h]; simp only; rw [h1]; simp only; rw [h2]
theorem body4 {lv : List Tok → Except Nat (Int × List Tok)} {tp : Int → Names → List Tok → Except Nat (Tm × List Tok)} {E : Nat} {k n i j : Int} {N : Names} {ts r1 r2 r3 : List Tok} (h : symP E k ts = .ok (n, r1)) (h1 : lvaP lv k r1 = .ok (i, r2)) (h2 : lvbP lv k r2 = .ok (j, r3)) : bodyP lv tp E k N ts = (match kdsP tp E k n N r3 with
    | .error e => .error e
    | .ok (l, r4) => match takeT E 2 r4 with
      | .error e => .error e
      | .ok (_, r5) => .ok (.mk k i j n l, r5)) := by unfold bodyP; rw [h]; simp only; rw [h1]; simp only; rw [h2]; rfl
set_option maxHeartbeats 8000000 in
set_option maxRecDepth 20000 in
theorem rlist_any (c : RC) (f : Nat) (lv : List Tok → Except Nat (Int × List Tok)) (tp : Int → Names → List Tok → Except Nat (Tm × List Tok)) (hlv : LevelC c f lv) (hll : ∀ ts n r, lv ts = .ok (n, r) → r.length < ts.length ∧ n ≤ 1000) (htp : TermC c f tp) (hlen : ∀ s N ts t r, tp s N ts = .ok (t, r) → r.length < ts.length) : ListC c f lv tp := by
  intro so N t r sl w hf ht1 h hT
  obtain ⟨du, hu1, hu2⟩ := under_term
  have hlo := h.lo
  have hB1 := al w (zeroT)
  have HF0 := Lib.hid (Fr.later hB1 hlo)
  have HS0 := Lib.hid (h.later hB1)
  have HT0 := Lib.hid (hT.keep HF0.out.below)
  have HG0 := Lib.hid (show (w.alloc (zeroT)).heap[w.heap.size]? = some (zeroT) from alloc_new _ _)
  have HK := Lib.hid (fun (k n own : Int) (q : List Tok) (sl : Nat) (w : World) (h1 : q.length < f) (h2 : RSt c (sl + 100) N q w) (h3 : TabsR c.B w) => rkids_any c f tp htp hlen k 0 0 n own N q sl w h1 h2 h3)
  have HKJ := Lib.hid (fun (q : List Tok) (sl : Nat) (w : World) (h1 : q.length < f) (h2 : RSt c (sl + 100) N q w) (h3 : TabsR c.B w) => rkidsJ_any c f tp htp hlen N q sl w h1 h2 h3)
  have HKK := Lib.hid (fun (k i j n own : Int) (q : List Tok) (sl : Nat) (w : World) (h1 : q.length < f) (h2 : RSt c (sl + 100) N q w) (h3 : TabsR c.B w) => rkids_any c f tp htp hlen k i j n own N q sl w h1 h2 h3)
  have HLV := Lib.hid hlv
  have HLL := Lib.hid hll
  have HLE := Lib.hid hlen
  have HTK := Lib.hid (show takeT c.E 1 (t :: r) = .ok (t, r) from if_pos ht1)
  obtain ⟨r0, r1, r2, r5, rlt⟩ := h.cells
  clear htp h hT hlen hlv hll hB1 ht1
  go_enter Tryd.func53, Tryd.ntmps53
  go_wp2_with fail
  refine (HS0.out.rtake 1).mono ?_
  intro e w1 hg
  rw [HTK.out] at hg
  obtain ⟨rfl, hs1, hf1⟩ := hg
  have HS1 := Lib.hid hs1
  have HF1 := Lib.hid (HF0.out.trans hf1)
  have HT1 := Lib.hid (HT0.out.keep hf1.below)
  have HG1 := Lib.hid (hf1.kept _ _ _ _ HG0.out (by decide) (by decide) (by decide))
  clear hs1 hf1 r0 r1 r2 r5 rlt HTK
  obtain ⟨r0, r1, r2, r5, rlt⟩ := HS1.out.cells
  go_wp2_with fail
  refine (HS1.out.rtake 3).mono ?_
  intro e w2 hg
  cases hx : takeT c.E 3 r with
  | error a =>
    rw [hx] at hg
    obtain ⟨rfl, hf2⟩ := hg
    unfold faultP
    go_wp2
    unfold listP; rw [hx]
    exact ⟨rfl, rfl, HF1.out.trans hf2⟩
  | ok m =>
  obtain ⟨t2, q⟩ := m
  rw [hx] at hg
  obtain ⟨rfl, hs2, hf2⟩ := hg
  have hbt := al w2 (.cells #[.int .i64 t2.k, .string ⟨t2.s.toArray⟩, .int .i64 t2.at_] 63)
  have HX2 := Lib.hid hx
  have HQ2 := Lib.hid (takeT_len hx)
  have HS2 := Lib.hid (hs2.later hbt)
  have HF2 := Lib.hid ((HF1.out.trans hf2).trans (Fr.later hbt hs2.lo))
  have HT2 := Lib.hid ((HT1.out.keep hf2.below).keep (hbt.mono hs2.lo))
  have HG2 := Lib.hid ((hbt.block _ (hlt_of (hf2.kept _ _ _ _ HG1.out (by decide) (by decide) (by decide)))).trans (hf2.kept _ _ _ _ HG1.out (by decide) (by decide) (by decide)))
  have HW2 := Lib.hid (alloc_new w2 (.cells #[.int .i64 t2.k, .string ⟨t2.s.toArray⟩, .int .i64 t2.at_] 63))
  have hGlt : w.heap.size < w2.heap.size := by have h1 := HF1.out.size; have h2 := hf2.size; have h3 := hlt_of HG1.out; omega
  clear hs2 hf2 hbt hx r0 r1 r2 r5 rlt
  obtain ⟨W, hW⟩ : ∃ W, W = w2.alloc (.cells #[.int .i64 t2.k, .string ⟨t2.s.toArray⟩, .int .i64 t2.at_] 63) := ⟨_, rfl⟩
  have hWs : W.heap.size = w2.heap.size + 1 := by rw [hW]; simp
  rw [← hW] at HS2 HF2 HT2 HG2 HW2
  have d1 : W.cell? ⟨w2.heap.size, 1, none⟩ = some (.string ⟨t2.s.toArray⟩) := by rw [Lib.cell_of_heap HW2.out]; rfl
  have d2 : W.cell? ⟨w2.heap.size, 2, none⟩ = some (.int .i64 t2.at_) := by rw [Lib.cell_of_heap HW2.out]; rfl
  have HWW := Lib.hid hW
  obtain ⟨K, hK⟩ : ∃ K, headN t2.s = K := ⟨_, rfl⟩
  have hKr := headN_range t2.s
  rw [hK] at hKr
  obtain ⟨OW, hOW⟩ : ∃ OW, sortN K = OW := ⟨_, rfl⟩
  have HV := Lib.hid (show listP lv tp c.E so N r = if K = 0 ∨ (OW ≠ 0 ∧ so ≠ 0 ∧ OW ≠ so) then .error t2.at_ else bodyP lv tp c.E K N q by unfold listP; rw [HX2.out]; simp only; rw [hK, hOW])
  have HKE := Lib.hid hK
  have HOE := Lib.hid hOW
  clear hW hK hOW
  go_upto_region 3 with fail
  go_cut [6] (fun s6 wx => s6 = .int .i64 K ∧ wx = W)
  case first =>
    have hW := HWW.out
    subst hW
    go_wp2_with fail
    refine (headed_any c.B t2.s _ HT2.out).mono ?_
    rintro e w3 ⟨rfl, rfl⟩
    go_wp2_with fail
    go_meet
    case rel => exact ⟨by rw [HKE.out], rfl⟩
  case rest =>
  obtain ⟨rfl, hw⟩ := hcut
  subst hw
  go_step
  go_step
  go_cut [7] (fun s7 wx => s7 = .int .i64 OW ∧ wx = wc)
  case first =>
    go_wp2_with fail
    refine (sortOf_any K _).mono ?_
    rintro e w3 ⟨rfl, rfl⟩
    go_wp2_with fail
    go_meet
    case rel => exact ⟨by rw [HOE.out], rfl⟩
  case rest =>
  obtain ⟨rfl, hw⟩ := hcut
  subst hw
  go_step
  go_step
  go_cut [6] (fun s6 wx => s6 = .int .i64 K ∧ wx = wc ∧ Hid (¬ (K = 0 ∨ (OW ≠ 0 ∧ so ≠ 0 ∧ OW ≠ so))))
  case first =>
    by_cases a1 : K = 0
    · have b1 : (K == 0) = true := by simpa using a1
      have HBD := Lib.hid (show K = 0 ∨ (OW ≠ 0 ∧ so ≠ 0 ∧ OW ≠ so) from Or.inl a1)
      clear a1 hKr
      go_wp2_with fail
      refine (fail_any _ _).mono ?_
      rintro e w3 ⟨rfl, rfl⟩
      unfold faultP
      go_wp2
      rw [HV.out, if_pos HBD.out]
      exact ⟨rfl, rfl, HF2.out⟩
    have b1 : (K == 0) = false := by simpa using a1
    have b1' : (K != 0) = true := by simpa using a1
    by_cases a2 : OW = 0
    · have b2 : (OW == 0) = true := by simpa using a2
      have b2' : (OW != 0) = false := by simpa using a2
      have HBD := Lib.hid (show ¬ (K = 0 ∨ (OW ≠ 0 ∧ so ≠ 0 ∧ OW ≠ so)) from fun h => h.elim a1 (fun h => h.1 a2))
      clear a1 a2 hKr
      go_wp2_with fail
      go_meet
      case rel => exact ⟨rfl, rfl, HBD⟩
    have b2 : (OW == 0) = false := by simpa using a2
    have b2' : (OW != 0) = true := by simpa using a2
    by_cases a3 : so = 0
    · have b3 : (so == 0) = true := by simpa using a3
      have b3' : (so != 0) = false := by simpa using a3
      have HBD := Lib.hid (show ¬ (K = 0 ∨ (OW ≠ 0 ∧ so ≠ 0 ∧ OW ≠ so)) from fun h => h.elim a1 (fun h => h.2.1 a3))
      clear a1 a2 a3 hKr
      go_wp2_with fail
      go_meet
      case rel => exact ⟨rfl, rfl, HBD⟩
    have b3 : (so == 0) = false := by simpa using a3
    have b3' : (so != 0) = true := by simpa using a3
    by_cases a4 : OW = so
    · have b4 : (OW == so) = true := by simpa using a4
      have b4' : (OW != so) = false := by simpa using a4
      have HBD := Lib.hid (show ¬ (K = 0 ∨ (OW ≠ 0 ∧ so ≠ 0 ∧ OW ≠ so)) from fun h => h.elim a1 (fun h => h.2.2 a4))
      clear a1 a2 a3 a4 hKr
      go_wp2_with fail
      go_meet
      case rel => exact ⟨rfl, rfl, HBD⟩
    have b4 : (OW == so) = false := by simpa using a4
    have b4' : (OW != so) = true := by simpa using a4
    have HBD := Lib.hid (show K = 0 ∨ (OW ≠ 0 ∧ so ≠ 0 ∧ OW ≠ so) from Or.inr ⟨a2, a3, a4⟩)
    clear a1 a2 a3 a4 hKr
    go_wp2_with fail
    refine (fail_any _ _).mono ?_
    rintro e w3 ⟨rfl, rfl⟩
    unfold faultP
    go_wp2
    rw [HV.out, if_pos HBD.out]
    exact ⟨rfl, rfl, HF2.out⟩
  case rest =>
  obtain ⟨rfl, hw, HBD⟩ := hcut
  subst hw
  have HVB := Lib.hid (show listP lv tp c.E so N r = bodyP lv tp c.E K N q by rw [HV.out, if_neg HBD.out])
  have hb := al wc (boxK K 0 0 0)
  have hbw : w.heap.size < wc.heap.size := by rw [hWs]; omega
  obtain ⟨b, hbE⟩ : ∃ b, wc.heap.size = b := ⟨_, rfl⟩
  have HL1 := Lib.hid (show LSt c (sl + 200) N w b K 0 0 0 (.slice none 0 0) q (wc.alloc (boxK K 0 0 0)) from ⟨(HS2.out.later hb).less (by omega), HF2.out.trans (Fr.later hb HS2.out.lo), HT2.out.keep (hb.mono HS2.out.lo), (hb.block _ (hlt_of HG2.out)).trans HG2.out, by rw [← hbE]; exact alloc_new _ _⟩)
  rw [hbE] at hbw
  clear hb d1 d2
  go_step
  go_step
  go_cut [8] (fun s8 wx => s8 = .pointer (some ⟨b, 0, none⟩) ∧ wx = wc.alloc (boxK K 0 0 0))
  case first =>
    go_wp2_with fail
    go_meet
    case rel => exact ⟨by rw [← hbE, hWs], rfl⟩
  case rest =>
  obtain ⟨rfl, hw⟩ := hcut
  rw [← hw] at HL1
  clear hw
  go_step
  go_step
  go_cut [6] (fun s6 wx => s6 = .int .i64 K ∧ ∃ n q1, Hid (symP c.E K q = .ok (n, q1) ∧ LSt c (sl + 200) N w b K 0 0 n (.slice none 0 0) q1 wx ∧ q1.length ≤ q.length ∧ 0 ≤ n ∧ n ≤ 30))
  case first =>
    by_cases a1 : K = 23
    · have b1 : (K == 23) = true := by simpa using a1
      have HKK := Lib.hid a1
      obtain ⟨r0, r1, r2, r5, rlt⟩ := HL1.out.st.cells
      clear a1
      go_wp2_with fail
      refine (HL1.out.st.rtake 3).mono ?_
      intro e w3 hg
      cases hx : takeT c.E 3 q with
      | error a =>
        rw [hx] at hg
        obtain ⟨rfl, hf⟩ := hg
        unfold faultP
        go_wp2
        rw [HVB.out, body1 (show symP c.E K q = .error a by unfold symP; rw [if_pos HKK.out, hx])]
        exact ⟨rfl, rfl, HL1.out.fr.trans hf⟩
      | ok m =>
      obtain ⟨t3, q1⟩ := m
      rw [hx] at hg
      obtain ⟨rfl, hs3, hf3⟩ := hg
      have hbt := al w3 (.cells #[.int .i64 t3.k, .string ⟨t3.s.toArray⟩, .int .i64 t3.at_] 63)
      have HX3 := Lib.hid hx
      have HL2 := Lib.hid ((HL1.out.on hf3 hs3).on (Fr.later hbt hs3.lo) ((hs3.later hbt).less (sl' := sl + 200) (by omega)))
      have HW3 := Lib.hid (alloc_new w3 (.cells #[.int .i64 t3.k, .string ⟨t3.s.toArray⟩, .int .i64 t3.at_] 63))
      have hblt : b < w3.heap.size := by have h1 := hf3.size; have h2 := hlt_of HL1.out.bx; omega
      clear hs3 hf3 hbt hx r0 r1 r2 r5 rlt
      obtain ⟨m, hm⟩ : ∃ m, symN t3.s = m := ⟨_, rfl⟩
      have hmr := symN_range t3.s
      rw [hm] at hmr
      go_wp2_with fail
      refine (symbol_any c.B t3.s _ HL2.out.tab).mono ?_
      rintro e w4 ⟨rfl, rfl⟩
      rw [hm]
      obtain ⟨W3, hW3⟩ : ∃ W3, W3 = w3.alloc (.cells #[.int .i64 t3.k, .string ⟨t3.s.toArray⟩, .int .i64 t3.at_] 63) := ⟨_, rfl⟩
      rw [← hW3] at HL2 HW3
      rw [← hW3]
      obtain ⟨⟨q0, q1x, q2, q3, q4⟩, ⟨g0, g1x, g2, g3, g4⟩, hGl⟩ := cells5_of HL2.out.bx
      have HL3 := Lib.hid (HL2.out.setN hlo hbw m)
      have x2 : (W3.setCell ⟨b, 3, none⟩ (.int .i64 m)).cell? ⟨w3.heap.size, 2, none⟩ = some (.int .i64 t3.at_) := by
        rw [Lib.cell_of_heap (((g1 W3 b 3 (.int .i64 m)).block _ (hlt_of HW3.out) (fun e => by have := Option.some.inj e; omega)).trans HW3.out)]; rfl
      have HSM := Lib.hid hm
      clear hm hW3
      by_cases a2 : m = 0
      · have b2 : (m == 0) = true := by simpa using a2
        have HM := Lib.hid a2
        clear a2
        go_wp2_with fail
        refine (fail_any _ _).mono ?_
        rintro e w5 ⟨rfl, rfl⟩
        unfold faultP
        go_wp2
        rw [HVB.out, body1 (show symP c.E K q = .error t3.at_ by unfold symP; rw [if_pos HKK.out, HX3.out]; simp only; rw [HSM.out, if_pos HM.out])]
        exact ⟨rfl, rfl, HL3.out.fr⟩
      · have b2 : (m == 0) = false := by simpa using a2
        have HM := Lib.hid a2
        clear a2
        go_wp2_with fail
        go_meet
        case rel => exact ⟨rfl, m, q1, Lib.hid ⟨by unfold symP; rw [if_pos HKK.out, HX3.out]; simp only; rw [HSM.out, if_neg HM.out], HL3.out, by have := takeT_len HX3.out; omega, hmr.1, hmr.2⟩⟩
    · have b1 : (K == 23) = false := by simpa using a1
      have HKK := Lib.hid a1
      clear a1
      go_wp2_with fail
      go_meet
      case rel => exact ⟨rfl, 0, q, Lib.hid ⟨by unfold symP; rw [if_neg HKK.out], HL1.out, Nat.le_refl _, by omega, by omega⟩⟩
  case rest =>
  obtain ⟨rfl, n, q1, HA⟩ := hcut
  obtain ⟨LV, hLV⟩ : ∃ LV, levelsN K = LV := ⟨_, rfl⟩
  have hLr := levelsN_range K
  rw [hLV] at hLr
  have HLE2 := Lib.hid hLV
  clear hLV HL1
  go_step
  go_step
  go_cut [10] (fun s10 wx => s10 = .int .i64 LV ∧ wx = wc)
  case first =>
    go_wp2_with fail
    refine (levelsOf_any K _).mono ?_
    rintro e w3 ⟨rfl, rfl⟩
    go_wp2_with fail
    go_meet
    case rel => exact ⟨by rw [HLE2.out], rfl⟩
  case rest =>
  obtain ⟨rfl, hw⟩ := hcut
  subst hw
  go_step
  go_step
  go_cut [10] (fun s10 wx => s10 = .int .i64 LV ∧ ∃ i q2, Hid (lvaP lv K q1 = .ok (i, q2) ∧ LSt c (sl + 200) N w b K i 0 n (.slice none 0 0) q2 wx ∧ q2.length ≤ q1.length ∧ 0 ≤ i ∧ i ≤ 10000000))
  case first =>
    have HL2 := Lib.hid HA.out.2.1
    obtain ⟨r0, r1, r2, r5, rlt⟩ := HL2.out.st.cells
    by_cases a1 : 0 < LV
    · have HP := Lib.hid (show 0 < levelsN K by rw [HLE2.out]; exact a1)
      go_wp2_with fail
      refine (HLV.out.use q1 (sl + 200) N _ (by have := HA.out.2.2.1; have := HQ2.out; omega) HL2.out.st).mono ?_
      intro e w3 hg
      cases hx : lv q1 with
      | error a =>
        rw [hx] at hg
        obtain ⟨rfl, hf⟩ := hg
        unfold faultP
        go_wp2
        rw [HVB.out, body2 HA.out.1 (show lvaP lv K q1 = .error a by unfold lvaP; rw [if_pos HP.out, hx])]
        exact ⟨rfl, rfl, HL2.out.fr.trans hf⟩
      | ok m =>
      obtain ⟨i, q2⟩ := m
      rw [hx] at hg
      obtain ⟨rfl, hs3, hf3, h0, h1⟩ := hg
      have HL3 := Lib.hid (HL2.out.on hf3 hs3)
      obtain ⟨⟨y0, y1, y2, y3, y4⟩, ⟨g0, g1x, g2, g3, g4⟩, hGl⟩ := cells5_of HL3.out.bx
      have HL4 := Lib.hid (HL3.out.setI hlo hbw i)
      have HX3 := Lib.hid hx
      have HLN := Lib.hid (HLL.out _ _ _ hx).1
      clear hs3 hf3 hx
      go_wp2_with fail
      go_meet
      case rel => exact ⟨rfl, i, q2, Lib.hid ⟨by unfold lvaP; rw [if_pos HP.out, HX3.out], HL4.out, by have := HLN.out; omega, h0, h1⟩⟩
    · have HP := Lib.hid (show levelsN K ≤ 0 by rw [HLE2.out]; omega)
      go_wp2_with fail
      go_meet
      case rel => exact ⟨rfl, 0, q1, Lib.hid ⟨by unfold lvaP; rw [if_neg (by have := HP.out; omega)], HL2.out, Nat.le_refl _, by omega, by omega⟩⟩
  case rest =>
  obtain ⟨rfl, i, q2, HBB⟩ := hcut
  go_step
  go_step
  go_cut [10] (fun s10 wx => s10 = .int .i64 LV ∧ ∃ j q3, Hid (lvbP lv K q2 = .ok (j, q3) ∧ LSt c (sl + 200) N w b K i j n (.slice none 0 0) q3 wx ∧ q3.length ≤ q2.length ∧ 0 ≤ j ∧ j ≤ 10000000))
  case first =>
    have HL2 := Lib.hid HBB.out.2.1
    obtain ⟨r0, r1, r2, r5, rlt⟩ := HL2.out.st.cells
    by_cases a1 : 1 < LV
    · have HP := Lib.hid (show 1 < levelsN K by rw [HLE2.out]; exact a1)
      go_wp2_with fail
      refine (HLV.out.use q2 (sl + 200) N _ (by have := HBB.out.2.2.1; have := HA.out.2.2.1; have := HQ2.out; omega) HL2.out.st).mono ?_
      intro e w3 hg
      cases hx : lv q2 with
      | error a =>
        rw [hx] at hg
        obtain ⟨rfl, hf⟩ := hg
        unfold faultP
        go_wp2
        rw [HVB.out, body3 HA.out.1 HBB.out.1 (show lvbP lv K q2 = .error a by unfold lvbP; rw [if_pos HP.out, hx])]
        exact ⟨rfl, rfl, HL2.out.fr.trans hf⟩
      | ok m =>
      obtain ⟨j, q3⟩ := m
      rw [hx] at hg
      obtain ⟨rfl, hs3, hf3, h0, h1⟩ := hg
      have HL3 := Lib.hid (HL2.out.on hf3 hs3)
      obtain ⟨⟨y0, y1, y2, y3, y4⟩, ⟨g0, g1x, g2, g3, g4⟩, hGl⟩ := cells5_of HL3.out.bx
      have HL4 := Lib.hid (HL3.out.setJ hlo hbw j)
      have HX3 := Lib.hid hx
      have HLN := Lib.hid (HLL.out _ _ _ hx).1
      clear hs3 hf3 hx
      go_wp2_with fail
      go_meet
      case rel => exact ⟨rfl, j, q3, Lib.hid ⟨by unfold lvbP; rw [if_pos HP.out, HX3.out], HL4.out, by have := HLN.out; omega, h0, h1⟩⟩
    · have HP := Lib.hid (show levelsN K ≤ 1 by rw [HLE2.out]; omega)
      go_wp2_with fail
      go_meet
      case rel => exact ⟨rfl, 0, q2, Lib.hid ⟨by unfold lvbP; rw [if_neg (by have := HP.out; omega)], HL2.out, Nat.le_refl _, by omega, by omega⟩⟩
  case rest =>
  obtain ⟨rfl, j, q3, HC⟩ := hcut
  have HVC := Lib.hid (HVB.out.trans (body4 HA.out.1 HBB.out.1 HC.out.1))
  have HQ3 := Lib.hid (show q3.length ≤ q.length by have := HA.out.2.2.1; have := HBB.out.2.2.1; have := HC.out.2.2.1; omega)
  have HNR := Lib.hid (show 0 ≤ n ∧ n ≤ 30 ∧ 0 ≤ i ∧ i ≤ 10000000 ∧ 0 ≤ j ∧ j ≤ 10000000 from ⟨HA.out.2.2.2.1, HA.out.2.2.2.2, HBB.out.2.2.2.1, HBB.out.2.2.2.2, HC.out.2.2.2.1, HC.out.2.2.2.2⟩)
  have HL2 := Lib.hid HC.out.2.1
  clear HA HBB HC
  go_step
  go_step
  go_cut [6] (fun s6 wx => s6 = .int .i64 K ∧ ∃ (l : List Tm) (a : Option Addr) (cap : Nat) (q4 : List Tok), Hid (kdsP tp c.E K n N q3 = .ok (l, q4) ∧ LSt c (sl + 100) N w b K i j n (.slice a l.length cap) q4 wx ∧ LiesP wx (Own (w.heap.size + 1) wx) l (.slice a l.length cap)))
  case first =>
    obtain ⟨r0, r1, r2, r5, rlt⟩ := HL2.out.st.cells
    by_cases a1 : K = 22
    · have b1 : (K == 22) = true := by simpa using a1
      have HP := Lib.hid a1
      clear a1
      go_wp2_with fail
      refine (HKJ.out q3 (sl + 100) _ (by have := HQ3.out; have := HQ2.out; omega) (HL2.out.st.less (by omega)) HL2.out.tab).mono ?_
      intro e w3 hg
      cases hx : kidsJ tp c.E N q3 with
      | error a =>
        rw [hx] at hg
        obtain ⟨rfl, hf⟩ := hg
        unfold faultP
        go_wp2
        rw [HVC.out, show kdsP tp c.E K n N q3 = .error a by unfold kdsP; rw [if_pos HP.out, hx]]
        exact ⟨rfl, rfl, HL2.out.fr.trans hf⟩
      | ok m =>
      obtain ⟨l, q4⟩ := m
      rw [hx] at hg
      obtain ⟨s, rfl, hl, hs3, hf3⟩ := hg
      obtain ⟨a, cap, rfl, -, -⟩ := hl.out
      have HL3 := Lib.hid (HL2.out.on hf3 hs3)
      have hbl := hlt_of HL2.out.bx
      obtain ⟨⟨y0, y1, y2, y3, y4⟩, ⟨g0, g1x, g2, g3, g4⟩, hGl⟩ := cells5_of HL3.out.bx
      have HL4 := Lib.hid (HL3.out.setS hlo hbw (.slice a l.length cap))
      have HLS := Lib.hid ((liesP_grown hl (g1 w3 b 4 (.slice a l.length cap)) hbl).from (B' := w.heap.size + 1) (by omega))
      have HX3 := Lib.hid hx
      clear hs3 hf3 hx hl
      go_wp2_with fail
      go_meet
      case rel => exact ⟨rfl, l, a, cap, q4, Lib.hid ⟨by unfold kdsP; rw [if_pos HP.out, HX3.out], HL4.out, HLS.out⟩⟩
    · have b1 : (K == 22) = false := by simpa using a1
      have HP := Lib.hid a1
      clear a1
      obtain ⟨⟨y0, y1, y2, y3, y4⟩, ⟨g0, g1x, g2, g3, g4⟩, hGl⟩ := cells5_of HL2.out.bx
      go_wp2_with fail
      refine (HKK.out K i j n OW q3 (sl + 100) _ (by have := HQ3.out; have := HQ2.out; omega) (HL2.out.st.less (by omega)) HL2.out.tab).mono ?_
      intro e w3 hg
      cases hx : kidsK tp c.E K n OW N q3 with
      | error a =>
        rw [hx] at hg
        obtain ⟨rfl, hf⟩ := hg
        unfold faultP
        go_wp2
        rw [HVC.out, show kdsP tp c.E K n N q3 = .error a by unfold kdsP; rw [if_neg HP.out, HOE.out, hx]]
        exact ⟨rfl, rfl, HL2.out.fr.trans hf⟩
      | ok m =>
      obtain ⟨l, q4⟩ := m
      rw [hx] at hg
      obtain ⟨s, rfl, hl, hs3, hf3⟩ := hg
      obtain ⟨a, cap, rfl, -, -⟩ := hl.out
      have HL3 := Lib.hid (HL2.out.on hf3 hs3)
      clear y0 y1 y2 y3 y4 g0 g1x g2 g3 g4
      obtain ⟨⟨y0, y1, y2, y3, y4⟩, ⟨g0, g1x, g2, g3, g4⟩, hGl3⟩ := cells5_of HL3.out.bx
      have HL4 := Lib.hid (HL3.out.setS hlo hbw (.slice a l.length cap))
      have HLS := Lib.hid ((liesP_grown hl (g1 w3 b 4 (.slice a l.length cap)) hGl).from (B' := w.heap.size + 1) (by omega))
      have HX3 := Lib.hid hx
      clear hs3 hf3 hx hl
      go_wp2_with fail
      go_meet
      case rel => exact ⟨rfl, l, a, cap, q4, Lib.hid ⟨by unfold kdsP; rw [if_neg HP.out, HOE.out, HX3.out], HL4.out, HLS.out⟩⟩
  case rest =>
  obtain ⟨rfl, l, a, cap, q4, HD⟩ := hcut
  have HL3 := Lib.hid HD.out.2.1
  clear HL2
  obtain ⟨r0, r1, r2, r5, rlt⟩ := HL3.out.st.cells
  go_wp2_with fail
  refine (HL3.out.st.rtake 2).mono ?_
  intro e w3 hg
  cases hx : takeT c.E 2 q4 with
  | error a =>
    rw [hx] at hg
    obtain ⟨rfl, hf⟩ := hg
    unfold faultP
    go_wp2
    rw [HVC.out, HD.out.1]; simp only; rw [hx]
    exact ⟨rfl, rfl, HL3.out.fr.trans hf⟩
  | ok m =>
  obtain ⟨t4, q5⟩ := m
  rw [hx] at hg
  obtain ⟨rfl, hs3, hf3⟩ := hg
  have HL4 := Lib.hid (HL3.out.on hf3 hs3)
  obtain ⟨⟨y0, y1, y2, y3, y4⟩, ⟨g0, g1x, g2, g3, g4⟩, hGl⟩ := cells5_of HL4.out.bx
  obtain ⟨⟨z0, z1, z2, z3, z4⟩, ⟨f0, f1, f2, f3, f4⟩, hZl⟩ := cells5_of HL4.out.zg
  have HZ := Lib.hid HL4.out.zg
  have HE := Lib.hid (term_end (t := .mk K i j n l) (w2 := cell5 w3 w.heap.size 0 (.int .i64 K) (.int .i64 i) (.int .i64 j) (.int .i64 n) (.slice a l.length cap)) hlo HL4.out.fr (cell5_grown _ _ _ _ _ _ _ _) HZ.out (HL4.out.st.less (sl' := sl) (by omega)) (liesP_fr HD.out.2.2 hf3))
  have HX4 := Lib.hid hx
  clear hs3 hf3 hx r0 r1 r2 r5 rlt
  go_wp2
  refine bodyPost_ret (results_cell_row rfl _ _ w.heap.size _ _ _ du rfl (five_set HZ.out) hu1 (by cases du <;> first | rfl | exact hu2) size_term) rfl ?_
  rw [HVC.out, HD.out.1]; simp only; rw [HX4.out]
  refine ⟨.slice a l.length cap, rfl, HE.out.1, ?_, HE.out.2.1, HE.out.2.2⟩
  have := HNR.out
  unfold Tm.fine I64
  simp only [Tm.k, Tm.i, Tm.j, Tm.n]
  omega
end Go.Proofs.YtpekceadjcbphaaDoor

namespace Go.Proofs.YtpekceadjcbphaaDoor
open Go.RowKit Go.Maps Go.ChangeShapes

theorem rterm_any (c : RC) (hij : (0 ≤ c.i ∧ c.i ≤ 1000) ∧ 0 ≤ c.j ∧ c.j ≤ 1000) : ∀ f, TermC c f (termP c.E c.i c.j f)
  | 0 => fun so N ts sl w hf _ _ => by omega
  | f + 1 => rterm_step c f (rlist_any c f (levelP c.E c.i c.j f) (termP c.E c.i c.j f) (rlevel_any c hij f) (fun ts n r h => ⟨levelP_len h, levelP_most h⟩) (rterm_any c hij f) (fun s N ts t r h => termP_len h))
end Go.Proofs.YtpekceadjcbphaaDoor

namespace Go.Proofs.YtpekceadjcbphaaDoor
open Go.RowKit Go.Maps Go.ChangeShapes

def toksO (x : List Tok × Option Nat) : List Tok := match x with
  | (ts, none) => ts
  | (_, some _) => []
/-- The tokens of a text, where they end, and whether a fault stands there. -/
def ofL (l : List UInt8) : List Tok × Nat × Bool := match lexL l 0 with
  | (ts, none) => (ts, l.length, false)
  | (_, some p) => (toksO (lexL (l.take p) 0), p, true)
theorem lexL_bound {l : List UInt8} : ∀ (n p : Nat), l.length - p ≤ n → (∀ q, (lexL l p).2 = some q → q < l.length) ∧ (∀ t ∈ (lexL l p).1, t.s.length ≤ l.length ∧ t.at_ < l.length) ∧ (lexL l p).1.length + min p l.length ≤ l.length
  | 0, p, h => by
    rw [lexL_end (by omega)]
    exact ⟨fun q hq => (by cases hq), fun t ht => (by cases ht), by simp; omega⟩
  | n + 1, p, h => by
    by_cases h1 : p + skipL (l.drop p) < l.length
    · cases hn : nextL (l.drop (p + skipL (l.drop p))) with
      | none =>
        rw [lexL_fault rfl h1 hn]
        exact ⟨fun q hq => (by obtain rfl := Option.some.inj hq; exact h1), fun t ht => (by cases ht), by simp; omega⟩
      | some x =>
        obtain ⟨k, m⟩ := x
        have hb := (nextL_range hn).2.1
        have hb1 := (nextL_range hn).1
        rw [lexL_next rfl h1 hn]
        have hr := lexL_bound (l := l) n (p + skipL (l.drop p) + m) (by omega)
        refine ⟨hr.1, fun t ht => ?_, ?_⟩
        · rcases List.mem_cons.1 ht with rfl | ht
          · exact ⟨by simp; omega, h1⟩
          · exact hr.2.1 t ht
        · have := hr.2.2
          simp only [List.length_cons]
          rw [List.length_drop] at hb
          omega
    · rw [lexL_end h1]
      exact ⟨fun q hq => (by cases hq), fun t ht => (by cases ht), by simp; omega⟩
theorem ofL_bound (l : List UInt8) : (ofL l).1.length ≤ l.length ∧ (ofL l).2.1 ≤ l.length ∧ ∀ t ∈ (ofL l).1, t.s.length ≤ l.length ∧ t.at_ ≤ l.length := by
  have h := lexL_bound (l := l) l.length 0 (by omega)
  unfold ofL
  rcases hx : lexL l 0 with ⟨ts, o⟩
  rw [hx] at h
  cases o with
  | none =>
    simp only
    exact ⟨by have := h.2.2; simp at this; omega, Nat.le_refl _, fun t ht => ⟨(h.2.1 t ht).1, Nat.le_of_lt (h.2.1 t ht).2⟩⟩
  | some p =>
    have hp : p < l.length := h.1 p rfl
    have k := lexL_bound (l := l.take p) (l.take p).length 0 (by omega)
    have hl : (l.take p).length = p := by rw [List.length_take]; omega
    rw [hl] at k
    simp only
    rcases hy : lexL (l.take p) 0 with ⟨us, o⟩
    rw [hy] at k
    cases o with
    | none => exact ⟨by show us.length ≤ _; have := k.2.2; simp at this; omega, by omega, fun t ht => by have := k.2.1 t ht; exact ⟨by omega, by omega⟩⟩
    | some q => exact ⟨by show 0 ≤ _; omega, by omega, fun t ht => (by cases ht)⟩
theorem toks_lies {B : Nat} {w : World} {v : Value} {ts : List Tok} (h : Toks 63 B w v ts) : TLies w ts v := by
  obtain ⟨h1, h2⟩ := h
  rcases h2 with ⟨rfl, h0⟩ | ⟨g, cap, cur, rfl, hg, hh, hn, hc, hs, ht⟩
  · have h3 : ts = [] := List.eq_nil_of_length_eq_zero h0
    subst h3
    exact ⟨none, 0, rfl, Nat.le_refl _, by unfold maxLen; omega, Or.inl rfl⟩
  · exact ⟨some ⟨g, 0, none⟩, cap, rfl, hn, hc, Or.inr ⟨g, 0, cur, (0, 0), rfl, hh, by rw [List.drop_zero]; exact ht⟩⟩
def OfG (w : World) (x : List Tok × Nat × Bool) (e : Ending) (w' : World) : Prop := ∃ tv, e = .returned (.pointer (some ⟨w'.heap.size - 1, 0, none⟩)) ∧ w.heap.size < w'.heap.size ∧ SAt w' (w'.heap.size - 1) tv x.2.1 x.2.2 ∧ TLies w' x.1 tv ∧ Below w.heap.size w w'
theorem ofG_of {w w1 : World} {x : List Tok × Nat × Bool} {tv : Value} (hB : Below w.heap.size w w1) (hT : TLies w1 x.1 tv) : OfG w x (.returned (.pointer (some ⟨w1.heap.size, 0, none⟩))) (w1.alloc (.cells #[tv, .int .i64 x.2.1, .bool x.2.2] 91)) := by
  have hb := (Below.refl w1.heap.size w1).alloc (Nat.le_refl _) (.cells #[tv, .int .i64 x.2.1, .bool x.2.2] 91)
  have hs : (w1.alloc (.cells #[tv, .int .i64 x.2.1, .bool x.2.2] 91)).heap.size - 1 = w1.heap.size := by simp
  have := hB.size
  unfold OfG
  rw [hs]
  exact ⟨tv, rfl, by simp; omega, alloc_new _ _, hT.keep fun g cs fz e => by rw [hb.block _ (hlt_of e)]; exact e, hB.trans (hb.mono hB.size)⟩
set_option maxHeartbeats 2000000 in
set_option maxRecDepth 20000 in
theorem of_any (s : ByteArray) (w : World) (hs : s.size ≤ 10000000) : Calls Tryd.prog 36 #[.string s] w (OfG w (ofL s.data.toList)) := by
  have HLX := Lib.hid (fun (s : ByteArray) (w : World) (h : s.size ≤ 10000000) => lex_any s w h)
  have hsl : s.data.toList.length = s.size := by simp
  have HSL := Lib.hid hsl
  clear hsl
  go_enter Tryd.func36, Tryd.ntmps36
  go_wp2_with fail
  refine (HLX.out s w hs).mono ?_
  intro e w1 hg
  cases hl : lexL s.data.toList 0 with
  | mk ts o =>
  rw [hl] at hg
  obtain ⟨hB, hg⟩ := hg
  cases o with
  | none =>
    obtain ⟨v, hT, rfl⟩ := hg
    have HO := Lib.hid (show ofL s.data.toList = (ts, s.size, false) by unfold ofL; rw [hl]; simp only; rw [HSL.out])
    obtain ⟨a, cap, rfl, hv⟩ := toks_lies hT
    have HT := Lib.hid (show TLies w1 ts (.slice a ts.length cap) from ⟨a, cap, rfl, hv⟩)
    have HB := Lib.hid hB
    clear hT hB hl hv
    go_wp2
    go_ret
    rw [HO.out]
    exact ofG_of (x := (ts, s.size, false)) HB.out HT.out
  | some p =>
    obtain rfl := hg
    have hp : p < s.size := by have := (lexL_bound (l := s.data.toList) s.data.toList.length 0 (by omega)).1 p (by rw [hl]); rw [HSL.out] at this; exact this
    obtain ⟨P, hP⟩ : ∃ P, s.extract 0 p = P := ⟨_, rfl⟩
    have hPd : P.data.toList = s.data.toList.take p := by rw [← hP]; exact (Lib.extract_data s 0 p).trans (by simp)
    have hPs : P.size ≤ 10000000 := by
      have h1 : P.data.toList.length = P.size := by simp
      rw [hPd, List.length_take] at h1
      omega
    have hsli : ∀ w', (Instr.slice 9 (.string s) none (some (.int .i64 (p : Int))) none).run Tryd.prog w' = .ok (.string P) w' := fun w' => by
      rw [← hP]; exact run_slice_string_h w' 9 s Tryd.underlying9 .i64 (p : Int) (by omega) (by omega)
    have HO := Lib.hid (show ofL s.data.toList = (toksO (lexL P.data.toList 0), p, true) by unfold ofL; rw [hl, hPd])
    have HB := Lib.hid hB
    clear hB hl hP hPd
    go_wp2_with fail
    refine (HLX.out P w1 hPs).mono ?_
    intro e w2 hg
    cases hl : lexL P.data.toList 0 with
    | mk us o =>
    rw [hl] at hg HO
    obtain ⟨hB2, hg⟩ := hg
    have HB2 := Lib.hid (HB.out.trans (hB2.mono HB.out.size))
    cases o with
    | none =>
      obtain ⟨v, hT, rfl⟩ := hg
      obtain ⟨a, cap, rfl, hv⟩ := toks_lies hT
      have HT := Lib.hid (show TLies w2 us (.slice a us.length cap) from ⟨a, cap, rfl, hv⟩)
      clear hT hB2 hl hv
      go_wp2
      go_ret
      rw [HO.out]
      exact ofG_of (x := (us, p, true)) HB2.out HT.out
    | some q =>
      obtain rfl := hg
      clear hB2 hl
      go_wp2
      go_ret
      rw [HO.out]
      exact ofG_of (x := ([], p, true)) HB2.out ⟨none, 0, rfl, Nat.le_refl _, by unfold maxLen; omega, Or.inl rfl⟩
/-- The end of the reading. -/
def endP (E : Nat) (br : Bool) (ts : List Tok) : Except Nat Unit := if ts = [] ∧ br = false then .ok () else .error (hereT E ts)
def EndG (w : World) (x : Except Nat Unit) (e : Ending) (w' : World) : Prop := w = w' ∧ match x with
  | .error a => e = faultP a
  | .ok _ => e = .returned (.tuple #[])
set_option maxRecDepth 20000 in
theorem end_any (S : Nat) (v : Value) (E : Nat) (br : Bool) (ts : List Tok) (w : World) (hS : SAt w S v E br) (hv : TLies w ts v) : Calls Tryd.prog 39 #[.pointer (some ⟨S, 0, none⟩)] w (EndG w (endP E br ts)) := by
  have HH := Lib.hid (here_any S v E br ts w hS hv)
  have c0 : w.cell? ⟨S, 0, none⟩ = some v := by rw [Lib.cell_of_heap hS]; rfl
  have c2 : w.cell? ⟨S, 2, none⟩ = some (.bool br) := by rw [Lib.cell_of_heap hS]; rfl
  obtain ⟨a, cap, rfl, -, hcp, -⟩ := hv
  clear hS
  by_cases h0 : ts = []
  · cases br with
    | false =>
      have HE := Lib.hid (show endP E false ts = .ok () from if_pos ⟨h0, rfl⟩)
      subst h0
      go_enter Tryd.func39, Tryd.ntmps39
      go_wp2
      go_end0
      rw [HE.out]
      exact ⟨rfl, rfl⟩
    | true =>
      have HE := Lib.hid (show endP E true ts = .error (hereT E ts) from if_neg (fun h => by cases h.2))
      subst h0
      go_enter Tryd.func39, Tryd.ntmps39
      go_wp2_with fail
      refine HH.out.mono ?_
      rintro e w1 ⟨rfl, rfl⟩
      go_wp2_with fail
      refine (fail_any _ _).mono ?_
      rintro e w1 ⟨rfl, rfl⟩
      unfold faultP
      go_wp2
      rw [HE.out]
      exact ⟨rfl, rfl, rfl⟩
  · have HE := Lib.hid (show endP E br ts = .error (hereT E ts) from if_neg (fun h => h0 h.1))
    have hl : 0 < ts.length := List.length_pos_iff.2 h0
    clear h0
    go_enter Tryd.func39, Tryd.ntmps39
    go_wp2_with fail
    refine HH.out.mono ?_
    rintro e w1 ⟨rfl, rfl⟩
    go_wp2_with fail
    refine (fail_any _ _).mono ?_
    rintro e w1 ⟨rfl, rfl⟩
    unfold faultP
    go_wp2
    rw [HE.out]
    exact ⟨rfl, rfl, rfl⟩
end Go.Proofs.YtpekceadjcbphaaDoor

namespace Go.Proofs.YtpekceadjcbphaaDoor
open Go.RowKit Go.Maps Go.ChangeShapes

theorem below_grown {B b : Nat} {w w' : World} (hB : B ≤ b) (hg : w.grownBy w' (some b)) (hlo : B ≤ w.heap.size) : Below B w w' := ⟨hg.os, hg.tape, hg.output, hg.size, fun k hk => hg.block k (by omega) (fun e => by have := Option.some.inj e; omega)⟩
abbrev W5' (w : World) (B at_ : Nat) : World := (w.setCell ⟨B + 1, 0, none⟩ (.int .i64 2)).setCell ⟨B + 2, 0, none⟩ (.int .i64 at_)
theorem assert_fault (at_ : Nat) (w : World) : (Instr.typeAssert (.iface 77 (.agg #[.int .i64 at_])) 20 77 true).run Tryd.prog w = .ok (.tuple #[.agg #[.int .i64 at_], .bool true]) w := by kernel_rfl
/-- What the closure leaves in the results of a reading that failed. -/
def CatchG (B : Nat) (at_ : Nat) (w w' : World) : Prop := w'.heap[B]? = some (.cells #[.int .i64 0, .int .i64 0, .int .i64 0, .int .i64 0, .slice none 0 0] 26) ∧ w'.heap[B + 1]? = some (.cells #[.int .i64 2] 27) ∧ w'.heap[B + 2]? = some (.cells #[.int .i64 at_] 3) ∧ Below B w w'
set_option maxHeartbeats 2000000 in
set_option maxRecDepth 20000 in
theorem catch_panicking (B : Nat) (at_ : Nat) (w : World) {v0 v1 v2 v3 v4 x y : Value} (hT : w.heap[B]? = some (.cells #[v0, v1, v2, v3, v4] 26 (0, 0))) (hE : w.heap[B + 1]? = some (.cells #[x] 27 (0, 0))) (hA : w.heap[B + 2]? = some (.cells #[y] 3 (0, 0))) :
    CallsD Tryd.prog 37 #[.pointer (some ⟨B, 0, none⟩), .pointer (some ⟨B + 1, 0, none⟩), .pointer (some ⟨B + 2, 0, none⟩)] (.panicking ({ v := .iface 77 (.agg #[.int .i64 at_]), recovered := false } :: [])) w fun e u' w' =>
      e = .returned (.tuple #[]) ∧ u' = .panicking ({ v := .iface 77 (.agg #[.int .i64 at_]), recovered := true } :: []) ∧ CatchG B at_ w w' := by
  refine callsD_of_wpS Tryd.func37 rfl fun c₀ cs hu => ?_
  apply wpS_seq
  apply wpS_region
  simp [wpOpsS, go_sem, recoverD, hu, Tryd.ntmps37, Exit.thenS]
  apply wpS_seq
  apply wpS_region
  simp [wpOpsS, go_sem, Exit.thenS]
  refine wpS_cond (t := true) (by simp [Act.eval, Array.replicate]) ?_
  simp only [if_true]
  refine wpS_of_wp (wp_mono (Q := fun e a' w' => e = Exit.normal ∧ a'.defers = [] ∧ CatchG B at_ w w') ?_ (fun e a' w' h => ?_))
  · have hta := assert_fault at_
    obtain ⟨du, hu1, hu2⟩ := under_term
    have hb := (Below.refl w.heap.size w).alloc (Nat.le_refl _) (.cells #[.int .i64 at_] 77)
    have hT1 := (hb.block _ (hlt_of hT)).trans hT
    have hE1 := (hb.block _ (hlt_of hE)).trans hE
    have hA1 := (hb.block _ (hlt_of hA)).trans hA
    have hF1 : (w.alloc (.cells #[.int .i64 at_] 77)).heap[w.heap.size]? = some (.cells #[.int .i64 at_] 77) := alloc_new _ _
    have hs1 : w.heap.size < (w.alloc (.cells #[.int .i64 at_] 77)).heap.size := by simp
    have hBS : B < w.heap.size ∧ B + 1 < w.heap.size ∧ B + 2 < w.heap.size := ⟨hlt_of hT, hlt_of hE, hlt_of hA⟩
    have HB := Lib.hid (hb.mono (Nat.le_of_lt hBS.1))
    clear hT hE hA hu hb
    change Code.wp _ _ _ { tmps := #[.pointer (some ⟨B, 0, none⟩), .pointer (some ⟨B + 1, 0, none⟩), .pointer (some ⟨B + 2, 0, none⟩), (.iface 77 (.agg #[.int .i64 at_])), undef, undef, (.iface 77 (.agg #[.int .i64 at_])), (.iface 77 (.agg #[.int .i64 at_])), .bool true, undef, undef, undef, undef, undef, undef, undef, undef], defers := [] } w
    go_upto_region 3 with fail
    obtain ⟨W, hW⟩ : ∃ W, W = w.alloc (.cells #[.int .i64 at_] 77) := ⟨_, rfl⟩
    rw [← hW] at hT1 hE1 hA1 hF1 hs1 HB
    rw [← hW]
    clear hW
    have x0 : W.cell? ⟨B, 0, none⟩ = some v0 := by rw [Lib.cell_of_heap hT1]; rfl
    have x1 : W.cell? ⟨B, 1, none⟩ = some v1 := by rw [Lib.cell_of_heap hT1]; rfl
    have x2 : W.cell? ⟨B, 2, none⟩ = some v2 := by rw [Lib.cell_of_heap hT1]; rfl
    have x3 : W.cell? ⟨B, 3, none⟩ = some v3 := by rw [Lib.cell_of_heap hT1]; rfl
    have x4 : W.cell? ⟨B, 4, none⟩ = some v4 := by rw [Lib.cell_of_heap hT1]; rfl
    have x5 : W.cell? ⟨B + 1, 0, none⟩ = some x := by rw [Lib.cell_of_heap hE1]; rfl
    have x6 : W.cell? ⟨B + 2, 0, none⟩ = some y := by rw [Lib.cell_of_heap hA1]; rfl
    have x7 : W.cell? ⟨w.heap.size, 0, none⟩ = some (.int .i64 at_) := by rw [Lib.cell_of_heap hF1]; rfl
    have f0 : W.frozen? ⟨B, 0, none⟩ = false := Lib.frozen_of_heap hT1 0
    have f1 : W.frozen? ⟨B, 1, none⟩ = false := Lib.frozen_of_heap hT1 1
    have f2 : W.frozen? ⟨B, 2, none⟩ = false := Lib.frozen_of_heap hT1 2
    have f3 : W.frozen? ⟨B, 3, none⟩ = false := Lib.frozen_of_heap hT1 3
    have f4 : W.frozen? ⟨B, 4, none⟩ = false := Lib.frozen_of_heap hT1 4
    have f5 : W.frozen? ⟨B + 1, 0, none⟩ = false := Lib.frozen_of_heap hE1 0
    have f6 : W.frozen? ⟨B + 2, 0, none⟩ = false := Lib.frozen_of_heap hA1 0
    have HH := Lib.hid (And.intro hT1 (And.intro hE1 hA1))
    have hne : ¬ B = w.heap.size := by omega
    have hne1 : ¬ B + 1 = w.heap.size := by omega
    have hne2 : ¬ B + 2 = w.heap.size := by omega
    have hWs : w.heap.size < W.heap.size := hs1
    clear hT1 hE1 hA1 hF1
    go_region
    go_step
    refine ⟨rfl, rfl, ?_⟩
    have hc5 := cell5_grown W B 0 (.int .i64 0) (.int .i64 0) (.int .i64 0) (.int .i64 0) (.slice none 0 0)
    have k1 : (cell5 W B 0 (.int .i64 0) (.int .i64 0) (.int .i64 0) (.int .i64 0) (.slice none 0 0)).heap[B]? = some (.cells #[.int .i64 0, .int .i64 0, .int .i64 0, .int .i64 0, .slice none 0 0] 26 (0, 0)) := five_set HH.out.1
    have k2 := (hc5.block (B + 1) (by omega) (fun e => by have := Option.some.inj e; omega)).trans HH.out.2.1
    have k3 := (hc5.block (B + 2) (by omega) (fun e => by have := Option.some.inj e; omega)).trans HH.out.2.2
    have hb5 := below_grown (B := B) (Nat.le_refl _) hc5 (by omega)
    obtain ⟨W5, hW5⟩ : ∃ W5, W5 = cell5 W B 0 (.int .i64 0) (.int .i64 0) (.int .i64 0) (.int .i64 0) (.slice none 0 0) := ⟨_, rfl⟩
    rw [← hW5] at hc5 k1 k2 k3 hb5
    have hs5 := hc5.size
    show CatchG B at_ w ((W5' (cell5 W B 0 (.int .i64 0) (.int .i64 0) (.int .i64 0) (.int .i64 0) (.slice none 0 0)) B at_).drew)
    rw [← hW5]
    have m1 := g1 W5 (B + 1) 0 (.int .i64 2)
    have m2 := g1 (W5.setCell ⟨B + 1, 0, none⟩ (.int .i64 2)) (B + 2) 0 (.int .i64 at_)
    have hs6 : (W5.setCell ⟨B + 1, 0, none⟩ (.int .i64 2)).heap.size = W5.heap.size := by simp
    refine ⟨?_, ?_, ?_, ?_⟩
    · exact ((m2.block B (by omega) (fun e => by have := Option.some.inj e; omega)).trans (m1.block B (by omega) (fun e => by have := Option.some.inj e; omega))).trans k1
    · exact (m2.block (B + 1) (by omega) (fun e => by have := Option.some.inj e; omega)).trans (heap_setCell_same _ _ _ _ _ _ k2)
    · exact heap_setCell_same _ _ _ _ _ _ ((m1.block (B + 2) (by omega) (fun e => by have := Option.some.inj e; omega)).trans k3)
    · exact (((HB.out.trans hb5).trans (below_grown (by omega) m1 (by omega))).trans (below_grown (by omega) m2 (by omega))).drew
  · obtain ⟨rfl, hd, hC⟩ := h
    exact ⟨hd, _, rfl, .tuple #[], results_none rfl _ _ _, rfl, rfl, hC⟩
theorem catch_idle (B : Nat) (w : World) :
    CallsD Tryd.prog 37 #[.pointer (some ⟨B, 0, none⟩), .pointer (some ⟨B + 1, 0, none⟩), .pointer (some ⟨B + 2, 0, none⟩)] .returning w fun e u' w' => e = .returned (.tuple #[]) ∧ u' = .returning ∧ w' = w := by
  refine callsD_of_wpS Tryd.func37 rfl fun c₀ cs hu => ?_
  apply wpS_seq
  apply wpS_region
  simp [wpOpsS, go_sem, recoverD, hu, Tryd.ntmps37, Exit.thenS]
  apply wpS_seq
  apply wpS_region
  simp [wpOpsS, go_sem, Exit.thenS]
  refine wpS_cond (t := false) (by simp [Act.eval, Array.replicate]) ?_
  simp only [Bool.false_eq_true, if_false]
  refine wpS_of_wp (wp_skip ?_)
  cases c₀
  simp_all [bodyPostS, results, Tryd.results37]
end Go.Proofs.YtpekceadjcbphaaDoor

namespace Go.Proofs.YtpekceadjcbphaaDoor
open Go.RowKit Go.Maps Go.ChangeShapes

def readT (l : List UInt8) (names : Names) (i j : Int) : Except Nat Tm :=
  match termP (ofL l).2.1 i j ((ofL l).1.length + 1) 0 names.reverse (ofL l).1 with
  | .error a => .error a
  | .ok (t, r) => match endP (ofL l).2.1 (ofL l).2.2 r with
    | .error a => .error a
    | .ok _ => .ok t
def WholeG (w : World) (x : Except Nat Tm) (e : Ending) (w' : World) : Prop := Below w.heap.size w w' ∧ match x with
  | .error a => e = .returned (.tuple #[.agg #[.int .i64 0, .int .i64 0, .int .i64 0, .int .i64 0, .slice none 0 0], .int .i64 2, .int .i64 a])
  | .ok t => ∃ s, e = .returned (.tuple #[tv t s, .int .i64 0, .int .i64 0]) ∧ LiesP w' (Own w.heap.size w') t.kids s ∧ t.fine
abbrev zT : Obj := .cells #[.int .i64 0, .int .i64 0, .int .i64 0, .int .i64 0, .slice none 0 0] 26
abbrev zE : Obj := .cells #[.int .i64 0] 27
abbrev zA : Obj := .cells #[.int .i64 0] 3
theorem three_new (w : World) : ((((w.alloc zT).alloc zE).alloc zA).heap.size = w.heap.size + 3) ∧ (((w.alloc zT).alloc zE).alloc zA).heap[w.heap.size]? = some zT ∧ (((w.alloc zT).alloc zE).alloc zA).heap[w.heap.size + 1]? = some zE ∧ (((w.alloc zT).alloc zE).alloc zA).heap[w.heap.size + 2]? = some zA ∧ Below w.heap.size w (((w.alloc zT).alloc zE).alloc zA) := by
  have b1 := al w zT
  have b2 := al (w.alloc zT) zE
  have b3 := al ((w.alloc zT).alloc zE) zA
  have s1 : (w.alloc zT).heap.size = w.heap.size + 1 := by simp
  have s2 : ((w.alloc zT).alloc zE).heap.size = w.heap.size + 2 := by simp
  have e1 : (w.alloc zT).heap[w.heap.size]? = some zT := alloc_new _ _
  have e2 : ((w.alloc zT).alloc zE).heap[w.heap.size + 1]? = some zE := by have := alloc_new (w.alloc zT) zE; rw [s1] at this; exact this
  have e3 : (((w.alloc zT).alloc zE).alloc zA).heap[w.heap.size + 2]? = some zA := by have := alloc_new ((w.alloc zT).alloc zE) zA; rw [s2] at this; exact this
  exact ⟨by simp, (b3.block _ (by omega)).trans ((b2.block _ (by omega)).trans e1), (b3.block _ (by omega)).trans e2, e3, (b1.trans (b2.mono (by omega))).trans (b3.mono (by omega))⟩
theorem make_inner (w : World) : (Instr.makeMap 72 none).run Tryd.prog w = .ok (.map (some w.heap.size)) (w.alloc (.map #[] 0)) := by kernel_rfl
theorem rd_start {l : List UInt8} {w w1 : World} {S : Nat} {i j : Int} {names : Names} {a : Option Addr} {cap : Nat} {v : Value} (hS : w1.heap.size = S + 1) (hB : w.heap.size + 3 ≤ S) (h1 : SAt w1 S v (ofL l).2.1 (ofL l).2.2) (h2 : TLies w1 (ofL l).1 v) (ho : TxLies (w.heap.size + 3) w1 names (.slice a names.length cap)) (hl : l.length ≤ 10000000) (hm : names.length ≤ 10000000) (hsh : ∀ y ∈ names, y.length ≤ 10000000) :
    RSt (RC.mk (w.heap.size + 3) S (w1.heap.size + 1) w1.heap.size (ofL l).2.1 (ofL l).2.2 i j names (.slice a names.length cap) (100 * (ofL l).1.length)) 0 names.reverse (ofL l).1 ((w1.alloc (.map #[] 0)).alloc (.cells #[.pointer (some ⟨S, 0, none⟩), .int .i64 i, .int .i64 j, .slice a names.length cap, .map (some w1.heap.size), .int .i64 names.length, .map none, .int .i64 0] 75)) ∧ Below w1.heap.size w1 ((w1.alloc (.map #[] 0)).alloc (.cells #[.pointer (some ⟨S, 0, none⟩), .int .i64 i, .int .i64 j, .slice a names.length cap, .map (some w1.heap.size), .int .i64 names.length, .map none, .int .i64 0] 75)) := by
  have hbd := ofL_bound l
  have b1 := al w1 (.map #[] 0)
  have b2 := al (w1.alloc (.map #[] 0)) (.cells #[.pointer (some ⟨S, 0, none⟩), .int .i64 i, .int .i64 j, .slice a names.length cap, .map (some w1.heap.size), .int .i64 names.length, .map none, .int .i64 0] 75)
  have s1 : (w1.alloc (.map #[] 0)).heap.size = w1.heap.size + 1 := by simp
  have bb := b1.trans (b2.mono (by omega))
  have g0 := World.ownsGroups_made (H := Unit) w1 Tryd.prog 9 3 .i64
  have hbs := bb.size
  have q1 := alloc_new (w1.alloc (.map #[] 0)) (.cells #[.pointer (some ⟨S, 0, none⟩), .int .i64 i, .int .i64 j, .slice a names.length cap, .map (some w1.heap.size), .int .i64 names.length, .map none, .int .i64 0] 75)
  rw [s1] at q1
  have q2 := groups_same g0 (b2.block _ (by omega)) (fun g cs fz e => by rw [b2.block _ (hlt_of e)]; exact e)
  have q3 := (bb.block S (by omega)).trans h1
  have q4 : TLies ((w1.alloc (.map #[] 0)).alloc (.cells #[.pointer (some ⟨S, 0, none⟩), .int .i64 i, .int .i64 j, .slice a names.length cap, .map (some w1.heap.size), .int .i64 names.length, .map none, .int .i64 0] 75)) (ofL l).1 v := h2.keep fun g cs fz e => by rw [bb.block _ (hlt_of e)]; exact e
  have q5 := ho.keep (bb.mono (by omega))
  have q6 : ∀ t ∈ (ofL l).1, t.s.length ≤ 10000000 := fun t ht => by have := (hbd.2.2 t ht).1; omega
  have q7 : (ofL l).1.length ≤ 10000000 := by omega
  have q8 : names.reverse.length = names.length := List.length_reverse
  obtain ⟨W, hW⟩ : ∃ W, W = (w1.alloc (.map #[] 0)).alloc (.cells #[.pointer (some ⟨S, 0, none⟩), .int .i64 i, .int .i64 j, .slice a names.length cap, .map (some w1.heap.size), .int .i64 names.length, .map none, .int .i64 0] 75) := ⟨_, rfl⟩
  rw [← hW] at hbs bb q1 q2 q3 q4 q5
  rw [← hW]
  clear hW b2 hbd
  obtain ⟨ts, hts⟩ : ∃ ts, (ofL l).1 = ts := ⟨_, rfl⟩
  rw [hts] at q4 q6 q7
  rw [hts]
  refine ⟨?_, bb⟩
  refine { bS := hB, bR := ?_, bM := ?_, lo := ?_, kk := ?_, str := ⟨v, q3, q4⟩, tok := q6, rdr := ?_, outs := q5, many := ?_, short := hsh }
  · dsimp only; omega
  · dsimp only; omega
  · dsimp only; omega
  · dsimp only; omega
  · refine ⟨0, 0, .map none, .map [], [], ?_, ?_, Or.inl rfl, q2, rfl, ⟨⟨[], rfl⟩, fun x => Or.inl ⟨rfl, rfl⟩⟩⟩
    · unfold RAt
      rw [q8]
      exact q1
    · dsimp only; omega
  · show names.reverse.length + 100 * ts.length + 0 ≤ 100000000000
    omega
theorem liesP_setR {w : World} {B g i : Nat} {l : List Tm} {s v : Value} (h : LiesP w (Own B w) l s) (hB : g < B) : LiesP (w.setCell ⟨g, i, none⟩ v) (Own B (w.setCell ⟨g, i, none⟩ v)) l s := by
  have k := g1 w g i v
  revert k
  generalize w.setCell ⟨g, i, none⟩ v = w'
  intro k
  exact liesP_grown h k hB
def finV (w : World) (n : Nat) (v0 v1 v2 v3 v4 : Value) : World := ((cell5 w n 0 v0 v1 v2 v3 v4).setCell ⟨n + 1, 0, none⟩ (.int .i64 0)).setCell ⟨n + 2, 0, none⟩ (.int .i64 0)
set_option maxHeartbeats 4000000 in
theorem whole_fin {w2 : World} {n B' : Nat} {v0 v1 v2 v3 v4 z0 z1 z2 z3 z4 x y s : Value} {l : List Tm} (hz : w2.heap[n]? = some (.cells #[z0, z1, z2, z3, z4] 26 (0, 0))) (h1 : w2.heap[n + 1]? = some (.cells #[x] 27 (0, 0))) (h2 : w2.heap[n + 2]? = some (.cells #[y] 3 (0, 0))) (hl : LiesP w2 (Own B' w2) l s) (hB : n + 2 < B') :
    (finV (cell5 w2 n 0 v0 v1 v2 v3 v4) n v0 v1 v2 v3 v4).heap[n]? = some (.cells #[v0, v1, v2, v3, v4] 26 (0, 0)) ∧ (finV (cell5 w2 n 0 v0 v1 v2 v3 v4) n v0 v1 v2 v3 v4).heap[n + 1]? = some (.cells #[.int .i64 0] 27 (0, 0)) ∧ (finV (cell5 w2 n 0 v0 v1 v2 v3 v4) n v0 v1 v2 v3 v4).heap[n + 2]? = some (.cells #[.int .i64 0] 3 (0, 0)) ∧ LiesP (finV (cell5 w2 n 0 v0 v1 v2 v3 v4) n v0 v1 v2 v3 v4) (Own B' (finV (cell5 w2 n 0 v0 v1 v2 v3 v4) n v0 v1 v2 v3 v4)) l s ∧ Below n w2 (finV (cell5 w2 n 0 v0 v1 v2 v3 v4) n v0 v1 v2 v3 v4) := by
  have hn := hlt_of h2
  have c1 := cell5_grown w2 n 0 v0 v1 v2 v3 v4
  have c2 := cell5_grown (cell5 w2 n 0 v0 v1 v2 v3 v4) n 0 v0 v1 v2 v3 v4
  have k1 : (cell5 w2 n 0 v0 v1 v2 v3 v4).heap[n]? = some (.cells #[v0, v1, v2, v3, v4] 26 (0, 0)) := five_set hz
  have k2 : (cell5 (cell5 w2 n 0 v0 v1 v2 v3 v4) n 0 v0 v1 v2 v3 v4).heap[n]? = some (.cells #[v0, v1, v2, v3, v4] 26 (0, 0)) := five_set k1
  have l2 := liesP_grown (liesP_grown hl c1 (by omega)) c2 (by omega)
  have cc := c1.trans c2
  have e1 := (cc.block (n + 1) (by omega) (fun e => by have := Option.some.inj e; omega)).trans h1
  have e2 := (cc.block (n + 2) (by omega) (fun e => by have := Option.some.inj e; omega)).trans h2
  have hb := below_grown (B := n) (Nat.le_refl _) cc (by omega)
  have hs := cc.size
  obtain ⟨W, hW⟩ : ∃ W, W = cell5 (cell5 w2 n 0 v0 v1 v2 v3 v4) n 0 v0 v1 v2 v3 v4 := ⟨_, rfl⟩
  rw [← hW] at k2 l2 e1 e2 hb hs
  unfold finV
  rw [← hW]
  have m1 := g1 W (n + 1) 0 (.int .i64 0)
  have m2 := g1 (W.setCell ⟨n + 1, 0, none⟩ (.int .i64 0)) (n + 2) 0 (.int .i64 0)
  have hs6 : (W.setCell ⟨n + 1, 0, none⟩ (.int .i64 0)).heap.size = W.heap.size := by simp
  refine ⟨?_, ?_, ?_, liesP_setR (liesP_setR l2 (by omega)) hB, ?_⟩
  · exact ((m2.block n (by omega) (fun e => by have := Option.some.inj e; omega)).trans (m1.block n (by omega) (fun e => by have := Option.some.inj e; omega))).trans k2
  · exact (m2.block (n + 1) (by omega) (fun e => by have := Option.some.inj e; omega)).trans (heap_setCell_same _ _ _ _ _ _ e1)
  · exact heap_setCell_same _ _ _ _ _ _ ((m1.block (n + 2) (by omega) (fun e => by have := Option.some.inj e; omega)).trans e2)
  · exact (hb.trans (below_grown (by omega) m1 (by omega))).trans (below_grown (by omega) m2 (by omega))
set_option maxRecDepth 20000 in
theorem read_results (tmps : Array Value) (w : World) (n : Nat) (v0 v1 v2 v3 v4 u1 u2 : Value) (h8 : tmps.getD 8 undef = .pointer (some ⟨n, 0, none⟩)) (h9 : tmps.getD 9 undef = .pointer (some ⟨n + 1, 0, none⟩)) (h10 : tmps.getD 10 undef = .pointer (some ⟨n + 2, 0, none⟩)) (k0 : w.heap[n]? = some (.cells #[v0, v1, v2, v3, v4] 26 (0, 0))) (k1 : w.heap[n + 1]? = some (.cells #[u1] 27 (0, 0))) (k2 : w.heap[n + 2]? = some (.cells #[u2] 3 (0, 0))) :
    (results Tryd.f21 tmps).run Tryd.prog w = .ok (.tuple #[.agg #[v0, v1, v2, v3, v4], u1, u2]) w := by
  have h8' : tmps[8]?.getD undef = .pointer (some ⟨n, 0, none⟩) := by simpa using h8
  have h9' : tmps[9]?.getD undef = .pointer (some ⟨n + 1, 0, none⟩) := by simpa using h9
  have h10' : tmps[10]?.getD undef = .pointer (some ⟨n + 2, 0, none⟩) := by simpa using h10
  have y0 : w.cell? ⟨n, 0, none⟩ = some v0 := by rw [Lib.cell_of_heap k0]; rfl
  have y1 : w.cell? ⟨n, 1, none⟩ = some v1 := by rw [Lib.cell_of_heap k0]; rfl
  have y2 : w.cell? ⟨n, 2, none⟩ = some v2 := by rw [Lib.cell_of_heap k0]; rfl
  have y3 : w.cell? ⟨n, 3, none⟩ = some v3 := by rw [Lib.cell_of_heap k0]; rfl
  have y4 : w.cell? ⟨n, 4, none⟩ = some v4 := by rw [Lib.cell_of_heap k0]; rfl
  have x1 : w.cell? ⟨n + 1, 0, none⟩ = some u1 := by rw [Lib.cell_of_heap k1]; rfl
  have x2 : w.cell? ⟨n + 2, 0, none⟩ = some u2 := by rw [Lib.cell_of_heap k2]; rfl
  simp [results, Tryd.results21, h8', h9', h10', asAddr, y0, y1, y2, y3, y4, x1, x2, go_sem]
end Go.Proofs.YtpekceadjcbphaaDoor

namespace Go.Proofs.YtpekceadjcbphaaDoor
open Go.RowKit Go.Maps Go.ChangeShapes

set_option maxHeartbeats 1600000 in
set_option maxRecDepth 20000 in
theorem whole_any (s : ByteArray) (names : Names) (a : Option Addr) (cap : Nat) (i j : Int) (hij : (0 ≤ i ∧ i ≤ 1000) ∧ 0 ≤ j ∧ j ≤ 1000) (w : World) (hs : s.size ≤ 10000000) (hT : TabsR w.heap.size w) (hN : TxLies w.heap.size w names (.slice a names.length cap)) (hm : names.length ≤ 10000000) (hsh : ∀ y ∈ names, y.length ≤ 10000000) :
    Calls Tryd.prog 21 #[.string s, .slice a names.length cap, .int .i64 i, .int .i64 j] w (WholeG w (readT s.data.toList names i j)) := by
  have hmf : ∀ (fn : Fn) (first cap : Array Value) (w : World), (Instr.makeFunc fn first cap).run Tryd.prog w = .ok (.func fn first cap) w := fun _ _ _ _ => rfl
  have hmk := make_inner
  have HN := Lib.hid hN
  have HT := Lib.hid hT
  have HSH := Lib.hid hsh
  have HIJ := Lib.hid hij
  have H3 := Lib.hid (three_new w)
  have hsl : s.data.toList.length = s.size := by simp
  have HSL := Lib.hid hsl
  clear hN hT hsh hij hsl
  go_enter_defers Tryd.func21, Tryd.ntmps21
  go_upto_region 1 with fail
  obtain ⟨w3, hw3⟩ : ∃ w3, w3 = ((w.alloc zT).alloc zE).alloc zA := ⟨_, rfl⟩
  rw [← hw3]
  have HC := Lib.hid H3.out
  rw [← hw3] at HC
  have h3s : w.heap.size + 3 = w3.heap.size := HC.out.1.symm
  clear hw3 H3
  go_wp2_with fail
  refine (of_any s w3 hs).mono ?_
  intro e w1 hg
  obtain ⟨v, rfl, hlt, hSA, hTL, hB1⟩ := hg
  obtain ⟨S, hS⟩ : ∃ S, w1.heap.size - 1 = S := ⟨_, rfl⟩
  rw [hS] at hSA
  rw [hS]
  have hS1 : w1.heap.size = S + 1 := by omega
  have hSB : w.heap.size + 3 ≤ S := by omega
  have hN1 := (HN.out.keep HC.out.2.2.2.2).keep (hB1.mono (by omega))
  have hN3 : TxLies (w.heap.size + 3) w1 names (.slice a names.length cap) := by
    obtain ⟨a', c', e1, e2, e3, e4⟩ := hN1
    exact ⟨a', c', e1, e2, e3, fun q hq => by obtain ⟨g, o, h1, h2, h3⟩ := e4 q hq; exact ⟨g, o, h1, by omega, h3⟩⟩
  have hst := rd_start (l := s.data.toList) (i := i) (j := j) hS1 hSB hSA hTL hN3 (by rw [HSL.out]; exact hs) hm HSH.out
  have HR := Lib.hid hst.1
  have HB := Lib.hid ((HC.out.2.2.2.2.trans (hB1.mono (by omega))).trans (hst.2.mono (by omega)))
  have HB3 := Lib.hid (hB1.trans (hst.2.mono (by omega)))
  have hw1 : w.heap.size + 4 ≤ w1.heap.size := by omega
  have HS := Lib.hid hS1
  have HBD := Lib.hid (ofL_bound s.data.toList)
  clear hSA hTL hB1 hN1 hN3 hst hS hS1 hlt
  go_upto_region 2 with fail
  obtain ⟨W, hW⟩ : ∃ W, W = (w1.alloc (.map #[] 0)).alloc (.cells #[.pointer (some ⟨S, 0, none⟩), .int .i64 i, .int .i64 j, .slice a names.length cap, .map (some w1.heap.size), .int .i64 names.length, .map none, .int .i64 0] 75) := ⟨_, rfl⟩
  rw [← hW]
  rw [← hW] at HR HB HB3
  have hWs : W.heap.size = w1.heap.size + 2 := by rw [hW]; simp
  have HWS := Lib.hid hWs
  have HT1 := Lib.hid (show TabsR (w.heap.size + 3) W from ⟨by have := HT.out.lo; omega, (HT.out.keep HB.out).heads, (HT.out.keep HB.out).syms⟩)
  have HTM := Lib.hid (rterm_any (RC.mk (w.heap.size + 3) S (w1.heap.size + 1) w1.heap.size (ofL s.data.toList).2.1 (ofL s.data.toList).2.2 i j names (.slice a names.length cap) (100 * (ofL s.data.toList).1.length)) HIJ.out ((ofL s.data.toList).1.length + 1) 0 names.reverse (ofL s.data.toList).1 0 W (by omega) HR.out HT1.out)
  have z0 := (HB3.out.block w.heap.size (by omega)).trans HC.out.2.1
  have z1 := (HB3.out.block (w.heap.size + 1) (by omega)).trans HC.out.2.2.1
  have z2 := (HB3.out.block (w.heap.size + 2) (by omega)).trans HC.out.2.2.2.1
  have HZ := Lib.hid (And.intro z0 (And.intro z1 z2))
  clear hW z0 z1 z2 hWs
  go_wp2_with fail
  refine HTM.out.mono ?_
  intro e w2 hg
  cases hx : termP (ofL s.data.toList).2.1 i j ((ofL s.data.toList).1.length + 1) 0 names.reverse (ofL s.data.toList).1 with
  | error at_ =>
    rw [show termP (RC.E (RC.mk (w.heap.size + 3) S (w1.heap.size + 1) w1.heap.size (ofL s.data.toList).2.1 (ofL s.data.toList).2.2 i j names (.slice a names.length cap) (100 * (ofL s.data.toList).1.length))) (RC.i (RC.mk (w.heap.size + 3) S (w1.heap.size + 1) w1.heap.size (ofL s.data.toList).2.1 (ofL s.data.toList).2.2 i j names (.slice a names.length cap) (100 * (ofL s.data.toList).1.length))) (RC.j (RC.mk (w.heap.size + 3) S (w1.heap.size + 1) w1.heap.size (ofL s.data.toList).2.1 (ofL s.data.toList).2.2 i j names (.slice a names.length cap) (100 * (ofL s.data.toList).1.length))) ((ofL s.data.toList).1.length + 1) 0 names.reverse (ofL s.data.toList).1 = .error at_ from hx] at hg
    obtain ⟨rfl, hf⟩ := hg
    have HX := Lib.hid (show readT s.data.toList names i j = .error at_ by unfold readT; rw [hx])
    have hfb : Below (w.heap.size + 3) W w2 := hf.below
    have HZ2 := Lib.hid (And.intro ((hfb.block _ (by omega)).trans HZ.out.1) (And.intro ((hfb.block _ (by omega)).trans HZ.out.2.1) ((hfb.block _ (by omega)).trans HZ.out.2.2)))
    have HB2 := Lib.hid (HB.out.trans (hfb.mono (by omega)))
    clear hx hf hfb
    unfold faultP
    go_wp2
    refine leaves_cons (f := 37) (args := #[.pointer (some ⟨w.heap.size, 0, none⟩), .pointer (some ⟨w.heap.size + 1, 0, none⟩), .pointer (some ⟨w.heap.size + 2, 0, none⟩)]) (by simp) (by simp [go_sem]) ?_
    refine (catch_panicking w.heap.size at_ w2 HZ2.out.1 HZ2.out.2.1 HZ2.out.2.2).mono ?_
    rintro e u' w'' ⟨rfl, rfl, hC⟩
    show ∃ v, (results _ _).run _ _ = .ok v _ ∧ _
    refine ⟨_, read_results _ w'' w.heap.size _ _ _ _ _ _ _ rfl rfl rfl hC.1 hC.2.1 hC.2.2.1, ?_⟩
    rw [HX.out]
    exact ⟨HB2.out.trans hC.2.2.2, rfl⟩
  | ok m =>
    obtain ⟨t, r⟩ := m
    rw [show termP (RC.E (RC.mk (w.heap.size + 3) S (w1.heap.size + 1) w1.heap.size (ofL s.data.toList).2.1 (ofL s.data.toList).2.2 i j names (.slice a names.length cap) (100 * (ofL s.data.toList).1.length))) (RC.i (RC.mk (w.heap.size + 3) S (w1.heap.size + 1) w1.heap.size (ofL s.data.toList).2.1 (ofL s.data.toList).2.2 i j names (.slice a names.length cap) (100 * (ofL s.data.toList).1.length))) (RC.j (RC.mk (w.heap.size + 3) S (w1.heap.size + 1) w1.heap.size (ofL s.data.toList).2.1 (ofL s.data.toList).2.2 i j names (.slice a names.length cap) (100 * (ofL s.data.toList).1.length))) ((ofL s.data.toList).1.length + 1) 0 names.reverse (ofL s.data.toList).1 = .ok (t, r) from hx] at hg
    obtain ⟨sv, rfl, hl, hfi, hs2, hf⟩ := hg
    obtain ⟨au, cu, rfl, -, -⟩ := hl.out
    have hfb : Below (w.heap.size + 3) W w2 := hf.below
    have HZ2 := Lib.hid (And.intro ((hfb.block _ (by omega)).trans HZ.out.1) (And.intro ((hfb.block _ (by omega)).trans HZ.out.2.1) ((hfb.block _ (by omega)).trans HZ.out.2.2)))
    have HB2 := Lib.hid (HB.out.trans (hfb.mono (by omega)))
    have rr : w2.cell? ⟨w1.heap.size + 1, 0, none⟩ = some (.pointer (some ⟨S, 0, none⟩)) := hs2.cells.1
    have rlt : w1.heap.size + 1 < w2.heap.size := hs2.cells.2.2.2.2
    obtain ⟨tv2, hSA2, hTL2⟩ := hs2.str
    have c5 := cell5_grown w2 w.heap.size 0 (.int .i64 t.k) (.int .i64 t.i) (.int .i64 t.j) (.int .i64 t.n) (.slice au t.kids.length cu)
    have k0 : (cell5 w2 w.heap.size 0 (.int .i64 t.k) (.int .i64 t.i) (.int .i64 t.j) (.int .i64 t.n) (.slice au t.kids.length cu)).heap[w.heap.size]? = some (.cells #[.int .i64 t.k, .int .i64 t.i, .int .i64 t.j, .int .i64 t.n, .slice au t.kids.length cu] 26 (0, 0)) := five_set HZ2.out.1
    have k1 := (c5.block (w.heap.size + 1) (by omega) (fun e => by have := Option.some.inj e; omega)).trans HZ2.out.2.1
    have k2 := (c5.block (w.heap.size + 2) (by omega) (fun e => by have := Option.some.inj e; omega)).trans HZ2.out.2.2
    have hSA3 : SAt (cell5 w2 w.heap.size 0 (.int .i64 t.k) (.int .i64 t.i) (.int .i64 t.j) (.int .i64 t.n) (.slice au t.kids.length cu)) S tv2 (ofL s.data.toList).2.1 (ofL s.data.toList).2.2 := (c5.block S (hlt_of hSA2) (fun e => by have := Option.some.inj e; omega)).trans hSA2
    have hTL3 : TLies (cell5 w2 w.heap.size 0 (.int .i64 t.k) (.int .i64 t.i) (.int .i64 t.j) (.int .i64 t.n) (.slice au t.kids.length cu)) r tv2 := hTL2.keep fun g cs fz e => by
      rw [c5.block g (hlt_of e) (fun e2 => by
        have e3 := Option.some.inj e2
        rw [e3] at e
        exact (by decide : (63 : TypeId) ≠ 26) (type_one e HZ2.out.1))]
      exact e
    have HEND := Lib.hid (end_any S tv2 (ofL s.data.toList).2.1 (ofL s.data.toList).2.2 r _ hSA3 hTL3)
    have HKK := Lib.hid (And.intro k0 (And.intro k1 k2))
    have HB5 := Lib.hid (HB2.out.trans (below_grown (Nat.le_refl _) c5 (by omega)))
    have HFIN := Lib.hid (whole_fin (B' := W.heap.size) (v0 := .int .i64 t.k) (v1 := .int .i64 t.i) (v2 := .int .i64 t.j) (v3 := .int .i64 t.n) (v4 := .slice au t.kids.length cu) HZ2.out.1 HZ2.out.2.1 HZ2.out.2.2 hl (by have := HWS.out; omega))
    have HFI := Lib.hid hfi
    have HX1 := Lib.hid hx
    obtain ⟨⟨q0, q1, q2, q3, q4⟩, ⟨g0, g1x, g2, g3, g4⟩, hGl⟩ := cells5_of HZ2.out.1
    have p1 : w2.cell? ⟨w.heap.size + 1, 0, none⟩ = some (.int .i64 0) := by rw [Lib.cell_of_heap HZ2.out.2.1]; rfl
    have p2 : w2.cell? ⟨w.heap.size + 2, 0, none⟩ = some (.int .i64 0) := by rw [Lib.cell_of_heap HZ2.out.2.2]; rfl
    have p3 : w2.frozen? ⟨w.heap.size + 1, 0, none⟩ = false := Lib.frozen_of_heap HZ2.out.2.1 0
    have p4 : w2.frozen? ⟨w.heap.size + 2, 0, none⟩ = false := Lib.frozen_of_heap HZ2.out.2.2 0
    have hne : ¬ w1.heap.size + 1 = w.heap.size := by omega
    clear hl hfi hs2 hf hfb hSA2 hTL2 c5 k0 k1 k2 hSA3 hTL3 hx
    unfold tv
    go_wp2_with fail
    refine HEND.out.mono ?_
    intro e w4 hg
    obtain ⟨hww, hg⟩ := hg
    rw [hww] at HKK HB5 HFIN
    clear hww HEND q0 q1 q2 q3 q4 g0 g1x g2 g3 g4 hGl p1 p2 p3 p4 rr
    obtain ⟨⟨q0, q1, q2, q3, q4⟩, ⟨g0, g1x, g2, g3, g4⟩, hGl⟩ := cells5_of HKK.out.1
    have p1 : w4.cell? ⟨w.heap.size + 1, 0, none⟩ = some (.int .i64 0) := by rw [Lib.cell_of_heap HKK.out.2.1]; rfl
    have p2 : w4.cell? ⟨w.heap.size + 2, 0, none⟩ = some (.int .i64 0) := by rw [Lib.cell_of_heap HKK.out.2.2]; rfl
    have p3 : w4.frozen? ⟨w.heap.size + 1, 0, none⟩ = false := Lib.frozen_of_heap HKK.out.2.1 0
    have p4 : w4.frozen? ⟨w.heap.size + 2, 0, none⟩ = false := Lib.frozen_of_heap HKK.out.2.2 0
    cases hy : endP (ofL s.data.toList).2.1 (ofL s.data.toList).2.2 r with
    | error at_ =>
      rw [hy] at hg
      obtain rfl := hg
      have HX := Lib.hid (show readT s.data.toList names i j = .error at_ by unfold readT; rw [HX1.out]; simp only; rw [hy])
      clear hy
      unfold faultP
      go_wp2
      refine leaves_cons (f := 37) (args := #[.pointer (some ⟨w.heap.size, 0, none⟩), .pointer (some ⟨w.heap.size + 1, 0, none⟩), .pointer (some ⟨w.heap.size + 2, 0, none⟩)]) (by simp) (by simp [go_sem]) ?_
      refine (catch_panicking w.heap.size at_ w4 HKK.out.1 HKK.out.2.1 HKK.out.2.2).mono ?_
      rintro e u' w'' ⟨rfl, rfl, hC⟩
      show ∃ v, (results _ _).run _ _ = .ok v _ ∧ _
      refine ⟨_, read_results _ w'' w.heap.size _ _ _ _ _ _ _ rfl rfl rfl hC.1 hC.2.1 hC.2.2.1, ?_⟩
      rw [HX.out]
      exact ⟨HB5.out.trans hC.2.2.2, rfl⟩
    | ok u =>
      rw [hy] at hg
      obtain rfl := hg
      have HX := Lib.hid (show readT s.data.toList names i j = .ok t by unfold readT; rw [HX1.out]; simp only; rw [hy])
      clear hy
      go_wp2
      refine leaves_cons (f := 37) (args := #[.pointer (some ⟨w.heap.size, 0, none⟩), .pointer (some ⟨w.heap.size + 1, 0, none⟩), .pointer (some ⟨w.heap.size + 2, 0, none⟩)]) (by simp) (by simp [go_sem]) ?_
      refine (catch_idle w.heap.size _).mono ?_
      rintro e u' w'' ⟨rfl, rfl, rfl⟩
      show ∃ v, (results _ _).run _ _ = .ok v _ ∧ _
      refine ⟨_, read_results _ (finV w4 w.heap.size (.int .i64 t.k) (.int .i64 t.i) (.int .i64 t.j) (.int .i64 t.n) (.slice au t.kids.length cu)) w.heap.size _ _ _ _ _ _ _ rfl rfl rfl HFIN.out.1 HFIN.out.2.1 HFIN.out.2.2.1, ?_⟩
      rw [HX.out]
      exact ⟨HB2.out.trans HFIN.out.2.2.2.2, _, rfl, HFIN.out.2.2.2.1.from (by have := HWS.out; omega), HFI.out⟩
end Go.Proofs.YtpekceadjcbphaaDoor

namespace Go.Proofs.YtpekceadjcbphaaDoor
open Go.RowKit Go.Maps Go.ChangeShapes

theorem results_ct2 {P : Program} {fn : Func} {p q r : Tmp} {ty : TypeId} (h : fn.results = #[.cell p ty, .tmp q, .tmp r]) (tmps : Array Value) (w : World) (g : Nat) (t : TypeId) (cs : Array Value) (fr : Nat × Nat) (d : TypeDesc)
    (hp : tmps.getD p undef = .pointer (some ⟨g, 0, none⟩)) (hg : w.heap[g]? = some (.cells cs t fr))
    (hu : P.underlying ty = some d) (hd : (match d with | .struct _ | .array _ _ => true | _ => false) = true) (hi : (P.info? ty).map (·.size) = some cs.size) :
    (results fn tmps).run P w = .ok (.tuple #[.agg cs, tmps.getD q undef, tmps.getD r undef]) w := by
  have hp' : tmps[p]?.getD undef = .pointer (some ⟨g, 0, none⟩) := by simpa using hp
  simp [results, h, hp', asAddr, run_loadVar_row w g t ty cs fr d hg hu hd hi]
def readB (l : List UInt8) (names : Names) (i j : Int) : Except (Nat × Nat) Tm :=
  if i < 0 ∨ 1000 < i ∨ j < 0 ∨ 1000 < j then .error (1, 0) else
    match readT l names i j with
    | .error a => .error (2, a)
    | .ok t => .ok t
def ReadG (w : World) (x : Except (Nat × Nat) Tm) (e : Ending) (w' : World) : Prop := Below w.heap.size w w' ∧ match x with
  | .error (k, a) => e = .returned (.tuple #[.agg #[.int .i64 0, .int .i64 0, .int .i64 0, .int .i64 0, .slice none 0 0], .int .i64 k, .int .i64 a])
  | .ok t => ∃ s, e = .returned (.tuple #[tv t s, .int .i64 0, .int .i64 0]) ∧ LiesP w' (Own w.heap.size w') t.kids s ∧ t.fine
theorem TabsR.up {B B' : Nat} {w : World} (h : TabsR B w) (hB : B ≤ B') : TabsR B' w := ⟨by have := h.lo; omega, h.heads, h.syms⟩
theorem TxLies.up {B B' : Nat} {w : World} {l : Names} {v : Value} (h : TxLies B w l v) (hB : B ≤ B') : TxLies B' w l v := by
  obtain ⟨a, c, e1, e2, e3, e4⟩ := h
  exact ⟨a, c, e1, e2, e3, fun q hq => by obtain ⟨g, o, h1, h2, h3⟩ := e4 q hq; exact ⟨g, o, h1, by omega, h3⟩⟩
set_option maxHeartbeats 400000 in
set_option maxRecDepth 20000 in
theorem read_any (s : ByteArray) (names : Names) (nv : Value) (i j : Int) (w : World) (hs : s.size ≤ 10000000) (hT : TabsR w.heap.size w) (hN : TxLies w.heap.size w names nv) (hm : names.length ≤ 10000000) (hsh : ∀ y ∈ names, y.length ≤ 10000000) :
    Calls Tryd.prog 8 #[.string s, nv, .int .i64 i, .int .i64 j] w (ReadG w (readB s.data.toList names i j)) := by
  obtain ⟨du, hu1, hu2⟩ := under_term
  obtain ⟨a, cap, rfl, hN2⟩ := hN
  have hN : TxLies w.heap.size w names (.slice a names.length cap) := ⟨a, cap, rfl, hN2⟩
  have hba := al w zT
  have hsz : (w.alloc zT).heap.size = w.heap.size + 1 := by simp
  have HG := Lib.hid (show (w.alloc zT).heap[w.heap.size]? = some zT from alloc_new _ _)
  have HW := Lib.hid (fun (h : (0 ≤ i ∧ i ≤ 1000) ∧ 0 ≤ j ∧ j ≤ 1000) => whole_any s names a cap i j h (w.alloc zT) hs ((hT.keep hba).up (by omega)) ((hN.keep hba).up (by omega)) hm hsh)
  have HBA := Lib.hid hba
  have HSZ := Lib.hid hsz
  clear hN hN2 hT hba hsh hsz
  by_cases c1 : i < 0
  · skip
    have HX := Lib.hid (show readB s.data.toList names i j = .error (1, 0) from if_pos (by omega))
    go_enter Tryd.func8, Tryd.ntmps8
    go_wp2
    refine bodyPost_ret (results_ct2 rfl _ _ w.heap.size _ _ _ du rfl HG.out hu1 (by cases du <;> first | rfl | exact hu2) size_term) rfl ?_
    rw [HX.out]
    exact ⟨HBA.out, rfl⟩
  by_cases c2 : 1000 < i
  · skip
    have HX := Lib.hid (show readB s.data.toList names i j = .error (1, 0) from if_pos (by omega))
    go_enter Tryd.func8, Tryd.ntmps8
    go_wp2
    refine bodyPost_ret (results_ct2 rfl _ _ w.heap.size _ _ _ du rfl HG.out hu1 (by cases du <;> first | rfl | exact hu2) size_term) rfl ?_
    rw [HX.out]
    exact ⟨HBA.out, rfl⟩
  by_cases c3 : j < 0
  · skip
    have HX := Lib.hid (show readB s.data.toList names i j = .error (1, 0) from if_pos (by omega))
    go_enter Tryd.func8, Tryd.ntmps8
    go_wp2
    refine bodyPost_ret (results_ct2 rfl _ _ w.heap.size _ _ _ du rfl HG.out hu1 (by cases du <;> first | rfl | exact hu2) size_term) rfl ?_
    rw [HX.out]
    exact ⟨HBA.out, rfl⟩
  by_cases c4 : 1000 < j
  · skip
    have HX := Lib.hid (show readB s.data.toList names i j = .error (1, 0) from if_pos (by omega))
    go_enter Tryd.func8, Tryd.ntmps8
    go_wp2
    refine bodyPost_ret (results_ct2 rfl _ _ w.heap.size _ _ _ du rfl HG.out hu1 (by cases du <;> first | rfl | exact hu2) size_term) rfl ?_
    rw [HX.out]
    exact ⟨HBA.out, rfl⟩
  have HC := Lib.hid (HW.out (by omega))
  have HX := Lib.hid (show readB s.data.toList names i j = (match readT s.data.toList names i j with
    | .error a => .error (2, a)
    | .ok t => .ok t) from if_neg (by omega))
  clear HW
  go_enter Tryd.func8, Tryd.ntmps8
  go_wp2_with fail
  refine HC.out.mono ?_
  intro e w2 hg
  obtain ⟨hB, hg⟩ := hg
  have hz2 := (hB.block w.heap.size (by have := HSZ.out; omega)).trans HG.out
  obtain ⟨⟨q0, q1, q2, q3, q4⟩, ⟨g0, g1x, g2, g3, g4⟩, hGl⟩ := cells5_of hz2
  have HZ := Lib.hid hz2
  have HB := Lib.hid (HBA.out.trans (hB.mono (by have := HSZ.out; omega)))
  clear hz2 hB HBA
  cases hx : readT s.data.toList names i j with
  | error at_ =>
    rw [hx] at hg HX
    obtain rfl := hg
    clear hx
    go_wp2
    refine bodyPost_ret (results_ct2 rfl _ _ w.heap.size _ _ _ du rfl (five_set HZ.out) hu1 (by cases du <;> first | rfl | exact hu2) size_term) rfl ?_
    rw [HX.out]
    exact ⟨HB.out.trans (below_grown (Nat.le_refl _) (cell5_grown w2 w.heap.size 0 (.int .i64 0) (.int .i64 0) (.int .i64 0) (.int .i64 0) (.slice none 0 0)) (by omega)), rfl⟩
  | ok t =>
    rw [hx] at hg HX
    obtain ⟨sv, rfl, hl, hfi⟩ := hg
    obtain ⟨au, cu, rfl, -, -⟩ := hl.out
    have c5 := cell5_grown w2 w.heap.size 0 (.int .i64 t.k) (.int .i64 t.i) (.int .i64 t.j) (.int .i64 t.n) (.slice au t.kids.length cu)
    have HLL := Lib.hid ((liesP_grown hl c5 (by have := HSZ.out; omega)).from (B' := w.heap.size) (by have := HSZ.out; omega))
    have HBB := Lib.hid (HB.out.trans (below_grown (Nat.le_refl _) c5 (by omega)))
    have HFI := Lib.hid hfi
    clear hx hl c5 hfi
    unfold tv
    go_wp2
    refine bodyPost_ret (results_ct2 rfl _ _ w.heap.size _ _ _ du rfl (five_set HZ.out) hu1 (by cases du <;> first | rfl | exact hu2) size_term) rfl ?_
    rw [HX.out]
    exact ⟨HBB.out, _, rfl, HLL.out, HFI.out⟩
/-- Name. -/
def nameB (n : Int) : List UInt8 := if 1 ≤ n ∧ n ≤ 21 then (symsW[(n - 1).toNat]?).getD [] else []
end Go.Proofs.YtpekceadjcbphaaDoor

namespace Go.Proofs.YtpekceadjcbphaaDoor.Sg

mutual
def formB : Tm → Tm → Bool
  | .mk k i _ n l, .mk k' i' _ n' l' => (k == k') && ((n == n') && ((k != 2 || i == i') && formsB l l'))
def formsB : List Tm → List Tm → Bool
  | [], [] => true
  | x :: r, y :: s => formB x y && formsB r s
  | [], _ :: _ => false
  | _ :: _, [] => false
end
theorem formB_eq (a b : Tm) : formB a b = ((a.k == b.k) && ((a.n == b.n) && ((a.k != 2 || a.i == b.i) && formsB a.kids b.kids))) := by
  cases a; cases b; simp only [formB]; rfl
theorem formsB_all : ∀ {l m : List Tm}, l.length = m.length → (∀ q (h : q < l.length) (h' : q < m.length), formB (l[q]'h) (m[q]'h') = true) → formsB l m = true
  | [], [], _, _ => by simp [formsB]
  | x :: r, y :: s, hl, h => by
    simp only [formsB, Bool.and_eq_true]
    exact ⟨h 0 (by simp) (by simp), formsB_all (by simpa using hl) fun q h1 h2 => h (q + 1) (by simpa using h1) (by simpa using h2)⟩
  | [], _ :: _, hl, _ => by simp at hl
  | _ :: _, [], hl, _ => by simp at hl
theorem TR.form {R S : Int → Int → Prop} {t a : Tm} (h : TR R t a) : ∀ {b : Tm}, TR S t b → formB a b = true := by
  induction h with
  | var q =>
    intro b hb
    cases hb with
    | var => simp [formB_eq, Tm.k, Tm.n, Tm.i, Tm.kids, formsB]
    | node k i j n i' j' l l' hk => exact absurd rfl hk
  | node k i j n i' j' l l' hk hi hj hl hkids ih =>
    intro b hb
    cases hb with
    | var => exact absurd rfl hk
    | node _ _ _ _ i2 j2 _ l2 _ hi2 hj2 hl2 hkids2 =>
      rw [formB_eq]
      have hf : formsB l' l2 = true := formsB_all (by omega) fun q h1 h2 => ih q (by omega) h1 (hkids2 q (by omega) h2)
      simp only [Tm.k, Tm.n, Tm.kids, Tm.i, hf, beq_self_eq_true, Bool.true_and, Bool.and_true, Bool.or_eq_true, bne_iff_ne]
      exact Or.inl hk
theorem TR.same {t a : Tm} (h : TR Eq t a) : t = a := by
  induction h with
  | var q => rfl
  | node k i j n i' j' l l' hk hi hj hl hkids ih =>
    subst hi hj
    have : l = l' := List.ext_getElem hl fun q h1 h2 => ih q h1 h2
    rw [this]
theorem TR.k {R : Int → Int → Prop} {t a : Tm} (h : TR R t a) : t.k = a.k := by cases h <;> rfl
/-- Levels that are at most others. -/
def Mo (a b : Int) : Prop := 0 ≤ b ∧ b ≤ a
theorem mo_lv {P : Tok → Prop} {i j : Int} (hi : 0 ≤ i ∧ i ≤ 999) (hj : 0 ≤ j ∧ j ≤ 999) : LvR P Mo 999 999 i j where
  num n := ⟨Int.natCast_nonneg n, Int.le_refl _⟩
  suc a b h := by unfold Mo at h ⊢; omega
  max a b c d h k := by unfold Mo at h k ⊢; omega
  i := by unfold Mo; omega
  j := fun _ _ _ _ => by unfold Mo; omega
  top a b h k := by unfold Mo at h; omega
theorem readT_rel {P : Tok → Prop} {R : Int → Int → Prop} {l : List UInt8} {names : Names} {i j i' j' : Int} (hR : LvR P R i j i' j') (hP : ∀ t ∈ (ofL l).1, P t) {t : Tm} (h : readT l names i j = .ok t) : ∃ t', readT l names i' j' = .ok t' ∧ TR R t t' := by
  unfold readT at h ⊢
  split at h
  · cases h
  · rename_i u r he
    obtain ⟨⟨t', e1, q1⟩, -⟩ := termP_rel hR _ _ _ _ _ _ hP he
    rw [e1]
    dsimp only
    split at h
    · cases h
    · rename_i hend
      (try rw [hend])
      cases h
      exact ⟨t', rfl, q1⟩
theorem readB_ok {l : List UInt8} {names : Names} {i j : Int} {t : Tm} (h : readB l names i j = .ok t) : (0 ≤ i ∧ i ≤ 1000 ∧ 0 ≤ j ∧ j ≤ 1000) ∧ readT l names i j = .ok t := by
  unfold readB at h
  split at h
  · cases h
  · rename_i hc
    refine ⟨by omega, ?_⟩
    split at h
    · cases h
    · rename_i u he
      cases h
      exact he
theorem ok_readB {l : List UInt8} {names : Names} {i j : Int} {t : Tm} (hi : 0 ≤ i ∧ i ≤ 1000 ∧ 0 ≤ j ∧ j ≤ 1000) (h : readT l names i j = .ok t) : readB l names i j = .ok t := by
  unfold readB
  rw [if_neg (by omega), h]
/-- What is read at the greatest levels is read at all, in the same form. -/
theorem readB_mono {l : List UInt8} {names : Names} {t : Tm} (h : readB l names 999 999 = .ok t) {i j : Int} (hi : 0 ≤ i ∧ i ≤ 999) (hj : 0 ≤ j ∧ j ≤ 999) : ∃ t', readB l names i j = .ok t' ∧ TR Mo t t' := by
  obtain ⟨t', h1, h2⟩ := readT_rel (P := fun _ => True) (mo_lv hi hj) (fun _ _ => trivial) (readB_ok h).2
  exact ⟨t', ok_readB (by omega) h1, h2⟩
end Go.Proofs.YtpekceadjcbphaaDoor.Sg

namespace Go.Proofs.YtpekceadjcbphaaDoor
open Go.RowKit

theorem lexL_inv {l : List UInt8} {p : Nat} {t : Tok} {r : List Tok} {o : Option Nat} (h : lexL l p = (t :: r, o)) : ∃ q k n, p + skipL (l.drop p) = q ∧ q < l.length ∧ nextL (l.drop q) = some (k, n) ∧ t = ⟨k, (l.drop q).take n, q⟩ ∧ lexL l (q + n) = (r, o) := by
  by_cases h1 : p + skipL (l.drop p) < l.length
  · cases hn : nextL (l.drop (p + skipL (l.drop p))) with
    | none => rw [lexL_fault rfl h1 hn] at h; cases h
    | some x =>
      obtain ⟨k, n⟩ := x
      rw [lexL_next rfl h1 hn] at h
      obtain ⟨h2, h3⟩ := Prod.mk.inj h
      obtain ⟨h4, h5⟩ := List.cons.inj h2
      exact ⟨_, k, n, rfl, h1, hn, h4.symm, Prod.ext h5 h3⟩
  · rw [lexL_end h1] at h; cases h
theorem lexL_count {l : List UInt8} {o : Option Nat} : ∀ (ts : List Tok) (p : Nat), lexL l p = (ts, o) → ts = [] ∨ ts.length + p ≤ l.length
  | [], _, _ => Or.inl rfl
  | t :: r, p, h => by
    obtain ⟨q, k, n, hq, hq2, hn, -, hr⟩ := lexL_inv h
    have hrg := nextL_range hn
    rw [List.length_drop] at hrg
    rcases lexL_count r (q + n) hr with h1 | h1
    · subst h1; right; simp; omega
    · right; simp; omega
theorem lexL_few {l : List UInt8} {ts : List Tok} {o : Option Nat} (h : lexL l 0 = (ts, o)) : ts.length ≤ l.length := by
  rcases lexL_count ts 0 h with h1 | h1
  · subst h1; exact Nat.zero_le _
  · exact h1

end Go.Proofs.YtpekceadjcbphaaDoor

namespace Go.Proofs.YtpekceadjcbphaaDoor

theorem runL_cutoff {p : UInt8 → Bool} : ∀ (X : List UInt8) (m : Nat), runL p (X.take m) = min (runL p X) m
  | [], m => by simp [runL]
  | c :: r, 0 => by simp [runL]
  | c :: r, m + 1 => by
    rw [List.take_succ_cons]
    cases h : p c with
    | true => rw [runL_yes h, runL_yes h, runL_cutoff r m]; omega
    | false => rw [runL_no h, runL_no h]; omega
theorem skipL_cutoff : ∀ (n : Nat) (X : List UInt8) (m : Nat), X.length ≤ n → skipL X ≤ m → skipL (X.take m) = skipL X
  | _, [], m, _, _ => by simp
  | 0, c :: r, m, h, _ => by simp at h
  | n + 1, c :: r, 0, h, h2 => by rw [List.take_zero, skipL_nil]; omega
  | n + 1, c :: r, m + 1, h, h2 => by
    rw [List.take_succ_cons]
    simp only [List.length_cons] at h
    by_cases hb : blankC c = true
    · rw [skipL_blank hb] at h2 ⊢
      rw [skipL_blank hb, skipL_cutoff n r m (by omega) (by omega)]
    · have hb' : blankC c = false := by simpa using hb
      by_cases h59 : c.toNat = 59
      · rw [skipL_note hb' h59] at h2 ⊢
        rw [skipL_note hb' h59, runL_cutoff, Nat.min_eq_left (by omega), List.drop_take, skipL_cutoff n _ _ (by rw [List.length_drop]; omega) (by omega)]
      · rw [skipL_stop hb' h59, skipL_stop hb' h59]
theorem nextL_cutoff {X : List UInt8} {k n m : Nat} (h : nextL X = some (k, n)) (hm : n ≤ m) : nextL (X.take m) = some (k, n) := by
  have hr := nextL_range h
  obtain ⟨m, rfl⟩ : ∃ q, m = q + 1 := ⟨m - 1, by omega⟩
  match X, h with
  | [], h => simp at hr; omega
  | c :: r, h =>
    by_cases c1 : c.toNat = 40
    · rw [next_open c1] at h; rw [List.take_succ_cons, next_open c1, h]
    by_cases c2 : c.toNat = 41
    · rw [next_close c2] at h; rw [List.take_succ_cons, next_close c2, h]
    cases c3 : letterC c with
    | true =>
      by_cases c4 : 20 < runL wordC (c :: r)
      · rw [next_long c1 c2 c3 c4] at h; cases h
      · rw [next_word c1 c2 c3 c4] at h
        cases h
        have hx := runL_cutoff (p := wordC) (c :: r) (m + 1)
        rw [Nat.min_eq_left hm, List.take_succ_cons] at hx
        rw [List.take_succ_cons, next_word c1 c2 c3 (by omega), hx]
    | false =>
      cases c5 : isd c with
      | true =>
        by_cases c6 : getB ((c :: r).take (runL isd (c :: r))) = none ∨ ((((c :: r).drop (runL isd (c :: r))).head?.map letterC).getD false) = true
        · rw [next_bad c1 c2 c3 c5 c6] at h; cases h
        · rw [next_num c1 c2 c3 c5 c6] at h
          cases h
          have hx := runL_cutoff (p := isd) (c :: r) (m + 1)
          rw [Nat.min_eq_left hm] at hx
          have ht : ((c :: r).take (m + 1)).take (runL isd (c :: r)) = (c :: r).take (runL isd (c :: r)) := by rw [List.take_take, Nat.min_eq_left hm]
          have hd : ((((c :: r).take (m + 1)).drop (runL isd (c :: r))).head?.map letterC).getD false = true → ((((c :: r).drop (runL isd (c :: r))).head?.map letterC).getD false) = true := by
            rw [List.drop_take]
            cases hq : m + 1 - runL isd (c :: r) with
            | zero => simp
            | succ q =>
              cases (c :: r).drop (runL isd (c :: r)) with
              | nil => simp
              | cons a b => simp
          rw [List.take_succ_cons] at hx ht hd ⊢
          rw [next_num c1 c2 c3 c5 (by
            rw [hx, ht]
            rintro (e | e)
            · exact c6 (Or.inl e)
            · exact c6 (Or.inr (hd e))), hx]
      | false => rw [next_other c1 c2 c3 c5] at h; cases h
theorem lexL_inv_fault {l : List UInt8} {q p : Nat} (h : lexL l q = ([], some p)) : q + skipL (l.drop q) = p ∧ p < l.length := by
  by_cases h1 : q + skipL (l.drop q) < l.length
  · cases hn : nextL (l.drop (q + skipL (l.drop q))) with
    | none =>
      rw [lexL_fault rfl h1 hn] at h
      simp only [Prod.mk.injEq, Option.some.injEq, true_and] at h
      exact ⟨h, by omega⟩
    | some x => obtain ⟨k, n⟩ := x; rw [lexL_next rfl h1 hn] at h; simp at h
  · rw [lexL_end h1] at h; simp at h
theorem lexL_cutoff {l : List UInt8} {p : Nat} : ∀ (ts : List Tok) (q : Nat), lexL l q = (ts, some p) → q ≤ p ∧ p < l.length ∧ lexL (l.take p) q = (ts, none)
  | [], q, h => by
    obtain ⟨h1, h2⟩ := lexL_inv_fault h
    refine ⟨by omega, h2, lexL_end ?_⟩
    rw [List.drop_take, skipL_cutoff _ _ _ (Nat.le_refl _) (by omega), List.length_take]
    omega
  | t :: r, q, h => by
    obtain ⟨q', k, n, h1, h2, h3, h4, h5⟩ := lexL_inv h
    obtain ⟨i1, i2, i3⟩ := lexL_cutoff r (q' + n) h5
    have hr := nextL_range h3
    refine ⟨by omega, i2, ?_⟩
    have e1 : q + skipL ((l.take p).drop q) = q' := by
      rw [List.drop_take, skipL_cutoff _ _ _ (Nat.le_refl _) (by omega), h1]
    have e2 : nextL ((l.take p).drop q') = some (k, n) := by
      rw [List.drop_take]; exact nextL_cutoff h3 (by omega)
    rw [lexL_next e1 (by rw [List.length_take]; omega) e2, i3, h4, List.drop_take, List.take_take, Nat.min_eq_left (by omega)]
/-- The tokens of a text, its end and whether a fault stands there, by one reading. -/
theorem ofL_eq (l : List UInt8) : ofL l = ((lexL l 0).1, (match (lexL l 0).2 with | none => l.length | some p => p), (lexL l 0).2.isSome) := by
  unfold ofL
  rcases hx : lexL l 0 with ⟨ts, o⟩
  cases o with
  | none => rfl
  | some p =>
    have h := (lexL_cutoff ts 0 hx).2.2
    simp only [h, toksO]
    rfl
end Go.Proofs.YtpekceadjcbphaaDoor

namespace Go.Proofs.YtpekceadjcbphaaDoor.Sg

/-- The blanks ahead. -/
def skipS : List UInt8 → Nat
  | [] => 0
  | c :: r => if blankC c = true then skipS r + 1 else 0
def skipX (l : List UInt8) : Nat := if (l.drop (skipS l)).head?.map (·.toNat) = some 59 then skipL l else skipS l
theorem skipS_eq : ∀ l : List UInt8, (l.drop (skipS l)).head?.map (·.toNat) ≠ some 59 → skipL l = skipS l
  | [], _ => skipL_nil
  | c :: r, h => by
    unfold skipS at h ⊢
    cases hb : blankC c with
    | true =>
      rw [if_pos rfl]
      rw [hb, if_pos rfl, List.drop_succ_cons] at h
      rw [skipL_blank hb, skipS_eq r h]
    | false =>
      rw [if_neg (by simp)]
      rw [hb, if_neg (by simp), List.drop_zero] at h
      exact skipL_stop hb (fun e => h (by simp [e]))
theorem skipX_eq (l : List UInt8) : skipX l = skipL l := by
  unfold skipX
  by_cases h : (l.drop (skipS l)).head?.map (·.toNat) = some 59
  · rw [if_pos h]
  · rw [if_neg h]; exact (skipS_eq l h).symm
def lexF : Nat → List UInt8 → Nat → List Tok × Option Nat
  | 0, _, _ => ([], none)
  | f + 1, l, p =>
    match l.drop (skipX l) with
    | [] => ([], none)
    | c :: r => match nextL (c :: r) with
      | none => ([], some (p + skipX l))
      | some (k, n) => match lexF f ((c :: r).drop n) (p + skipX l + n) with
        | (ts, o) => (⟨k, (c :: r).take n, p + skipX l⟩ :: ts, o)
theorem lexF_eq (l : List UInt8) : ∀ f p, l.length - p < f → lexF f (l.drop p) p = lexL l p
  | 0, p, h => by omega
  | f + 1, p, h => by
    unfold lexF
    simp only [skipX_eq]
    have hd : (l.drop p).drop (skipL (l.drop p)) = l.drop (p + skipL (l.drop p)) := by rw [List.drop_drop]
    by_cases h1 : p + skipL (l.drop p) < l.length
    · obtain ⟨c, r, hc⟩ : ∃ c r, l.drop (p + skipL (l.drop p)) = c :: r := by
        cases hx : l.drop (p + skipL (l.drop p)) with
        | nil => exfalso; have := congrArg List.length hx; simp only [List.length_drop, List.length_nil] at this; omega
        | cons c r => exact ⟨c, r, rfl⟩
      rw [hd, hc]
      dsimp only
      cases hn : nextL (c :: r) with
      | none =>
        rw [← hc] at hn
        rw [lexL_fault rfl h1 hn]
      | some x =>
        obtain ⟨k, n⟩ := x
        have hn1 := (nextL_range hn).1
        have hdn : (c :: r).drop n = l.drop (p + skipL (l.drop p) + n) := by rw [← hc, List.drop_drop]
        dsimp only
        rw [hdn, lexF_eq l f _ (by omega)]
        rw [← hc] at hn ⊢
        rw [lexL_next rfl h1 hn]
    · rw [hd, List.drop_eq_nil_of_le (by omega)]
      rw [lexL_end h1]
theorem lexL_F (l : List UInt8) : lexL l 0 = lexF (l.length + 1) l 0 := by
  have := lexF_eq l (l.length + 1) 0 (by omega)
  rw [List.drop_zero] at this
  exact this.symm
/-- The reading of a text, for the kernel. -/
def readF (l : List UInt8) (names : Names) (i j : Int) : Except Nat Tm :=
  match lexF (l.length + 1) l 0 with
  | (ts, o) => match termP ((o.getD l.length)) i j (ts.length + 1) 0 names.reverse ts with
    | .error a => .error a
    | .ok (t, r) => match endP (o.getD l.length) o.isSome r with
      | .error a => .error a
      | .ok _ => .ok t
theorem readF_eq (l : List UInt8) (names : Names) (i j : Int) : readT l names i j = readF l names i j := by
  have e1 : (ofL l).1 = (lexF (l.length + 1) l 0).1 := by rw [ofL_eq, lexL_F]
  have e2 : (ofL l).2.1 = (lexF (l.length + 1) l 0).2.getD l.length := by rw [ofL_eq, lexL_F]; dsimp only; cases (lexF (l.length + 1) l 0).2 <;> rfl
  have e3 : (ofL l).2.2 = (lexF (l.length + 1) l 0).2.isSome := by rw [ofL_eq, lexL_F]
  unfold readT readF
  first
    | (rw [e1, e2, e3]; done)
    | (rw [e1, e2, e3]
       generalize lexF (l.length + 1) l 0 = x
       obtain ⟨ts, o⟩ := x
       rfl)
/-- The last token of what begins here: d brackets are open. -/
def clos : List Tok → Nat → Tok → Option (Tok × List Tok)
  | [], d, la => if d = 0 then some (la, []) else none
  | t :: r, d, la => if d = 0 then some (la, t :: r) else if t.k = 1 then clos r (d + 1) t else if t.k = 2 then clos r (d - 1) t else clos r d t
/-- The text of the term that stands first, and the tokens behind it. -/
def pieceL (l : List UInt8) : List Tok → Option (List UInt8 × List Tok)
  | [] => none
  | t :: r => match clos r (if t.k = 1 then 1 else 0) t with
    | none => none
    | some (la, r2) => if t.at_ ≤ la.at_ + la.s.length ∧ la.at_ + la.s.length ≤ l.length then some ((l.take (la.at_ + la.s.length)).drop t.at_, r2) else none
theorem pieceL_some {l : List UInt8} {t : Tok} {r r2 : List Tok} {p : List UInt8} (h : pieceL l (t :: r) = some (p, r2)) : ∃ la, clos r (if t.k = 1 then 1 else 0) t = some (la, r2) ∧ p = (l.take (la.at_ + la.s.length)).drop t.at_ ∧ t.at_ ≤ la.at_ + la.s.length ∧ la.at_ + la.s.length ≤ l.length := by
  unfold pieceL at h
  dsimp only at h
  cases hc : clos r (if t.k = 1 then 1 else 0) t with
  | none => rw [hc] at h; cases h
  | some q =>
    obtain ⟨la, r3⟩ := q
    rw [hc] at h
    dsimp only at h
    by_cases hb : t.at_ ≤ la.at_ + la.s.length ∧ la.at_ + la.s.length ≤ l.length
    · rw [if_pos hb] at h
      cases h
      exact ⟨la, rfl, rfl, hb.1, hb.2⟩
    · rw [if_neg hb] at h
      cases h
theorem clos_len {la : Tok} {r2 : List Tok} : ∀ {r : List Tok} {d : Nat} {t : Tok}, clos r d t = some (la, r2) → r2.length ≤ r.length
  | [], d, t, h => by
    unfold clos at h
    split at h
    · cases h; exact Nat.le_refl _
    · cases h
  | x :: r, d, t, h => by
    unfold clos at h
    split at h
    · cases h; exact Nat.le_refl _
    · split at h
      · exact Nat.le_succ_of_le (clos_len h)
      · split at h
        · exact Nat.le_succ_of_le (clos_len h)
        · exact Nat.le_succ_of_le (clos_len h)
/-- The parameters: names and texts. -/
def parsL (l : List UInt8) : Nat → List Tok → Option (List (List UInt8 × List UInt8) × List Tok)
  | 0, _ => none
  | _ + 1, [] => none
  | f + 1, t :: r =>
    if t.k = 1 then match r with
      | [] => none
      | x :: r1 => match pieceL l r1 with
        | some (p, _ :: r3) => match parsL l f r3 with
          | some (ps, r4) => some ((x.s, p) :: ps, r4)
          | none => none
        | _ => none
    else some ([], t :: r)
structure Plan where
  defn : Bool
  name : List UInt8
  pars : List (List UInt8 × List UInt8)
  type : List UInt8
  body : Option (List UInt8)
def planL (l : List UInt8) (ts : List Tok) : Option Plan := match ts with
  | _ :: t1 :: t2 :: _ :: r => match parsL l 30 r with
    | some (ps, _ :: r2) => match pieceL l r2 with
      | none => none
      | some (ty, r3) =>
        if t1.s = [100, 101, 102] then match pieceL l r3 with
          | none => none
          | some (b, _) => some ⟨true, t2.s, ps, ty, some b⟩
        else some ⟨false, t2.s, ps, ty, none⟩
    | _ => none
  | _ => none
theorem parsL_stop {l : List UInt8} {f : Nat} {t : Tok} {r r4 : List Tok} {ps : List (List UInt8 × List UInt8)} (hk : t.k ≠ 1) (h : parsL l (f + 1) (t :: r) = some (ps, r4)) : ps = [] ∧ r4 = t :: r := by
  unfold parsL at h
  rw [if_neg hk] at h
  cases h
  exact ⟨rfl, rfl⟩
theorem parsL_go {l : List UInt8} {f : Nat} {t : Tok} {r r4 : List Tok} {ps : List (List UInt8 × List UInt8)} (hk : t.k = 1) (h : parsL l (f + 1) (t :: r) = some (ps, r4)) : ∃ x r1 p cl r3 ps', r = x :: r1 ∧ pieceL l r1 = some (p, cl :: r3) ∧ parsL l f r3 = some (ps', r4) ∧ ps = (x.s, p) :: ps' := by
  unfold parsL at h
  rw [if_pos hk] at h
  cases r with
  | nil => cases h
  | cons x r1 =>
    dsimp only at h
    cases hp : pieceL l r1 with
    | none => rw [hp] at h; cases h
    | some q =>
      obtain ⟨p, r2⟩ := q
      rw [hp] at h
      cases r2 with
      | nil => cases h
      | cons cl r3 =>
        dsimp only at h
        cases hq : parsL l f r3 with
        | none => rw [hq] at h; cases h
        | some q =>
          obtain ⟨ps', r5⟩ := q
          rw [hq] at h
          cases h
          exact ⟨x, r1, p, cl, r3, ps', rfl, hp, hq, rfl⟩
/-- A text is read at the greatest levels, and is plain. -/
def goodF (l : List UInt8) (names : Names) : Bool := match readF l names 999 999 with
  | .ok t => decide (12 < t.k ∨ t.k = 2 ∨ t.k = 1)
  | .error _ => false
def parsOk : Names → List (List UInt8 × List UInt8) → Bool
  | _, [] => true
  | N, (x, p) :: r => goodF p N && parsOk (N ++ [x]) r
def planOk (pl : Plan) : Bool := parsOk [] pl.pars && goodF pl.type (pl.pars.map (·.1)) && (match pl.body with
  | none => true
  | some b => goodF b (pl.pars.map (·.1)))
def libOk (l : List UInt8) : Bool := match lexF (l.length + 1) l 0 with
  | (ts, none) => match planL l ts with
    | some pl => planOk pl
    | none => false
  | _ => false
end Go.Proofs.YtpekceadjcbphaaDoor.Sg

namespace Go.Proofs.YtpekceadjcbphaaDoor.Sg

theorem readB_rightS {l : List UInt8} {names : Names} {i j : Int} {t : Tm} (hl : l.length ≤ 10000000) (hn : names.length ≤ 10000000) (h : readB l names i j = .ok t) : t.rightB = true ∧ t.freeN ≤ names.length := by
  obtain ⟨hij, h⟩ := readB_ok h
  have hb := ofL_bound l
  unfold readT at h
  split at h
  · cases h
  · rename_i u r he
    have hr := termP_right (B := 2147483647) (E := (ofL l).2.1) (show 0 ≤ i ∧ i ≤ 1000 by omega) (show 0 ≤ j ∧ j ≤ 1000 by omega) (Nat.le_refl _) ((ofL l).1.length + 1) 0 names.reverse (ofL l).1 u r (Or.inl rfl) (by rw [List.length_reverse]; omega) he
    split at h
    · cases h
    · cases h
      rw [List.length_reverse] at hr
      exact ⟨by simpa [srtB] using hr.1, hr.2.1⟩
/-- What a good piece gives at all levels. -/
theorem good_read {l : List UInt8} {N : Names} (h : goodF l N = true) (hl : l.length ≤ 10000000) (hn : N.length ≤ 10000000) : ∃ t0, readB l N 999 999 = .ok t0 ∧ ∀ i j : Int, 0 ≤ i ∧ i ≤ 999 → 0 ≤ j ∧ j ≤ 999 → ∃ t, readB l N i j = .ok t ∧ TR Mo t0 t ∧ t.plainB = true ∧ t.freeN ≤ N.length := by
  unfold goodF at h
  cases hr : readF l N 999 999 with
  | error a => rw [hr] at h; cases h
  | ok t0 =>
    rw [hr] at h
    have hk : 12 < t0.k ∨ t0.k = 2 ∨ t0.k = 1 := by simpa using h
    have h0 : readB l N 999 999 = .ok t0 := ok_readB (by omega) (by rw [readF_eq, hr])
    refine ⟨t0, h0, fun i j hi hj => ?_⟩
    obtain ⟨t, h1, h2⟩ := readB_mono h0 hi hj
    obtain ⟨hrt, hfr⟩ := readB_rightS hl hn h1
    refine ⟨t, h1, h2, ?_, hfr⟩
    have hkk := h2.k
    rcases right_cases hrt with hp | ⟨-, h3, h12⟩
    · exact hp
    · omega
theorem parsOk_cons {N : Names} {x p : List UInt8} {r : List (List UInt8 × List UInt8)} (h : parsOk N ((x, p) :: r) = true) : goodF p N = true ∧ parsOk (N ++ [x]) r = true := by
  unfold parsOk at h
  simpa using h
end Go.Proofs.YtpekceadjcbphaaDoor.Sg

namespace Go.Proofs.YtpekceadjcbphaaDoor.Dv
open Go.RowKit

def wordsL : List ByteArray := [⟨#[115, 111, 114, 116]⟩, ⟨#[118, 97, 114]⟩, ⟨#[112, 105]⟩, ⟨#[108, 97, 109]⟩, ⟨#[97, 112, 112]⟩, ⟨#[115, 105, 103]⟩, ⟨#[112, 97, 105, 114]⟩, ⟨#[102, 115, 116]⟩, ⟨#[115, 110, 100]⟩, ⟨#[101, 113]⟩, ⟨#[114, 101, 102, 108]⟩, ⟨#[99, 111, 110, 118]⟩, ⟨#[115, 97, 109, 101]⟩, ⟨#[115, 121, 109]⟩, ⟨#[116, 114, 97, 110, 115]⟩, ⟨#[99, 111, 110, 118, 115]⟩, ⟨#[114, 101, 102, 108, 101, 99, 116]⟩, ⟨#[98, 101, 116, 97]⟩, ⟨#[102, 105, 114, 115, 116]⟩, ⟨#[115, 101, 99, 111, 110, 100]⟩, ⟨#[101, 116, 97]⟩, ⟨#[115, 117, 114, 106]⟩, ⟨#[114, 101, 112, 108]⟩, ⟨#[105, 114, 114]⟩, ⟨#[120, 112, 105]⟩, ⟨#[120, 115, 105, 103]⟩, ⟨#[120, 108, 97, 109]⟩, ⟨#[120, 112, 97, 105, 114]⟩]
def kidsL : List Int := [0, 0, 2, 2, 2, 2, 3, 1, 1, 2, 1, 2, 1, 1, 2, 2, 1, 2, 3, 3, 1, 1, 2, 2, 2, 2, 3, 4]
def wordN (r : Int) : ByteArray := if 1 ≤ r ∧ r ≤ 28 then (wordsL[(r - 1).toNat]?).getD ⟨#[]⟩ else ⟨#[]⟩
def dkidsN (r : Int) : Int := if 1 ≤ r ∧ r ≤ 28 then (kidsL[(r - 1).toNat]?).getD 0 else -1
end Go.Proofs.YtpekceadjcbphaaDoor.Dv

namespace Go.Proofs.YtpekceadjcbphaaDoor.Dv
open Go.RowKit

/-- The rule of a word: the first one that bears it, or 0. -/
def RuleIs (s : ByteArray) (r : Int) : Prop := (∃ k : Nat, 1 ≤ k ∧ k ≤ 28 ∧ wordN k = s ∧ (∀ j : Nat, 1 ≤ j → j < k → wordN j ≠ s) ∧ r = k) ∨ ((∀ j : Nat, 1 ≤ j → j ≤ 28 → wordN j ≠ s) ∧ r = 0)
theorem RuleIs.same {s : ByteArray} {r q : Int} (h : RuleIs s r) (h' : RuleIs s q) : r = q := by
  rcases h with ⟨k, k1, k2, k3, k4, rfl⟩ | ⟨k4, rfl⟩ <;> rcases h' with ⟨j, j1, j2, j3, j4, rfl⟩ | ⟨j4, rfl⟩
  · rcases Nat.lt_trichotomy k j with hlt | rfl | hlt
    · exact absurd k3 (j4 k k1 hlt)
    · rfl
    · exact absurd j3 (k4 j j1 hlt)
  · exact absurd k3 (j4 k k1 k2)
  · exact absurd j3 (k4 j j1 j2)
  · rfl
end Go.Proofs.YtpekceadjcbphaaDoor.Dv

namespace Go.Proofs.YtpekceadjcbphaaDoor.Dv
open Go.RowKit

/-- A derivation: its rule, its number, its kids. -/
inductive Tm where
  | mk (k i : Int) (l : List Tm)

namespace Tm
def k : Tm → Int | .mk k _ _ => k
def i : Tm → Int | .mk _ i _ => i
def kids : Tm → List Tm | .mk _ _ l => l
theorem ind {P : Tm → Prop} (h : ∀ t, (∀ x ∈ t.kids, P x) → P t) : ∀ t, P t
  | .mk k i l => h (.mk k i l) (fun x (_ : x ∈ l) => ind h x)
end Tm

def Tm.fine (t : Tm) : Prop := I64 t.k ∧ I64 t.i

/-- A term by value: s is the slice of its kids. -/
abbrev tv (t : Tm) (s : Value) : Value := .agg #[.int .i64 t.k, .int .i64 t.i, s]

/-- The three cells of a term at a place. -/
structure Node (w : World) (b o : Nat) (t : Tm) (s : Value) : Prop where
  c0 : w.cell? ⟨b, o, none⟩ = some (.int .i64 t.k)
  c1 : w.cell? ⟨b, o + 1, none⟩ = some (.int .i64 t.i)
  c2 : w.cell? ⟨b, o + 2, none⟩ = some s

/-- Terms that lie behind a slice. -/
inductive Lies (w : World) : List Tm → Value → Prop
  | mk (l : List Tm) (a : Option Addr) (cap : Nat) (S : Nat → Value) (hc : l.length ≤ cap) (hm : cap ≤ maxLen) (hf : ∀ x ∈ l, x.fine)
      (hn : ∀ i (h : i < l.length), ∃ b o, a = some ⟨b, o, none⟩ ∧ Node w b (o + i * 3) l[i] (S i)) (hk : ∀ i (h : i < l.length), Lies w (l[i]).kids (S i)) : Lies w l (.slice a l.length cap)

theorem Lies.out {w : World} {l : List Tm} {s : Value} (h : Lies w l s) : ∃ (a : Option Addr) (cap : Nat) (S : Nat → Value), s = .slice a l.length cap ∧ l.length ≤ cap ∧ cap ≤ maxLen ∧ (∀ x ∈ l, x.fine) ∧
    (∀ i (h : i < l.length), ∃ b o, a = some ⟨b, o, none⟩ ∧ Node w b (o + i * 3) l[i] (S i)) ∧ (∀ i (h : i < l.length), Lies w (l[i]).kids (S i)) := by
  cases h with
  | mk l a cap S hc hm hf hn hk => exact ⟨a, cap, S, rfl, hc, hm, hf, hn, hk⟩

theorem Node.lt {w : World} {b o : Nat} {t : Tm} {s : Value} (h : Node w b o t s) : b < w.heap.size := World.block_lt_of_cell? _ _ h.c0

theorem Node.below {w w' : World} {b o B : Nat} {t : Tm} {s : Value} (h : Node w b o t s) (hb : Below B w w') (hB : b < B) : Node w' b o t s :=
  ⟨(hb.cell (by exact hB)).trans h.c0, (hb.cell (by exact hB)).trans h.c1, (hb.cell (by exact hB)).trans h.c2⟩

/-- What lies in a world lies in every later one. -/
theorem Lies.keep {w w' : World} {l : List Tm} {s : Value} (h : Lies w l s) (hb : Below w.heap.size w w') : Lies w' l s := by
  induction h with
  | mk l a cap S hc hm hf hn hk ih =>
    exact .mk l a cap S hc hm hf (fun i hi => by obtain ⟨b, o, ha, hx⟩ := hn i hi; exact ⟨b, o, ha, hx.below hb hx.lt⟩) ih

end Go.Proofs.YtpekceadjcbphaaDoor.Dv

namespace Go.Proofs.YtpekceadjcbphaaDoor.Dv
open Go.RowKit

mutual
def Tm.size : Tm → Nat
  | .mk _ _ l => sizes l + 1
def sizes : List Tm → Nat
  | [] => 0
  | t :: r => t.size + sizes r
end

theorem Tm.size_eq (t : Tm) : t.size = sizes t.kids + 1 := by cases t; rfl

end Go.Proofs.YtpekceadjcbphaaDoor.Dv

namespace Go.Proofs.YtpekceadjcbphaaDoor.Dv

/-- A fault: of the text (0), too deep (1), too many (2); and where. -/
abbrev PF := Nat × Nat
abbrev DP := Nat → Nat → List Tok → Except PF (Tm × Nat × List Tok)
def numD (E : Nat) (r : Int) (ts : List Tok) : Except PF (Int × List Tok) :=
  if r = 1 ∨ r = 2 then (match takeT E 4 ts with
    | .error e => .error (0, e)
    | .ok (t, q) => .ok ((((getB t.s).getD 0 : Nat) : Int), q)) else .ok (0, ts)
def kidsD (dp : DP) (d : Nat) : Nat → Nat → List Tok → Except PF (List Tm × Nat × List Tok)
  | 0, u, ts => .ok ([], u, ts)
  | c + 1, u, ts => match dp d u ts with
    | .error e => .error e
    | .ok (t, u1, r) => match kidsD dp d c u1 r with
      | .error e => .error e
      | .ok (l, u2, r2) => .ok (t :: l, u2, r2)
theorem idxL_none {x : List UInt8} : ∀ {l : List (List UInt8)}, idxL x l = none → ∀ j : Nat, l[j]? ≠ some x
  | [], h, j => by simp
  | y :: r, h, j => by
    unfold idxL at h
    split at h
    · cases h
    · rename_i e
      have hp := Option.map_eq_none_iff.1 h
      match j with
      | 0 => simp only [List.getElem?_cons_zero]; exact fun h => e (Option.some.inj h)
      | j + 1 => simp only [List.getElem?_cons_succ]; exact idxL_none hp j
end Go.Proofs.YtpekceadjcbphaaDoor.Dv

namespace Go.Proofs.YtpekceadjcbphaaDoor.Dv
open Go.RowKit

/-- Terms behind a slice, in blocks of which P speaks. -/
inductive LiesP (w : World) (P : Nat → Prop) : List Tm → Value → Prop
  | mk (l : List Tm) (a : Option Addr) (cap : Nat) (S : Nat → Value) (hc : l.length ≤ cap) (hm : cap ≤ maxLen) (hf : ∀ x ∈ l, x.fine)
      (hn : ∀ i (h : i < l.length), ∃ b, a = some ⟨b, 0, none⟩ ∧ P b ∧ Node w b (i * 3) l[i] (S i)) (hk : ∀ i (h : i < l.length), LiesP w P (l[i]).kids (S i)) : LiesP w P l (.slice a l.length cap)

theorem LiesP.lies {w : World} {P : Nat → Prop} {l : List Tm} {s : Value} (h : LiesP w P l s) : Lies w l s := by
  induction h with
  | mk l a cap S hc hm hf hn hk ih => exact .mk l a cap S hc hm hf (fun i hi => by obtain ⟨b, ha, _, hx⟩ := hn i hi; exact ⟨b, 0, ha, by rw [Nat.zero_add]; exact hx⟩) ih

theorem Node.same {w w' : World} {b o : Nat} {t : Tm} {s : Value} (h : Node w b o t s) (hb : w'.heap[b]? = w.heap[b]?) : Node w' b o t s :=
  ⟨(World.cell?_of_block (a := ⟨b, o, none⟩) hb).trans h.c0, (World.cell?_of_block (a := ⟨b, o + 1, none⟩) hb).trans h.c1, (World.cell?_of_block (a := ⟨b, o + 2, none⟩) hb).trans h.c2⟩

/-- They lie in a later world where their blocks are as they were; P may be turned on the way. -/
theorem LiesP.keep {w w' : World} {P Q : Nat → Prop} {l : List Tm} {s : Value} (h : LiesP w P l s) (hb : ∀ b, P b → b < w.heap.size → w'.heap[b]? = w.heap[b]?) (hq : ∀ b, P b → b < w.heap.size → Q b) : LiesP w' Q l s := by
  induction h with
  | mk l a cap S hc hm hf hn hk ih =>
    exact .mk l a cap S hc hm hf (fun i hi => by obtain ⟨b, ha, hp, hx⟩ := hn i hi; exact ⟨b, ha, hq b hp hx.lt, hx.same (hb b hp hx.lt)⟩) ih

def cells5 : List (Tm × Value) → List Value
  | [] => []
  | (t, s) :: r => .int .i64 t.k :: .int .i64 t.i :: s :: cells5 r

theorem cells5_length : ∀ ps : List (Tm × Value), (cells5 ps).length = ps.length * 3
  | [] => rfl
  | (t, s) :: r => by simp [cells5, cells5_length r]; omega
theorem cells5_append : ∀ ps qs : List (Tm × Value), cells5 (ps ++ qs) = cells5 ps ++ cells5 qs
  | [], qs => rfl
  | (t, s) :: r, qs => by simp [cells5, cells5_append r qs]
theorem cells5_get : ∀ (ps : List (Tm × Value)) (i : Nat) (h : i < ps.length) (q : Nat), q < 3 → (cells5 ps)[i * 3 + q]? = [Value.int .i64 (ps[i]).1.k, .int .i64 (ps[i]).1.i, (ps[i]).2][q]?
  | (t, s) :: r, 0, _, q, hq => by
    rw [Nat.zero_mul, Nat.zero_add]
    match q, hq with
    | 0, _ => rfl
    | 1, _ => rfl
    | 2, _ => rfl
  | (t, s) :: r, i + 1, h, q, hq => by
    have := cells5_get r i (by simpa using h) q hq
    rw [show (i + 1) * 3 + q = (i * 3 + q) + 3 by omega]
    simpa [cells5] using this

/-- The cells of a term that was just laid into a block of its own. -/
theorem news_new (w : World) (t : Tm) (s : Value) (T : TypeId) : ∀ j u, (cells5 [(t, s)])[j]? = some u → (w.alloc (.cells #[.int .i64 t.k, .int .i64 t.i, s] T)).cell? ((⟨w.heap.size, 0, none⟩ : Addr).add j) = some u :=
  World.news_of_block (alloc_new w _)

/-- A term is stored into a block of five cells. -/
theorem five_set {w : World} {g : Nat} {T : TypeId} {z0 z1 z2 v0 v1 v2 : Value} (h : w.heap[g]? = some (.cells #[z0, z1, z2] T (0, 0))) :
    (((w.setCell ⟨g, 0, none⟩ v0).setCell ⟨g, 1, none⟩ v1).setCell ⟨g, 2, none⟩ v2).heap[g]? = some (.cells #[v0, v1, v2] T (0, 0)) :=
  heap_setCell_same _ _ _ _ _ _ (heap_setCell_same _ _ _ _ _ _ (heap_setCell_same _ _ _ _ _ _ h))

end Go.Proofs.YtpekceadjcbphaaDoor.Dv

namespace Go.Proofs.YtpekceadjcbphaaDoor.Dv
open Go.RowKit

/-- The five cells of an element, written one behind the other. -/
def put5 (w : World) (g o : Nat) (t : Tm) (s : Value) : World := ((w.setCell ⟨g, o, none⟩ (.int .i64 t.k)).setCell ⟨g, o + 1, none⟩ (.int .i64 t.i)).setCell ⟨g, o + 2, none⟩ s

theorem put5_other (w : World) (g o : Nat) (t : Tm) (s : Value) {b : Nat} (h : b ≠ g) : (put5 w g o t s).heap[b]? = w.heap[b]? := by
  unfold put5; repeat rw [Below.heap_setCell _ _ _ _ (by exact h)]
theorem put5_rest (w : World) (g o : Nat) (t : Tm) (s : Value) : (put5 w g o t s).os = w.os ∧ (put5 w g o t s).tape = w.tape ∧ (put5 w g o t s).output = w.output := by simp [put5, World.setCell]
theorem put5_size (w : World) (g o : Nat) (t : Tm) (s : Value) : (put5 w g o t s).heap.size = w.heap.size := by simp [put5, World.setCell]
theorem put5_block {w : World} {g : Nat} {cs : Array Value} {T : TypeId} (o : Nat) (t : Tm) (s : Value) (h : w.heap[g]? = some (.cells cs T (0, 0))) :
    (put5 w g o t s).heap[g]? = some (.cells (((cs.setIfInBounds o (.int .i64 t.k)).setIfInBounds (o + 1) (.int .i64 t.i)).setIfInBounds (o + 2) s) T (0, 0)) :=
  heap_setCell_same _ _ _ _ _ _ (heap_setCell_same _ _ _ _ _ _ (heap_setCell_same _ _ _ _ _ _ h))
theorem put5_out (w : World) (g o : Nat) (t : Tm) (s : Value) {q : Nat} (h : q < o ∨ o + 3 ≤ q) : (put5 w g o t s).cell? ⟨g, q, none⟩ = w.cell? ⟨g, q, none⟩ := by
  unfold put5
  repeat rw [World.cell?_setCell_other _ _ _ _ (by intro e; have := congrArg Addr.off e; simp only at this; omega)]
theorem put5_node {w : World} {g o : Nat} {t0 : Tm} {s0 : Value} (t : Tm) (s : Value) (h : Node w g o t0 s0) : Node (put5 w g o t s) g o t s := by
  have ne : ∀ p q : Nat, p ≠ q → (⟨g, p, none⟩ : Addr) ≠ ⟨g, q, none⟩ := fun p q hpq e => hpq (congrArg Addr.off e)
  unfold put5
  refine ⟨?_, ?_, ?_⟩
  · rw [World.cell?_setCell_other _ _ _ _ (ne _ _ (by omega)), World.cell?_setCell_other _ _ _ _ (ne _ _ (by omega))]
    exact World.cell?_setCell_same _ _ _ h.c0
  · rw [World.cell?_setCell_other _ _ _ _ (ne _ _ (by omega))]
    refine World.cell?_setCell_same _ _ _ (u := .int .i64 t0.i) ?_
    rw [World.cell?_setCell_other _ _ _ _ (ne _ _ (by omega))]; exact h.c1
  · refine World.cell?_setCell_same _ _ _ (u := s0) ?_
    rw [World.cell?_setCell_other _ _ _ _ (ne _ _ (by omega)), World.cell?_setCell_other _ _ _ _ (ne _ _ (by omega))]; exact h.c2
/-- Another element's cells stay. -/
theorem put5_keep {w : World} {g o o' b : Nat} {t x : Tm} {s sx : Value} (h : Node w b o' x sx) (hne : b ≠ g ∨ o' + 3 ≤ o ∨ o + 3 ≤ o') : Node (put5 w g o t s) b o' x sx := by
  by_cases hb : b = g
  · subst hb
    have hne' : o' + 3 ≤ o ∨ o + 3 ≤ o' := hne.resolve_left (fun h => h rfl)
    exact ⟨(put5_out _ _ _ _ _ (by omega)).trans h.c0, (put5_out _ _ _ _ _ (by omega)).trans h.c1, (put5_out _ _ _ _ _ (by omega)).trans h.c2⟩
  · exact h.same (put5_other _ _ _ _ _ hb)

theorem liesP_nil (w : World) (P : Nat → Prop) : LiesP w P [] (.slice none 0 0) := .mk [] none 0 (fun _ => .nilIface) (Nat.le_refl _) (by decide) (fun _ h => by cases h) (fun _ h => by cases h) (fun _ h => by cases h)

end Go.Proofs.YtpekceadjcbphaaDoor.Dv

namespace Go.Proofs.YtpekceadjcbphaaDoor.Dv
open Go.RowKit

def Tm.zero : Tm := .mk 0 0 []
theorem take_set_next {α : Type} (l : List α) (q : Nat) (x : α) (h : q < l.length) : (l.set q x).take (q + 1) = l.take q ++ [x] := by
  rw [List.take_succ_eq_append_getElem (by simpa using h), List.getElem_set_self, List.take_set_of_le (Nat.le_refl _)]
theorem five_cells {w : World} {g : Nat} {v0 v1 v2 : Value} {T : TypeId} (h : w.heap[g]? = some (.cells #[v0, v1, v2] T (0, 0))) :
    w.cell? ⟨g, 0, none⟩ = some v0 ∧ w.cell? ⟨g, 1, none⟩ = some v1 ∧ w.cell? ⟨g, 2, none⟩ = some v2 := by
  refine ⟨?_, ?_, ?_⟩ <;> (rw [cell_of_row w g _ _ _ _ h]; rfl)
theorem five_free {w : World} {g : Nat} {cs : Array Value} {T : TypeId} (h : w.heap[g]? = some (.cells cs T (0, 0))) :
    w.frozen? ⟨g, 0, none⟩ = false ∧ w.frozen? ⟨g, 1, none⟩ = false ∧ w.frozen? ⟨g, 2, none⟩ = false :=
  ⟨open_unfrozen h _, open_unfrozen h _, open_unfrozen h _⟩

theorem cells5_zeros : ∀ n : Nat, (cells5 (List.replicate n (Tm.zero, Value.slice none 0 0))) = (madeCells #[.int .i64 0, .int .i64 0, .slice none 0 0] (n * 3)).toList := by
  intro n
  apply List.ext_getElem?
  intro j
  by_cases hj : j < n * 3
  · have h5 : j % 3 < 3 := Nat.mod_lt _ (by omega)
    have hd : j / 3 < n := by omega
    have e : j = j / 3 * 3 + j % 3 := by omega
    have h1 := cells5_get (List.replicate n (Tm.zero, Value.slice none 0 0)) (j / 3) (by simpa using hd) (j % 3) h5
    rw [← e] at h1
    rw [h1]
    simp only [List.getElem_replicate]
    have hz : (madeCells #[Value.int .i64 0, .int .i64 0, .slice none 0 0] (n * 3)).toList[j]? = some (#[Value.int .i64 0, .int .i64 0, .slice none 0 0][j % 3]!) := by simp [madeCells, hj]
    rw [hz]
    generalize j % 3 = q at h5
    match q, h5 with
    | 0, _ => rfl
    | 1, _ => rfl
    | 2, _ => rfl
  · rw [List.getElem?_eq_none (by rw [cells5_length]; simp; omega), List.getElem?_eq_none (by simp [madeCells]; omega)]

theorem zero_fine : Tm.zero.fine := by simp [Tm.zero, Tm.fine, I64, Tm.k, Tm.i]
abbrev five (w : World) (g : Nat) (v0 v1 v2 : Value) : World := ((w.setCell ⟨g, 0, none⟩ v0).setCell ⟨g, 1, none⟩ v1).setCell ⟨g, 2, none⟩ v2
theorem five_other (w : World) (g : Nat) (v0 v1 v2 : Value) {b : Nat} (h : b ≠ g) : (five w g v0 v1 v2).heap[b]? = w.heap[b]? := by
  unfold five; repeat rw [Below.heap_setCell _ _ _ _ (by exact h)]
end Go.Proofs.YtpekceadjcbphaaDoor.Dv

namespace Go.Proofs.YtpekceadjcbphaaDoor.Dv
open Go.RowKit

def mostN (r : Int) : Int := if r = 1 ∨ r = 2 then 1000000 else 0
def nodeOk (k i : Int) (n : Nat) : Bool := decide (0 ≤ dkidsN k) && ((n : Int) == dkidsN k) && decide (0 ≤ i) && decide (i ≤ mostN k)
mutual
def Tm.rightB : Tm → Bool
  | .mk k i l => nodeOk k i l.length && rights l
def rights : List Tm → Bool
  | [] => true
  | x :: r => x.rightB && rights r
end
end Go.Proofs.YtpekceadjcbphaaDoor.Dv
