/-
  Texts in one: Jud, JudM, JudG, LoadRow.
-/
import Derived.Test.YtjhdcjjoignioaaPcA
import Derived.Test.YtjhdcjjoignioaaTwin
import Derived.Deep.AppendLies
import Derived.Deep.DeepCutAuto
import Derived.Test.YtjhdcjjoignioaaWeigh
import Derived.OrdersHeld
import Derived.Laws.Rows
import Derived.WalkKit
/-! Judgments in memory; transhipkeep.Judg and ctx.SameJudg. -/
namespace Go.Proofs.Ytjhdcjjoignioaa
open Go.RowKit

/-- A judgment. -/
structure Jd where
  eq : Bool
  u : Tm
  v : Tm
  a : Tm
  i : Int
def Jd.fine (j : Jd) : Prop := j.u.fine ∧ j.v.fine ∧ j.a.fine ∧ I64 j.i
/-- A judgment by value. -/
abbrev jv (j : Jd) (su sv sa : Value) : Value := .agg #[.bool j.eq, .int .i64 j.u.k, .int .i64 j.u.i, .int .i64 j.u.j, .int .i64 j.u.n, su, .int .i64 j.v.k, .int .i64 j.v.i, .int .i64 j.v.j, .int .i64 j.v.n, sv, .int .i64 j.a.k, .int .i64 j.a.i, .int .i64 j.a.j, .int .i64 j.a.n, sa, .int .i64 j.i]
/-- Its three lists lie there. -/
def JLies (w : World) (j : Jd) (su sv sa : Value) : Prop := Lies w j.u.kids su ∧ Lies w j.v.kids sv ∧ Lies w j.a.kids sa
theorem JLies.keep {w w' : World} {j : Jd} {su sv sa : Value} (h : JLies w j su sv sa) (hb : Below w.heap.size w w') : JLies w' j su sv sa := ⟨h.1.keep hb, h.2.1.keep hb, h.2.2.keep hb⟩
/-- Its cells, at the head of a block. -/
def JBox (w : World) (b : Nat) (j : Jd) (su sv sa : Value) : Prop := w.cell? ⟨b, 0, none⟩ = some (.bool j.eq) ∧ w.cell? ⟨b, 1, none⟩ = some (.int .i64 j.u.k) ∧ w.cell? ⟨b, 2, none⟩ = some (.int .i64 j.u.i) ∧ w.cell? ⟨b, 3, none⟩ = some (.int .i64 j.u.j) ∧ w.cell? ⟨b, 4, none⟩ = some (.int .i64 j.u.n) ∧ w.cell? ⟨b, 5, none⟩ = some (su) ∧ w.cell? ⟨b, 6, none⟩ = some (.int .i64 j.v.k) ∧ w.cell? ⟨b, 7, none⟩ = some (.int .i64 j.v.i) ∧ w.cell? ⟨b, 8, none⟩ = some (.int .i64 j.v.j) ∧ w.cell? ⟨b, 9, none⟩ = some (.int .i64 j.v.n) ∧ w.cell? ⟨b, 10, none⟩ = some (sv) ∧ w.cell? ⟨b, 11, none⟩ = some (.int .i64 j.a.k) ∧ w.cell? ⟨b, 12, none⟩ = some (.int .i64 j.a.i) ∧ w.cell? ⟨b, 13, none⟩ = some (.int .i64 j.a.j) ∧ w.cell? ⟨b, 14, none⟩ = some (.int .i64 j.a.n) ∧ w.cell? ⟨b, 15, none⟩ = some (sa) ∧ w.cell? ⟨b, 16, none⟩ = some (.int .i64 j.i)
/-- Its cells, at a place. -/
def JNode (w : World) (b o : Nat) (j : Jd) (su sv sa : Value) : Prop := w.cell? ⟨b, o, none⟩ = some (.bool j.eq) ∧ w.cell? ⟨b, o + 1, none⟩ = some (.int .i64 j.u.k) ∧ w.cell? ⟨b, o + 2, none⟩ = some (.int .i64 j.u.i) ∧ w.cell? ⟨b, o + 3, none⟩ = some (.int .i64 j.u.j) ∧ w.cell? ⟨b, o + 4, none⟩ = some (.int .i64 j.u.n) ∧ w.cell? ⟨b, o + 5, none⟩ = some (su) ∧ w.cell? ⟨b, o + 6, none⟩ = some (.int .i64 j.v.k) ∧ w.cell? ⟨b, o + 7, none⟩ = some (.int .i64 j.v.i) ∧ w.cell? ⟨b, o + 8, none⟩ = some (.int .i64 j.v.j) ∧ w.cell? ⟨b, o + 9, none⟩ = some (.int .i64 j.v.n) ∧ w.cell? ⟨b, o + 10, none⟩ = some (sv) ∧ w.cell? ⟨b, o + 11, none⟩ = some (.int .i64 j.a.k) ∧ w.cell? ⟨b, o + 12, none⟩ = some (.int .i64 j.a.i) ∧ w.cell? ⟨b, o + 13, none⟩ = some (.int .i64 j.a.j) ∧ w.cell? ⟨b, o + 14, none⟩ = some (.int .i64 j.a.n) ∧ w.cell? ⟨b, o + 15, none⟩ = some (sa) ∧ w.cell? ⟨b, o + 16, none⟩ = some (.int .i64 j.i)
theorem jbox_new (w : World) (j : Jd) (su sv sa : Value) : JBox (w.alloc (.cells #[.bool j.eq, .int .i64 j.u.k, .int .i64 j.u.i, .int .i64 j.u.j, .int .i64 j.u.n, su, .int .i64 j.v.k, .int .i64 j.v.i, .int .i64 j.v.j, .int .i64 j.v.n, sv, .int .i64 j.a.k, .int .i64 j.a.i, .int .i64 j.a.j, .int .i64 j.a.n, sa, .int .i64 j.i] 45)) w.heap.size j su sv sa := by
  have key : ∀ o, (w.alloc (.cells #[.bool j.eq, .int .i64 j.u.k, .int .i64 j.u.i, .int .i64 j.u.j, .int .i64 j.u.n, su, .int .i64 j.v.k, .int .i64 j.v.i, .int .i64 j.v.j, .int .i64 j.v.n, sv, .int .i64 j.a.k, .int .i64 j.a.i, .int .i64 j.a.j, .int .i64 j.a.n, sa, .int .i64 j.i] 45)).cell? ⟨w.heap.size, o, none⟩ = (#[.bool j.eq, .int .i64 j.u.k, .int .i64 j.u.i, .int .i64 j.u.j, .int .i64 j.u.n, su, .int .i64 j.v.k, .int .i64 j.v.i, .int .i64 j.v.j, .int .i64 j.v.n, sv, .int .i64 j.a.k, .int .i64 j.a.i, .int .i64 j.a.j, .int .i64 j.a.n, sa, .int .i64 j.i] : Array Value)[o]? := fun o => by rw [World.cell?_alloc_at _ _ _ _ rfl]
  exact ⟨by rw [key]; rfl, by rw [key]; rfl, by rw [key]; rfl, by rw [key]; rfl, by rw [key]; rfl, by rw [key]; rfl, by rw [key]; rfl, by rw [key]; rfl, by rw [key]; rfl, by rw [key]; rfl, by rw [key]; rfl, by rw [key]; rfl, by rw [key]; rfl, by rw [key]; rfl, by rw [key]; rfl, by rw [key]; rfl, by rw [key]; rfl⟩
theorem JBox.keep {w w' : World} {b : Nat} {j : Jd} {su sv sa : Value} (h : JBox w b j su sv sa) (hb : Below w.heap.size w w') : JBox w' b j su sv sa := by
  obtain ⟨x0, x1, x2, x3, x4, x5, x6, x7, x8, x9, x10, x11, x12, x13, x14, x15, x16⟩ := h
  exact ⟨cell_lat hb x0, cell_lat hb x1, cell_lat hb x2, cell_lat hb x3, cell_lat hb x4, cell_lat hb x5, cell_lat hb x6, cell_lat hb x7, cell_lat hb x8, cell_lat hb x9, cell_lat hb x10, cell_lat hb x11, cell_lat hb x12, cell_lat hb x13, cell_lat hb x14, cell_lat hb x15, cell_lat hb x16⟩
theorem JNode.keep {w w' : World} {b o : Nat} {j : Jd} {su sv sa : Value} (h : JNode w b o j su sv sa) (hb : Below w.heap.size w w') : JNode w' b o j su sv sa := by
  obtain ⟨x0, x1, x2, x3, x4, x5, x6, x7, x8, x9, x10, x11, x12, x13, x14, x15, x16⟩ := h
  exact ⟨cell_lat hb x0, cell_lat hb x1, cell_lat hb x2, cell_lat hb x3, cell_lat hb x4, cell_lat hb x5, cell_lat hb x6, cell_lat hb x7, cell_lat hb x8, cell_lat hb x9, cell_lat hb x10, cell_lat hb x11, cell_lat hb x12, cell_lat hb x13, cell_lat hb x14, cell_lat hb x15, cell_lat hb x16⟩
theorem JNode.lt {w : World} {b o : Nat} {j : Jd} {su sv sa : Value} (h : JNode w b o j su sv sa) : b < w.heap.size := World.block_lt_of_cell? _ _ h.1
theorem JNode.same {w w' : World} {b o : Nat} {j : Jd} {su sv sa : Value} (h : JNode w b o j su sv sa) (hb : w'.heap[b]? = w.heap[b]?) : JNode w' b o j su sv sa := by
  have hc : ∀ q, w'.cell? ⟨b, q, none⟩ = w.cell? ⟨b, q, none⟩ := fun q => World.cell?_of_block (a := ⟨b, q, none⟩) hb
  obtain ⟨x0, x1, x2, x3, x4, x5, x6, x7, x8, x9, x10, x11, x12, x13, x14, x15, x16⟩ := h
  exact ⟨(hc _).trans x0, (hc _).trans x1, (hc _).trans x2, (hc _).trans x3, (hc _).trans x4, (hc _).trans x5, (hc _).trans x6, (hc _).trans x7, (hc _).trans x8, (hc _).trans x9, (hc _).trans x10, (hc _).trans x11, (hc _).trans x12, (hc _).trans x13, (hc _).trans x14, (hc _).trans x15, (hc _).trans x16⟩

def judgB (x y : Jd) : Bool := (x.eq == y.eq) && ((x.i == y.i) && (sameB x.u y.u && (sameB x.v y.v && sameB x.a y.a)))
theorem judgB_self (x : Jd) : judgB x x = true := by unfold judgB; simp [sameB_self]
theorem judgB_iff (x y : Jd) : judgB x y = true ↔ x = y := by
  unfold judgB
  simp only [Bool.and_eq_true, beq_iff_eq, sameB_iff]
  cases x; cases y; simp only [Jd.mk.injEq]
  constructor
  · rintro ⟨h1, h2, h3, h4, h5⟩; exact ⟨h1, h3, h4, h5, h2⟩
  · rintro ⟨h1, h2, h3, h4, h5⟩; exact ⟨h1, h5, h2, h3, h4⟩
set_option maxRecDepth 20000 in
set_option maxHeartbeats 4000000 in
theorem keepjudg_any (x y : Jd) (w : World) (sxu sxv sxa syu syv sya : Value) (hx : JLies w x sxu sxv sxa) (hy : JLies w y syu syv sya) : Calls Try.prog 30 #[jv x sxu sxv sxa, jv y syu syv sya] w fun e w' => e = .returned (.bool (judgB x y)) ∧ Below w.heap.size w w' := by
  obtain ⟨axu, cxu, Sxu, rfl, -⟩ := hx.1.out
  obtain ⟨axv, cxv, Sxv, rfl, -⟩ := hx.2.1.out
  obtain ⟨axa, cxa, Sxa, rfl, -⟩ := hx.2.2.out
  obtain ⟨ayu, cyu, Syu, rfl, -⟩ := hy.1.out
  obtain ⟨ayv, cyv, Syv, rfl, -⟩ := hy.2.1.out
  obtain ⟨aya, cya, Sya, rfl, -⟩ := hy.2.2.out
  have hb0 : Below w.heap.size w ((w.alloc (.cells #[.bool x.eq, .int .i64 x.u.k, .int .i64 x.u.i, .int .i64 x.u.j, .int .i64 x.u.n, (.slice axu x.u.kids.length cxu), .int .i64 x.v.k, .int .i64 x.v.i, .int .i64 x.v.j, .int .i64 x.v.n, (.slice axv x.v.kids.length cxv), .int .i64 x.a.k, .int .i64 x.a.i, .int .i64 x.a.j, .int .i64 x.a.n, (.slice axa x.a.kids.length cxa), .int .i64 x.i] 45)).alloc (.cells #[.bool y.eq, .int .i64 y.u.k, .int .i64 y.u.i, .int .i64 y.u.j, .int .i64 y.u.n, (.slice ayu y.u.kids.length cyu), .int .i64 y.v.k, .int .i64 y.v.i, .int .i64 y.v.j, .int .i64 y.v.n, (.slice ayv y.v.kids.length cyv), .int .i64 y.a.k, .int .i64 y.a.i, .int .i64 y.a.j, .int .i64 y.a.n, (.slice aya y.a.kids.length cya), .int .i64 y.i] 45)) := ((Below.refl _ _).alloc (Nat.le_refl _) _).alloc (by simp) _
  have hb1 : Below (w.alloc (.cells #[.bool x.eq, .int .i64 x.u.k, .int .i64 x.u.i, .int .i64 x.u.j, .int .i64 x.u.n, (.slice axu x.u.kids.length cxu), .int .i64 x.v.k, .int .i64 x.v.i, .int .i64 x.v.j, .int .i64 x.v.n, (.slice axv x.v.kids.length cxv), .int .i64 x.a.k, .int .i64 x.a.i, .int .i64 x.a.j, .int .i64 x.a.n, (.slice axa x.a.kids.length cxa), .int .i64 x.i] 45)).heap.size (w.alloc (.cells #[.bool x.eq, .int .i64 x.u.k, .int .i64 x.u.i, .int .i64 x.u.j, .int .i64 x.u.n, (.slice axu x.u.kids.length cxu), .int .i64 x.v.k, .int .i64 x.v.i, .int .i64 x.v.j, .int .i64 x.v.n, (.slice axv x.v.kids.length cxv), .int .i64 x.a.k, .int .i64 x.a.i, .int .i64 x.a.j, .int .i64 x.a.n, (.slice axa x.a.kids.length cxa), .int .i64 x.i] 45)) ((w.alloc (.cells #[.bool x.eq, .int .i64 x.u.k, .int .i64 x.u.i, .int .i64 x.u.j, .int .i64 x.u.n, (.slice axu x.u.kids.length cxu), .int .i64 x.v.k, .int .i64 x.v.i, .int .i64 x.v.j, .int .i64 x.v.n, (.slice axv x.v.kids.length cxv), .int .i64 x.a.k, .int .i64 x.a.i, .int .i64 x.a.j, .int .i64 x.a.n, (.slice axa x.a.kids.length cxa), .int .i64 x.i] 45)).alloc (.cells #[.bool y.eq, .int .i64 y.u.k, .int .i64 y.u.i, .int .i64 y.u.j, .int .i64 y.u.n, (.slice ayu y.u.kids.length cyu), .int .i64 y.v.k, .int .i64 y.v.i, .int .i64 y.v.j, .int .i64 y.v.n, (.slice ayv y.v.kids.length cyv), .int .i64 y.a.k, .int .i64 y.a.i, .int .i64 y.a.j, .int .i64 y.a.n, (.slice aya y.a.kids.length cya), .int .i64 y.i] 45)) := (Below.refl _ _).alloc (Nat.le_refl _) _
  have hbx := (jbox_new w x (.slice axu x.u.kids.length cxu) (.slice axv x.v.kids.length cxv) (.slice axa x.a.kids.length cxa)).keep hb1
  have hby := jbox_new (w.alloc (.cells #[.bool x.eq, .int .i64 x.u.k, .int .i64 x.u.i, .int .i64 x.u.j, .int .i64 x.u.n, (.slice axu x.u.kids.length cxu), .int .i64 x.v.k, .int .i64 x.v.i, .int .i64 x.v.j, .int .i64 x.v.n, (.slice axv x.v.kids.length cxv), .int .i64 x.a.k, .int .i64 x.a.i, .int .i64 x.a.j, .int .i64 x.a.n, (.slice axa x.a.kids.length cxa), .int .i64 x.i] 45)) y (.slice ayu y.u.kids.length cyu) (.slice ayv y.v.kids.length cyv) (.slice aya y.a.kids.length cya)
  rw [show (w.alloc (.cells #[.bool x.eq, .int .i64 x.u.k, .int .i64 x.u.i, .int .i64 x.u.j, .int .i64 x.u.n, (.slice axu x.u.kids.length cxu), .int .i64 x.v.k, .int .i64 x.v.i, .int .i64 x.v.j, .int .i64 x.v.n, (.slice axv x.v.kids.length cxv), .int .i64 x.a.k, .int .i64 x.a.i, .int .i64 x.a.j, .int .i64 x.a.n, (.slice axa x.a.kids.length cxa), .int .i64 x.i] 45)).heap.size = w.heap.size + 1 by simp] at hby
  have hlx := hx.keep hb0
  have hly := hy.keep hb0
  unfold jv
  have HB0 := Lib.hid hb0
  have HBX := Lib.hid hbx
  have HBY := Lib.hid hby
  have HLX := Lib.hid hlx
  have HLY := Lib.hid hly
  clear hb0 hb1 hbx hby hlx hly hx hy
  cases ee : (x.eq == y.eq) with
  | false =>
    have HJ : Hid (judgB x y = false) := by unfold judgB; rw [ee]; rfl
    go_enter Try.func30, Try.ntmps30
    go_wp2
    go_ret
    exact ⟨ret_bool HJ.out.symm, HB0.out⟩
  | true =>
  cases ei : (x.i == y.i) with
  | false =>
    have HJ : Hid (judgB x y = false) := by unfold judgB; rw [ee, ei]; rfl
    go_enter Try.func30, Try.ntmps30
    go_wp2
    go_ret
    exact ⟨ret_bool HJ.out.symm, HB0.out⟩
  | true =>
  have HE := Lib.hid ee
  have HI := Lib.hid ei
  go_enter Try.func30, Try.ntmps30
  go_wp2_with fail
  refine (keepsame_any x.u y.u _ _ _ HLX.out.1 HLY.out.1).mono ?_
  generalize (w.alloc (.cells #[.bool x.eq, .int .i64 x.u.k, .int .i64 x.u.i, .int .i64 x.u.j, .int .i64 x.u.n, (.slice axu x.u.kids.length cxu), .int .i64 x.v.k, .int .i64 x.v.i, .int .i64 x.v.j, .int .i64 x.v.n, (.slice axv x.v.kids.length cxv), .int .i64 x.a.k, .int .i64 x.a.i, .int .i64 x.a.j, .int .i64 x.a.n, (.slice axa x.a.kids.length cxa), .int .i64 x.i] 45)).alloc (.cells #[.bool y.eq, .int .i64 y.u.k, .int .i64 y.u.i, .int .i64 y.u.j, .int .i64 y.u.n, (.slice ayu y.u.kids.length cyu), .int .i64 y.v.k, .int .i64 y.v.i, .int .i64 y.v.j, .int .i64 y.v.n, (.slice ayv y.v.kids.length cyv), .int .i64 y.a.k, .int .i64 y.a.i, .int .i64 y.a.j, .int .i64 y.a.n, (.slice aya y.a.kids.length cya), .int .i64 y.i] 45) = V at HB0 HBX HBY HLX HLY ⊢
  cases su : sameB x.u y.u with
  | false =>
    have HJ : Hid (judgB x y = false) := by unfold judgB; rw [HE.out, HI.out, su]; rfl
    rintro e w1 ⟨rfl, hb1⟩
    go_wp2
    go_ret
    exact ⟨ret_bool HJ.out.symm, HB0.out.trans (Below.mono hb1 HB0.out.size)⟩
  | true =>
  have HU := Lib.hid su
  rintro e w1 ⟨rfl, hb1⟩
  obtain ⟨x0, x1, x2, x3, x4, x5, x6, x7, x8, x9, x10, x11, x12, x13, x14, x15, x16⟩ := HBX.out.keep hb1
  obtain ⟨y0, y1, y2, y3, y4, y5, y6, y7, y8, y9, y10, y11, y12, y13, y14, y15, y16⟩ := HBY.out.keep hb1
  have HLX1 := Lib.hid (HLX.out.keep hb1)
  have HLY1 := Lib.hid (HLY.out.keep hb1)
  have HB1 := Lib.hid (HB0.out.trans (Below.mono hb1 HB0.out.size))
  have HK1 := Lib.hid hb1
  clear hb1 su ee ei
  go_wp2_with fail
  refine (keepsame_any x.v y.v _ _ _ HLX1.out.2.1 HLY1.out.2.1).mono ?_
  clear x0 x1 x2 x3 x4 x5 x6 x7 x8 x9 x10 x11 x12 x13 x14 x15 x16 y0 y1 y2 y3 y4 y5 y6 y7 y8 y9 y10 y11 y12 y13 y14 y15 y16
  cases sv : sameB x.v y.v with
  | false =>
    have HJ : Hid (judgB x y = false) := by unfold judgB; rw [HE.out, HI.out, HU.out, sv]; rfl
    rintro e w2 ⟨rfl, hb2⟩
    go_wp2
    go_ret
    exact ⟨ret_bool HJ.out.symm, HB1.out.trans (Below.mono hb2 HB1.out.size)⟩
  | true =>
  have HV := Lib.hid sv
  rintro e w2 ⟨rfl, hb2⟩
  have hb12 := below_call HK1.out hb2 HK1.out.size
  obtain ⟨x0, x1, x2, x3, x4, x5, x6, x7, x8, x9, x10, x11, x12, x13, x14, x15, x16⟩ := HBX.out.keep hb12
  obtain ⟨y0, y1, y2, y3, y4, y5, y6, y7, y8, y9, y10, y11, y12, y13, y14, y15, y16⟩ := HBY.out.keep hb12
  have HLX2 := Lib.hid (HLX1.out.keep hb2)
  have HLY2 := Lib.hid (HLY1.out.keep hb2)
  have HB2 := Lib.hid (HB1.out.trans (Below.mono hb2 HB1.out.size))
  clear hb2 hb12 sv
  go_wp2_with fail
  refine (keepsame_any x.a y.a _ _ _ HLX2.out.2.2 HLY2.out.2.2).mono ?_
  clear x0 x1 x2 x3 x4 x5 x6 x7 x8 x9 x10 x11 x12 x13 x14 x15 x16 y0 y1 y2 y3 y4 y5 y6 y7 y8 y9 y10 y11 y12 y13 y14 y15 y16
  have HJ : Hid (judgB x y = sameB x.a y.a) := by unfold judgB; rw [HE.out, HI.out, HU.out, HV.out]; rfl
  rintro e w3 ⟨rfl, hb3⟩
  go_wp2
  go_ret
  exact ⟨ret_bool HJ.out.symm, HB2.out.trans (Below.mono hb3 HB2.out.size)⟩

set_option maxRecDepth 20000 in
set_option maxHeartbeats 4000000 in
theorem samejudg_any (x y : Jd) (w : World) (sxu sxv sxa syu syv sya : Value) (hx : JLies w x sxu sxv sxa) (hy : JLies w y syu syv sya) : Calls Try.prog 29 #[jv x sxu sxv sxa, jv y syu syv sya] w fun e w' => e = .returned (.bool (judgB x y)) ∧ Below w.heap.size w w' := by
  obtain ⟨axu, cxu, Sxu, rfl, -⟩ := hx.1.out
  obtain ⟨axv, cxv, Sxv, rfl, -⟩ := hx.2.1.out
  obtain ⟨axa, cxa, Sxa, rfl, -⟩ := hx.2.2.out
  obtain ⟨ayu, cyu, Syu, rfl, -⟩ := hy.1.out
  obtain ⟨ayv, cyv, Syv, rfl, -⟩ := hy.2.1.out
  obtain ⟨aya, cya, Sya, rfl, -⟩ := hy.2.2.out
  have hb0 : Below w.heap.size w ((w.alloc (.cells #[.bool x.eq, .int .i64 x.u.k, .int .i64 x.u.i, .int .i64 x.u.j, .int .i64 x.u.n, (.slice axu x.u.kids.length cxu), .int .i64 x.v.k, .int .i64 x.v.i, .int .i64 x.v.j, .int .i64 x.v.n, (.slice axv x.v.kids.length cxv), .int .i64 x.a.k, .int .i64 x.a.i, .int .i64 x.a.j, .int .i64 x.a.n, (.slice axa x.a.kids.length cxa), .int .i64 x.i] 45)).alloc (.cells #[.bool y.eq, .int .i64 y.u.k, .int .i64 y.u.i, .int .i64 y.u.j, .int .i64 y.u.n, (.slice ayu y.u.kids.length cyu), .int .i64 y.v.k, .int .i64 y.v.i, .int .i64 y.v.j, .int .i64 y.v.n, (.slice ayv y.v.kids.length cyv), .int .i64 y.a.k, .int .i64 y.a.i, .int .i64 y.a.j, .int .i64 y.a.n, (.slice aya y.a.kids.length cya), .int .i64 y.i] 45)) := ((Below.refl _ _).alloc (Nat.le_refl _) _).alloc (by simp) _
  have hb1 : Below (w.alloc (.cells #[.bool x.eq, .int .i64 x.u.k, .int .i64 x.u.i, .int .i64 x.u.j, .int .i64 x.u.n, (.slice axu x.u.kids.length cxu), .int .i64 x.v.k, .int .i64 x.v.i, .int .i64 x.v.j, .int .i64 x.v.n, (.slice axv x.v.kids.length cxv), .int .i64 x.a.k, .int .i64 x.a.i, .int .i64 x.a.j, .int .i64 x.a.n, (.slice axa x.a.kids.length cxa), .int .i64 x.i] 45)).heap.size (w.alloc (.cells #[.bool x.eq, .int .i64 x.u.k, .int .i64 x.u.i, .int .i64 x.u.j, .int .i64 x.u.n, (.slice axu x.u.kids.length cxu), .int .i64 x.v.k, .int .i64 x.v.i, .int .i64 x.v.j, .int .i64 x.v.n, (.slice axv x.v.kids.length cxv), .int .i64 x.a.k, .int .i64 x.a.i, .int .i64 x.a.j, .int .i64 x.a.n, (.slice axa x.a.kids.length cxa), .int .i64 x.i] 45)) ((w.alloc (.cells #[.bool x.eq, .int .i64 x.u.k, .int .i64 x.u.i, .int .i64 x.u.j, .int .i64 x.u.n, (.slice axu x.u.kids.length cxu), .int .i64 x.v.k, .int .i64 x.v.i, .int .i64 x.v.j, .int .i64 x.v.n, (.slice axv x.v.kids.length cxv), .int .i64 x.a.k, .int .i64 x.a.i, .int .i64 x.a.j, .int .i64 x.a.n, (.slice axa x.a.kids.length cxa), .int .i64 x.i] 45)).alloc (.cells #[.bool y.eq, .int .i64 y.u.k, .int .i64 y.u.i, .int .i64 y.u.j, .int .i64 y.u.n, (.slice ayu y.u.kids.length cyu), .int .i64 y.v.k, .int .i64 y.v.i, .int .i64 y.v.j, .int .i64 y.v.n, (.slice ayv y.v.kids.length cyv), .int .i64 y.a.k, .int .i64 y.a.i, .int .i64 y.a.j, .int .i64 y.a.n, (.slice aya y.a.kids.length cya), .int .i64 y.i] 45)) := (Below.refl _ _).alloc (Nat.le_refl _) _
  have hbx := (jbox_new w x (.slice axu x.u.kids.length cxu) (.slice axv x.v.kids.length cxv) (.slice axa x.a.kids.length cxa)).keep hb1
  have hby := jbox_new (w.alloc (.cells #[.bool x.eq, .int .i64 x.u.k, .int .i64 x.u.i, .int .i64 x.u.j, .int .i64 x.u.n, (.slice axu x.u.kids.length cxu), .int .i64 x.v.k, .int .i64 x.v.i, .int .i64 x.v.j, .int .i64 x.v.n, (.slice axv x.v.kids.length cxv), .int .i64 x.a.k, .int .i64 x.a.i, .int .i64 x.a.j, .int .i64 x.a.n, (.slice axa x.a.kids.length cxa), .int .i64 x.i] 45)) y (.slice ayu y.u.kids.length cyu) (.slice ayv y.v.kids.length cyv) (.slice aya y.a.kids.length cya)
  rw [show (w.alloc (.cells #[.bool x.eq, .int .i64 x.u.k, .int .i64 x.u.i, .int .i64 x.u.j, .int .i64 x.u.n, (.slice axu x.u.kids.length cxu), .int .i64 x.v.k, .int .i64 x.v.i, .int .i64 x.v.j, .int .i64 x.v.n, (.slice axv x.v.kids.length cxv), .int .i64 x.a.k, .int .i64 x.a.i, .int .i64 x.a.j, .int .i64 x.a.n, (.slice axa x.a.kids.length cxa), .int .i64 x.i] 45)).heap.size = w.heap.size + 1 by simp] at hby
  have hlx := hx.keep hb0
  have hly := hy.keep hb0
  unfold jv
  have HB0 := Lib.hid hb0
  have HBX := Lib.hid hbx
  have HBY := Lib.hid hby
  have HLX := Lib.hid hlx
  have HLY := Lib.hid hly
  clear hb0 hb1 hbx hby hlx hly hx hy
  cases ee : (x.eq == y.eq) with
  | false =>
    have HJ : Hid (judgB x y = false) := by unfold judgB; rw [ee]; rfl
    go_enter Try.func29, Try.ntmps29
    go_wp2
    go_ret
    exact ⟨ret_bool HJ.out.symm, HB0.out⟩
  | true =>
  cases ei : (x.i == y.i) with
  | false =>
    have HJ : Hid (judgB x y = false) := by unfold judgB; rw [ee, ei]; rfl
    go_enter Try.func29, Try.ntmps29
    go_wp2
    go_ret
    exact ⟨ret_bool HJ.out.symm, HB0.out⟩
  | true =>
  have HE := Lib.hid ee
  have HI := Lib.hid ei
  go_enter Try.func29, Try.ntmps29
  go_wp2_with fail
  refine (same_any x.u y.u _ _ _ HLX.out.1 HLY.out.1).mono ?_
  generalize (w.alloc (.cells #[.bool x.eq, .int .i64 x.u.k, .int .i64 x.u.i, .int .i64 x.u.j, .int .i64 x.u.n, (.slice axu x.u.kids.length cxu), .int .i64 x.v.k, .int .i64 x.v.i, .int .i64 x.v.j, .int .i64 x.v.n, (.slice axv x.v.kids.length cxv), .int .i64 x.a.k, .int .i64 x.a.i, .int .i64 x.a.j, .int .i64 x.a.n, (.slice axa x.a.kids.length cxa), .int .i64 x.i] 45)).alloc (.cells #[.bool y.eq, .int .i64 y.u.k, .int .i64 y.u.i, .int .i64 y.u.j, .int .i64 y.u.n, (.slice ayu y.u.kids.length cyu), .int .i64 y.v.k, .int .i64 y.v.i, .int .i64 y.v.j, .int .i64 y.v.n, (.slice ayv y.v.kids.length cyv), .int .i64 y.a.k, .int .i64 y.a.i, .int .i64 y.a.j, .int .i64 y.a.n, (.slice aya y.a.kids.length cya), .int .i64 y.i] 45) = V at HB0 HBX HBY HLX HLY ⊢
  cases su : sameB x.u y.u with
  | false =>
    have HJ : Hid (judgB x y = false) := by unfold judgB; rw [HE.out, HI.out, su]; rfl
    rintro e w1 ⟨rfl, hb1⟩
    go_wp2
    go_ret
    exact ⟨ret_bool HJ.out.symm, HB0.out.trans (Below.mono hb1 HB0.out.size)⟩
  | true =>
  have HU := Lib.hid su
  rintro e w1 ⟨rfl, hb1⟩
  obtain ⟨x0, x1, x2, x3, x4, x5, x6, x7, x8, x9, x10, x11, x12, x13, x14, x15, x16⟩ := HBX.out.keep hb1
  obtain ⟨y0, y1, y2, y3, y4, y5, y6, y7, y8, y9, y10, y11, y12, y13, y14, y15, y16⟩ := HBY.out.keep hb1
  have HLX1 := Lib.hid (HLX.out.keep hb1)
  have HLY1 := Lib.hid (HLY.out.keep hb1)
  have HB1 := Lib.hid (HB0.out.trans (Below.mono hb1 HB0.out.size))
  have HK1 := Lib.hid hb1
  clear hb1 su ee ei
  go_wp2_with fail
  refine (same_any x.v y.v _ _ _ HLX1.out.2.1 HLY1.out.2.1).mono ?_
  clear x0 x1 x2 x3 x4 x5 x6 x7 x8 x9 x10 x11 x12 x13 x14 x15 x16 y0 y1 y2 y3 y4 y5 y6 y7 y8 y9 y10 y11 y12 y13 y14 y15 y16
  cases sv : sameB x.v y.v with
  | false =>
    have HJ : Hid (judgB x y = false) := by unfold judgB; rw [HE.out, HI.out, HU.out, sv]; rfl
    rintro e w2 ⟨rfl, hb2⟩
    go_wp2
    go_ret
    exact ⟨ret_bool HJ.out.symm, HB1.out.trans (Below.mono hb2 HB1.out.size)⟩
  | true =>
  have HV := Lib.hid sv
  rintro e w2 ⟨rfl, hb2⟩
  have hb12 := below_call HK1.out hb2 HK1.out.size
  obtain ⟨x0, x1, x2, x3, x4, x5, x6, x7, x8, x9, x10, x11, x12, x13, x14, x15, x16⟩ := HBX.out.keep hb12
  obtain ⟨y0, y1, y2, y3, y4, y5, y6, y7, y8, y9, y10, y11, y12, y13, y14, y15, y16⟩ := HBY.out.keep hb12
  have HLX2 := Lib.hid (HLX1.out.keep hb2)
  have HLY2 := Lib.hid (HLY1.out.keep hb2)
  have HB2 := Lib.hid (HB1.out.trans (Below.mono hb2 HB1.out.size))
  clear hb2 hb12 sv
  go_wp2_with fail
  refine (same_any x.a y.a _ _ _ HLX2.out.2.2 HLY2.out.2.2).mono ?_
  clear x0 x1 x2 x3 x4 x5 x6 x7 x8 x9 x10 x11 x12 x13 x14 x15 x16 y0 y1 y2 y3 y4 y5 y6 y7 y8 y9 y10 y11 y12 y13 y14 y15 y16
  have HJ : Hid (judgB x y = sameB x.a y.a) := by unfold judgB; rw [HE.out, HI.out, HU.out, HV.out]; rfl
  rintro e w3 ⟨rfl, hb3⟩
  go_wp2
  go_ret
  exact ⟨ret_bool HJ.out.symm, HB2.out.trans (Below.mono hb3 HB2.out.size)⟩

end Go.Proofs.Ytjhdcjjoignioaa

/-! Rows of judgments; transhipkeep.GreatJudgs and TwinJudgs. -/
namespace Go.Proofs.Ytjhdcjjoignioaa
open Go.RowKit

instance instJd : Inhabited (Jd × (Value × Value × Value)) := ⟨(⟨false, .mk 0 0 0 0 [], .mk 0 0 0 0 [], .mk 0 0 0 0 [], 0⟩, (.nilIface, .nilIface, .nilIface))⟩
/-- Judgments behind a slice. -/
structure LiesJ (w : World) (l : List Jd) (s : Value) : Prop where
  out : ∃ (a : Option Addr) (cap : Nat) (S : Nat → Value × Value × Value), s = .slice a l.length cap ∧ l.length ≤ cap ∧ cap ≤ maxLen ∧ (∀ x ∈ l, x.fine) ∧
    (∀ i (h : i < l.length), ∃ b o, a = some ⟨b, o, none⟩ ∧ JNode w b (o + i * 17) l[i] (S i).1 (S i).2.1 (S i).2.2) ∧ (∀ i (h : i < l.length), JLies w l[i] (S i).1 (S i).2.1 (S i).2.2)
theorem LiesJ.keep {w w' : World} {l : List Jd} {s : Value} (h : LiesJ w l s) (hb : Below w.heap.size w w') : LiesJ w' l s := by
  obtain ⟨a, cap, S, hs, hc, hm, hf, hn, hk⟩ := h.out
  exact ⟨a, cap, S, hs, hc, hm, hf, fun i hi => by obtain ⟨b, o, ha, hx⟩ := hn i hi; exact ⟨b, o, ha, hx.keep hb⟩, fun i hi => (hk i hi).keep hb⟩

def cells17 : List (Jd × (Value × Value × Value)) → List Value
  | [] => []
  | (j, (su, sv, sa)) :: r => .bool j.eq :: .int .i64 j.u.k :: .int .i64 j.u.i :: .int .i64 j.u.j :: .int .i64 j.u.n :: su :: .int .i64 j.v.k :: .int .i64 j.v.i :: .int .i64 j.v.j :: .int .i64 j.v.n :: sv :: .int .i64 j.a.k :: .int .i64 j.a.i :: .int .i64 j.a.j :: .int .i64 j.a.n :: sa :: .int .i64 j.i :: cells17 r
theorem cells17_length : ∀ ps : List (Jd × (Value × Value × Value)), (cells17 ps).length = ps.length * 17
  | [] => rfl
  | (j, (su, sv, sa)) :: r => by simp [cells17, cells17_length r]; omega
theorem cells17_append : ∀ ps qs : List (Jd × (Value × Value × Value)), cells17 (ps ++ qs) = cells17 ps ++ cells17 qs
  | [], qs => rfl
  | (j, (su, sv, sa)) :: r, qs => by simp [cells17, cells17_append r qs]
def jcells (p : Jd × (Value × Value × Value)) : List Value := [.bool p.1.eq, .int .i64 p.1.u.k, .int .i64 p.1.u.i, .int .i64 p.1.u.j, .int .i64 p.1.u.n, p.2.1, .int .i64 p.1.v.k, .int .i64 p.1.v.i, .int .i64 p.1.v.j, .int .i64 p.1.v.n, p.2.2.1, .int .i64 p.1.a.k, .int .i64 p.1.a.i, .int .i64 p.1.a.j, .int .i64 p.1.a.n, p.2.2.2, .int .i64 p.1.i]
theorem cells17_get : ∀ (ps : List (Jd × (Value × Value × Value))) (i : Nat) (h : i < ps.length) (q : Nat), q < 17 → (cells17 ps)[i * 17 + q]? = (jcells ps[i])[q]?
  | (j, (su, sv, sa)) :: r, 0, _, q, hq => by
    rw [Nat.zero_mul, Nat.zero_add]
    match q, hq with
    | 0, _ => rfl
    | 1, _ => rfl
    | 2, _ => rfl
    | 3, _ => rfl
    | 4, _ => rfl
    | 5, _ => rfl
    | 6, _ => rfl
    | 7, _ => rfl
    | 8, _ => rfl
    | 9, _ => rfl
    | 10, _ => rfl
    | 11, _ => rfl
    | 12, _ => rfl
    | 13, _ => rfl
    | 14, _ => rfl
    | 15, _ => rfl
    | 16, _ => rfl
    | n + 17, h => exact absurd h (by omega)
  | (j, (su, sv, sa)) :: r, i + 1, h, q, hq => by
    have := cells17_get r i (by simpa using h) q hq
    rw [show (i + 1) * 17 + q = (i * 17 + q) + 17 by omega]
    simpa [cells17] using this

/-- A row of judgments that the call has made so far. -/
structure MadeJ (B : Nat) (w : World) (v : Value) (ps : List (Jd × (Value × Value × Value))) : Prop where
  own : w.ownsRow B 45 17 v ps.length (cells17 ps)
  fine : ∀ p ∈ ps, p.1.fine
  kids : ∀ p ∈ ps, LiesP w (fun b => Own B w b ∧ v.ownBlock ≠ some b) p.1.u.kids p.2.1 ∧ LiesP w (fun b => Own B w b ∧ v.ownBlock ≠ some b) p.1.v.kids p.2.2.1 ∧ LiesP w (fun b => Own B w b ∧ v.ownBlock ≠ some b) p.1.a.kids p.2.2.2
theorem madeJ_nil (B : Nat) (w : World) : MadeJ B w (.slice none 0 0) [] := ⟨⟨rfl, Or.inl ⟨rfl, rfl⟩⟩, (fun _ h => by cases h), (fun _ h => by cases h)⟩
theorem madeJ_later {B : Nat} {w w' : World} {v : Value} {ps : List (Jd × (Value × Value × Value))} (h : MadeJ B w v ps) (hb : Below w.heap.size w w') : MadeJ B w' v ps := by
  have kp : ∀ l s, LiesP w (fun b => Own B w b ∧ v.ownBlock ≠ some b) l s → LiesP w' (fun b => Own B w' b ∧ v.ownBlock ≠ some b) l s := fun l s h => h.keep (fun b _ hlt => hb.block b hlt) (fun _ hq _ => ⟨hq.1.later hb, hq.2⟩)
  refine ⟨?_, h.fine, fun p hp => ⟨kp _ _ (h.kids p hp).1, kp _ _ (h.kids p hp).2.1, kp _ _ (h.kids p hp).2.2⟩⟩
  obtain ⟨h1, h2⟩ := h.own
  refine ⟨h1, ?_⟩
  rcases h2 with h2 | ⟨g, cap, cur, hv, hg, hh, r⟩
  · exact Or.inl h2
  · refine Or.inr ⟨g, cap, cur, hv, hg, ?_, r⟩
    rw [hb.block g ?_]; exact hh
    exact (Array.getElem?_eq_some_iff.1 hh).1
theorem madeJ_block {B : Nat} {w : World} {v : Value} {ps : List (Jd × (Value × Value × Value))} (h : MadeJ B w v ps) {b : Nat} (hb : w.heap.size ≤ b) : v.ownBlock ≠ some b := by
  rcases h.own.2 with ⟨rfl, -⟩ | ⟨g, cap, cur, rfl, -, hh, -⟩
  · simp [Value.ownBlock]
  · have := (Array.getElem?_eq_some_iff.1 hh).1
    simp [Value.ownBlock]; omega
theorem madeJ_above {B : Nat} {w : World} {v : Value} {ps : List (Jd × (Value × Value × Value))} (h : MadeJ B w v ps) : ∀ k, v.ownBlock = some k → B ≤ k := fun k hk => (h.own.lt k hk).1
theorem madeJ_step {B : Nat} {w w1 : World} {v : Value} {ps : List (Jd × (Value × Value × Value))} {p : Jd × (Value × Value × Value)} {g cap : Nat} (h : MadeJ B w v ps) (hf : p.1.fine)
    (hk : LiesP w (fun b => Own B w b ∧ v.ownBlock ≠ some b) p.1.u.kids p.2.1 ∧ LiesP w (fun b => Own B w b ∧ v.ownBlock ≠ some b) p.1.v.kids p.2.2.1 ∧ LiesP w (fun b => Own B w b ∧ v.ownBlock ≠ some b) p.1.a.kids p.2.2.2)
    (hown : w1.ownsRow B 45 17 (.slice (some ⟨g, 0, none⟩) (ps.length + 1) cap) (ps.length + 1) (cells17 ps ++ cells17 [p])) (hgrow : w.grownBy w1 v.ownBlock) (hg : v.ownBlock = some g ∨ g = w.heap.size) :
    MadeJ B w1 (.slice (some ⟨g, 0, none⟩) (ps.length + 1) cap) (ps ++ [p]) := by
  have kp : ∀ l s, LiesP w (fun b => Own B w b ∧ v.ownBlock ≠ some b) l s → LiesP w1 (fun b => Own B w1 b ∧ (Value.slice (some ⟨g, 0, none⟩) (ps.length + 1) cap).ownBlock ≠ some b) l s := fun l s hq =>
    hq.keep (fun b hb hlt => hgrow.block b hlt (fun e => hb.2 e.symm)) (fun b hb hlt => ⟨hb.1.same (hgrow.block b hlt (fun e => hb.2 e.symm)), by
      show some g ≠ some b
      rcases hg with e | e
      · rw [← e]; exact hb.2
      · intro e'; have := Option.some.inj e'; omega⟩)
  refine ⟨by rw [cells17_append]; simpa using hown, fun q hq => ?_, fun q hq => ?_⟩
  · rcases List.mem_append.1 hq with hq | hq
    · exact h.fine q hq
    · rw [List.mem_singleton.1 hq]; exact hf
  · rcases List.mem_append.1 hq with hq | hq
    · exact ⟨kp _ _ (h.kids q hq).1, kp _ _ (h.kids q hq).2.1, kp _ _ (h.kids q hq).2.2⟩
    · rw [List.mem_singleton.1 hq]; exact ⟨kp _ _ hk.1, kp _ _ hk.2.1, kp _ _ hk.2.2⟩
theorem madeJ_lies {B : Nat} {w : World} {v : Value} {ps : List (Jd × (Value × Value × Value))} (h : MadeJ B w v ps) : LiesJ w (ps.map (·.1)) v := by
  have fin : ∀ x ∈ ps.map (·.1), x.fine := fun x hx => by obtain ⟨p, hp, rfl⟩ := List.mem_map.1 hx; exact h.fine p hp
  obtain ⟨-, ⟨rfl, hn⟩ | ⟨g, cap, cur, rfl, hg, hh, hnc, hcm, hsz, htk⟩⟩ := h.own
  · obtain rfl : ps = [] := List.eq_nil_of_length_eq_zero hn
    exact ⟨none, 0, fun _ => (.nilIface, .nilIface, .nilIface), rfl, Nat.le_refl _, by decide, (fun _ h => by cases h), (fun _ h => by cases h), (fun _ h => by cases h)⟩
  · refine ⟨some ⟨g, 0, none⟩, cap, fun i => (ps[i]?.map (·.2)).getD (.nilIface, .nilIface, .nilIface), by simp, by simpa using hnc, hcm, fin, fun i hi => ?_, fun i hi => ?_⟩
    · have hi' : i < ps.length := by simpa using hi
      refine ⟨g, 0, rfl, ?_⟩
      simp only [List.getElem_map, List.getElem?_eq_getElem hi', Option.map_some, Option.getD_some, Nat.zero_add]
      have cellq : ∀ q, q < 17 → w.cell? ⟨g, i * 17 + q, none⟩ = (jcells ps[i])[q]? := fun q hq => by
        rw [h.own.cellAt (i * 17 + q) (by omega)]; exact cells17_get ps i hi' q hq
      exact ⟨cellq 0 (by omega), cellq 1 (by omega), cellq 2 (by omega), cellq 3 (by omega), cellq 4 (by omega), cellq 5 (by omega), cellq 6 (by omega), cellq 7 (by omega), cellq 8 (by omega), cellq 9 (by omega), cellq 10 (by omega), cellq 11 (by omega), cellq 12 (by omega), cellq 13 (by omega), cellq 14 (by omega), cellq 15 (by omega), cellq 16 (by omega)⟩
    · have hi' : i < ps.length := by simpa using hi
      simp only [List.getElem_map, List.getElem?_eq_getElem hi', Option.map_some, Option.getD_some]
      have := h.kids _ (List.getElem_mem hi')
      exact ⟨this.1.lies, this.2.1.lies, this.2.2.lies⟩
theorem newsJ (w : World) (j : Jd) (su sv sa : Value) (T : TypeId) : ∀ k u, (cells17 [(j, (su, sv, sa))])[k]? = some u → (w.alloc (.cells #[.bool j.eq, .int .i64 j.u.k, .int .i64 j.u.i, .int .i64 j.u.j, .int .i64 j.u.n, su, .int .i64 j.v.k, .int .i64 j.v.i, .int .i64 j.v.j, .int .i64 j.v.n, sv, .int .i64 j.a.k, .int .i64 j.a.i, .int .i64 j.a.j, .int .i64 j.a.n, sa, .int .i64 j.i] T)).cell? ((⟨w.heap.size, 0, none⟩ : Addr).add k) = some u :=
  World.news_of_block (alloc_new w _)
theorem oneJ (j : Jd) (su sv sa : Value) (h1 : su.oneCell' = true := by rfl) (h2 : sv.oneCell' = true := by rfl) (h3 : sa.oneCell' = true := by rfl) : ∀ u ∈ cells17 [(j, (su, sv, sa))], u.oneCell' = true := by
  intro u hu
  simp only [cells17, List.mem_cons, List.not_mem_nil, or_false] at hu
  rcases hu with rfl | rfl | rfl | rfl | rfl | rfl | rfl | rfl | rfl | rfl | rfl | rfl | rfl | rfl | rfl | rfl | rfl <;> first | rfl | exact h1 | exact h2 | exact h3
theorem info_judg : (Try.prog.info? 45).map (fun i => (i.zero, i.size, i.bytes)) = some (some (.agg #[.bool false, .int .i64 0, .int .i64 0, .int .i64 0, .int .i64 0, .slice none 0 0, .int .i64 0, .int .i64 0, .int .i64 0, .int .i64 0, .slice none 0 0, .int .i64 0, .int .i64 0, .int .i64 0, .int .i64 0, .slice none 0 0, .int .i64 0]), 17, 184) := by kernel_rfl
theorem jb_keep {w w' : World} {g : Nat} {j : Jd} {su sv sa : Value} (h : Below w.heap.size w w' ∧ JBox w' g j su sv sa) : Below w.heap.size w w' ∧ w'.cell? ⟨g, 0, none⟩ = some (.bool j.eq) ∧ w'.cell? ⟨g, 1, none⟩ = some (.int .i64 j.u.k) ∧ w'.cell? ⟨g, 2, none⟩ = some (.int .i64 j.u.i) ∧ w'.cell? ⟨g, 3, none⟩ = some (.int .i64 j.u.j) ∧ w'.cell? ⟨g, 4, none⟩ = some (.int .i64 j.u.n) ∧ w'.cell? ⟨g, 5, none⟩ = some (su) ∧ w'.cell? ⟨g, 6, none⟩ = some (.int .i64 j.v.k) ∧ w'.cell? ⟨g, 7, none⟩ = some (.int .i64 j.v.i) ∧ w'.cell? ⟨g, 8, none⟩ = some (.int .i64 j.v.j) ∧ w'.cell? ⟨g, 9, none⟩ = some (.int .i64 j.v.n) ∧ w'.cell? ⟨g, 10, none⟩ = some (sv) ∧ w'.cell? ⟨g, 11, none⟩ = some (.int .i64 j.a.k) ∧ w'.cell? ⟨g, 12, none⟩ = some (.int .i64 j.a.i) ∧ w'.cell? ⟨g, 13, none⟩ = some (.int .i64 j.a.j) ∧ w'.cell? ⟨g, 14, none⟩ = some (.int .i64 j.a.n) ∧ w'.cell? ⟨g, 15, none⟩ = some (sa) ∧ w'.cell? ⟨g, 16, none⟩ = some (.int .i64 j.i) := h
theorem jb_call {w w' wn : World} {g : Nat} {j : Jd} {su sv sa : Value} (h : Below w.heap.size w w' ∧ w'.cell? ⟨g, 0, none⟩ = some (.bool j.eq) ∧ w'.cell? ⟨g, 1, none⟩ = some (.int .i64 j.u.k) ∧ w'.cell? ⟨g, 2, none⟩ = some (.int .i64 j.u.i) ∧ w'.cell? ⟨g, 3, none⟩ = some (.int .i64 j.u.j) ∧ w'.cell? ⟨g, 4, none⟩ = some (.int .i64 j.u.n) ∧ w'.cell? ⟨g, 5, none⟩ = some (su) ∧ w'.cell? ⟨g, 6, none⟩ = some (.int .i64 j.v.k) ∧ w'.cell? ⟨g, 7, none⟩ = some (.int .i64 j.v.i) ∧ w'.cell? ⟨g, 8, none⟩ = some (.int .i64 j.v.j) ∧ w'.cell? ⟨g, 9, none⟩ = some (.int .i64 j.v.n) ∧ w'.cell? ⟨g, 10, none⟩ = some (sv) ∧ w'.cell? ⟨g, 11, none⟩ = some (.int .i64 j.a.k) ∧ w'.cell? ⟨g, 12, none⟩ = some (.int .i64 j.a.i) ∧ w'.cell? ⟨g, 13, none⟩ = some (.int .i64 j.a.j) ∧ w'.cell? ⟨g, 14, none⟩ = some (.int .i64 j.a.n) ∧ w'.cell? ⟨g, 15, none⟩ = some (sa) ∧ w'.cell? ⟨g, 16, none⟩ = some (.int .i64 j.i)) (hb : Below w'.heap.size w' wn) : Below w.heap.size w wn ∧ wn.cell? ⟨g, 0, none⟩ = some (.bool j.eq) ∧ wn.cell? ⟨g, 1, none⟩ = some (.int .i64 j.u.k) ∧ wn.cell? ⟨g, 2, none⟩ = some (.int .i64 j.u.i) ∧ wn.cell? ⟨g, 3, none⟩ = some (.int .i64 j.u.j) ∧ wn.cell? ⟨g, 4, none⟩ = some (.int .i64 j.u.n) ∧ wn.cell? ⟨g, 5, none⟩ = some (su) ∧ wn.cell? ⟨g, 6, none⟩ = some (.int .i64 j.v.k) ∧ wn.cell? ⟨g, 7, none⟩ = some (.int .i64 j.v.i) ∧ wn.cell? ⟨g, 8, none⟩ = some (.int .i64 j.v.j) ∧ wn.cell? ⟨g, 9, none⟩ = some (.int .i64 j.v.n) ∧ wn.cell? ⟨g, 10, none⟩ = some (sv) ∧ wn.cell? ⟨g, 11, none⟩ = some (.int .i64 j.a.k) ∧ wn.cell? ⟨g, 12, none⟩ = some (.int .i64 j.a.i) ∧ wn.cell? ⟨g, 13, none⟩ = some (.int .i64 j.a.j) ∧ wn.cell? ⟨g, 14, none⟩ = some (.int .i64 j.a.n) ∧ wn.cell? ⟨g, 15, none⟩ = some (sa) ∧ wn.cell? ⟨g, 16, none⟩ = some (.int .i64 j.i) := ⟨below_call h.1 hb h.1.size, JBox.keep h.2 hb⟩
theorem jb_grow {w w' w4 : World} {g : Nat} {j : Jd} {su sv sa : Value} {row : Option Nat} (h : Below w.heap.size w w' ∧ w'.cell? ⟨g, 0, none⟩ = some (.bool j.eq) ∧ w'.cell? ⟨g, 1, none⟩ = some (.int .i64 j.u.k) ∧ w'.cell? ⟨g, 2, none⟩ = some (.int .i64 j.u.i) ∧ w'.cell? ⟨g, 3, none⟩ = some (.int .i64 j.u.j) ∧ w'.cell? ⟨g, 4, none⟩ = some (.int .i64 j.u.n) ∧ w'.cell? ⟨g, 5, none⟩ = some (su) ∧ w'.cell? ⟨g, 6, none⟩ = some (.int .i64 j.v.k) ∧ w'.cell? ⟨g, 7, none⟩ = some (.int .i64 j.v.i) ∧ w'.cell? ⟨g, 8, none⟩ = some (.int .i64 j.v.j) ∧ w'.cell? ⟨g, 9, none⟩ = some (.int .i64 j.v.n) ∧ w'.cell? ⟨g, 10, none⟩ = some (sv) ∧ w'.cell? ⟨g, 11, none⟩ = some (.int .i64 j.a.k) ∧ w'.cell? ⟨g, 12, none⟩ = some (.int .i64 j.a.i) ∧ w'.cell? ⟨g, 13, none⟩ = some (.int .i64 j.a.j) ∧ w'.cell? ⟨g, 14, none⟩ = some (.int .i64 j.a.n) ∧ w'.cell? ⟨g, 15, none⟩ = some (sa) ∧ w'.cell? ⟨g, 16, none⟩ = some (.int .i64 j.i)) (hg : w'.grownBy w4 row) (hr : ∀ k, row = some k → w.heap.size ≤ k) (hne : row ≠ some g) : Below w.heap.size w w4 ∧ w4.cell? ⟨g, 0, none⟩ = some (.bool j.eq) ∧ w4.cell? ⟨g, 1, none⟩ = some (.int .i64 j.u.k) ∧ w4.cell? ⟨g, 2, none⟩ = some (.int .i64 j.u.i) ∧ w4.cell? ⟨g, 3, none⟩ = some (.int .i64 j.u.j) ∧ w4.cell? ⟨g, 4, none⟩ = some (.int .i64 j.u.n) ∧ w4.cell? ⟨g, 5, none⟩ = some (su) ∧ w4.cell? ⟨g, 6, none⟩ = some (.int .i64 j.v.k) ∧ w4.cell? ⟨g, 7, none⟩ = some (.int .i64 j.v.i) ∧ w4.cell? ⟨g, 8, none⟩ = some (.int .i64 j.v.j) ∧ w4.cell? ⟨g, 9, none⟩ = some (.int .i64 j.v.n) ∧ w4.cell? ⟨g, 10, none⟩ = some (sv) ∧ w4.cell? ⟨g, 11, none⟩ = some (.int .i64 j.a.k) ∧ w4.cell? ⟨g, 12, none⟩ = some (.int .i64 j.a.i) ∧ w4.cell? ⟨g, 13, none⟩ = some (.int .i64 j.a.j) ∧ w4.cell? ⟨g, 14, none⟩ = some (.int .i64 j.a.n) ∧ w4.cell? ⟨g, 15, none⟩ = some (sa) ∧ w4.cell? ⟨g, 16, none⟩ = some (.int .i64 j.i) := by
  have hlt : g < w'.heap.size := World.block_lt_of_cell? _ _ h.2.1
  have hb := hg.block g hlt (fun e => hne e.symm)
  have hc : ∀ q, w4.cell? ⟨g, q, none⟩ = w'.cell? ⟨g, q, none⟩ := fun q => World.cell?_of_block (a := ⟨g, q, none⟩) hb
  obtain ⟨hw, x0, x1, x2, x3, x4, x5, x6, x7, x8, x9, x10, x11, x12, x13, x14, x15, x16⟩ := h
  exact ⟨hw.grown hg hw.size hr, (hc _).trans x0, (hc _).trans x1, (hc _).trans x2, (hc _).trans x3, (hc _).trans x4, (hc _).trans x5, (hc _).trans x6, (hc _).trans x7, (hc _).trans x8, (hc _).trans x9, (hc _).trans x10, (hc _).trans x11, (hc _).trans x12, (hc _).trans x13, (hc _).trans x14, (hc _).trans x15, (hc _).trans x16⟩
theorem jb_drew {w w' : World} {g : Nat} {j : Jd} {su sv sa : Value} (h : Below w.heap.size w w' ∧ JBox w' g j su sv sa) : Below w.heap.size w w'.drew ∧ w'.drew.cell? ⟨g, 0, none⟩ = some (.bool j.eq) ∧ w'.drew.cell? ⟨g, 1, none⟩ = some (.int .i64 j.u.k) ∧ w'.drew.cell? ⟨g, 2, none⟩ = some (.int .i64 j.u.i) ∧ w'.drew.cell? ⟨g, 3, none⟩ = some (.int .i64 j.u.j) ∧ w'.drew.cell? ⟨g, 4, none⟩ = some (.int .i64 j.u.n) ∧ w'.drew.cell? ⟨g, 5, none⟩ = some (su) ∧ w'.drew.cell? ⟨g, 6, none⟩ = some (.int .i64 j.v.k) ∧ w'.drew.cell? ⟨g, 7, none⟩ = some (.int .i64 j.v.i) ∧ w'.drew.cell? ⟨g, 8, none⟩ = some (.int .i64 j.v.j) ∧ w'.drew.cell? ⟨g, 9, none⟩ = some (.int .i64 j.v.n) ∧ w'.drew.cell? ⟨g, 10, none⟩ = some (sv) ∧ w'.drew.cell? ⟨g, 11, none⟩ = some (.int .i64 j.a.k) ∧ w'.drew.cell? ⟨g, 12, none⟩ = some (.int .i64 j.a.i) ∧ w'.drew.cell? ⟨g, 13, none⟩ = some (.int .i64 j.a.j) ∧ w'.drew.cell? ⟨g, 14, none⟩ = some (.int .i64 j.a.n) ∧ w'.drew.cell? ⟨g, 15, none⟩ = some (sa) ∧ w'.drew.cell? ⟨g, 16, none⟩ = some (.int .i64 j.i) := ⟨Below.drew h.1, h.2⟩

def tj0 : Oper := { dst := some 16, op := Go.Op.move (Go.Operand.tmp 3), type := 47, pos := "keep.go:121", after := #[], guard := none }
def tj1 : Oper := { dst := some 17, op := Go.Op.fieldAddr 45 (Go.Operand.tmp 5) 0, type := 0, pos := "keep.go:121", after := #[], guard := none }
def tj2 : Oper := { dst := some 18, op := Go.Op.load 4 (Go.Operand.tmp 17), type := 4, pos := "keep.go:121", after := #[{ on := 1, ground := Go.Ground.data }], guard := none }
def tj3 : Oper := { dst := some 19, op := Go.Op.fieldAddr 45 (Go.Operand.tmp 5) 1, type := 0, pos := "keep.go:121", after := #[], guard := none }
def tj4 : Oper := { dst := some 20, op := Go.Op.load 26 (Go.Operand.tmp 19), type := 26, pos := "keep.go:121", after := #[{ on := 3, ground := Go.Ground.data }], guard := none }
def tj5 : Oper := { dst := some 21, op := Go.Op.call { callee := Go.Callee.value (Go.Operand.func 44), args := #[Go.Operand.tmp 20], argTypes := #[26] }, type := 26, pos := "keep.go:121", after := #[{ on := 4, ground := Go.Ground.data }], guard := none }
def tj6 : Oper := { dst := some 22, op := Go.Op.fieldAddr 45 (Go.Operand.tmp 5) 2, type := 0, pos := "keep.go:121", after := #[], guard := none }
def tj7 : Oper := { dst := some 23, op := Go.Op.load 26 (Go.Operand.tmp 22), type := 26, pos := "keep.go:121", after := #[{ on := 6, ground := Go.Ground.data }], guard := none }
def tj8 : Oper := { dst := some 24, op := Go.Op.call { callee := Go.Callee.value (Go.Operand.func 44), args := #[Go.Operand.tmp 23], argTypes := #[26] }, type := 26, pos := "keep.go:121", after := #[{ on := 7, ground := Go.Ground.data }, { on := 5, ground := Go.Ground.chain }], guard := none }
def tj9 : Oper := { dst := some 25, op := Go.Op.fieldAddr 45 (Go.Operand.tmp 5) 3, type := 0, pos := "keep.go:121", after := #[], guard := none }
def tj10 : Oper := { dst := some 26, op := Go.Op.load 26 (Go.Operand.tmp 25), type := 26, pos := "keep.go:121", after := #[{ on := 9, ground := Go.Ground.data }], guard := none }
def tj11 : Oper := { dst := some 27, op := Go.Op.call { callee := Go.Callee.value (Go.Operand.func 44), args := #[Go.Operand.tmp 26], argTypes := #[26] }, type := 26, pos := "keep.go:121", after := #[{ on := 10, ground := Go.Ground.data }, { on := 8, ground := Go.Ground.chain }], guard := none }
def tj12 : Oper := { dst := some 28, op := Go.Op.fieldAddr 45 (Go.Operand.tmp 5) 4, type := 0, pos := "keep.go:121", after := #[], guard := none }
def tj13 : Oper := { dst := some 29, op := Go.Op.load 3 (Go.Operand.tmp 28), type := 3, pos := "keep.go:121", after := #[{ on := 12, ground := Go.Ground.data }], guard := none }
def tj14 : Oper := { dst := some 30, op := Go.Op.build 45 #[(0, Go.Operand.tmp 18), (1, Go.Operand.tmp 21), (2, Go.Operand.tmp 24), (3, Go.Operand.tmp 27), (4, Go.Operand.tmp 29)], type := 45, pos := "keep.go:121", after := #[{ on := 2, ground := Go.Ground.data }, { on := 5, ground := Go.Ground.data }, { on := 8, ground := Go.Ground.data }, { on := 11, ground := Go.Ground.data }, { on := 13, ground := Go.Ground.data }], guard := none }
def tj15 : Oper := { dst := some 31, op := Go.Op.buildSlice 47 1 #[(0, Go.Operand.tmp 30)], type := 47, pos := "keep.go:121", after := #[{ on := 14, ground := Go.Ground.data }], guard := none }
def tj16 : Oper := { dst := some 32, op := Go.Op.call { callee := Go.Callee.builtin Go.Builtin.append, args := #[Go.Operand.tmp 16, Go.Operand.tmp 31], argTypes := #[47, 47] }, type := 47, pos := "keep.go:121", after := #[{ on := 0, ground := Go.Ground.data }, { on := 15, ground := Go.Ground.data }, { on := 11, ground := Go.Ground.chain }], guard := none }
def tj17 : Oper := { dst := some 3, op := Go.Op.assign (Go.Operand.tmp 32), type := 47, pos := "keep.go:121", after := #[{ on := 16, ground := Go.Ground.data }, { on := 16, ground := Go.Ground.chain }, { on := 0, ground := Go.Ground.phase }, { on := 1, ground := Go.Ground.phase }, { on := 2, ground := Go.Ground.phase }, { on := 3, ground := Go.Ground.phase }, { on := 4, ground := Go.Ground.phase }, { on := 5, ground := Go.Ground.phase }, { on := 6, ground := Go.Ground.phase }, { on := 7, ground := Go.Ground.phase }, { on := 8, ground := Go.Ground.phase }, { on := 9, ground := Go.Ground.phase }, { on := 10, ground := Go.Ground.phase }, { on := 11, ground := Go.Ground.phase }, { on := 12, ground := Go.Ground.phase }, { on := 13, ground := Go.Ground.phase }, { on := 14, ground := Go.Ground.phase }, { on := 15, ground := Go.Ground.phase }, { on := 16, ground := Go.Ground.phase }], guard := none }

theorem jm_fresh {B : Nat} {w w4 : World} {v : Value} {ps : List (Jd × (Value × Value × Value))} {l : List Tm} {s : Value} {N : Nat} (h : MadeJ B w v ps) (hB : B ≤ w.heap.size) (hl : LiesP w4 (Own N w4) l s) (hN : w.heap.size ≤ N) : LiesP w4 (fun b => Own B w4 b ∧ v.ownBlock ≠ some b) l s :=
  hl.keep (fun _ _ _ => rfl) (fun _ hb _ => ⟨hb.from (Nat.le_trans hB hN), madeJ_block h (Nat.le_trans hN hb.1)⟩)
set_option maxRecDepth 20000 in
set_option maxHeartbeats 4000000 in
theorem twinjudgs_any (l : List Jd) (w : World) (s : Value) (hl : LiesJ w l s) (hlen : l.length ≤ 100000) (hsz : ∀ x ∈ l, x.u.size ≤ 1000000 ∧ x.v.size ≤ 1000000 ∧ x.a.size ≤ 1000000) : Calls Try.prog 31 #[s] w fun e w' => ∃ s' : Value, e = .returned s' ∧ LiesJ w' l s' ∧ Below w.heap.size w w' := by
  obtain ⟨a, cap, S, rfl, hc, hmx, hf, hn, hk⟩ := hl.out
  unfold maxLen at hmx
  obtain ⟨i0, hi, hz0, hz1, hz2⟩ := info_parts info_judg
  have HN := Lib.hid hn
  have HK := Lib.hid hk
  have HF := Lib.hid hf
  have HSA := Lib.hid hsz
  have HI := Lib.hid (And.intro hi (And.intro hz0 (And.intro hz1 hz2)))
  clear hn hk hl hf hi hz0 hz1 hz2 hsz
  go_enter Try.func31, Try.ntmps31
  go_wp2
  go_loopw [3, 4] (fun v iv wr => ∃ (k : Nat) (ps : List (Jd × (Value × Value × Value))) (vv : Value), vv = v ∧ k ≤ l.length ∧ iv = .int .i64 k ∧ Hid (ps.map (·.1) = l.take k) ∧ MadeJ w.heap.size wr v ps ∧ Below w.heap.size w wr) (fun _ iv _ => l.length - (intOf iv).toNat)
  case atStart => exact ⟨0, [], _, rfl, Nat.zero_le _, rfl, by simp [Hid], madeJ_nil _ _, Below.refl _ _⟩
  case round =>
    obtain ⟨k, ps, vv, rfl, hk, rfl, hps, hmade, hb⟩ := hrel
    by_cases hlt : k < l.length
    · obtain ⟨b, o, rfl, hx⟩ := HN.out k hlt
      have hx := hx.keep hb
      have hq := HK.out k hlt
      obtain ⟨a0, c0, S0, hS0, -⟩ := hq.1.out
      obtain ⟨a1, c1, S1, hS1, -⟩ := hq.2.1.out
      obtain ⟨a2, c2, S2, hS2, -⟩ := hq.2.2.out
      rw [hS0, hS1, hS2] at hx hq
      have HQ1 := Lib.hid hq.1
      have HQ2 := Lib.hid hq.2.1
      have HQ3 := Lib.hid hq.2.2
      have HM := Lib.hid (List.getElem_mem hlt)
      have HSZ := Lib.hid (HSA.out _ HM.out)
      have hpl : ps.length = k := by have := congrArg List.length hps.out; simp at this; omega
      have HPL := Lib.hid hpl
      obtain ⟨x0, x1, x2, x3, x4, x5, x6, x7, x8, x9, x10, x11, x12, x13, x14, x15, x16⟩ := hx
      clear hS0 hS1 hS2 hq hpl
      go_upto_region 6 with fail
      clear x0 x1 x2 x3 x4 x5 x6 x7 x8 x9 x10 x11 x12 x13 x14 x15 x16
      have hX := jbox_new wr l[k] (.slice a0 l[k].u.kids.length c0) (.slice a1 l[k].v.kids.length c1) (.slice a2 l[k].a.kids.length c2)
      have hbV : Below w.heap.size w (wr.alloc (.cells #[.bool l[k].eq, .int .i64 l[k].u.k, .int .i64 l[k].u.i, .int .i64 l[k].u.j, .int .i64 l[k].u.n, (.slice a0 l[k].u.kids.length c0), .int .i64 l[k].v.k, .int .i64 l[k].v.i, .int .i64 l[k].v.j, .int .i64 l[k].v.n, (.slice a1 l[k].v.kids.length c1), .int .i64 l[k].a.k, .int .i64 l[k].a.i, .int .i64 l[k].a.j, .int .i64 l[k].a.n, (.slice a2 l[k].a.kids.length c2), .int .i64 l[k].i] 45)) := hb.alloc hb.size _
      have hmV : MadeJ w.heap.size (wr.alloc (.cells #[.bool l[k].eq, .int .i64 l[k].u.k, .int .i64 l[k].u.i, .int .i64 l[k].u.j, .int .i64 l[k].u.n, (.slice a0 l[k].u.kids.length c0), .int .i64 l[k].v.k, .int .i64 l[k].v.i, .int .i64 l[k].v.j, .int .i64 l[k].v.n, (.slice a1 l[k].v.kids.length c1), .int .i64 l[k].a.k, .int .i64 l[k].a.i, .int .i64 l[k].a.j, .int .i64 l[k].a.n, (.slice a2 l[k].a.kids.length c2), .int .i64 l[k].i] 45)) vv ps := madeJ_later hmade ((Below.refl _ _).alloc (Nat.le_refl _) _)
      obtain ⟨ge, hge⟩ : ∃ ge, wr.heap.size = ge := ⟨_, rfl⟩
      have HNB := Lib.hid (madeJ_block hmade (b := ge) (by omega))
      rw [hge] at hX ⊢
      clear hb hmade hge
      generalize wr.alloc (.cells #[.bool l[k].eq, .int .i64 l[k].u.k, .int .i64 l[k].u.i, .int .i64 l[k].u.j, .int .i64 l[k].u.n, (.slice a0 l[k].u.kids.length c0), .int .i64 l[k].v.k, .int .i64 l[k].v.i, .int .i64 l[k].v.j, .int .i64 l[k].v.n, (.slice a1 l[k].v.kids.length c1), .int .i64 l[k].a.k, .int .i64 l[k].a.i, .int .i64 l[k].a.j, .int .i64 l[k].a.n, (.slice a2 l[k].a.kids.length c2), .int .i64 l[k].i] 45) = V at hX hbV hmV ⊢
      have hS0 : Below w.heap.size w V ∧ JBox V ge l[k] (.slice a0 l[k].u.kids.length c0) (.slice a1 l[k].v.kids.length c1) (.slice a2 l[k].a.kids.length c2) := ⟨hbV, hX⟩
      have hmx : MadeJ w.heap.size V.drew vv ps := madeJ_later hmV (Below.drew (Below.refl _ _))
      have hkx : w.heap.size ≤ V.drew.heap.size := hbV.size
      obtain ⟨x0, x1, x2, x3, x4, x5, x6, x7, x8, x9, x10, x11, x12, x13, x14, x15, x16⟩ := hX
      refine wp_region_held_drew (S := fun w' => Below w.heap.size w w' ∧ w'.cell? ⟨ge, 0, none⟩ = some (.bool l[k].eq) ∧ w'.cell? ⟨ge, 1, none⟩ = some (.int .i64 l[k].u.k) ∧ w'.cell? ⟨ge, 2, none⟩ = some (.int .i64 l[k].u.i) ∧ w'.cell? ⟨ge, 3, none⟩ = some (.int .i64 l[k].u.j) ∧ w'.cell? ⟨ge, 4, none⟩ = some (.int .i64 l[k].u.n) ∧ w'.cell? ⟨ge, 5, none⟩ = some ((.slice a0 l[k].u.kids.length c0)) ∧ w'.cell? ⟨ge, 6, none⟩ = some (.int .i64 l[k].v.k) ∧ w'.cell? ⟨ge, 7, none⟩ = some (.int .i64 l[k].v.i) ∧ w'.cell? ⟨ge, 8, none⟩ = some (.int .i64 l[k].v.j) ∧ w'.cell? ⟨ge, 9, none⟩ = some (.int .i64 l[k].v.n) ∧ w'.cell? ⟨ge, 10, none⟩ = some ((.slice a1 l[k].v.kids.length c1)) ∧ w'.cell? ⟨ge, 11, none⟩ = some (.int .i64 l[k].a.k) ∧ w'.cell? ⟨ge, 12, none⟩ = some (.int .i64 l[k].a.i) ∧ w'.cell? ⟨ge, 13, none⟩ = some (.int .i64 l[k].a.j) ∧ w'.cell? ⟨ge, 14, none⟩ = some (.int .i64 l[k].a.n) ∧ w'.cell? ⟨ge, 15, none⟩ = some ((.slice a2 l[k].a.kids.length c2)) ∧ w'.cell? ⟨ge, 16, none⟩ = some (.int .i64 l[k].i)) (by kernel_rfl) ?_ (fun hHeld => ?_)
      · (try dsimp only)
        (first | exact hS14 | exact hS13 | exact hS3 | exact hS2 | exact hS1 | exact jb_drew hS0)
      generalize V.drew = wx at hHeld hmx hkx ⊢
      have HMD := Lib.hid hmx
      have HKX := Lib.hid hkx
      clear hbV hmV hS0 hmx hkx x0 x1 x2 x3 x4 x5 x6 x7 x8 x9 x10 x11 x12 x13 x14 x15 x16
      refine take_at 0 16 tj0 (v := ?_) (Or.inl ⟨by rfl, ?_⟩) ?_
      rotate_left 1
      · ((intro w hSw; (try dsimp only at hSw); unfold tj0; go_simp) <;> with_reducible rfl)
      (try simp only [Act.put, List.setIfInBounds_toArray, List.set_cons_zero, List.set_cons_succ])
      refine take_at 1 17 tj1 (v := ?_) (Or.inl ⟨by rfl, ?_⟩) ?_
      rotate_left 1
      · ((intro w hSw; (try dsimp only at hSw); unfold tj1; go_simp) <;> with_reducible rfl)
      (try simp only [Act.put, List.setIfInBounds_toArray, List.set_cons_zero, List.set_cons_succ])
      refine take_at 2 18 tj2 (v := ?_) (Or.inl ⟨by rfl, ?_⟩) ?_
      rotate_left 1
      · ((intro w hSw; (try dsimp only at hSw); unfold tj2; go_simp) <;> with_reducible rfl)
      (try simp only [Act.put, List.setIfInBounds_toArray, List.set_cons_zero, List.set_cons_succ])
      refine take_at 3 19 tj3 (v := ?_) (Or.inl ⟨by rfl, ?_⟩) ?_
      rotate_left 1
      · ((intro w hSw; (try dsimp only at hSw); unfold tj3; go_simp) <;> with_reducible rfl)
      (try simp only [Act.put, List.setIfInBounds_toArray, List.set_cons_zero, List.set_cons_succ])
      refine take_at 4 20 tj4 (v := ?_) (Or.inl ⟨by rfl, ?_⟩) ?_
      rotate_left 1
      · ((intro w hSw; (try dsimp only at hSw); unfold tj4; go_simp) <;> with_reducible rfl)
      (try simp only [Act.put, List.setIfInBounds_toArray, List.set_cons_zero, List.set_cons_succ])
      refine take_at 6 22 tj6 (v := ?_) (Or.inl ⟨by rfl, ?_⟩) ?_
      rotate_left 1
      · ((intro w hSw; (try dsimp only at hSw); unfold tj6; go_simp) <;> with_reducible rfl)
      (try simp only [Act.put, List.setIfInBounds_toArray, List.set_cons_zero, List.set_cons_succ])
      refine take_at 7 23 tj7 (v := ?_) (Or.inl ⟨by rfl, ?_⟩) ?_
      rotate_left 1
      · ((intro w hSw; (try dsimp only at hSw); unfold tj7; go_simp) <;> with_reducible rfl)
      (try simp only [Act.put, List.setIfInBounds_toArray, List.set_cons_zero, List.set_cons_succ])
      refine take_at 9 25 tj9 (v := ?_) (Or.inl ⟨by rfl, ?_⟩) ?_
      rotate_left 1
      · ((intro w hSw; (try dsimp only at hSw); unfold tj9; go_simp) <;> with_reducible rfl)
      (try simp only [Act.put, List.setIfInBounds_toArray, List.set_cons_zero, List.set_cons_succ])
      refine take_at 10 26 tj10 (v := ?_) (Or.inl ⟨by rfl, ?_⟩) ?_
      rotate_left 1
      · ((intro w hSw; (try dsimp only at hSw); unfold tj10; go_simp) <;> with_reducible rfl)
      (try simp only [Act.put, List.setIfInBounds_toArray, List.set_cons_zero, List.set_cons_succ])
      refine take_at 12 28 tj12 (v := ?_) (Or.inl ⟨by rfl, ?_⟩) ?_
      rotate_left 1
      · ((intro w hSw; (try dsimp only at hSw); unfold tj12; go_simp) <;> with_reducible rfl)
      (try simp only [Act.put, List.setIfInBounds_toArray, List.set_cons_zero, List.set_cons_succ])
      refine take_at 13 29 tj13 (v := ?_) (Or.inl ⟨by rfl, ?_⟩) ?_
      rotate_left 1
      · ((intro w hSw; (try dsimp only at hSw); unfold tj13; go_simp) <;> with_reducible rfl)
      (try simp only [Act.put, List.setIfInBounds_toArray, List.set_cons_zero, List.set_cons_succ])
      refine wpAnyH_ready (rs := [5]) (by kernel_rfl) (by simp) ?_
      refine AllReadyH.cons (o := tj5) rfl (fun K hK => ?_) ?_
      · unfold tj5
        go_simp
        (go_at_call 44; (with_reducible refine Calls.mono (twin_any l[k].u _ _ (HQ1.out.keep hHeld.1) HSZ.out.1) ?_); rintro e w1 ⟨s1, rfl, hl1, hb1⟩; obtain ⟨b1, d1, rfl, -, -⟩ := hl1.out; have hS1 := jb_call hHeld hb1; have HT1 := Lib.hid hl1; have HB1 := Lib.hid hb1; clear hl1 hb1 hHeld; (try clear hS0))
        refine hK.out _ _ ?_ (fun hHeld => ?_)
        · (try dsimp only)
          (first | exact hS14 | exact hS13 | exact hS3 | exact hS2 | exact hS1 | exact jb_drew hS0)
        clear hK K
        (try simp only [Act.put, List.setIfInBounds_toArray, List.set_cons_zero, List.set_cons_succ])
        refine wpAnyH_ready (rs := [8]) (by kernel_rfl) (by simp) ?_
        refine AllReadyH.cons (o := tj8) rfl (fun K hK => ?_) ?_
        · unfold tj8
          go_simp
          (go_at_call 44; (with_reducible refine Calls.mono (twin_any l[k].v _ _ (HQ2.out.keep hHeld.1) HSZ.out.2.1) ?_); rintro e w2 ⟨s2, rfl, hl2, hb2⟩; obtain ⟨b2, d2, rfl, -, -⟩ := hl2.out; have hS2 := jb_call hHeld hb2; have HT2 := Lib.hid hl2; have HB2 := Lib.hid hb2; clear hl2 hb2 hHeld; (try clear hS1))
          refine hK.out _ _ ?_ (fun hHeld => ?_)
          · (try dsimp only)
            (first | exact hS14 | exact hS13 | exact hS3 | exact hS2 | exact hS1 | exact jb_drew hS0)
          clear hK K
          (try simp only [Act.put, List.setIfInBounds_toArray, List.set_cons_zero, List.set_cons_succ])
          refine wpAnyH_ready (rs := [11]) (by kernel_rfl) (by simp) ?_
          refine AllReadyH.cons (o := tj11) rfl (fun K hK => ?_) ?_
          · unfold tj11
            go_simp
            (go_at_call 44; (with_reducible refine Calls.mono (twin_any l[k].a _ _ (HQ3.out.keep hHeld.1) HSZ.out.2.2) ?_); rintro e w3 ⟨s3, rfl, hl3, hb3⟩; obtain ⟨b3, d3, rfl, -, -⟩ := hl3.out; have hS3 := jb_call hHeld hb3; have HT3 := Lib.hid hl3; have HB3 := Lib.hid hb3; clear hl3 hb3 hHeld; (try clear hS2))
            refine hK.out _ _ ?_ (fun hHeld => ?_)
            · (try dsimp only)
              (first | exact hS14 | exact hS13 | exact hS3 | exact hS2 | exact hS1 | exact jb_drew hS0)
            clear hK K
            (try simp only [Act.put, List.setIfInBounds_toArray, List.set_cons_zero, List.set_cons_succ])
            refine take_at 14 30 tj14 (v := ?_) (Or.inl ⟨by rfl, ?_⟩) ?_
            rotate_left 1
            · ((intro w hSw; (try dsimp only at hSw); unfold tj14; go_simp) <;> with_reducible rfl)
            (try simp only [Act.put, List.setIfInBounds_toArray, List.set_cons_zero, List.set_cons_succ])
            refine wpAnyH_ready (rs := [15]) (by kernel_rfl) (by simp) ?_
            refine AllReadyH.cons (o := tj15) rfl (fun K hK => ?_) ?_
            · unfold tj15
              go_simp
              (try clear hS3)
              have hS13 := jb_call hHeld ((Below.refl _ _).alloc (Nat.le_refl _) (.cells #[.bool l[k].eq, .int .i64 l[k].u.k, .int .i64 l[k].u.i, .int .i64 l[k].u.j, .int .i64 l[k].u.n, (.slice b1 l[k].u.kids.length d1), .int .i64 l[k].v.k, .int .i64 l[k].v.i, .int .i64 l[k].v.j, .int .i64 l[k].v.n, (.slice b2 l[k].v.kids.length d2), .int .i64 l[k].a.k, .int .i64 l[k].a.i, .int .i64 l[k].a.j, .int .i64 l[k].a.n, (.slice b3 l[k].a.kids.length d3), .int .i64 l[k].i] 45) : Below w3.heap.size w3 (w3.alloc (.cells #[.bool l[k].eq, .int .i64 l[k].u.k, .int .i64 l[k].u.i, .int .i64 l[k].u.j, .int .i64 l[k].u.n, (.slice b1 l[k].u.kids.length d1), .int .i64 l[k].v.k, .int .i64 l[k].v.i, .int .i64 l[k].v.j, .int .i64 l[k].v.n, (.slice b2 l[k].v.kids.length d2), .int .i64 l[k].a.k, .int .i64 l[k].a.i, .int .i64 l[k].a.j, .int .i64 l[k].a.n, (.slice b3 l[k].a.kids.length d3), .int .i64 l[k].i] 45)))
              (try clear hHeld)
              refine hK.out _ _ ?_ (fun hHeld => ?_)
              · (try dsimp only)
                (first | exact hS14 | exact hS13 | exact hS3 | exact hS2 | exact hS1 | exact jb_drew hS0)
              clear hK K
              (try simp only [Act.put, List.setIfInBounds_toArray, List.set_cons_zero, List.set_cons_succ])
              refine wpAnyH_ready (rs := [16]) (by kernel_rfl) (by simp) ?_
              refine AllReadyH.cons (o := tj16) rfl (fun K hK => ?_) ?_
              · unfold tj16
                refine step_append_lies _ rfl _ _ 47 rfl w.heap.size 45 i0 _ 17 184 (by kernel_rfl) HI.out.1 HI.out.2.1 HI.out.2.2.1 HI.out.2.2.2 rfl (by decide) vv ps.length (cells17 ps) rfl (madeJ_later (madeJ_later (madeJ_later (madeJ_later HMD.out HB1.out) HB2.out) HB3.out) ((Below.refl _ _).alloc (Nat.le_refl _) _)).own ⟨w3.heap.size, 0, none⟩ 1 1 (cells17 [(l[k], ((.slice b1 l[k].u.kids.length d1), (.slice b2 l[k].v.kids.length d2), (.slice b3 l[k].a.kids.length d3)))]) rfl rfl (newsJ _ _ _ _ _ _) (oneJ _ _ _ _) (by decide) (by have := HPL.out; unfold maxLen; omega) (by have := HPL.out; omega) (by have := HKX.out; have := HB1.out.size; have := HB2.out.size; have := HB3.out.size; simp; omega) _ rfl ?_
                intro g cap3 w4 hown hgrow hat hlt3
                have hS14 := jb_grow hHeld hgrow (madeJ_above HMD.out) HNB.out
                clear hHeld
                (try clear hS13)
                refine hK.out _ _ ?_ (fun hHeld => ?_)
                · (try dsimp only)
                  (first | exact hS14 | exact hS13 | exact hS3 | exact hS2 | exact hS1 | exact jb_drew hS0)
                clear hK K
                (try simp only [Act.put, List.setIfInBounds_toArray, List.set_cons_zero, List.set_cons_succ])
                refine take_at 17 3 tj17 (v := ?_) (Or.inl ⟨by rfl, ?_⟩) ?_
                rotate_left 1
                · ((intro w hSw; (try dsimp only at hSw); unfold tj17; go_simp) <;> with_reducible rfl)
                (try simp only [Act.put, List.setIfInBounds_toArray, List.set_cons_zero, List.set_cons_succ])
                refine wpAnyH_done (by kernel_rfl) ?_ _
                clear hHeld
                have hat' : vv.ownBlock = some g ∨ g = w3.heap.size + 1 := by simpa using hat
                have hm3 := madeJ_later (madeJ_later (madeJ_later HMD.out HB1.out) HB2.out) HB3.out
                have hm4 := madeJ_later hm3 ((Below.refl _ _).alloc (Nat.le_refl _) (.cells #[.bool l[k].eq, .int .i64 l[k].u.k, .int .i64 l[k].u.i, .int .i64 l[k].u.j, .int .i64 l[k].u.n, (.slice b1 l[k].u.kids.length d1), .int .i64 l[k].v.k, .int .i64 l[k].v.i, .int .i64 l[k].v.j, .int .i64 l[k].v.n, (.slice b2 l[k].v.kids.length d2), .int .i64 l[k].a.k, .int .i64 l[k].a.i, .int .i64 l[k].a.j, .int .i64 l[k].a.n, (.slice b3 l[k].a.kids.length d3), .int .i64 l[k].i] 45) : Below w3.heap.size w3 (w3.alloc (.cells #[.bool l[k].eq, .int .i64 l[k].u.k, .int .i64 l[k].u.i, .int .i64 l[k].u.j, .int .i64 l[k].u.n, (.slice b1 l[k].u.kids.length d1), .int .i64 l[k].v.k, .int .i64 l[k].v.i, .int .i64 l[k].v.j, .int .i64 l[k].v.n, (.slice b2 l[k].v.kids.length d2), .int .i64 l[k].a.k, .int .i64 l[k].a.i, .int .i64 l[k].a.j, .int .i64 l[k].a.n, (.slice b3 l[k].a.kids.length d3), .int .i64 l[k].i] 45)))
                have ha3 : Below w3.heap.size w3 (w3.alloc (.cells #[.bool l[k].eq, .int .i64 l[k].u.k, .int .i64 l[k].u.i, .int .i64 l[k].u.j, .int .i64 l[k].u.n, (.slice b1 l[k].u.kids.length d1), .int .i64 l[k].v.k, .int .i64 l[k].v.i, .int .i64 l[k].v.j, .int .i64 l[k].v.n, (.slice b2 l[k].v.kids.length d2), .int .i64 l[k].a.k, .int .i64 l[k].a.i, .int .i64 l[k].a.j, .int .i64 l[k].a.n, (.slice b3 l[k].a.kids.length d3), .int .i64 l[k].i] 45)) := (Below.refl _ _).alloc (Nat.le_refl _) _
                have hk1 := jm_fresh HMD.out HKX.out (HT1.out.later (HB2.out.trans (Below.mono HB3.out HB2.out.size) |> fun h => h.trans (Below.mono ha3 (by have := HB2.out.size; have := HB3.out.size; omega)))) (Nat.le_refl _)
                have hk2 := jm_fresh HMD.out HKX.out (HT2.out.later (HB3.out.trans (Below.mono ha3 HB3.out.size))) HB1.out.size
                have hk3 := jm_fresh HMD.out HKX.out (HT3.out.later ha3) (by have := HB1.out.size; have := HB2.out.size; omega)
                have hMN := madeJ_step hm4 (HF.out _ HM.out) ⟨hk1, hk2, hk3⟩ hown hgrow (by simpa using hat)
                have hkE := hS14.1
                go_wp2_with fail
                go_roundw
                case rel => exact ⟨k + 1, ps ++ [(l[k], ((.slice b1 l[k].u.kids.length d1), (.slice b2 l[k].v.kids.length d2), (.slice b3 l[k].a.kids.length d3)))], _, rfl, hlt, by go_num, by have := hps.out; simp only [Hid]; rw [List.map_append, this, List.map_cons, List.map_nil, List.take_append_getElem hlt], hMN, hkE⟩
                case measure => simp [intOf]; omega
              exact AllReadyH.nil
            exact AllReadyH.nil
          exact AllReadyH.nil
        exact AllReadyH.nil
      exact AllReadyH.nil
    · obtain rfl : k = l.length := by omega
      have hps' : ps.map (·.1) = l := by rw [hps.out, List.take_length]
      go_wp2_with fail
      go_ret
      refine ⟨_, rfl, ?_, hb⟩
      rw [← hps']; exact madeJ_lies hmade
end Go.Proofs.Ytjhdcjjoignioaa

/-! transhipkeep.GreatJudgs. -/
namespace Go.Proofs.Ytjhdcjjoignioaa
open Go.RowKit

def smallJ (M : Nat) (j : Jd) : Prop := ((j.u.size : Int) ≤ M ∧ j.u.deep ≤ 201) ∧ ((j.v.size : Int) ≤ M ∧ j.v.deep ≤ 201) ∧ ((j.a.size : Int) ≤ M ∧ j.a.deep ≤ 201)
def NotGreatJ (l : List Jd) (M : Nat) (w : World) (e : Ending) (w' : World) : Prop :=
  ∃ g : Bool, e = .returned (.bool g) ∧ (g = false → l.length ≤ M ∧ ∀ j ∈ l, smallJ M j) ∧ Below w.heap.size w w'

set_option maxRecDepth 20000 in
set_option maxHeartbeats 4000000 in
theorem greatjudgs_any (l : List Jd) (M : Nat) (w : World) (ls : Value) (hl : LiesJ w l ls) (hM : M ≤ 10000) :
    Calls Try.prog 27 #[ls, .int .i64 M] w (NotGreatJ l M w) := by
  obtain ⟨a, cap, S, rfl, hc, hm, -, hn, hk⟩ := hl.out
  unfold maxLen at hm
  have HN := Lib.hid hn
  have HK := Lib.hid hk
  clear hl hn hk
  go_enter Try.func27, Try.ntmps27
  by_cases hlen : M < l.length
  · have e1 : decide ((M : Int) < (l.length : Int)) = true := decide_eq_true (by omega)
    have e2 : decide (M < l.length) = true := decide_eq_true hlen
    go_wp2
    go_ret
    exact ⟨true, rfl, (fun h => by cases h), Below.refl _ _⟩
  have e1 : decide ((M : Int) < (l.length : Int)) = false := decide_eq_false (by omega)
  have e2 : decide (M < l.length) = false := decide_eq_false hlen
  go_wp2
  go_loopw [5, 6] (fun nv iv wr => ∃ (k : Nat) (n : Int), k ≤ l.length ∧ iv = .int .i64 k ∧ nv = .int .i64 n ∧ 0 ≤ n ∧ n ≤ M + 1 ∧ Hid (n ≤ M → ∀ j (h : j < l.length), j < k → smallJ M l[j]) ∧ Below w.heap.size w wr) (fun _ i _ => l.length - (intOf i).toNat)
  case atStart => exact ⟨0, 0, Nat.zero_le _, rfl, rfl, by omega, by omega, fun _ j _ h => by omega, Below.refl _ _⟩
  case round =>
    obtain ⟨k, n, hk, rfl, rfl, hn1, hn2, hrel, hb⟩ := hrel
    by_cases hlt : k < l.length
    · by_cases hnm : n ≤ M
      · obtain ⟨b, o, rfl, hx⟩ := HN.out k hlt
        have hx := hx.keep hb
        have hq := (HK.out k hlt).keep hb
        obtain ⟨a0, c0, S0, hS0, -⟩ := hq.1.out
        obtain ⟨a1, c1, S1, hS1, -⟩ := hq.2.1.out
        obtain ⟨a2, c2, S2, hS2, -⟩ := hq.2.2.out
        rw [hS0, hS1, hS2] at hx hq
        have HQ := Lib.hid hq
        have HX := Lib.hid hx
        have HB := Lib.hid hb
        obtain ⟨x0, x1, x2, x3, x4, x5, x6, x7, x8, x9, x10, x11, x12, x13, x14, x15, x16⟩ := hx
        clear hS0 hS1 hS2 hq hb
        go_wp2_with fail
        refine (weigh_any l[k].u _ _ _ _ HQ.out.1 (by omega) (by omega) (by omega) (by omega)).mono ?_
        rintro e w1 ⟨r1, rfl, h11, h12, h13, hb1⟩
        have HR1 := Lib.hid h13
        have HB1 := Lib.hid hb1
        clear x0 x1 x2 x3 x4 x5 x6 x7 x8 x9 x10 x11 x12 x13 x14 x15 x16
        obtain ⟨x0, x1, x2, x3, x4, x5, x6, x7, x8, x9, x10, x11, x12, x13, x14, x15, x16⟩ := HX.out.keep hb1
        clear h13 hb1
        by_cases hm1 : n + r1 ≤ M
        · have f1 : decide (n + r1 ≤ (M : Int)) = true := decide_eq_true hm1
          go_wp2_with fail
          refine (weigh_any l[k].v _ _ _ _ (HQ.out.2.1.keep HB1.out) (by omega) (by omega) (by omega) (by omega)).mono ?_
          rintro e w2 ⟨r2, rfl, h21, h22, h23, hb2⟩
          have HR2 := Lib.hid h23
          have HB2 := Lib.hid (below_call HB1.out hb2 HB1.out.size)
          clear x0 x1 x2 x3 x4 x5 x6 x7 x8 x9 x10 x11 x12 x13 x14 x15 x16
          obtain ⟨x0, x1, x2, x3, x4, x5, x6, x7, x8, x9, x10, x11, x12, x13, x14, x15, x16⟩ := HX.out.keep HB2.out
          clear h23 hb2
          by_cases hm2 : n + r1 + r2 ≤ M
          · have f2 : decide (n + r1 + r2 ≤ (M : Int)) = true := decide_eq_true hm2
            go_wp2_with fail
            refine (weigh_any l[k].a _ _ _ _ (HQ.out.2.2.keep HB2.out) (by omega) (by omega) (by omega) (by omega)).mono ?_
            rintro e w3 ⟨r3, rfl, h31, h32, h33, hb3⟩
            have HR3 := Lib.hid h33
            have HB3 := Lib.hid (HB.out.trans (Below.mono (below_call HB2.out hb3 HB2.out.size) HB.out.size))
            clear h33 hb3 x0 x1 x2 x3 x4 x5 x6 x7 x8 x9 x10 x11 x12 x13 x14 x15 x16
            go_wp2_with fail
            go_roundw
            case rel =>
              refine ⟨k + 1, n + r1 + r2 + r3, by omega, by go_num, rfl, by omega, by omega, ?_, HB3.out⟩
              intro hle j hj hjk
              by_cases e : j = k
              · subst e
                have g1 := HR1.out (by omega)
                have g2 := HR2.out (by omega)
                have g3 := HR3.out (by omega)
                exact ⟨⟨by omega, by omega⟩, ⟨by omega, by omega⟩, ⟨by omega, by omega⟩⟩
              · exact hrel.out hnm j hj (by omega)
            case measure => simp [intOf]; omega
          · have f2 : decide (n + r1 + r2 ≤ (M : Int)) = false := decide_eq_false hm2
            have HB3 := Lib.hid (HB.out.trans (Below.mono HB2.out HB.out.size))
            clear x0 x1 x2 x3 x4 x5 x6 x7 x8 x9 x10 x11 x12 x13 x14 x15 x16
            go_wp2_with fail
            go_roundw
            case rel => exact ⟨k + 1, n + r1 + r2, by omega, by go_num, rfl, by omega, by omega, fun h => absurd h (by omega), HB3.out⟩
            case measure => simp [intOf]; omega
        · have f1 : decide (n + r1 ≤ (M : Int)) = false := decide_eq_false hm1
          have HB3 := Lib.hid (HB.out.trans (Below.mono HB1.out HB.out.size))
          clear x0 x1 x2 x3 x4 x5 x6 x7 x8 x9 x10 x11 x12 x13 x14 x15 x16
          go_wp2_with fail
          go_roundw
          case rel => exact ⟨k + 1, n + r1, by omega, by go_num, rfl, by omega, by omega, fun h => absurd h (by omega), HB3.out⟩
          case measure => simp [intOf]; omega
      · go_wp2
        go_ret
        exact ⟨_, rfl, fun h => absurd h (by simp <;> omega), hb⟩
    · have : k = l.length := by omega
      subst this
      go_wp2
      all_goals go_ret
      all_goals
        refine ⟨_, rfl, fun h => ⟨by omega, fun u hu => ?_⟩, hb⟩
        have hle : n ≤ M := by simpa using h
        obtain ⟨j, hj, rfl⟩ := List.getElem_of_mem hu
        exact hrel.out hle j hj hj
end Go.Proofs.Ytjhdcjjoignioaa

/-! A struct that lies whole in a block is loaded, in a drawn region: one small fact instead of a fact for each cell. -/
namespace Go.Proofs.Ytjhdcjjoignioaa
open Go.RowKit

theorem yields_row {P : Program} {ops : Array Oper} {S : World → Prop} {oi : Oper} {a : Act} (g : Nat) (ty t : TypeId) (x : Operand) (cs : Array Value) (fr : Nat × Nat) (d : TypeDesc) (hw : Region.wanted oi (yielded ops a.tmps) = true) (ho : oi.op = .load ty x)
    (hx : a.eval x = .pointer (some ⟨g, 0, none⟩)) (hS : ∀ w, S w → w.heap[g]? = some (.cells cs t fr))
    (hu : P.underlying ty = some d) (hd : (match d with | .struct _ | .array _ _ => true | _ => false) = true) (hi : (P.info? ty).map (·.size) = some cs.size) : YieldsIf P ops S oi (.agg cs) a := by
  refine .inl ⟨hw, fun w h => ?_⟩
  have hr := run_loadVar_row (P := P) w g t ty cs fr d (hS w h) hu hd hi
  unfold execOp
  simp only [ho, hx, Instr.loadAt, Instr.sureAddr, Sem.run_bind, Sem.run_pure, Result.andThen_ok, hr]
/-- The same in a region of one order, under a guard or none. -/
theorem wpList_row_g {P : Program} {ops : Array Oper} {rest : List Oper} {o : Oper} {a : Act} {w : World} {Q : Exit → Act → World → Prop} (g : Nat) (ty t : TypeId) (x : Operand) (cs : Array Value) (fr : Nat × Nat) (d : TypeDesc) (hw : Region.wanted o (yielded ops a.tmps) = true) (ho : o.op = .load ty x)
    (hx : a.eval x = .pointer (some ⟨g, 0, none⟩)) (hg : w.heap[g]? = some (.cells cs t fr))
    (hu : P.underlying ty = some d) (hd : (match d with | .struct _ | .array _ _ => true | _ => false) = true) (hi : (P.info? ty).map (·.size) = some cs.size)
    (h : wpList P ops Q rest (a.put o.dst (.agg cs)) w) : wpList P ops Q (o :: rest) a w := by
  unfold wpList
  rw [if_pos hw]
  exact .inl (wp_load_row ty x ho g hx t cs fr d hg hu hd hi h)
theorem under_judg : ∃ d, Try.prog.underlying 45 = some d ∧ (match d with | .struct _ | .array _ _ => true | _ => false) = true := by
  have h : (Try.prog.underlying 45).map (fun d => match d with | .struct _ | .array _ _ => true | _ => false) = some true := by kernel_rfl
  cases e : Try.prog.underlying 45 with
  | none => rw [e] at h; cases h
  | some d => rw [e] at h; exact ⟨d, rfl, Option.some.inj h⟩
theorem size_judg : (Try.prog.info? 45).map (·.size) = some 17 := by kernel_rfl
end Go.Proofs.Ytjhdcjjoignioaa
