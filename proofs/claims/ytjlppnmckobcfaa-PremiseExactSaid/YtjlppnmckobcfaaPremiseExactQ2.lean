/-
  Facts and contracts that the proof of PremiseExact uses.
-/
import Derived.Test.YtjlppnmckobcfaaRows
import Derived.WalkKit
import Derived.Lib.Hide
import Derived.KernelRfl
import Derived.Deep.RegionWith
import Derived.Deep.RegionHeld3
import Derived.Deep.AppendLies
import Derived.Laws.Rows
import Derived.Laws.IdiomCopy
import Derived.Deep.Slices
import Derived.Deep.QuietTactic
import Derived.BigQuiet
import Derived.Lib.QuietBelow
import Derived.StillTailTactics
import Derived.IntWalk
import Derived.OwnWalk
import Derived.OrdersHeld
import Derived.Deep.DeepCutAuto
import Derived.Deep.RegionLaw
import Derived.Deep.LoopGhost
import Derived.Deep.MidRow
import Derived.Laws.Tables
import Derived.Laws.CopyOwn
import Derived.Laws.CopyRow
import Derived.Deep.RegionHeld
import Derived.ProofKit
import Derived.OpenShut
import Derived.Carry
import Derived.ChangeSlices
import Derived.JoinedOf
import Derived.Test.YtjlppnmckobcfaaPremiseExactQ1
namespace Go.Proofs.Ytjlppnmckobcfaa
open Go.RowKit

def sameE (a b : En) : Bool := (a.i == b.i) && sameB a.a b.a
def ctxB : List En → List En → Bool
  | [], [] => true
  | a :: l, b :: m => sameE a b && ctxB l m
  | [], _ :: _ => false
  | _ :: _, [] => false
theorem sameE_iff (a b : En) : sameE a b = true ↔ a = b := by
  unfold sameE
  rw [Bool.and_eq_true, beq_iff_eq, sameB_iff]
  cases a; cases b; simp; exact and_comm
theorem ctxB_iff : ∀ (l m : List En), ctxB l m = true ↔ l = m
  | [], [] => by simp [ctxB]
  | a :: l, b :: m => by rw [ctxB, Bool.and_eq_true, sameE_iff, ctxB_iff l m]; simp
  | [], _ :: _ => by simp [ctxB]
  | _ :: _, [] => by simp [ctxB]
theorem ctxB_self (l : List En) : ctxB l l = true := (ctxB_iff l l).2 rfl
theorem ctxB_take : ∀ (l m : List En) (k : Nat) (h : k < l.length) (h' : k < m.length), ctxB (l.take (k + 1)) (m.take (k + 1)) = (ctxB (l.take k) (m.take k) && sameE l[k] m[k])
  | x :: r, y :: s, 0, _, _ => by simp [ctxB]
  | x :: r, y :: s, k + 1, h, h' => by
    simp only [List.take_succ_cons, ctxB, List.getElem_cons_succ]
    rw [ctxB_take r s k (by simpa using h) (by simpa using h'), Bool.and_assoc]
theorem ctxB_of {l m : List En} {k : Nat} (h : k < l.length) (h' : k < m.length) (hs : sameE l[k] m[k] = false) : ctxB l m = false := by
  cases hc : ctxB l m with
  | false => rfl
  | true =>
    have := (ctxB_iff l m).1 hc
    subst this
    rw [(sameE_iff _ _).2 rfl] at hs; cases hs
theorem ctxB_ne {l m : List En} (h : l.length ≠ m.length) : ctxB l m = false := by
  cases hc : ctxB l m with
  | false => rfl
  | true => exact absurd (congrArg List.length ((ctxB_iff l m).1 hc)) h

theorem en_keep2 {v w' : World} {b o b2 o2 : Nat} {e e2 : En} {s s2 : Value} (h : Kept v w') (hx : ENode v b o e s) (hy : ENode v b2 o2 e2 s2) : Kept v w' ∧ w'.cell? ⟨b, o, none⟩ = some (.int .i64 e.a.k) ∧ w'.cell? ⟨b, o + 1, none⟩ = some (.int .i64 e.a.i) ∧ w'.cell? ⟨b, o + 2, none⟩ = some (.int .i64 e.a.j) ∧ w'.cell? ⟨b, o + 3, none⟩ = some (.int .i64 e.a.n) ∧ w'.cell? ⟨b, o + 4, none⟩ = some (s) ∧ w'.cell? ⟨b, o + 5, none⟩ = some (.int .i64 e.i) ∧ w'.cell? ⟨b2, o2, none⟩ = some (.int .i64 e2.a.k) ∧ w'.cell? ⟨b2, o2 + 1, none⟩ = some (.int .i64 e2.a.i) ∧ w'.cell? ⟨b2, o2 + 2, none⟩ = some (.int .i64 e2.a.j) ∧ w'.cell? ⟨b2, o2 + 3, none⟩ = some (.int .i64 e2.a.n) ∧ w'.cell? ⟨b2, o2 + 4, none⟩ = some (s2) ∧ w'.cell? ⟨b2, o2 + 5, none⟩ = some (.int .i64 e2.i) := by
  obtain ⟨x0, x1, x2, x3, x4, x5⟩ := hx.below h hx.lt
  obtain ⟨y0, y1, y2, y3, y4, y5⟩ := hy.below h hy.lt
  exact ⟨h, x0, x1, x2, x3, x4, x5, y0, y1, y2, y3, y4, y5⟩
def kc0 : Oper := { dst := some 17, op := Go.Op.move (Go.Operand.tmp 0), type := 22, pos := "keep.go:56", after := #[], guard := none }
def kc1 : Oper := { dst := some 18, op := Go.Op.move (Go.Operand.tmp 5), type := 3, pos := "keep.go:56", after := #[], guard := none }
def kc2 : Oper := { dst := some 19, op := Go.Op.indexAddr 22 (Go.Operand.tmp 17) (Go.Operand.tmp 18), type := 0, pos := "keep.go:56", after := #[{ on := 0, ground := Go.Ground.data }, { on := 1, ground := Go.Ground.data }], guard := none }
def kc3 : Oper := { dst := some 20, op := Go.Op.fieldAddr 52 (Go.Operand.tmp 19) 1, type := 0, pos := "keep.go:56", after := #[{ on := 2, ground := Go.Ground.data }], guard := none }
def kc4 : Oper := { dst := some 21, op := Go.Op.load 3 (Go.Operand.tmp 20), type := 3, pos := "keep.go:56", after := #[{ on := 3, ground := Go.Ground.data }], guard := none }
def kc5 : Oper := { dst := some 22, op := Go.Op.move (Go.Operand.tmp 1), type := 22, pos := "keep.go:56", after := #[], guard := none }
def kc6 : Oper := { dst := some 23, op := Go.Op.move (Go.Operand.tmp 5), type := 3, pos := "keep.go:56", after := #[], guard := none }
def kc7 : Oper := { dst := some 24, op := Go.Op.indexAddr 22 (Go.Operand.tmp 22) (Go.Operand.tmp 23), type := 0, pos := "keep.go:56", after := #[{ on := 5, ground := Go.Ground.data }, { on := 6, ground := Go.Ground.data }], guard := none }
def kc8 : Oper := { dst := some 25, op := Go.Op.fieldAddr 52 (Go.Operand.tmp 24) 1, type := 0, pos := "keep.go:56", after := #[{ on := 7, ground := Go.Ground.data }], guard := none }
def kc9 : Oper := { dst := some 26, op := Go.Op.load 3 (Go.Operand.tmp 25), type := 3, pos := "keep.go:56", after := #[{ on := 8, ground := Go.Ground.data }], guard := none }
def kc10 : Oper := { dst := some 27, op := Go.Op.binOp Go.BinOp.neq 3 (Go.Operand.tmp 21) (Go.Operand.tmp 26) 3, type := 4, pos := "keep.go:56", after := #[{ on := 4, ground := Go.Ground.data }, { on := 9, ground := Go.Ground.data }], guard := none }
def kc11 : Oper := { dst := some 28, op := Go.Op.move (Go.Operand.tmp 27), type := 4, pos := "keep.go:56", after := #[{ on := 10, ground := Go.Ground.data }], guard := none }
def kc12 : Oper := { dst := some 29, op := Go.Op.move (Go.Operand.tmp 0), type := 22, pos := "keep.go:56", after := #[{ on := 11, ground := Go.Ground.guard }], guard := some (11, false) }
def kc13 : Oper := { dst := some 30, op := Go.Op.move (Go.Operand.tmp 5), type := 3, pos := "keep.go:56", after := #[{ on := 11, ground := Go.Ground.guard }], guard := some (11, false) }
def kc14 : Oper := { dst := some 31, op := Go.Op.indexAddr 22 (Go.Operand.tmp 29) (Go.Operand.tmp 30), type := 0, pos := "keep.go:56", after := #[{ on := 12, ground := Go.Ground.data }, { on := 13, ground := Go.Ground.data }, { on := 11, ground := Go.Ground.guard }], guard := some (11, false) }
def kc15 : Oper := { dst := some 32, op := Go.Op.fieldAddr 52 (Go.Operand.tmp 31) 0, type := 0, pos := "keep.go:56", after := #[{ on := 14, ground := Go.Ground.data }, { on := 11, ground := Go.Ground.guard }], guard := some (11, false) }
def kc16 : Oper := { dst := some 33, op := Go.Op.load 32 (Go.Operand.tmp 32), type := 32, pos := "keep.go:56", after := #[{ on := 15, ground := Go.Ground.data }, { on := 11, ground := Go.Ground.guard }], guard := some (11, false) }
def kc17 : Oper := { dst := some 34, op := Go.Op.move (Go.Operand.tmp 1), type := 22, pos := "keep.go:56", after := #[{ on := 11, ground := Go.Ground.guard }], guard := some (11, false) }
def kc18 : Oper := { dst := some 35, op := Go.Op.move (Go.Operand.tmp 5), type := 3, pos := "keep.go:56", after := #[{ on := 11, ground := Go.Ground.guard }], guard := some (11, false) }
def kc19 : Oper := { dst := some 36, op := Go.Op.indexAddr 22 (Go.Operand.tmp 34) (Go.Operand.tmp 35), type := 0, pos := "keep.go:56", after := #[{ on := 17, ground := Go.Ground.data }, { on := 18, ground := Go.Ground.data }, { on := 11, ground := Go.Ground.guard }], guard := some (11, false) }
def kc20 : Oper := { dst := some 37, op := Go.Op.fieldAddr 52 (Go.Operand.tmp 36) 0, type := 0, pos := "keep.go:56", after := #[{ on := 19, ground := Go.Ground.data }, { on := 11, ground := Go.Ground.guard }], guard := some (11, false) }
def kc21 : Oper := { dst := some 38, op := Go.Op.load 32 (Go.Operand.tmp 37), type := 32, pos := "keep.go:56", after := #[{ on := 20, ground := Go.Ground.data }, { on := 11, ground := Go.Ground.guard }], guard := some (11, false) }
def kc22 : Oper := { dst := some 39, op := Go.Op.call { callee := Go.Callee.value (Go.Operand.func 18), args := #[Go.Operand.tmp 33, Go.Operand.tmp 38], argTypes := #[32, 32] }, type := 4, pos := "keep.go:56", after := #[{ on := 16, ground := Go.Ground.data }, { on := 21, ground := Go.Ground.data }, { on := 11, ground := Go.Ground.chain }, { on := 11, ground := Go.Ground.guard }], guard := some (11, false) }
def kc23 : Oper := { dst := some 40, op := Go.Op.unOp Go.UnOp.not 4 (Go.Operand.tmp 39), type := 4, pos := "keep.go:56", after := #[{ on := 22, ground := Go.Ground.data }, { on := 11, ground := Go.Ground.guard }], guard := some (11, false) }
def kc24 : Oper := { dst := some 41, op := Go.Op.pick (Go.Operand.tmp 28) (Go.Operand.const (Go.Value.bool true)) (Go.Operand.tmp 40), type := 4, pos := "keep.go:56", after := #[{ on := 11, ground := Go.Ground.data }, { on := 23, ground := Go.Ground.data }], guard := none }
set_option maxRecDepth 20000 in
set_option maxHeartbeats 4000000 in
theorem keepctx_any (l m : List En) (w : World) (s r : Value) (hl : LiesE w l s) (hm : LiesE w m r) : Calls Try.prog 10 #[s, r] w fun e w' => e = .returned (.bool (ctxB l m)) ∧ Below w.heap.size w w' := by
  obtain ⟨a, cap, S, rfl, hc, hmx, -, hn, hk⟩ := hl.out
  obtain ⟨a2, cap2, S2, rfl, hc2, hmx2, -, hn2, hk2⟩ := hm.out
  unfold maxLen at hmx hmx2
  have HN := Lib.hid hn
  have HK := Lib.hid hk
  have HN2 := Lib.hid hn2
  have HK2 := Lib.hid hk2
  clear hn hk hn2 hk2 hl hm
  by_cases hlen : l.length = m.length
  rotate_left
  · have h1 : ((l.length : Int) == (m.length : Int)) = false := by simp; omega
    have h2 : ((l.length : Int) != (m.length : Int)) = true := by simp; omega
    have HS := Lib.hid (ctxB_ne hlen)
    clear hlen
    go_enter Try.func10, Try.ntmps10
    go_wp2
    go_ret
    exact ⟨ret_bool HS.out.symm, Below.refl _ _⟩
  have h1 : ((l.length : Int) == (m.length : Int)) = true := by simp; omega
  have h2 : ((l.length : Int) != (m.length : Int)) = false := by simp; omega
  have HL := Lib.hid hlen
  clear hlen
  go_enter Try.func10, Try.ntmps10
  go_wp2
  go_loopw [5] (fun iv wr => ∃ k : Nat, k ≤ l.length ∧ iv = .int .i64 k ∧ Hid (ctxB (l.take k) (m.take k) = true) ∧ Below w.heap.size w wr) (fun iv _ => l.length - (intOf iv).toNat)
  case atStart => exact ⟨0, Nat.zero_le _, rfl, by simp [Hid, ctxB], Below.refl _ _⟩
  case round =>
    obtain ⟨k, hk, rfl, hgood, hb⟩ := hrel
    by_cases hlt : k < l.length
    · have hlt2 : k < m.length := by have := HL.out; omega
      obtain ⟨b, o, rfl, hx⟩ := HN.out k hlt
      obtain ⟨b2, o2, rfl, hx2⟩ := HN2.out k hlt2
      have hx := hx.below hb hx.lt
      have hx2 := hx2.below hb hx2.lt
      have hq := (HK.out k hlt).keep hb
      have hq2 := (HK2.out k hlt2).keep hb
      obtain ⟨a', cap', S', hS, -⟩ := hq.out
      obtain ⟨a2', cap2', S2', hS2, -⟩ := hq2.out
      rw [hS] at hx hq
      rw [hS2] at hx2 hq2
      have HQ := Lib.hid hq
      have HQ2 := Lib.hid hq2
      have HX := Lib.hid hx
      have HY := Lib.hid hx2
      have HT := Lib.hid (ctxB_take l m k hlt hlt2)
      have HO := Lib.hid (fun h => ctxB_of (l := l) (m := m) hlt hlt2 h)
      have hk0 := kept_start wr
      obtain ⟨x0, x1, x2, x3, x4, x5⟩ := hx
      obtain ⟨y0, y1, y2, y3, y4, y5⟩ := hx2
      clear hS hS2 hq hq2
      by_cases hi : l[k].i = m[k].i
      · have i1 : (l[k].i == m[k].i) = true := by simpa using hi
        have i2 : (l[k].i != m[k].i) = false := by simpa using hi
        cases hs : sameB l[k].a m[k].a with
        | false =>
          have HSB := Lib.hid hs
          have HF := Lib.hid (HO.out (by unfold sameE; rw [hs, Bool.and_false]))
          clear hs hi
          go_wp2_with fail
          refine wp_region_held_drew (S := fun w' => Kept wr w' ∧ w'.cell? ⟨b, o + k * 6, none⟩ = some (.int .i64 l[k].a.k) ∧ w'.cell? ⟨b, o + k * 6 + 1, none⟩ = some (.int .i64 l[k].a.i) ∧ w'.cell? ⟨b, o + k * 6 + 2, none⟩ = some (.int .i64 l[k].a.j) ∧ w'.cell? ⟨b, o + k * 6 + 3, none⟩ = some (.int .i64 l[k].a.n) ∧ w'.cell? ⟨b, o + k * 6 + 4, none⟩ = some ((.slice a' l[k].a.kids.length cap')) ∧ w'.cell? ⟨b, o + k * 6 + 5, none⟩ = some (.int .i64 l[k].i) ∧ w'.cell? ⟨b2, o2 + k * 6, none⟩ = some (.int .i64 m[k].a.k) ∧ w'.cell? ⟨b2, o2 + k * 6 + 1, none⟩ = some (.int .i64 m[k].a.i) ∧ w'.cell? ⟨b2, o2 + k * 6 + 2, none⟩ = some (.int .i64 m[k].a.j) ∧ w'.cell? ⟨b2, o2 + k * 6 + 3, none⟩ = some (.int .i64 m[k].a.n) ∧ w'.cell? ⟨b2, o2 + k * 6 + 4, none⟩ = some ((.slice a2' m[k].a.kids.length cap2')) ∧ w'.cell? ⟨b2, o2 + k * 6 + 5, none⟩ = some (.int .i64 m[k].i)) (by kernel_rfl) ?_ (fun hHeld => ?_)
          · (try dsimp only)
            (((with_reducible refine en_keep2 ?_ HX.out HY.out); repeat (first | with_reducible assumption | with_reducible exact hk0 | with_reducible refine kept_drew ?_)))
          refine take_at 0 17 kc0 (v := ?_) (Or.inl ⟨by rfl, ?_⟩) ?_
          rotate_left 1
          · ((intro w hSw; (try dsimp only at hSw); unfold kc0; go_simp) <;> with_reducible rfl)
          (try simp only [Act.put, List.setIfInBounds_toArray, List.set_cons_zero, List.set_cons_succ])
          refine take_at 1 18 kc1 (v := ?_) (Or.inl ⟨by rfl, ?_⟩) ?_
          rotate_left 1
          · ((intro w hSw; (try dsimp only at hSw); unfold kc1; go_simp) <;> with_reducible rfl)
          (try simp only [Act.put, List.setIfInBounds_toArray, List.set_cons_zero, List.set_cons_succ])
          refine take_at 2 19 kc2 (v := ?_) (Or.inl ⟨by rfl, ?_⟩) ?_
          rotate_left 1
          · ((intro w hSw; (try dsimp only at hSw); unfold kc2; go_simp) <;> with_reducible rfl)
          (try simp only [Act.put, List.setIfInBounds_toArray, List.set_cons_zero, List.set_cons_succ])
          refine take_at 3 20 kc3 (v := ?_) (Or.inl ⟨by rfl, ?_⟩) ?_
          rotate_left 1
          · ((intro w hSw; (try dsimp only at hSw); unfold kc3; go_simp) <;> with_reducible rfl)
          (try simp only [Act.put, List.setIfInBounds_toArray, List.set_cons_zero, List.set_cons_succ])
          refine take_at 4 21 kc4 (v := ?_) (Or.inl ⟨by rfl, ?_⟩) ?_
          rotate_left 1
          · ((intro w hSw; (try dsimp only at hSw); unfold kc4; go_simp) <;> with_reducible rfl)
          (try simp only [Act.put, List.setIfInBounds_toArray, List.set_cons_zero, List.set_cons_succ])
          refine take_at 5 22 kc5 (v := ?_) (Or.inl ⟨by rfl, ?_⟩) ?_
          rotate_left 1
          · ((intro w hSw; (try dsimp only at hSw); unfold kc5; go_simp) <;> with_reducible rfl)
          (try simp only [Act.put, List.setIfInBounds_toArray, List.set_cons_zero, List.set_cons_succ])
          refine take_at 6 23 kc6 (v := ?_) (Or.inl ⟨by rfl, ?_⟩) ?_
          rotate_left 1
          · ((intro w hSw; (try dsimp only at hSw); unfold kc6; go_simp) <;> with_reducible rfl)
          (try simp only [Act.put, List.setIfInBounds_toArray, List.set_cons_zero, List.set_cons_succ])
          refine take_at 7 24 kc7 (v := ?_) (Or.inl ⟨by rfl, ?_⟩) ?_
          rotate_left 1
          · ((intro w hSw; (try dsimp only at hSw); unfold kc7; go_simp) <;> with_reducible rfl)
          (try simp only [Act.put, List.setIfInBounds_toArray, List.set_cons_zero, List.set_cons_succ])
          refine take_at 8 25 kc8 (v := ?_) (Or.inl ⟨by rfl, ?_⟩) ?_
          rotate_left 1
          · ((intro w hSw; (try dsimp only at hSw); unfold kc8; go_simp) <;> with_reducible rfl)
          (try simp only [Act.put, List.setIfInBounds_toArray, List.set_cons_zero, List.set_cons_succ])
          refine take_at 9 26 kc9 (v := ?_) (Or.inl ⟨by rfl, ?_⟩) ?_
          rotate_left 1
          · ((intro w hSw; (try dsimp only at hSw); unfold kc9; go_simp) <;> with_reducible rfl)
          (try simp only [Act.put, List.setIfInBounds_toArray, List.set_cons_zero, List.set_cons_succ])
          refine take_at 10 27 kc10 (v := ?_) (Or.inl ⟨by rfl, ?_⟩) ?_
          rotate_left 1
          · ((intro w hSw; (try dsimp only at hSw); unfold kc10; go_simp) <;> with_reducible rfl)
          (try simp only [Act.put, List.setIfInBounds_toArray, List.set_cons_zero, List.set_cons_succ])
          refine take_at 11 28 kc11 (v := ?_) (Or.inl ⟨by rfl, ?_⟩) ?_
          rotate_left 1
          · ((intro w hSw; (try dsimp only at hSw); unfold kc11; go_simp) <;> with_reducible rfl)
          (try simp only [Act.put, List.setIfInBounds_toArray, List.set_cons_zero, List.set_cons_succ])
          refine take_at 12 29 kc12 (v := ?_) (Or.inl ⟨by rfl, ?_⟩) ?_
          rotate_left 1
          · ((intro w hSw; (try dsimp only at hSw); unfold kc12; go_simp) <;> with_reducible rfl)
          (try simp only [Act.put, List.setIfInBounds_toArray, List.set_cons_zero, List.set_cons_succ])
          refine take_at 13 30 kc13 (v := ?_) (Or.inl ⟨by rfl, ?_⟩) ?_
          rotate_left 1
          · ((intro w hSw; (try dsimp only at hSw); unfold kc13; go_simp) <;> with_reducible rfl)
          (try simp only [Act.put, List.setIfInBounds_toArray, List.set_cons_zero, List.set_cons_succ])
          refine take_at 14 31 kc14 (v := ?_) (Or.inl ⟨by rfl, ?_⟩) ?_
          rotate_left 1
          · ((intro w hSw; (try dsimp only at hSw); unfold kc14; go_simp) <;> with_reducible rfl)
          (try simp only [Act.put, List.setIfInBounds_toArray, List.set_cons_zero, List.set_cons_succ])
          refine take_at 15 32 kc15 (v := ?_) (Or.inl ⟨by rfl, ?_⟩) ?_
          rotate_left 1
          · ((intro w hSw; (try dsimp only at hSw); unfold kc15; go_simp) <;> with_reducible rfl)
          (try simp only [Act.put, List.setIfInBounds_toArray, List.set_cons_zero, List.set_cons_succ])
          refine take_at 16 33 kc16 (v := ?_) (Or.inl ⟨by rfl, ?_⟩) ?_
          rotate_left 1
          · ((intro w hSw; (try dsimp only at hSw); unfold kc16; go_simp) <;> with_reducible rfl)
          (try simp only [Act.put, List.setIfInBounds_toArray, List.set_cons_zero, List.set_cons_succ])
          refine take_at 17 34 kc17 (v := ?_) (Or.inl ⟨by rfl, ?_⟩) ?_
          rotate_left 1
          · ((intro w hSw; (try dsimp only at hSw); unfold kc17; go_simp) <;> with_reducible rfl)
          (try simp only [Act.put, List.setIfInBounds_toArray, List.set_cons_zero, List.set_cons_succ])
          refine take_at 18 35 kc18 (v := ?_) (Or.inl ⟨by rfl, ?_⟩) ?_
          rotate_left 1
          · ((intro w hSw; (try dsimp only at hSw); unfold kc18; go_simp) <;> with_reducible rfl)
          (try simp only [Act.put, List.setIfInBounds_toArray, List.set_cons_zero, List.set_cons_succ])
          refine take_at 19 36 kc19 (v := ?_) (Or.inl ⟨by rfl, ?_⟩) ?_
          rotate_left 1
          · ((intro w hSw; (try dsimp only at hSw); unfold kc19; go_simp) <;> with_reducible rfl)
          (try simp only [Act.put, List.setIfInBounds_toArray, List.set_cons_zero, List.set_cons_succ])
          refine take_at 20 37 kc20 (v := ?_) (Or.inl ⟨by rfl, ?_⟩) ?_
          rotate_left 1
          · ((intro w hSw; (try dsimp only at hSw); unfold kc20; go_simp) <;> with_reducible rfl)
          (try simp only [Act.put, List.setIfInBounds_toArray, List.set_cons_zero, List.set_cons_succ])
          refine take_at 21 38 kc21 (v := ?_) (Or.inl ⟨by rfl, ?_⟩) ?_
          rotate_left 1
          · ((intro w hSw; (try dsimp only at hSw); unfold kc21; go_simp) <;> with_reducible rfl)
          (try simp only [Act.put, List.setIfInBounds_toArray, List.set_cons_zero, List.set_cons_succ])
          refine wpAnyH_ready (rs := [22]) (by kernel_rfl) (by simp) ?_
          refine AllReadyH.cons (o := kc22) rfl (fun K hK => ?_) ?_
          · unfold kc22
            (try dsimp only [En.fine])
            go_simp
            (go_at_call 18; have hS := hHeld.1; refine (keepsame_any l[k].a m[k].a _ _ _ (kept_lies hS HQ.out) (kept_lies hS HQ2.out)).mono ?_; rw [HSB.out]; rintro e wn ⟨rfl, hbn⟩; have hh := kept_call hS hbn; clear hbn hS hHeld)
            refine hK.out _ _ ?_ (fun hHeld => ?_)
            · (try dsimp only)
              (((with_reducible refine en_keep2 ?_ HX.out HY.out); repeat (first | with_reducible assumption | with_reducible exact hk0 | with_reducible refine kept_drew ?_)))
            clear hK K
            (try simp only [Act.put, List.setIfInBounds_toArray, List.set_cons_zero, List.set_cons_succ])
            refine take_at 23 40 kc23 (v := ?_) (Or.inl ⟨by rfl, ?_⟩) ?_
            rotate_left 1
            · ((intro w hSw; (try dsimp only at hSw); unfold kc23; go_simp) <;> with_reducible rfl)
            (try simp only [Act.put, List.setIfInBounds_toArray, List.set_cons_zero, List.set_cons_succ])
            refine take_at 24 41 kc24 (v := ?_) (Or.inl ⟨by rfl, ?_⟩) ?_
            rotate_left 1
            · ((intro w hSw; (try dsimp only at hSw); unfold kc24; go_simp) <;> with_reducible rfl)
            (try simp only [Act.put, List.setIfInBounds_toArray, List.set_cons_zero, List.set_cons_succ])
            refine wpAnyH_done (by kernel_rfl) ?_ _
            have hkE := hHeld.1
            clear hHeld
            go_wp2_with fail
            go_ret
            exact ⟨ret_bool HF.out.symm, hb.trans (Below.mono hkE hb.size)⟩
          exact AllReadyH.nil
        | true =>
          have HSB := Lib.hid hs
          have HS := Lib.hid (show sameE l[k] m[k] = true by unfold sameE; rw [hs, i1]; rfl)
          clear hs hi
          go_wp2_with fail
          refine wp_region_held_drew (S := fun w' => Kept wr w' ∧ w'.cell? ⟨b, o + k * 6, none⟩ = some (.int .i64 l[k].a.k) ∧ w'.cell? ⟨b, o + k * 6 + 1, none⟩ = some (.int .i64 l[k].a.i) ∧ w'.cell? ⟨b, o + k * 6 + 2, none⟩ = some (.int .i64 l[k].a.j) ∧ w'.cell? ⟨b, o + k * 6 + 3, none⟩ = some (.int .i64 l[k].a.n) ∧ w'.cell? ⟨b, o + k * 6 + 4, none⟩ = some ((.slice a' l[k].a.kids.length cap')) ∧ w'.cell? ⟨b, o + k * 6 + 5, none⟩ = some (.int .i64 l[k].i) ∧ w'.cell? ⟨b2, o2 + k * 6, none⟩ = some (.int .i64 m[k].a.k) ∧ w'.cell? ⟨b2, o2 + k * 6 + 1, none⟩ = some (.int .i64 m[k].a.i) ∧ w'.cell? ⟨b2, o2 + k * 6 + 2, none⟩ = some (.int .i64 m[k].a.j) ∧ w'.cell? ⟨b2, o2 + k * 6 + 3, none⟩ = some (.int .i64 m[k].a.n) ∧ w'.cell? ⟨b2, o2 + k * 6 + 4, none⟩ = some ((.slice a2' m[k].a.kids.length cap2')) ∧ w'.cell? ⟨b2, o2 + k * 6 + 5, none⟩ = some (.int .i64 m[k].i)) (by kernel_rfl) ?_ (fun hHeld => ?_)
          · (try dsimp only)
            (((with_reducible refine en_keep2 ?_ HX.out HY.out); repeat (first | with_reducible assumption | with_reducible exact hk0 | with_reducible refine kept_drew ?_)))
          refine take_at 0 17 kc0 (v := ?_) (Or.inl ⟨by rfl, ?_⟩) ?_
          rotate_left 1
          · ((intro w hSw; (try dsimp only at hSw); unfold kc0; go_simp) <;> with_reducible rfl)
          (try simp only [Act.put, List.setIfInBounds_toArray, List.set_cons_zero, List.set_cons_succ])
          refine take_at 1 18 kc1 (v := ?_) (Or.inl ⟨by rfl, ?_⟩) ?_
          rotate_left 1
          · ((intro w hSw; (try dsimp only at hSw); unfold kc1; go_simp) <;> with_reducible rfl)
          (try simp only [Act.put, List.setIfInBounds_toArray, List.set_cons_zero, List.set_cons_succ])
          refine take_at 2 19 kc2 (v := ?_) (Or.inl ⟨by rfl, ?_⟩) ?_
          rotate_left 1
          · ((intro w hSw; (try dsimp only at hSw); unfold kc2; go_simp) <;> with_reducible rfl)
          (try simp only [Act.put, List.setIfInBounds_toArray, List.set_cons_zero, List.set_cons_succ])
          refine take_at 3 20 kc3 (v := ?_) (Or.inl ⟨by rfl, ?_⟩) ?_
          rotate_left 1
          · ((intro w hSw; (try dsimp only at hSw); unfold kc3; go_simp) <;> with_reducible rfl)
          (try simp only [Act.put, List.setIfInBounds_toArray, List.set_cons_zero, List.set_cons_succ])
          refine take_at 4 21 kc4 (v := ?_) (Or.inl ⟨by rfl, ?_⟩) ?_
          rotate_left 1
          · ((intro w hSw; (try dsimp only at hSw); unfold kc4; go_simp) <;> with_reducible rfl)
          (try simp only [Act.put, List.setIfInBounds_toArray, List.set_cons_zero, List.set_cons_succ])
          refine take_at 5 22 kc5 (v := ?_) (Or.inl ⟨by rfl, ?_⟩) ?_
          rotate_left 1
          · ((intro w hSw; (try dsimp only at hSw); unfold kc5; go_simp) <;> with_reducible rfl)
          (try simp only [Act.put, List.setIfInBounds_toArray, List.set_cons_zero, List.set_cons_succ])
          refine take_at 6 23 kc6 (v := ?_) (Or.inl ⟨by rfl, ?_⟩) ?_
          rotate_left 1
          · ((intro w hSw; (try dsimp only at hSw); unfold kc6; go_simp) <;> with_reducible rfl)
          (try simp only [Act.put, List.setIfInBounds_toArray, List.set_cons_zero, List.set_cons_succ])
          refine take_at 7 24 kc7 (v := ?_) (Or.inl ⟨by rfl, ?_⟩) ?_
          rotate_left 1
          · ((intro w hSw; (try dsimp only at hSw); unfold kc7; go_simp) <;> with_reducible rfl)
          (try simp only [Act.put, List.setIfInBounds_toArray, List.set_cons_zero, List.set_cons_succ])
          refine take_at 8 25 kc8 (v := ?_) (Or.inl ⟨by rfl, ?_⟩) ?_
          rotate_left 1
          · ((intro w hSw; (try dsimp only at hSw); unfold kc8; go_simp) <;> with_reducible rfl)
          (try simp only [Act.put, List.setIfInBounds_toArray, List.set_cons_zero, List.set_cons_succ])
          refine take_at 9 26 kc9 (v := ?_) (Or.inl ⟨by rfl, ?_⟩) ?_
          rotate_left 1
          · ((intro w hSw; (try dsimp only at hSw); unfold kc9; go_simp) <;> with_reducible rfl)
          (try simp only [Act.put, List.setIfInBounds_toArray, List.set_cons_zero, List.set_cons_succ])
          refine take_at 10 27 kc10 (v := ?_) (Or.inl ⟨by rfl, ?_⟩) ?_
          rotate_left 1
          · ((intro w hSw; (try dsimp only at hSw); unfold kc10; go_simp) <;> with_reducible rfl)
          (try simp only [Act.put, List.setIfInBounds_toArray, List.set_cons_zero, List.set_cons_succ])
          refine take_at 11 28 kc11 (v := ?_) (Or.inl ⟨by rfl, ?_⟩) ?_
          rotate_left 1
          · ((intro w hSw; (try dsimp only at hSw); unfold kc11; go_simp) <;> with_reducible rfl)
          (try simp only [Act.put, List.setIfInBounds_toArray, List.set_cons_zero, List.set_cons_succ])
          refine take_at 12 29 kc12 (v := ?_) (Or.inl ⟨by rfl, ?_⟩) ?_
          rotate_left 1
          · ((intro w hSw; (try dsimp only at hSw); unfold kc12; go_simp) <;> with_reducible rfl)
          (try simp only [Act.put, List.setIfInBounds_toArray, List.set_cons_zero, List.set_cons_succ])
          refine take_at 13 30 kc13 (v := ?_) (Or.inl ⟨by rfl, ?_⟩) ?_
          rotate_left 1
          · ((intro w hSw; (try dsimp only at hSw); unfold kc13; go_simp) <;> with_reducible rfl)
          (try simp only [Act.put, List.setIfInBounds_toArray, List.set_cons_zero, List.set_cons_succ])
          refine take_at 14 31 kc14 (v := ?_) (Or.inl ⟨by rfl, ?_⟩) ?_
          rotate_left 1
          · ((intro w hSw; (try dsimp only at hSw); unfold kc14; go_simp) <;> with_reducible rfl)
          (try simp only [Act.put, List.setIfInBounds_toArray, List.set_cons_zero, List.set_cons_succ])
          refine take_at 15 32 kc15 (v := ?_) (Or.inl ⟨by rfl, ?_⟩) ?_
          rotate_left 1
          · ((intro w hSw; (try dsimp only at hSw); unfold kc15; go_simp) <;> with_reducible rfl)
          (try simp only [Act.put, List.setIfInBounds_toArray, List.set_cons_zero, List.set_cons_succ])
          refine take_at 16 33 kc16 (v := ?_) (Or.inl ⟨by rfl, ?_⟩) ?_
          rotate_left 1
          · ((intro w hSw; (try dsimp only at hSw); unfold kc16; go_simp) <;> with_reducible rfl)
          (try simp only [Act.put, List.setIfInBounds_toArray, List.set_cons_zero, List.set_cons_succ])
          refine take_at 17 34 kc17 (v := ?_) (Or.inl ⟨by rfl, ?_⟩) ?_
          rotate_left 1
          · ((intro w hSw; (try dsimp only at hSw); unfold kc17; go_simp) <;> with_reducible rfl)
          (try simp only [Act.put, List.setIfInBounds_toArray, List.set_cons_zero, List.set_cons_succ])
          refine take_at 18 35 kc18 (v := ?_) (Or.inl ⟨by rfl, ?_⟩) ?_
          rotate_left 1
          · ((intro w hSw; (try dsimp only at hSw); unfold kc18; go_simp) <;> with_reducible rfl)
          (try simp only [Act.put, List.setIfInBounds_toArray, List.set_cons_zero, List.set_cons_succ])
          refine take_at 19 36 kc19 (v := ?_) (Or.inl ⟨by rfl, ?_⟩) ?_
          rotate_left 1
          · ((intro w hSw; (try dsimp only at hSw); unfold kc19; go_simp) <;> with_reducible rfl)
          (try simp only [Act.put, List.setIfInBounds_toArray, List.set_cons_zero, List.set_cons_succ])
          refine take_at 20 37 kc20 (v := ?_) (Or.inl ⟨by rfl, ?_⟩) ?_
          rotate_left 1
          · ((intro w hSw; (try dsimp only at hSw); unfold kc20; go_simp) <;> with_reducible rfl)
          (try simp only [Act.put, List.setIfInBounds_toArray, List.set_cons_zero, List.set_cons_succ])
          refine take_at 21 38 kc21 (v := ?_) (Or.inl ⟨by rfl, ?_⟩) ?_
          rotate_left 1
          · ((intro w hSw; (try dsimp only at hSw); unfold kc21; go_simp) <;> with_reducible rfl)
          (try simp only [Act.put, List.setIfInBounds_toArray, List.set_cons_zero, List.set_cons_succ])
          refine wpAnyH_ready (rs := [22]) (by kernel_rfl) (by simp) ?_
          refine AllReadyH.cons (o := kc22) rfl (fun K hK => ?_) ?_
          · unfold kc22
            (try dsimp only [En.fine])
            go_simp
            (go_at_call 18; have hS := hHeld.1; refine (keepsame_any l[k].a m[k].a _ _ _ (kept_lies hS HQ.out) (kept_lies hS HQ2.out)).mono ?_; rw [HSB.out]; rintro e wn ⟨rfl, hbn⟩; have hh := kept_call hS hbn; clear hbn hS hHeld)
            refine hK.out _ _ ?_ (fun hHeld => ?_)
            · (try dsimp only)
              (((with_reducible refine en_keep2 ?_ HX.out HY.out); repeat (first | with_reducible assumption | with_reducible exact hk0 | with_reducible refine kept_drew ?_)))
            clear hK K
            (try simp only [Act.put, List.setIfInBounds_toArray, List.set_cons_zero, List.set_cons_succ])
            refine take_at 23 40 kc23 (v := ?_) (Or.inl ⟨by rfl, ?_⟩) ?_
            rotate_left 1
            · ((intro w hSw; (try dsimp only at hSw); unfold kc23; go_simp) <;> with_reducible rfl)
            (try simp only [Act.put, List.setIfInBounds_toArray, List.set_cons_zero, List.set_cons_succ])
            refine take_at 24 41 kc24 (v := ?_) (Or.inl ⟨by rfl, ?_⟩) ?_
            rotate_left 1
            · ((intro w hSw; (try dsimp only at hSw); unfold kc24; go_simp) <;> with_reducible rfl)
            (try simp only [Act.put, List.setIfInBounds_toArray, List.set_cons_zero, List.set_cons_succ])
            refine wpAnyH_done (by kernel_rfl) ?_ _
            have hkE := hHeld.1
            clear hHeld
            go_wp2_with fail
            go_roundw
            case rel => exact ⟨k + 1, by omega, by go_num, by show _ = true; rw [HT.out, hgood.out, HS.out]; rfl, hb.trans (Below.mono hkE hb.size)⟩
            case measure => simp [intOf]; omega
          exact AllReadyH.nil
      · have i1 : (l[k].i == m[k].i) = false := by simpa using hi
        have i2 : (l[k].i != m[k].i) = true := by simpa using hi
        have HF := Lib.hid (HO.out (by unfold sameE; rw [i1, Bool.false_and]))
        clear hi
        go_wp2_with fail
        refine wp_region_held_drew (S := fun w' => Kept wr w' ∧ w'.cell? ⟨b, o + k * 6, none⟩ = some (.int .i64 l[k].a.k) ∧ w'.cell? ⟨b, o + k * 6 + 1, none⟩ = some (.int .i64 l[k].a.i) ∧ w'.cell? ⟨b, o + k * 6 + 2, none⟩ = some (.int .i64 l[k].a.j) ∧ w'.cell? ⟨b, o + k * 6 + 3, none⟩ = some (.int .i64 l[k].a.n) ∧ w'.cell? ⟨b, o + k * 6 + 4, none⟩ = some ((.slice a' l[k].a.kids.length cap')) ∧ w'.cell? ⟨b, o + k * 6 + 5, none⟩ = some (.int .i64 l[k].i) ∧ w'.cell? ⟨b2, o2 + k * 6, none⟩ = some (.int .i64 m[k].a.k) ∧ w'.cell? ⟨b2, o2 + k * 6 + 1, none⟩ = some (.int .i64 m[k].a.i) ∧ w'.cell? ⟨b2, o2 + k * 6 + 2, none⟩ = some (.int .i64 m[k].a.j) ∧ w'.cell? ⟨b2, o2 + k * 6 + 3, none⟩ = some (.int .i64 m[k].a.n) ∧ w'.cell? ⟨b2, o2 + k * 6 + 4, none⟩ = some ((.slice a2' m[k].a.kids.length cap2')) ∧ w'.cell? ⟨b2, o2 + k * 6 + 5, none⟩ = some (.int .i64 m[k].i)) (by kernel_rfl) ?_ (fun hHeld => ?_)
        · (try dsimp only)
          (((with_reducible refine en_keep2 ?_ HX.out HY.out); repeat (first | with_reducible assumption | with_reducible exact hk0 | with_reducible refine kept_drew ?_)))
        refine take_at 0 17 kc0 (v := ?_) (Or.inl ⟨by rfl, ?_⟩) ?_
        rotate_left 1
        · ((intro w hSw; (try dsimp only at hSw); unfold kc0; go_simp) <;> with_reducible rfl)
        (try simp only [Act.put, List.setIfInBounds_toArray, List.set_cons_zero, List.set_cons_succ])
        refine take_at 1 18 kc1 (v := ?_) (Or.inl ⟨by rfl, ?_⟩) ?_
        rotate_left 1
        · ((intro w hSw; (try dsimp only at hSw); unfold kc1; go_simp) <;> with_reducible rfl)
        (try simp only [Act.put, List.setIfInBounds_toArray, List.set_cons_zero, List.set_cons_succ])
        refine take_at 2 19 kc2 (v := ?_) (Or.inl ⟨by rfl, ?_⟩) ?_
        rotate_left 1
        · ((intro w hSw; (try dsimp only at hSw); unfold kc2; go_simp) <;> with_reducible rfl)
        (try simp only [Act.put, List.setIfInBounds_toArray, List.set_cons_zero, List.set_cons_succ])
        refine take_at 3 20 kc3 (v := ?_) (Or.inl ⟨by rfl, ?_⟩) ?_
        rotate_left 1
        · ((intro w hSw; (try dsimp only at hSw); unfold kc3; go_simp) <;> with_reducible rfl)
        (try simp only [Act.put, List.setIfInBounds_toArray, List.set_cons_zero, List.set_cons_succ])
        refine take_at 4 21 kc4 (v := ?_) (Or.inl ⟨by rfl, ?_⟩) ?_
        rotate_left 1
        · ((intro w hSw; (try dsimp only at hSw); unfold kc4; go_simp) <;> with_reducible rfl)
        (try simp only [Act.put, List.setIfInBounds_toArray, List.set_cons_zero, List.set_cons_succ])
        refine take_at 5 22 kc5 (v := ?_) (Or.inl ⟨by rfl, ?_⟩) ?_
        rotate_left 1
        · ((intro w hSw; (try dsimp only at hSw); unfold kc5; go_simp) <;> with_reducible rfl)
        (try simp only [Act.put, List.setIfInBounds_toArray, List.set_cons_zero, List.set_cons_succ])
        refine take_at 6 23 kc6 (v := ?_) (Or.inl ⟨by rfl, ?_⟩) ?_
        rotate_left 1
        · ((intro w hSw; (try dsimp only at hSw); unfold kc6; go_simp) <;> with_reducible rfl)
        (try simp only [Act.put, List.setIfInBounds_toArray, List.set_cons_zero, List.set_cons_succ])
        refine take_at 7 24 kc7 (v := ?_) (Or.inl ⟨by rfl, ?_⟩) ?_
        rotate_left 1
        · ((intro w hSw; (try dsimp only at hSw); unfold kc7; go_simp) <;> with_reducible rfl)
        (try simp only [Act.put, List.setIfInBounds_toArray, List.set_cons_zero, List.set_cons_succ])
        refine take_at 8 25 kc8 (v := ?_) (Or.inl ⟨by rfl, ?_⟩) ?_
        rotate_left 1
        · ((intro w hSw; (try dsimp only at hSw); unfold kc8; go_simp) <;> with_reducible rfl)
        (try simp only [Act.put, List.setIfInBounds_toArray, List.set_cons_zero, List.set_cons_succ])
        refine take_at 9 26 kc9 (v := ?_) (Or.inl ⟨by rfl, ?_⟩) ?_
        rotate_left 1
        · ((intro w hSw; (try dsimp only at hSw); unfold kc9; go_simp) <;> with_reducible rfl)
        (try simp only [Act.put, List.setIfInBounds_toArray, List.set_cons_zero, List.set_cons_succ])
        refine take_at 10 27 kc10 (v := ?_) (Or.inl ⟨by rfl, ?_⟩) ?_
        rotate_left 1
        · ((intro w hSw; (try dsimp only at hSw); unfold kc10; go_simp) <;> with_reducible rfl)
        (try simp only [Act.put, List.setIfInBounds_toArray, List.set_cons_zero, List.set_cons_succ])
        refine take_at 11 28 kc11 (v := ?_) (Or.inl ⟨by rfl, ?_⟩) ?_
        rotate_left 1
        · ((intro w hSw; (try dsimp only at hSw); unfold kc11; go_simp) <;> with_reducible rfl)
        (try simp only [Act.put, List.setIfInBounds_toArray, List.set_cons_zero, List.set_cons_succ])
        refine take_at 12 29 kc12 (v := undef) (Or.inr ⟨by rfl, rfl⟩) ?_
        (try simp only [Act.put, List.setIfInBounds_toArray, List.set_cons_zero, List.set_cons_succ])
        refine take_at 13 30 kc13 (v := undef) (Or.inr ⟨by rfl, rfl⟩) ?_
        (try simp only [Act.put, List.setIfInBounds_toArray, List.set_cons_zero, List.set_cons_succ])
        refine take_at 14 31 kc14 (v := undef) (Or.inr ⟨by rfl, rfl⟩) ?_
        (try simp only [Act.put, List.setIfInBounds_toArray, List.set_cons_zero, List.set_cons_succ])
        refine take_at 15 32 kc15 (v := undef) (Or.inr ⟨by rfl, rfl⟩) ?_
        (try simp only [Act.put, List.setIfInBounds_toArray, List.set_cons_zero, List.set_cons_succ])
        refine take_at 16 33 kc16 (v := undef) (Or.inr ⟨by rfl, rfl⟩) ?_
        (try simp only [Act.put, List.setIfInBounds_toArray, List.set_cons_zero, List.set_cons_succ])
        refine take_at 17 34 kc17 (v := undef) (Or.inr ⟨by rfl, rfl⟩) ?_
        (try simp only [Act.put, List.setIfInBounds_toArray, List.set_cons_zero, List.set_cons_succ])
        refine take_at 18 35 kc18 (v := undef) (Or.inr ⟨by rfl, rfl⟩) ?_
        (try simp only [Act.put, List.setIfInBounds_toArray, List.set_cons_zero, List.set_cons_succ])
        refine take_at 19 36 kc19 (v := undef) (Or.inr ⟨by rfl, rfl⟩) ?_
        (try simp only [Act.put, List.setIfInBounds_toArray, List.set_cons_zero, List.set_cons_succ])
        refine take_at 20 37 kc20 (v := undef) (Or.inr ⟨by rfl, rfl⟩) ?_
        (try simp only [Act.put, List.setIfInBounds_toArray, List.set_cons_zero, List.set_cons_succ])
        refine take_at 21 38 kc21 (v := undef) (Or.inr ⟨by rfl, rfl⟩) ?_
        (try simp only [Act.put, List.setIfInBounds_toArray, List.set_cons_zero, List.set_cons_succ])
        refine take_at 22 39 kc22 (v := undef) (Or.inr ⟨by rfl, rfl⟩) ?_
        (try simp only [Act.put, List.setIfInBounds_toArray, List.set_cons_zero, List.set_cons_succ])
        refine take_at 23 40 kc23 (v := undef) (Or.inr ⟨by rfl, rfl⟩) ?_
        (try simp only [Act.put, List.setIfInBounds_toArray, List.set_cons_zero, List.set_cons_succ])
        refine take_at 24 41 kc24 (v := ?_) (Or.inl ⟨by rfl, ?_⟩) ?_
        rotate_left 1
        · ((intro w hSw; (try dsimp only at hSw); unfold kc24; go_simp) <;> with_reducible rfl)
        (try simp only [Act.put, List.setIfInBounds_toArray, List.set_cons_zero, List.set_cons_succ])
        refine wpAnyH_done (by kernel_rfl) ?_ _
        have hkE := hHeld.1
        clear hHeld
        go_wp2_with fail
        go_ret
        exact ⟨ret_bool HF.out.symm, hb.trans (Below.mono hkE hb.size)⟩
    · have : k = l.length := by omega
      subst this
      go_wp2
      go_ret
      exact ⟨ret_bool (by have hg := hgood.out; rw [List.take_length, HL.out, List.take_length] at hg; exact hg.symm), hb⟩
end Go.Proofs.Ytjlppnmckobcfaa

namespace Go.Proofs.Ytjlppnmckobcfaa
open Go.RowKit

/-- A judgment. -/
structure Jd where
  eq : Bool
  u : Tm
  v : Tm
  a : Tm
  i : Int
def Jd.fine (j : Jd) : Prop := j.u.fine ∧ j.v.fine ∧ j.a.fine ∧ I64 j.i
/-- A judgment by value. -/
abbrev jv (j : Jd) (su sv sa : Value) : Value := .agg #[.bool j.eq, .int .i64 j.u.k, .int .i64 j.u.i, .int .i64 j.u.j, .int .i64 j.u.n, su, .int .i64 j.v.k, .int .i64 j.v.i, .int .i64 j.v.j, .int .i64 j.v.n, sv, .int .i64 j.a.k, .int .i64 j.a.i, .int .i64 j.a.j, .int .i64 j.a.n, sa, .int .i64 j.i]
/-- Its three lists lie there. -/
def JLies (w : World) (j : Jd) (su sv sa : Value) : Prop := Lies w j.u.kids su ∧ Lies w j.v.kids sv ∧ Lies w j.a.kids sa
theorem JLies.keep {w w' : World} {j : Jd} {su sv sa : Value} (h : JLies w j su sv sa) (hb : Below w.heap.size w w') : JLies w' j su sv sa := ⟨h.1.keep hb, h.2.1.keep hb, h.2.2.keep hb⟩
/-- Its cells, at the head of a block. -/
def JBox (w : World) (b : Nat) (j : Jd) (su sv sa : Value) : Prop := w.cell? ⟨b, 0, none⟩ = some (.bool j.eq) ∧ w.cell? ⟨b, 1, none⟩ = some (.int .i64 j.u.k) ∧ w.cell? ⟨b, 2, none⟩ = some (.int .i64 j.u.i) ∧ w.cell? ⟨b, 3, none⟩ = some (.int .i64 j.u.j) ∧ w.cell? ⟨b, 4, none⟩ = some (.int .i64 j.u.n) ∧ w.cell? ⟨b, 5, none⟩ = some (su) ∧ w.cell? ⟨b, 6, none⟩ = some (.int .i64 j.v.k) ∧ w.cell? ⟨b, 7, none⟩ = some (.int .i64 j.v.i) ∧ w.cell? ⟨b, 8, none⟩ = some (.int .i64 j.v.j) ∧ w.cell? ⟨b, 9, none⟩ = some (.int .i64 j.v.n) ∧ w.cell? ⟨b, 10, none⟩ = some (sv) ∧ w.cell? ⟨b, 11, none⟩ = some (.int .i64 j.a.k) ∧ w.cell? ⟨b, 12, none⟩ = some (.int .i64 j.a.i) ∧ w.cell? ⟨b, 13, none⟩ = some (.int .i64 j.a.j) ∧ w.cell? ⟨b, 14, none⟩ = some (.int .i64 j.a.n) ∧ w.cell? ⟨b, 15, none⟩ = some (sa) ∧ w.cell? ⟨b, 16, none⟩ = some (.int .i64 j.i)
/-- Its cells, at a place. -/
def JNode (w : World) (b o : Nat) (j : Jd) (su sv sa : Value) : Prop := w.cell? ⟨b, o, none⟩ = some (.bool j.eq) ∧ w.cell? ⟨b, o + 1, none⟩ = some (.int .i64 j.u.k) ∧ w.cell? ⟨b, o + 2, none⟩ = some (.int .i64 j.u.i) ∧ w.cell? ⟨b, o + 3, none⟩ = some (.int .i64 j.u.j) ∧ w.cell? ⟨b, o + 4, none⟩ = some (.int .i64 j.u.n) ∧ w.cell? ⟨b, o + 5, none⟩ = some (su) ∧ w.cell? ⟨b, o + 6, none⟩ = some (.int .i64 j.v.k) ∧ w.cell? ⟨b, o + 7, none⟩ = some (.int .i64 j.v.i) ∧ w.cell? ⟨b, o + 8, none⟩ = some (.int .i64 j.v.j) ∧ w.cell? ⟨b, o + 9, none⟩ = some (.int .i64 j.v.n) ∧ w.cell? ⟨b, o + 10, none⟩ = some (sv) ∧ w.cell? ⟨b, o + 11, none⟩ = some (.int .i64 j.a.k) ∧ w.cell? ⟨b, o + 12, none⟩ = some (.int .i64 j.a.i) ∧ w.cell? ⟨b, o + 13, none⟩ = some (.int .i64 j.a.j) ∧ w.cell? ⟨b, o + 14, none⟩ = some (.int .i64 j.a.n) ∧ w.cell? ⟨b, o + 15, none⟩ = some (sa) ∧ w.cell? ⟨b, o + 16, none⟩ = some (.int .i64 j.i)
theorem JBox.keep {w w' : World} {b : Nat} {j : Jd} {su sv sa : Value} (h : JBox w b j su sv sa) (hb : Below w.heap.size w w') : JBox w' b j su sv sa := by
  obtain ⟨x0, x1, x2, x3, x4, x5, x6, x7, x8, x9, x10, x11, x12, x13, x14, x15, x16⟩ := h
  exact ⟨cell_lat hb x0, cell_lat hb x1, cell_lat hb x2, cell_lat hb x3, cell_lat hb x4, cell_lat hb x5, cell_lat hb x6, cell_lat hb x7, cell_lat hb x8, cell_lat hb x9, cell_lat hb x10, cell_lat hb x11, cell_lat hb x12, cell_lat hb x13, cell_lat hb x14, cell_lat hb x15, cell_lat hb x16⟩
theorem JNode.keep {w w' : World} {b o : Nat} {j : Jd} {su sv sa : Value} (h : JNode w b o j su sv sa) (hb : Below w.heap.size w w') : JNode w' b o j su sv sa := by
  obtain ⟨x0, x1, x2, x3, x4, x5, x6, x7, x8, x9, x10, x11, x12, x13, x14, x15, x16⟩ := h
  exact ⟨cell_lat hb x0, cell_lat hb x1, cell_lat hb x2, cell_lat hb x3, cell_lat hb x4, cell_lat hb x5, cell_lat hb x6, cell_lat hb x7, cell_lat hb x8, cell_lat hb x9, cell_lat hb x10, cell_lat hb x11, cell_lat hb x12, cell_lat hb x13, cell_lat hb x14, cell_lat hb x15, cell_lat hb x16⟩
theorem JNode.lt {w : World} {b o : Nat} {j : Jd} {su sv sa : Value} (h : JNode w b o j su sv sa) : b < w.heap.size := World.block_lt_of_cell? _ _ h.1
theorem JNode.same {w w' : World} {b o : Nat} {j : Jd} {su sv sa : Value} (h : JNode w b o j su sv sa) (hb : w'.heap[b]? = w.heap[b]?) : JNode w' b o j su sv sa := by
  have hc : ∀ q, w'.cell? ⟨b, q, none⟩ = w.cell? ⟨b, q, none⟩ := fun q => World.cell?_of_block (a := ⟨b, q, none⟩) hb
  obtain ⟨x0, x1, x2, x3, x4, x5, x6, x7, x8, x9, x10, x11, x12, x13, x14, x15, x16⟩ := h
  exact ⟨(hc _).trans x0, (hc _).trans x1, (hc _).trans x2, (hc _).trans x3, (hc _).trans x4, (hc _).trans x5, (hc _).trans x6, (hc _).trans x7, (hc _).trans x8, (hc _).trans x9, (hc _).trans x10, (hc _).trans x11, (hc _).trans x12, (hc _).trans x13, (hc _).trans x14, (hc _).trans x15, (hc _).trans x16⟩

end Go.Proofs.Ytjlppnmckobcfaa

namespace Go.Proofs.Ytjlppnmckobcfaa
open Go.RowKit

instance instJd : Inhabited (Jd × (Value × Value × Value)) := ⟨(⟨false, .mk 0 0 0 0 [], .mk 0 0 0 0 [], .mk 0 0 0 0 [], 0⟩, (.nilIface, .nilIface, .nilIface))⟩
/-- Judgments behind a slice. -/
structure LiesJ (w : World) (l : List Jd) (s : Value) : Prop where
  out : ∃ (a : Option Addr) (cap : Nat) (S : Nat → Value × Value × Value), s = .slice a l.length cap ∧ l.length ≤ cap ∧ cap ≤ maxLen ∧ (∀ x ∈ l, x.fine) ∧
    (∀ i (h : i < l.length), ∃ b o, a = some ⟨b, o, none⟩ ∧ JNode w b (o + i * 17) l[i] (S i).1 (S i).2.1 (S i).2.2) ∧ (∀ i (h : i < l.length), JLies w l[i] (S i).1 (S i).2.1 (S i).2.2)
theorem LiesJ.keep {w w' : World} {l : List Jd} {s : Value} (h : LiesJ w l s) (hb : Below w.heap.size w w') : LiesJ w' l s := by
  obtain ⟨a, cap, S, hs, hc, hm, hf, hn, hk⟩ := h.out
  exact ⟨a, cap, S, hs, hc, hm, hf, fun i hi => by obtain ⟨b, o, ha, hx⟩ := hn i hi; exact ⟨b, o, ha, hx.keep hb⟩, fun i hi => (hk i hi).keep hb⟩

def cells17 : List (Jd × (Value × Value × Value)) → List Value
  | [] => []
  | (j, (su, sv, sa)) :: r => .bool j.eq :: .int .i64 j.u.k :: .int .i64 j.u.i :: .int .i64 j.u.j :: .int .i64 j.u.n :: su :: .int .i64 j.v.k :: .int .i64 j.v.i :: .int .i64 j.v.j :: .int .i64 j.v.n :: sv :: .int .i64 j.a.k :: .int .i64 j.a.i :: .int .i64 j.a.j :: .int .i64 j.a.n :: sa :: .int .i64 j.i :: cells17 r
/-- A row of judgments that the call has made so far. -/
structure MadeJ (B : Nat) (w : World) (v : Value) (ps : List (Jd × (Value × Value × Value))) : Prop where
  own : w.ownsRow B 34 17 v ps.length (cells17 ps)
  fine : ∀ p ∈ ps, p.1.fine
  kids : ∀ p ∈ ps, LiesP w (fun b => Own B w b ∧ v.ownBlock ≠ some b) p.1.u.kids p.2.1 ∧ LiesP w (fun b => Own B w b ∧ v.ownBlock ≠ some b) p.1.v.kids p.2.2.1 ∧ LiesP w (fun b => Own B w b ∧ v.ownBlock ≠ some b) p.1.a.kids p.2.2.2
end Go.Proofs.Ytjlppnmckobcfaa

namespace Go.Proofs.Ytjlppnmckobcfaa
open Go.RowKit

/-- Ints that lie behind a slice. -/
structure LiesI (w : World) (l : List Int) (s : Value) : Prop where
  out : ∃ (a : Option Addr) (cap : Nat), s = .slice a l.length cap ∧ l.length ≤ cap ∧ cap ≤ maxLen ∧ ∀ i (h : i < l.length), ∃ b o, a = some ⟨b, o, none⟩ ∧ w.cell? ⟨b, o + i, none⟩ = some (.int .i64 l[i])
theorem LiesI.keep {w w' : World} {l : List Int} {s : Value} (h : LiesI w l s) (hb : Below w.heap.size w w') : LiesI w' l s := by
  obtain ⟨a, cap, hs, hc, hm, hn⟩ := h.out
  refine ⟨a, cap, hs, hc, hm, fun i hi => ?_⟩
  obtain ⟨b, o, ha, hx⟩ := hn i hi
  exact ⟨b, o, ha, (hb.cell (World.block_lt_of_cell? _ _ hx)).trans hx⟩

end Go.Proofs.Ytjlppnmckobcfaa

namespace Go.Proofs.Ytjlppnmckobcfaa
open Go.RowKit

/-- The maker's blocks: the boxed term, the result, the list (N + 2), the term that is built (M). -/
structure Desk2 (w : World) (M : Nat) (t u : Tm) (s v : Value) (w' : World) : Prop where
  under : Below w.heap.size w w'
  above : w.heap.size + 3 ≤ M
  box : w'.heap[w.heap.size]? = some (boxOf t s)
  res : w'.heap[w.heap.size + 1]? = some zeroObj
  made : w'.heap[M]? = some (boxOf u v)
theorem Desk2.size {w w' : World} {M : Nat} {t u : Tm} {s v : Value} (h : Desk2 w M t u s v w') : M < w'.heap.size := (Array.getElem?_eq_some_iff.1 h.made).1
theorem Desk2.later {w w1 w2 : World} {M : Nat} {t u : Tm} {s v : Value} (h : Desk2 w M t u s v w1) (hb : Below w1.heap.size w1 w2) : Desk2 w M t u s v w2 := by
  have hs := h.size
  have ha := h.above
  exact ⟨h.under.trans (hb.mono (by omega)), ha, by rw [hb.block _ (by omega)]; exact h.box, by rw [hb.block _ (by omega)]; exact h.res, by rw [hb.block _ (by omega)]; exact h.made⟩
theorem Desk2.set {w w1 : World} {M : Nat} {t u : Tm} {s v : Value} (h : Desk2 w M t u s v w1) (o : Nat) (x : Value) : Desk2 w M t u s v (w1.setCell ⟨w.heap.size + 2, o, none⟩ x) := by
  have ha := h.above
  exact ⟨h.under.setCell (by simp) _, ha, by rw [Below.heap_setCell _ _ _ _ (by show w.heap.size ≠ w.heap.size + 2; omega)]; exact h.box, by rw [Below.heap_setCell _ _ _ _ (by show w.heap.size + 1 ≠ w.heap.size + 2; omega)]; exact h.res, by rw [Below.heap_setCell _ _ _ _ (by show M ≠ w.heap.size + 2; omega)]; exact h.made⟩
theorem Desk2.drew {w w1 : World} {M : Nat} {t u : Tm} {s v : Value} (h : Desk2 w M t u s v w1) : Desk2 w M t u s v w1.drew := ⟨h.under.drew, h.above, h.box, h.res, h.made⟩
end Go.Proofs.Ytjlppnmckobcfaa

namespace Go.Proofs.Ytjlppnmckobcfaa
open Go.RowKit

/-- Terms one behind the other, each with the slice of its kids. -/
def Row (w : World) (b : Nat) : Nat → List (Tm × Value) → Prop
  | _, [] => True
  | o, (t, s) :: r => Node w b o t s ∧ t.fine ∧ Lies w t.kids s ∧ Row w b (o + 5) r

theorem Row.at {w : World} {b : Nat} {ps : List (Tm × Value)} : ∀ {o : Nat}, Row w b o ps → ∀ i (h : i < ps.length), Node w b (o + i * 5) (ps[i]).1 (ps[i]).2 ∧ (ps[i]).1.fine ∧ Lies w (ps[i]).1.kids (ps[i]).2 := by
  induction ps with
  | nil => intro o _ i h; simp at h
  | cons p r ih =>
    intro o hr i h
    cases i with
    | zero => exact ⟨by simpa using hr.1, hr.2.1, hr.2.2.1⟩
    | succ i =>
      have := ih hr.2.2.2 i (by simpa using h)
      rw [show o + 5 + i * 5 = o + (i + 1) * 5 by omega] at this
      simpa using this

theorem Row.lies {w : World} {b o cap : Nat} {ps : List (Tm × Value)} (h : Row w b o ps) (hc : ps.length ≤ cap) (hm : cap ≤ maxLen) : Lies w (ps.map (·.1)) (.slice (some ⟨b, o, none⟩) ps.length cap) := by
  have := Lies.mk (w := w) (ps.map (·.1)) (some ⟨b, o, none⟩) cap (fun i => (ps[i]?.map (·.2)).getD (.slice none 0 0)) (by simpa using hc) hm
    (fun x hx => by
      obtain ⟨p, hp, rfl⟩ := List.mem_map.1 hx
      obtain ⟨i, hi, rfl⟩ := List.getElem_of_mem hp
      exact (h.at i hi).2.1)
    (fun i hi => by
      have hi' : i < ps.length := by simpa using hi
      refine ⟨b, o, rfl, ?_⟩
      simp only [List.getElem_map, List.getElem?_eq_getElem hi', Option.map_some, Option.getD_some]
      exact (h.at i hi').1)
    (fun i hi => by
      have hi' : i < ps.length := by simpa using hi
      simp only [List.getElem_map, List.getElem?_eq_getElem hi', Option.map_some, Option.getD_some]
      exact (h.at i hi').2.2)
  simpa using this

end Go.Proofs.Ytjlppnmckobcfaa

namespace Go.Proofs.Ytjlppnmckobcfaa
open Go.RowKit

/-- The box, the result; the box may hold another term than at first. -/
structure Pair (w : World) (x : Tm) (s : Value) (w' : World) : Prop where
  under : Below w.heap.size w w'
  box : w'.heap[w.heap.size]? = some (boxOf x s)
  res : w'.heap[w.heap.size + 1]? = some zeroObj
theorem Pair.put {w w1 : World} {x : Tm} {s : Value} (h : Pair w x s w1) (y : Tm) (sy : Value) : Pair w y sy (five w1 w.heap.size (.int .i64 y.k) (.int .i64 y.i) (.int .i64 y.j) (.int .i64 y.n) sy) :=
  ⟨below_five h.under (Nat.le_refl _) _ _ _ _ _, five_set h.box, by rw [five_other _ _ _ _ _ _ _ (by omega)]; exact h.res⟩
end Go.Proofs.Ytjlppnmckobcfaa

namespace Go.Proofs.Ytjlppnmckobcfaa
open Go.RowKit

/-- Two boxes; they may hold other terms than at first. -/
structure Two (w : World) (x : Tm) (s : Value) (y : Tm) (r : Value) (w' : World) : Prop where
  under : Below w.heap.size w w'
  one : w'.heap[w.heap.size]? = some (boxOf x s)
  two : w'.heap[w.heap.size + 1]? = some (boxOf y r)
theorem Two.call {w w1 w2 : World} {x y : Tm} {s r : Value} (h : Two w x s y r w1) (hb : Below w1.heap.size w1 w2) : Two w x s y r w2 :=
  ⟨h.under.trans (hb.mono h.under.size), by rw [hb.block _ (block_lt h.one)]; exact h.one, by rw [hb.block _ (block_lt h.two)]; exact h.two⟩
theorem Two.drew {w w1 : World} {x y : Tm} {s r : Value} (h : Two w x s y r w1) : Two w x s y r w1.drew := ⟨h.under.drew, h.one, h.two⟩
theorem Two.put {w w1 : World} {x y : Tm} {s r : Value} (h : Two w x s y r w1) (p : Tm) (sp : Value) (q : Tm) (sq : Value) : Two w p sp q sq (five (five w1 w.heap.size (.int .i64 p.k) (.int .i64 p.i) (.int .i64 p.j) (.int .i64 p.n) sp) (w.heap.size + 1) (.int .i64 q.k) (.int .i64 q.i) (.int .i64 q.j) (.int .i64 q.n) sq) :=
  ⟨below_five (below_five h.under (Nat.le_refl _) _ _ _ _ _) (by omega) _ _ _ _ _, by rw [five_other _ _ _ _ _ _ _ (by omega)]; exact five_set h.one, five_set (by rw [five_other _ _ _ _ _ _ _ (by omega)]; exact h.two)⟩

end Go.Proofs.Ytjlppnmckobcfaa

namespace Go.Proofs.Ytjlppnmckobcfaa
open Go.RowKit

set_option maxHeartbeats 1000000 in
theorem refnode_any (t : Tm) (w : World) (s : Value) (hl : Lies w t.kids s) : Calls Try.prog 67 #[tv t s] w fun e w' => e = .returned (.bool t.nodeB) ∧ Below w.heap.size w w' := by
  obtain ⟨a, cap, S, hs, hc, hm, -⟩ := hl.out
  subst hs
  unfold maxLen at hm
  have HB := (Below.refl (w.heap.size + 1) (w.alloc (.cells #[.int .i64 t.k, .int .i64 t.i, .int .i64 t.j, .int .i64 t.n, .slice a t.kids.length cap] 32)))
  have HBX := Lib.hid (fun (wr : World) => box_cells (w := w) (wr := wr) (v0 := .int .i64 t.k) (v1 := .int .i64 t.i) (v2 := .int .i64 t.j) (v3 := .int .i64 t.n) (v4 := .slice a t.kids.length cap) (T := 32))
  clear hl
  unfold tv
  go_enter Try.func67, Try.ntmps67
  cases h3 : ((t.kids.length : Int) == kidsN t.k t.n)
  · go_wp2
    go_region_with (go_at_call 86; refine (refkids_any _ _ _).mono ?_; rintro e w1 ⟨rfl, hb1⟩; have HB2 := below_call HB.drew hb1 (by simp); obtain ⟨d0, d1, d2, d3, d4⟩ := HBX.out _ HB2; clear hb1)
    all_goals
      go_wp2
      go_ret
      exact ⟨ret_bool (by simp only [Tm.nodeB, h3, Bool.false_and]), below_of_box HB2⟩
  · go_wp2
    go_region_held3 (fun w' => w'.cell? ⟨w.heap.size, 0, none⟩ = some (.int .i64 t.k) ∧ w'.cell? ⟨w.heap.size, 1, none⟩ = some (.int .i64 t.i) ∧ w'.cell? ⟨w.heap.size, 2, none⟩ = some (.int .i64 t.j) ∧ w'.cell? ⟨w.heap.size, 3, none⟩ = some (.int .i64 t.n) ∧ w'.cell? ⟨w.heap.size, 4, none⟩ = some (.slice a t.kids.length cap)) (go_keep)
      (first | (go_at_call 86; refine (refkids_any _ _ _).mono ?_; rintro e w1 ⟨rfl, hb1⟩; have HB2 := below_call HB.drew hb1 (by simp); obtain ⟨d0, d1, d2, d3, d4⟩ := HBX.out _ HB2; clear hb1) | (go_at_call 87; refine (refnumbers_any t _ _).mono ?_; rintro e w2 ⟨rfl, hb2⟩; have HB3 := below_call HB2 hb2 (by have := HB2.size; simpa using this); obtain ⟨y0, y1, y2, y3, y4⟩ := HBX.out _ HB3; clear hb2))
    go_wp2
    go_ret
    exact ⟨ret_bool (by simp only [Tm.nodeB, h3, Bool.true_and]), below_of_box HB3⟩

set_option maxHeartbeats 1000000 in
theorem refplain_any (t : Tm) : ∀ (w : World) (s : Value), Lies w t.kids s → Calls Try.prog 68 #[tv t s] w fun e w' => e = .returned (.bool t.plainB) ∧ Below w.heap.size w w' := by
  induction t using Tm.ind with
  | h t ih =>
    intro w s hl
    obtain ⟨a, cap, S, rfl, hc, hm, hf, hn, hk⟩ := hl.out
    unfold tv
    unfold maxLen at hm
    have HL := Lib.hid ((hl.keep (w' := w.alloc (.cells #[.int .i64 t.k, .int .i64 t.i, .int .i64 t.j, .int .i64 t.n, .slice a t.kids.length cap] 32)) ((Below.refl _ _).alloc (Nat.le_refl _) _)))
    have HP := Lib.hid (t.plainB_eq)
    have IH := Lib.hid ih
    have HN := Lib.hid hn
    have HK := Lib.hid hk
    have HBX := Lib.hid (fun (wr : World) => box_cells (w := w) (wr := wr) (v0 := .int .i64 t.k) (v1 := .int .i64 t.i) (v2 := .int .i64 t.j) (v3 := .int .i64 t.n) (v4 := .slice a t.kids.length cap) (T := 32))
    clear ih hn hk hf hl
    by_cases hkind : t.k = 1 ∨ t.k = 2 ∨ (13 ≤ t.k ∧ t.k ≤ 23)
    rotate_left
    · have h1 : (t.k == 1) = false := by simp; omega
      have h2 : (t.k == 2) = false := by simp; omega
      have h5 : t.plainB = false := by rw [HP.out, h1, h2]; simp; omega
      have H5 := Lib.hid h5
      clear h5
      have h1' : (t.k != 1) = true := by simp; omega
      have h2' : (t.k != 2) = true := by simp; omega
      have h3 : t.k < 13 ∨ 23 < t.k := by omega
      rcases h3 with h3 | h3
      all_goals
        go_enter Try.func68, Try.ntmps68
        go_wp2
        go_ret
        exact ⟨ret_bool H5.out.symm, (Below.refl _ _).alloc (Nat.le_refl _) _⟩
    have hkb : (t.k == 1 || (t.k == 2 || (decide (13 ≤ t.k) && decide (t.k ≤ 23)))) = true := by simp; omega
    have HP2 : Hid (t.plainB = (t.nodeB && plains t.kids)) := by have := HP.out; rw [hkb, Bool.true_and] at this; exact this
    clear hkb
    have hk3 : t.k = 1 ∨ t.k = 2 ∨ (¬ t.k = 1 ∧ ¬ t.k = 2 ∧ 13 ≤ t.k ∧ t.k ≤ 23) := by omega
    have hb3 : ((t.k != 1) = false) ∨ ((t.k != 1) = true ∧ (t.k != 2) = false) ∨ ((t.k != 1) = true ∧ (t.k != 2) = true ∧ 13 ≤ t.k ∧ t.k ≤ 23) := by
      rcases hk3 with h | h | h
      · left; simp [h]
      · right; left; simp [h]
      · right; right; simp; omega
    clear hk3 hkind
    cases hn : t.nodeB with
    | false =>
      have h5 : t.plainB = false := by rw [HP2.out, hn]; rfl
      have H5 := Lib.hid h5
      have HNN := Lib.hid hn
      clear h5 hn
      rcases hb3 with h1 | ⟨h1, h2⟩ | ⟨h1, h2, h3, h4⟩
      all_goals
        go_enter Try.func68, Try.ntmps68
        go_wp2_with fail
        refine (refnode_any t _ _ HL.out).mono ?_
        rintro e w1 ⟨rfl, hb'⟩
        have HB2 := below_call (Below.refl (w.heap.size + 1) (w.alloc (.cells #[.int .i64 t.k, .int .i64 t.i, .int .i64 t.j, .int .i64 t.n, .slice a t.kids.length cap] 32))) hb' (by simp)
        obtain ⟨d0, d1, d2, d3, d4⟩ := HBX.out _ HB2
        clear hb'
        rw [HNN.out]
        go_wp2
        go_ret
        exact ⟨ret_bool H5.out.symm, below_of_box HB2⟩
    | true =>
      have HNN := Lib.hid hn
      clear hn
      rcases hb3 with h1 | ⟨h1, h2⟩ | ⟨h1, h2, h3, h4⟩
      all_goals
        go_enter Try.func68, Try.ntmps68
        go_wp2_with fail
        refine (refnode_any t _ _ HL.out).mono ?_
        rintro e w1 ⟨rfl, hb'⟩
        have HB2 := below_call (Below.refl (w.heap.size + 1) (w.alloc (.cells #[.int .i64 t.k, .int .i64 t.i, .int .i64 t.j, .int .i64 t.n, .slice a t.kids.length cap] 32))) hb' (by simp)
        obtain ⟨d0, d1, d2, d3, d4⟩ := HBX.out _ HB2
        clear hb'
        rw [HNN.out]
        go_wp2_with fail
        go_loopw [3] (fun iv wr => ∃ k : Nat, k ≤ t.kids.length ∧ iv = .int .i64 k ∧ Hid (plains (t.kids.take k) = true) ∧ Below (w.heap.size + 1) (w.alloc (.cells #[.int .i64 t.k, .int .i64 t.i, .int .i64 t.j, .int .i64 t.n, .slice a t.kids.length cap] 32)) wr) (fun iv _ => t.kids.length - (intOf iv).toNat)
        case atStart => exact ⟨0, Nat.zero_le _, rfl, by simp [Hid, plains], HB2⟩
        case round =>
          obtain ⟨k, hk, rfl, hgood, hb⟩ := hrel
          obtain ⟨d0, d1, d2, d3, d4⟩ := HBX.out _ hb
          have hb0 := below_of_box hb
          by_cases hlt : k < t.kids.length
          · obtain ⟨b, o, rfl, hx⟩ := HN.out k hlt
            have hy := hx.below hb0 hx.lt
            obtain ⟨c0, c1, c2, c3, c4⟩ := hy
            have hq := HK.out k hlt
            obtain ⟨a', cap', S', hS, -⟩ := hq.out
            rw [hS] at c4 hq
            have HQ := Lib.hid (hq.keep hb0)
            clear hS hq
            have HM := Lib.hid (List.getElem_mem hlt)
            have HT := Lib.hid (plains_take t.kids k hlt)
            go_wp2_with fail
            refine (IH.out _ HM.out _ _ HQ.out).mono ?_
            rintro e w2 ⟨rfl, hb'⟩
            have HB3 := below_call hb hb' (by have := hb.size; simpa using this)
            obtain ⟨x0, x1, x2, x3, x4⟩ := HBX.out _ HB3
            clear hb' hb d0 d1 d2 d3 d4 hb0 c0 c1 c2 c3 c4
            cases hp : (t.kids[k]).plainB
            · go_wp2
              go_ret
              exact ⟨ret_bool (by rw [HP2.out, plains_of t.kids k hlt hp, Bool.and_false]), below_of_box HB3⟩
            · go_wp2
              go_roundw
              case rel => exact ⟨k + 1, by omega, by go_num, by show _ = true; rw [HT.out, hgood.out, hp]; rfl, HB3⟩
              case measure => simp [intOf]; omega
          · have : k = t.kids.length := by omega
            subst this
            go_wp2
            go_ret
            exact ⟨ret_bool (by have hg := hgood.out; rw [List.take_length] at hg; rw [HP2.out, HNN.out, hg]; rfl), hb0⟩
end Go.Proofs.Ytjlppnmckobcfaa

namespace Go.Proofs.Ytjlppnmckobcfaa
open Go.RowKit

set_option maxHeartbeats 1000000 in
theorem refmarked_any (t : Tm) : ∀ (w : World) (s : Value), Lies w t.kids s → Calls Try.prog 36 #[tv t s] w fun e w' => e = .returned (.bool t.markedB) ∧ Below w.heap.size w w' := by
  induction t using Tm.ind with
  | h t ih =>
    intro w s hl
    obtain ⟨a, cap, S, rfl, hc, hm, hf, hn, hk⟩ := hl.out
    unfold tv
    unfold maxLen at hm
    have HL := Lib.hid ((hl.keep (w' := w.alloc (.cells #[.int .i64 t.k, .int .i64 t.i, .int .i64 t.j, .int .i64 t.n, .slice a t.kids.length cap] 32)) ((Below.refl _ _).alloc (Nat.le_refl _) _)))
    have HP := Lib.hid (t.markedB_eq)
    have IH := Lib.hid ih
    have HN := Lib.hid hn
    have HK := Lib.hid hk
    have HBX := Lib.hid (fun (wr : World) => box_cells (w := w) (wr := wr) (v0 := .int .i64 t.k) (v1 := .int .i64 t.i) (v2 := .int .i64 t.j) (v3 := .int .i64 t.n) (v4 := .slice a t.kids.length cap) (T := 32))
    clear ih hn hk hf hl
    by_cases h1 : t.k < 1
    · have H5 : Hid (t.markedB = false) := by show _ = _; rw [HP.out]; simp; omega
      go_enter Try.func36, Try.ntmps36
      go_wp2
      go_ret
      exact ⟨ret_bool H5.out.symm, (Below.refl _ _).alloc (Nat.le_refl _) _⟩
    by_cases h2 : 12 < t.k
    · have H5 : Hid (t.markedB = false) := by show _ = _; rw [HP.out]; simp; omega
      go_enter Try.func36, Try.ntmps36
      go_wp2
      go_ret
      exact ⟨ret_bool H5.out.symm, (Below.refl _ _).alloc (Nat.le_refl _) _⟩
    have hkb : (decide (1 ≤ t.k) && decide (t.k ≤ 12)) = true := by simp; omega
    have HP2 : Hid (t.markedB = (t.nodeB && markeds (t.k == 12) 0 t.kids)) := by have := HP.out; rw [hkb, Bool.true_and] at this; exact this
    clear hkb
    cases hn : t.nodeB with
    | false =>
      have H5 : Hid (t.markedB = false) := by show _ = _; rw [HP2.out, hn]; rfl
      have HNN := Lib.hid hn
      clear hn
      go_enter Try.func36, Try.ntmps36
      go_wp2_with fail
      refine (refnode_any t _ _ HL.out).mono ?_
      rintro e w1 ⟨rfl, hb'⟩
      have HB2 := below_call (Below.refl (w.heap.size + 1) (w.alloc (.cells #[.int .i64 t.k, .int .i64 t.i, .int .i64 t.j, .int .i64 t.n, .slice a t.kids.length cap] 32))) hb' (by simp)
      obtain ⟨d0, d1, d2, d3, d4⟩ := HBX.out _ HB2
      clear hb'
      rw [HNN.out]
      go_wp2
      go_ret
      exact ⟨ret_bool H5.out.symm, below_of_box HB2⟩
    | true =>
      have HNN := Lib.hid hn
      clear hn
      go_enter Try.func36, Try.ntmps36
      go_wp2_with fail
      refine (refnode_any t _ _ HL.out).mono ?_
      rintro e w1 ⟨rfl, hb'⟩
      have HB2 := below_call (Below.refl (w.heap.size + 1) (w.alloc (.cells #[.int .i64 t.k, .int .i64 t.i, .int .i64 t.j, .int .i64 t.n, .slice a t.kids.length cap] 32))) hb' (by simp)
      obtain ⟨d0, d1, d2, d3, d4⟩ := HBX.out _ HB2
      clear hb'
      rw [HNN.out]
      go_wp2_with fail
      go_loopw [3] (fun iv wr => ∃ k : Nat, k ≤ t.kids.length ∧ iv = .int .i64 k ∧ Hid (markeds (t.k == 12) 0 (t.kids.take k) = true) ∧ Below (w.heap.size + 1) (w.alloc (.cells #[.int .i64 t.k, .int .i64 t.i, .int .i64 t.j, .int .i64 t.n, .slice a t.kids.length cap] 32)) wr) (fun iv _ => t.kids.length - (intOf iv).toNat)
      case atStart => exact ⟨0, Nat.zero_le _, rfl, by simp [Hid, markeds], HB2⟩
      case round =>
        obtain ⟨k, hk, rfl, hgood, hb⟩ := hrel
        obtain ⟨d0, d1, d2, d3, d4⟩ := HBX.out _ hb
        have hb0 := below_of_box hb
        by_cases hlt : k < t.kids.length
        · obtain ⟨b, o, rfl, hx⟩ := HN.out k hlt
          have hy := hx.below hb0 hx.lt
          obtain ⟨c0, c1, c2, c3, c4⟩ := hy
          have hq := HK.out k hlt
          obtain ⟨a', cap', S', hS, -⟩ := hq.out
          rw [hS] at c4 hq
          have HQ := Lib.hid (hq.keep hb0)
          clear hS hq
          have HM := Lib.hid (List.getElem_mem hlt)
          have HT := Lib.hid (markeds_take (t.k == 12) t.kids 0 k hlt)
          cases e12 : (t.k == 12) <;> cases e2 : ((k : Int) == 2)
          rotate_right
          · have e2' : (k == 2) = ((k : Int) == 2) := by rw [e2]; simp at e2 ⊢; omega
            have hkB : (t.kids[k]).kidB (t.k == 12) k = (t.kids[k]).plainB := by simp [Tm.kidB, e12, e2', e2]
            have HKB := Lib.hid hkB
            clear e2' hkB
            go_wp2_with fail
            refine (refplain_any _ _ _ HQ.out).mono ?_
            rintro e w2 ⟨rfl, hb'⟩
            have HB3 := below_call hb hb' (by have := hb.size; simpa using this)
            obtain ⟨x0, x1, x2, x3, x4⟩ := HBX.out _ HB3
            clear hb' hb d0 d1 d2 d3 d4 hb0 c0 c1 c2 c3 c4
            cases hp : (t.kids[k]).plainB
            · go_wp2
              go_ret
              exact ⟨ret_bool (by rw [HP2.out, markeds_of _ t.kids 0 k hlt (by rw [Nat.zero_add, HKB.out]; exact hp), Bool.and_false]), below_of_box HB3⟩
            · go_wp2
              go_roundw
              case rel => exact ⟨k + 1, by omega, by go_num, by have h1 := HT.out; rw [hgood.out, Nat.zero_add, HKB.out, hp] at h1; show _ = true; first | exact h1 | (rw [e12] at h1; exact h1), HB3⟩
              case measure => simp [intOf]; omega
          all_goals
            have e2' : (k == 2) = ((k : Int) == 2) := by rw [e2]; simp at e2 ⊢; omega
            have hkB : (t.kids[k]).kidB (t.k == 12) k = (t.kids[k]).markedB := by simp [Tm.kidB, e12, e2', e2]
            have HKB := Lib.hid hkB
            clear e2' hkB
            go_wp2_with fail
            refine (IH.out _ HM.out _ _ HQ.out).mono ?_
            rintro e w2 ⟨rfl, hb'⟩
            have HB3 := below_call hb hb' (by have := hb.size; simpa using this)
            obtain ⟨x0, x1, x2, x3, x4⟩ := HBX.out _ HB3
            clear hb' hb d0 d1 d2 d3 d4 hb0 c0 c1 c2 c3 c4
            cases hp : (t.kids[k]).markedB
            · go_wp2
              go_ret
              exact ⟨ret_bool (by rw [HP2.out, markeds_of _ t.kids 0 k hlt (by rw [Nat.zero_add, HKB.out]; exact hp), Bool.and_false]), below_of_box HB3⟩
            · go_wp2
              go_roundw
              case rel => exact ⟨k + 1, by omega, by go_num, by have h1 := HT.out; rw [hgood.out, Nat.zero_add, HKB.out, hp] at h1; show _ = true; first | exact h1 | (rw [e12] at h1; exact h1), HB3⟩
              case measure => simp [intOf]; omega
        · have : k = t.kids.length := by omega
          subst this
          go_wp2
          go_ret
          exact ⟨ret_bool (by have hg := hgood.out; rw [List.take_length] at hg; rw [HP2.out, HNN.out, hg]; rfl), hb0⟩
end Go.Proofs.Ytjlppnmckobcfaa

namespace Go.Proofs.Ytjlppnmckobcfaa
open Go.RowKit

theorem counts_le_sizes (l : List Tm) : counts l ≤ sizes l := by
  induction l with
  | nil => simp [counts]
  | cons a r ih => simp only [counts, sizes]; have := count_le_size a; omega

set_option maxHeartbeats 800000 in
theorem refcount_any (t : Tm) : ∀ (w : World) (s : Value), Lies w t.kids s → t.size ≤ 1000000000000 → Calls Try.prog 37 #[tv t s] w fun e w' => e = .returned (.int .i64 (t.count : Nat)) ∧ Below w.heap.size w w' := by
  induction t using Tm.ind with
  | h t ih =>
    intro w s hl hs
    obtain ⟨a, cap, S, rfl, hc, hm, hf, hn, hk⟩ := hl.out
    unfold tv
    unfold maxLen at hm
    have HSZ := Lib.hid (t.size_eq)
    have HCQ := Lib.hid (t.count_eq)
    have HCS := Lib.hid ((fun (x : Tm) (_ : x ∈ t.kids) => count_le_size x))
    have IH := Lib.hid ih
    have HN := Lib.hid hn
    have HK := Lib.hid hk
    have HBX := Lib.hid (fun (wr : World) => box_cells (w := w) (wr := wr) (v0 := .int .i64 t.k) (v1 := .int .i64 t.i) (v2 := .int .i64 t.j) (v3 := .int .i64 t.n) (v4 := .slice a t.kids.length cap) (T := 32))
    clear ih hn hk hf hl
    have hcases : (t.k == 12) = true ∨ (t.k == 12) = false := by cases (t.k == 12) <;> simp
    rcases hcases with e12 | e12
    rotate_left
    · have H12 : Hid ((if t.k = 12 then 1 else 0) = 0) := by show _ = _; simp at e12; simp [e12]
      go_enter Try.func37, Try.ntmps37
      go_wp2
      go_loopw [3, 4] (fun n i wr => ∃ k : Nat, k ≤ t.kids.length ∧ i = .int .i64 k ∧ n = .int .i64 ((0 + counts (t.kids.take k) : Nat) : Int) ∧ Below (w.heap.size + 1) (w.alloc (.cells #[.int .i64 t.k, .int .i64 t.i, .int .i64 t.j, .int .i64 t.n, .slice a t.kids.length cap] 32)) wr) (fun n i _ => t.kids.length - (intOf i).toNat)
      case atStart => exact ⟨0, Nat.zero_le _, rfl, by simp [counts], Below.refl _ _⟩
      case round =>
        obtain ⟨k, hk, rfl, rfl, hb⟩ := hrel
        obtain ⟨d0, d1, d2, d3, d4⟩ := HBX.out _ hb
        have hb0 := below_of_box hb
        by_cases hlt : k < t.kids.length
        · obtain ⟨b, o, rfl, hx⟩ := HN.out k hlt
          have hy := hx.below hb0 hx.lt
          obtain ⟨c0, c1, c2, c3, c4⟩ := hy
          have hq := HK.out k hlt
          obtain ⟨a', cap', S', hS, -⟩ := hq.out
          rw [hS] at c4 hq
          have HQ := Lib.hid (hq.keep hb0)
          clear hS hq
          have HM := Lib.hid (List.getElem_mem hlt)
          have HT := Lib.hid (counts_take t.kids k hlt)
          have h1 := sizes_le t.kids (k + 1)
          have h2 : 1 + sizes (t.kids.take k) + (t.kids[k]).size ≤ 1000000000000 := by rw [sizes_take t.kids k hlt] at h1; rw [HSZ.out] at hs; omega
          have h3 : counts (t.kids.take k) ≤ sizes (t.kids.take k) := counts_le_sizes _
          have h4 := count_le_size (t.kids[k])
          clear h1
          go_wp2_with fail
          refine (IH.out _ HM.out _ _ HQ.out (by omega)).mono ?_
          rintro e w2 ⟨rfl, hb'⟩
          have HB3 := below_call hb hb' (by have := hb.size; simpa using this)
          obtain ⟨x0, x1, x2, x3, x4⟩ := HBX.out _ HB3
          clear hb' hb d0 d1 d2 d3 d4 hb0 c0 c1 c2 c3 c4
          go_wp2
          go_roundw
          case rel => exact ⟨k + 1, by omega, by go_num, by rw [HT.out]; go_num, HB3⟩
          case measure => simp [intOf]; omega
        · have : k = t.kids.length := by omega
          subst this
          go_wp2
          go_ret
          refine ⟨?_, hb0⟩
          rw [List.take_length, HCQ.out, H12.out]
          rfl
    · have H12 : Hid ((if t.k = 12 then 1 else 0) = 1) := by show _ = _; simp at e12; simp [e12]
      go_enter Try.func37, Try.ntmps37
      go_wp2
      go_loopw [3, 4] (fun n i wr => ∃ k : Nat, k ≤ t.kids.length ∧ i = .int .i64 k ∧ n = .int .i64 ((1 + counts (t.kids.take k) : Nat) : Int) ∧ Below (w.heap.size + 1) (w.alloc (.cells #[.int .i64 t.k, .int .i64 t.i, .int .i64 t.j, .int .i64 t.n, .slice a t.kids.length cap] 32)) wr) (fun n i _ => t.kids.length - (intOf i).toNat)
      case atStart => exact ⟨0, Nat.zero_le _, rfl, by simp [counts], Below.refl _ _⟩
      case round =>
        obtain ⟨k, hk, rfl, rfl, hb⟩ := hrel
        obtain ⟨d0, d1, d2, d3, d4⟩ := HBX.out _ hb
        have hb0 := below_of_box hb
        by_cases hlt : k < t.kids.length
        · obtain ⟨b, o, rfl, hx⟩ := HN.out k hlt
          have hy := hx.below hb0 hx.lt
          obtain ⟨c0, c1, c2, c3, c4⟩ := hy
          have hq := HK.out k hlt
          obtain ⟨a', cap', S', hS, -⟩ := hq.out
          rw [hS] at c4 hq
          have HQ := Lib.hid (hq.keep hb0)
          clear hS hq
          have HM := Lib.hid (List.getElem_mem hlt)
          have HT := Lib.hid (counts_take t.kids k hlt)
          have h1 := sizes_le t.kids (k + 1)
          have h2 : 1 + sizes (t.kids.take k) + (t.kids[k]).size ≤ 1000000000000 := by rw [sizes_take t.kids k hlt] at h1; rw [HSZ.out] at hs; omega
          have h3 : counts (t.kids.take k) ≤ sizes (t.kids.take k) := counts_le_sizes _
          have h4 := count_le_size (t.kids[k])
          clear h1
          go_wp2_with fail
          refine (IH.out _ HM.out _ _ HQ.out (by omega)).mono ?_
          rintro e w2 ⟨rfl, hb'⟩
          have HB3 := below_call hb hb' (by have := hb.size; simpa using this)
          obtain ⟨x0, x1, x2, x3, x4⟩ := HBX.out _ HB3
          clear hb' hb d0 d1 d2 d3 d4 hb0 c0 c1 c2 c3 c4
          go_wp2
          go_roundw
          case rel => exact ⟨k + 1, by omega, by go_num, by rw [HT.out]; go_num, HB3⟩
          case measure => simp [intOf]; omega
        · have : k = t.kids.length := by omega
          subst this
          go_wp2
          go_ret
          refine ⟨?_, hb0⟩
          rw [List.take_length, HCQ.out, H12.out]
          rfl

set_option maxHeartbeats 800000 in
theorem refright_any (t : Tm) (w : World) (s : Value) (hl : Lies w t.kids s) : Calls Try.prog 38 #[tv t s] w fun e w' => e = .returned (.bool t.rightB) ∧ Below w.heap.size w w' := by
  obtain ⟨a, cap, S, hs, -⟩ := hl.out
  subst hs
  have HB := (Below.refl (w.heap.size + 1) (w.alloc (.cells #[.int .i64 t.k, .int .i64 t.i, .int .i64 t.j, .int .i64 t.n, .slice a t.kids.length cap] 32)))
  have HL := Lib.hid (hl.keep (below_of_box HB))
  have HBX := Lib.hid (fun (wr : World) => box_cells (w := w) (wr := wr) (v0 := .int .i64 t.k) (v1 := .int .i64 t.i) (v2 := .int .i64 t.j) (v3 := .int .i64 t.n) (v4 := .slice a t.kids.length cap) (T := 32))
  have hl0 := Lib.hid hl
  clear hl
  unfold tv
  go_enter Try.func38, Try.ntmps38
  go_wp2_with fail
  refine (refmarked_any t _ _ HL.out).mono ?_
  rintro e w' ⟨rfl, hb'⟩
  have HB2 := below_call HB hb' (by simp)
  obtain ⟨d0, d1, d2, d3, d4⟩ := HBX.out _ HB2
  clear hb'
  have HL2 := Lib.hid (hl0.out.keep (below_of_box HB2))
  cases hm : t.markedB
  · go_wp2_with fail
    refine (refplain_any t _ _ HL2.out).mono ?_
    rintro e w2 ⟨rfl, hb'⟩
    have HB3 := below_call HB2 hb' (by have := HB2.size; simpa using this)
    clear hb'
    go_wp2
    go_ret
    exact ⟨ret_bool (by simp [Tm.rightB, hm]), below_of_box HB3⟩
  · go_wp2
    go_ret
    exact ⟨ret_bool (by simp [Tm.rightB, hm]), below_of_box HB2⟩

set_option maxHeartbeats 800000 in
theorem refpure_any (t : Tm) (w : World) (s : Value) (hl : Lies w t.kids s) (hs : t.size ≤ 1000000000000) : Calls Try.prog 15 #[tv t s] w fun e w' => e = .returned (.bool t.pureB) ∧ Below w.heap.size w w' := by
  obtain ⟨a, cap, S, hs, -⟩ := hl.out
  subst hs
  have HB := (Below.refl (w.heap.size + 1) (w.alloc (.cells #[.int .i64 t.k, .int .i64 t.i, .int .i64 t.j, .int .i64 t.n, .slice a t.kids.length cap] 32)))
  have HL := Lib.hid (hl.keep (below_of_box HB))
  have HBX := Lib.hid (fun (wr : World) => box_cells (w := w) (wr := wr) (v0 := .int .i64 t.k) (v1 := .int .i64 t.i) (v2 := .int .i64 t.j) (v3 := .int .i64 t.n) (v4 := .slice a t.kids.length cap) (T := 32))
  have hl0 := Lib.hid hl
  clear hl
  unfold tv
  go_enter Try.func15, Try.ntmps15
  go_wp2_with fail
  refine (refmarked_any t _ _ HL.out).mono ?_
  rintro e w' ⟨rfl, hb'⟩
  have HB2 := below_call HB hb' (by simp)
  obtain ⟨d0, d1, d2, d3, d4⟩ := HBX.out _ HB2
  clear hb'
  have HL2 := Lib.hid (hl0.out.keep (below_of_box HB2))
  cases hm : t.markedB
  · go_wp2
    go_ret
    exact ⟨ret_bool (by simp [Tm.pureB, hm]), below_of_box HB2⟩
  · go_wp2_with fail
    refine (refcount_any t _ _ HL2.out hs).mono ?_
    rintro e w2 ⟨rfl, hb'⟩
    have HB3 := below_call HB2 hb' (by have := HB2.size; simpa using this)
    clear hb'
    go_wp2
    go_ret
    exact ⟨ret_bool (by simp [Tm.pureB, hm]; (try rw [Bool.eq_iff_iff]); (try simp)), below_of_box HB3⟩

set_option maxHeartbeats 800000 in
theorem refFree_any (t : Tm) (w : World) (s : Value) (hl : Lies w t.kids s) : Calls Try.prog 16 #[tv t s] w fun e w' => e = .returned (.int .i64 t.freeB) ∧ Below w.heap.size w w' := by
  obtain ⟨a, cap, S, hs, -⟩ := hl.out
  subst hs
  have HB := (Below.refl (w.heap.size + 1) (w.alloc (.cells #[.int .i64 t.k, .int .i64 t.i, .int .i64 t.j, .int .i64 t.n, .slice a t.kids.length cap] 32)))
  have HL := Lib.hid (hl.keep (below_of_box HB))
  have HBX := Lib.hid (fun (wr : World) => box_cells (w := w) (wr := wr) (v0 := .int .i64 t.k) (v1 := .int .i64 t.i) (v2 := .int .i64 t.j) (v3 := .int .i64 t.n) (v4 := .slice a t.kids.length cap) (T := 32))
  have hl0 := Lib.hid hl
  clear hl
  unfold tv
  go_enter Try.func16, Try.ntmps16
  go_wp2_with fail
  refine (refright_any t _ _ HL.out).mono ?_
  rintro e w' ⟨rfl, hb'⟩
  have HB2 := below_call HB hb' (by simp)
  obtain ⟨d0, d1, d2, d3, d4⟩ := HBX.out _ HB2
  clear hb'
  have HL2 := Lib.hid (hl0.out.keep (below_of_box HB2))
  cases hr : t.rightB
  · go_wp2
    go_ret
    exact ⟨ret_int (by simp [Tm.freeB, hr]), below_of_box HB2⟩
  · go_wp2_with fail
    refine (reffree_any t _ _ HL2.out hr).mono ?_
    rintro e w2 ⟨rfl, hb'⟩
    have HB3 := below_call HB2 hb' (by have := HB2.size; simpa using this)
    clear hb'
    go_wp2
    go_ret
    exact ⟨ret_int (by simp [Tm.freeB, hr]), below_of_box HB3⟩

end Go.Proofs.Ytjlppnmckobcfaa

namespace Go.Proofs.Ytjlppnmckobcfaa

/-- An equality across types. -/
structure He where
  i : Int
  a : Tm
  b : Tm
  x : Tm
  y : Tm
  h : Tm
def He.zero : He := ⟨0, .zero, .zero, .zero, .zero, .zero⟩
def He.fine (h : He) : Prop := I64 h.i ∧ h.a.fine ∧ h.b.fine ∧ h.x.fine ∧ h.y.fine ∧ h.h.fine
/-- A family. -/
structure Fm where
  i : Int
  j : Int
  a : Tm
  c : Tm
  b : Tm
  d : Tm
  e : Tm
  f : Tm
def Fm.fine (g : Fm) : Prop := I64 g.i ∧ I64 g.j ∧ g.a.fine ∧ g.c.fine ∧ g.b.fine ∧ g.d.fine ∧ g.e.fine ∧ g.f.fine

end Go.Proofs.Ytjlppnmckobcfaa

namespace Go.Proofs.Ytjlppnmckobcfaa
open Go.RowKit

/-- What was there is there, but for block g. -/
def Sees (V : World) (g : Nat) (w' : World) : Prop := ∀ k, k < V.heap.size → k ≠ g → w'.heap[k]? = V.heap[k]?
theorem sees_kept {V W : World} (g : Nat) (h : Kept V W) : Sees V g W := fun k hk _ => Below.block h k hk
theorem sees_of {V W w' : World} {g : Nat} (h : Kept V W) (hs : Sees W g w') : Sees V g w' := fun k hk hne => (hs k (Nat.lt_of_lt_of_le hk (Below.size h)) hne).trans (Below.block h k hk)
theorem extract_list {C vs : Array Value} {o : Nat} (h : (C.toList.drop o).take vs.size = vs.toList) : C.extract o (o + vs.size) = vs := by
  apply Array.toList_inj.1
  rw [← h, Array.toList_extract]
  simp
/-- A cell of a block. -/
theorem part_cell {V : World} {r g : Nat} {C : Array Value} {T : TypeId} {fr : Nat × Nat} (h : V.heap[g]? = some (.cells C T fr)) (hne : g ≠ r) (o : Nat) (v : Value) (hv : C[o]? = some v) : ∀ w', Sees V r w' → w'.cell? ⟨g, o, none⟩ = some v := fun w' hk => by
  have hb : w'.heap[g]? = some (.cells C T fr) := (hk g (block_lt h) hne).trans h
  rw [cell_of_row w' g o C T fr hb]; exact hv
theorem kept_refl (w : World) : Kept w w := Below.refl _ _
theorem kept_trans {w w1 w2 : World} (h : Kept w w1) (h' : Kept w1 w2) : Kept w w2 := kept_call h h'
theorem kept_new (w : World) (o : Obj) : Kept w (w.alloc o) := (Below.refl _ _).alloc (Nat.le_refl _) _

/-- An equality across types by value. -/
abbrev hv (h : He) (sa sb sx sy sh : Value) : Value := .agg #[.int .i64 h.i, .int .i64 h.a.k, .int .i64 h.a.i, .int .i64 h.a.j, .int .i64 h.a.n, sa, .int .i64 h.b.k, .int .i64 h.b.i, .int .i64 h.b.j, .int .i64 h.b.n, sb, .int .i64 h.x.k, .int .i64 h.x.i, .int .i64 h.x.j, .int .i64 h.x.n, sx, .int .i64 h.y.k, .int .i64 h.y.i, .int .i64 h.y.j, .int .i64 h.y.n, sy, .int .i64 h.h.k, .int .i64 h.h.i, .int .i64 h.h.j, .int .i64 h.h.n, sh]
def HLies (w : World) (h : He) (sa sb sx sy sh : Value) : Prop := Lies w h.a.kids sa ∧ Lies w h.b.kids sb ∧ Lies w h.x.kids sx ∧ Lies w h.y.kids sy ∧ Lies w h.h.kids sh
theorem HLies.keep {w w' : World} {h : He} {sa sb sx sy sh : Value} (H : HLies w h sa sb sx sy sh) (hb : Kept w w') : HLies w' h sa sb sx sy sh := ⟨H.1.keep hb, H.2.1.keep hb, H.2.2.1.keep hb, H.2.2.2.1.keep hb, H.2.2.2.2.keep hb⟩
def FLies (w : World) (g : Fm) (sa sc sb sd se sf : Value) : Prop := Lies w g.a.kids sa ∧ Lies w g.c.kids sc ∧ Lies w g.b.kids sb ∧ Lies w g.d.kids sd ∧ Lies w g.e.kids se ∧ Lies w g.f.kids sf
theorem FLies.keep {w w' : World} {g : Fm} {sa sc sb sd se sf : Value} (H : FLies w g sa sc sb sd se sf) (hb : Kept w w') : FLies w' g sa sc sb sd se sf := ⟨H.1.keep hb, H.2.1.keep hb, H.2.2.1.keep hb, H.2.2.2.1.keep hb, H.2.2.2.2.1.keep hb, H.2.2.2.2.2.keep hb⟩

end Go.Proofs.Ytjlppnmckobcfaa

namespace Go.Proofs.Ytjlppnmckobcfaa
open Go.RowKit

/-- Terms behind a slice, at whatever place of blocks of which P speaks. -/
inductive LiesQ (w : World) (P : Nat → Prop) : List Tm → Value → Prop
  | mk (l : List Tm) (a : Option Addr) (cap : Nat) (S : Nat → Value) (hc : l.length ≤ cap) (hm : cap ≤ maxLen) (hf : ∀ x ∈ l, x.fine)
      (hn : ∀ i (h : i < l.length), ∃ b o, a = some ⟨b, o, none⟩ ∧ P b ∧ Node w b (o + i * 5) l[i] (S i)) (hk : ∀ i (h : i < l.length), LiesQ w P (l[i]).kids (S i)) : LiesQ w P l (.slice a l.length cap)

theorem LiesQ.lies {w : World} {P : Nat → Prop} {l : List Tm} {s : Value} (h : LiesQ w P l s) : Lies w l s := by
  induction h with
  | mk l a cap S hc hm hf hn hk ih => exact .mk l a cap S hc hm hf (fun i hi => by obtain ⟨b, o, ha, _, hx⟩ := hn i hi; exact ⟨b, o, ha, hx⟩) ih
theorem Lies.q {w : World} {l : List Tm} {s : Value} (h : Lies w l s) : LiesQ w (fun b => b < w.heap.size) l s := by
  induction h with
  | mk l a cap S hc hm hf hn hk ih => exact .mk l a cap S hc hm hf (fun i hi => by obtain ⟨b, o, ha, hx⟩ := hn i hi; exact ⟨b, o, ha, hx.lt, hx⟩) ih
theorem LiesQ.keep {w w' : World} {P Q : Nat → Prop} {l : List Tm} {s : Value} (h : LiesQ w P l s) (hb : ∀ b, P b → b < w.heap.size → w'.heap[b]? = w.heap[b]?) (hq : ∀ b, P b → b < w.heap.size → Q b) : LiesQ w' Q l s := by
  induction h with
  | mk l a cap S hc hm hf hn hk ih =>
    exact .mk l a cap S hc hm hf (fun i hi => by obtain ⟨b, o, ha, hp, hx⟩ := hn i hi; exact ⟨b, o, ha, hq b hp hx.lt, hx.same (hb b hp hx.lt)⟩) ih
theorem LiesQ.later {w w' : World} {P : Nat → Prop} {l : List Tm} {s : Value} (h : LiesQ w P l s) (hb : Below w.heap.size w w') : LiesQ w' P l s := h.keep (fun b _ hlt => hb.block b hlt) (fun _ hp _ => hp)
theorem LiesQ.wide {w : World} {P Q : Nat → Prop} {l : List Tm} {s : Value} (h : LiesQ w P l s) (hq : ∀ b, P b → Q b) : LiesQ w Q l s := h.keep (fun _ _ _ => rfl) (fun b hp _ => hq b hp)
theorem LiesQ.out {w : World} {P : Nat → Prop} {l : List Tm} {s : Value} (h : LiesQ w P l s) : ∃ (a : Option Addr) (cap : Nat) (S : Nat → Value), s = .slice a l.length cap ∧ l.length ≤ cap ∧ cap ≤ maxLen ∧ (∀ x ∈ l, x.fine) ∧
    (∀ i (h : i < l.length), ∃ b o, a = some ⟨b, o, none⟩ ∧ P b ∧ Node w b (o + i * 5) l[i] (S i)) ∧ (∀ i (h : i < l.length), LiesQ w P (l[i]).kids (S i)) := by
  cases h with
  | mk l a cap S hc hm hf hn hk => exact ⟨a, cap, S, rfl, hc, hm, hf, hn, hk⟩
theorem liesQ_nil (w : World) (P : Nat → Prop) : LiesQ w P [] (.slice none 0 0) := .mk [] none 0 (fun _ => .nilIface) (Nat.le_refl _) (by decide) (fun _ h => by cases h) (fun _ h => by cases h) (fun _ h => by cases h)

/-- What lies in a call's own memory. -/
theorem LiesP.q {w : World} {P : Nat → Prop} {l : List Tm} {s : Value} (h : LiesP w P l s) : LiesQ w P l s := by
  induction h with
  | mk l a cap S hc hm hf hn hk ih => exact .mk l a cap S hc hm hf (fun i hi => by obtain ⟨b, ha, hp, hx⟩ := hn i hi; exact ⟨b, 0, ha, hp, by rw [Nat.zero_add]; exact hx⟩) ih

/-- Blocks that were there before E, or that are new since N. -/
def Far (E N b : Nat) : Prop := b < E ∨ N ≤ b
structure MadeQ (E N B : Nat) (w : World) (v : Value) (ps : List (Tm × Value)) : Prop where
  own : w.ownsRow B 32 5 v ps.length (cells5 ps)
  fine : ∀ p ∈ ps, p.1.fine
  kids : ∀ p ∈ ps, LiesQ w (fun b => Far E N b ∧ v.ownBlock ≠ some b) p.1.kids p.2
end Go.Proofs.Ytjlppnmckobcfaa

namespace Go.Proofs.Ytjlppnmckobcfaa
open Go.RowKit

/-- A term is handed back: its lists lie in blocks of P or in new ones. -/
def GivesP (P : Nat → Prop) (u : Tm) (w : World) (e : Ending) (w' : World) : Prop := ∃ s' : Value, e = .returned (tv u s') ∧ LiesQ w' (fun b => P b ∨ w.heap.size ≤ b) u.kids s' ∧ Kept w w'
theorem Makes.givesP {P : Nat → Prop} {u : Tm} {w w' : World} {e : Ending} (h : Makes u w e w') : GivesP P u w e w' := by
  obtain ⟨s', h1, h2, h3⟩ := h
  exact ⟨s', h1, h2.q.wide (fun _ hb => Or.inr hb.1), h3⟩
/-- A list is handed back. -/
def GivesLP (P : Nat → Prop) (l : List Tm) (w : World) (e : Ending) (w' : World) : Prop := ∃ s' : Value, e = .returned s' ∧ LiesQ w' (fun b => P b ∨ w.heap.size ≤ b) l s' ∧ Kept w w'
theorem MakesAll.givesP {P : Nat → Prop} {l : List Tm} {w w' : World} {e : Ending} (h : MakesAll l w e w') : GivesLP P l w e w' := by
  obtain ⟨s', h1, h2, h3⟩ := h
  exact ⟨s', h1, h2.q.wide (fun _ hb => Or.inr hb.1), h3⟩
/-- Blocks of P that were there at w, and those from n on but for X (the body's own variables). -/
def Par (w : World) (n : Nat) (X : List Nat) (P : Nat → Prop) (b : Nat) : Prop := (P b ∧ b < w.heap.size) ∨ (n ≤ b ∧ b ∉ X)
def XLt (X : List Nat) (V : World) : Prop := ∀ x ∈ X, x < V.heap.size
theorem xlt_nil (V : World) : XLt [] V := fun _ h => by cases h
theorem xlt_later {X : List Nat} {V W : World} (h : XLt X V) (hk : Kept V W) : XLt X W := fun x hx => Nat.lt_of_lt_of_le (h x hx) (Below.size hk)
theorem xlt_more {X : List Nat} {V W : World} (h : XLt X V) (hk : Kept V W) (hs : V.heap.size < W.heap.size) : XLt (V.heap.size :: X) W := fun x hx => by
  rcases List.mem_cons.1 hx with rfl | hx
  · exact hs
  · exact Nat.lt_of_lt_of_le (h x hx) (Below.size hk)
theorem xlt_set {X : List Nat} {V W : World} {g : Nat} {cs : Array Value} (h : XLt X V) (hw : V.setRow g cs = W) : XLt X W := fun x hx => by rw [← hw, setRow_size]; exact h x hx
theorem par_in {w : World} {P : Nat → Prop} {l : List Tm} {s : Value} (n : Nat) (X : List Nat) (h : LiesQ w P l s) : LiesQ w (Par w n X P) l s := h.keep (fun _ _ _ => rfl) (fun _ hp hlt => Or.inl ⟨hp, hlt⟩)
theorem par_give {w V w' : World} {n : Nat} {X : List Nat} {P : Nat → Prop} {l : List Tm} {s : Value} (h : LiesQ w' (fun b => Par w n X P b ∨ V.heap.size ≤ b) l s) (hn : n ≤ V.heap.size) (hX : XLt X V) : LiesQ w' (Par w n X P) l s :=
  h.wide (fun b hb => hb.elim id (fun h => Or.inr ⟨Nat.le_trans hn h, fun hx => by have := hX b hx; omega⟩))
/-- Such a variable is stored. -/
theorem par_set {w V W : World} {n g : Nat} {X : List Nat} {P : Nat → Prop} {l : List Tm} {s : Value} {cs : Array Value} (h : LiesQ V (Par w n X P) l s) (hw : V.setRow g cs = W) (hg : g ∈ X) (hn : w.heap.size ≤ g) : LiesQ W (Par w n X P) l s := by
  subst hw
  exact h.keep (fun b hb _ => setRow_other _ _ _ _ (by rintro rfl; rcases hb with ⟨-, hb⟩ | hb; omega; exact hb.2 hg)) (fun _ hb _ => hb)
/-- A block of the body's beginning is stored. -/
theorem par_row' {w V W : World} {n g : Nat} {X : List Nat} {P : Nat → Prop} {l : List Tm} {s : Value} {cs : Array Value} (h : LiesQ V (Par w n X P) l s) (hw : V.setRow g cs = W) (hg : w.heap.size ≤ g) (hg2 : g < n) : LiesQ W (Par w n X P) l s := by
  subst hw
  exact h.keep (fun b hb _ => setRow_other _ _ _ _ (by rcases hb with ⟨-, hb⟩ | hb <;> omega)) (fun _ hb _ => hb)
theorem par_end {w V : World} {n : Nat} {X : List Nat} {P : Nat → Prop} {l : List Tm} {s : Value} (h : LiesQ V (Par w n X P) l s) (hn : w.heap.size ≤ n) : LiesQ V (fun b => P b ∨ w.heap.size ≤ b) l s :=
  h.wide (fun _ hb => hb.elim (fun h => Or.inl h.1) (fun h => Or.inr (Nat.le_trans hn h.1)))
theorem kept_set {b V W : World} {g : Nat} {cs : Array Value} (h : Kept b V) (hw : V.setRow g cs = W) (hg : b.heap.size ≤ g) : Kept b W := by subst hw; exact below_setRow h hg _
theorem sees_set {V W W' : World} {g : Nat} {cs : Array Value} (h : Kept V W) (hw : W.setRow g cs = W') : Sees V g W' := by
  subst hw
  exact fun k hk hne => (setRow_other _ _ _ _ hne).trans (Below.block h k hk)
theorem blk_same {V W : World} {g : Nat} {old cs : Array Value} {T : TypeId} {fr : Nat × Nat} (h : V.heap[g]? = some (.cells old T fr)) (hw : V.setRow g cs = W) : W.heap[g]? = some (.cells cs T fr) := by subst hw; exact setRow_heap _ _ _ _ _ _ h
theorem blk_other {V W : World} {g k : Nat} {cs : Array Value} {o : Obj} (h : V.heap[k]? = some o) (hw : V.setRow g cs = W) (hne : k ≠ g) : W.heap[k]? = some o := by subst hw; rw [setRow_other _ _ _ _ hne]; exact h
theorem mk_fine {k i j n : Int} {l : List Tm} (hk : I64 k) (hi : I64 i) (hj : I64 j) (hn : I64 n) : (Tm.mk k i j n l).fine := ⟨hk, hi, hj, hn⟩
theorem at_world {P : Program} {f : FuncId} {args : Array Value} {V : World} {K : Ending → World → Prop} (h : ∀ W, V = W → Calls P f args W K) : Calls P f args V K := h V rfl
theorem at_code {P : Program} {c : Code} {Q : Exit → Act → World → Prop} {a : Act} {V : World} (h : ∀ W, V = W → c.wp P Q a W) : c.wp P Q a V := h V rfl
theorem stop_store {P : Program} {ops : Array Oper} {rest : List Oper} {o : Oper} {a : Act} {w : World} {Q : Exit → Act → World → Prop} (ty : TypeId) (x y : Operand) (_ : o.op = .store ty x y) (h : True → wpList P ops Q (o :: rest) a w) : wpList P ops Q (o :: rest) a w := h trivial
theorem stop_load {P : Program} {ops : Array Oper} {rest : List Oper} {o : Oper} {a : Act} {w : World} {Q : Exit → Act → World → Prop} (ty : TypeId) (x : Operand) (_ : o.op = .load ty x) (h : True → wpList P ops Q (o :: rest) a w) : wpList P ops Q (o :: rest) a w := h trivial
theorem run_loadAt_part {P : Program} {w : World} {g : Nat} {C : Array Value} {T : TypeId} {fr : Nat × Nat} (hb : w.heap[g]? = some (.cells C T fr)) (o : Nat) (ty : TypeId) (vs : Array Value) (d : TypeDesc) (hv : (C.toList.drop o).take vs.size = vs.toList)
    (hu : P.underlying ty = some d) (hd : (match d with | .struct _ | .array _ _ => true | _ => false) = true) (hi : (P.info? ty).map (·.size) = some vs.size) :
    (Instr.loadAt ty (.pointer (some ⟨g, o, none⟩))).run P w = .ok (.agg vs) w := by
  have hr := World.rangeAt_of_block hb o vs.size
  rw [extract_list hv] at hr
  have := run_loadAt_mid (P := P) w g o ty vs.toList d hr hu (by cases d <;> first | rfl | exact hd) (by simpa using hi)
  simpa using this
theorem wpList_load_part {P : Program} {ops : Array Oper} {rest : List Oper} {op : Oper} {a : Act} {w : World} {Q : Exit → Act → World → Prop} (g o : Nat) (ty : TypeId) (x : Operand) (vs : Array Value) (d : TypeDesc) {C : Array Value} {T : TypeId} {fr : Nat × Nat}
    (hg : w.heap[g]? = some (.cells C T fr)) (hw : Region.wanted op (yielded ops a.tmps) = true) (ho : op.op = .load ty x) (hx : a.eval x = .pointer (some ⟨g, o, none⟩)) (hv : (C.toList.drop o).take vs.size = vs.toList)
    (hu : P.underlying ty = some d) (hd : (match d with | .struct _ | .array _ _ => true | _ => false) = true) (hi : (P.info? ty).map (·.size) = some vs.size)
    (h : wpList P ops Q rest (a.put op.dst (.agg vs)) w) : wpList P ops Q (op :: rest) a w := by
  unfold wpList
  rw [if_pos hw]
  refine .inl ?_
  unfold Oper.wp execOp
  simp only [ho, hx, run_loadAt_part hg o ty vs d hv hu hd hi, Result.andThen_ok, Sem.run_bind, Sem.run_pure]
  exact h
theorem yields_part {P : Program} {ops : Array Oper} {S : World → Prop} {op : Oper} {a : Act} (g o : Nat) (ty : TypeId) (x : Operand) (vs : Array Value) (d : TypeDesc) {C : Array Value} {T : TypeId} {fr : Nat × Nat}
    (hS : ∀ w, S w → w.heap[g]? = some (.cells C T fr)) (hw : Region.wanted op (yielded ops a.tmps) = true) (ho : op.op = .load ty x) (hx : a.eval x = .pointer (some ⟨g, o, none⟩)) (hv : (C.toList.drop o).take vs.size = vs.toList)
    (hu : P.underlying ty = some d) (hd : (match d with | .struct _ | .array _ _ => true | _ => false) = true) (hi : (P.info? ty).map (·.size) = some vs.size) : YieldsIf P ops S op (.agg vs) a := by
  refine .inl ⟨hw, fun w h => ?_⟩
  unfold execOp
  simp only [ho, hx, run_loadAt_part (hS w h) o ty vs d hv hu hd hi, Result.andThen_ok, Sem.run_bind, Sem.run_pure]
theorem sees_blk {V w' : World} {r g : Nat} {o : Obj} (h : V.heap[g]? = some o) (hne : g ≠ r) (hs : Sees V r w') : w'.heap[g]? = some o := (hs g (block_lt h) hne).trans h
theorem row_ok {cells : Array Value} (h : cells.toList.all (·.oneCell') = true) : cells.all (·.oneCell') = true := by rw [← Array.all_toList]; exact h
theorem setCells_row (g : Nat) (t : TypeId) (fr : Nat × Nat) : ∀ (vs : List Value) (o : Nat) (cur : Array Value) (w : World), w.heap[g]? = some (.cells cur t fr) → o + vs.length ≤ cur.size →
    w.setCells g o vs = w.setRow g (cur.toList.take o ++ vs ++ cur.toList.drop (o + vs.length)).toArray
  | [], o, cur, w, hg, _ => by
    have e : (cur.toList.take o ++ ([] : List Value) ++ cur.toList.drop (o + ([] : List Value).length)).toArray = cur := by simp
    rw [e, setRow_self w g cur t fr hg]; rfl
  | v :: r, o, cur, w, hg, hl => by
    have hl' : o + 1 + r.length ≤ (cur.setIfInBounds o v).size := by simp at hl ⊢; omega
    rw [World.setCells, setCell_eq_setRow w g o cur t fr v hg, setCells_row g t fr r (o + 1) (cur.setIfInBounds o v) _ (setRow_heap w g cur _ t _ hg) hl', setRow_setRow]
    congr 2
    simp only [List.length_cons] at hl ⊢
    have ho : o < cur.toList.length := by simp; omega
    rw [Array.toList_setIfInBounds]
    rw [List.take_succ_eq_append_getElem (by simpa using ho), List.take_set_of_le (Nat.le_refl _), List.getElem_set_self, List.drop_set_of_lt (by omega)]
    simp [Nat.add_assoc, Nat.add_comm 1]
theorem run_storeVar_part {P : Program} (w : World) (g o : Nat) (t ty : TypeId) (old cells new : Array Value) (hg : w.heap[g]? = some (.cells old t (0, 0))) (hi : (P.info? ty).map (·.size) = some cells.size)
    (hn : old.toList.take o ++ cells.toList ++ old.toList.drop (o + cells.size) = new.toList) (hl : o + cells.size ≤ old.size) (h1 : cells.all (·.oneCell') = true) :
    (storeVar ty ⟨g, o, none⟩ (.agg cells)).run P w = .ok () (w.setRow g new) := by
  have ht : w.there g o cells.size := fun j hj => by
    rw [cell_of_row w g (o + j) old t _ hg]
    exact ⟨by rw [Array.getElem?_eq_getElem (by omega)]; rfl, by simp [World.frozen?, hg]⟩
  rw [run_storeVar_mid w g o ty cells ht hi h1, setCells_row g t (0, 0) cells.toList o old w hg (by simpa using hl)]
  simp only [Array.length_toList]
  rw [hn]
theorem wp_store_part {P : Program} {o : Oper} {a : Act} {w : World} {K : Act → World → Prop} {Q : Exit → Act → World → Prop} (ty : TypeId) (x y : Operand) (ho : o.op = .store ty x y)
    (g off : Nat) (cells : Array Value) (hx : a.eval x = .pointer (some ⟨g, off, none⟩)) (hy : a.eval y = .agg cells) (t : TypeId) (hi : (P.info? ty).map (·.size) = some cells.size) (h1 : cells.all (·.oneCell') = true)
    (old new : Array Value) (hg : w.heap[g]? = some (.cells old t (0, 0))) (hn : old.toList.take off ++ cells.toList ++ old.toList.drop (off + cells.size) = new.toList) (hl : off + cells.size ≤ old.size)
    (h : K (a.put o.dst undef) (w.setRow g new)) : o.wp P a w K Q := by
  unfold Oper.wp execOp
  simp only [ho, hx, hy, Instr.storeAt, Instr.sureAddr, Sem.run_bind, Sem.run_pure, Result.andThen_ok, run_storeVar_part w g off t ty old cells new hg hi hn hl h1]
  exact h
theorem step_store_part {P : Program} {ops : Array Oper} {o : Oper} {a : Act} {w : World} {K : Act → World → Prop} {Q : Exit → Act → World → Prop} {E : Prop} (hgd : o.guard = none) (ty : TypeId) (x y : Operand) (ho : o.op = .store ty x y)
    (g off : Nat) (cells : Array Value) (hx : a.eval x = .pointer (some ⟨g, off, none⟩)) (hy : a.eval y = .agg cells) (t : TypeId) (hi : (P.info? ty).map (·.size) = some cells.size) (h1 : cells.all (·.oneCell') = true)
    (old new : Array Value) (hg : w.heap[g]? = some (.cells old t (0, 0))) (hn : old.toList.take off ++ cells.toList ++ old.toList.drop (off + cells.size) = new.toList) (hl : off + cells.size ≤ old.size)
    (h : ∀ W, w.setRow g new = W → K (a.put o.dst undef) W) : if Region.wanted o (yielded ops a.tmps) = true then Oper.wp P o a w K Q else E := by
  have hw : Region.wanted o (yielded ops a.tmps) = true := by simp [Region.wanted, hgd]
  rw [if_pos hw]
  exact wp_store_part ty x y ho g off cells hx hy t hi h1 old new hg hn hl (h _ rfl)
theorem wpList_store_part_n {P : Program} {ops : Array Oper} {rest : List Oper} {o : Oper} {a : Act} {w : World} {Q : Exit → Act → World → Prop} (hgd : o.guard = none) (ty : TypeId) (x y : Operand) (ho : o.op = .store ty x y)
    (g off : Nat) (cells : Array Value) (hx : a.eval x = .pointer (some ⟨g, off, none⟩)) (hy : a.eval y = .agg cells) (t : TypeId) (hi : (P.info? ty).map (·.size) = some cells.size) (h1 : cells.all (·.oneCell') = true)
    (h : ∀ W, w = W → ∃ old new : Array Value, W.heap[g]? = some (.cells old t (0, 0)) ∧ old.toList.take off ++ cells.toList ++ old.toList.drop (off + cells.size) = new.toList ∧ off + cells.size ≤ old.size ∧ ∀ W', W.setRow g new = W' → wpList P ops Q rest (a.put o.dst undef) W') : wpList P ops Q (o :: rest) a w := by
  obtain ⟨old, new, hg, hn, hl, h2⟩ := h w rfl
  exact wpList_plain hgd fun _ hK => wp_store_part ty x y ho g off cells hx hy t hi h1 old new hg hn hl (hK _ _ (h2 _ rfl))
theorem blk_at {V W : World} {g : Nat} {o : Obj} (h : V.heap[g]? = some o) (hk : Kept V W) : W.heap[g]? = some o := (Below.block hk g (block_lt h)).trans h
theorem alloc1 {w V : World} {o0 : Obj} (h : w.alloc o0 = V) : Kept w V ∧ V.heap[w.heap.size]? = some o0 ∧ V.heap.size = w.heap.size + 1 := by
  subst h
  exact ⟨kept_new _ _, alloc_new _ _, by simp⟩
theorem alloc2 {w V : World} {o0 o1 : Obj} (h : (w.alloc o0).alloc o1 = V) : Kept w V ∧ V.heap[w.heap.size]? = some o0 ∧ V.heap[w.heap.size + 1]? = some o1 ∧ V.heap.size = w.heap.size + 2 := by
  obtain ⟨W, hW⟩ : ∃ W, w.alloc o0 = W := ⟨_, rfl⟩
  rw [hW] at h
  obtain ⟨hk, h0, hs⟩ := alloc1 hW
  obtain ⟨gk, g0, gs⟩ := alloc1 h
  exact ⟨kept_trans hk gk, blk_at h0 gk, by rw [← hs]; exact g0, by omega⟩
theorem alloc3 {w V : World} {o0 o1 o2 : Obj} (h : ((w.alloc o0).alloc o1).alloc o2 = V) : Kept w V ∧ V.heap[w.heap.size]? = some o0 ∧ V.heap[w.heap.size + 1]? = some o1 ∧ V.heap[w.heap.size + 2]? = some o2 ∧ V.heap.size = w.heap.size + 3 := by
  obtain ⟨W, hW⟩ : ∃ W, (w.alloc o0).alloc o1 = W := ⟨_, rfl⟩
  rw [hW] at h
  obtain ⟨hk, h0, h1, hs⟩ := alloc2 hW
  obtain ⟨gk, g0, gs⟩ := alloc1 h
  exact ⟨kept_trans hk gk, blk_at h0 gk, blk_at h1 gk, by rw [← hs]; exact g0, by omega⟩
/-- The five lists of an equality across types. -/
def HQ (w : World) (P : Nat → Prop) (h : He) (sa sb sx sy sh : Value) : Prop := LiesQ w P h.a.kids sa ∧ LiesQ w P h.b.kids sb ∧ LiesQ w P h.x.kids sx ∧ LiesQ w P h.y.kids sy ∧ LiesQ w P h.h.kids sh
theorem HQ.lies {w : World} {P : Nat → Prop} {h : He} {sa sb sx sy sh : Value} (H : HQ w P h sa sb sx sy sh) : HLies w h sa sb sx sy sh := ⟨H.1.lies, H.2.1.lies, H.2.2.1.lies, H.2.2.2.1.lies, H.2.2.2.2.lies⟩
theorem HLies.q {w : World} {h : He} {sa sb sx sy sh : Value} (H : HLies w h sa sb sx sy sh) : HQ w (fun b => b < w.heap.size) h sa sb sx sy sh := ⟨H.1.q, H.2.1.q, H.2.2.1.q, H.2.2.2.1.q, H.2.2.2.2.q⟩
def FQ (w : World) (P : Nat → Prop) (g : Fm) (sa sc sb sd se sf : Value) : Prop := LiesQ w P g.a.kids sa ∧ LiesQ w P g.c.kids sc ∧ LiesQ w P g.b.kids sb ∧ LiesQ w P g.d.kids sd ∧ LiesQ w P g.e.kids se ∧ LiesQ w P g.f.kids sf
theorem FLies.q {w : World} {g : Fm} {sa sc sb sd se sf : Value} (H : FLies w g sa sc sb sd se sf) : FQ w (fun b => b < w.heap.size) g sa sc sb sd se sf := ⟨H.1.q, H.2.1.q, H.2.2.1.q, H.2.2.2.1.q, H.2.2.2.2.1.q, H.2.2.2.2.2.q⟩
theorem under_of (t : TypeId) (h : (Try.prog.underlying t).map (fun d => match d with | .struct _ | .array _ _ => true | _ => false) = some true) : ∃ d, Try.prog.underlying t = some d ∧ (match d with | .struct _ | .array _ _ => true | _ => false) = true := by
  cases e : Try.prog.underlying t with
  | none => rw [e] at h; cases h
  | some d => rw [e] at h; exact ⟨d, rfl, Option.some.inj h⟩
end Go.Proofs.Ytjlppnmckobcfaa

namespace Go.Proofs.Ytjlppnmckobcfaa
open Go.RowKit

def SeesN (V : World) (_ : Nat) (w' : World) : Prop := ∀ k, k < V.heap.size → w'.heap[k]? = V.heap[k]?
theorem seesN_kept {V W : World} (g : Nat) (h : Kept V W) : SeesN V g W := fun k hk => Below.block h k hk
theorem seesN_of {V W w' : World} {g : Nat} (h : Kept V W) (hs : SeesN W g w') : SeesN V g w' := fun k hk => (hs k (Nat.lt_of_lt_of_le hk (Below.size h))).trans (Below.block h k hk)
theorem partN_cell {V : World} {r g : Nat} {C : Array Value} {T : TypeId} {fr : Nat × Nat} (h : V.heap[g]? = some (.cells C T fr)) (_ : True) (o : Nat) (v : Value) (hv : C[o]? = some v) : ∀ w', SeesN V r w' → w'.cell? ⟨g, o, none⟩ = some v := fun w' hk => by
  have hb : w'.heap[g]? = some (.cells C T fr) := (hk g (block_lt h)).trans h
  rw [cell_of_row w' g o C T fr hb]; exact hv
theorem seesN_blk {V w' : World} {r g : Nat} {o : Obj} (h : V.heap[g]? = some o) (_ : True) (hs : SeesN V r w') : w'.heap[g]? = some o := (hs g (block_lt h)).trans h
theorem par_grow {w V W : World} {n : Nat} {X X' : List Nat} {P : Nat → Prop} {l : List Tm} {s : Value} (h : LiesQ V (Par w n X P) l s) (hk : Kept V W) (hx : ∀ x, x ∈ X' → x ∈ X ∨ V.heap.size ≤ x) : LiesQ W (Par w n X' P) l s :=
  h.keep (fun b _ hlt => Below.block hk b hlt) (fun b hb hlt => hb.imp id (fun hb => ⟨hb.1, fun hm => (hx b hm).elim hb.2 (fun h => absurd hlt (Nat.not_lt.2 h))⟩))
end Go.Proofs.Ytjlppnmckobcfaa

namespace Go.Proofs.Ytjlppnmckobcfaa
open Go

section
variable {P : Program} {ops : Array Oper} {Q : Exit → Act → World → Prop} {md : Region.Mode} {S : World → Prop} {k0 : Nat}

def wpAnyX (P : Program) (md : Region.Mode) (ops : Array Oper) (Q : Exit → Act → World → Prop) (S : World → Prop) (k0 : Nat) : Nat → Array Bool → Act → World → Prop
  | 0, listed, a, w => Region.ready md ops listed = [] ∧ Q .normal a w
  | fuel + 1, listed, a, w =>
    (Region.ready md ops listed = [] → Q .normal a w) ∧
    ∀ i ∈ Region.ready md ops listed, wpOp P ops Q i (fun a' w' => ((listed.setIfInBounds i true).getD k0 true = false → S w') ∧ wpAnyX P md ops Q S k0 fuel (listed.setIfInBounds i true) a' w') a w

theorem wpAny_of_X : ∀ (fuel : Nat) (listed : Array Bool) (a : Act) (w : World), wpAnyX P md ops Q S k0 fuel listed a w → wpAny P md ops Q fuel listed a w
  | 0, _, _, _, h => h
  | fuel + 1, _, _, _, h => ⟨h.1, fun i hi => wpOp_mono (fun a' w' h' => wpAny_of_X fuel _ a' w' h'.2) (h.2 i hi)⟩

theorem getD_set_ne' {l : Array Bool} {i k : Nat} (h : i ≠ k) : (l.setIfInBounds i true).getD k true = l.getD k true := getD_set_ne true h

theorem wpAnyX_first {i : Nat} {oi : Oper} {v : Value} (hi : ops[i]? = some oi) (hsel : ∀ (j : Nat) (o : Oper) cs b, ops[j]? = some o → o.op ≠ .select cs b)
    (hQ : ∀ c a w, Q (.panic c) (a.put oi.dst v) w → Q (.panic c) a w) (hki : i ≠ k0)
    (hwait : ∃ ok, ops[k0]? = some ok ∧ ∃ e ∈ ok.after, Region.binds md e = true ∧ e.on = i) :
    ∀ (fuel : Nat) (listed : Array Bool) (a : Act) (w : World),
      (∀ j oj, ops[j]? = some oj → j ≠ i → listed.getD j true = false → (∀ e ∈ oj.after, Region.binds md e = true → e.on ≠ i) → oi.apart ops oj = true) →
      i ∈ Region.ready md ops listed → listed.getD k0 true = false → YieldsIf P ops S oi v a → S w →
      wpAnyX P md ops Q S k0 fuel (listed.setIfInBounds i true) (a.put oi.dst v) w → wpAnyX P md ops Q S k0 (fuel + 1) listed a w := by
  intro fuel
  induction fuel with
  | zero =>
    intro listed a w _ hr _ hy hS H
    refine ⟨fun h => (by rw [h] at hr; cases hr), fun j hj => ?_⟩
    by_cases hji : j = i
    · subst hji; exact hy.wpOp hi hS ⟨fun _ => hS, H⟩
    · have := ready_mono hj hji
      rw [H.1] at this
      cases this
  | succ fuel ih =>
    intro listed a w hfree hr hun0 hy hS H
    refine ⟨fun h => (by rw [h] at hr; cases hr), fun j hj => ?_⟩
    by_cases hji : j = i
    · subst hji; exact hy.wpOp hi hS ⟨fun _ => hS, H⟩
    · have h1 := H.2 j (ready_mono hj hji)
      obtain ⟨hjun, oj, hoj, hall⟩ := mem_ready.1 hj
      have hnot : ∀ e ∈ oj.after, Region.binds md e = true → e.on ≠ i := fun e he hb heq => by
        have h1 := hall e he hb
        have h0 := (mem_ready.1 hr).1
        rw [heq] at h1
        rcases Nat.lt_or_ge i listed.size with h' | h'
        · simp [h'] at h0 h1; rw [h0] at h1; cases h1
        · simp [Array.getElem?_eq_none h'] at h1
      have hjk : j ≠ k0 := fun e => by
        obtain ⟨ok, hok, e', he', hb', hon⟩ := hwait
        rw [e, hok] at hoj
        exact hnot e' (by rw [← Option.some.inj hoj]; exact he') hb' hon
      have h2 := wpOp_putIf hoj (hfree j oj hoj hji hjun hnot) (fun cs b => hsel i oi cs b hi) (fun cs b => hsel j oj cs b hoj) hQ hy h1
      have hfree' : ∀ k ok, ops[k]? = some ok → k ≠ i → (listed.setIfInBounds j true).getD k true = false →
          (∀ e ∈ ok.after, Region.binds md e = true → e.on ≠ i) → oi.apart ops ok = true := fun k ok hk hki hun hno => by
        refine hfree k ok hk hki ?_ hno
        by_cases hjk : j = k
        · subst hjk; exact hjun
        · rw [getD_set_ne true hjk] at hun; exact hun
      have hun' : (listed.setIfInBounds j true).getD k0 true = false := by rw [getD_set_ne' hjk]; exact hun0
      have hun2 : ((listed.setIfInBounds i true).setIfInBounds j true).getD k0 true = false := by rw [getD_set_ne' hjk, getD_set_ne' hki]; exact hun0
      refine wpOp_mono (fun a' w' h3 => ⟨fun _ => h3.2.1 hun2, ih (listed.setIfInBounds j true) a' w' hfree' (ready_mono hr (Ne.symm hji)) hun' h3.1 (h3.2.1 hun2) ?_⟩) h2
      rw [Array.setIfInBounds_comm _ _ hji]
      exact h3.2.2

/-- What yields in whatever world may be taken at any time. -/
theorem wpAnyX_any {i : Nat} {oi : Oper} {v : Value} (hi : ops[i]? = some oi) (hsel : ∀ (j : Nat) (o : Oper) cs b, ops[j]? = some o → o.op ≠ .select cs b)
    (hQ : ∀ c a w, Q (.panic c) (a.put oi.dst v) w → Q (.panic c) a w) (hki : i ≠ k0) :
    ∀ (fuel : Nat) (listed : Array Bool) (a : Act) (w : World),
      (∀ j oj, ops[j]? = some oj → j ≠ i → listed.getD j true = false → (∀ e ∈ oj.after, Region.binds md e = true → e.on ≠ i) → oi.apart ops oj = true) →
      i ∈ Region.ready md ops listed → YieldsIf P ops (fun _ => True) oi v a → (listed.getD k0 true = false → S w) →
      wpAnyX P md ops Q S k0 fuel (listed.setIfInBounds i true) (a.put oi.dst v) w → wpAnyX P md ops Q S k0 (fuel + 1) listed a w := by
  intro fuel
  induction fuel with
  | zero =>
    intro listed a w _ hr hy hS H
    refine ⟨fun h => (by rw [h] at hr; cases hr), fun j hj => ?_⟩
    by_cases hji : j = i
    · subst hji; exact hy.wpOp hi trivial ⟨fun h => hS (by rw [getD_set_ne' hki] at h; exact h), H⟩
    · have := ready_mono hj hji
      rw [H.1] at this
      cases this
  | succ fuel ih =>
    intro listed a w hfree hr hy hS H
    refine ⟨fun h => (by rw [h] at hr; cases hr), fun j hj => ?_⟩
    by_cases hji : j = i
    · subst hji; exact hy.wpOp hi trivial ⟨fun h => hS (by rw [getD_set_ne' hki] at h; exact h), H⟩
    · have h1 := H.2 j (ready_mono hj hji)
      obtain ⟨hjun, oj, hoj, hall⟩ := mem_ready.1 hj
      have hnot : ∀ e ∈ oj.after, Region.binds md e = true → e.on ≠ i := fun e he hb heq => by
        have h1 := hall e he hb
        have h0 := (mem_ready.1 hr).1
        rw [heq] at h1
        rcases Nat.lt_or_ge i listed.size with h' | h'
        · simp [h'] at h0 h1; rw [h0] at h1; cases h1
        · simp [Array.getElem?_eq_none h'] at h1
      have h2 := wpOp_putIf hoj (hfree j oj hoj hji hjun hnot) (fun cs b => hsel i oi cs b hi) (fun cs b => hsel j oj cs b hoj) hQ hy h1
      have hfree' : ∀ k ok, ops[k]? = some ok → k ≠ i → (listed.setIfInBounds j true).getD k true = false →
          (∀ e ∈ ok.after, Region.binds md e = true → e.on ≠ i) → oi.apart ops ok = true := fun k ok hk hki hun hno => by
        refine hfree k ok hk hki ?_ hno
        by_cases hjk : j = k
        · subst hjk; exact hjun
        · rw [getD_set_ne true hjk] at hun; exact hun
      have hcomm : (listed.setIfInBounds i true).setIfInBounds j true = (listed.setIfInBounds j true).setIfInBounds i true := Array.setIfInBounds_comm _ _ (Ne.symm hji)
      have hget : ((listed.setIfInBounds i true).setIfInBounds j true).getD k0 true = (listed.setIfInBounds j true).getD k0 true := by rw [hcomm, getD_set_ne' hki]
      refine wpOp_mono (fun a' w' h3 => ⟨fun h => h3.2.1 (by rw [hget]; exact h), ih (listed.setIfInBounds j true) a' w' hfree' (ready_mono hr (Ne.symm hji)) h3.1 (fun h => h3.2.1 (by rw [hget]; exact h)) ?_⟩) h2
      rw [Array.setIfInBounds_comm _ _ hji]
      exact h3.2.2

theorem takeX_at (i d : Nat) (oi : Oper) {v : Value} {fuel : Nat} {listed : Array Bool} {a : Act} {w : World} (hy : YieldsIf P ops S oi v a)
    (h : wpAnyX P md ops Q S k0 fuel (listed.setIfInBounds i true) (a.put (some d) v) w)
    (hi : ops[i]? = some oi := by rfl) (hd : oi.dst = some d := by rfl)
    (hs : Region.noSelect ops = true := by kernel_rfl) (hf : Region.free md ops listed i = true := by kernel_rfl) (hr : (Region.ready md ops listed).contains i = true := by kernel_rfl)
    (hw : (ops[k0]?.map fun o => o.after.any fun e => Region.binds md e && e.on == i) = some true := by kernel_rfl) (hne : (i != k0) = true := by kernel_rfl) (hun : listed.getD k0 true = false := by kernel_rfl)
    (hQ : ∀ c a w, Q (.panic c) (a.put (some d) v) w → Q (.panic c) a w := by exact fun _ _ _ h => h) (hS : S w := by assumption) : wpAnyX P md ops Q S k0 (fuel + 1) listed a w := by
  rw [← hd] at hQ h
  refine wpAnyX_first hi (Region.noSelect_spec hs) hQ (by simpa using hne) ?_ fuel listed a w (Region.free_spec hi hf) (by simpa using hr) hun hy hS h
  obtain ⟨ok, hok, h2⟩ := Option.map_eq_some_iff.1 hw
  obtain ⟨e, he, h3⟩ := Array.any_eq_true'.1 h2
  simp only [Bool.and_eq_true, beq_iff_eq] at h3
  exact ⟨ok, hok, e, he, h3.1, h3.2⟩
theorem takeX_any (i d : Nat) (oi : Oper) {v : Value} {fuel : Nat} {listed : Array Bool} {a : Act} {w : World} (hy : YieldsIf P ops (fun _ => True) oi v a)
    (h : wpAnyX P md ops Q S k0 fuel (listed.setIfInBounds i true) (a.put (some d) v) w) (hS : listed.getD k0 true = false → S w)
    (hi : ops[i]? = some oi := by rfl) (hd : oi.dst = some d := by rfl)
    (hs : Region.noSelect ops = true := by kernel_rfl) (hf : Region.free md ops listed i = true := by kernel_rfl) (hr : (Region.ready md ops listed).contains i = true := by kernel_rfl) (hne : (i != k0) = true := by kernel_rfl)
    (hQ : ∀ c a w, Q (.panic c) (a.put (some d) v) w → Q (.panic c) a w := by exact fun _ _ _ h => h) : wpAnyX P md ops Q S k0 (fuel + 1) listed a w := by
  rw [← hd] at hQ h
  exact wpAnyX_any hi (Region.noSelect_spec hs) hQ (by simpa using hne) fuel listed a w (Region.free_spec hi hf) (by simpa using hr) hy hS h

def AllReadyX (P : Program) (md : Region.Mode) (ops : Array Oper) (Q : Exit → Act → World → Prop) (S : World → Prop) (k0 : Nat) (fuel : Nat) (listed : Array Bool) (a : Act) (w : World) (rs : List Nat) : Prop :=
  ∀ i ∈ rs, wpOp P ops Q i (fun a' w' => ((listed.setIfInBounds i true).getD k0 true = false → S w') ∧ wpAnyX P md ops Q S k0 fuel (listed.setIfInBounds i true) a' w') a w
theorem AllReadyX.nil {fuel : Nat} {listed : Array Bool} {a : Act} {w : World} : AllReadyX P md ops Q S k0 fuel listed a w [] := fun _ h => by cases h
theorem AllReadyX.cons {fuel : Nat} {listed : Array Bool} {a : Act} {w : World} {i : Nat} {o : Oper} {rs : List Nat} (ho : ops[i]? = some o)
    (h : ∀ K' : Act → World → Prop, Shut (∀ a w, ((listed.setIfInBounds i true).getD k0 true = false → S w) → (((listed.setIfInBounds i true).getD k0 true = false → S w) → wpAnyX P md ops Q S k0 fuel (listed.setIfInBounds i true) a w) → K' a w) → if Region.wanted o (yielded ops a.tmps) = true then Oper.wp P o a w K' Q else K' (a.put o.dst undef) w)
    (hs : AllReadyX P md ops Q S k0 fuel listed a w rs) : AllReadyX P md ops Q S k0 fuel listed a w (i :: rs) := fun j hj => by
  rcases List.mem_cons.1 hj with rfl | hj
  · exact wpOp_step ho (fun K' hK => h K' (fun a w hS hW => hK a w ⟨hS, hW hS⟩))
  · exact hs j hj
theorem wpAnyX_ready {rs : List Nat} {fuel : Nat} {listed : Array Bool} {a : Act} {w : World} (hr : Region.ready md ops listed = rs) (hne : rs ≠ [])
    (h : AllReadyX P md ops Q S k0 fuel listed a w rs) : wpAnyX P md ops Q S k0 (fuel + 1) listed a w := ⟨fun h0 => absurd (hr ▸ h0) hne, hr ▸ h⟩
theorem wpAnyX_done {listed : Array Bool} {a : Act} {w : World} (hr : Region.ready md ops listed = []) (h : Q .normal a w) :
    ∀ fuel, wpAnyX P md ops Q S k0 fuel listed a w
  | 0 => ⟨hr, h⟩
  | _ + 1 => ⟨fun _ => h, by rw [hr]; simp⟩
theorem wp_region_X {id : Nat} {a : Act} {w : World} (k0 : Nat) (hm : P.follows .mixedOrders = true) (hS : S w.drew)
    (h : S w.drew → wpAnyX P .any ops Q S k0 ops.size (Array.replicate ops.size false) a w.drew) : (Code.region id ops true).wp P Q a w :=
  wp_region_any hm (wpAny_of_X _ _ _ _ (h hS))
end
end Go.Proofs.Ytjlppnmckobcfaa

namespace Go.Proofs.Ytjlppnmckobcfaa
open Go.RowKit

/-- A judgment is handed back. -/
def GivesJP (P : Nat → Prop) (j : Jd) (w : World) (e : Ending) (w' : World) : Prop := ∃ su sv sa : Value, e = .returned (jv j su sv sa) ∧ (LiesQ w' (fun b => P b ∨ w.heap.size ≤ b) j.u.kids su ∧ LiesQ w' (fun b => P b ∨ w.heap.size ≤ b) j.v.kids sv ∧ LiesQ w' (fun b => P b ∨ w.heap.size ≤ b) j.a.kids sa) ∧ Kept w w'
def jfitB (t : Tm) (n : Int) : Bool := t.pureB && decide (t.freeB ≤ n)
def rightJ (j : Jd) (n : Int) : Bool := (decide (0 ≤ j.i) && decide (j.i ≤ 1000)) && ((jfitB j.u n && jfitB j.a n) && (if j.eq = true then jfitB j.v n else sameB j.v .zero))

set_option maxRecDepth 20000 in
set_option maxHeartbeats 4000000 in
theorem jfit_any (n : Int) (x : Tm) (P : Nat → Prop) (w : World) (sx : Value) (hfx : x.fine) (hlx : LiesQ w P x.kids sx) (hrn : I64 n) : Calls Try.prog 44 #[tv x sx, .int .i64 n] w fun e w' => e = .returned (.bool (jfitB x n)) ∧ Kept w w' := by
  have Gx := Lib.hid hfx
  clear hfx
  obtain ⟨ax, cx, Sx, rfl, -⟩ := hlx.out
  have Rn := Lib.hid hrn
  clear hrn
  obtain ⟨du, hu1, hu2⟩ := under_term
  unfold tv
  go_enter Try.func44, Try.ntmps44
  go_upto_region 1 with fail
  refine at_code (fun V0 hV0 => ?_)
  obtain ⟨k2, x1, z3⟩ := alloc1 hV0
  have Kk4 := Lib.hid k2
  clear k2
  have Hx1 := Lib.hid x1
  have Z0 := Lib.hid z3
  clear z3 x1 hV0
  have HLx : Hid (LiesQ V0 (Par w V0.heap.size [] P) x.kids _) := (par_in _ _ hlx).later Kk4.out
  clear hlx
  have kvV0 : SeesN V0 V0.heap.size V0 := seesN_kept _ (kept_refl _)
  go_wp2_with (refine stop_load 32 (.tmp 2) rfl ?_)
  intro _
  refine wpList_load_part (w.heap.size) 0 32 (.tmp 2) #[.int .i64 x.k, .int .i64 x.i, .int .i64 x.j, .int .i64 x.n, (.slice ax x.kids.length cx)] du Hx1.out (by rfl) rfl (by rfl) (by rfl) hu1 (by cases du <;> first | rfl | exact hu2) size_term ?_
  go_wp2_with fail
  clear kvV0
  refine (pure_any x _ (.slice ax x.kids.length cx) HLx.out.lies).mono ?_
  obtain ⟨rb8, hb7⟩ : ∃ qb, (x.pureB) = qb := ⟨_, rfl⟩
  rw [hb7]
  have Hhb7 := Lib.hid hb7
  clear hb7
  rintro e w5 ⟨rfl, k6⟩
  have Kk9 := Lib.hid k6
  clear k6
  cases rb8 with
  | false =>
    have kvV0 : SeesN V0 V0.heap.size w5 := seesN_kept _ Kk9.out
    go_wp2
    go_ret
    exact ⟨ret_bool (Eq.symm (show jfitB x n = false from by unfold jfitB; rw [Hhb7.out]; (try rfl))), (kept_trans Kk4.out Kk9.out)⟩
  | true =>
    have kvV0 : SeesN V0 V0.heap.size w5 := seesN_kept _ Kk9.out
    go_wp2_with (refine stop_load 32 (.tmp 2) rfl ?_)
    intro _
    refine wpList_load_part (w.heap.size) 0 32 (.tmp 2) #[.int .i64 x.k, .int .i64 x.i, .int .i64 x.j, .int .i64 x.n, (.slice ax x.kids.length cx)] du (blk_at Hx1.out Kk9.out) (by rfl) rfl (by rfl) (by rfl) hu1 (by cases du <;> first | rfl | exact hu2) size_term ?_
    go_wp2_with fail
    clear kvV0
    refine (Free_any x _ (.slice ax x.kids.length cx) (HLx.out.later Kk9.out).lies).mono ?_
    rintro e w10 ⟨rfl, k11⟩
    have Kk12 := Lib.hid k11
    clear k11
    have kvV0 : SeesN V0 V0.heap.size w10 := seesN_kept _ (kept_trans Kk9.out Kk12.out)
    by_cases c13 : x.freeB ≤ n
    · have ec13 : decide (x.freeB ≤ n) = true := decide_eq_true c13
      have Ec13 := Lib.hid ec13
      have Hc13 := Lib.hid c13
      clear c13
      go_wp2
      go_ret
      exact ⟨ret_bool (Eq.symm (show jfitB x n = true from by unfold jfitB; rw [Hhb7.out, Ec13.out]; (try rfl))), (kept_trans Kk4.out (kept_trans Kk9.out Kk12.out))⟩
    · have ec13 : decide (x.freeB ≤ n) = false := decide_eq_false c13
      have Ec13 := Lib.hid ec13
      have Hc13 := Lib.hid c13
      clear c13
      go_wp2
      go_ret
      exact ⟨ret_bool (Eq.symm (show jfitB x n = false from by unfold jfitB; rw [Hhb7.out, Ec13.out]; (try rfl))), (kept_trans Kk4.out (kept_trans Kk9.out Kk12.out))⟩

set_option maxRecDepth 20000 in
set_option maxHeartbeats 4000000 in
theorem rsortJ_any (i : Int) (P : Nat → Prop) (w : World) (hri : I64 i) : Calls Try.prog 53 #[.int .i64 i] w (GivesP P (.mk 1 i 0 0 []) w) := by
  have Ri := Lib.hid hri
  clear hri
  obtain ⟨du, hu1, hu2⟩ := under_term
  go_enter Try.func53, Try.ntmps53
  go_upto_region 1 with fail
  refine at_code (fun V0 hV0 => ?_)
  obtain ⟨k2, x1, z3⟩ := alloc1 hV0
  have Kk4 := Lib.hid k2
  clear k2
  have Hx1 := Lib.hid x1
  have Z0 := Lib.hid z3
  clear z3 x1 hV0
  have kvV0 : Sees V0 (w.heap.size) V0 := sees_kept _ (kept_refl _)
  go_wp2_with (refine stop_store 32 (.tmp 2) (.tmp 4) rfl ?_)
  intro _
  refine wpList_store_part_n (by rfl) 32 (.tmp 2) (.tmp 4) rfl (w.heap.size) 0 #[.int .i64 1, .int .i64 i, .int .i64 0, .int .i64 0, .slice none 0 0] (by rfl) (by rfl) 32 size_term (row_ok rfl) ?_
  intro W5 hW5
  clear kvV0
  subst hW5
  refine ⟨_, #[.int .i64 1, .int .i64 i, .int .i64 0, .int .i64 0, .slice none 0 0], Hx1.out, rfl, Nat.le_of_ble_eq_true rfl, ?_⟩
  intro W6 hW6
  go_wp2_with fail
  refine bodyPost_ret (results_cell_row rfl _ _ (w.heap.size) 32 _ _ du rfl (blk_same Hx1.out hW6) hu1 (by cases du <;> first | rfl | exact hu2) size_term) rfl ?_
  exact ⟨_, rfl, par_end (par_row' (liesQ_nil V0 (Par w V0.heap.size [] P)) hW6 (by omega) (by have := Z0.out; omega)) (by have := Z0.out; omega), kept_set Kk4.out hW6 (by omega)⟩

set_option maxRecDepth 20000 in
set_option maxHeartbeats 4000000 in
theorem rof_any (i : Int) (x : Tm) (y : Tm) (P : Nat → Prop) (w : World) (sx : Value) (sy : Value) (hfx : x.fine) (hlx : LiesQ w P x.kids sx) (hfy : y.fine) (hly : LiesQ w P y.kids sy) (hri : I64 i) : Calls Try.prog 52 #[tv x sx, tv y sy, .int .i64 i] w (GivesJP P (⟨false, x, (.mk 0 0 0 0 []), y, i⟩ : Jd) w) := by
  have Gx := Lib.hid hfx
  clear hfx
  obtain ⟨ax, cx, Sx, rfl, -⟩ := hlx.out
  have Gy := Lib.hid hfy
  clear hfy
  obtain ⟨ay, cy, Sy, rfl, -⟩ := hly.out
  have Ri := Lib.hid hri
  clear hri
  obtain ⟨dj, dj1, dj2⟩ := under_of 34 (by kernel_rfl)
  obtain ⟨du, hu1, hu2⟩ := under_term
  unfold tv
  go_enter Try.func52, Try.ntmps52
  go_upto_region 1 with fail
  refine at_code (fun V0 hV0 => ?_)
  obtain ⟨k4, x1, x2, x3, z5⟩ := alloc3 hV0
  have Kk6 := Lib.hid k4
  clear k4
  have Hx1 := Lib.hid x1
  have Hx2 := Lib.hid x2
  have Hx3 := Lib.hid x3
  have Z0 := Lib.hid z5
  clear z5 x1 x2 x3 hV0
  have HLx : Hid (LiesQ V0 (Par w V0.heap.size [] P) x.kids _) := (par_in _ _ hlx).later Kk6.out
  clear hlx
  have HLy : Hid (LiesQ V0 (Par w V0.heap.size [] P) y.kids _) := (par_in _ _ hly).later Kk6.out
  clear hly
  have kvV0 : Sees V0 (w.heap.size + 2) V0 := sees_kept _ (kept_refl _)
  go_wp2_with (refine stop_load 32 (.tmp 3) rfl ?_)
  intro _
  refine wpList_load_part (w.heap.size) 0 32 (.tmp 3) #[.int .i64 x.k, .int .i64 x.i, .int .i64 x.j, .int .i64 x.n, (.slice ax x.kids.length cx)] du Hx1.out (by rfl) rfl (by rfl) (by rfl) hu1 (by cases du <;> first | rfl | exact hu2) size_term ?_
  go_wp2_with (refine stop_load 32 (.tmp 4) rfl ?_)
  intro _
  refine wpList_load_part (w.heap.size + 1) 0 32 (.tmp 4) #[.int .i64 y.k, .int .i64 y.i, .int .i64 y.j, .int .i64 y.n, (.slice ay y.kids.length cy)] du Hx2.out (by rfl) rfl (by rfl) (by rfl) hu1 (by cases du <;> first | rfl | exact hu2) size_term ?_
  go_wp2_with (refine stop_store 34 (.tmp 6) (.tmp 10) rfl ?_)
  intro _
  refine wpList_store_part_n (by rfl) 34 (.tmp 6) (.tmp 10) rfl (w.heap.size + 2) 0 #[.bool false, .int .i64 x.k, .int .i64 x.i, .int .i64 x.j, .int .i64 x.n, (.slice ax x.kids.length cx), .int .i64 0, .int .i64 0, .int .i64 0, .int .i64 0, .slice none 0 0, .int .i64 y.k, .int .i64 y.i, .int .i64 y.j, .int .i64 y.n, (.slice ay y.kids.length cy), .int .i64 i] (by rfl) (by rfl) 34 (by kernel_rfl) (row_ok rfl) ?_
  intro W7 hW7
  clear kvV0
  subst hW7
  refine ⟨_, #[.bool false, .int .i64 x.k, .int .i64 x.i, .int .i64 x.j, .int .i64 x.n, (.slice ax x.kids.length cx), .int .i64 0, .int .i64 0, .int .i64 0, .int .i64 0, .slice none 0 0, .int .i64 y.k, .int .i64 y.i, .int .i64 y.j, .int .i64 y.n, (.slice ay y.kids.length cy), .int .i64 i], Hx3.out, rfl, Nat.le_of_ble_eq_true rfl, ?_⟩
  intro W8 hW8
  go_wp2_with fail
  refine bodyPost_ret (results_cell_row rfl _ _ (w.heap.size + 2) 34 _ _ dj rfl (blk_same Hx3.out hW8) dj1 (by cases dj <;> first | rfl | exact dj2) (by kernel_rfl)) rfl ?_
  exact ⟨_, _, _, rfl, ⟨par_end (par_row' HLx.out hW8 (by omega) (by have := Z0.out; omega)) (by have := Z0.out; omega), par_end (par_row' (liesQ_nil V0 (Par w V0.heap.size [] P)) hW8 (by omega) (by have := Z0.out; omega)) (by have := Z0.out; omega), par_end (par_row' HLy.out hW8 (by omega) (by have := Z0.out; omega)) (by have := Z0.out; omega)⟩, kept_set Kk6.out hW8 (by omega)⟩

set_option maxRecDepth 20000 in
set_option maxHeartbeats 4000000 in
theorem rright0_any (n : Int) (i : Int) (u : Tm) (v : Tm) (x : Tm) (P : Nat → Prop) (w : World) (su : Value) (sv : Value) (sx : Value) (hfu : u.fine) (hlu : LiesQ w P u.kids su) (hfv : v.fine) (hlv : LiesQ w P v.kids sv) (hfx : x.fine) (hlx : LiesQ w P x.kids sx) (hri : I64 i) (hrn : I64 n) : Calls Try.prog 25 #[.agg #[.bool false, .int .i64 u.k, .int .i64 u.i, .int .i64 u.j, .int .i64 u.n, su, .int .i64 v.k, .int .i64 v.i, .int .i64 v.j, .int .i64 v.n, sv, .int .i64 x.k, .int .i64 x.i, .int .i64 x.j, .int .i64 x.n, sx, .int .i64 i], .int .i64 n] w fun e w' => e = .returned (.bool (rightJ ⟨false, u, v, x, i⟩ n)) ∧ Kept w w' := by
  have Gu := Lib.hid hfu
  clear hfu
  obtain ⟨au, cu, Su, rfl, -⟩ := hlu.out
  have Gv := Lib.hid hfv
  clear hfv
  obtain ⟨av, cv, Sv, rfl, -⟩ := hlv.out
  have Gx := Lib.hid hfx
  clear hfx
  obtain ⟨ax, cx, Sx, rfl, -⟩ := hlx.out
  have Ri := Lib.hid hri
  clear hri
  have Rn := Lib.hid hrn
  clear hrn
  obtain ⟨dj, dj1, dj2⟩ := under_of 34 (by kernel_rfl)
  obtain ⟨du, hu1, hu2⟩ := under_term
  go_enter Try.func25, Try.ntmps25
  go_upto_region 1 with fail
  refine at_code (fun V0 hV0 => ?_)
  obtain ⟨k2, x1, z3⟩ := alloc1 hV0
  have Kk4 := Lib.hid k2
  clear k2
  have Hx1 := Lib.hid x1
  have Z0 := Lib.hid z3
  clear z3 x1 hV0
  have HLu : Hid (LiesQ V0 (Par w V0.heap.size [] P) u.kids _) := (par_in _ _ hlu).later Kk4.out
  clear hlu
  have HLv : Hid (LiesQ V0 (Par w V0.heap.size [] P) v.kids _) := (par_in _ _ hlv).later Kk4.out
  clear hlv
  have HLx : Hid (LiesQ V0 (Par w V0.heap.size [] P) x.kids _) := (par_in _ _ hlx).later Kk4.out
  clear hlx
  have ld5 := partN_cell (r := V0.heap.size) Hx1.out trivial 0 (.bool false) rfl
  have ld6 := partN_cell (r := V0.heap.size) Hx1.out trivial 16 (.int .i64 i) rfl
  have kvV0 : SeesN V0 V0.heap.size V0 := seesN_kept _ (kept_refl _)
  by_cases c7 : i < 0
  · have ec7 : decide (i < 0) = true := decide_eq_true c7
    have Ec7 := Lib.hid ec7
    have Hc7 := Lib.hid c7
    clear c7
    go_wp2
    go_ret
    exact ⟨ret_bool (Eq.symm (show rightJ ⟨false, u, v, x, i⟩ n = false from by unfold rightJ; (try simp only []); rw [show decide (0 ≤ i) = false from decide_eq_false (by have := of_decide_eq_true Ec7.out; omega)]; (try first | rfl | simp))), Kk4.out⟩
  · have ec7 : decide (i < 0) = false := decide_eq_false c7
    have Ec7 := Lib.hid ec7
    have Hc7 := Lib.hid c7
    clear c7
    by_cases c8 : 1000 < i
    · have ec8 : decide (1000 < i) = true := decide_eq_true c8
      have Ec8 := Lib.hid ec8
      have Hc8 := Lib.hid c8
      clear c8
      go_wp2
      go_ret
      exact ⟨ret_bool (Eq.symm (show rightJ ⟨false, u, v, x, i⟩ n = false from by unfold rightJ; (try simp only []); rw [show decide (0 ≤ i) = true from decide_eq_true (by have := of_decide_eq_false Ec7.out; omega), show decide (i ≤ 1000) = false from decide_eq_false (by have := of_decide_eq_true Ec8.out; omega)]; (try first | rfl | simp))), Kk4.out⟩
    · have ec8 : decide (1000 < i) = false := decide_eq_false c8
      have Ec8 := Lib.hid ec8
      have Hc8 := Lib.hid c8
      clear c8
      go_wp2_with (refine stop_load 32 (.tmp 14) rfl ?_)
      intro _
      refine wpList_load_part (w.heap.size) 1 32 (.tmp 14) #[.int .i64 u.k, .int .i64 u.i, .int .i64 u.j, .int .i64 u.n, (.slice au u.kids.length cu)] du Hx1.out (by rfl) rfl (by rfl) (by rfl) hu1 (by cases du <;> first | rfl | exact hu2) size_term ?_
      go_wp2_with fail
      clear kvV0
      refine (jfit_any n u (Par w V0.heap.size [] P) _ ((.slice au u.kids.length cu)) Gu.out HLu.out Rn.out).mono ?_
      obtain ⟨rb12, hb11⟩ : ∃ qb, (jfitB u n) = qb := ⟨_, rfl⟩
      rw [hb11]
      have Hhb11 := Lib.hid hb11
      clear hb11
      rintro e w9 ⟨rfl, k10⟩
      have Kk13 := Lib.hid k10
      clear k10
      cases rb12 with
      | false =>
        have kvV0 : SeesN V0 V0.heap.size w9 := seesN_kept _ Kk13.out
        go_wp2
        go_ret
        exact ⟨ret_bool (Eq.symm (show rightJ ⟨false, u, v, x, i⟩ n = false from by unfold rightJ; (try simp only []); rw [show decide (0 ≤ i) = true from decide_eq_true (by have := of_decide_eq_false Ec7.out; omega), show decide (i ≤ 1000) = true from decide_eq_true (by have := of_decide_eq_false Ec8.out; omega), Hhb11.out]; (try first | rfl | simp))), (kept_trans Kk4.out Kk13.out)⟩
      | true =>
        have kvV0 : SeesN V0 V0.heap.size w9 := seesN_kept _ Kk13.out
        go_wp2_with (refine stop_load 32 (.tmp 21) rfl ?_)
        intro _
        refine wpList_load_part (w.heap.size) 11 32 (.tmp 21) #[.int .i64 x.k, .int .i64 x.i, .int .i64 x.j, .int .i64 x.n, (.slice ax x.kids.length cx)] du (blk_at Hx1.out Kk13.out) (by rfl) rfl (by rfl) (by rfl) hu1 (by cases du <;> first | rfl | exact hu2) size_term ?_
        go_wp2_with fail
        clear kvV0
        refine (jfit_any n x (Par w V0.heap.size [] P) _ ((.slice ax x.kids.length cx)) Gx.out (HLx.out.later Kk13.out) Rn.out).mono ?_
        obtain ⟨rb17, hb16⟩ : ∃ qb, (jfitB x n) = qb := ⟨_, rfl⟩
        rw [hb16]
        have Hhb16 := Lib.hid hb16
        clear hb16
        rintro e w14 ⟨rfl, k15⟩
        have Kk18 := Lib.hid k15
        clear k15
        cases rb17 with
        | false =>
          have kvV0 : SeesN V0 V0.heap.size w14 := seesN_kept _ (kept_trans Kk13.out Kk18.out)
          go_wp2
          go_ret
          exact ⟨ret_bool (Eq.symm (show rightJ ⟨false, u, v, x, i⟩ n = false from by unfold rightJ; (try simp only []); rw [show decide (0 ≤ i) = true from decide_eq_true (by have := of_decide_eq_false Ec7.out; omega), show decide (i ≤ 1000) = true from decide_eq_true (by have := of_decide_eq_false Ec8.out; omega), Hhb11.out, Hhb16.out]; (try first | rfl | simp))), (kept_trans Kk4.out (kept_trans Kk13.out Kk18.out))⟩
        | true =>
          have kvV0 : SeesN V0 V0.heap.size w14 := seesN_kept _ (kept_trans Kk13.out Kk18.out)
          go_wp2_with (refine stop_load 32 (.tmp 33) rfl ?_)
          intro _
          refine wpList_load_part (w.heap.size) 6 32 (.tmp 33) #[.int .i64 v.k, .int .i64 v.i, .int .i64 v.j, .int .i64 v.n, (.slice av v.kids.length cv)] du (blk_at Hx1.out (kept_trans Kk13.out Kk18.out)) (by rfl) rfl (by rfl) (by rfl) hu1 (by cases du <;> first | rfl | exact hu2) size_term ?_
          go_wp2_with fail
          clear kvV0
          refine (same_any v Tm.zero _ ((.slice av v.kids.length cv)) (.slice none 0 0) (HLv.out.later (kept_trans Kk13.out Kk18.out)).lies (liesQ_nil w14 (Par w V0.heap.size [] P)).lies).mono ?_
          obtain ⟨rb22, hb21⟩ : ∃ qb, (sameB v Tm.zero) = qb := ⟨_, rfl⟩
          rw [hb21]
          have Hhb21 := Lib.hid hb21
          clear hb21
          rintro e w19 ⟨rfl, k20⟩
          have Kk23 := Lib.hid k20
          clear k20
          cases rb22 with
          | false =>
            have kvV0 : SeesN V0 V0.heap.size w19 := seesN_kept _ (kept_trans Kk13.out (kept_trans Kk18.out Kk23.out))
            go_wp2
            go_ret
            exact ⟨ret_bool (Eq.symm (show rightJ ⟨false, u, v, x, i⟩ n = false from by unfold rightJ; (try simp only []); rw [show decide (0 ≤ i) = true from decide_eq_true (by have := of_decide_eq_false Ec7.out; omega), show decide (i ≤ 1000) = true from decide_eq_true (by have := of_decide_eq_false Ec8.out; omega), Hhb11.out, Hhb16.out, Hhb21.out]; (try first | rfl | simp))), (kept_trans Kk4.out (kept_trans Kk13.out (kept_trans Kk18.out Kk23.out)))⟩
          | true =>
            have kvV0 : SeesN V0 V0.heap.size w19 := seesN_kept _ (kept_trans Kk13.out (kept_trans Kk18.out Kk23.out))
            go_wp2
            go_ret
            exact ⟨ret_bool (Eq.symm (show rightJ ⟨false, u, v, x, i⟩ n = true from by unfold rightJ; (try simp only []); rw [show decide (0 ≤ i) = true from decide_eq_true (by have := of_decide_eq_false Ec7.out; omega), show decide (i ≤ 1000) = true from decide_eq_true (by have := of_decide_eq_false Ec8.out; omega), Hhb11.out, Hhb16.out, Hhb21.out]; (try first | rfl | simp))), (kept_trans Kk4.out (kept_trans Kk13.out (kept_trans Kk18.out Kk23.out)))⟩

set_option maxRecDepth 20000 in
set_option maxHeartbeats 4000000 in
theorem rright1_any (n : Int) (i : Int) (u : Tm) (v : Tm) (x : Tm) (P : Nat → Prop) (w : World) (su : Value) (sv : Value) (sx : Value) (hfu : u.fine) (hlu : LiesQ w P u.kids su) (hfv : v.fine) (hlv : LiesQ w P v.kids sv) (hfx : x.fine) (hlx : LiesQ w P x.kids sx) (hri : I64 i) (hrn : I64 n) : Calls Try.prog 25 #[.agg #[.bool true, .int .i64 u.k, .int .i64 u.i, .int .i64 u.j, .int .i64 u.n, su, .int .i64 v.k, .int .i64 v.i, .int .i64 v.j, .int .i64 v.n, sv, .int .i64 x.k, .int .i64 x.i, .int .i64 x.j, .int .i64 x.n, sx, .int .i64 i], .int .i64 n] w fun e w' => e = .returned (.bool (rightJ ⟨true, u, v, x, i⟩ n)) ∧ Kept w w' := by
  have Gu := Lib.hid hfu
  clear hfu
  obtain ⟨au, cu, Su, rfl, -⟩ := hlu.out
  have Gv := Lib.hid hfv
  clear hfv
  obtain ⟨av, cv, Sv, rfl, -⟩ := hlv.out
  have Gx := Lib.hid hfx
  clear hfx
  obtain ⟨ax, cx, Sx, rfl, -⟩ := hlx.out
  have Ri := Lib.hid hri
  clear hri
  have Rn := Lib.hid hrn
  clear hrn
  obtain ⟨dj, dj1, dj2⟩ := under_of 34 (by kernel_rfl)
  obtain ⟨du, hu1, hu2⟩ := under_term
  go_enter Try.func25, Try.ntmps25
  go_upto_region 1 with fail
  refine at_code (fun V0 hV0 => ?_)
  obtain ⟨k2, x1, z3⟩ := alloc1 hV0
  have Kk4 := Lib.hid k2
  clear k2
  have Hx1 := Lib.hid x1
  have Z0 := Lib.hid z3
  clear z3 x1 hV0
  have HLu : Hid (LiesQ V0 (Par w V0.heap.size [] P) u.kids _) := (par_in _ _ hlu).later Kk4.out
  clear hlu
  have HLv : Hid (LiesQ V0 (Par w V0.heap.size [] P) v.kids _) := (par_in _ _ hlv).later Kk4.out
  clear hlv
  have HLx : Hid (LiesQ V0 (Par w V0.heap.size [] P) x.kids _) := (par_in _ _ hlx).later Kk4.out
  clear hlx
  have ld5 := partN_cell (r := V0.heap.size) Hx1.out trivial 0 (.bool true) rfl
  have ld6 := partN_cell (r := V0.heap.size) Hx1.out trivial 16 (.int .i64 i) rfl
  have kvV0 : SeesN V0 V0.heap.size V0 := seesN_kept _ (kept_refl _)
  by_cases c7 : i < 0
  · have ec7 : decide (i < 0) = true := decide_eq_true c7
    have Ec7 := Lib.hid ec7
    have Hc7 := Lib.hid c7
    clear c7
    go_wp2
    go_ret
    exact ⟨ret_bool (Eq.symm (show rightJ ⟨true, u, v, x, i⟩ n = false from by unfold rightJ; (try simp only []); rw [show decide (0 ≤ i) = false from decide_eq_false (by have := of_decide_eq_true Ec7.out; omega)]; (try first | rfl | simp))), Kk4.out⟩
  · have ec7 : decide (i < 0) = false := decide_eq_false c7
    have Ec7 := Lib.hid ec7
    have Hc7 := Lib.hid c7
    clear c7
    by_cases c8 : 1000 < i
    · have ec8 : decide (1000 < i) = true := decide_eq_true c8
      have Ec8 := Lib.hid ec8
      have Hc8 := Lib.hid c8
      clear c8
      go_wp2
      go_ret
      exact ⟨ret_bool (Eq.symm (show rightJ ⟨true, u, v, x, i⟩ n = false from by unfold rightJ; (try simp only []); rw [show decide (0 ≤ i) = true from decide_eq_true (by have := of_decide_eq_false Ec7.out; omega), show decide (i ≤ 1000) = false from decide_eq_false (by have := of_decide_eq_true Ec8.out; omega)]; (try first | rfl | simp))), Kk4.out⟩
    · have ec8 : decide (1000 < i) = false := decide_eq_false c8
      have Ec8 := Lib.hid ec8
      have Hc8 := Lib.hid c8
      clear c8
      go_wp2_with (refine stop_load 32 (.tmp 14) rfl ?_)
      intro _
      refine wpList_load_part (w.heap.size) 1 32 (.tmp 14) #[.int .i64 u.k, .int .i64 u.i, .int .i64 u.j, .int .i64 u.n, (.slice au u.kids.length cu)] du Hx1.out (by rfl) rfl (by rfl) (by rfl) hu1 (by cases du <;> first | rfl | exact hu2) size_term ?_
      go_wp2_with fail
      clear kvV0
      refine (jfit_any n u (Par w V0.heap.size [] P) _ ((.slice au u.kids.length cu)) Gu.out HLu.out Rn.out).mono ?_
      obtain ⟨rb12, hb11⟩ : ∃ qb, (jfitB u n) = qb := ⟨_, rfl⟩
      rw [hb11]
      have Hhb11 := Lib.hid hb11
      clear hb11
      rintro e w9 ⟨rfl, k10⟩
      have Kk13 := Lib.hid k10
      clear k10
      cases rb12 with
      | false =>
        have kvV0 : SeesN V0 V0.heap.size w9 := seesN_kept _ Kk13.out
        go_wp2
        go_ret
        exact ⟨ret_bool (Eq.symm (show rightJ ⟨true, u, v, x, i⟩ n = false from by unfold rightJ; (try simp only []); rw [show decide (0 ≤ i) = true from decide_eq_true (by have := of_decide_eq_false Ec7.out; omega), show decide (i ≤ 1000) = true from decide_eq_true (by have := of_decide_eq_false Ec8.out; omega), Hhb11.out]; (try first | rfl | simp))), (kept_trans Kk4.out Kk13.out)⟩
      | true =>
        have kvV0 : SeesN V0 V0.heap.size w9 := seesN_kept _ Kk13.out
        go_wp2_with (refine stop_load 32 (.tmp 21) rfl ?_)
        intro _
        refine wpList_load_part (w.heap.size) 11 32 (.tmp 21) #[.int .i64 x.k, .int .i64 x.i, .int .i64 x.j, .int .i64 x.n, (.slice ax x.kids.length cx)] du (blk_at Hx1.out Kk13.out) (by rfl) rfl (by rfl) (by rfl) hu1 (by cases du <;> first | rfl | exact hu2) size_term ?_
        go_wp2_with fail
        clear kvV0
        refine (jfit_any n x (Par w V0.heap.size [] P) _ ((.slice ax x.kids.length cx)) Gx.out (HLx.out.later Kk13.out) Rn.out).mono ?_
        obtain ⟨rb17, hb16⟩ : ∃ qb, (jfitB x n) = qb := ⟨_, rfl⟩
        rw [hb16]
        have Hhb16 := Lib.hid hb16
        clear hb16
        rintro e w14 ⟨rfl, k15⟩
        have Kk18 := Lib.hid k15
        clear k15
        cases rb17 with
        | false =>
          have kvV0 : SeesN V0 V0.heap.size w14 := seesN_kept _ (kept_trans Kk13.out Kk18.out)
          go_wp2
          go_ret
          exact ⟨ret_bool (Eq.symm (show rightJ ⟨true, u, v, x, i⟩ n = false from by unfold rightJ; (try simp only []); rw [show decide (0 ≤ i) = true from decide_eq_true (by have := of_decide_eq_false Ec7.out; omega), show decide (i ≤ 1000) = true from decide_eq_true (by have := of_decide_eq_false Ec8.out; omega), Hhb11.out, Hhb16.out]; (try first | rfl | simp))), (kept_trans Kk4.out (kept_trans Kk13.out Kk18.out))⟩
        | true =>
          have kvV0 : SeesN V0 V0.heap.size w14 := seesN_kept _ (kept_trans Kk13.out Kk18.out)
          go_wp2_with (refine stop_load 32 (.tmp 29) rfl ?_)
          intro _
          refine wpList_load_part (w.heap.size) 6 32 (.tmp 29) #[.int .i64 v.k, .int .i64 v.i, .int .i64 v.j, .int .i64 v.n, (.slice av v.kids.length cv)] du (blk_at Hx1.out (kept_trans Kk13.out Kk18.out)) (by rfl) rfl (by rfl) (by rfl) hu1 (by cases du <;> first | rfl | exact hu2) size_term ?_
          go_wp2_with fail
          clear kvV0
          refine (jfit_any n v (Par w V0.heap.size [] P) _ ((.slice av v.kids.length cv)) Gv.out (HLv.out.later (kept_trans Kk13.out Kk18.out)) Rn.out).mono ?_
          obtain ⟨rb22, hb21⟩ : ∃ qb, (jfitB v n) = qb := ⟨_, rfl⟩
          rw [hb21]
          have Hhb21 := Lib.hid hb21
          clear hb21
          rintro e w19 ⟨rfl, k20⟩
          have Kk23 := Lib.hid k20
          clear k20
          cases rb22 with
          | false =>
            have kvV0 : SeesN V0 V0.heap.size w19 := seesN_kept _ (kept_trans Kk13.out (kept_trans Kk18.out Kk23.out))
            go_wp2
            go_ret
            exact ⟨ret_bool (Eq.symm (show rightJ ⟨true, u, v, x, i⟩ n = false from by unfold rightJ; (try simp only []); rw [show decide (0 ≤ i) = true from decide_eq_true (by have := of_decide_eq_false Ec7.out; omega), show decide (i ≤ 1000) = true from decide_eq_true (by have := of_decide_eq_false Ec8.out; omega), Hhb11.out, Hhb16.out, Hhb21.out]; (try first | rfl | simp))), (kept_trans Kk4.out (kept_trans Kk13.out (kept_trans Kk18.out Kk23.out)))⟩
          | true =>
            have kvV0 : SeesN V0 V0.heap.size w19 := seesN_kept _ (kept_trans Kk13.out (kept_trans Kk18.out Kk23.out))
            go_wp2
            go_ret
            exact ⟨ret_bool (Eq.symm (show rightJ ⟨true, u, v, x, i⟩ n = true from by unfold rightJ; (try simp only []); rw [show decide (0 ≤ i) = true from decide_eq_true (by have := of_decide_eq_false Ec7.out; omega), show decide (i ≤ 1000) = true from decide_eq_true (by have := of_decide_eq_false Ec8.out; omega), Hhb11.out, Hhb16.out, Hhb21.out]; (try first | rfl | simp))), (kept_trans Kk4.out (kept_trans Kk13.out (kept_trans Kk18.out Kk23.out)))⟩

end Go.Proofs.Ytjlppnmckobcfaa

namespace Go.Proofs.Ytjlppnmckobcfaa.Dv
open Go.RowKit

def kidsL : List Int := [0, 0, 2, 2, 2, 2, 3, 1, 1, 2, 1, 2, 1, 1, 2, 2, 1, 2, 3, 3, 1, 1, 2, 2, 2, 2, 3, 4]
def dkidsN (r : Int) : Int := if 1 ≤ r ∧ r ≤ 28 then (kidsL[(r - 1).toNat]?).getD 0 else -1
def innerB (r k : Int) : Bool := if r = 3 ∨ r = 6 ∨ r = 4 ∨ r = 7 ∨ r = 19 ∨ r = 20 ∨ r = 18 ∨ r = 23 ∨ r = 25 ∨ r = 26 ∨ r = 28 then k == 1 else if r = 27 then (k == 1 || k == 2) else false
theorem in28 {r : Int} (h : 1 ≤ r ∧ r ≤ 28) : r = 1 ∨ r = 2 ∨ r = 3 ∨ r = 4 ∨ r = 5 ∨ r = 6 ∨ r = 7 ∨ r = 8 ∨ r = 9 ∨ r = 10 ∨ r = 11 ∨ r = 12 ∨ r = 13 ∨ r = 14 ∨ r = 15 ∨ r = 16 ∨ r = 17 ∨ r = 18 ∨ r = 19 ∨ r = 20 ∨ r = 21 ∨ r = 22 ∨ r = 23 ∨ r = 24 ∨ r = 25 ∨ r = 26 ∨ r = 27 ∨ r = 28 := by omega
theorem out_kids {r : Int} (h : ¬ (1 ≤ r ∧ r ≤ 28)) : dkidsN r = -1 := if_neg h

set_option maxHeartbeats 1000000 in
theorem dkids_any (r : Int) (w : World) : Calls Try.prog 21 #[.int .i64 r] w fun e w' => e = .returned (.int .i64 (dkidsN r)) ∧ w' = w := by
  by_cases h : 1 ≤ r ∧ r ≤ 28
  · rcases in28 h with rfl | rfl | rfl | rfl | rfl | rfl | rfl | rfl | rfl | rfl | rfl | rfl | rfl | rfl | rfl | rfl | rfl | rfl | rfl | rfl | rfl | rfl | rfl | rfl | rfl | rfl | rfl | rfl
    all_goals
      clear h
      go_enter Try.func21, Try.ntmps21
      go_wp2
      go_ret
      exact ⟨ret_int (by decide), rfl⟩
  · rw [out_kids h]
    go_enter Try.func21, Try.ntmps21
    go_wp2
    all_goals go_ret
    all_goals exact ⟨ret_int (by first | rfl | (exfalso; simp only [beq_iff_eq] at *; omega)), rfl⟩

def kidsObj : Obj := .cells (kidsL.map (Value.int .i64)).toArray 3
theorem kids_cell {w : World} {g : Nat} (h : w.heap[g]? = some kidsObj) (i : Nat) (hi : i < 28) : w.cell? ⟨g, i, none⟩ = some (.int .i64 (dkidsN ((i : Int) + 1))) := by
  rw [cell_of_row w g _ _ _ _ h]
  have hl : kidsL.length = 28 := rfl
  have : dkidsN ((i : Int) + 1) = kidsL[i] := by
    unfold dkidsN
    rw [if_pos (by omega), show ((i : Int) + 1 - 1).toNat = i by omega, List.getElem?_eq_getElem (by omega)]; rfl
  rw [this, List.getElem?_toArray, List.getElem?_map, List.getElem?_eq_getElem (by omega)]
  rfl
set_option maxHeartbeats 1000000 in
theorem drefkids_any (r : Int) (w : World) : Calls Try.prog 29 #[.int .i64 r] w fun e w' => e = .returned (.int .i64 (dkidsN r)) ∧ Below w.heap.size w w' := by
  by_cases h : 1 ≤ r ∧ r ≤ 28
  · have hq : (w.alloc (.cells #[.int .i64 0, .int .i64 0, .int .i64 2, .int .i64 2, .int .i64 2, .int .i64 2, .int .i64 3, .int .i64 1, .int .i64 1, .int .i64 2, .int .i64 1, .int .i64 2, .int .i64 1, .int .i64 1, .int .i64 2, .int .i64 2, .int .i64 1, .int .i64 2, .int .i64 3, .int .i64 3, .int .i64 1, .int .i64 1, .int .i64 2, .int .i64 2, .int .i64 2, .int .i64 2, .int .i64 3, .int .i64 4] 3)).heap[w.heap.size]? = some kidsObj := by unfold World.alloc; simp; rfl
    have hcell := kids_cell hq
    clear hq
    obtain ⟨n, rfl⟩ : ∃ n : Nat, r = (n : Int) + 1 := ⟨(r - 1).toNat, by omega⟩
    have hn : n < 28 := by omega
    have hc := hcell n hn
    have e1 : decide ((n : Int) + 1 < 1) = false := by simp; omega
    have e2 : decide (28 < (n : Int) + 1) = false := by simp; omega
    have g1 : ((n : Int) + 1 < 1) = False := by simp; omega
    have g2 : ((28 : Int) < (n : Int) + 1) = False := by simp; omega
    have hw : IntKind.i64.wrap ((n : Int) + 1 - 1) = (n : Int) := by rw [IntWalk.i64_in _ (by omega)]; omega
    have b0 : (0 : Int) ≤ (n : Int) := by omega
    have b1 : (n : Int) < 28 := by omega
    clear h hcell
    go_enter Try.func29, Try.ntmps29
    go_wp2
    go_ret
    exact ⟨rfl, (Below.refl _ _).alloc (Nat.le_refl _) _⟩
  · rw [out_kids h]
    by_cases h1 : r < 1
    · have e1 : decide (r < 1) = true := by simpa using h1
      clear h
      go_enter Try.func29, Try.ntmps29
      go_wp2
      go_ret
      exact ⟨rfl, (Below.refl _ _).alloc (Nat.le_refl _) _⟩
    · have e1 : decide (r < 1) = false := by simpa using h1
      have h2 : 28 < r := by omega
      have e2 : decide (28 < r) = true := by simpa using h2
      clear h
      go_enter Try.func29, Try.ntmps29
      go_wp2
      go_ret
      exact ⟨rfl, (Below.refl _ _).alloc (Nat.le_refl _) _⟩

set_option maxHeartbeats 1000000 in
theorem dinner_any (r k : Int) (w : World) : Calls Try.prog 23 #[.int .i64 r, .int .i64 k] w fun e w' => e = .returned (.bool (innerB r k)) ∧ w' = w := by
  go_enter Try.func23, Try.ntmps23
  go_wp2
  all_goals go_ret
  all_goals exact ⟨ret_bool (by unfold innerB; simp only [beq_iff_eq, beq_eq_false_iff_ne, ne_eq] at *; (repeat' split) <;> first | rfl | omega | (simp_all; done) | (exfalso; omega) | (simp; omega)), rfl⟩
set_option maxHeartbeats 1000000 in
theorem refinner_any (r k : Int) (w : World) : Calls Try.prog 30 #[.int .i64 r, .int .i64 k] w fun e w' => e = .returned (.bool (innerB r k)) ∧ w' = w := by
  go_enter Try.func30, Try.ntmps30
  go_wp2
  all_goals go_ret
  all_goals exact ⟨ret_bool (by unfold innerB; simp only [beq_iff_eq, beq_eq_false_iff_ne, ne_eq] at *; (repeat' split) <;> first | rfl | omega | (simp_all; done) | (exfalso; omega) | (simp; omega)), rfl⟩
end Go.Proofs.Ytjlppnmckobcfaa.Dv

namespace Go.Proofs.Ytjlppnmckobcfaa
open Go.RowKit

/-- An entry in a block of its own. -/
def BNode (w : World) (b : Nat) (e : En) (s : Value) : Prop := w.cell? ⟨b, 0, none⟩ = some (.int .i64 e.a.k) ∧ w.cell? ⟨b, 1, none⟩ = some (.int .i64 e.a.i) ∧ w.cell? ⟨b, 2, none⟩ = some (.int .i64 e.a.j) ∧ w.cell? ⟨b, 3, none⟩ = some (.int .i64 e.a.n) ∧ w.cell? ⟨b, 4, none⟩ = some (s) ∧ w.cell? ⟨b, 5, none⟩ = some (.int .i64 e.i)
theorem bnode_new (w : World) (e : En) (s : Value) : BNode (w.alloc (.cells #[.int .i64 e.a.k, .int .i64 e.a.i, .int .i64 e.a.j, .int .i64 e.a.n, s, .int .i64 e.i] 52)) w.heap.size e s := by
  have key : ∀ o, (w.alloc (.cells #[.int .i64 e.a.k, .int .i64 e.a.i, .int .i64 e.a.j, .int .i64 e.a.n, s, .int .i64 e.i] 52)).cell? ⟨w.heap.size, o, none⟩ = (#[.int .i64 e.a.k, .int .i64 e.a.i, .int .i64 e.a.j, .int .i64 e.a.n, s, .int .i64 e.i] : Array Value)[o]? := fun o => by rw [World.cell?_alloc_at _ _ _ _ rfl]
  exact ⟨by rw [key]; rfl, by rw [key]; rfl, by rw [key]; rfl, by rw [key]; rfl, by rw [key]; rfl, by rw [key]; rfl⟩
theorem BNode.keep {v w' : World} {b : Nat} {e : En} {s : Value} (h : BNode v b e s) (hk : Kept v w') : BNode w' b e s := ⟨cell_lat hk h.1, cell_lat hk h.2.1, cell_lat hk h.2.2.1, cell_lat hk h.2.2.2.1, cell_lat hk h.2.2.2.2.1, cell_lat hk h.2.2.2.2.2⟩
end Go.Proofs.Ytjlppnmckobcfaa
