/-
  Facts and contracts that the proof of RuleRight uses.
-/
import Derived.OrdersHeld
import Derived.Below
import Derived.Laws.Rows
import Derived.Laws.CopyRow
import Derived.KernelRfl
import Derived.WalkKit
import Derived.Lib.Hide
import Derived.Lib.MinMax
import Derived.Deep.RegionHeld3
import Derived.Test.YtmicgbdcbjajiaaRows
import Derived.Deep.RegionWith
import Derived.Deep.AppendLies
import Derived.Laws.IdiomCopy
import Derived.Deep.Slices
import Derived.Deep.QuietTactic
import Derived.BigQuiet
import Derived.Lib.QuietBelow
import Derived.StillTailTactics
import Derived.IntWalk
import Derived.OwnWalk
import Derived.Deep.DeepCutAuto
import Derived.Deep.RegionLaw
import Derived.Deep.LoopGhost
import Derived.Deep.MidRow
import Derived.Laws.Tables
import Derived.Laws.CopyOwn
import Derived.Deep.RegionHeld
import Derived.Deep.Upon
import Derived.ArgAppend
import Derived.Laws.EntriesVeiled
import Derived.ProofKit
import Derived.OpenShut
import Derived.Carry
import Derived.ChangeSlices
import Derived.JoinedOf
import Derived.Test.YtmicgbdcbjajiaaRuleRightQ5
namespace Go.Proofs.Ytmicgbdcbjajiaa.Se
open Go Go.RowKit
set_option maxRecDepth 20000 in
set_option maxHeartbeats 4000000 in
theorem of25_any (c : List En) (n : Int) (e : Bool) (u v x : Tm) (i : Int) (e2 : Bool) (u2 v2 x2 : Tm) (i2 : Int) (hs : Sml c [⟨e, re u, re v, re x, i⟩, ⟨e2, re u2, re v2, re x2, i2⟩]) {w : World} {A : Nat → Prop} {vs : List Value} (hv : F2 (ArgDen w A) (aOf c 25 n [⟨e, re u, re v, re x, i⟩, ⟨e2, re u2, re v2, re x2, i2⟩]) vs) : Calls Try.prog 5 vs.toArray w (GivesO A (ofB c 25 n [⟨e, re u, re v, re x, i⟩, ⟨e2, re u2, re v2, re x2, i2⟩]) w) := by
 have hA : allR c.length 25 0 [⟨e, re u, re v, re x, i⟩, ⟨e2, re u2, re v2, re x2, i2⟩] = (rightJ ⟨e, re u, re v, re x, i⟩ ↑c.length && (rightJ ⟨e2, re u2, re v2, re x2, i2⟩ (IntKind.i64.wrap (↑c.length + 1)) && true)) := by kernel_rfl
 have hC : concB c n 25 [⟨e, re u, re v, re x, i⟩, ⟨e2, re u2, re v2, re x2, i2⟩] = if ((e && (((re x).k == 1) && (i == W64 ((re x).i + 1)))) && (e2 && (((re x2).k == 1) && (i2 == W64 ((re x2).i + 1))))) = true then some ⟨true, nd 3 ((re x).i) ((re x2).i) [re u, re u2], nd 3 ((re x).i) ((re x2).i) [re v, re v2], srt (max (re x).i (re x2).i), W64 ((max (re x).i (re x2).i) + 1)⟩ else none := by kernel_rfl
 obtain ⟨zu, zv, zx⟩ := hs.z
 obtain ⟨zu2, zv2, zx2⟩ := hs.tl.z
 cases e with
 | true =>
  cases e2 with
  | true =>
   apply bc (purC c) <;> intro k0
   ·rw [of_p k0]; exact leafF [O] hv (al k0 an)
   apply bc (rightJ ⟨true, re u, re v, re x, i⟩ ↑c.length) <;> intro k1
   ·rw [of_a (by rw [hA, k1] <;> kernel_rfl)]; exact leafF [I,O] hv (al k0 (al k1 an))
   apply bc (rightJ ⟨true, re u2, re v2, re x2, i2⟩ (IntKind.i64.wrap (↑c.length + 1))) <;> intro k2
   ·rw [of_a (by rw [hA, k1, k2] <;> kernel_rfl)]; exact leafF [I,I,O] hv (al k0 (al k1 (al k2 an)))
   have s0 : ([] : List Tm).length ≤ 10 := Nat.le_of_ble_eq_true rfl
   have s1 : (Tm.mk 3 (re x).i (re x2).i 0 [re u, re u2]).size ≤ 10000000 := by (try simp only [re_eq]); (try simp only [Tm.size, sizes]); omega
   have s2 : (Tm.mk 3 (re x).i (re x2).i 0 [re v, re v2]).size ≤ 10000000 := by (try simp only [re_eq]); (try simp only [Tm.size, sizes]); omega
   have s3 : (Tm.mk 1 (max (re x).i (re x2).i) 0 0 []).size ≤ 10000000 := by (try simp only [re_eq]); (try simp only [Tm.size, sizes]); omega
   apply bc (((re x).k == 1)) <;> intro k3
   ·apply bc (((re x2).k == 1)) <;> intro k4
    ·rw [of_t k0 (by rw [hA, k1, k2] <;> kernel_rfl) hC (by rw [k3, k4] <;> kernel_rfl)]; exact leafF [I,I,I,O,O] hv (al k0 (al k1 (al k2 (al k3 (al k4 (al s0 (al s0 an)))))))
    apply bc ((i2 == IntKind.i64.wrap ((re x2).i + 1))) <;> intro k5
    ·rw [of_t k0 (by rw [hA, k1, k2] <;> kernel_rfl) hC (by rw [k3, k4, k5] <;> kernel_rfl)]; exact leafF [I,I,I,O,I,O] hv (al k0 (al k1 (al k2 (al k3 (al k4 (al k5 (al s0 (al s0 an))))))))
    rw [of_t k0 (by rw [hA, k1, k2] <;> kernel_rfl) hC (by rw [k3, k4, k5] <;> kernel_rfl)]; exact leafF [I,I,I,O,I,I] hv (al k0 (al k1 (al k2 (al k3 (al k4 (al k5 (al s0 (al s0 an))))))))
   apply bc ((i == IntKind.i64.wrap ((re x).i + 1))) <;> intro k6
   ·apply bc (((re x2).k == 1)) <;> intro k7
    ·rw [of_t k0 (by rw [hA, k1, k2] <;> kernel_rfl) hC (by rw [k3, k6, k7] <;> kernel_rfl)]; exact leafF [I,I,I,I,O,O] hv (al k0 (al k1 (al k2 (al k3 (al k6 (al k7 (al s0 (al s0 an))))))))
    apply bc ((i2 == IntKind.i64.wrap ((re x2).i + 1))) <;> intro k8
    ·rw [of_t k0 (by rw [hA, k1, k2] <;> kernel_rfl) hC (by rw [k3, k6, k7, k8] <;> kernel_rfl)]; exact leafF [I,I,I,I,O,I,O] hv (al k0 (al k1 (al k2 (al k3 (al k6 (al k7 (al k8 (al s0 (al s0 an)))))))))
    rw [of_t k0 (by rw [hA, k1, k2] <;> kernel_rfl) hC (by rw [k3, k6, k7, k8] <;> kernel_rfl)]; exact leafF [I,I,I,I,O,I,I] hv (al k0 (al k1 (al k2 (al k3 (al k6 (al k7 (al k8 (al s0 (al s0 an)))))))))
   apply bc (((re x2).k == 1)) <;> intro k9
   ·rw [of_t k0 (by rw [hA, k1, k2] <;> kernel_rfl) hC (by rw [k3, k6, k9] <;> kernel_rfl)]; exact leafF [I,I,I,I,I,O] hv (al k0 (al k1 (al k2 (al k3 (al k6 (al k9 (al s0 (al s0 an))))))))
   apply bc ((i2 == IntKind.i64.wrap ((re x2).i + 1))) <;> intro k10
   ·rw [of_t k0 (by rw [hA, k1, k2] <;> kernel_rfl) hC (by rw [k3, k6, k9, k10] <;> kernel_rfl)]; exact leafF [I,I,I,I,I,I,O] hv (al k0 (al k1 (al k2 (al k3 (al k6 (al k9 (al k10 (al s0 (al s0 an)))))))))
   apply bc (decide (IntKind.i64.wrap (max (re x).i (re x2).i + 1) > 1000)) <;> intro k11
   ·rw [of_s k0 (by rw [hA, k1, k2] <;> kernel_rfl) hC (by rw [k3, k6, k9, k10] <;> kernel_rfl) (by show (!(decide (W64 ((max (re x).i (re x2).i) + 1) > 1000) || ((nd 3 ((re x).i) ((re x2).i) [re u, re u2]).k == 0 || ((srt (max (re x).i (re x2).i)).k == 0 || (true && (nd 3 ((re x).i) ((re x2).i) [re v, re v2]).k == 0))))) = true; rw [k11] <;> kernel_rfl)]; exact leafS [I,I,I,I,I,I,I,O] hv (al k0 (al k1 (al k2 (al k3 (al k6 (al k9 (al k10 (al s0 (al s0 (al k11 (al s1 (al s2 (al s3 an)))))))))))))
   rw [of_o k0 (by rw [hA, k1, k2] <;> kernel_rfl) hC (by show (!(decide (W64 ((max (re x).i (re x2).i) + 1) > 1000) || ((nd 3 ((re x).i) ((re x2).i) [re u, re u2]).k == 0 || ((srt (max (re x).i (re x2).i)).k == 0 || (true && (nd 3 ((re x).i) ((re x2).i) [re v, re v2]).k == 0))))) = false; rw [k11] <;> kernel_rfl)]; exact leafF [I,I,I,I,I,I,I,I] hv (al k0 (al k1 (al k2 (al k3 (al k6 (al k9 (al k10 (al s0 (al s0 (al k11 an))))))))))
  | false =>
   apply bc (purC c) <;> intro k12
   ·rw [of_p k12]; exact leafF [O] hv (al k12 an)
   apply bc (rightJ ⟨true, re u, re v, re x, i⟩ ↑c.length) <;> intro k13
   ·rw [of_a (by rw [hA, k13] <;> kernel_rfl)]; exact leafF [I,O] hv (al k12 (al k13 an))
   apply bc (rightJ ⟨false, re u2, re v2, re x2, i2⟩ (IntKind.i64.wrap (↑c.length + 1))) <;> intro k14
   ·rw [of_a (by rw [hA, k13, k14] <;> kernel_rfl)]; exact leafF [I,I,O] hv (al k12 (al k13 (al k14 an)))
   have s0 : ([] : List Tm).length ≤ 10 := Nat.le_of_ble_eq_true rfl
   have s1 : (Tm.mk 3 (re x).i (re x2).i 0 [re u, re u2]).size ≤ 10000000 := by (try simp only [re_eq]); (try simp only [Tm.size, sizes]); omega
   have s2 : (Tm.mk 3 (re x).i (re x2).i 0 [re v, re v2]).size ≤ 10000000 := by (try simp only [re_eq]); (try simp only [Tm.size, sizes]); omega
   have s3 : (Tm.mk 1 (max (re x).i (re x2).i) 0 0 []).size ≤ 10000000 := by (try simp only [re_eq]); (try simp only [Tm.size, sizes]); omega
   apply bc (((re x).k == 1)) <;> intro k15
   ·rw [of_t k12 (by rw [hA, k13, k14] <;> kernel_rfl) hC (by rw [k15] <;> kernel_rfl)]; exact leafF [I,I,I,O] hv (al k12 (al k13 (al k14 (al k15 (al s0 (al s0 an))))))
   apply bc ((i == IntKind.i64.wrap ((re x).i + 1))) <;> intro k16
   ·rw [of_t k12 (by rw [hA, k13, k14] <;> kernel_rfl) hC (by rw [k15, k16] <;> kernel_rfl)]; exact leafF [I,I,I,I,O] hv (al k12 (al k13 (al k14 (al k15 (al k16 (al s0 (al s0 an)))))))
   rw [of_t k12 (by rw [hA, k13, k14] <;> kernel_rfl) hC (by rw [k15, k16] <;> kernel_rfl)]; exact leafF [I,I,I,I,I] hv (al k12 (al k13 (al k14 (al k15 (al k16 (al s0 (al s0 an)))))))
 | false =>
  cases e2 with
  | true =>
   apply bc (purC c) <;> intro k17
   ·rw [of_p k17]; exact leafF [O] hv (al k17 an)
   apply bc (rightJ ⟨false, re u, re v, re x, i⟩ ↑c.length) <;> intro k18
   ·rw [of_a (by rw [hA, k18] <;> kernel_rfl)]; exact leafF [I,O] hv (al k17 (al k18 an))
   apply bc (rightJ ⟨true, re u2, re v2, re x2, i2⟩ (IntKind.i64.wrap (↑c.length + 1))) <;> intro k19
   ·rw [of_a (by rw [hA, k18, k19] <;> kernel_rfl)]; exact leafF [I,I,O] hv (al k17 (al k18 (al k19 an)))
   have s0 : ([] : List Tm).length ≤ 10 := Nat.le_of_ble_eq_true rfl
   have s1 : (Tm.mk 3 (re x).i (re x2).i 0 [re u, re u2]).size ≤ 10000000 := by (try simp only [re_eq]); (try simp only [Tm.size, sizes]); omega
   have s2 : (Tm.mk 3 (re x).i (re x2).i 0 [re v, re v2]).size ≤ 10000000 := by (try simp only [re_eq]); (try simp only [Tm.size, sizes]); omega
   have s3 : (Tm.mk 1 (max (re x).i (re x2).i) 0 0 []).size ≤ 10000000 := by (try simp only [re_eq]); (try simp only [Tm.size, sizes]); omega
   apply bc (((re x2).k == 1)) <;> intro k20
   ·rw [of_t k17 (by rw [hA, k18, k19] <;> kernel_rfl) hC (by rw [k20] <;> kernel_rfl)]; exact leafF [I,I,I,O] hv (al k17 (al k18 (al k19 (al k20 (al s0 (al s0 an))))))
   apply bc ((i2 == IntKind.i64.wrap ((re x2).i + 1))) <;> intro k21
   ·rw [of_t k17 (by rw [hA, k18, k19] <;> kernel_rfl) hC (by rw [k20, k21] <;> kernel_rfl)]; exact leafF [I,I,I,I,O] hv (al k17 (al k18 (al k19 (al k20 (al k21 (al s0 (al s0 an)))))))
   rw [of_t k17 (by rw [hA, k18, k19] <;> kernel_rfl) hC (by rw [k20, k21] <;> kernel_rfl)]; exact leafF [I,I,I,I,I] hv (al k17 (al k18 (al k19 (al k20 (al k21 (al s0 (al s0 an)))))))
  | false =>
   apply bc (purC c) <;> intro k22
   ·rw [of_p k22]; exact leafF [O] hv (al k22 an)
   apply bc (rightJ ⟨false, re u, re v, re x, i⟩ ↑c.length) <;> intro k23
   ·rw [of_a (by rw [hA, k23] <;> kernel_rfl)]; exact leafF [I,O] hv (al k22 (al k23 an))
   apply bc (rightJ ⟨false, re u2, re v2, re x2, i2⟩ (IntKind.i64.wrap (↑c.length + 1))) <;> intro k24
   ·rw [of_a (by rw [hA, k23, k24] <;> kernel_rfl)]; exact leafF [I,I,O] hv (al k22 (al k23 (al k24 an)))
   have s0 : ([] : List Tm).length ≤ 10 := Nat.le_of_ble_eq_true rfl
   have s1 : (Tm.mk 3 (re x).i (re x2).i 0 [re u, re u2]).size ≤ 10000000 := by (try simp only [re_eq]); (try simp only [Tm.size, sizes]); omega
   have s2 : (Tm.mk 3 (re x).i (re x2).i 0 [re v, re v2]).size ≤ 10000000 := by (try simp only [re_eq]); (try simp only [Tm.size, sizes]); omega
   have s3 : (Tm.mk 1 (max (re x).i (re x2).i) 0 0 []).size ≤ 10000000 := by (try simp only [re_eq]); (try simp only [Tm.size, sizes]); omega
   rw [of_t k22 (by rw [hA, k23, k24] <;> kernel_rfl) hC (by kernel_rfl)]; exact leafF [I,I,I] hv (al k22 (al k23 (al k24 (al s0 (al s0 an)))))
set_option maxRecDepth 20000 in
set_option maxHeartbeats 4000000 in
theorem of26_any (c : List En) (n : Int) (e : Bool) (u v x : Tm) (i : Int) (e2 : Bool) (u2 v2 x2 : Tm) (i2 : Int) (hs : Sml c [⟨e, re u, re v, re x, i⟩, ⟨e2, re u2, re v2, re x2, i2⟩]) {w : World} {A : Nat → Prop} {vs : List Value} (hv : F2 (ArgDen w A) (aOf c 26 n [⟨e, re u, re v, re x, i⟩, ⟨e2, re u2, re v2, re x2, i2⟩]) vs) : Calls Try.prog 5 vs.toArray w (GivesO A (ofB c 26 n [⟨e, re u, re v, re x, i⟩, ⟨e2, re u2, re v2, re x2, i2⟩]) w) := by
 have hA : allR c.length 26 0 [⟨e, re u, re v, re x, i⟩, ⟨e2, re u2, re v2, re x2, i2⟩] = (rightJ ⟨e, re u, re v, re x, i⟩ ↑c.length && (rightJ ⟨e2, re u2, re v2, re x2, i2⟩ (IntKind.i64.wrap (↑c.length + 1)) && true)) := by kernel_rfl
 have hC : concB c n 26 [⟨e, re u, re v, re x, i⟩, ⟨e2, re u2, re v2, re x2, i2⟩] = if ((e && (((re x).k == 1) && (i == W64 ((re x).i + 1)))) && (e2 && (((re x2).k == 1) && (i2 == W64 ((re x2).i + 1))))) = true then some ⟨true, nd 6 ((re x).i) ((re x2).i) [re u, re u2], nd 6 ((re x).i) ((re x2).i) [re v, re v2], srt (max (re x).i (re x2).i), W64 ((max (re x).i (re x2).i) + 1)⟩ else none := by kernel_rfl
 obtain ⟨zu, zv, zx⟩ := hs.z
 obtain ⟨zu2, zv2, zx2⟩ := hs.tl.z
 cases e with
 | true =>
  cases e2 with
  | true =>
   apply bc (purC c) <;> intro k0
   ·rw [of_p k0]; exact leafF [O] hv (al k0 an)
   apply bc (rightJ ⟨true, re u, re v, re x, i⟩ ↑c.length) <;> intro k1
   ·rw [of_a (by rw [hA, k1] <;> kernel_rfl)]; exact leafF [I,O] hv (al k0 (al k1 an))
   apply bc (rightJ ⟨true, re u2, re v2, re x2, i2⟩ (IntKind.i64.wrap (↑c.length + 1))) <;> intro k2
   ·rw [of_a (by rw [hA, k1, k2] <;> kernel_rfl)]; exact leafF [I,I,O] hv (al k0 (al k1 (al k2 an)))
   have s0 : ([] : List Tm).length ≤ 10 := Nat.le_of_ble_eq_true rfl
   have s1 : (Tm.mk 6 (re x).i (re x2).i 0 [re u, re u2]).size ≤ 10000000 := by (try simp only [re_eq]); (try simp only [Tm.size, sizes]); omega
   have s2 : (Tm.mk 6 (re x).i (re x2).i 0 [re v, re v2]).size ≤ 10000000 := by (try simp only [re_eq]); (try simp only [Tm.size, sizes]); omega
   have s3 : (Tm.mk 1 (max (re x).i (re x2).i) 0 0 []).size ≤ 10000000 := by (try simp only [re_eq]); (try simp only [Tm.size, sizes]); omega
   apply bc (((re x).k == 1)) <;> intro k3
   ·apply bc (((re x2).k == 1)) <;> intro k4
    ·rw [of_t k0 (by rw [hA, k1, k2] <;> kernel_rfl) hC (by rw [k3, k4] <;> kernel_rfl)]; exact leafF [I,I,I,O,O] hv (al k0 (al k1 (al k2 (al k3 (al k4 (al s0 (al s0 an)))))))
    apply bc ((i2 == IntKind.i64.wrap ((re x2).i + 1))) <;> intro k5
    ·rw [of_t k0 (by rw [hA, k1, k2] <;> kernel_rfl) hC (by rw [k3, k4, k5] <;> kernel_rfl)]; exact leafF [I,I,I,O,I,O] hv (al k0 (al k1 (al k2 (al k3 (al k4 (al k5 (al s0 (al s0 an))))))))
    rw [of_t k0 (by rw [hA, k1, k2] <;> kernel_rfl) hC (by rw [k3, k4, k5] <;> kernel_rfl)]; exact leafF [I,I,I,O,I,I] hv (al k0 (al k1 (al k2 (al k3 (al k4 (al k5 (al s0 (al s0 an))))))))
   apply bc ((i == IntKind.i64.wrap ((re x).i + 1))) <;> intro k6
   ·apply bc (((re x2).k == 1)) <;> intro k7
    ·rw [of_t k0 (by rw [hA, k1, k2] <;> kernel_rfl) hC (by rw [k3, k6, k7] <;> kernel_rfl)]; exact leafF [I,I,I,I,O,O] hv (al k0 (al k1 (al k2 (al k3 (al k6 (al k7 (al s0 (al s0 an))))))))
    apply bc ((i2 == IntKind.i64.wrap ((re x2).i + 1))) <;> intro k8
    ·rw [of_t k0 (by rw [hA, k1, k2] <;> kernel_rfl) hC (by rw [k3, k6, k7, k8] <;> kernel_rfl)]; exact leafF [I,I,I,I,O,I,O] hv (al k0 (al k1 (al k2 (al k3 (al k6 (al k7 (al k8 (al s0 (al s0 an)))))))))
    rw [of_t k0 (by rw [hA, k1, k2] <;> kernel_rfl) hC (by rw [k3, k6, k7, k8] <;> kernel_rfl)]; exact leafF [I,I,I,I,O,I,I] hv (al k0 (al k1 (al k2 (al k3 (al k6 (al k7 (al k8 (al s0 (al s0 an)))))))))
   apply bc (((re x2).k == 1)) <;> intro k9
   ·rw [of_t k0 (by rw [hA, k1, k2] <;> kernel_rfl) hC (by rw [k3, k6, k9] <;> kernel_rfl)]; exact leafF [I,I,I,I,I,O] hv (al k0 (al k1 (al k2 (al k3 (al k6 (al k9 (al s0 (al s0 an))))))))
   apply bc ((i2 == IntKind.i64.wrap ((re x2).i + 1))) <;> intro k10
   ·rw [of_t k0 (by rw [hA, k1, k2] <;> kernel_rfl) hC (by rw [k3, k6, k9, k10] <;> kernel_rfl)]; exact leafF [I,I,I,I,I,I,O] hv (al k0 (al k1 (al k2 (al k3 (al k6 (al k9 (al k10 (al s0 (al s0 an)))))))))
   apply bc (decide (IntKind.i64.wrap (max (re x).i (re x2).i + 1) > 1000)) <;> intro k11
   ·rw [of_s k0 (by rw [hA, k1, k2] <;> kernel_rfl) hC (by rw [k3, k6, k9, k10] <;> kernel_rfl) (by show (!(decide (W64 ((max (re x).i (re x2).i) + 1) > 1000) || ((nd 6 ((re x).i) ((re x2).i) [re u, re u2]).k == 0 || ((srt (max (re x).i (re x2).i)).k == 0 || (true && (nd 6 ((re x).i) ((re x2).i) [re v, re v2]).k == 0))))) = true; rw [k11] <;> kernel_rfl)]; exact leafS [I,I,I,I,I,I,I,O] hv (al k0 (al k1 (al k2 (al k3 (al k6 (al k9 (al k10 (al s0 (al s0 (al k11 (al s1 (al s2 (al s3 an)))))))))))))
   rw [of_o k0 (by rw [hA, k1, k2] <;> kernel_rfl) hC (by show (!(decide (W64 ((max (re x).i (re x2).i) + 1) > 1000) || ((nd 6 ((re x).i) ((re x2).i) [re u, re u2]).k == 0 || ((srt (max (re x).i (re x2).i)).k == 0 || (true && (nd 6 ((re x).i) ((re x2).i) [re v, re v2]).k == 0))))) = false; rw [k11] <;> kernel_rfl)]; exact leafF [I,I,I,I,I,I,I,I] hv (al k0 (al k1 (al k2 (al k3 (al k6 (al k9 (al k10 (al s0 (al s0 (al k11 an))))))))))
  | false =>
   apply bc (purC c) <;> intro k12
   ·rw [of_p k12]; exact leafF [O] hv (al k12 an)
   apply bc (rightJ ⟨true, re u, re v, re x, i⟩ ↑c.length) <;> intro k13
   ·rw [of_a (by rw [hA, k13] <;> kernel_rfl)]; exact leafF [I,O] hv (al k12 (al k13 an))
   apply bc (rightJ ⟨false, re u2, re v2, re x2, i2⟩ (IntKind.i64.wrap (↑c.length + 1))) <;> intro k14
   ·rw [of_a (by rw [hA, k13, k14] <;> kernel_rfl)]; exact leafF [I,I,O] hv (al k12 (al k13 (al k14 an)))
   have s0 : ([] : List Tm).length ≤ 10 := Nat.le_of_ble_eq_true rfl
   have s1 : (Tm.mk 6 (re x).i (re x2).i 0 [re u, re u2]).size ≤ 10000000 := by (try simp only [re_eq]); (try simp only [Tm.size, sizes]); omega
   have s2 : (Tm.mk 6 (re x).i (re x2).i 0 [re v, re v2]).size ≤ 10000000 := by (try simp only [re_eq]); (try simp only [Tm.size, sizes]); omega
   have s3 : (Tm.mk 1 (max (re x).i (re x2).i) 0 0 []).size ≤ 10000000 := by (try simp only [re_eq]); (try simp only [Tm.size, sizes]); omega
   apply bc (((re x).k == 1)) <;> intro k15
   ·rw [of_t k12 (by rw [hA, k13, k14] <;> kernel_rfl) hC (by rw [k15] <;> kernel_rfl)]; exact leafF [I,I,I,O] hv (al k12 (al k13 (al k14 (al k15 (al s0 (al s0 an))))))
   apply bc ((i == IntKind.i64.wrap ((re x).i + 1))) <;> intro k16
   ·rw [of_t k12 (by rw [hA, k13, k14] <;> kernel_rfl) hC (by rw [k15, k16] <;> kernel_rfl)]; exact leafF [I,I,I,I,O] hv (al k12 (al k13 (al k14 (al k15 (al k16 (al s0 (al s0 an)))))))
   rw [of_t k12 (by rw [hA, k13, k14] <;> kernel_rfl) hC (by rw [k15, k16] <;> kernel_rfl)]; exact leafF [I,I,I,I,I] hv (al k12 (al k13 (al k14 (al k15 (al k16 (al s0 (al s0 an)))))))
 | false =>
  cases e2 with
  | true =>
   apply bc (purC c) <;> intro k17
   ·rw [of_p k17]; exact leafF [O] hv (al k17 an)
   apply bc (rightJ ⟨false, re u, re v, re x, i⟩ ↑c.length) <;> intro k18
   ·rw [of_a (by rw [hA, k18] <;> kernel_rfl)]; exact leafF [I,O] hv (al k17 (al k18 an))
   apply bc (rightJ ⟨true, re u2, re v2, re x2, i2⟩ (IntKind.i64.wrap (↑c.length + 1))) <;> intro k19
   ·rw [of_a (by rw [hA, k18, k19] <;> kernel_rfl)]; exact leafF [I,I,O] hv (al k17 (al k18 (al k19 an)))
   have s0 : ([] : List Tm).length ≤ 10 := Nat.le_of_ble_eq_true rfl
   have s1 : (Tm.mk 6 (re x).i (re x2).i 0 [re u, re u2]).size ≤ 10000000 := by (try simp only [re_eq]); (try simp only [Tm.size, sizes]); omega
   have s2 : (Tm.mk 6 (re x).i (re x2).i 0 [re v, re v2]).size ≤ 10000000 := by (try simp only [re_eq]); (try simp only [Tm.size, sizes]); omega
   have s3 : (Tm.mk 1 (max (re x).i (re x2).i) 0 0 []).size ≤ 10000000 := by (try simp only [re_eq]); (try simp only [Tm.size, sizes]); omega
   apply bc (((re x2).k == 1)) <;> intro k20
   ·rw [of_t k17 (by rw [hA, k18, k19] <;> kernel_rfl) hC (by rw [k20] <;> kernel_rfl)]; exact leafF [I,I,I,O] hv (al k17 (al k18 (al k19 (al k20 (al s0 (al s0 an))))))
   apply bc ((i2 == IntKind.i64.wrap ((re x2).i + 1))) <;> intro k21
   ·rw [of_t k17 (by rw [hA, k18, k19] <;> kernel_rfl) hC (by rw [k20, k21] <;> kernel_rfl)]; exact leafF [I,I,I,I,O] hv (al k17 (al k18 (al k19 (al k20 (al k21 (al s0 (al s0 an)))))))
   rw [of_t k17 (by rw [hA, k18, k19] <;> kernel_rfl) hC (by rw [k20, k21] <;> kernel_rfl)]; exact leafF [I,I,I,I,I] hv (al k17 (al k18 (al k19 (al k20 (al k21 (al s0 (al s0 an)))))))
  | false =>
   apply bc (purC c) <;> intro k22
   ·rw [of_p k22]; exact leafF [O] hv (al k22 an)
   apply bc (rightJ ⟨false, re u, re v, re x, i⟩ ↑c.length) <;> intro k23
   ·rw [of_a (by rw [hA, k23] <;> kernel_rfl)]; exact leafF [I,O] hv (al k22 (al k23 an))
   apply bc (rightJ ⟨false, re u2, re v2, re x2, i2⟩ (IntKind.i64.wrap (↑c.length + 1))) <;> intro k24
   ·rw [of_a (by rw [hA, k23, k24] <;> kernel_rfl)]; exact leafF [I,I,O] hv (al k22 (al k23 (al k24 an)))
   have s0 : ([] : List Tm).length ≤ 10 := Nat.le_of_ble_eq_true rfl
   have s1 : (Tm.mk 6 (re x).i (re x2).i 0 [re u, re u2]).size ≤ 10000000 := by (try simp only [re_eq]); (try simp only [Tm.size, sizes]); omega
   have s2 : (Tm.mk 6 (re x).i (re x2).i 0 [re v, re v2]).size ≤ 10000000 := by (try simp only [re_eq]); (try simp only [Tm.size, sizes]); omega
   have s3 : (Tm.mk 1 (max (re x).i (re x2).i) 0 0 []).size ≤ 10000000 := by (try simp only [re_eq]); (try simp only [Tm.size, sizes]); omega
   rw [of_t k22 (by rw [hA, k23, k24] <;> kernel_rfl) hC (by kernel_rfl)]; exact leafF [I,I,I] hv (al k22 (al k23 (al k24 (al s0 (al s0 an)))))
set_option maxRecDepth 20000 in
set_option maxHeartbeats 4000000 in
theorem of27_any (c : List En) (n : Int) (e : Bool) (u v x : Tm) (i : Int) (e2 : Bool) (u2 v2 x2 : Tm) (i2 : Int) (e3 : Bool) (u3 v3 x3 : Tm) (i3 : Int) (hs : Sml c [⟨e, re u, re v, re x, i⟩, ⟨e2, re u2, re v2, re x2, i2⟩, ⟨e3, re u3, re v3, re x3, i3⟩]) {w : World} {A : Nat → Prop} {vs : List Value} (hv : F2 (ArgDen w A) (aOf c 27 n [⟨e, re u, re v, re x, i⟩, ⟨e2, re u2, re v2, re x2, i2⟩, ⟨e3, re u3, re v3, re x3, i3⟩]) vs) : Calls Try.prog 5 vs.toArray w (GivesO A (ofB c 27 n [⟨e, re u, re v, re x, i⟩, ⟨e2, re u2, re v2, re x2, i2⟩, ⟨e3, re u3, re v3, re x3, i3⟩]) w) := by
 have hA : allR c.length 27 0 [⟨e, re u, re v, re x, i⟩, ⟨e2, re u2, re v2, re x2, i2⟩, ⟨e3, re u3, re v3, re x3, i3⟩] = (rightJ ⟨e, re u, re v, re x, i⟩ ↑c.length && (rightJ ⟨e2, re u2, re v2, re x2, i2⟩ (IntKind.i64.wrap (↑c.length + 1)) && (rightJ ⟨e3, re u3, re v3, re x3, i3⟩ (IntKind.i64.wrap (↑c.length + 1)) && true))) := by kernel_rfl
 have hC : concB c n 27 [⟨e, re u, re v, re x, i⟩, ⟨e2, re u2, re v2, re x2, i2⟩, ⟨e3, re u3, re v3, re x3, i3⟩] = if (((e && (((re x).k == 1) && (i == W64 ((re x).i + 1)))) && (e2 && (((re x2).k == 1) && (i2 == W64 ((re x2).i + 1))))) && (e3 && ((i3 == (re x2).i) && sameB (re x3) (re u2)))) = true then some ⟨true, nd 4 ((re x).i) ((re x2).i) [re u, re u2, re u3], nd 4 ((re x).i) ((re x2).i) [re v, re v2, re v3], nd 3 ((re x).i) ((re x2).i) [re u, re u2], (max (re x).i (re x2).i)⟩ else none := by kernel_rfl
 obtain ⟨zu, zv, zx⟩ := hs.z
 obtain ⟨zu2, zv2, zx2⟩ := hs.tl.z
 obtain ⟨zu3, zv3, zx3⟩ := hs.tl.tl.z
 cases e with
 | true =>
  cases e2 with
  | true =>
   cases e3 with
   | true =>
    apply bc (purC c) <;> intro k0
    ·rw [of_p k0]; exact leafF [O] hv (al k0 an)
    apply bc (rightJ ⟨true, re u, re v, re x, i⟩ ↑c.length) <;> intro k1
    ·rw [of_a (by rw [hA, k1] <;> kernel_rfl)]; exact leafF [I,O] hv (al k0 (al k1 an))
    apply bc (rightJ ⟨true, re u2, re v2, re x2, i2⟩ (IntKind.i64.wrap (↑c.length + 1))) <;> intro k2
    ·rw [of_a (by rw [hA, k1, k2] <;> kernel_rfl)]; exact leafF [I,I,O] hv (al k0 (al k1 (al k2 an)))
    apply bc (rightJ ⟨true, re u3, re v3, re x3, i3⟩ (IntKind.i64.wrap (↑c.length + 1))) <;> intro k3
    ·rw [of_a (by rw [hA, k1, k2, k3] <;> kernel_rfl)]; exact leafF [I,I,I,O] hv (al k0 (al k1 (al k2 (al k3 an))))
    have s0 : [re u3].length ≤ 10 := Nat.le_of_ble_eq_true rfl
    have s1 : [re v3].length ≤ 10 := Nat.le_of_ble_eq_true rfl
    have s2 : ([] : List Tm).length ≤ 10 := Nat.le_of_ble_eq_true rfl
    have s3 : (Tm.mk 4 (re x).i (re x2).i 0 [re u, re u2, re u3]).size ≤ 10000000 := by (try simp only [re_eq]); (try simp only [Tm.size, sizes]); omega
    have s4 : (Tm.mk 4 (re x).i (re x2).i 0 [re v, re v2, re v3]).size ≤ 10000000 := by (try simp only [re_eq]); (try simp only [Tm.size, sizes]); omega
    have s5 : (Tm.mk 3 (re x).i (re x2).i 0 [re u, re u2]).size ≤ 10000000 := by (try simp only [re_eq]); (try simp only [Tm.size, sizes]); omega
    apply bc (((re x).k == 1)) <;> intro k4
    ·apply bc (((re x2).k == 1)) <;> intro k5
     ·rw [of_t k0 (by rw [hA, k1, k2, k3] <;> kernel_rfl) hC (by rw [k4, k5] <;> kernel_rfl)]; exact leafF [I,I,I,I,O,O] hv (al k0 (al k1 (al k2 (al k3 (al k4 (al k5 (al s0 (al s1 (al s2 an)))))))))
     apply bc ((i2 == IntKind.i64.wrap ((re x2).i + 1))) <;> intro k6
     ·rw [of_t k0 (by rw [hA, k1, k2, k3] <;> kernel_rfl) hC (by rw [k4, k5, k6] <;> kernel_rfl)]; exact leafF [I,I,I,I,O,I,O] hv (al k0 (al k1 (al k2 (al k3 (al k4 (al k5 (al k6 (al s0 (al s1 (al s2 an))))))))))
     rw [of_t k0 (by rw [hA, k1, k2, k3] <;> kernel_rfl) hC (by rw [k4, k5, k6] <;> kernel_rfl)]; exact leafF [I,I,I,I,O,I,I] hv (al k0 (al k1 (al k2 (al k3 (al k4 (al k5 (al k6 (al s0 (al s1 (al s2 an))))))))))
    apply bc ((i == IntKind.i64.wrap ((re x).i + 1))) <;> intro k7
    ·apply bc (((re x2).k == 1)) <;> intro k8
     ·rw [of_t k0 (by rw [hA, k1, k2, k3] <;> kernel_rfl) hC (by rw [k4, k7, k8] <;> kernel_rfl)]; exact leafF [I,I,I,I,I,O,O] hv (al k0 (al k1 (al k2 (al k3 (al k4 (al k7 (al k8 (al s0 (al s1 (al s2 an))))))))))
     apply bc ((i2 == IntKind.i64.wrap ((re x2).i + 1))) <;> intro k9
     ·rw [of_t k0 (by rw [hA, k1, k2, k3] <;> kernel_rfl) hC (by rw [k4, k7, k8, k9] <;> kernel_rfl)]; exact leafF [I,I,I,I,I,O,I,O] hv (al k0 (al k1 (al k2 (al k3 (al k4 (al k7 (al k8 (al k9 (al s0 (al s1 (al s2 an)))))))))))
     rw [of_t k0 (by rw [hA, k1, k2, k3] <;> kernel_rfl) hC (by rw [k4, k7, k8, k9] <;> kernel_rfl)]; exact leafF [I,I,I,I,I,O,I,I] hv (al k0 (al k1 (al k2 (al k3 (al k4 (al k7 (al k8 (al k9 (al s0 (al s1 (al s2 an)))))))))))
    apply bc (((re x2).k == 1)) <;> intro k10
    ·rw [of_t k0 (by rw [hA, k1, k2, k3] <;> kernel_rfl) hC (by rw [k4, k7, k10] <;> kernel_rfl)]; exact leafF [I,I,I,I,I,I,O] hv (al k0 (al k1 (al k2 (al k3 (al k4 (al k7 (al k10 (al s0 (al s1 (al s2 an))))))))))
    apply bc ((i2 == IntKind.i64.wrap ((re x2).i + 1))) <;> intro k11
    ·rw [of_t k0 (by rw [hA, k1, k2, k3] <;> kernel_rfl) hC (by rw [k4, k7, k10, k11] <;> kernel_rfl)]; exact leafF [I,I,I,I,I,I,I,O] hv (al k0 (al k1 (al k2 (al k3 (al k4 (al k7 (al k10 (al k11 (al s0 (al s1 (al s2 an)))))))))))
    apply bc ((i3 == (re x2).i)) <;> intro k12
    ·rw [of_t k0 (by rw [hA, k1, k2, k3] <;> kernel_rfl) hC (by rw [k4, k7, k10, k11, k12] <;> kernel_rfl)]; exact leafF [I,I,I,I,I,I,I,I,O] hv (al k0 (al k1 (al k2 (al k3 (al k4 (al k7 (al k10 (al k11 (al k12 (al s0 (al s1 (al s2 an))))))))))))
    apply bc (sameB (re x3) (re u2)) <;> intro k13
    ·rw [of_t k0 (by rw [hA, k1, k2, k3] <;> kernel_rfl) hC (by rw [k4, k7, k10, k11, k12, k13] <;> kernel_rfl)]; exact leafF [I,I,I,I,I,I,I,I,I,O] hv (al k0 (al k1 (al k2 (al k3 (al k4 (al k7 (al k10 (al k11 (al k12 (al k13 (al s0 (al s1 (al s2 an)))))))))))))
    apply bc (decide (max (re x).i (re x2).i > 1000)) <;> intro k14
    ·rw [of_s k0 (by rw [hA, k1, k2, k3] <;> kernel_rfl) hC (by rw [k4, k7, k10, k11, k12, k13] <;> kernel_rfl) (by show (!(decide ((max (re x).i (re x2).i) > 1000) || ((nd 4 ((re x).i) ((re x2).i) [re u, re u2, re u3]).k == 0 || ((nd 3 ((re x).i) ((re x2).i) [re u, re u2]).k == 0 || (true && (nd 4 ((re x).i) ((re x2).i) [re v, re v2, re v3]).k == 0))))) = true; rw [k14] <;> kernel_rfl)]; exact leafS [I,I,I,I,I,I,I,I,I,I,O] hv (al k0 (al k1 (al k2 (al k3 (al k4 (al k7 (al k10 (al k11 (al k12 (al k13 (al s0 (al s1 (al s2 (al k14 (al s3 (al s4 (al s5 an)))))))))))))))))
    rw [of_o k0 (by rw [hA, k1, k2, k3] <;> kernel_rfl) hC (by show (!(decide ((max (re x).i (re x2).i) > 1000) || ((nd 4 ((re x).i) ((re x2).i) [re u, re u2, re u3]).k == 0 || ((nd 3 ((re x).i) ((re x2).i) [re u, re u2]).k == 0 || (true && (nd 4 ((re x).i) ((re x2).i) [re v, re v2, re v3]).k == 0))))) = false; rw [k14] <;> kernel_rfl)]; exact leafF [I,I,I,I,I,I,I,I,I,I,I] hv (al k0 (al k1 (al k2 (al k3 (al k4 (al k7 (al k10 (al k11 (al k12 (al k13 (al s0 (al s1 (al s2 (al k14 an))))))))))))))
   | false =>
    apply bc (purC c) <;> intro k15
    ·rw [of_p k15]; exact leafF [O] hv (al k15 an)
    apply bc (rightJ ⟨true, re u, re v, re x, i⟩ ↑c.length) <;> intro k16
    ·rw [of_a (by rw [hA, k16] <;> kernel_rfl)]; exact leafF [I,O] hv (al k15 (al k16 an))
    apply bc (rightJ ⟨true, re u2, re v2, re x2, i2⟩ (IntKind.i64.wrap (↑c.length + 1))) <;> intro k17
    ·rw [of_a (by rw [hA, k16, k17] <;> kernel_rfl)]; exact leafF [I,I,O] hv (al k15 (al k16 (al k17 an)))
    apply bc (rightJ ⟨false, re u3, re v3, re x3, i3⟩ (IntKind.i64.wrap (↑c.length + 1))) <;> intro k18
    ·rw [of_a (by rw [hA, k16, k17, k18] <;> kernel_rfl)]; exact leafF [I,I,I,O] hv (al k15 (al k16 (al k17 (al k18 an))))
    have s0 : [re u3].length ≤ 10 := Nat.le_of_ble_eq_true rfl
    have s1 : [re v3].length ≤ 10 := Nat.le_of_ble_eq_true rfl
    have s2 : ([] : List Tm).length ≤ 10 := Nat.le_of_ble_eq_true rfl
    have s3 : (Tm.mk 4 (re x).i (re x2).i 0 [re u, re u2, re u3]).size ≤ 10000000 := by (try simp only [re_eq]); (try simp only [Tm.size, sizes]); omega
    have s4 : (Tm.mk 4 (re x).i (re x2).i 0 [re v, re v2, re v3]).size ≤ 10000000 := by (try simp only [re_eq]); (try simp only [Tm.size, sizes]); omega
    have s5 : (Tm.mk 3 (re x).i (re x2).i 0 [re u, re u2]).size ≤ 10000000 := by (try simp only [re_eq]); (try simp only [Tm.size, sizes]); omega
    apply bc (((re x).k == 1)) <;> intro k19
    ·apply bc (((re x2).k == 1)) <;> intro k20
     ·rw [of_t k15 (by rw [hA, k16, k17, k18] <;> kernel_rfl) hC (by rw [k19, k20] <;> kernel_rfl)]; exact leafF [I,I,I,I,O,O] hv (al k15 (al k16 (al k17 (al k18 (al k19 (al k20 (al s0 (al s1 (al s2 an)))))))))
     apply bc ((i2 == IntKind.i64.wrap ((re x2).i + 1))) <;> intro k21
     ·rw [of_t k15 (by rw [hA, k16, k17, k18] <;> kernel_rfl) hC (by rw [k19, k20, k21] <;> kernel_rfl)]; exact leafF [I,I,I,I,O,I,O] hv (al k15 (al k16 (al k17 (al k18 (al k19 (al k20 (al k21 (al s0 (al s1 (al s2 an))))))))))
     rw [of_t k15 (by rw [hA, k16, k17, k18] <;> kernel_rfl) hC (by rw [k19, k20, k21] <;> kernel_rfl)]; exact leafF [I,I,I,I,O,I,I] hv (al k15 (al k16 (al k17 (al k18 (al k19 (al k20 (al k21 (al s0 (al s1 (al s2 an))))))))))
    apply bc ((i == IntKind.i64.wrap ((re x).i + 1))) <;> intro k22
    ·apply bc (((re x2).k == 1)) <;> intro k23
     ·rw [of_t k15 (by rw [hA, k16, k17, k18] <;> kernel_rfl) hC (by rw [k19, k22, k23] <;> kernel_rfl)]; exact leafF [I,I,I,I,I,O,O] hv (al k15 (al k16 (al k17 (al k18 (al k19 (al k22 (al k23 (al s0 (al s1 (al s2 an))))))))))
     apply bc ((i2 == IntKind.i64.wrap ((re x2).i + 1))) <;> intro k24
     ·rw [of_t k15 (by rw [hA, k16, k17, k18] <;> kernel_rfl) hC (by rw [k19, k22, k23, k24] <;> kernel_rfl)]; exact leafF [I,I,I,I,I,O,I,O] hv (al k15 (al k16 (al k17 (al k18 (al k19 (al k22 (al k23 (al k24 (al s0 (al s1 (al s2 an)))))))))))
     rw [of_t k15 (by rw [hA, k16, k17, k18] <;> kernel_rfl) hC (by rw [k19, k22, k23, k24] <;> kernel_rfl)]; exact leafF [I,I,I,I,I,O,I,I] hv (al k15 (al k16 (al k17 (al k18 (al k19 (al k22 (al k23 (al k24 (al s0 (al s1 (al s2 an)))))))))))
    apply bc (((re x2).k == 1)) <;> intro k25
    ·rw [of_t k15 (by rw [hA, k16, k17, k18] <;> kernel_rfl) hC (by rw [k19, k22, k25] <;> kernel_rfl)]; exact leafF [I,I,I,I,I,I,O] hv (al k15 (al k16 (al k17 (al k18 (al k19 (al k22 (al k25 (al s0 (al s1 (al s2 an))))))))))
    apply bc ((i2 == IntKind.i64.wrap ((re x2).i + 1))) <;> intro k26
    ·rw [of_t k15 (by rw [hA, k16, k17, k18] <;> kernel_rfl) hC (by rw [k19, k22, k25, k26] <;> kernel_rfl)]; exact leafF [I,I,I,I,I,I,I,O] hv (al k15 (al k16 (al k17 (al k18 (al k19 (al k22 (al k25 (al k26 (al s0 (al s1 (al s2 an)))))))))))
    rw [of_t k15 (by rw [hA, k16, k17, k18] <;> kernel_rfl) hC (by rw [k19, k22, k25, k26] <;> kernel_rfl)]; exact leafF [I,I,I,I,I,I,I,I] hv (al k15 (al k16 (al k17 (al k18 (al k19 (al k22 (al k25 (al k26 (al s0 (al s1 (al s2 an)))))))))))
  | false =>
   apply bc (purC c) <;> intro k27
   ·rw [of_p k27]; exact leafF [O] hv (al k27 an)
   apply bc (rightJ ⟨true, re u, re v, re x, i⟩ ↑c.length) <;> intro k28
   ·rw [of_a (by rw [hA, k28] <;> kernel_rfl)]; exact leafF [I,O] hv (al k27 (al k28 an))
   apply bc (rightJ ⟨false, re u2, re v2, re x2, i2⟩ (IntKind.i64.wrap (↑c.length + 1))) <;> intro k29
   ·rw [of_a (by rw [hA, k28, k29] <;> kernel_rfl)]; exact leafF [I,I,O] hv (al k27 (al k28 (al k29 an)))
   apply bc (rightJ ⟨e3, re u3, re v3, re x3, i3⟩ (IntKind.i64.wrap (↑c.length + 1))) <;> intro k30
   ·rw [of_a (by rw [hA, k28, k29, k30] <;> kernel_rfl)]; exact leafF [I,I,I,O] hv (al k27 (al k28 (al k29 (al k30 an))))
   have s0 : [re u3].length ≤ 10 := Nat.le_of_ble_eq_true rfl
   have s1 : [re v3].length ≤ 10 := Nat.le_of_ble_eq_true rfl
   have s2 : ([] : List Tm).length ≤ 10 := Nat.le_of_ble_eq_true rfl
   have s3 : (Tm.mk 4 (re x).i (re x2).i 0 [re u, re u2, re u3]).size ≤ 10000000 := by (try simp only [re_eq]); (try simp only [Tm.size, sizes]); omega
   have s4 : (Tm.mk 4 (re x).i (re x2).i 0 [re v, re v2, re v3]).size ≤ 10000000 := by (try simp only [re_eq]); (try simp only [Tm.size, sizes]); omega
   have s5 : (Tm.mk 3 (re x).i (re x2).i 0 [re u, re u2]).size ≤ 10000000 := by (try simp only [re_eq]); (try simp only [Tm.size, sizes]); omega
   apply bc (((re x).k == 1)) <;> intro k31
   ·rw [of_t k27 (by rw [hA, k28, k29, k30] <;> kernel_rfl) hC (by rw [k31] <;> kernel_rfl)]; exact leafF [I,I,I,I,O] hv (al k27 (al k28 (al k29 (al k30 (al k31 (al s0 (al s1 (al s2 an))))))))
   apply bc ((i == IntKind.i64.wrap ((re x).i + 1))) <;> intro k32
   ·rw [of_t k27 (by rw [hA, k28, k29, k30] <;> kernel_rfl) hC (by rw [k31, k32] <;> kernel_rfl)]; exact leafF [I,I,I,I,I,O] hv (al k27 (al k28 (al k29 (al k30 (al k31 (al k32 (al s0 (al s1 (al s2 an)))))))))
   rw [of_t k27 (by rw [hA, k28, k29, k30] <;> kernel_rfl) hC (by rw [k31, k32] <;> kernel_rfl)]; exact leafF [I,I,I,I,I,I] hv (al k27 (al k28 (al k29 (al k30 (al k31 (al k32 (al s0 (al s1 (al s2 an)))))))))
 | false =>
  cases e2 with
  | true =>
   apply bc (purC c) <;> intro k33
   ·rw [of_p k33]; exact leafF [O] hv (al k33 an)
   apply bc (rightJ ⟨false, re u, re v, re x, i⟩ ↑c.length) <;> intro k34
   ·rw [of_a (by rw [hA, k34] <;> kernel_rfl)]; exact leafF [I,O] hv (al k33 (al k34 an))
   apply bc (rightJ ⟨true, re u2, re v2, re x2, i2⟩ (IntKind.i64.wrap (↑c.length + 1))) <;> intro k35
   ·rw [of_a (by rw [hA, k34, k35] <;> kernel_rfl)]; exact leafF [I,I,O] hv (al k33 (al k34 (al k35 an)))
   apply bc (rightJ ⟨e3, re u3, re v3, re x3, i3⟩ (IntKind.i64.wrap (↑c.length + 1))) <;> intro k36
   ·rw [of_a (by rw [hA, k34, k35, k36] <;> kernel_rfl)]; exact leafF [I,I,I,O] hv (al k33 (al k34 (al k35 (al k36 an))))
   have s0 : [re u3].length ≤ 10 := Nat.le_of_ble_eq_true rfl
   have s1 : [re v3].length ≤ 10 := Nat.le_of_ble_eq_true rfl
   have s2 : ([] : List Tm).length ≤ 10 := Nat.le_of_ble_eq_true rfl
   have s3 : (Tm.mk 4 (re x).i (re x2).i 0 [re u, re u2, re u3]).size ≤ 10000000 := by (try simp only [re_eq]); (try simp only [Tm.size, sizes]); omega
   have s4 : (Tm.mk 4 (re x).i (re x2).i 0 [re v, re v2, re v3]).size ≤ 10000000 := by (try simp only [re_eq]); (try simp only [Tm.size, sizes]); omega
   have s5 : (Tm.mk 3 (re x).i (re x2).i 0 [re u, re u2]).size ≤ 10000000 := by (try simp only [re_eq]); (try simp only [Tm.size, sizes]); omega
   apply bc (((re x2).k == 1)) <;> intro k37
   ·rw [of_t k33 (by rw [hA, k34, k35, k36] <;> kernel_rfl) hC (by rw [k37] <;> kernel_rfl)]; exact leafF [I,I,I,I,O] hv (al k33 (al k34 (al k35 (al k36 (al k37 (al s0 (al s1 (al s2 an))))))))
   apply bc ((i2 == IntKind.i64.wrap ((re x2).i + 1))) <;> intro k38
   ·rw [of_t k33 (by rw [hA, k34, k35, k36] <;> kernel_rfl) hC (by rw [k37, k38] <;> kernel_rfl)]; exact leafF [I,I,I,I,I,O] hv (al k33 (al k34 (al k35 (al k36 (al k37 (al k38 (al s0 (al s1 (al s2 an)))))))))
   rw [of_t k33 (by rw [hA, k34, k35, k36] <;> kernel_rfl) hC (by rw [k37, k38] <;> kernel_rfl)]; exact leafF [I,I,I,I,I,I] hv (al k33 (al k34 (al k35 (al k36 (al k37 (al k38 (al s0 (al s1 (al s2 an)))))))))
  | false =>
   apply bc (purC c) <;> intro k39
   ·rw [of_p k39]; exact leafF [O] hv (al k39 an)
   apply bc (rightJ ⟨false, re u, re v, re x, i⟩ ↑c.length) <;> intro k40
   ·rw [of_a (by rw [hA, k40] <;> kernel_rfl)]; exact leafF [I,O] hv (al k39 (al k40 an))
   apply bc (rightJ ⟨false, re u2, re v2, re x2, i2⟩ (IntKind.i64.wrap (↑c.length + 1))) <;> intro k41
   ·rw [of_a (by rw [hA, k40, k41] <;> kernel_rfl)]; exact leafF [I,I,O] hv (al k39 (al k40 (al k41 an)))
   apply bc (rightJ ⟨e3, re u3, re v3, re x3, i3⟩ (IntKind.i64.wrap (↑c.length + 1))) <;> intro k42
   ·rw [of_a (by rw [hA, k40, k41, k42] <;> kernel_rfl)]; exact leafF [I,I,I,O] hv (al k39 (al k40 (al k41 (al k42 an))))
   have s0 : [re u3].length ≤ 10 := Nat.le_of_ble_eq_true rfl
   have s1 : [re v3].length ≤ 10 := Nat.le_of_ble_eq_true rfl
   have s2 : ([] : List Tm).length ≤ 10 := Nat.le_of_ble_eq_true rfl
   have s3 : (Tm.mk 4 (re x).i (re x2).i 0 [re u, re u2, re u3]).size ≤ 10000000 := by (try simp only [re_eq]); (try simp only [Tm.size, sizes]); omega
   have s4 : (Tm.mk 4 (re x).i (re x2).i 0 [re v, re v2, re v3]).size ≤ 10000000 := by (try simp only [re_eq]); (try simp only [Tm.size, sizes]); omega
   have s5 : (Tm.mk 3 (re x).i (re x2).i 0 [re u, re u2]).size ≤ 10000000 := by (try simp only [re_eq]); (try simp only [Tm.size, sizes]); omega
   rw [of_t k39 (by rw [hA, k40, k41, k42] <;> kernel_rfl) hC (by kernel_rfl)]; exact leafF [I,I,I,I] hv (al k39 (al k40 (al k41 (al k42 (al s0 (al s1 (al s2 an)))))))
end Go.Proofs.Ytmicgbdcbjajiaa.Se
namespace Go.Proofs.Ytmicgbdcbjajiaa.Se
open Go Go.RowKit
set_option maxRecDepth 20000 in
set_option maxHeartbeats 4000000 in
theorem of28L1_any (c : List En) (n : Int) (u v x : Tm) (i : Int) (u2 v2 x2 : Tm) (i2 : Int) (u3 v3 x3 : Tm) (i3 : Int) (u4 v4 x4 : Tm) (i4 : Int) (hs : Sml c [⟨true, re u, re v, re x, i⟩, ⟨true, re u2, re v2, re x2, i2⟩, ⟨false, re u3, re v3, re x3, i3⟩, ⟨true, re u4, re v4, re x4, i4⟩]) {w : World} {A : Nat → Prop} {vs : List Value} (hv : F2 (ArgDen w A) (aOf c 28 n [⟨true, re u, re v, re x, i⟩, ⟨true, re u2, re v2, re x2, i2⟩, ⟨false, re u3, re v3, re x3, i3⟩, ⟨true, re u4, re v4, re x4, i4⟩]) vs) : Calls Try.prog 5 vs.toArray w (GivesO A (ofB c 28 n [⟨true, re u, re v, re x, i⟩, ⟨true, re u2, re v2, re x2, i2⟩, ⟨false, re u3, re v3, re x3, i3⟩, ⟨true, re u4, re v4, re x4, i4⟩]) w) := by
 have hA : allR c.length 28 0 [⟨true, re u, re v, re x, i⟩, ⟨true, re u2, re v2, re x2, i2⟩, ⟨false, re u3, re v3, re x3, i3⟩, ⟨true, re u4, re v4, re x4, i4⟩] = (rightJ ⟨true, re u, re v, re x, i⟩ ↑c.length && (rightJ ⟨true, re u2, re v2, re x2, i2⟩ (IntKind.i64.wrap (↑c.length + 1)) && (rightJ ⟨false, re u3, re v3, re x3, i3⟩ ↑c.length && (rightJ ⟨true, re u4, re v4, re x4, i4⟩ ↑c.length && true)))) := by kernel_rfl
 have hC : concB c n 28 [⟨true, re u, re v, re x, i⟩, ⟨true, re u2, re v2, re x2, i2⟩, ⟨false, re u3, re v3, re x3, i3⟩, ⟨true, re u4, re v4, re x4, i4⟩] = if ((((true && (((re x).k == 1) && (i == W64 ((re x).i + 1)))) && (true && (((re x2).k == 1) && (i2 == W64 ((re x2).i + 1))))) && ((!false) && ((i3 == (re x).i) && sameB (re x3) (re u)))) && ((!true) && ((i4 == (re x2).i) && sameB (re x4) ((re u2).putB (re u3))))) = true then some ⟨true, nd 7 ((re x).i) ((re x2).i) [re u, re u2, re u3, re u4], nd 7 ((re x).i) ((re x2).i) [re v, re v2, re u3, re u4], nd 6 ((re x).i) ((re x2).i) [re u, re u2], (max (re x).i (re x2).i)⟩ else none := by kernel_rfl
 obtain ⟨zu, zv, zx⟩ := hs.z
 obtain ⟨zu2, zv2, zx2⟩ := hs.tl.z
 obtain ⟨zu3, zv3, zx3⟩ := hs.tl.tl.z
 obtain ⟨zu4, zv4, zx4⟩ := hs.tl.tl.tl.z
 apply bc (purC c) <;> intro k13
 ·rw [of_p k13]; exact leafF [O] hv (al k13 an)
 apply bc (rightJ ⟨true, re u, re v, re x, i⟩ ↑c.length) <;> intro k14
 ·rw [of_a (by rw [hA, k14] <;> kernel_rfl)]; exact leafF [I,O] hv (al k13 (al k14 an))
 apply bc (rightJ ⟨true, re u2, re v2, re x2, i2⟩ (IntKind.i64.wrap (↑c.length + 1))) <;> intro k15
 ·rw [of_a (by rw [hA, k14, k15] <;> kernel_rfl)]; exact leafF [I,I,O] hv (al k13 (al k14 (al k15 an)))
 apply bc (rightJ ⟨false, re u3, re v3, re x3, i3⟩ ↑c.length) <;> intro k16
 ·rw [of_a (by rw [hA, k14, k15, k16] <;> kernel_rfl)]; exact leafF [I,I,I,O] hv (al k13 (al k14 (al k15 (al k16 an))))
 apply bc (rightJ ⟨true, re u4, re v4, re x4, i4⟩ ↑c.length) <;> intro k17
 ·rw [of_a (by rw [hA, k14, k15, k16, k17] <;> kernel_rfl)]; exact leafF [I,I,I,I,O] hv (al k13 (al k14 (al k15 (al k16 (al k17 an)))))
 have s0 : [re u3, re u4].length ≤ 10 := Nat.le_of_ble_eq_true rfl
 have s1 : ([] : List Tm).length ≤ 10 := Nat.le_of_ble_eq_true rfl
 have s2 : (re u2).deep ≤ 100000 := by refine Nat.le_trans (deep_le_size _) ?_; (try simp only [re_eq]); (try simp only [Tm.size, sizes]); omega
 have s3 : (re u3).deep ≤ 100000 := by refine Nat.le_trans (deep_le_size _) ?_; (try simp only [re_eq]); (try simp only [Tm.size, sizes]); omega
 have s4 : (Tm.mk 7 (re x).i (re x2).i 0 [re u, re u2, re u3, re u4]).size ≤ 10000000 := by (try simp only [re_eq]); (try simp only [Tm.size, sizes]); omega
 have s5 : (Tm.mk 7 (re x).i (re x2).i 0 [re v, re v2, re u3, re u4]).size ≤ 10000000 := by (try simp only [re_eq]); (try simp only [Tm.size, sizes]); omega
 have s6 : (Tm.mk 6 (re x).i (re x2).i 0 [re u, re u2]).size ≤ 10000000 := by (try simp only [re_eq]); (try simp only [Tm.size, sizes]); omega
 apply bc (((re x).k == 1)) <;> intro k18
 ·apply bc (((re x2).k == 1)) <;> intro k19
  ·rw [of_t k13 (by rw [hA, k14, k15, k16, k17] <;> kernel_rfl) hC (by rw [k18, k19] <;> kernel_rfl)]; exact leafF [I,I,I,I,I,O,O] hv (al k13 (al k14 (al k15 (al k16 (al k17 (al k18 (al k19 (al s0 (al s0 (al s1 an))))))))))
  apply bc ((i2 == IntKind.i64.wrap ((re x2).i + 1))) <;> intro k20
  ·rw [of_t k13 (by rw [hA, k14, k15, k16, k17] <;> kernel_rfl) hC (by rw [k18, k19, k20] <;> kernel_rfl)]; exact leafF [I,I,I,I,I,O,I,O] hv (al k13 (al k14 (al k15 (al k16 (al k17 (al k18 (al k19 (al k20 (al s0 (al s0 (al s1 an)))))))))))
  rw [of_t k13 (by rw [hA, k14, k15, k16, k17] <;> kernel_rfl) hC (by rw [k18, k19, k20] <;> kernel_rfl)]; exact leafF [I,I,I,I,I,O,I,I] hv (al k13 (al k14 (al k15 (al k16 (al k17 (al k18 (al k19 (al k20 (al s0 (al s0 (al s1 an)))))))))))
 apply bc ((i == IntKind.i64.wrap ((re x).i + 1))) <;> intro k21
 ·apply bc (((re x2).k == 1)) <;> intro k22
  ·rw [of_t k13 (by rw [hA, k14, k15, k16, k17] <;> kernel_rfl) hC (by rw [k18, k21, k22] <;> kernel_rfl)]; exact leafF [I,I,I,I,I,I,O,O] hv (al k13 (al k14 (al k15 (al k16 (al k17 (al k18 (al k21 (al k22 (al s0 (al s0 (al s1 an)))))))))))
  apply bc ((i2 == IntKind.i64.wrap ((re x2).i + 1))) <;> intro k23
  ·rw [of_t k13 (by rw [hA, k14, k15, k16, k17] <;> kernel_rfl) hC (by rw [k18, k21, k22, k23] <;> kernel_rfl)]; exact leafF [I,I,I,I,I,I,O,I,O] hv (al k13 (al k14 (al k15 (al k16 (al k17 (al k18 (al k21 (al k22 (al k23 (al s0 (al s0 (al s1 an))))))))))))
  rw [of_t k13 (by rw [hA, k14, k15, k16, k17] <;> kernel_rfl) hC (by rw [k18, k21, k22, k23] <;> kernel_rfl)]; exact leafF [I,I,I,I,I,I,O,I,I] hv (al k13 (al k14 (al k15 (al k16 (al k17 (al k18 (al k21 (al k22 (al k23 (al s0 (al s0 (al s1 an))))))))))))
 apply bc (((re x2).k == 1)) <;> intro k24
 ·rw [of_t k13 (by rw [hA, k14, k15, k16, k17] <;> kernel_rfl) hC (by rw [k18, k21, k24] <;> kernel_rfl)]; exact leafF [I,I,I,I,I,I,I,O] hv (al k13 (al k14 (al k15 (al k16 (al k17 (al k18 (al k21 (al k24 (al s0 (al s0 (al s1 an)))))))))))
 apply bc ((i2 == IntKind.i64.wrap ((re x2).i + 1))) <;> intro k25
 ·rw [of_t k13 (by rw [hA, k14, k15, k16, k17] <;> kernel_rfl) hC (by rw [k18, k21, k24, k25] <;> kernel_rfl)]; exact leafF [I,I,I,I,I,I,I,I,O] hv (al k13 (al k14 (al k15 (al k16 (al k17 (al k18 (al k21 (al k24 (al k25 (al s0 (al s0 (al s1 an))))))))))))
 apply bc ((i3 == (re x).i)) <;> intro k26
 ·rw [of_t k13 (by rw [hA, k14, k15, k16, k17] <;> kernel_rfl) hC (by rw [k18, k21, k24, k25, k26] <;> kernel_rfl)]; exact leafF [I,I,I,I,I,I,I,I,I,O] hv (al k13 (al k14 (al k15 (al k16 (al k17 (al k18 (al k21 (al k24 (al k25 (al k26 (al s0 (al s0 (al s1 an)))))))))))))
 apply bc (sameB (re x3) (re u)) <;> intro k27
 ·rw [of_t k13 (by rw [hA, k14, k15, k16, k17] <;> kernel_rfl) hC (by rw [k18, k21, k24, k25, k26, k27] <;> kernel_rfl)]; exact leafF [I,I,I,I,I,I,I,I,I,I,O] hv (al k13 (al k14 (al k15 (al k16 (al k17 (al k18 (al k21 (al k24 (al k25 (al k26 (al k27 (al s0 (al s0 (al s1 an))))))))))))))
 rw [of_t k13 (by rw [hA, k14, k15, k16, k17] <;> kernel_rfl) hC (by rw [k18, k21, k24, k25, k26, k27] <;> kernel_rfl)]; exact leafF [I,I,I,I,I,I,I,I,I,I,I] hv (al k13 (al k14 (al k15 (al k16 (al k17 (al k18 (al k21 (al k24 (al k25 (al k26 (al k27 (al s2 (al s3 (al s0 (al s0 (al s1 an))))))))))))))))
set_option maxRecDepth 20000 in
set_option maxHeartbeats 4000000 in
theorem of28L2_any (c : List En) (n : Int) (u v x : Tm) (i : Int) (u2 v2 x2 : Tm) (i2 : Int) (u3 v3 x3 : Tm) (i3 : Int) (u4 v4 x4 : Tm) (i4 : Int) (hs : Sml c [⟨true, re u, re v, re x, i⟩, ⟨true, re u2, re v2, re x2, i2⟩, ⟨false, re u3, re v3, re x3, i3⟩, ⟨false, re u4, re v4, re x4, i4⟩]) {w : World} {A : Nat → Prop} {vs : List Value} (hv : F2 (ArgDen w A) (aOf c 28 n [⟨true, re u, re v, re x, i⟩, ⟨true, re u2, re v2, re x2, i2⟩, ⟨false, re u3, re v3, re x3, i3⟩, ⟨false, re u4, re v4, re x4, i4⟩]) vs) : Calls Try.prog 5 vs.toArray w (GivesO A (ofB c 28 n [⟨true, re u, re v, re x, i⟩, ⟨true, re u2, re v2, re x2, i2⟩, ⟨false, re u3, re v3, re x3, i3⟩, ⟨false, re u4, re v4, re x4, i4⟩]) w) := by
 have hA : allR c.length 28 0 [⟨true, re u, re v, re x, i⟩, ⟨true, re u2, re v2, re x2, i2⟩, ⟨false, re u3, re v3, re x3, i3⟩, ⟨false, re u4, re v4, re x4, i4⟩] = (rightJ ⟨true, re u, re v, re x, i⟩ ↑c.length && (rightJ ⟨true, re u2, re v2, re x2, i2⟩ (IntKind.i64.wrap (↑c.length + 1)) && (rightJ ⟨false, re u3, re v3, re x3, i3⟩ ↑c.length && (rightJ ⟨false, re u4, re v4, re x4, i4⟩ ↑c.length && true)))) := by kernel_rfl
 have hC : concB c n 28 [⟨true, re u, re v, re x, i⟩, ⟨true, re u2, re v2, re x2, i2⟩, ⟨false, re u3, re v3, re x3, i3⟩, ⟨false, re u4, re v4, re x4, i4⟩] = if ((((true && (((re x).k == 1) && (i == W64 ((re x).i + 1)))) && (true && (((re x2).k == 1) && (i2 == W64 ((re x2).i + 1))))) && ((!false) && ((i3 == (re x).i) && sameB (re x3) (re u)))) && ((!false) && ((i4 == (re x2).i) && sameB (re x4) ((re u2).putB (re u3))))) = true then some ⟨true, nd 7 ((re x).i) ((re x2).i) [re u, re u2, re u3, re u4], nd 7 ((re x).i) ((re x2).i) [re v, re v2, re u3, re u4], nd 6 ((re x).i) ((re x2).i) [re u, re u2], (max (re x).i (re x2).i)⟩ else none := by kernel_rfl
 obtain ⟨zu, zv, zx⟩ := hs.z
 obtain ⟨zu2, zv2, zx2⟩ := hs.tl.z
 obtain ⟨zu3, zv3, zx3⟩ := hs.tl.tl.z
 obtain ⟨zu4, zv4, zx4⟩ := hs.tl.tl.tl.z
 apply bc (purC c) <;> intro k28
 ·rw [of_p k28]; exact leafF [O] hv (al k28 an)
 apply bc (rightJ ⟨true, re u, re v, re x, i⟩ ↑c.length) <;> intro k29
 ·rw [of_a (by rw [hA, k29] <;> kernel_rfl)]; exact leafF [I,O] hv (al k28 (al k29 an))
 apply bc (rightJ ⟨true, re u2, re v2, re x2, i2⟩ (IntKind.i64.wrap (↑c.length + 1))) <;> intro k30
 ·rw [of_a (by rw [hA, k29, k30] <;> kernel_rfl)]; exact leafF [I,I,O] hv (al k28 (al k29 (al k30 an)))
 apply bc (rightJ ⟨false, re u3, re v3, re x3, i3⟩ ↑c.length) <;> intro k31
 ·rw [of_a (by rw [hA, k29, k30, k31] <;> kernel_rfl)]; exact leafF [I,I,I,O] hv (al k28 (al k29 (al k30 (al k31 an))))
 apply bc (rightJ ⟨false, re u4, re v4, re x4, i4⟩ ↑c.length) <;> intro k32
 ·rw [of_a (by rw [hA, k29, k30, k31, k32] <;> kernel_rfl)]; exact leafF [I,I,I,I,O] hv (al k28 (al k29 (al k30 (al k31 (al k32 an)))))
 have s0 : [re u3, re u4].length ≤ 10 := Nat.le_of_ble_eq_true rfl
 have s1 : ([] : List Tm).length ≤ 10 := Nat.le_of_ble_eq_true rfl
 have s2 : (re u2).deep ≤ 100000 := by refine Nat.le_trans (deep_le_size _) ?_; (try simp only [re_eq]); (try simp only [Tm.size, sizes]); omega
 have s3 : (re u3).deep ≤ 100000 := by refine Nat.le_trans (deep_le_size _) ?_; (try simp only [re_eq]); (try simp only [Tm.size, sizes]); omega
 have s4 : (Tm.mk 7 (re x).i (re x2).i 0 [re u, re u2, re u3, re u4]).size ≤ 10000000 := by (try simp only [re_eq]); (try simp only [Tm.size, sizes]); omega
 have s5 : (Tm.mk 7 (re x).i (re x2).i 0 [re v, re v2, re u3, re u4]).size ≤ 10000000 := by (try simp only [re_eq]); (try simp only [Tm.size, sizes]); omega
 have s6 : (Tm.mk 6 (re x).i (re x2).i 0 [re u, re u2]).size ≤ 10000000 := by (try simp only [re_eq]); (try simp only [Tm.size, sizes]); omega
 apply bc (((re x).k == 1)) <;> intro k33
 ·apply bc (((re x2).k == 1)) <;> intro k34
  ·rw [of_t k28 (by rw [hA, k29, k30, k31, k32] <;> kernel_rfl) hC (by rw [k33, k34] <;> kernel_rfl)]; exact leafF [I,I,I,I,I,O,O] hv (al k28 (al k29 (al k30 (al k31 (al k32 (al k33 (al k34 (al s0 (al s0 (al s1 an))))))))))
  apply bc ((i2 == IntKind.i64.wrap ((re x2).i + 1))) <;> intro k35
  ·rw [of_t k28 (by rw [hA, k29, k30, k31, k32] <;> kernel_rfl) hC (by rw [k33, k34, k35] <;> kernel_rfl)]; exact leafF [I,I,I,I,I,O,I,O] hv (al k28 (al k29 (al k30 (al k31 (al k32 (al k33 (al k34 (al k35 (al s0 (al s0 (al s1 an)))))))))))
  rw [of_t k28 (by rw [hA, k29, k30, k31, k32] <;> kernel_rfl) hC (by rw [k33, k34, k35] <;> kernel_rfl)]; exact leafF [I,I,I,I,I,O,I,I] hv (al k28 (al k29 (al k30 (al k31 (al k32 (al k33 (al k34 (al k35 (al s0 (al s0 (al s1 an)))))))))))
 apply bc ((i == IntKind.i64.wrap ((re x).i + 1))) <;> intro k36
 ·apply bc (((re x2).k == 1)) <;> intro k37
  ·rw [of_t k28 (by rw [hA, k29, k30, k31, k32] <;> kernel_rfl) hC (by rw [k33, k36, k37] <;> kernel_rfl)]; exact leafF [I,I,I,I,I,I,O,O] hv (al k28 (al k29 (al k30 (al k31 (al k32 (al k33 (al k36 (al k37 (al s0 (al s0 (al s1 an)))))))))))
  apply bc ((i2 == IntKind.i64.wrap ((re x2).i + 1))) <;> intro k38
  ·rw [of_t k28 (by rw [hA, k29, k30, k31, k32] <;> kernel_rfl) hC (by rw [k33, k36, k37, k38] <;> kernel_rfl)]; exact leafF [I,I,I,I,I,I,O,I,O] hv (al k28 (al k29 (al k30 (al k31 (al k32 (al k33 (al k36 (al k37 (al k38 (al s0 (al s0 (al s1 an))))))))))))
  rw [of_t k28 (by rw [hA, k29, k30, k31, k32] <;> kernel_rfl) hC (by rw [k33, k36, k37, k38] <;> kernel_rfl)]; exact leafF [I,I,I,I,I,I,O,I,I] hv (al k28 (al k29 (al k30 (al k31 (al k32 (al k33 (al k36 (al k37 (al k38 (al s0 (al s0 (al s1 an))))))))))))
 apply bc (((re x2).k == 1)) <;> intro k39
 ·rw [of_t k28 (by rw [hA, k29, k30, k31, k32] <;> kernel_rfl) hC (by rw [k33, k36, k39] <;> kernel_rfl)]; exact leafF [I,I,I,I,I,I,I,O] hv (al k28 (al k29 (al k30 (al k31 (al k32 (al k33 (al k36 (al k39 (al s0 (al s0 (al s1 an)))))))))))
 apply bc ((i2 == IntKind.i64.wrap ((re x2).i + 1))) <;> intro k40
 ·rw [of_t k28 (by rw [hA, k29, k30, k31, k32] <;> kernel_rfl) hC (by rw [k33, k36, k39, k40] <;> kernel_rfl)]; exact leafF [I,I,I,I,I,I,I,I,O] hv (al k28 (al k29 (al k30 (al k31 (al k32 (al k33 (al k36 (al k39 (al k40 (al s0 (al s0 (al s1 an))))))))))))
 apply bc ((i3 == (re x).i)) <;> intro k41
 ·rw [of_t k28 (by rw [hA, k29, k30, k31, k32] <;> kernel_rfl) hC (by rw [k33, k36, k39, k40, k41] <;> kernel_rfl)]; exact leafF [I,I,I,I,I,I,I,I,I,O] hv (al k28 (al k29 (al k30 (al k31 (al k32 (al k33 (al k36 (al k39 (al k40 (al k41 (al s0 (al s0 (al s1 an)))))))))))))
 apply bc (sameB (re x3) (re u)) <;> intro k42
 ·rw [of_t k28 (by rw [hA, k29, k30, k31, k32] <;> kernel_rfl) hC (by rw [k33, k36, k39, k40, k41, k42] <;> kernel_rfl)]; exact leafF [I,I,I,I,I,I,I,I,I,I,O] hv (al k28 (al k29 (al k30 (al k31 (al k32 (al k33 (al k36 (al k39 (al k40 (al k41 (al k42 (al s0 (al s0 (al s1 an))))))))))))))
 apply bc ((i4 == (re x2).i)) <;> intro k43
 ·rw [of_t k28 (by rw [hA, k29, k30, k31, k32] <;> kernel_rfl) hC (by rw [k33, k36, k39, k40, k41, k42, k43] <;> kernel_rfl)]; exact leafF [I,I,I,I,I,I,I,I,I,I,I,O] hv (al k28 (al k29 (al k30 (al k31 (al k32 (al k33 (al k36 (al k39 (al k40 (al k41 (al k42 (al s2 (al s3 (al k43 (al s0 (al s0 (al s1 an)))))))))))))))))
 apply bc (sameB (re x4) (re ((re u2).putB (re u3)))) <;> intro k44
 ·rw [of_t k28 (by rw [hA, k29, k30, k31, k32] <;> kernel_rfl) hC (by rw [← re_eq ((re u2).putB (re u3)), k33, k36, k39, k40, k41, k42, k43, k44] <;> kernel_rfl)]; exact leafF [I,I,I,I,I,I,I,I,I,I,I,I,O] hv (al k28 (al k29 (al k30 (al k31 (al k32 (al k33 (al k36 (al k39 (al k40 (al k41 (al k42 (al s2 (al s3 (al k43 (al k44 (al s0 (al s0 (al s1 an))))))))))))))))))
 apply bc (decide (max (re x).i (re x2).i > 1000)) <;> intro k45
 ·rw [of_s k28 (by rw [hA, k29, k30, k31, k32] <;> kernel_rfl) hC (by rw [← re_eq ((re u2).putB (re u3)), k33, k36, k39, k40, k41, k42, k43, k44] <;> kernel_rfl) (by show (!(decide ((max (re x).i (re x2).i) > 1000) || ((nd 7 ((re x).i) ((re x2).i) [re u, re u2, re u3, re u4]).k == 0 || ((nd 6 ((re x).i) ((re x2).i) [re u, re u2]).k == 0 || (true && (nd 7 ((re x).i) ((re x2).i) [re v, re v2, re u3, re u4]).k == 0))))) = true; rw [k45] <;> kernel_rfl)]; exact leafS [I,I,I,I,I,I,I,I,I,I,I,I,I,O] hv (al k28 (al k29 (al k30 (al k31 (al k32 (al k33 (al k36 (al k39 (al k40 (al k41 (al k42 (al s2 (al s3 (al k43 (al k44 (al s0 (al s0 (al s1 (al k45 (al s4 (al s5 (al s6 an))))))))))))))))))))))
 rw [of_o k28 (by rw [hA, k29, k30, k31, k32] <;> kernel_rfl) hC (by show (!(decide ((max (re x).i (re x2).i) > 1000) || ((nd 7 ((re x).i) ((re x2).i) [re u, re u2, re u3, re u4]).k == 0 || ((nd 6 ((re x).i) ((re x2).i) [re u, re u2]).k == 0 || (true && (nd 7 ((re x).i) ((re x2).i) [re v, re v2, re u3, re u4]).k == 0))))) = false; rw [k45] <;> kernel_rfl)]; exact leafF [I,I,I,I,I,I,I,I,I,I,I,I,I,I] hv (al k28 (al k29 (al k30 (al k31 (al k32 (al k33 (al k36 (al k39 (al k40 (al k41 (al k42 (al s2 (al s3 (al k43 (al k44 (al s0 (al s0 (al s1 (al k45 an)))))))))))))))))))
set_option maxRecDepth 20000 in
set_option maxHeartbeats 4000000 in
theorem of28_any (c : List En) (n : Int) (e : Bool) (u v x : Tm) (i : Int) (e2 : Bool) (u2 v2 x2 : Tm) (i2 : Int) (e3 : Bool) (u3 v3 x3 : Tm) (i3 : Int) (e4 : Bool) (u4 v4 x4 : Tm) (i4 : Int) (hs : Sml c [⟨e, re u, re v, re x, i⟩, ⟨e2, re u2, re v2, re x2, i2⟩, ⟨e3, re u3, re v3, re x3, i3⟩, ⟨e4, re u4, re v4, re x4, i4⟩]) {w : World} {A : Nat → Prop} {vs : List Value} (hv : F2 (ArgDen w A) (aOf c 28 n [⟨e, re u, re v, re x, i⟩, ⟨e2, re u2, re v2, re x2, i2⟩, ⟨e3, re u3, re v3, re x3, i3⟩, ⟨e4, re u4, re v4, re x4, i4⟩]) vs) : Calls Try.prog 5 vs.toArray w (GivesO A (ofB c 28 n [⟨e, re u, re v, re x, i⟩, ⟨e2, re u2, re v2, re x2, i2⟩, ⟨e3, re u3, re v3, re x3, i3⟩, ⟨e4, re u4, re v4, re x4, i4⟩]) w) := by
 have hA : allR c.length 28 0 [⟨e, re u, re v, re x, i⟩, ⟨e2, re u2, re v2, re x2, i2⟩, ⟨e3, re u3, re v3, re x3, i3⟩, ⟨e4, re u4, re v4, re x4, i4⟩] = (rightJ ⟨e, re u, re v, re x, i⟩ ↑c.length && (rightJ ⟨e2, re u2, re v2, re x2, i2⟩ (IntKind.i64.wrap (↑c.length + 1)) && (rightJ ⟨e3, re u3, re v3, re x3, i3⟩ ↑c.length && (rightJ ⟨e4, re u4, re v4, re x4, i4⟩ ↑c.length && true)))) := by kernel_rfl
 have hC : concB c n 28 [⟨e, re u, re v, re x, i⟩, ⟨e2, re u2, re v2, re x2, i2⟩, ⟨e3, re u3, re v3, re x3, i3⟩, ⟨e4, re u4, re v4, re x4, i4⟩] = if ((((e && (((re x).k == 1) && (i == W64 ((re x).i + 1)))) && (e2 && (((re x2).k == 1) && (i2 == W64 ((re x2).i + 1))))) && ((!e3) && ((i3 == (re x).i) && sameB (re x3) (re u)))) && ((!e4) && ((i4 == (re x2).i) && sameB (re x4) ((re u2).putB (re u3))))) = true then some ⟨true, nd 7 ((re x).i) ((re x2).i) [re u, re u2, re u3, re u4], nd 7 ((re x).i) ((re x2).i) [re v, re v2, re u3, re u4], nd 6 ((re x).i) ((re x2).i) [re u, re u2], (max (re x).i (re x2).i)⟩ else none := by kernel_rfl
 obtain ⟨zu, zv, zx⟩ := hs.z
 obtain ⟨zu2, zv2, zx2⟩ := hs.tl.z
 obtain ⟨zu3, zv3, zx3⟩ := hs.tl.tl.z
 obtain ⟨zu4, zv4, zx4⟩ := hs.tl.tl.tl.z
 cases e with
 | true =>
  cases e2 with
  | true =>
   cases e3 with
   | true =>
    apply bc (purC c) <;> intro k0
    ·rw [of_p k0]; exact leafF [O] hv (al k0 an)
    apply bc (rightJ ⟨true, re u, re v, re x, i⟩ ↑c.length) <;> intro k1
    ·rw [of_a (by rw [hA, k1] <;> kernel_rfl)]; exact leafF [I,O] hv (al k0 (al k1 an))
    apply bc (rightJ ⟨true, re u2, re v2, re x2, i2⟩ (IntKind.i64.wrap (↑c.length + 1))) <;> intro k2
    ·rw [of_a (by rw [hA, k1, k2] <;> kernel_rfl)]; exact leafF [I,I,O] hv (al k0 (al k1 (al k2 an)))
    apply bc (rightJ ⟨true, re u3, re v3, re x3, i3⟩ ↑c.length) <;> intro k3
    ·rw [of_a (by rw [hA, k1, k2, k3] <;> kernel_rfl)]; exact leafF [I,I,I,O] hv (al k0 (al k1 (al k2 (al k3 an))))
    apply bc (rightJ ⟨e4, re u4, re v4, re x4, i4⟩ ↑c.length) <;> intro k4
    ·rw [of_a (by rw [hA, k1, k2, k3, k4] <;> kernel_rfl)]; exact leafF [I,I,I,I,O] hv (al k0 (al k1 (al k2 (al k3 (al k4 an)))))
    have s0 : [re u3, re u4].length ≤ 10 := Nat.le_of_ble_eq_true rfl
    have s1 : ([] : List Tm).length ≤ 10 := Nat.le_of_ble_eq_true rfl
    have s2 : (re u2).deep ≤ 100000 := by refine Nat.le_trans (deep_le_size _) ?_; (try simp only [re_eq]); (try simp only [Tm.size, sizes]); omega
    have s3 : (re u3).deep ≤ 100000 := by refine Nat.le_trans (deep_le_size _) ?_; (try simp only [re_eq]); (try simp only [Tm.size, sizes]); omega
    have s4 : (Tm.mk 7 (re x).i (re x2).i 0 [re u, re u2, re u3, re u4]).size ≤ 10000000 := by (try simp only [re_eq]); (try simp only [Tm.size, sizes]); omega
    have s5 : (Tm.mk 7 (re x).i (re x2).i 0 [re v, re v2, re u3, re u4]).size ≤ 10000000 := by (try simp only [re_eq]); (try simp only [Tm.size, sizes]); omega
    have s6 : (Tm.mk 6 (re x).i (re x2).i 0 [re u, re u2]).size ≤ 10000000 := by (try simp only [re_eq]); (try simp only [Tm.size, sizes]); omega
    apply bc (((re x).k == 1)) <;> intro k5
    ·apply bc (((re x2).k == 1)) <;> intro k6
     ·rw [of_t k0 (by rw [hA, k1, k2, k3, k4] <;> kernel_rfl) hC (by rw [k5, k6] <;> kernel_rfl)]; exact leafF [I,I,I,I,I,O,O] hv (al k0 (al k1 (al k2 (al k3 (al k4 (al k5 (al k6 (al s0 (al s0 (al s1 an))))))))))
     apply bc ((i2 == IntKind.i64.wrap ((re x2).i + 1))) <;> intro k7
     ·rw [of_t k0 (by rw [hA, k1, k2, k3, k4] <;> kernel_rfl) hC (by rw [k5, k6, k7] <;> kernel_rfl)]; exact leafF [I,I,I,I,I,O,I,O] hv (al k0 (al k1 (al k2 (al k3 (al k4 (al k5 (al k6 (al k7 (al s0 (al s0 (al s1 an)))))))))))
     rw [of_t k0 (by rw [hA, k1, k2, k3, k4] <;> kernel_rfl) hC (by rw [k5, k6, k7] <;> kernel_rfl)]; exact leafF [I,I,I,I,I,O,I,I] hv (al k0 (al k1 (al k2 (al k3 (al k4 (al k5 (al k6 (al k7 (al s0 (al s0 (al s1 an)))))))))))
    apply bc ((i == IntKind.i64.wrap ((re x).i + 1))) <;> intro k8
    ·apply bc (((re x2).k == 1)) <;> intro k9
     ·rw [of_t k0 (by rw [hA, k1, k2, k3, k4] <;> kernel_rfl) hC (by rw [k5, k8, k9] <;> kernel_rfl)]; exact leafF [I,I,I,I,I,I,O,O] hv (al k0 (al k1 (al k2 (al k3 (al k4 (al k5 (al k8 (al k9 (al s0 (al s0 (al s1 an)))))))))))
     apply bc ((i2 == IntKind.i64.wrap ((re x2).i + 1))) <;> intro k10
     ·rw [of_t k0 (by rw [hA, k1, k2, k3, k4] <;> kernel_rfl) hC (by rw [k5, k8, k9, k10] <;> kernel_rfl)]; exact leafF [I,I,I,I,I,I,O,I,O] hv (al k0 (al k1 (al k2 (al k3 (al k4 (al k5 (al k8 (al k9 (al k10 (al s0 (al s0 (al s1 an))))))))))))
     rw [of_t k0 (by rw [hA, k1, k2, k3, k4] <;> kernel_rfl) hC (by rw [k5, k8, k9, k10] <;> kernel_rfl)]; exact leafF [I,I,I,I,I,I,O,I,I] hv (al k0 (al k1 (al k2 (al k3 (al k4 (al k5 (al k8 (al k9 (al k10 (al s0 (al s0 (al s1 an))))))))))))
    apply bc (((re x2).k == 1)) <;> intro k11
    ·rw [of_t k0 (by rw [hA, k1, k2, k3, k4] <;> kernel_rfl) hC (by rw [k5, k8, k11] <;> kernel_rfl)]; exact leafF [I,I,I,I,I,I,I,O] hv (al k0 (al k1 (al k2 (al k3 (al k4 (al k5 (al k8 (al k11 (al s0 (al s0 (al s1 an)))))))))))
    apply bc ((i2 == IntKind.i64.wrap ((re x2).i + 1))) <;> intro k12
    ·rw [of_t k0 (by rw [hA, k1, k2, k3, k4] <;> kernel_rfl) hC (by rw [k5, k8, k11, k12] <;> kernel_rfl)]; exact leafF [I,I,I,I,I,I,I,I,O] hv (al k0 (al k1 (al k2 (al k3 (al k4 (al k5 (al k8 (al k11 (al k12 (al s0 (al s0 (al s1 an))))))))))))
    rw [of_t k0 (by rw [hA, k1, k2, k3, k4] <;> kernel_rfl) hC (by rw [k5, k8, k11, k12] <;> kernel_rfl)]; exact leafF [I,I,I,I,I,I,I,I,I] hv (al k0 (al k1 (al k2 (al k3 (al k4 (al k5 (al k8 (al k11 (al k12 (al s0 (al s0 (al s1 an))))))))))))
   | false =>
    cases e4 with
    | true => exact of28L1_any c n u v x i u2 v2 x2 i2 u3 v3 x3 i3 u4 v4 x4 i4  hs hv
    | false => exact of28L2_any c n u v x i u2 v2 x2 i2 u3 v3 x3 i3 u4 v4 x4 i4  hs hv
  | false =>
   apply bc (purC c) <;> intro k46
   ·rw [of_p k46]; exact leafF [O] hv (al k46 an)
   apply bc (rightJ ⟨true, re u, re v, re x, i⟩ ↑c.length) <;> intro k47
   ·rw [of_a (by rw [hA, k47] <;> kernel_rfl)]; exact leafF [I,O] hv (al k46 (al k47 an))
   apply bc (rightJ ⟨false, re u2, re v2, re x2, i2⟩ (IntKind.i64.wrap (↑c.length + 1))) <;> intro k48
   ·rw [of_a (by rw [hA, k47, k48] <;> kernel_rfl)]; exact leafF [I,I,O] hv (al k46 (al k47 (al k48 an)))
   apply bc (rightJ ⟨e3, re u3, re v3, re x3, i3⟩ ↑c.length) <;> intro k49
   ·rw [of_a (by rw [hA, k47, k48, k49] <;> kernel_rfl)]; exact leafF [I,I,I,O] hv (al k46 (al k47 (al k48 (al k49 an))))
   apply bc (rightJ ⟨e4, re u4, re v4, re x4, i4⟩ ↑c.length) <;> intro k50
   ·rw [of_a (by rw [hA, k47, k48, k49, k50] <;> kernel_rfl)]; exact leafF [I,I,I,I,O] hv (al k46 (al k47 (al k48 (al k49 (al k50 an)))))
   have s0 : [re u3, re u4].length ≤ 10 := Nat.le_of_ble_eq_true rfl
   have s1 : ([] : List Tm).length ≤ 10 := Nat.le_of_ble_eq_true rfl
   have s2 : (re u2).deep ≤ 100000 := by refine Nat.le_trans (deep_le_size _) ?_; (try simp only [re_eq]); (try simp only [Tm.size, sizes]); omega
   have s3 : (re u3).deep ≤ 100000 := by refine Nat.le_trans (deep_le_size _) ?_; (try simp only [re_eq]); (try simp only [Tm.size, sizes]); omega
   have s4 : (Tm.mk 7 (re x).i (re x2).i 0 [re u, re u2, re u3, re u4]).size ≤ 10000000 := by (try simp only [re_eq]); (try simp only [Tm.size, sizes]); omega
   have s5 : (Tm.mk 7 (re x).i (re x2).i 0 [re v, re v2, re u3, re u4]).size ≤ 10000000 := by (try simp only [re_eq]); (try simp only [Tm.size, sizes]); omega
   have s6 : (Tm.mk 6 (re x).i (re x2).i 0 [re u, re u2]).size ≤ 10000000 := by (try simp only [re_eq]); (try simp only [Tm.size, sizes]); omega
   apply bc (((re x).k == 1)) <;> intro k51
   ·rw [of_t k46 (by rw [hA, k47, k48, k49, k50] <;> kernel_rfl) hC (by rw [k51] <;> kernel_rfl)]; exact leafF [I,I,I,I,I,O] hv (al k46 (al k47 (al k48 (al k49 (al k50 (al k51 (al s0 (al s0 (al s1 an)))))))))
   apply bc ((i == IntKind.i64.wrap ((re x).i + 1))) <;> intro k52
   ·rw [of_t k46 (by rw [hA, k47, k48, k49, k50] <;> kernel_rfl) hC (by rw [k51, k52] <;> kernel_rfl)]; exact leafF [I,I,I,I,I,I,O] hv (al k46 (al k47 (al k48 (al k49 (al k50 (al k51 (al k52 (al s0 (al s0 (al s1 an))))))))))
   rw [of_t k46 (by rw [hA, k47, k48, k49, k50] <;> kernel_rfl) hC (by rw [k51, k52] <;> kernel_rfl)]; exact leafF [I,I,I,I,I,I,I] hv (al k46 (al k47 (al k48 (al k49 (al k50 (al k51 (al k52 (al s0 (al s0 (al s1 an))))))))))
 | false =>
  cases e2 with
  | true =>
   apply bc (purC c) <;> intro k53
   ·rw [of_p k53]; exact leafF [O] hv (al k53 an)
   apply bc (rightJ ⟨false, re u, re v, re x, i⟩ ↑c.length) <;> intro k54
   ·rw [of_a (by rw [hA, k54] <;> kernel_rfl)]; exact leafF [I,O] hv (al k53 (al k54 an))
   apply bc (rightJ ⟨true, re u2, re v2, re x2, i2⟩ (IntKind.i64.wrap (↑c.length + 1))) <;> intro k55
   ·rw [of_a (by rw [hA, k54, k55] <;> kernel_rfl)]; exact leafF [I,I,O] hv (al k53 (al k54 (al k55 an)))
   apply bc (rightJ ⟨e3, re u3, re v3, re x3, i3⟩ ↑c.length) <;> intro k56
   ·rw [of_a (by rw [hA, k54, k55, k56] <;> kernel_rfl)]; exact leafF [I,I,I,O] hv (al k53 (al k54 (al k55 (al k56 an))))
   apply bc (rightJ ⟨e4, re u4, re v4, re x4, i4⟩ ↑c.length) <;> intro k57
   ·rw [of_a (by rw [hA, k54, k55, k56, k57] <;> kernel_rfl)]; exact leafF [I,I,I,I,O] hv (al k53 (al k54 (al k55 (al k56 (al k57 an)))))
   have s0 : [re u3, re u4].length ≤ 10 := Nat.le_of_ble_eq_true rfl
   have s1 : ([] : List Tm).length ≤ 10 := Nat.le_of_ble_eq_true rfl
   have s2 : (re u2).deep ≤ 100000 := by refine Nat.le_trans (deep_le_size _) ?_; (try simp only [re_eq]); (try simp only [Tm.size, sizes]); omega
   have s3 : (re u3).deep ≤ 100000 := by refine Nat.le_trans (deep_le_size _) ?_; (try simp only [re_eq]); (try simp only [Tm.size, sizes]); omega
   have s4 : (Tm.mk 7 (re x).i (re x2).i 0 [re u, re u2, re u3, re u4]).size ≤ 10000000 := by (try simp only [re_eq]); (try simp only [Tm.size, sizes]); omega
   have s5 : (Tm.mk 7 (re x).i (re x2).i 0 [re v, re v2, re u3, re u4]).size ≤ 10000000 := by (try simp only [re_eq]); (try simp only [Tm.size, sizes]); omega
   have s6 : (Tm.mk 6 (re x).i (re x2).i 0 [re u, re u2]).size ≤ 10000000 := by (try simp only [re_eq]); (try simp only [Tm.size, sizes]); omega
   apply bc (((re x2).k == 1)) <;> intro k58
   ·rw [of_t k53 (by rw [hA, k54, k55, k56, k57] <;> kernel_rfl) hC (by rw [k58] <;> kernel_rfl)]; exact leafF [I,I,I,I,I,O] hv (al k53 (al k54 (al k55 (al k56 (al k57 (al k58 (al s0 (al s0 (al s1 an)))))))))
   apply bc ((i2 == IntKind.i64.wrap ((re x2).i + 1))) <;> intro k59
   ·rw [of_t k53 (by rw [hA, k54, k55, k56, k57] <;> kernel_rfl) hC (by rw [k58, k59] <;> kernel_rfl)]; exact leafF [I,I,I,I,I,I,O] hv (al k53 (al k54 (al k55 (al k56 (al k57 (al k58 (al k59 (al s0 (al s0 (al s1 an))))))))))
   rw [of_t k53 (by rw [hA, k54, k55, k56, k57] <;> kernel_rfl) hC (by rw [k58, k59] <;> kernel_rfl)]; exact leafF [I,I,I,I,I,I,I] hv (al k53 (al k54 (al k55 (al k56 (al k57 (al k58 (al k59 (al s0 (al s0 (al s1 an))))))))))
  | false =>
   apply bc (purC c) <;> intro k60
   ·rw [of_p k60]; exact leafF [O] hv (al k60 an)
   apply bc (rightJ ⟨false, re u, re v, re x, i⟩ ↑c.length) <;> intro k61
   ·rw [of_a (by rw [hA, k61] <;> kernel_rfl)]; exact leafF [I,O] hv (al k60 (al k61 an))
   apply bc (rightJ ⟨false, re u2, re v2, re x2, i2⟩ (IntKind.i64.wrap (↑c.length + 1))) <;> intro k62
   ·rw [of_a (by rw [hA, k61, k62] <;> kernel_rfl)]; exact leafF [I,I,O] hv (al k60 (al k61 (al k62 an)))
   apply bc (rightJ ⟨e3, re u3, re v3, re x3, i3⟩ ↑c.length) <;> intro k63
   ·rw [of_a (by rw [hA, k61, k62, k63] <;> kernel_rfl)]; exact leafF [I,I,I,O] hv (al k60 (al k61 (al k62 (al k63 an))))
   apply bc (rightJ ⟨e4, re u4, re v4, re x4, i4⟩ ↑c.length) <;> intro k64
   ·rw [of_a (by rw [hA, k61, k62, k63, k64] <;> kernel_rfl)]; exact leafF [I,I,I,I,O] hv (al k60 (al k61 (al k62 (al k63 (al k64 an)))))
   have s0 : [re u3, re u4].length ≤ 10 := Nat.le_of_ble_eq_true rfl
   have s1 : ([] : List Tm).length ≤ 10 := Nat.le_of_ble_eq_true rfl
   have s2 : (re u2).deep ≤ 100000 := by refine Nat.le_trans (deep_le_size _) ?_; (try simp only [re_eq]); (try simp only [Tm.size, sizes]); omega
   have s3 : (re u3).deep ≤ 100000 := by refine Nat.le_trans (deep_le_size _) ?_; (try simp only [re_eq]); (try simp only [Tm.size, sizes]); omega
   have s4 : (Tm.mk 7 (re x).i (re x2).i 0 [re u, re u2, re u3, re u4]).size ≤ 10000000 := by (try simp only [re_eq]); (try simp only [Tm.size, sizes]); omega
   have s5 : (Tm.mk 7 (re x).i (re x2).i 0 [re v, re v2, re u3, re u4]).size ≤ 10000000 := by (try simp only [re_eq]); (try simp only [Tm.size, sizes]); omega
   have s6 : (Tm.mk 6 (re x).i (re x2).i 0 [re u, re u2]).size ≤ 10000000 := by (try simp only [re_eq]); (try simp only [Tm.size, sizes]); omega
   rw [of_t k60 (by rw [hA, k61, k62, k63, k64] <;> kernel_rfl) hC (by kernel_rfl)]; exact leafF [I,I,I,I,I] hv (al k60 (al k61 (al k62 (al k63 (al k64 (al s0 (al s0 (al s1 an))))))))
end Go.Proofs.Ytmicgbdcbjajiaa.Se
namespace Go.Proofs.Ytmicgbdcbjajiaa.Se
open Go Go.RowKit
set_option maxRecDepth 20000 in
set_option maxHeartbeats 4000000 in
theorem ofne_any (c : List En) (on : List Jd) (r n : Int) (P : Nat → Prop) (w : World) (sc : Value) (son : Value) (hlc : LiesE w c sc) (hlon : LiesJ w on son) (hne : Dv.dkidsN r ≠ on.length) : Calls Try.prog 5 #[sc, .int .i64 r, .int .i64 n, son] w (GivesJT P ⟨false, .zero, .zero, .zero, 0⟩ false w) := by
  have HEc := Lib.hid hlc
  obtain ⟨ac, cc, Sc, rfl, -⟩ := hlc.out
  clear hlc
  have HEon := Lib.hid hlon
  obtain ⟨aon, con, Son, rfl, -⟩ := hlon.out
  clear hlon
  have en0 : (Dv.dkidsN r != (on.length : Int)) = true := bne_iff_ne.2 hne
  clear hne
  obtain ⟨dj, dj1, dj2⟩ := under_of 29 (by kernel_rfl)
  obtain ⟨du, hu1, hu2⟩ := under_term
  go_enter Try.func5, Try.ntmps5
  go_upto_region 1 with fail
  refine at_code (fun V0 hV0 => ?_)
  obtain ⟨k2, x1, z3⟩ := alloc1 hV0
  have Kk4 := Lib.hid k2
  clear k2
  have Hx1 := Lib.hid x1
  have Z0 := Lib.hid z3
  clear z3 x1 hV0
  have kvV0 : Sees V0 (w.heap.size) V0 := sees_kept _ (kept_refl _)
  go_wp2_with fail
  clear kvV0
  have hq7 := kidsK r V0
  refine hq7.mono ?_
  clear hq7
  rintro e w5 ⟨rfl, k6⟩
  have Kk8 := Lib.hid k6
  clear k6
  have kvV0 : Sees V0 (w.heap.size) w5 := sees_kept _ Kk8.out
  go_upto_region 2 with fail
  go_wp2_with (refine stop_store 29 (.tmp 8) (.tmp 25) rfl ?_)
  intro _
  refine wpList_store_part_n (by rfl) 29 (.tmp 8) (.tmp 25) rfl (w.heap.size) 0 #[.bool false, .int .i64 0, .int .i64 0, .int .i64 0, .int .i64 0, .slice none 0 0, .int .i64 0, .int .i64 0, .int .i64 0, .int .i64 0, .slice none 0 0, .int .i64 0, .int .i64 0, .int .i64 0, .int .i64 0, .slice none 0 0, .int .i64 0] (by rfl) (by rfl) 29 (by kernel_rfl) (row_ok rfl) ?_
  intro W9 hW9
  clear kvV0
  subst hW9
  refine ⟨_, #[.bool false, .int .i64 0, .int .i64 0, .int .i64 0, .int .i64 0, .slice none 0 0, .int .i64 0, .int .i64 0, .int .i64 0, .int .i64 0, .slice none 0 0, .int .i64 0, .int .i64 0, .int .i64 0, .int .i64 0, .slice none 0 0, .int .i64 0], (blk_at Hx1.out Kk8.out), rfl, Nat.le_of_ble_eq_true rfl, ?_⟩
  intro W10 hW10
  go_wp2_with fail
  (try simp only [Exit.inBlock, Exit.then])
  refine bodyPost_ret (results_cell_tmp rfl _ _ (w.heap.size) 29 _ _ dj rfl (blk_same (blk_at Hx1.out Kk8.out) hW10) dj1 (by cases dj <;> first | rfl | exact dj2) (by kernel_rfl)) rfl ?_
  have jz14 := Z0.out
  have jq11 := par_end (par_row' (liesQ_nil w5 (Par w V0.heap.size [] P)) hW10 (by omega) (by omega)) (by omega)
  have jq12 := par_end (par_row' (liesQ_nil w5 (Par w V0.heap.size [] P)) hW10 (by omega) (by omega)) (by omega)
  have jq13 := par_end (par_row' (liesQ_nil w5 (Par w V0.heap.size [] P)) hW10 (by omega) (by omega)) (by omega)
  exact ⟨_, _, _, rfl, ⟨jq11, jq12, jq13⟩, kept_set (kept_trans Kk4.out Kk8.out) hW10 (by omega)⟩
theorem F2.four {α β : Type} {R : α → β → Prop} {a b c d : α} {l : List β} (h : F2 R [a, b, c, d] l) : ∃ x y z u, l = [x, y, z, u] ∧ R a x ∧ R b y ∧ R c z ∧ R d u := by
  match l, h with
  | [x, y, z, u], h => exact ⟨x, y, z, u, rfl, h.1, h.2.1, h.2.2.1, h.2.2.2.1⟩
set_option maxRecDepth 20000 in
theorem of_ne {c : List En} {on : List Jd} {r n : Int} (hne : Dv.dkidsN r ≠ on.length) {w : World} {A : Nat → Prop} {vs : List Value} (hv : F2 (ArgDen w A) (aOf c r n on) vs) : Calls Try.prog 5 vs.toArray w (GivesO A (ofB c r n on) w) := by
  obtain ⟨sc, vr, vn, son, rfl, h1, h2, h3, h4⟩ := F2.four hv
  obtain ⟨rfl, -⟩ := arg_I h2 (n := r) rfl
  obtain ⟨rfl, -⟩ := arg_I h3 (n := n) rfl
  have hc : LiesE w c sc := arg_E h1 rfl
  obtain ⟨x, hx, hj⟩ := h4
  cases hx
  rw [of_n hne]
  refine (ofne_any c on r n A w sc son hc (liesJQ_lies hj) hne).mono ?_
  rintro e w' ⟨su, sv, sa, rfl, ⟨hu, hv', ha⟩, hb⟩
  exact ⟨_, rfl, ⟨_, rfl, ⟨_, rfl, jdF_den (j := zJ) ⟨zero_fine, zero_fine, zero_fine, by unfold I64; decide⟩ hu hv' ha⟩, ⟨_, rfl, rfl⟩, trivial⟩, hb⟩
theorem len_0 {α : Type} {l : List α} (h : (0 : Int) = l.length) : l = [] := List.eq_nil_of_length_eq_zero (by omega)
theorem len_1 {α : Type} {l : List α} (h : (1 : Int) = l.length) : ∃ a, l = [a] := List.length_eq_one_iff.1 (by omega)
theorem len_2 {α : Type} {l : List α} (h : (2 : Int) = l.length) : ∃ a b, l = [a, b] := by
  match l, h with
  | [a, b], _ => exact ⟨a, b, rfl⟩
  | [], h | [_], h => simp at h
  | _ :: _ :: _ :: _, h => simp at h; omega
theorem len_3 {α : Type} {l : List α} (h : (3 : Int) = l.length) : ∃ a b c, l = [a, b, c] := by
  match l, h with
  | [a, b, c], _ => exact ⟨a, b, c, rfl⟩
  | [], h | [_], h | [_, _], h => simp at h
  | _ :: _ :: _ :: _ :: _, h => simp at h; omega
theorem len_4 {α : Type} {l : List α} (h : (4 : Int) = l.length) : ∃ a b c d, l = [a, b, c, d] := by
  match l, h with
  | [a, b, c, d], _ => exact ⟨a, b, c, d, rfl⟩
  | [], h | [_], h | [_, _], h | [_, _, _], h => simp at h
  | _ :: _ :: _ :: _ :: _ :: _, h => simp at h; omega
theorem jd_re (j : Jd) : j = ⟨j.eq, re j.u, re j.v, re j.a, j.i⟩ := by simp only [re_eq]
set_option maxRecDepth 20000 in
theorem of_all (c : List En) (r n : Int) (on : List Jd) (hs : Sml c on) {w : World} {A : Nat → Prop} {vs : List Value} (hv : F2 (ArgDen w A) (aOf c r n on) vs) : Calls Try.prog 5 vs.toArray w (GivesO A (ofB c r n on) w) := by
  by_cases hne : Dv.dkidsN r = on.length
  · by_cases hr : 1 ≤ r ∧ r ≤ 28
    · obtain ⟨q, hq⟩ : ∃ q : Nat, r = (q : Int) := ⟨r.toNat, by omega⟩
      subst hq
      have hq1 : 1 ≤ q := by omega
      have hq2 : q ≤ 28 := by omega
      match q, hq1, hq2 with
      | 1, _, _ =>
        obtain rfl := len_0 hne
        exact of1_any c n hs hv
      | 2, _, _ =>
        obtain rfl := len_0 hne
        exact of2_any c n hs hv
      | 3, _, _ =>
        obtain ⟨a, b, rfl⟩ := len_2 hne
        rw [jd_re a] at hs hv ⊢
        rw [jd_re b] at hs hv ⊢
        exact of3_any c n a.eq a.u a.v a.a a.i b.eq b.u b.v b.a b.i hs hv
      | 4, _, _ =>
        obtain ⟨a, b, rfl⟩ := len_2 hne
        rw [jd_re a] at hs hv ⊢
        rw [jd_re b] at hs hv ⊢
        exact of4_any c n a.eq a.u a.v a.a a.i b.eq b.u b.v b.a b.i hs hv
      | 5, _, _ =>
        obtain ⟨a, b, rfl⟩ := len_2 hne
        rw [jd_re a] at hs hv ⊢
        rw [jd_re b] at hs hv ⊢
        exact of5_any c n a.eq a.u a.v a.a a.i b.eq b.u b.v b.a b.i hs hv
      | 6, _, _ =>
        obtain ⟨a, b, rfl⟩ := len_2 hne
        rw [jd_re a] at hs hv ⊢
        rw [jd_re b] at hs hv ⊢
        exact of6_any c n a.eq a.u a.v a.a a.i b.eq b.u b.v b.a b.i hs hv
      | 7, _, _ =>
        obtain ⟨a, b, d, rfl⟩ := len_3 hne
        rw [jd_re a] at hs hv ⊢
        rw [jd_re b] at hs hv ⊢
        rw [jd_re d] at hs hv ⊢
        exact of7_any c n a.eq a.u a.v a.a a.i b.eq b.u b.v b.a b.i d.eq d.u d.v d.a d.i hs hv
      | 8, _, _ =>
        obtain ⟨a, rfl⟩ := len_1 hne
        rw [jd_re a] at hs hv ⊢
        exact of8_any c n a.eq a.u a.v a.a a.i hs hv
      | 9, _, _ =>
        obtain ⟨a, rfl⟩ := len_1 hne
        rw [jd_re a] at hs hv ⊢
        exact of9_any c n a.eq a.u a.v a.a a.i hs hv
      | 10, _, _ =>
        obtain ⟨a, b, rfl⟩ := len_2 hne
        rw [jd_re a] at hs hv ⊢
        rw [jd_re b] at hs hv ⊢
        exact of10_any c n a.eq a.u a.v a.a a.i b.eq b.u b.v b.a b.i hs hv
      | 11, _, _ =>
        obtain ⟨a, rfl⟩ := len_1 hne
        rw [jd_re a] at hs hv ⊢
        exact of11_any c n a.eq a.u a.v a.a a.i hs hv
      | 12, _, _ =>
        obtain ⟨a, b, rfl⟩ := len_2 hne
        rw [jd_re a] at hs hv ⊢
        rw [jd_re b] at hs hv ⊢
        exact of12_any c n a.eq a.u a.v a.a a.i b.eq b.u b.v b.a b.i hs hv
      | 13, _, _ =>
        obtain ⟨a, rfl⟩ := len_1 hne
        rw [jd_re a] at hs hv ⊢
        exact of13_any c n a.eq a.u a.v a.a a.i hs hv
      | 14, _, _ =>
        obtain ⟨a, rfl⟩ := len_1 hne
        rw [jd_re a] at hs hv ⊢
        exact of14_any c n a.eq a.u a.v a.a a.i hs hv
      | 15, _, _ =>
        obtain ⟨a, b, rfl⟩ := len_2 hne
        rw [jd_re a] at hs hv ⊢
        rw [jd_re b] at hs hv ⊢
        exact of15_any c n a.eq a.u a.v a.a a.i b.eq b.u b.v b.a b.i hs hv
      | 16, _, _ =>
        obtain ⟨a, b, rfl⟩ := len_2 hne
        rw [jd_re a] at hs hv ⊢
        rw [jd_re b] at hs hv ⊢
        exact of16_any c n a.eq a.u a.v a.a a.i b.eq b.u b.v b.a b.i hs hv
      | 17, _, _ =>
        obtain ⟨a, rfl⟩ := len_1 hne
        rw [jd_re a] at hs hv ⊢
        exact of17_any c n a.eq a.u a.v a.a a.i hs hv
      | 18, _, _ =>
        obtain ⟨a, b, rfl⟩ := len_2 hne
        rw [jd_re a] at hs hv ⊢
        rw [jd_re b] at hs hv ⊢
        exact of18_any c n a.eq a.u a.v a.a a.i b.eq b.u b.v b.a b.i hs hv
      | 19, _, _ =>
        obtain ⟨a, b, d, rfl⟩ := len_3 hne
        rw [jd_re a] at hs hv ⊢
        rw [jd_re b] at hs hv ⊢
        rw [jd_re d] at hs hv ⊢
        exact of19_any c n a.eq a.u a.v a.a a.i b.eq b.u b.v b.a b.i d.eq d.u d.v d.a d.i hs hv
      | 20, _, _ =>
        obtain ⟨a, b, d, rfl⟩ := len_3 hne
        rw [jd_re a] at hs hv ⊢
        rw [jd_re b] at hs hv ⊢
        rw [jd_re d] at hs hv ⊢
        exact of20_any c n a.eq a.u a.v a.a a.i b.eq b.u b.v b.a b.i d.eq d.u d.v d.a d.i hs hv
      | 21, _, _ =>
        obtain ⟨a, rfl⟩ := len_1 hne
        rw [jd_re a] at hs hv ⊢
        exact of21_any c n a.eq a.u a.v a.a a.i hs hv
      | 22, _, _ =>
        obtain ⟨a, rfl⟩ := len_1 hne
        rw [jd_re a] at hs hv ⊢
        exact of22_any c n a.eq a.u a.v a.a a.i hs hv
      | 23, _, _ =>
        obtain ⟨a, b, rfl⟩ := len_2 hne
        rw [jd_re a] at hs hv ⊢
        rw [jd_re b] at hs hv ⊢
        exact of23_any c n a.eq a.u a.v a.a a.i b.eq b.u b.v b.a b.i hs hv
      | 24, _, _ =>
        obtain ⟨a, b, rfl⟩ := len_2 hne
        rw [jd_re a] at hs hv ⊢
        rw [jd_re b] at hs hv ⊢
        exact of24_any c n a.eq a.u a.v a.a a.i b.eq b.u b.v b.a b.i hs hv
      | 25, _, _ =>
        obtain ⟨a, b, rfl⟩ := len_2 hne
        rw [jd_re a] at hs hv ⊢
        rw [jd_re b] at hs hv ⊢
        exact of25_any c n a.eq a.u a.v a.a a.i b.eq b.u b.v b.a b.i hs hv
      | 26, _, _ =>
        obtain ⟨a, b, rfl⟩ := len_2 hne
        rw [jd_re a] at hs hv ⊢
        rw [jd_re b] at hs hv ⊢
        exact of26_any c n a.eq a.u a.v a.a a.i b.eq b.u b.v b.a b.i hs hv
      | 27, _, _ =>
        obtain ⟨a, b, d, rfl⟩ := len_3 hne
        rw [jd_re a] at hs hv ⊢
        rw [jd_re b] at hs hv ⊢
        rw [jd_re d] at hs hv ⊢
        exact of27_any c n a.eq a.u a.v a.a a.i b.eq b.u b.v b.a b.i d.eq d.u d.v d.a d.i hs hv
      | 28, _, _ =>
        obtain ⟨a, b, d, f, rfl⟩ := len_4 hne
        rw [jd_re a] at hs hv ⊢
        rw [jd_re b] at hs hv ⊢
        rw [jd_re d] at hs hv ⊢
        rw [jd_re f] at hs hv ⊢
        exact of28_any c n a.eq a.u a.v a.a a.i b.eq b.u b.v b.a b.i d.eq d.u d.v d.a d.i f.eq f.u f.v f.a f.i hs hv
    · exact absurd hne (by rw [Dv.out_kids hr]; omega)
  · exact of_ne hne hv
end Go.Proofs.Ytmicgbdcbjajiaa.Se
namespace Go.Proofs.Ytmicgbdcbjajiaa.Se
open Go Go.RowKit
theorem at_good {c : List En} {k : Int} (hp : purC c = true) (hs : c.length ≤ 200 ∧ ∀ e ∈ c, e.a.size ≤ 1000) (h : atB c k = true) : Fit (atU c k) c.length ∧ 0 ≤ atI c k := by
  unfold atB at h
  have hh := of_decide_eq_true h
  unfold atU atI
  rw [if_pos hh, if_pos hh]
  have hq : c.length - 1 - k.toNat < c.length := by omega
  rw [List.getElem?_eq_getElem hq]
  simp only [Option.map_some, Option.getD_some]
  have hg := goodE_iff.1 (rightC_at hh.2.2 hq)
  have hm : c[c.length - 1 - k.toNat] ∈ c := List.getElem_mem hq
  have hpu : (c[c.length - 1 - k.toNat]).a.pureB = true := by
    unfold purC at hp
    rw [Bool.and_eq_true, List.all_eq_true] at hp
    exact hp.1 _ hm
  refine ⟨?_, hg.1⟩
  have hr := pure_right hpu
  have hsz := hs.2 _ hm
  have hfb := hg.2.2.2
  have hd : (c[c.length - 1 - k.toNat]).a.deep ≤ 100000 := Nat.le_trans (deep_le_size _) (Nat.le_trans hsz (by decide))
  have hfn := free_of hr
  obtain ⟨k1, k2, -, k4⟩ := liftB_keeps (k := k + 1) (by omega) (by omega) hr (by omega) hd
  refine ⟨pure_of (by rw [k2]; exact pure_marked hpu) ?_, ?_⟩
  · obtain ⟨u, hu⟩ := lift_comes (k := k + 1) (c := 0) (by omega) (by omega) hr (by omega) hd
    rw [liftB_good (by omega) (by omega) hr, hu, Option.getD_some]
    exact each_count _ _ 0 u (pure_count hpu) hu
  · rw [free_of k1] at k4
    rw [k4]
    split <;> omega
theorem good1 {c : List En} {n : Int} {j : Jd} (hj : concB c n 1 [] = some j) : Gd c.length 1 j := by
  rw [show concB c n 1 [] = if (decide (n ≥ 0) && decide (n ≤ 900)) = true then some ⟨false, srt n, .zero, srt (W64 (n + 1)), W64 (n + 2)⟩ else none from rfl] at hj
  split at hj
  · rename_i h
    simp only [Bool.and_eq_true, decide_eq_true_eq] at h
    obtain rfl := Option.some.inj hj
    rw [w64 (x := n + 1) (by omega), w64 (x := n + 2) (by omega)]
    exact ⟨rfl, (by show 0 ≤ n + 2; omega), fit_srt ⟨by omega, by omega⟩ (by omega), fit_srt ⟨by omega, by omega⟩ (by omega), (fun h => by cases h), fun _ => rfl⟩
  · cases hj
theorem good2 {c : List En} {n : Int} {j : Jd} (hp : purC c = true) (hs : c.length ≤ 200 ∧ ∀ e ∈ c, e.a.size ≤ 1000) (hj : concB c n 2 [] = some j) : Gd c.length 2 j := by
  rw [show concB c n 2 [] = if atB c n = true then some ⟨false, .mk 2 n 0 0 [], .zero, atU c n, atI c n⟩ else none from rfl] at hj
  split at hj
  · rename_i h
    obtain rfl := Option.some.inj hj
    obtain ⟨h1, h2⟩ := at_good hp hs h
    have hh := of_decide_eq_true h
    exact ⟨rfl, h2, fit_var hh.1 hh.2.1 (by omega), h1, (fun h => by cases h), fun _ => rfl⟩
  · cases hj
theorem good3 {c : List En} {n : Int} {p q j : Jd} (hs : Sml c [p, q]) (h2 : allR c.length 3 0 [p, q] = true) (hj : concB c n 3 [p, q] = some j) : Gd c.length 3 j := by
  have hl := hs.len
  rw [show allR c.length 3 0 [p, q] = (rightJ p ↑c.length && (rightJ q (W64 (↑c.length + 1)) && true)) from by kernel_rfl] at h2
  rw [w64 (x := (c.length : Int) + 1) (by omega)] at h2
  simp only [Bool.and_eq_true] at h2
  rw [show concB c n 3 [p, q] = if (isT p && isT q) = true then some ⟨false, nd 3 p.a.i q.a.i [p.u, q.u], .zero, srt (max p.a.i q.a.i), W64 (max p.a.i q.a.i + 1)⟩ else none from by kernel_rfl] at hj
  split at hj
  · rename_i hc
    obtain rfl := Option.some.inj hj
    exact gd3 (by omega) (by omega) (rj_of h2.1 (hs.js _ (List.mem_cons_self ..))) (rj_of h2.2.1 (hs.js _ (List.mem_cons_of_mem _ (List.mem_cons_self ..)))) hc
  · cases hj
theorem good4 {c : List En} {n : Int} {p q j : Jd} (hs : Sml c [p, q]) (h2 : allR c.length 4 0 [p, q] = true) (hj : concB c n 4 [p, q] = some j) : Gd c.length 4 j := by
  have hl := hs.len
  rw [show allR c.length 4 0 [p, q] = (rightJ p ↑c.length && (rightJ q (W64 (↑c.length + 1)) && true)) from by kernel_rfl] at h2
  rw [w64 (x := (c.length : Int) + 1) (by omega)] at h2
  simp only [Bool.and_eq_true] at h2
  rw [show concB c n 4 [p, q] = if (isT p && !q.eq) = true then some ⟨false, nd 4 p.a.i q.i [p.u, q.a, q.u], .zero, nd 3 p.a.i q.i [p.u, q.a], max p.a.i q.i⟩ else none from by kernel_rfl] at hj
  split at hj
  · rename_i hc
    obtain rfl := Option.some.inj hj
    exact gd4 (by omega) (by omega) (rj_of h2.1 (hs.js _ (List.mem_cons_self ..))) (rj_of h2.2.1 (hs.js _ (List.mem_cons_of_mem _ (List.mem_cons_self ..)))) hc
  · cases hj
theorem good5 {c : List En} {n : Int} {p q j : Jd} (hs : Sml c [p, q]) (h2 : allR c.length 5 0 [p, q] = true) (hj : concB c n 5 [p, q] = some j) : Gd c.length 5 j := by
  have hl := hs.len
  rw [show allR c.length 5 0 [p, q] = (rightJ p ↑c.length && (rightJ q ↑c.length && true)) from by kernel_rfl] at h2
  simp only [Bool.and_eq_true] at h2
  rw [show concB c n 5 [p, q] = if (spl p 3 && hasW q (kd p.a 0) p.a.i) = true then some ⟨false, nd 5 p.a.i p.a.j [kd p.a 0, kd p.a 1, p.u, q.u], .zero, (kd p.a 1).putB q.u, p.a.j⟩ else none from by kernel_rfl] at hj
  split at hj
  · rename_i hc
    obtain rfl := Option.some.inj hj
    exact gd5 (by omega) (by omega) (rj_of h2.1 (hs.js _ (List.mem_cons_self ..))) (rj_of h2.2.1 (hs.js _ (List.mem_cons_of_mem _ (List.mem_cons_self ..)))) hc
  · cases hj
theorem good6 {c : List En} {n : Int} {p q j : Jd} (hs : Sml c [p, q]) (h2 : allR c.length 6 0 [p, q] = true) (hj : concB c n 6 [p, q] = some j) : Gd c.length 6 j := by
  have hl := hs.len
  rw [show allR c.length 6 0 [p, q] = (rightJ p ↑c.length && (rightJ q (W64 (↑c.length + 1)) && true)) from by kernel_rfl] at h2
  rw [w64 (x := (c.length : Int) + 1) (by omega)] at h2
  simp only [Bool.and_eq_true] at h2
  rw [show concB c n 6 [p, q] = if (isT p && isT q) = true then some ⟨false, nd 6 p.a.i q.a.i [p.u, q.u], .zero, srt (max p.a.i q.a.i), W64 (max p.a.i q.a.i + 1)⟩ else none from by kernel_rfl] at hj
  split at hj
  · rename_i hc
    obtain rfl := Option.some.inj hj
    exact gd6 (by omega) (by omega) (rj_of h2.1 (hs.js _ (List.mem_cons_self ..))) (rj_of h2.2.1 (hs.js _ (List.mem_cons_of_mem _ (List.mem_cons_self ..)))) hc
  · cases hj
theorem good7 {c : List En} {n : Int} {p q t j : Jd} (hs : Sml c [p, q, t]) (h2 : allR c.length 7 0 [p, q, t] = true) (hj : concB c n 7 [p, q, t] = some j) : Gd c.length 7 j := by
  have hl := hs.len
  rw [show allR c.length 7 0 [p, q, t] = (rightJ p ↑c.length && (rightJ q (W64 (↑c.length + 1)) && (rightJ t ↑c.length && true))) from by kernel_rfl] at h2
  rw [w64 (x := (c.length : Int) + 1) (by omega)] at h2
  simp only [Bool.and_eq_true] at h2
  rw [show concB c n 7 [p, q, t] = if prd p q t = true then some ⟨false, nd 7 p.i q.a.i [p.a, q.u, p.u, t.u], .zero, nd 6 p.i q.a.i [p.a, q.u], max p.i q.a.i⟩ else none from by kernel_rfl] at hj
  split at hj
  · rename_i hc
    obtain rfl := Option.some.inj hj
    exact gd7 (by omega) (by omega) (rj_of h2.1 (hs.js _ (List.mem_cons_self ..))) (rj_of h2.2.1 (hs.js _ (List.mem_cons_of_mem _ (List.mem_cons_self ..)))) (rj_of h2.2.2.1 (hs.js _ (List.mem_cons_of_mem _ (List.mem_cons_of_mem _ (List.mem_cons_self ..))))) hc
  · cases hj
theorem good8 {c : List En} {n : Int} {p j : Jd} (hs : Sml c [p]) (h2 : allR c.length 8 0 [p] = true) (hj : concB c n 8 [p] = some j) : Gd c.length 8 j := by
  have hl := hs.len
  rw [show allR c.length 8 0 [p] = (rightJ p ↑c.length && true) from by kernel_rfl] at h2
  simp only [Bool.and_eq_true] at h2
  rw [show concB c n 8 [p] = if spl p 6 = true then some ⟨false, nd 8 p.a.i p.a.j [kd p.a 0, kd p.a 1, p.u], .zero, kd p.a 0, p.a.i⟩ else none from by kernel_rfl] at hj
  split at hj
  · rename_i hc
    obtain rfl := Option.some.inj hj
    exact gd8 (by omega) (by omega) (rj_of h2.1 (hs.js _ (List.mem_cons_self ..))) hc
  · cases hj
theorem good9 {c : List En} {n : Int} {p j : Jd} (hs : Sml c [p]) (h2 : allR c.length 9 0 [p] = true) (hj : concB c n 9 [p] = some j) : Gd c.length 9 j := by
  have hl := hs.len
  rw [show allR c.length 9 0 [p] = (rightJ p ↑c.length && true) from by kernel_rfl] at h2
  simp only [Bool.and_eq_true] at h2
  rw [show concB c n 9 [p] = if spl p 6 = true then some ⟨false, nd 9 p.a.i p.a.j [kd p.a 0, kd p.a 1, p.u], .zero, (kd p.a 1).putB (nd 8 p.a.i p.a.j [kd p.a 0, kd p.a 1, p.u]), p.a.j⟩ else none from by kernel_rfl] at hj
  split at hj
  · rename_i hc
    obtain rfl := Option.some.inj hj
    exact gd9 (by omega) (by omega) (rj_of h2.1 (hs.js _ (List.mem_cons_self ..))) hc
  · cases hj
theorem good10 {c : List En} {n : Int} {p q j : Jd} (hs : Sml c [p, q]) (h2 : allR c.length 10 0 [p, q] = true) (hj : concB c n 10 [p, q] = some j) : Gd c.length 10 j := by
  have hl := hs.len
  rw [show allR c.length 10 0 [p, q] = (rightJ p ↑c.length && (rightJ q ↑c.length && true)) from by kernel_rfl] at h2
  simp only [Bool.and_eq_true] at h2
  rw [show concB c n 10 [p, q] = if (!p.eq && hasW q p.a p.i) = true then some ⟨false, nd 10 p.i 0 [p.a, p.u, q.u], .zero, srt p.i, W64 (p.i + 1)⟩ else none from by kernel_rfl] at hj
  split at hj
  · rename_i hc
    obtain rfl := Option.some.inj hj
    exact gd10 (by omega) (by omega) (rj_of h2.1 (hs.js _ (List.mem_cons_self ..))) (rj_of h2.2.1 (hs.js _ (List.mem_cons_of_mem _ (List.mem_cons_self ..)))) hc
  · cases hj
theorem good11 {c : List En} {n : Int} {p j : Jd} (hs : Sml c [p]) (h2 : allR c.length 11 0 [p] = true) (hj : concB c n 11 [p] = some j) : Gd c.length 11 j := by
  have hl := hs.len
  rw [show allR c.length 11 0 [p] = (rightJ p ↑c.length && true) from by kernel_rfl] at h2
  simp only [Bool.and_eq_true] at h2
  rw [show concB c n 11 [p] = if (!p.eq) = true then some ⟨false, nd 11 p.i 0 [p.a, p.u], .zero, nd 10 p.i 0 [p.a, p.u, p.u], p.i⟩ else none from by kernel_rfl] at hj
  split at hj
  · rename_i hc
    obtain rfl := Option.some.inj hj
    exact gd11 (by omega) (by omega) (rj_of h2.1 (hs.js _ (List.mem_cons_self ..))) hc
  · cases hj
theorem good12 {c : List En} {n : Int} {p q j : Jd} (hs : Sml c [p, q]) (h2 : allR c.length 12 0 [p, q] = true) (hj : concB c n 12 [p, q] = some j) : Gd c.length 12 j := by
  have hl := hs.len
  rw [show allR c.length 12 0 [p, q] = (rightJ p ↑c.length && (rightJ q ↑c.length && true)) from by kernel_rfl] at h2
  simp only [Bool.and_eq_true] at h2
  rw [show concB c n 12 [p, q] = if (!p.eq && cnv p q) = true then some ⟨false, p.u, .zero, q.v, p.i⟩ else none from by kernel_rfl] at hj
  split at hj
  · rename_i hc
    obtain rfl := Option.some.inj hj
    exact gd12 (by omega) (by omega) (rj_of h2.1 (hs.js _ (List.mem_cons_self ..))) (rj_of h2.2.1 (hs.js _ (List.mem_cons_of_mem _ (List.mem_cons_self ..)))) hc
  · cases hj
theorem good13 {c : List En} {n : Int} {p j : Jd} (hs : Sml c [p]) (h2 : allR c.length 13 0 [p] = true) (hj : concB c n 13 [p] = some j) : Gd c.length 13 j := by
  have hl := hs.len
  rw [show allR c.length 13 0 [p] = (rightJ p ↑c.length && true) from by kernel_rfl] at h2
  simp only [Bool.and_eq_true] at h2
  rw [show concB c n 13 [p] = if (!p.eq) = true then some ⟨true, p.u, p.u, p.a, p.i⟩ else none from by kernel_rfl] at hj
  split at hj
  · rename_i hc
    obtain rfl := Option.some.inj hj
    exact gd13 (by omega) (by omega) (rj_of h2.1 (hs.js _ (List.mem_cons_self ..))) hc
  · cases hj
theorem good14 {c : List En} {n : Int} {p j : Jd} (hs : Sml c [p]) (h2 : allR c.length 14 0 [p] = true) (hj : concB c n 14 [p] = some j) : Gd c.length 14 j := by
  have hl := hs.len
  rw [show allR c.length 14 0 [p] = (rightJ p ↑c.length && true) from by kernel_rfl] at h2
  simp only [Bool.and_eq_true] at h2
  rw [show concB c n 14 [p] = if p.eq = true then some ⟨true, p.v, p.u, p.a, p.i⟩ else none from by kernel_rfl] at hj
  split at hj
  · rename_i hc
    obtain rfl := Option.some.inj hj
    exact gd14 (by omega) (by omega) (rj_of h2.1 (hs.js _ (List.mem_cons_self ..))) hc
  · cases hj
theorem good15 {c : List En} {n : Int} {p q j : Jd} (hs : Sml c [p, q]) (h2 : allR c.length 15 0 [p, q] = true) (hj : concB c n 15 [p, q] = some j) : Gd c.length 15 j := by
  have hl := hs.len
  rw [show allR c.length 15 0 [p, q] = (rightJ p ↑c.length && (rightJ q ↑c.length && true)) from by kernel_rfl] at h2
  simp only [Bool.and_eq_true] at h2
  rw [show concB c n 15 [p, q] = if (p.eq && (q.eq && (p.i == q.i && (sameB p.v q.u && sameB p.a q.a)))) = true then some ⟨true, p.u, q.v, p.a, p.i⟩ else none from by kernel_rfl] at hj
  split at hj
  · rename_i hc
    obtain rfl := Option.some.inj hj
    exact gd15 (by omega) (by omega) (rj_of h2.1 (hs.js _ (List.mem_cons_self ..))) (rj_of h2.2.1 (hs.js _ (List.mem_cons_of_mem _ (List.mem_cons_self ..)))) hc
  · cases hj
theorem good16 {c : List En} {n : Int} {p q j : Jd} (hs : Sml c [p, q]) (h2 : allR c.length 16 0 [p, q] = true) (hj : concB c n 16 [p, q] = some j) : Gd c.length 16 j := by
  have hl := hs.len
  rw [show allR c.length 16 0 [p, q] = (rightJ p ↑c.length && (rightJ q ↑c.length && true)) from by kernel_rfl] at h2
  simp only [Bool.and_eq_true] at h2
  rw [show concB c n 16 [p, q] = if (p.eq && cnv p q) = true then some ⟨true, p.u, p.v, q.v, p.i⟩ else none from by kernel_rfl] at hj
  split at hj
  · rename_i hc
    obtain rfl := Option.some.inj hj
    exact gd16 (by omega) (by omega) (rj_of h2.1 (hs.js _ (List.mem_cons_self ..))) (rj_of h2.2.1 (hs.js _ (List.mem_cons_of_mem _ (List.mem_cons_self ..)))) hc
  · cases hj
theorem good17 {c : List En} {n : Int} {p j : Jd} (hs : Sml c [p]) (h2 : allR c.length 17 0 [p] = true) (hj : concB c n 17 [p] = some j) : Gd c.length 17 j := by
  have hl := hs.len
  rw [show allR c.length 17 0 [p] = (rightJ p ↑c.length && true) from by kernel_rfl] at h2
  simp only [Bool.and_eq_true] at h2
  rw [show concB c n 17 [p] = if prf p = true then some ⟨true, kd p.a 1, kd p.a 2, kd p.a 0, p.i⟩ else none from by kernel_rfl] at hj
  split at hj
  · rename_i hc
    obtain rfl := Option.some.inj hj
    exact gd17 (by omega) (by omega) (rj_of h2.1 (hs.js _ (List.mem_cons_self ..))) hc
  · cases hj
theorem good18 {c : List En} {n : Int} {p q j : Jd} (hs : Sml c [p, q]) (h2 : allR c.length 18 0 [p, q] = true) (hj : concB c n 18 [p, q] = some j) : Gd c.length 18 j := by
  have hl := hs.len
  rw [show allR c.length 18 0 [p, q] = (rightJ p ↑c.length && (rightJ q (W64 (↑c.length + 1)) && true)) from by kernel_rfl] at h2
  rw [w64 (x := (c.length : Int) + 1) (by omega)] at h2
  simp only [Bool.and_eq_true] at h2
  rw [show concB c n 18 [p, q] = if (!p.eq && !q.eq) = true then some ⟨true, nd 5 p.i q.i [p.a, q.a, nd 4 p.i q.i [p.a, q.a, q.u], p.u], q.u.putB p.u, q.a.putB p.u, q.i⟩ else none from by kernel_rfl] at hj
  split at hj
  · rename_i hc
    obtain rfl := Option.some.inj hj
    exact gd18 (by omega) (by omega) (rj_of h2.1 (hs.js _ (List.mem_cons_self ..))) (rj_of h2.2.1 (hs.js _ (List.mem_cons_of_mem _ (List.mem_cons_self ..)))) hc
  · cases hj
theorem good19 {c : List En} {n : Int} {p q t j : Jd} (hs : Sml c [p, q, t]) (h2 : allR c.length 19 0 [p, q, t] = true) (hj : concB c n 19 [p, q, t] = some j) : Gd c.length 19 j := by
  have hl := hs.len
  rw [show allR c.length 19 0 [p, q, t] = (rightJ p ↑c.length && (rightJ q (W64 (↑c.length + 1)) && (rightJ t ↑c.length && true))) from by kernel_rfl] at h2
  rw [w64 (x := (c.length : Int) + 1) (by omega)] at h2
  simp only [Bool.and_eq_true] at h2
  rw [show concB c n 19 [p, q, t] = if prd p q t = true then some ⟨true, nd 8 p.i q.a.i [p.a, q.u, nd 7 p.i q.a.i [p.a, q.u, p.u, t.u]], p.u, p.a, p.i⟩ else none from by kernel_rfl] at hj
  split at hj
  · rename_i hc
    obtain rfl := Option.some.inj hj
    exact gd19 (by omega) (by omega) (rj_of h2.1 (hs.js _ (List.mem_cons_self ..))) (rj_of h2.2.1 (hs.js _ (List.mem_cons_of_mem _ (List.mem_cons_self ..)))) (rj_of h2.2.2.1 (hs.js _ (List.mem_cons_of_mem _ (List.mem_cons_of_mem _ (List.mem_cons_self ..))))) hc
  · cases hj
theorem good20 {c : List En} {n : Int} {p q t j : Jd} (hs : Sml c [p, q, t]) (h2 : allR c.length 20 0 [p, q, t] = true) (hj : concB c n 20 [p, q, t] = some j) : Gd c.length 20 j := by
  have hl := hs.len
  rw [show allR c.length 20 0 [p, q, t] = (rightJ p ↑c.length && (rightJ q (W64 (↑c.length + 1)) && (rightJ t ↑c.length && true))) from by kernel_rfl] at h2
  rw [w64 (x := (c.length : Int) + 1) (by omega)] at h2
  simp only [Bool.and_eq_true] at h2
  rw [show concB c n 20 [p, q, t] = if prd p q t = true then some ⟨true, nd 9 p.i q.a.i [p.a, q.u, nd 7 p.i q.a.i [p.a, q.u, p.u, t.u]], t.u, t.a, q.a.i⟩ else none from by kernel_rfl] at hj
  split at hj
  · rename_i hc
    obtain rfl := Option.some.inj hj
    exact gd20 (by omega) (by omega) (rj_of h2.1 (hs.js _ (List.mem_cons_self ..))) (rj_of h2.2.1 (hs.js _ (List.mem_cons_of_mem _ (List.mem_cons_self ..)))) (rj_of h2.2.2.1 (hs.js _ (List.mem_cons_of_mem _ (List.mem_cons_of_mem _ (List.mem_cons_self ..))))) hc
  · cases hj
theorem good21 {c : List En} {n : Int} {p j : Jd} (hs : Sml c [p]) (h2 : allR c.length 21 0 [p] = true) (hj : concB c n 21 [p] = some j) : Gd c.length 21 j := by
  have hl := hs.len
  rw [show allR c.length 21 0 [p] = (rightJ p ↑c.length && true) from by kernel_rfl] at h2
  simp only [Bool.and_eq_true] at h2
  rw [show concB c n 21 [p] = if spl p 3 = true then some ⟨true, p.u, nd 4 p.a.i p.a.j [kd p.a 0, kd p.a 1, nd 5 p.a.i p.a.j [(kd p.a 0).liftB 1 0, (kd p.a 1).liftB 1 1, p.u.liftB 1 0, .mk 2 0 0 0 []]], p.a, p.i⟩ else none from by kernel_rfl] at hj
  split at hj
  · rename_i hc
    obtain rfl := Option.some.inj hj
    exact gd21 (by omega) (by omega) (rj_of h2.1 (hs.js _ (List.mem_cons_self ..))) hc
  · cases hj
theorem good22 {c : List En} {n : Int} {p j : Jd} (hs : Sml c [p]) (h2 : allR c.length 22 0 [p] = true) (hj : concB c n 22 [p] = some j) : Gd c.length 22 j := by
  have hl := hs.len
  rw [show allR c.length 22 0 [p] = (rightJ p ↑c.length && true) from by kernel_rfl] at h2
  simp only [Bool.and_eq_true] at h2
  rw [show concB c n 22 [p] = if spl p 6 = true then some ⟨true, p.u, nd 7 p.a.i p.a.j [kd p.a 0, kd p.a 1, nd 8 p.a.i p.a.j [kd p.a 0, kd p.a 1, p.u], nd 9 p.a.i p.a.j [kd p.a 0, kd p.a 1, p.u]], p.a, p.i⟩ else none from by kernel_rfl] at hj
  split at hj
  · rename_i hc
    obtain rfl := Option.some.inj hj
    exact gd22 (by omega) (by omega) (rj_of h2.1 (hs.js _ (List.mem_cons_self ..))) hc
  · cases hj
theorem good23 {c : List En} {n : Int} {p q j : Jd} (hs : Sml c [p, q]) (h2 : allR c.length 23 0 [p, q] = true) (hj : concB c n 23 [p, q] = some j) : Gd c.length 23 j := by
  have hl := hs.len
  rw [show allR c.length 23 0 [p, q] = (rightJ p ↑c.length && (rightJ q (W64 (↑c.length + 1)) && true)) from by kernel_rfl] at h2
  rw [w64 (x := (c.length : Int) + 1) (by omega)] at h2
  simp only [Bool.and_eq_true] at h2
  rw [show concB c n 23 [p, q] = if (p.eq && !q.eq) = true then some ⟨true, q.u.putB p.u, q.u.putB p.v, q.a.putB p.u, q.i⟩ else none from by kernel_rfl] at hj
  split at hj
  · rename_i hc
    obtain rfl := Option.some.inj hj
    exact gd23 (by omega) (by omega) (rj_of h2.1 (hs.js _ (List.mem_cons_self ..))) (rj_of h2.2.1 (hs.js _ (List.mem_cons_of_mem _ (List.mem_cons_self ..)))) hc
  · cases hj
theorem good24 {c : List En} {n : Int} {p q j : Jd} (hs : Sml c [p, q]) (h2 : allR c.length 24 0 [p, q] = true) (hj : concB c n 24 [p, q] = some j) : Gd c.length 24 j := by
  have hl := hs.len
  rw [show allR c.length 24 0 [p, q] = (rightJ p ↑c.length && (rightJ q ↑c.length && true)) from by kernel_rfl] at h2
  simp only [Bool.and_eq_true] at h2
  rw [show concB c n 24 [p, q] = if (prf p && hasW q p.a p.i) = true then some ⟨true, p.u, q.u, p.a, p.i⟩ else none from by kernel_rfl] at hj
  split at hj
  · rename_i hc
    obtain rfl := Option.some.inj hj
    exact gd24 (by omega) (by omega) (rj_of h2.1 (hs.js _ (List.mem_cons_self ..))) (rj_of h2.2.1 (hs.js _ (List.mem_cons_of_mem _ (List.mem_cons_self ..)))) hc
  · cases hj
theorem good25 {c : List En} {n : Int} {p q j : Jd} (hs : Sml c [p, q]) (h2 : allR c.length 25 0 [p, q] = true) (hj : concB c n 25 [p, q] = some j) : Gd c.length 25 j := by
  have hl := hs.len
  rw [show allR c.length 25 0 [p, q] = (rightJ p ↑c.length && (rightJ q (W64 (↑c.length + 1)) && true)) from by kernel_rfl] at h2
  rw [w64 (x := (c.length : Int) + 1) (by omega)] at h2
  simp only [Bool.and_eq_true] at h2
  rw [show concB c n 25 [p, q] = if (areT p && areT q) = true then some ⟨true, nd 3 p.a.i q.a.i [p.u, q.u], nd 3 p.a.i q.a.i [p.v, q.v], srt (max p.a.i q.a.i), W64 (max p.a.i q.a.i + 1)⟩ else none from by kernel_rfl] at hj
  split at hj
  · rename_i hc
    obtain rfl := Option.some.inj hj
    exact gd25 (by omega) (by omega) (rj_of h2.1 (hs.js _ (List.mem_cons_self ..))) (rj_of h2.2.1 (hs.js _ (List.mem_cons_of_mem _ (List.mem_cons_self ..)))) hc
  · cases hj
theorem good26 {c : List En} {n : Int} {p q j : Jd} (hs : Sml c [p, q]) (h2 : allR c.length 26 0 [p, q] = true) (hj : concB c n 26 [p, q] = some j) : Gd c.length 26 j := by
  have hl := hs.len
  rw [show allR c.length 26 0 [p, q] = (rightJ p ↑c.length && (rightJ q (W64 (↑c.length + 1)) && true)) from by kernel_rfl] at h2
  rw [w64 (x := (c.length : Int) + 1) (by omega)] at h2
  simp only [Bool.and_eq_true] at h2
  rw [show concB c n 26 [p, q] = if (areT p && areT q) = true then some ⟨true, nd 6 p.a.i q.a.i [p.u, q.u], nd 6 p.a.i q.a.i [p.v, q.v], srt (max p.a.i q.a.i), W64 (max p.a.i q.a.i + 1)⟩ else none from by kernel_rfl] at hj
  split at hj
  · rename_i hc
    obtain rfl := Option.some.inj hj
    exact gd26 (by omega) (by omega) (rj_of h2.1 (hs.js _ (List.mem_cons_self ..))) (rj_of h2.2.1 (hs.js _ (List.mem_cons_of_mem _ (List.mem_cons_self ..)))) hc
  · cases hj
theorem good27 {c : List En} {n : Int} {p q t j : Jd} (hs : Sml c [p, q, t]) (h2 : allR c.length 27 0 [p, q, t] = true) (hj : concB c n 27 [p, q, t] = some j) : Gd c.length 27 j := by
  have hl := hs.len
  rw [show allR c.length 27 0 [p, q, t] = (rightJ p ↑c.length && (rightJ q (W64 (↑c.length + 1)) && (rightJ t (W64 (↑c.length + 1)) && true))) from by kernel_rfl] at h2
  rw [w64 (x := (c.length : Int) + 1) (by omega)] at h2
  simp only [Bool.and_eq_true] at h2
  rw [show concB c n 27 [p, q, t] = if ((areT p && areT q) && (t.eq && (t.i == q.a.i && sameB t.a q.u))) = true then some ⟨true, nd 4 p.a.i q.a.i [p.u, q.u, t.u], nd 4 p.a.i q.a.i [p.v, q.v, t.v], nd 3 p.a.i q.a.i [p.u, q.u], max p.a.i q.a.i⟩ else none from by kernel_rfl] at hj
  split at hj
  · rename_i hc
    obtain rfl := Option.some.inj hj
    exact gd27 (by omega) (by omega) (rj_of h2.1 (hs.js _ (List.mem_cons_self ..))) (rj_of h2.2.1 (hs.js _ (List.mem_cons_of_mem _ (List.mem_cons_self ..)))) (rj_of h2.2.2.1 (hs.js _ (List.mem_cons_of_mem _ (List.mem_cons_of_mem _ (List.mem_cons_self ..))))) hc
  · cases hj
theorem good28 {c : List En} {n : Int} {p q s t j : Jd} (hs : Sml c [p, q, s, t]) (h2 : allR c.length 28 0 [p, q, s, t] = true) (hj : concB c n 28 [p, q, s, t] = some j) : Gd c.length 28 j := by
  have hl := hs.len
  rw [show allR c.length 28 0 [p, q, s, t] = (rightJ p ↑c.length && (rightJ q (W64 (↑c.length + 1)) && (rightJ s ↑c.length && (rightJ t ↑c.length && true)))) from by kernel_rfl] at h2
  rw [w64 (x := (c.length : Int) + 1) (by omega)] at h2
  simp only [Bool.and_eq_true] at h2
  rw [show concB c n 28 [p, q, s, t] = if (((areT p && areT q) && hasW s p.u p.a.i) && hasW t (q.u.putB s.u) q.a.i) = true then some ⟨true, nd 7 p.a.i q.a.i [p.u, q.u, s.u, t.u], nd 7 p.a.i q.a.i [p.v, q.v, s.u, t.u], nd 6 p.a.i q.a.i [p.u, q.u], max p.a.i q.a.i⟩ else none from by kernel_rfl] at hj
  split at hj
  · rename_i hc
    obtain rfl := Option.some.inj hj
    exact gd28 (by omega) (by omega) (rj_of h2.1 (hs.js _ (List.mem_cons_self ..))) (rj_of h2.2.1 (hs.js _ (List.mem_cons_of_mem _ (List.mem_cons_self ..)))) (rj_of h2.2.2.1 (hs.js _ (List.mem_cons_of_mem _ (List.mem_cons_of_mem _ (List.mem_cons_self ..))))) (rj_of h2.2.2.2.1 (hs.js _ (List.mem_cons_of_mem _ (List.mem_cons_of_mem _ (List.mem_cons_of_mem _ (List.mem_cons_self ..)))))) hc
  · cases hj
theorem ok_le {j : Jd} (h : okJ j = true) : j.i ≤ 1000 := by
  unfold okJ at h
  simp only [Bool.not_eq_true', Bool.or_eq_false_iff, decide_eq_false_iff_not] at h
  omega
theorem ofB_good {c : List En} {r n : Int} {on : List Jd} {j : Jd} (hs : Sml c on) (h : ofB c r n on = some j) : Gd c.length r j ∧ j.i ≤ 1000 := by
  unfold ofB at h
  split at h
  · cases h
  · rename_i hne
    have hne : Dv.dkidsN r = on.length := Classical.not_not.1 hne
    split at h
    · rename_i h12
      rw [Bool.and_eq_true] at h12
      obtain ⟨hp, h2⟩ := h12
      cases hj : concB c n r on with
      | none => rw [hj] at h; cases h
      | some j' =>
        rw [hj] at h
        change (if okJ j' = true then some j' else none) = some j at h
        split at h
        · rename_i hok
          obtain rfl := Option.some.inj h
          refine ⟨?_, ok_le hok⟩
          by_cases hr : 1 ≤ r ∧ r ≤ 28
          · obtain ⟨q, hq⟩ : ∃ q : Nat, r = (q : Int) := ⟨r.toNat, by omega⟩
            subst hq
            have hq1 : 1 ≤ q := by omega
            have hq2 : q ≤ 28 := by omega
            match q, hq1, hq2 with
            | 1, _, _ =>
              obtain rfl := len_0 hne
              exact good1 hj
            | 2, _, _ =>
              obtain rfl := len_0 hne
              exact good2 hp ⟨hs.len, hs.ents⟩ hj
            | 3, _, _ =>
              obtain ⟨p, q, rfl⟩ := len_2 hne
              exact good3 hs h2 hj
            | 4, _, _ =>
              obtain ⟨p, q, rfl⟩ := len_2 hne
              exact good4 hs h2 hj
            | 5, _, _ =>
              obtain ⟨p, q, rfl⟩ := len_2 hne
              exact good5 hs h2 hj
            | 6, _, _ =>
              obtain ⟨p, q, rfl⟩ := len_2 hne
              exact good6 hs h2 hj
            | 7, _, _ =>
              obtain ⟨p, q, t, rfl⟩ := len_3 hne
              exact good7 hs h2 hj
            | 8, _, _ =>
              obtain ⟨p, rfl⟩ := len_1 hne
              exact good8 hs h2 hj
            | 9, _, _ =>
              obtain ⟨p, rfl⟩ := len_1 hne
              exact good9 hs h2 hj
            | 10, _, _ =>
              obtain ⟨p, q, rfl⟩ := len_2 hne
              exact good10 hs h2 hj
            | 11, _, _ =>
              obtain ⟨p, rfl⟩ := len_1 hne
              exact good11 hs h2 hj
            | 12, _, _ =>
              obtain ⟨p, q, rfl⟩ := len_2 hne
              exact good12 hs h2 hj
            | 13, _, _ =>
              obtain ⟨p, rfl⟩ := len_1 hne
              exact good13 hs h2 hj
            | 14, _, _ =>
              obtain ⟨p, rfl⟩ := len_1 hne
              exact good14 hs h2 hj
            | 15, _, _ =>
              obtain ⟨p, q, rfl⟩ := len_2 hne
              exact good15 hs h2 hj
            | 16, _, _ =>
              obtain ⟨p, q, rfl⟩ := len_2 hne
              exact good16 hs h2 hj
            | 17, _, _ =>
              obtain ⟨p, rfl⟩ := len_1 hne
              exact good17 hs h2 hj
            | 18, _, _ =>
              obtain ⟨p, q, rfl⟩ := len_2 hne
              exact good18 hs h2 hj
            | 19, _, _ =>
              obtain ⟨p, q, t, rfl⟩ := len_3 hne
              exact good19 hs h2 hj
            | 20, _, _ =>
              obtain ⟨p, q, t, rfl⟩ := len_3 hne
              exact good20 hs h2 hj
            | 21, _, _ =>
              obtain ⟨p, rfl⟩ := len_1 hne
              exact good21 hs h2 hj
            | 22, _, _ =>
              obtain ⟨p, rfl⟩ := len_1 hne
              exact good22 hs h2 hj
            | 23, _, _ =>
              obtain ⟨p, q, rfl⟩ := len_2 hne
              exact good23 hs h2 hj
            | 24, _, _ =>
              obtain ⟨p, q, rfl⟩ := len_2 hne
              exact good24 hs h2 hj
            | 25, _, _ =>
              obtain ⟨p, q, rfl⟩ := len_2 hne
              exact good25 hs h2 hj
            | 26, _, _ =>
              obtain ⟨p, q, rfl⟩ := len_2 hne
              exact good26 hs h2 hj
            | 27, _, _ =>
              obtain ⟨p, q, t, rfl⟩ := len_3 hne
              exact good27 hs h2 hj
            | 28, _, _ =>
              obtain ⟨p, q, s, t, rfl⟩ := len_4 hne
              exact good28 hs h2 hj
          · exact absurd hne (by rw [Dv.out_kids hr]; omega)
        · cases h
    · cases h
end Go.Proofs.Ytmicgbdcbjajiaa.Se
namespace Go.Proofs.Ytmicgbdcbjajiaa.Se
open Go Go.RowKit
structure Ns (j : Jd) : Prop where
  u : j.u.size ≤ 1000000
  v : j.v.size ≤ 1000000
  a : j.a.size ≤ 1000000
structure Sml0 (c : List En) (on : List Jd) : Prop where
  len : c.length ≤ 60
  ents : ∀ e ∈ c, e.a.size ≤ 60
  js : ∀ j ∈ on, j.u.size ≤ 180 ∧ j.v.size ≤ 180 ∧ j.a.size ≤ 180
theorem Sml0.wide {c : List En} {on : List Jd} (h : Sml0 c on) : Sml c on :=
  ⟨by have := h.len; omega, fun e he => by have := h.ents e he; omega, fun j hj => by have := h.js j hj; omega⟩
theorem putB_le0 {t u : Tm} (h : t.pureB = true) (h1 : t.size ≤ 180) (h2 : u.size ≤ 1000) : (t.putB u).size ≤ 1000000 :=
  Nat.le_trans (putB_size u h) (Nat.le_trans (Nat.mul_le_mul h2 h1) (by decide))
theorem atU_le0 {c : List En} (n : Int) (h : ∀ e ∈ c, e.a.size ≤ 60) : (atU c n).size ≤ 1000000 := by
  unfold atU
  split
  · refine Nat.le_trans (liftB_size _ _ _) ?_
    cases hq : c[c.length - 1 - n.toNat]? with
    | none => simp [Tm.zero, Tm.size, sizes]
    | some e =>
      have := h e (List.mem_of_getElem? hq)
      simp only [Option.map_some, Option.getD_some]
      omega
  · simp [Tm.zero, Tm.size, sizes]
theorem kd_size (x : Tm) (q : Nat) : (kd x q).size ≤ max x.size 1 := by
  unfold kd
  cases h : x.kids[q]? with
  | none => simp only [Option.getD_none, Tm.zero, Tm.size, sizes]; omega
  | some y =>
    have := kid_size (List.mem_of_getElem? h)
    simp only [Option.getD_some]
    omega
theorem ns1 {c : List En} {n : Int} {j : Jd} (hj : concB c n 1 [] = some j) : Ns j := by
  rw [show concB c n 1 [] = if (decide (n ≥ 0) && decide (n ≤ 900)) = true then some ⟨false, srt n, .zero, srt (W64 (n + 1)), W64 (n + 2)⟩ else none from rfl] at hj
  split at hj
  · obtain rfl := Option.some.inj hj
    constructor <;> simp [srt, Tm.zero, Tm.size, sizes]
  · cases hj
theorem ns2 {c : List En} {n : Int} {j : Jd} (hs : c.length ≤ 60 ∧ ∀ e ∈ c, e.a.size ≤ 60) (hj : concB c n 2 [] = some j) : Ns j := by
  rw [show concB c n 2 [] = if atB c n = true then some ⟨false, .mk 2 n 0 0 [], .zero, atU c n, atI c n⟩ else none from rfl] at hj
  split at hj
  · obtain rfl := Option.some.inj hj
    exact ⟨by simp [Tm.size, sizes], by simp [Tm.zero, Tm.size, sizes], atU_le0 n hs.2⟩
  · cases hj
theorem ns3 {c : List En} {n : Int} {p q j : Jd} (hs : Sml0 c [p, q]) (hj : concB c n 3 [p, q] = some j) : Ns j := by
  rw [show concB c n 3 [p, q] = if (isT p && isT q) = true then some ⟨false, nd 3 p.a.i q.a.i [p.u, q.u], .zero, srt (max p.a.i q.a.i), W64 (max p.a.i q.a.i + 1)⟩ else none from by kernel_rfl] at hj
  split at hj
  · obtain rfl := Option.some.inj hj
    obtain ⟨sup, svp, sap⟩ := hs.js p (List.mem_cons_self ..)
    obtain ⟨suq, svq, saq⟩ := hs.js q (List.mem_cons_of_mem _ (List.mem_cons_self ..))
    exact ⟨(by show Tm.size (nd 3 p.a.i q.a.i [p.u, q.u]) ≤ 1000000; simp only [nd, Tm.size, sizes]; omega), (by show Tm.size (.zero) ≤ 1000000; simp only [Tm.zero, Tm.size, sizes]; omega), (by show Tm.size (srt (max p.a.i q.a.i)) ≤ 1000000; simp only [srt, Tm.size, sizes]; omega)⟩
  · cases hj
theorem ns4 {c : List En} {n : Int} {p q j : Jd} (hs : Sml0 c [p, q]) (hj : concB c n 4 [p, q] = some j) : Ns j := by
  rw [show concB c n 4 [p, q] = if (isT p && !q.eq) = true then some ⟨false, nd 4 p.a.i q.i [p.u, q.a, q.u], .zero, nd 3 p.a.i q.i [p.u, q.a], max p.a.i q.i⟩ else none from by kernel_rfl] at hj
  split at hj
  · obtain rfl := Option.some.inj hj
    obtain ⟨sup, svp, sap⟩ := hs.js p (List.mem_cons_self ..)
    obtain ⟨suq, svq, saq⟩ := hs.js q (List.mem_cons_of_mem _ (List.mem_cons_self ..))
    exact ⟨(by show Tm.size (nd 4 p.a.i q.i [p.u, q.a, q.u]) ≤ 1000000; simp only [nd, Tm.size, sizes]; omega), (by show Tm.size (.zero) ≤ 1000000; simp only [Tm.zero, Tm.size, sizes]; omega), (by show Tm.size (nd 3 p.a.i q.i [p.u, q.a]) ≤ 1000000; simp only [nd, Tm.size, sizes]; omega)⟩
  · cases hj
theorem ns5 {c : List En} {n : Int} {p q j : Jd} (hs : Sml0 c [p, q]) (h2 : allR c.length 5 0 [p, q] = true) (hj : concB c n 5 [p, q] = some j) : Ns j := by
  rw [show allR c.length 5 0 [p, q] = (rightJ p ↑c.length && (rightJ q ↑c.length && true)) from by kernel_rfl] at h2
  simp only [Bool.and_eq_true] at h2
  rw [show concB c n 5 [p, q] = if (spl p 3 && hasW q (kd p.a 0) p.a.i) = true then some ⟨false, nd 5 p.a.i p.a.j [kd p.a 0, kd p.a 1, p.u, q.u], .zero, (kd p.a 1).putB q.u, p.a.j⟩ else none from by kernel_rfl] at hj
  split at hj
  · rename_i hc
    obtain rfl := Option.some.inj hj
    obtain ⟨sup, svp, sap⟩ := hs.js p (List.mem_cons_self ..)
    obtain ⟨suq, svq, saq⟩ := hs.js q (List.mem_cons_of_mem _ (List.mem_cons_self ..))
    have z0 := kd_size p.a 0
    have z1 := kd_size p.a 1
    exact ⟨(by show Tm.size (nd 5 p.a.i p.a.j [kd p.a 0, kd p.a 1, p.u, q.u]) ≤ 1000000; simp only [nd, Tm.size, sizes]; omega), (by show Tm.size (.zero) ≤ 1000000; simp only [Tm.zero, Tm.size, sizes]; omega), (putB_le0 ((kd_two (fit_of (by have := h2.1; unfold rightJ at this; simp only [Bool.and_eq_true] at this; exact this.2.1.2)) (by have := (spl_k ((Bool.and_eq_true_iff.1 hc).1)).2; omega)).2.1.p) (by omega) (by omega))⟩
  · cases hj
theorem ns6 {c : List En} {n : Int} {p q j : Jd} (hs : Sml0 c [p, q]) (hj : concB c n 6 [p, q] = some j) : Ns j := by
  rw [show concB c n 6 [p, q] = if (isT p && isT q) = true then some ⟨false, nd 6 p.a.i q.a.i [p.u, q.u], .zero, srt (max p.a.i q.a.i), W64 (max p.a.i q.a.i + 1)⟩ else none from by kernel_rfl] at hj
  split at hj
  · obtain rfl := Option.some.inj hj
    obtain ⟨sup, svp, sap⟩ := hs.js p (List.mem_cons_self ..)
    obtain ⟨suq, svq, saq⟩ := hs.js q (List.mem_cons_of_mem _ (List.mem_cons_self ..))
    exact ⟨(by show Tm.size (nd 6 p.a.i q.a.i [p.u, q.u]) ≤ 1000000; simp only [nd, Tm.size, sizes]; omega), (by show Tm.size (.zero) ≤ 1000000; simp only [Tm.zero, Tm.size, sizes]; omega), (by show Tm.size (srt (max p.a.i q.a.i)) ≤ 1000000; simp only [srt, Tm.size, sizes]; omega)⟩
  · cases hj
theorem ns7 {c : List En} {n : Int} {p q t j : Jd} (hs : Sml0 c [p, q, t]) (hj : concB c n 7 [p, q, t] = some j) : Ns j := by
  rw [show concB c n 7 [p, q, t] = if prd p q t = true then some ⟨false, nd 7 p.i q.a.i [p.a, q.u, p.u, t.u], .zero, nd 6 p.i q.a.i [p.a, q.u], max p.i q.a.i⟩ else none from by kernel_rfl] at hj
  split at hj
  · obtain rfl := Option.some.inj hj
    obtain ⟨sup, svp, sap⟩ := hs.js p (List.mem_cons_self ..)
    obtain ⟨suq, svq, saq⟩ := hs.js q (List.mem_cons_of_mem _ (List.mem_cons_self ..))
    obtain ⟨sut, svt, sat⟩ := hs.js t (List.mem_cons_of_mem _ (List.mem_cons_of_mem _ (List.mem_cons_self ..)))
    exact ⟨(by show Tm.size (nd 7 p.i q.a.i [p.a, q.u, p.u, t.u]) ≤ 1000000; simp only [nd, Tm.size, sizes]; omega), (by show Tm.size (.zero) ≤ 1000000; simp only [Tm.zero, Tm.size, sizes]; omega), (by show Tm.size (nd 6 p.i q.a.i [p.a, q.u]) ≤ 1000000; simp only [nd, Tm.size, sizes]; omega)⟩
  · cases hj
theorem ns8 {c : List En} {n : Int} {p j : Jd} (hs : Sml0 c [p]) (hj : concB c n 8 [p] = some j) : Ns j := by
  rw [show concB c n 8 [p] = if spl p 6 = true then some ⟨false, nd 8 p.a.i p.a.j [kd p.a 0, kd p.a 1, p.u], .zero, kd p.a 0, p.a.i⟩ else none from by kernel_rfl] at hj
  split at hj
  · obtain rfl := Option.some.inj hj
    obtain ⟨sup, svp, sap⟩ := hs.js p (List.mem_cons_self ..)
    have z0 := kd_size p.a 0
    have z1 := kd_size p.a 1
    exact ⟨(by show Tm.size (nd 8 p.a.i p.a.j [kd p.a 0, kd p.a 1, p.u]) ≤ 1000000; simp only [nd, Tm.size, sizes]; omega), (by show Tm.size (.zero) ≤ 1000000; simp only [Tm.zero, Tm.size, sizes]; omega), (by show Tm.size (kd p.a 0) ≤ 1000000; omega)⟩
  · cases hj
theorem ns9 {c : List En} {n : Int} {p j : Jd} (hs : Sml0 c [p]) (h2 : allR c.length 9 0 [p] = true) (hj : concB c n 9 [p] = some j) : Ns j := by
  rw [show allR c.length 9 0 [p] = (rightJ p ↑c.length && true) from by kernel_rfl] at h2
  simp only [Bool.and_eq_true] at h2
  rw [show concB c n 9 [p] = if spl p 6 = true then some ⟨false, nd 9 p.a.i p.a.j [kd p.a 0, kd p.a 1, p.u], .zero, (kd p.a 1).putB (nd 8 p.a.i p.a.j [kd p.a 0, kd p.a 1, p.u]), p.a.j⟩ else none from by kernel_rfl] at hj
  split at hj
  · rename_i hc
    obtain rfl := Option.some.inj hj
    obtain ⟨sup, svp, sap⟩ := hs.js p (List.mem_cons_self ..)
    have z0 := kd_size p.a 0
    have z1 := kd_size p.a 1
    exact ⟨(by show Tm.size (nd 9 p.a.i p.a.j [kd p.a 0, kd p.a 1, p.u]) ≤ 1000000; simp only [nd, Tm.size, sizes]; omega), (by show Tm.size (.zero) ≤ 1000000; simp only [Tm.zero, Tm.size, sizes]; omega), (putB_le0 ((kd_two (fit_of (by have := h2.1; unfold rightJ at this; simp only [Bool.and_eq_true] at this; exact this.2.1.2)) (by have := (spl_k hc).2; omega)).2.1.p) (by omega) (by simp only [nd, Tm.size, sizes]; omega))⟩
  · cases hj
theorem ns10 {c : List En} {n : Int} {p q j : Jd} (hs : Sml0 c [p, q]) (hj : concB c n 10 [p, q] = some j) : Ns j := by
  rw [show concB c n 10 [p, q] = if (!p.eq && hasW q p.a p.i) = true then some ⟨false, nd 10 p.i 0 [p.a, p.u, q.u], .zero, srt p.i, W64 (p.i + 1)⟩ else none from by kernel_rfl] at hj
  split at hj
  · obtain rfl := Option.some.inj hj
    obtain ⟨sup, svp, sap⟩ := hs.js p (List.mem_cons_self ..)
    obtain ⟨suq, svq, saq⟩ := hs.js q (List.mem_cons_of_mem _ (List.mem_cons_self ..))
    exact ⟨(by show Tm.size (nd 10 p.i 0 [p.a, p.u, q.u]) ≤ 1000000; simp only [nd, Tm.size, sizes]; omega), (by show Tm.size (.zero) ≤ 1000000; simp only [Tm.zero, Tm.size, sizes]; omega), (by show Tm.size (srt p.i) ≤ 1000000; simp only [srt, Tm.size, sizes]; omega)⟩
  · cases hj
theorem ns11 {c : List En} {n : Int} {p j : Jd} (hs : Sml0 c [p]) (hj : concB c n 11 [p] = some j) : Ns j := by
  rw [show concB c n 11 [p] = if (!p.eq) = true then some ⟨false, nd 11 p.i 0 [p.a, p.u], .zero, nd 10 p.i 0 [p.a, p.u, p.u], p.i⟩ else none from by kernel_rfl] at hj
  split at hj
  · obtain rfl := Option.some.inj hj
    obtain ⟨sup, svp, sap⟩ := hs.js p (List.mem_cons_self ..)
    exact ⟨(by show Tm.size (nd 11 p.i 0 [p.a, p.u]) ≤ 1000000; simp only [nd, Tm.size, sizes]; omega), (by show Tm.size (.zero) ≤ 1000000; simp only [Tm.zero, Tm.size, sizes]; omega), (by show Tm.size (nd 10 p.i 0 [p.a, p.u, p.u]) ≤ 1000000; simp only [nd, Tm.size, sizes]; omega)⟩
  · cases hj
theorem ns12 {c : List En} {n : Int} {p q j : Jd} (hs : Sml0 c [p, q]) (hj : concB c n 12 [p, q] = some j) : Ns j := by
  rw [show concB c n 12 [p, q] = if (!p.eq && cnv p q) = true then some ⟨false, p.u, .zero, q.v, p.i⟩ else none from by kernel_rfl] at hj
  split at hj
  · obtain rfl := Option.some.inj hj
    obtain ⟨sup, svp, sap⟩ := hs.js p (List.mem_cons_self ..)
    obtain ⟨suq, svq, saq⟩ := hs.js q (List.mem_cons_of_mem _ (List.mem_cons_self ..))
    exact ⟨(by show Tm.size (p.u) ≤ 1000000; omega), (by show Tm.size (.zero) ≤ 1000000; simp only [Tm.zero, Tm.size, sizes]; omega), (by show Tm.size (q.v) ≤ 1000000; omega)⟩
  · cases hj
theorem ns13 {c : List En} {n : Int} {p j : Jd} (hs : Sml0 c [p]) (hj : concB c n 13 [p] = some j) : Ns j := by
  rw [show concB c n 13 [p] = if (!p.eq) = true then some ⟨true, p.u, p.u, p.a, p.i⟩ else none from by kernel_rfl] at hj
  split at hj
  · obtain rfl := Option.some.inj hj
    obtain ⟨sup, svp, sap⟩ := hs.js p (List.mem_cons_self ..)
    exact ⟨(by show Tm.size (p.u) ≤ 1000000; omega), (by show Tm.size (p.u) ≤ 1000000; omega), (by show Tm.size (p.a) ≤ 1000000; omega)⟩
  · cases hj
theorem ns14 {c : List En} {n : Int} {p j : Jd} (hs : Sml0 c [p]) (hj : concB c n 14 [p] = some j) : Ns j := by
  rw [show concB c n 14 [p] = if p.eq = true then some ⟨true, p.v, p.u, p.a, p.i⟩ else none from by kernel_rfl] at hj
  split at hj
  · obtain rfl := Option.some.inj hj
    obtain ⟨sup, svp, sap⟩ := hs.js p (List.mem_cons_self ..)
    exact ⟨(by show Tm.size (p.v) ≤ 1000000; omega), (by show Tm.size (p.u) ≤ 1000000; omega), (by show Tm.size (p.a) ≤ 1000000; omega)⟩
  · cases hj
theorem ns15 {c : List En} {n : Int} {p q j : Jd} (hs : Sml0 c [p, q]) (hj : concB c n 15 [p, q] = some j) : Ns j := by
  rw [show concB c n 15 [p, q] = if (p.eq && (q.eq && (p.i == q.i && (sameB p.v q.u && sameB p.a q.a)))) = true then some ⟨true, p.u, q.v, p.a, p.i⟩ else none from by kernel_rfl] at hj
  split at hj
  · obtain rfl := Option.some.inj hj
    obtain ⟨sup, svp, sap⟩ := hs.js p (List.mem_cons_self ..)
    obtain ⟨suq, svq, saq⟩ := hs.js q (List.mem_cons_of_mem _ (List.mem_cons_self ..))
    exact ⟨(by show Tm.size (p.u) ≤ 1000000; omega), (by show Tm.size (q.v) ≤ 1000000; omega), (by show Tm.size (p.a) ≤ 1000000; omega)⟩
  · cases hj
theorem ns16 {c : List En} {n : Int} {p q j : Jd} (hs : Sml0 c [p, q]) (hj : concB c n 16 [p, q] = some j) : Ns j := by
  rw [show concB c n 16 [p, q] = if (p.eq && cnv p q) = true then some ⟨true, p.u, p.v, q.v, p.i⟩ else none from by kernel_rfl] at hj
  split at hj
  · obtain rfl := Option.some.inj hj
    obtain ⟨sup, svp, sap⟩ := hs.js p (List.mem_cons_self ..)
    obtain ⟨suq, svq, saq⟩ := hs.js q (List.mem_cons_of_mem _ (List.mem_cons_self ..))
    exact ⟨(by show Tm.size (p.u) ≤ 1000000; omega), (by show Tm.size (p.v) ≤ 1000000; omega), (by show Tm.size (q.v) ≤ 1000000; omega)⟩
  · cases hj
theorem ns17 {c : List En} {n : Int} {p j : Jd} (hs : Sml0 c [p]) (hj : concB c n 17 [p] = some j) : Ns j := by
  rw [show concB c n 17 [p] = if prf p = true then some ⟨true, kd p.a 1, kd p.a 2, kd p.a 0, p.i⟩ else none from by kernel_rfl] at hj
  split at hj
  · obtain rfl := Option.some.inj hj
    obtain ⟨sup, svp, sap⟩ := hs.js p (List.mem_cons_self ..)
    have z0 := kd_size p.a 0
    have z1 := kd_size p.a 1
    have z2 := kd_size p.a 2
    exact ⟨(by show Tm.size (kd p.a 1) ≤ 1000000; omega), (by show Tm.size (kd p.a 2) ≤ 1000000; omega), (by show Tm.size (kd p.a 0) ≤ 1000000; omega)⟩
  · cases hj
theorem ns18 {c : List En} {n : Int} {p q j : Jd} (hs : Sml0 c [p, q]) (h2 : allR c.length 18 0 [p, q] = true) (hj : concB c n 18 [p, q] = some j) : Ns j := by
  rw [show allR c.length 18 0 [p, q] = (rightJ p ↑c.length && (rightJ q (W64 (↑c.length + 1)) && true)) from by kernel_rfl] at h2
  simp only [Bool.and_eq_true] at h2
  rw [show concB c n 18 [p, q] = if (!p.eq && !q.eq) = true then some ⟨true, nd 5 p.i q.i [p.a, q.a, nd 4 p.i q.i [p.a, q.a, q.u], p.u], q.u.putB p.u, q.a.putB p.u, q.i⟩ else none from by kernel_rfl] at hj
  split at hj
  · obtain rfl := Option.some.inj hj
    obtain ⟨sup, svp, sap⟩ := hs.js p (List.mem_cons_self ..)
    obtain ⟨suq, svq, saq⟩ := hs.js q (List.mem_cons_of_mem _ (List.mem_cons_self ..))
    exact ⟨(by show Tm.size (nd 5 p.i q.i [p.a, q.a, nd 4 p.i q.i [p.a, q.a, q.u], p.u]) ≤ 1000000; simp only [nd, Tm.size, sizes]; omega), (putB_le0 ((right_u h2.2.1).1) (by omega) (by omega)), (putB_le0 ((right_u h2.2.1).2) (by omega) (by omega))⟩
  · cases hj
theorem ns19 {c : List En} {n : Int} {p q t j : Jd} (hs : Sml0 c [p, q, t]) (hj : concB c n 19 [p, q, t] = some j) : Ns j := by
  rw [show concB c n 19 [p, q, t] = if prd p q t = true then some ⟨true, nd 8 p.i q.a.i [p.a, q.u, nd 7 p.i q.a.i [p.a, q.u, p.u, t.u]], p.u, p.a, p.i⟩ else none from by kernel_rfl] at hj
  split at hj
  · obtain rfl := Option.some.inj hj
    obtain ⟨sup, svp, sap⟩ := hs.js p (List.mem_cons_self ..)
    obtain ⟨suq, svq, saq⟩ := hs.js q (List.mem_cons_of_mem _ (List.mem_cons_self ..))
    obtain ⟨sut, svt, sat⟩ := hs.js t (List.mem_cons_of_mem _ (List.mem_cons_of_mem _ (List.mem_cons_self ..)))
    exact ⟨(by show Tm.size (nd 8 p.i q.a.i [p.a, q.u, nd 7 p.i q.a.i [p.a, q.u, p.u, t.u]]) ≤ 1000000; simp only [nd, Tm.size, sizes]; omega), (by show Tm.size (p.u) ≤ 1000000; omega), (by show Tm.size (p.a) ≤ 1000000; omega)⟩
  · cases hj
theorem ns20 {c : List En} {n : Int} {p q t j : Jd} (hs : Sml0 c [p, q, t]) (hj : concB c n 20 [p, q, t] = some j) : Ns j := by
  rw [show concB c n 20 [p, q, t] = if prd p q t = true then some ⟨true, nd 9 p.i q.a.i [p.a, q.u, nd 7 p.i q.a.i [p.a, q.u, p.u, t.u]], t.u, t.a, q.a.i⟩ else none from by kernel_rfl] at hj
  split at hj
  · obtain rfl := Option.some.inj hj
    obtain ⟨sup, svp, sap⟩ := hs.js p (List.mem_cons_self ..)
    obtain ⟨suq, svq, saq⟩ := hs.js q (List.mem_cons_of_mem _ (List.mem_cons_self ..))
    obtain ⟨sut, svt, sat⟩ := hs.js t (List.mem_cons_of_mem _ (List.mem_cons_of_mem _ (List.mem_cons_self ..)))
    exact ⟨(by show Tm.size (nd 9 p.i q.a.i [p.a, q.u, nd 7 p.i q.a.i [p.a, q.u, p.u, t.u]]) ≤ 1000000; simp only [nd, Tm.size, sizes]; omega), (by show Tm.size (t.u) ≤ 1000000; omega), (by show Tm.size (t.a) ≤ 1000000; omega)⟩
  · cases hj
theorem ns21 {c : List En} {n : Int} {p j : Jd} (hs : Sml0 c [p]) (hj : concB c n 21 [p] = some j) : Ns j := by
  rw [show concB c n 21 [p] = if spl p 3 = true then some ⟨true, p.u, nd 4 p.a.i p.a.j [kd p.a 0, kd p.a 1, nd 5 p.a.i p.a.j [(kd p.a 0).liftB 1 0, (kd p.a 1).liftB 1 1, p.u.liftB 1 0, .mk 2 0 0 0 []]], p.a, p.i⟩ else none from by kernel_rfl] at hj
  split at hj
  · obtain rfl := Option.some.inj hj
    obtain ⟨sup, svp, sap⟩ := hs.js p (List.mem_cons_self ..)
    have z0 := kd_size p.a 0
    have z1 := kd_size p.a 1
    have ykdpa11 := liftB_size (kd p.a 1) 1 1
    have ykdpa00 := liftB_size (kd p.a 0) 1 0
    have ypu0 := liftB_size p.u 1 0
    exact ⟨(by show Tm.size (p.u) ≤ 1000000; omega), (by show Tm.size (nd 4 p.a.i p.a.j [kd p.a 0, kd p.a 1, nd 5 p.a.i p.a.j [(kd p.a 0).liftB 1 0, (kd p.a 1).liftB 1 1, p.u.liftB 1 0, .mk 2 0 0 0 []]]) ≤ 1000000; simp only [nd, Tm.size, sizes]; omega), (by show Tm.size (p.a) ≤ 1000000; omega)⟩
  · cases hj
theorem ns22 {c : List En} {n : Int} {p j : Jd} (hs : Sml0 c [p]) (hj : concB c n 22 [p] = some j) : Ns j := by
  rw [show concB c n 22 [p] = if spl p 6 = true then some ⟨true, p.u, nd 7 p.a.i p.a.j [kd p.a 0, kd p.a 1, nd 8 p.a.i p.a.j [kd p.a 0, kd p.a 1, p.u], nd 9 p.a.i p.a.j [kd p.a 0, kd p.a 1, p.u]], p.a, p.i⟩ else none from by kernel_rfl] at hj
  split at hj
  · obtain rfl := Option.some.inj hj
    obtain ⟨sup, svp, sap⟩ := hs.js p (List.mem_cons_self ..)
    have z0 := kd_size p.a 0
    have z1 := kd_size p.a 1
    exact ⟨(by show Tm.size (p.u) ≤ 1000000; omega), (by show Tm.size (nd 7 p.a.i p.a.j [kd p.a 0, kd p.a 1, nd 8 p.a.i p.a.j [kd p.a 0, kd p.a 1, p.u], nd 9 p.a.i p.a.j [kd p.a 0, kd p.a 1, p.u]]) ≤ 1000000; simp only [nd, Tm.size, sizes]; omega), (by show Tm.size (p.a) ≤ 1000000; omega)⟩
  · cases hj
theorem ns23 {c : List En} {n : Int} {p q j : Jd} (hs : Sml0 c [p, q]) (h2 : allR c.length 23 0 [p, q] = true) (hj : concB c n 23 [p, q] = some j) : Ns j := by
  rw [show allR c.length 23 0 [p, q] = (rightJ p ↑c.length && (rightJ q (W64 (↑c.length + 1)) && true)) from by kernel_rfl] at h2
  simp only [Bool.and_eq_true] at h2
  rw [show concB c n 23 [p, q] = if (p.eq && !q.eq) = true then some ⟨true, q.u.putB p.u, q.u.putB p.v, q.a.putB p.u, q.i⟩ else none from by kernel_rfl] at hj
  split at hj
  · obtain rfl := Option.some.inj hj
    obtain ⟨sup, svp, sap⟩ := hs.js p (List.mem_cons_self ..)
    obtain ⟨suq, svq, saq⟩ := hs.js q (List.mem_cons_of_mem _ (List.mem_cons_self ..))
    exact ⟨(putB_le0 ((right_u h2.2.1).1) (by omega) (by omega)), (putB_le0 ((right_u h2.2.1).1) (by omega) (by omega)), (putB_le0 ((right_u h2.2.1).2) (by omega) (by omega))⟩
  · cases hj
theorem ns24 {c : List En} {n : Int} {p q j : Jd} (hs : Sml0 c [p, q]) (hj : concB c n 24 [p, q] = some j) : Ns j := by
  rw [show concB c n 24 [p, q] = if (prf p && hasW q p.a p.i) = true then some ⟨true, p.u, q.u, p.a, p.i⟩ else none from by kernel_rfl] at hj
  split at hj
  · obtain rfl := Option.some.inj hj
    obtain ⟨sup, svp, sap⟩ := hs.js p (List.mem_cons_self ..)
    obtain ⟨suq, svq, saq⟩ := hs.js q (List.mem_cons_of_mem _ (List.mem_cons_self ..))
    exact ⟨(by show Tm.size (p.u) ≤ 1000000; omega), (by show Tm.size (q.u) ≤ 1000000; omega), (by show Tm.size (p.a) ≤ 1000000; omega)⟩
  · cases hj
theorem ns25 {c : List En} {n : Int} {p q j : Jd} (hs : Sml0 c [p, q]) (hj : concB c n 25 [p, q] = some j) : Ns j := by
  rw [show concB c n 25 [p, q] = if (areT p && areT q) = true then some ⟨true, nd 3 p.a.i q.a.i [p.u, q.u], nd 3 p.a.i q.a.i [p.v, q.v], srt (max p.a.i q.a.i), W64 (max p.a.i q.a.i + 1)⟩ else none from by kernel_rfl] at hj
  split at hj
  · obtain rfl := Option.some.inj hj
    obtain ⟨sup, svp, sap⟩ := hs.js p (List.mem_cons_self ..)
    obtain ⟨suq, svq, saq⟩ := hs.js q (List.mem_cons_of_mem _ (List.mem_cons_self ..))
    exact ⟨(by show Tm.size (nd 3 p.a.i q.a.i [p.u, q.u]) ≤ 1000000; simp only [nd, Tm.size, sizes]; omega), (by show Tm.size (nd 3 p.a.i q.a.i [p.v, q.v]) ≤ 1000000; simp only [nd, Tm.size, sizes]; omega), (by show Tm.size (srt (max p.a.i q.a.i)) ≤ 1000000; simp only [srt, Tm.size, sizes]; omega)⟩
  · cases hj
theorem ns26 {c : List En} {n : Int} {p q j : Jd} (hs : Sml0 c [p, q]) (hj : concB c n 26 [p, q] = some j) : Ns j := by
  rw [show concB c n 26 [p, q] = if (areT p && areT q) = true then some ⟨true, nd 6 p.a.i q.a.i [p.u, q.u], nd 6 p.a.i q.a.i [p.v, q.v], srt (max p.a.i q.a.i), W64 (max p.a.i q.a.i + 1)⟩ else none from by kernel_rfl] at hj
  split at hj
  · obtain rfl := Option.some.inj hj
    obtain ⟨sup, svp, sap⟩ := hs.js p (List.mem_cons_self ..)
    obtain ⟨suq, svq, saq⟩ := hs.js q (List.mem_cons_of_mem _ (List.mem_cons_self ..))
    exact ⟨(by show Tm.size (nd 6 p.a.i q.a.i [p.u, q.u]) ≤ 1000000; simp only [nd, Tm.size, sizes]; omega), (by show Tm.size (nd 6 p.a.i q.a.i [p.v, q.v]) ≤ 1000000; simp only [nd, Tm.size, sizes]; omega), (by show Tm.size (srt (max p.a.i q.a.i)) ≤ 1000000; simp only [srt, Tm.size, sizes]; omega)⟩
  · cases hj
theorem ns27 {c : List En} {n : Int} {p q t j : Jd} (hs : Sml0 c [p, q, t]) (hj : concB c n 27 [p, q, t] = some j) : Ns j := by
  rw [show concB c n 27 [p, q, t] = if ((areT p && areT q) && (t.eq && (t.i == q.a.i && sameB t.a q.u))) = true then some ⟨true, nd 4 p.a.i q.a.i [p.u, q.u, t.u], nd 4 p.a.i q.a.i [p.v, q.v, t.v], nd 3 p.a.i q.a.i [p.u, q.u], max p.a.i q.a.i⟩ else none from by kernel_rfl] at hj
  split at hj
  · obtain rfl := Option.some.inj hj
    obtain ⟨sup, svp, sap⟩ := hs.js p (List.mem_cons_self ..)
    obtain ⟨suq, svq, saq⟩ := hs.js q (List.mem_cons_of_mem _ (List.mem_cons_self ..))
    obtain ⟨sut, svt, sat⟩ := hs.js t (List.mem_cons_of_mem _ (List.mem_cons_of_mem _ (List.mem_cons_self ..)))
    exact ⟨(by show Tm.size (nd 4 p.a.i q.a.i [p.u, q.u, t.u]) ≤ 1000000; simp only [nd, Tm.size, sizes]; omega), (by show Tm.size (nd 4 p.a.i q.a.i [p.v, q.v, t.v]) ≤ 1000000; simp only [nd, Tm.size, sizes]; omega), (by show Tm.size (nd 3 p.a.i q.a.i [p.u, q.u]) ≤ 1000000; simp only [nd, Tm.size, sizes]; omega)⟩
  · cases hj
theorem ns28 {c : List En} {n : Int} {p q s t j : Jd} (hs : Sml0 c [p, q, s, t]) (hj : concB c n 28 [p, q, s, t] = some j) : Ns j := by
  rw [show concB c n 28 [p, q, s, t] = if (((areT p && areT q) && hasW s p.u p.a.i) && hasW t (q.u.putB s.u) q.a.i) = true then some ⟨true, nd 7 p.a.i q.a.i [p.u, q.u, s.u, t.u], nd 7 p.a.i q.a.i [p.v, q.v, s.u, t.u], nd 6 p.a.i q.a.i [p.u, q.u], max p.a.i q.a.i⟩ else none from by kernel_rfl] at hj
  split at hj
  · obtain rfl := Option.some.inj hj
    obtain ⟨sup, svp, sap⟩ := hs.js p (List.mem_cons_self ..)
    obtain ⟨suq, svq, saq⟩ := hs.js q (List.mem_cons_of_mem _ (List.mem_cons_self ..))
    obtain ⟨sus, svs, sas⟩ := hs.js s (List.mem_cons_of_mem _ (List.mem_cons_of_mem _ (List.mem_cons_self ..)))
    obtain ⟨sut, svt, sat⟩ := hs.js t (List.mem_cons_of_mem _ (List.mem_cons_of_mem _ (List.mem_cons_of_mem _ (List.mem_cons_self ..))))
    exact ⟨(by show Tm.size (nd 7 p.a.i q.a.i [p.u, q.u, s.u, t.u]) ≤ 1000000; simp only [nd, Tm.size, sizes]; omega), (by show Tm.size (nd 7 p.a.i q.a.i [p.v, q.v, s.u, t.u]) ≤ 1000000; simp only [nd, Tm.size, sizes]; omega), (by show Tm.size (nd 6 p.a.i q.a.i [p.u, q.u]) ≤ 1000000; simp only [nd, Tm.size, sizes]; omega)⟩
  · cases hj
theorem ofB_small {c : List En} {r n : Int} {on : List Jd} {j : Jd} (hs : Sml0 c on) (h : ofB c r n on = some j) : Ns j := by
  unfold ofB at h
  split at h
  · cases h
  · rename_i hne
    have hne : Dv.dkidsN r = on.length := Classical.not_not.1 hne
    split at h
    · rename_i h12
      rw [Bool.and_eq_true] at h12
      cases hj : concB c n r on with
      | none => rw [hj] at h; cases h
      | some j' =>
        rw [hj] at h
        change (if okJ j' = true then some j' else none) = some j at h
        split at h
        · obtain rfl := Option.some.inj h
          by_cases hr : 1 ≤ r ∧ r ≤ 28
          · obtain ⟨q, hq⟩ : ∃ q : Nat, r = (q : Int) := ⟨r.toNat, by omega⟩
            subst hq
            have hq1 : 1 ≤ q := by omega
            have hq2 : q ≤ 28 := by omega
            match q, hq1, hq2 with
            | 1, _, _ =>
              obtain rfl := len_0 hne
              exact ns1 hj
            | 2, _, _ =>
              obtain rfl := len_0 hne
              exact ns2 ⟨hs.len, hs.ents⟩ hj
            | 3, _, _ =>
              obtain ⟨p, q, rfl⟩ := len_2 hne
              exact ns3 hs hj
            | 4, _, _ =>
              obtain ⟨p, q, rfl⟩ := len_2 hne
              exact ns4 hs hj
            | 5, _, _ =>
              obtain ⟨p, q, rfl⟩ := len_2 hne
              exact ns5 hs h12.2 hj
            | 6, _, _ =>
              obtain ⟨p, q, rfl⟩ := len_2 hne
              exact ns6 hs hj
            | 7, _, _ =>
              obtain ⟨p, q, t, rfl⟩ := len_3 hne
              exact ns7 hs hj
            | 8, _, _ =>
              obtain ⟨p, rfl⟩ := len_1 hne
              exact ns8 hs hj
            | 9, _, _ =>
              obtain ⟨p, rfl⟩ := len_1 hne
              exact ns9 hs h12.2 hj
            | 10, _, _ =>
              obtain ⟨p, q, rfl⟩ := len_2 hne
              exact ns10 hs hj
            | 11, _, _ =>
              obtain ⟨p, rfl⟩ := len_1 hne
              exact ns11 hs hj
            | 12, _, _ =>
              obtain ⟨p, q, rfl⟩ := len_2 hne
              exact ns12 hs hj
            | 13, _, _ =>
              obtain ⟨p, rfl⟩ := len_1 hne
              exact ns13 hs hj
            | 14, _, _ =>
              obtain ⟨p, rfl⟩ := len_1 hne
              exact ns14 hs hj
            | 15, _, _ =>
              obtain ⟨p, q, rfl⟩ := len_2 hne
              exact ns15 hs hj
            | 16, _, _ =>
              obtain ⟨p, q, rfl⟩ := len_2 hne
              exact ns16 hs hj
            | 17, _, _ =>
              obtain ⟨p, rfl⟩ := len_1 hne
              exact ns17 hs hj
            | 18, _, _ =>
              obtain ⟨p, q, rfl⟩ := len_2 hne
              exact ns18 hs h12.2 hj
            | 19, _, _ =>
              obtain ⟨p, q, t, rfl⟩ := len_3 hne
              exact ns19 hs hj
            | 20, _, _ =>
              obtain ⟨p, q, t, rfl⟩ := len_3 hne
              exact ns20 hs hj
            | 21, _, _ =>
              obtain ⟨p, rfl⟩ := len_1 hne
              exact ns21 hs hj
            | 22, _, _ =>
              obtain ⟨p, rfl⟩ := len_1 hne
              exact ns22 hs hj
            | 23, _, _ =>
              obtain ⟨p, q, rfl⟩ := len_2 hne
              exact ns23 hs h12.2 hj
            | 24, _, _ =>
              obtain ⟨p, q, rfl⟩ := len_2 hne
              exact ns24 hs hj
            | 25, _, _ =>
              obtain ⟨p, q, rfl⟩ := len_2 hne
              exact ns25 hs hj
            | 26, _, _ =>
              obtain ⟨p, q, rfl⟩ := len_2 hne
              exact ns26 hs hj
            | 27, _, _ =>
              obtain ⟨p, q, t, rfl⟩ := len_3 hne
              exact ns27 hs hj
            | 28, _, _ =>
              obtain ⟨p, q, s, t, rfl⟩ := len_4 hne
              exact ns28 hs hj
          · exact absurd hne (by rw [Dv.out_kids hr]; omega)
        · cases h
    · cases h
end Go.Proofs.Ytmicgbdcbjajiaa.Se
namespace Go.Proofs.Ytmicgbdcbjajiaa.Se
open Go Go.RowKit
theorem liesEQ_nil (w : World) (P : Nat → Prop) : LiesEQ w P [] (.slice none 0 0) := ⟨none, 0, fun _ => .nilIface, rfl, Nat.le_refl _, by decide, (fun _ h => by cases h), (fun _ h => by cases h)⟩
theorem liesJQ_nil (w : World) (P : Nat → Prop) : LiesJQ w P [] (.slice none 0 0) := ⟨none, 0, fun _ => (.nilIface, .nilIface, .nilIface), rfl, Nat.le_refl _, by decide, (fun _ h => by cases h), (fun _ h => by cases h)⟩
theorem jdOf_F (j : Jd) : jdOf (jdF j) = some j := by
 obtain ⟨e, u, v, a, i⟩ := j
 cases u; cases v; cases a
 rfl
theorem ofN_any (P : Nat → Prop) (w : World) (r n : Int) (hr : I64 r) (hn : I64 n) : Calls Try.prog 5 #[.slice none 0 0, .int .i64 r, .int .i64 n, .slice none 0 0] w fun e w' => GivesJT P ((ofB [] r n []).getD zJ) (ofB [] r n []).isSome w e w' := by
 refine (of_all [] r n [] ⟨by decide, (fun _ h => by cases h), (fun _ h => by cases h)⟩ (A := fun _ => False) (vs := [.slice none 0 0, .int .i64 r, .int .i64 n, .slice none 0 0]) ⟨⟨_, rfl, liesEQ_nil _ _⟩, ⟨_, rfl, rfl, hr⟩, ⟨_, rfl, rfl, hn⟩, ⟨_, rfl, liesJQ_nil _ _⟩, trivial⟩).mono ?_
 rintro e w' ⟨v, rfl, ⟨us, rfl, hu⟩, hb⟩
 obtain ⟨x, y, rfl, h3, h4⟩ := F2.two hu
 obtain ⟨su, sv, sa, rfl, -, l1, l2, l3⟩ := jd_den h3 (jdOf_F _)
 obtain ⟨l, hl, h4⟩ := h4
 cases hl
 obtain rfl : y = _ := h4
 have hw : ∀ {b : Nat}, (False ∨ w.heap.size ≤ b) → (P b ∨ w.heap.size ≤ b) := fun h => h.imp False.elim id
 exact ⟨su, sv, sa, rfl, ⟨l1.wide (fun b h => hw h), l2.wide (fun b h => hw h), l3.wide (fun b h => hw h)⟩, hb⟩
theorem of3W_any (P : Nat → Prop) (w : World) (U3 A4 : Tm) (hU3 : U3 = Tm.mk 1 3 0 0 []) (hA4 : A4 = Tm.mk 1 4 0 0 []) : Calls Try.prog 5 #[.slice none 0 0, .int .i64 1, .int .i64 3, .slice none 0 0] w (GivesJT P ⟨false, U3, Tm.zero, A4, 5⟩ true w) := by
 subst hU3 hA4
 have h := ofN_any P w 1 3 (by unfold I64; decide) (by unfold I64; decide)
 rw [show ofB [] 1 3 [] = some ⟨false, .mk 1 3 0 0 [], .zero, .mk 1 4 0 0 [], 5⟩ from by kernel_rfl] at h
 exact h
theorem of901W_any (P : Nat → Prop) (w : World) (U3 A4 : Tm) (_ : U3 = Tm.mk 1 901 0 0 []) (_ : A4 = Tm.mk 1 902 0 0 []) : Calls Try.prog 5 #[.slice none 0 0, .int .i64 1, .int .i64 901, .slice none 0 0] w (GivesJT P ⟨false, Tm.zero, Tm.zero, Tm.zero, 0⟩ false w) := by
 have h := ofN_any P w 1 901 (by unfold I64; decide) (by unfold I64; decide)
 rw [show ofB [] 1 901 [] = none from by kernel_rfl] at h
 exact h
noncomputable def fEnt : Func := (Try.prog.funcs[45]?).getD default
theorem fEnt_at : Try.prog.funcs[45]? = some fEnt := by kernel_rfl
theorem fEnt_two : (!Nat.beq fEnt.results.size 1) = true := by kernel_rfl
abbrev aEnt (u v x : Tm) (i : Int) : List (Bool × List F15) := [(false, [.int 3]), (true, jdF ⟨false, re u, re v, re x, i⟩)]
theorem entL {u v x : Tm} {i : Int} {orc : List Bool} {b : Bool} {cs : List Prop} {w : World} {A : Nat → Prop} {vs : List Value} (hv : F2 (ArgDen w A) (aEnt u v x i) vs)
  (h : call S15 Try.prog 60 fEnt (aEnt u v x i) orc = some ([(true, tmF (re u) ++ [.oint x.i]), (false, [.bool b])], cs, [])) (hc : AllP cs) : Calls Try.prog 45 vs.toArray w (GivesEB A ⟨u, x.i⟩ b w) := by
 have H := call_ok S15_ok mixed15 fEnt_at h hc hv
 rw [fEnt_two] at H
 refine H.mono fun e w' he => ?_
 obtain ⟨v', rfl, hr, hb⟩ := he
 obtain ⟨us, rfl, hu⟩ := hr
 obtain ⟨y, z, rfl, h1, h2⟩ := hu.two
 obtain ⟨zs, rfl, hz⟩ := h1
 obtain ⟨l, hl, h2⟩ := h2
 cases hl
 obtain rfl : z = _ := h2
 match zs, hz with
 | [_, _, _, _, s, _], ⟨⟨rfl, _⟩, ⟨rfl, _⟩, ⟨rfl, _⟩, ⟨rfl, _⟩, hs, ⟨rfl, _⟩, _⟩ => exact ⟨s, rfl, hs, hb⟩
set_option maxRecDepth 20000 in
theorem entry3_any (i : Int) (u v x : Tm) (P : Nat → Prop) (w : World) (su sv sx : Value) (hfu : u.fine) (hlu : LiesQ w P u.kids su) (hfv : v.fine) (hlv : LiesQ w P v.kids sv) (hfx : x.fine) (hlx : LiesQ w P x.kids sx) (hri : I64 i) (hx0 : 0 ≤ x.i) (hx1 : x.i ≤ 2147483647) : Calls Try.prog 45 #[.int .i64 3, jv (⟨false, u, v, x, i⟩ : Jd) su sv sx] w (GivesEB P (entB 3 (⟨false, u, v, x, i⟩ : Jd)).1 (entB 3 (⟨false, u, v, x, i⟩ : Jd)).2 w) := by
 have hv : F2 (ArgDen w P) (aEnt u v x i) [.int .i64 3, jv (⟨false, u, v, x, i⟩ : Jd) su sv sx] := ⟨⟨_, rfl, rfl, by unfold I64; decide⟩, ⟨_, rfl, jdF_den (j := ⟨false, re u, re v, re x, i⟩) ⟨hfu, hfv, hfx, hri⟩ hlu hlv hlx⟩, trivial⟩
 have hw : W64 (x.i + 1) = x.i + 1 := IntWalk.i64_in _ (by omega)
 cases h1 : ((re x).k == 1) with
 | false =>
  rw [show entB 3 (⟨false, u, v, x, i⟩ : Jd) = (⟨u, x.i⟩, false) from by
   show ((⟨u, x.i⟩ : En), (!false && ((x.k == 1) && (i == (x.i + 1))))) = _
   rw [show (x.k == 1) = false from h1]
   rfl]
  exact entL hv (orc := [false]) (by kernel_rfl) (al h1 an)
 | true =>
  cases h2 : (i == W64 ((re x).i + 1)) with
  | false =>
   rw [show entB 3 (⟨false, u, v, x, i⟩ : Jd) = (⟨u, x.i⟩, false) from by
    show ((⟨u, x.i⟩ : En), (!false && ((x.k == 1) && (i == (x.i + 1))))) = _
    rw [← hw, show (x.k == 1) = true from h1, show (i == W64 (x.i + 1)) = false from h2]
    rfl]
   exact entL hv (orc := [true, false]) (by kernel_rfl) (al h1 (al h2 an))
  | true =>
   rw [show entB 3 (⟨false, u, v, x, i⟩ : Jd) = (⟨u, x.i⟩, true) from by
    show ((⟨u, x.i⟩ : En), (!false && ((x.k == 1) && (i == (x.i + 1))))) = _
    rw [← hw, show (x.k == 1) = true from h1, show (i == W64 (x.i + 1)) = true from h2]
    rfl]
   exact entL hv (orc := [true, true]) (by kernel_rfl) (al h1 (al h2 an))
theorem entry03_any (r i : Int) (u v x : Tm) (P : Nat → Prop) (w : World) (_ : I64 r) (su sv sx : Value) (hfu : u.fine) (hlu : LiesQ w P u.kids su) (hfv : v.fine) (hlv : LiesQ w P v.kids sv) (hfx : x.fine) (hlx : LiesQ w P x.kids sx) (hri : I64 i) (hx0 : 0 ≤ x.i) (hx1 : x.i ≤ 2147483647) (h3 : r = 3) : Calls Try.prog 45 #[.int .i64 r, jv (⟨false, u, v, x, i⟩ : Jd) su sv sx] w (GivesEB P (entB r (⟨false, u, v, x, i⟩ : Jd)).1 (entB r (⟨false, u, v, x, i⟩ : Jd)).2 w) := by
 subst h3
 exact entry3_any i u v x P w su sv sx hfu hlu hfv hlv hfx hlx hri hx0 hx1
end Go.Proofs.Ytmicgbdcbjajiaa.Se
namespace Go.Proofs.Ytmicgbdcbjajiaa
open Go.RowKit
set_option maxRecDepth 20000 in
set_option maxHeartbeats 4000000 in
theorem premise3W_any (r : Int) (kid : Int) (i : Int) (c : List En) (u : Tm) (v : Tm) (x : Tm) (P : Nat → Prop) (w : World) (sc : Value) (b0 o0 N0 cap0 : Nat) (C0 : Array Value) (T0 : TypeId) (fr0 : Nat × Nat) (su : Value) (sv : Value) (sx : Value) (hlc : LiesE w c sc) (hrr : I64 r) (hrkid : I64 kid) (hfu : u.fine) (hlu : LiesQ w P u.kids su) (hfv : v.fine) (hlv : LiesQ w P v.kids sv) (hfx : x.fine) (hlx : LiesQ w P x.kids sx) (hri : I64 i) (hb0 : w.heap[b0]? = some (.cells C0 T0 fr0)) (hs0 : (C0.toList.drop o0).take 17 = [.bool false, .int .i64 u.k, .int .i64 u.i, .int .i64 u.j, .int .i64 u.n, su, .int .i64 v.k, .int .i64 v.i, .int .i64 v.j, .int .i64 v.n, sv, .int .i64 x.k, .int .i64 x.i, .int .i64 x.j, .int .i64 x.n, sx, .int .i64 i]) (hN0 : 0 < N0) (hlen : c.length ≤ 100000) (hsz : ∀ e ∈ c, e.a.size ≤ 1000000) (rest : List Jd) (hzu : u.size ≤ 1000000) (hza : x.size ≤ 1000000) (h3 : Hid (r = 3)) : Calls Try.prog 19 #[sc, .int .i64 r, .int .i64 kid, .slice (some ⟨b0, o0, none⟩) N0 cap0] w (GivesPr (premB c r kid ((⟨false, u, v, x, i⟩ : Jd) :: rest)) w) := by
 have HEc := Lib.hid hlc
 obtain ⟨ac, cc, Sc, rfl, -⟩ := hlc.out
 clear hlc
 have Rr := Lib.hid hrr
 clear hrr
 have Rkid := Lib.hid hrkid
 clear hrkid
 have Gu := Lib.hid hfu
 clear hfu
 obtain ⟨au, cu, Su, rfl, -⟩ := hlu.out
 have Gv := Lib.hid hfv
 clear hfv
 obtain ⟨av, cv, Sv, rfl, -⟩ := hlv.out
 have Gx := Lib.hid hfx
 clear hfx
 obtain ⟨ax, cx, Sx, rfl, -⟩ := hlx.out
 have Ri := Lib.hid hri
 clear hri
 have HB0 := Lib.hid hb0
 have HS0 := Lib.hid hs0
 have en0 : ((N0 : Int) == 0) = false := by simp; omega
 have en1 : (N0 == 0) = false := by simp; omega
 have en2 : decide ((N0 : Int) < 1) = false := decide_eq_false (by omega)
 have en3 : decide (N0 < 1) = false := decide_eq_false (by omega)
 clear hb0 hs0
 have HLEN := Lib.hid hlen
 have HSZ := Lib.hid hsz
 have HRN := Lib.hid (show I64 (c.length : Int) by unfold I64; omega)
 clear hsz
 have HZU := Lib.hid hzu
 have HZA := Lib.hid hza
 clear hzu hza
 obtain ⟨de, de1, de2⟩ := under_of 47 (by kernel_rfl)
 obtain ⟨dj, dj1, dj2⟩ := under_of 29 (by kernel_rfl)
 obtain ⟨du, hu1, hu2⟩ := under_term
 go_enter Try.func19, Try.ntmps19
 go_upto_region 1 with fail
 refine at_code (fun V0 hV0 => ?_)
 have k1 : Kept w V0 := by rw [← hV0]; exact kept_refl _
 have Z0 : Hid (V0.heap.size = w.heap.size + 0) := by show _ = _; rw [← hV0]; rfl
 clear hV0
 have Kk3 := Lib.hid k1
 clear k1
 have HLu : Hid (LiesQ V0 (Par w V0.heap.size [] P) u.kids _) := (par_in _ _ hlu).later Kk3.out
 clear hlu
 have HLv : Hid (LiesQ V0 (Par w V0.heap.size [] P) v.kids _) := (par_in _ _ hlv).later Kk3.out
 clear hlv
 have HLx : Hid (LiesQ V0 (Par w V0.heap.size [] P) x.kids _) := (par_in _ _ hlx).later Kk3.out
 clear hlx
 have kvV0 : SeesN V0 V0.heap.size V0 := seesN_kept _ (kept_refl _)
 by_cases c4 : kid < 0
 ·have ec4 : decide (kid < 0) = true := decide_eq_true c4
  have Ec4 := Lib.hid ec4
  have Hc4 := Lib.hid c4
  clear c4
  go_wp2
  go_ret2
  rw [premB_kid0 Ec4.out]
  exact ⟨_, rfl, liesE_nil _, Kk3.out⟩
 ·have ec4 : decide (kid < 0) = false := decide_eq_false c4
  have Ec4 := Lib.hid ec4
  have Hc4 := Lib.hid c4
  clear c4
  go_wp2_with fail
  clear kvV0
  refine (kidsK r _).mono ?_
  rintro e w5 ⟨rfl, k6⟩
  have Kk7 := Lib.hid k6
  clear k6
  have kvV0 : SeesN V0 V0.heap.size w5 := seesN_kept _ Kk7.out
  by_cases c8 : (Dv.dkidsN r) ≤ kid
  ·have ec8 : decide ((Dv.dkidsN r) ≤ kid) = true := decide_eq_true c8
   have Ec8 := Lib.hid ec8
   have Hc8 := Lib.hid c8
   clear c8
   go_wp2
   go_ret2
   rw [premB_kid1 Ec8.out]
   exact ⟨_, rfl, liesE_nil _, (kept_trans Kk3.out Kk7.out)⟩
  ·have ec8 : decide ((Dv.dkidsN r) ≤ kid) = false := decide_eq_false c8
   have Ec8 := Lib.hid ec8
   have Hc8 := Lib.hid c8
   clear c8
   go_wp2_with fail
   clear kvV0
   refine (rulepure_any c _ _ (HEc.out.keep (kept_trans Kk3.out Kk7.out))).mono ?_
   obtain ⟨rb12, hb11⟩ : ∃ qb, (purC c) = qb := ⟨_, rfl⟩
   rw [hb11]
   have Hhb11 := Lib.hid hb11
   clear hb11
   rintro e w9 ⟨rfl, k10⟩
   have Kk13 := Lib.hid k10
   clear k10
   cases rb12 with
   | false =>
    have kvV0 : SeesN V0 V0.heap.size w9 := seesN_kept _ (kept_trans Kk7.out Kk13.out)
    go_wp2
    go_ret2
    rw [premB_pure Hhb11.out]
    exact ⟨_, rfl, liesE_nil _, (kept_trans Kk3.out (kept_trans Kk7.out Kk13.out))⟩
   | true =>
    have kvV0 : SeesN V0 V0.heap.size w9 := seesN_kept _ (kept_trans Kk7.out Kk13.out)
    go_wp2_with fail
    clear kvV0
    refine (innerK r kid _).mono ?_
    obtain ⟨rb17, hb16⟩ : ∃ qb, (Dv.innerB r kid) = qb := ⟨_, rfl⟩
    rw [hb16]
    have Hhb16 := Lib.hid hb16
    clear hb16
    rintro e w14 ⟨rfl, k15⟩
    have Kk18 := Lib.hid k15
    clear k15
    cases rb17 with
    | false =>
     have kvV0 : SeesN V0 V0.heap.size w14 := seesN_kept _ (kept_trans Kk7.out (kept_trans Kk13.out Kk18.out))
     go_wp2_with fail
     clear kvV0
     refine ((entries_any c _ _ (HEc.out.keep (kept_trans Kk3.out (kept_trans Kk7.out (kept_trans Kk13.out Kk18.out)))) HLEN.out HSZ.out).mono (fun _ _ h => givesE_row h)).mono ?_
     rintro e w19 ⟨s21, rfl, hl22, k20⟩
     obtain ⟨a23, c24, S25, rfl, -⟩ := hl22.out
     have Hhl22 := Lib.hid hl22
     clear hl22
     have Kk26 := Lib.hid k20
     clear k20
     have kvV0 : SeesN V0 V0.heap.size w19 := seesN_kept _ (kept_trans Kk7.out (kept_trans Kk13.out (kept_trans Kk18.out Kk26.out)))
     go_wp2
     go_ret2
     rw [premB_outer (premB_in Ec4.out Ec8.out Hhb11.out) Hhb16.out]
     exact ⟨_, rfl, (Hhl22.out.keep (kept_refl _)), (kept_trans Kk3.out (kept_trans Kk7.out (kept_trans Kk13.out (kept_trans Kk18.out Kk26.out))))⟩
    | true =>
     have kvV0 : SeesN V0 V0.heap.size w14 := seesN_kept _ (kept_trans Kk7.out (kept_trans Kk13.out Kk18.out))
     go_wp2_with (refine stop_load 29 (.tmp 36) rfl ?_)
     intro _
     refine wpList_load_part (b0) (o0) 29 (.tmp 36) #[.bool false, .int .i64 u.k, .int .i64 u.i, .int .i64 u.j, .int .i64 u.n, (.slice au u.kids.length cu), .int .i64 v.k, .int .i64 v.i, .int .i64 v.j, .int .i64 v.n, (.slice av v.kids.length cv), .int .i64 x.k, .int .i64 x.i, .int .i64 x.j, .int .i64 x.n, (.slice ax x.kids.length cx), .int .i64 i] dj (blk_at HB0.out (kept_trans Kk3.out (kept_trans Kk7.out (kept_trans Kk13.out Kk18.out)))) (by rfl) rfl (by rfl) (row_subW HS0.out 0 17 (by decide)) dj1 (by cases dj <;> first | rfl | exact dj2) (by kernel_rfl) ?_
     go_wp2_with fail
     clear kvV0
     refine (rright0_any (c.length : Int) i u v x (Par w V0.heap.size [] P) w14 ((.slice au u.kids.length cu)) ((.slice av v.kids.length cv)) ((.slice ax x.kids.length cx)) Gu.out (HLu.out.later (kept_trans Kk7.out (kept_trans Kk13.out Kk18.out))) Gv.out (HLv.out.later (kept_trans Kk7.out (kept_trans Kk13.out Kk18.out))) Gx.out (HLx.out.later (kept_trans Kk7.out (kept_trans Kk13.out Kk18.out))) Ri.out HRN.out).mono ?_
     obtain ⟨rb30, hb29⟩ : ∃ qb, (rightJ (⟨false, u, v, x, i⟩ : Jd) (c.length : Int)) = qb := ⟨_, rfl⟩
     rw [hb29]
     have Hhb29 := Lib.hid hb29
     clear hb29
     rintro e w27 ⟨rfl, k28⟩
     have Kk31 := Lib.hid k28
     clear k28
     cases rb30 with
     | false =>
      have kvV0 : SeesN V0 V0.heap.size w27 := seesN_kept _ (kept_trans Kk7.out (kept_trans Kk13.out (kept_trans Kk18.out Kk31.out)))
      go_wp2
      go_ret2
      rw [premB_right Hhb16.out Hhb29.out]
      exact ⟨_, rfl, liesE_nil _, (kept_trans Kk3.out (kept_trans Kk7.out (kept_trans Kk13.out (kept_trans Kk18.out Kk31.out))))⟩
     | true =>
      have HX0 := Lib.hid (pure_range (rightJ_pure Hhb29.out)).1
      have HX1 := Lib.hid (pure_range (rightJ_pure Hhb29.out)).2
      have kvV0 : SeesN V0 V0.heap.size w27 := seesN_kept _ (kept_trans Kk7.out (kept_trans Kk13.out (kept_trans Kk18.out Kk31.out)))
      go_wp2_with (refine stop_load 29 (.tmp 46) rfl ?_)
      intro _
      refine wpList_load_part (b0) (o0) 29 (.tmp 46) #[.bool false, .int .i64 u.k, .int .i64 u.i, .int .i64 u.j, .int .i64 u.n, (.slice au u.kids.length cu), .int .i64 v.k, .int .i64 v.i, .int .i64 v.j, .int .i64 v.n, (.slice av v.kids.length cv), .int .i64 x.k, .int .i64 x.i, .int .i64 x.j, .int .i64 x.n, (.slice ax x.kids.length cx), .int .i64 i] dj (blk_at HB0.out (kept_trans Kk3.out (kept_trans Kk7.out (kept_trans Kk13.out (kept_trans Kk18.out Kk31.out))))) (by rfl) rfl (by rfl) (row_subW HS0.out 0 17 (by decide)) dj1 (by cases dj <;> first | rfl | exact dj2) (by kernel_rfl) ?_
      go_wp2_with fail
      clear kvV0
      refine (Se.entry03_any r i u v x (Par w V0.heap.size [] P) w27 Rr.out ((.slice au u.kids.length cu)) ((.slice av v.kids.length cv)) ((.slice ax x.kids.length cx)) Gu.out (HLu.out.later (kept_trans Kk7.out (kept_trans Kk13.out (kept_trans Kk18.out Kk31.out)))) Gv.out (HLv.out.later (kept_trans Kk7.out (kept_trans Kk13.out (kept_trans Kk18.out Kk31.out)))) Gx.out (HLx.out.later (kept_trans Kk7.out (kept_trans Kk13.out (kept_trans Kk18.out Kk31.out)))) Ri.out HX0.out HX1.out h3.out).mono ?_
      obtain ⟨rb35, hb34⟩ : ∃ qb, ((entB r (⟨false, u, v, x, i⟩ : Jd)).2) = qb := ⟨_, rfl⟩
      rw [hb34]
      have Hhb34 := Lib.hid hb34
      clear hb34
      obtain ⟨U41, hU41⟩ : ∃ qu, (entB r (⟨false, u, v, x, i⟩ : Jd)).1 = qu := ⟨_, rfl⟩
      rw [hU41]
      have HU41 := Lib.hid hU41
      clear hU41
      rintro e w32 ⟨s36, rfl, hl37, k33⟩
      obtain ⟨a38, c39, S40, rfl, -⟩ := hl37.out
      have Kk42 := Lib.hid k33
      clear k33
      have Hhl37 : Hid (LiesQ w32 (Par w V0.heap.size [] P) U41.a.kids _) := par_give hl37 (Below.size (kept_trans Kk7.out (kept_trans Kk13.out (kept_trans Kk18.out Kk31.out)))) (xlt_nil _)
      clear hl37
      cases rb35 with
      | false =>
       have kvV0 : SeesN V0 V0.heap.size w32 := seesN_kept _ (kept_trans Kk7.out (kept_trans Kk13.out (kept_trans Kk18.out (kept_trans Kk31.out Kk42.out))))
       go_wp2_with (refine stop_store 47 (.tmp 10) (.tmp 49) rfl ?_)
       intro _
       refine wpList_store_part_n (by rfl) 47 (.tmp 10) (.tmp 49) rfl (w32.heap.size) 0 #[.int .i64 U41.a.k, .int .i64 U41.a.i, .int .i64 U41.a.j, .int .i64 U41.a.n, (.slice a38 U41.a.kids.length c39), .int .i64 U41.i] (by rfl) (by rfl) 47 (by kernel_rfl) (row_ok rfl) ?_
       intro W43 hW43
       clear kvV0
       obtain ⟨k46, x45, z47⟩ := alloc1 hW43
       have Kk48 := Lib.hid k46
       clear k46
       have Hx45 := Lib.hid x45
       have Hz47 := Lib.hid z47
       clear x45 z47 hW43
       have HG49 : Hid (V0.heap.size ≤ w32.heap.size) := (Below.size (kept_trans Kk7.out (kept_trans Kk13.out (kept_trans Kk18.out (kept_trans Kk31.out Kk42.out)))))
       have XL50 : Hid (XLt (w32.heap.size :: []) W43) := (xlt_more (xlt_nil _) Kk48.out (by have := Hz47.out; omega))
       refine ⟨_, #[.int .i64 U41.a.k, .int .i64 U41.a.i, .int .i64 U41.a.j, .int .i64 U41.a.n, (.slice a38 U41.a.kids.length c39), .int .i64 U41.i], Hx45.out, rfl, Nat.le_of_ble_eq_true rfl, ?_⟩
       intro W44 hW44
       have KB51 := Lib.hid (kept_set (kept_trans Kk3.out (kept_trans Kk7.out (kept_trans Kk13.out (kept_trans Kk18.out (kept_trans Kk31.out (kept_trans Kk42.out Kk48.out)))))) hW44 (by have := HG49.out; have := Z0.out; omega))
       have KB52 := Lib.hid (kept_set (kept_trans Kk7.out (kept_trans Kk13.out (kept_trans Kk18.out (kept_trans Kk31.out (kept_trans Kk42.out Kk48.out))))) hW44 HG49.out)
       have HL53 : Hid (LiesQ W44 (Par w V0.heap.size (w32.heap.size :: []) P) u.kids _) := par_set (par_grow HLu.out (kept_trans Kk7.out (kept_trans Kk13.out (kept_trans Kk18.out (kept_trans Kk31.out (kept_trans Kk42.out Kk48.out))))) (List.forall_mem_cons.2 ⟨(Or.inr (Nat.le_trans (Below.size (kept_trans Kk7.out (kept_trans Kk13.out (kept_trans Kk18.out (kept_trans Kk31.out Kk42.out))))) (Nat.le_refl w32.heap.size))), (fun _ h => nomatch h)⟩)) hW44 (List.mem_cons_self ..) (by have := HG49.out; have := Z0.out; omega)
       have HL54 : Hid (LiesQ W44 (Par w V0.heap.size (w32.heap.size :: []) P) v.kids _) := par_set (par_grow HLv.out (kept_trans Kk7.out (kept_trans Kk13.out (kept_trans Kk18.out (kept_trans Kk31.out (kept_trans Kk42.out Kk48.out))))) (List.forall_mem_cons.2 ⟨(Or.inr (Nat.le_trans (Below.size (kept_trans Kk7.out (kept_trans Kk13.out (kept_trans Kk18.out (kept_trans Kk31.out Kk42.out))))) (Nat.le_refl w32.heap.size))), (fun _ h => nomatch h)⟩)) hW44 (List.mem_cons_self ..) (by have := HG49.out; have := Z0.out; omega)
       have HL55 : Hid (LiesQ W44 (Par w V0.heap.size (w32.heap.size :: []) P) x.kids _) := par_set (par_grow HLx.out (kept_trans Kk7.out (kept_trans Kk13.out (kept_trans Kk18.out (kept_trans Kk31.out (kept_trans Kk42.out Kk48.out))))) (List.forall_mem_cons.2 ⟨(Or.inr (Nat.le_trans (Below.size (kept_trans Kk7.out (kept_trans Kk13.out (kept_trans Kk18.out (kept_trans Kk31.out Kk42.out))))) (Nat.le_refl w32.heap.size))), (fun _ h => nomatch h)⟩)) hW44 (List.mem_cons_self ..) (by have := HG49.out; have := Z0.out; omega)
       have HL56 : Hid (LiesQ W44 (Par w V0.heap.size (w32.heap.size :: []) P) U41.a.kids _) := par_set (par_grow Hhl37.out Kk48.out (List.forall_mem_cons.2 ⟨(Or.inr (Nat.le_refl w32.heap.size)), (fun _ h => nomatch h)⟩)) hW44 (List.mem_cons_self ..) (by have := HG49.out; have := Z0.out; omega)
       have XL57 := Lib.hid (xlt_set XL50.out hW44)
       have HX58 := Lib.hid (blk_same Hx45.out hW44)
       clear hW44
       have ld59 := partN_cell (r := V0.heap.size) HX58.out trivial 5 (.int .i64 U41.i) rfl
       have kvV0 : SeesN V0 V0.heap.size W44 := seesN_kept _ KB52.out
       have kvW44 : SeesN W44 V0.heap.size W44 := seesN_kept _ (kept_refl _)
       go_wp2
       go_ret2
       rw [premB_ent Hhb16.out Hhb34.out]
       exact ⟨_, rfl, liesE_nil _, KB51.out⟩
      | true =>
       have kvV0 : SeesN V0 V0.heap.size w32 := seesN_kept _ (kept_trans Kk7.out (kept_trans Kk13.out (kept_trans Kk18.out (kept_trans Kk31.out Kk42.out))))
       go_wp2_with (refine stop_store 47 (.tmp 10) (.tmp 49) rfl ?_)
       intro _
       refine wpList_store_part_n (by rfl) 47 (.tmp 10) (.tmp 49) rfl (w32.heap.size) 0 #[.int .i64 U41.a.k, .int .i64 U41.a.i, .int .i64 U41.a.j, .int .i64 U41.a.n, (.slice a38 U41.a.kids.length c39), .int .i64 U41.i] (by rfl) (by rfl) 47 (by kernel_rfl) (row_ok rfl) ?_
       intro W60 hW60
       clear kvV0
       obtain ⟨k63, x62, z64⟩ := alloc1 hW60
       have Kk65 := Lib.hid k63
       clear k63
       have Hx62 := Lib.hid x62
       have Hz64 := Lib.hid z64
       clear x62 z64 hW60
       have HG66 : Hid (V0.heap.size ≤ w32.heap.size) := (Below.size (kept_trans Kk7.out (kept_trans Kk13.out (kept_trans Kk18.out (kept_trans Kk31.out Kk42.out)))))
       have XL67 : Hid (XLt (w32.heap.size :: []) W60) := (xlt_more (xlt_nil _) Kk65.out (by have := Hz64.out; omega))
       refine ⟨_, #[.int .i64 U41.a.k, .int .i64 U41.a.i, .int .i64 U41.a.j, .int .i64 U41.a.n, (.slice a38 U41.a.kids.length c39), .int .i64 U41.i], Hx62.out, rfl, Nat.le_of_ble_eq_true rfl, ?_⟩
       intro W61 hW61
       have KB68 := Lib.hid (kept_set (kept_trans Kk3.out (kept_trans Kk7.out (kept_trans Kk13.out (kept_trans Kk18.out (kept_trans Kk31.out (kept_trans Kk42.out Kk65.out)))))) hW61 (by have := HG66.out; have := Z0.out; omega))
       have KB69 := Lib.hid (kept_set (kept_trans Kk7.out (kept_trans Kk13.out (kept_trans Kk18.out (kept_trans Kk31.out (kept_trans Kk42.out Kk65.out))))) hW61 HG66.out)
       have HL70 : Hid (LiesQ W61 (Par w V0.heap.size (w32.heap.size :: []) P) u.kids _) := par_set (par_grow HLu.out (kept_trans Kk7.out (kept_trans Kk13.out (kept_trans Kk18.out (kept_trans Kk31.out (kept_trans Kk42.out Kk65.out))))) (List.forall_mem_cons.2 ⟨(Or.inr (Nat.le_trans (Below.size (kept_trans Kk7.out (kept_trans Kk13.out (kept_trans Kk18.out (kept_trans Kk31.out Kk42.out))))) (Nat.le_refl w32.heap.size))), (fun _ h => nomatch h)⟩)) hW61 (List.mem_cons_self ..) (by have := HG66.out; have := Z0.out; omega)
       have HL71 : Hid (LiesQ W61 (Par w V0.heap.size (w32.heap.size :: []) P) v.kids _) := par_set (par_grow HLv.out (kept_trans Kk7.out (kept_trans Kk13.out (kept_trans Kk18.out (kept_trans Kk31.out (kept_trans Kk42.out Kk65.out))))) (List.forall_mem_cons.2 ⟨(Or.inr (Nat.le_trans (Below.size (kept_trans Kk7.out (kept_trans Kk13.out (kept_trans Kk18.out (kept_trans Kk31.out Kk42.out))))) (Nat.le_refl w32.heap.size))), (fun _ h => nomatch h)⟩)) hW61 (List.mem_cons_self ..) (by have := HG66.out; have := Z0.out; omega)
       have HL72 : Hid (LiesQ W61 (Par w V0.heap.size (w32.heap.size :: []) P) x.kids _) := par_set (par_grow HLx.out (kept_trans Kk7.out (kept_trans Kk13.out (kept_trans Kk18.out (kept_trans Kk31.out (kept_trans Kk42.out Kk65.out))))) (List.forall_mem_cons.2 ⟨(Or.inr (Nat.le_trans (Below.size (kept_trans Kk7.out (kept_trans Kk13.out (kept_trans Kk18.out (kept_trans Kk31.out Kk42.out))))) (Nat.le_refl w32.heap.size))), (fun _ h => nomatch h)⟩)) hW61 (List.mem_cons_self ..) (by have := HG66.out; have := Z0.out; omega)
       have HL73 : Hid (LiesQ W61 (Par w V0.heap.size (w32.heap.size :: []) P) U41.a.kids _) := par_set (par_grow Hhl37.out Kk65.out (List.forall_mem_cons.2 ⟨(Or.inr (Nat.le_refl w32.heap.size)), (fun _ h => nomatch h)⟩)) hW61 (List.mem_cons_self ..) (by have := HG66.out; have := Z0.out; omega)
       have XL74 := Lib.hid (xlt_set XL67.out hW61)
       have HX75 := Lib.hid (blk_same Hx62.out hW61)
       clear hW61
       have ld76 := partN_cell (r := V0.heap.size) HX75.out trivial 5 (.int .i64 U41.i) rfl
       have kvV0 : SeesN V0 V0.heap.size W61 := seesN_kept _ KB69.out
       have kvW61 : SeesN W61 V0.heap.size W61 := seesN_kept _ (kept_refl _)
       go_wp2_with (refine stop_load 27 (.tmp 54) rfl ?_)
       intro _
       refine wpList_load_part (w32.heap.size) (0) 27 (.tmp 54) #[.int .i64 U41.a.k, .int .i64 U41.a.i, .int .i64 U41.a.j, .int .i64 U41.a.n, (.slice a38 U41.a.kids.length c39)] du HX75.out (by rfl) rfl (by rfl) (by rfl) hu1 (by cases du <;> first | rfl | exact hu2) size_term ?_
       go_wp2_with fail
       clear kvV0
       clear kvW61
       refine ((ctxadd_any c U41.a U41.i _ _ ((.slice a38 U41.a.kids.length c39)) (HEc.out.keep KB68.out) HL73.out.lies ⟨(show En.fine U41 from by rw [← HU41.out]; exact (entB_fine (r := r) (j := (⟨false, u, v, x, i⟩ : Jd)) ⟨Gu.out, Gv.out, Gx.out, Ri.out⟩)).1, (show En.fine U41 from by rw [← HU41.out]; exact (entB_fine (r := r) (j := (⟨false, u, v, x, i⟩ : Jd)) ⟨Gu.out, Gv.out, Gx.out, Ri.out⟩)).2⟩ HLEN.out HSZ.out (by rw [← HU41.out]; exact entB_size HZU.out HZA.out)).mono (fun _ _ h => givesE_made h)).mono ?_
       rintro e w77 ⟨s79, rfl, hl80, k78⟩
       obtain ⟨a81, c82, S83, rfl, -⟩ := hl80.out
       have Hhl80 := Lib.hid hl80
       clear hl80
       have Kk84 := Lib.hid k78
       clear k78
       have kvV0 : SeesN V0 V0.heap.size w77 := seesN_kept _ (kept_trans KB69.out Kk84.out)
       have kvW61 : SeesN W61 V0.heap.size w77 := seesN_kept _ Kk84.out
       go_wp2
       go_ret2
       rw [premB_all (premB_in Ec4.out Ec8.out Hhb11.out) Hhb16.out Hhb29.out Hhb34.out]
       exact ⟨_, rfl, (by rw [HU41.out]; have h := (Hhl80.out.keep (kept_refl _)); rw [List.length_append] at h; exact h), (kept_trans KB68.out Kk84.out)⟩
set_option maxRecDepth 20000 in
set_option maxHeartbeats 4000000 in
theorem wakes15W_any (w : World) : Calls Try.prog 7 #[] w fun e w' => e = .returned (.bool true) ∧ Kept w w' := by
 obtain ⟨U3, hU3⟩ : ∃ U3, U3 = Tm.mk 1 3 0 0 [] := ⟨_, rfl⟩
 obtain ⟨A4, hA4⟩ : ∃ A4, A4 = Tm.mk 1 4 0 0 [] := ⟨_, rfl⟩
 obtain ⟨U9, hU9⟩ : ∃ U9, U9 = Tm.mk 1 901 0 0 [] := ⟨_, rfl⟩
 obtain ⟨A9, hA9⟩ : ∃ A9, A9 = Tm.mk 1 902 0 0 [] := ⟨_, rfl⟩
 have HU3 := Lib.hid hU3
 have HA4 := Lib.hid hA4
 have HU9 := Lib.hid hU9
 have HA9 := Lib.hid hA9
 clear hU3 hA4 hU9 hA9
 obtain ⟨dj, dj1, dj2⟩ := under_of 29 (by kernel_rfl)
 go_enter Try.func7, Try.ntmps7
 go_upto_region 1 with fail
 refine at_code (fun V0 hV0 => ?_)
 have k1 : Kept w V0 := by rw [← hV0]; exact kept_refl _
 have Z0 : Hid (V0.heap.size = w.heap.size + 0) := by show _ = _; rw [← hV0]; rfl
 clear hV0
 have Kk3 := Lib.hid k1
 clear k1
 have kvV0 : SeesN V0 V0.heap.size V0 := seesN_kept _ (kept_refl _)
 go_wp2_with fail
 clear kvV0
 refine (Se.of3W_any (Par w V0.heap.size [] (fun _ => False)) V0 U3 A4 HU3.out HA4.out).mono ?_
 rintro e w4 ⟨s6, s7, s8, rfl, ⟨hl9, hl10, hl11⟩, k5⟩
 obtain ⟨a12, c13, S14, rfl, -⟩ := hl9.out
 obtain ⟨a15, c16, S17, rfl, -⟩ := hl10.out
 obtain ⟨a18, c19, S20, rfl, -⟩ := hl11.out
 have Kk21 := Lib.hid k5
 clear k5
 have Hhl9 : Hid (LiesQ w4 (Par w V0.heap.size [] (fun _ => False)) U3.kids _) := par_give hl9 (Nat.le_refl _) (xlt_nil _)
 have Hhl10 : Hid (LiesQ w4 (Par w V0.heap.size [] (fun _ => False)) Tm.zero.kids _) := par_give hl10 (Nat.le_refl _) (xlt_nil _)
 have Hhl11 : Hid (LiesQ w4 (Par w V0.heap.size [] (fun _ => False)) A4.kids _) := par_give hl11 (Nat.le_refl _) (xlt_nil _)
 clear hl9 hl10 hl11
 have kf22 : (U3.k == 1) = true := by rw [HU3.out]; rfl
 have kf23 : (U3.i == 3) = true := by rw [HU3.out]; rfl
 have kf24 : (A4.i == 4) = true := by rw [HA4.out]; rfl
 have kvV0 : SeesN V0 V0.heap.size w4 := seesN_kept _ Kk21.out
 go_wp2_with (refine stop_store 29 (.tmp 1) (.tmp 9) rfl ?_)
 intro _
 refine wpList_store_part_n (by rfl) 29 (.tmp 1) (.tmp 9) rfl (w4.heap.size) 0 #[.bool false, .int .i64 U3.k, .int .i64 U3.i, .int .i64 U3.j, .int .i64 U3.n, (.slice a12 U3.kids.length c13), .int .i64 Tm.zero.k, .int .i64 Tm.zero.i, .int .i64 Tm.zero.j, .int .i64 Tm.zero.n, (.slice a15 Tm.zero.kids.length c16), .int .i64 A4.k, .int .i64 A4.i, .int .i64 A4.j, .int .i64 A4.n, (.slice a18 A4.kids.length c19), .int .i64 5] (by rfl) (by rfl) 29 (by kernel_rfl) (row_ok rfl) ?_
 intro W25 hW25
 clear kvV0
 obtain ⟨k28, x27, z29⟩ := alloc1 hW25
 have Kk30 := Lib.hid k28
 clear k28
 have Hx27 := Lib.hid x27
 have Hz29 := Lib.hid z29
 clear x27 z29 hW25
 have HG31 : Hid (V0.heap.size ≤ w4.heap.size) := (Below.size Kk21.out)
 have XL32 : Hid (XLt (w4.heap.size :: []) W25) := (xlt_more (xlt_nil _) Kk30.out (by have := Hz29.out; omega))
 refine ⟨_, #[.bool false, .int .i64 U3.k, .int .i64 U3.i, .int .i64 U3.j, .int .i64 U3.n, (.slice a12 U3.kids.length c13), .int .i64 Tm.zero.k, .int .i64 Tm.zero.i, .int .i64 Tm.zero.j, .int .i64 Tm.zero.n, (.slice a15 Tm.zero.kids.length c16), .int .i64 A4.k, .int .i64 A4.i, .int .i64 A4.j, .int .i64 A4.n, (.slice a18 A4.kids.length c19), .int .i64 5], Hx27.out, rfl, Nat.le_of_ble_eq_true rfl, ?_⟩
 intro W26 hW26
 have KB33 := Lib.hid (kept_set (kept_trans Kk3.out (kept_trans Kk21.out Kk30.out)) hW26 (by have := HG31.out; have := Z0.out; omega))
 have KB34 := Lib.hid (kept_set (kept_trans Kk21.out Kk30.out) hW26 HG31.out)
 have HL35 : Hid (LiesQ W26 (Par w V0.heap.size (w4.heap.size :: []) (fun _ => False)) U3.kids _) := par_set (par_grow Hhl9.out Kk30.out (List.forall_mem_cons.2 ⟨(Or.inr (Nat.le_refl w4.heap.size)), (fun _ h => nomatch h)⟩)) hW26 (List.mem_cons_self ..) (by have := HG31.out; have := Z0.out; omega)
 have HL36 : Hid (LiesQ W26 (Par w V0.heap.size (w4.heap.size :: []) (fun _ => False)) Tm.zero.kids _) := par_set (par_grow Hhl10.out Kk30.out (List.forall_mem_cons.2 ⟨(Or.inr (Nat.le_refl w4.heap.size)), (fun _ h => nomatch h)⟩)) hW26 (List.mem_cons_self ..) (by have := HG31.out; have := Z0.out; omega)
 have HL37 : Hid (LiesQ W26 (Par w V0.heap.size (w4.heap.size :: []) (fun _ => False)) A4.kids _) := par_set (par_grow Hhl11.out Kk30.out (List.forall_mem_cons.2 ⟨(Or.inr (Nat.le_refl w4.heap.size)), (fun _ h => nomatch h)⟩)) hW26 (List.mem_cons_self ..) (by have := HG31.out; have := Z0.out; omega)
 have XL38 := Lib.hid (xlt_set XL32.out hW26)
 have HX39 := Lib.hid (blk_same Hx27.out hW26)
 clear hW26
 have ld40 := partN_cell (r := V0.heap.size) HX39.out trivial 1 (.int .i64 U3.k) rfl
 have ld41 := partN_cell (r := V0.heap.size) HX39.out trivial 2 (.int .i64 U3.i) rfl
 have ld42 := partN_cell (r := V0.heap.size) HX39.out trivial 12 (.int .i64 A4.i) rfl
 have ld43 := partN_cell (r := V0.heap.size) HX39.out trivial 16 (.int .i64 5) rfl
 have kvV0 : SeesN V0 V0.heap.size W26 := seesN_kept _ KB34.out
 have kvW26 : SeesN W26 V0.heap.size W26 := seesN_kept _ (kept_refl _)
 go_wp2_with (refine stop_load 29 (.tmp 1) rfl ?_)
 intro _
 refine wpList_load_part (w4.heap.size) (0) 29 (.tmp 1) #[.bool false, .int .i64 U3.k, .int .i64 U3.i, .int .i64 U3.j, .int .i64 U3.n, (.slice a12 U3.kids.length c13), .int .i64 Tm.zero.k, .int .i64 Tm.zero.i, .int .i64 Tm.zero.j, .int .i64 Tm.zero.n, (.slice a15 Tm.zero.kids.length c16), .int .i64 A4.k, .int .i64 A4.i, .int .i64 A4.j, .int .i64 A4.n, (.slice a18 A4.kids.length c19), .int .i64 5] dj HX39.out (by rfl) rfl (by rfl) (by rfl) dj1 (by cases dj <;> first | rfl | exact dj2) (by kernel_rfl) ?_
 go_wp2_with fail
 refine at_world (fun W45 hW45 => ?_)
 clear kvV0
 clear kvW26
 obtain ⟨k47, x46, z48⟩ := alloc1 hW45
 have Kk49 := Lib.hid k47
 clear k47
 have Hx46 := Lib.hid x46
 have Hz48 := Lib.hid z48
 clear x46 z48 hW45
 have hq52 := premise3W_any 3 1 5 [] U3 Tm.zero A4 (Par w V0.heap.size (w4.heap.size :: []) (fun _ => False)) W45 (.slice none 0 0) W26.heap.size 0 1 1 _ _ _ ((.slice a12 U3.kids.length c13)) ((.slice a15 Tm.zero.kids.length c16)) ((.slice a18 A4.kids.length c19)) (liesE_nil _) (by unfold I64; decide) (by unfold I64; decide) (sort_fineW HU3.out (by unfold I64; decide)) (HL35.out.later Kk49.out) zero_fine (HL36.out.later Kk49.out) (sort_fineW HA4.out (by unfold I64; decide)) (HL37.out.later Kk49.out) (show I64 5 from by unfold I64; decide) Hx46.out rfl (by decide) (by decide) (fun _ h => nomatch h) [] (by rw [HU3.out]; decide) (by rw [HA4.out]; decide) (Lib.hid rfl)
 rw [show premB [] 3 1 ((⟨false, U3, Tm.zero, A4, 5⟩ : Jd) :: []) = ([(⟨U3, 4⟩ : En)], true) from by rw [HU3.out, HA4.out]; exact prem_wk] at hq52
 refine hq52.mono ?_
 clear hq52
 rintro e w50 ⟨s53, rfl, hl54, k51⟩
 obtain ⟨b55, o56, c57, C58, T59, fr60, sx61, rfl, hb62, hs63⟩ := liesE_one hl54
 have Hhb62 := Lib.hid hb62
 have Hhs63 := Lib.hid hs63
 clear hb62 hs63 hl54
 have Kk64 := Lib.hid k51
 clear k51
 have ld65 := partN_cell (r := V0.heap.size) Hhb62.out trivial (o56 + 5) (.int .i64 4) (row_cellW Hhs63.out 5 (by decide))
 have kvV0 : SeesN V0 V0.heap.size w50 := seesN_kept _ (kept_trans KB34.out (kept_trans Kk49.out Kk64.out))
 have kvW26 : SeesN W26 V0.heap.size w50 := seesN_kept _ (kept_trans Kk49.out Kk64.out)
 have kvw50 : SeesN w50 V0.heap.size w50 := seesN_kept _ (kept_refl _)
 go_wp2_with fail
 clear kvV0
 clear kvW26
 clear kvw50
 refine (Se.of901W_any (Par w V0.heap.size (w4.heap.size :: []) (fun _ => False)) w50 U9 A9 HU9.out HA9.out).mono ?_
 rintro e w66 ⟨s68, s69, s70, rfl, ⟨hl71, hl72, hl73⟩, k67⟩
 obtain ⟨a74, c75, S76, rfl, -⟩ := hl71.out
 obtain ⟨a77, c78, S79, rfl, -⟩ := hl72.out
 obtain ⟨a80, c81, S82, rfl, -⟩ := hl73.out
 have Kk83 := Lib.hid k67
 clear k67
 have Hhl71 : Hid (LiesQ w66 (Par w V0.heap.size (w4.heap.size :: []) (fun _ => False)) Tm.zero.kids _) := par_give hl71 (Below.size (kept_trans KB34.out (kept_trans Kk49.out Kk64.out))) (xlt_later XL38.out (kept_trans Kk49.out Kk64.out))
 have Hhl72 : Hid (LiesQ w66 (Par w V0.heap.size (w4.heap.size :: []) (fun _ => False)) Tm.zero.kids _) := par_give hl72 (Below.size (kept_trans KB34.out (kept_trans Kk49.out Kk64.out))) (xlt_later XL38.out (kept_trans Kk49.out Kk64.out))
 have Hhl73 : Hid (LiesQ w66 (Par w V0.heap.size (w4.heap.size :: []) (fun _ => False)) Tm.zero.kids _) := par_give hl73 (Below.size (kept_trans KB34.out (kept_trans Kk49.out Kk64.out))) (xlt_later XL38.out (kept_trans Kk49.out Kk64.out))
 clear hl71 hl72 hl73
 have kvV0 : SeesN V0 V0.heap.size w66 := seesN_kept _ (kept_trans KB34.out (kept_trans Kk49.out (kept_trans Kk64.out Kk83.out)))
 have kvW26 : SeesN W26 V0.heap.size w66 := seesN_kept _ (kept_trans Kk49.out (kept_trans Kk64.out Kk83.out))
 have kvw50 : SeesN w50 V0.heap.size w66 := seesN_kept _ Kk83.out
 go_wp2_with (refine stop_store 29 (.tmp 5) (.tmp 19) rfl ?_)
 intro _
 refine wpList_store_part_n (by rfl) 29 (.tmp 5) (.tmp 19) rfl (w66.heap.size) 0 #[.bool false, .int .i64 Tm.zero.k, .int .i64 Tm.zero.i, .int .i64 Tm.zero.j, .int .i64 Tm.zero.n, (.slice a74 Tm.zero.kids.length c75), .int .i64 Tm.zero.k, .int .i64 Tm.zero.i, .int .i64 Tm.zero.j, .int .i64 Tm.zero.n, (.slice a77 Tm.zero.kids.length c78), .int .i64 Tm.zero.k, .int .i64 Tm.zero.i, .int .i64 Tm.zero.j, .int .i64 Tm.zero.n, (.slice a80 Tm.zero.kids.length c81), .int .i64 0] (by rfl) (by rfl) 29 (by kernel_rfl) (row_ok rfl) ?_
 intro W84 hW84
 clear kvV0
 clear kvW26
 clear kvw50
 obtain ⟨k87, x86, z88⟩ := alloc1 hW84
 have Kk89 := Lib.hid k87
 clear k87
 have Hx86 := Lib.hid x86
 have Hz88 := Lib.hid z88
 clear x86 z88 hW84
 have HG90 : Hid (V0.heap.size ≤ w66.heap.size) := (Below.size (kept_trans KB34.out (kept_trans Kk49.out (kept_trans Kk64.out Kk83.out))))
 have AP91 : Hid (w4.heap.size < w66.heap.size) := block_lt (blk_at HX39.out (kept_trans Kk49.out (kept_trans Kk64.out Kk83.out)))
 have AP92 : Hid (b55 < w66.heap.size) := block_lt (blk_at Hhb62.out Kk83.out)
 have XL93 : Hid (XLt (w66.heap.size :: (w4.heap.size :: [])) W84) := (xlt_more (xlt_later XL38.out (kept_trans Kk49.out (kept_trans Kk64.out Kk83.out))) Kk89.out (by have := Hz88.out; omega))
 refine ⟨_, #[.bool false, .int .i64 Tm.zero.k, .int .i64 Tm.zero.i, .int .i64 Tm.zero.j, .int .i64 Tm.zero.n, (.slice a74 Tm.zero.kids.length c75), .int .i64 Tm.zero.k, .int .i64 Tm.zero.i, .int .i64 Tm.zero.j, .int .i64 Tm.zero.n, (.slice a77 Tm.zero.kids.length c78), .int .i64 Tm.zero.k, .int .i64 Tm.zero.i, .int .i64 Tm.zero.j, .int .i64 Tm.zero.n, (.slice a80 Tm.zero.kids.length c81), .int .i64 0], Hx86.out, rfl, Nat.le_of_ble_eq_true rfl, ?_⟩
 intro W85 hW85
 have KB94 := Lib.hid (kept_set (kept_trans KB33.out (kept_trans Kk49.out (kept_trans Kk64.out (kept_trans Kk83.out Kk89.out)))) hW85 (by have := HG90.out; have := Z0.out; omega))
 have KB95 := Lib.hid (kept_set (kept_trans KB34.out (kept_trans Kk49.out (kept_trans Kk64.out (kept_trans Kk83.out Kk89.out)))) hW85 HG90.out)
 have HL96 : Hid (LiesQ W85 (Par w V0.heap.size (w66.heap.size :: (w4.heap.size :: [])) (fun _ => False)) U3.kids _) := par_set (par_grow HL35.out (kept_trans Kk49.out (kept_trans Kk64.out (kept_trans Kk83.out Kk89.out))) (List.forall_mem_cons.2 ⟨(Or.inr (Nat.le_trans (Below.size (kept_trans Kk49.out (kept_trans Kk64.out Kk83.out))) (Nat.le_refl w66.heap.size))), (List.forall_mem_cons.2 ⟨(Or.inl (List.mem_cons_self ..)), (fun _ h => nomatch h)⟩)⟩)) hW85 (List.mem_cons_self ..) (by have := HG90.out; have := Z0.out; omega)
 have HL97 : Hid (LiesQ W85 (Par w V0.heap.size (w66.heap.size :: (w4.heap.size :: [])) (fun _ => False)) Tm.zero.kids _) := par_set (par_grow HL36.out (kept_trans Kk49.out (kept_trans Kk64.out (kept_trans Kk83.out Kk89.out))) (List.forall_mem_cons.2 ⟨(Or.inr (Nat.le_trans (Below.size (kept_trans Kk49.out (kept_trans Kk64.out Kk83.out))) (Nat.le_refl w66.heap.size))), (List.forall_mem_cons.2 ⟨(Or.inl (List.mem_cons_self ..)), (fun _ h => nomatch h)⟩)⟩)) hW85 (List.mem_cons_self ..) (by have := HG90.out; have := Z0.out; omega)
 have HL98 : Hid (LiesQ W85 (Par w V0.heap.size (w66.heap.size :: (w4.heap.size :: [])) (fun _ => False)) A4.kids _) := par_set (par_grow HL37.out (kept_trans Kk49.out (kept_trans Kk64.out (kept_trans Kk83.out Kk89.out))) (List.forall_mem_cons.2 ⟨(Or.inr (Nat.le_trans (Below.size (kept_trans Kk49.out (kept_trans Kk64.out Kk83.out))) (Nat.le_refl w66.heap.size))), (List.forall_mem_cons.2 ⟨(Or.inl (List.mem_cons_self ..)), (fun _ h => nomatch h)⟩)⟩)) hW85 (List.mem_cons_self ..) (by have := HG90.out; have := Z0.out; omega)
 have HL99 : Hid (LiesQ W85 (Par w V0.heap.size (w66.heap.size :: (w4.heap.size :: [])) (fun _ => False)) Tm.zero.kids _) := par_set (par_grow Hhl71.out Kk89.out (List.forall_mem_cons.2 ⟨(Or.inr (Nat.le_refl w66.heap.size)), (List.forall_mem_cons.2 ⟨(Or.inl (List.mem_cons_self ..)), (fun _ h => nomatch h)⟩)⟩)) hW85 (List.mem_cons_self ..) (by have := HG90.out; have := Z0.out; omega)
 have HL100 : Hid (LiesQ W85 (Par w V0.heap.size (w66.heap.size :: (w4.heap.size :: [])) (fun _ => False)) Tm.zero.kids _) := par_set (par_grow Hhl72.out Kk89.out (List.forall_mem_cons.2 ⟨(Or.inr (Nat.le_refl w66.heap.size)), (List.forall_mem_cons.2 ⟨(Or.inl (List.mem_cons_self ..)), (fun _ h => nomatch h)⟩)⟩)) hW85 (List.mem_cons_self ..) (by have := HG90.out; have := Z0.out; omega)
 have HL101 : Hid (LiesQ W85 (Par w V0.heap.size (w66.heap.size :: (w4.heap.size :: [])) (fun _ => False)) Tm.zero.kids _) := par_set (par_grow Hhl73.out Kk89.out (List.forall_mem_cons.2 ⟨(Or.inr (Nat.le_refl w66.heap.size)), (List.forall_mem_cons.2 ⟨(Or.inl (List.mem_cons_self ..)), (fun _ h => nomatch h)⟩)⟩)) hW85 (List.mem_cons_self ..) (by have := HG90.out; have := Z0.out; omega)
 have XL102 := Lib.hid (xlt_set XL93.out hW85)
 have HX103 := Lib.hid (blk_other (blk_at HX39.out (kept_trans Kk49.out (kept_trans Kk64.out (kept_trans Kk83.out Kk89.out)))) hW85 (by have := AP91.out; omega))
 have HX104 := Lib.hid (blk_other (blk_at Hhb62.out (kept_trans Kk83.out Kk89.out)) hW85 (by have := AP92.out; omega))
 have HX105 := Lib.hid (blk_same Hx86.out hW85)
 (try clear ld40)
 (try clear ld41)
 (try clear ld42)
 (try clear ld43)
 (try clear ld65)
 clear hW85
 have ld106 := partN_cell (r := V0.heap.size) HX103.out trivial 1 (.int .i64 U3.k) rfl
 have ld107 := partN_cell (r := V0.heap.size) HX103.out trivial 2 (.int .i64 U3.i) rfl
 have ld108 := partN_cell (r := V0.heap.size) HX103.out trivial 12 (.int .i64 A4.i) rfl
 have ld109 := partN_cell (r := V0.heap.size) HX103.out trivial 16 (.int .i64 5) rfl
 have ld110 := partN_cell (r := V0.heap.size) HX104.out trivial (o56 + 5) (.int .i64 4) (row_cellW Hhs63.out 5 (by decide))
 have kvV0 : SeesN V0 V0.heap.size W85 := seesN_kept _ KB95.out
 have kvW85 : SeesN W85 V0.heap.size W85 := seesN_kept _ (kept_refl _)
 go_wp2
 go_ret
 exact ⟨rfl, KB94.out⟩
end Go.Proofs.Ytmicgbdcbjajiaa