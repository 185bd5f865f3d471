/-
  Facts and contracts that the proof of ShapeWays uses.
-/
import Derived.Test.YtgododpkbiaacaaGreatRows
import Derived.WalkKit
import Derived.Lib.Hide
import Derived.KernelRfl
import Derived.Deep.RegionWith
import Derived.Deep.RegionHeld3
import Derived.Deep.AppendLies
import Derived.Laws.Rows
import Derived.Laws.IdiomCopy
import Derived.Deep.Slices
import Derived.Lib.QuietBelow
import Derived.StillTailTactics
import Derived.BigQuiet
import Derived.IntWalk
import Derived.OwnWalk
import Derived.Deep.RegionLaw
import Derived.Deep.QuietTactic
import Derived.Deep.LoopGhost
import Derived.Deep.DeepCutAuto
import Derived.OrdersHeld
import Derived.Deep.MidRow
import Derived.Laws.Tables
import Derived.Laws.CopyOwn
import Derived.Laws.CopyRow
import Derived.Deep.RegionHeld
import Derived.Lib.MinMax
import Derived.ProofKit
import Derived.OpenShut
import Derived.Carry
import Derived.ChangeSlices
import Derived.JoinedOf
import Derived.Test.YtgododpkbiaacaaGreatShapeWaysQ1
namespace Go.Proofs.YtgododpkbiaacaaGreat
open Go.RowKit

theorem picked_pickT (t : Tm) : ∀ pk : List Nat, (∀ p ∈ pk, p < t.kids.length) → pickT pk (t.kids.map Tm.bare) = picked t pk
  | [], _ => rfl
  | p :: r, h => by
    have hp := h p (List.mem_cons_self ..)
    have ih := picked_pickT t r (fun q hq => h q (List.mem_cons_of_mem _ hq))
    unfold pickT at ih ⊢
    rw [List.filterMap_cons, List.getElem?_map, List.getElem?_eq_getElem hp]
    simp only [Option.map_some]
    rw [ih]
    simp [picked, List.getElem?_eq_getElem hp]
theorem bare_pick (t : Tm) (c : Int) (pk : List Nat) (hk : t.k = c) (hc : (decide (3 ≤ c) && decide (c ≤ 12)) = true) (hp : barePick c = pk) (h : ∀ p ∈ pk, p < t.kids.length) : t.bare = .mk (bareKind c) (if c = 12 then t.i else 0) 0 (if c = 12 then 5 else 0) (picked t pk) := by
  simp at hc
  rw [Tm.bare_eq, bareNode, hk, if_pos hc, hp, picked_pickT t pk h]
theorem liesI_new {W : World} {g : Nat} {T : TypeId} {l : List Int} {fr : Nat × Nat} (h : W.heap[g]? = some (.cells (l.map (Value.int .i64)).toArray T fr)) (hm : l.length ≤ maxLen) : LiesI W l (.slice (some ⟨g, 0, none⟩) l.length l.length) :=
  ⟨_, _, rfl, Nat.le_refl _, hm, fun i hi => ⟨g, 0, rfl, by rw [Nat.zero_add, cell_of_row _ _ _ _ _ _ h]; simp [hi]⟩⟩

theorem made_below {B b o : Nat} {w : World} {v : Value} {ps : List (Tm × Value)} (h : Made B w v ps) (hb : b < B) (x : Value) : Made B (w.setCell ⟨b, o, none⟩ x) v ps := by
  have hk : ∀ b', B ≤ b' → (w.setCell ⟨b, o, none⟩ x).heap[b']? = w.heap[b']? := fun b' hb' => Below.heap_setCell _ _ _ _ (by show b' ≠ b; omega)
  obtain ⟨h1, h2⟩ := h.own
  refine ⟨⟨h1, ?_⟩, h.fine, fun p hp => (h.kids p hp).keep (fun b' hb' _ => hk b' hb'.1.1) (fun b' hb' _ => ⟨hb'.1.same (hk b' hb'.1.1), hb'.2⟩)⟩
  rcases h2 with h2 | ⟨g, cap, cur, hv, hg, hh, r⟩
  · exact Or.inl h2
  · exact Or.inr ⟨g, cap, cur, hv, hg, by rw [hk g hg]; exact hh, r⟩

set_option maxRecDepth 20000 in
set_option maxHeartbeats 1500000 in
theorem sbare_any (t : Tm) : ∀ (w : World) (s : Value), Lies w t.kids s → t.rightB = true → Calls Tryz.prog 45 #[tv t s] w (Makes t.bare w) := by
  induction t using Tm.ind with
  | h t ih =>
    intro w s hl hr
    obtain ⟨a, cap, S, rfl, hc, hm, hf, hn, hkk⟩ := hl.out
    have hlen := right_len hr
    obtain ⟨du, hu1, hu2⟩ := under_term
    have HR0 := Lib.hid hr
    have HRK := Lib.hid (t.right_kids hr)
    have IH := Lib.hid ih
    have HL := Lib.hid hl
    have HN := Lib.hid hn
    have HK := Lib.hid hkk
    have hkind := Tm.node_kind (t.right_node hr)
    unfold maxLen at hm
    clear ih hl hn hkk hr hf
    unfold tv
    by_cases hmk : 3 ≤ t.k ∧ t.k ≤ 12
    · have hcs : t.k = 3 ∨ t.k = 4 ∨ t.k = 5 ∨ t.k = 6 ∨ t.k = 7 ∨ t.k = 8 ∨ t.k = 9 ∨ t.k = 10 ∨ t.k = 11 ∨ t.k = 12 := by omega
      clear hmk hkind
      rcases hcs with hkc | hkc | hkc | hkc | hkc | hkc | hkc | hkc | hkc | hkc
      · have hpk : ∀ p ∈ ([0, 1] : List Nat), p < t.kids.length := by
          have hlen := node_length (t.right_node HR0.out)
          rw [hkc] at hlen
          have h9 : t.kids.length = 2 := by simp [kidsN] at hlen; omega
          intro p hp
          simp at hp
          omega
        have hres := bare_pick t 3 [0, 1] hkc rfl rfl hpk
        have hb3 := below_three w (.cells #[.int .i64 t.k, .int .i64 t.i, .int .i64 t.j, .int .i64 t.n, .slice a t.kids.length cap] 25) (.cells #[.int .i64 0, .int .i64 0, .int .i64 0, .int .i64 0, .slice none 0 0] 25) (.cells #[.int .i64 0, .int .i64 1] 3)
        obtain ⟨q0, q1, q2, -⟩ := heap_three w (.cells #[.int .i64 t.k, .int .i64 t.i, .int .i64 t.j, .int .i64 t.n, .slice a t.kids.length cap] 25) (.cells #[.int .i64 0, .int .i64 0, .int .i64 0, .int .i64 0, .slice none 0 0] 25) (.cells #[.int .i64 0, .int .i64 1] 3)
        have hti := liesI_new (l := [(0 : Int), (1 : Int)]) q2 (by decide)
        have CALL := Lib.hid (plain_of t IH.out HRK.out 13 [0, 1] hpk (by decide) _ _ _ (HL.out.keep hb3) hti)
        have HRES := Lib.hid hres
        clear hti hpk hres q2 q0
        have e3 : (t.k == 3) = true := by rw [hkc]; decide
        clear hkc
        go_enter Tryz.func45, Tryz.ntmps45
        go_wp2_with fail
        refine CALL.out.mono ?_
        rintro e wn ⟨s2, rfl, hl2, hbn⟩
        obtain ⟨a2, cap2, rfl, -, -⟩ := hl2.out
        have hbw := hb3.trans (hbn.mono hb3.size)
        have q1n := hbn.block (w.heap.size + 1) (by simp)
        rw [q1] at q1n
        obtain ⟨z0, z1, z2, z3, z4⟩ := five_cells q1n
        obtain ⟨f0, f1, f2, f3, f4⟩ := five_free q1n
        have HL2 := Lib.hid hl2
        clear hbn hl2 q1
        go_wp2
        (try simp only [Exit.inBlock, Exit.then])
        refine bodyPost_ret (results_cell_row rfl _ _ (w.heap.size + 1) _ _ _ du rfl (five_set q1n) hu1 (by cases du <;> first | rfl | exact hu2) size_term) rfl ?_
        rw [HRES.out]
        exact ⟨_, rfl, liesP_fives HL2.out (by simp <;> omega) (by simp <;> omega) _ _ _ _ _, below_five hbw (by omega) _ _ _ _ _⟩
      · have hpk : ∀ p ∈ ([0, 2] : List Nat), p < t.kids.length := by
          have hlen := node_length (t.right_node HR0.out)
          rw [hkc] at hlen
          have h9 : t.kids.length = 3 := by simp [kidsN] at hlen; omega
          intro p hp
          simp at hp
          omega
        have hres := bare_pick t 4 [0, 2] hkc rfl rfl hpk
        have hb3 := below_three w (.cells #[.int .i64 t.k, .int .i64 t.i, .int .i64 t.j, .int .i64 t.n, .slice a t.kids.length cap] 25) (.cells #[.int .i64 0, .int .i64 0, .int .i64 0, .int .i64 0, .slice none 0 0] 25) (.cells #[.int .i64 0, .int .i64 2] 3)
        obtain ⟨q0, q1, q2, -⟩ := heap_three w (.cells #[.int .i64 t.k, .int .i64 t.i, .int .i64 t.j, .int .i64 t.n, .slice a t.kids.length cap] 25) (.cells #[.int .i64 0, .int .i64 0, .int .i64 0, .int .i64 0, .slice none 0 0] 25) (.cells #[.int .i64 0, .int .i64 2] 3)
        have hti := liesI_new (l := [(0 : Int), (2 : Int)]) q2 (by decide)
        have CALL := Lib.hid (plain_of t IH.out HRK.out 14 [0, 2] hpk (by decide) _ _ _ (HL.out.keep hb3) hti)
        have HRES := Lib.hid hres
        clear hti hpk hres q2 q0
        have e3 : (t.k == 3) = false := by rw [hkc]; decide
        have e4 : (t.k == 4) = true := by rw [hkc]; decide
        clear hkc
        go_enter Tryz.func45, Tryz.ntmps45
        go_wp2_with fail
        refine CALL.out.mono ?_
        rintro e wn ⟨s2, rfl, hl2, hbn⟩
        obtain ⟨a2, cap2, rfl, -, -⟩ := hl2.out
        have hbw := hb3.trans (hbn.mono hb3.size)
        have q1n := hbn.block (w.heap.size + 1) (by simp)
        rw [q1] at q1n
        obtain ⟨z0, z1, z2, z3, z4⟩ := five_cells q1n
        obtain ⟨f0, f1, f2, f3, f4⟩ := five_free q1n
        have HL2 := Lib.hid hl2
        clear hbn hl2 q1
        go_wp2
        (try simp only [Exit.inBlock, Exit.then])
        refine bodyPost_ret (results_cell_row rfl _ _ (w.heap.size + 1) _ _ _ du rfl (five_set q1n) hu1 (by cases du <;> first | rfl | exact hu2) size_term) rfl ?_
        rw [HRES.out]
        exact ⟨_, rfl, liesP_fives HL2.out (by simp <;> omega) (by simp <;> omega) _ _ _ _ _, below_five hbw (by omega) _ _ _ _ _⟩
      · have hpk : ∀ p ∈ ([2, 3] : List Nat), p < t.kids.length := by
          have hlen := node_length (t.right_node HR0.out)
          rw [hkc] at hlen
          have h9 : t.kids.length = 4 := by simp [kidsN] at hlen; omega
          intro p hp
          simp at hp
          omega
        have hres := bare_pick t 5 [2, 3] hkc rfl rfl hpk
        have hb3 := below_three w (.cells #[.int .i64 t.k, .int .i64 t.i, .int .i64 t.j, .int .i64 t.n, .slice a t.kids.length cap] 25) (.cells #[.int .i64 0, .int .i64 0, .int .i64 0, .int .i64 0, .slice none 0 0] 25) (.cells #[.int .i64 2, .int .i64 3] 3)
        obtain ⟨q0, q1, q2, -⟩ := heap_three w (.cells #[.int .i64 t.k, .int .i64 t.i, .int .i64 t.j, .int .i64 t.n, .slice a t.kids.length cap] 25) (.cells #[.int .i64 0, .int .i64 0, .int .i64 0, .int .i64 0, .slice none 0 0] 25) (.cells #[.int .i64 2, .int .i64 3] 3)
        have hti := liesI_new (l := [(2 : Int), (3 : Int)]) q2 (by decide)
        have CALL := Lib.hid (plain_of t IH.out HRK.out 15 [2, 3] hpk (by decide) _ _ _ (HL.out.keep hb3) hti)
        have HRES := Lib.hid hres
        clear hti hpk hres q2 q0
        have e3 : (t.k == 3) = false := by rw [hkc]; decide
        have e4 : (t.k == 4) = false := by rw [hkc]; decide
        have e5 : (t.k == 5) = true := by rw [hkc]; decide
        clear hkc
        go_enter Tryz.func45, Tryz.ntmps45
        go_wp2_with fail
        refine CALL.out.mono ?_
        rintro e wn ⟨s2, rfl, hl2, hbn⟩
        obtain ⟨a2, cap2, rfl, -, -⟩ := hl2.out
        have hbw := hb3.trans (hbn.mono hb3.size)
        have q1n := hbn.block (w.heap.size + 1) (by simp)
        rw [q1] at q1n
        obtain ⟨z0, z1, z2, z3, z4⟩ := five_cells q1n
        obtain ⟨f0, f1, f2, f3, f4⟩ := five_free q1n
        have HL2 := Lib.hid hl2
        clear hbn hl2 q1
        go_wp2
        (try simp only [Exit.inBlock, Exit.then])
        refine bodyPost_ret (results_cell_row rfl _ _ (w.heap.size + 1) _ _ _ du rfl (five_set q1n) hu1 (by cases du <;> first | rfl | exact hu2) size_term) rfl ?_
        rw [HRES.out]
        exact ⟨_, rfl, liesP_fives HL2.out (by simp <;> omega) (by simp <;> omega) _ _ _ _ _, below_five hbw (by omega) _ _ _ _ _⟩
      · have hpk : ∀ p ∈ ([0, 1] : List Nat), p < t.kids.length := by
          have hlen := node_length (t.right_node HR0.out)
          rw [hkc] at hlen
          have h9 : t.kids.length = 2 := by simp [kidsN] at hlen; omega
          intro p hp
          simp at hp
          omega
        have hres := bare_pick t 6 [0, 1] hkc rfl rfl hpk
        have hb3 := below_three w (.cells #[.int .i64 t.k, .int .i64 t.i, .int .i64 t.j, .int .i64 t.n, .slice a t.kids.length cap] 25) (.cells #[.int .i64 0, .int .i64 0, .int .i64 0, .int .i64 0, .slice none 0 0] 25) (.cells #[.int .i64 0, .int .i64 1] 3)
        obtain ⟨q0, q1, q2, -⟩ := heap_three w (.cells #[.int .i64 t.k, .int .i64 t.i, .int .i64 t.j, .int .i64 t.n, .slice a t.kids.length cap] 25) (.cells #[.int .i64 0, .int .i64 0, .int .i64 0, .int .i64 0, .slice none 0 0] 25) (.cells #[.int .i64 0, .int .i64 1] 3)
        have hti := liesI_new (l := [(0 : Int), (1 : Int)]) q2 (by decide)
        have CALL := Lib.hid (plain_of t IH.out HRK.out 16 [0, 1] hpk (by decide) _ _ _ (HL.out.keep hb3) hti)
        have HRES := Lib.hid hres
        clear hti hpk hres q2 q0
        have e3 : (t.k == 3) = false := by rw [hkc]; decide
        have e4 : (t.k == 4) = false := by rw [hkc]; decide
        have e5 : (t.k == 5) = false := by rw [hkc]; decide
        have e6 : (t.k == 6) = true := by rw [hkc]; decide
        clear hkc
        go_enter Tryz.func45, Tryz.ntmps45
        go_wp2_with fail
        refine CALL.out.mono ?_
        rintro e wn ⟨s2, rfl, hl2, hbn⟩
        obtain ⟨a2, cap2, rfl, -, -⟩ := hl2.out
        have hbw := hb3.trans (hbn.mono hb3.size)
        have q1n := hbn.block (w.heap.size + 1) (by simp)
        rw [q1] at q1n
        obtain ⟨z0, z1, z2, z3, z4⟩ := five_cells q1n
        obtain ⟨f0, f1, f2, f3, f4⟩ := five_free q1n
        have HL2 := Lib.hid hl2
        clear hbn hl2 q1
        go_wp2
        (try simp only [Exit.inBlock, Exit.then])
        refine bodyPost_ret (results_cell_row rfl _ _ (w.heap.size + 1) _ _ _ du rfl (five_set q1n) hu1 (by cases du <;> first | rfl | exact hu2) size_term) rfl ?_
        rw [HRES.out]
        exact ⟨_, rfl, liesP_fives HL2.out (by simp <;> omega) (by simp <;> omega) _ _ _ _ _, below_five hbw (by omega) _ _ _ _ _⟩
      · have hpk : ∀ p ∈ ([0, 1, 2, 3] : List Nat), p < t.kids.length := by
          have hlen := node_length (t.right_node HR0.out)
          rw [hkc] at hlen
          have h9 : t.kids.length = 4 := by simp [kidsN] at hlen; omega
          intro p hp
          simp at hp
          omega
        have hres := bare_pick t 7 [0, 1, 2, 3] hkc rfl rfl hpk
        have hb3 := below_three w (.cells #[.int .i64 t.k, .int .i64 t.i, .int .i64 t.j, .int .i64 t.n, .slice a t.kids.length cap] 25) (.cells #[.int .i64 0, .int .i64 0, .int .i64 0, .int .i64 0, .slice none 0 0] 25) (.cells #[.int .i64 0, .int .i64 1, .int .i64 2, .int .i64 3] 3)
        obtain ⟨q0, q1, q2, -⟩ := heap_three w (.cells #[.int .i64 t.k, .int .i64 t.i, .int .i64 t.j, .int .i64 t.n, .slice a t.kids.length cap] 25) (.cells #[.int .i64 0, .int .i64 0, .int .i64 0, .int .i64 0, .slice none 0 0] 25) (.cells #[.int .i64 0, .int .i64 1, .int .i64 2, .int .i64 3] 3)
        have hti := liesI_new (l := [(0 : Int), (1 : Int), (2 : Int), (3 : Int)]) q2 (by decide)
        have CALL := Lib.hid (plain_of t IH.out HRK.out 17 [0, 1, 2, 3] hpk (by decide) _ _ _ (HL.out.keep hb3) hti)
        have HRES := Lib.hid hres
        clear hti hpk hres q2 q0
        have e3 : (t.k == 3) = false := by rw [hkc]; decide
        have e4 : (t.k == 4) = false := by rw [hkc]; decide
        have e5 : (t.k == 5) = false := by rw [hkc]; decide
        have e6 : (t.k == 6) = false := by rw [hkc]; decide
        have e7 : (t.k == 7) = true := by rw [hkc]; decide
        clear hkc
        go_enter Tryz.func45, Tryz.ntmps45
        go_wp2_with fail
        refine CALL.out.mono ?_
        rintro e wn ⟨s2, rfl, hl2, hbn⟩
        obtain ⟨a2, cap2, rfl, -, -⟩ := hl2.out
        have hbw := hb3.trans (hbn.mono hb3.size)
        have q1n := hbn.block (w.heap.size + 1) (by simp)
        rw [q1] at q1n
        obtain ⟨z0, z1, z2, z3, z4⟩ := five_cells q1n
        obtain ⟨f0, f1, f2, f3, f4⟩ := five_free q1n
        have HL2 := Lib.hid hl2
        clear hbn hl2 q1
        go_wp2
        (try simp only [Exit.inBlock, Exit.then])
        refine bodyPost_ret (results_cell_row rfl _ _ (w.heap.size + 1) _ _ _ du rfl (five_set q1n) hu1 (by cases du <;> first | rfl | exact hu2) size_term) rfl ?_
        rw [HRES.out]
        exact ⟨_, rfl, liesP_fives HL2.out (by simp <;> omega) (by simp <;> omega) _ _ _ _ _, below_five hbw (by omega) _ _ _ _ _⟩
      · have hpk : ∀ p ∈ ([2] : List Nat), p < t.kids.length := by
          have hlen := node_length (t.right_node HR0.out)
          rw [hkc] at hlen
          have h9 : t.kids.length = 3 := by simp [kidsN] at hlen; omega
          intro p hp
          simp at hp
          omega
        have hres := bare_pick t 8 [2] hkc rfl rfl hpk
        have hb3 := below_three w (.cells #[.int .i64 t.k, .int .i64 t.i, .int .i64 t.j, .int .i64 t.n, .slice a t.kids.length cap] 25) (.cells #[.int .i64 0, .int .i64 0, .int .i64 0, .int .i64 0, .slice none 0 0] 25) (.cells #[.int .i64 2] 3)
        obtain ⟨q0, q1, q2, -⟩ := heap_three w (.cells #[.int .i64 t.k, .int .i64 t.i, .int .i64 t.j, .int .i64 t.n, .slice a t.kids.length cap] 25) (.cells #[.int .i64 0, .int .i64 0, .int .i64 0, .int .i64 0, .slice none 0 0] 25) (.cells #[.int .i64 2] 3)
        have hti := liesI_new (l := [(2 : Int)]) q2 (by decide)
        have CALL := Lib.hid (plain_of t IH.out HRK.out 18 [2] hpk (by decide) _ _ _ (HL.out.keep hb3) hti)
        have HRES := Lib.hid hres
        clear hti hpk hres q2 q0
        have e3 : (t.k == 3) = false := by rw [hkc]; decide
        have e4 : (t.k == 4) = false := by rw [hkc]; decide
        have e5 : (t.k == 5) = false := by rw [hkc]; decide
        have e6 : (t.k == 6) = false := by rw [hkc]; decide
        have e7 : (t.k == 7) = false := by rw [hkc]; decide
        have e8 : (t.k == 8) = true := by rw [hkc]; decide
        clear hkc
        go_enter Tryz.func45, Tryz.ntmps45
        go_wp2_with fail
        refine CALL.out.mono ?_
        rintro e wn ⟨s2, rfl, hl2, hbn⟩
        obtain ⟨a2, cap2, rfl, -, -⟩ := hl2.out
        have hbw := hb3.trans (hbn.mono hb3.size)
        have q1n := hbn.block (w.heap.size + 1) (by simp)
        rw [q1] at q1n
        obtain ⟨z0, z1, z2, z3, z4⟩ := five_cells q1n
        obtain ⟨f0, f1, f2, f3, f4⟩ := five_free q1n
        have HL2 := Lib.hid hl2
        clear hbn hl2 q1
        go_wp2
        (try simp only [Exit.inBlock, Exit.then])
        refine bodyPost_ret (results_cell_row rfl _ _ (w.heap.size + 1) _ _ _ du rfl (five_set q1n) hu1 (by cases du <;> first | rfl | exact hu2) size_term) rfl ?_
        rw [HRES.out]
        exact ⟨_, rfl, liesP_fives HL2.out (by simp <;> omega) (by simp <;> omega) _ _ _ _ _, below_five hbw (by omega) _ _ _ _ _⟩
      · have hpk : ∀ p ∈ ([2] : List Nat), p < t.kids.length := by
          have hlen := node_length (t.right_node HR0.out)
          rw [hkc] at hlen
          have h9 : t.kids.length = 3 := by simp [kidsN] at hlen; omega
          intro p hp
          simp at hp
          omega
        have hres := bare_pick t 9 [2] hkc rfl rfl hpk
        have hb3 := below_three w (.cells #[.int .i64 t.k, .int .i64 t.i, .int .i64 t.j, .int .i64 t.n, .slice a t.kids.length cap] 25) (.cells #[.int .i64 0, .int .i64 0, .int .i64 0, .int .i64 0, .slice none 0 0] 25) (.cells #[.int .i64 2] 3)
        obtain ⟨q0, q1, q2, -⟩ := heap_three w (.cells #[.int .i64 t.k, .int .i64 t.i, .int .i64 t.j, .int .i64 t.n, .slice a t.kids.length cap] 25) (.cells #[.int .i64 0, .int .i64 0, .int .i64 0, .int .i64 0, .slice none 0 0] 25) (.cells #[.int .i64 2] 3)
        have hti := liesI_new (l := [(2 : Int)]) q2 (by decide)
        have CALL := Lib.hid (plain_of t IH.out HRK.out 19 [2] hpk (by decide) _ _ _ (HL.out.keep hb3) hti)
        have HRES := Lib.hid hres
        clear hti hpk hres q2 q0
        have e3 : (t.k == 3) = false := by rw [hkc]; decide
        have e4 : (t.k == 4) = false := by rw [hkc]; decide
        have e5 : (t.k == 5) = false := by rw [hkc]; decide
        have e6 : (t.k == 6) = false := by rw [hkc]; decide
        have e7 : (t.k == 7) = false := by rw [hkc]; decide
        have e8 : (t.k == 8) = false := by rw [hkc]; decide
        have e9 : (t.k == 9) = true := by rw [hkc]; decide
        clear hkc
        go_enter Tryz.func45, Tryz.ntmps45
        go_wp2_with fail
        refine CALL.out.mono ?_
        rintro e wn ⟨s2, rfl, hl2, hbn⟩
        obtain ⟨a2, cap2, rfl, -, -⟩ := hl2.out
        have hbw := hb3.trans (hbn.mono hb3.size)
        have q1n := hbn.block (w.heap.size + 1) (by simp)
        rw [q1] at q1n
        obtain ⟨z0, z1, z2, z3, z4⟩ := five_cells q1n
        obtain ⟨f0, f1, f2, f3, f4⟩ := five_free q1n
        have HL2 := Lib.hid hl2
        clear hbn hl2 q1
        go_wp2
        (try simp only [Exit.inBlock, Exit.then])
        refine bodyPost_ret (results_cell_row rfl _ _ (w.heap.size + 1) _ _ _ du rfl (five_set q1n) hu1 (by cases du <;> first | rfl | exact hu2) size_term) rfl ?_
        rw [HRES.out]
        exact ⟨_, rfl, liesP_fives HL2.out (by simp <;> omega) (by simp <;> omega) _ _ _ _ _, below_five hbw (by omega) _ _ _ _ _⟩
      · have hpk : ∀ p ∈ ([0, 1, 2] : List Nat), p < t.kids.length := by
          have hlen := node_length (t.right_node HR0.out)
          rw [hkc] at hlen
          have h9 : t.kids.length = 3 := by simp [kidsN] at hlen; omega
          intro p hp
          simp at hp
          omega
        have hres := bare_pick t 10 [0, 1, 2] hkc rfl rfl hpk
        have hb3 := below_three w (.cells #[.int .i64 t.k, .int .i64 t.i, .int .i64 t.j, .int .i64 t.n, .slice a t.kids.length cap] 25) (.cells #[.int .i64 0, .int .i64 0, .int .i64 0, .int .i64 0, .slice none 0 0] 25) (.cells #[.int .i64 0, .int .i64 1, .int .i64 2] 3)
        obtain ⟨q0, q1, q2, -⟩ := heap_three w (.cells #[.int .i64 t.k, .int .i64 t.i, .int .i64 t.j, .int .i64 t.n, .slice a t.kids.length cap] 25) (.cells #[.int .i64 0, .int .i64 0, .int .i64 0, .int .i64 0, .slice none 0 0] 25) (.cells #[.int .i64 0, .int .i64 1, .int .i64 2] 3)
        have hti := liesI_new (l := [(0 : Int), (1 : Int), (2 : Int)]) q2 (by decide)
        have CALL := Lib.hid (plain_of t IH.out HRK.out 20 [0, 1, 2] hpk (by decide) _ _ _ (HL.out.keep hb3) hti)
        have HRES := Lib.hid hres
        clear hti hpk hres q2 q0
        have e3 : (t.k == 3) = false := by rw [hkc]; decide
        have e4 : (t.k == 4) = false := by rw [hkc]; decide
        have e5 : (t.k == 5) = false := by rw [hkc]; decide
        have e6 : (t.k == 6) = false := by rw [hkc]; decide
        have e7 : (t.k == 7) = false := by rw [hkc]; decide
        have e8 : (t.k == 8) = false := by rw [hkc]; decide
        have e9 : (t.k == 9) = false := by rw [hkc]; decide
        have e10 : (t.k == 10) = true := by rw [hkc]; decide
        clear hkc
        go_enter Tryz.func45, Tryz.ntmps45
        go_wp2_with fail
        refine CALL.out.mono ?_
        rintro e wn ⟨s2, rfl, hl2, hbn⟩
        obtain ⟨a2, cap2, rfl, -, -⟩ := hl2.out
        have hbw := hb3.trans (hbn.mono hb3.size)
        have q1n := hbn.block (w.heap.size + 1) (by simp)
        rw [q1] at q1n
        obtain ⟨z0, z1, z2, z3, z4⟩ := five_cells q1n
        obtain ⟨f0, f1, f2, f3, f4⟩ := five_free q1n
        have HL2 := Lib.hid hl2
        clear hbn hl2 q1
        go_wp2
        (try simp only [Exit.inBlock, Exit.then])
        refine bodyPost_ret (results_cell_row rfl _ _ (w.heap.size + 1) _ _ _ du rfl (five_set q1n) hu1 (by cases du <;> first | rfl | exact hu2) size_term) rfl ?_
        rw [HRES.out]
        exact ⟨_, rfl, liesP_fives HL2.out (by simp <;> omega) (by simp <;> omega) _ _ _ _ _, below_five hbw (by omega) _ _ _ _ _⟩
      · have hpk : ∀ p ∈ ([0, 1] : List Nat), p < t.kids.length := by
          have hlen := node_length (t.right_node HR0.out)
          rw [hkc] at hlen
          have h9 : t.kids.length = 2 := by simp [kidsN] at hlen; omega
          intro p hp
          simp at hp
          omega
        have hres := bare_pick t 11 [0, 1] hkc rfl rfl hpk
        have hb3 := below_three w (.cells #[.int .i64 t.k, .int .i64 t.i, .int .i64 t.j, .int .i64 t.n, .slice a t.kids.length cap] 25) (.cells #[.int .i64 0, .int .i64 0, .int .i64 0, .int .i64 0, .slice none 0 0] 25) (.cells #[.int .i64 0, .int .i64 1] 3)
        obtain ⟨q0, q1, q2, -⟩ := heap_three w (.cells #[.int .i64 t.k, .int .i64 t.i, .int .i64 t.j, .int .i64 t.n, .slice a t.kids.length cap] 25) (.cells #[.int .i64 0, .int .i64 0, .int .i64 0, .int .i64 0, .slice none 0 0] 25) (.cells #[.int .i64 0, .int .i64 1] 3)
        have hti := liesI_new (l := [(0 : Int), (1 : Int)]) q2 (by decide)
        have CALL := Lib.hid (plain_of t IH.out HRK.out 21 [0, 1] hpk (by decide) _ _ _ (HL.out.keep hb3) hti)
        have HRES := Lib.hid hres
        clear hti hpk hres q2 q0
        have e3 : (t.k == 3) = false := by rw [hkc]; decide
        have e4 : (t.k == 4) = false := by rw [hkc]; decide
        have e5 : (t.k == 5) = false := by rw [hkc]; decide
        have e6 : (t.k == 6) = false := by rw [hkc]; decide
        have e7 : (t.k == 7) = false := by rw [hkc]; decide
        have e8 : (t.k == 8) = false := by rw [hkc]; decide
        have e9 : (t.k == 9) = false := by rw [hkc]; decide
        have e10 : (t.k == 10) = false := by rw [hkc]; decide
        have e11 : (t.k == 11) = true := by rw [hkc]; decide
        clear hkc
        go_enter Tryz.func45, Tryz.ntmps45
        go_wp2_with fail
        refine CALL.out.mono ?_
        rintro e wn ⟨s2, rfl, hl2, hbn⟩
        obtain ⟨a2, cap2, rfl, -, -⟩ := hl2.out
        have hbw := hb3.trans (hbn.mono hb3.size)
        have q1n := hbn.block (w.heap.size + 1) (by simp)
        rw [q1] at q1n
        obtain ⟨z0, z1, z2, z3, z4⟩ := five_cells q1n
        obtain ⟨f0, f1, f2, f3, f4⟩ := five_free q1n
        have HL2 := Lib.hid hl2
        clear hbn hl2 q1
        go_wp2
        (try simp only [Exit.inBlock, Exit.then])
        refine bodyPost_ret (results_cell_row rfl _ _ (w.heap.size + 1) _ _ _ du rfl (five_set q1n) hu1 (by cases du <;> first | rfl | exact hu2) size_term) rfl ?_
        rw [HRES.out]
        exact ⟨_, rfl, liesP_fives HL2.out (by simp <;> omega) (by simp <;> omega) _ _ _ _ _, below_five hbw (by omega) _ _ _ _ _⟩
      · have hpk : ∀ p ∈ ([0, 1, 2, 3] : List Nat), p < t.kids.length := by
          have hlen := node_length (t.right_node HR0.out)
          rw [hkc] at hlen
          have h9 : t.kids.length = 4 := by simp [kidsN] at hlen; omega
          intro p hp
          simp at hp
          omega
        have hres := bare_pick t 12 [0, 1, 2, 3] hkc rfl rfl hpk
        have hb3 := below_three w (.cells #[.int .i64 t.k, .int .i64 t.i, .int .i64 t.j, .int .i64 t.n, .slice a t.kids.length cap] 25) (.cells #[.int .i64 0, .int .i64 0, .int .i64 0, .int .i64 0, .slice none 0 0] 25) (.cells #[.int .i64 0, .int .i64 1, .int .i64 2, .int .i64 3] 3)
        obtain ⟨q0, q1, q2, -⟩ := heap_three w (.cells #[.int .i64 t.k, .int .i64 t.i, .int .i64 t.j, .int .i64 t.n, .slice a t.kids.length cap] 25) (.cells #[.int .i64 0, .int .i64 0, .int .i64 0, .int .i64 0, .slice none 0 0] 25) (.cells #[.int .i64 0, .int .i64 1, .int .i64 2, .int .i64 3] 3)
        have hti := liesI_new (l := [(0 : Int), (1 : Int), (2 : Int), (3 : Int)]) q2 (by decide)
        have CALL := Lib.hid (plain_of t IH.out HRK.out 23 [0, 1, 2, 3] hpk (by decide) _ _ _ (HL.out.keep hb3) hti)
        have HRES := Lib.hid hres
        clear hti hpk hres q2
        have e3 : (t.k == 3) = false := by rw [hkc]; decide
        have e4 : (t.k == 4) = false := by rw [hkc]; decide
        have e5 : (t.k == 5) = false := by rw [hkc]; decide
        have e6 : (t.k == 6) = false := by rw [hkc]; decide
        have e7 : (t.k == 7) = false := by rw [hkc]; decide
        have e8 : (t.k == 8) = false := by rw [hkc]; decide
        have e9 : (t.k == 9) = false := by rw [hkc]; decide
        have e10 : (t.k == 10) = false := by rw [hkc]; decide
        have e11 : (t.k == 11) = false := by rw [hkc]; decide
        have e12 : (t.k == 12) = true := by rw [hkc]; decide
        clear hkc
        go_enter Tryz.func45, Tryz.ntmps45
        go_wp2_with fail
        refine CALL.out.mono ?_
        rintro e wn ⟨s2, rfl, hl2, hbn⟩
        obtain ⟨a2, cap2, rfl, -, -⟩ := hl2.out
        have hbw := hb3.trans (hbn.mono hb3.size)
        have q1n := hbn.block (w.heap.size + 1) (by simp)
        rw [q1] at q1n
        obtain ⟨z0, z1, z2, z3, z4⟩ := five_cells q1n
        obtain ⟨f0, f1, f2, f3, f4⟩ := five_free q1n
        have HL2 := Lib.hid hl2
        have q0n := hbn.block w.heap.size (by simp; omega)
        rw [q0] at q0n
        obtain ⟨d0, d1, d2, d3, d4⟩ := five_cells q0n
        have hsn : w.heap.size + 1 < wn.heap.size := by have := (Array.getElem?_eq_some_iff.1 q1n).1; exact this
        have hsn0 : w.heap.size < wn.heap.size := by omega
        clear hbn hl2 q1
        go_wp2_with fail
        go_region
        all_goals
          go_wp2
          refine bodyPost_ret (results_cell_row rfl _ _ (w.heap.size + 1) _ _ _ du rfl (five_alloc q1n _ _ _ _ _ _) hu1 (by cases du <;> first | rfl | exact hu2) size_term) rfl ?_
          rw [HRES.out]
          exact ⟨_, rfl, (liesP_fives_alloc HL2.out (by simp <;> omega) (by simp <;> omega) _ _ _ _ _ _).later (Below.refl _ _).drew, (below_five_alloc hbw (by omega) (by omega) _ _ _ _ _ _).drew⟩
    · have hres : t.bare = .mk t.k t.i t.j t.n (t.kids.map Tm.bare) := by rw [Tm.bare_eq, bareNode, if_neg hmk]
      have HRES := Lib.hid hres
      have e3 : (t.k == 3) = false := by simp; omega
      have e4 : (t.k == 4) = false := by simp; omega
      have e5 : (t.k == 5) = false := by simp; omega
      have e6 : (t.k == 6) = false := by simp; omega
      have e7 : (t.k == 7) = false := by simp; omega
      have e8 : (t.k == 8) = false := by simp; omega
      have e9 : (t.k == 9) = false := by simp; omega
      have e10 : (t.k == 10) = false := by simp; omega
      have e11 : (t.k == 11) = false := by simp; omega
      have e12 : (t.k == 12) = false := by simp; omega
      have hd0 := desk_start w t t (.slice a t.kids.length cap) (.slice none 0 0)
      obtain ⟨i0, hi, hz0, hz1, hz2⟩ := info_parts info_term
      have HI := Lib.hid (And.intro hi (And.intro hz0 (And.intro hz1 hz2)))
      clear hi hz0 hz1 hz2 hres hmk hkind
      go_enter Tryz.func45, Tryz.ntmps45
      go_wp2_with fail
      go_loopw [76] (fun i wr => ∃ (q : Nat) (ps : List (Tm × Value)) (vv : Value), q ≤ t.kids.length ∧ i = .int .i64 q ∧ Hid (ps.map (·.1) = (t.kids.map Tm.bare).take q) ∧ Made (w.heap.size + 3) wr vv ps ∧ Desk w t t (.slice a t.kids.length cap) vv wr) (fun i _ => t.kids.length - (intOf i).toNat)
      case atStart => exact ⟨0, [], _, Nat.zero_le _, rfl, by simp [Hid], made_nil _ _, hd0⟩
      case round =>
        clear hd0
        obtain ⟨q, ps, vv, hq0, rfl, hps, hmade, hdk⟩ := hrel
        have HPS := Lib.hid hps.out
        clear hps
        obtain ⟨q0, q1, q2⟩ := desk_blocks hdk
        obtain ⟨d0, d1, d2, d3, d4⟩ := five_cells q0
        obtain ⟨y0, y1, y2, y3, y4⟩ := five_cells q2
        obtain ⟨z0, z1, z2, z3, z4⟩ := five_cells q1
        obtain ⟨f0, f1, f2, f3, f4⟩ := five_free q1
        have hsz := desk_size hdk
        have hsw : w.heap.size + 1 + 1 < wr.heap.size := by omega
        clear q0 q2
        by_cases hlt : q < t.kids.length
        · obtain ⟨b', o, rfl, hx⟩ := HN.out q hlt
          have hq := HK.out q hlt
          obtain ⟨a', cap', S', hS, -⟩ := hq.out
          rw [hS] at hx hq
          obtain ⟨c0, c1, c2, c3, c4⟩ := hx.below (desk_under hdk) hx.lt
          have HM := Lib.hid (List.getElem_mem hlt)
          have hrk := HRK.out _ HM.out
          have hfx := right_fine (plain_right (bare_plain _ hrk))
          obtain ⟨x, hxb⟩ : ∃ x, (t.kids[q]).bare = x := ⟨_, rfl⟩
          have hb9 : Below wr.heap.size wr (wr.alloc (.cells #[.int .i64 t.kids[q].k, .int .i64 t.kids[q].i, .int .i64 t.kids[q].j, .int .i64 t.kids[q].n, .slice a' t.kids[q].kids.length cap'] 25)).drew := ((Below.refl _ _).alloc (Nat.le_refl _) _).drew
          have CALL := IH.out _ HM.out _ _ (hq.keep ((desk_under hdk).trans (hb9.mono (by omega)))) hrk
          rw [hxb] at CALL hfx
          have hpl : ps.length = q := by have := congrArg List.length HPS.out; simp at this; omega
          have hnext : (t.kids.map Tm.bare).take (q + 1) = (t.kids.map Tm.bare).take q ++ [x] := by
            rw [List.take_succ_eq_append_getElem (by simpa using hlt), List.getElem_map, hxb]
          have HPL := Lib.hid hpl
          have HMD := Lib.hid hmade
          have HFX := Lib.hid hfx
          have HNX := Lib.hid hnext
          have HB9 := Lib.hid hb9
          have HCALL := Lib.hid CALL
          have hda := desk_later hdk ((Below.refl _ _).alloc (Nat.le_refl _) (.cells #[.int .i64 t.kids[q].k, .int .i64 t.kids[q].i, .int .i64 t.kids[q].j, .int .i64 t.kids[q].n, .slice a' t.kids[q].kids.length cap'] 25))
          obtain ⟨-, -, r2⟩ := desk_blocks hda
          obtain ⟨-, -, -, -, r4⟩ := five_cells r2
          clear hS hq hx hfx hxb hrk hpl hnext hmade CALL hb9 hda r2
          go_wp2_with fail
          go_region_law (first | (refine step_append_lies _ rfl _ _ 23 rfl (w.heap.size + 3) 25 i0 _ 5 56 (by kernel_rfl) HI.out.1 HI.out.2.1 HI.out.2.2.1 HI.out.2.2.2 rfl (by decide) _ ps.length (cells5 ps) rfl (made_later (made_later HMD.out HB2.out) ((Below.refl _ _).alloc (Nat.le_refl _) _)).own ⟨wn.heap.size, 0, none⟩ 1 1 (cells5 [(x, .slice a2 x.kids.length cap2)]) rfl rfl (news_new _ _ _ _) (one5 _ _) (by decide) (by have := HPL.out; unfold maxLen; omega) (by have := HPL.out; omega) (by have := desk_size hd2; simp; omega) _ rfl ?_; intro g cap3 w3 hown hgrow hat _; have hpb := push_once hdk HMD.out HFX.out HB2.out HL2.out _ hown hgrow hat; have HPB := Lib.hid hpb.1; have hd3 := hpb.2; have HD3 := Lib.hid hd3; obtain ⟨-, -, r3⟩ := desk_blocks hd3; obtain ⟨-, -, -, -, r4⟩ := five_cells r3; obtain ⟨-, -, -, -, s4⟩ := five_free r3; clear r3 hpb hown hgrow hat hd3) | (go_simp; go_at_call 45; ((with_reducible refine Calls.mono HCALL.out ?_); rintro e wn ⟨s2, rfl, hl2, hbn⟩; obtain ⟨a2, cap2, rfl, -, -⟩ := hl2.out; have hbn2 := HB9.out.trans (hbn.mono HB9.out.size); have hd2 := desk_later hdk hbn2; obtain ⟨-, -, r2⟩ := desk_blocks hd2; obtain ⟨-, -, -, -, r4⟩ := five_cells r2; have HL2 := Lib.hid (hl2.from (B' := wr.heap.size) (by simp <;> omega)); have HB2 := Lib.hid hbn2; have hsn : w.heap.size + 1 + 1 < wn.heap.size := (by have := desk_size hd2; omega); clear r2 hl2 hbn hbn2)))
          all_goals
            go_wp2_with fail
            go_roundw
            case rel => exact ⟨q + 1, ps ++ [(x, .slice a2 x.kids.length cap2)], _, hlt, by go_num, by rw [Hid, List.map_append, HPS.out, HNX.out]; rfl, made_below HPB.out (by omega) _, desk_set HD3.out⟩
            case measure => simp [intOf]; omega
        · have : q = t.kids.length := by omega
          subst this
          have hres : ps.map (·.1) = t.kids.map Tm.bare := by
            have := HPS.out
            rwa [List.take_of_length_le (by simp)] at this
          have hll := made_lies hmade
          rw [hres] at hll
          obtain ⟨a2, cap2, rfl, -, -⟩ := hll.out
          simp only [List.length_map] at hll hdk y4
          have HLL := Lib.hid hll
          clear hres hll
          go_wp2
          (try simp only [Exit.inBlock, Exit.then])
          refine bodyPost_ret (results_cell_row rfl _ _ (w.heap.size + 1) _ _ _ du rfl (five_set q1) hu1 (by cases du <;> first | rfl | exact hu2) size_term) rfl ?_
          rw [HRES.out]
          exact ⟨_, rfl, liesP_fives HLL.out (by omega) (by omega) _ _ _ _ _, below_five (desk_under hdk) (by omega) _ _ _ _ _⟩
end Go.Proofs.YtgododpkbiaacaaGreat

namespace Go.Proofs.YtgododpkbiaacaaGreat
open Go.RowKit
theorem boxes_two {w w' : World} {t : Tm} {s : Value} (h : Boxes w t s w') : w'.heap[w.heap.size]? = some (boxOf t s) ∧ w'.heap[w.heap.size + 1]? = some zeroObj := by
  refine ⟨?_, boxes_block h⟩
  rw [Below.block h _ (by omega), Below.heap_alloc _ _ _ (by simp), alloc_new]

end Go.Proofs.YtgododpkbiaacaaGreat

namespace Go.Proofs.YtgododpkbiaacaaGreat
open Go.RowKit

/-- Terms one behind the other, each with the slice of its kids. -/
def Row (w : World) (b : Nat) : Nat → List (Tm × Value) → Prop
  | _, [] => True
  | o, (t, s) :: r => Node w b o t s ∧ t.fine ∧ Lies w t.kids s ∧ Row w b (o + 5) r

theorem Row.at {w : World} {b : Nat} {ps : List (Tm × Value)} : ∀ {o : Nat}, Row w b o ps → ∀ i (h : i < ps.length), Node w b (o + i * 5) (ps[i]).1 (ps[i]).2 ∧ (ps[i]).1.fine ∧ Lies w (ps[i]).1.kids (ps[i]).2 := by
  induction ps with
  | nil => intro o _ i h; simp at h
  | cons p r ih =>
    intro o hr i h
    cases i with
    | zero => exact ⟨by simpa using hr.1, hr.2.1, hr.2.2.1⟩
    | succ i =>
      have := ih hr.2.2.2 i (by simpa using h)
      rw [show o + 5 + i * 5 = o + (i + 1) * 5 by omega] at this
      simpa using this

theorem Row.lies {w : World} {b o cap : Nat} {ps : List (Tm × Value)} (h : Row w b o ps) (hc : ps.length ≤ cap) (hm : cap ≤ maxLen) : Lies w (ps.map (·.1)) (.slice (some ⟨b, o, none⟩) ps.length cap) := by
  have := Lies.mk (w := w) (ps.map (·.1)) (some ⟨b, o, none⟩) cap (fun i => (ps[i]?.map (·.2)).getD (.slice none 0 0)) (by simpa using hc) hm
    (fun x hx => by
      obtain ⟨p, hp, rfl⟩ := List.mem_map.1 hx
      obtain ⟨i, hi, rfl⟩ := List.getElem_of_mem hp
      exact (h.at i hi).2.1)
    (fun i hi => by
      have hi' : i < ps.length := by simpa using hi
      refine ⟨b, o, rfl, ?_⟩
      simp only [List.getElem_map, List.getElem?_eq_getElem hi', Option.map_some, Option.getD_some]
      exact (h.at i hi').1)
    (fun i hi => by
      have hi' : i < ps.length := by simpa using hi
      simp only [List.getElem_map, List.getElem?_eq_getElem hi', Option.map_some, Option.getD_some]
      exact (h.at i hi').2.2)
  simpa using this

end Go.Proofs.YtgododpkbiaacaaGreat

namespace Go.Proofs.YtgododpkbiaacaaGreat

theorem liftB_good {t : Tm} {k c : Int} (hk : 0 ≤ k) (hc : 0 ≤ c) (hr : t.rightB = true) : t.liftB k c = (t.each (liftF k c) 0).getD .zero := by
  unfold Tm.liftB; rw [if_neg (by rw [hr]; simp; omega)]
theorem size_pos (t : Tm) : 1 ≤ t.size := by rw [t.size_eq]; omega
theorem liftB_stays {t : Tm} {k c : Int} (hk : 0 ≤ k) (hr : t.rightB = true) (hc : t.freeN ≤ c) : t.liftB k c = t := by
  have h0 := (t.free_range hr).1
  rw [liftB_good hk (by omega) hr, each_stays _ t 0 hr (Int.le_refl _) (fun v b _ _ _ hv => by unfold liftF; rw [if_pos (by omega)])]; rfl
end Go.Proofs.YtgododpkbiaacaaGreat

namespace Go.Proofs.YtgododpkbiaacaaGreat
open Go.RowKit

mutual
def sameB : Tm → Tm → Bool
  | .mk k i j n l, .mk k' i' j' n' l' => (k == k') && ((i == i') && ((j == j') && ((n == n') && samesB l l')))
def samesB : List Tm → List Tm → Bool
  | [], [] => true
  | x :: r, y :: s => sameB x y && samesB r s
  | [], _ :: _ => false
  | _ :: _, [] => false
end

theorem sameB_eq (a b : Tm) : sameB a b = ((a.k == b.k) && ((a.i == b.i) && ((a.j == b.j) && ((a.n == b.n) && samesB a.kids b.kids)))) := by
  cases a; cases b; simp only [sameB]; rfl

theorem samesB_length : ∀ {l m : List Tm}, samesB l m = true → l.length = m.length
  | [], [], _ => rfl
  | x :: r, y :: s, h => by simp only [samesB, Bool.and_eq_true] at h; simp [samesB_length h.2]
  | [], _ :: _, h => by simp [samesB] at h
  | _ :: _, [], h => by simp [samesB] at h

theorem sameB_self (a : Tm) : sameB a a = true := by
  induction a using Tm.ind with
  | h a ih =>
    rw [sameB_eq]
    have key : ∀ (l : List Tm), (∀ x ∈ l, sameB x x = true) → samesB l l = true := by
      intro l
      induction l with
      | nil => intro _; simp [samesB]
      | cons x r ihl => intro hx; simp only [samesB, hx x List.mem_cons_self, Bool.true_and]; exact ihl (fun z hz => hx z (List.mem_cons_of_mem _ hz))
    simp [key a.kids ih]

theorem sames_take : ∀ (l m : List Tm) (k : Nat) (h : k < l.length) (h' : k < m.length), samesB (l.take (k + 1)) (m.take (k + 1)) = (samesB (l.take k) (m.take k) && sameB l[k] m[k])
  | x :: r, y :: s, 0, _, _ => by simp [samesB]
  | x :: r, y :: s, k + 1, h, h' => by
    simp only [List.take_succ_cons, samesB, List.getElem_cons_succ]
    rw [sames_take r s k (by simpa using h) (by simpa using h'), Bool.and_assoc]

theorem sames_of : ∀ (l m : List Tm) (k : Nat) (h : k < l.length) (h' : k < m.length), sameB l[k] m[k] = false → samesB l m = false
  | x :: r, y :: s, 0, _, _, hs => by simp only [List.getElem_cons_zero] at hs; simp [samesB, hs]
  | x :: r, y :: s, k + 1, h, h', hs => by
    simp only [List.getElem_cons_succ] at hs
    simp [samesB, sames_of r s k (by simpa using h) (by simpa using h') hs]

theorem sames_ne {l m : List Tm} (h : l.length ≠ m.length) : samesB l m = false := by
  cases hs : samesB l m with
  | false => rfl
  | true => exact absurd (samesB_length hs) h

/-- Two boxed terms, and what is new beside them. -/
def Held2 (w : World) (a : Tm) (s : Value) (b : Tm) (r : Value) (w' : World) : Prop := Below (w.heap.size + 2) ((w.alloc (boxOf a s)).alloc (boxOf b r)) w'

theorem held2_start (w : World) (a : Tm) (s : Value) (b : Tm) (r : Value) : Held2 w a s b r ((w.alloc (.cells #[.int .i64 a.k, .int .i64 a.i, .int .i64 a.j, .int .i64 a.n, s] 25)).alloc (.cells #[.int .i64 b.k, .int .i64 b.i, .int .i64 b.j, .int .i64 b.n, r] 25)) := Below.refl _ _
theorem held2_second {w w' : World} {a b : Tm} {s r : Value} (h : Held2 w a s b r w') : Held (w.alloc (boxOf a s)) b r w' := by
  unfold Held2 at h; unfold Held
  rw [show (w.alloc (boxOf a s)).heap.size + 1 = w.heap.size + 2 by simp]; exact h
theorem held2_first {w w' : World} {a b : Tm} {s r : Value} (h : Held2 w a s b r w') : Held w a s w' := by
  unfold Held2 at h; unfold Held
  exact ((Below.refl _ _).alloc (by simp) _).trans (h.mono (by omega))
theorem held2_cells {w w' : World} {a b : Tm} {s r : Value} (h : Held2 w a s b r w') : w'.cell? ⟨w.heap.size, 0, none⟩ = some (.int .i64 a.k) ∧ w'.cell? ⟨w.heap.size, 1, none⟩ = some (.int .i64 a.i) ∧ w'.cell? ⟨w.heap.size, 2, none⟩ = some (.int .i64 a.j) ∧
    w'.cell? ⟨w.heap.size, 3, none⟩ = some (.int .i64 a.n) ∧ w'.cell? ⟨w.heap.size, 4, none⟩ = some s ∧ w'.cell? ⟨w.heap.size + 1, 0, none⟩ = some (.int .i64 b.k) ∧ w'.cell? ⟨w.heap.size + 1, 1, none⟩ = some (.int .i64 b.i) ∧
    w'.cell? ⟨w.heap.size + 1, 2, none⟩ = some (.int .i64 b.j) ∧ w'.cell? ⟨w.heap.size + 1, 3, none⟩ = some (.int .i64 b.n) ∧ w'.cell? ⟨w.heap.size + 1, 4, none⟩ = some r := by
  obtain ⟨h0, h1, h2, h3, h4⟩ := held_cells (held2_first h)
  have h' := held_cells (held2_second h)
  rw [show (w.alloc (boxOf a s)).heap.size = w.heap.size + 1 by simp] at h'
  exact ⟨h0, h1, h2, h3, h4, h'⟩
theorem held2_call {w w1 w2 : World} {a b : Tm} {s r : Value} (h : Held2 w a s b r w1) (hb : Below w1.heap.size w1 w2) : Held2 w a s b r w2 :=
  below_call h hb (by have := h.size; simpa using this)
theorem held2_drew {w w1 : World} {a b : Tm} {s r : Value} (h : Held2 w a s b r w1) : Held2 w a s b r w1.drew := Below.drew h
theorem held2_alloc {w w1 : World} {a b : Tm} {s r : Value} (h : Held2 w a s b r w1) (o : Obj) : Held2 w a s b r (w1.alloc o) := Below.alloc h (by have := h.size; simpa using this) o
theorem held2_below {w w1 : World} {a b : Tm} {s r : Value} (h : Held2 w a s b r w1) : Below w.heap.size w w1 := held_below (held2_first h)
theorem held2_lies {w w1 : World} {a b : Tm} {s r s' : Value} {l : List Tm} (h : Held2 w a s b r w1) (hl : Lies w l s') : Lies w1 l s' := hl.keep (held2_below h)
end Go.Proofs.YtgododpkbiaacaaGreat

namespace Go.Proofs.YtgododpkbiaacaaGreat
open Go.RowKit

set_option maxHeartbeats 1000000 in
theorem terms_of (l : List Tm) (ih : ∀ x ∈ l, ∀ (y : Tm) (w : World) (s r : Value), Lies w x.kids s → Lies w y.kids r → Calls Tryz.prog 8 #[tv x s, tv y r] w fun e w' => e = .returned (.bool (sameB x y)) ∧ Below w.heap.size w w')
    (m : List Tm) (w : World) (s r : Value) (hl : Lies w l s) (hm : Lies w m r) : Calls Tryz.prog 11 #[s, r] w fun e w' => e = .returned (.bool (samesB l m)) ∧ Below w.heap.size w w' := by
  obtain ⟨a, cap, S, rfl, hc, hmx, -, hn, hk⟩ := hl.out
  obtain ⟨a2, cap2, S2, rfl, hc2, hmx2, -, hn2, hk2⟩ := hm.out
  unfold maxLen at hmx hmx2
  have IH := Lib.hid ih
  have HN := Lib.hid hn
  have HK := Lib.hid hk
  have HN2 := Lib.hid hn2
  have HK2 := Lib.hid hk2
  clear ih hn hk hn2 hk2 hl hm
  by_cases hlen : l.length = m.length
  rotate_left
  · have h1 : ((l.length : Int) == (m.length : Int)) = false := by simp; omega
    have h2 : ((l.length : Int) != (m.length : Int)) = true := by simp; omega
    have HS := Lib.hid (sames_ne hlen)
    clear hlen
    go_enter Tryz.func11, Tryz.ntmps11
    go_wp2
    go_ret
    exact ⟨ret_bool HS.out.symm, Below.refl _ _⟩
  have h1 : ((l.length : Int) == (m.length : Int)) = true := by simp; omega
  have h2 : ((l.length : Int) != (m.length : Int)) = false := by simp; omega
  have HL := Lib.hid hlen
  clear hlen
  go_enter Tryz.func11, Tryz.ntmps11
  go_wp2
  go_loopw [5] (fun iv wr => ∃ k : Nat, k ≤ l.length ∧ iv = .int .i64 k ∧ Hid (samesB (l.take k) (m.take k) = true) ∧ Below w.heap.size w wr) (fun iv _ => l.length - (intOf iv).toNat)
  case atStart => exact ⟨0, Nat.zero_le _, rfl, by simp [Hid, samesB], Below.refl _ _⟩
  case round =>
    obtain ⟨k, hk, rfl, hgood, hb⟩ := hrel
    by_cases hlt : k < l.length
    · have hlt2 : k < m.length := by have := HL.out; omega
      obtain ⟨b, o, rfl, hx⟩ := HN.out k hlt
      obtain ⟨b2, o2, rfl, hx2⟩ := HN2.out k hlt2
      obtain ⟨c0, c1, c2, c3, c4⟩ := hx.below hb hx.lt
      obtain ⟨e0, e1, e2, e3, e4⟩ := hx2.below hb hx2.lt
      have hq := (HK.out k hlt).keep hb
      have hq2 := (HK2.out k hlt2).keep hb
      obtain ⟨a', cap', S', hS, -⟩ := hq.out
      obtain ⟨a2', cap2', S2', hS2, -⟩ := hq2.out
      rw [hS] at c4 hq
      rw [hS2] at e4 hq2
      have HQ := Lib.hid hq
      have HQ2 := Lib.hid hq2
      have HM := Lib.hid (List.getElem_mem hlt)
      have HT := Lib.hid (sames_take l m k hlt hlt2)
      have HO := Lib.hid (sames_of l m k hlt hlt2)
      clear hS hS2 hq hq2
      go_wp2
      go_region_with (go_at_call 8; refine (IH.out _ HM.out _ _ _ _ (HQ.out.keep (Below.refl _ _).drew) (HQ2.out.keep (Below.refl _ _).drew)).mono ?_; rintro e wn ⟨rfl, hb'⟩; have HB3 := below_call hb.drew hb' hb.size; clear hb')
      all_goals
        cases hs : sameB l[k] m[k]
        · go_wp2
          go_ret
          exact ⟨ret_bool (HO.out hs).symm, HB3⟩
        · go_wp2
          go_roundw
          case rel => exact ⟨k + 1, by omega, by go_num, by show _ = true; rw [HT.out, hgood.out, hs]; rfl, HB3⟩
          case measure => simp [intOf]; omega
    · have : k = l.length := by omega
      subst this
      go_wp2
      go_ret
      exact ⟨ret_bool (by have hg := hgood.out; rw [List.take_length, HL.out, List.take_length] at hg; exact hg.symm), hb⟩

set_option maxHeartbeats 1000000 in
theorem keepsame_any (t : Tm) : ∀ (u : Tm) (w : World) (s r : Value), Lies w t.kids s → Lies w u.kids r → Calls Tryz.prog 8 #[tv t s, tv u r] w fun e w' => e = .returned (.bool (sameB t u)) ∧ Below w.heap.size w w' := by
  induction t using Tm.ind with
  | h t ih =>
    intro u w s r hl hm
    obtain ⟨a, cap, S, rfl, -⟩ := hl.out
    obtain ⟨a2, cap2, S2, rfl, -⟩ := hm.out
    have HTM := Lib.hid (terms_of t.kids ih)
    have HE := Lib.hid (sameB_eq t u)
    have HL := Lib.hid hl
    have HM := Lib.hid hm
    have H0 := held2_start w t (.slice a t.kids.length cap) u (.slice a2 u.kids.length cap2)
    clear hl hm ih
    unfold tv
    cases ek : (t.k == u.k)
    · go_enter Tryz.func8, Tryz.ntmps8
      go_wp2
      go_ret
      exact ⟨ret_bool (by rw [HE.out]; simp only [ek, Bool.false_and]), held2_below H0⟩
    cases ei : (t.i == u.i)
    · go_enter Tryz.func8, Tryz.ntmps8
      go_wp2
      go_ret
      exact ⟨ret_bool (by rw [HE.out]; simp only [ek, ei, Bool.false_and, Bool.true_and]), held2_below H0⟩
    cases ej : (t.j == u.j)
    · go_enter Tryz.func8, Tryz.ntmps8
      go_wp2
      go_ret
      exact ⟨ret_bool (by rw [HE.out]; simp only [ek, ei, ej, Bool.false_and, Bool.true_and]), held2_below H0⟩
    cases en : (t.n == u.n)
    · go_enter Tryz.func8, Tryz.ntmps8
      go_wp2
      go_ret
      exact ⟨ret_bool (by rw [HE.out]; simp only [ek, ei, ej, en, Bool.false_and, Bool.true_and]), held2_below H0⟩
    go_enter Tryz.func8, Tryz.ntmps8
    go_wp2_with fail
    refine (HTM.out u.kids _ _ _ (held2_lies H0 HL.out) (held2_lies H0 HM.out)).mono ?_
    rintro e wn ⟨rfl, hb'⟩
    have H1 := held2_call H0 hb'
    clear hb'
    go_wp2
    go_ret
    exact ⟨ret_bool (by rw [HE.out]; simp only [ek, ei, ej, en, Bool.true_and]), held2_below H1⟩
end Go.Proofs.YtgododpkbiaacaaGreat

namespace Go.Proofs.YtgododpkbiaacaaGreat
open Go.RowKit

/-- Nothing that was there has turned. -/
def Kept (w w' : World) : Prop := Below w.heap.size w w'
theorem kept_start (w : World) : Kept w w := Below.refl _ _
theorem kept_drew {w w1 : World} (h : Kept w w1) : Kept w w1.drew := Below.drew h
theorem kept_call {w w1 w2 : World} (h : Kept w w1) (hb : Below w1.heap.size w1 w2) : Kept w w2 := below_call h hb (Below.size h)
theorem kept_alloc {w w1 : World} (h : Kept w w1) (o : Obj) : Kept w (w1.alloc o) := Below.alloc h (Below.size h) o
theorem kept_lies {w w1 : World} (h : Kept w w1) {l : List Tm} {s : Value} (hl : Lies w l s) : Lies w1 l s := hl.keep h
theorem keep_block {B n : Nat} {w w' : World} {o : Obj} (hb : Below B w w') (hn : n < B) (h : w.heap[n]? = some o) : w'.heap[n]? = some o := by rw [hb.block n hn]; exact h
theorem block_lt {w : World} {n : Nat} {o : Obj} (h : w.heap[n]? = some o) : n < w.heap.size := (Array.getElem?_eq_some_iff.1 h).1

end Go.Proofs.YtgododpkbiaacaaGreat

namespace Go.Proofs.YtgododpkbiaacaaGreat

/-- Without the transports at its top. -/
def Tm.und : Tm → Tm
  | .mk k i j n [a, b, p, x] => if k = 12 then x.und else .mk k i j n [a, b, p, x]
  | t => t
termination_by t => SizeOf.sizeOf t
decreasing_by simp; omega

def purNode (k i j : Int) (l : List Tm) : Tm := if k = 12 then (l[3]?).getD (.mk 0 0 0 0 []) else .mk k i j 0 l
mutual
def Tm.pur : Tm → Tm
  | .mk k i j _ l => purNode k i j (purs l)
def purs : List Tm → List Tm
  | [] => []
  | t :: r => t.pur :: purs r
end
theorem purs_map : ∀ l : List Tm, purs l = l.map Tm.pur
  | [] => rfl
  | t :: r => by simp only [purs, List.map_cons, purs_map r]
theorem Tm.pur_eq (t : Tm) : t.pur = purNode t.k t.i t.j (t.kids.map Tm.pur) := by cases t; simp only [Tm.pur, purs_map]; rfl

theorem und_tr {t a b p x : Tm} (hk : t.k = 12) (h : t.kids = [a, b, p, x]) : t.und = x.und := by
  obtain ⟨k, i, j, n, l⟩ := t
  simp only [Tm.k, Tm.kids] at hk h
  subst hk h
  rw [Tm.und]; simp
theorem und_other {t : Tm} (hk : t.k ≠ 12) : t.und = t := by
  obtain ⟨k, i, j, n, l⟩ := t
  simp only [Tm.k] at hk
  unfold Tm.und
  split
  · rename_i h; cases h; rw [if_neg hk]
  · rfl

theorem marked_node {t : Tm} (h : t.markedB = true) : t.nodeB = true := Tm.right_node (marked_right h)
theorem marked_kind {t : Tm} (h : t.markedB = true) : 1 ≤ t.k ∧ t.k ≤ 12 := by rw [Tm.markedB_eq] at h; simp at h; omega
/-- The kids of a marked transport. -/
theorem marked_tr {t : Tm} (h : t.markedB = true) (hk : t.k = 12) : ∃ a b p x, t.kids = [a, b, p, x] ∧ a.markedB = true ∧ b.markedB = true ∧ p.plainB = true ∧ x.markedB = true := by
  have hn := marked_node h
  rcases marked_shape hn (by omega) (by omega) with ⟨h1, -⟩ | ⟨h1, -⟩ | ⟨-, a, b, p, x, hkids⟩
  · omega
  · omega
  · refine ⟨a, b, p, x, hkids, ?_⟩
    rw [Tm.markedB_eq, hkids, hk] at h
    simp [markeds] at h
    exact ⟨h.2.1, h.2.2.1, h.2.2.2.1, h.2.2.2.2⟩
theorem marked_others {t : Tm} (h : t.markedB = true) (hk : t.k ≠ 12) : ∀ x ∈ t.kids, x.markedB = true := by
  rw [Tm.markedB_eq] at h
  have e : (t.k == 12) = false := by simpa using hk
  rw [e] at h
  simp only [Bool.and_eq_true] at h
  have key : ∀ (l : List Tm) (p : Nat), markeds false p l = true → ∀ x ∈ l, x.markedB = true := by
    intro l
    induction l with
    | nil => intro p _ x hx; cases hx
    | cons a r ih =>
      intro p hm x hx
      simp only [markeds, Bool.false_and, Bool.and_eq_true] at hm
      rcases List.mem_cons.1 hx with rfl | hx
      · simpa using hm.1
      · exact ih _ hm.2 x hx
  exact key _ _ h.2.2

theorem und_marked (t : Tm) : t.markedB = true → t.und.markedB = true ∧ t.und.k ≠ 12 ∧ t.und.size ≤ t.size := by
  induction t using Tm.ind with
  | h t ih =>
    intro h
    by_cases hk : t.k = 12
    · obtain ⟨a, b, p, x, hkids, -, -, -, hx⟩ := marked_tr h hk
      rw [und_tr hk hkids]
      obtain ⟨h1, h2, h3⟩ := ih x (by rw [hkids]; simp) hx
      refine ⟨h1, h2, ?_⟩
      rw [t.size_eq, hkids]
      simp only [sizes]; omega
    · rw [und_other hk]; exact ⟨h, hk, Nat.le_refl _⟩
theorem pur_und (t : Tm) : t.markedB = true → t.pur = .mk t.und.k t.und.i t.und.j 0 (t.und.kids.map Tm.pur) := by
  induction t using Tm.ind with
  | h t ih =>
    intro h
    by_cases hk : t.k = 12
    · obtain ⟨a, b, p, x, hkids, -, -, -, hx⟩ := marked_tr h hk
      rw [und_tr hk hkids, Tm.pur_eq, purNode, if_pos hk, hkids]
      exact ih x (by rw [hkids]; simp) hx
    · rw [und_other hk, Tm.pur_eq, purNode, if_neg hk]
end Go.Proofs.YtgododpkbiaacaaGreat

namespace Go.Proofs.YtgododpkbiaacaaGreat
open Go.RowKit

/-- What a call hands back that gives a part of its argument. -/
def Parts (u : Tm) (v w : World) (e : Ending) (w' : World) : Prop := ∃ s' : Value, e = .returned (tv u s') ∧ Lies v u.kids s' ∧ Below w.heap.size w w'

/-- The box, the result; the box may hold another term than at first. -/
structure Pair (w : World) (x : Tm) (s : Value) (w' : World) : Prop where
  under : Below w.heap.size w w'
  box : w'.heap[w.heap.size]? = some (boxOf x s)
  res : w'.heap[w.heap.size + 1]? = some zeroObj
theorem Pair.put {w w1 : World} {x : Tm} {s : Value} (h : Pair w x s w1) (y : Tm) (sy : Value) : Pair w y sy (five w1 w.heap.size (.int .i64 y.k) (.int .i64 y.i) (.int .i64 y.j) (.int .i64 y.n) sy) :=
  ⟨below_five h.under (Nat.le_refl _) _ _ _ _ _, five_set h.box, by rw [five_other _ _ _ _ _ _ _ (by omega)]; exact h.res⟩
theorem pair_start (w : World) (t : Tm) (s : Value) : Pair w t s ((w.alloc (.cells #[.int .i64 t.k, .int .i64 t.i, .int .i64 t.j, .int .i64 t.n, s] 25)).alloc (.cells #[.int .i64 0, .int .i64 0, .int .i64 0, .int .i64 0, .slice none 0 0] 25)) :=
  ⟨((Below.refl _ _).alloc (Nat.le_refl _) _).alloc (by simp) _, by rw [Below.heap_alloc _ _ _ (by simp), alloc_new]; rfl, heap_alloc2_new _ _ _⟩

set_option maxRecDepth 20000 in
set_option maxHeartbeats 2000000 in
theorem under_any (t : Tm) (v w : World) (s : Value) (hl : Lies v t.kids s) (hv : Below v.heap.size v w) (hm : t.markedB = true) : Calls Tryz.prog 63 #[tv t s] w (Parts t.und v w) := by
  obtain ⟨du, hu1, hu2⟩ := under_term
  have hp0 := pair_start w t s
  obtain ⟨a0, cap0, S0, rfl, -⟩ := hl.out
  have HL := Lib.hid hl
  have HM := Lib.hid hm
  clear hl hm
  unfold tv
  go_enter Tryz.func63, Tryz.ntmps63
  go_wp2_with fail
  go_loopg [] t.size (fun g wr => ∃ (x : Tm) (sx : Value), g = x.size ∧ Pair w x sx wr ∧ Lies v x.kids sx ∧ x.markedB = true ∧ Hid (x.und = t.und))
  case atStart => exact ⟨t, _, rfl, hp0, HL.out, HM.out, rfl⟩
  case round =>
    clear hp0
    obtain ⟨x, sx, hg, hp, hlx, hmx, hux⟩ := hrel
    have HG := Lib.hid hg
    obtain ⟨ax, cx, Sx, rfl, hcx, hmaxx, -, hn, hkk⟩ := hlx.out
    have HLX := Lib.hid hlx
    unfold maxLen at hmaxx
    clear hlx
    obtain ⟨d0, d1, d2, d3, d4⟩ := five_cells hp.box
    obtain ⟨e0, e1, e2, e3, e4⟩ := five_free hp.box
    obtain ⟨z0, z1, z2, z3, z4⟩ := five_cells hp.res
    obtain ⟨f0, f1, f2, f3, f4⟩ := five_free hp.res
    by_cases hk : x.k = 12
    · have ek : (x.k == 12) = true := by simpa using hk
      obtain ⟨a, b, p, y, hkids, -, -, -, hy⟩ := marked_tr hmx hk
      have hund := und_tr hk hkids
      have hsz : y.size < x.size := by rw [x.size_eq, hkids]; simp only [sizes]; omega
      have h3 : 3 < x.kids.length := by rw [hkids]; show 3 < 4; omega
      have hy3 : x.kids[3] = y := by simp [hkids]
      obtain ⟨b', o, rfl, hx⟩ := hn 3 h3
      have hly := hkk 3 h3
      rw [hy3] at hx hly
      obtain ⟨ay, cy, Sy, hSy, -⟩ := hly.out
      rw [hSy] at hly hx
      obtain ⟨c0, c1, c2, c3, c4⟩ : Node _ b' (o + 15) y (.slice ay y.kids.length cy) := hx.below (hv.trans (hp.under.mono hv.size)) hx.lt
      have HY := Lib.hid (And.intro hly (And.intro hy (hund.symm.trans hux.out)))
      have HSZ := Lib.hid hsz
      have HP := Lib.hid hp
      clear hg hmx hund hk hkids hn hkk hly hSy hx hy hsz hux HLX hy3
      go_wp2
      go_roundg y.size
      case measure => rw [HG.out]; exact HSZ.out
      case rel => exact ⟨y, _, rfl, HP.out.put y _, HY.out.1, HY.out.2.1, HY.out.2.2⟩
    · have ek : (x.k == 12) = false := by simpa using hk
      have hxu : x = t.und := by rw [← hux.out, und_other hk]
      have HXU := Lib.hid hxu
      clear hg hux hxu hk hmx hn hkk
      go_wp2
      refine bodyPost_ret (results_cell_row rfl _ _ (w.heap.size + 1) _ _ _ du rfl (five_set hp.res) hu1 (by cases du <;> first | rfl | exact hu2) size_term) rfl ?_
      rw [← HXU.out]
      have hb := below_five hp.under (g := w.heap.size + 1) (by omega) (.int .i64 x.k) (.int .i64 x.i) (.int .i64 x.j) (.int .i64 x.n) (.slice ax x.kids.length cx)
      exact ⟨_, rfl, HLX.out, hb⟩
end Go.Proofs.YtgododpkbiaacaaGreat

namespace Go.Proofs.YtgododpkbiaacaaGreat
open Go.RowKit

/-- Two boxes; they may hold other terms than at first. -/
structure Two (w : World) (x : Tm) (s : Value) (y : Tm) (r : Value) (w' : World) : Prop where
  under : Below w.heap.size w w'
  one : w'.heap[w.heap.size]? = some (boxOf x s)
  two : w'.heap[w.heap.size + 1]? = some (boxOf y r)
theorem two_start (w : World) (a : Tm) (s : Value) (b : Tm) (r : Value) : Two w a s b r ((w.alloc (.cells #[.int .i64 a.k, .int .i64 a.i, .int .i64 a.j, .int .i64 a.n, s] 25)).alloc (.cells #[.int .i64 b.k, .int .i64 b.i, .int .i64 b.j, .int .i64 b.n, r] 25)) :=
  ⟨((Below.refl _ _).alloc (Nat.le_refl _) _).alloc (by simp) _, by rw [Below.heap_alloc _ _ _ (by simp), alloc_new]; rfl, heap_alloc2_new _ _ _⟩
theorem Two.call {w w1 w2 : World} {x y : Tm} {s r : Value} (h : Two w x s y r w1) (hb : Below w1.heap.size w1 w2) : Two w x s y r w2 :=
  ⟨h.under.trans (hb.mono h.under.size), by rw [hb.block _ (block_lt h.one)]; exact h.one, by rw [hb.block _ (block_lt h.two)]; exact h.two⟩
theorem Two.drew {w w1 : World} {x y : Tm} {s r : Value} (h : Two w x s y r w1) : Two w x s y r w1.drew := ⟨h.under.drew, h.one, h.two⟩
theorem Two.put {w w1 : World} {x y : Tm} {s r : Value} (h : Two w x s y r w1) (p : Tm) (sp : Value) (q : Tm) (sq : Value) : Two w p sp q sq (five (five w1 w.heap.size (.int .i64 p.k) (.int .i64 p.i) (.int .i64 p.j) (.int .i64 p.n) sp) (w.heap.size + 1) (.int .i64 q.k) (.int .i64 q.i) (.int .i64 q.j) (.int .i64 q.n) sq) :=
  ⟨below_five (below_five h.under (Nat.le_refl _) _ _ _ _ _) (by omega) _ _ _ _ _, by rw [five_other _ _ _ _ _ _ _ (by omega)]; exact five_set h.one, five_set (by rw [five_other _ _ _ _ _ _ _ (by omega)]; exact h.two)⟩

/-- What is asked of two terms. -/
theorem pur_same {t u : Tm} (ht : t.markedB = true) (hu : u.markedB = true) : sameB t.pur u.pur = ((t.und.k == u.und.k) && ((t.und.i == u.und.i) && ((t.und.j == u.und.j) && samesB (t.und.kids.map Tm.pur) (u.und.kids.map Tm.pur)))) := by
  rw [pur_und t ht, pur_und u hu, sameB_eq]; simp [Tm.k, Tm.i, Tm.j, Tm.n, Tm.kids]
theorem marked_lens {x y : Tm} (hx : x.markedB = true) (hy : y.markedB = true) (h : x.k = y.k) : x.kids.length = y.kids.length := by
  have h1 := node_length (marked_node hx)
  have h2 := node_length (marked_node hy)
  have h3 := marked_kind hx
  have : kidsN x.k x.n = kidsN y.k y.n := by
    rw [← h]; unfold kidsN; have : x.k = 1 ∨ x.k = 2 ∨ x.k = 3 ∨ x.k = 4 ∨ x.k = 5 ∨ x.k = 6 ∨ x.k = 7 ∨ x.k = 8 ∨ x.k = 9 ∨ x.k = 10 ∨ x.k = 11 ∨ x.k = 12 := by omega
    rcases this with e | e | e | e | e | e | e | e | e | e | e | e <;> simp [e]
  omega

set_option maxRecDepth 20000 in
set_option maxHeartbeats 2000000 in
theorem alike_any : ∀ (n : Nat) (t u : Tm) (w : World) (s r : Value), t.size ≤ n → Lies w t.kids s → Lies w u.kids r → t.markedB = true → u.markedB = true → Calls Tryz.prog 35 #[tv t s, tv u r] w fun e w' => e = .returned (.bool (sameB t.pur u.pur)) ∧ Below w.heap.size w w' := by
  intro n
  induction n with
  | zero => intro t u w s r hn; have := size_pos t; omega
  | succ n ih =>
    intro t u w s r hn hl hm htm hum
    have HE := Lib.hid (pur_same htm hum)
    have h0 := two_start w t s u r
    obtain ⟨a0, cap0, S0, rfl, -⟩ := hl.out
    obtain ⟨a1, cap1, S1, rfl, -⟩ := hm.out
    have HL := Lib.hid hl
    have HM := Lib.hid hm
    obtain ⟨hxm, hxk, hxs⟩ := und_marked t htm
    obtain ⟨hym, hyk, hys⟩ := und_marked u hum
    obtain ⟨X, hX⟩ : ∃ X, t.und = X := ⟨_, rfl⟩
    obtain ⟨Y, hY⟩ : ∃ Y, u.und = Y := ⟨_, rfl⟩
    rw [hX] at hxm hxk hxs HE
    rw [hY] at hym hyk hys HE
    have hlen := right_len (marked_right hxm)
    have HKX := Lib.hid (marked_others hxm hxk)
    have HKY := Lib.hid (marked_others hym hyk)
    have HX := Lib.hid hX
    have HY := Lib.hid hY
    have HT := Lib.hid htm
    have HU := Lib.hid hum
    have hls : X.k = Y.k → X.kids.length = Y.kids.length := marked_lens hxm hym
    have HLS := Lib.hid hls
    have IH := Lib.hid ih
    have hsx := X.size_eq
    have hsk : ∀ x ∈ X.kids, x.size ≤ n := fun x hx => by have := size_mem _ x hx; omega
    have HSK := Lib.hid hsk
    clear hl hm ih hsk hsx hX hY htm hum hxm hym hxk hyk hxs hys hls hn
    unfold tv
    cases ek : (X.k == Y.k)
    · have nek : (X.k != Y.k) = true := by simp only [bne, ek, Bool.not_false]
      go_enter Tryz.func35, Tryz.ntmps35
      go_wp2_with fail
      obtain ⟨d0, d1, d2, d3, d4⟩ := five_cells h0.one
      obtain ⟨c0, c1, c2, c3, c4⟩ := five_cells h0.two
      go_region_law (first | (go_simp; go_at_call 63; (with_reducible refine Calls.mono (under_any u w _ _ HM.out (by repeat (first | exact h2.under | refine Below.drew ?_)) HU.out) ?_); rw [HY.out]; rintro e wn ⟨s3, rfl, hl3, hbn⟩; obtain ⟨a3, cap3, S3, rfl, hc3, hm3, -, hn3, hk3⟩ := hl3.out; have HMX3 := Lib.hid (And.intro hc3 hm3); have HN2 := Lib.hid hn3; have HK2 := Lib.hid hk3; clear hc3 hm3 hn3 hk3; have HL3 := Lib.hid hl3; have hh : Two w t (.slice a0 t.kids.length cap0) u (.slice a1 u.kids.length cap1) wn := Two.call (by repeat (first | exact h2 | refine Two.drew ?_)) hbn; have H3 := Lib.hid hh; obtain ⟨x0, x1, x2, x3, x4⟩ := five_cells hh.one; obtain ⟨y0, y1, y2, y3, y4⟩ := five_cells hh.two; obtain ⟨e0, e1, e2, e3, e4⟩ := five_free hh.one; obtain ⟨f0, f1, f2, f3, f4⟩ := five_free hh.two; clear hbn hl3 hh) | (go_simp; go_at_call 63; (with_reducible refine Calls.mono (under_any t w _ _ HL.out (by repeat (first | exact h0.under | refine Below.drew ?_)) HT.out) ?_); rw [HX.out]; rintro e wn ⟨s2, rfl, hl2, hbn⟩; obtain ⟨a2, cap2, S2, rfl, hc2, hm2, -, hn2, hk2⟩ := hl2.out; have HMX2 := Lib.hid (And.intro hc2 hm2); have HN := Lib.hid hn2; have HK := Lib.hid hk2; clear hc2 hm2 hn2 hk2; have HL2 := Lib.hid hl2; have h2 : Two w t (.slice a0 t.kids.length cap0) u (.slice a1 u.kids.length cap1) wn := Two.call (by repeat (first | exact h0 | refine Two.drew ?_)) hbn; obtain ⟨x0, x1, x2, x3, x4⟩ := five_cells h2.one; obtain ⟨y0, y1, y2, y3, y4⟩ := five_cells h2.two; clear hbn hl2))
      all_goals
        go_wp2
        go_ret
        exact ⟨ret_bool (by rw [HE.out]; simp only [ek, Bool.false_and]), (H3.out.put X (.slice a2 X.kids.length cap2) Y (.slice a3 Y.kids.length cap3)).under⟩
    have nek : (X.k != Y.k) = false := by simp only [bne, ek, Bool.not_true]
    cases ei : (X.i == Y.i)
    · have nei : (X.i != Y.i) = true := by simp only [bne, ei, Bool.not_false]
      go_enter Tryz.func35, Tryz.ntmps35
      go_wp2_with fail
      obtain ⟨d0, d1, d2, d3, d4⟩ := five_cells h0.one
      obtain ⟨c0, c1, c2, c3, c4⟩ := five_cells h0.two
      go_region_law (first | (go_simp; go_at_call 63; (with_reducible refine Calls.mono (under_any u w _ _ HM.out (by repeat (first | exact h2.under | refine Below.drew ?_)) HU.out) ?_); rw [HY.out]; rintro e wn ⟨s3, rfl, hl3, hbn⟩; obtain ⟨a3, cap3, S3, rfl, hc3, hm3, -, hn3, hk3⟩ := hl3.out; have HMX3 := Lib.hid (And.intro hc3 hm3); have HN2 := Lib.hid hn3; have HK2 := Lib.hid hk3; clear hc3 hm3 hn3 hk3; have HL3 := Lib.hid hl3; have hh : Two w t (.slice a0 t.kids.length cap0) u (.slice a1 u.kids.length cap1) wn := Two.call (by repeat (first | exact h2 | refine Two.drew ?_)) hbn; have H3 := Lib.hid hh; obtain ⟨x0, x1, x2, x3, x4⟩ := five_cells hh.one; obtain ⟨y0, y1, y2, y3, y4⟩ := five_cells hh.two; obtain ⟨e0, e1, e2, e3, e4⟩ := five_free hh.one; obtain ⟨f0, f1, f2, f3, f4⟩ := five_free hh.two; clear hbn hl3 hh) | (go_simp; go_at_call 63; (with_reducible refine Calls.mono (under_any t w _ _ HL.out (by repeat (first | exact h0.under | refine Below.drew ?_)) HT.out) ?_); rw [HX.out]; rintro e wn ⟨s2, rfl, hl2, hbn⟩; obtain ⟨a2, cap2, S2, rfl, hc2, hm2, -, hn2, hk2⟩ := hl2.out; have HMX2 := Lib.hid (And.intro hc2 hm2); have HN := Lib.hid hn2; have HK := Lib.hid hk2; clear hc2 hm2 hn2 hk2; have HL2 := Lib.hid hl2; have h2 : Two w t (.slice a0 t.kids.length cap0) u (.slice a1 u.kids.length cap1) wn := Two.call (by repeat (first | exact h0 | refine Two.drew ?_)) hbn; obtain ⟨x0, x1, x2, x3, x4⟩ := five_cells h2.one; obtain ⟨y0, y1, y2, y3, y4⟩ := five_cells h2.two; clear hbn hl2))
      all_goals
        go_wp2
        go_ret
        exact ⟨ret_bool (by rw [HE.out]; simp only [ek, ei, Bool.false_and, Bool.true_and]), (H3.out.put X (.slice a2 X.kids.length cap2) Y (.slice a3 Y.kids.length cap3)).under⟩
    have nei : (X.i != Y.i) = false := by simp only [bne, ei, Bool.not_true]
    cases ej : (X.j == Y.j)
    · have nej : (X.j != Y.j) = true := by simp only [bne, ej, Bool.not_false]
      go_enter Tryz.func35, Tryz.ntmps35
      go_wp2_with fail
      obtain ⟨d0, d1, d2, d3, d4⟩ := five_cells h0.one
      obtain ⟨c0, c1, c2, c3, c4⟩ := five_cells h0.two
      go_region_law (first | (go_simp; go_at_call 63; (with_reducible refine Calls.mono (under_any u w _ _ HM.out (by repeat (first | exact h2.under | refine Below.drew ?_)) HU.out) ?_); rw [HY.out]; rintro e wn ⟨s3, rfl, hl3, hbn⟩; obtain ⟨a3, cap3, S3, rfl, hc3, hm3, -, hn3, hk3⟩ := hl3.out; have HMX3 := Lib.hid (And.intro hc3 hm3); have HN2 := Lib.hid hn3; have HK2 := Lib.hid hk3; clear hc3 hm3 hn3 hk3; have HL3 := Lib.hid hl3; have hh : Two w t (.slice a0 t.kids.length cap0) u (.slice a1 u.kids.length cap1) wn := Two.call (by repeat (first | exact h2 | refine Two.drew ?_)) hbn; have H3 := Lib.hid hh; obtain ⟨x0, x1, x2, x3, x4⟩ := five_cells hh.one; obtain ⟨y0, y1, y2, y3, y4⟩ := five_cells hh.two; obtain ⟨e0, e1, e2, e3, e4⟩ := five_free hh.one; obtain ⟨f0, f1, f2, f3, f4⟩ := five_free hh.two; clear hbn hl3 hh) | (go_simp; go_at_call 63; (with_reducible refine Calls.mono (under_any t w _ _ HL.out (by repeat (first | exact h0.under | refine Below.drew ?_)) HT.out) ?_); rw [HX.out]; rintro e wn ⟨s2, rfl, hl2, hbn⟩; obtain ⟨a2, cap2, S2, rfl, hc2, hm2, -, hn2, hk2⟩ := hl2.out; have HMX2 := Lib.hid (And.intro hc2 hm2); have HN := Lib.hid hn2; have HK := Lib.hid hk2; clear hc2 hm2 hn2 hk2; have HL2 := Lib.hid hl2; have h2 : Two w t (.slice a0 t.kids.length cap0) u (.slice a1 u.kids.length cap1) wn := Two.call (by repeat (first | exact h0 | refine Two.drew ?_)) hbn; obtain ⟨x0, x1, x2, x3, x4⟩ := five_cells h2.one; obtain ⟨y0, y1, y2, y3, y4⟩ := five_cells h2.two; clear hbn hl2))
      all_goals
        go_wp2
        go_ret
        exact ⟨ret_bool (by rw [HE.out]; simp only [ek, ei, ej, Bool.false_and, Bool.true_and]), (H3.out.put X (.slice a2 X.kids.length cap2) Y (.slice a3 Y.kids.length cap3)).under⟩
    have nej : (X.j != Y.j) = false := by simp only [bne, ej, Bool.not_true]
    go_enter Tryz.func35, Tryz.ntmps35
    go_wp2_with fail
    obtain ⟨d0, d1, d2, d3, d4⟩ := five_cells h0.one
    obtain ⟨c0, c1, c2, c3, c4⟩ := five_cells h0.two
    go_region_law (first | (go_simp; go_at_call 63; (with_reducible refine Calls.mono (under_any u w _ _ HM.out (by repeat (first | exact h2.under | refine Below.drew ?_)) HU.out) ?_); rw [HY.out]; rintro e wn ⟨s3, rfl, hl3, hbn⟩; obtain ⟨a3, cap3, S3, rfl, hc3, hm3, -, hn3, hk3⟩ := hl3.out; have HMX3 := Lib.hid (And.intro hc3 hm3); have HN2 := Lib.hid hn3; have HK2 := Lib.hid hk3; clear hc3 hm3 hn3 hk3; have HL3 := Lib.hid hl3; have hh : Two w t (.slice a0 t.kids.length cap0) u (.slice a1 u.kids.length cap1) wn := Two.call (by repeat (first | exact h2 | refine Two.drew ?_)) hbn; have H3 := Lib.hid hh; obtain ⟨x0, x1, x2, x3, x4⟩ := five_cells hh.one; obtain ⟨y0, y1, y2, y3, y4⟩ := five_cells hh.two; obtain ⟨e0, e1, e2, e3, e4⟩ := five_free hh.one; obtain ⟨f0, f1, f2, f3, f4⟩ := five_free hh.two; clear hbn hl3 hh) | (go_simp; go_at_call 63; (with_reducible refine Calls.mono (under_any t w _ _ HL.out (by repeat (first | exact h0.under | refine Below.drew ?_)) HT.out) ?_); rw [HX.out]; rintro e wn ⟨s2, rfl, hl2, hbn⟩; obtain ⟨a2, cap2, S2, rfl, hc2, hm2, -, hn2, hk2⟩ := hl2.out; have HMX2 := Lib.hid (And.intro hc2 hm2); have HN := Lib.hid hn2; have HK := Lib.hid hk2; clear hc2 hm2 hn2 hk2; have HL2 := Lib.hid hl2; have h2 : Two w t (.slice a0 t.kids.length cap0) u (.slice a1 u.kids.length cap1) wn := Two.call (by repeat (first | exact h0 | refine Two.drew ?_)) hbn; obtain ⟨x0, x1, x2, x3, x4⟩ := five_cells h2.one; obtain ⟨y0, y1, y2, y3, y4⟩ := five_cells h2.two; clear hbn hl2))

    all_goals
      have hlx : X.kids.length = Y.kids.length := HLS.out (by simpa using ek)
      have HLX := Lib.hid hlx
      have h4 := H3.out.put X (.slice a2 X.kids.length cap2) Y (.slice a3 Y.kids.length cap3)
      unfold five at h4
      generalize ((((((((((wn.setCell ⟨w.heap.size, 0, none⟩ (.int .i64 X.k)).setCell ⟨w.heap.size, 1, none⟩ (.int .i64 X.i)).setCell ⟨w.heap.size, 2, none⟩ (.int .i64 X.j)).setCell ⟨w.heap.size, 3, none⟩ (.int .i64 X.n)).setCell ⟨w.heap.size, 4, none⟩ (.slice a2 X.kids.length cap2)).setCell ⟨w.heap.size + 1, 0, none⟩ (.int .i64 Y.k)).setCell ⟨w.heap.size + 1, 1, none⟩ (.int .i64 Y.i)).setCell ⟨w.heap.size + 1, 2, none⟩ (.int .i64 Y.j)).setCell ⟨w.heap.size + 1, 3, none⟩ (.int .i64 Y.n)).setCell ⟨w.heap.size + 1, 4, none⟩ (.slice a3 Y.kids.length cap3)) = W4 at h4 ⊢
      have hmx := HMX2.out
      unfold maxLen at hmx
      clear x0 x1 x2 x3 x4 y0 y1 y2 y3 y4 e0 e1 e2 e3 e4 f0 f1 f2 f3 f4 hlx h2 h0
      have HE2 : Hid (sameB t.pur u.pur = samesB (X.kids.map Tm.pur) (Y.kids.map Tm.pur)) := by show _ = _; rw [HE.out]; simp only [ek, ei, ej, Bool.true_and]
      obtain ⟨p0, p1, p2, p3, p4⟩ := five_cells h4.one
      obtain ⟨q0, q1, q2, q3, q4⟩ := five_cells h4.two
      go_wp2_with fail
      go_loopw [33] (fun iv wr => ∃ k : Nat, k ≤ X.kids.length ∧ iv = .int .i64 k ∧ Hid (samesB ((X.kids.map Tm.pur).take k) ((Y.kids.map Tm.pur).take k) = true) ∧ Two w X (.slice a2 X.kids.length cap2) Y (.slice a3 Y.kids.length cap3) wr) (fun iv _ => X.kids.length - (intOf iv).toNat)
      case atStart => exact ⟨0, Nat.zero_le _, rfl, by simp [Hid, samesB], h4⟩
      case round =>
        clear p0 p1 p2 p3 p4 q0 q1 q2 q3 q4 h4
        obtain ⟨k, hk, rfl, hgood, hh⟩ := hrel
        have hb := hh.under
        obtain ⟨p0, p1, p2, p3, p4⟩ := five_cells hh.one
        obtain ⟨q0, q1, q2, q3, q4⟩ := five_cells hh.two
        by_cases hlt : k < X.kids.length
        · have hlt2 : k < Y.kids.length := by have := HLX.out; omega
          obtain ⟨b, o, rfl, hx⟩ := HN.out k hlt
          obtain ⟨b2, o2, rfl, hx2⟩ := HN2.out k hlt2
          have hq := HK.out k hlt
          have hq2 := HK2.out k hlt2
          obtain ⟨a', cap', S', hS, -⟩ := hq.out
          obtain ⟨a2', cap2', S2', hS2, -⟩ := hq2.out
          rw [hS] at hx hq
          rw [hS2] at hx2 hq2
          obtain ⟨c0, c1, c2, c3, c4⟩ := hx.below hb hx.lt
          have hbn : Below wr.heap.size wr (wr.alloc (.cells #[.int .i64 X.kids[k].k, .int .i64 X.kids[k].i, .int .i64 X.kids[k].j, .int .i64 X.kids[k].n, .slice a' X.kids[k].kids.length cap'] 25)) := (Below.refl _ _).alloc (Nat.le_refl _) _
          have hbw := hb.trans (hbn.mono hb.size)
          have hh2 := hh.call hbn
          obtain ⟨f0, f1, f2, f3, f4⟩ := five_cells hh2.one
          obtain ⟨g0, g1, g2, g3, g4⟩ := five_cells hh2.two
          obtain ⟨n0, n1, n2, n3, n4⟩ := five_cells (alloc_new wr (.cells #[.int .i64 X.kids[k].k, .int .i64 X.kids[k].i, .int .i64 X.kids[k].j, .int .i64 X.kids[k].n, .slice a' X.kids[k].kids.length cap'] 25))
          obtain ⟨e0, e1, e2, e3, e4⟩ := hx2.below hbw hx2.lt
          have HMem := Lib.hid (List.getElem_mem hlt)
          have HMem2 := Lib.hid (List.getElem_mem hlt2)
          have CALL := Lib.hid (IH.out X.kids[k] Y.kids[k] (wr.alloc (.cells #[.int .i64 X.kids[k].k, .int .i64 X.kids[k].i, .int .i64 X.kids[k].j, .int .i64 X.kids[k].n, .slice a' X.kids[k].kids.length cap'] 25)).drew _ _ (HSK.out _ HMem.out) (hq.keep hbw.drew) (hq2.keep hbw.drew) (HKX.out _ HMem.out) (HKY.out _ HMem2.out))
          have hT := sames_take (X.kids.map Tm.pur) (Y.kids.map Tm.pur) k (by simpa using hlt) (by simpa using hlt2)
          have hO := sames_of (X.kids.map Tm.pur) (Y.kids.map Tm.pur) k (by simpa using hlt) (by simpa using hlt2)
          simp only [List.getElem_map] at hT hO
          have HTK := Lib.hid hT
          have HOK := Lib.hid hO
          clear hS hS2 hq hq2 hT hO hbn hbw hx hx2
          go_wp2
          go_region_with (go_at_call 35; refine CALL.out.mono ?_; rintro e wn ⟨rfl, hb'⟩; have HB3 := Two.call (Two.drew hh2) hb'; clear hb'; obtain ⟨x0, x1, x2, x3, x4⟩ := five_cells HB3.one; obtain ⟨y0, y1, y2, y3, y4⟩ := five_cells HB3.two)
          all_goals
            clear hh hh2 e0 e1 e2 e3 e4 f0 f1 f2 f3 f4 g0 g1 g2 g3 g4 n0 n1 n2 n3 n4 c0 c1 c2 c3 c4 p0 p1 p2 p3 p4 q0 q1 q2 q3 q4 hb
            cases hs : sameB X.kids[k].pur Y.kids[k].pur
            · go_wp2
              go_ret
              exact ⟨ret_bool (by rw [HE2.out]; exact (HOK.out hs).symm), HB3.under⟩
            · go_wp2
              go_roundw
              case rel => exact ⟨k + 1, by omega, by go_num, by show _ = true; rw [HTK.out, hgood.out, hs]; rfl, HB3⟩
              case measure => simp [intOf]; omega
        · have : k = X.kids.length := by omega
          subst this
          go_wp2
          go_ret
          exact ⟨ret_bool (by have hg := hgood.out; rw [List.take_of_length_le (by simp), List.take_of_length_le (by rw [List.length_map, HLX.out]; exact Nat.le_refl _)] at hg; rw [HE2.out]; exact hg.symm), hb⟩
end Go.Proofs.YtgododpkbiaacaaGreat

namespace Go.Proofs.YtgododpkbiaacaaGreat
open Go.RowKit

set_option maxHeartbeats 1000000 in
theorem refnode_any (t : Tm) (w : World) (s : Value) (hl : Lies w t.kids s) : Calls Tryz.prog 33 #[tv t s] w fun e w' => e = .returned (.bool t.nodeB) ∧ Below w.heap.size w w' := by
  obtain ⟨a, cap, S, hs, hc, hm, -⟩ := hl.out
  subst hs
  unfold maxLen at hm
  have HB := (Below.refl (w.heap.size + 1) (w.alloc (.cells #[.int .i64 t.k, .int .i64 t.i, .int .i64 t.j, .int .i64 t.n, .slice a t.kids.length cap] 25)))
  have HBX := Lib.hid (fun (wr : World) => box_cells (w := w) (wr := wr) (v0 := .int .i64 t.k) (v1 := .int .i64 t.i) (v2 := .int .i64 t.j) (v3 := .int .i64 t.n) (v4 := .slice a t.kids.length cap) (T := 25))
  clear hl
  unfold tv
  go_enter Tryz.func33, Tryz.ntmps33
  cases h3 : ((t.kids.length : Int) == kidsN t.k t.n)
  · go_wp2
    go_region_with (go_at_call 61; refine (refkids_any _ _ _).mono ?_; rintro e w1 ⟨rfl, hb1⟩; have HB2 := below_call HB.drew hb1 (by simp); obtain ⟨d0, d1, d2, d3, d4⟩ := HBX.out _ HB2; clear hb1)
    all_goals
      go_wp2
      go_ret
      exact ⟨ret_bool (by simp only [Tm.nodeB, h3, Bool.false_and]), below_of_box HB2⟩
  · go_wp2
    go_region_held3 (fun w' => w'.cell? ⟨w.heap.size, 0, none⟩ = some (.int .i64 t.k) ∧ w'.cell? ⟨w.heap.size, 1, none⟩ = some (.int .i64 t.i) ∧ w'.cell? ⟨w.heap.size, 2, none⟩ = some (.int .i64 t.j) ∧ w'.cell? ⟨w.heap.size, 3, none⟩ = some (.int .i64 t.n) ∧ w'.cell? ⟨w.heap.size, 4, none⟩ = some (.slice a t.kids.length cap)) (go_keep)
      (first | (go_at_call 61; refine (refkids_any _ _ _).mono ?_; rintro e w1 ⟨rfl, hb1⟩; have HB2 := below_call HB.drew hb1 (by simp); obtain ⟨d0, d1, d2, d3, d4⟩ := HBX.out _ HB2; clear hb1) | (go_at_call 62; refine (refnumbers_any t _ _).mono ?_; rintro e w2 ⟨rfl, hb2⟩; have HB3 := below_call HB2 hb2 (by have := HB2.size; simpa using this); obtain ⟨y0, y1, y2, y3, y4⟩ := HBX.out _ HB3; clear hb2))
    go_wp2
    go_ret
    exact ⟨ret_bool (by simp only [Tm.nodeB, h3, Bool.true_and]), below_of_box HB3⟩

set_option maxHeartbeats 1000000 in
theorem refplain_any (t : Tm) : ∀ (w : World) (s : Value), Lies w t.kids s → Calls Tryz.prog 34 #[tv t s] w fun e w' => e = .returned (.bool t.plainB) ∧ Below w.heap.size w w' := by
  induction t using Tm.ind with
  | h t ih =>
    intro w s hl
    obtain ⟨a, cap, S, rfl, hc, hm, hf, hn, hk⟩ := hl.out
    unfold tv
    unfold maxLen at hm
    have HL := Lib.hid ((hl.keep (w' := w.alloc (.cells #[.int .i64 t.k, .int .i64 t.i, .int .i64 t.j, .int .i64 t.n, .slice a t.kids.length cap] 25)) ((Below.refl _ _).alloc (Nat.le_refl _) _)))
    have HP := Lib.hid (t.plainB_eq)
    have IH := Lib.hid ih
    have HN := Lib.hid hn
    have HK := Lib.hid hk
    have HBX := Lib.hid (fun (wr : World) => box_cells (w := w) (wr := wr) (v0 := .int .i64 t.k) (v1 := .int .i64 t.i) (v2 := .int .i64 t.j) (v3 := .int .i64 t.n) (v4 := .slice a t.kids.length cap) (T := 25))
    clear ih hn hk hf hl
    by_cases hkind : t.k = 1 ∨ t.k = 2 ∨ (13 ≤ t.k ∧ t.k ≤ 23)
    rotate_left
    · have h1 : (t.k == 1) = false := by simp; omega
      have h2 : (t.k == 2) = false := by simp; omega
      have h5 : t.plainB = false := by rw [HP.out, h1, h2]; simp; omega
      have H5 := Lib.hid h5
      clear h5
      have h1' : (t.k != 1) = true := by simp; omega
      have h2' : (t.k != 2) = true := by simp; omega
      have h3 : t.k < 13 ∨ 23 < t.k := by omega
      rcases h3 with h3 | h3
      all_goals
        go_enter Tryz.func34, Tryz.ntmps34
        go_wp2
        go_ret
        exact ⟨ret_bool H5.out.symm, (Below.refl _ _).alloc (Nat.le_refl _) _⟩
    have hkb : (t.k == 1 || (t.k == 2 || (decide (13 ≤ t.k) && decide (t.k ≤ 23)))) = true := by simp; omega
    have HP2 : Hid (t.plainB = (t.nodeB && plains t.kids)) := by have := HP.out; rw [hkb, Bool.true_and] at this; exact this
    clear hkb
    have hk3 : t.k = 1 ∨ t.k = 2 ∨ (¬ t.k = 1 ∧ ¬ t.k = 2 ∧ 13 ≤ t.k ∧ t.k ≤ 23) := by omega
    have hb3 : ((t.k != 1) = false) ∨ ((t.k != 1) = true ∧ (t.k != 2) = false) ∨ ((t.k != 1) = true ∧ (t.k != 2) = true ∧ 13 ≤ t.k ∧ t.k ≤ 23) := by
      rcases hk3 with h | h | h
      · left; simp [h]
      · right; left; simp [h]
      · right; right; simp; omega
    clear hk3 hkind
    cases hn : t.nodeB with
    | false =>
      have h5 : t.plainB = false := by rw [HP2.out, hn]; rfl
      have H5 := Lib.hid h5
      have HNN := Lib.hid hn
      clear h5 hn
      rcases hb3 with h1 | ⟨h1, h2⟩ | ⟨h1, h2, h3, h4⟩
      all_goals
        go_enter Tryz.func34, Tryz.ntmps34
        go_wp2_with fail
        refine (refnode_any t _ _ HL.out).mono ?_
        rintro e w1 ⟨rfl, hb'⟩
        have HB2 := below_call (Below.refl (w.heap.size + 1) (w.alloc (.cells #[.int .i64 t.k, .int .i64 t.i, .int .i64 t.j, .int .i64 t.n, .slice a t.kids.length cap] 25))) hb' (by simp)
        obtain ⟨d0, d1, d2, d3, d4⟩ := HBX.out _ HB2
        clear hb'
        rw [HNN.out]
        go_wp2
        go_ret
        exact ⟨ret_bool H5.out.symm, below_of_box HB2⟩
    | true =>
      have HNN := Lib.hid hn
      clear hn
      rcases hb3 with h1 | ⟨h1, h2⟩ | ⟨h1, h2, h3, h4⟩
      all_goals
        go_enter Tryz.func34, Tryz.ntmps34
        go_wp2_with fail
        refine (refnode_any t _ _ HL.out).mono ?_
        rintro e w1 ⟨rfl, hb'⟩
        have HB2 := below_call (Below.refl (w.heap.size + 1) (w.alloc (.cells #[.int .i64 t.k, .int .i64 t.i, .int .i64 t.j, .int .i64 t.n, .slice a t.kids.length cap] 25))) hb' (by simp)
        obtain ⟨d0, d1, d2, d3, d4⟩ := HBX.out _ HB2
        clear hb'
        rw [HNN.out]
        go_wp2_with fail
        go_loopw [3] (fun iv wr => ∃ k : Nat, k ≤ t.kids.length ∧ iv = .int .i64 k ∧ Hid (plains (t.kids.take k) = true) ∧ Below (w.heap.size + 1) (w.alloc (.cells #[.int .i64 t.k, .int .i64 t.i, .int .i64 t.j, .int .i64 t.n, .slice a t.kids.length cap] 25)) wr) (fun iv _ => t.kids.length - (intOf iv).toNat)
        case atStart => exact ⟨0, Nat.zero_le _, rfl, by simp [Hid, plains], HB2⟩
        case round =>
          obtain ⟨k, hk, rfl, hgood, hb⟩ := hrel
          obtain ⟨d0, d1, d2, d3, d4⟩ := HBX.out _ hb
          have hb0 := below_of_box hb
          by_cases hlt : k < t.kids.length
          · obtain ⟨b, o, rfl, hx⟩ := HN.out k hlt
            have hy := hx.below hb0 hx.lt
            obtain ⟨c0, c1, c2, c3, c4⟩ := hy
            have hq := HK.out k hlt
            obtain ⟨a', cap', S', hS, -⟩ := hq.out
            rw [hS] at c4 hq
            have HQ := Lib.hid (hq.keep hb0)
            clear hS hq
            have HM := Lib.hid (List.getElem_mem hlt)
            have HT := Lib.hid (plains_take t.kids k hlt)
            go_wp2_with fail
            refine (IH.out _ HM.out _ _ HQ.out).mono ?_
            rintro e w2 ⟨rfl, hb'⟩
            have HB3 := below_call hb hb' (by have := hb.size; simpa using this)
            obtain ⟨x0, x1, x2, x3, x4⟩ := HBX.out _ HB3
            clear hb' hb d0 d1 d2 d3 d4 hb0 c0 c1 c2 c3 c4
            cases hp : (t.kids[k]).plainB
            · go_wp2
              go_ret
              exact ⟨ret_bool (by rw [HP2.out, plains_of t.kids k hlt hp, Bool.and_false]), below_of_box HB3⟩
            · go_wp2
              go_roundw
              case rel => exact ⟨k + 1, by omega, by go_num, by show _ = true; rw [HT.out, hgood.out, hp]; rfl, HB3⟩
              case measure => simp [intOf]; omega
          · have : k = t.kids.length := by omega
            subst this
            go_wp2
            go_ret
            exact ⟨ret_bool (by have hg := hgood.out; rw [List.take_length] at hg; rw [HP2.out, HNN.out, hg]; rfl), hb0⟩
end Go.Proofs.YtgododpkbiaacaaGreat

namespace Go.Proofs.YtgododpkbiaacaaGreat
open Go.RowKit

set_option maxHeartbeats 1000000 in
theorem refmarked_any (t : Tm) : ∀ (w : World) (s : Value), Lies w t.kids s → Calls Tryz.prog 13 #[tv t s] w fun e w' => e = .returned (.bool t.markedB) ∧ Below w.heap.size w w' := by
  induction t using Tm.ind with
  | h t ih =>
    intro w s hl
    obtain ⟨a, cap, S, rfl, hc, hm, hf, hn, hk⟩ := hl.out
    unfold tv
    unfold maxLen at hm
    have HL := Lib.hid ((hl.keep (w' := w.alloc (.cells #[.int .i64 t.k, .int .i64 t.i, .int .i64 t.j, .int .i64 t.n, .slice a t.kids.length cap] 25)) ((Below.refl _ _).alloc (Nat.le_refl _) _)))
    have HP := Lib.hid (t.markedB_eq)
    have IH := Lib.hid ih
    have HN := Lib.hid hn
    have HK := Lib.hid hk
    have HBX := Lib.hid (fun (wr : World) => box_cells (w := w) (wr := wr) (v0 := .int .i64 t.k) (v1 := .int .i64 t.i) (v2 := .int .i64 t.j) (v3 := .int .i64 t.n) (v4 := .slice a t.kids.length cap) (T := 25))
    clear ih hn hk hf hl
    by_cases h1 : t.k < 1
    · have H5 : Hid (t.markedB = false) := by show _ = _; rw [HP.out]; simp; omega
      go_enter Tryz.func13, Tryz.ntmps13
      go_wp2
      go_ret
      exact ⟨ret_bool H5.out.symm, (Below.refl _ _).alloc (Nat.le_refl _) _⟩
    by_cases h2 : 12 < t.k
    · have H5 : Hid (t.markedB = false) := by show _ = _; rw [HP.out]; simp; omega
      go_enter Tryz.func13, Tryz.ntmps13
      go_wp2
      go_ret
      exact ⟨ret_bool H5.out.symm, (Below.refl _ _).alloc (Nat.le_refl _) _⟩
    have hkb : (decide (1 ≤ t.k) && decide (t.k ≤ 12)) = true := by simp; omega
    have HP2 : Hid (t.markedB = (t.nodeB && markeds (t.k == 12) 0 t.kids)) := by have := HP.out; rw [hkb, Bool.true_and] at this; exact this
    clear hkb
    cases hn : t.nodeB with
    | false =>
      have H5 : Hid (t.markedB = false) := by show _ = _; rw [HP2.out, hn]; rfl
      have HNN := Lib.hid hn
      clear hn
      go_enter Tryz.func13, Tryz.ntmps13
      go_wp2_with fail
      refine (refnode_any t _ _ HL.out).mono ?_
      rintro e w1 ⟨rfl, hb'⟩
      have HB2 := below_call (Below.refl (w.heap.size + 1) (w.alloc (.cells #[.int .i64 t.k, .int .i64 t.i, .int .i64 t.j, .int .i64 t.n, .slice a t.kids.length cap] 25))) hb' (by simp)
      obtain ⟨d0, d1, d2, d3, d4⟩ := HBX.out _ HB2
      clear hb'
      rw [HNN.out]
      go_wp2
      go_ret
      exact ⟨ret_bool H5.out.symm, below_of_box HB2⟩
    | true =>
      have HNN := Lib.hid hn
      clear hn
      go_enter Tryz.func13, Tryz.ntmps13
      go_wp2_with fail
      refine (refnode_any t _ _ HL.out).mono ?_
      rintro e w1 ⟨rfl, hb'⟩
      have HB2 := below_call (Below.refl (w.heap.size + 1) (w.alloc (.cells #[.int .i64 t.k, .int .i64 t.i, .int .i64 t.j, .int .i64 t.n, .slice a t.kids.length cap] 25))) hb' (by simp)
      obtain ⟨d0, d1, d2, d3, d4⟩ := HBX.out _ HB2
      clear hb'
      rw [HNN.out]
      go_wp2_with fail
      go_loopw [3] (fun iv wr => ∃ k : Nat, k ≤ t.kids.length ∧ iv = .int .i64 k ∧ Hid (markeds (t.k == 12) 0 (t.kids.take k) = true) ∧ Below (w.heap.size + 1) (w.alloc (.cells #[.int .i64 t.k, .int .i64 t.i, .int .i64 t.j, .int .i64 t.n, .slice a t.kids.length cap] 25)) wr) (fun iv _ => t.kids.length - (intOf iv).toNat)
      case atStart => exact ⟨0, Nat.zero_le _, rfl, by simp [Hid, markeds], HB2⟩
      case round =>
        obtain ⟨k, hk, rfl, hgood, hb⟩ := hrel
        obtain ⟨d0, d1, d2, d3, d4⟩ := HBX.out _ hb
        have hb0 := below_of_box hb
        by_cases hlt : k < t.kids.length
        · obtain ⟨b, o, rfl, hx⟩ := HN.out k hlt
          have hy := hx.below hb0 hx.lt
          obtain ⟨c0, c1, c2, c3, c4⟩ := hy
          have hq := HK.out k hlt
          obtain ⟨a', cap', S', hS, -⟩ := hq.out
          rw [hS] at c4 hq
          have HQ := Lib.hid (hq.keep hb0)
          clear hS hq
          have HM := Lib.hid (List.getElem_mem hlt)
          have HT := Lib.hid (markeds_take (t.k == 12) t.kids 0 k hlt)
          cases e12 : (t.k == 12) <;> cases e2 : ((k : Int) == 2)
          rotate_right
          · have e2' : (k == 2) = ((k : Int) == 2) := by rw [e2]; simp at e2 ⊢; omega
            have hkB : (t.kids[k]).kidB (t.k == 12) k = (t.kids[k]).plainB := by simp [Tm.kidB, e12, e2', e2]
            have HKB := Lib.hid hkB
            clear e2' hkB
            go_wp2_with fail
            refine (refplain_any _ _ _ HQ.out).mono ?_
            rintro e w2 ⟨rfl, hb'⟩
            have HB3 := below_call hb hb' (by have := hb.size; simpa using this)
            obtain ⟨x0, x1, x2, x3, x4⟩ := HBX.out _ HB3
            clear hb' hb d0 d1 d2 d3 d4 hb0 c0 c1 c2 c3 c4
            cases hp : (t.kids[k]).plainB
            · go_wp2
              go_ret
              exact ⟨ret_bool (by rw [HP2.out, markeds_of _ t.kids 0 k hlt (by rw [Nat.zero_add, HKB.out]; exact hp), Bool.and_false]), below_of_box HB3⟩
            · go_wp2
              go_roundw
              case rel => exact ⟨k + 1, by omega, by go_num, by have h1 := HT.out; rw [hgood.out, Nat.zero_add, HKB.out, hp] at h1; show _ = true; first | exact h1 | (rw [e12] at h1; exact h1), HB3⟩
              case measure => simp [intOf]; omega
          all_goals
            have e2' : (k == 2) = ((k : Int) == 2) := by rw [e2]; simp at e2 ⊢; omega
            have hkB : (t.kids[k]).kidB (t.k == 12) k = (t.kids[k]).markedB := by simp [Tm.kidB, e12, e2', e2]
            have HKB := Lib.hid hkB
            clear e2' hkB
            go_wp2_with fail
            refine (IH.out _ HM.out _ _ HQ.out).mono ?_
            rintro e w2 ⟨rfl, hb'⟩
            have HB3 := below_call hb hb' (by have := hb.size; simpa using this)
            obtain ⟨x0, x1, x2, x3, x4⟩ := HBX.out _ HB3
            clear hb' hb d0 d1 d2 d3 d4 hb0 c0 c1 c2 c3 c4
            cases hp : (t.kids[k]).markedB
            · go_wp2
              go_ret
              exact ⟨ret_bool (by rw [HP2.out, markeds_of _ t.kids 0 k hlt (by rw [Nat.zero_add, HKB.out]; exact hp), Bool.and_false]), below_of_box HB3⟩
            · go_wp2
              go_roundw
              case rel => exact ⟨k + 1, by omega, by go_num, by have h1 := HT.out; rw [hgood.out, Nat.zero_add, HKB.out, hp] at h1; show _ = true; first | exact h1 | (rw [e12] at h1; exact h1), HB3⟩
              case measure => simp [intOf]; omega
        · have : k = t.kids.length := by omega
          subst this
          go_wp2
          go_ret
          exact ⟨ret_bool (by have hg := hgood.out; rw [List.take_length] at hg; rw [HP2.out, HNN.out, hg]; rfl), hb0⟩
end Go.Proofs.YtgododpkbiaacaaGreat

namespace Go.Proofs.YtgododpkbiaacaaGreat
open Go.RowKit

set_option maxHeartbeats 800000 in
theorem refright_any (t : Tm) (w : World) (s : Value) (hl : Lies w t.kids s) : Calls Tryz.prog 72 #[tv t s] w fun e w' => e = .returned (.bool t.rightB) ∧ Below w.heap.size w w' := by
  obtain ⟨a, cap, S, hs, -⟩ := hl.out
  subst hs
  have HB := (Below.refl (w.heap.size + 1) (w.alloc (.cells #[.int .i64 t.k, .int .i64 t.i, .int .i64 t.j, .int .i64 t.n, .slice a t.kids.length cap] 25)))
  have HL := Lib.hid (hl.keep (below_of_box HB))
  have HBX := Lib.hid (fun (wr : World) => box_cells (w := w) (wr := wr) (v0 := .int .i64 t.k) (v1 := .int .i64 t.i) (v2 := .int .i64 t.j) (v3 := .int .i64 t.n) (v4 := .slice a t.kids.length cap) (T := 25))
  have hl0 := Lib.hid hl
  clear hl
  unfold tv
  go_enter Tryz.func72, Tryz.ntmps72
  go_wp2_with fail
  refine (refmarked_any t _ _ HL.out).mono ?_
  rintro e w' ⟨rfl, hb'⟩
  have HB2 := below_call HB hb' (by simp)
  obtain ⟨d0, d1, d2, d3, d4⟩ := HBX.out _ HB2
  clear hb'
  have HL2 := Lib.hid (hl0.out.keep (below_of_box HB2))
  cases hm : t.markedB
  · go_wp2_with fail
    refine (refplain_any t _ _ HL2.out).mono ?_
    rintro e w2 ⟨rfl, hb'⟩
    have HB3 := below_call HB2 hb' (by have := HB2.size; simpa using this)
    clear hb'
    go_wp2
    go_ret
    exact ⟨ret_bool (by simp [Tm.rightB, hm]), below_of_box HB3⟩
  · go_wp2
    go_ret
    exact ⟨ret_bool (by simp [Tm.rightB, hm]), below_of_box HB2⟩

set_option maxHeartbeats 800000 in
theorem refFree_any (t : Tm) (w : World) (s : Value) (hl : Lies w t.kids s) : Calls Tryz.prog 70 #[tv t s] w fun e w' => e = .returned (.int .i64 t.freeB) ∧ Below w.heap.size w w' := by
  obtain ⟨a, cap, S, hs, -⟩ := hl.out
  subst hs
  have HB := (Below.refl (w.heap.size + 1) (w.alloc (.cells #[.int .i64 t.k, .int .i64 t.i, .int .i64 t.j, .int .i64 t.n, .slice a t.kids.length cap] 25)))
  have HL := Lib.hid (hl.keep (below_of_box HB))
  have HBX := Lib.hid (fun (wr : World) => box_cells (w := w) (wr := wr) (v0 := .int .i64 t.k) (v1 := .int .i64 t.i) (v2 := .int .i64 t.j) (v3 := .int .i64 t.n) (v4 := .slice a t.kids.length cap) (T := 25))
  have hl0 := Lib.hid hl
  clear hl
  unfold tv
  go_enter Tryz.func70, Tryz.ntmps70
  go_wp2_with fail
  refine (refright_any t _ _ HL.out).mono ?_
  rintro e w' ⟨rfl, hb'⟩
  have HB2 := below_call HB hb' (by simp)
  obtain ⟨d0, d1, d2, d3, d4⟩ := HBX.out _ HB2
  clear hb'
  have HL2 := Lib.hid (hl0.out.keep (below_of_box HB2))
  cases hr : t.rightB
  · go_wp2
    go_ret
    exact ⟨ret_int (by simp [Tm.freeB, hr]), below_of_box HB2⟩
  · go_wp2_with fail
    refine (reffree_any t _ _ HL2.out hr).mono ?_
    rintro e w2 ⟨rfl, hb'⟩
    have HB3 := below_call HB2 hb' (by have := HB2.size; simpa using this)
    clear hb'
    go_wp2
    go_ret
    exact ⟨ret_int (by simp [Tm.freeB, hr]), below_of_box HB3⟩

end Go.Proofs.YtgododpkbiaacaaGreat

namespace Go.Proofs.YtgododpkbiaacaaGreat
open Go.RowKit

def Tm.stripB (t : Tm) : Tm := if t.rightB = true then t.bare else .zero

set_option maxHeartbeats 2000000 in
theorem strip_any (t : Tm) (w : World) (s : Value) (hl : Lies w t.kids s) : Calls Tryz.prog 21 #[tv t s] w (Makes t.stripB w) := by
  obtain ⟨a, cap, S, rfl, hc, hm, -, -, -⟩ := hl.out
  have HL := Lib.hid hl
  obtain ⟨du, hu1, hu2⟩ := under_term
  have H0 := boxes_start w t (.slice a t.kids.length cap)
  clear hl
  unfold tv
  cases hr : t.rightB with
  | false =>
    have hres := Lib.hid (show t.stripB = Tm.zero by unfold Tm.stripB; rw [if_neg (by rw [hr]; decide)])
    go_enter Tryz.func21, Tryz.ntmps21
    go_wp2_with fail
    refine (right_any t _ _ (boxes_lies H0 HL.out)).mono ?_
    rw [hr]
    rintro e w2 ⟨rfl, hb2⟩
    have H2 := boxes_call H0 hb2
    obtain ⟨-, q1⟩ := boxes_two H2
    obtain ⟨d0, d1, d2, d3, d4⟩ := held_cells (boxes_held H2)
    obtain ⟨z0, z1, z2, z3, z4⟩ := five_cells q1
    obtain ⟨f0, f1, f2, f3, f4⟩ := five_free q1
    clear hb2 H0
    go_wp2
    refine bodyPost_ret (results_cell_row rfl _ _ (w.heap.size + 1) _ _ _ du rfl (five_set q1) hu1 (by cases du <;> first | rfl | exact hu2) size_term) rfl ?_
    rw [hres.out]
    exact ⟨.slice none 0 0, rfl, liesP_nil _ _, below_five (boxes_under H2) (by omega) _ _ _ _ _⟩
  | true =>
    have hres := Lib.hid (show t.stripB = t.bare by unfold Tm.stripB; rw [if_pos hr])
    go_enter Tryz.func21, Tryz.ntmps21
    go_wp2_with fail
    refine (right_any t _ _ (boxes_lies H0 HL.out)).mono ?_
    rw [hr]
    rintro e w2 ⟨rfl, hb2⟩
    have H2 := boxes_call H0 hb2
    obtain ⟨-, q1⟩ := boxes_two H2
    obtain ⟨d0, d1, d2, d3, d4⟩ := held_cells (boxes_held H2)
    obtain ⟨z0, z1, z2, z3, z4⟩ := five_cells q1
    obtain ⟨f0, f1, f2, f3, f4⟩ := five_free q1
    clear hb2 H0
    go_wp2_with fail
    refine (sbare_any t w2 _ (boxes_lies H2 HL.out) hr).mono ?_
    rintro e w3 ⟨s3, rfl, hl3, hb3⟩
    obtain ⟨a3, cap3, rfl, -, -⟩ := hl3.out
    have hs2 : w.heap.size + 2 ≤ w2.heap.size := by have := Below.size H2; simpa using this
    have H3 := boxes_call H2 hb3
    clear q1 z0 z1 z2 z3 z4 f0 f1 f2 f3 f4
    obtain ⟨-, q1⟩ := boxes_two H3
    obtain ⟨z0, z1, z2, z3, z4⟩ := five_cells q1
    obtain ⟨f0, f1, f2, f3, f4⟩ := five_free q1
    have HL3 := Lib.hid hl3
    clear hb3 hl3 d0 d1 d2 d3 d4
    go_wp2
    refine bodyPost_ret (results_cell_row rfl _ _ (w.heap.size + 1) _ _ _ du rfl (five_set q1) hu1 (by cases du <;> first | rfl | exact hu2) size_term) rfl ?_
    rw [hres.out]
    exact ⟨_, rfl, liesP_fives HL3.out (by omega) (by omega) _ _ _ _ _, below_five (boxes_under H3) (by omega) _ _ _ _ _⟩
end Go.Proofs.YtgododpkbiaacaaGreat

namespace Go.Proofs.YtgododpkbiaacaaGreat

theorem stripB_good {t : Tm} (hr : t.rightB = true) : t.stripB = t.bare := by unfold Tm.stripB; rw [if_pos hr]
end Go.Proofs.YtgododpkbiaacaaGreat

namespace Go.Proofs.YtgododpkbiaacaaGreat
open Go.RowKit

end Go.Proofs.YtgododpkbiaacaaGreat

namespace Go.Proofs.YtgododpkbiaacaaGreat
open Go.RowKit

end Go.Proofs.YtgododpkbiaacaaGreat

namespace Go.Proofs.YtgododpkbiaacaaGreat
open Go.RowKit

def relatedB (t u : Tm) : Bool := t.markedB && (u.markedB && sameB t.pur u.pur)
set_option maxHeartbeats 2000000 in
theorem related_any (t u : Tm) (w : World) (s r : Value) (hl : Lies w t.kids s) (hm : Lies w u.kids r) : Calls Tryz.prog 14 #[tv t s, tv u r] w fun e w' => e = .returned (.bool (relatedB t u)) ∧ Below w.heap.size w w' := by
  obtain ⟨a, cap, S, rfl, -⟩ := hl.out
  obtain ⟨a2, cap2, S2, rfl, -⟩ := hm.out
  have HL := Lib.hid hl
  have HM := Lib.hid hm
  have H0 := held2_start w t (.slice a t.kids.length cap) u (.slice a2 u.kids.length cap2)
  clear hl hm
  unfold tv
  cases h1 : t.markedB
  · have HR := Lib.hid (show relatedB t u = false by unfold relatedB; rw [h1]; rfl)
    go_enter Tryz.func14, Tryz.ntmps14
    go_wp2_with fail
    refine (marked_any t _ _ (held2_lies H0 HL.out)).mono ?_
    rw [h1]
    rintro e w1 ⟨rfl, hb1⟩
    have H1 := held2_call H0 hb1
    obtain ⟨d0, d1, d2, d3, d4, c0, c1, c2, c3, c4⟩ := held2_cells H1
    clear hb1
    go_wp2
    go_ret
    exact ⟨ret_bool HR.out.symm, held2_below H1⟩
  cases h2 : u.markedB
  · have HR := Lib.hid (show relatedB t u = false by unfold relatedB; rw [h1, h2]; rfl)
    go_enter Tryz.func14, Tryz.ntmps14
    go_wp2_with fail
    refine (marked_any t _ _ (held2_lies H0 HL.out)).mono ?_
    rw [h1]
    rintro e w1 ⟨rfl, hb1⟩
    have H1 := held2_call H0 hb1
    obtain ⟨d0, d1, d2, d3, d4, c0, c1, c2, c3, c4⟩ := held2_cells H1
    clear hb1
    go_wp2_with fail
    refine (marked_any u _ _ (held2_lies H1 HM.out)).mono ?_
    rw [h2]
    rintro e w2 ⟨rfl, hb2⟩
    have H2 := held2_call H1 hb2
    clear d0 d1 d2 d3 d4 c0 c1 c2 c3 c4
    obtain ⟨d0, d1, d2, d3, d4, c0, c1, c2, c3, c4⟩ := held2_cells H2
    clear hb2
    go_wp2
    go_ret
    exact ⟨ret_bool HR.out.symm, held2_below H2⟩
  have HR := Lib.hid (show relatedB t u = sameB t.pur u.pur by unfold relatedB; rw [h1, h2]; rfl)
  go_enter Tryz.func14, Tryz.ntmps14
  go_wp2_with fail
  refine (marked_any t _ _ (held2_lies H0 HL.out)).mono ?_
  rw [h1]
  rintro e w1 ⟨rfl, hb1⟩
  have H1 := held2_call H0 hb1
  obtain ⟨d0, d1, d2, d3, d4, c0, c1, c2, c3, c4⟩ := held2_cells H1
  clear hb1
  go_wp2_with fail
  refine (marked_any u _ _ (held2_lies H1 HM.out)).mono ?_
  rw [h2]
  rintro e w2 ⟨rfl, hb2⟩
  have H2 := held2_call H1 hb2
  clear d0 d1 d2 d3 d4 c0 c1 c2 c3 c4
  obtain ⟨d0, d1, d2, d3, d4, c0, c1, c2, c3, c4⟩ := held2_cells H2
  clear hb2
  go_wp2_with fail
  refine (alike_any t.size t u _ _ _ (Nat.le_refl _) (held2_lies H2 HL.out) (held2_lies H2 HM.out) h1 h2).mono ?_
  rintro e w3 ⟨rfl, hb3⟩
  have H3 := held2_call H2 hb3
  clear hb3
  go_wp2
  go_ret
  exact ⟨ret_bool HR.out.symm, held2_below H3⟩

end Go.Proofs.YtgododpkbiaacaaGreat

namespace Go.Proofs.YtgododpkbiaacaaGreat

theorem relatedB_self (a : Tm) : relatedB a a = a.markedB := by
  unfold relatedB; rw [sameB_self]; cases a.markedB <;> rfl
end Go.Proofs.YtgododpkbiaacaaGreat

namespace Go.Proofs.YtgododpkbiaacaaGreat
open Go.RowKit

end Go.Proofs.YtgododpkbiaacaaGreat

namespace Go.Proofs.YtgododpkbiaacaaGreat
open Go.RowKit

/-- An entry: a type, its level. -/
structure En where
  a : Tm
  i : Int

def En.fine (e : En) : Prop := e.a.fine ∧ I64 e.i

/-- The six cells of an entry at a place. -/
structure ENode (w : World) (b o : Nat) (e : En) (s : Value) : Prop where
  c0 : w.cell? ⟨b, o, none⟩ = some (.int .i64 e.a.k)
  c1 : w.cell? ⟨b, o + 1, none⟩ = some (.int .i64 e.a.i)
  c2 : w.cell? ⟨b, o + 2, none⟩ = some (.int .i64 e.a.j)
  c3 : w.cell? ⟨b, o + 3, none⟩ = some (.int .i64 e.a.n)
  c4 : w.cell? ⟨b, o + 4, none⟩ = some s
  c5 : w.cell? ⟨b, o + 5, none⟩ = some (.int .i64 e.i)

theorem ENode.lt {w : World} {b o : Nat} {e : En} {s : Value} (h : ENode w b o e s) : b < w.heap.size := World.block_lt_of_cell? _ _ h.c0
theorem ENode.below {w w' : World} {b o B : Nat} {e : En} {s : Value} (h : ENode w b o e s) (hb : Below B w w') (hB : b < B) : ENode w' b o e s :=
  ⟨(hb.cell (by exact hB)).trans h.c0, (hb.cell (by exact hB)).trans h.c1, (hb.cell (by exact hB)).trans h.c2, (hb.cell (by exact hB)).trans h.c3, (hb.cell (by exact hB)).trans h.c4, (hb.cell (by exact hB)).trans h.c5⟩
theorem ENode.same {w w' : World} {b o : Nat} {e : En} {s : Value} (h : ENode w b o e s) (hb : w'.heap[b]? = w.heap[b]?) : ENode w' b o e s :=
  ⟨(World.cell?_of_block (a := ⟨b, o, none⟩) hb).trans h.c0, (World.cell?_of_block (a := ⟨b, o + 1, none⟩) hb).trans h.c1, (World.cell?_of_block (a := ⟨b, o + 2, none⟩) hb).trans h.c2,
    (World.cell?_of_block (a := ⟨b, o + 3, none⟩) hb).trans h.c3, (World.cell?_of_block (a := ⟨b, o + 4, none⟩) hb).trans h.c4, (World.cell?_of_block (a := ⟨b, o + 5, none⟩) hb).trans h.c5⟩

/-- Entries that lie behind a slice. -/
structure LiesE (w : World) (l : List En) (s : Value) : Prop where
  out : ∃ (a : Option Addr) (cap : Nat) (S : Nat → Value), s = .slice a l.length cap ∧ l.length ≤ cap ∧ cap ≤ maxLen ∧ (∀ x ∈ l, x.fine) ∧
    (∀ i (h : i < l.length), ∃ b o, a = some ⟨b, o, none⟩ ∧ ENode w b (o + i * 6) l[i] (S i)) ∧ (∀ i (h : i < l.length), Lies w (l[i]).a.kids (S i))

theorem LiesE.keep {w w' : World} {l : List En} {s : Value} (h : LiesE w l s) (hb : Below w.heap.size w w') : LiesE w' l s := by
  obtain ⟨a, cap, S, hs, hc, hm, hf, hn, hk⟩ := h.out
  exact ⟨a, cap, S, hs, hc, hm, hf, fun i hi => by obtain ⟨b, o, ha, hx⟩ := hn i hi; exact ⟨b, o, ha, hx.below hb hx.lt⟩, fun i hi => (hk i hi).keep hb⟩
theorem liesE_nil (w : World) : LiesE w [] (.slice none 0 0) := ⟨none, 0, fun _ => .nilIface, rfl, Nat.le_refl _, by decide, (fun _ h => by cases h), (fun _ h => by cases h), (fun _ h => by cases h)⟩

/-- Is each entry right behind k others? -/
def rightE : Nat → List En → Bool
  | _, [] => true
  | k, e :: r => (decide (0 ≤ e.i) && decide (e.i ≤ 1000) && e.a.markedB && decide (e.a.freeB ≤ (k : Int))) && rightE (k + 1) r
def rightC (c : List En) : Bool := rightE 0 c
def goodE (k : Nat) (e : En) : Bool := decide (0 ≤ e.i) && decide (e.i ≤ 1000) && e.a.markedB && decide (e.a.freeB ≤ (k : Int))
theorem rightE_append (k : Nat) : ∀ (a b : List En), rightE k (a ++ b) = (rightE k a && rightE (k + a.length) b)
  | [], b => by simp [rightE]
  | e :: r, b => by
    have := rightE_append (k + 1) r b
    simp only [List.cons_append, rightE, this, List.length_cons, Bool.and_assoc, show k + 1 + r.length = k + (r.length + 1) by omega]
theorem rightC_take {l : List En} {k : Nat} (h : k < l.length) : rightC (l.take (k + 1)) = (rightC (l.take k) && goodE k l[k]) := by
  have hl : (l.take k).length = k := by simp; omega
  unfold rightC
  rw [List.take_succ_eq_append_getElem h, rightE_append, hl, Nat.zero_add]
  simp only [rightE, goodE, Bool.and_true]
theorem rightC_of {l : List En} {k : Nat} (h : k < l.length) (hg : goodE k l[k] = false) : rightC l = false := by
  have h1 : rightC (l.take (k + 1) ++ l.drop (k + 1)) = rightC l := by rw [List.take_append_drop]
  have h2 : rightC (l.take (k + 1)) = false := by rw [rightC_take h, hg, Bool.and_false]
  rw [← h1]
  unfold rightC at h2 ⊢
  rw [rightE_append, h2, Bool.false_and]
theorem rightC_at {l : List En} (hr : rightC l = true) {k : Nat} (h : k < l.length) : goodE k l[k] = true := by
  cases hg : goodE k l[k] with
  | true => rfl
  | false => rw [rightC_of h hg] at hr; cases hr
end Go.Proofs.YtgododpkbiaacaaGreat

namespace Go.Proofs.YtgododpkbiaacaaGreat
open Go.RowKit

/-- A block of entries of the call's own. -/
def OwnE (B : Nat) (w : World) (b : Nat) : Prop := B ≤ b ∧ ∃ cs, w.heap[b]? = some (.cells cs 45 (0, 0))
theorem OwnE.same {B : Nat} {w w' : World} {b : Nat} (h : OwnE B w b) (hb : w'.heap[b]? = w.heap[b]?) : OwnE B w' b := ⟨h.1, by rw [hb]; exact h.2⟩

/-- Entries behind a slice, all in memory from block B on that is open. -/
structure LiesEP (w : World) (B : Nat) (l : List En) (s : Value) : Prop where
  out : ∃ (a : Option Addr) (cap : Nat) (S : Nat → Value), s = .slice a l.length cap ∧ l.length ≤ cap ∧ cap ≤ maxLen ∧ (∀ x ∈ l, x.fine) ∧
    (∀ i (h : i < l.length), ∃ b, a = some ⟨b, 0, none⟩ ∧ OwnE B w b ∧ ENode w b (i * 6) l[i] (S i)) ∧ (∀ i (h : i < l.length), LiesP w (Own B w) (l[i]).a.kids (S i))
theorem LiesEP.lies {w : World} {B : Nat} {l : List En} {s : Value} (h : LiesEP w B l s) : LiesE w l s := by
  obtain ⟨a, cap, S, hs, hc, hm, hf, hn, hk⟩ := h.out
  exact ⟨a, cap, S, hs, hc, hm, hf, fun i hi => by obtain ⟨b, ha, _, hx⟩ := hn i hi; exact ⟨b, 0, ha, by rw [Nat.zero_add]; exact hx⟩, fun i hi => (hk i hi).lies⟩
theorem LiesEP.keep {w w' : World} {B : Nat} {l : List En} {s : Value} (h : LiesEP w B l s) (hb : ∀ b, B ≤ b → b < w.heap.size → w'.heap[b]? = w.heap[b]?) : LiesEP w' B l s := by
  obtain ⟨a, cap, S, hs, hc, hm, hf, hn, hk⟩ := h.out
  exact ⟨a, cap, S, hs, hc, hm, hf, fun i hi => by obtain ⟨b, ha, hp, hx⟩ := hn i hi; exact ⟨b, ha, hp.same (hb b hp.1 hx.lt), hx.same (hb b hp.1 hx.lt)⟩,
    fun i hi => (hk i hi).keep (fun b hp hlt => hb b hp.1 hlt) (fun b hp hlt => hp.same (hb b hp.1 hlt))⟩
theorem LiesEP.later {w w' : World} {B : Nat} {l : List En} {s : Value} (h : LiesEP w B l s) (hb : Below w.heap.size w w') : LiesEP w' B l s := h.keep (fun b _ hlt => hb.block b hlt)
theorem LiesEP.from {w : World} {B B' : Nat} {l : List En} {s : Value} (h : LiesEP w B l s) (hB : B' ≤ B) : LiesEP w B' l s := by
  obtain ⟨a, cap, S, hs, hc, hm, hf, hn, hk⟩ := h.out
  exact ⟨a, cap, S, hs, hc, hm, hf, fun i hi => by obtain ⟨b, ha, hp, hx⟩ := hn i hi; exact ⟨b, ha, ⟨Nat.le_trans hB hp.1, hp.2⟩, hx⟩, fun i hi => (hk i hi).from hB⟩
def cells6 : List (En × Value) → List Value
  | [] => []
  | (t, s) :: r => .int .i64 t.a.k :: .int .i64 t.a.i :: .int .i64 t.a.j :: .int .i64 t.a.n :: s :: .int .i64 t.i :: cells6 r
/-- A row of entries that the call has made so far. -/
structure MadeE (B : Nat) (w : World) (v : Value) (ps : List (En × Value)) : Prop where
  own : w.ownsRow B 45 6 v ps.length (cells6 ps)
  fine : ∀ p ∈ ps, p.1.fine
  kids : ∀ p ∈ ps, LiesP w (fun b => Own B w b ∧ v.ownBlock ≠ some b) p.1.a.kids p.2
/-- The six cells of an element, written one behind the other. -/
def put6 (w : World) (g o : Nat) (t : En) (s : Value) : World := (put5 w g o t.a s).setCell ⟨g, o + 5, none⟩ (.int .i64 t.i)
theorem put6_other (w : World) (g o : Nat) (t : En) (s : Value) {b : Nat} (h : b ≠ g) : (put6 w g o t s).heap[b]? = w.heap[b]? := by
  unfold put6; rw [Below.heap_setCell _ _ _ _ (by exact h), put5_other _ _ _ _ _ h]
theorem ENode.node {w : World} {b o : Nat} {e : En} {s : Value} (h : ENode w b o e s) : Node w b o e.a s := ⟨h.c0, h.c1, h.c2, h.c3, h.c4⟩
theorem ENode.of {w : World} {b o : Nat} {e : En} {s : Value} (h : Node w b o e.a s) (h5 : w.cell? ⟨b, o + 5, none⟩ = some (.int .i64 e.i)) : ENode w b o e s := ⟨h.c0, h.c1, h.c2, h.c3, h.c4, h5⟩
theorem put6_node {w : World} {g o : Nat} {t0 : En} {s0 : Value} (t : En) (s : Value) (h : ENode w g o t0 s0) : ENode (put6 w g o t s) g o t s := by
  have ne : ∀ p q : Nat, p ≠ q → (⟨g, p, none⟩ : Addr) ≠ ⟨g, q, none⟩ := fun p q hpq e => hpq (congrArg Addr.off e)
  have hn := put5_node t.a s h.node
  unfold put6
  refine ⟨?_, ?_, ?_, ?_, ?_, ?_⟩
  · rw [World.cell?_setCell_other _ _ _ _ (ne _ _ (by omega))]; exact hn.c0
  · rw [World.cell?_setCell_other _ _ _ _ (ne _ _ (by omega))]; exact hn.c1
  · rw [World.cell?_setCell_other _ _ _ _ (ne _ _ (by omega))]; exact hn.c2
  · rw [World.cell?_setCell_other _ _ _ _ (ne _ _ (by omega))]; exact hn.c3
  · rw [World.cell?_setCell_other _ _ _ _ (ne _ _ (by omega))]; exact hn.c4
  · refine World.cell?_setCell_same _ _ _ (u := .int .i64 t0.i) ?_
    rw [put5_out _ _ _ _ _ (by omega)]; exact h.c5
theorem put6_keep {w : World} {g o o' b : Nat} {t x : En} {s sx : Value} (h : ENode w b o' x sx) (hne : b ≠ g ∨ o' + 6 ≤ o ∨ o + 6 ≤ o') : ENode (put6 w g o t s) b o' x sx := by
  by_cases hb : b = g
  · subst hb
    have hne' : o' + 6 ≤ o ∨ o + 6 ≤ o' := hne.resolve_left (fun h => h rfl)
    have ne : ∀ p q : Nat, p ≠ q → (⟨b, p, none⟩ : Addr) ≠ ⟨b, q, none⟩ := fun p q hpq e => hpq (congrArg Addr.off e)
    have hn := put5_keep (g := b) (o := o) (t := t.a) (s := s) h.node (Or.inr (by omega))
    unfold put6
    refine ⟨?_, ?_, ?_, ?_, ?_, ?_⟩
    · rw [World.cell?_setCell_other _ _ _ _ (ne _ _ (by omega))]; exact hn.c0
    · rw [World.cell?_setCell_other _ _ _ _ (ne _ _ (by omega))]; exact hn.c1
    · rw [World.cell?_setCell_other _ _ _ _ (ne _ _ (by omega))]; exact hn.c2
    · rw [World.cell?_setCell_other _ _ _ _ (ne _ _ (by omega))]; exact hn.c3
    · rw [World.cell?_setCell_other _ _ _ _ (ne _ _ (by omega))]; exact hn.c4
    · rw [World.cell?_setCell_other _ _ _ _ (ne _ _ (by omega)), put5_out _ _ _ _ _ (by omega)]; exact h.c5
  · exact h.same (put6_other _ _ _ _ _ hb)

/-- A row that was made whole and is filled from the left: block g; xs: the entries as they stand there now. -/
structure FullE (B : Nat) (w : World) (g : Nat) (xs : List (En × Value)) : Prop where
  above : B ≤ g
  open' : ∃ cs, w.heap[g]? = some (.cells cs 45 (0, 0))
  node : ∀ i (h : i < xs.length), ENode w g (i * 6) (xs[i]).1 (xs[i]).2
  fine : ∀ p ∈ xs, p.1.fine
  kids : ∀ p ∈ xs, LiesP w (fun b => Own B w b ∧ b ≠ g) p.1.a.kids p.2
theorem FullE.lt {B g : Nat} {w : World} {xs : List (En × Value)} (h : FullE B w g xs) : g < w.heap.size := by obtain ⟨cs, h⟩ := h.open'; exact (Array.getElem?_eq_some_iff.1 h).1
theorem FullE.later {B g : Nat} {w w' : World} {xs : List (En × Value)} (h : FullE B w g xs) (hb : Below w.heap.size w w') : FullE B w' g xs :=
  ⟨h.above, by rw [hb.block g h.lt]; exact h.open', fun i hi => (h.node i hi).below hb h.lt, h.fine, fun p hp => (h.kids p hp).keep (fun b _ hlt => hb.block b hlt) (fun _ hq _ => ⟨hq.1.later hb, hq.2⟩)⟩
theorem FullE.fill {B g k : Nat} {w : World} {xs : List (En × Value)} {t : En} {s : Value} (h : FullE B w g xs) (hk : k < xs.length) (hf : t.fine) (hl : LiesP w (fun b => Own B w b ∧ b ≠ g) t.a.kids s) :
    FullE B (put6 w g (k * 6) t s) g (xs.set k (t, s)) := by
  have keepL : ∀ l s', LiesP w (fun b => Own B w b ∧ b ≠ g) l s' → LiesP (put6 w g (k * 6) t s) (fun b => Own B (put6 w g (k * 6) t s) b ∧ b ≠ g) l s' := fun l s' h' =>
    h'.keep (fun b hb _ => put6_other _ _ _ _ _ hb.2) (fun b hb _ => ⟨hb.1.same (put6_other _ _ _ _ _ hb.2), hb.2⟩)
  refine ⟨h.above, ?_, fun i hi => ?_, fun p hp => ?_, fun p hp => ?_⟩
  · obtain ⟨cs, hcs⟩ := h.open'
    exact ⟨_, heap_setCell_same _ _ _ _ _ _ (put5_block _ _ _ hcs)⟩
  · have hi' : i < xs.length := by simpa using hi
    by_cases e : k = i
    · subst e
      simp only [List.getElem_set_self]
      exact put6_node t s (h.node k hk)
    · rw [List.getElem_set_ne e]
      exact put6_keep (h.node i hi') (Or.inr (by omega))
  · rcases List.mem_or_eq_of_mem_set hp with hp | rfl
    · exact h.fine p hp
    · exact hf
  · rcases List.mem_or_eq_of_mem_set hp with hp | rfl
    · exact keepL _ _ (h.kids p hp)
    · exact keepL _ _ hl
theorem FullE.fresh {B g : Nat} {wr w2 : World} {xs : List (En × Value)} {l : List Tm} {s2 : Value} (h : FullE B wr g xs) (hB : B ≤ wr.heap.size) (hk : LiesP w2 (Own wr.heap.size w2) l s2) : LiesP w2 (fun b => Own B w2 b ∧ b ≠ g) l s2 := by
  have hg := h.lt
  exact hk.keep (fun _ _ _ => rfl) (fun b hb _ => ⟨hb.from hB, by have := hb.1; omega⟩)
theorem FullE.lies {B g cap : Nat} {w : World} {xs : List (En × Value)} (h : FullE B w g xs) (hc : xs.length ≤ cap) (hm : cap ≤ maxLen) : LiesEP w B (xs.map (·.1)) (.slice (some ⟨g, 0, none⟩) xs.length cap) := by
  refine ⟨some ⟨g, 0, none⟩, cap, fun i => (xs[i]?.map (·.2)).getD (.slice none 0 0), by simp, by simpa using hc, hm, (fun x hx => by obtain ⟨p, hp, rfl⟩ := List.mem_map.1 hx; exact h.fine p hp), fun i hi => ?_, fun i hi => ?_⟩
  · have hi' : i < xs.length := by simpa using hi
    refine ⟨g, rfl, ⟨h.above, h.open'⟩, ?_⟩
    simp only [List.getElem_map, List.getElem?_eq_getElem hi', Option.map_some, Option.getD_some]
    exact h.node i hi'
  · have hi' : i < xs.length := by simpa using hi
    simp only [List.getElem_map, List.getElem?_eq_getElem hi', Option.map_some, Option.getD_some]
    exact (h.kids _ (List.getElem_mem hi')).keep (fun _ _ _ => rfl) (fun _ hb _ => hb.1)

end Go.Proofs.YtgododpkbiaacaaGreat

namespace Go.Proofs.YtgododpkbiaacaaGreat
open Go.RowKit

set_option maxHeartbeats 2000000 in
theorem same_any (t : Tm) : ∀ (u : Tm) (w : World) (s r : Value), Lies w t.kids s → Lies w u.kids r → Calls Tryz.prog 59 #[tv t s, tv u r] w fun e w' => e = .returned (.bool (sameB t u)) ∧ Below w.heap.size w w' := by
  induction t using Tm.ind with
  | h t ih =>
    intro u w s r hl hm
    obtain ⟨a, cap, S, rfl, hc, hmx, -, hn, hk⟩ := hl.out
    obtain ⟨a2, cap2, S2, rfl, hc2, hmx2, -, hn2, hk2⟩ := hm.out
    unfold maxLen at hmx hmx2
    have IH := Lib.hid ih
    have HN := Lib.hid hn
    have HK := Lib.hid hk
    have HN2 := Lib.hid hn2
    have HK2 := Lib.hid hk2
    have HE := Lib.hid (sameB_eq t u)
    have H0 := held2_start w t (.slice a t.kids.length cap) u (.slice a2 u.kids.length cap2)
    clear hl hm ih hn hk hn2 hk2
    unfold tv
    cases ek : (t.k == u.k)
    · have nek : (t.k != u.k) = true := by simp only [bne, ek, Bool.not_false]
      go_enter Tryz.func59, Tryz.ntmps59
      go_wp2
      go_ret
      exact ⟨ret_bool (by rw [HE.out]; simp only [ek, Bool.false_and]), held2_below H0⟩
    have nek : (t.k != u.k) = false := by simp only [bne, ek, Bool.not_true]
    cases ei : (t.i == u.i)
    · have nei : (t.i != u.i) = true := by simp only [bne, ei, Bool.not_false]
      go_enter Tryz.func59, Tryz.ntmps59
      go_wp2
      go_ret
      exact ⟨ret_bool (by rw [HE.out]; simp only [ek, ei, Bool.false_and, Bool.true_and]), held2_below H0⟩
    have nei : (t.i != u.i) = false := by simp only [bne, ei, Bool.not_true]
    cases ej : (t.j == u.j)
    · have nej : (t.j != u.j) = true := by simp only [bne, ej, Bool.not_false]
      go_enter Tryz.func59, Tryz.ntmps59
      go_wp2
      go_ret
      exact ⟨ret_bool (by rw [HE.out]; simp only [ek, ei, ej, Bool.false_and, Bool.true_and]), held2_below H0⟩
    have nej : (t.j != u.j) = false := by simp only [bne, ej, Bool.not_true]
    cases en : (t.n == u.n)
    · have nen : (t.n != u.n) = true := by simp only [bne, en, Bool.not_false]
      go_enter Tryz.func59, Tryz.ntmps59
      go_wp2
      go_ret
      exact ⟨ret_bool (by rw [HE.out]; simp only [ek, ei, ej, en, Bool.false_and, Bool.true_and]), held2_below H0⟩
    have nen : (t.n != u.n) = false := by simp only [bne, en, Bool.not_true]
    have HE2 : Hid (sameB t u = samesB t.kids u.kids) := by show _ = _; rw [HE.out]; simp only [ek, ei, ej, en, Bool.true_and]
    by_cases hlen : t.kids.length = u.kids.length
    rotate_left
    · have h1 : ((t.kids.length : Int) == (u.kids.length : Int)) = false := by simp; omega
      have h2 : ((t.kids.length : Int) != (u.kids.length : Int)) = true := by simp; omega
      have HS := Lib.hid (sames_ne hlen)
      clear hlen
      go_enter Tryz.func59, Tryz.ntmps59
      go_wp2
      go_ret
      exact ⟨ret_bool (by rw [HE2.out]; exact HS.out.symm), held2_below H0⟩
    have h1 : ((t.kids.length : Int) == (u.kids.length : Int)) = true := by simp; omega
    have h2 : ((t.kids.length : Int) != (u.kids.length : Int)) = false := by simp; omega
    have HL := Lib.hid hlen
    clear hlen
    go_enter Tryz.func59, Tryz.ntmps59
    go_wp2
    go_loopw [45] (fun iv wr => ∃ k : Nat, k ≤ t.kids.length ∧ iv = .int .i64 k ∧ Hid (samesB (t.kids.take k) (u.kids.take k) = true) ∧ Held2 w t (.slice a t.kids.length cap) u (.slice a2 u.kids.length cap2) wr) (fun iv _ => t.kids.length - (intOf iv).toNat)
    case atStart => exact ⟨0, Nat.zero_le _, rfl, by simp [Hid, samesB], H0⟩
    case round =>
      obtain ⟨k, hk, rfl, hgood, hh⟩ := hrel
      obtain ⟨p0, p1, p2, p3, p4, q0, q1, q2, q3, q4⟩ := held2_cells hh
      have hb := held2_below hh
      by_cases hlt : k < t.kids.length
      · have hlt2 : k < u.kids.length := by have := HL.out; omega
        obtain ⟨b, o, rfl, hx⟩ := HN.out k hlt
        obtain ⟨b2, o2, rfl, hx2⟩ := HN2.out k hlt2
        obtain ⟨c0, c1, c2, c3, c4⟩ := hx.below hb hx.lt
        have hyy := hx2.below hb hx2.lt
        have hq := (HK.out k hlt).keep hb
        have hq2 := (HK2.out k hlt2).keep hb
        obtain ⟨a', cap', S', hS, -⟩ := hq.out
        obtain ⟨a2', cap2', S2', hS2, -⟩ := hq2.out
        rw [hS] at c4 hq
        rw [hS2] at hyy hq2
        have HQ := Lib.hid hq
        have HQ2 := Lib.hid hq2
        have HM := Lib.hid (List.getElem_mem hlt)
        have HT := Lib.hid (sames_take t.kids u.kids k hlt hlt2)
        have HO := Lib.hid (sames_of t.kids u.kids k hlt hlt2)
        clear hS hS2 hq hq2
        have hh2 := held2_alloc hh (.cells #[.int .i64 t.kids[k].k, .int .i64 t.kids[k].i, .int .i64 t.kids[k].j, .int .i64 t.kids[k].n, .slice a' t.kids[k].kids.length cap'] 25)
        obtain ⟨f0, f1, f2, f3, f4, g0, g1, g2, g3, g4⟩ := held2_cells hh2
        obtain ⟨e0, e1, e2, e3, e4⟩ := hyy.below ((Below.refl wr.heap.size wr).alloc (Nat.le_refl _) (.cells #[.int .i64 t.kids[k].k, .int .i64 t.kids[k].i, .int .i64 t.kids[k].j, .int .i64 t.kids[k].n, .slice a' t.kids[k].kids.length cap'] 25)) hyy.lt
        have HNEW := Lib.hid ((Below.refl wr.heap.size wr).alloc (Nat.le_refl _) (.cells #[.int .i64 t.kids[k].k, .int .i64 t.kids[k].i, .int .i64 t.kids[k].j, .int .i64 t.kids[k].n, .slice a' t.kids[k].kids.length cap'] 25))
        go_wp2
        go_region_with (go_at_call 59; refine (IH.out _ HM.out _ _ _ _ (HQ.out.keep HNEW.out.drew) (HQ2.out.keep HNEW.out.drew)).mono ?_; rintro e wn ⟨rfl, hb'⟩; have HB3 := held2_call (held2_drew hh2) hb'; clear hb'; obtain ⟨x0, x1, x2, x3, x4, z0, z1, z2, z3, z4⟩ := held2_cells HB3)
        all_goals
          clear hh hh2 HNEW e0 e1 e2 e3 e4 f0 f1 f2 f3 f4 g0 g1 g2 g3 g4 c0 c1 c2 c3 c4 p0 p1 p2 p3 p4 q0 q1 q2 q3 q4 hb
          cases hs : sameB t.kids[k] u.kids[k]
          · go_wp2
            go_ret
            exact ⟨ret_bool (by rw [HE2.out]; exact (HO.out hs).symm), held2_below HB3⟩
          · go_wp2
            go_roundw
            case rel => exact ⟨k + 1, by omega, by go_num, by show _ = true; rw [HT.out, hgood.out, hs]; rfl, HB3⟩
            case measure => simp [intOf]; omega
      · have : k = t.kids.length := by omega
        subst this
        go_wp2
        go_ret
        exact ⟨ret_bool (by have hg := hgood.out; rw [List.take_length, HL.out, List.take_length] at hg; rw [HE2.out]; exact hg.symm), hb⟩

end Go.Proofs.YtgododpkbiaacaaGreat

namespace Go.Proofs.YtgododpkbiaacaaGreat
open Go

theorem take_at {P : Program} {ops : Array Oper} {Q : Exit → Act → World → Prop} {md : Region.Mode} {S : World → Prop} (i d : Nat) (oi : Oper) {v : Value} {fuel : Nat} {listed : Array Bool} {a : Act} {w : World} (hy : YieldsIf P ops S oi v a)
    (h : wpAnyH P md ops Q S fuel (listed.setIfInBounds i true) (a.put (some d) v) w)
    (hi : ops[i]? = some oi := by rfl) (hd : oi.dst = some d := by rfl)
    (hs : Region.noSelect ops = true := by kernel_rfl) (hf : Region.free md ops listed i = true := by kernel_rfl) (hr : (Region.ready md ops listed).contains i = true := by kernel_rfl)
    (hQ : ∀ c a w, Q (.panic c) (a.put (some d) v) w → Q (.panic c) a w := by exact fun _ _ _ h => h) (hS : S w := by assumption) : wpAnyH P md ops Q S (fuel + 1) listed a w := by
  rw [← hd] at hQ h
  exact wpAnyH_take hi hs hf hr hQ hy hS h
end Go.Proofs.YtgododpkbiaacaaGreat

namespace Go.Proofs.YtgododpkbiaacaaGreat
open Go.RowKit

/-- An entry in a block of its own. -/
def BNode (w : World) (b : Nat) (e : En) (s : Value) : Prop := w.cell? ⟨b, 0, none⟩ = some (.int .i64 e.a.k) ∧ w.cell? ⟨b, 1, none⟩ = some (.int .i64 e.a.i) ∧ w.cell? ⟨b, 2, none⟩ = some (.int .i64 e.a.j) ∧ w.cell? ⟨b, 3, none⟩ = some (.int .i64 e.a.n) ∧ w.cell? ⟨b, 4, none⟩ = some (s) ∧ w.cell? ⟨b, 5, none⟩ = some (.int .i64 e.i)
theorem bnode_new (w : World) (e : En) (s : Value) : BNode (w.alloc (.cells #[.int .i64 e.a.k, .int .i64 e.a.i, .int .i64 e.a.j, .int .i64 e.a.n, s, .int .i64 e.i] 45)) w.heap.size e s := by
  have key : ∀ o, (w.alloc (.cells #[.int .i64 e.a.k, .int .i64 e.a.i, .int .i64 e.a.j, .int .i64 e.a.n, s, .int .i64 e.i] 45)).cell? ⟨w.heap.size, o, none⟩ = (#[.int .i64 e.a.k, .int .i64 e.a.i, .int .i64 e.a.j, .int .i64 e.a.n, s, .int .i64 e.i] : Array Value)[o]? := fun o => by rw [World.cell?_alloc_at _ _ _ _ rfl]
  exact ⟨by rw [key]; rfl, by rw [key]; rfl, by rw [key]; rfl, by rw [key]; rfl, by rw [key]; rfl, by rw [key]; rfl⟩
theorem BNode.keep {v w' : World} {b : Nat} {e : En} {s : Value} (h : BNode v b e s) (hk : Kept v w') : BNode w' b e s := ⟨cell_lat hk h.1, cell_lat hk h.2.1, cell_lat hk h.2.2.1, cell_lat hk h.2.2.2.1, cell_lat hk h.2.2.2.2.1, cell_lat hk h.2.2.2.2.2⟩
end Go.Proofs.YtgododpkbiaacaaGreat

namespace Go.Proofs.YtgododpkbiaacaaGreat
open Go.RowKit

def lvB (n : Int) : Bool := decide (0 ≤ n) && decide (n ≤ 1000)
theorem level11_any (n : Int) (w : World) : Calls Tryz.prog 69 #[.int .i64 n] w fun e w' => e = .returned (.bool (lvB n)) ∧ w = w' := by
  by_cases h0 : 0 ≤ n
  · have e0 : decide (0 ≤ n) = true := decide_eq_true h0
    by_cases h1 : n ≤ 1000
    · have e1 : decide (n ≤ 1000) = true := decide_eq_true h1
      go_enter Tryz.func69, Tryz.ntmps69
      go_wp2
      go_ret
      exact ⟨ret_bool (by unfold lvB; rw [e0, e1]; rfl), rfl⟩
    · have e1 : decide (n ≤ 1000) = false := decide_eq_false h1
      go_enter Tryz.func69, Tryz.ntmps69
      go_wp2
      go_ret
      exact ⟨ret_bool (by unfold lvB; rw [e0, e1]; rfl), rfl⟩
  · have e0 : decide (0 ≤ n) = false := decide_eq_false h0
    go_enter Tryz.func69, Tryz.ntmps69
    go_wp2
    go_ret
    exact ⟨ret_bool (by unfold lvB; rw [e0]; rfl), rfl⟩

set_option maxRecDepth 20000 in
set_option maxHeartbeats 2000000 in
theorem ctxright_any (l : List En) (w : World) (s : Value) (hl : LiesE w l s) : Calls Tryz.prog 18 #[s] w fun e w' => e = .returned (.bool (rightC l)) ∧ Below w.heap.size w w' := by
  obtain ⟨a, cap, S, rfl, hc, hmx, -, hn, hk⟩ := hl.out
  unfold maxLen at hmx
  have HN := Lib.hid hn
  have HK := Lib.hid hk
  clear hn hk hl
  go_enter Tryz.func18, Tryz.ntmps18
  go_wp2
  go_loopw [7] (fun iv wr => ∃ k : Nat, k ≤ l.length ∧ iv = .int .i64 k ∧ Hid (rightC (l.take k) = true) ∧ Below w.heap.size w wr) (fun iv _ => l.length - (intOf iv).toNat)
  case atStart => exact ⟨0, Nat.zero_le _, rfl, by simp [Hid, rightC, rightE], Below.refl _ _⟩
  case round =>
    obtain ⟨k, hk, rfl, hgood, hb⟩ := hrel
    by_cases hlt : k < l.length
    · obtain ⟨b, o, rfl, hx⟩ := HN.out k hlt
      have hx := hx.below hb hx.lt
      have hq := (HK.out k hlt).keep hb
      obtain ⟨a', cap', S', hS, -⟩ := hq.out
      rw [hS] at hx hq
      have HQ := Lib.hid hq
      have HT := Lib.hid (rightC_take hlt)
      have HO := Lib.hid (fun h => rightC_of (l := l) hlt h)
      obtain ⟨x0, x1, x2, x3, x4, x5⟩ := hx
      clear hS hq
      have hX := bnode_new wr l[k] (.slice a' l[k].a.kids.length cap')
      have hbV : Below wr.heap.size wr (wr.alloc (.cells #[.int .i64 l[k].a.k, .int .i64 l[k].a.i, .int .i64 l[k].a.j, .int .i64 l[k].a.n, (.slice a' l[k].a.kids.length cap'), .int .i64 l[k].i] 45)) := (Below.refl _ _).alloc (Nat.le_refl _) _
      have hqV := HQ.out.keep hbV
      have hbw := below_call hb hbV hb.size
      clear HQ hb hbV
      go_upto_region 4 with fail
      clear x0 x1 x2 x3 x4 x5
      obtain ⟨g, hg⟩ : ∃ g, wr.heap.size = g := ⟨_, rfl⟩
      rw [hg] at hX ⊢
      generalize wr.alloc (.cells #[.int .i64 l[k].a.k, .int .i64 l[k].a.i, .int .i64 l[k].a.j, .int .i64 l[k].a.n, (.slice a' l[k].a.kids.length cap'), .int .i64 l[k].i] 45) = V at hX hqV hbw ⊢
      have HX := Lib.hid hX
      have HQ := Lib.hid hqV
      have HBV := Lib.hid hbw
      have hk0 := kept_start V
      clear hqV hbw hg
      obtain ⟨x0, x1, x2, x3, x4, x5⟩ := hX
      by_cases h0 : l[k].i < 0
      · have e0 : decide (l[k].i < 0) = true := decide_eq_true h0
        go_wp2
        go_ret
        exact ⟨ret_bool (HO.out (by unfold goodE; rw [decide_eq_false (show ¬ 0 ≤ l[k].i by omega)]; rfl)).symm, HBV.out⟩
      have e0 : decide (l[k].i < 0) = false := decide_eq_false h0
      by_cases h1 : 1000 < l[k].i
      · have e1 : decide (1000 < l[k].i) = true := decide_eq_true h1
        go_wp2
        go_ret
        exact ⟨ret_bool (HO.out (by unfold goodE; rw [decide_eq_false (show ¬ l[k].i ≤ 1000 by omega), Bool.and_false]; rfl)).symm, HBV.out⟩
      have e1 : decide (1000 < l[k].i) = false := decide_eq_false h1
      have g0 : decide (0 ≤ l[k].i) = true := decide_eq_true (by omega)
      have g1 : decide (l[k].i ≤ 1000) = true := decide_eq_true (by omega)
      have G0 := Lib.hid g0
      have G1 := Lib.hid g1
      clear g0 g1
      go_wp2_with fail
      refine (marked_any l[k].a _ _ HQ.out).mono ?_
      obtain ⟨mb, hmb⟩ : ∃ b, l[k].a.markedB = b := ⟨_, rfl⟩
      rw [hmb]
      have HMB := Lib.hid hmb
      clear hmb
      rintro e w1 ⟨rfl, hb1⟩
      have hk1 := kept_call hk0 hb1
      obtain ⟨x0, x1, x2, x3, x4, x5⟩ := HX.out.keep hk1
      clear hb1 hk0
      cases mb with
      | false =>
        go_wp2
        go_ret
        exact ⟨ret_bool (HO.out (by unfold goodE; rw [HMB.out, Bool.and_false]; rfl)).symm, HBV.out.trans (Below.mono hk1 HBV.out.size)⟩
      | true =>
        go_wp2_with fail
        refine (Free_any l[k].a _ _ (kept_lies hk1 HQ.out)).mono ?_
        obtain ⟨fb, hfb⟩ : ∃ b, l[k].a.freeB = b := ⟨_, rfl⟩
        rw [hfb]
        have HFB := Lib.hid hfb
        clear hfb
        rintro e w2 ⟨rfl, hb2⟩
        have hk2 := kept_call hk1 hb2
        clear hb2
        by_cases h3 : (k : Int) < fb
        · have e3 : decide ((k : Int) < fb) = true := decide_eq_true h3
          go_wp2
          go_ret
          exact ⟨ret_bool (HO.out (by unfold goodE; rw [HFB.out, decide_eq_false (show ¬ fb ≤ (k : Int) by omega), Bool.and_false])).symm, HBV.out.trans (Below.mono hk2 HBV.out.size)⟩
        · have e3 : decide ((k : Int) < fb) = false := decide_eq_false h3
          have HS : Hid (goodE k l[k] = true) := by unfold goodE; rw [G0.out, G1.out, HMB.out, HFB.out, decide_eq_true (show fb ≤ (k : Int) by omega)]; rfl
          go_wp2
          go_roundw
          case rel => exact ⟨k + 1, by omega, by go_num, by show _ = true; rw [HT.out, hgood.out, HS.out]; rfl, HBV.out.trans (Below.mono hk2 HBV.out.size)⟩
          case measure => simp [intOf]; omega
    · have : k = l.length := by omega
      subst this
      go_wp2
      go_ret
      exact ⟨ret_bool (by have hg := hgood.out; rw [List.take_length] at hg; exact hg.symm), hb⟩

set_option maxRecDepth 20000 in
set_option maxHeartbeats 2000000 in
theorem refctxright_any (l : List En) (w : World) (s : Value) (hl : LiesE w l s) : Calls Tryz.prog 48 #[s] w fun e w' => e = .returned (.bool (rightC l)) ∧ Below w.heap.size w w' := by
  obtain ⟨a, cap, S, rfl, hc, hmx, -, hn, hk⟩ := hl.out
  unfold maxLen at hmx
  have HN := Lib.hid hn
  have HK := Lib.hid hk
  clear hn hk hl
  go_enter Tryz.func48, Tryz.ntmps48
  go_wp2
  go_loopw [3] (fun iv wr => ∃ k : Nat, k ≤ l.length ∧ iv = .int .i64 k ∧ Hid (rightC (l.take k) = true) ∧ Below w.heap.size w wr) (fun iv _ => l.length - (intOf iv).toNat)
  case atStart => exact ⟨0, Nat.zero_le _, rfl, by simp [Hid, rightC, rightE], Below.refl _ _⟩
  case round =>
    obtain ⟨k, hk, rfl, hgood, hb⟩ := hrel
    by_cases hlt : k < l.length
    · obtain ⟨b, o, rfl, hx⟩ := HN.out k hlt
      have hx := hx.below hb hx.lt
      have hq := (HK.out k hlt).keep hb
      obtain ⟨a', cap', S', hS, -⟩ := hq.out
      rw [hS] at hx hq
      have HQ := Lib.hid hq
      have HT := Lib.hid (rightC_take hlt)
      have HO := Lib.hid (fun h => rightC_of (l := l) hlt h)
      have HX := Lib.hid hx
      have HBV := Lib.hid hb
      have hk0 := kept_start wr
      obtain ⟨x0, x1, x2, x3, x4, x5⟩ := hx
      clear hS hq hb
      obtain ⟨lv, hlv⟩ : ∃ b, lvB l[k].i = b := ⟨_, rfl⟩
      have HLV := Lib.hid hlv
      clear hlv
      go_wp2_with fail
      refine (level11_any l[k].i _).mono ?_
      rw [HLV.out]
      rintro e w0 ⟨rfl, rfl⟩
      cases lv with
      | false =>
        go_wp2
        go_ret
        exact ⟨ret_bool (HO.out (by unfold goodE; have := HLV.out; unfold lvB at this; rw [this]; rfl)).symm, HBV.out⟩
      | true =>
      have HG : Hid (decide (0 ≤ l[k].i) = true ∧ decide (l[k].i ≤ 1000) = true) := by have := HLV.out; unfold lvB at this; rw [Bool.and_eq_true] at this; exact this
      have G0 := Lib.hid HG.out.1
      have G1 := Lib.hid HG.out.2
      go_wp2_with fail
      refine (refmarked_any l[k].a _ _ HQ.out).mono ?_
      obtain ⟨mb, hmb⟩ : ∃ b, l[k].a.markedB = b := ⟨_, rfl⟩
      rw [hmb]
      have HMB := Lib.hid hmb
      clear hmb
      rintro e w1 ⟨rfl, hb1⟩
      have hk1 := kept_call hk0 hb1
      obtain ⟨x0, x1, x2, x3, x4, x5⟩ := HX.out.below hk1 HX.out.lt
      clear hb1 hk0
      cases mb with
      | false =>
        go_wp2
        go_ret
        exact ⟨ret_bool (HO.out (by unfold goodE; rw [HMB.out, Bool.and_false]; rfl)).symm, HBV.out.trans (Below.mono hk1 HBV.out.size)⟩
      | true =>
        go_wp2_with fail
        refine (refFree_any l[k].a _ _ (kept_lies hk1 HQ.out)).mono ?_
        obtain ⟨fb, hfb⟩ : ∃ b, l[k].a.freeB = b := ⟨_, rfl⟩
        rw [hfb]
        have HFB := Lib.hid hfb
        clear hfb
        rintro e w2 ⟨rfl, hb2⟩
        have hk2 := kept_call hk1 hb2
        clear hb2
        by_cases h3 : (k : Int) < fb
        · have e3 : decide ((k : Int) < fb) = true := decide_eq_true h3
          go_wp2
          go_ret
          exact ⟨ret_bool (HO.out (by unfold goodE; rw [HFB.out, decide_eq_false (show ¬ fb ≤ (k : Int) by omega), Bool.and_false])).symm, HBV.out.trans (Below.mono hk2 HBV.out.size)⟩
        · have e3 : decide ((k : Int) < fb) = false := decide_eq_false h3
          have HS : Hid (goodE k l[k] = true) := by unfold goodE; rw [G0.out, G1.out, HMB.out, HFB.out, decide_eq_true (show fb ≤ (k : Int) by omega)]; rfl
          go_wp2
          go_roundw
          case rel => exact ⟨k + 1, by omega, by go_num, by show _ = true; rw [HT.out, hgood.out, HS.out]; rfl, HBV.out.trans (Below.mono hk2 HBV.out.size)⟩
          case measure => simp [intOf]; omega
    · have : k = l.length := by omega
      subst this
      go_wp2
      go_ret
      exact ⟨ret_bool (by have hg := hgood.out; rw [List.take_length] at hg; exact hg.symm), hb⟩

/-- What GreatCtx tells. -/
def NotGreatC (l : List En) (M : Nat) (w : World) (e : Ending) (w' : World) : Prop :=
  ∃ g : Bool, e = .returned (.bool g) ∧ (g = false → l.length ≤ M ∧ ∀ u ∈ l, (u.a.size : Int) ≤ M ∧ u.a.deep ≤ 201) ∧ Below w.heap.size w w'

set_option maxHeartbeats 1000000 in
theorem greatctx_any (l : List En) (M : Nat) (w : World) (ls : Value) (hl : LiesE w l ls) (hM : M ≤ 10000) :
    Calls Tryz.prog 16 #[ls, .int .i64 M] w (NotGreatC l M w) := by
  obtain ⟨a, cap, S, rfl, hc, hm, -, hn, hk⟩ := hl.out
  unfold maxLen at hm
  have HN := Lib.hid hn
  have HK := Lib.hid hk
  clear hl hn hk
  go_enter Tryz.func16, Tryz.ntmps16
  by_cases hlen : M < l.length
  · have e1 : decide ((M : Int) < (l.length : Int)) = true := decide_eq_true (by omega)
    have e2 : decide (M < l.length) = true := decide_eq_true hlen
    go_wp2
    go_ret
    exact ⟨true, rfl, (fun h => by cases h), Below.refl _ _⟩
  have e1 : decide ((M : Int) < (l.length : Int)) = false := decide_eq_false (by omega)
  have e2 : decide (M < l.length) = false := decide_eq_false hlen
  go_wp2
  go_loopw [5, 6] (fun nv iv wr => ∃ (k : Nat) (n : Int), k ≤ l.length ∧ iv = .int .i64 k ∧ nv = .int .i64 n ∧ 0 ≤ n ∧ n ≤ M + 1 ∧ Hid (n ≤ M → ∀ j (h : j < l.length), j < k → ((l[j]).a.size : Int) ≤ M ∧ (l[j]).a.deep ≤ 201) ∧ Kept w wr) (fun _ i _ => l.length - (intOf i).toNat)
  case atStart => exact ⟨0, 0, Nat.zero_le _, rfl, rfl, by omega, by omega, fun _ j _ h => by omega, kept_start _⟩
  case round =>
    obtain ⟨k, n, hk, rfl, rfl, hn1, hn2, hrel, hb⟩ := hrel
    by_cases hlt : k < l.length
    · by_cases hnm : n ≤ M
      · obtain ⟨b, o, rfl, hx⟩ := HN.out k hlt
        obtain ⟨c0, c1, c2, c3, c4, c5⟩ := hx.below hb hx.lt
        have hq := HK.out k hlt
        obtain ⟨a', cap', S', hS, -⟩ := hq.out
        rw [hS] at c4 hq
        have HQ := Lib.hid (hq.keep hb)
        clear hS hq
        go_wp2_with fail
        refine (weigh_any l[k].a _ _ _ _ HQ.out (by omega) (by omega) (by omega) (by omega)).mono ?_
        rintro e w' ⟨r, rfl, hr1, hr2, hr3, hb'⟩
        have HR3 := Lib.hid hr3
        have HB' := kept_call hb hb'
        clear hb' hb hr3 c0 c1 c2 c3 c4 c5
        go_wp2
        go_roundw
        case rel =>
          refine ⟨k + 1, n + r, by omega, by go_num, rfl, by omega, by omega, ?_, HB'⟩
          intro hle j hj hjk
          by_cases e : j = k
          · subst e
            have e4 := HR3.out (by omega)
            omega
          · exact hrel.out hnm j hj (by omega)
        case measure => simp [intOf]; omega
      · go_wp2
        go_ret
        exact ⟨_, rfl, fun h => absurd h (by simp <;> omega), hb⟩
    · have : k = l.length := by omega
      subst this
      go_wp2
      all_goals go_ret
      all_goals
        refine ⟨_, rfl, fun h => ⟨by omega, fun u hu => ?_⟩, hb⟩
        have hle : n ≤ M := by simpa using h
        obtain ⟨j, hj, rfl⟩ := List.getElem_of_mem hu
        exact hrel.out hle j hj hj
end Go.Proofs.YtgododpkbiaacaaGreat
