/-
  strip.bare and strip.Strip.
-/
import Derived.Test.YtjhdcjjoignioaaPlainM
import Derived.Test.YtjhdcjjoignioaaTop
import Derived.Deep.RegionLaw
namespace Go.Proofs.Ytjhdcjjoignioaa
open Go.RowKit

theorem picked_pickT (t : Tm) : ∀ pk : List Nat, (∀ p ∈ pk, p < t.kids.length) → pickT pk (t.kids.map Tm.bare) = picked t pk
  | [], _ => rfl
  | p :: r, h => by
    have hp := h p (List.mem_cons_self ..)
    have ih := picked_pickT t r (fun q hq => h q (List.mem_cons_of_mem _ hq))
    unfold pickT at ih ⊢
    rw [List.filterMap_cons, List.getElem?_map, List.getElem?_eq_getElem hp]
    simp only [Option.map_some]
    rw [ih]
    simp [picked, List.getElem?_eq_getElem hp]
theorem bare_pick (t : Tm) (c : Int) (pk : List Nat) (hk : t.k = c) (hc : (decide (3 ≤ c) && decide (c ≤ 12)) = true) (hp : barePick c = pk) (h : ∀ p ∈ pk, p < t.kids.length) : t.bare = .mk (bareKind c) (if c = 12 then t.i else 0) 0 (if c = 12 then 5 else 0) (picked t pk) := by
  simp at hc
  rw [Tm.bare_eq, bareNode, hk, if_pos hc, hp, picked_pickT t pk h]
theorem liesI_new {W : World} {g : Nat} {T : TypeId} {l : List Int} {fr : Nat × Nat} (h : W.heap[g]? = some (.cells (l.map (Value.int .i64)).toArray T fr)) (hm : l.length ≤ maxLen) : LiesI W l (.slice (some ⟨g, 0, none⟩) l.length l.length) :=
  ⟨_, _, rfl, Nat.le_refl _, hm, fun i hi => ⟨g, 0, rfl, by rw [Nat.zero_add, cell_of_row _ _ _ _ _ _ h]; simp [hi]⟩⟩

theorem made_below {B b o : Nat} {w : World} {v : Value} {ps : List (Tm × Value)} (h : Made B w v ps) (hb : b < B) (x : Value) : Made B (w.setCell ⟨b, o, none⟩ x) v ps := by
  have hk : ∀ b', B ≤ b' → (w.setCell ⟨b, o, none⟩ x).heap[b']? = w.heap[b']? := fun b' hb' => Below.heap_setCell _ _ _ _ (by show b' ≠ b; omega)
  obtain ⟨h1, h2⟩ := h.own
  refine ⟨⟨h1, ?_⟩, h.fine, fun p hp => (h.kids p hp).keep (fun b' hb' _ => hk b' hb'.1.1) (fun b' hb' _ => ⟨hb'.1.same (hk b' hb'.1.1), hb'.2⟩)⟩
  rcases h2 with h2 | ⟨g, cap, cur, hv, hg, hh, r⟩
  · exact Or.inl h2
  · exact Or.inr ⟨g, cap, cur, hv, hg, by rw [hk g hg]; exact hh, r⟩

set_option maxRecDepth 20000 in
set_option maxHeartbeats 1500000 in
theorem sbare_any (t : Tm) : ∀ (w : World) (s : Value), Lies w t.kids s → t.rightB = true → Calls Try.prog 72 #[tv t s] w (Makes t.bare w) := by
  induction t using Tm.ind with
  | h t ih =>
    intro w s hl hr
    obtain ⟨a, cap, S, rfl, hc, hm, hf, hn, hkk⟩ := hl.out
    have hlen := right_len hr
    obtain ⟨du, hu1, hu2⟩ := under_term
    have HR0 := Lib.hid hr
    have HRK := Lib.hid (t.right_kids hr)
    have IH := Lib.hid ih
    have HL := Lib.hid hl
    have HN := Lib.hid hn
    have HK := Lib.hid hkk
    have hkind := Tm.node_kind (t.right_node hr)
    unfold maxLen at hm
    clear ih hl hn hkk hr hf
    unfold tv
    by_cases hmk : 3 ≤ t.k ∧ t.k ≤ 12
    · have hcs : t.k = 3 ∨ t.k = 4 ∨ t.k = 5 ∨ t.k = 6 ∨ t.k = 7 ∨ t.k = 8 ∨ t.k = 9 ∨ t.k = 10 ∨ t.k = 11 ∨ t.k = 12 := by omega
      clear hmk hkind
      rcases hcs with hkc | hkc | hkc | hkc | hkc | hkc | hkc | hkc | hkc | hkc
      · have hpk : ∀ p ∈ ([0, 1] : List Nat), p < t.kids.length := by
          have hlen := node_length (t.right_node HR0.out)
          rw [hkc] at hlen
          have h9 : t.kids.length = 2 := by simp [kidsN] at hlen; omega
          intro p hp
          simp at hp
          omega
        have hres := bare_pick t 3 [0, 1] hkc rfl rfl hpk
        have hb3 := below_three w (.cells #[.int .i64 t.k, .int .i64 t.i, .int .i64 t.j, .int .i64 t.n, .slice a t.kids.length cap] 26) (.cells #[.int .i64 0, .int .i64 0, .int .i64 0, .int .i64 0, .slice none 0 0] 26) (.cells #[.int .i64 0, .int .i64 1] 3)
        obtain ⟨q0, q1, q2, -⟩ := heap_three w (.cells #[.int .i64 t.k, .int .i64 t.i, .int .i64 t.j, .int .i64 t.n, .slice a t.kids.length cap] 26) (.cells #[.int .i64 0, .int .i64 0, .int .i64 0, .int .i64 0, .slice none 0 0] 26) (.cells #[.int .i64 0, .int .i64 1] 3)
        have hti := liesI_new (l := [(0 : Int), (1 : Int)]) q2 (by decide)
        have CALL := Lib.hid (plain_of t IH.out HRK.out 13 [0, 1] hpk (by decide) _ _ _ (HL.out.keep hb3) hti)
        have HRES := Lib.hid hres
        clear hti hpk hres q2 q0
        have e3 : (t.k == 3) = true := by rw [hkc]; decide
        clear hkc
        go_enter Try.func72, Try.ntmps72
        go_wp2_with fail
        refine CALL.out.mono ?_
        rintro e wn ⟨s2, rfl, hl2, hbn⟩
        obtain ⟨a2, cap2, rfl, -, -⟩ := hl2.out
        have hbw := hb3.trans (hbn.mono hb3.size)
        have q1n := hbn.block (w.heap.size + 1) (by simp)
        rw [q1] at q1n
        obtain ⟨z0, z1, z2, z3, z4⟩ := five_cells q1n
        obtain ⟨f0, f1, f2, f3, f4⟩ := five_free q1n
        have HL2 := Lib.hid hl2
        clear hbn hl2 q1
        go_wp2
        (try simp only [Exit.inBlock, Exit.then])
        refine bodyPost_ret (results_cell_row rfl _ _ (w.heap.size + 1) _ _ _ du rfl (five_set q1n) hu1 (by cases du <;> first | rfl | exact hu2) size_term) rfl ?_
        rw [HRES.out]
        exact ⟨_, rfl, liesP_fives HL2.out (by simp <;> omega) (by simp <;> omega) _ _ _ _ _, below_five hbw (by omega) _ _ _ _ _⟩
      · have hpk : ∀ p ∈ ([0, 2] : List Nat), p < t.kids.length := by
          have hlen := node_length (t.right_node HR0.out)
          rw [hkc] at hlen
          have h9 : t.kids.length = 3 := by simp [kidsN] at hlen; omega
          intro p hp
          simp at hp
          omega
        have hres := bare_pick t 4 [0, 2] hkc rfl rfl hpk
        have hb3 := below_three w (.cells #[.int .i64 t.k, .int .i64 t.i, .int .i64 t.j, .int .i64 t.n, .slice a t.kids.length cap] 26) (.cells #[.int .i64 0, .int .i64 0, .int .i64 0, .int .i64 0, .slice none 0 0] 26) (.cells #[.int .i64 0, .int .i64 2] 3)
        obtain ⟨q0, q1, q2, -⟩ := heap_three w (.cells #[.int .i64 t.k, .int .i64 t.i, .int .i64 t.j, .int .i64 t.n, .slice a t.kids.length cap] 26) (.cells #[.int .i64 0, .int .i64 0, .int .i64 0, .int .i64 0, .slice none 0 0] 26) (.cells #[.int .i64 0, .int .i64 2] 3)
        have hti := liesI_new (l := [(0 : Int), (2 : Int)]) q2 (by decide)
        have CALL := Lib.hid (plain_of t IH.out HRK.out 14 [0, 2] hpk (by decide) _ _ _ (HL.out.keep hb3) hti)
        have HRES := Lib.hid hres
        clear hti hpk hres q2 q0
        have e3 : (t.k == 3) = false := by rw [hkc]; decide
        have e4 : (t.k == 4) = true := by rw [hkc]; decide
        clear hkc
        go_enter Try.func72, Try.ntmps72
        go_wp2_with fail
        refine CALL.out.mono ?_
        rintro e wn ⟨s2, rfl, hl2, hbn⟩
        obtain ⟨a2, cap2, rfl, -, -⟩ := hl2.out
        have hbw := hb3.trans (hbn.mono hb3.size)
        have q1n := hbn.block (w.heap.size + 1) (by simp)
        rw [q1] at q1n
        obtain ⟨z0, z1, z2, z3, z4⟩ := five_cells q1n
        obtain ⟨f0, f1, f2, f3, f4⟩ := five_free q1n
        have HL2 := Lib.hid hl2
        clear hbn hl2 q1
        go_wp2
        (try simp only [Exit.inBlock, Exit.then])
        refine bodyPost_ret (results_cell_row rfl _ _ (w.heap.size + 1) _ _ _ du rfl (five_set q1n) hu1 (by cases du <;> first | rfl | exact hu2) size_term) rfl ?_
        rw [HRES.out]
        exact ⟨_, rfl, liesP_fives HL2.out (by simp <;> omega) (by simp <;> omega) _ _ _ _ _, below_five hbw (by omega) _ _ _ _ _⟩
      · have hpk : ∀ p ∈ ([2, 3] : List Nat), p < t.kids.length := by
          have hlen := node_length (t.right_node HR0.out)
          rw [hkc] at hlen
          have h9 : t.kids.length = 4 := by simp [kidsN] at hlen; omega
          intro p hp
          simp at hp
          omega
        have hres := bare_pick t 5 [2, 3] hkc rfl rfl hpk
        have hb3 := below_three w (.cells #[.int .i64 t.k, .int .i64 t.i, .int .i64 t.j, .int .i64 t.n, .slice a t.kids.length cap] 26) (.cells #[.int .i64 0, .int .i64 0, .int .i64 0, .int .i64 0, .slice none 0 0] 26) (.cells #[.int .i64 2, .int .i64 3] 3)
        obtain ⟨q0, q1, q2, -⟩ := heap_three w (.cells #[.int .i64 t.k, .int .i64 t.i, .int .i64 t.j, .int .i64 t.n, .slice a t.kids.length cap] 26) (.cells #[.int .i64 0, .int .i64 0, .int .i64 0, .int .i64 0, .slice none 0 0] 26) (.cells #[.int .i64 2, .int .i64 3] 3)
        have hti := liesI_new (l := [(2 : Int), (3 : Int)]) q2 (by decide)
        have CALL := Lib.hid (plain_of t IH.out HRK.out 15 [2, 3] hpk (by decide) _ _ _ (HL.out.keep hb3) hti)
        have HRES := Lib.hid hres
        clear hti hpk hres q2 q0
        have e3 : (t.k == 3) = false := by rw [hkc]; decide
        have e4 : (t.k == 4) = false := by rw [hkc]; decide
        have e5 : (t.k == 5) = true := by rw [hkc]; decide
        clear hkc
        go_enter Try.func72, Try.ntmps72
        go_wp2_with fail
        refine CALL.out.mono ?_
        rintro e wn ⟨s2, rfl, hl2, hbn⟩
        obtain ⟨a2, cap2, rfl, -, -⟩ := hl2.out
        have hbw := hb3.trans (hbn.mono hb3.size)
        have q1n := hbn.block (w.heap.size + 1) (by simp)
        rw [q1] at q1n
        obtain ⟨z0, z1, z2, z3, z4⟩ := five_cells q1n
        obtain ⟨f0, f1, f2, f3, f4⟩ := five_free q1n
        have HL2 := Lib.hid hl2
        clear hbn hl2 q1
        go_wp2
        (try simp only [Exit.inBlock, Exit.then])
        refine bodyPost_ret (results_cell_row rfl _ _ (w.heap.size + 1) _ _ _ du rfl (five_set q1n) hu1 (by cases du <;> first | rfl | exact hu2) size_term) rfl ?_
        rw [HRES.out]
        exact ⟨_, rfl, liesP_fives HL2.out (by simp <;> omega) (by simp <;> omega) _ _ _ _ _, below_five hbw (by omega) _ _ _ _ _⟩
      · have hpk : ∀ p ∈ ([0, 1] : List Nat), p < t.kids.length := by
          have hlen := node_length (t.right_node HR0.out)
          rw [hkc] at hlen
          have h9 : t.kids.length = 2 := by simp [kidsN] at hlen; omega
          intro p hp
          simp at hp
          omega
        have hres := bare_pick t 6 [0, 1] hkc rfl rfl hpk
        have hb3 := below_three w (.cells #[.int .i64 t.k, .int .i64 t.i, .int .i64 t.j, .int .i64 t.n, .slice a t.kids.length cap] 26) (.cells #[.int .i64 0, .int .i64 0, .int .i64 0, .int .i64 0, .slice none 0 0] 26) (.cells #[.int .i64 0, .int .i64 1] 3)
        obtain ⟨q0, q1, q2, -⟩ := heap_three w (.cells #[.int .i64 t.k, .int .i64 t.i, .int .i64 t.j, .int .i64 t.n, .slice a t.kids.length cap] 26) (.cells #[.int .i64 0, .int .i64 0, .int .i64 0, .int .i64 0, .slice none 0 0] 26) (.cells #[.int .i64 0, .int .i64 1] 3)
        have hti := liesI_new (l := [(0 : Int), (1 : Int)]) q2 (by decide)
        have CALL := Lib.hid (plain_of t IH.out HRK.out 16 [0, 1] hpk (by decide) _ _ _ (HL.out.keep hb3) hti)
        have HRES := Lib.hid hres
        clear hti hpk hres q2 q0
        have e3 : (t.k == 3) = false := by rw [hkc]; decide
        have e4 : (t.k == 4) = false := by rw [hkc]; decide
        have e5 : (t.k == 5) = false := by rw [hkc]; decide
        have e6 : (t.k == 6) = true := by rw [hkc]; decide
        clear hkc
        go_enter Try.func72, Try.ntmps72
        go_wp2_with fail
        refine CALL.out.mono ?_
        rintro e wn ⟨s2, rfl, hl2, hbn⟩
        obtain ⟨a2, cap2, rfl, -, -⟩ := hl2.out
        have hbw := hb3.trans (hbn.mono hb3.size)
        have q1n := hbn.block (w.heap.size + 1) (by simp)
        rw [q1] at q1n
        obtain ⟨z0, z1, z2, z3, z4⟩ := five_cells q1n
        obtain ⟨f0, f1, f2, f3, f4⟩ := five_free q1n
        have HL2 := Lib.hid hl2
        clear hbn hl2 q1
        go_wp2
        (try simp only [Exit.inBlock, Exit.then])
        refine bodyPost_ret (results_cell_row rfl _ _ (w.heap.size + 1) _ _ _ du rfl (five_set q1n) hu1 (by cases du <;> first | rfl | exact hu2) size_term) rfl ?_
        rw [HRES.out]
        exact ⟨_, rfl, liesP_fives HL2.out (by simp <;> omega) (by simp <;> omega) _ _ _ _ _, below_five hbw (by omega) _ _ _ _ _⟩
      · have hpk : ∀ p ∈ ([0, 1, 2, 3] : List Nat), p < t.kids.length := by
          have hlen := node_length (t.right_node HR0.out)
          rw [hkc] at hlen
          have h9 : t.kids.length = 4 := by simp [kidsN] at hlen; omega
          intro p hp
          simp at hp
          omega
        have hres := bare_pick t 7 [0, 1, 2, 3] hkc rfl rfl hpk
        have hb3 := below_three w (.cells #[.int .i64 t.k, .int .i64 t.i, .int .i64 t.j, .int .i64 t.n, .slice a t.kids.length cap] 26) (.cells #[.int .i64 0, .int .i64 0, .int .i64 0, .int .i64 0, .slice none 0 0] 26) (.cells #[.int .i64 0, .int .i64 1, .int .i64 2, .int .i64 3] 3)
        obtain ⟨q0, q1, q2, -⟩ := heap_three w (.cells #[.int .i64 t.k, .int .i64 t.i, .int .i64 t.j, .int .i64 t.n, .slice a t.kids.length cap] 26) (.cells #[.int .i64 0, .int .i64 0, .int .i64 0, .int .i64 0, .slice none 0 0] 26) (.cells #[.int .i64 0, .int .i64 1, .int .i64 2, .int .i64 3] 3)
        have hti := liesI_new (l := [(0 : Int), (1 : Int), (2 : Int), (3 : Int)]) q2 (by decide)
        have CALL := Lib.hid (plain_of t IH.out HRK.out 17 [0, 1, 2, 3] hpk (by decide) _ _ _ (HL.out.keep hb3) hti)
        have HRES := Lib.hid hres
        clear hti hpk hres q2 q0
        have e3 : (t.k == 3) = false := by rw [hkc]; decide
        have e4 : (t.k == 4) = false := by rw [hkc]; decide
        have e5 : (t.k == 5) = false := by rw [hkc]; decide
        have e6 : (t.k == 6) = false := by rw [hkc]; decide
        have e7 : (t.k == 7) = true := by rw [hkc]; decide
        clear hkc
        go_enter Try.func72, Try.ntmps72
        go_wp2_with fail
        refine CALL.out.mono ?_
        rintro e wn ⟨s2, rfl, hl2, hbn⟩
        obtain ⟨a2, cap2, rfl, -, -⟩ := hl2.out
        have hbw := hb3.trans (hbn.mono hb3.size)
        have q1n := hbn.block (w.heap.size + 1) (by simp)
        rw [q1] at q1n
        obtain ⟨z0, z1, z2, z3, z4⟩ := five_cells q1n
        obtain ⟨f0, f1, f2, f3, f4⟩ := five_free q1n
        have HL2 := Lib.hid hl2
        clear hbn hl2 q1
        go_wp2
        (try simp only [Exit.inBlock, Exit.then])
        refine bodyPost_ret (results_cell_row rfl _ _ (w.heap.size + 1) _ _ _ du rfl (five_set q1n) hu1 (by cases du <;> first | rfl | exact hu2) size_term) rfl ?_
        rw [HRES.out]
        exact ⟨_, rfl, liesP_fives HL2.out (by simp <;> omega) (by simp <;> omega) _ _ _ _ _, below_five hbw (by omega) _ _ _ _ _⟩
      · have hpk : ∀ p ∈ ([2] : List Nat), p < t.kids.length := by
          have hlen := node_length (t.right_node HR0.out)
          rw [hkc] at hlen
          have h9 : t.kids.length = 3 := by simp [kidsN] at hlen; omega
          intro p hp
          simp at hp
          omega
        have hres := bare_pick t 8 [2] hkc rfl rfl hpk
        have hb3 := below_three w (.cells #[.int .i64 t.k, .int .i64 t.i, .int .i64 t.j, .int .i64 t.n, .slice a t.kids.length cap] 26) (.cells #[.int .i64 0, .int .i64 0, .int .i64 0, .int .i64 0, .slice none 0 0] 26) (.cells #[.int .i64 2] 3)
        obtain ⟨q0, q1, q2, -⟩ := heap_three w (.cells #[.int .i64 t.k, .int .i64 t.i, .int .i64 t.j, .int .i64 t.n, .slice a t.kids.length cap] 26) (.cells #[.int .i64 0, .int .i64 0, .int .i64 0, .int .i64 0, .slice none 0 0] 26) (.cells #[.int .i64 2] 3)
        have hti := liesI_new (l := [(2 : Int)]) q2 (by decide)
        have CALL := Lib.hid (plain_of t IH.out HRK.out 18 [2] hpk (by decide) _ _ _ (HL.out.keep hb3) hti)
        have HRES := Lib.hid hres
        clear hti hpk hres q2 q0
        have e3 : (t.k == 3) = false := by rw [hkc]; decide
        have e4 : (t.k == 4) = false := by rw [hkc]; decide
        have e5 : (t.k == 5) = false := by rw [hkc]; decide
        have e6 : (t.k == 6) = false := by rw [hkc]; decide
        have e7 : (t.k == 7) = false := by rw [hkc]; decide
        have e8 : (t.k == 8) = true := by rw [hkc]; decide
        clear hkc
        go_enter Try.func72, Try.ntmps72
        go_wp2_with fail
        refine CALL.out.mono ?_
        rintro e wn ⟨s2, rfl, hl2, hbn⟩
        obtain ⟨a2, cap2, rfl, -, -⟩ := hl2.out
        have hbw := hb3.trans (hbn.mono hb3.size)
        have q1n := hbn.block (w.heap.size + 1) (by simp)
        rw [q1] at q1n
        obtain ⟨z0, z1, z2, z3, z4⟩ := five_cells q1n
        obtain ⟨f0, f1, f2, f3, f4⟩ := five_free q1n
        have HL2 := Lib.hid hl2
        clear hbn hl2 q1
        go_wp2
        (try simp only [Exit.inBlock, Exit.then])
        refine bodyPost_ret (results_cell_row rfl _ _ (w.heap.size + 1) _ _ _ du rfl (five_set q1n) hu1 (by cases du <;> first | rfl | exact hu2) size_term) rfl ?_
        rw [HRES.out]
        exact ⟨_, rfl, liesP_fives HL2.out (by simp <;> omega) (by simp <;> omega) _ _ _ _ _, below_five hbw (by omega) _ _ _ _ _⟩
      · have hpk : ∀ p ∈ ([2] : List Nat), p < t.kids.length := by
          have hlen := node_length (t.right_node HR0.out)
          rw [hkc] at hlen
          have h9 : t.kids.length = 3 := by simp [kidsN] at hlen; omega
          intro p hp
          simp at hp
          omega
        have hres := bare_pick t 9 [2] hkc rfl rfl hpk
        have hb3 := below_three w (.cells #[.int .i64 t.k, .int .i64 t.i, .int .i64 t.j, .int .i64 t.n, .slice a t.kids.length cap] 26) (.cells #[.int .i64 0, .int .i64 0, .int .i64 0, .int .i64 0, .slice none 0 0] 26) (.cells #[.int .i64 2] 3)
        obtain ⟨q0, q1, q2, -⟩ := heap_three w (.cells #[.int .i64 t.k, .int .i64 t.i, .int .i64 t.j, .int .i64 t.n, .slice a t.kids.length cap] 26) (.cells #[.int .i64 0, .int .i64 0, .int .i64 0, .int .i64 0, .slice none 0 0] 26) (.cells #[.int .i64 2] 3)
        have hti := liesI_new (l := [(2 : Int)]) q2 (by decide)
        have CALL := Lib.hid (plain_of t IH.out HRK.out 19 [2] hpk (by decide) _ _ _ (HL.out.keep hb3) hti)
        have HRES := Lib.hid hres
        clear hti hpk hres q2 q0
        have e3 : (t.k == 3) = false := by rw [hkc]; decide
        have e4 : (t.k == 4) = false := by rw [hkc]; decide
        have e5 : (t.k == 5) = false := by rw [hkc]; decide
        have e6 : (t.k == 6) = false := by rw [hkc]; decide
        have e7 : (t.k == 7) = false := by rw [hkc]; decide
        have e8 : (t.k == 8) = false := by rw [hkc]; decide
        have e9 : (t.k == 9) = true := by rw [hkc]; decide
        clear hkc
        go_enter Try.func72, Try.ntmps72
        go_wp2_with fail
        refine CALL.out.mono ?_
        rintro e wn ⟨s2, rfl, hl2, hbn⟩
        obtain ⟨a2, cap2, rfl, -, -⟩ := hl2.out
        have hbw := hb3.trans (hbn.mono hb3.size)
        have q1n := hbn.block (w.heap.size + 1) (by simp)
        rw [q1] at q1n
        obtain ⟨z0, z1, z2, z3, z4⟩ := five_cells q1n
        obtain ⟨f0, f1, f2, f3, f4⟩ := five_free q1n
        have HL2 := Lib.hid hl2
        clear hbn hl2 q1
        go_wp2
        (try simp only [Exit.inBlock, Exit.then])
        refine bodyPost_ret (results_cell_row rfl _ _ (w.heap.size + 1) _ _ _ du rfl (five_set q1n) hu1 (by cases du <;> first | rfl | exact hu2) size_term) rfl ?_
        rw [HRES.out]
        exact ⟨_, rfl, liesP_fives HL2.out (by simp <;> omega) (by simp <;> omega) _ _ _ _ _, below_five hbw (by omega) _ _ _ _ _⟩
      · have hpk : ∀ p ∈ ([0, 1, 2] : List Nat), p < t.kids.length := by
          have hlen := node_length (t.right_node HR0.out)
          rw [hkc] at hlen
          have h9 : t.kids.length = 3 := by simp [kidsN] at hlen; omega
          intro p hp
          simp at hp
          omega
        have hres := bare_pick t 10 [0, 1, 2] hkc rfl rfl hpk
        have hb3 := below_three w (.cells #[.int .i64 t.k, .int .i64 t.i, .int .i64 t.j, .int .i64 t.n, .slice a t.kids.length cap] 26) (.cells #[.int .i64 0, .int .i64 0, .int .i64 0, .int .i64 0, .slice none 0 0] 26) (.cells #[.int .i64 0, .int .i64 1, .int .i64 2] 3)
        obtain ⟨q0, q1, q2, -⟩ := heap_three w (.cells #[.int .i64 t.k, .int .i64 t.i, .int .i64 t.j, .int .i64 t.n, .slice a t.kids.length cap] 26) (.cells #[.int .i64 0, .int .i64 0, .int .i64 0, .int .i64 0, .slice none 0 0] 26) (.cells #[.int .i64 0, .int .i64 1, .int .i64 2] 3)
        have hti := liesI_new (l := [(0 : Int), (1 : Int), (2 : Int)]) q2 (by decide)
        have CALL := Lib.hid (plain_of t IH.out HRK.out 20 [0, 1, 2] hpk (by decide) _ _ _ (HL.out.keep hb3) hti)
        have HRES := Lib.hid hres
        clear hti hpk hres q2 q0
        have e3 : (t.k == 3) = false := by rw [hkc]; decide
        have e4 : (t.k == 4) = false := by rw [hkc]; decide
        have e5 : (t.k == 5) = false := by rw [hkc]; decide
        have e6 : (t.k == 6) = false := by rw [hkc]; decide
        have e7 : (t.k == 7) = false := by rw [hkc]; decide
        have e8 : (t.k == 8) = false := by rw [hkc]; decide
        have e9 : (t.k == 9) = false := by rw [hkc]; decide
        have e10 : (t.k == 10) = true := by rw [hkc]; decide
        clear hkc
        go_enter Try.func72, Try.ntmps72
        go_wp2_with fail
        refine CALL.out.mono ?_
        rintro e wn ⟨s2, rfl, hl2, hbn⟩
        obtain ⟨a2, cap2, rfl, -, -⟩ := hl2.out
        have hbw := hb3.trans (hbn.mono hb3.size)
        have q1n := hbn.block (w.heap.size + 1) (by simp)
        rw [q1] at q1n
        obtain ⟨z0, z1, z2, z3, z4⟩ := five_cells q1n
        obtain ⟨f0, f1, f2, f3, f4⟩ := five_free q1n
        have HL2 := Lib.hid hl2
        clear hbn hl2 q1
        go_wp2
        (try simp only [Exit.inBlock, Exit.then])
        refine bodyPost_ret (results_cell_row rfl _ _ (w.heap.size + 1) _ _ _ du rfl (five_set q1n) hu1 (by cases du <;> first | rfl | exact hu2) size_term) rfl ?_
        rw [HRES.out]
        exact ⟨_, rfl, liesP_fives HL2.out (by simp <;> omega) (by simp <;> omega) _ _ _ _ _, below_five hbw (by omega) _ _ _ _ _⟩
      · have hpk : ∀ p ∈ ([0, 1] : List Nat), p < t.kids.length := by
          have hlen := node_length (t.right_node HR0.out)
          rw [hkc] at hlen
          have h9 : t.kids.length = 2 := by simp [kidsN] at hlen; omega
          intro p hp
          simp at hp
          omega
        have hres := bare_pick t 11 [0, 1] hkc rfl rfl hpk
        have hb3 := below_three w (.cells #[.int .i64 t.k, .int .i64 t.i, .int .i64 t.j, .int .i64 t.n, .slice a t.kids.length cap] 26) (.cells #[.int .i64 0, .int .i64 0, .int .i64 0, .int .i64 0, .slice none 0 0] 26) (.cells #[.int .i64 0, .int .i64 1] 3)
        obtain ⟨q0, q1, q2, -⟩ := heap_three w (.cells #[.int .i64 t.k, .int .i64 t.i, .int .i64 t.j, .int .i64 t.n, .slice a t.kids.length cap] 26) (.cells #[.int .i64 0, .int .i64 0, .int .i64 0, .int .i64 0, .slice none 0 0] 26) (.cells #[.int .i64 0, .int .i64 1] 3)
        have hti := liesI_new (l := [(0 : Int), (1 : Int)]) q2 (by decide)
        have CALL := Lib.hid (plain_of t IH.out HRK.out 21 [0, 1] hpk (by decide) _ _ _ (HL.out.keep hb3) hti)
        have HRES := Lib.hid hres
        clear hti hpk hres q2 q0
        have e3 : (t.k == 3) = false := by rw [hkc]; decide
        have e4 : (t.k == 4) = false := by rw [hkc]; decide
        have e5 : (t.k == 5) = false := by rw [hkc]; decide
        have e6 : (t.k == 6) = false := by rw [hkc]; decide
        have e7 : (t.k == 7) = false := by rw [hkc]; decide
        have e8 : (t.k == 8) = false := by rw [hkc]; decide
        have e9 : (t.k == 9) = false := by rw [hkc]; decide
        have e10 : (t.k == 10) = false := by rw [hkc]; decide
        have e11 : (t.k == 11) = true := by rw [hkc]; decide
        clear hkc
        go_enter Try.func72, Try.ntmps72
        go_wp2_with fail
        refine CALL.out.mono ?_
        rintro e wn ⟨s2, rfl, hl2, hbn⟩
        obtain ⟨a2, cap2, rfl, -, -⟩ := hl2.out
        have hbw := hb3.trans (hbn.mono hb3.size)
        have q1n := hbn.block (w.heap.size + 1) (by simp)
        rw [q1] at q1n
        obtain ⟨z0, z1, z2, z3, z4⟩ := five_cells q1n
        obtain ⟨f0, f1, f2, f3, f4⟩ := five_free q1n
        have HL2 := Lib.hid hl2
        clear hbn hl2 q1
        go_wp2
        (try simp only [Exit.inBlock, Exit.then])
        refine bodyPost_ret (results_cell_row rfl _ _ (w.heap.size + 1) _ _ _ du rfl (five_set q1n) hu1 (by cases du <;> first | rfl | exact hu2) size_term) rfl ?_
        rw [HRES.out]
        exact ⟨_, rfl, liesP_fives HL2.out (by simp <;> omega) (by simp <;> omega) _ _ _ _ _, below_five hbw (by omega) _ _ _ _ _⟩
      · have hpk : ∀ p ∈ ([0, 1, 2, 3] : List Nat), p < t.kids.length := by
          have hlen := node_length (t.right_node HR0.out)
          rw [hkc] at hlen
          have h9 : t.kids.length = 4 := by simp [kidsN] at hlen; omega
          intro p hp
          simp at hp
          omega
        have hres := bare_pick t 12 [0, 1, 2, 3] hkc rfl rfl hpk
        have hb3 := below_three w (.cells #[.int .i64 t.k, .int .i64 t.i, .int .i64 t.j, .int .i64 t.n, .slice a t.kids.length cap] 26) (.cells #[.int .i64 0, .int .i64 0, .int .i64 0, .int .i64 0, .slice none 0 0] 26) (.cells #[.int .i64 0, .int .i64 1, .int .i64 2, .int .i64 3] 3)
        obtain ⟨q0, q1, q2, -⟩ := heap_three w (.cells #[.int .i64 t.k, .int .i64 t.i, .int .i64 t.j, .int .i64 t.n, .slice a t.kids.length cap] 26) (.cells #[.int .i64 0, .int .i64 0, .int .i64 0, .int .i64 0, .slice none 0 0] 26) (.cells #[.int .i64 0, .int .i64 1, .int .i64 2, .int .i64 3] 3)
        have hti := liesI_new (l := [(0 : Int), (1 : Int), (2 : Int), (3 : Int)]) q2 (by decide)
        have CALL := Lib.hid (plain_of t IH.out HRK.out 23 [0, 1, 2, 3] hpk (by decide) _ _ _ (HL.out.keep hb3) hti)
        have HRES := Lib.hid hres
        clear hti hpk hres q2
        have e3 : (t.k == 3) = false := by rw [hkc]; decide
        have e4 : (t.k == 4) = false := by rw [hkc]; decide
        have e5 : (t.k == 5) = false := by rw [hkc]; decide
        have e6 : (t.k == 6) = false := by rw [hkc]; decide
        have e7 : (t.k == 7) = false := by rw [hkc]; decide
        have e8 : (t.k == 8) = false := by rw [hkc]; decide
        have e9 : (t.k == 9) = false := by rw [hkc]; decide
        have e10 : (t.k == 10) = false := by rw [hkc]; decide
        have e11 : (t.k == 11) = false := by rw [hkc]; decide
        have e12 : (t.k == 12) = true := by rw [hkc]; decide
        clear hkc
        go_enter Try.func72, Try.ntmps72
        go_wp2_with fail
        refine CALL.out.mono ?_
        rintro e wn ⟨s2, rfl, hl2, hbn⟩
        obtain ⟨a2, cap2, rfl, -, -⟩ := hl2.out
        have hbw := hb3.trans (hbn.mono hb3.size)
        have q1n := hbn.block (w.heap.size + 1) (by simp)
        rw [q1] at q1n
        obtain ⟨z0, z1, z2, z3, z4⟩ := five_cells q1n
        obtain ⟨f0, f1, f2, f3, f4⟩ := five_free q1n
        have HL2 := Lib.hid hl2
        have q0n := hbn.block w.heap.size (by simp; omega)
        rw [q0] at q0n
        obtain ⟨d0, d1, d2, d3, d4⟩ := five_cells q0n
        have hsn : w.heap.size + 1 < wn.heap.size := by have := (Array.getElem?_eq_some_iff.1 q1n).1; exact this
        have hsn0 : w.heap.size < wn.heap.size := by omega
        clear hbn hl2 q1
        go_wp2_with fail
        go_region
        all_goals
          go_wp2
          refine bodyPost_ret (results_cell_row rfl _ _ (w.heap.size + 1) _ _ _ du rfl (five_alloc q1n _ _ _ _ _ _) hu1 (by cases du <;> first | rfl | exact hu2) size_term) rfl ?_
          rw [HRES.out]
          exact ⟨_, rfl, (liesP_fives_alloc HL2.out (by simp <;> omega) (by simp <;> omega) _ _ _ _ _ _).later (Below.refl _ _).drew, (below_five_alloc hbw (by omega) (by omega) _ _ _ _ _ _).drew⟩
    · have hres : t.bare = .mk t.k t.i t.j t.n (t.kids.map Tm.bare) := by rw [Tm.bare_eq, bareNode, if_neg hmk]
      have HRES := Lib.hid hres
      have e3 : (t.k == 3) = false := by simp; omega
      have e4 : (t.k == 4) = false := by simp; omega
      have e5 : (t.k == 5) = false := by simp; omega
      have e6 : (t.k == 6) = false := by simp; omega
      have e7 : (t.k == 7) = false := by simp; omega
      have e8 : (t.k == 8) = false := by simp; omega
      have e9 : (t.k == 9) = false := by simp; omega
      have e10 : (t.k == 10) = false := by simp; omega
      have e11 : (t.k == 11) = false := by simp; omega
      have e12 : (t.k == 12) = false := by simp; omega
      have hd0 := desk_start w t t (.slice a t.kids.length cap) (.slice none 0 0)
      obtain ⟨i0, hi, hz0, hz1, hz2⟩ := info_parts info_term
      have HI := Lib.hid (And.intro hi (And.intro hz0 (And.intro hz1 hz2)))
      clear hi hz0 hz1 hz2 hres hmk hkind
      go_enter Try.func72, Try.ntmps72
      go_wp2_with fail
      go_loopw [76] (fun i wr => ∃ (q : Nat) (ps : List (Tm × Value)) (vv : Value), q ≤ t.kids.length ∧ i = .int .i64 q ∧ Hid (ps.map (·.1) = (t.kids.map Tm.bare).take q) ∧ Made (w.heap.size + 3) wr vv ps ∧ Desk w t t (.slice a t.kids.length cap) vv wr) (fun i _ => t.kids.length - (intOf i).toNat)
      case atStart => exact ⟨0, [], _, Nat.zero_le _, rfl, by simp [Hid], made_nil _ _, hd0⟩
      case round =>
        clear hd0
        obtain ⟨q, ps, vv, hq0, rfl, hps, hmade, hdk⟩ := hrel
        have HPS := Lib.hid hps.out
        clear hps
        obtain ⟨q0, q1, q2⟩ := desk_blocks hdk
        obtain ⟨d0, d1, d2, d3, d4⟩ := five_cells q0
        obtain ⟨y0, y1, y2, y3, y4⟩ := five_cells q2
        obtain ⟨z0, z1, z2, z3, z4⟩ := five_cells q1
        obtain ⟨f0, f1, f2, f3, f4⟩ := five_free q1
        have hsz := desk_size hdk
        have hsw : w.heap.size + 1 + 1 < wr.heap.size := by omega
        clear q0 q2
        by_cases hlt : q < t.kids.length
        · obtain ⟨b', o, rfl, hx⟩ := HN.out q hlt
          have hq := HK.out q hlt
          obtain ⟨a', cap', S', hS, -⟩ := hq.out
          rw [hS] at hx hq
          obtain ⟨c0, c1, c2, c3, c4⟩ := hx.below (desk_under hdk) hx.lt
          have HM := Lib.hid (List.getElem_mem hlt)
          have hrk := HRK.out _ HM.out
          have hfx := right_fine (plain_right (bare_plain _ hrk))
          obtain ⟨x, hxb⟩ : ∃ x, (t.kids[q]).bare = x := ⟨_, rfl⟩
          have hb9 : Below wr.heap.size wr (wr.alloc (.cells #[.int .i64 t.kids[q].k, .int .i64 t.kids[q].i, .int .i64 t.kids[q].j, .int .i64 t.kids[q].n, .slice a' t.kids[q].kids.length cap'] 26)).drew := ((Below.refl _ _).alloc (Nat.le_refl _) _).drew
          have CALL := IH.out _ HM.out _ _ (hq.keep ((desk_under hdk).trans (hb9.mono (by omega)))) hrk
          rw [hxb] at CALL hfx
          have hpl : ps.length = q := by have := congrArg List.length HPS.out; simp at this; omega
          have hnext : (t.kids.map Tm.bare).take (q + 1) = (t.kids.map Tm.bare).take q ++ [x] := by
            rw [List.take_succ_eq_append_getElem (by simpa using hlt), List.getElem_map, hxb]
          have HPL := Lib.hid hpl
          have HMD := Lib.hid hmade
          have HFX := Lib.hid hfx
          have HNX := Lib.hid hnext
          have HB9 := Lib.hid hb9
          have HCALL := Lib.hid CALL
          have hda := desk_later hdk ((Below.refl _ _).alloc (Nat.le_refl _) (.cells #[.int .i64 t.kids[q].k, .int .i64 t.kids[q].i, .int .i64 t.kids[q].j, .int .i64 t.kids[q].n, .slice a' t.kids[q].kids.length cap'] 26))
          obtain ⟨-, -, r2⟩ := desk_blocks hda
          obtain ⟨-, -, -, -, r4⟩ := five_cells r2
          clear hS hq hx hfx hxb hrk hpl hnext hmade CALL hb9 hda r2
          go_wp2_with fail
          go_region_law (first | (refine step_append_lies _ rfl _ _ 24 rfl (w.heap.size + 3) 26 i0 _ 5 56 (by kernel_rfl) HI.out.1 HI.out.2.1 HI.out.2.2.1 HI.out.2.2.2 rfl (by decide) _ ps.length (cells5 ps) rfl (made_later (made_later HMD.out HB2.out) ((Below.refl _ _).alloc (Nat.le_refl _) _)).own ⟨wn.heap.size, 0, none⟩ 1 1 (cells5 [(x, .slice a2 x.kids.length cap2)]) rfl rfl (news_new _ _ _ _) (one5 _ _) (by decide) (by have := HPL.out; unfold maxLen; omega) (by have := HPL.out; omega) (by have := desk_size hd2; simp; omega) _ rfl ?_; intro g cap3 w3 hown hgrow hat _; have hpb := push_once hdk HMD.out HFX.out HB2.out HL2.out _ hown hgrow hat; have HPB := Lib.hid hpb.1; have hd3 := hpb.2; have HD3 := Lib.hid hd3; obtain ⟨-, -, r3⟩ := desk_blocks hd3; obtain ⟨-, -, -, -, r4⟩ := five_cells r3; obtain ⟨-, -, -, -, s4⟩ := five_free r3; clear r3 hpb hown hgrow hat hd3) | (go_simp; go_at_call 72; ((with_reducible refine Calls.mono HCALL.out ?_); rintro e wn ⟨s2, rfl, hl2, hbn⟩; obtain ⟨a2, cap2, rfl, -, -⟩ := hl2.out; have hbn2 := HB9.out.trans (hbn.mono HB9.out.size); have hd2 := desk_later hdk hbn2; obtain ⟨-, -, r2⟩ := desk_blocks hd2; obtain ⟨-, -, -, -, r4⟩ := five_cells r2; have HL2 := Lib.hid (hl2.from (B' := wr.heap.size) (by simp <;> omega)); have HB2 := Lib.hid hbn2; have hsn : w.heap.size + 1 + 1 < wn.heap.size := (by have := desk_size hd2; omega); clear r2 hl2 hbn hbn2)))
          all_goals
            go_wp2_with fail
            go_roundw
            case rel => exact ⟨q + 1, ps ++ [(x, .slice a2 x.kids.length cap2)], _, hlt, by go_num, by rw [Hid, List.map_append, HPS.out, HNX.out]; rfl, made_below HPB.out (by omega) _, desk_set HD3.out⟩
            case measure => simp [intOf]; omega
        · have : q = t.kids.length := by omega
          subst this
          have hres : ps.map (·.1) = t.kids.map Tm.bare := by
            have := HPS.out
            rwa [List.take_of_length_le (by simp)] at this
          have hll := made_lies hmade
          rw [hres] at hll
          obtain ⟨a2, cap2, rfl, -, -⟩ := hll.out
          simp only [List.length_map] at hll hdk y4
          have HLL := Lib.hid hll
          clear hres hll
          go_wp2
          (try simp only [Exit.inBlock, Exit.then])
          refine bodyPost_ret (results_cell_row rfl _ _ (w.heap.size + 1) _ _ _ du rfl (five_set q1) hu1 (by cases du <;> first | rfl | exact hu2) size_term) rfl ?_
          rw [HRES.out]
          exact ⟨_, rfl, liesP_fives HLL.out (by omega) (by omega) _ _ _ _ _, below_five (desk_under hdk) (by omega) _ _ _ _ _⟩
end Go.Proofs.Ytjhdcjjoignioaa
