/-
  Texts in one: Copy, EntD, EntU, Jud, LoadRow.
-/
import Derived.Test.YtjhdcjjoignioaaTwin
import Derived.Test.YtjhdcjjoignioaaDesk
import Derived.Test.YtjhdcjjoignioaaPcC
import Derived.Test.YtjhdcjjoignioaaEnds
import Derived.Test.YtjhdcjjoignioaaPcB
import Derived.Test.YtjhdcjjoignioaaPcA
import Derived.OrdersHeld
import Derived.Laws.Rows
import Derived.WalkKit
/-! tree.Copy and Copies: a copy of a term in new memory. -/
namespace Go.Proofs.Ytjhdcjjoignioaa
open Go.RowKit

set_option maxRecDepth 20000 in
set_option maxHeartbeats 4000000 in
theorem copies_of (l : List Tm) (ih : ∀ x ∈ l, ∀ (w : World) (s : Value), Lies w x.kids s → Calls Try.prog 50 #[tv x s] w (Makes x w))
    (w : World) (s : Value) (hl : Lies w l s) (hlen : l.length ≤ 1000000) : Calls Try.prog 75 #[s] w (MakesAll l w) := by
  obtain ⟨a, cap, S, rfl, hc, hmx, hf, hn, hk⟩ := hl.out
  unfold maxLen at hmx
  obtain ⟨i0, hi, hz0, hz1, hz2⟩ := info_parts info_term
  have IH := Lib.hid ih
  have HN := Lib.hid hn
  have HK := Lib.hid hk
  have HF := Lib.hid hf
  have HI := Lib.hid (And.intro hi (And.intro hz0 (And.intro hz1 hz2)))
  clear ih hn hk hl hf hi hz0 hz1 hz2
  by_cases h0 : l.length = 0
  · obtain rfl : l = [] := List.eq_nil_of_length_eq_zero h0
    go_enter Try.func75, Try.ntmps75
    go_wp2
    go_ret
    exact ⟨_, rfl, liesP_nil _ _, Below.refl _ _⟩
  have e1 : ((l.length : Int) == 0) = false := by simpa using h0
  have e2 : (l.length == 0) = false := by simpa using h0
  clear h0
  go_enter Try.func75, Try.ntmps75
  go_wp2_with (at_make; refine wpList_make_full _ rfl _ _ 24 rfl w.heap.size 26 i0 _ 5 (by kernel_rfl) HI.out.1 HI.out.2.1 HI.out.2.2.1 _ _ _ _ l.length rfl rfl rfl rfl ?bytes ?max ?base ?next)
  case bytes => rw [HI.out.2.2.2]; omega
  case max => unfold maxLen; omega
  case base => exact Nat.le_refl _
  case next =>
  intro w2 hown hgrow
  have hful := full_made hown
  have hbel : Below w.heap.size w w2 := (Below.refl _ _).grown hgrow (Nat.le_refl _) (by simp)
  obtain ⟨g, hg⟩ : ∃ g, w.heap.size = g := ⟨_, rfl⟩
  have HGE := Lib.hid (show w.heap.size ≤ g by omega)
  (try rw [hg] at hful)
  (try rw [hg])
  have hful' : Full w.heap.size w2 g (List.replicate l.length (Tm.zero, .slice none 0 0)) := by rw [hg]; exact hful
  clear hown hgrow hful e1 e2
  have hbel' : Below w.heap.size w w2 := hbel
  clear hbel
  have HG := Lib.hid hg
  clear hg
  go_wp2_with fail
  go_loopw [14] (fun iv wr => ∃ (k : Nat) (xs : List (Tm × Value)), k ≤ l.length ∧ iv = .int .i64 k ∧ Hid (xs.length = l.length) ∧ Hid ((xs.map (·.1)).take k = l.take k) ∧ Full w.heap.size wr g xs ∧ Below w.heap.size w wr) (fun iv _ => l.length - (intOf iv).toNat)
  case atStart => exact ⟨0, _, Nat.zero_le _, rfl, List.length_replicate, rfl, hful', hbel'⟩
  case round =>
    clear hful' hbel'
    obtain ⟨k, xs, hk, rfl, hxl, hxs, hfu, hb⟩ := hrel
    by_cases hlt : k < l.length
    · obtain ⟨b, o, rfl, hx⟩ := HN.out k hlt
      obtain ⟨x0, x1, x2, x3, x4⟩ := hx.below hb hx.lt
      have hq := (HK.out k hlt).keep hb
      obtain ⟨a', cap', S', hS, -⟩ := hq.out
      rw [hS] at x4 hq
      have HXK := Lib.hid (show k < xs.length by have := hxl.out; omega)
      have HM := Lib.hid (List.getElem_mem hlt)
      have hV : Below wr.heap.size wr (wr.alloc (.cells #[.int .i64 l[k].k, .int .i64 l[k].i, .int .i64 l[k].j, .int .i64 l[k].n, .slice a' l[k].kids.length cap'] 26)) := (Below.refl _ _).alloc (Nat.le_refl _) _
      have hqV := hq.keep hV
      have HFV := Lib.hid (hfu.later hV)
      have HKV := Lib.hid (below_call hb hV hb.size)
      have HW := Lib.hid hb.size
      clear hS hq hV hfu hb
      go_wp2_with fail
      refine (IH.out _ HM.out _ _ hqV).mono ?_
      generalize wr.alloc (.cells #[.int .i64 l[k].k, .int .i64 l[k].i, .int .i64 l[k].j, .int .i64 l[k].n, .slice a' l[k].kids.length cap'] 26) = V at HFV HKV hqV ⊢
      rintro ee wn ⟨s2, rfl, hl2, hbn⟩
      obtain ⟨a2, cap2, rfl, -, -⟩ := hl2.out
      have hfn := HFV.out.later hbn
      have HL2 := Lib.hid (HFV.out.fresh HKV.out.size hl2)
      have HKN := Lib.hid (below_call HKV.out hbn HKV.out.size)
      obtain ⟨z0, z1, z2, z3, z4⟩ := hfn.node k HXK.out
      obtain ⟨cs, hcs⟩ := hfn.open'
      obtain ⟨r0, r1, r2, r3, r4, -⟩ := open_free hcs (k * 5)
      have HFN := Lib.hid hfn
      clear hfn hcs hbn hl2 hqV x0 x1 x2 x3 x4
      go_wp2_with fail
      have hFN := HFN.out.fill (t := l[k]) HXK.out (HF.out _ HM.out) HL2.out
      have hkE := put5_below HKN.out HGE.out (k * 5) l[k] (.slice a2 l[k].kids.length cap2)
      clear z0 z1 z2 z3 z4 r0 r1 r2 r3 r4
      go_roundw
      case rel => exact ⟨k + 1, xs.set k (l[k], .slice a2 l[k].kids.length cap2), by omega, by go_num, by show _ = _; rw [List.length_set]; exact hxl.out, take_set_map _ hxl.out hlt hxs.out rfl, hFN, hkE⟩
      case measure => simp [intOf]; omega
    · obtain rfl : k = l.length := by omega
      have hxs' : xs.map (·.1) = l := by
        have h := hxs.out
        rw [List.take_of_length_le (by simp [hxl.out]), List.take_of_length_le (Nat.le_refl _)] at h
        exact h
      have hres := hfu.lies (cap := l.length) (by rw [hxl.out]; exact Nat.le_refl _) (by unfold maxLen; omega)
      rw [hxs', hxl.out] at hres
      go_wp2_with fail
      go_ret
      exact ⟨_, rfl, hres, hb⟩

set_option maxRecDepth 20000 in
set_option maxHeartbeats 4000000 in
theorem copy_any (t : Tm) : ∀ (w : World) (s : Value), Lies w t.kids s → t.size ≤ 1000000 → Calls Try.prog 50 #[tv t s] w (Makes t w) := by
  induction t using Tm.ind with
  | h t ih =>
    intro w s hl hsz
    obtain ⟨a, cap, S, rfl, hc, hm, hf, hn, hk⟩ := hl.out
    rw [t.size_eq] at hsz
    have CP : ∀ (w' : World) (s' : Value), Lies w' t.kids s' → Calls Try.prog 75 #[s'] w' (MakesAll t.kids w') := fun w' s' h' => copies_of t.kids (fun x hx w2 s2 h2 => ih x hx w2 s2 h2 (by have := size_mem _ x hx; omega)) w' s' h' (by have := len_sizes t.kids; omega)
    unfold tv
    unfold maxLen at hm
    obtain ⟨du, hu1, hu2⟩ := under_term
    have HL := Lib.hid hl
    replace CP := Lib.hid CP
    have H0 := boxes_start w t (.slice a t.kids.length cap)
    clear ih hn hk hf hl
    go_enter Try.func50, Try.ntmps50
    go_wp2_with fail
    refine (CP.out _ _ (boxes_lies H0 HL.out)).mono ?_
    generalize (w.alloc (.cells #[.int .i64 t.k, .int .i64 t.i, .int .i64 t.j, .int .i64 t.n, .slice a t.kids.length cap] 26)).alloc (.cells #[.int .i64 0, .int .i64 0, .int .i64 0, .int .i64 0, .slice none 0 0] 26) = V at H0 ⊢
    rintro ee wn ⟨s2, rfl, hl2, hb2⟩
    obtain ⟨a2, cap2, rfl, -, -⟩ := hl2.out
    have hs := Below.size H0
    have hh := boxes_call H0 hb2
    have hl3 : LiesP wn (Own (w.heap.size + 2) wn) t.kids (.slice a2 t.kids.length cap2) := hl2.from (by simpa using hs)
    have hbx := boxes_block hh
    have hbo : wn.heap[w.heap.size]? = some (boxOf t (.slice a t.kids.length cap)) := by
      rw [Below.block hh _ (by omega), Below.heap_alloc _ _ _ (by simp)]; exact alloc_new _ _
    obtain ⟨x0, x1, x2, x3, x4, z0, z1, z2, z3, z4, f0, f1, f2, f3, f4⟩ := boxes_cells hh
    obtain ⟨q0, q1, q2, q3, q4⟩ := five_free hbo
    have HL3 := Lib.hid hl3
    have HBX : Hid ((wn.setCell ⟨w.heap.size, 4, none⟩ (.slice a2 t.kids.length cap2)).heap[w.heap.size + 1]? = some (.cells #[.int .i64 0, .int .i64 0, .int .i64 0, .int .i64 0, .slice none 0 0] 26 (0, 0))) := (Below.heap_setCell _ _ _ _ (by show w.heap.size + 1 ≠ w.heap.size; omega)).trans hbx
    have HBL := Lib.hid (held_below (boxes_held hh))
    clear hl2 hb2 hl3 hbx hbo hh hs H0
    go_wp2
    refine bodyPost_ret (results_cell_row rfl _ _ (w.heap.size + 1) _ _ _ du rfl (five_set HBX.out) hu1 (by cases du <;> first | rfl | exact hu2) size_term) rfl ?_
    refine ⟨_, rfl, ?_, ?_⟩
    · exact liesP_fives (liesP_set HL3.out (by omega) (Nat.le_refl _) _) (by omega) (by omega) _ _ _ _ _
    · exact below_five (HBL.out.setCell (Nat.le_refl _) _) (by omega) _ _ _ _ _
end Go.Proofs.Ytjhdcjjoignioaa

/-! tree.Entries and ctx.Add. -/
namespace Go.Proofs.Ytjhdcjjoignioaa
open Go.RowKit

theorem wpList_make_room {P : Program} (w : World) {ops : Array Oper} {rest : List Oper} {o : Oper} {a : Act} {Q : Exit → Act → World → Prop}
    (hg : o.guard = none) (l c : Operand) (t : TypeId) (hop : o.op = Op.makeSlice t l c)
    (e : TypeId) (i : TypeInfo) (z : Value) (size : Nat) (h1 : P.underlying t = some (.slice e)) (h2 : P.info? e = some i) (h3 : i.zero = some z) (h4 : i.size = size)
    (kl kc : IntKind) (L C : Int) (n m : Nat) (hl : a.eval l = .int kl L) (hc : a.eval c = .int kc C) (hL : L = (n : Int)) (hC : C = (m : Int)) (hnm : n ≤ m) (b2 : i.bytes * m ≤ 281474976710656) (b3 : m ≤ maxLen)
    (hK : wpList P ops Q rest (a.put o.dst (.slice (some ⟨w.heap.size, 0, none⟩) n m)) (w.alloc (.cells (madeCells z.cells (m * size)) e))) :
    wpList P ops Q (o :: rest) a w := by
  refine wpList_plain hg fun K hK' => ?_
  have h63' : (m : Int) ≤ 9223372036854775807 := by simp [maxLen] at b3; omega
  have hb' : (i.bytes : Int) * (m : Int) ≤ 281474976710656 := by
    have h : ((i.bytes * m : Nat) : Int) ≤ 281474976710656 := by omega
    rwa [Int.natCast_mul] at h
  have hrun := run_make (P := P) w t e i z h1 h2 h3 kl kc n m (by omega) (by omega) hb' h63'
  simp only [Int.toNat_natCast, h4] at hrun
  subst hL
  subst hC
  unfold Oper.wp
  simp [execOp, hop, hl, hc, hrun, Result.andThen]
  exact hK' _ _ hK

/-- A block of N cells of entries, open. -/
def SizeE (w : World) (g N : Nat) : Prop := ∃ cs, w.heap[g]? = some (.cells cs 38 (0, 0)) ∧ cs.size = N
theorem SizeE.later {w w' : World} {g N : Nat} (h : SizeE w g N) (hb : Below w.heap.size w w') : SizeE w' g N := by
  obtain ⟨cs, h1, h2⟩ := h
  exact ⟨cs, (hb.block g (Array.getElem?_eq_some_iff.1 h1).1).trans h1, h2⟩
theorem SizeE.put6 {w : World} {g N o : Nat} {t : En} {s : Value} (h : SizeE w g N) : SizeE (put6 w g o t s) g N := by
  obtain ⟨cs, h1, h2⟩ := h
  exact ⟨_, heap_setCell_same _ _ _ _ _ _ (put5_block _ _ _ h1), by simpa using h2⟩
theorem fullE_own {B g N n : Nat} {w : World} {xs : List (En × Value)} (h : FullE B w g xs) (hs : SizeE w g (N * 6)) (hn : n ≤ xs.length) (hnN : n ≤ N) (hN : N ≤ maxLen) :
    w.ownsRow B 38 6 (.slice (some ⟨g, 0, none⟩) n N) n (cells6 (xs.take n)) := by
  obtain ⟨cs, h1, h2⟩ := hs
  have hl : (xs.take n).length = n := by simp; omega
  refine ⟨by rw [cells6_length, hl], Or.inr ⟨g, N, cs, rfl, h.above, h1, hnN, hN, h2, ?_⟩⟩
  apply List.ext_getElem?
  intro j
  by_cases hj : j < n * 6
  · have h5 : j % 6 < 6 := Nat.mod_lt _ (by omega)
    have hd : j / 6 < n := by omega
    have e : j = j / 6 * 6 + j % 6 := by omega
    have h3 := cells6_get (xs.take n) (j / 6) (by omega) (j % 6) h5
    rw [← e] at h3
    rw [h3, List.getElem?_take_of_lt hj]
    have hc : cs.toList[j]? = w.cell? ⟨g, j, none⟩ := by rw [cell_of_row w g j cs _ _ h1]; simp
    have hnode := h.node (j / 6) (by omega)
    rw [hc]
    simp only [List.getElem_take]
    have hq : ∀ q, q = j % 6 → w.cell? ⟨g, j / 6 * 6 + q, none⟩ = w.cell? ⟨g, j, none⟩ := fun q hq => by rw [hq, ← e]
    generalize hqq : j % 6 = q at h5
    rw [← hq q hqq.symm]
    match q, h5 with
    | 0, _ => exact hnode.c0
    | 1, _ => exact hnode.c1
    | 2, _ => exact hnode.c2
    | 3, _ => exact hnode.c3
    | 4, _ => exact hnode.c4
    | 5, _ => exact hnode.c5
  · rw [List.getElem?_eq_none (by simp; omega), List.getElem?_eq_none (by rw [cells6_length, hl]; omega)]
theorem fullE_made' {B g N n : Nat} {w : World} {xs : List (En × Value)} (h : FullE B w g xs) (hs : SizeE w g (N * 6)) (hn : n ≤ xs.length) (hnN : n ≤ N) (hN : N ≤ maxLen) :
    MadeE B w (.slice (some ⟨g, 0, none⟩) n N) (xs.take n) := by
  have hl : (xs.take n).length = n := by simp; omega
  refine ⟨by rw [hl]; exact fullE_own h hs hn hnN hN, fun p hp => h.fine p (List.mem_of_mem_take hp), fun p hp => ?_⟩
  exact (h.kids p (List.mem_of_mem_take hp)).keep (fun _ _ _ => rfl) (fun b hb _ => ⟨hb.1, by simp only [Value.ownBlock, ne_eq, Option.some.injEq]; exact fun e => hb.2 e.symm⟩)
/-- What Entries hands back: a row of the call's own. -/
def GivesRow (l : List En) (w : World) (e : Ending) (w' : World) : Prop := ∃ (s' : Value) (ps : List (En × Value)), e = .returned s' ∧ MadeE w.heap.size w' s' ps ∧ ps.map (·.1) = l ∧ Below w.heap.size w w'
def en0 : Oper := { dst := some 19, op := Go.Op.move (Go.Operand.tmp 3), type := 22, pos := "tree.go:28", after := #[], guard := none }
def en1 : Oper := { dst := some 20, op := Go.Op.move (Go.Operand.tmp 4), type := 3, pos := "tree.go:28", after := #[], guard := none }
def en2 : Oper := { dst := some 21, op := Go.Op.fieldAddr 38 (Go.Operand.tmp 5) 0, type := 0, pos := "tree.go:28", after := #[], guard := none }
def en3 : Oper := { dst := some 22, op := Go.Op.load 26 (Go.Operand.tmp 21), type := 26, pos := "tree.go:28", after := #[{ on := 2, ground := Go.Ground.data }], guard := none }
def en4 : Oper := { dst := some 23, op := Go.Op.call { callee := Go.Callee.value (Go.Operand.func 50), args := #[Go.Operand.tmp 22], argTypes := #[26] }, type := 26, pos := "tree.go:28", after := #[{ on := 3, ground := Go.Ground.data }], guard := none }
def en5 : Oper := { dst := some 24, op := Go.Op.fieldAddr 38 (Go.Operand.tmp 5) 1, type := 0, pos := "tree.go:28", after := #[], guard := none }
def en6 : Oper := { dst := some 25, op := Go.Op.load 3 (Go.Operand.tmp 24), type := 3, pos := "tree.go:28", after := #[{ on := 5, ground := Go.Ground.data }], guard := none }
def en7 : Oper := { dst := some 26, op := Go.Op.build 38 #[(0, Go.Operand.tmp 23), (1, Go.Operand.tmp 25)], type := 38, pos := "tree.go:28", after := #[{ on := 4, ground := Go.Ground.data }, { on := 6, ground := Go.Ground.data }], guard := none }
def en8 : Oper := { dst := some 27, op := Go.Op.indexAddr 22 (Go.Operand.tmp 19) (Go.Operand.tmp 20), type := 0, pos := "tree.go:28", after := #[{ on := 0, ground := Go.Ground.data }, { on := 1, ground := Go.Ground.data }, { on := 0, ground := Go.Ground.phase }, { on := 1, ground := Go.Ground.phase }, { on := 2, ground := Go.Ground.phase }, { on := 3, ground := Go.Ground.phase }, { on := 4, ground := Go.Ground.phase }, { on := 5, ground := Go.Ground.phase }, { on := 6, ground := Go.Ground.phase }, { on := 7, ground := Go.Ground.phase }], guard := none }
def en9 : Oper := { dst := none, op := Go.Op.store 38 (Go.Operand.tmp 27) (Go.Operand.tmp 26), type := 0, pos := "tree.go:28", after := #[{ on := 8, ground := Go.Ground.data }, { on := 7, ground := Go.Ground.data }, { on := 4, ground := Go.Ground.chain }, { on := 0, ground := Go.Ground.phase }, { on := 1, ground := Go.Ground.phase }, { on := 2, ground := Go.Ground.phase }, { on := 3, ground := Go.Ground.phase }, { on := 4, ground := Go.Ground.phase }, { on := 5, ground := Go.Ground.phase }, { on := 6, ground := Go.Ground.phase }, { on := 7, ground := Go.Ground.phase }], guard := none }
theorem take_set_map2 {α β : Type} (f : β → α) {xs : List β} {l : List α} {k : Nat} (hx : k < xs.length) (hk : k < l.length) (h : (xs.map f).take k = l.take k) {y : β} (hy : f y = l[k]) : ((xs.set k y).map f).take (k + 1) = l.take (k + 1) := by
  have hk1 : k < (xs.set k y).length := by simp; omega
  rw [List.take_succ_eq_append_getElem (by simpa using hk1), List.take_succ_eq_append_getElem hk]
  congr 1
  · rw [← h]; apply List.ext_getElem?; intro i
    by_cases hi : i < k
    · simp [List.getElem?_take_of_lt hi, List.getElem?_set_ne (Nat.ne_of_gt hi)]
    · simp [List.getElem?_take, hi]
  · simp [hy]
set_option maxRecDepth 20000 in
set_option maxHeartbeats 4000000 in
theorem entries_any (l : List En) (w : World) (s : Value) (hl : LiesE w l s) (hlen : l.length ≤ 100000) (hsz : ∀ x ∈ l, x.a.size ≤ 1000000) : Calls Try.prog 49 #[s] w (GivesRow l w) := by
  obtain ⟨a, cap, S, rfl, hc, hmx, hf, hn, hk⟩ := hl.out
  unfold maxLen at hmx
  obtain ⟨i0, hi, hz0, hz1, hz2⟩ := info_parts info_entry
  have HI := Lib.hid (And.intro hi (And.intro hz0 (And.intro hz1 hz2)))
  have HN := Lib.hid hn
  have HK := Lib.hid hk
  have HF := Lib.hid hf
  have HSA := Lib.hid hsz
  clear hn hk hl hf hi hz0 hz1 hz2 hsz
  go_enter Try.func49, Try.ntmps49
  go_wp2_with (at_make; refine wpList_make_room _ rfl _ _ 22 rfl 38 i0 _ 6 (by kernel_rfl) HI.out.1 HI.out.2.1 HI.out.2.2.1 _ _ _ _ l.length (l.length + 1) rfl rfl rfl ?hC ?hnm ?bytes ?max ?next)
  case hC => simp
  case hnm => omega
  case bytes => rw [HI.out.2.2.2]; omega
  case max => unfold maxLen; omega
  have hown := World.ownsRow_lit w (madeCells #[Value.int .i64 0, .int .i64 0, .int .i64 0, .int .i64 0, .slice none 0 0, .int .i64 0] ((l.length + 1) * 6)) (e := 38) (size := 6) (l.length + 1) (Nat.le_refl w.heap.size) (by unfold maxLen; omega) (size_madeCells _ _)
  have hblk := alloc_new w (.cells (madeCells #[Value.int .i64 0, .int .i64 0, .int .i64 0, .int .i64 0, .slice none 0 0, .int .i64 0] ((l.length + 1) * 6)) 38)
  have hbel : Below w.heap.size w (w.alloc (.cells (madeCells #[Value.int .i64 0, .int .i64 0, .int .i64 0, .int .i64 0, .slice none 0 0, .int .i64 0] ((l.length + 1) * 6)) 38)) := (Below.refl _ _).alloc (Nat.le_refl _) _
  have hful := fullE_made hown
  have hsz2 : SizeE (w.alloc (.cells (madeCells #[Value.int .i64 0, .int .i64 0, .int .i64 0, .int .i64 0, .slice none 0 0, .int .i64 0] ((l.length + 1) * 6)) 38)) w.heap.size ((l.length + 1) * 6) := ⟨_, hblk, size_madeCells _ _⟩
  clear hown hblk
  have HGE := Lib.hid (Nat.le_refl w.heap.size)
  generalize w.alloc (.cells (madeCells #[Value.int .i64 0, .int .i64 0, .int .i64 0, .int .i64 0, .slice none 0 0, .int .i64 0] ((l.length + 1) * 6)) 38) = w2 at hbel hful hsz2 ⊢
  go_loopw [14] (fun iv wr => ∃ (k : Nat) (xs : List (En × Value)), k ≤ l.length ∧ iv = .int .i64 k ∧ Hid (xs.length = l.length + 1) ∧ Hid ((xs.map (·.1)).take k = l.take k) ∧ FullE w.heap.size wr w.heap.size xs ∧ SizeE wr w.heap.size ((l.length + 1) * 6) ∧ Below w.heap.size w wr) (fun iv _ => l.length - (intOf iv).toNat)
  case atStart => exact ⟨0, _, Nat.zero_le _, rfl, List.length_replicate, rfl, hful, hsz2, hbel⟩
  case round =>
    clear hful hbel hsz2
    obtain ⟨k, xs, hk, rfl, hxl, hxs, hfu, hse, hb⟩ := hrel
    by_cases hlt : k < l.length
    · obtain ⟨b, o, rfl, hx⟩ := HN.out k hlt
      have hx := hx.below hb hx.lt
      have hq := HK.out k hlt
      obtain ⟨a', cap', S', hS, -⟩ := hq.out
      rw [hS] at hx hq
      have HQ := Lib.hid hq
      have HXK := Lib.hid (show k < xs.length by have := hxl.out; omega)
      have HM := Lib.hid (List.getElem_mem hlt)
      have HSZ := Lib.hid (HSA.out _ HM.out)
      obtain ⟨x0, x1, x2, x3, x4, x5⟩ := hx
      have hglt : w.heap.size < wr.heap.size := hfu.lt
      clear hS hq
      go_upto_region 5 with fail
      have hX := bnode_new wr l[k] (.slice a' l[k].a.kids.length cap')
      have hkV : Kept w (wr.alloc (.cells #[.int .i64 l[k].a.k, .int .i64 l[k].a.i, .int .i64 l[k].a.j, .int .i64 l[k].a.n, (.slice a' l[k].a.kids.length cap'), .int .i64 l[k].i] 38)) := Below.alloc hb hb.size _
      have hfV := hfu.later (w' := wr.alloc (.cells #[.int .i64 l[k].a.k, .int .i64 l[k].a.i, .int .i64 l[k].a.j, .int .i64 l[k].a.n, (.slice a' l[k].a.kids.length cap'), .int .i64 l[k].i] 38)) ((Below.refl _ _).alloc (Nat.le_refl _) _)
      have hsV := hse.later (w' := wr.alloc (.cells #[.int .i64 l[k].a.k, .int .i64 l[k].a.i, .int .i64 l[k].a.j, .int .i64 l[k].a.n, (.slice a' l[k].a.kids.length cap'), .int .i64 l[k].i] 38)) ((Below.refl _ _).alloc (Nat.le_refl _) _)
      obtain ⟨ge, hge⟩ : ∃ ge, wr.heap.size = ge := ⟨_, rfl⟩
      have HNE := Lib.hid (show ge ≠ w.heap.size by omega)
      rw [hge] at hX ⊢
      clear x0 x1 x2 x3 x4 x5 hb hfu hse hge hglt
      generalize wr.alloc (.cells #[.int .i64 l[k].a.k, .int .i64 l[k].a.i, .int .i64 l[k].a.j, .int .i64 l[k].a.n, (.slice a' l[k].a.kids.length cap'), .int .i64 l[k].i] 38) = V at hX hkV hfV hsV ⊢
      have hS0 : Kept w V ∧ BNode V ge l[k] (.slice a' l[k].a.kids.length cap') := ⟨hkV, hX⟩
      have hfx : FullE w.heap.size V.drew w.heap.size xs := hfV.later (Below.drew (Below.refl _ _))
      have hsx : SizeE V.drew w.heap.size ((l.length + 1) * 6) := hsV.later (Below.drew (Below.refl _ _))
      have hwx : w.heap.size ≤ V.drew.heap.size := hkV.size
      obtain ⟨x0, x1, x2, x3, x4, x5⟩ := hX
      refine wp_region_held_drew (S := fun w' => Kept w w' ∧ w'.cell? ⟨ge, 0, none⟩ = some (.int .i64 l[k].a.k) ∧ w'.cell? ⟨ge, 1, none⟩ = some (.int .i64 l[k].a.i) ∧ w'.cell? ⟨ge, 2, none⟩ = some (.int .i64 l[k].a.j) ∧ w'.cell? ⟨ge, 3, none⟩ = some (.int .i64 l[k].a.n) ∧ w'.cell? ⟨ge, 4, none⟩ = some ((.slice a' l[k].a.kids.length cap')) ∧ w'.cell? ⟨ge, 5, none⟩ = some (.int .i64 l[k].i)) (by kernel_rfl) ?_ (fun hHeld => ?_)
      · (try dsimp only)
        (first | exact hS7 | exact hS4 | exact bn_drew hS0)
      generalize V.drew = wx at hHeld hfx hsx hwx ⊢
      have HFU := Lib.hid hfx
      have HSE := Lib.hid hsx
      have HWX := Lib.hid hwx
      clear hkV hfV hsV hS0 x0 x1 x2 x3 x4 x5 hfx hsx hwx
      refine take_at 0 19 en0 (v := ?_) (Or.inl ⟨by rfl, ?_⟩) ?_
      rotate_left 1
      · ((intro w hSw; (try dsimp only at hSw); unfold en0; go_simp) <;> with_reducible rfl)
      (try simp only [Act.put, List.setIfInBounds_toArray, List.set_cons_zero, List.set_cons_succ])
      refine take_at 1 20 en1 (v := ?_) (Or.inl ⟨by rfl, ?_⟩) ?_
      rotate_left 1
      · ((intro w hSw; (try dsimp only at hSw); unfold en1; go_simp) <;> with_reducible rfl)
      (try simp only [Act.put, List.setIfInBounds_toArray, List.set_cons_zero, List.set_cons_succ])
      refine take_at 2 21 en2 (v := ?_) (Or.inl ⟨by rfl, ?_⟩) ?_
      rotate_left 1
      · ((intro w hSw; (try dsimp only at hSw); unfold en2; go_simp) <;> with_reducible rfl)
      (try simp only [Act.put, List.setIfInBounds_toArray, List.set_cons_zero, List.set_cons_succ])
      refine take_at 3 22 en3 (v := ?_) (Or.inl ⟨by rfl, ?_⟩) ?_
      rotate_left 1
      · ((intro w hSw; (try dsimp only at hSw); unfold en3; go_simp) <;> with_reducible rfl)
      (try simp only [Act.put, List.setIfInBounds_toArray, List.set_cons_zero, List.set_cons_succ])
      refine take_at 5 24 en5 (v := ?_) (Or.inl ⟨by rfl, ?_⟩) ?_
      rotate_left 1
      · ((intro w hSw; (try dsimp only at hSw); unfold en5; go_simp) <;> with_reducible rfl)
      (try simp only [Act.put, List.setIfInBounds_toArray, List.set_cons_zero, List.set_cons_succ])
      refine take_at 6 25 en6 (v := ?_) (Or.inl ⟨by rfl, ?_⟩) ?_
      rotate_left 1
      · ((intro w hSw; (try dsimp only at hSw); unfold en6; go_simp) <;> with_reducible rfl)
      (try simp only [Act.put, List.setIfInBounds_toArray, List.set_cons_zero, List.set_cons_succ])
      refine wpAnyH_ready (rs := [4]) (by kernel_rfl) (by simp) ?_
      refine AllReadyH.cons (o := en4) rfl (fun K hK => ?_) ?_
      · unfold en4
        go_simp
        (go_at_call 50; (with_reducible refine Calls.mono (copy_any l[k].a _ _ (kept_lies hHeld.1 HQ.out) HSZ.out) ?_); rintro ee wn ⟨s2, rfl, hl2, hbn⟩; obtain ⟨a2, cap2, rfl, -, -⟩ := hl2.out; have hS4 := bn_call hHeld hbn; have hfn := HFU.out.later hbn; have HSN := Lib.hid (HSE.out.later hbn); have HL2 := Lib.hid (HFU.out.fresh HWX.out hl2); clear hbn hl2 hHeld; obtain ⟨z0, z1, z2, z3, z4, z5⟩ := hfn.node k HXK.out; obtain ⟨cs, hcs⟩ := hfn.open'; obtain ⟨r0, r1, r2, r3, r4, r5⟩ := open_free hcs (k * 6); have HFN := Lib.hid hfn; clear hfn hcs)
        refine hK.out _ _ ?_ (fun hHeld => ?_)
        · (try dsimp only)
          (first | exact hS7 | exact hS4 | exact bn_drew hS0)
        clear hK K
        (try simp only [Act.put, List.setIfInBounds_toArray, List.set_cons_zero, List.set_cons_succ])
        refine take_at 7 26 en7 (v := ?_) (Or.inl ⟨by rfl, ?_⟩) ?_
        rotate_left 1
        · ((intro w hSw; (try dsimp only at hSw); unfold en7; go_simp) <;> with_reducible rfl)
        (try simp only [Act.put, List.setIfInBounds_toArray, List.set_cons_zero, List.set_cons_succ])
        refine take_at 8 27 en8 (v := ?_) (Or.inl ⟨by rfl, ?_⟩) ?_
        rotate_left 1
        · ((intro w hSw; (try dsimp only at hSw); unfold en8; go_simp) <;> with_reducible rfl)
        (try simp only [Act.put, List.setIfInBounds_toArray, List.set_cons_zero, List.set_cons_succ])
        refine wpAnyH_ready (rs := [9]) (by kernel_rfl) (by simp) ?_
        refine AllReadyH.cons (o := en9) rfl (fun K hK => ?_) ?_
        · unfold en9
          go_simp
          have hS7 := bn_put6 (o := k * 6) (t := l[k]) (st := .slice a2 l[k].a.kids.length cap2) hHeld HGE.out HNE.out
          (try clear hHeld)
          refine hK.out _ _ ?_ (fun hHeld => ?_)
          · (try dsimp only)
            (first | exact hS7 | exact hS4 | exact bn_drew hS0)
          clear hK K
          (try simp only [Act.put, List.setIfInBounds_toArray, List.set_cons_zero, List.set_cons_succ])
          refine wpAnyH_done (by kernel_rfl) ?_ _
          clear z0 z1 z2 z3 z4 z5 r0 r1 r2 r3 r4 r5
          have hFN := HFN.out.fill HXK.out (HF.out _ HM.out) HL2.out
          have hSN := HSN.out.put6 (o := k * 6) (t := l[k]) (s := .slice a2 l[k].a.kids.length cap2)
          have hkE := hHeld.1
          clear hHeld
          go_wp2_with fail
          go_roundw
          case rel => exact ⟨k + 1, xs.set k (l[k], .slice a2 l[k].a.kids.length cap2), by omega, by go_num, by show _ = _; rw [List.length_set]; exact hxl.out, take_set_map2 _ HXK.out hlt hxs.out rfl, hFN, hSN, hkE⟩
          case measure => simp [intOf]; omega
        exact AllReadyH.nil
      exact AllReadyH.nil
    · obtain rfl : k = l.length := by omega
      have hxs' : (xs.take l.length).map (·.1) = l := by
        have h := hxs.out
        rw [← List.map_take, List.take_of_length_le (Nat.le_refl l.length)] at h
        exact h
      have hres := fullE_made' (n := l.length) (N := l.length + 1) hfu hse (by have := hxl.out; omega) (by omega) (by unfold maxLen; omega)
      go_wp2_with fail
      go_ret
      exact ⟨_, _, rfl, hres, hxs', hb⟩

def ad0 : Oper := { dst := some 7, op := Go.Op.move (Go.Operand.tmp 0), type := 22, pos := "ctx.go:34", after := #[], guard := none }
def ad1 : Oper := { dst := some 8, op := Go.Op.call { callee := Go.Callee.value (Go.Operand.func 49), args := #[Go.Operand.tmp 7], argTypes := #[22] }, type := 22, pos := "ctx.go:34", after := #[{ on := 0, ground := Go.Ground.data }], guard := none }
def ad2 : Oper := { dst := some 9, op := Go.Op.load 26 (Go.Operand.tmp 4), type := 26, pos := "ctx.go:34", after := #[], guard := none }
def ad3 : Oper := { dst := some 10, op := Go.Op.call { callee := Go.Callee.value (Go.Operand.func 50), args := #[Go.Operand.tmp 9], argTypes := #[26] }, type := 26, pos := "ctx.go:34", after := #[{ on := 2, ground := Go.Ground.data }, { on := 1, ground := Go.Ground.chain }], guard := none }
def ad4 : Oper := { dst := some 11, op := Go.Op.move (Go.Operand.tmp 2), type := 3, pos := "ctx.go:34", after := #[], guard := none }
def ad5 : Oper := { dst := some 12, op := Go.Op.build 38 #[(0, Go.Operand.tmp 10), (1, Go.Operand.tmp 11)], type := 38, pos := "ctx.go:34", after := #[{ on := 3, ground := Go.Ground.data }, { on := 4, ground := Go.Ground.data }], guard := none }
def ad6 : Oper := { dst := some 13, op := Go.Op.buildSlice 22 1 #[(0, Go.Operand.tmp 12)], type := 22, pos := "ctx.go:34", after := #[{ on := 5, ground := Go.Ground.data }], guard := none }
def ad7 : Oper := { dst := some 14, op := Go.Op.call { callee := Go.Callee.builtin Go.Builtin.append, args := #[Go.Operand.tmp 8, Go.Operand.tmp 13], argTypes := #[22, 22] }, type := 22, pos := "ctx.go:34", after := #[{ on := 1, ground := Go.Ground.data }, { on := 6, ground := Go.Ground.data }, { on := 3, ground := Go.Ground.chain }], guard := none }
def ad8 : Oper := { dst := some 6, op := Go.Op.assign (Go.Operand.tmp 14), type := 22, pos := "ctx.go:34", after := #[{ on := 7, ground := Go.Ground.data }, { on := 7, ground := Go.Ground.chain }, { on := 0, ground := Go.Ground.phase }, { on := 1, ground := Go.Ground.phase }, { on := 2, ground := Go.Ground.phase }, { on := 3, ground := Go.Ground.phase }, { on := 4, ground := Go.Ground.phase }, { on := 5, ground := Go.Ground.phase }, { on := 6, ground := Go.Ground.phase }, { on := 7, ground := Go.Ground.phase }], guard := none }
theorem b5_call {w w' wn : World} {g : Nat} {t : Tm} {s : Value} (h : Kept w w' ∧ w'.cell? ⟨g, 0, none⟩ = some (.int .i64 t.k) ∧ w'.cell? ⟨g, 1, none⟩ = some (.int .i64 t.i) ∧ w'.cell? ⟨g, 2, none⟩ = some (.int .i64 t.j) ∧ w'.cell? ⟨g, 3, none⟩ = some (.int .i64 t.n) ∧ w'.cell? ⟨g, 4, none⟩ = some (s)) (hb : Below w'.heap.size w' wn) : Kept w wn ∧ wn.cell? ⟨g, 0, none⟩ = some (.int .i64 t.k) ∧ wn.cell? ⟨g, 1, none⟩ = some (.int .i64 t.i) ∧ wn.cell? ⟨g, 2, none⟩ = some (.int .i64 t.j) ∧ wn.cell? ⟨g, 3, none⟩ = some (.int .i64 t.n) ∧ wn.cell? ⟨g, 4, none⟩ = some (s) := ⟨kept_call h.1 hb, cell_lat hb h.2.1, cell_lat hb h.2.2.1, cell_lat hb h.2.2.2.1, cell_lat hb h.2.2.2.2.1, cell_lat hb h.2.2.2.2.2⟩
theorem b5_drew {w w' : World} {g : Nat} {t : Tm} {s : Value} (h : Kept w w' ∧ w'.cell? ⟨g, 0, none⟩ = some (.int .i64 t.k) ∧ w'.cell? ⟨g, 1, none⟩ = some (.int .i64 t.i) ∧ w'.cell? ⟨g, 2, none⟩ = some (.int .i64 t.j) ∧ w'.cell? ⟨g, 3, none⟩ = some (.int .i64 t.n) ∧ w'.cell? ⟨g, 4, none⟩ = some (s)) : Kept w w'.drew ∧ w'.drew.cell? ⟨g, 0, none⟩ = some (.int .i64 t.k) ∧ w'.drew.cell? ⟨g, 1, none⟩ = some (.int .i64 t.i) ∧ w'.drew.cell? ⟨g, 2, none⟩ = some (.int .i64 t.j) ∧ w'.drew.cell? ⟨g, 3, none⟩ = some (.int .i64 t.n) ∧ w'.drew.cell? ⟨g, 4, none⟩ = some (s) := ⟨kept_drew h.1, h.2⟩
theorem b5_grow {w w' w4 : World} {g : Nat} {t : Tm} {s : Value} {row : Option Nat} (h : Kept w w' ∧ w'.cell? ⟨g, 0, none⟩ = some (.int .i64 t.k) ∧ w'.cell? ⟨g, 1, none⟩ = some (.int .i64 t.i) ∧ w'.cell? ⟨g, 2, none⟩ = some (.int .i64 t.j) ∧ w'.cell? ⟨g, 3, none⟩ = some (.int .i64 t.n) ∧ w'.cell? ⟨g, 4, none⟩ = some (s)) (hg : w'.grownBy w4 row) (hr : ∀ k, row = some k → w.heap.size ≤ k) (hne : row ≠ some g) : Kept w w4 ∧ w4.cell? ⟨g, 0, none⟩ = some (.int .i64 t.k) ∧ w4.cell? ⟨g, 1, none⟩ = some (.int .i64 t.i) ∧ w4.cell? ⟨g, 2, none⟩ = some (.int .i64 t.j) ∧ w4.cell? ⟨g, 3, none⟩ = some (.int .i64 t.n) ∧ w4.cell? ⟨g, 4, none⟩ = some (s) := by
  have hlt : g < w'.heap.size := World.block_lt_of_cell? _ _ h.2.1
  have hb := hg.block g hlt (fun e => hne e.symm)
  have hc : ∀ q, w4.cell? ⟨g, q, none⟩ = w'.cell? ⟨g, q, none⟩ := fun q => World.cell?_of_block (a := ⟨g, q, none⟩) hb
  obtain ⟨hw, x0, x1, x2, x3, x4⟩ := h
  exact ⟨Below.grown hw hg (Below.size hw) hr, (hc _).trans x0, (hc _).trans x1, (hc _).trans x2, (hc _).trans x3, (hc _).trans x4⟩
set_option maxRecDepth 20000 in
set_option maxHeartbeats 4000000 in
theorem ctxadd_any (l : List En) (t : Tm) (i : Int) (w : World) (s st : Value) (hl : LiesE w l s) (ht : Lies w t.kids st) (hft : (⟨t, i⟩ : En).fine) (hlen : l.length ≤ 100000) (hsz : ∀ x ∈ l, x.a.size ≤ 1000000) (hst : t.size ≤ 1000000) : Calls Try.prog 23 #[s, tv t st, .int .i64 i] w (MakesE (l ++ [⟨t, i⟩]) w) := by
  obtain ⟨a, cap, S, rfl, -⟩ := hl.out
  obtain ⟨a2, cap2, S2, rfl, -⟩ := ht.out
  obtain ⟨i0, hi, hz0, hz1, hz2⟩ := info_parts info_entry
  have HI := Lib.hid (And.intro hi (And.intro hz0 (And.intro hz1 hz2)))
  have HL := Lib.hid hl
  have HT := Lib.hid ht
  have HFT := Lib.hid hft
  have HLE := Lib.hid hlen
  have HSA := Lib.hid hsz
  have HST := Lib.hid hst
  have HPL : ∀ ps : List (En × Value), ps.map (·.1) = l → ps.length ≤ 100000 := fun ps h => by have := congrArg List.length h; simp at this; omega
  have HPL := Lib.hid HPL
  unfold tv
  have hX : (w.alloc (.cells #[.int .i64 t.k, .int .i64 t.i, .int .i64 t.j, .int .i64 t.n, (.slice a2 t.kids.length cap2)] 26)).cell? ⟨w.heap.size, 0, none⟩ = some (.int .i64 t.k) ∧ (w.alloc (.cells #[.int .i64 t.k, .int .i64 t.i, .int .i64 t.j, .int .i64 t.n, (.slice a2 t.kids.length cap2)] 26)).cell? ⟨w.heap.size, 1, none⟩ = some (.int .i64 t.i) ∧ (w.alloc (.cells #[.int .i64 t.k, .int .i64 t.i, .int .i64 t.j, .int .i64 t.n, (.slice a2 t.kids.length cap2)] 26)).cell? ⟨w.heap.size, 2, none⟩ = some (.int .i64 t.j) ∧ (w.alloc (.cells #[.int .i64 t.k, .int .i64 t.i, .int .i64 t.j, .int .i64 t.n, (.slice a2 t.kids.length cap2)] 26)).cell? ⟨w.heap.size, 3, none⟩ = some (.int .i64 t.n) ∧ (w.alloc (.cells #[.int .i64 t.k, .int .i64 t.i, .int .i64 t.j, .int .i64 t.n, (.slice a2 t.kids.length cap2)] 26)).cell? ⟨w.heap.size, 4, none⟩ = some ((.slice a2 t.kids.length cap2)) := held_cells (held_start w t (.slice a2 t.kids.length cap2))
  have hkV : Kept w (w.alloc (.cells #[.int .i64 t.k, .int .i64 t.i, .int .i64 t.j, .int .i64 t.n, (.slice a2 t.kids.length cap2)] 26)) := kept_alloc (kept_start w) _
  have hwV : w.heap.size < (w.alloc (.cells #[.int .i64 t.k, .int .i64 t.i, .int .i64 t.j, .int .i64 t.n, (.slice a2 t.kids.length cap2)] 26)).heap.size := by simp
  clear hi hz0 hz1 hz2 hl ht hft hsz hst
  go_enter Try.func23, Try.ntmps23
  go_upto_region 1 with fail
  generalize w.alloc (.cells #[.int .i64 t.k, .int .i64 t.i, .int .i64 t.j, .int .i64 t.n, (.slice a2 t.kids.length cap2)] 26) = V at hX hkV hwV ⊢
  have hS0 : Kept w V ∧ V.cell? ⟨w.heap.size, 0, none⟩ = some (.int .i64 t.k) ∧ V.cell? ⟨w.heap.size, 1, none⟩ = some (.int .i64 t.i) ∧ V.cell? ⟨w.heap.size, 2, none⟩ = some (.int .i64 t.j) ∧ V.cell? ⟨w.heap.size, 3, none⟩ = some (.int .i64 t.n) ∧ V.cell? ⟨w.heap.size, 4, none⟩ = some ((.slice a2 t.kids.length cap2)) := ⟨hkV, hX⟩
  have hwx : w.heap.size ≤ V.drew.heap.size := Nat.le_of_lt hwV
  have hwy : w.heap.size < V.drew.heap.size := hwV
  refine wp_region_held_drew (S := fun w' => Kept w w' ∧ w'.cell? ⟨w.heap.size, 0, none⟩ = some (.int .i64 t.k) ∧ w'.cell? ⟨w.heap.size, 1, none⟩ = some (.int .i64 t.i) ∧ w'.cell? ⟨w.heap.size, 2, none⟩ = some (.int .i64 t.j) ∧ w'.cell? ⟨w.heap.size, 3, none⟩ = some (.int .i64 t.n) ∧ w'.cell? ⟨w.heap.size, 4, none⟩ = some ((.slice a2 t.kids.length cap2))) (by kernel_rfl) ?_ (fun hHeld => ?_)
  · (try dsimp only)
    (first | exact hS7 | exact hS6 | exact hS3 | exact hS1 | exact b5_drew hS0)
  generalize V.drew = wx at hHeld hwx hwy ⊢
  have HWX := Lib.hid hwx
  have HWY := Lib.hid hwy
  clear hS0 hX hkV hwV hwx hwy
  refine take_at 0 7 ad0 (v := ?_) (Or.inl ⟨by rfl, ?_⟩) ?_
  rotate_left 1
  · ((intro w hSw; (try dsimp only at hSw); unfold ad0; go_simp) <;> with_reducible rfl)
  (try simp only [Act.put, List.setIfInBounds_toArray, List.set_cons_zero, List.set_cons_succ])
  refine take_at 2 9 ad2 (v := ?_) (Or.inl ⟨by rfl, ?_⟩) ?_
  rotate_left 1
  · ((intro w hSw; (try dsimp only at hSw); unfold ad2; go_simp) <;> with_reducible rfl)
  (try simp only [Act.put, List.setIfInBounds_toArray, List.set_cons_zero, List.set_cons_succ])
  refine take_at 4 11 ad4 (v := ?_) (Or.inl ⟨by rfl, ?_⟩) ?_
  rotate_left 1
  · ((intro w hSw; (try dsimp only at hSw); unfold ad4; go_simp) <;> with_reducible rfl)
  (try simp only [Act.put, List.setIfInBounds_toArray, List.set_cons_zero, List.set_cons_succ])
  refine wpAnyH_ready (rs := [1]) (by kernel_rfl) (by simp) ?_
  refine AllReadyH.cons (o := ad1) rfl (fun K hK => ?_) ?_
  · unfold ad1
    go_simp
    (go_at_call 49; (with_reducible refine Calls.mono (entries_any l _ _ (HL.out.keep (kept_below hHeld.1)) HLE.out HSA.out) ?_); rintro ee w1 ⟨s1, ps, rfl, hm1, hps, hb1⟩; have hS1 := b5_call hHeld hb1; have HM1 := Lib.hid hm1; have HPS := Lib.hid hps; have HB1 := Lib.hid hb1; clear hm1 hps hb1 hHeld)
    refine hK.out _ _ ?_ (fun hHeld => ?_)
    · (try dsimp only)
      (first | exact hS7 | exact hS6 | exact hS3 | exact hS1 | exact b5_drew hS0)
    clear hK K
    (try simp only [Act.put, List.setIfInBounds_toArray, List.set_cons_zero, List.set_cons_succ])
    refine wpAnyH_ready (rs := [3]) (by kernel_rfl) (by simp) ?_
    refine AllReadyH.cons (o := ad3) rfl (fun K hK => ?_) ?_
    · unfold ad3
      go_simp
      (go_at_call 50; (with_reducible refine Calls.mono (copy_any t _ _ (HT.out.keep (kept_below hHeld.1)) HST.out) ?_); rintro ee w2 ⟨s2, rfl, hl2, hb2⟩; obtain ⟨a3, cap3, rfl, -, -⟩ := hl2.out; have hS3 := b5_call hHeld hb2; have HL2 := Lib.hid hl2; have HB2 := Lib.hid hb2; clear hl2 hb2 hHeld)
      refine hK.out _ _ ?_ (fun hHeld => ?_)
      · (try dsimp only)
        (first | exact hS7 | exact hS6 | exact hS3 | exact hS1 | exact b5_drew hS0)
      clear hK K
      (try simp only [Act.put, List.setIfInBounds_toArray, List.set_cons_zero, List.set_cons_succ])
      refine take_at 5 12 ad5 (v := ?_) (Or.inl ⟨by rfl, ?_⟩) ?_
      rotate_left 1
      · ((intro w hSw; (try dsimp only at hSw); unfold ad5; go_simp) <;> with_reducible rfl)
      (try simp only [Act.put, List.setIfInBounds_toArray, List.set_cons_zero, List.set_cons_succ])
      refine wpAnyH_ready (rs := [6]) (by kernel_rfl) (by simp) ?_
      refine AllReadyH.cons (o := ad6) rfl (fun K hK => ?_) ?_
      · unfold ad6
        go_simp
        have hS6 := b5_call hHeld ((Below.refl _ _).alloc (Nat.le_refl _) (.cells #[.int .i64 t.k, .int .i64 t.i, .int .i64 t.j, .int .i64 t.n, .slice a3 t.kids.length cap3, .int .i64 i] 38) : Below w2.heap.size w2 (w2.alloc (.cells #[.int .i64 t.k, .int .i64 t.i, .int .i64 t.j, .int .i64 t.n, .slice a3 t.kids.length cap3, .int .i64 i] 38)))
        (try clear hHeld)
        refine hK.out _ _ ?_ (fun hHeld => ?_)
        · (try dsimp only)
          (first | exact hS7 | exact hS6 | exact hS3 | exact hS1 | exact b5_drew hS0)
        clear hK K
        (try simp only [Act.put, List.setIfInBounds_toArray, List.set_cons_zero, List.set_cons_succ])
        refine wpAnyH_ready (rs := [7]) (by kernel_rfl) (by simp) ?_
        refine AllReadyH.cons (o := ad7) rfl (fun K hK => ?_) ?_
        · unfold ad7
          refine step_append_lies _ rfl _ _ 22 rfl wx.heap.size 38 i0 _ 6 64 (by kernel_rfl) HI.out.1 HI.out.2.1 HI.out.2.2.1 HI.out.2.2.2 rfl (by decide) s1 ps.length (cells6 ps) rfl (madeE_later (madeE_later HM1.out HB2.out) ((Below.refl _ _).alloc (Nat.le_refl _) _)).own ⟨w2.heap.size, 0, none⟩ 1 1 (cells6 [((⟨t, i⟩ : En), .slice a3 t.kids.length cap3)]) rfl rfl (newsE _ (⟨t, i⟩ : En) _ _) (oneE _ _) (by decide) (by have := HPL.out ps HPS.out; unfold maxLen; omega) (by have := HPL.out ps HPS.out; omega) (by have := HB1.out.size; have := HB2.out.size; simp; omega) _ rfl ?_
          intro g cap4 w3 hown hgrow hat hlt3
          have hS7 := b5_grow hHeld hgrow (fun k h => Nat.le_trans HWX.out (madeE_above HM1.out k h)) (fun e => by have := madeE_above HM1.out _ e; have := HWY.out; omega)
          clear hHeld
          refine hK.out _ _ ?_ (fun hHeld => ?_)
          · (try dsimp only)
            (first | exact hS7 | exact hS6 | exact hS3 | exact hS1 | exact b5_drew hS0)
          clear hK K
          (try simp only [Act.put, List.setIfInBounds_toArray, List.set_cons_zero, List.set_cons_succ])
          refine take_at 8 6 ad8 (v := ?_) (Or.inl ⟨by rfl, ?_⟩) ?_
          rotate_left 1
          · ((intro w hSw; (try dsimp only at hSw); unfold ad8; go_simp) <;> with_reducible rfl)
          (try simp only [Act.put, List.setIfInBounds_toArray, List.set_cons_zero, List.set_cons_succ])
          refine wpAnyH_done (by kernel_rfl) ?_ _
          have hkE := hHeld.1
          clear hHeld
          have hat' : s1.ownBlock = some g ∨ g = w2.heap.size + 1 := by simpa using hat
          have hMN := madeE_push HM1.out (show (⟨t, i⟩ : En).fine from HFT.out) HB1.out.size HB2.out HL2.out _ hown hgrow hat'
          have hres := (madeE_lies hMN).from HWX.out
          rw [List.map_append, HPS.out] at hres
          go_wp2_with fail
          go_ret
          exact ⟨_, rfl, hres, hkE⟩
        exact AllReadyH.nil
      exact AllReadyH.nil
    exact AllReadyH.nil
  exact AllReadyH.nil

end Go.Proofs.Ytjhdcjjoignioaa

/-! transhipkeep.TwinCtx once more: the row that the call owns. -/
namespace Go.Proofs.Ytjhdcjjoignioaa
open Go.RowKit

set_option maxRecDepth 20000 in
set_option maxHeartbeats 4000000 in
theorem twinrow_any (l : List En) (w : World) (s : Value) (hl : LiesE w l s) (hlen : l.length ≤ 1000000) (hsz : ∀ x ∈ l, x.a.size ≤ 1000000) : Calls Try.prog 15 #[s] w (GivesRow l w) := by
  obtain ⟨a, cap, S, rfl, hc, hmx, hf, hn, hk⟩ := hl.out
  unfold maxLen at hmx
  obtain ⟨i0, hi, hz0, hz1, hz2⟩ := info_parts info_entry
  have HN := Lib.hid hn
  have HK := Lib.hid hk
  have HF := Lib.hid hf
  have HSA := Lib.hid hsz
  have HI := Lib.hid (And.intro hi (And.intro hz0 (And.intro hz1 hz2)))
  clear hn hk hl hf hi hz0 hz1 hz2 hsz
  go_enter Try.func15, Try.ntmps15
  go_wp2
  go_loopw [3, 4] (fun v iv wr => ∃ (k : Nat) (ps : List (En × Value)) (vv : Value), vv = v ∧ k ≤ l.length ∧ iv = .int .i64 k ∧ Hid (ps.map (·.1) = l.take k) ∧ MadeE w.heap.size wr v ps ∧ Below w.heap.size w wr) (fun _ iv _ => l.length - (intOf iv).toNat)
  case atStart => exact ⟨0, [], _, rfl, Nat.zero_le _, rfl, by simp [Hid], madeE_nil _ _, Below.refl _ _⟩
  case round =>
    obtain ⟨k, ps, vv, rfl, hk, rfl, hps, hmade, hb⟩ := hrel
    by_cases hlt : k < l.length
    · obtain ⟨b, o, rfl, hx⟩ := HN.out k hlt
      have hq := HK.out k hlt
      obtain ⟨a', cap', S', hS, -⟩ := hq.out
      rw [hS] at hx hq
      have HX := Lib.hid hx
      have HQ := Lib.hid hq
      have HM := Lib.hid (List.getElem_mem hlt)
      have HSZ := Lib.hid (HSA.out _ HM.out)
      have hpl : ps.length = k := by have := congrArg List.length hps.out; simp at this; omega
      have HPL := Lib.hid hpl
      have hmd : MadeE w.heap.size wr.drew vv ps := madeE_later hmade (Below.drew (Below.refl _ _))
      have hkx : Kept w wr.drew := kept_drew hb
      obtain ⟨x0, x1, x2, x3, x4, x5⟩ := hx.below hb hx.lt
      clear hS hq hx hpl hmade
      go_wp2_with fail
      refine wp_region_held_drew (S := fun w' => Kept w w' ∧ w'.cell? ⟨b, o + k * 6, none⟩ = some (.int .i64 l[k].a.k) ∧ w'.cell? ⟨b, o + k * 6 + 1, none⟩ = some (.int .i64 l[k].a.i) ∧ w'.cell? ⟨b, o + k * 6 + 2, none⟩ = some (.int .i64 l[k].a.j) ∧ w'.cell? ⟨b, o + k * 6 + 3, none⟩ = some (.int .i64 l[k].a.n) ∧ w'.cell? ⟨b, o + k * 6 + 4, none⟩ = some ((.slice a' l[k].a.kids.length cap')) ∧ w'.cell? ⟨b, o + k * 6 + 5, none⟩ = some (.int .i64 l[k].i)) (by kernel_rfl) ?_ (fun hHeld => ?_)
      · (try dsimp only)
        (((with_reducible refine en_keep1 ?_ HX.out); repeat (first | with_reducible assumption | with_reducible refine kept_drew ?_ | with_reducible refine kept_alloc ?_ _)))
      generalize wr.drew = wx at hHeld hmd hkx ⊢
      have HMD := Lib.hid hmd
      have HKX := Lib.hid hkx
      clear hmd x0 x1 x2 x3 x4 x5
      refine take_at 0 11 tc0 (v := ?_) (Or.inl ⟨by rfl, ?_⟩) ?_
      rotate_left 1
      · ((intro w hSw; (try dsimp only at hSw); unfold tc0; go_simp) <;> with_reducible rfl)
      (try simp only [Act.put, List.setIfInBounds_toArray, List.set_cons_zero, List.set_cons_succ])
      refine take_at 1 12 tc1 (v := ?_) (Or.inl ⟨by rfl, ?_⟩) ?_
      rotate_left 1
      · ((intro w hSw; (try dsimp only at hSw); unfold tc1; go_simp) <;> with_reducible rfl)
      (try simp only [Act.put, List.setIfInBounds_toArray, List.set_cons_zero, List.set_cons_succ])
      refine take_at 2 13 tc2 (v := ?_) (Or.inl ⟨by rfl, ?_⟩) ?_
      rotate_left 1
      · ((intro w hSw; (try dsimp only at hSw); unfold tc2; go_simp) <;> with_reducible rfl)
      (try simp only [Act.put, List.setIfInBounds_toArray, List.set_cons_zero, List.set_cons_succ])
      refine take_at 3 14 tc3 (v := ?_) (Or.inl ⟨by rfl, ?_⟩) ?_
      rotate_left 1
      · ((intro w hSw; (try dsimp only at hSw); unfold tc3; go_simp) <;> with_reducible rfl)
      (try simp only [Act.put, List.setIfInBounds_toArray, List.set_cons_zero, List.set_cons_succ])
      refine take_at 4 15 tc4 (v := ?_) (Or.inl ⟨by rfl, ?_⟩) ?_
      rotate_left 1
      · ((intro w hSw; (try dsimp only at hSw); unfold tc4; go_simp) <;> with_reducible rfl)
      (try simp only [Act.put, List.setIfInBounds_toArray, List.set_cons_zero, List.set_cons_succ])
      refine take_at 5 16 tc5 (v := ?_) (Or.inl ⟨by rfl, ?_⟩) ?_
      rotate_left 1
      · ((intro w hSw; (try dsimp only at hSw); unfold tc5; go_simp) <;> with_reducible rfl)
      (try simp only [Act.put, List.setIfInBounds_toArray, List.set_cons_zero, List.set_cons_succ])
      refine take_at 7 18 tc7 (v := ?_) (Or.inl ⟨by rfl, ?_⟩) ?_
      rotate_left 1
      · ((intro w hSw; (try dsimp only at hSw); unfold tc7; go_simp) <;> with_reducible rfl)
      (try simp only [Act.put, List.setIfInBounds_toArray, List.set_cons_zero, List.set_cons_succ])
      refine take_at 8 19 tc8 (v := ?_) (Or.inl ⟨by rfl, ?_⟩) ?_
      rotate_left 1
      · ((intro w hSw; (try dsimp only at hSw); unfold tc8; go_simp) <;> with_reducible rfl)
      (try simp only [Act.put, List.setIfInBounds_toArray, List.set_cons_zero, List.set_cons_succ])
      refine take_at 9 20 tc9 (v := ?_) (Or.inl ⟨by rfl, ?_⟩) ?_
      rotate_left 1
      · ((intro w hSw; (try dsimp only at hSw); unfold tc9; go_simp) <;> with_reducible rfl)
      (try simp only [Act.put, List.setIfInBounds_toArray, List.set_cons_zero, List.set_cons_succ])
      refine take_at 10 21 tc10 (v := ?_) (Or.inl ⟨by rfl, ?_⟩) ?_
      rotate_left 1
      · ((intro w hSw; (try dsimp only at hSw); unfold tc10; go_simp) <;> with_reducible rfl)
      (try simp only [Act.put, List.setIfInBounds_toArray, List.set_cons_zero, List.set_cons_succ])
      refine take_at 11 22 tc11 (v := ?_) (Or.inl ⟨by rfl, ?_⟩) ?_
      rotate_left 1
      · ((intro w hSw; (try dsimp only at hSw); unfold tc11; go_simp) <;> with_reducible rfl)
      (try simp only [Act.put, List.setIfInBounds_toArray, List.set_cons_zero, List.set_cons_succ])
      refine wpAnyH_ready (rs := [6]) (by kernel_rfl) (by simp) ?_
      refine AllReadyH.cons (o := tc6) rfl (fun K hK => ?_) ?_
      · unfold tc6
        go_simp
        (go_at_call 44; have hS := hHeld.1; refine (twin_any l[k].a _ _ (kept_lies hS HQ.out) HSZ.out).mono ?_; rintro e w2 ⟨s2, rfl, hl2, hb2⟩; obtain ⟨a2, cap2, rfl, -, -⟩ := hl2.out; have hh := kept_call hS hb2; have HL2 := Lib.hid hl2; have HB2 := Lib.hid hb2; clear hl2 hb2 hS hHeld)
        refine hK.out _ _ ?_ (fun hHeld => ?_)
        · (try dsimp only)
          (((with_reducible refine en_keep1 ?_ HX.out); repeat (first | with_reducible assumption | with_reducible refine kept_drew ?_ | with_reducible refine kept_alloc ?_ _)))
        clear hK K
        (try simp only [Act.put, List.setIfInBounds_toArray, List.set_cons_zero, List.set_cons_succ])
        refine take_at 12 23 tc12 (v := ?_) (Or.inl ⟨by rfl, ?_⟩) ?_
        rotate_left 1
        · ((intro w hSw; (try dsimp only at hSw); unfold tc12; go_simp) <;> with_reducible rfl)
        (try simp only [Act.put, List.setIfInBounds_toArray, List.set_cons_zero, List.set_cons_succ])
        refine wpAnyH_ready (rs := [13]) (by kernel_rfl) (by simp) ?_
        refine AllReadyH.cons (o := tc13) rfl (fun K hK => ?_) ?_
        · unfold tc13
          go_simp
          refine hK.out _ _ ?_ (fun hHeld => ?_)
          · (try dsimp only)
            (((with_reducible refine en_keep1 ?_ HX.out); repeat (first | with_reducible assumption | with_reducible refine kept_drew ?_ | with_reducible refine kept_alloc ?_ _)))
          clear hK K
          (try simp only [Act.put, List.setIfInBounds_toArray, List.set_cons_zero, List.set_cons_succ])
          refine wpAnyH_ready (rs := [14]) (by kernel_rfl) (by simp) ?_
          refine AllReadyH.cons (o := tc14) rfl (fun K hK => ?_) ?_
          · unfold tc14
            refine step_append_lies _ rfl _ _ 22 rfl w.heap.size 38 i0 _ 6 64 (by kernel_rfl) HI.out.1 HI.out.2.1 HI.out.2.2.1 HI.out.2.2.2 rfl (by decide) _ ps.length (cells6 ps) rfl (madeE_later (madeE_later HMD.out HB2.out) ((Below.refl _ _).alloc (Nat.le_refl _) _)).own ⟨w2.heap.size, 0, none⟩ 1 1 (cells6 [(l[k], .slice a2 l[k].a.kids.length cap2)]) rfl rfl (newsE _ _ _ _) (oneE _ _) (by decide) (by have := HPL.out; unfold maxLen; omega) (by have := HPL.out; omega) (by have := hh.size; simp; omega) _ rfl ?_
            intro g cap3 w3 hown hgrow hat hlt3
            have hkE : Kept w w3 := belowE_push HMD.out HKX.out HKX.out.size HB2.out _ hgrow
            clear hHeld
            refine hK.out _ _ ?_ (fun hHeld => ?_)
            · (try dsimp only)
              (((with_reducible refine en_keep1 ?_ HX.out); repeat (first | with_reducible assumption | with_reducible refine kept_drew ?_ | with_reducible refine kept_alloc ?_ _)))
            clear hK K
            (try simp only [Act.put, List.setIfInBounds_toArray, List.set_cons_zero, List.set_cons_succ])
            refine take_at 15 3 tc15 (v := ?_) (Or.inl ⟨by rfl, ?_⟩) ?_
            rotate_left 1
            · ((intro w hSw; (try dsimp only at hSw); unfold tc15; go_simp) <;> with_reducible rfl)
            (try simp only [Act.put, List.setIfInBounds_toArray, List.set_cons_zero, List.set_cons_succ])
            refine wpAnyH_done (by kernel_rfl) ?_ _
            clear hHeld
            have hat' := by simpa using hat
            have hMN := madeE_push HMD.out (HF.out _ HM.out) HKX.out.size HB2.out HL2.out _ hown hgrow hat'
            go_wp2_with fail
            go_roundw
            case rel => exact ⟨k + 1, ps ++ [(l[k], .slice a2 l[k].a.kids.length cap2)], _, rfl, hlt, by go_num, by have := hps.out; simp only [Hid]; rw [List.map_append, this, List.map_cons, List.map_nil, List.take_append_getElem hlt], hMN, hkE⟩
            case measure => simp [intOf]; omega
          exact AllReadyH.nil
        exact AllReadyH.nil
      exact AllReadyH.nil
    · obtain rfl : k = l.length := by omega
      have hps' : ps.map (·.1) = l := by rw [hps.out, List.take_length]
      go_wp2_with fail
      go_ret
      exact ⟨_, ps, rfl, hmade, hps', hb⟩
end Go.Proofs.Ytjhdcjjoignioaa

/-! Judgments in memory; transhipkeep.Judg and ctx.SameJudg. -/
namespace Go.Proofs.Ytjhdcjjoignioaa
open Go.RowKit

/-- A judgment. -/
structure Jd where
  eq : Bool
  u : Tm
  v : Tm
  a : Tm
  i : Int
def Jd.fine (j : Jd) : Prop := j.u.fine ∧ j.v.fine ∧ j.a.fine ∧ I64 j.i
/-- A judgment by value. -/
abbrev jv (j : Jd) (su sv sa : Value) : Value := .agg #[.bool j.eq, .int .i64 j.u.k, .int .i64 j.u.i, .int .i64 j.u.j, .int .i64 j.u.n, su, .int .i64 j.v.k, .int .i64 j.v.i, .int .i64 j.v.j, .int .i64 j.v.n, sv, .int .i64 j.a.k, .int .i64 j.a.i, .int .i64 j.a.j, .int .i64 j.a.n, sa, .int .i64 j.i]
/-- Its three lists lie there. -/
def JLies (w : World) (j : Jd) (su sv sa : Value) : Prop := Lies w j.u.kids su ∧ Lies w j.v.kids sv ∧ Lies w j.a.kids sa
theorem JLies.keep {w w' : World} {j : Jd} {su sv sa : Value} (h : JLies w j su sv sa) (hb : Below w.heap.size w w') : JLies w' j su sv sa := ⟨h.1.keep hb, h.2.1.keep hb, h.2.2.keep hb⟩
/-- Its cells, at the head of a block. -/
def JBox (w : World) (b : Nat) (j : Jd) (su sv sa : Value) : Prop := w.cell? ⟨b, 0, none⟩ = some (.bool j.eq) ∧ w.cell? ⟨b, 1, none⟩ = some (.int .i64 j.u.k) ∧ w.cell? ⟨b, 2, none⟩ = some (.int .i64 j.u.i) ∧ w.cell? ⟨b, 3, none⟩ = some (.int .i64 j.u.j) ∧ w.cell? ⟨b, 4, none⟩ = some (.int .i64 j.u.n) ∧ w.cell? ⟨b, 5, none⟩ = some (su) ∧ w.cell? ⟨b, 6, none⟩ = some (.int .i64 j.v.k) ∧ w.cell? ⟨b, 7, none⟩ = some (.int .i64 j.v.i) ∧ w.cell? ⟨b, 8, none⟩ = some (.int .i64 j.v.j) ∧ w.cell? ⟨b, 9, none⟩ = some (.int .i64 j.v.n) ∧ w.cell? ⟨b, 10, none⟩ = some (sv) ∧ w.cell? ⟨b, 11, none⟩ = some (.int .i64 j.a.k) ∧ w.cell? ⟨b, 12, none⟩ = some (.int .i64 j.a.i) ∧ w.cell? ⟨b, 13, none⟩ = some (.int .i64 j.a.j) ∧ w.cell? ⟨b, 14, none⟩ = some (.int .i64 j.a.n) ∧ w.cell? ⟨b, 15, none⟩ = some (sa) ∧ w.cell? ⟨b, 16, none⟩ = some (.int .i64 j.i)
/-- Its cells, at a place. -/
def JNode (w : World) (b o : Nat) (j : Jd) (su sv sa : Value) : Prop := w.cell? ⟨b, o, none⟩ = some (.bool j.eq) ∧ w.cell? ⟨b, o + 1, none⟩ = some (.int .i64 j.u.k) ∧ w.cell? ⟨b, o + 2, none⟩ = some (.int .i64 j.u.i) ∧ w.cell? ⟨b, o + 3, none⟩ = some (.int .i64 j.u.j) ∧ w.cell? ⟨b, o + 4, none⟩ = some (.int .i64 j.u.n) ∧ w.cell? ⟨b, o + 5, none⟩ = some (su) ∧ w.cell? ⟨b, o + 6, none⟩ = some (.int .i64 j.v.k) ∧ w.cell? ⟨b, o + 7, none⟩ = some (.int .i64 j.v.i) ∧ w.cell? ⟨b, o + 8, none⟩ = some (.int .i64 j.v.j) ∧ w.cell? ⟨b, o + 9, none⟩ = some (.int .i64 j.v.n) ∧ w.cell? ⟨b, o + 10, none⟩ = some (sv) ∧ w.cell? ⟨b, o + 11, none⟩ = some (.int .i64 j.a.k) ∧ w.cell? ⟨b, o + 12, none⟩ = some (.int .i64 j.a.i) ∧ w.cell? ⟨b, o + 13, none⟩ = some (.int .i64 j.a.j) ∧ w.cell? ⟨b, o + 14, none⟩ = some (.int .i64 j.a.n) ∧ w.cell? ⟨b, o + 15, none⟩ = some (sa) ∧ w.cell? ⟨b, o + 16, none⟩ = some (.int .i64 j.i)
theorem jbox_new (w : World) (j : Jd) (su sv sa : Value) : JBox (w.alloc (.cells #[.bool j.eq, .int .i64 j.u.k, .int .i64 j.u.i, .int .i64 j.u.j, .int .i64 j.u.n, su, .int .i64 j.v.k, .int .i64 j.v.i, .int .i64 j.v.j, .int .i64 j.v.n, sv, .int .i64 j.a.k, .int .i64 j.a.i, .int .i64 j.a.j, .int .i64 j.a.n, sa, .int .i64 j.i] 45)) w.heap.size j su sv sa := by
  have key : ∀ o, (w.alloc (.cells #[.bool j.eq, .int .i64 j.u.k, .int .i64 j.u.i, .int .i64 j.u.j, .int .i64 j.u.n, su, .int .i64 j.v.k, .int .i64 j.v.i, .int .i64 j.v.j, .int .i64 j.v.n, sv, .int .i64 j.a.k, .int .i64 j.a.i, .int .i64 j.a.j, .int .i64 j.a.n, sa, .int .i64 j.i] 45)).cell? ⟨w.heap.size, o, none⟩ = (#[.bool j.eq, .int .i64 j.u.k, .int .i64 j.u.i, .int .i64 j.u.j, .int .i64 j.u.n, su, .int .i64 j.v.k, .int .i64 j.v.i, .int .i64 j.v.j, .int .i64 j.v.n, sv, .int .i64 j.a.k, .int .i64 j.a.i, .int .i64 j.a.j, .int .i64 j.a.n, sa, .int .i64 j.i] : Array Value)[o]? := fun o => by rw [World.cell?_alloc_at _ _ _ _ rfl]
  exact ⟨by rw [key]; rfl, by rw [key]; rfl, by rw [key]; rfl, by rw [key]; rfl, by rw [key]; rfl, by rw [key]; rfl, by rw [key]; rfl, by rw [key]; rfl, by rw [key]; rfl, by rw [key]; rfl, by rw [key]; rfl, by rw [key]; rfl, by rw [key]; rfl, by rw [key]; rfl, by rw [key]; rfl, by rw [key]; rfl, by rw [key]; rfl⟩
theorem JBox.keep {w w' : World} {b : Nat} {j : Jd} {su sv sa : Value} (h : JBox w b j su sv sa) (hb : Below w.heap.size w w') : JBox w' b j su sv sa := by
  obtain ⟨x0, x1, x2, x3, x4, x5, x6, x7, x8, x9, x10, x11, x12, x13, x14, x15, x16⟩ := h
  exact ⟨cell_lat hb x0, cell_lat hb x1, cell_lat hb x2, cell_lat hb x3, cell_lat hb x4, cell_lat hb x5, cell_lat hb x6, cell_lat hb x7, cell_lat hb x8, cell_lat hb x9, cell_lat hb x10, cell_lat hb x11, cell_lat hb x12, cell_lat hb x13, cell_lat hb x14, cell_lat hb x15, cell_lat hb x16⟩
theorem JNode.keep {w w' : World} {b o : Nat} {j : Jd} {su sv sa : Value} (h : JNode w b o j su sv sa) (hb : Below w.heap.size w w') : JNode w' b o j su sv sa := by
  obtain ⟨x0, x1, x2, x3, x4, x5, x6, x7, x8, x9, x10, x11, x12, x13, x14, x15, x16⟩ := h
  exact ⟨cell_lat hb x0, cell_lat hb x1, cell_lat hb x2, cell_lat hb x3, cell_lat hb x4, cell_lat hb x5, cell_lat hb x6, cell_lat hb x7, cell_lat hb x8, cell_lat hb x9, cell_lat hb x10, cell_lat hb x11, cell_lat hb x12, cell_lat hb x13, cell_lat hb x14, cell_lat hb x15, cell_lat hb x16⟩
theorem JNode.lt {w : World} {b o : Nat} {j : Jd} {su sv sa : Value} (h : JNode w b o j su sv sa) : b < w.heap.size := World.block_lt_of_cell? _ _ h.1
theorem JNode.same {w w' : World} {b o : Nat} {j : Jd} {su sv sa : Value} (h : JNode w b o j su sv sa) (hb : w'.heap[b]? = w.heap[b]?) : JNode w' b o j su sv sa := by
  have hc : ∀ q, w'.cell? ⟨b, q, none⟩ = w.cell? ⟨b, q, none⟩ := fun q => World.cell?_of_block (a := ⟨b, q, none⟩) hb
  obtain ⟨x0, x1, x2, x3, x4, x5, x6, x7, x8, x9, x10, x11, x12, x13, x14, x15, x16⟩ := h
  exact ⟨(hc _).trans x0, (hc _).trans x1, (hc _).trans x2, (hc _).trans x3, (hc _).trans x4, (hc _).trans x5, (hc _).trans x6, (hc _).trans x7, (hc _).trans x8, (hc _).trans x9, (hc _).trans x10, (hc _).trans x11, (hc _).trans x12, (hc _).trans x13, (hc _).trans x14, (hc _).trans x15, (hc _).trans x16⟩

def judgB (x y : Jd) : Bool := (x.eq == y.eq) && ((x.i == y.i) && (sameB x.u y.u && (sameB x.v y.v && sameB x.a y.a)))
theorem judgB_self (x : Jd) : judgB x x = true := by unfold judgB; simp [sameB_self]
theorem judgB_iff (x y : Jd) : judgB x y = true ↔ x = y := by
  unfold judgB
  simp only [Bool.and_eq_true, beq_iff_eq, sameB_iff]
  cases x; cases y; simp only [Jd.mk.injEq]
  constructor
  · rintro ⟨h1, h2, h3, h4, h5⟩; exact ⟨h1, h3, h4, h5, h2⟩
  · rintro ⟨h1, h2, h3, h4, h5⟩; exact ⟨h1, h5, h2, h3, h4⟩
set_option maxRecDepth 20000 in
set_option maxHeartbeats 4000000 in
theorem keepjudg_any (x y : Jd) (w : World) (sxu sxv sxa syu syv sya : Value) (hx : JLies w x sxu sxv sxa) (hy : JLies w y syu syv sya) : Calls Try.prog 30 #[jv x sxu sxv sxa, jv y syu syv sya] w fun e w' => e = .returned (.bool (judgB x y)) ∧ Below w.heap.size w w' := by
  obtain ⟨axu, cxu, Sxu, rfl, -⟩ := hx.1.out
  obtain ⟨axv, cxv, Sxv, rfl, -⟩ := hx.2.1.out
  obtain ⟨axa, cxa, Sxa, rfl, -⟩ := hx.2.2.out
  obtain ⟨ayu, cyu, Syu, rfl, -⟩ := hy.1.out
  obtain ⟨ayv, cyv, Syv, rfl, -⟩ := hy.2.1.out
  obtain ⟨aya, cya, Sya, rfl, -⟩ := hy.2.2.out
  have hb0 : Below w.heap.size w ((w.alloc (.cells #[.bool x.eq, .int .i64 x.u.k, .int .i64 x.u.i, .int .i64 x.u.j, .int .i64 x.u.n, (.slice axu x.u.kids.length cxu), .int .i64 x.v.k, .int .i64 x.v.i, .int .i64 x.v.j, .int .i64 x.v.n, (.slice axv x.v.kids.length cxv), .int .i64 x.a.k, .int .i64 x.a.i, .int .i64 x.a.j, .int .i64 x.a.n, (.slice axa x.a.kids.length cxa), .int .i64 x.i] 45)).alloc (.cells #[.bool y.eq, .int .i64 y.u.k, .int .i64 y.u.i, .int .i64 y.u.j, .int .i64 y.u.n, (.slice ayu y.u.kids.length cyu), .int .i64 y.v.k, .int .i64 y.v.i, .int .i64 y.v.j, .int .i64 y.v.n, (.slice ayv y.v.kids.length cyv), .int .i64 y.a.k, .int .i64 y.a.i, .int .i64 y.a.j, .int .i64 y.a.n, (.slice aya y.a.kids.length cya), .int .i64 y.i] 45)) := ((Below.refl _ _).alloc (Nat.le_refl _) _).alloc (by simp) _
  have hb1 : Below (w.alloc (.cells #[.bool x.eq, .int .i64 x.u.k, .int .i64 x.u.i, .int .i64 x.u.j, .int .i64 x.u.n, (.slice axu x.u.kids.length cxu), .int .i64 x.v.k, .int .i64 x.v.i, .int .i64 x.v.j, .int .i64 x.v.n, (.slice axv x.v.kids.length cxv), .int .i64 x.a.k, .int .i64 x.a.i, .int .i64 x.a.j, .int .i64 x.a.n, (.slice axa x.a.kids.length cxa), .int .i64 x.i] 45)).heap.size (w.alloc (.cells #[.bool x.eq, .int .i64 x.u.k, .int .i64 x.u.i, .int .i64 x.u.j, .int .i64 x.u.n, (.slice axu x.u.kids.length cxu), .int .i64 x.v.k, .int .i64 x.v.i, .int .i64 x.v.j, .int .i64 x.v.n, (.slice axv x.v.kids.length cxv), .int .i64 x.a.k, .int .i64 x.a.i, .int .i64 x.a.j, .int .i64 x.a.n, (.slice axa x.a.kids.length cxa), .int .i64 x.i] 45)) ((w.alloc (.cells #[.bool x.eq, .int .i64 x.u.k, .int .i64 x.u.i, .int .i64 x.u.j, .int .i64 x.u.n, (.slice axu x.u.kids.length cxu), .int .i64 x.v.k, .int .i64 x.v.i, .int .i64 x.v.j, .int .i64 x.v.n, (.slice axv x.v.kids.length cxv), .int .i64 x.a.k, .int .i64 x.a.i, .int .i64 x.a.j, .int .i64 x.a.n, (.slice axa x.a.kids.length cxa), .int .i64 x.i] 45)).alloc (.cells #[.bool y.eq, .int .i64 y.u.k, .int .i64 y.u.i, .int .i64 y.u.j, .int .i64 y.u.n, (.slice ayu y.u.kids.length cyu), .int .i64 y.v.k, .int .i64 y.v.i, .int .i64 y.v.j, .int .i64 y.v.n, (.slice ayv y.v.kids.length cyv), .int .i64 y.a.k, .int .i64 y.a.i, .int .i64 y.a.j, .int .i64 y.a.n, (.slice aya y.a.kids.length cya), .int .i64 y.i] 45)) := (Below.refl _ _).alloc (Nat.le_refl _) _
  have hbx := (jbox_new w x (.slice axu x.u.kids.length cxu) (.slice axv x.v.kids.length cxv) (.slice axa x.a.kids.length cxa)).keep hb1
  have hby := jbox_new (w.alloc (.cells #[.bool x.eq, .int .i64 x.u.k, .int .i64 x.u.i, .int .i64 x.u.j, .int .i64 x.u.n, (.slice axu x.u.kids.length cxu), .int .i64 x.v.k, .int .i64 x.v.i, .int .i64 x.v.j, .int .i64 x.v.n, (.slice axv x.v.kids.length cxv), .int .i64 x.a.k, .int .i64 x.a.i, .int .i64 x.a.j, .int .i64 x.a.n, (.slice axa x.a.kids.length cxa), .int .i64 x.i] 45)) y (.slice ayu y.u.kids.length cyu) (.slice ayv y.v.kids.length cyv) (.slice aya y.a.kids.length cya)
  rw [show (w.alloc (.cells #[.bool x.eq, .int .i64 x.u.k, .int .i64 x.u.i, .int .i64 x.u.j, .int .i64 x.u.n, (.slice axu x.u.kids.length cxu), .int .i64 x.v.k, .int .i64 x.v.i, .int .i64 x.v.j, .int .i64 x.v.n, (.slice axv x.v.kids.length cxv), .int .i64 x.a.k, .int .i64 x.a.i, .int .i64 x.a.j, .int .i64 x.a.n, (.slice axa x.a.kids.length cxa), .int .i64 x.i] 45)).heap.size = w.heap.size + 1 by simp] at hby
  have hlx := hx.keep hb0
  have hly := hy.keep hb0
  unfold jv
  have HB0 := Lib.hid hb0
  have HBX := Lib.hid hbx
  have HBY := Lib.hid hby
  have HLX := Lib.hid hlx
  have HLY := Lib.hid hly
  clear hb0 hb1 hbx hby hlx hly hx hy
  cases ee : (x.eq == y.eq) with
  | false =>
    have HJ : Hid (judgB x y = false) := by unfold judgB; rw [ee]; rfl
    go_enter Try.func30, Try.ntmps30
    go_wp2
    go_ret
    exact ⟨ret_bool HJ.out.symm, HB0.out⟩
  | true =>
  cases ei : (x.i == y.i) with
  | false =>
    have HJ : Hid (judgB x y = false) := by unfold judgB; rw [ee, ei]; rfl
    go_enter Try.func30, Try.ntmps30
    go_wp2
    go_ret
    exact ⟨ret_bool HJ.out.symm, HB0.out⟩
  | true =>
  have HE := Lib.hid ee
  have HI := Lib.hid ei
  go_enter Try.func30, Try.ntmps30
  go_wp2_with fail
  refine (keepsame_any x.u y.u _ _ _ HLX.out.1 HLY.out.1).mono ?_
  generalize (w.alloc (.cells #[.bool x.eq, .int .i64 x.u.k, .int .i64 x.u.i, .int .i64 x.u.j, .int .i64 x.u.n, (.slice axu x.u.kids.length cxu), .int .i64 x.v.k, .int .i64 x.v.i, .int .i64 x.v.j, .int .i64 x.v.n, (.slice axv x.v.kids.length cxv), .int .i64 x.a.k, .int .i64 x.a.i, .int .i64 x.a.j, .int .i64 x.a.n, (.slice axa x.a.kids.length cxa), .int .i64 x.i] 45)).alloc (.cells #[.bool y.eq, .int .i64 y.u.k, .int .i64 y.u.i, .int .i64 y.u.j, .int .i64 y.u.n, (.slice ayu y.u.kids.length cyu), .int .i64 y.v.k, .int .i64 y.v.i, .int .i64 y.v.j, .int .i64 y.v.n, (.slice ayv y.v.kids.length cyv), .int .i64 y.a.k, .int .i64 y.a.i, .int .i64 y.a.j, .int .i64 y.a.n, (.slice aya y.a.kids.length cya), .int .i64 y.i] 45) = V at HB0 HBX HBY HLX HLY ⊢
  cases su : sameB x.u y.u with
  | false =>
    have HJ : Hid (judgB x y = false) := by unfold judgB; rw [HE.out, HI.out, su]; rfl
    rintro e w1 ⟨rfl, hb1⟩
    go_wp2
    go_ret
    exact ⟨ret_bool HJ.out.symm, HB0.out.trans (Below.mono hb1 HB0.out.size)⟩
  | true =>
  have HU := Lib.hid su
  rintro e w1 ⟨rfl, hb1⟩
  obtain ⟨x0, x1, x2, x3, x4, x5, x6, x7, x8, x9, x10, x11, x12, x13, x14, x15, x16⟩ := HBX.out.keep hb1
  obtain ⟨y0, y1, y2, y3, y4, y5, y6, y7, y8, y9, y10, y11, y12, y13, y14, y15, y16⟩ := HBY.out.keep hb1
  have HLX1 := Lib.hid (HLX.out.keep hb1)
  have HLY1 := Lib.hid (HLY.out.keep hb1)
  have HB1 := Lib.hid (HB0.out.trans (Below.mono hb1 HB0.out.size))
  have HK1 := Lib.hid hb1
  clear hb1 su ee ei
  go_wp2_with fail
  refine (keepsame_any x.v y.v _ _ _ HLX1.out.2.1 HLY1.out.2.1).mono ?_
  clear x0 x1 x2 x3 x4 x5 x6 x7 x8 x9 x10 x11 x12 x13 x14 x15 x16 y0 y1 y2 y3 y4 y5 y6 y7 y8 y9 y10 y11 y12 y13 y14 y15 y16
  cases sv : sameB x.v y.v with
  | false =>
    have HJ : Hid (judgB x y = false) := by unfold judgB; rw [HE.out, HI.out, HU.out, sv]; rfl
    rintro e w2 ⟨rfl, hb2⟩
    go_wp2
    go_ret
    exact ⟨ret_bool HJ.out.symm, HB1.out.trans (Below.mono hb2 HB1.out.size)⟩
  | true =>
  have HV := Lib.hid sv
  rintro e w2 ⟨rfl, hb2⟩
  have hb12 := below_call HK1.out hb2 HK1.out.size
  obtain ⟨x0, x1, x2, x3, x4, x5, x6, x7, x8, x9, x10, x11, x12, x13, x14, x15, x16⟩ := HBX.out.keep hb12
  obtain ⟨y0, y1, y2, y3, y4, y5, y6, y7, y8, y9, y10, y11, y12, y13, y14, y15, y16⟩ := HBY.out.keep hb12
  have HLX2 := Lib.hid (HLX1.out.keep hb2)
  have HLY2 := Lib.hid (HLY1.out.keep hb2)
  have HB2 := Lib.hid (HB1.out.trans (Below.mono hb2 HB1.out.size))
  clear hb2 hb12 sv
  go_wp2_with fail
  refine (keepsame_any x.a y.a _ _ _ HLX2.out.2.2 HLY2.out.2.2).mono ?_
  clear x0 x1 x2 x3 x4 x5 x6 x7 x8 x9 x10 x11 x12 x13 x14 x15 x16 y0 y1 y2 y3 y4 y5 y6 y7 y8 y9 y10 y11 y12 y13 y14 y15 y16
  have HJ : Hid (judgB x y = sameB x.a y.a) := by unfold judgB; rw [HE.out, HI.out, HU.out, HV.out]; rfl
  rintro e w3 ⟨rfl, hb3⟩
  go_wp2
  go_ret
  exact ⟨ret_bool HJ.out.symm, HB2.out.trans (Below.mono hb3 HB2.out.size)⟩

set_option maxRecDepth 20000 in
set_option maxHeartbeats 4000000 in
theorem samejudg_any (x y : Jd) (w : World) (sxu sxv sxa syu syv sya : Value) (hx : JLies w x sxu sxv sxa) (hy : JLies w y syu syv sya) : Calls Try.prog 29 #[jv x sxu sxv sxa, jv y syu syv sya] w fun e w' => e = .returned (.bool (judgB x y)) ∧ Below w.heap.size w w' := by
  obtain ⟨axu, cxu, Sxu, rfl, -⟩ := hx.1.out
  obtain ⟨axv, cxv, Sxv, rfl, -⟩ := hx.2.1.out
  obtain ⟨axa, cxa, Sxa, rfl, -⟩ := hx.2.2.out
  obtain ⟨ayu, cyu, Syu, rfl, -⟩ := hy.1.out
  obtain ⟨ayv, cyv, Syv, rfl, -⟩ := hy.2.1.out
  obtain ⟨aya, cya, Sya, rfl, -⟩ := hy.2.2.out
  have hb0 : Below w.heap.size w ((w.alloc (.cells #[.bool x.eq, .int .i64 x.u.k, .int .i64 x.u.i, .int .i64 x.u.j, .int .i64 x.u.n, (.slice axu x.u.kids.length cxu), .int .i64 x.v.k, .int .i64 x.v.i, .int .i64 x.v.j, .int .i64 x.v.n, (.slice axv x.v.kids.length cxv), .int .i64 x.a.k, .int .i64 x.a.i, .int .i64 x.a.j, .int .i64 x.a.n, (.slice axa x.a.kids.length cxa), .int .i64 x.i] 45)).alloc (.cells #[.bool y.eq, .int .i64 y.u.k, .int .i64 y.u.i, .int .i64 y.u.j, .int .i64 y.u.n, (.slice ayu y.u.kids.length cyu), .int .i64 y.v.k, .int .i64 y.v.i, .int .i64 y.v.j, .int .i64 y.v.n, (.slice ayv y.v.kids.length cyv), .int .i64 y.a.k, .int .i64 y.a.i, .int .i64 y.a.j, .int .i64 y.a.n, (.slice aya y.a.kids.length cya), .int .i64 y.i] 45)) := ((Below.refl _ _).alloc (Nat.le_refl _) _).alloc (by simp) _
  have hb1 : Below (w.alloc (.cells #[.bool x.eq, .int .i64 x.u.k, .int .i64 x.u.i, .int .i64 x.u.j, .int .i64 x.u.n, (.slice axu x.u.kids.length cxu), .int .i64 x.v.k, .int .i64 x.v.i, .int .i64 x.v.j, .int .i64 x.v.n, (.slice axv x.v.kids.length cxv), .int .i64 x.a.k, .int .i64 x.a.i, .int .i64 x.a.j, .int .i64 x.a.n, (.slice axa x.a.kids.length cxa), .int .i64 x.i] 45)).heap.size (w.alloc (.cells #[.bool x.eq, .int .i64 x.u.k, .int .i64 x.u.i, .int .i64 x.u.j, .int .i64 x.u.n, (.slice axu x.u.kids.length cxu), .int .i64 x.v.k, .int .i64 x.v.i, .int .i64 x.v.j, .int .i64 x.v.n, (.slice axv x.v.kids.length cxv), .int .i64 x.a.k, .int .i64 x.a.i, .int .i64 x.a.j, .int .i64 x.a.n, (.slice axa x.a.kids.length cxa), .int .i64 x.i] 45)) ((w.alloc (.cells #[.bool x.eq, .int .i64 x.u.k, .int .i64 x.u.i, .int .i64 x.u.j, .int .i64 x.u.n, (.slice axu x.u.kids.length cxu), .int .i64 x.v.k, .int .i64 x.v.i, .int .i64 x.v.j, .int .i64 x.v.n, (.slice axv x.v.kids.length cxv), .int .i64 x.a.k, .int .i64 x.a.i, .int .i64 x.a.j, .int .i64 x.a.n, (.slice axa x.a.kids.length cxa), .int .i64 x.i] 45)).alloc (.cells #[.bool y.eq, .int .i64 y.u.k, .int .i64 y.u.i, .int .i64 y.u.j, .int .i64 y.u.n, (.slice ayu y.u.kids.length cyu), .int .i64 y.v.k, .int .i64 y.v.i, .int .i64 y.v.j, .int .i64 y.v.n, (.slice ayv y.v.kids.length cyv), .int .i64 y.a.k, .int .i64 y.a.i, .int .i64 y.a.j, .int .i64 y.a.n, (.slice aya y.a.kids.length cya), .int .i64 y.i] 45)) := (Below.refl _ _).alloc (Nat.le_refl _) _
  have hbx := (jbox_new w x (.slice axu x.u.kids.length cxu) (.slice axv x.v.kids.length cxv) (.slice axa x.a.kids.length cxa)).keep hb1
  have hby := jbox_new (w.alloc (.cells #[.bool x.eq, .int .i64 x.u.k, .int .i64 x.u.i, .int .i64 x.u.j, .int .i64 x.u.n, (.slice axu x.u.kids.length cxu), .int .i64 x.v.k, .int .i64 x.v.i, .int .i64 x.v.j, .int .i64 x.v.n, (.slice axv x.v.kids.length cxv), .int .i64 x.a.k, .int .i64 x.a.i, .int .i64 x.a.j, .int .i64 x.a.n, (.slice axa x.a.kids.length cxa), .int .i64 x.i] 45)) y (.slice ayu y.u.kids.length cyu) (.slice ayv y.v.kids.length cyv) (.slice aya y.a.kids.length cya)
  rw [show (w.alloc (.cells #[.bool x.eq, .int .i64 x.u.k, .int .i64 x.u.i, .int .i64 x.u.j, .int .i64 x.u.n, (.slice axu x.u.kids.length cxu), .int .i64 x.v.k, .int .i64 x.v.i, .int .i64 x.v.j, .int .i64 x.v.n, (.slice axv x.v.kids.length cxv), .int .i64 x.a.k, .int .i64 x.a.i, .int .i64 x.a.j, .int .i64 x.a.n, (.slice axa x.a.kids.length cxa), .int .i64 x.i] 45)).heap.size = w.heap.size + 1 by simp] at hby
  have hlx := hx.keep hb0
  have hly := hy.keep hb0
  unfold jv
  have HB0 := Lib.hid hb0
  have HBX := Lib.hid hbx
  have HBY := Lib.hid hby
  have HLX := Lib.hid hlx
  have HLY := Lib.hid hly
  clear hb0 hb1 hbx hby hlx hly hx hy
  cases ee : (x.eq == y.eq) with
  | false =>
    have HJ : Hid (judgB x y = false) := by unfold judgB; rw [ee]; rfl
    go_enter Try.func29, Try.ntmps29
    go_wp2
    go_ret
    exact ⟨ret_bool HJ.out.symm, HB0.out⟩
  | true =>
  cases ei : (x.i == y.i) with
  | false =>
    have HJ : Hid (judgB x y = false) := by unfold judgB; rw [ee, ei]; rfl
    go_enter Try.func29, Try.ntmps29
    go_wp2
    go_ret
    exact ⟨ret_bool HJ.out.symm, HB0.out⟩
  | true =>
  have HE := Lib.hid ee
  have HI := Lib.hid ei
  go_enter Try.func29, Try.ntmps29
  go_wp2_with fail
  refine (same_any x.u y.u _ _ _ HLX.out.1 HLY.out.1).mono ?_
  generalize (w.alloc (.cells #[.bool x.eq, .int .i64 x.u.k, .int .i64 x.u.i, .int .i64 x.u.j, .int .i64 x.u.n, (.slice axu x.u.kids.length cxu), .int .i64 x.v.k, .int .i64 x.v.i, .int .i64 x.v.j, .int .i64 x.v.n, (.slice axv x.v.kids.length cxv), .int .i64 x.a.k, .int .i64 x.a.i, .int .i64 x.a.j, .int .i64 x.a.n, (.slice axa x.a.kids.length cxa), .int .i64 x.i] 45)).alloc (.cells #[.bool y.eq, .int .i64 y.u.k, .int .i64 y.u.i, .int .i64 y.u.j, .int .i64 y.u.n, (.slice ayu y.u.kids.length cyu), .int .i64 y.v.k, .int .i64 y.v.i, .int .i64 y.v.j, .int .i64 y.v.n, (.slice ayv y.v.kids.length cyv), .int .i64 y.a.k, .int .i64 y.a.i, .int .i64 y.a.j, .int .i64 y.a.n, (.slice aya y.a.kids.length cya), .int .i64 y.i] 45) = V at HB0 HBX HBY HLX HLY ⊢
  cases su : sameB x.u y.u with
  | false =>
    have HJ : Hid (judgB x y = false) := by unfold judgB; rw [HE.out, HI.out, su]; rfl
    rintro e w1 ⟨rfl, hb1⟩
    go_wp2
    go_ret
    exact ⟨ret_bool HJ.out.symm, HB0.out.trans (Below.mono hb1 HB0.out.size)⟩
  | true =>
  have HU := Lib.hid su
  rintro e w1 ⟨rfl, hb1⟩
  obtain ⟨x0, x1, x2, x3, x4, x5, x6, x7, x8, x9, x10, x11, x12, x13, x14, x15, x16⟩ := HBX.out.keep hb1
  obtain ⟨y0, y1, y2, y3, y4, y5, y6, y7, y8, y9, y10, y11, y12, y13, y14, y15, y16⟩ := HBY.out.keep hb1
  have HLX1 := Lib.hid (HLX.out.keep hb1)
  have HLY1 := Lib.hid (HLY.out.keep hb1)
  have HB1 := Lib.hid (HB0.out.trans (Below.mono hb1 HB0.out.size))
  have HK1 := Lib.hid hb1
  clear hb1 su ee ei
  go_wp2_with fail
  refine (same_any x.v y.v _ _ _ HLX1.out.2.1 HLY1.out.2.1).mono ?_
  clear x0 x1 x2 x3 x4 x5 x6 x7 x8 x9 x10 x11 x12 x13 x14 x15 x16 y0 y1 y2 y3 y4 y5 y6 y7 y8 y9 y10 y11 y12 y13 y14 y15 y16
  cases sv : sameB x.v y.v with
  | false =>
    have HJ : Hid (judgB x y = false) := by unfold judgB; rw [HE.out, HI.out, HU.out, sv]; rfl
    rintro e w2 ⟨rfl, hb2⟩
    go_wp2
    go_ret
    exact ⟨ret_bool HJ.out.symm, HB1.out.trans (Below.mono hb2 HB1.out.size)⟩
  | true =>
  have HV := Lib.hid sv
  rintro e w2 ⟨rfl, hb2⟩
  have hb12 := below_call HK1.out hb2 HK1.out.size
  obtain ⟨x0, x1, x2, x3, x4, x5, x6, x7, x8, x9, x10, x11, x12, x13, x14, x15, x16⟩ := HBX.out.keep hb12
  obtain ⟨y0, y1, y2, y3, y4, y5, y6, y7, y8, y9, y10, y11, y12, y13, y14, y15, y16⟩ := HBY.out.keep hb12
  have HLX2 := Lib.hid (HLX1.out.keep hb2)
  have HLY2 := Lib.hid (HLY1.out.keep hb2)
  have HB2 := Lib.hid (HB1.out.trans (Below.mono hb2 HB1.out.size))
  clear hb2 hb12 sv
  go_wp2_with fail
  refine (same_any x.a y.a _ _ _ HLX2.out.2.2 HLY2.out.2.2).mono ?_
  clear x0 x1 x2 x3 x4 x5 x6 x7 x8 x9 x10 x11 x12 x13 x14 x15 x16 y0 y1 y2 y3 y4 y5 y6 y7 y8 y9 y10 y11 y12 y13 y14 y15 y16
  have HJ : Hid (judgB x y = sameB x.a y.a) := by unfold judgB; rw [HE.out, HI.out, HU.out, HV.out]; rfl
  rintro e w3 ⟨rfl, hb3⟩
  go_wp2
  go_ret
  exact ⟨ret_bool HJ.out.symm, HB2.out.trans (Below.mono hb3 HB2.out.size)⟩

end Go.Proofs.Ytjhdcjjoignioaa

/-! A struct that lies whole in a block is loaded, in a drawn region: one small fact instead of a fact for each cell. -/
namespace Go.Proofs.Ytjhdcjjoignioaa
open Go.RowKit

theorem yields_row {P : Program} {ops : Array Oper} {S : World → Prop} {oi : Oper} {a : Act} (g : Nat) (ty t : TypeId) (x : Operand) (cs : Array Value) (fr : Nat × Nat) (d : TypeDesc) (hw : Region.wanted oi (yielded ops a.tmps) = true) (ho : oi.op = .load ty x)
    (hx : a.eval x = .pointer (some ⟨g, 0, none⟩)) (hS : ∀ w, S w → w.heap[g]? = some (.cells cs t fr))
    (hu : P.underlying ty = some d) (hd : (match d with | .struct _ | .array _ _ => true | _ => false) = true) (hi : (P.info? ty).map (·.size) = some cs.size) : YieldsIf P ops S oi (.agg cs) a := by
  refine .inl ⟨hw, fun w h => ?_⟩
  have hr := run_loadVar_row (P := P) w g t ty cs fr d (hS w h) hu hd hi
  unfold execOp
  simp only [ho, hx, Instr.loadAt, Instr.sureAddr, Sem.run_bind, Sem.run_pure, Result.andThen_ok, hr]
/-- The same in a region of one order, under a guard or none. -/
theorem wpList_row_g {P : Program} {ops : Array Oper} {rest : List Oper} {o : Oper} {a : Act} {w : World} {Q : Exit → Act → World → Prop} (g : Nat) (ty t : TypeId) (x : Operand) (cs : Array Value) (fr : Nat × Nat) (d : TypeDesc) (hw : Region.wanted o (yielded ops a.tmps) = true) (ho : o.op = .load ty x)
    (hx : a.eval x = .pointer (some ⟨g, 0, none⟩)) (hg : w.heap[g]? = some (.cells cs t fr))
    (hu : P.underlying ty = some d) (hd : (match d with | .struct _ | .array _ _ => true | _ => false) = true) (hi : (P.info? ty).map (·.size) = some cs.size)
    (h : wpList P ops Q rest (a.put o.dst (.agg cs)) w) : wpList P ops Q (o :: rest) a w := by
  unfold wpList
  rw [if_pos hw]
  exact .inl (wp_load_row ty x ho g hx t cs fr d hg hu hd hi h)
theorem under_judg : ∃ d, Try.prog.underlying 45 = some d ∧ (match d with | .struct _ | .array _ _ => true | _ => false) = true := by
  have h : (Try.prog.underlying 45).map (fun d => match d with | .struct _ | .array _ _ => true | _ => false) = some true := by kernel_rfl
  cases e : Try.prog.underlying 45 with
  | none => rw [e] at h; cases h
  | some d => rw [e] at h; exact ⟨d, rfl, Option.some.inj h⟩
theorem size_judg : (Try.prog.info? 45).map (·.size) = some 17 := by kernel_rfl
end Go.Proofs.Ytjhdcjjoignioaa
