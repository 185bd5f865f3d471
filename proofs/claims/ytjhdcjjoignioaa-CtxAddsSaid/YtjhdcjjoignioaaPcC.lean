/-
  Texts in one: EntE, RefEr, RefStripS, EntP, Wakes11.
-/
import Derived.Test.YtjhdcjjoignioaaPcB
import Derived.Test.YtjhdcjjoignioaaL8
import Derived.Test.YtjhdcjjoignioaaDesk
import Derived.Deep.RegionHeld3
import Derived.Test.YtjhdcjjoignioaaRefStripT
import Derived.Test.YtjhdcjjoignioaaRefMore
/-! ctx.Plain and ctx.Erase. -/
namespace Go.Proofs.Ytjhdcjjoignioaa
open Go.RowKit

theorem cells6_zeros : ∀ n : Nat, (cells6 (List.replicate n ((⟨.zero, 0⟩ : En), Value.slice none 0 0))) = (madeCells #[.int .i64 0, .int .i64 0, .int .i64 0, .int .i64 0, .slice none 0 0, .int .i64 0] (n * 6)).toList := by
  intro n
  apply List.ext_getElem?
  intro j
  by_cases hj : j < n * 6
  · have h5 : j % 6 < 6 := Nat.mod_lt _ (by omega)
    have hd : j / 6 < n := by omega
    have e : j = j / 6 * 6 + j % 6 := by omega
    have h1 := cells6_get (List.replicate n ((⟨.zero, 0⟩ : En), Value.slice none 0 0)) (j / 6) (by simpa using hd) (j % 6) h5
    rw [← e] at h1
    rw [h1]
    simp only [List.getElem_replicate]
    have hz : (madeCells #[Value.int .i64 0, .int .i64 0, .int .i64 0, .int .i64 0, .slice none 0 0, .int .i64 0] (n * 6)).toList[j]? = some (#[Value.int .i64 0, .int .i64 0, .int .i64 0, .int .i64 0, .slice none 0 0, .int .i64 0][j % 6]!) := by simp [madeCells, hj]
    rw [hz]
    generalize j % 6 = q at h5
    match q, h5 with
    | 0, _ => rfl
    | 1, _ => rfl
    | 2, _ => rfl
    | 3, _ => rfl
    | 4, _ => rfl
    | 5, _ => rfl
  · rw [List.getElem?_eq_none (by rw [cells6_length]; simp; omega), List.getElem?_eq_none (by simp [madeCells]; omega)]
theorem fullE_made {B : Nat} {w : World} {g n : Nat} (h : w.ownsRow B 38 6 (.slice (some ⟨g, 0, none⟩) n n) n (madeCells #[.int .i64 0, .int .i64 0, .int .i64 0, .int .i64 0, .slice none 0 0, .int .i64 0] (n * 6)).toList) :
    FullE B w g (List.replicate n ((⟨.zero, 0⟩ : En), .slice none 0 0)) := by
  rw [← cells6_zeros] at h
  have hb : B ≤ g ∧ ∃ cs, w.heap[g]? = some (.cells cs 38 (0, 0)) := by
    obtain ⟨-, ⟨h1, -⟩ | ⟨g', cap, cur, h1, h2, h3, -⟩⟩ := h
    · cases h1
    · obtain rfl : g = g' := by simp only [Value.slice.injEq, Option.some.injEq, Addr.mk.injEq] at h1; exact h1.1.1
      exact ⟨h2, cur, h3⟩
  refine ⟨hb.1, hb.2, fun i hi => ?_, fun p hp => ?_, fun p hp => ?_⟩
  · have cellq : ∀ q, q < 6 → w.cell? ⟨g, i * 6 + q, none⟩ = [Value.int .i64 ((List.replicate n ((⟨.zero, 0⟩ : En), Value.slice none 0 0))[i]).1.a.k, .int .i64 ((List.replicate n ((⟨.zero, 0⟩ : En), Value.slice none 0 0))[i]).1.a.i, .int .i64 ((List.replicate n ((⟨.zero, 0⟩ : En), Value.slice none 0 0))[i]).1.a.j, .int .i64 ((List.replicate n ((⟨.zero, 0⟩ : En), Value.slice none 0 0))[i]).1.a.n, ((List.replicate n ((⟨.zero, 0⟩ : En), Value.slice none 0 0))[i]).2, .int .i64 ((List.replicate n ((⟨.zero, 0⟩ : En), Value.slice none 0 0))[i]).1.i][q]? := fun q hq => by
      rw [h.cellAt (i * 6 + q) (by simp at hi; omega)]; exact cells6_get _ i hi q hq
    exact ⟨cellq 0 (by omega), cellq 1 (by omega), cellq 2 (by omega), cellq 3 (by omega), cellq 4 (by omega), cellq 5 (by omega)⟩
  · rw [(List.mem_replicate.1 hp).2]; exact ⟨zero_fine, by unfold I64; exact ⟨by decide, by decide⟩⟩
  · rw [(List.mem_replicate.1 hp).2]; exact liesP_nil _ _
theorem bn_put6 {w w' : World} {g r o : Nat} {e t : En} {s st : Value} (h : Kept w w' ∧ w'.cell? ⟨g, 0, none⟩ = some (.int .i64 e.a.k) ∧ w'.cell? ⟨g, 1, none⟩ = some (.int .i64 e.a.i) ∧ w'.cell? ⟨g, 2, none⟩ = some (.int .i64 e.a.j) ∧ w'.cell? ⟨g, 3, none⟩ = some (.int .i64 e.a.n) ∧ w'.cell? ⟨g, 4, none⟩ = some (s) ∧ w'.cell? ⟨g, 5, none⟩ = some (.int .i64 e.i)) (hr : w.heap.size ≤ r) (hne : g ≠ r) : Kept w (put6 w' r o t st) ∧ (put6 w' r o t st).cell? ⟨g, 0, none⟩ = some (.int .i64 e.a.k) ∧ (put6 w' r o t st).cell? ⟨g, 1, none⟩ = some (.int .i64 e.a.i) ∧ (put6 w' r o t st).cell? ⟨g, 2, none⟩ = some (.int .i64 e.a.j) ∧ (put6 w' r o t st).cell? ⟨g, 3, none⟩ = some (.int .i64 e.a.n) ∧ (put6 w' r o t st).cell? ⟨g, 4, none⟩ = some (s) ∧ (put6 w' r o t st).cell? ⟨g, 5, none⟩ = some (.int .i64 e.i) := by
  have hc : ∀ q, (put6 w' r o t st).cell? ⟨g, q, none⟩ = w'.cell? ⟨g, q, none⟩ := fun q => World.cell?_of_block (a := ⟨g, q, none⟩) (put6_other _ _ _ _ _ hne)
  exact ⟨put6_below h.1 hr _ _ _, (hc 0).trans h.2.1, (hc 1).trans h.2.2.1, (hc 2).trans h.2.2.2.1, (hc 3).trans h.2.2.2.2.1, (hc 4).trans h.2.2.2.2.2.1, (hc 5).trans h.2.2.2.2.2.2⟩
theorem put5_below {B : Nat} {w w1 : World} (h : Below B w w1) {g : Nat} (hg : B ≤ g) (o : Nat) (t : Tm) (s : Value) : Below B w (put5 w1 g o t s) := by
  unfold put5
  exact ((((h.setCell hg _).setCell hg _).setCell hg _).setCell hg _).setCell hg _
theorem open_free {w : World} {g : Nat} {cs : Array Value} {T : TypeId} (h : w.heap[g]? = some (.cells cs T (0, 0))) (o : Nat) :
    w.frozen? ⟨g, o, none⟩ = false ∧ w.frozen? ⟨g, o + 1, none⟩ = false ∧ w.frozen? ⟨g, o + 2, none⟩ = false ∧ w.frozen? ⟨g, o + 3, none⟩ = false ∧ w.frozen? ⟨g, o + 4, none⟩ = false ∧ w.frozen? ⟨g, o + 5, none⟩ = false :=
  ⟨open_unfrozen h _, open_unfrozen h _, open_unfrozen h _, open_unfrozen h _, open_unfrozen h _, open_unfrozen h _⟩
theorem take_set_map {α β : Type} (f : β → α) {xs : List β} {l : List α} {k : Nat} (hl : xs.length = l.length) (hk : k < l.length) (h : (xs.map f).take k = l.take k) {y : β} (hy : f y = l[k]) : ((xs.set k y).map f).take (k + 1) = l.take (k + 1) := by
  have hk1 : k < (xs.set k y).length := by simp; omega
  rw [List.take_succ_eq_append_getElem (by simpa using hk1), List.take_succ_eq_append_getElem hk]
  congr 1
  · rw [← h]; apply List.ext_getElem?; intro i
    by_cases hi : i < k
    · simp [List.getElem?_take_of_lt hi, List.getElem?_set_ne (Nat.ne_of_gt hi)]
    · simp [List.getElem?_take, hi]
  · simp [hy]
set_option maxRecDepth 20000 in
set_option maxHeartbeats 4000000 in
theorem ctxplain_any (l : List En) (w : World) (s : Value) (hl : LiesE w l s) (hlen : l.length ≤ 100000) (hff : ∀ u ∈ l, (u.a.stripB).fine) : Calls Try.prog 17 #[s] w (MakesAll (if rightC l = true then l.map (fun e => e.a.stripB) else []) w) := by
  obtain ⟨a, cap, S, rfl, hc, hmx, hf, hn, hk⟩ := hl.out
  unfold maxLen at hmx
  obtain ⟨i0, hi, hz0, hz1, hz2⟩ := info_parts info_term
  have HI := Lib.hid (And.intro hi (And.intro hz0 (And.intro hz1 hz2)))
  have HLE := Lib.hid hl
  have HN := Lib.hid hn
  have HK := Lib.hid hk
  have HFF := Lib.hid hff
  clear hn hk hl hf hi hz0 hz1 hz2 hff
  cases hr : rightC l with
  | false =>
    have HR := Lib.hid hr
    clear hr
    go_enter Try.func17, Try.ntmps17
    go_wp2_with fail
    refine (ctxright_any l _ _ HLE.out).mono ?_
    rw [HR.out]
    rintro ee w1 ⟨rfl, hb1⟩
    go_wp2
    go_ret
    exact ⟨_, rfl, liesP_nil _ _, hb1⟩
  | true =>
    have HR := Lib.hid hr
    clear hr
    go_enter Try.func17, Try.ntmps17
    go_wp2_with fail
    refine (ctxright_any l _ _ HLE.out).mono ?_
    rw [HR.out]
    rintro ee w1 ⟨rfl, hb1⟩
    have HB1 := Lib.hid hb1
    obtain ⟨g, hg⟩ : ∃ g, w1.heap.size = g := ⟨_, rfl⟩
    have HGE := Lib.hid (show w.heap.size ≤ g by have := hb1.size; omega)
    clear hb1
    go_wp2_with (at_make; refine wpList_make_full _ rfl _ _ 24 rfl w.heap.size 26 i0 _ 5 (by kernel_rfl) HI.out.1 HI.out.2.1 HI.out.2.2.1 _ _ _ _ l.length rfl rfl rfl rfl ?bytes ?max ?base ?next)
    case bytes => rw [HI.out.2.2.2]; omega
    case max => unfold maxLen; omega
    case base => exact HB1.out.size
    case next =>
    intro w2 hown hgrow
    (try rw [hg] at hown)
    (try rw [hg])
    have hful := full_made hown
    have hbel : Below w.heap.size w w2 := HB1.out.grown hgrow HB1.out.size (by simp)
    clear hown hgrow hg
    go_wp2_with fail
    go_loopw [14] (fun iv wr => ∃ (k : Nat) (xs : List (Tm × Value)), k ≤ l.length ∧ iv = .int .i64 k ∧ Hid (xs.length = l.length) ∧ Hid ((xs.map (·.1)).take k = (l.map (fun e => e.a.stripB)).take k) ∧ Full w.heap.size wr g xs ∧ Below w.heap.size w wr) (fun iv _ => l.length - (intOf iv).toNat)
    case atStart => exact ⟨0, _, Nat.zero_le _, rfl, List.length_replicate, rfl, hful, hbel⟩
    case round =>
      clear hful hbel
      obtain ⟨k, xs, hk, rfl, hxl, hxs, hfu, hb⟩ := hrel
      by_cases hlt : k < l.length
      · obtain ⟨b, o, rfl, hx⟩ := HN.out k hlt
        have hx := hx.below hb hx.lt
        have hq := HK.out k hlt
        obtain ⟨a', cap', S', hS, -⟩ := hq.out
        rw [hS] at hx hq
        have HQ := Lib.hid hq
        have HXK := Lib.hid (show k < xs.length by have := hxl.out; omega)
        obtain ⟨U, hU⟩ : ∃ U, l[k].a.stripB = U := ⟨_, rfl⟩
        have HFI := Lib.hid (HFF.out _ (List.getElem_mem hlt))
        rw [hU] at HFI
        have HU := Lib.hid hU
        obtain ⟨x0, x1, x2, x3, x4, x5⟩ := hx
        have hglt : g < wr.heap.size := by obtain ⟨cs, h⟩ := hfu.open'; exact (Array.getElem?_eq_some_iff.1 h).1
        clear hS hq hU
        go_upto_region 7 with fail
        have hX := bnode_new wr l[k] (.slice a' l[k].a.kids.length cap')
        have hkV : Kept w (wr.alloc (.cells #[.int .i64 l[k].a.k, .int .i64 l[k].a.i, .int .i64 l[k].a.j, .int .i64 l[k].a.n, (.slice a' l[k].a.kids.length cap'), .int .i64 l[k].i] 38)) := Below.alloc hb hb.size _
        have hfV := hfu.later (w' := wr.alloc (.cells #[.int .i64 l[k].a.k, .int .i64 l[k].a.i, .int .i64 l[k].a.j, .int .i64 l[k].a.n, (.slice a' l[k].a.kids.length cap'), .int .i64 l[k].i] 38)) ((Below.refl _ _).alloc (Nat.le_refl _) _)
        obtain ⟨ge, hge⟩ : ∃ ge, wr.heap.size = ge := ⟨_, rfl⟩
        have HNE := Lib.hid (show ge ≠ g by omega)
        have HWX0 := Lib.hid (show w.heap.size ≤ (wr.alloc (.cells #[.int .i64 l[k].a.k, .int .i64 l[k].a.i, .int .i64 l[k].a.j, .int .i64 l[k].a.n, (.slice a' l[k].a.kids.length cap'), .int .i64 l[k].i] 38)).heap.size from hkV.size)
        have HGW := HGE
        rw [hge] at hX ⊢
        clear x0 x1 x2 x3 x4 x5 hb hfu hge hglt
        generalize wr.alloc (.cells #[.int .i64 l[k].a.k, .int .i64 l[k].a.i, .int .i64 l[k].a.j, .int .i64 l[k].a.n, (.slice a' l[k].a.kids.length cap'), .int .i64 l[k].i] 38) = V at hX hkV hfV HWX0 ⊢
        have hk0 : Kept V V := kept_start V
        obtain ⟨x0, x1, x2, x3, x4, x5⟩ := hX
        have HFV := Lib.hid hfV
        have HKV := Lib.hid hkV
        clear hfV hkV
        go_wp2_with fail
        refine (strip_any l[k].a _ _ (kept_lies HKV.out HQ.out)).mono ?_
        rw [HU.out]
        rintro ee wn ⟨s2, rfl, hl2, hbn⟩
        obtain ⟨a2, cap2, rfl, -, -⟩ := hl2.out
        have hfn := HFV.out.later hbn
        have HL2 := Lib.hid (HFV.out.fresh HWX0.out hl2)
        have HKN := Lib.hid (kept_call HKV.out hbn)
        obtain ⟨z0, z1, z2, z3, z4⟩ := hfn.node k HXK.out
        obtain ⟨cs, hcs⟩ := hfn.open'
        obtain ⟨r0, r1, r2, r3, r4, -⟩ := open_free hcs (k * 5)
        have HFN := Lib.hid hfn
        clear hfn hcs hbn hl2 x0 x1 x2 x3 x4 x5
        go_wp2_with fail
        have hFN := HFN.out.fill (t := U) HXK.out HFI.out HL2.out
        have hkE := put5_below HKN.out HGE.out (k * 5) U (.slice a2 U.kids.length cap2)
        clear z0 z1 z2 z3 z4 r0 r1 r2 r3 r4
        go_roundw
        case rel => exact ⟨k + 1, xs.set k (U, .slice a2 U.kids.length cap2), by omega, by go_num, by show _ = _; rw [List.length_set]; exact hxl.out, take_set_map _ (by simpa using hxl.out) (by simpa using hlt) hxs.out (by simp [HU.out]), hFN, hkE⟩
        case measure => simp [intOf]; omega
      · obtain rfl : k = l.length := by omega
        have hxs' : xs.map (·.1) = l.map (fun e => e.a.stripB) := by
          have h := hxs.out
          rw [List.take_of_length_le (by simp [hxl.out]), List.take_of_length_le (by simp)] at h
          exact h
        have hres := hfu.lies (cap := l.length) (by rw [hxl.out]; exact Nat.le_refl _) (by unfold maxLen; omega)
        rw [hxs', hxl.out] at hres
        go_wp2_with fail
        go_ret
        exact ⟨_, rfl, hres, hb⟩

def er0 : Oper := { dst := some 19, op := Go.Op.move (Go.Operand.tmp 3), type := 22, pos := "ctx.go:44", after := #[], guard := none }
def er1 : Oper := { dst := some 20, op := Go.Op.move (Go.Operand.tmp 4), type := 3, pos := "ctx.go:44", after := #[], guard := none }
def er2 : Oper := { dst := some 21, op := Go.Op.fieldAddr 38 (Go.Operand.tmp 5) 0, type := 0, pos := "ctx.go:44", after := #[], guard := none }
def er3 : Oper := { dst := some 22, op := Go.Op.load 26 (Go.Operand.tmp 21), type := 26, pos := "ctx.go:44", after := #[{ on := 2, ground := Go.Ground.data }], guard := none }
def er4 : Oper := { dst := some 23, op := Go.Op.call { callee := Go.Callee.value (Go.Operand.func 45), args := #[Go.Operand.tmp 22], argTypes := #[26] }, type := 26, pos := "ctx.go:44", after := #[{ on := 3, ground := Go.Ground.data }], guard := none }
def er5 : Oper := { dst := some 24, op := Go.Op.fieldAddr 38 (Go.Operand.tmp 5) 1, type := 0, pos := "ctx.go:44", after := #[], guard := none }
def er6 : Oper := { dst := some 25, op := Go.Op.load 3 (Go.Operand.tmp 24), type := 3, pos := "ctx.go:44", after := #[{ on := 5, ground := Go.Ground.data }], guard := none }
def er7 : Oper := { dst := some 26, op := Go.Op.build 38 #[(0, Go.Operand.tmp 23), (1, Go.Operand.tmp 25)], type := 38, pos := "ctx.go:44", after := #[{ on := 4, ground := Go.Ground.data }, { on := 6, ground := Go.Ground.data }], guard := none }
def er8 : Oper := { dst := some 27, op := Go.Op.indexAddr 22 (Go.Operand.tmp 19) (Go.Operand.tmp 20), type := 0, pos := "ctx.go:44", after := #[{ on := 0, ground := Go.Ground.data }, { on := 1, ground := Go.Ground.data }, { on := 0, ground := Go.Ground.phase }, { on := 1, ground := Go.Ground.phase }, { on := 2, ground := Go.Ground.phase }, { on := 3, ground := Go.Ground.phase }, { on := 4, ground := Go.Ground.phase }, { on := 5, ground := Go.Ground.phase }, { on := 6, ground := Go.Ground.phase }, { on := 7, ground := Go.Ground.phase }], guard := none }
def er9 : Oper := { dst := none, op := Go.Op.store 38 (Go.Operand.tmp 27) (Go.Operand.tmp 26), type := 0, pos := "ctx.go:44", after := #[{ on := 8, ground := Go.Ground.data }, { on := 7, ground := Go.Ground.data }, { on := 4, ground := Go.Ground.chain }, { on := 0, ground := Go.Ground.phase }, { on := 1, ground := Go.Ground.phase }, { on := 2, ground := Go.Ground.phase }, { on := 3, ground := Go.Ground.phase }, { on := 4, ground := Go.Ground.phase }, { on := 5, ground := Go.Ground.phase }, { on := 6, ground := Go.Ground.phase }, { on := 7, ground := Go.Ground.phase }], guard := none }
set_option maxRecDepth 20000 in
set_option maxHeartbeats 4000000 in
theorem ctxerase_any (l : List En) (w : World) (s : Value) (hl : LiesE w l s) (hlen : l.length ≤ 100000) (hff : ∀ u ∈ l, ((⟨u.a.eraseB, u.i⟩ : En)).fine) : Calls Try.prog 16 #[s] w (MakesE (if rightC l = true then l.map (fun e => (⟨e.a.eraseB, e.i⟩ : En)) else []) w) := by
  obtain ⟨a, cap, S, rfl, hc, hmx, hf, hn, hk⟩ := hl.out
  unfold maxLen at hmx
  obtain ⟨i0, hi, hz0, hz1, hz2⟩ := info_parts info_entry
  have HI := Lib.hid (And.intro hi (And.intro hz0 (And.intro hz1 hz2)))
  have HLE := Lib.hid hl
  have HN := Lib.hid hn
  have HK := Lib.hid hk
  have HFF := Lib.hid hff
  clear hn hk hl hf hi hz0 hz1 hz2 hff
  cases hr : rightC l with
  | false =>
    have HR := Lib.hid hr
    clear hr
    go_enter Try.func16, Try.ntmps16
    go_wp2_with fail
    refine (ctxright_any l _ _ HLE.out).mono ?_
    rw [HR.out]
    rintro ee w1 ⟨rfl, hb1⟩
    go_wp2
    go_ret
    exact ⟨_, rfl, liesEP_nil _ _, hb1⟩
  | true =>
    have HR := Lib.hid hr
    clear hr
    go_enter Try.func16, Try.ntmps16
    go_wp2_with fail
    refine (ctxright_any l _ _ HLE.out).mono ?_
    rw [HR.out]
    rintro ee w1 ⟨rfl, hb1⟩
    have HB1 := Lib.hid hb1
    obtain ⟨g, hg⟩ : ∃ g, w1.heap.size = g := ⟨_, rfl⟩
    have HGE := Lib.hid (show w.heap.size ≤ g by have := hb1.size; omega)
    clear hb1
    go_wp2_with (at_make; refine wpList_make_full _ rfl _ _ 22 rfl w.heap.size 38 i0 _ 6 (by kernel_rfl) HI.out.1 HI.out.2.1 HI.out.2.2.1 _ _ _ _ l.length rfl rfl rfl rfl ?bytes ?max ?base ?next)
    case bytes => rw [HI.out.2.2.2]; omega
    case max => unfold maxLen; omega
    case base => exact HB1.out.size
    case next =>
    intro w2 hown hgrow
    (try rw [hg] at hown)
    (try rw [hg])
    have hful := fullE_made hown
    have hbel : Below w.heap.size w w2 := HB1.out.grown hgrow HB1.out.size (by simp)
    clear hown hgrow hg
    go_wp2_with fail
    go_loopw [14] (fun iv wr => ∃ (k : Nat) (xs : List (En × Value)), k ≤ l.length ∧ iv = .int .i64 k ∧ Hid (xs.length = l.length) ∧ Hid ((xs.map (·.1)).take k = (l.map (fun e => (⟨e.a.eraseB, e.i⟩ : En))).take k) ∧ FullE w.heap.size wr g xs ∧ Below w.heap.size w wr) (fun iv _ => l.length - (intOf iv).toNat)
    case atStart => exact ⟨0, _, Nat.zero_le _, rfl, List.length_replicate, rfl, hful, hbel⟩
    case round =>
      clear hful hbel
      obtain ⟨k, xs, hk, rfl, hxl, hxs, hfu, hb⟩ := hrel
      by_cases hlt : k < l.length
      · obtain ⟨b, o, rfl, hx⟩ := HN.out k hlt
        have hx := hx.below hb hx.lt
        have hq := HK.out k hlt
        obtain ⟨a', cap', S', hS, -⟩ := hq.out
        rw [hS] at hx hq
        have HQ := Lib.hid hq
        have HXK := Lib.hid (show k < xs.length by have := hxl.out; omega)
        obtain ⟨U, hU⟩ : ∃ U, l[k].a.eraseB = U := ⟨_, rfl⟩
        have HFI := Lib.hid (HFF.out _ (List.getElem_mem hlt))
        have HFI : Hid ((⟨U, l[k].i⟩ : En).fine) := by rw [← hU]; exact HFI.out
        have HU := Lib.hid hU
        obtain ⟨x0, x1, x2, x3, x4, x5⟩ := hx
        have hglt : g < wr.heap.size := by obtain ⟨cs, h⟩ := hfu.open'; exact (Array.getElem?_eq_some_iff.1 h).1
        clear hS hq hU
        go_upto_region 7 with fail
        have hX := bnode_new wr l[k] (.slice a' l[k].a.kids.length cap')
        have hkV : Kept w (wr.alloc (.cells #[.int .i64 l[k].a.k, .int .i64 l[k].a.i, .int .i64 l[k].a.j, .int .i64 l[k].a.n, (.slice a' l[k].a.kids.length cap'), .int .i64 l[k].i] 38)) := Below.alloc hb hb.size _
        have hfV := hfu.later (w' := wr.alloc (.cells #[.int .i64 l[k].a.k, .int .i64 l[k].a.i, .int .i64 l[k].a.j, .int .i64 l[k].a.n, (.slice a' l[k].a.kids.length cap'), .int .i64 l[k].i] 38)) ((Below.refl _ _).alloc (Nat.le_refl _) _)
        obtain ⟨ge, hge⟩ : ∃ ge, wr.heap.size = ge := ⟨_, rfl⟩
        have HNE := Lib.hid (show ge ≠ g by omega)
        have HWX0 := Lib.hid (show w.heap.size ≤ (wr.alloc (.cells #[.int .i64 l[k].a.k, .int .i64 l[k].a.i, .int .i64 l[k].a.j, .int .i64 l[k].a.n, (.slice a' l[k].a.kids.length cap'), .int .i64 l[k].i] 38)).heap.size from hkV.size)
        have HGW := HGE
        rw [hge] at hX ⊢
        clear x0 x1 x2 x3 x4 x5 hb hfu hge hglt
        generalize wr.alloc (.cells #[.int .i64 l[k].a.k, .int .i64 l[k].a.i, .int .i64 l[k].a.j, .int .i64 l[k].a.n, (.slice a' l[k].a.kids.length cap'), .int .i64 l[k].i] 38) = V at hX hkV hfV HWX0 ⊢
        have hS0 : Kept w V ∧ BNode V ge l[k] (.slice a' l[k].a.kids.length cap') := ⟨hkV, hX⟩
        have hfx : FullE w.heap.size V.drew g xs := hfV.later (Below.drew (Below.refl _ _))
        have hwx : w.heap.size ≤ V.drew.heap.size := HWX0.out
        obtain ⟨x0, x1, x2, x3, x4, x5⟩ := hX
        refine wp_region_held_drew (S := fun w' => Kept w w' ∧ w'.cell? ⟨ge, 0, none⟩ = some (.int .i64 l[k].a.k) ∧ w'.cell? ⟨ge, 1, none⟩ = some (.int .i64 l[k].a.i) ∧ w'.cell? ⟨ge, 2, none⟩ = some (.int .i64 l[k].a.j) ∧ w'.cell? ⟨ge, 3, none⟩ = some (.int .i64 l[k].a.n) ∧ w'.cell? ⟨ge, 4, none⟩ = some ((.slice a' l[k].a.kids.length cap')) ∧ w'.cell? ⟨ge, 5, none⟩ = some (.int .i64 l[k].i)) (by kernel_rfl) ?_ (fun hHeld => ?_)
        · (try dsimp only)
          (first | exact hS7 | exact hS4 | exact bn_drew hS0)
        generalize V.drew = wx at hHeld hfx hwx ⊢
        have HFU := Lib.hid hfx
        have HWX := Lib.hid hwx
        clear hkV hfV hS0 x0 x1 x2 x3 x4 x5 HWX0 hfx hwx
        refine take_at 0 19 er0 (v := ?_) (Or.inl ⟨by rfl, ?_⟩) ?_
        rotate_left 1
        · ((intro w hSw; (try dsimp only at hSw); unfold er0; go_simp) <;> with_reducible rfl)
        (try simp only [Act.put, List.setIfInBounds_toArray, List.set_cons_zero, List.set_cons_succ])
        refine take_at 1 20 er1 (v := ?_) (Or.inl ⟨by rfl, ?_⟩) ?_
        rotate_left 1
        · ((intro w hSw; (try dsimp only at hSw); unfold er1; go_simp) <;> with_reducible rfl)
        (try simp only [Act.put, List.setIfInBounds_toArray, List.set_cons_zero, List.set_cons_succ])
        refine take_at 2 21 er2 (v := ?_) (Or.inl ⟨by rfl, ?_⟩) ?_
        rotate_left 1
        · ((intro w hSw; (try dsimp only at hSw); unfold er2; go_simp) <;> with_reducible rfl)
        (try simp only [Act.put, List.setIfInBounds_toArray, List.set_cons_zero, List.set_cons_succ])
        refine take_at 3 22 er3 (v := ?_) (Or.inl ⟨by rfl, ?_⟩) ?_
        rotate_left 1
        · ((intro w hSw; (try dsimp only at hSw); unfold er3; go_simp) <;> with_reducible rfl)
        (try simp only [Act.put, List.setIfInBounds_toArray, List.set_cons_zero, List.set_cons_succ])
        refine take_at 5 24 er5 (v := ?_) (Or.inl ⟨by rfl, ?_⟩) ?_
        rotate_left 1
        · ((intro w hSw; (try dsimp only at hSw); unfold er5; go_simp) <;> with_reducible rfl)
        (try simp only [Act.put, List.setIfInBounds_toArray, List.set_cons_zero, List.set_cons_succ])
        refine take_at 6 25 er6 (v := ?_) (Or.inl ⟨by rfl, ?_⟩) ?_
        rotate_left 1
        · ((intro w hSw; (try dsimp only at hSw); unfold er6; go_simp) <;> with_reducible rfl)
        (try simp only [Act.put, List.setIfInBounds_toArray, List.set_cons_zero, List.set_cons_succ])
        refine wpAnyH_ready (rs := [4]) (by kernel_rfl) (by simp) ?_
        refine AllReadyH.cons (o := er4) rfl (fun K hK => ?_) ?_
        · unfold er4
          go_simp
          (go_at_call 45; (with_reducible refine Calls.mono (erase_any l[k].a _ _ (kept_lies hHeld.1 HQ.out)) ?_); rw [HU.out]; rintro ee wn ⟨s2, rfl, hl2, hbn⟩; obtain ⟨a2, cap2, rfl, -, -⟩ := hl2.out; have hS4 := bn_call hHeld hbn; have hfn := HFU.out.later hbn; have HL2 := Lib.hid (HFU.out.fresh HWX.out hl2); clear hbn hl2 hHeld; obtain ⟨z0, z1, z2, z3, z4, z5⟩ := hfn.node k HXK.out; obtain ⟨cs, hcs⟩ := hfn.open'; obtain ⟨r0, r1, r2, r3, r4, r5⟩ := open_free hcs (k * 6); have HFN := Lib.hid hfn; clear hfn hcs)
          refine hK.out _ _ ?_ (fun hHeld => ?_)
          · (try dsimp only)
            (first | exact hS7 | exact hS4 | exact bn_drew hS0)
          clear hK K
          (try simp only [Act.put, List.setIfInBounds_toArray, List.set_cons_zero, List.set_cons_succ])
          refine take_at 7 26 er7 (v := ?_) (Or.inl ⟨by rfl, ?_⟩) ?_
          rotate_left 1
          · ((intro w hSw; (try dsimp only at hSw); unfold er7; go_simp) <;> with_reducible rfl)
          (try simp only [Act.put, List.setIfInBounds_toArray, List.set_cons_zero, List.set_cons_succ])
          refine take_at 8 27 er8 (v := ?_) (Or.inl ⟨by rfl, ?_⟩) ?_
          rotate_left 1
          · ((intro w hSw; (try dsimp only at hSw); unfold er8; go_simp) <;> with_reducible rfl)
          (try simp only [Act.put, List.setIfInBounds_toArray, List.set_cons_zero, List.set_cons_succ])
          refine wpAnyH_ready (rs := [9]) (by kernel_rfl) (by simp) ?_
          refine AllReadyH.cons (o := er9) rfl (fun K hK => ?_) ?_
          · unfold er9
            go_simp
            have hS7 := bn_put6 (o := k * 6) (t := ⟨U, l[k].i⟩) (st := .slice a2 U.kids.length cap2) hHeld HGW.out HNE.out
            (try clear hHeld)
            refine hK.out _ _ ?_ (fun hHeld => ?_)
            · (try dsimp only)
              (first | exact hS7 | exact hS4 | exact bn_drew hS0)
            clear hK K
            (try simp only [Act.put, List.setIfInBounds_toArray, List.set_cons_zero, List.set_cons_succ])
            refine wpAnyH_done (by kernel_rfl) ?_ _
            clear z0 z1 z2 z3 z4 z5 r0 r1 r2 r3 r4 r5
            have hFN := HFN.out.fill HXK.out HFI.out HL2.out
            have hkE := hHeld.1
            clear hHeld
            go_wp2_with fail
            go_roundw
            case rel => exact ⟨k + 1, xs.set k (⟨U, l[k].i⟩, .slice a2 U.kids.length cap2), by omega, by go_num, by show _ = _; rw [List.length_set]; exact hxl.out, take_set_map _ (by simpa using hxl.out) (by simpa using hlt) hxs.out (by simp [HU.out]), hFN, hkE⟩
            case measure => simp [intOf]; omega
          exact AllReadyH.nil
        exact AllReadyH.nil
      · obtain rfl : k = l.length := by omega
        have hxs' : xs.map (·.1) = l.map (fun e => (⟨e.a.eraseB, e.i⟩ : En)) := by
          have h := hxs.out
          rw [List.take_of_length_le (by simp [hxl.out]), List.take_of_length_le (by simp)] at h
          exact h
        have hres := hfu.lies (cap := l.length) (by rw [hxl.out]; exact Nat.le_refl _) (by unfold maxLen; omega)
        rw [hxs', hxl.out] at hres
        go_wp2_with fail
        go_ret
        exact ⟨_, rfl, hres, hb⟩

end Go.Proofs.Ytjhdcjjoignioaa

/-! The page's own erase and Erase. -/
/-! The page's own erase. -/
namespace Go.Proofs.Ytjhdcjjoignioaa
open Go.RowKit

set_option maxRecDepth 20000 in
set_option maxHeartbeats 2000000 in
theorem referase_any (t : Tm) : ∀ (w : World) (s : Value), Lies w t.kids s → t.markedB = true → Calls Try.prog 73 #[tv t s] w (Makes t.pur w) := by
  induction t using Tm.ind with
  | h t ih =>
    intro w s hl hmk
    obtain ⟨a, cap, S, rfl, hc, hm, hf, hn, hkk⟩ := hl.out
    have hlen := right_len (marked_right hmk)
    unfold tv
    unfold maxLen at hm
    obtain ⟨du, hu1, hu2⟩ := under_term
    by_cases hk : t.k = 12
    · have ek : (t.k == 12) = true := by simpa using hk
      obtain ⟨a1, b1, p1, y, hkids, -, -, -, hy⟩ := marked_tr hmk hk
      have hpur : t.pur = y.pur := by rw [Tm.pur_eq, purNode, if_pos hk, hkids]; rfl
      have h3 : 3 < t.kids.length := by rw [hkids]; show 3 < 4; omega
      have hy3 : t.kids[3] = y := by simp [hkids]
      have hmem : y ∈ t.kids := by rw [hkids]; simp
      obtain ⟨b', o, rfl, hx⟩ := hn 3 h3
      have hly := hkk 3 h3
      rw [hy3] at hx hly
      obtain ⟨ay, cy, Sy, hSy, -⟩ := hly.out
      rw [hSy] at hly hx
      have H0 := boxes_start w t (.slice (some ⟨b', o, none⟩) t.kids.length cap)
      obtain ⟨c0, c1, c2, c3, c4⟩ : Node _ b' (o + 15) y (.slice ay y.kids.length cy) := hx.below (held_below (boxes_held H0)) hx.lt
      have CALL := Lib.hid (ih y hmem _ _ (boxes_lies H0 hly) hy)
      have HPUR := Lib.hid hpur
      clear ih hn hkk hf hl hmk hkids hy hpur hy3 hmem hx hly hSy hk
      go_enter Try.func73, Try.ntmps73
      go_wp2_with fail
      refine CALL.out.mono ?_
      rintro e w2 ⟨s2, rfl, hl2, hb2⟩
      obtain ⟨a2, cap2, rfl, -, -⟩ := hl2.out
      have H2 := boxes_call H0 hb2
      obtain ⟨-, q1⟩ := boxes_two H2
      obtain ⟨z0, z1, z2, z3, z4⟩ := five_cells q1
      obtain ⟨f0, f1, f2, f3, f4⟩ := five_free q1
      have HL2 := Lib.hid hl2
      clear hb2 H0 hl2
      go_wp2
      (try simp only [Exit.inBlock, Exit.then])
      refine bodyPost_ret (results_cell_row rfl _ _ (w.heap.size + 1) _ _ _ du rfl (five_set q1) hu1 (by cases du <;> first | rfl | exact hu2) size_term) rfl ?_
      rw [HPUR.out]
      exact ⟨_, rfl, liesP_fives HL2.out (by simp <;> omega) (by simp <;> omega) _ _ _ _ _, below_five (boxes_under H2) (by omega) _ _ _ _ _⟩
    · have ek : (t.k == 12) = false := by simpa using hk
      have hpur : t.pur = .mk t.k t.i t.j t.n (t.kids.map Tm.pur) := by rw [Tm.pur_eq, purNode, if_neg hk, marked_n hmk]
      have HPUR := Lib.hid hpur
      have HRK := Lib.hid (marked_others hmk hk)
      have IH := Lib.hid ih
      have HN := Lib.hid hn
      have HK := Lib.hid hkk
      have hd0 := desk_start w t t (.slice a t.kids.length cap) (.slice none 0 0)
      clear hk ih hn hkk hf hmk hl hpur
      obtain ⟨i0, hi, hz0, hz1, hz2⟩ := info_parts info_term
      have HI := Lib.hid (And.intro hi (And.intro hz0 (And.intro hz1 hz2)))
      clear hi hz0 hz1 hz2
      go_enter Try.func73, Try.ntmps73
      go_wp2_with fail
      go_loopw [4, 5] (fun v i wr => ∃ (q : Nat) (ps : List (Tm × Value)) (vv : Value), vv = v ∧ q ≤ t.kids.length ∧ i = .int .i64 q ∧ Hid (ps.map (·.1) = (t.kids.map Tm.pur).take q) ∧ Made (w.heap.size + 3) wr v ps ∧ Desk w t t (.slice a t.kids.length cap) (.slice none 0 0) wr) (fun _ i _ => t.kids.length - (intOf i).toNat)
      case atStart => exact ⟨0, [], _, rfl, Nat.zero_le _, rfl, by simp [Hid], made_nil _ _, hd0⟩
      case round =>
        clear hd0
        obtain ⟨q, ps, vv, rfl, hq0, rfl, hps, hmade, hdk⟩ := hrel
        have HPS := Lib.hid hps.out
        clear hps
        obtain ⟨q0, q1, q2⟩ := desk_blocks hdk
        obtain ⟨d0, d1, d2, d3, d4⟩ := five_cells q0
        obtain ⟨y0, y1, y2, y3, y4⟩ := five_cells q2
        obtain ⟨f0, f1, f2, f3, f4⟩ := five_free q2
        obtain ⟨z0, z1, z2, z3, z4⟩ := five_cells q1
        obtain ⟨g0, g1, g2, g3, g4⟩ := five_free q1
        have hsz := desk_size hdk
        clear q0 q2
        by_cases hlt : q < t.kids.length
        · obtain ⟨b', o, rfl, hx⟩ := HN.out q hlt
          have hq := HK.out q hlt
          obtain ⟨a', cap', S', hS, -⟩ := hq.out
          rw [hS] at hx hq
          obtain ⟨c0, c1, c2, c3, c4⟩ := hx.below (desk_under hdk) hx.lt
          have HM := Lib.hid (List.getElem_mem hlt)
          have hkm := HRK.out _ HM.out
          obtain ⟨x, hxb⟩ : ∃ x, (t.kids[q]).pur = x := ⟨_, rfl⟩
          have hfx := pur_fine hkm
          rw [hxb] at hfx
          have hnext : (t.kids.map Tm.pur).take (q + 1) = (t.kids.map Tm.pur).take q ++ [x] := by
            rw [List.take_succ_eq_append_getElem (by simpa using hlt), List.getElem_map, hxb]
          have HFX := Lib.hid hfx
          have HNX := Lib.hid hnext
          have hpl : ps.length = q := by have := congrArg List.length HPS.out; simp at this; omega
          have HPL := Lib.hid hpl
          have HMD := Lib.hid hmade
          have hcall := IH.out _ HM.out wr _ (hq.keep (desk_under hdk)) hkm
          rw [hxb] at hcall
          have CALL := Lib.hid hcall
          clear hS hq hx hpl hmade hcall hfx hnext hxb hkm
          go_wp2_with fail
          refine CALL.out.mono ?_
          rintro e w2 ⟨s2, rfl, hl2, hb2⟩
          obtain ⟨a2, cap2, rfl, -, -⟩ := hl2.out
          have HL2 := Lib.hid hl2
          have HB2 := Lib.hid hb2
          clear hl2 hb2
          have hsB : wr.heap.size ≤ w2.heap.size := HB2.out.size
          go_wp2_with (at_builtin; refine wpList_append_lies _ rfl _ _ 24 rfl (w.heap.size + 3) 26 i0 _ 5 56 (by kernel_rfl) HI.out.1 HI.out.2.1 HI.out.2.2.1 HI.out.2.2.2 rfl (by decide) _ ps.length (cells5 ps) rfl (made_later (made_later HMD.out HB2.out) ((Below.refl _ _).alloc (Nat.le_refl _) _)).own ⟨w2.heap.size, 0, none⟩ 1 1 (cells5 [(x, .slice a2 x.kids.length cap2)]) rfl rfl ?news ?one (by decide) ?max ?bytes ?base _ rfl ?next)
          case news => exact news_new _ _ _ _
          case one => exact one5 _ _
          case max => have := HPL.out; unfold maxLen; omega
          case bytes => have := HPL.out; omega
          case base => simp; omega
          case next =>
            intro g cap3 w3 hown hgrow hat _
            have hpb := push_once hdk HMD.out HFX.out HB2.out HL2.out _ hown hgrow (by simpa using hat)
            clear hown hgrow hat
            go_wp2_with fail
            go_roundw
            case rel => exact ⟨q + 1, ps ++ [(x, .slice a2 x.kids.length cap2)], _, rfl, hlt, by go_num, by rw [Hid, List.map_append, HPS.out, HNX.out]; rfl, hpb.1, hpb.2⟩
            case measure => simp [intOf]; omega
        · have : q = t.kids.length := by omega
          subst this
          have hd2 := desk_set (v' := vv) hdk
          have hres : ps.map (·.1) = t.kids.map Tm.pur := by
            have := HPS.out
            rwa [List.take_of_length_le (by simp)] at this
          obtain ⟨-, q1', -⟩ := desk_blocks hd2
          have hll := made_lies hmade
          rw [hres] at hll
          obtain ⟨a2, cap2, rfl, -, -⟩ := hll.out
          simp only [List.length_map] at hd2 q1' hll
          have HLL := Lib.hid hll
          clear hres hll
          go_wp2
          (try simp only [Exit.inBlock, Exit.then])
          refine bodyPost_ret (results_cell_row rfl _ _ (w.heap.size + 1) _ _ _ du rfl (five_set q1') hu1 (by cases du <;> first | rfl | exact hu2) size_term) rfl ?_
          rw [HPUR.out]
          exact ⟨_, rfl, liesP_fives (liesP_set HLL.out (by omega) (Nat.le_refl _) _) (by omega) (by omega) _ _ _ _ _, below_five (desk_under hd2) (by omega) _ _ _ _ _⟩
end Go.Proofs.Ytjhdcjjoignioaa

/-! The page's own Erase and Related. -/
namespace Go.Proofs.Ytjhdcjjoignioaa
open Go.RowKit

set_option maxHeartbeats 2000000 in
theorem refEraseT_any (t : Tm) (w : World) (s : Value) (hl : Lies w t.kids s) : Calls Try.prog 47 #[tv t s] w (Makes t.eraseB w) := by
  obtain ⟨a, cap, S, rfl, hc, hm, -, -, -⟩ := hl.out
  have HL := Lib.hid hl
  obtain ⟨du, hu1, hu2⟩ := under_term
  have H0 := boxes_start w t (.slice a t.kids.length cap)
  clear hl
  unfold tv
  cases hr : t.markedB with
  | false =>
    have hres := Lib.hid (show t.eraseB = Tm.zero by unfold Tm.eraseB; rw [if_neg (by rw [hr]; decide)])
    go_enter Try.func47, Try.ntmps47
    go_wp2_with fail
    refine (refmarked_any t _ _ (boxes_lies H0 HL.out)).mono ?_
    rw [hr]
    rintro e w2 ⟨rfl, hb2⟩
    have H2 := boxes_call H0 hb2
    obtain ⟨-, q1⟩ := boxes_two H2
    obtain ⟨d0, d1, d2, d3, d4⟩ := held_cells (boxes_held H2)
    obtain ⟨z0, z1, z2, z3, z4⟩ := five_cells q1
    obtain ⟨f0, f1, f2, f3, f4⟩ := five_free q1
    clear hb2 H0
    go_wp2
    refine bodyPost_ret (results_cell_row rfl _ _ (w.heap.size + 1) _ _ _ du rfl (five_set q1) hu1 (by cases du <;> first | rfl | exact hu2) size_term) rfl ?_
    rw [hres.out]
    exact ⟨.slice none 0 0, rfl, liesP_nil _ _, below_five (boxes_under H2) (by omega) _ _ _ _ _⟩
  | true =>
    have hres := Lib.hid (show t.eraseB = t.pur by unfold Tm.eraseB; rw [if_pos hr])
    go_enter Try.func47, Try.ntmps47
    go_wp2_with fail
    refine (refmarked_any t _ _ (boxes_lies H0 HL.out)).mono ?_
    rw [hr]
    rintro e w2 ⟨rfl, hb2⟩
    have H2 := boxes_call H0 hb2
    obtain ⟨-, q1⟩ := boxes_two H2
    obtain ⟨d0, d1, d2, d3, d4⟩ := held_cells (boxes_held H2)
    obtain ⟨z0, z1, z2, z3, z4⟩ := five_cells q1
    obtain ⟨f0, f1, f2, f3, f4⟩ := five_free q1
    clear hb2 H0
    go_wp2_with fail
    refine (referase_any t w2 _ (boxes_lies H2 HL.out) hr).mono ?_
    rintro e w3 ⟨s3, rfl, hl3, hb3⟩
    obtain ⟨a3, cap3, rfl, -, -⟩ := hl3.out
    have hs2 : w.heap.size + 2 ≤ w2.heap.size := by have := Below.size H2; simpa using this
    have H3 := boxes_call H2 hb3
    clear q1 z0 z1 z2 z3 z4 f0 f1 f2 f3 f4
    obtain ⟨-, q1⟩ := boxes_two H3
    obtain ⟨z0, z1, z2, z3, z4⟩ := five_cells q1
    obtain ⟨f0, f1, f2, f3, f4⟩ := five_free q1
    have HL3 := Lib.hid hl3
    clear hb3 hl3 d0 d1 d2 d3 d4
    go_wp2
    refine bodyPost_ret (results_cell_row rfl _ _ (w.heap.size + 1) _ _ _ du rfl (five_set q1) hu1 (by cases du <;> first | rfl | exact hu2) size_term) rfl ?_
    rw [hres.out]
    exact ⟨_, rfl, liesP_fives HL3.out (by omega) (by omega) _ _ _ _ _, below_five (boxes_under H3) (by omega) _ _ _ _ _⟩
end Go.Proofs.Ytjhdcjjoignioaa

/-! The page's own Strip, whatever its result shares. -/
namespace Go.Proofs.Ytjhdcjjoignioaa
open Go.RowKit

set_option maxHeartbeats 2000000 in
theorem refStripS_any (t : Tm) (E : Nat) (w : World) (s : Value) (hE : E ≤ w.heap.size) (hl : LiesQ w (· < E) t.kids s) : Calls Try.prog 48 #[tv t s] w (Shares E t.stripB w) := by
  obtain ⟨a, cap, S, rfl, hc, hm, -, -, -⟩ := hl.out
  have HL := Lib.hid hl
  obtain ⟨du, hu1, hu2⟩ := under_term
  have H0 := boxes_start w t (.slice a t.kids.length cap)
  clear hl
  unfold tv
  cases hp : t.plainB with
  | true =>
    have hres := Lib.hid (stripB_ofPlain hp)
    go_enter Try.func48, Try.ntmps48
    go_wp2_with fail
    refine (refplain_any t _ _ (boxes_lies H0 HL.out.lies)).mono ?_
    rw [hp]
    rintro e w2 ⟨rfl, hb2⟩
    have H2 := boxes_call H0 hb2
    obtain ⟨-, q1⟩ := boxes_two H2
    obtain ⟨d0, d1, d2, d3, d4⟩ := held_cells (boxes_held H2)
    obtain ⟨z0, z1, z2, z3, z4⟩ := five_cells q1
    obtain ⟨f0, f1, f2, f3, f4⟩ := five_free q1
    clear hb2 H0
    go_wp2
    refine bodyPost_ret (results_cell_row rfl _ _ (w.heap.size + 1) _ _ _ du rfl (five_set q1) hu1 (by cases du <;> first | rfl | exact hu2) size_term) rfl ?_
    rw [hres.out]
    exact ⟨_, rfl, (HL.out.later (below_five (boxes_under H2) (by omega) _ _ _ _ _)).wide (fun b hb => Or.inl hb), below_five (boxes_under H2) (by omega) _ _ _ _ _⟩
  | false =>
    cases hr : t.markedB with
    | false =>
      have hres := Lib.hid (stripB_ofNone hp hr)
      go_enter Try.func48, Try.ntmps48
      go_wp2_with fail
      refine (refplain_any t _ _ (boxes_lies H0 HL.out.lies)).mono ?_
      rw [hp]
      rintro e w1 ⟨rfl, hb1⟩
      have H1 := boxes_call H0 hb1
      obtain ⟨d0, d1, d2, d3, d4⟩ := held_cells (boxes_held H1)
      clear hb1 H0
      go_wp2_with fail
      refine (refmarked_any t _ _ (boxes_lies H1 HL.out.lies)).mono ?_
      rw [hr]
      rintro e w2 ⟨rfl, hb2⟩
      have H2 := boxes_call H1 hb2
      obtain ⟨-, q1⟩ := boxes_two H2
      obtain ⟨z0, z1, z2, z3, z4⟩ := five_cells q1
      obtain ⟨f0, f1, f2, f3, f4⟩ := five_free q1
      clear hb2 d0 d1 d2 d3 d4
      obtain ⟨d0, d1, d2, d3, d4⟩ := held_cells (boxes_held H2)
      go_wp2
      refine bodyPost_ret (results_cell_row rfl _ _ (w.heap.size + 1) _ _ _ du rfl (five_set q1) hu1 (by cases du <;> first | rfl | exact hu2) size_term) rfl ?_
      rw [hres.out]
      exact ⟨.slice none 0 0, rfl, liesQ_nil _ _, below_five (boxes_under H2) (by omega) _ _ _ _ _⟩
    | true =>
      have hres := Lib.hid (stripB_ofMarked hr)
      go_enter Try.func48, Try.ntmps48
      go_wp2_with fail
      refine (refplain_any t _ _ (boxes_lies H0 HL.out.lies)).mono ?_
      rw [hp]
      rintro e w1 ⟨rfl, hb1⟩
      have H1 := boxes_call H0 hb1
      obtain ⟨d0, d1, d2, d3, d4⟩ := held_cells (boxes_held H1)
      clear hb1 H0
      go_wp2_with fail
      refine (refmarked_any t _ _ (boxes_lies H1 HL.out.lies)).mono ?_
      rw [hr]
      rintro e w2 ⟨rfl, hb2⟩
      have H2 := boxes_call H1 hb2
      have hs2 : w.heap.size + 2 ≤ w2.heap.size := by have := Below.size H2; simpa using this
      clear hb2 d0 d1 d2 d3 d4
      obtain ⟨d0, d1, d2, d3, d4⟩ := held_cells (boxes_held H2)
      go_wp2_with fail
      refine (refstrip_any t E w2 _ (by omega) (HL.out.later (boxes_under H2)) hr).mono ?_
      rintro e w3 ⟨s3, rfl, hl3, hb3⟩
      obtain ⟨a3, cap3, S3, rfl, -⟩ := hl3.out
      have H3 := boxes_call H2 hb3
      obtain ⟨-, q1⟩ := boxes_two H3
      obtain ⟨z0, z1, z2, z3, z4⟩ := five_cells q1
      obtain ⟨f0, f1, f2, f3, f4⟩ := five_free q1
      have HL3 := Lib.hid hl3
      clear hb3 hl3 d0 d1 d2 d3 d4
      go_wp2
      refine bodyPost_ret (results_cell_row rfl _ _ (w.heap.size + 1) _ _ _ du rfl (five_set q1) hu1 (by cases du <;> first | rfl | exact hu2) size_term) rfl ?_
      rw [hres.out]
      exact ⟨_, rfl, liesQ_fives HL3.out (by omega) (by omega) (by omega) _ _ _ _ _, below_five (boxes_under H3) (by omega) _ _ _ _ _⟩
end Go.Proofs.Ytjhdcjjoignioaa

/-! The page's Plain and Erase of a context. -/
namespace Go.Proofs.Ytjhdcjjoignioaa
open Go.RowKit

def plainC (l : List En) : List Tm := if rightC l = true then l.map (fun e => e.a.stripB) else []
def eraseC (l : List En) : List En := if rightC l = true then l.map (fun e => (⟨e.a.eraseB, e.i⟩ : En)) else []
def GivesL (l : List Tm) (w : World) (e : Ending) (w' : World) : Prop := ∃ s' : Value, e = .returned s' ∧ Lies w' l s' ∧ Below w.heap.size w w'
set_option maxRecDepth 20000 in
set_option maxHeartbeats 4000000 in
theorem refctxplain_any (l : List En) (w : World) (s : Value) (hl : LiesE w l s) (hlen : l.length ≤ 100000) (hff : ∀ u ∈ l, u.a.stripB.fine) : Calls Try.prog 21 #[s] w (GivesL (plainC l) w) := by
  obtain ⟨a, cap, S, rfl, hc, hmx, hf, hn, hk⟩ := hl.out
  unfold maxLen at hmx
  obtain ⟨i0, hi, hz0, hz1, hz2⟩ := info_parts info_term
  have HI := Lib.hid (And.intro hi (And.intro hz0 (And.intro hz1 hz2)))
  have HLE := Lib.hid hl
  have HN := Lib.hid hn
  have HK := Lib.hid hk
  have HFF := Lib.hid hff
  clear hn hk hl hf hi hz0 hz1 hz2 hff
  go_enter Try.func21, Try.ntmps21
  go_wp2
  go_loopw [3, 4] (fun v iv wr => ∃ (k : Nat) (ps : List (Tm × Value)) (vv : Value), vv = v ∧ k ≤ l.length ∧ iv = .int .i64 k ∧ Hid (0 < k → rightC l = true) ∧ Hid (ps.map (·.1) = (l.map (fun e => e.a.stripB)).take k) ∧ MadeQ w.heap.size w.heap.size w.heap.size wr v ps ∧ Below w.heap.size w wr) (fun _ iv _ => l.length - (intOf iv).toNat)
  case atStart => exact ⟨0, [], _, rfl, Nat.zero_le _, rfl, fun h => absurd h (by omega), by simp [Hid], madeQ_nil _ _ _ _, Below.refl _ _⟩
  case round =>
    obtain ⟨k, ps, vv, rfl, hk, rfl, hpos, hps, hmade, hb⟩ := hrel
    have HMD0 := Lib.hid hmade
    clear hmade
    by_cases hlt : k < l.length
    · obtain ⟨b, o, rfl, hx⟩ := HN.out k hlt
      have hq := HK.out k hlt
      obtain ⟨a', cap', S', hS, -⟩ := hq.out
      rw [hS] at hx hq
      have HX := Lib.hid hx
      have HQ := Lib.hid hq
      have hpl : ps.length = k := by have := congrArg List.length hps.out; simp at this; omega
      have HPL := Lib.hid hpl
      clear hS hq hx hpl
      go_wp2_with fail
      refine (refctxright_any l _ _ (HLE.out.keep hb)).mono ?_
      cases hr : rightC l with
      | false =>
        have HR := Lib.hid hr
        clear hr
        rintro ee w1 ⟨rfl, hb1⟩
        have hbb := below_call hb hb1 hb.size
        have hk0 : k = 0 := by
          rcases Nat.eq_zero_or_pos k with h | h
          · exact h
          · have := hpos.out h; rw [HR.out] at this; cases this
        have hps0 : ps = [] := List.eq_nil_of_length_eq_zero (by have := HPL.out; omega)
        have hmd := madeQ_later HMD0.out hb1
        clear hb1 hb
        go_wp2
        go_ret
        refine ⟨_, rfl, ?_, hbb⟩
        have hres := (madeQ_lies hmd (Nat.le_refl _)).lies
        rw [hps0] at hres
        unfold plainC
        rw [if_neg (by rw [HR.out]; decide)]
        exact hres
      | true =>
        have HR := Lib.hid hr
        clear hr
        rintro ee w1 ⟨rfl, hb1⟩
        have hb2 := below_call hb hb1 hb.size
        have hm2 := madeQ_later HMD0.out hb1
        obtain ⟨U, hU⟩ : ∃ U, l[k].a.stripB = U := ⟨_, rfl⟩
        have HFI0 := Lib.hid (HFF.out _ (List.getElem_mem hlt))
        have HU := Lib.hid hU
        have HFI : Hid (U.fine) := by rw [← hU]; exact HFI0.out
        clear hb hb1 hU HMD0 HFI0
        generalize w1 = wr at hb2 hm2 ⊢
        obtain ⟨x0, x1, x2, x3, x4, x5⟩ := HX.out.below hb2 HX.out.lt
        go_wp2_with fail
        refine (refStripS_any l[k].a w.heap.size _ _ hb2.size ((HQ.out.q).later hb2)).mono ?_
        rw [HU.out]
        rintro ee w3 ⟨s2, rfl, hl2, hb3⟩
        obtain ⟨a2, cap2, S2, rfl, -⟩ := hl2.out
        have HL2 := Lib.hid hl2
        have HB3 := Lib.hid hb3
        have HMD := Lib.hid hm2
        have HB2 := Lib.hid hb2
        have hm3 := madeQ_later (madeQ_later hm2 hb3) (w' := w3.alloc (.cells #[.int .i64 U.k, .int .i64 U.i, .int .i64 U.j, .int .i64 U.n, .slice a2 U.kids.length cap2] 26)) ((Below.refl _ _).alloc (Nat.le_refl _) _)
        have HM3 := Lib.hid hm3
        have hk3 := kept_call hb2 hb3
        clear hl2 hb3 hm2 hb2 hm3 x0 x1 x2 x3 x4 x5
        go_wp2_with (at_builtin; refine wpList_append_lies _ rfl (.tmp 15) (.tmp 22) 24 rfl w.heap.size 26 i0 _ 5 56 (by kernel_rfl) HI.out.1 HI.out.2.1 HI.out.2.2.1 HI.out.2.2.2 rfl (by decide) _ ps.length (cells5 ps) rfl HM3.out.own ⟨w3.heap.size, 0, none⟩ 1 1 (cells5 [(U, .slice a2 U.kids.length cap2)]) rfl rfl ?news ?one (by decide) ?max ?bytes ?base _ rfl ?next)
        case news => exact news_new _ _ _ _
        case one => intro u hu; simp [cells5] at hu; rcases hu with rfl | rfl | rfl | rfl | rfl <;> rfl
        case max => have := HPL.out; unfold maxLen; omega
        case bytes => have := HPL.out; omega
        case base => have := hk3.size; simp; omega
        case next =>
          intro g cap3 w4 hown hgrow hat hlt3
          have hmq := madeQ_push HMD.out (Nat.le_refl _) (Nat.le_refl _) HB2.out.size HFI.out HB3.out HL2.out _ hown hgrow (by simpa using hat)
          have hkE : Below w.heap.size w w4 := Below.grown (Below.alloc hk3 (Below.size hk3) _) hgrow (by have := Below.size hk3; simp; omega) (madeQ_above HMD.out)
          clear hown hgrow hat hlt3
          go_wp2_with fail
          go_roundw
          case rel => exact ⟨k + 1, ps ++ [(U, .slice a2 U.kids.length cap2)], _, rfl, hlt, by go_num, fun _ => HR.out, by have := hps.out; simp only [Hid]; rw [List.map_append, this, List.map_cons, List.map_nil, ← HU.out, show l[k].a.stripB = (l.map (fun e => e.a.stripB))[k]'(by simpa using hlt) by simp, List.take_append_getElem (by simpa using hlt)], hmq, hkE⟩
          case measure => simp [intOf]; omega
    · obtain rfl : k = l.length := by omega
      have hres := ((madeQ_lies HMD0.out (Nat.le_refl _)).lies)
      have hb0 := hb
      clear hb
      go_wp2_with fail
      go_ret
      refine ⟨_, rfl, ?_, hb0⟩
      have hps' := hps.out
      rw [List.take_of_length_le (by simp)] at hps'
      rw [hps'] at hres
      unfold plainC
      cases hr : rightC l with
      | true => rw [if_pos rfl]; exact hres
      | false =>
        have h0 : l = [] := by
          rcases Nat.eq_zero_or_pos l.length with h | h
          · exact List.eq_nil_of_length_eq_zero h
          · have := hpos.out h; rw [hr] at this; cases this
        subst h0
        exact hres

def pe0 : Oper := { dst := some 15, op := Go.Op.move (Go.Operand.tmp 3), type := 22, pos := "ctx.go:54", after := #[], guard := none }
def pe1 : Oper := { dst := some 16, op := Go.Op.move (Go.Operand.tmp 0), type := 22, pos := "ctx.go:54", after := #[], guard := none }
def pe2 : Oper := { dst := some 17, op := Go.Op.move (Go.Operand.tmp 4), type := 3, pos := "ctx.go:54", after := #[], guard := none }
def pe3 : Oper := { dst := some 18, op := Go.Op.indexAddr 22 (Go.Operand.tmp 16) (Go.Operand.tmp 17), type := 0, pos := "ctx.go:54", after := #[{ on := 1, ground := Go.Ground.data }, { on := 2, ground := Go.Ground.data }], guard := none }
def pe4 : Oper := { dst := some 19, op := Go.Op.fieldAddr 38 (Go.Operand.tmp 18) 0, type := 0, pos := "ctx.go:54", after := #[{ on := 3, ground := Go.Ground.data }], guard := none }
def pe5 : Oper := { dst := some 20, op := Go.Op.load 26 (Go.Operand.tmp 19), type := 26, pos := "ctx.go:54", after := #[{ on := 4, ground := Go.Ground.data }], guard := none }
def pe6 : Oper := { dst := some 21, op := Go.Op.call { callee := Go.Callee.value (Go.Operand.func 47), args := #[Go.Operand.tmp 20], argTypes := #[26] }, type := 26, pos := "ctx.go:54", after := #[{ on := 5, ground := Go.Ground.data }], guard := none }
def pe7 : Oper := { dst := some 22, op := Go.Op.move (Go.Operand.tmp 0), type := 22, pos := "ctx.go:54", after := #[], guard := none }
def pe8 : Oper := { dst := some 23, op := Go.Op.move (Go.Operand.tmp 4), type := 3, pos := "ctx.go:54", after := #[], guard := none }
def pe9 : Oper := { dst := some 24, op := Go.Op.indexAddr 22 (Go.Operand.tmp 22) (Go.Operand.tmp 23), type := 0, pos := "ctx.go:54", after := #[{ on := 7, ground := Go.Ground.data }, { on := 8, ground := Go.Ground.data }], guard := none }
def pe10 : Oper := { dst := some 25, op := Go.Op.fieldAddr 38 (Go.Operand.tmp 24) 1, type := 0, pos := "ctx.go:54", after := #[{ on := 9, ground := Go.Ground.data }], guard := none }
def pe11 : Oper := { dst := some 26, op := Go.Op.load 3 (Go.Operand.tmp 25), type := 3, pos := "ctx.go:54", after := #[{ on := 10, ground := Go.Ground.data }], guard := none }
def pe12 : Oper := { dst := some 27, op := Go.Op.build 38 #[(0, Go.Operand.tmp 21), (1, Go.Operand.tmp 26)], type := 38, pos := "ctx.go:54", after := #[{ on := 6, ground := Go.Ground.data }, { on := 11, ground := Go.Ground.data }], guard := none }
def pe13 : Oper := { dst := some 28, op := Go.Op.buildSlice 22 1 #[(0, Go.Operand.tmp 27)], type := 22, pos := "ctx.go:54", after := #[{ on := 12, ground := Go.Ground.data }], guard := none }
def pe14 : Oper := { dst := some 29, op := Go.Op.call { callee := Go.Callee.builtin Go.Builtin.append, args := #[Go.Operand.tmp 15, Go.Operand.tmp 28], argTypes := #[22, 22] }, type := 22, pos := "ctx.go:54", after := #[{ on := 0, ground := Go.Ground.data }, { on := 13, ground := Go.Ground.data }, { on := 6, ground := Go.Ground.chain }], guard := none }
def pe15 : Oper := { dst := some 3, op := Go.Op.assign (Go.Operand.tmp 29), type := 22, pos := "ctx.go:54", after := #[{ on := 14, ground := Go.Ground.data }, { on := 14, ground := Go.Ground.chain }, { on := 0, ground := Go.Ground.phase }, { on := 1, ground := Go.Ground.phase }, { on := 2, ground := Go.Ground.phase }, { on := 3, ground := Go.Ground.phase }, { on := 4, ground := Go.Ground.phase }, { on := 5, ground := Go.Ground.phase }, { on := 6, ground := Go.Ground.phase }, { on := 7, ground := Go.Ground.phase }, { on := 8, ground := Go.Ground.phase }, { on := 9, ground := Go.Ground.phase }, { on := 10, ground := Go.Ground.phase }, { on := 11, ground := Go.Ground.phase }, { on := 12, ground := Go.Ground.phase }, { on := 13, ground := Go.Ground.phase }, { on := 14, ground := Go.Ground.phase }], guard := none }
set_option maxRecDepth 20000 in
set_option maxHeartbeats 4000000 in
theorem refctxerase_any (l : List En) (w : World) (s : Value) (hl : LiesE w l s) (hlen : l.length ≤ 100000) (hff : ∀ u ∈ l, (⟨u.a.eraseB, u.i⟩ : En).fine) : Calls Try.prog 19 #[s] w (MakesE (eraseC l) w) := by
  obtain ⟨a, cap, S, rfl, hc, hmx, hf, hn, hk⟩ := hl.out
  unfold maxLen at hmx
  obtain ⟨i0, hi, hz0, hz1, hz2⟩ := info_parts info_entry
  have HI := Lib.hid (And.intro hi (And.intro hz0 (And.intro hz1 hz2)))
  have HLE := Lib.hid hl
  have HN := Lib.hid hn
  have HK := Lib.hid hk
  have HFF := Lib.hid hff
  clear hn hk hl hf hi hz0 hz1 hz2 hff
  go_enter Try.func19, Try.ntmps19
  go_wp2
  go_loopw [3, 4] (fun v iv wr => ∃ (k : Nat) (ps : List (En × Value)) (vv : Value), vv = v ∧ k ≤ l.length ∧ iv = .int .i64 k ∧ Hid (0 < k → rightC l = true) ∧ Hid (ps.map (·.1) = (l.map (fun e => (⟨e.a.eraseB, e.i⟩ : En))).take k) ∧ MadeE w.heap.size wr v ps ∧ Below w.heap.size w wr) (fun _ iv _ => l.length - (intOf iv).toNat)
  case atStart => exact ⟨0, [], _, rfl, Nat.zero_le _, rfl, fun h => absurd h (by omega), by simp [Hid], madeE_nil _ _, Below.refl _ _⟩
  case round =>
    obtain ⟨k, ps, vv, rfl, hk, rfl, hpos, hps, hmade, hb⟩ := hrel
    have HMD0 := Lib.hid hmade
    clear hmade
    by_cases hlt : k < l.length
    · obtain ⟨b, o, rfl, hx⟩ := HN.out k hlt
      have hq := HK.out k hlt
      obtain ⟨a', cap', S', hS, -⟩ := hq.out
      rw [hS] at hx hq
      have HX := Lib.hid hx
      have HQ := Lib.hid hq
      have hpl : ps.length = k := by have := congrArg List.length hps.out; simp at this; omega
      have HPL := Lib.hid hpl
      clear hS hq hx hpl
      go_wp2_with fail
      refine (refctxright_any l _ _ (HLE.out.keep hb)).mono ?_
      cases hr : rightC l with
      | false =>
        have HR := Lib.hid hr
        clear hr
        rintro ee w1 ⟨rfl, hb1⟩
        have hbb := below_call hb hb1 hb.size
        have hk0 : k = 0 := by
          rcases Nat.eq_zero_or_pos k with h | h
          · exact h
          · have := hpos.out h; rw [HR.out] at this; cases this
        have hps0 : ps = [] := List.eq_nil_of_length_eq_zero (by have := HPL.out; omega)
        have hmd := madeE_later HMD0.out hb1
        clear hb1 hb
        go_wp2
        go_ret
        refine ⟨_, rfl, ?_, hbb⟩
        have hres := (madeE_lies hmd)
        rw [hps0] at hres
        unfold eraseC
        rw [if_neg (by rw [HR.out]; decide)]
        exact hres
      | true =>
        have HR := Lib.hid hr
        clear hr
        rintro ee w1 ⟨rfl, hb1⟩
        have hb2 := below_call hb hb1 hb.size
        have hm2 := madeE_later HMD0.out hb1
        obtain ⟨U, hU⟩ : ∃ U, l[k].a.eraseB = U := ⟨_, rfl⟩
        have HFI0 := Lib.hid (HFF.out _ (List.getElem_mem hlt))
        have HU := Lib.hid hU
        have HFI : Hid ((⟨U, l[k].i⟩ : En).fine) := by rw [← hU]; exact HFI0.out
        clear hb hb1 hU HMD0 HFI0
        generalize w1 = wr at hb2 hm2 ⊢
        obtain ⟨x0, x1, x2, x3, x4, x5⟩ := HX.out.below hb2 HX.out.lt
        have hmd : MadeE w.heap.size wr.drew vv ps := madeE_later hm2 (Below.drew (Below.refl _ _))
        have hkx : Kept w wr.drew := kept_drew hb2
        clear hm2
        go_wp2_with fail
        refine wp_region_held_drew (S := fun w' => Kept w w' ∧ w'.cell? ⟨b, o + k * 6, none⟩ = some (.int .i64 l[k].a.k) ∧ w'.cell? ⟨b, o + k * 6 + 1, none⟩ = some (.int .i64 l[k].a.i) ∧ w'.cell? ⟨b, o + k * 6 + 2, none⟩ = some (.int .i64 l[k].a.j) ∧ w'.cell? ⟨b, o + k * 6 + 3, none⟩ = some (.int .i64 l[k].a.n) ∧ w'.cell? ⟨b, o + k * 6 + 4, none⟩ = some ((.slice a' l[k].a.kids.length cap')) ∧ w'.cell? ⟨b, o + k * 6 + 5, none⟩ = some (.int .i64 l[k].i)) (by kernel_rfl) ?_ (fun hHeld => ?_)
        · (try dsimp only)
          (((with_reducible refine en_keep1 ?_ HX.out); repeat (first | with_reducible assumption | with_reducible refine kept_drew ?_ | with_reducible refine kept_alloc ?_ _)))
        generalize wr.drew = wx at hHeld hmd hkx ⊢
        have HMD := Lib.hid hmd
        have HKX := Lib.hid hkx
        clear hmd x0 x1 x2 x3 x4 x5
        refine take_at 0 15 pe0 (v := ?_) (Or.inl ⟨by rfl, ?_⟩) ?_
        rotate_left 1
        · ((intro w hSw; (try dsimp only at hSw); unfold pe0; go_simp) <;> with_reducible rfl)
        (try simp only [Act.put, List.setIfInBounds_toArray, List.set_cons_zero, List.set_cons_succ])
        refine take_at 1 16 pe1 (v := ?_) (Or.inl ⟨by rfl, ?_⟩) ?_
        rotate_left 1
        · ((intro w hSw; (try dsimp only at hSw); unfold pe1; go_simp) <;> with_reducible rfl)
        (try simp only [Act.put, List.setIfInBounds_toArray, List.set_cons_zero, List.set_cons_succ])
        refine take_at 2 17 pe2 (v := ?_) (Or.inl ⟨by rfl, ?_⟩) ?_
        rotate_left 1
        · ((intro w hSw; (try dsimp only at hSw); unfold pe2; go_simp) <;> with_reducible rfl)
        (try simp only [Act.put, List.setIfInBounds_toArray, List.set_cons_zero, List.set_cons_succ])
        refine take_at 3 18 pe3 (v := ?_) (Or.inl ⟨by rfl, ?_⟩) ?_
        rotate_left 1
        · ((intro w hSw; (try dsimp only at hSw); unfold pe3; go_simp) <;> with_reducible rfl)
        (try simp only [Act.put, List.setIfInBounds_toArray, List.set_cons_zero, List.set_cons_succ])
        refine take_at 4 19 pe4 (v := ?_) (Or.inl ⟨by rfl, ?_⟩) ?_
        rotate_left 1
        · ((intro w hSw; (try dsimp only at hSw); unfold pe4; go_simp) <;> with_reducible rfl)
        (try simp only [Act.put, List.setIfInBounds_toArray, List.set_cons_zero, List.set_cons_succ])
        refine take_at 5 20 pe5 (v := ?_) (Or.inl ⟨by rfl, ?_⟩) ?_
        rotate_left 1
        · ((intro w hSw; (try dsimp only at hSw); unfold pe5; go_simp) <;> with_reducible rfl)
        (try simp only [Act.put, List.setIfInBounds_toArray, List.set_cons_zero, List.set_cons_succ])
        refine take_at 7 22 pe7 (v := ?_) (Or.inl ⟨by rfl, ?_⟩) ?_
        rotate_left 1
        · ((intro w hSw; (try dsimp only at hSw); unfold pe7; go_simp) <;> with_reducible rfl)
        (try simp only [Act.put, List.setIfInBounds_toArray, List.set_cons_zero, List.set_cons_succ])
        refine take_at 8 23 pe8 (v := ?_) (Or.inl ⟨by rfl, ?_⟩) ?_
        rotate_left 1
        · ((intro w hSw; (try dsimp only at hSw); unfold pe8; go_simp) <;> with_reducible rfl)
        (try simp only [Act.put, List.setIfInBounds_toArray, List.set_cons_zero, List.set_cons_succ])
        refine take_at 9 24 pe9 (v := ?_) (Or.inl ⟨by rfl, ?_⟩) ?_
        rotate_left 1
        · ((intro w hSw; (try dsimp only at hSw); unfold pe9; go_simp) <;> with_reducible rfl)
        (try simp only [Act.put, List.setIfInBounds_toArray, List.set_cons_zero, List.set_cons_succ])
        refine take_at 10 25 pe10 (v := ?_) (Or.inl ⟨by rfl, ?_⟩) ?_
        rotate_left 1
        · ((intro w hSw; (try dsimp only at hSw); unfold pe10; go_simp) <;> with_reducible rfl)
        (try simp only [Act.put, List.setIfInBounds_toArray, List.set_cons_zero, List.set_cons_succ])
        refine take_at 11 26 pe11 (v := ?_) (Or.inl ⟨by rfl, ?_⟩) ?_
        rotate_left 1
        · ((intro w hSw; (try dsimp only at hSw); unfold pe11; go_simp) <;> with_reducible rfl)
        (try simp only [Act.put, List.setIfInBounds_toArray, List.set_cons_zero, List.set_cons_succ])
        refine wpAnyH_ready (rs := [6]) (by kernel_rfl) (by simp) ?_
        refine AllReadyH.cons (o := pe6) rfl (fun K hK => ?_) ?_
        · unfold pe6
          go_simp
          (go_at_call 47; have hS := hHeld.1; refine (refEraseT_any l[k].a _ _ (kept_lies hS HQ.out)).mono ?_; rw [HU.out]; rintro e w2 ⟨s2, rfl, hl2, hb2⟩; obtain ⟨a2, cap2, rfl, -, -⟩ := hl2.out; have hh := kept_call hS hb2; have HL2 := Lib.hid hl2; have HB2 := Lib.hid hb2; clear hl2 hb2 hS hHeld)
          refine hK.out _ _ ?_ (fun hHeld => ?_)
          · (try dsimp only)
            (((with_reducible refine en_keep1 ?_ HX.out); repeat (first | with_reducible assumption | with_reducible refine kept_drew ?_ | with_reducible refine kept_alloc ?_ _)))
          clear hK K
          (try simp only [Act.put, List.setIfInBounds_toArray, List.set_cons_zero, List.set_cons_succ])
          refine take_at 12 27 pe12 (v := ?_) (Or.inl ⟨by rfl, ?_⟩) ?_
          rotate_left 1
          · ((intro w hSw; (try dsimp only at hSw); unfold pe12; go_simp) <;> with_reducible rfl)
          (try simp only [Act.put, List.setIfInBounds_toArray, List.set_cons_zero, List.set_cons_succ])
          refine wpAnyH_ready (rs := [13]) (by kernel_rfl) (by simp) ?_
          refine AllReadyH.cons (o := pe13) rfl (fun K hK => ?_) ?_
          · unfold pe13
            go_simp
            refine hK.out _ _ ?_ (fun hHeld => ?_)
            · (try dsimp only)
              (((with_reducible refine en_keep1 ?_ HX.out); repeat (first | with_reducible assumption | with_reducible refine kept_drew ?_ | with_reducible refine kept_alloc ?_ _)))
            clear hK K
            (try simp only [Act.put, List.setIfInBounds_toArray, List.set_cons_zero, List.set_cons_succ])
            refine wpAnyH_ready (rs := [14]) (by kernel_rfl) (by simp) ?_
            refine AllReadyH.cons (o := pe14) rfl (fun K hK => ?_) ?_
            · unfold pe14
              refine step_append_lies _ rfl _ _ 22 rfl w.heap.size 38 i0 _ 6 64 (by kernel_rfl) HI.out.1 HI.out.2.1 HI.out.2.2.1 HI.out.2.2.2 rfl (by decide) _ ps.length (cells6 ps) rfl (madeE_later (madeE_later HMD.out HB2.out) ((Below.refl _ _).alloc (Nat.le_refl _) _)).own ⟨w2.heap.size, 0, none⟩ 1 1 (cells6 [((⟨U, l[k].i⟩ : En), .slice a2 U.kids.length cap2)]) rfl rfl (newsE _ _ _ _) (oneE _ _) (by decide) (by have := HPL.out; unfold maxLen; omega) (by have := HPL.out; omega) (by have := hh.size; simp; omega) _ rfl ?_
              intro g cap3 w3 hown hgrow hat hlt3
              have hkE : Kept w w3 := belowE_push HMD.out HKX.out HKX.out.size HB2.out _ hgrow
              clear hHeld
              refine hK.out _ _ ?_ (fun hHeld => ?_)
              · (try dsimp only)
                (((with_reducible refine en_keep1 ?_ HX.out); repeat (first | with_reducible assumption | with_reducible refine kept_drew ?_ | with_reducible refine kept_alloc ?_ _)))
              clear hK K
              (try simp only [Act.put, List.setIfInBounds_toArray, List.set_cons_zero, List.set_cons_succ])
              refine take_at 15 3 pe15 (v := ?_) (Or.inl ⟨by rfl, ?_⟩) ?_
              rotate_left 1
              · ((intro w hSw; (try dsimp only at hSw); unfold pe15; go_simp) <;> with_reducible rfl)
              (try simp only [Act.put, List.setIfInBounds_toArray, List.set_cons_zero, List.set_cons_succ])
              refine wpAnyH_done (by kernel_rfl) ?_ _
              clear hHeld
              have hat' := by simpa using hat
              have hMN := madeE_push HMD.out HFI.out HKX.out.size HB2.out HL2.out _ hown hgrow hat'
              go_wp2_with fail
              go_roundw
              case rel => exact ⟨k + 1, ps ++ [((⟨U, l[k].i⟩ : En), .slice a2 U.kids.length cap2)], _, rfl, hlt, by go_num, fun _ => HR.out, by have := hps.out; simp only [Hid]; rw [List.map_append, this, List.map_cons, List.map_nil, ← HU.out, show (⟨l[k].a.eraseB, l[k].i⟩ : En) = (l.map (fun e => (⟨e.a.eraseB, e.i⟩ : En)))[k]'(by simpa using hlt) by simp, List.take_append_getElem (by simpa using hlt)], hMN, hkE⟩
              case measure => simp [intOf]; omega
            exact AllReadyH.nil
          exact AllReadyH.nil
        exact AllReadyH.nil
    · obtain rfl : k = l.length := by omega
      have hres := ((madeE_lies HMD0.out))
      have hb0 := hb
      clear hb
      go_wp2_with fail
      go_ret
      refine ⟨_, rfl, ?_, hb0⟩
      have hps' := hps.out
      rw [List.take_of_length_le (by simp)] at hps'
      rw [hps'] at hres
      unfold eraseC
      cases hr : rightC l with
      | true => rw [if_pos rfl]; exact hres
      | false =>
        have h0 : l = [] := by
          rcases Nat.eq_zero_or_pos l.length with h | h
          · exact List.eq_nil_of_length_eq_zero h
          · have := hpos.out h; rw [hr] at this; cases this
        subst h0
        exact hres

end Go.Proofs.Ytjhdcjjoignioaa

/-! transhiplaw11.wakes: a context of two entries. -/
namespace Go.Proofs.Ytjhdcjjoignioaa
open Go.RowKit

def cW : List En := [⟨.mk 1 0 0 0 [], 1⟩, ⟨.mk 2 0 0 0 [], 0⟩]
theorem cW_right : rightC cW = true := by kernel_rfl
theorem cW_at : AtIs cW 0 (.mk 2 1 0 0 []) 0 true := .inl ⟨rfl, 0, by decide, rfl, cW_right, by kernel_rfl, rfl⟩
theorem cW_lies (w : World) : LiesE (w.alloc (.cells #[.int .i64 1, .int .i64 0, .int .i64 0, .int .i64 0, .slice none 0 0, .int .i64 1, .int .i64 2, .int .i64 0, .int .i64 0, .int .i64 0, .slice none 0 0, .int .i64 0] 38)) cW (.slice (some ⟨w.heap.size, 0, none⟩) 2 2) := by
  have key : ∀ o, (w.alloc (.cells #[.int .i64 1, .int .i64 0, .int .i64 0, .int .i64 0, .slice none 0 0, .int .i64 1, .int .i64 2, .int .i64 0, .int .i64 0, .int .i64 0, .slice none 0 0, .int .i64 0] 38)).cell? ⟨w.heap.size, o, none⟩ = (#[.int .i64 1, .int .i64 0, .int .i64 0, .int .i64 0, .slice none 0 0, .int .i64 1, .int .i64 2, .int .i64 0, .int .i64 0, .int .i64 0, .slice none 0 0, .int .i64 0] : Array Value)[o]? := fun o => by rw [World.cell?_alloc_at _ _ _ _ rfl]
  refine ⟨some ⟨w.heap.size, 0, none⟩, 2, fun _ => .slice none 0 0, rfl, by decide, by decide, ?_, ?_, ?_⟩
  · intro x hx
    simp only [cW, List.mem_cons, List.not_mem_nil, or_false] at hx
    rcases hx with rfl | rfl <;> refine ⟨⟨?_, ?_, ?_, ?_⟩, ?_⟩ <;> (unfold I64; exact ⟨by decide, by decide⟩)
  · intro i hi
    match i, hi with
    | 0, _ => exact ⟨_, 0, rfl, by rw [key]; rfl, by rw [key]; rfl, by rw [key]; rfl, by rw [key]; rfl, by rw [key]; rfl, by rw [key]; rfl⟩
    | 1, _ => exact ⟨_, 0, rfl, by rw [key]; rfl, by rw [key]; rfl, by rw [key]; rfl, by rw [key]; rfl, by rw [key]; rfl, by rw [key]; rfl⟩
  · intro i hi
    match i, hi with
    | 0, _ => exact (liesP_nil _ (fun _ => True)).lies
    | 1, _ => exact (liesP_nil _ (fun _ => True)).lies
theorem cW_deep : ∀ u ∈ cW, u.a.deep ≤ 100000 := by
  intro u hu
  simp only [cW, List.mem_cons, List.not_mem_nil, or_false] at hu
  rcases hu with rfl | rfl <;> (show _ ≤ 100000; decide)
theorem cW_strip : ∀ u ∈ cW, u.a.stripB.fine := by
  intro u hu
  simp only [cW, List.mem_cons, List.not_mem_nil, or_false] at hu
  rcases hu with rfl | rfl <;> (refine ⟨?_, ?_, ?_, ?_⟩ <;> (unfold I64; exact ⟨by decide +kernel, by decide +kernel⟩))
theorem cW_erase : ∀ u ∈ cW, (⟨u.a.eraseB, u.i⟩ : En).fine := by
  intro u hu
  simp only [cW, List.mem_cons, List.not_mem_nil, or_false] at hu
  rcases hu with rfl | rfl <;> (refine ⟨⟨?_, ?_, ?_, ?_⟩, ?_⟩ <;> (unfold I64; exact ⟨by decide +kernel, by decide +kernel⟩))
set_option maxRecDepth 20000 in
set_option maxHeartbeats 2000000 in
theorem wakes11_any (w : World) : Calls Try.prog 14 #[] w fun e w' => e = .returned (.bool true) ∧ Below w.heap.size w w' := by
  go_enter Try.func14, Try.ntmps14
  go_wp2_with fail
  have HL := Lib.hid (cW_lies w)
  have hb0 : Below w.heap.size w (w.alloc (.cells #[.int .i64 1, .int .i64 0, .int .i64 0, .int .i64 0, .slice none 0 0, .int .i64 1, .int .i64 2, .int .i64 0, .int .i64 0, .int .i64 0, .slice none 0 0, .int .i64 0] 38)) := (Below.refl _ _).alloc (Nat.le_refl _) _
  refine (ctxat_any cW 0 _ _ _ _ _ HL.out cW_at (by decide) cW_deep).mono ?_
  generalize w.alloc (.cells #[.int .i64 1, .int .i64 0, .int .i64 0, .int .i64 0, .slice none 0 0, .int .i64 1, .int .i64 2, .int .i64 0, .int .i64 0, .int .i64 0, .slice none 0 0, .int .i64 0] 38) = V at HL hb0 ⊢
  rintro e w1 ⟨s1, rfl, hl1, hb1⟩
  have hl1V := HL.out.keep hb1
  obtain ⟨a1, cap1, rfl, -, -⟩ := hl1.out
  have h1 := below_call hb0 hb1 hb0.size
  simp only [tv, Tm.k, Tm.i, Tm.j, Tm.n, Tm.kids, List.length_nil]
  have hA : ∀ wx, Below w1.heap.size w1 wx → True := fun _ _ => trivial
  clear hA hl1 hb1
  go_wp2_with fail
  have hn := alloc_new w1 (.cells #[.int .i64 2, .int .i64 1, .int .i64 0, .int .i64 0, .slice a1 0 cap1] 26)
  have h2 : Below w.heap.size w (w1.alloc (.cells #[.int .i64 2, .int .i64 1, .int .i64 0, .int .i64 0, .slice a1 0 cap1] 26)) := h1.alloc h1.size _
  have hlV : LiesE (w1.alloc (.cells #[.int .i64 2, .int .i64 1, .int .i64 0, .int .i64 0, .slice a1 0 cap1] 26)) cW (.slice (some ⟨w.heap.size, 0, none⟩) 2 2) := hl1V.keep ((Below.refl _ _).alloc (Nat.le_refl _) _)
  obtain ⟨g, hg⟩ : ∃ g, w1.heap.size = g := ⟨_, rfl⟩
  rw [hg] at hn
  (try rw [hg])
  refine (ctxright_any cW _ _ hlV).mono ?_
  generalize w1.alloc (.cells #[.int .i64 2, .int .i64 1, .int .i64 0, .int .i64 0, .slice a1 0 cap1] 26) = V2 at hn h2 hlV ⊢
  rw [cW_right]
  rintro e w2 ⟨rfl, hb2⟩
  have hn2 := (hb2.block g (block_lt hn)).trans hn
  obtain ⟨c0, c1, c2, c3, c4⟩ := five_cells hn2
  have h3 := below_call h2 hb2 h2.size
  have hl2 := hlV.keep hb2
  clear hb2 hn h2 hlV h1 hg hn2
  go_wp2_with fail
  refine (ctxplain_any cW _ _ hl2 (by decide) cW_strip).mono ?_
  rw [cW_right]
  rintro e w3 ⟨s3, rfl, hl3, hb3⟩
  obtain ⟨a3, cap3, rfl, -, -⟩ := hl3.out
  have h4 := below_call h3 hb3 h3.size
  have hl4 := hl2.keep hb3
  clear hl3 hb3 hl2 h3 c0 c1 c2 c3 c4
  go_wp2_with fail
  refine (ctxerase_any cW _ _ hl4 (by decide) cW_erase).mono ?_
  rw [cW_right]
  rintro e w4 ⟨s5, rfl, hl5, hb5⟩
  obtain ⟨a5, cap5, S5, rfl, -⟩ := hl5.out
  have h5 := below_call h4 hb5 h4.size
  clear hl5 hb5 hl4 h4
  go_wp2
  go_ret
  exact ⟨rfl, h5⟩
end Go.Proofs.Ytjhdcjjoignioaa
