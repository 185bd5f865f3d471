/-
  CtxExact holds: for every input the call returns true, and the arguments read as before. No condition.
-/
import Derived.Test.YtjhdcjjoignioaaPcC
import Derived.Test.YtjhdcjjoignioaaBox
import Derived.Test.YtjhdcjjoignioaaRows
import Derived.ProofKit
import Derived.OpenShut
import Derived.Carry
import Derived.Deep.Slices
import Derived.Test.YtjhdcjjoignioaaPcA
import Derived.ChangeSlices
import Derived.JoinedOf
/-! The walk of transhiplaw11.CtxExact. -/
namespace Go.Proofs.Ytjhdcjjoignioaa
open Go.RowKit

set_option maxRecDepth 20000 in
set_option maxHeartbeats 4000000 in
theorem ctxExact_any (l : List En) (k : Int) (w : World) (s : Value) (hl : LiesE w l s) : Calls Try.prog 3 #[s, .int .i64 k] w fun e w' => e = .returned (.bool true) ∧ Below w.heap.size w w' := by
  obtain ⟨a, cap, S, rfl, -⟩ := hl.out
  have HL := Lib.hid hl
  clear hl
  go_enter Try.func3, Try.ntmps3
  go_wp2_with fail
  refine (greatctx_any l 300 _ _ HL.out (by omega)).mono ?_
  rintro e w1 ⟨g, rfl, hg, hb1⟩
  have HG := Lib.hid hg
  clear hg
  cases g with
  | true =>
    go_wp2
    go_ret
    exact ⟨rfl, hb1⟩
  | false =>
    obtain ⟨hlen, hsz⟩ := HG.out rfl
    have HDD : Hid (∀ u ∈ l, u.a.deep ≤ 100000) := fun u hu => by have := (hsz u hu).2; omega
    have HLE := Lib.hid hlen
    obtain ⟨U, I, B, hA⟩ := atIs_ex l k
    have HA := Lib.hid hA
    clear HG hsz hA hlen
    go_wp2_with fail
    refine (ctxat_any l k _ _ U I B (HL.out.keep hb1) HA.out (by have := HLE.out; omega) HDD.out).mono ?_
    rintro e w2 ⟨s2, rfl, hl2, hb2⟩
    obtain ⟨a2, cap2, rfl, -, -⟩ := hl2.out
    have hlu := hl2.lies
    have hb02 := below_call hb1 hb2 hb1.size
    have hs12 := hb02.size
    clear hl2 hb2 hb1
    go_wp2_with fail
    have hn := alloc_new w2 (.cells #[.int .i64 U.k, .int .i64 U.i, .int .i64 U.j, .int .i64 U.n, .slice a2 U.kids.length cap2] 26)
    have hb03 : Below w.heap.size w (w2.alloc (.cells #[.int .i64 U.k, .int .i64 U.i, .int .i64 U.j, .int .i64 U.n, .slice a2 U.kids.length cap2] 26)) := hb02.alloc hb02.size _
    have hlu3 := hlu.keep (w' := w2.alloc (.cells #[.int .i64 U.k, .int .i64 U.i, .int .i64 U.j, .int .i64 U.n, .slice a2 U.kids.length cap2] 26)) ((Below.refl _ _).alloc (Nat.le_refl _) _)
    obtain ⟨g1, hg1⟩ : ∃ g, w2.heap.size = g := ⟨_, rfl⟩
    rw [hg1] at hn
    (try rw [hg1])
    refine (refctxat_any l k _ _ U I B (HL.out.keep hb03) HA.out (by have := HLE.out; omega) HDD.out).mono ?_
    generalize w2.alloc (.cells #[.int .i64 U.k, .int .i64 U.i, .int .i64 U.j, .int .i64 U.n, .slice a2 U.kids.length cap2] 26) = w3 at hn hb03 hlu3 ⊢
    rintro e w4 ⟨s4, rfl, hl4, hb4⟩
    obtain ⟨a4, cap4, rfl, -, -⟩ := hl4.out
    have hlv := hl4.lies
    have hb04 := below_call hb03 hb4 hb03.size
    have hn4 := (hb4.block g1 (block_lt hn)).trans hn
    have hlu4 := hlu3.keep hb4
    clear hl4 hb4 hb03 hn hlu3 hb02 hlu hg1
    go_wp2_with fail
    have hm := alloc_new w4 (.cells #[.int .i64 U.k, .int .i64 U.i, .int .i64 U.j, .int .i64 U.n, .slice a4 U.kids.length cap4] 26)
    have hb05 : Below w.heap.size w (w4.alloc (.cells #[.int .i64 U.k, .int .i64 U.i, .int .i64 U.j, .int .i64 U.n, .slice a4 U.kids.length cap4] 26)) := hb04.alloc hb04.size _
    have hxx : Below w4.heap.size w4 (w4.alloc (.cells #[.int .i64 U.k, .int .i64 U.i, .int .i64 U.j, .int .i64 U.n, .slice a4 U.kids.length cap4] 26)) := (Below.refl _ _).alloc (Nat.le_refl _) _
    have hlu5 := hlu4.keep hxx
    have hlv5 := hlv.keep hxx
    have hn5 := (hxx.block g1 (block_lt hn4)).trans hn4
    obtain ⟨g2, hg2⟩ : ∃ g, w4.heap.size = g := ⟨_, rfl⟩
    rw [hg2] at hm
    (try rw [hg2])
    refine (ctxright_any l _ _ (HL.out.keep hb05)).mono ?_
    generalize w4.alloc (.cells #[.int .i64 U.k, .int .i64 U.i, .int .i64 U.j, .int .i64 U.n, .slice a4 U.kids.length cap4] 26) = w5 at hm hb05 hlu5 hlv5 hn5 ⊢
    obtain ⟨rb, hrb⟩ : ∃ b, rightC l = b := ⟨_, rfl⟩
    rw [hrb]
    have HRB := Lib.hid hrb
    rintro e w6 ⟨rfl, hb6⟩
    have hb06 := below_call hb05 hb6 hb05.size
    have hm6 := (hb6.block g2 (block_lt hm)).trans hm
    have hn6 := (hb6.block g1 (block_lt hn5)).trans hn5
    have hlu6 := hlu5.keep hb6
    have hlv6 := hlv5.keep hb6
    clear hb6 hb05 hm hn5 hlu5 hlv5 hxx hn4 hlu4 hlv hb04 hg2 hrb
    go_wp2_with fail
    refine (refctxright_any l _ _ (HL.out.keep hb06)).mono ?_
    rw [HRB.out]
    rintro e w7 ⟨rfl, hb7⟩
    have hb07 := below_call hb06 hb7 hb06.size
    obtain ⟨c0, c1, c2, c3, c4⟩ := five_cells ((hb7.block g2 (block_lt hm6)).trans hm6)
    obtain ⟨d0, d1, d2, d3, d4⟩ := five_cells ((hb7.block g1 (block_lt hn6)).trans hn6)
    have hlu7 := hlu6.keep hb7
    have hlv7 := hlv6.keep hb7
    clear hb7 hb06 hm6 hn6 hlu6 hlv6
    cases rb <;> cases B
    all_goals
      go_wp2_with fail
      refine (keepsame_eq U _ _ _ hlu7 hlv7).mono ?_
      rintro e w8 ⟨rfl, hb8⟩
      have hb08 := below_call hb07 hb8 hb07.size
      go_wp2_with fail
      refine (wakes11_any _).mono ?_
      rintro e w9 ⟨rfl, hb9⟩
      have hb09 := below_call hb08 hb9 hb08.size
      go_wp2
      go_ret
      exact ⟨rfl, hb09⟩
end Go.Proofs.Ytjhdcjjoignioaa

/-! A term that is handed in, opened: it is a tree that lies in the world. -/
namespace Go.Proofs.Ytjhdcjjoignioaa
open Go.ChangeShapes Go.WideShapes Go.ChangeAt Go.RowKit

theorem own : ownKnob Try.prog.godebug = none := by kernel_rfl
theorem cells_int : Try.prog.cellsOf 3 = 1 := by kernel_rfl
theorem cells_kids : Try.prog.cellsOf 24 = 1 := by kernel_rfl
theorem cells_term : Try.prog.cellsOf 26 = 5 := by kernel_rfl
theorem laidOut : laidOutB Try.prog = true := by kernel_rfl

instance instOpenTm : Inhabited (Tm × Value) := ⟨(.mk 0 0 0 0 [], .nilIface)⟩

theorem list5 {α : Type} {l : List α} (h : l.length = 5) : ∃ a b c d e, l = [a, b, c, d, e] := by
  match l, h with
  | [a, b, c, d, e], _ => exact ⟨a, b, c, d, e, rfl⟩

theorem wf_I64 {x : Int} (h : (Lit.int .i64 x).wf = true) : I64 x := by
  simp [Lit.wf] at h
  have hm : IntKind.i64.min = -9223372036854775808 := by decide
  rw [hm] at h
  exact h

set_option maxRecDepth 100000 in
theorem open_term {H : Type} {enc : TypeId × Value → H} {w : World} {base : Nat} {sp : Nat → Bool} {hd : Bool} : ∀ (fuel : Nat) (cs : List Value) (x : DataW H × List MemPlace),
    DataW.trod enc Try.prog w base sp hd fuel 26 cs = some x → ∃ (t : Tm) (s : Value), cs = [.int .i64 t.k, .int .i64 t.i, .int .i64 t.j, .int .i64 t.n, s] ∧ t.fine ∧ Lies w t.kids s := by
  intro fuel
  induction fuel using Nat.strongRecOn with
  | _ fuel ih =>
    intro cs x h
    obtain ⟨xs, n, rfl, rfl, hl, hlen, hf⟩ := DataW.trod_struct Try.underlying26 h
    rw [cells_term] at hl
    obtain ⟨v0, v1, v2, v3, v4, rfl⟩ := list5 hl
    obtain ⟨y0, y1, y2, y3, y4, rfl⟩ := list5 hlen
    have g0 := hf 0 _ rfl
    have g1 := hf 1 _ rfl
    have g2 := hf 2 _ rfl
    have g3 := hf 3 _ rfl
    have g4 := hf 4 _ rfl
    simp [cells_int, cells_kids] at g0 g1 g2 g3 g4
    obtain ⟨k, e0, -, w0⟩ := DataW.trod_int Try.underlying3 g0
    obtain ⟨i, e1, -, w1⟩ := DataW.trod_int Try.underlying3 g1
    obtain ⟨j, e2, -, w2⟩ := DataW.trod_int Try.underlying3 g2
    obtain ⟨m, e3, -, w3⟩ := DataW.trod_int Try.underlying3 g3
    simp at e0 e1 e2 e3
    subst e0 e1 e2 e3
    rcases DataW.trod_slice Try.underlying24 g4 with ⟨e4, -⟩ | ⟨a, len, cap, elems, rest, n', rfl, e4, -, hb, hlc, hm, hlen', hel, -, -⟩
    · simp at e4
      subst e4
      exact ⟨.mk k i j m [], _, rfl, ⟨wf_I64 w0, wf_I64 w1, wf_I64 w2, wf_I64 w3⟩, .mk [] none 0 (fun _ => .nilIface) (Nat.le_refl _) (by decide) (fun _ h => by cases h) (fun _ h => by cases h) (fun _ h => by cases h)⟩
    · simp at e4
      subst e4
      have key : ∀ i, i < len → ∃ p : Tm × Value, p.1.fine ∧ Lies w p.1.kids p.2 ∧ ∃ b o, a = ⟨b, o, none⟩ ∧ Node w b (o + i * 5) p.1 p.2 := by
        intro i hi
        have h1 := hel i hi
        rw [cells_term, List.getElem?_eq_getElem (by omega)] at h1
        obtain ⟨cs', h2, h3⟩ := Option.bind_eq_some_iff.1 h1
        obtain ⟨t, s, rfl, hfine, hlies⟩ := ih n' (by omega) _ _ h3
        obtain ⟨-, -, hcell⟩ := World.cells?_some h2
        have hs0 : a.spot = none := by
          have h1 := hel 0 (by omega)
          rw [cells_term, List.getElem?_eq_getElem (by omega)] at h1
          obtain ⟨cs0, h2, -⟩ := Option.bind_eq_some_iff.1 h1
          obtain ⟨-, hl0, hc0⟩ := World.cells?_some h2
          have c0 := hc0 0 (by omega)
          rw [List.getElem?_eq_getElem (by omega)] at c0
          simpa [Addr.add] using World.cell?_spot c0
        obtain ⟨b, o, spot⟩ := a
        simp only at hs0
        subst hs0
        refine ⟨(t, s), hfine, hlies, b, o, rfl, ?_⟩
        have hc : ∀ q, q < 5 → w.cell? ⟨b, o + i * 5 + q, none⟩ = [Value.int .i64 t.k, .int .i64 t.i, .int .i64 t.j, .int .i64 t.n, s][q]? := fun q hq => by
          have := hcell q hq
          rwa [add_plain, add_plain] at this
        exact ⟨hc 0 (by omega), hc 1 (by omega), hc 2 (by omega), hc 3 (by omega), hc 4 (by omega)⟩
      obtain ⟨f, hf'⟩ := Go.Deep.choose_lt (α := Tm × Value) (p := fun i p => p.1.fine ∧ Lies w p.1.kids p.2 ∧ ∃ b o, a = ⟨b, o, none⟩ ∧ Node w b (o + i * 5) p.1 p.2) key
      have hl5 : ((List.range len).map fun i => (f i).1).length = len := by simp
      refine ⟨.mk k i j m ((List.range len).map fun i => (f i).1), _, rfl, ⟨wf_I64 w0, wf_I64 w1, wf_I64 w2, wf_I64 w3⟩, ?_⟩
      have := Lies.mk (w := w) ((List.range len).map fun i => (f i).1) (some a) cap (fun i => (f i).2) (by simpa using hlc) hm
        (fun x hx => by
          obtain ⟨i, hi, rfl⟩ := List.mem_map.1 hx
          exact (hf' i (List.mem_range.1 hi)).1)
        (fun i hi => by
          obtain ⟨b, o, ha, hn⟩ := (hf' i (by simpa using hi)).2.2
          exact ⟨b, o, by rw [ha], by simpa using hn⟩)
        (fun i hi => by simpa using (hf' i (by simpa using hi)).2.1)
      rwa [hl5] at this
set_option maxRecDepth 100000 in
/-- The same for an argument. -/
theorem open_arg {H : Type} {enc : TypeId × Value → H} {W : World} {r : Reach} {b0 base : Nat} {sp : Nat → Bool} {hd : Bool} {v : Value} {d : DataW H} {p : List MemPlace} (hv : Value.okWide Try.prog W r b0 26 v)
    (h : DataW.Trod enc Try.prog W base sp hd 26 v d p) : ∃ (t : Tm) (s : Value), Lies W t.kids s ∧ v = tv t s := by
  obtain ⟨cs, rfl, hsz⟩ := okWide_struct Try.underlying26 hv
  obtain ⟨fuel, hf⟩ := h
  obtain ⟨t, s, hcs, -, hl⟩ := open_term fuel _ _ hf
  refine ⟨t, s, hl, ?_⟩
  have : cs.toList = [.int .i64 t.k, .int .i64 t.i, .int .i64 t.j, .int .i64 t.n, s] := by simpa [Value.cells] using hcs
  rw [show cs = #[.int .i64 t.k, .int .i64 t.i, .int .i64 t.j, .int .i64 t.n, s] from by cases cs; simp_all]

end Go.Proofs.Ytjhdcjjoignioaa

/-! Entries that are handed in, opened. -/
namespace Go.Proofs.Ytjhdcjjoignioaa
open Go.ChangeShapes Go.WideShapes Go.ChangeAt Go.RowKit

theorem cells_entry : Try.prog.cellsOf 38 = 6 := by kernel_rfl
instance instOpenEn : Inhabited (En × Value) := ⟨(⟨.mk 0 0 0 0 [], 0⟩, .nilIface)⟩
theorem list6 {α : Type} {l : List α} (h : l.length = 6) : ∃ a b c d e f, l = [a, b, c, d, e, f] := by
  match l, h with
  | [a, b, c, d, e, f], _ => exact ⟨a, b, c, d, e, f, rfl⟩
theorem list2 {α : Type} {l : List α} (h : l.length = 2) : ∃ a b, l = [a, b] := by
  match l, h with
  | [a, b], _ => exact ⟨a, b, rfl⟩

set_option maxRecDepth 100000 in
theorem open_entry {H : Type} {enc : TypeId × Value → H} {w : World} {base : Nat} {sp : Nat → Bool} {hd : Bool} (fuel : Nat) (cs : List Value) (x : DataW H × List MemPlace)
    (h : DataW.trod enc Try.prog w base sp hd fuel 38 cs = some x) : ∃ (e : En) (s : Value), cs = [.int .i64 e.a.k, .int .i64 e.a.i, .int .i64 e.a.j, .int .i64 e.a.n, s, .int .i64 e.i] ∧ e.fine ∧ Lies w e.a.kids s := by
  obtain ⟨xs, n, rfl, rfl, hl, hlen, hf⟩ := DataW.trod_struct Try.underlying38 h
  rw [cells_entry] at hl
  obtain ⟨v0, v1, v2, v3, v4, v5, rfl⟩ := list6 hl
  obtain ⟨y0, y1, rfl⟩ := list2 hlen
  have g0 := hf 0 _ rfl
  have g1 := hf 1 _ rfl
  simp [cells_int, cells_term] at g0 g1
  obtain ⟨t, s, hcs, hfine, hlies⟩ := open_term n _ _ g0
  obtain ⟨i, e1, -, w1⟩ := DataW.trod_int Try.underlying3 g1
  simp at e1 hcs
  subst e1
  obtain ⟨rfl, rfl, rfl, rfl, rfl⟩ := hcs
  exact ⟨⟨t, i⟩, v4, rfl, ⟨hfine, wf_I64 w1⟩, hlies⟩

set_option maxRecDepth 100000 in
theorem open_argE {H : Type} {enc : TypeId × Value → H} {w : World} {r : Reach} {b0 base : Nat} {sp : Nat → Bool} {hd : Bool} {v : Value} {d : DataW H} {p : List MemPlace} (hv : Value.okWide Try.prog w r b0 22 v)
    (h : DataW.Trod enc Try.prog w base sp hd 22 v d p) : ∃ l : List En, LiesE w l v := by
  obtain ⟨a0, len0, cap0, rfl⟩ := okWide_slice Try.underlying22 hv
  obtain ⟨fuel, hf⟩ := h
  rcases DataW.trod_slice Try.underlying22 hf with ⟨e4, -⟩ | ⟨a, len, cap, elems, rest, n', rfl, e4, -, hb, hlc, hm, hlen', hel, -, -⟩
  · simp [Value.cells] at e4
    obtain ⟨rfl, rfl, rfl⟩ := e4
    exact ⟨[], liesE_nil _⟩
  · simp [Value.cells] at e4
    obtain ⟨rfl, rfl, rfl⟩ := e4
    have key : ∀ i, i < len0 → ∃ p : En × Value, p.1.fine ∧ Lies w p.1.a.kids p.2 ∧ ∃ b o, a = ⟨b, o, none⟩ ∧ ENode w b (o + i * 6) p.1 p.2 := by
      intro i hi
      have h1 := hel i hi
      rw [cells_entry, List.getElem?_eq_getElem (by omega)] at h1
      obtain ⟨cs', h2, h3⟩ := Option.bind_eq_some_iff.1 h1
      obtain ⟨t, s, rfl, hfine, hlies⟩ := open_entry n' _ _ h3
      obtain ⟨-, -, hcell⟩ := World.cells?_some h2
      have hs0 : a.spot = none := by
        have h1 := hel 0 (by omega)
        rw [cells_entry, List.getElem?_eq_getElem (by omega)] at h1
        obtain ⟨cs0, h2, -⟩ := Option.bind_eq_some_iff.1 h1
        obtain ⟨-, hl0, hc0⟩ := World.cells?_some h2
        have c0 := hc0 0 (by omega)
        rw [List.getElem?_eq_getElem (by omega)] at c0
        simpa [Addr.add] using World.cell?_spot c0
      obtain ⟨b, o, spot⟩ := a
      simp only at hs0
      subst hs0
      refine ⟨(t, s), hfine, hlies, b, o, rfl, ?_⟩
      have hc : ∀ q, q < 6 → w.cell? ⟨b, o + i * 6 + q, none⟩ = [Value.int .i64 t.a.k, .int .i64 t.a.i, .int .i64 t.a.j, .int .i64 t.a.n, s, .int .i64 t.i][q]? := fun q hq => by
        have := hcell q hq
        rwa [add_plain, add_plain] at this
      exact ⟨hc 0 (by omega), hc 1 (by omega), hc 2 (by omega), hc 3 (by omega), hc 4 (by omega), hc 5 (by omega)⟩
    obtain ⟨f, hf'⟩ := Go.Deep.choose_lt (α := En × Value) (p := fun i p => p.1.fine ∧ Lies w p.1.a.kids p.2 ∧ ∃ b o, a = ⟨b, o, none⟩ ∧ ENode w b (o + i * 6) p.1 p.2) key
    have hl5 : ((List.range len0).map fun i => (f i).1).length = len0 := by simp
    refine ⟨(List.range len0).map fun i => (f i).1, some a, cap0, (fun i => (f i).2), by rw [hl5], by simpa using hlc, hm, ?_, ?_, ?_⟩
    · intro x hx
      obtain ⟨i, hi, rfl⟩ := List.mem_map.1 hx
      exact (hf' i (List.mem_range.1 hi)).1
    · intro i hi
      obtain ⟨b, o, ha, hn⟩ := (hf' i (by simpa using hi)).2.2
      exact ⟨b, o, by rw [ha], by simpa using hn⟩
    · intro i hi
      simpa using (hf' i (by simpa using hi)).2.1
end Go.Proofs.Ytjhdcjjoignioaa

/-! The words of the cut's first line: the facts of a row that ask for them, each made once for all rows of the seat. -/
namespace Go.Proofs.Ytjhdcjjoignioaa
open Go.ChangeShapes Go.WideShapes

def code (l : List Nat) : List Char := l.map Char.ofNat
def joinN : List (List Nat) → List Nat
  | [] => []
  | [a] => a
  | a :: b :: r => a ++ 32 :: joinN (b :: r)

theorem words_one : ∀ a : List Nat, (a.all fun n => Char.ofNat n != Char.ofNat 32) = true → wordsSigns (code a) = [code a]
  | [], _ => rfl
  | n :: a, h => by
    simp only [List.all_cons, Bool.and_eq_true, bne_iff_ne] at h
    have ih := words_one a h.2
    show wordsSigns (Char.ofNat n :: code a) = _
    rw [wordsSigns]
    · rw [ih]; rfl
    · exact h.1
theorem words_more : ∀ (a : List Nat) (r : List Char), (a.all fun n => Char.ofNat n != Char.ofNat 32) = true → wordsSigns (code a ++ Char.ofNat 32 :: r) = code a :: wordsSigns r
  | [], r, _ => by
    show wordsSigns (Char.ofNat 32 :: r) = _
    rw [show Char.ofNat 32 = _ from rfl, wordsSigns]; rfl
  | n :: a, r, h => by
    simp only [List.all_cons, Bool.and_eq_true, bne_iff_ne] at h
    have ih := words_more a r h.2
    show wordsSigns (Char.ofNat n :: (code a ++ Char.ofNat 32 :: r)) = _
    rw [wordsSigns]
    · rw [ih]; rfl
    · exact h.1
theorem words_join : ∀ ws : List (List Nat), ws ≠ [] → (ws.all fun w => w.all fun n => Char.ofNat n != Char.ofNat 32) = true → wordsSigns (code (joinN ws)) = ws.map code
  | [], h, _ => absurd rfl h
  | [a], _, h => by simp only [List.all_cons, List.all_nil, Bool.and_true] at h; exact words_one a h
  | a :: b :: r, _, h => by
    have h' := h
    rw [List.all_cons, Bool.and_eq_true] at h'
    have ih := words_join (b :: r) (by simp) h'.2
    show wordsSigns (code (a ++ 32 :: joinN (b :: r))) = _
    rw [show code (a ++ 32 :: joinN (b :: r)) = code a ++ Char.ofNat 32 :: code (joinN (b :: r)) from by simp [code], words_more a _ h'.1, ih]; rfl

def cutWords : List (List Nat) := [[104, 97, 114, 110, 101, 115, 115],
  [56, 98, 52, 56, 53, 53, 52, 102, 48, 102, 100, 100, 54, 98, 54, 50, 98, 49, 55, 50, 99, 99, 54, 51, 101, 55, 101, 53, 99, 55, 54, 51, 52, 51, 101, 97, 100, 97, 56, 57, 55, 102, 48, 98, 52, 98, 97, 56, 51, 101, 98, 49, 49, 99, 48, 51, 99, 52, 55, 53, 51, 52, 102, 53],
  [99, 117, 116],
  [97, 116],
  [116, 114, 97, 110, 115, 104, 105, 112, 47, 116, 114, 97, 110, 115, 104, 105, 112, 108, 97, 119, 49, 49, 46, 67, 116, 120, 69, 120, 97, 99, 116],
  [116, 114, 97, 110, 115, 104, 105, 112, 47, 116, 114, 97, 110, 115, 104, 105, 112, 108, 97, 119, 49, 49, 46, 67, 116, 120, 70, 111, 114, 109, 115],
  [116, 114, 97, 110, 115, 104, 105, 112, 47, 116, 114, 97, 110, 115, 104, 105, 112, 108, 97, 119, 49, 49, 46, 67, 116, 120, 65, 100, 100, 115],
  [116, 114, 97, 110, 115, 104, 105, 112, 47, 116, 114, 97, 110, 115, 104, 105, 112, 108, 97, 119, 49, 49, 46, 67, 116, 120, 83, 97, 109, 101],
  [116, 114, 97, 110, 115, 104, 105, 112, 47, 116, 114, 97, 110, 115, 104, 105, 112, 108, 97, 119, 49, 50, 46, 68, 101, 114, 105, 118, 80, 97, 116, 104, 115]]

set_option maxRecDepth 100000 in
theorem cut_words : wordsSigns Try.prog.initOrder.toList = cutWords.map code := by
  have h : Try.prog.initOrder.toList = code (joinN cutWords) := by
    show (String.ofList (code (joinN cutWords))).toList = _
    exact String.toList_ofList
  rw [h]
  exact words_join cutWords (by simp [cutWords]) (by decide +kernel)

theorem cut_behind : behindMainWord (cutWords.map code) = code [99, 117, 116] :: cutWords.tail.tail.tail.map code := by kernel_rfl
theorem cut_lifts : stripLifts liftWords (code [99, 117, 116] :: cutWords.tail.tail.tail.map code) = ([], code [99, 117, 116] :: cutWords.tail.tail.tail.map code) := by kernel_rfl
theorem cut1 : (code [99, 117, 116] == "gc".toList) = false := by kernel_rfl
theorem cut2 : (code [99, 117, 116] == "spec".toList) = false := by kernel_rfl
theorem cut3 : (code [99, 117, 116] == "cut".toList) = true := by kernel_rfl
theorem cut_all : behindMainWord (wordsSigns Try.prog.initOrder.toList) = code [99, 117, 116] :: cutWords.tail.tail.tail.map code := by rw [cut_words, cut_behind]
theorem make_of (P : Program) {c : List Char} {rest : List (List Char)} (h : behindMainWord (wordsSigns P.initOrder.toList) = c :: rest) (h1 : (c == "gc".toList) = false) (h2 : (c == "spec".toList) = false) (h3 : (c == "cut".toList) = true) : P.make = some .cut := by
  unfold Program.make; rw [h]
  simp only [h1, h2, h3, Bool.or_self, Bool.false_eq_true, if_false, Bool.true_or, if_true]
theorem mayEnter_of (P : Program) {c : List Char} {rest : List (List Char)} (h : behindMainWord (wordsSigns P.initOrder.toList) = c :: rest) (h3 : ((stripLifts liftWords (c :: rest)).2.head? == some "cut".toList) = true)
    (h4 : (stripLifts liftWords (c :: rest)).1 = []) (h5 : P.laysLater = false) (h6 : P.bearsReflect = false) (h7 : P.doorFits [] = true) : P.mayEnter = true := by
  unfold Program.mayEnter; rw [h]
  refine Bool.or_eq_true_iff.2 (Or.inr ?_)
  rw [h3, h4, h5, h6, h7]; rfl
theorem row_make : Try.prog.make = some .cut := make_of Try.prog cut_all cut1 cut2 cut3
theorem row_mayEnter : Try.prog.mayEnter = true := mayEnter_of Try.prog cut_all (by rw [cut_lifts]; kernel_rfl) (by rw [cut_lifts]) (by kernel_rfl) (by kernel_rfl) (by kernel_rfl)
theorem row_lifts : Try.prog.liftsFinal = false := by unfold Program.liftsFinal Program.headLifts; rw [cut_all, cut_lifts]; kernel_rfl
end Go.Proofs.Ytjhdcjjoignioaa

/-! CtxExact holds: for every input the call returns true, and the arguments read as before. The walk of the Go text is in the texts that this one imports; no condition. -/
namespace Go.Proofs.Ytjhdcjjoignioaa.lawCtxExact
open Go.ChangeShapes Go.WideShapes Go.ChangeAt Go.RowKit

set_option maxRecDepth 100000 in
theorem lifted (os : Os) (started : os.Started) (H : Type) (enc : TypeId × Value → H) :
    ReturnsInHanded {} Try.checked os 3 .any (Rows.ctxExactSpec.pre6 enc Try.prog Try.f3 Rows.ctxExactRow.domain false) (Rows.ctxExactSpec.post enc Try.prog Try.f3 false true false false) := by
  refine returnsInHanded_of_change (C := Try.checked) own started (by kernel_rfl) Try.func3
    (ChangeSpec.witness6 (enc := enc) (C := Try.checked) false ⟨#[], #[.slice none 0 0, .int .i64 0], []⟩ 8 (by kernel_rfl) (by kernel_rfl) (by kernel_rfl) (by kernel_rfl)) ?_
  intro W base args ds gs before hval0 hW hcnd _
  have hval : ∀ (j : Nat) t v, Try.f3.params[j]? = some t → args[j]? = some v → Value.okWide Try.prog W .any base t v := hval0
  have hW' := hW
  obtain ⟨p, q, hA0, hV, rfl, hfz, hnd⟩ := hW
  have hA : DataW.TrodAll enc Try.prog W 0 (fun _ => true) true Try.f3.params.toList args.toList ds p := hA0
  rw [Try.params3] at hA hval
  obtain ⟨v0, vs0, d0, ds0, p0, q0, hargs0, rfl, rfl, h0, r0⟩ := trodAll_cons hA
  obtain ⟨v1, vs1, d1, ds1, p1, q1, hargs1, rfl, rfl, h1, r1⟩ := trodAll_cons r0
  obtain ⟨rfl, rfl, rfl⟩ := trodAll_nil r1
  obtain rfl : args = #[v0, v1] := by cases args; simp_all
  obtain ⟨rfl, rfl⟩ := trodVars_none hV
  have h0k := h0
  have hlt0 : ∀ x ∈ p0, x.block < W.heap.size := fun x hx => by have := hW'.lt x (by simp [hx]); simpa using this
  obtain ⟨l0, hl0⟩ := open_argE (hval 0 22 v0 rfl rfl) h0
  obtain ⟨a1, rfl, rfl, rfl, w1⟩ := open_int Try.underlying3 (hval 1 3 v1 rfl rfl) h1
  clear hA0 hval0
  simp only [List.append_nil] at hW'
  refine (ctxExact_any l0 a1 W v0 hl0).mono fun e W' ⟨he, hb⟩ => ?_
  subst he
  exact ⟨_, rfl, _, _, _, [], _, [], hW', trodAll_cons_mk (shut_bool Try.underlying4 _) trodAll_mk0, (trodAll_cons_mk (Below.trod laidOut (by kernel_rfl) (of_decide_eq_true (by kernel_rfl)) h0k hb hlt0) (trodAll_cons_mk (shut_int Try.underlying3 w1) trodAll_mk0)), rfl, hb.frame _, fun h => by cases h⟩

theorem closed : joinedFacts Try.prog 3 Try.f3 Rows.ctxExactSpec Rows.ctxExactRow = true := by
  unfold joinedFacts
  rw [row_mayEnter, row_lifts, row_make]
  kernel_rfl

theorem proved : Rows.CtxExactSaid :=
  OpenClaim.holds_of_wide 3 Try.f3 rfl rfl rfl rfl rfl rfl rfl ⟨rfl, rfl, rfl, rfl, rfl⟩ rfl rfl rfl rfl rfl (by kernel_rfl) Try.func3 closed
    (of_decide_eq_true (by kernel_rfl)) (by unfold Func.isWrapper; first | (rw [if_pos (by decide +kernel)]; kernel_rfl) | (rw [if_neg (by decide +kernel)]; exact ⟨rfl, rfl⟩))
    (fun os started H enc _ => lifted os started H enc)
#print axioms proved
end Go.Proofs.Ytjhdcjjoignioaa.lawCtxExact
