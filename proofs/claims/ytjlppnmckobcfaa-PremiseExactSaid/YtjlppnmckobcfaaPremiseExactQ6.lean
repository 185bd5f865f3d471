/-
  Facts and contracts that the proof of PremiseExact uses.
-/
import Derived.Test.YtjlppnmckobcfaaRows
import Derived.WalkKit
import Derived.Lib.Hide
import Derived.KernelRfl
import Derived.Deep.RegionWith
import Derived.Deep.RegionHeld3
import Derived.Deep.AppendLies
import Derived.Laws.Rows
import Derived.Laws.IdiomCopy
import Derived.Deep.Slices
import Derived.Deep.QuietTactic
import Derived.BigQuiet
import Derived.Lib.QuietBelow
import Derived.StillTailTactics
import Derived.IntWalk
import Derived.OwnWalk
import Derived.OrdersHeld
import Derived.Deep.DeepCutAuto
import Derived.Deep.RegionLaw
import Derived.Deep.LoopGhost
import Derived.Deep.MidRow
import Derived.Laws.Tables
import Derived.Laws.CopyOwn
import Derived.Laws.CopyRow
import Derived.Deep.RegionHeld
import Derived.ProofKit
import Derived.OpenShut
import Derived.Carry
import Derived.ChangeSlices
import Derived.JoinedOf
import Derived.Test.YtjlppnmckobcfaaPremiseExactQ5
namespace Go.Proofs.Ytjlppnmckobcfaa
open Go.RowKit

/-- A context is handed back in a row that begins a block. -/
def GivesA (l : List En) (w : World) (e : Ending) (w' : World) : Prop := ∃ g cap : Nat, e = .returned (.slice (some ⟨g, 0, none⟩) l.length cap) ∧ LiesE w' l (.slice (some ⟨g, 0, none⟩) l.length cap) ∧ Kept w w'
theorem level11K (n : Int) (w : World) : Calls Try.prog 49 #[.int .i64 n] w fun e w' => e = .returned (.bool (lvB n)) ∧ Kept w w' := (level11_any n w).mono (fun _ _ h => ⟨h.1, by rw [← h.2]; exact kept_refl _⟩)
theorem zero_same (t : Tm) : sameB t .zero = ((t.k == 0) && ((t.i == 0) && ((t.j == 0) && ((t.n == 0) && ((t.kids.length : Int) == 0))))) := by
  rw [Bool.eq_iff_iff, sameB_iff]
  simp only [Bool.and_eq_true, beq_iff_eq]
  constructor
  · rintro rfl; exact ⟨rfl, rfl, rfl, rfl, rfl⟩
  · rintro ⟨h1, h2, h3, h4, h5⟩
    have h6 : t.kids = [] := List.eq_nil_of_length_eq_zero (by omega)
    rw [← t.eta, h1, h2, h3, h4, h6]; rfl
set_option maxHeartbeats 2000000 in
theorem keepzero_any (t : Tm) (w : World) (s : Value) (hl : Lies w t.kids s) : Calls Try.prog 13 #[tv t s] w fun e w' => e = .returned (.bool (sameB t .zero)) ∧ Below w.heap.size w w' := by
  obtain ⟨a, cap, S, rfl, -⟩ := hl.out
  rw [zero_same]
  clear hl
  unfold tv
  generalize t.k = k, t.i = i, t.j = j, t.n = n, t.kids.length = m
  go_enter Try.func13, Try.ntmps13
  go_wp2
  all_goals go_ret
  all_goals exact ⟨ret_bool (by (try simp only [beq_iff_eq, beq_eq_false_iff_ne, ne_eq] at *); (simp [*] <;> omega)), (Below.refl _ _).alloc (Nat.le_refl _) _⟩
theorem right_sort_eq {t : Tm} (h : t.markedB = true) (hk : t.k = 1) : t = .mk 1 t.i 0 0 [] := by
  have h1 := h
  rw [Tm.markedB_eq, Bool.and_eq_true, Bool.and_eq_true, Tm.nodeB, Bool.and_eq_true] at h1
  have h2 := h1.2.1
  rw [Bool.and_eq_true] at h2
  obtain ⟨h3, h4⟩ := h2
  rw [hk] at h3 h4
  have h0 : t.kids = [] := (by simp [kidsN] at h3; exact h3)
  simp [numbersN] at h4
  rw [← t.eta, hk, h4.2.1, h4.2.2, h0]; rfl
/-- Of a pure term: the page's test of a type is the program's. -/
theorem ts_os {x : Tm} {i : Int} (h : x.pureB = true) : (decide (1 ≤ i) && sameB x (.mk 1 (i - 1) 0 0 [])) = osB x i := by
  rw [Bool.eq_iff_iff]
  unfold osB
  simp only [Bool.and_eq_true, decide_eq_true_eq, sameB_iff, beq_iff_eq]
  constructor
  · rintro ⟨h1, rfl⟩; exact ⟨rfl, by show i = i - 1 + 1; omega⟩
  · rintro ⟨h1, h2⟩
    have h3 := right_sort_eq (pure_marked h) h1
    have h4 := (pure_range h).1
    refine ⟨by omega, ?_⟩
    rw [show i - 1 = x.i by omega]
    exact h3

set_option maxRecDepth 20000 in
set_option maxHeartbeats 4000000 in
theorem refpurectx_any (l : List En) (w : World) (s : Value) (hl : LiesE w l s) (hsz : ∀ e ∈ l, e.a.size ≤ 1000000) : Calls Try.prog 28 #[s] w fun e w' => e = .returned (.bool (purC l)) ∧ Below w.heap.size w w' := by
  obtain ⟨a, cap, S, rfl, hc, hmx, -, hn, hk⟩ := hl.out
  unfold maxLen at hmx
  have HL := Lib.hid hl
  have HN := Lib.hid hn
  have HK := Lib.hid hk
  have HSZ := Lib.hid hsz
  clear hn hk hl hsz
  go_enter Try.func28, Try.ntmps28
  go_wp2
  go_loopw [3] (fun iv wr => ∃ k : Nat, k ≤ l.length ∧ iv = .int .i64 k ∧ Hid ((l.take k).all (fun e => e.a.pureB) = true) ∧ Below w.heap.size w wr) (fun iv _ => l.length - (intOf iv).toNat)
  case atStart => exact ⟨0, Nat.zero_le _, rfl, rfl, Below.refl _ _⟩
  case round =>
    obtain ⟨k, hk, rfl, hgood, hb⟩ := hrel
    by_cases hlt : k < l.length
    · obtain ⟨b, o, rfl, hx⟩ := HN.out k hlt
      have hx := hx.below hb hx.lt
      have hq := (HK.out k hlt).keep hb
      obtain ⟨a', cap', S', hS, -⟩ := hq.out
      rw [hS] at hx hq
      have HQ := Lib.hid hq
      have HT := Lib.hid (fun (h : l[k].a.pureB = true) => show (l.take (k + 1)).all (fun e => e.a.pureB) = true by rw [List.take_succ_eq_append_getElem hlt, List.all_append, hgood.out]; simp [h])
      have HO := Lib.hid (fun (h : l[k].a.pureB = false) => show purC l = false by
        unfold purC
        cases e : l.all (fun e => e.a.pureB) with
        | false => rfl
        | true => have := List.all_eq_true.1 e _ (List.getElem_mem hlt); rw [h] at this; cases this)
      have HZ := Lib.hid (HSZ.out _ (List.getElem_mem hlt))
      have HBV := Lib.hid hb
      obtain ⟨x0, x1, x2, x3, x4, x5⟩ := hx
      clear hS hq hb
      go_wp2_with fail
      refine (refpure_any l[k].a _ _ HQ.out (Nat.le_trans HZ.out (by decide))).mono ?_
      obtain ⟨mb, hmb⟩ : ∃ b, l[k].a.pureB = b := ⟨_, rfl⟩
      rw [hmb]
      have HMB := Lib.hid hmb
      clear hmb
      rintro e w1 ⟨rfl, hb1⟩
      have HB1 := Lib.hid (below_call HBV.out hb1 HBV.out.size)
      clear hb1 x0 x1 x2 x3 x4 x5
      cases mb with
      | false =>
        go_wp2
        go_ret
        exact ⟨ret_bool (HO.out HMB.out).symm, HB1.out⟩
      | true =>
        go_wp2
        go_roundw
        case rel => exact ⟨k + 1, hlt, by go_num, HT.out HMB.out, HB1.out⟩
        case measure => simp [intOf]; omega
    · obtain rfl : k = l.length := by omega
      have HS := Lib.hid (show l.all (fun e => e.a.pureB) = true by have := hgood.out; rw [List.take_length] at this; exact this)
      go_wp2_with fail
      refine (refctxright_any l _ _ (HL.out.keep hb)).mono ?_
      rintro e w1 ⟨rfl, hb1⟩
      have hb01 := below_call hb hb1 hb.size
      clear hb1
      go_wp2
      go_ret
      exact ⟨ret_bool (by unfold purC; rw [HS.out, Bool.true_and]), hb01⟩

/-- A row of entries that the call appends to; the types lie anywhere else. -/
structure MadeS (B : Nat) (w : World) (v : Value) (ps : List (En × Value)) : Prop where
  own : w.ownsRow B 52 6 v ps.length (cells6 ps)
  fine : ∀ p ∈ ps, p.1.fine
  kids : ∀ p ∈ ps, LiesQ w (fun b => v.ownBlock ≠ some b) p.1.a.kids p.2
theorem madeS_nil (B : Nat) (w : World) : MadeS B w (.slice none 0 0) [] := ⟨⟨rfl, Or.inl ⟨rfl, rfl⟩⟩, (fun _ h => by cases h), (fun _ h => by cases h)⟩
theorem madeS_later {B : Nat} {w w' : World} {v : Value} {ps : List (En × Value)} (h : MadeS B w v ps) (hb : Kept w w') : MadeS B w' v ps := by
  refine ⟨?_, h.fine, fun p hp => (h.kids p hp).keep (fun b _ hlt => Below.block hb b hlt) (fun _ hq _ => hq)⟩
  obtain ⟨h1, h2⟩ := h.own
  refine ⟨h1, ?_⟩
  rcases h2 with h2 | ⟨g, cap, cur, hv, hg, hh, r⟩
  · exact Or.inl h2
  · exact Or.inr ⟨g, cap, cur, hv, hg, blk_at hh hb, r⟩
theorem madeS_above {B : Nat} {w : World} {v : Value} {ps : List (En × Value)} (h : MadeS B w v ps) : ∀ g, v.ownBlock = some g → B ≤ g := fun b hg => by
  rcases h.own.2 with ⟨rfl, -⟩ | ⟨g', cap, cur, rfl, hg', hh, -⟩
  · simp [Value.ownBlock] at hg
  · simp [Value.ownBlock] at hg
    omega
theorem madeS_step {B : Nat} {w w1 : World} {v : Value} {ps : List (En × Value)} {p : En × Value} {g cap : Nat} (h : MadeS B w v ps) (hf : p.1.fine) (hk : LiesQ w (fun b => v.ownBlock ≠ some b) p.1.a.kids p.2)
    (hown : w1.ownsRow B 52 6 (.slice (some ⟨g, 0, none⟩) (ps.length + 1) cap) (ps.length + 1) (cells6 ps ++ cells6 [p])) (hgrow : w.grownBy w1 v.ownBlock) (hg : v.ownBlock = some g ∨ g = w.heap.size) :
    MadeS B w1 (.slice (some ⟨g, 0, none⟩) (ps.length + 1) cap) (ps ++ [p]) := by
  have keep : ∀ q : En × Value, LiesQ w (fun b => v.ownBlock ≠ some b) q.1.a.kids q.2 → LiesQ w1 (fun b => (Value.slice (some ⟨g, 0, none⟩) (ps.length + 1) cap).ownBlock ≠ some b) q.1.a.kids q.2 := fun q hq =>
    hq.keep (fun b hb hlt => hgrow.block b hlt (fun e => hb e.symm)) (fun b hb hlt => by
      show some g ≠ some b
      rcases hg with e | e
      · rw [← e]; exact hb
      · intro e'; have := Option.some.inj e'; omega)
  refine ⟨by rw [cells6_append]; simpa using hown, fun q hq => ?_, fun q hq => ?_⟩
  · rcases List.mem_append.1 hq with hq | hq
    · exact h.fine q hq
    · rw [List.mem_singleton.1 hq]; exact hf
  · rcases List.mem_append.1 hq with hq | hq
    · exact keep q (h.kids q hq)
    · rw [List.mem_singleton.1 hq]; exact keep p hk
theorem madeS_lies {B : Nat} {w : World} {v : Value} {ps : List (En × Value)} (h : MadeS B w v ps) : LiesE w (ps.map (·.1)) v := by
  have fin : ∀ x ∈ ps.map (·.1), x.fine := fun x hx => by obtain ⟨p, hp, rfl⟩ := List.mem_map.1 hx; exact h.fine p hp
  have kid : ∀ i (hi : i < ps.length), Lies w (ps[i]).1.a.kids (ps[i]).2 := fun i hi => (h.kids _ (List.getElem_mem hi)).lies
  obtain ⟨-, ⟨rfl, hn⟩ | ⟨g, cap, cur, rfl, hg, hh, hnc, hcm, hsz, htk⟩⟩ := h.own
  · obtain rfl : ps = [] := List.eq_nil_of_length_eq_zero hn
    exact liesE_nil _
  · refine ⟨some ⟨g, 0, none⟩, cap, fun i => (ps[i]?.map (·.2)).getD (.slice none 0 0), by simp, by simpa using hnc, hcm, fin, fun i hi => ?_, fun i hi => ?_⟩
    · have hi' : i < ps.length := by simpa using hi
      refine ⟨g, 0, rfl, ?_⟩
      simp only [List.getElem_map, List.getElem?_eq_getElem hi', Option.map_some, Option.getD_some, Nat.zero_add]
      have cellq : ∀ q, q < 6 → w.cell? ⟨g, i * 6 + q, none⟩ = [Value.int .i64 (ps[i]).1.a.k, .int .i64 (ps[i]).1.a.i, .int .i64 (ps[i]).1.a.j, .int .i64 (ps[i]).1.a.n, (ps[i]).2, .int .i64 (ps[i]).1.i][q]? := fun q hq => by
        rw [h.own.cellAt (i * 6 + q) (by omega)]; exact cells6_get ps i hi' q hq
      exact ⟨cellq 0 (by omega), cellq 1 (by omega), cellq 2 (by omega), cellq 3 (by omega), cellq 4 (by omega), cellq 5 (by omega)⟩
    · have hi' : i < ps.length := by simpa using hi
      simp only [List.getElem_map, List.getElem?_eq_getElem hi', Option.map_some, Option.getD_some]
      exact kid i hi'
theorem liesE_front {w : World} {l : List En} {x : En} {a : Option Addr} {n cap : Nat} (h : LiesE w (l ++ [x]) (.slice a n cap)) : LiesE w l (.slice a l.length cap) := by
  obtain ⟨a', cap', S, hs, hc, hm, hf, hn, hk⟩ := h.out
  simp only [Value.slice.injEq] at hs
  obtain ⟨rfl, -, rfl⟩ := hs
  have hl : ∀ i, i < l.length → i < (l ++ [x]).length := fun i hi => by simp; omega
  exact ⟨a, cap, S, rfl, by simp at hc; omega, hm, fun e he => hf e (List.mem_append_left _ he), fun i hi => by
    have h1 := hn i (hl i hi); rw [List.getElem_append_left hi] at h1; exact h1, fun i hi => by
    have h1 := hk i (hl i hi); rw [List.getElem_append_left hi] at h1; exact h1⟩

set_option maxRecDepth 20000 in
set_option maxHeartbeats 4000000 in
theorem refadd_any (l : List En) (t : Tm) (i : Int) (w : World) (s st : Value) (hl : LiesE w l s) (ht : Lies w t.kids st) (hft : (⟨t, i⟩ : En).fine) (hlen : l.length ≤ 100000) : Calls Try.prog 31 #[s, tv t st, .int .i64 i] w (GivesA (l ++ [⟨t, i⟩]) w) := by
  obtain ⟨a, cap, S, rfl, hc, hmx, hf, hn, hk⟩ := hl.out
  obtain ⟨at', ct, St, rfl, -⟩ := ht.out
  unfold maxLen at hmx
  obtain ⟨i0, hi, hz0, hz1, hz2⟩ := info_parts info_entry
  have HI := Lib.hid (And.intro hi (And.intro hz0 (And.intro hz1 hz2)))
  have HN := Lib.hid hn
  have HK := Lib.hid hk
  have HFF := Lib.hid hf
  have HFT := Lib.hid hft
  have HT := Lib.hid ht
  clear hn hk hl hf hi hz0 hz1 hz2 hft ht
  unfold tv
  have hb0 : Kept w (w.alloc (.cells #[.int .i64 t.k, .int .i64 t.i, .int .i64 t.j, .int .i64 t.n, .slice at' t.kids.length ct] 32)) := kept_new _ _
  have hx0 := alloc_new w (.cells #[.int .i64 t.k, .int .i64 t.i, .int .i64 t.j, .int .i64 t.n, .slice at' t.kids.length ct] 32)
  go_enter Try.func31, Try.ntmps31
  go_upto_region 2 with fail
  obtain ⟨B, hB⟩ : ∃ B, w.heap.size = B := ⟨_, rfl⟩
  rw [hB] at hx0 ⊢
  generalize w.alloc (.cells #[.int .i64 t.k, .int .i64 t.i, .int .i64 t.j, .int .i64 t.n, .slice at' t.kids.length ct] 32) = V at hb0 hx0 ⊢
  have HX0 := Lib.hid hx0
  have HB0 := Lib.hid hb0
  have HBV := Lib.hid (show B < V.heap.size from block_lt hx0)
  clear hb0 hx0
  go_wp2_with fail
  go_loopw [7, 8] (fun v iv wr => ∃ (k : Nat) (ps : List (En × Value)) (vv : Value), vv = v ∧ k ≤ l.length ∧ iv = .int .i64 k ∧ Hid (ps.map (·.1) = l.take k) ∧ MadeS V.heap.size wr v ps ∧ Kept V wr) (fun _ iv _ => l.length - (intOf iv).toNat)
  case atStart => exact ⟨0, [], _, rfl, Nat.zero_le _, rfl, by simp [Hid], madeS_nil _ _, kept_refl _⟩
  case round =>
    obtain ⟨k, ps, vv, rfl, hk, rfl, hps, hmade, hb⟩ := hrel
    have HPL := Lib.hid (show ps.length = k by have := congrArg List.length hps.out; rw [List.length_map, List.length_take] at this; omega)
    have HPS := Lib.hid hps.out
    by_cases hlt : k < l.length
    · obtain ⟨b, o, rfl, hx⟩ := HN.out k hlt
      have hq := HK.out k hlt
      obtain ⟨a', cap', S', hS, -⟩ := hq.out
      rw [hS] at hx hq
      have hbw := kept_trans HB0.out hb
      have hx := hx.below hbw hx.lt
      have HF := Lib.hid (HFF.out _ (List.getElem_mem hlt))
      have hown : ∀ b, b < w.heap.size → vv.ownBlock ≠ some b := fun b hlt e => by have := madeS_above hmade b e; have := Below.size HB0.out; omega
      have HQ : Hid (LiesQ wr (fun b => vv.ownBlock ≠ some b) l[k].a.kids (.slice a' l[k].a.kids.length cap')) := (hq.q.keep (fun b _ hl => Below.block hbw b hl) (fun b hb _ => hown b hb))
      have HM := Lib.hid (madeS_later hmade (kept_new wr (.cells #[.int .i64 l[k].a.k, .int .i64 l[k].a.i, .int .i64 l[k].a.j, .int .i64 l[k].a.n, .slice a' l[k].a.kids.length cap', .int .i64 l[k].i] 52)))
      have HQ2 : Hid (LiesQ (wr.alloc (.cells #[.int .i64 l[k].a.k, .int .i64 l[k].a.i, .int .i64 l[k].a.j, .int .i64 l[k].a.n, .slice a' l[k].a.kids.length cap', .int .i64 l[k].i] 52)) (fun b => vv.ownBlock ≠ some b) l[k].a.kids (.slice a' l[k].a.kids.length cap')) := (HQ.out.later (kept_new _ _))
      obtain ⟨x0, x1, x2, x3, x4, x5⟩ := hx
      have HBR := Lib.hid hb
      clear hS hq hbw hb hps hmade hown
      go_wp2_with (at_builtin; refine wpList_append_lies _ rfl (.tmp 15) (.tmp 20) 22 rfl V.heap.size 52 i0 _ 6 64 (by kernel_rfl) HI.out.1 HI.out.2.1 HI.out.2.2.1 HI.out.2.2.2 rfl (by decide) _ ps.length (cells6 ps) rfl HM.out.own ⟨wr.heap.size, 0, none⟩ 1 1 (cells6 [(l[k], .slice a' l[k].a.kids.length cap')]) rfl rfl ?news ?one (by decide) ?max ?bytes ?base _ rfl ?next)
      case news => exact newsE _ _ _ _
      case one => exact oneE _ _
      case max => have := HPL.out; unfold maxLen; omega
      case bytes => have := HPL.out; omega
      case base => have := Below.size HBR.out; simp; omega
      case next =>
        intro g cap9 w9 hown hgrow hat hlt9
        have hmq := madeS_step HM.out (p := (l[k], .slice a' l[k].a.kids.length cap')) HF.out HQ2.out hown hgrow (by simpa using hat)
        have hkE : Kept V w9 := Below.grown (Below.alloc HBR.out (Below.size HBR.out) _) hgrow (by have := Below.size HBR.out; simp; omega) (madeS_above HM.out)
        clear hown hgrow hat hlt9 x0 x1 x2 x3 x4 x5
        go_wp2_with fail
        go_roundw
        case rel => exact ⟨k + 1, ps ++ [(l[k], .slice a' l[k].a.kids.length cap')], _, rfl, hlt, by go_num, by show _ = _; rw [List.map_append, HPS.out, List.map_cons, List.map_nil, List.take_append_getElem hlt], hmq, hkE⟩
        case measure => simp [intOf]; omega
    · obtain rfl : k = l.length := by omega
      have hbx := blk_at HX0.out hb
      have hbw := kept_trans HB0.out hb
      have hown : ∀ b, b < w.heap.size → vv.ownBlock ≠ some b := fun b hlt e => by have := madeS_above hmade b e; have := Below.size HB0.out; omega
      have HQ2 : Hid (LiesQ (wr.alloc (.cells #[.int .i64 t.k, .int .i64 t.i, .int .i64 t.j, .int .i64 t.n, .slice at' t.kids.length ct, .int .i64 i] 52)) (fun b => vv.ownBlock ≠ some b) t.kids (.slice at' t.kids.length ct)) := ((HT.out.q.keep (fun b _ hl => Below.block hbw b hl) (fun b hb _ => hown b hb) : LiesQ wr (fun b => vv.ownBlock ≠ some b) t.kids (.slice at' t.kids.length ct)).later (kept_new _ _))
      have HM := Lib.hid (madeS_later hmade (kept_new wr (.cells #[.int .i64 t.k, .int .i64 t.i, .int .i64 t.j, .int .i64 t.n, .slice at' t.kids.length ct, .int .i64 i] 52)))
      have HBR := Lib.hid hb
      have HBW := Lib.hid hbw
      obtain ⟨d0, d1, d2, d3, d4⟩ := five_cells hbx
      clear hb hbw hown hmade hps
      go_wp2_with (at_builtin; refine wpList_append_lies _ rfl (.tmp 22) (.tmp 26) 22 rfl V.heap.size 52 i0 _ 6 64 (by kernel_rfl) HI.out.1 HI.out.2.1 HI.out.2.2.1 HI.out.2.2.2 rfl (by decide) _ ps.length (cells6 ps) rfl HM.out.own ⟨wr.heap.size, 0, none⟩ 1 1 (cells6 [((⟨t, i⟩ : En), .slice at' t.kids.length ct)]) rfl rfl ?news ?one (by decide) ?max ?bytes ?base _ rfl ?next)
      case news => exact newsE _ (⟨t, i⟩ : En) _ _
      case one => exact oneE (⟨t, i⟩ : En) _
      case max => have := HPL.out; unfold maxLen; omega
      case bytes => have := HPL.out; omega
      case base => have := Below.size HBR.out; simp; omega
      case next =>
        intro g cap9 w9 hown hgrow hat hlt9
        have hmq := madeS_step HM.out (p := ((⟨t, i⟩ : En), .slice at' t.kids.length ct)) HFT.out HQ2.out hown hgrow (by simpa using hat)
        have hkE : Kept V w9 := Below.grown (Below.alloc HBR.out (Below.size HBR.out) _) hgrow (by have := Below.size HBR.out; simp; omega) (madeS_above HM.out)
        have hres := madeS_lies hmq
        rw [List.map_append, HPS.out, List.take_length, List.map_cons, List.map_nil, HPL.out] at hres
        have hkw := kept_trans HB0.out hkE
        clear hown hgrow hat hlt9 d0 d1 d2 d3 d4 hmq hkE
        rw [HPL.out]
        go_wp2_with fail
        go_ret
        exact ⟨g, cap9, by rw [List.length_append]; rfl, by rw [List.length_append]; exact hres, hkw⟩
set_option maxRecDepth 20000 in
set_option maxHeartbeats 4000000 in
theorem sort11_any (i : Int) (P : Nat → Prop) (w : World) (hri : I64 i) : Calls Try.prog 51 #[.int .i64 i] w (GivesP P (.mk 1 i 0 0 []) w) := by
  have Ri := Lib.hid hri
  clear hri
  obtain ⟨du, hu1, hu2⟩ := under_term
  go_enter Try.func51, Try.ntmps51
  go_upto_region 1 with fail
  refine at_code (fun V0 hV0 => ?_)
  obtain ⟨k2, x1, z3⟩ := alloc1 hV0
  have Kk4 := Lib.hid k2
  clear k2
  have Hx1 := Lib.hid x1
  have Z0 := Lib.hid z3
  clear z3 x1 hV0
  have kvV0 : Sees V0 (w.heap.size) V0 := sees_kept _ (kept_refl _)
  go_wp2_with (refine stop_store 32 (.tmp 2) (.tmp 4) rfl ?_)
  intro _
  refine wpList_store_part_n (by rfl) 32 (.tmp 2) (.tmp 4) rfl (w.heap.size) 0 #[.int .i64 1, .int .i64 i, .int .i64 0, .int .i64 0, .slice none 0 0] (by rfl) (by rfl) 32 size_term (row_ok rfl) ?_
  intro W5 hW5
  clear kvV0
  subst hW5
  refine ⟨_, #[.int .i64 1, .int .i64 i, .int .i64 0, .int .i64 0, .slice none 0 0], Hx1.out, rfl, Nat.le_of_ble_eq_true rfl, ?_⟩
  intro W6 hW6
  go_wp2_with fail
  refine bodyPost_ret (results_cell_row rfl _ _ (w.heap.size) 32 _ _ du rfl (blk_same Hx1.out hW6) hu1 (by cases du <;> first | rfl | exact hu2) size_term) rfl ?_
  exact ⟨_, rfl, par_end (par_row' (liesQ_nil V0 (Par w V0.heap.size [] P)) hW6 (by omega) (by have := Z0.out; omega)) (by have := Z0.out; omega), kept_set Kk4.out hW6 (by omega)⟩

set_option maxRecDepth 20000 in
set_option maxHeartbeats 4000000 in
theorem same11_any (x : Tm) (y : Tm) (P : Nat → Prop) (w : World) (sx : Value) (sy : Value) (hfx : x.fine) (hlx : LiesQ w P x.kids sx) (hfy : y.fine) (hly : LiesQ w P y.kids sy) : Calls Try.prog 50 #[tv x sx, tv y sy] w fun e w' => e = .returned (.bool (sameB x y)) ∧ Kept w w' := by
  have Gx := Lib.hid hfx
  clear hfx
  obtain ⟨ax, cx, Sx, rfl, -⟩ := hlx.out
  have Gy := Lib.hid hfy
  clear hfy
  obtain ⟨ay, cy, Sy, rfl, -⟩ := hly.out
  obtain ⟨du, hu1, hu2⟩ := under_term
  unfold tv
  go_enter Try.func50, Try.ntmps50
  go_upto_region 1 with fail
  refine at_code (fun V0 hV0 => ?_)
  obtain ⟨k3, x1, x2, z4⟩ := alloc2 hV0
  have Kk5 := Lib.hid k3
  clear k3
  have Hx1 := Lib.hid x1
  have Hx2 := Lib.hid x2
  have Z0 := Lib.hid z4
  clear z4 x1 x2 hV0
  have HLx : Hid (LiesQ V0 (Par w V0.heap.size [] P) x.kids _) := (par_in _ _ hlx).later Kk5.out
  clear hlx
  have HLy : Hid (LiesQ V0 (Par w V0.heap.size [] P) y.kids _) := (par_in _ _ hly).later Kk5.out
  clear hly
  have kvV0 : SeesN V0 V0.heap.size V0 := seesN_kept _ (kept_refl _)
  go_wp2_with (refine stop_load 32 (.tmp 2) rfl ?_)
  intro _
  refine wpList_load_part (w.heap.size) (0) 32 (.tmp 2) #[.int .i64 x.k, .int .i64 x.i, .int .i64 x.j, .int .i64 x.n, (.slice ax x.kids.length cx)] du Hx1.out (by rfl) rfl (by rfl) (by rfl) hu1 (by cases du <;> first | rfl | exact hu2) size_term ?_
  go_wp2_with (refine stop_load 32 (.tmp 3) rfl ?_)
  intro _
  refine wpList_load_part (w.heap.size + 1) (0) 32 (.tmp 3) #[.int .i64 y.k, .int .i64 y.i, .int .i64 y.j, .int .i64 y.n, (.slice ay y.kids.length cy)] du Hx2.out (by rfl) rfl (by rfl) (by rfl) hu1 (by cases du <;> first | rfl | exact hu2) size_term ?_
  go_wp2_with fail
  clear kvV0
  refine (refsame_any x y _ ((.slice ax x.kids.length cx)) ((.slice ay y.kids.length cy)) HLx.out.lies HLy.out.lies).mono ?_
  obtain ⟨rb9, hb8⟩ : ∃ qb, (sameB x y) = qb := ⟨_, rfl⟩
  rw [hb8]
  have Hhb8 := Lib.hid hb8
  clear hb8
  rintro e w6 ⟨rfl, k7⟩
  have Kk10 := Lib.hid k7
  clear k7
  cases rb9 with
  | false =>
    have kvV0 : SeesN V0 V0.heap.size w6 := seesN_kept _ Kk10.out
    go_wp2
    go_ret
    exact ⟨by rw [Hhb8.out]; rfl, (kept_trans Kk5.out Kk10.out)⟩
  | true =>
    have kvV0 : SeesN V0 V0.heap.size w6 := seesN_kept _ Kk10.out
    go_wp2
    go_ret
    exact ⟨by rw [Hhb8.out]; rfl, (kept_trans Kk5.out Kk10.out)⟩

def tyN0r1_0 : Oper := { dst := some 6, op := Go.Op.fieldAddr 34 (Go.Operand.tmp 2) 4, type := 0, pos := "rule.go:36", after := #[], guard := none }
def tyN0r1_1 : Oper := { dst := some 7, op := Go.Op.load 3 (Go.Operand.tmp 6), type := 3, pos := "rule.go:36", after := #[{ on := 0, ground := Go.Ground.data }], guard := none }
def tyN0r1_2 : Oper := { dst := some 8, op := Go.Op.binOp Go.BinOp.sub 3 (Go.Operand.tmp 7) (Go.Operand.const (Go.Value.int Go.IntKind.i64 1)) 3, type := 3, pos := "rule.go:36", after := #[{ on := 1, ground := Go.Ground.data }], guard := none }
def tyN0r1_3 : Oper := { dst := some 9, op := Go.Op.fieldAddr 34 (Go.Operand.tmp 2) 0, type := 0, pos := "rule.go:36", after := #[], guard := none }
def tyN0r1_4 : Oper := { dst := some 10, op := Go.Op.load 4 (Go.Operand.tmp 9), type := 4, pos := "rule.go:36", after := #[{ on := 3, ground := Go.Ground.data }], guard := none }
def tyN0r1_5 : Oper := { dst := some 11, op := Go.Op.move (Go.Operand.tmp 1), type := 4, pos := "rule.go:36", after := #[], guard := none }
def tyN0r1_6 : Oper := { dst := some 12, op := Go.Op.binOp Go.BinOp.eql 4 (Go.Operand.tmp 10) (Go.Operand.tmp 11) 4, type := 4, pos := "rule.go:36", after := #[{ on := 4, ground := Go.Ground.data }, { on := 5, ground := Go.Ground.data }], guard := none }
def tyN0r1_7 : Oper := { dst := some 13, op := Go.Op.move (Go.Operand.tmp 12), type := 4, pos := "rule.go:36", after := #[{ on := 6, ground := Go.Ground.data }], guard := none }
def tyN0r1_8 : Oper := { dst := some 14, op := Go.Op.fieldAddr 34 (Go.Operand.tmp 2) 4, type := 0, pos := "rule.go:36", after := #[{ on := 7, ground := Go.Ground.guard }], guard := some (7, true) }
def tyN0r1_9 : Oper := { dst := some 15, op := Go.Op.load 3 (Go.Operand.tmp 14), type := 3, pos := "rule.go:36", after := #[{ on := 8, ground := Go.Ground.data }, { on := 7, ground := Go.Ground.guard }], guard := some (7, true) }
def tyN0r1_10 : Oper := { dst := some 16, op := Go.Op.binOp Go.BinOp.geq 3 (Go.Operand.tmp 15) (Go.Operand.const (Go.Value.int Go.IntKind.i64 1)) 3, type := 4, pos := "rule.go:36", after := #[{ on := 9, ground := Go.Ground.data }, { on := 7, ground := Go.Ground.guard }], guard := some (7, true) }
def tyN0r1_11 : Oper := { dst := some 17, op := Go.Op.pick (Go.Operand.tmp 13) (Go.Operand.tmp 16) (Go.Operand.const (Go.Value.bool false)), type := 4, pos := "rule.go:36", after := #[{ on := 7, ground := Go.Ground.data }, { on := 10, ground := Go.Ground.data }], guard := none }
def tyN0r1_12 : Oper := { dst := some 18, op := Go.Op.move (Go.Operand.tmp 17), type := 4, pos := "rule.go:36", after := #[{ on := 11, ground := Go.Ground.data }, { on := 7, ground := Go.Ground.chain }], guard := none }
def tyN0r1_13 : Oper := { dst := some 19, op := Go.Op.fieldAddr 34 (Go.Operand.tmp 2) 3, type := 0, pos := "rule.go:36", after := #[{ on := 12, ground := Go.Ground.guard }], guard := some (12, true) }
def tyN0r1_14 : Oper := { dst := some 20, op := Go.Op.load 32 (Go.Operand.tmp 19), type := 32, pos := "rule.go:36", after := #[{ on := 13, ground := Go.Ground.data }, { on := 12, ground := Go.Ground.guard }], guard := some (12, true) }
def tyN0r1_15 : Oper := { dst := some 21, op := Go.Op.fieldAddr 34 (Go.Operand.tmp 2) 4, type := 0, pos := "rule.go:36", after := #[{ on := 12, ground := Go.Ground.guard }], guard := some (12, true) }
def tyN0r1_16 : Oper := { dst := some 22, op := Go.Op.load 3 (Go.Operand.tmp 21), type := 3, pos := "rule.go:36", after := #[{ on := 15, ground := Go.Ground.data }, { on := 12, ground := Go.Ground.guard }], guard := some (12, true) }
def tyN0r1_17 : Oper := { dst := some 23, op := Go.Op.binOp Go.BinOp.sub 3 (Go.Operand.tmp 22) (Go.Operand.const (Go.Value.int Go.IntKind.i64 1)) 3, type := 3, pos := "rule.go:36", after := #[{ on := 16, ground := Go.Ground.data }, { on := 12, ground := Go.Ground.guard }], guard := some (12, true) }
def tyN0r1_18 : Oper := { dst := some 24, op := Go.Op.call { callee := Go.Callee.value (Go.Operand.func 51), args := #[Go.Operand.tmp 23], argTypes := #[3] }, type := 32, pos := "rule.go:36", after := #[{ on := 17, ground := Go.Ground.data }, { on := 12, ground := Go.Ground.chain }, { on := 12, ground := Go.Ground.guard }], guard := some (12, true) }
def tyN0r1_19 : Oper := { dst := some 25, op := Go.Op.call { callee := Go.Callee.value (Go.Operand.func 50), args := #[Go.Operand.tmp 20, Go.Operand.tmp 24], argTypes := #[32, 32] }, type := 4, pos := "rule.go:36", after := #[{ on := 14, ground := Go.Ground.data }, { on := 18, ground := Go.Ground.data }, { on := 18, ground := Go.Ground.chain }, { on := 12, ground := Go.Ground.guard }], guard := some (12, true) }
def tyN0r1_20 : Oper := { dst := some 26, op := Go.Op.pick (Go.Operand.tmp 18) (Go.Operand.tmp 25) (Go.Operand.const (Go.Value.bool false)), type := 4, pos := "rule.go:36", after := #[{ on := 12, ground := Go.Ground.data }, { on := 19, ground := Go.Ground.data }, { on := 21, ground := Go.Ground.gcOnly Go.Departure.lateStores }], guard := none }
def tyN0r1_21 : Oper := { dst := some 4, op := Go.Op.assign (Go.Operand.tmp 8), type := 3, pos := "rule.go:36", after := #[{ on := 2, ground := Go.Ground.data }, { on := 19, ground := Go.Ground.chain }, { on := 0, ground := Go.Ground.phase }, { on := 1, ground := Go.Ground.phase }, { on := 2, ground := Go.Ground.phase }, { on := 3, ground := Go.Ground.textOnly Go.Departure.lateStores }, { on := 4, ground := Go.Ground.textOnly Go.Departure.lateStores }, { on := 5, ground := Go.Ground.textOnly Go.Departure.lateStores }, { on := 6, ground := Go.Ground.textOnly Go.Departure.lateStores }, { on := 7, ground := Go.Ground.textOnly Go.Departure.lateStores }, { on := 8, ground := Go.Ground.textOnly Go.Departure.lateStores }, { on := 9, ground := Go.Ground.textOnly Go.Departure.lateStores }, { on := 10, ground := Go.Ground.textOnly Go.Departure.lateStores }, { on := 11, ground := Go.Ground.textOnly Go.Departure.lateStores }, { on := 12, ground := Go.Ground.textOnly Go.Departure.lateStores }, { on := 13, ground := Go.Ground.textOnly Go.Departure.lateStores }, { on := 14, ground := Go.Ground.textOnly Go.Departure.lateStores }, { on := 15, ground := Go.Ground.textOnly Go.Departure.lateStores }, { on := 16, ground := Go.Ground.textOnly Go.Departure.lateStores }, { on := 17, ground := Go.Ground.textOnly Go.Departure.lateStores }, { on := 18, ground := Go.Ground.textOnly Go.Departure.lateStoresUnsure }, { on := 19, ground := Go.Ground.textOnly Go.Departure.lateStoresUnsure }, { on := 20, ground := Go.Ground.textOnly Go.Departure.lateStores }], guard := none }
def tyN0r1_22 : Oper := { dst := some 5, op := Go.Op.assign (Go.Operand.tmp 26), type := 4, pos := "rule.go:36", after := #[{ on := 20, ground := Go.Ground.data }, { on := 21, ground := Go.Ground.chain }, { on := 0, ground := Go.Ground.phase }, { on := 1, ground := Go.Ground.phase }, { on := 2, ground := Go.Ground.phase }, { on := 3, ground := Go.Ground.phase }, { on := 4, ground := Go.Ground.phase }, { on := 5, ground := Go.Ground.phase }, { on := 6, ground := Go.Ground.phase }, { on := 7, ground := Go.Ground.phase }, { on := 8, ground := Go.Ground.phase }, { on := 9, ground := Go.Ground.phase }, { on := 10, ground := Go.Ground.phase }, { on := 11, ground := Go.Ground.phase }, { on := 12, ground := Go.Ground.phase }, { on := 13, ground := Go.Ground.phase }, { on := 14, ground := Go.Ground.phase }, { on := 15, ground := Go.Ground.phase }, { on := 16, ground := Go.Ground.phase }, { on := 17, ground := Go.Ground.phase }, { on := 18, ground := Go.Ground.phase }, { on := 19, ground := Go.Ground.phase }, { on := 20, ground := Go.Ground.phase }, { on := 21, ground := Go.Ground.phase }], guard := none }
set_option maxRecDepth 20000 in
set_option maxHeartbeats 4000000 in
theorem tyN0_any (i : Int) (u : Tm) (v : Tm) (x : Tm) (P : Nat → Prop) (w : World) (su : Value) (sv : Value) (sx : Value) (hfu : u.fine) (hlu : LiesQ w P u.kids su) (hfv : v.fine) (hlv : LiesQ w P v.kids sv) (hfx : x.fine) (hlx : LiesQ w P x.kids sx) (hri : I64 i) (hi0 : 0 ≤ i) (hi1 : i ≤ 1000) : Calls Try.prog 33 #[.agg #[.bool false, .int .i64 u.k, .int .i64 u.i, .int .i64 u.j, .int .i64 u.n, su, .int .i64 v.k, .int .i64 v.i, .int .i64 v.j, .int .i64 v.n, sv, .int .i64 x.k, .int .i64 x.i, .int .i64 x.j, .int .i64 x.n, sx, .int .i64 i], .bool true] w fun e w' => e = .returned (.tuple #[.int .i64 (i - 1), .bool (false)]) ∧ Kept w w' := by
  have Gu := Lib.hid hfu
  clear hfu
  obtain ⟨au, cu, Su, rfl, -⟩ := hlu.out
  have Gv := Lib.hid hfv
  clear hfv
  obtain ⟨av, cv, Sv, rfl, -⟩ := hlv.out
  have Gx := Lib.hid hfx
  clear hfx
  obtain ⟨ax, cx, Sx, rfl, -⟩ := hlx.out
  have Ri := Lib.hid hri
  clear hri
  have ew : IntKind.i64.wrap (i - 1) = i - 1 := IntWalk.i64_in _ (by omega)
  have HR1 := Lib.hid (show I64 (i - 1) by unfold I64; omega)
  clear hi0 hi1
  obtain ⟨dj, dj1, dj2⟩ := under_of 34 (by kernel_rfl)
  obtain ⟨du, hu1, hu2⟩ := under_term
  go_enter Try.func33, Try.ntmps33
  go_upto_region 1 with fail
  refine at_code (fun V0 hV0 => ?_)
  obtain ⟨k2, x1, z3⟩ := alloc1 hV0
  have Kk4 := Lib.hid k2
  clear k2
  have Hx1 := Lib.hid x1
  have Z0 := Lib.hid z3
  clear z3 x1 hV0
  have HLu : Hid (LiesQ V0 (Par w V0.heap.size [] P) u.kids _) := (par_in _ _ hlu).later Kk4.out
  clear hlu
  have HLv : Hid (LiesQ V0 (Par w V0.heap.size [] P) v.kids _) := (par_in _ _ hlv).later Kk4.out
  clear hlv
  have HLx : Hid (LiesQ V0 (Par w V0.heap.size [] P) x.kids _) := (par_in _ _ hlx).later Kk4.out
  clear hlx
  have ld5 := partN_cell (r := V0.heap.size) Hx1.out trivial 0 (.bool false) rfl
  have ld6 := partN_cell (r := V0.heap.size) Hx1.out trivial 16 (.int .i64 i) rfl
  have kvV0 : SeesN V0 V0.heap.size V0 := seesN_kept _ (kept_refl _)
  go_wp2_with fail
  clear kvV0
  obtain ⟨W7, h8⟩ : ∃ x, World.drew V0 = x := ⟨_, rfl⟩
  have k9 : Kept V0 W7 := by rw [← h8]; exact kept_drew (kept_refl _)
  have Kk10 := Lib.hid k9
  clear k9
  refine wp_region_held_drew (S := SeesN W7 V0.heap.size) (by kernel_rfl) ?_ (fun hHeld => ?_)
  · (try dsimp only)
    rw [h8]
    exact seesN_kept _ (kept_refl _)
  rw [h8] at hHeld ⊢
  clear h8
  refine take_at 0 6 tyN0r1_0 (v := ?_) (Or.inl ⟨by rfl, ?_⟩) ?_
  rotate_left 1
  · ((intro w hSw; (try dsimp only at hSw); unfold tyN0r1_0; go_simp) <;> with_reducible rfl)
  (try simp only [Act.put, List.setIfInBounds_toArray, List.set_cons_zero, List.set_cons_succ])
  refine take_at 1 7 tyN0r1_1 (v := ?_) (Or.inl ⟨by rfl, ?_⟩) ?_
  rotate_left 1
  · ((intro w hSw; (try dsimp only at hSw); have qV0 := seesN_of Kk10.out hSw; unfold tyN0r1_1; go_simp) <;> with_reducible rfl)
  (try simp only [Act.put, List.setIfInBounds_toArray, List.set_cons_zero, List.set_cons_succ])
  refine take_at 2 8 tyN0r1_2 (v := ?_) (Or.inl ⟨by rfl, ?_⟩) ?_
  rotate_left 1
  · ((intro w hSw; (try dsimp only at hSw); unfold tyN0r1_2; go_simp) <;> with_reducible rfl)
  (try simp only [Act.put, List.setIfInBounds_toArray, List.set_cons_zero, List.set_cons_succ])
  refine take_at 3 9 tyN0r1_3 (v := ?_) (Or.inl ⟨by rfl, ?_⟩) ?_
  rotate_left 1
  · ((intro w hSw; (try dsimp only at hSw); unfold tyN0r1_3; go_simp) <;> with_reducible rfl)
  (try simp only [Act.put, List.setIfInBounds_toArray, List.set_cons_zero, List.set_cons_succ])
  refine take_at 4 10 tyN0r1_4 (v := ?_) (Or.inl ⟨by rfl, ?_⟩) ?_
  rotate_left 1
  · ((intro w hSw; (try dsimp only at hSw); have qV0 := seesN_of Kk10.out hSw; unfold tyN0r1_4; go_simp) <;> with_reducible rfl)
  (try simp only [Act.put, List.setIfInBounds_toArray, List.set_cons_zero, List.set_cons_succ])
  refine take_at 5 11 tyN0r1_5 (v := ?_) (Or.inl ⟨by rfl, ?_⟩) ?_
  rotate_left 1
  · ((intro w hSw; (try dsimp only at hSw); unfold tyN0r1_5; go_simp) <;> with_reducible rfl)
  (try simp only [Act.put, List.setIfInBounds_toArray, List.set_cons_zero, List.set_cons_succ])
  refine take_at 6 12 tyN0r1_6 (v := ?_) (Or.inl ⟨by rfl, ?_⟩) ?_
  rotate_left 1
  · ((intro w hSw; (try dsimp only at hSw); unfold tyN0r1_6; go_simp) <;> with_reducible rfl)
  (try simp only [Act.put, List.setIfInBounds_toArray, List.set_cons_zero, List.set_cons_succ])
  refine take_at 7 13 tyN0r1_7 (v := ?_) (Or.inl ⟨by rfl, ?_⟩) ?_
  rotate_left 1
  · ((intro w hSw; (try dsimp only at hSw); unfold tyN0r1_7; go_simp) <;> with_reducible rfl)
  (try simp only [Act.put, List.setIfInBounds_toArray, List.set_cons_zero, List.set_cons_succ])
  refine take_at 8 14 tyN0r1_8 (v := undef) (Or.inr ⟨by rfl, rfl⟩) ?_
  (try simp only [Act.put, List.setIfInBounds_toArray, List.set_cons_zero, List.set_cons_succ])
  refine take_at 9 15 tyN0r1_9 (v := undef) (Or.inr ⟨by rfl, rfl⟩) ?_
  (try simp only [Act.put, List.setIfInBounds_toArray, List.set_cons_zero, List.set_cons_succ])
  refine take_at 10 16 tyN0r1_10 (v := undef) (Or.inr ⟨by rfl, rfl⟩) ?_
  (try simp only [Act.put, List.setIfInBounds_toArray, List.set_cons_zero, List.set_cons_succ])
  refine take_at 11 17 tyN0r1_11 (v := ?_) (Or.inl ⟨by rfl, ?_⟩) ?_
  rotate_left 1
  · ((intro w hSw; (try dsimp only at hSw); unfold tyN0r1_11; go_simp) <;> with_reducible rfl)
  (try simp only [Act.put, List.setIfInBounds_toArray, List.set_cons_zero, List.set_cons_succ])
  refine take_at 12 18 tyN0r1_12 (v := ?_) (Or.inl ⟨by rfl, ?_⟩) ?_
  rotate_left 1
  · ((intro w hSw; (try dsimp only at hSw); unfold tyN0r1_12; go_simp) <;> with_reducible rfl)
  (try simp only [Act.put, List.setIfInBounds_toArray, List.set_cons_zero, List.set_cons_succ])
  refine take_at 13 19 tyN0r1_13 (v := undef) (Or.inr ⟨by rfl, rfl⟩) ?_
  (try simp only [Act.put, List.setIfInBounds_toArray, List.set_cons_zero, List.set_cons_succ])
  refine take_at 14 20 tyN0r1_14 (v := undef) (Or.inr ⟨by rfl, rfl⟩) ?_
  (try simp only [Act.put, List.setIfInBounds_toArray, List.set_cons_zero, List.set_cons_succ])
  refine take_at 15 21 tyN0r1_15 (v := undef) (Or.inr ⟨by rfl, rfl⟩) ?_
  (try simp only [Act.put, List.setIfInBounds_toArray, List.set_cons_zero, List.set_cons_succ])
  refine take_at 16 22 tyN0r1_16 (v := undef) (Or.inr ⟨by rfl, rfl⟩) ?_
  (try simp only [Act.put, List.setIfInBounds_toArray, List.set_cons_zero, List.set_cons_succ])
  refine take_at 17 23 tyN0r1_17 (v := undef) (Or.inr ⟨by rfl, rfl⟩) ?_
  (try simp only [Act.put, List.setIfInBounds_toArray, List.set_cons_zero, List.set_cons_succ])
  refine take_at 18 24 tyN0r1_18 (v := undef) (Or.inr ⟨by rfl, rfl⟩) ?_
  (try simp only [Act.put, List.setIfInBounds_toArray, List.set_cons_zero, List.set_cons_succ])
  refine take_at 19 25 tyN0r1_19 (v := undef) (Or.inr ⟨by rfl, rfl⟩) ?_
  (try simp only [Act.put, List.setIfInBounds_toArray, List.set_cons_zero, List.set_cons_succ])
  refine take_at 20 26 tyN0r1_20 (v := ?_) (Or.inl ⟨by rfl, ?_⟩) ?_
  rotate_left 1
  · ((intro w hSw; (try dsimp only at hSw); unfold tyN0r1_20; go_simp) <;> with_reducible rfl)
  (try simp only [Act.put, List.setIfInBounds_toArray, List.set_cons_zero, List.set_cons_succ])
  refine take_at 21 4 tyN0r1_21 (v := ?_) (Or.inl ⟨by rfl, ?_⟩) ?_
  rotate_left 1
  · ((intro w hSw; (try dsimp only at hSw); unfold tyN0r1_21; go_simp) <;> with_reducible rfl)
  (try simp only [Act.put, List.setIfInBounds_toArray, List.set_cons_zero, List.set_cons_succ])
  refine take_at 22 5 tyN0r1_22 (v := ?_) (Or.inl ⟨by rfl, ?_⟩) ?_
  rotate_left 1
  · ((intro w hSw; (try dsimp only at hSw); unfold tyN0r1_22; go_simp) <;> with_reducible rfl)
  (try simp only [Act.put, List.setIfInBounds_toArray, List.set_cons_zero, List.set_cons_succ])
  refine wpAnyH_done (by kernel_rfl) ?_ _
  clear hHeld
  have kvV0 : SeesN V0 V0.heap.size W7 := seesN_kept _ Kk10.out
  go_wp2
  go_ret2
  exact ⟨by first | rfl | (rw [show True = True from rfl]; rfl), (kept_trans Kk4.out Kk10.out)⟩

def tyB0r1_0 : Oper := { dst := some 6, op := Go.Op.fieldAddr 34 (Go.Operand.tmp 2) 4, type := 0, pos := "rule.go:36", after := #[], guard := none }
def tyB0r1_1 : Oper := { dst := some 7, op := Go.Op.load 3 (Go.Operand.tmp 6), type := 3, pos := "rule.go:36", after := #[{ on := 0, ground := Go.Ground.data }], guard := none }
def tyB0r1_2 : Oper := { dst := some 8, op := Go.Op.binOp Go.BinOp.sub 3 (Go.Operand.tmp 7) (Go.Operand.const (Go.Value.int Go.IntKind.i64 1)) 3, type := 3, pos := "rule.go:36", after := #[{ on := 1, ground := Go.Ground.data }], guard := none }
def tyB0r1_3 : Oper := { dst := some 9, op := Go.Op.fieldAddr 34 (Go.Operand.tmp 2) 0, type := 0, pos := "rule.go:36", after := #[], guard := none }
def tyB0r1_4 : Oper := { dst := some 10, op := Go.Op.load 4 (Go.Operand.tmp 9), type := 4, pos := "rule.go:36", after := #[{ on := 3, ground := Go.Ground.data }], guard := none }
def tyB0r1_5 : Oper := { dst := some 11, op := Go.Op.move (Go.Operand.tmp 1), type := 4, pos := "rule.go:36", after := #[], guard := none }
def tyB0r1_6 : Oper := { dst := some 12, op := Go.Op.binOp Go.BinOp.eql 4 (Go.Operand.tmp 10) (Go.Operand.tmp 11) 4, type := 4, pos := "rule.go:36", after := #[{ on := 4, ground := Go.Ground.data }, { on := 5, ground := Go.Ground.data }], guard := none }
def tyB0r1_7 : Oper := { dst := some 13, op := Go.Op.move (Go.Operand.tmp 12), type := 4, pos := "rule.go:36", after := #[{ on := 6, ground := Go.Ground.data }], guard := none }
def tyB0r1_8 : Oper := { dst := some 14, op := Go.Op.fieldAddr 34 (Go.Operand.tmp 2) 4, type := 0, pos := "rule.go:36", after := #[{ on := 7, ground := Go.Ground.guard }], guard := some (7, true) }
def tyB0r1_9 : Oper := { dst := some 15, op := Go.Op.load 3 (Go.Operand.tmp 14), type := 3, pos := "rule.go:36", after := #[{ on := 8, ground := Go.Ground.data }, { on := 7, ground := Go.Ground.guard }], guard := some (7, true) }
def tyB0r1_10 : Oper := { dst := some 16, op := Go.Op.binOp Go.BinOp.geq 3 (Go.Operand.tmp 15) (Go.Operand.const (Go.Value.int Go.IntKind.i64 1)) 3, type := 4, pos := "rule.go:36", after := #[{ on := 9, ground := Go.Ground.data }, { on := 7, ground := Go.Ground.guard }], guard := some (7, true) }
def tyB0r1_11 : Oper := { dst := some 17, op := Go.Op.pick (Go.Operand.tmp 13) (Go.Operand.tmp 16) (Go.Operand.const (Go.Value.bool false)), type := 4, pos := "rule.go:36", after := #[{ on := 7, ground := Go.Ground.data }, { on := 10, ground := Go.Ground.data }], guard := none }
def tyB0r1_12 : Oper := { dst := some 18, op := Go.Op.move (Go.Operand.tmp 17), type := 4, pos := "rule.go:36", after := #[{ on := 11, ground := Go.Ground.data }, { on := 7, ground := Go.Ground.chain }], guard := none }
def tyB0r1_13 : Oper := { dst := some 19, op := Go.Op.fieldAddr 34 (Go.Operand.tmp 2) 3, type := 0, pos := "rule.go:36", after := #[{ on := 12, ground := Go.Ground.guard }], guard := some (12, true) }
def tyB0r1_14 : Oper := { dst := some 20, op := Go.Op.load 32 (Go.Operand.tmp 19), type := 32, pos := "rule.go:36", after := #[{ on := 13, ground := Go.Ground.data }, { on := 12, ground := Go.Ground.guard }], guard := some (12, true) }
def tyB0r1_15 : Oper := { dst := some 21, op := Go.Op.fieldAddr 34 (Go.Operand.tmp 2) 4, type := 0, pos := "rule.go:36", after := #[{ on := 12, ground := Go.Ground.guard }], guard := some (12, true) }
def tyB0r1_16 : Oper := { dst := some 22, op := Go.Op.load 3 (Go.Operand.tmp 21), type := 3, pos := "rule.go:36", after := #[{ on := 15, ground := Go.Ground.data }, { on := 12, ground := Go.Ground.guard }], guard := some (12, true) }
def tyB0r1_17 : Oper := { dst := some 23, op := Go.Op.binOp Go.BinOp.sub 3 (Go.Operand.tmp 22) (Go.Operand.const (Go.Value.int Go.IntKind.i64 1)) 3, type := 3, pos := "rule.go:36", after := #[{ on := 16, ground := Go.Ground.data }, { on := 12, ground := Go.Ground.guard }], guard := some (12, true) }
def tyB0r1_18 : Oper := { dst := some 24, op := Go.Op.call { callee := Go.Callee.value (Go.Operand.func 51), args := #[Go.Operand.tmp 23], argTypes := #[3] }, type := 32, pos := "rule.go:36", after := #[{ on := 17, ground := Go.Ground.data }, { on := 12, ground := Go.Ground.chain }, { on := 12, ground := Go.Ground.guard }], guard := some (12, true) }
def tyB0r1_19 : Oper := { dst := some 25, op := Go.Op.call { callee := Go.Callee.value (Go.Operand.func 50), args := #[Go.Operand.tmp 20, Go.Operand.tmp 24], argTypes := #[32, 32] }, type := 4, pos := "rule.go:36", after := #[{ on := 14, ground := Go.Ground.data }, { on := 18, ground := Go.Ground.data }, { on := 18, ground := Go.Ground.chain }, { on := 12, ground := Go.Ground.guard }], guard := some (12, true) }
def tyB0r1_20 : Oper := { dst := some 26, op := Go.Op.pick (Go.Operand.tmp 18) (Go.Operand.tmp 25) (Go.Operand.const (Go.Value.bool false)), type := 4, pos := "rule.go:36", after := #[{ on := 12, ground := Go.Ground.data }, { on := 19, ground := Go.Ground.data }, { on := 21, ground := Go.Ground.gcOnly Go.Departure.lateStores }], guard := none }
def tyB0r1_21 : Oper := { dst := some 4, op := Go.Op.assign (Go.Operand.tmp 8), type := 3, pos := "rule.go:36", after := #[{ on := 2, ground := Go.Ground.data }, { on := 19, ground := Go.Ground.chain }, { on := 0, ground := Go.Ground.phase }, { on := 1, ground := Go.Ground.phase }, { on := 2, ground := Go.Ground.phase }, { on := 3, ground := Go.Ground.textOnly Go.Departure.lateStores }, { on := 4, ground := Go.Ground.textOnly Go.Departure.lateStores }, { on := 5, ground := Go.Ground.textOnly Go.Departure.lateStores }, { on := 6, ground := Go.Ground.textOnly Go.Departure.lateStores }, { on := 7, ground := Go.Ground.textOnly Go.Departure.lateStores }, { on := 8, ground := Go.Ground.textOnly Go.Departure.lateStores }, { on := 9, ground := Go.Ground.textOnly Go.Departure.lateStores }, { on := 10, ground := Go.Ground.textOnly Go.Departure.lateStores }, { on := 11, ground := Go.Ground.textOnly Go.Departure.lateStores }, { on := 12, ground := Go.Ground.textOnly Go.Departure.lateStores }, { on := 13, ground := Go.Ground.textOnly Go.Departure.lateStores }, { on := 14, ground := Go.Ground.textOnly Go.Departure.lateStores }, { on := 15, ground := Go.Ground.textOnly Go.Departure.lateStores }, { on := 16, ground := Go.Ground.textOnly Go.Departure.lateStores }, { on := 17, ground := Go.Ground.textOnly Go.Departure.lateStores }, { on := 18, ground := Go.Ground.textOnly Go.Departure.lateStoresUnsure }, { on := 19, ground := Go.Ground.textOnly Go.Departure.lateStoresUnsure }, { on := 20, ground := Go.Ground.textOnly Go.Departure.lateStores }], guard := none }
def tyB0r1_22 : Oper := { dst := some 5, op := Go.Op.assign (Go.Operand.tmp 26), type := 4, pos := "rule.go:36", after := #[{ on := 20, ground := Go.Ground.data }, { on := 21, ground := Go.Ground.chain }, { on := 0, ground := Go.Ground.phase }, { on := 1, ground := Go.Ground.phase }, { on := 2, ground := Go.Ground.phase }, { on := 3, ground := Go.Ground.phase }, { on := 4, ground := Go.Ground.phase }, { on := 5, ground := Go.Ground.phase }, { on := 6, ground := Go.Ground.phase }, { on := 7, ground := Go.Ground.phase }, { on := 8, ground := Go.Ground.phase }, { on := 9, ground := Go.Ground.phase }, { on := 10, ground := Go.Ground.phase }, { on := 11, ground := Go.Ground.phase }, { on := 12, ground := Go.Ground.phase }, { on := 13, ground := Go.Ground.phase }, { on := 14, ground := Go.Ground.phase }, { on := 15, ground := Go.Ground.phase }, { on := 16, ground := Go.Ground.phase }, { on := 17, ground := Go.Ground.phase }, { on := 18, ground := Go.Ground.phase }, { on := 19, ground := Go.Ground.phase }, { on := 20, ground := Go.Ground.phase }, { on := 21, ground := Go.Ground.phase }], guard := none }
set_option maxRecDepth 20000 in
set_option maxHeartbeats 4000000 in
theorem tyB0_any (i : Int) (u : Tm) (v : Tm) (x : Tm) (P : Nat → Prop) (w : World) (su : Value) (sv : Value) (sx : Value) (hfu : u.fine) (hlu : LiesQ w P u.kids su) (hfv : v.fine) (hlv : LiesQ w P v.kids sv) (hfx : x.fine) (hlx : LiesQ w P x.kids sx) (hri : I64 i) (hi0 : 0 ≤ i) (hi1 : i ≤ 1000) (h1 : ¬ 1 ≤ i) : Calls Try.prog 33 #[.agg #[.bool false, .int .i64 u.k, .int .i64 u.i, .int .i64 u.j, .int .i64 u.n, su, .int .i64 v.k, .int .i64 v.i, .int .i64 v.j, .int .i64 v.n, sv, .int .i64 x.k, .int .i64 x.i, .int .i64 x.j, .int .i64 x.n, sx, .int .i64 i], .bool false] w fun e w' => e = .returned (.tuple #[.int .i64 (i - 1), .bool (false)]) ∧ Kept w w' := by
  have Gu := Lib.hid hfu
  clear hfu
  obtain ⟨au, cu, Su, rfl, -⟩ := hlu.out
  have Gv := Lib.hid hfv
  clear hfv
  obtain ⟨av, cv, Sv, rfl, -⟩ := hlv.out
  have Gx := Lib.hid hfx
  clear hfx
  obtain ⟨ax, cx, Sx, rfl, -⟩ := hlx.out
  have Ri := Lib.hid hri
  clear hri
  have ew : IntKind.i64.wrap (i - 1) = i - 1 := IntWalk.i64_in _ (by omega)
  have HR1 := Lib.hid (show I64 (i - 1) by unfold I64; omega)
  have e1 : decide (1 ≤ i) = false := decide_eq_false h1
  clear hi0 hi1 h1
  obtain ⟨dj, dj1, dj2⟩ := under_of 34 (by kernel_rfl)
  obtain ⟨du, hu1, hu2⟩ := under_term
  go_enter Try.func33, Try.ntmps33
  go_upto_region 1 with fail
  refine at_code (fun V0 hV0 => ?_)
  obtain ⟨k2, x1, z3⟩ := alloc1 hV0
  have Kk4 := Lib.hid k2
  clear k2
  have Hx1 := Lib.hid x1
  have Z0 := Lib.hid z3
  clear z3 x1 hV0
  have HLu : Hid (LiesQ V0 (Par w V0.heap.size [] P) u.kids _) := (par_in _ _ hlu).later Kk4.out
  clear hlu
  have HLv : Hid (LiesQ V0 (Par w V0.heap.size [] P) v.kids _) := (par_in _ _ hlv).later Kk4.out
  clear hlv
  have HLx : Hid (LiesQ V0 (Par w V0.heap.size [] P) x.kids _) := (par_in _ _ hlx).later Kk4.out
  clear hlx
  have ld5 := partN_cell (r := V0.heap.size) Hx1.out trivial 0 (.bool false) rfl
  have ld6 := partN_cell (r := V0.heap.size) Hx1.out trivial 16 (.int .i64 i) rfl
  have kvV0 : SeesN V0 V0.heap.size V0 := seesN_kept _ (kept_refl _)
  go_wp2_with fail
  clear kvV0
  obtain ⟨W7, h8⟩ : ∃ x, World.drew V0 = x := ⟨_, rfl⟩
  have k9 : Kept V0 W7 := by rw [← h8]; exact kept_drew (kept_refl _)
  have Kk10 := Lib.hid k9
  clear k9
  refine wp_region_held_drew (S := SeesN W7 V0.heap.size) (by kernel_rfl) ?_ (fun hHeld => ?_)
  · (try dsimp only)
    rw [h8]
    exact seesN_kept _ (kept_refl _)
  rw [h8] at hHeld ⊢
  clear h8
  refine take_at 0 6 tyB0r1_0 (v := ?_) (Or.inl ⟨by rfl, ?_⟩) ?_
  rotate_left 1
  · ((intro w hSw; (try dsimp only at hSw); unfold tyB0r1_0; go_simp) <;> with_reducible rfl)
  (try simp only [Act.put, List.setIfInBounds_toArray, List.set_cons_zero, List.set_cons_succ])
  refine take_at 1 7 tyB0r1_1 (v := ?_) (Or.inl ⟨by rfl, ?_⟩) ?_
  rotate_left 1
  · ((intro w hSw; (try dsimp only at hSw); have qV0 := seesN_of Kk10.out hSw; unfold tyB0r1_1; go_simp) <;> with_reducible rfl)
  (try simp only [Act.put, List.setIfInBounds_toArray, List.set_cons_zero, List.set_cons_succ])
  refine take_at 2 8 tyB0r1_2 (v := ?_) (Or.inl ⟨by rfl, ?_⟩) ?_
  rotate_left 1
  · ((intro w hSw; (try dsimp only at hSw); unfold tyB0r1_2; go_simp) <;> with_reducible rfl)
  (try simp only [Act.put, List.setIfInBounds_toArray, List.set_cons_zero, List.set_cons_succ])
  refine take_at 3 9 tyB0r1_3 (v := ?_) (Or.inl ⟨by rfl, ?_⟩) ?_
  rotate_left 1
  · ((intro w hSw; (try dsimp only at hSw); unfold tyB0r1_3; go_simp) <;> with_reducible rfl)
  (try simp only [Act.put, List.setIfInBounds_toArray, List.set_cons_zero, List.set_cons_succ])
  refine take_at 4 10 tyB0r1_4 (v := ?_) (Or.inl ⟨by rfl, ?_⟩) ?_
  rotate_left 1
  · ((intro w hSw; (try dsimp only at hSw); have qV0 := seesN_of Kk10.out hSw; unfold tyB0r1_4; go_simp) <;> with_reducible rfl)
  (try simp only [Act.put, List.setIfInBounds_toArray, List.set_cons_zero, List.set_cons_succ])
  refine take_at 5 11 tyB0r1_5 (v := ?_) (Or.inl ⟨by rfl, ?_⟩) ?_
  rotate_left 1
  · ((intro w hSw; (try dsimp only at hSw); unfold tyB0r1_5; go_simp) <;> with_reducible rfl)
  (try simp only [Act.put, List.setIfInBounds_toArray, List.set_cons_zero, List.set_cons_succ])
  refine take_at 6 12 tyB0r1_6 (v := ?_) (Or.inl ⟨by rfl, ?_⟩) ?_
  rotate_left 1
  · ((intro w hSw; (try dsimp only at hSw); unfold tyB0r1_6; go_simp) <;> with_reducible rfl)
  (try simp only [Act.put, List.setIfInBounds_toArray, List.set_cons_zero, List.set_cons_succ])
  refine take_at 7 13 tyB0r1_7 (v := ?_) (Or.inl ⟨by rfl, ?_⟩) ?_
  rotate_left 1
  · ((intro w hSw; (try dsimp only at hSw); unfold tyB0r1_7; go_simp) <;> with_reducible rfl)
  (try simp only [Act.put, List.setIfInBounds_toArray, List.set_cons_zero, List.set_cons_succ])
  refine take_at 8 14 tyB0r1_8 (v := ?_) (Or.inl ⟨by rfl, ?_⟩) ?_
  rotate_left 1
  · ((intro w hSw; (try dsimp only at hSw); unfold tyB0r1_8; go_simp) <;> with_reducible rfl)
  (try simp only [Act.put, List.setIfInBounds_toArray, List.set_cons_zero, List.set_cons_succ])
  refine take_at 9 15 tyB0r1_9 (v := ?_) (Or.inl ⟨by rfl, ?_⟩) ?_
  rotate_left 1
  · ((intro w hSw; (try dsimp only at hSw); have qV0 := seesN_of Kk10.out hSw; unfold tyB0r1_9; go_simp) <;> with_reducible rfl)
  (try simp only [Act.put, List.setIfInBounds_toArray, List.set_cons_zero, List.set_cons_succ])
  refine take_at 10 16 tyB0r1_10 (v := ?_) (Or.inl ⟨by rfl, ?_⟩) ?_
  rotate_left 1
  · ((intro w hSw; (try dsimp only at hSw); unfold tyB0r1_10; go_simp) <;> with_reducible rfl)
  (try simp only [Act.put, List.setIfInBounds_toArray, List.set_cons_zero, List.set_cons_succ])
  refine take_at 11 17 tyB0r1_11 (v := ?_) (Or.inl ⟨by rfl, ?_⟩) ?_
  rotate_left 1
  · ((intro w hSw; (try dsimp only at hSw); unfold tyB0r1_11; go_simp) <;> with_reducible rfl)
  (try simp only [Act.put, List.setIfInBounds_toArray, List.set_cons_zero, List.set_cons_succ])
  refine take_at 12 18 tyB0r1_12 (v := ?_) (Or.inl ⟨by rfl, ?_⟩) ?_
  rotate_left 1
  · ((intro w hSw; (try dsimp only at hSw); unfold tyB0r1_12; go_simp) <;> with_reducible rfl)
  (try simp only [Act.put, List.setIfInBounds_toArray, List.set_cons_zero, List.set_cons_succ])
  refine take_at 13 19 tyB0r1_13 (v := undef) (Or.inr ⟨by rfl, rfl⟩) ?_
  (try simp only [Act.put, List.setIfInBounds_toArray, List.set_cons_zero, List.set_cons_succ])
  refine take_at 14 20 tyB0r1_14 (v := undef) (Or.inr ⟨by rfl, rfl⟩) ?_
  (try simp only [Act.put, List.setIfInBounds_toArray, List.set_cons_zero, List.set_cons_succ])
  refine take_at 15 21 tyB0r1_15 (v := undef) (Or.inr ⟨by rfl, rfl⟩) ?_
  (try simp only [Act.put, List.setIfInBounds_toArray, List.set_cons_zero, List.set_cons_succ])
  refine take_at 16 22 tyB0r1_16 (v := undef) (Or.inr ⟨by rfl, rfl⟩) ?_
  (try simp only [Act.put, List.setIfInBounds_toArray, List.set_cons_zero, List.set_cons_succ])
  refine take_at 17 23 tyB0r1_17 (v := undef) (Or.inr ⟨by rfl, rfl⟩) ?_
  (try simp only [Act.put, List.setIfInBounds_toArray, List.set_cons_zero, List.set_cons_succ])
  refine take_at 18 24 tyB0r1_18 (v := undef) (Or.inr ⟨by rfl, rfl⟩) ?_
  (try simp only [Act.put, List.setIfInBounds_toArray, List.set_cons_zero, List.set_cons_succ])
  refine take_at 19 25 tyB0r1_19 (v := undef) (Or.inr ⟨by rfl, rfl⟩) ?_
  (try simp only [Act.put, List.setIfInBounds_toArray, List.set_cons_zero, List.set_cons_succ])
  refine take_at 20 26 tyB0r1_20 (v := ?_) (Or.inl ⟨by rfl, ?_⟩) ?_
  rotate_left 1
  · ((intro w hSw; (try dsimp only at hSw); unfold tyB0r1_20; go_simp) <;> with_reducible rfl)
  (try simp only [Act.put, List.setIfInBounds_toArray, List.set_cons_zero, List.set_cons_succ])
  refine take_at 21 4 tyB0r1_21 (v := ?_) (Or.inl ⟨by rfl, ?_⟩) ?_
  rotate_left 1
  · ((intro w hSw; (try dsimp only at hSw); unfold tyB0r1_21; go_simp) <;> with_reducible rfl)
  (try simp only [Act.put, List.setIfInBounds_toArray, List.set_cons_zero, List.set_cons_succ])
  refine take_at 22 5 tyB0r1_22 (v := ?_) (Or.inl ⟨by rfl, ?_⟩) ?_
  rotate_left 1
  · ((intro w hSw; (try dsimp only at hSw); unfold tyB0r1_22; go_simp) <;> with_reducible rfl)
  (try simp only [Act.put, List.setIfInBounds_toArray, List.set_cons_zero, List.set_cons_succ])
  refine wpAnyH_done (by kernel_rfl) ?_ _
  clear hHeld
  have kvV0 : SeesN V0 V0.heap.size W7 := seesN_kept _ Kk10.out
  go_wp2
  go_ret2
  exact ⟨by first | rfl | (rw [show True = True from rfl]; rfl), (kept_trans Kk4.out Kk10.out)⟩

def tyA0r1_0 : Oper := { dst := some 6, op := Go.Op.fieldAddr 34 (Go.Operand.tmp 2) 4, type := 0, pos := "rule.go:36", after := #[], guard := none }
def tyA0r1_1 : Oper := { dst := some 7, op := Go.Op.load 3 (Go.Operand.tmp 6), type := 3, pos := "rule.go:36", after := #[{ on := 0, ground := Go.Ground.data }], guard := none }
def tyA0r1_2 : Oper := { dst := some 8, op := Go.Op.binOp Go.BinOp.sub 3 (Go.Operand.tmp 7) (Go.Operand.const (Go.Value.int Go.IntKind.i64 1)) 3, type := 3, pos := "rule.go:36", after := #[{ on := 1, ground := Go.Ground.data }], guard := none }
def tyA0r1_3 : Oper := { dst := some 9, op := Go.Op.fieldAddr 34 (Go.Operand.tmp 2) 0, type := 0, pos := "rule.go:36", after := #[], guard := none }
def tyA0r1_4 : Oper := { dst := some 10, op := Go.Op.load 4 (Go.Operand.tmp 9), type := 4, pos := "rule.go:36", after := #[{ on := 3, ground := Go.Ground.data }], guard := none }
def tyA0r1_5 : Oper := { dst := some 11, op := Go.Op.move (Go.Operand.tmp 1), type := 4, pos := "rule.go:36", after := #[], guard := none }
def tyA0r1_6 : Oper := { dst := some 12, op := Go.Op.binOp Go.BinOp.eql 4 (Go.Operand.tmp 10) (Go.Operand.tmp 11) 4, type := 4, pos := "rule.go:36", after := #[{ on := 4, ground := Go.Ground.data }, { on := 5, ground := Go.Ground.data }], guard := none }
def tyA0r1_7 : Oper := { dst := some 13, op := Go.Op.move (Go.Operand.tmp 12), type := 4, pos := "rule.go:36", after := #[{ on := 6, ground := Go.Ground.data }], guard := none }
def tyA0r1_8 : Oper := { dst := some 14, op := Go.Op.fieldAddr 34 (Go.Operand.tmp 2) 4, type := 0, pos := "rule.go:36", after := #[{ on := 7, ground := Go.Ground.guard }], guard := some (7, true) }
def tyA0r1_9 : Oper := { dst := some 15, op := Go.Op.load 3 (Go.Operand.tmp 14), type := 3, pos := "rule.go:36", after := #[{ on := 8, ground := Go.Ground.data }, { on := 7, ground := Go.Ground.guard }], guard := some (7, true) }
def tyA0r1_10 : Oper := { dst := some 16, op := Go.Op.binOp Go.BinOp.geq 3 (Go.Operand.tmp 15) (Go.Operand.const (Go.Value.int Go.IntKind.i64 1)) 3, type := 4, pos := "rule.go:36", after := #[{ on := 9, ground := Go.Ground.data }, { on := 7, ground := Go.Ground.guard }], guard := some (7, true) }
def tyA0r1_11 : Oper := { dst := some 17, op := Go.Op.pick (Go.Operand.tmp 13) (Go.Operand.tmp 16) (Go.Operand.const (Go.Value.bool false)), type := 4, pos := "rule.go:36", after := #[{ on := 7, ground := Go.Ground.data }, { on := 10, ground := Go.Ground.data }], guard := none }
def tyA0r1_12 : Oper := { dst := some 18, op := Go.Op.move (Go.Operand.tmp 17), type := 4, pos := "rule.go:36", after := #[{ on := 11, ground := Go.Ground.data }, { on := 7, ground := Go.Ground.chain }], guard := none }
def tyA0r1_13 : Oper := { dst := some 19, op := Go.Op.fieldAddr 34 (Go.Operand.tmp 2) 3, type := 0, pos := "rule.go:36", after := #[{ on := 12, ground := Go.Ground.guard }], guard := some (12, true) }
def tyA0r1_14 : Oper := { dst := some 20, op := Go.Op.load 32 (Go.Operand.tmp 19), type := 32, pos := "rule.go:36", after := #[{ on := 13, ground := Go.Ground.data }, { on := 12, ground := Go.Ground.guard }], guard := some (12, true) }
def tyA0r1_15 : Oper := { dst := some 21, op := Go.Op.fieldAddr 34 (Go.Operand.tmp 2) 4, type := 0, pos := "rule.go:36", after := #[{ on := 12, ground := Go.Ground.guard }], guard := some (12, true) }
def tyA0r1_16 : Oper := { dst := some 22, op := Go.Op.load 3 (Go.Operand.tmp 21), type := 3, pos := "rule.go:36", after := #[{ on := 15, ground := Go.Ground.data }, { on := 12, ground := Go.Ground.guard }], guard := some (12, true) }
def tyA0r1_17 : Oper := { dst := some 23, op := Go.Op.binOp Go.BinOp.sub 3 (Go.Operand.tmp 22) (Go.Operand.const (Go.Value.int Go.IntKind.i64 1)) 3, type := 3, pos := "rule.go:36", after := #[{ on := 16, ground := Go.Ground.data }, { on := 12, ground := Go.Ground.guard }], guard := some (12, true) }
def tyA0r1_18 : Oper := { dst := some 24, op := Go.Op.call { callee := Go.Callee.value (Go.Operand.func 51), args := #[Go.Operand.tmp 23], argTypes := #[3] }, type := 32, pos := "rule.go:36", after := #[{ on := 17, ground := Go.Ground.data }, { on := 12, ground := Go.Ground.chain }, { on := 12, ground := Go.Ground.guard }], guard := some (12, true) }
def tyA0r1_19 : Oper := { dst := some 25, op := Go.Op.call { callee := Go.Callee.value (Go.Operand.func 50), args := #[Go.Operand.tmp 20, Go.Operand.tmp 24], argTypes := #[32, 32] }, type := 4, pos := "rule.go:36", after := #[{ on := 14, ground := Go.Ground.data }, { on := 18, ground := Go.Ground.data }, { on := 18, ground := Go.Ground.chain }, { on := 12, ground := Go.Ground.guard }], guard := some (12, true) }
def tyA0r1_20 : Oper := { dst := some 26, op := Go.Op.pick (Go.Operand.tmp 18) (Go.Operand.tmp 25) (Go.Operand.const (Go.Value.bool false)), type := 4, pos := "rule.go:36", after := #[{ on := 12, ground := Go.Ground.data }, { on := 19, ground := Go.Ground.data }, { on := 21, ground := Go.Ground.gcOnly Go.Departure.lateStores }], guard := none }
def tyA0r1_21 : Oper := { dst := some 4, op := Go.Op.assign (Go.Operand.tmp 8), type := 3, pos := "rule.go:36", after := #[{ on := 2, ground := Go.Ground.data }, { on := 19, ground := Go.Ground.chain }, { on := 0, ground := Go.Ground.phase }, { on := 1, ground := Go.Ground.phase }, { on := 2, ground := Go.Ground.phase }, { on := 3, ground := Go.Ground.textOnly Go.Departure.lateStores }, { on := 4, ground := Go.Ground.textOnly Go.Departure.lateStores }, { on := 5, ground := Go.Ground.textOnly Go.Departure.lateStores }, { on := 6, ground := Go.Ground.textOnly Go.Departure.lateStores }, { on := 7, ground := Go.Ground.textOnly Go.Departure.lateStores }, { on := 8, ground := Go.Ground.textOnly Go.Departure.lateStores }, { on := 9, ground := Go.Ground.textOnly Go.Departure.lateStores }, { on := 10, ground := Go.Ground.textOnly Go.Departure.lateStores }, { on := 11, ground := Go.Ground.textOnly Go.Departure.lateStores }, { on := 12, ground := Go.Ground.textOnly Go.Departure.lateStores }, { on := 13, ground := Go.Ground.textOnly Go.Departure.lateStores }, { on := 14, ground := Go.Ground.textOnly Go.Departure.lateStores }, { on := 15, ground := Go.Ground.textOnly Go.Departure.lateStores }, { on := 16, ground := Go.Ground.textOnly Go.Departure.lateStores }, { on := 17, ground := Go.Ground.textOnly Go.Departure.lateStores }, { on := 18, ground := Go.Ground.textOnly Go.Departure.lateStoresUnsure }, { on := 19, ground := Go.Ground.textOnly Go.Departure.lateStoresUnsure }, { on := 20, ground := Go.Ground.textOnly Go.Departure.lateStores }], guard := none }
def tyA0r1_22 : Oper := { dst := some 5, op := Go.Op.assign (Go.Operand.tmp 26), type := 4, pos := "rule.go:36", after := #[{ on := 20, ground := Go.Ground.data }, { on := 21, ground := Go.Ground.chain }, { on := 0, ground := Go.Ground.phase }, { on := 1, ground := Go.Ground.phase }, { on := 2, ground := Go.Ground.phase }, { on := 3, ground := Go.Ground.phase }, { on := 4, ground := Go.Ground.phase }, { on := 5, ground := Go.Ground.phase }, { on := 6, ground := Go.Ground.phase }, { on := 7, ground := Go.Ground.phase }, { on := 8, ground := Go.Ground.phase }, { on := 9, ground := Go.Ground.phase }, { on := 10, ground := Go.Ground.phase }, { on := 11, ground := Go.Ground.phase }, { on := 12, ground := Go.Ground.phase }, { on := 13, ground := Go.Ground.phase }, { on := 14, ground := Go.Ground.phase }, { on := 15, ground := Go.Ground.phase }, { on := 16, ground := Go.Ground.phase }, { on := 17, ground := Go.Ground.phase }, { on := 18, ground := Go.Ground.phase }, { on := 19, ground := Go.Ground.phase }, { on := 20, ground := Go.Ground.phase }, { on := 21, ground := Go.Ground.phase }], guard := none }
set_option maxRecDepth 20000 in
set_option maxHeartbeats 4000000 in
theorem tyA0_any (i : Int) (u : Tm) (v : Tm) (x : Tm) (P : Nat → Prop) (w : World) (su : Value) (sv : Value) (sx : Value) (hfu : u.fine) (hlu : LiesQ w P u.kids su) (hfv : v.fine) (hlv : LiesQ w P v.kids sv) (hfx : x.fine) (hlx : LiesQ w P x.kids sx) (hri : I64 i) (hi0 : 0 ≤ i) (hi1 : i ≤ 1000) (h1 : 1 ≤ i) : Calls Try.prog 33 #[.agg #[.bool false, .int .i64 u.k, .int .i64 u.i, .int .i64 u.j, .int .i64 u.n, su, .int .i64 v.k, .int .i64 v.i, .int .i64 v.j, .int .i64 v.n, sv, .int .i64 x.k, .int .i64 x.i, .int .i64 x.j, .int .i64 x.n, sx, .int .i64 i], .bool false] w fun e w' => e = .returned (.tuple #[.int .i64 (i - 1), .bool (sameB x (.mk 1 (i - 1) 0 0 []))]) ∧ Kept w w' := by
  have Gu := Lib.hid hfu
  clear hfu
  obtain ⟨au, cu, Su, rfl, -⟩ := hlu.out
  have Gv := Lib.hid hfv
  clear hfv
  obtain ⟨av, cv, Sv, rfl, -⟩ := hlv.out
  have Gx := Lib.hid hfx
  clear hfx
  obtain ⟨ax, cx, Sx, rfl, -⟩ := hlx.out
  have Ri := Lib.hid hri
  clear hri
  have ew : IntKind.i64.wrap (i - 1) = i - 1 := IntWalk.i64_in _ (by omega)
  have HR1 := Lib.hid (show I64 (i - 1) by unfold I64; omega)
  have e1 : decide (1 ≤ i) = true := decide_eq_true h1
  clear hi0 hi1 h1
  obtain ⟨dj, dj1, dj2⟩ := under_of 34 (by kernel_rfl)
  obtain ⟨du, hu1, hu2⟩ := under_term
  go_enter Try.func33, Try.ntmps33
  go_upto_region 1 with fail
  refine at_code (fun V0 hV0 => ?_)
  obtain ⟨k2, x1, z3⟩ := alloc1 hV0
  have Kk4 := Lib.hid k2
  clear k2
  have Hx1 := Lib.hid x1
  have Z0 := Lib.hid z3
  clear z3 x1 hV0
  have HLu : Hid (LiesQ V0 (Par w V0.heap.size [] P) u.kids _) := (par_in _ _ hlu).later Kk4.out
  clear hlu
  have HLv : Hid (LiesQ V0 (Par w V0.heap.size [] P) v.kids _) := (par_in _ _ hlv).later Kk4.out
  clear hlv
  have HLx : Hid (LiesQ V0 (Par w V0.heap.size [] P) x.kids _) := (par_in _ _ hlx).later Kk4.out
  clear hlx
  have ld5 := partN_cell (r := V0.heap.size) Hx1.out trivial 0 (.bool false) rfl
  have ld6 := partN_cell (r := V0.heap.size) Hx1.out trivial 16 (.int .i64 i) rfl
  have kvV0 : SeesN V0 V0.heap.size V0 := seesN_kept _ (kept_refl _)
  go_wp2_with fail
  clear kvV0
  obtain ⟨W7, h8⟩ : ∃ x, World.drew V0 = x := ⟨_, rfl⟩
  have k9 : Kept V0 W7 := by rw [← h8]; exact kept_drew (kept_refl _)
  have Kk10 := Lib.hid k9
  clear k9
  refine wp_region_held_drew (S := SeesN W7 V0.heap.size) (by kernel_rfl) ?_ (fun hHeld => ?_)
  · (try dsimp only)
    rw [h8]
    exact seesN_kept _ (kept_refl _)
  rw [h8] at hHeld ⊢
  clear h8
  refine take_at 0 6 tyA0r1_0 (v := ?_) (Or.inl ⟨by rfl, ?_⟩) ?_
  rotate_left 1
  · ((intro w hSw; (try dsimp only at hSw); unfold tyA0r1_0; go_simp) <;> with_reducible rfl)
  (try simp only [Act.put, List.setIfInBounds_toArray, List.set_cons_zero, List.set_cons_succ])
  refine take_at 1 7 tyA0r1_1 (v := ?_) (Or.inl ⟨by rfl, ?_⟩) ?_
  rotate_left 1
  · ((intro w hSw; (try dsimp only at hSw); have qV0 := seesN_of Kk10.out hSw; unfold tyA0r1_1; go_simp) <;> with_reducible rfl)
  (try simp only [Act.put, List.setIfInBounds_toArray, List.set_cons_zero, List.set_cons_succ])
  refine take_at 2 8 tyA0r1_2 (v := ?_) (Or.inl ⟨by rfl, ?_⟩) ?_
  rotate_left 1
  · ((intro w hSw; (try dsimp only at hSw); unfold tyA0r1_2; go_simp) <;> with_reducible rfl)
  (try simp only [Act.put, List.setIfInBounds_toArray, List.set_cons_zero, List.set_cons_succ])
  refine take_at 3 9 tyA0r1_3 (v := ?_) (Or.inl ⟨by rfl, ?_⟩) ?_
  rotate_left 1
  · ((intro w hSw; (try dsimp only at hSw); unfold tyA0r1_3; go_simp) <;> with_reducible rfl)
  (try simp only [Act.put, List.setIfInBounds_toArray, List.set_cons_zero, List.set_cons_succ])
  refine take_at 4 10 tyA0r1_4 (v := ?_) (Or.inl ⟨by rfl, ?_⟩) ?_
  rotate_left 1
  · ((intro w hSw; (try dsimp only at hSw); have qV0 := seesN_of Kk10.out hSw; unfold tyA0r1_4; go_simp) <;> with_reducible rfl)
  (try simp only [Act.put, List.setIfInBounds_toArray, List.set_cons_zero, List.set_cons_succ])
  refine take_at 5 11 tyA0r1_5 (v := ?_) (Or.inl ⟨by rfl, ?_⟩) ?_
  rotate_left 1
  · ((intro w hSw; (try dsimp only at hSw); unfold tyA0r1_5; go_simp) <;> with_reducible rfl)
  (try simp only [Act.put, List.setIfInBounds_toArray, List.set_cons_zero, List.set_cons_succ])
  refine take_at 6 12 tyA0r1_6 (v := ?_) (Or.inl ⟨by rfl, ?_⟩) ?_
  rotate_left 1
  · ((intro w hSw; (try dsimp only at hSw); unfold tyA0r1_6; go_simp) <;> with_reducible rfl)
  (try simp only [Act.put, List.setIfInBounds_toArray, List.set_cons_zero, List.set_cons_succ])
  refine take_at 7 13 tyA0r1_7 (v := ?_) (Or.inl ⟨by rfl, ?_⟩) ?_
  rotate_left 1
  · ((intro w hSw; (try dsimp only at hSw); unfold tyA0r1_7; go_simp) <;> with_reducible rfl)
  (try simp only [Act.put, List.setIfInBounds_toArray, List.set_cons_zero, List.set_cons_succ])
  refine take_at 8 14 tyA0r1_8 (v := ?_) (Or.inl ⟨by rfl, ?_⟩) ?_
  rotate_left 1
  · ((intro w hSw; (try dsimp only at hSw); unfold tyA0r1_8; go_simp) <;> with_reducible rfl)
  (try simp only [Act.put, List.setIfInBounds_toArray, List.set_cons_zero, List.set_cons_succ])
  refine take_at 9 15 tyA0r1_9 (v := ?_) (Or.inl ⟨by rfl, ?_⟩) ?_
  rotate_left 1
  · ((intro w hSw; (try dsimp only at hSw); have qV0 := seesN_of Kk10.out hSw; unfold tyA0r1_9; go_simp) <;> with_reducible rfl)
  (try simp only [Act.put, List.setIfInBounds_toArray, List.set_cons_zero, List.set_cons_succ])
  refine take_at 10 16 tyA0r1_10 (v := ?_) (Or.inl ⟨by rfl, ?_⟩) ?_
  rotate_left 1
  · ((intro w hSw; (try dsimp only at hSw); unfold tyA0r1_10; go_simp) <;> with_reducible rfl)
  (try simp only [Act.put, List.setIfInBounds_toArray, List.set_cons_zero, List.set_cons_succ])
  refine take_at 11 17 tyA0r1_11 (v := ?_) (Or.inl ⟨by rfl, ?_⟩) ?_
  rotate_left 1
  · ((intro w hSw; (try dsimp only at hSw); unfold tyA0r1_11; go_simp) <;> with_reducible rfl)
  (try simp only [Act.put, List.setIfInBounds_toArray, List.set_cons_zero, List.set_cons_succ])
  refine take_at 12 18 tyA0r1_12 (v := ?_) (Or.inl ⟨by rfl, ?_⟩) ?_
  rotate_left 1
  · ((intro w hSw; (try dsimp only at hSw); unfold tyA0r1_12; go_simp) <;> with_reducible rfl)
  (try simp only [Act.put, List.setIfInBounds_toArray, List.set_cons_zero, List.set_cons_succ])
  refine take_at 13 19 tyA0r1_13 (v := ?_) (Or.inl ⟨by rfl, ?_⟩) ?_
  rotate_left 1
  · ((intro w hSw; (try dsimp only at hSw); unfold tyA0r1_13; go_simp) <;> with_reducible rfl)
  (try simp only [Act.put, List.setIfInBounds_toArray, List.set_cons_zero, List.set_cons_succ])
  refine take_at 14 20 tyA0r1_14 (yields_part (w.heap.size) (11) 32 (.tmp 19) #[.int .i64 x.k, .int .i64 x.i, .int .i64 x.j, .int .i64 x.n, (.slice ax x.kids.length cx)] du (fun _ h => seesN_blk Hx1.out trivial (seesN_of Kk10.out h)) (by rfl) rfl (by rfl) (by rfl) hu1 (by cases du <;> first | rfl | exact hu2) size_term) ?_
  (try simp only [Act.put, List.setIfInBounds_toArray, List.set_cons_zero, List.set_cons_succ])
  refine take_at 15 21 tyA0r1_15 (v := ?_) (Or.inl ⟨by rfl, ?_⟩) ?_
  rotate_left 1
  · ((intro w hSw; (try dsimp only at hSw); unfold tyA0r1_15; go_simp) <;> with_reducible rfl)
  (try simp only [Act.put, List.setIfInBounds_toArray, List.set_cons_zero, List.set_cons_succ])
  refine take_at 16 22 tyA0r1_16 (v := ?_) (Or.inl ⟨by rfl, ?_⟩) ?_
  rotate_left 1
  · ((intro w hSw; (try dsimp only at hSw); have qV0 := seesN_of Kk10.out hSw; unfold tyA0r1_16; go_simp) <;> with_reducible rfl)
  (try simp only [Act.put, List.setIfInBounds_toArray, List.set_cons_zero, List.set_cons_succ])
  refine take_at 17 23 tyA0r1_17 (v := ?_) (Or.inl ⟨by rfl, ?_⟩) ?_
  rotate_left 1
  · ((intro w hSw; (try dsimp only at hSw); unfold tyA0r1_17; go_simp) <;> with_reducible rfl)
  (try simp only [Act.put, List.setIfInBounds_toArray, List.set_cons_zero, List.set_cons_succ])
  refine wpAnyH_ready (rs := [18]) (by kernel_rfl) (by simp) ?_
  refine AllReadyH.cons (o := tyA0r1_18) rfl (fun K hK => ?_) ?_
  · unfold tyA0r1_18
    go_simp
    refine (sort11_any (i - 1) (Par w V0.heap.size [] P) _ HR1.out).mono ?_
    obtain ⟨U18, hU18⟩ : ∃ qu, (Tm.mk 1 (i - 1) 0 0 []) = qu := ⟨_, rfl⟩
    rw [hU18]
    have HU18 := Lib.hid hU18
    clear hU18
    rintro e w11 ⟨s13, rfl, hl14, k12⟩
    obtain ⟨a15, c16, S17, rfl, -⟩ := hl14.out
    have Kk19 := Lib.hid k12
    clear k12
    have Hhl14 : Hid (LiesQ w11 (Par w V0.heap.size [] P) U18.kids _) := par_give hl14 (Below.size Kk10.out) (xlt_nil _)
    clear hl14
    clear hHeld
    refine hK.out _ _ (seesN_kept _ Kk19.out) (fun hHeld => ?_)
    clear hK K
    (try simp only [Act.put, List.setIfInBounds_toArray, List.set_cons_zero, List.set_cons_succ])
    refine wpAnyH_ready (rs := [19]) (by kernel_rfl) (by simp) ?_
    refine AllReadyH.cons (o := tyA0r1_19) rfl (fun K hK => ?_) ?_
    · unfold tyA0r1_19
      go_simp
      refine (same11_any x U18 (Par w V0.heap.size [] P) _ ((.slice ax x.kids.length cx)) ((.slice a15 U18.kids.length c16)) Gx.out (HLx.out.later (kept_trans Kk10.out Kk19.out)) (by rw [← HU18.out]; exact (mk_fine (by unfold I64; decide) HR1.out (by unfold I64; decide) (by unfold I64; decide))) Hhl14.out).mono ?_
      obtain ⟨rb23, hb22⟩ : ∃ qb, (sameB x U18) = qb := ⟨_, rfl⟩
      rw [hb22]
      have Hhb22 := Lib.hid hb22
      clear hb22
      rintro e w20 ⟨rfl, k21⟩
      have Kk24 := Lib.hid k21
      clear k21
      cases rb23 with
      | false =>
        clear hHeld
        refine hK.out _ _ (seesN_kept _ (kept_trans Kk19.out Kk24.out)) (fun hHeld => ?_)
        clear hK K
        (try simp only [Act.put, List.setIfInBounds_toArray, List.set_cons_zero, List.set_cons_succ])
        refine take_at 20 26 tyA0r1_20 (v := ?_) (Or.inl ⟨by rfl, ?_⟩) ?_
        rotate_left 1
        · ((intro w hSw; (try dsimp only at hSw); unfold tyA0r1_20; go_simp) <;> with_reducible rfl)
        (try simp only [Act.put, List.setIfInBounds_toArray, List.set_cons_zero, List.set_cons_succ])
        refine take_at 21 4 tyA0r1_21 (v := ?_) (Or.inl ⟨by rfl, ?_⟩) ?_
        rotate_left 1
        · ((intro w hSw; (try dsimp only at hSw); unfold tyA0r1_21; go_simp) <;> with_reducible rfl)
        (try simp only [Act.put, List.setIfInBounds_toArray, List.set_cons_zero, List.set_cons_succ])
        refine take_at 22 5 tyA0r1_22 (v := ?_) (Or.inl ⟨by rfl, ?_⟩) ?_
        rotate_left 1
        · ((intro w hSw; (try dsimp only at hSw); unfold tyA0r1_22; go_simp) <;> with_reducible rfl)
        (try simp only [Act.put, List.setIfInBounds_toArray, List.set_cons_zero, List.set_cons_succ])
        refine wpAnyH_done (by kernel_rfl) ?_ _
        clear hHeld
        have kvV0 : SeesN V0 V0.heap.size w20 := seesN_kept _ (kept_trans Kk10.out (kept_trans Kk19.out Kk24.out))
        go_wp2
        go_ret2
        exact ⟨by first | rfl | (rw [HU18.out, Hhb22.out]; rfl), (kept_trans Kk4.out (kept_trans Kk10.out (kept_trans Kk19.out Kk24.out)))⟩
      | true =>
        clear hHeld
        refine hK.out _ _ (seesN_kept _ (kept_trans Kk19.out Kk24.out)) (fun hHeld => ?_)
        clear hK K
        (try simp only [Act.put, List.setIfInBounds_toArray, List.set_cons_zero, List.set_cons_succ])
        refine take_at 20 26 tyA0r1_20 (v := ?_) (Or.inl ⟨by rfl, ?_⟩) ?_
        rotate_left 1
        · ((intro w hSw; (try dsimp only at hSw); unfold tyA0r1_20; go_simp) <;> with_reducible rfl)
        (try simp only [Act.put, List.setIfInBounds_toArray, List.set_cons_zero, List.set_cons_succ])
        refine take_at 21 4 tyA0r1_21 (v := ?_) (Or.inl ⟨by rfl, ?_⟩) ?_
        rotate_left 1
        · ((intro w hSw; (try dsimp only at hSw); unfold tyA0r1_21; go_simp) <;> with_reducible rfl)
        (try simp only [Act.put, List.setIfInBounds_toArray, List.set_cons_zero, List.set_cons_succ])
        refine take_at 22 5 tyA0r1_22 (v := ?_) (Or.inl ⟨by rfl, ?_⟩) ?_
        rotate_left 1
        · ((intro w hSw; (try dsimp only at hSw); unfold tyA0r1_22; go_simp) <;> with_reducible rfl)
        (try simp only [Act.put, List.setIfInBounds_toArray, List.set_cons_zero, List.set_cons_succ])
        refine wpAnyH_done (by kernel_rfl) ?_ _
        clear hHeld
        have kvV0 : SeesN V0 V0.heap.size w20 := seesN_kept _ (kept_trans Kk10.out (kept_trans Kk19.out Kk24.out))
        go_wp2
        go_ret2
        exact ⟨by first | rfl | (rw [HU18.out, Hhb22.out]; rfl), (kept_trans Kk4.out (kept_trans Kk10.out (kept_trans Kk19.out Kk24.out)))⟩
    exact AllReadyH.nil
  exact AllReadyH.nil

theorem ty0_any (i : Int) (u v x : Tm) (P : Nat → Prop) (w : World) (su sv sx : Value) (hfu : u.fine) (hlu : LiesQ w P u.kids su) (hfv : v.fine) (hlv : LiesQ w P v.kids sv) (hfx : x.fine) (hlx : LiesQ w P x.kids sx) (hri : I64 i) (hi0 : 0 ≤ i) (hi1 : i ≤ 1000) (hp : x.pureB = true) : Calls Try.prog 33 #[jv ⟨false, u, v, x, i⟩ su sv sx, .bool false] w fun e w' => e = .returned (.tuple #[.int .i64 (i - 1), .bool (osB x i)]) ∧ Kept w w' := by
  rw [← ts_os hp]
  by_cases h1 : 1 ≤ i
  · rw [decide_eq_true h1, Bool.true_and]; exact tyA0_any i u v x P w su sv sx hfu hlu hfv hlv hfx hlx hri hi0 hi1 h1
  · rw [decide_eq_false h1, Bool.false_and]; exact tyB0_any i u v x P w su sv sx hfu hlu hfv hlv hfx hlx hri hi0 hi1 h1
set_option maxRecDepth 20000 in
set_option maxHeartbeats 4000000 in
theorem refright0_any (n : Int) (i : Int) (u : Tm) (v : Tm) (x : Tm) (P : Nat → Prop) (w : World) (su : Value) (sv : Value) (sx : Value) (hrn : I64 n) (hfu : u.fine) (hlu : LiesQ w P u.kids su) (hfv : v.fine) (hlv : LiesQ w P v.kids sv) (hfx : x.fine) (hlx : LiesQ w P x.kids sx) (hri : I64 i) (hzu : u.size ≤ 1000000000000) (hzv : v.size ≤ 1000000000000) (hzx : x.size ≤ 1000000000000) : Calls Try.prog 32 #[.int .i64 n, .agg #[.bool false, .int .i64 u.k, .int .i64 u.i, .int .i64 u.j, .int .i64 u.n, su, .int .i64 v.k, .int .i64 v.i, .int .i64 v.j, .int .i64 v.n, sv, .int .i64 x.k, .int .i64 x.i, .int .i64 x.j, .int .i64 x.n, sx, .int .i64 i]] w fun e w' => e = .returned (.bool (rightJ ⟨false, u, v, x, i⟩ n)) ∧ Kept w w' := by
  have Rn := Lib.hid hrn
  clear hrn
  have Gu := Lib.hid hfu
  clear hfu
  obtain ⟨au, cu, Su, rfl, -⟩ := hlu.out
  have Gv := Lib.hid hfv
  clear hfv
  obtain ⟨av, cv, Sv, rfl, -⟩ := hlv.out
  have Gx := Lib.hid hfx
  clear hfx
  obtain ⟨ax, cx, Sx, rfl, -⟩ := hlx.out
  have Ri := Lib.hid hri
  clear hri
  have HZU := Lib.hid hzu
  have HZV := Lib.hid hzv
  have HZX := Lib.hid hzx
  clear hzu hzv hzx
  obtain ⟨dj, dj1, dj2⟩ := under_of 34 (by kernel_rfl)
  obtain ⟨du, hu1, hu2⟩ := under_term
  go_enter Try.func32, Try.ntmps32
  go_upto_region 1 with fail
  refine at_code (fun V0 hV0 => ?_)
  obtain ⟨k2, x1, z3⟩ := alloc1 hV0
  have Kk4 := Lib.hid k2
  clear k2
  have Hx1 := Lib.hid x1
  have Z0 := Lib.hid z3
  clear z3 x1 hV0
  have HLu : Hid (LiesQ V0 (Par w V0.heap.size [] P) u.kids _) := (par_in _ _ hlu).later Kk4.out
  clear hlu
  have HLv : Hid (LiesQ V0 (Par w V0.heap.size [] P) v.kids _) := (par_in _ _ hlv).later Kk4.out
  clear hlv
  have HLx : Hid (LiesQ V0 (Par w V0.heap.size [] P) x.kids _) := (par_in _ _ hlx).later Kk4.out
  clear hlx
  have ld5 := partN_cell (r := V0.heap.size) Hx1.out trivial 0 (.bool false) rfl
  have ld6 := partN_cell (r := V0.heap.size) Hx1.out trivial 16 (.int .i64 i) rfl
  have kvV0 : SeesN V0 V0.heap.size V0 := seesN_kept _ (kept_refl _)
  go_wp2_with fail
  clear kvV0
  refine (level11K i _).mono ?_
  obtain ⟨rb10, hb9⟩ : ∃ qb, (lvB i) = qb := ⟨_, rfl⟩
  rw [hb9]
  have Hhb9 := Lib.hid hb9
  clear hb9
  rintro e w7 ⟨rfl, k8⟩
  have Kk11 := Lib.hid k8
  clear k8
  cases rb10 with
  | false =>
    have kvV0 : SeesN V0 V0.heap.size w7 := seesN_kept _ Kk11.out
    go_wp2
    go_ret
    exact ⟨ret_bool (Eq.symm (show rightJ ⟨false, u, v, x, i⟩ n = false from by unfold rightJ jfitB; (try simp only []); rw [show (decide (0 ≤ i) && decide (i ≤ 1000)) = false from Hhb9.out]; (try first | rfl | simp))), (kept_trans Kk4.out Kk11.out)⟩
  | true =>
    have kvV0 : SeesN V0 V0.heap.size w7 := seesN_kept _ Kk11.out
    go_wp2_with (refine stop_load 32 (.tmp 10) rfl ?_)
    intro _
    refine wpList_load_part (w.heap.size) (1) 32 (.tmp 10) #[.int .i64 u.k, .int .i64 u.i, .int .i64 u.j, .int .i64 u.n, (.slice au u.kids.length cu)] du (blk_at Hx1.out Kk11.out) (by rfl) rfl (by rfl) (by rfl) hu1 (by cases du <;> first | rfl | exact hu2) size_term ?_
    go_wp2_with fail
    clear kvV0
    refine (refpure_any u _ ((.slice au u.kids.length cu)) (HLu.out.later Kk11.out).lies HZU.out).mono ?_
    obtain ⟨rb15, hb14⟩ : ∃ qb, (u.pureB) = qb := ⟨_, rfl⟩
    rw [hb14]
    have Hhb14 := Lib.hid hb14
    clear hb14
    rintro e w12 ⟨rfl, k13⟩
    have Kk16 := Lib.hid k13
    clear k13
    cases rb15 with
    | false =>
      have kvV0 : SeesN V0 V0.heap.size w12 := seesN_kept _ (kept_trans Kk11.out Kk16.out)
      go_wp2
      go_ret
      exact ⟨ret_bool (Eq.symm (show rightJ ⟨false, u, v, x, i⟩ n = false from by unfold rightJ jfitB; (try simp only []); rw [show (decide (0 ≤ i) && decide (i ≤ 1000)) = true from Hhb9.out, Hhb14.out]; (try first | rfl | simp))), (kept_trans Kk4.out (kept_trans Kk11.out Kk16.out))⟩
    | true =>
      have kvV0 : SeesN V0 V0.heap.size w12 := seesN_kept _ (kept_trans Kk11.out Kk16.out)
      go_wp2_with (refine stop_load 32 (.tmp 16) rfl ?_)
      intro _
      refine wpList_load_part (w.heap.size) (11) 32 (.tmp 16) #[.int .i64 x.k, .int .i64 x.i, .int .i64 x.j, .int .i64 x.n, (.slice ax x.kids.length cx)] du (blk_at Hx1.out (kept_trans Kk11.out Kk16.out)) (by rfl) rfl (by rfl) (by rfl) hu1 (by cases du <;> first | rfl | exact hu2) size_term ?_
      go_wp2_with fail
      clear kvV0
      refine (refpure_any x _ ((.slice ax x.kids.length cx)) (HLx.out.later (kept_trans Kk11.out Kk16.out)).lies HZX.out).mono ?_
      obtain ⟨rb20, hb19⟩ : ∃ qb, (x.pureB) = qb := ⟨_, rfl⟩
      rw [hb19]
      have Hhb19 := Lib.hid hb19
      clear hb19
      rintro e w17 ⟨rfl, k18⟩
      have Kk21 := Lib.hid k18
      clear k18
      cases rb20 with
      | false =>
        have kvV0 : SeesN V0 V0.heap.size w17 := seesN_kept _ (kept_trans Kk11.out (kept_trans Kk16.out Kk21.out))
        go_wp2
        go_ret
        exact ⟨ret_bool (Eq.symm (show rightJ ⟨false, u, v, x, i⟩ n = false from by unfold rightJ jfitB; (try simp only []); rw [show (decide (0 ≤ i) && decide (i ≤ 1000)) = true from Hhb9.out, Hhb14.out, Hhb19.out]; (try first | rfl | simp))), (kept_trans Kk4.out (kept_trans Kk11.out (kept_trans Kk16.out Kk21.out)))⟩
      | true =>
        have kvV0 : SeesN V0 V0.heap.size w17 := seesN_kept _ (kept_trans Kk11.out (kept_trans Kk16.out Kk21.out))
        go_wp2_with (refine stop_load 32 (.tmp 22) rfl ?_)
        intro _
        refine wpList_load_part (w.heap.size) (1) 32 (.tmp 22) #[.int .i64 u.k, .int .i64 u.i, .int .i64 u.j, .int .i64 u.n, (.slice au u.kids.length cu)] du (blk_at Hx1.out (kept_trans Kk11.out (kept_trans Kk16.out Kk21.out))) (by rfl) rfl (by rfl) (by rfl) hu1 (by cases du <;> first | rfl | exact hu2) size_term ?_
        go_wp2_with fail
        clear kvV0
        refine (refFree_any u _ ((.slice au u.kids.length cu)) (HLu.out.later (kept_trans Kk11.out (kept_trans Kk16.out Kk21.out))).lies).mono ?_
        rintro e w22 ⟨rfl, k23⟩
        have Kk24 := Lib.hid k23
        clear k23
        have kvV0 : SeesN V0 V0.heap.size w22 := seesN_kept _ (kept_trans Kk11.out (kept_trans Kk16.out (kept_trans Kk21.out Kk24.out)))
        by_cases c25 : n < u.freeB
        · have ec25 : decide (n < u.freeB) = true := decide_eq_true c25
          have Ec25 := Lib.hid ec25
          have Hc25 := Lib.hid c25
          clear c25
          go_wp2
          go_ret
          exact ⟨ret_bool (Eq.symm (show rightJ ⟨false, u, v, x, i⟩ n = false from by unfold rightJ jfitB; (try simp only []); rw [show (decide (0 ≤ i) && decide (i ≤ 1000)) = true from Hhb9.out, Hhb14.out, Hhb19.out, show decide (u.freeB ≤ n) = false from decide_eq_false (by have := of_decide_eq_true Ec25.out; omega)]; (try first | rfl | simp))), (kept_trans Kk4.out (kept_trans Kk11.out (kept_trans Kk16.out (kept_trans Kk21.out Kk24.out))))⟩
        · have ec25 : decide (n < u.freeB) = false := decide_eq_false c25
          have Ec25 := Lib.hid ec25
          have Hc25 := Lib.hid c25
          clear c25
          go_wp2_with (refine stop_load 32 (.tmp 29) rfl ?_)
          intro _
          refine wpList_load_part (w.heap.size) (11) 32 (.tmp 29) #[.int .i64 x.k, .int .i64 x.i, .int .i64 x.j, .int .i64 x.n, (.slice ax x.kids.length cx)] du (blk_at Hx1.out (kept_trans Kk11.out (kept_trans Kk16.out (kept_trans Kk21.out Kk24.out)))) (by rfl) rfl (by rfl) (by rfl) hu1 (by cases du <;> first | rfl | exact hu2) size_term ?_
          go_wp2_with fail
          clear kvV0
          refine (refFree_any x _ ((.slice ax x.kids.length cx)) (HLx.out.later (kept_trans Kk11.out (kept_trans Kk16.out (kept_trans Kk21.out Kk24.out)))).lies).mono ?_
          rintro e w26 ⟨rfl, k27⟩
          have Kk28 := Lib.hid k27
          clear k27
          have kvV0 : SeesN V0 V0.heap.size w26 := seesN_kept _ (kept_trans Kk11.out (kept_trans Kk16.out (kept_trans Kk21.out (kept_trans Kk24.out Kk28.out))))
          by_cases c29 : n < x.freeB
          · have ec29 : decide (n < x.freeB) = true := decide_eq_true c29
            have Ec29 := Lib.hid ec29
            have Hc29 := Lib.hid c29
            clear c29
            go_wp2
            go_ret
            exact ⟨ret_bool (Eq.symm (show rightJ ⟨false, u, v, x, i⟩ n = false from by unfold rightJ jfitB; (try simp only []); rw [show (decide (0 ≤ i) && decide (i ≤ 1000)) = true from Hhb9.out, Hhb14.out, Hhb19.out, show decide (u.freeB ≤ n) = true from decide_eq_true (by have := of_decide_eq_false Ec25.out; omega), show decide (x.freeB ≤ n) = false from decide_eq_false (by have := of_decide_eq_true Ec29.out; omega)]; (try first | rfl | simp))), (kept_trans Kk4.out (kept_trans Kk11.out (kept_trans Kk16.out (kept_trans Kk21.out (kept_trans Kk24.out Kk28.out)))))⟩
          · have ec29 : decide (n < x.freeB) = false := decide_eq_false c29
            have Ec29 := Lib.hid ec29
            have Hc29 := Lib.hid c29
            clear c29
            go_wp2_with (refine stop_load 32 (.tmp 38) rfl ?_)
            intro _
            refine wpList_load_part (w.heap.size) (6) 32 (.tmp 38) #[.int .i64 v.k, .int .i64 v.i, .int .i64 v.j, .int .i64 v.n, (.slice av v.kids.length cv)] du (blk_at Hx1.out (kept_trans Kk11.out (kept_trans Kk16.out (kept_trans Kk21.out (kept_trans Kk24.out Kk28.out))))) (by rfl) rfl (by rfl) (by rfl) hu1 (by cases du <;> first | rfl | exact hu2) size_term ?_
            go_wp2_with fail
            clear kvV0
            refine (keepzero_any v _ ((.slice av v.kids.length cv)) (HLv.out.later (kept_trans Kk11.out (kept_trans Kk16.out (kept_trans Kk21.out (kept_trans Kk24.out Kk28.out))))).lies).mono ?_
            obtain ⟨rb33, hb32⟩ : ∃ qb, (sameB v .zero) = qb := ⟨_, rfl⟩
            rw [hb32]
            have Hhb32 := Lib.hid hb32
            clear hb32
            rintro e w30 ⟨rfl, k31⟩
            have Kk34 := Lib.hid k31
            clear k31
            cases rb33 with
            | false =>
              have kvV0 : SeesN V0 V0.heap.size w30 := seesN_kept _ (kept_trans Kk11.out (kept_trans Kk16.out (kept_trans Kk21.out (kept_trans Kk24.out (kept_trans Kk28.out Kk34.out)))))
              go_wp2
              go_ret
              exact ⟨ret_bool (Eq.symm (show rightJ ⟨false, u, v, x, i⟩ n = false from by unfold rightJ jfitB; (try simp only []); rw [show (decide (0 ≤ i) && decide (i ≤ 1000)) = true from Hhb9.out, Hhb14.out, Hhb19.out, show decide (u.freeB ≤ n) = true from decide_eq_true (by have := of_decide_eq_false Ec25.out; omega), show decide (x.freeB ≤ n) = true from decide_eq_true (by have := of_decide_eq_false Ec29.out; omega), Hhb32.out]; (try first | rfl | simp))), (kept_trans Kk4.out (kept_trans Kk11.out (kept_trans Kk16.out (kept_trans Kk21.out (kept_trans Kk24.out (kept_trans Kk28.out Kk34.out))))))⟩
            | true =>
              have kvV0 : SeesN V0 V0.heap.size w30 := seesN_kept _ (kept_trans Kk11.out (kept_trans Kk16.out (kept_trans Kk21.out (kept_trans Kk24.out (kept_trans Kk28.out Kk34.out)))))
              go_wp2
              go_ret
              exact ⟨ret_bool (Eq.symm (show rightJ ⟨false, u, v, x, i⟩ n = true from by unfold rightJ jfitB; (try simp only []); rw [show (decide (0 ≤ i) && decide (i ≤ 1000)) = true from Hhb9.out, Hhb14.out, Hhb19.out, show decide (u.freeB ≤ n) = true from decide_eq_true (by have := of_decide_eq_false Ec25.out; omega), show decide (x.freeB ≤ n) = true from decide_eq_true (by have := of_decide_eq_false Ec29.out; omega), Hhb32.out]; (try first | rfl | simp))), (kept_trans Kk4.out (kept_trans Kk11.out (kept_trans Kk16.out (kept_trans Kk21.out (kept_trans Kk24.out (kept_trans Kk28.out Kk34.out))))))⟩

def tyN1r1_0 : Oper := { dst := some 6, op := Go.Op.fieldAddr 34 (Go.Operand.tmp 2) 4, type := 0, pos := "rule.go:36", after := #[], guard := none }
def tyN1r1_1 : Oper := { dst := some 7, op := Go.Op.load 3 (Go.Operand.tmp 6), type := 3, pos := "rule.go:36", after := #[{ on := 0, ground := Go.Ground.data }], guard := none }
def tyN1r1_2 : Oper := { dst := some 8, op := Go.Op.binOp Go.BinOp.sub 3 (Go.Operand.tmp 7) (Go.Operand.const (Go.Value.int Go.IntKind.i64 1)) 3, type := 3, pos := "rule.go:36", after := #[{ on := 1, ground := Go.Ground.data }], guard := none }
def tyN1r1_3 : Oper := { dst := some 9, op := Go.Op.fieldAddr 34 (Go.Operand.tmp 2) 0, type := 0, pos := "rule.go:36", after := #[], guard := none }
def tyN1r1_4 : Oper := { dst := some 10, op := Go.Op.load 4 (Go.Operand.tmp 9), type := 4, pos := "rule.go:36", after := #[{ on := 3, ground := Go.Ground.data }], guard := none }
def tyN1r1_5 : Oper := { dst := some 11, op := Go.Op.move (Go.Operand.tmp 1), type := 4, pos := "rule.go:36", after := #[], guard := none }
def tyN1r1_6 : Oper := { dst := some 12, op := Go.Op.binOp Go.BinOp.eql 4 (Go.Operand.tmp 10) (Go.Operand.tmp 11) 4, type := 4, pos := "rule.go:36", after := #[{ on := 4, ground := Go.Ground.data }, { on := 5, ground := Go.Ground.data }], guard := none }
def tyN1r1_7 : Oper := { dst := some 13, op := Go.Op.move (Go.Operand.tmp 12), type := 4, pos := "rule.go:36", after := #[{ on := 6, ground := Go.Ground.data }], guard := none }
def tyN1r1_8 : Oper := { dst := some 14, op := Go.Op.fieldAddr 34 (Go.Operand.tmp 2) 4, type := 0, pos := "rule.go:36", after := #[{ on := 7, ground := Go.Ground.guard }], guard := some (7, true) }
def tyN1r1_9 : Oper := { dst := some 15, op := Go.Op.load 3 (Go.Operand.tmp 14), type := 3, pos := "rule.go:36", after := #[{ on := 8, ground := Go.Ground.data }, { on := 7, ground := Go.Ground.guard }], guard := some (7, true) }
def tyN1r1_10 : Oper := { dst := some 16, op := Go.Op.binOp Go.BinOp.geq 3 (Go.Operand.tmp 15) (Go.Operand.const (Go.Value.int Go.IntKind.i64 1)) 3, type := 4, pos := "rule.go:36", after := #[{ on := 9, ground := Go.Ground.data }, { on := 7, ground := Go.Ground.guard }], guard := some (7, true) }
def tyN1r1_11 : Oper := { dst := some 17, op := Go.Op.pick (Go.Operand.tmp 13) (Go.Operand.tmp 16) (Go.Operand.const (Go.Value.bool false)), type := 4, pos := "rule.go:36", after := #[{ on := 7, ground := Go.Ground.data }, { on := 10, ground := Go.Ground.data }], guard := none }
def tyN1r1_12 : Oper := { dst := some 18, op := Go.Op.move (Go.Operand.tmp 17), type := 4, pos := "rule.go:36", after := #[{ on := 11, ground := Go.Ground.data }, { on := 7, ground := Go.Ground.chain }], guard := none }
def tyN1r1_13 : Oper := { dst := some 19, op := Go.Op.fieldAddr 34 (Go.Operand.tmp 2) 3, type := 0, pos := "rule.go:36", after := #[{ on := 12, ground := Go.Ground.guard }], guard := some (12, true) }
def tyN1r1_14 : Oper := { dst := some 20, op := Go.Op.load 32 (Go.Operand.tmp 19), type := 32, pos := "rule.go:36", after := #[{ on := 13, ground := Go.Ground.data }, { on := 12, ground := Go.Ground.guard }], guard := some (12, true) }
def tyN1r1_15 : Oper := { dst := some 21, op := Go.Op.fieldAddr 34 (Go.Operand.tmp 2) 4, type := 0, pos := "rule.go:36", after := #[{ on := 12, ground := Go.Ground.guard }], guard := some (12, true) }
def tyN1r1_16 : Oper := { dst := some 22, op := Go.Op.load 3 (Go.Operand.tmp 21), type := 3, pos := "rule.go:36", after := #[{ on := 15, ground := Go.Ground.data }, { on := 12, ground := Go.Ground.guard }], guard := some (12, true) }
def tyN1r1_17 : Oper := { dst := some 23, op := Go.Op.binOp Go.BinOp.sub 3 (Go.Operand.tmp 22) (Go.Operand.const (Go.Value.int Go.IntKind.i64 1)) 3, type := 3, pos := "rule.go:36", after := #[{ on := 16, ground := Go.Ground.data }, { on := 12, ground := Go.Ground.guard }], guard := some (12, true) }
def tyN1r1_18 : Oper := { dst := some 24, op := Go.Op.call { callee := Go.Callee.value (Go.Operand.func 51), args := #[Go.Operand.tmp 23], argTypes := #[3] }, type := 32, pos := "rule.go:36", after := #[{ on := 17, ground := Go.Ground.data }, { on := 12, ground := Go.Ground.chain }, { on := 12, ground := Go.Ground.guard }], guard := some (12, true) }
def tyN1r1_19 : Oper := { dst := some 25, op := Go.Op.call { callee := Go.Callee.value (Go.Operand.func 50), args := #[Go.Operand.tmp 20, Go.Operand.tmp 24], argTypes := #[32, 32] }, type := 4, pos := "rule.go:36", after := #[{ on := 14, ground := Go.Ground.data }, { on := 18, ground := Go.Ground.data }, { on := 18, ground := Go.Ground.chain }, { on := 12, ground := Go.Ground.guard }], guard := some (12, true) }
def tyN1r1_20 : Oper := { dst := some 26, op := Go.Op.pick (Go.Operand.tmp 18) (Go.Operand.tmp 25) (Go.Operand.const (Go.Value.bool false)), type := 4, pos := "rule.go:36", after := #[{ on := 12, ground := Go.Ground.data }, { on := 19, ground := Go.Ground.data }, { on := 21, ground := Go.Ground.gcOnly Go.Departure.lateStores }], guard := none }
def tyN1r1_21 : Oper := { dst := some 4, op := Go.Op.assign (Go.Operand.tmp 8), type := 3, pos := "rule.go:36", after := #[{ on := 2, ground := Go.Ground.data }, { on := 19, ground := Go.Ground.chain }, { on := 0, ground := Go.Ground.phase }, { on := 1, ground := Go.Ground.phase }, { on := 2, ground := Go.Ground.phase }, { on := 3, ground := Go.Ground.textOnly Go.Departure.lateStores }, { on := 4, ground := Go.Ground.textOnly Go.Departure.lateStores }, { on := 5, ground := Go.Ground.textOnly Go.Departure.lateStores }, { on := 6, ground := Go.Ground.textOnly Go.Departure.lateStores }, { on := 7, ground := Go.Ground.textOnly Go.Departure.lateStores }, { on := 8, ground := Go.Ground.textOnly Go.Departure.lateStores }, { on := 9, ground := Go.Ground.textOnly Go.Departure.lateStores }, { on := 10, ground := Go.Ground.textOnly Go.Departure.lateStores }, { on := 11, ground := Go.Ground.textOnly Go.Departure.lateStores }, { on := 12, ground := Go.Ground.textOnly Go.Departure.lateStores }, { on := 13, ground := Go.Ground.textOnly Go.Departure.lateStores }, { on := 14, ground := Go.Ground.textOnly Go.Departure.lateStores }, { on := 15, ground := Go.Ground.textOnly Go.Departure.lateStores }, { on := 16, ground := Go.Ground.textOnly Go.Departure.lateStores }, { on := 17, ground := Go.Ground.textOnly Go.Departure.lateStores }, { on := 18, ground := Go.Ground.textOnly Go.Departure.lateStoresUnsure }, { on := 19, ground := Go.Ground.textOnly Go.Departure.lateStoresUnsure }, { on := 20, ground := Go.Ground.textOnly Go.Departure.lateStores }], guard := none }
def tyN1r1_22 : Oper := { dst := some 5, op := Go.Op.assign (Go.Operand.tmp 26), type := 4, pos := "rule.go:36", after := #[{ on := 20, ground := Go.Ground.data }, { on := 21, ground := Go.Ground.chain }, { on := 0, ground := Go.Ground.phase }, { on := 1, ground := Go.Ground.phase }, { on := 2, ground := Go.Ground.phase }, { on := 3, ground := Go.Ground.phase }, { on := 4, ground := Go.Ground.phase }, { on := 5, ground := Go.Ground.phase }, { on := 6, ground := Go.Ground.phase }, { on := 7, ground := Go.Ground.phase }, { on := 8, ground := Go.Ground.phase }, { on := 9, ground := Go.Ground.phase }, { on := 10, ground := Go.Ground.phase }, { on := 11, ground := Go.Ground.phase }, { on := 12, ground := Go.Ground.phase }, { on := 13, ground := Go.Ground.phase }, { on := 14, ground := Go.Ground.phase }, { on := 15, ground := Go.Ground.phase }, { on := 16, ground := Go.Ground.phase }, { on := 17, ground := Go.Ground.phase }, { on := 18, ground := Go.Ground.phase }, { on := 19, ground := Go.Ground.phase }, { on := 20, ground := Go.Ground.phase }, { on := 21, ground := Go.Ground.phase }], guard := none }
set_option maxRecDepth 20000 in
set_option maxHeartbeats 4000000 in
theorem tyN1_any (i : Int) (u : Tm) (v : Tm) (x : Tm) (P : Nat → Prop) (w : World) (su : Value) (sv : Value) (sx : Value) (hfu : u.fine) (hlu : LiesQ w P u.kids su) (hfv : v.fine) (hlv : LiesQ w P v.kids sv) (hfx : x.fine) (hlx : LiesQ w P x.kids sx) (hri : I64 i) (hi0 : 0 ≤ i) (hi1 : i ≤ 1000) : Calls Try.prog 33 #[.agg #[.bool true, .int .i64 u.k, .int .i64 u.i, .int .i64 u.j, .int .i64 u.n, su, .int .i64 v.k, .int .i64 v.i, .int .i64 v.j, .int .i64 v.n, sv, .int .i64 x.k, .int .i64 x.i, .int .i64 x.j, .int .i64 x.n, sx, .int .i64 i], .bool false] w fun e w' => e = .returned (.tuple #[.int .i64 (i - 1), .bool (false)]) ∧ Kept w w' := by
  have Gu := Lib.hid hfu
  clear hfu
  obtain ⟨au, cu, Su, rfl, -⟩ := hlu.out
  have Gv := Lib.hid hfv
  clear hfv
  obtain ⟨av, cv, Sv, rfl, -⟩ := hlv.out
  have Gx := Lib.hid hfx
  clear hfx
  obtain ⟨ax, cx, Sx, rfl, -⟩ := hlx.out
  have Ri := Lib.hid hri
  clear hri
  have ew : IntKind.i64.wrap (i - 1) = i - 1 := IntWalk.i64_in _ (by omega)
  have HR1 := Lib.hid (show I64 (i - 1) by unfold I64; omega)
  clear hi0 hi1
  obtain ⟨dj, dj1, dj2⟩ := under_of 34 (by kernel_rfl)
  obtain ⟨du, hu1, hu2⟩ := under_term
  go_enter Try.func33, Try.ntmps33
  go_upto_region 1 with fail
  refine at_code (fun V0 hV0 => ?_)
  obtain ⟨k2, x1, z3⟩ := alloc1 hV0
  have Kk4 := Lib.hid k2
  clear k2
  have Hx1 := Lib.hid x1
  have Z0 := Lib.hid z3
  clear z3 x1 hV0
  have HLu : Hid (LiesQ V0 (Par w V0.heap.size [] P) u.kids _) := (par_in _ _ hlu).later Kk4.out
  clear hlu
  have HLv : Hid (LiesQ V0 (Par w V0.heap.size [] P) v.kids _) := (par_in _ _ hlv).later Kk4.out
  clear hlv
  have HLx : Hid (LiesQ V0 (Par w V0.heap.size [] P) x.kids _) := (par_in _ _ hlx).later Kk4.out
  clear hlx
  have ld5 := partN_cell (r := V0.heap.size) Hx1.out trivial 0 (.bool true) rfl
  have ld6 := partN_cell (r := V0.heap.size) Hx1.out trivial 16 (.int .i64 i) rfl
  have kvV0 : SeesN V0 V0.heap.size V0 := seesN_kept _ (kept_refl _)
  go_wp2_with fail
  clear kvV0
  obtain ⟨W7, h8⟩ : ∃ x, World.drew V0 = x := ⟨_, rfl⟩
  have k9 : Kept V0 W7 := by rw [← h8]; exact kept_drew (kept_refl _)
  have Kk10 := Lib.hid k9
  clear k9
  refine wp_region_held_drew (S := SeesN W7 V0.heap.size) (by kernel_rfl) ?_ (fun hHeld => ?_)
  · (try dsimp only)
    rw [h8]
    exact seesN_kept _ (kept_refl _)
  rw [h8] at hHeld ⊢
  clear h8
  refine take_at 0 6 tyN1r1_0 (v := ?_) (Or.inl ⟨by rfl, ?_⟩) ?_
  rotate_left 1
  · ((intro w hSw; (try dsimp only at hSw); unfold tyN1r1_0; go_simp) <;> with_reducible rfl)
  (try simp only [Act.put, List.setIfInBounds_toArray, List.set_cons_zero, List.set_cons_succ])
  refine take_at 1 7 tyN1r1_1 (v := ?_) (Or.inl ⟨by rfl, ?_⟩) ?_
  rotate_left 1
  · ((intro w hSw; (try dsimp only at hSw); have qV0 := seesN_of Kk10.out hSw; unfold tyN1r1_1; go_simp) <;> with_reducible rfl)
  (try simp only [Act.put, List.setIfInBounds_toArray, List.set_cons_zero, List.set_cons_succ])
  refine take_at 2 8 tyN1r1_2 (v := ?_) (Or.inl ⟨by rfl, ?_⟩) ?_
  rotate_left 1
  · ((intro w hSw; (try dsimp only at hSw); unfold tyN1r1_2; go_simp) <;> with_reducible rfl)
  (try simp only [Act.put, List.setIfInBounds_toArray, List.set_cons_zero, List.set_cons_succ])
  refine take_at 3 9 tyN1r1_3 (v := ?_) (Or.inl ⟨by rfl, ?_⟩) ?_
  rotate_left 1
  · ((intro w hSw; (try dsimp only at hSw); unfold tyN1r1_3; go_simp) <;> with_reducible rfl)
  (try simp only [Act.put, List.setIfInBounds_toArray, List.set_cons_zero, List.set_cons_succ])
  refine take_at 4 10 tyN1r1_4 (v := ?_) (Or.inl ⟨by rfl, ?_⟩) ?_
  rotate_left 1
  · ((intro w hSw; (try dsimp only at hSw); have qV0 := seesN_of Kk10.out hSw; unfold tyN1r1_4; go_simp) <;> with_reducible rfl)
  (try simp only [Act.put, List.setIfInBounds_toArray, List.set_cons_zero, List.set_cons_succ])
  refine take_at 5 11 tyN1r1_5 (v := ?_) (Or.inl ⟨by rfl, ?_⟩) ?_
  rotate_left 1
  · ((intro w hSw; (try dsimp only at hSw); unfold tyN1r1_5; go_simp) <;> with_reducible rfl)
  (try simp only [Act.put, List.setIfInBounds_toArray, List.set_cons_zero, List.set_cons_succ])
  refine take_at 6 12 tyN1r1_6 (v := ?_) (Or.inl ⟨by rfl, ?_⟩) ?_
  rotate_left 1
  · ((intro w hSw; (try dsimp only at hSw); unfold tyN1r1_6; go_simp) <;> with_reducible rfl)
  (try simp only [Act.put, List.setIfInBounds_toArray, List.set_cons_zero, List.set_cons_succ])
  refine take_at 7 13 tyN1r1_7 (v := ?_) (Or.inl ⟨by rfl, ?_⟩) ?_
  rotate_left 1
  · ((intro w hSw; (try dsimp only at hSw); unfold tyN1r1_7; go_simp) <;> with_reducible rfl)
  (try simp only [Act.put, List.setIfInBounds_toArray, List.set_cons_zero, List.set_cons_succ])
  refine take_at 8 14 tyN1r1_8 (v := undef) (Or.inr ⟨by rfl, rfl⟩) ?_
  (try simp only [Act.put, List.setIfInBounds_toArray, List.set_cons_zero, List.set_cons_succ])
  refine take_at 9 15 tyN1r1_9 (v := undef) (Or.inr ⟨by rfl, rfl⟩) ?_
  (try simp only [Act.put, List.setIfInBounds_toArray, List.set_cons_zero, List.set_cons_succ])
  refine take_at 10 16 tyN1r1_10 (v := undef) (Or.inr ⟨by rfl, rfl⟩) ?_
  (try simp only [Act.put, List.setIfInBounds_toArray, List.set_cons_zero, List.set_cons_succ])
  refine take_at 11 17 tyN1r1_11 (v := ?_) (Or.inl ⟨by rfl, ?_⟩) ?_
  rotate_left 1
  · ((intro w hSw; (try dsimp only at hSw); unfold tyN1r1_11; go_simp) <;> with_reducible rfl)
  (try simp only [Act.put, List.setIfInBounds_toArray, List.set_cons_zero, List.set_cons_succ])
  refine take_at 12 18 tyN1r1_12 (v := ?_) (Or.inl ⟨by rfl, ?_⟩) ?_
  rotate_left 1
  · ((intro w hSw; (try dsimp only at hSw); unfold tyN1r1_12; go_simp) <;> with_reducible rfl)
  (try simp only [Act.put, List.setIfInBounds_toArray, List.set_cons_zero, List.set_cons_succ])
  refine take_at 13 19 tyN1r1_13 (v := undef) (Or.inr ⟨by rfl, rfl⟩) ?_
  (try simp only [Act.put, List.setIfInBounds_toArray, List.set_cons_zero, List.set_cons_succ])
  refine take_at 14 20 tyN1r1_14 (v := undef) (Or.inr ⟨by rfl, rfl⟩) ?_
  (try simp only [Act.put, List.setIfInBounds_toArray, List.set_cons_zero, List.set_cons_succ])
  refine take_at 15 21 tyN1r1_15 (v := undef) (Or.inr ⟨by rfl, rfl⟩) ?_
  (try simp only [Act.put, List.setIfInBounds_toArray, List.set_cons_zero, List.set_cons_succ])
  refine take_at 16 22 tyN1r1_16 (v := undef) (Or.inr ⟨by rfl, rfl⟩) ?_
  (try simp only [Act.put, List.setIfInBounds_toArray, List.set_cons_zero, List.set_cons_succ])
  refine take_at 17 23 tyN1r1_17 (v := undef) (Or.inr ⟨by rfl, rfl⟩) ?_
  (try simp only [Act.put, List.setIfInBounds_toArray, List.set_cons_zero, List.set_cons_succ])
  refine take_at 18 24 tyN1r1_18 (v := undef) (Or.inr ⟨by rfl, rfl⟩) ?_
  (try simp only [Act.put, List.setIfInBounds_toArray, List.set_cons_zero, List.set_cons_succ])
  refine take_at 19 25 tyN1r1_19 (v := undef) (Or.inr ⟨by rfl, rfl⟩) ?_
  (try simp only [Act.put, List.setIfInBounds_toArray, List.set_cons_zero, List.set_cons_succ])
  refine take_at 20 26 tyN1r1_20 (v := ?_) (Or.inl ⟨by rfl, ?_⟩) ?_
  rotate_left 1
  · ((intro w hSw; (try dsimp only at hSw); unfold tyN1r1_20; go_simp) <;> with_reducible rfl)
  (try simp only [Act.put, List.setIfInBounds_toArray, List.set_cons_zero, List.set_cons_succ])
  refine take_at 21 4 tyN1r1_21 (v := ?_) (Or.inl ⟨by rfl, ?_⟩) ?_
  rotate_left 1
  · ((intro w hSw; (try dsimp only at hSw); unfold tyN1r1_21; go_simp) <;> with_reducible rfl)
  (try simp only [Act.put, List.setIfInBounds_toArray, List.set_cons_zero, List.set_cons_succ])
  refine take_at 22 5 tyN1r1_22 (v := ?_) (Or.inl ⟨by rfl, ?_⟩) ?_
  rotate_left 1
  · ((intro w hSw; (try dsimp only at hSw); unfold tyN1r1_22; go_simp) <;> with_reducible rfl)
  (try simp only [Act.put, List.setIfInBounds_toArray, List.set_cons_zero, List.set_cons_succ])
  refine wpAnyH_done (by kernel_rfl) ?_ _
  clear hHeld
  have kvV0 : SeesN V0 V0.heap.size W7 := seesN_kept _ Kk10.out
  go_wp2
  go_ret2
  exact ⟨by first | rfl | (rw [show True = True from rfl]; rfl), (kept_trans Kk4.out Kk10.out)⟩

def tyB1r1_0 : Oper := { dst := some 6, op := Go.Op.fieldAddr 34 (Go.Operand.tmp 2) 4, type := 0, pos := "rule.go:36", after := #[], guard := none }
def tyB1r1_1 : Oper := { dst := some 7, op := Go.Op.load 3 (Go.Operand.tmp 6), type := 3, pos := "rule.go:36", after := #[{ on := 0, ground := Go.Ground.data }], guard := none }
def tyB1r1_2 : Oper := { dst := some 8, op := Go.Op.binOp Go.BinOp.sub 3 (Go.Operand.tmp 7) (Go.Operand.const (Go.Value.int Go.IntKind.i64 1)) 3, type := 3, pos := "rule.go:36", after := #[{ on := 1, ground := Go.Ground.data }], guard := none }
def tyB1r1_3 : Oper := { dst := some 9, op := Go.Op.fieldAddr 34 (Go.Operand.tmp 2) 0, type := 0, pos := "rule.go:36", after := #[], guard := none }
def tyB1r1_4 : Oper := { dst := some 10, op := Go.Op.load 4 (Go.Operand.tmp 9), type := 4, pos := "rule.go:36", after := #[{ on := 3, ground := Go.Ground.data }], guard := none }
def tyB1r1_5 : Oper := { dst := some 11, op := Go.Op.move (Go.Operand.tmp 1), type := 4, pos := "rule.go:36", after := #[], guard := none }
def tyB1r1_6 : Oper := { dst := some 12, op := Go.Op.binOp Go.BinOp.eql 4 (Go.Operand.tmp 10) (Go.Operand.tmp 11) 4, type := 4, pos := "rule.go:36", after := #[{ on := 4, ground := Go.Ground.data }, { on := 5, ground := Go.Ground.data }], guard := none }
def tyB1r1_7 : Oper := { dst := some 13, op := Go.Op.move (Go.Operand.tmp 12), type := 4, pos := "rule.go:36", after := #[{ on := 6, ground := Go.Ground.data }], guard := none }
def tyB1r1_8 : Oper := { dst := some 14, op := Go.Op.fieldAddr 34 (Go.Operand.tmp 2) 4, type := 0, pos := "rule.go:36", after := #[{ on := 7, ground := Go.Ground.guard }], guard := some (7, true) }
def tyB1r1_9 : Oper := { dst := some 15, op := Go.Op.load 3 (Go.Operand.tmp 14), type := 3, pos := "rule.go:36", after := #[{ on := 8, ground := Go.Ground.data }, { on := 7, ground := Go.Ground.guard }], guard := some (7, true) }
def tyB1r1_10 : Oper := { dst := some 16, op := Go.Op.binOp Go.BinOp.geq 3 (Go.Operand.tmp 15) (Go.Operand.const (Go.Value.int Go.IntKind.i64 1)) 3, type := 4, pos := "rule.go:36", after := #[{ on := 9, ground := Go.Ground.data }, { on := 7, ground := Go.Ground.guard }], guard := some (7, true) }
def tyB1r1_11 : Oper := { dst := some 17, op := Go.Op.pick (Go.Operand.tmp 13) (Go.Operand.tmp 16) (Go.Operand.const (Go.Value.bool false)), type := 4, pos := "rule.go:36", after := #[{ on := 7, ground := Go.Ground.data }, { on := 10, ground := Go.Ground.data }], guard := none }
def tyB1r1_12 : Oper := { dst := some 18, op := Go.Op.move (Go.Operand.tmp 17), type := 4, pos := "rule.go:36", after := #[{ on := 11, ground := Go.Ground.data }, { on := 7, ground := Go.Ground.chain }], guard := none }
def tyB1r1_13 : Oper := { dst := some 19, op := Go.Op.fieldAddr 34 (Go.Operand.tmp 2) 3, type := 0, pos := "rule.go:36", after := #[{ on := 12, ground := Go.Ground.guard }], guard := some (12, true) }
def tyB1r1_14 : Oper := { dst := some 20, op := Go.Op.load 32 (Go.Operand.tmp 19), type := 32, pos := "rule.go:36", after := #[{ on := 13, ground := Go.Ground.data }, { on := 12, ground := Go.Ground.guard }], guard := some (12, true) }
def tyB1r1_15 : Oper := { dst := some 21, op := Go.Op.fieldAddr 34 (Go.Operand.tmp 2) 4, type := 0, pos := "rule.go:36", after := #[{ on := 12, ground := Go.Ground.guard }], guard := some (12, true) }
def tyB1r1_16 : Oper := { dst := some 22, op := Go.Op.load 3 (Go.Operand.tmp 21), type := 3, pos := "rule.go:36", after := #[{ on := 15, ground := Go.Ground.data }, { on := 12, ground := Go.Ground.guard }], guard := some (12, true) }
def tyB1r1_17 : Oper := { dst := some 23, op := Go.Op.binOp Go.BinOp.sub 3 (Go.Operand.tmp 22) (Go.Operand.const (Go.Value.int Go.IntKind.i64 1)) 3, type := 3, pos := "rule.go:36", after := #[{ on := 16, ground := Go.Ground.data }, { on := 12, ground := Go.Ground.guard }], guard := some (12, true) }
def tyB1r1_18 : Oper := { dst := some 24, op := Go.Op.call { callee := Go.Callee.value (Go.Operand.func 51), args := #[Go.Operand.tmp 23], argTypes := #[3] }, type := 32, pos := "rule.go:36", after := #[{ on := 17, ground := Go.Ground.data }, { on := 12, ground := Go.Ground.chain }, { on := 12, ground := Go.Ground.guard }], guard := some (12, true) }
def tyB1r1_19 : Oper := { dst := some 25, op := Go.Op.call { callee := Go.Callee.value (Go.Operand.func 50), args := #[Go.Operand.tmp 20, Go.Operand.tmp 24], argTypes := #[32, 32] }, type := 4, pos := "rule.go:36", after := #[{ on := 14, ground := Go.Ground.data }, { on := 18, ground := Go.Ground.data }, { on := 18, ground := Go.Ground.chain }, { on := 12, ground := Go.Ground.guard }], guard := some (12, true) }
def tyB1r1_20 : Oper := { dst := some 26, op := Go.Op.pick (Go.Operand.tmp 18) (Go.Operand.tmp 25) (Go.Operand.const (Go.Value.bool false)), type := 4, pos := "rule.go:36", after := #[{ on := 12, ground := Go.Ground.data }, { on := 19, ground := Go.Ground.data }, { on := 21, ground := Go.Ground.gcOnly Go.Departure.lateStores }], guard := none }
def tyB1r1_21 : Oper := { dst := some 4, op := Go.Op.assign (Go.Operand.tmp 8), type := 3, pos := "rule.go:36", after := #[{ on := 2, ground := Go.Ground.data }, { on := 19, ground := Go.Ground.chain }, { on := 0, ground := Go.Ground.phase }, { on := 1, ground := Go.Ground.phase }, { on := 2, ground := Go.Ground.phase }, { on := 3, ground := Go.Ground.textOnly Go.Departure.lateStores }, { on := 4, ground := Go.Ground.textOnly Go.Departure.lateStores }, { on := 5, ground := Go.Ground.textOnly Go.Departure.lateStores }, { on := 6, ground := Go.Ground.textOnly Go.Departure.lateStores }, { on := 7, ground := Go.Ground.textOnly Go.Departure.lateStores }, { on := 8, ground := Go.Ground.textOnly Go.Departure.lateStores }, { on := 9, ground := Go.Ground.textOnly Go.Departure.lateStores }, { on := 10, ground := Go.Ground.textOnly Go.Departure.lateStores }, { on := 11, ground := Go.Ground.textOnly Go.Departure.lateStores }, { on := 12, ground := Go.Ground.textOnly Go.Departure.lateStores }, { on := 13, ground := Go.Ground.textOnly Go.Departure.lateStores }, { on := 14, ground := Go.Ground.textOnly Go.Departure.lateStores }, { on := 15, ground := Go.Ground.textOnly Go.Departure.lateStores }, { on := 16, ground := Go.Ground.textOnly Go.Departure.lateStores }, { on := 17, ground := Go.Ground.textOnly Go.Departure.lateStores }, { on := 18, ground := Go.Ground.textOnly Go.Departure.lateStoresUnsure }, { on := 19, ground := Go.Ground.textOnly Go.Departure.lateStoresUnsure }, { on := 20, ground := Go.Ground.textOnly Go.Departure.lateStores }], guard := none }
def tyB1r1_22 : Oper := { dst := some 5, op := Go.Op.assign (Go.Operand.tmp 26), type := 4, pos := "rule.go:36", after := #[{ on := 20, ground := Go.Ground.data }, { on := 21, ground := Go.Ground.chain }, { on := 0, ground := Go.Ground.phase }, { on := 1, ground := Go.Ground.phase }, { on := 2, ground := Go.Ground.phase }, { on := 3, ground := Go.Ground.phase }, { on := 4, ground := Go.Ground.phase }, { on := 5, ground := Go.Ground.phase }, { on := 6, ground := Go.Ground.phase }, { on := 7, ground := Go.Ground.phase }, { on := 8, ground := Go.Ground.phase }, { on := 9, ground := Go.Ground.phase }, { on := 10, ground := Go.Ground.phase }, { on := 11, ground := Go.Ground.phase }, { on := 12, ground := Go.Ground.phase }, { on := 13, ground := Go.Ground.phase }, { on := 14, ground := Go.Ground.phase }, { on := 15, ground := Go.Ground.phase }, { on := 16, ground := Go.Ground.phase }, { on := 17, ground := Go.Ground.phase }, { on := 18, ground := Go.Ground.phase }, { on := 19, ground := Go.Ground.phase }, { on := 20, ground := Go.Ground.phase }, { on := 21, ground := Go.Ground.phase }], guard := none }
set_option maxRecDepth 20000 in
set_option maxHeartbeats 4000000 in
theorem tyB1_any (i : Int) (u : Tm) (v : Tm) (x : Tm) (P : Nat → Prop) (w : World) (su : Value) (sv : Value) (sx : Value) (hfu : u.fine) (hlu : LiesQ w P u.kids su) (hfv : v.fine) (hlv : LiesQ w P v.kids sv) (hfx : x.fine) (hlx : LiesQ w P x.kids sx) (hri : I64 i) (hi0 : 0 ≤ i) (hi1 : i ≤ 1000) (h1 : ¬ 1 ≤ i) : Calls Try.prog 33 #[.agg #[.bool true, .int .i64 u.k, .int .i64 u.i, .int .i64 u.j, .int .i64 u.n, su, .int .i64 v.k, .int .i64 v.i, .int .i64 v.j, .int .i64 v.n, sv, .int .i64 x.k, .int .i64 x.i, .int .i64 x.j, .int .i64 x.n, sx, .int .i64 i], .bool true] w fun e w' => e = .returned (.tuple #[.int .i64 (i - 1), .bool (false)]) ∧ Kept w w' := by
  have Gu := Lib.hid hfu
  clear hfu
  obtain ⟨au, cu, Su, rfl, -⟩ := hlu.out
  have Gv := Lib.hid hfv
  clear hfv
  obtain ⟨av, cv, Sv, rfl, -⟩ := hlv.out
  have Gx := Lib.hid hfx
  clear hfx
  obtain ⟨ax, cx, Sx, rfl, -⟩ := hlx.out
  have Ri := Lib.hid hri
  clear hri
  have ew : IntKind.i64.wrap (i - 1) = i - 1 := IntWalk.i64_in _ (by omega)
  have HR1 := Lib.hid (show I64 (i - 1) by unfold I64; omega)
  have e1 : decide (1 ≤ i) = false := decide_eq_false h1
  clear hi0 hi1 h1
  obtain ⟨dj, dj1, dj2⟩ := under_of 34 (by kernel_rfl)
  obtain ⟨du, hu1, hu2⟩ := under_term
  go_enter Try.func33, Try.ntmps33
  go_upto_region 1 with fail
  refine at_code (fun V0 hV0 => ?_)
  obtain ⟨k2, x1, z3⟩ := alloc1 hV0
  have Kk4 := Lib.hid k2
  clear k2
  have Hx1 := Lib.hid x1
  have Z0 := Lib.hid z3
  clear z3 x1 hV0
  have HLu : Hid (LiesQ V0 (Par w V0.heap.size [] P) u.kids _) := (par_in _ _ hlu).later Kk4.out
  clear hlu
  have HLv : Hid (LiesQ V0 (Par w V0.heap.size [] P) v.kids _) := (par_in _ _ hlv).later Kk4.out
  clear hlv
  have HLx : Hid (LiesQ V0 (Par w V0.heap.size [] P) x.kids _) := (par_in _ _ hlx).later Kk4.out
  clear hlx
  have ld5 := partN_cell (r := V0.heap.size) Hx1.out trivial 0 (.bool true) rfl
  have ld6 := partN_cell (r := V0.heap.size) Hx1.out trivial 16 (.int .i64 i) rfl
  have kvV0 : SeesN V0 V0.heap.size V0 := seesN_kept _ (kept_refl _)
  go_wp2_with fail
  clear kvV0
  obtain ⟨W7, h8⟩ : ∃ x, World.drew V0 = x := ⟨_, rfl⟩
  have k9 : Kept V0 W7 := by rw [← h8]; exact kept_drew (kept_refl _)
  have Kk10 := Lib.hid k9
  clear k9
  refine wp_region_held_drew (S := SeesN W7 V0.heap.size) (by kernel_rfl) ?_ (fun hHeld => ?_)
  · (try dsimp only)
    rw [h8]
    exact seesN_kept _ (kept_refl _)
  rw [h8] at hHeld ⊢
  clear h8
  refine take_at 0 6 tyB1r1_0 (v := ?_) (Or.inl ⟨by rfl, ?_⟩) ?_
  rotate_left 1
  · ((intro w hSw; (try dsimp only at hSw); unfold tyB1r1_0; go_simp) <;> with_reducible rfl)
  (try simp only [Act.put, List.setIfInBounds_toArray, List.set_cons_zero, List.set_cons_succ])
  refine take_at 1 7 tyB1r1_1 (v := ?_) (Or.inl ⟨by rfl, ?_⟩) ?_
  rotate_left 1
  · ((intro w hSw; (try dsimp only at hSw); have qV0 := seesN_of Kk10.out hSw; unfold tyB1r1_1; go_simp) <;> with_reducible rfl)
  (try simp only [Act.put, List.setIfInBounds_toArray, List.set_cons_zero, List.set_cons_succ])
  refine take_at 2 8 tyB1r1_2 (v := ?_) (Or.inl ⟨by rfl, ?_⟩) ?_
  rotate_left 1
  · ((intro w hSw; (try dsimp only at hSw); unfold tyB1r1_2; go_simp) <;> with_reducible rfl)
  (try simp only [Act.put, List.setIfInBounds_toArray, List.set_cons_zero, List.set_cons_succ])
  refine take_at 3 9 tyB1r1_3 (v := ?_) (Or.inl ⟨by rfl, ?_⟩) ?_
  rotate_left 1
  · ((intro w hSw; (try dsimp only at hSw); unfold tyB1r1_3; go_simp) <;> with_reducible rfl)
  (try simp only [Act.put, List.setIfInBounds_toArray, List.set_cons_zero, List.set_cons_succ])
  refine take_at 4 10 tyB1r1_4 (v := ?_) (Or.inl ⟨by rfl, ?_⟩) ?_
  rotate_left 1
  · ((intro w hSw; (try dsimp only at hSw); have qV0 := seesN_of Kk10.out hSw; unfold tyB1r1_4; go_simp) <;> with_reducible rfl)
  (try simp only [Act.put, List.setIfInBounds_toArray, List.set_cons_zero, List.set_cons_succ])
  refine take_at 5 11 tyB1r1_5 (v := ?_) (Or.inl ⟨by rfl, ?_⟩) ?_
  rotate_left 1
  · ((intro w hSw; (try dsimp only at hSw); unfold tyB1r1_5; go_simp) <;> with_reducible rfl)
  (try simp only [Act.put, List.setIfInBounds_toArray, List.set_cons_zero, List.set_cons_succ])
  refine take_at 6 12 tyB1r1_6 (v := ?_) (Or.inl ⟨by rfl, ?_⟩) ?_
  rotate_left 1
  · ((intro w hSw; (try dsimp only at hSw); unfold tyB1r1_6; go_simp) <;> with_reducible rfl)
  (try simp only [Act.put, List.setIfInBounds_toArray, List.set_cons_zero, List.set_cons_succ])
  refine take_at 7 13 tyB1r1_7 (v := ?_) (Or.inl ⟨by rfl, ?_⟩) ?_
  rotate_left 1
  · ((intro w hSw; (try dsimp only at hSw); unfold tyB1r1_7; go_simp) <;> with_reducible rfl)
  (try simp only [Act.put, List.setIfInBounds_toArray, List.set_cons_zero, List.set_cons_succ])
  refine take_at 8 14 tyB1r1_8 (v := ?_) (Or.inl ⟨by rfl, ?_⟩) ?_
  rotate_left 1
  · ((intro w hSw; (try dsimp only at hSw); unfold tyB1r1_8; go_simp) <;> with_reducible rfl)
  (try simp only [Act.put, List.setIfInBounds_toArray, List.set_cons_zero, List.set_cons_succ])
  refine take_at 9 15 tyB1r1_9 (v := ?_) (Or.inl ⟨by rfl, ?_⟩) ?_
  rotate_left 1
  · ((intro w hSw; (try dsimp only at hSw); have qV0 := seesN_of Kk10.out hSw; unfold tyB1r1_9; go_simp) <;> with_reducible rfl)
  (try simp only [Act.put, List.setIfInBounds_toArray, List.set_cons_zero, List.set_cons_succ])
  refine take_at 10 16 tyB1r1_10 (v := ?_) (Or.inl ⟨by rfl, ?_⟩) ?_
  rotate_left 1
  · ((intro w hSw; (try dsimp only at hSw); unfold tyB1r1_10; go_simp) <;> with_reducible rfl)
  (try simp only [Act.put, List.setIfInBounds_toArray, List.set_cons_zero, List.set_cons_succ])
  refine take_at 11 17 tyB1r1_11 (v := ?_) (Or.inl ⟨by rfl, ?_⟩) ?_
  rotate_left 1
  · ((intro w hSw; (try dsimp only at hSw); unfold tyB1r1_11; go_simp) <;> with_reducible rfl)
  (try simp only [Act.put, List.setIfInBounds_toArray, List.set_cons_zero, List.set_cons_succ])
  refine take_at 12 18 tyB1r1_12 (v := ?_) (Or.inl ⟨by rfl, ?_⟩) ?_
  rotate_left 1
  · ((intro w hSw; (try dsimp only at hSw); unfold tyB1r1_12; go_simp) <;> with_reducible rfl)
  (try simp only [Act.put, List.setIfInBounds_toArray, List.set_cons_zero, List.set_cons_succ])
  refine take_at 13 19 tyB1r1_13 (v := undef) (Or.inr ⟨by rfl, rfl⟩) ?_
  (try simp only [Act.put, List.setIfInBounds_toArray, List.set_cons_zero, List.set_cons_succ])
  refine take_at 14 20 tyB1r1_14 (v := undef) (Or.inr ⟨by rfl, rfl⟩) ?_
  (try simp only [Act.put, List.setIfInBounds_toArray, List.set_cons_zero, List.set_cons_succ])
  refine take_at 15 21 tyB1r1_15 (v := undef) (Or.inr ⟨by rfl, rfl⟩) ?_
  (try simp only [Act.put, List.setIfInBounds_toArray, List.set_cons_zero, List.set_cons_succ])
  refine take_at 16 22 tyB1r1_16 (v := undef) (Or.inr ⟨by rfl, rfl⟩) ?_
  (try simp only [Act.put, List.setIfInBounds_toArray, List.set_cons_zero, List.set_cons_succ])
  refine take_at 17 23 tyB1r1_17 (v := undef) (Or.inr ⟨by rfl, rfl⟩) ?_
  (try simp only [Act.put, List.setIfInBounds_toArray, List.set_cons_zero, List.set_cons_succ])
  refine take_at 18 24 tyB1r1_18 (v := undef) (Or.inr ⟨by rfl, rfl⟩) ?_
  (try simp only [Act.put, List.setIfInBounds_toArray, List.set_cons_zero, List.set_cons_succ])
  refine take_at 19 25 tyB1r1_19 (v := undef) (Or.inr ⟨by rfl, rfl⟩) ?_
  (try simp only [Act.put, List.setIfInBounds_toArray, List.set_cons_zero, List.set_cons_succ])
  refine take_at 20 26 tyB1r1_20 (v := ?_) (Or.inl ⟨by rfl, ?_⟩) ?_
  rotate_left 1
  · ((intro w hSw; (try dsimp only at hSw); unfold tyB1r1_20; go_simp) <;> with_reducible rfl)
  (try simp only [Act.put, List.setIfInBounds_toArray, List.set_cons_zero, List.set_cons_succ])
  refine take_at 21 4 tyB1r1_21 (v := ?_) (Or.inl ⟨by rfl, ?_⟩) ?_
  rotate_left 1
  · ((intro w hSw; (try dsimp only at hSw); unfold tyB1r1_21; go_simp) <;> with_reducible rfl)
  (try simp only [Act.put, List.setIfInBounds_toArray, List.set_cons_zero, List.set_cons_succ])
  refine take_at 22 5 tyB1r1_22 (v := ?_) (Or.inl ⟨by rfl, ?_⟩) ?_
  rotate_left 1
  · ((intro w hSw; (try dsimp only at hSw); unfold tyB1r1_22; go_simp) <;> with_reducible rfl)
  (try simp only [Act.put, List.setIfInBounds_toArray, List.set_cons_zero, List.set_cons_succ])
  refine wpAnyH_done (by kernel_rfl) ?_ _
  clear hHeld
  have kvV0 : SeesN V0 V0.heap.size W7 := seesN_kept _ Kk10.out
  go_wp2
  go_ret2
  exact ⟨by first | rfl | (rw [show True = True from rfl]; rfl), (kept_trans Kk4.out Kk10.out)⟩

def tyA1r1_0 : Oper := { dst := some 6, op := Go.Op.fieldAddr 34 (Go.Operand.tmp 2) 4, type := 0, pos := "rule.go:36", after := #[], guard := none }
def tyA1r1_1 : Oper := { dst := some 7, op := Go.Op.load 3 (Go.Operand.tmp 6), type := 3, pos := "rule.go:36", after := #[{ on := 0, ground := Go.Ground.data }], guard := none }
def tyA1r1_2 : Oper := { dst := some 8, op := Go.Op.binOp Go.BinOp.sub 3 (Go.Operand.tmp 7) (Go.Operand.const (Go.Value.int Go.IntKind.i64 1)) 3, type := 3, pos := "rule.go:36", after := #[{ on := 1, ground := Go.Ground.data }], guard := none }
def tyA1r1_3 : Oper := { dst := some 9, op := Go.Op.fieldAddr 34 (Go.Operand.tmp 2) 0, type := 0, pos := "rule.go:36", after := #[], guard := none }
def tyA1r1_4 : Oper := { dst := some 10, op := Go.Op.load 4 (Go.Operand.tmp 9), type := 4, pos := "rule.go:36", after := #[{ on := 3, ground := Go.Ground.data }], guard := none }
def tyA1r1_5 : Oper := { dst := some 11, op := Go.Op.move (Go.Operand.tmp 1), type := 4, pos := "rule.go:36", after := #[], guard := none }
def tyA1r1_6 : Oper := { dst := some 12, op := Go.Op.binOp Go.BinOp.eql 4 (Go.Operand.tmp 10) (Go.Operand.tmp 11) 4, type := 4, pos := "rule.go:36", after := #[{ on := 4, ground := Go.Ground.data }, { on := 5, ground := Go.Ground.data }], guard := none }
def tyA1r1_7 : Oper := { dst := some 13, op := Go.Op.move (Go.Operand.tmp 12), type := 4, pos := "rule.go:36", after := #[{ on := 6, ground := Go.Ground.data }], guard := none }
def tyA1r1_8 : Oper := { dst := some 14, op := Go.Op.fieldAddr 34 (Go.Operand.tmp 2) 4, type := 0, pos := "rule.go:36", after := #[{ on := 7, ground := Go.Ground.guard }], guard := some (7, true) }
def tyA1r1_9 : Oper := { dst := some 15, op := Go.Op.load 3 (Go.Operand.tmp 14), type := 3, pos := "rule.go:36", after := #[{ on := 8, ground := Go.Ground.data }, { on := 7, ground := Go.Ground.guard }], guard := some (7, true) }
def tyA1r1_10 : Oper := { dst := some 16, op := Go.Op.binOp Go.BinOp.geq 3 (Go.Operand.tmp 15) (Go.Operand.const (Go.Value.int Go.IntKind.i64 1)) 3, type := 4, pos := "rule.go:36", after := #[{ on := 9, ground := Go.Ground.data }, { on := 7, ground := Go.Ground.guard }], guard := some (7, true) }
def tyA1r1_11 : Oper := { dst := some 17, op := Go.Op.pick (Go.Operand.tmp 13) (Go.Operand.tmp 16) (Go.Operand.const (Go.Value.bool false)), type := 4, pos := "rule.go:36", after := #[{ on := 7, ground := Go.Ground.data }, { on := 10, ground := Go.Ground.data }], guard := none }
def tyA1r1_12 : Oper := { dst := some 18, op := Go.Op.move (Go.Operand.tmp 17), type := 4, pos := "rule.go:36", after := #[{ on := 11, ground := Go.Ground.data }, { on := 7, ground := Go.Ground.chain }], guard := none }
def tyA1r1_13 : Oper := { dst := some 19, op := Go.Op.fieldAddr 34 (Go.Operand.tmp 2) 3, type := 0, pos := "rule.go:36", after := #[{ on := 12, ground := Go.Ground.guard }], guard := some (12, true) }
def tyA1r1_14 : Oper := { dst := some 20, op := Go.Op.load 32 (Go.Operand.tmp 19), type := 32, pos := "rule.go:36", after := #[{ on := 13, ground := Go.Ground.data }, { on := 12, ground := Go.Ground.guard }], guard := some (12, true) }
def tyA1r1_15 : Oper := { dst := some 21, op := Go.Op.fieldAddr 34 (Go.Operand.tmp 2) 4, type := 0, pos := "rule.go:36", after := #[{ on := 12, ground := Go.Ground.guard }], guard := some (12, true) }
def tyA1r1_16 : Oper := { dst := some 22, op := Go.Op.load 3 (Go.Operand.tmp 21), type := 3, pos := "rule.go:36", after := #[{ on := 15, ground := Go.Ground.data }, { on := 12, ground := Go.Ground.guard }], guard := some (12, true) }
def tyA1r1_17 : Oper := { dst := some 23, op := Go.Op.binOp Go.BinOp.sub 3 (Go.Operand.tmp 22) (Go.Operand.const (Go.Value.int Go.IntKind.i64 1)) 3, type := 3, pos := "rule.go:36", after := #[{ on := 16, ground := Go.Ground.data }, { on := 12, ground := Go.Ground.guard }], guard := some (12, true) }
def tyA1r1_18 : Oper := { dst := some 24, op := Go.Op.call { callee := Go.Callee.value (Go.Operand.func 51), args := #[Go.Operand.tmp 23], argTypes := #[3] }, type := 32, pos := "rule.go:36", after := #[{ on := 17, ground := Go.Ground.data }, { on := 12, ground := Go.Ground.chain }, { on := 12, ground := Go.Ground.guard }], guard := some (12, true) }
def tyA1r1_19 : Oper := { dst := some 25, op := Go.Op.call { callee := Go.Callee.value (Go.Operand.func 50), args := #[Go.Operand.tmp 20, Go.Operand.tmp 24], argTypes := #[32, 32] }, type := 4, pos := "rule.go:36", after := #[{ on := 14, ground := Go.Ground.data }, { on := 18, ground := Go.Ground.data }, { on := 18, ground := Go.Ground.chain }, { on := 12, ground := Go.Ground.guard }], guard := some (12, true) }
def tyA1r1_20 : Oper := { dst := some 26, op := Go.Op.pick (Go.Operand.tmp 18) (Go.Operand.tmp 25) (Go.Operand.const (Go.Value.bool false)), type := 4, pos := "rule.go:36", after := #[{ on := 12, ground := Go.Ground.data }, { on := 19, ground := Go.Ground.data }, { on := 21, ground := Go.Ground.gcOnly Go.Departure.lateStores }], guard := none }
def tyA1r1_21 : Oper := { dst := some 4, op := Go.Op.assign (Go.Operand.tmp 8), type := 3, pos := "rule.go:36", after := #[{ on := 2, ground := Go.Ground.data }, { on := 19, ground := Go.Ground.chain }, { on := 0, ground := Go.Ground.phase }, { on := 1, ground := Go.Ground.phase }, { on := 2, ground := Go.Ground.phase }, { on := 3, ground := Go.Ground.textOnly Go.Departure.lateStores }, { on := 4, ground := Go.Ground.textOnly Go.Departure.lateStores }, { on := 5, ground := Go.Ground.textOnly Go.Departure.lateStores }, { on := 6, ground := Go.Ground.textOnly Go.Departure.lateStores }, { on := 7, ground := Go.Ground.textOnly Go.Departure.lateStores }, { on := 8, ground := Go.Ground.textOnly Go.Departure.lateStores }, { on := 9, ground := Go.Ground.textOnly Go.Departure.lateStores }, { on := 10, ground := Go.Ground.textOnly Go.Departure.lateStores }, { on := 11, ground := Go.Ground.textOnly Go.Departure.lateStores }, { on := 12, ground := Go.Ground.textOnly Go.Departure.lateStores }, { on := 13, ground := Go.Ground.textOnly Go.Departure.lateStores }, { on := 14, ground := Go.Ground.textOnly Go.Departure.lateStores }, { on := 15, ground := Go.Ground.textOnly Go.Departure.lateStores }, { on := 16, ground := Go.Ground.textOnly Go.Departure.lateStores }, { on := 17, ground := Go.Ground.textOnly Go.Departure.lateStores }, { on := 18, ground := Go.Ground.textOnly Go.Departure.lateStoresUnsure }, { on := 19, ground := Go.Ground.textOnly Go.Departure.lateStoresUnsure }, { on := 20, ground := Go.Ground.textOnly Go.Departure.lateStores }], guard := none }
def tyA1r1_22 : Oper := { dst := some 5, op := Go.Op.assign (Go.Operand.tmp 26), type := 4, pos := "rule.go:36", after := #[{ on := 20, ground := Go.Ground.data }, { on := 21, ground := Go.Ground.chain }, { on := 0, ground := Go.Ground.phase }, { on := 1, ground := Go.Ground.phase }, { on := 2, ground := Go.Ground.phase }, { on := 3, ground := Go.Ground.phase }, { on := 4, ground := Go.Ground.phase }, { on := 5, ground := Go.Ground.phase }, { on := 6, ground := Go.Ground.phase }, { on := 7, ground := Go.Ground.phase }, { on := 8, ground := Go.Ground.phase }, { on := 9, ground := Go.Ground.phase }, { on := 10, ground := Go.Ground.phase }, { on := 11, ground := Go.Ground.phase }, { on := 12, ground := Go.Ground.phase }, { on := 13, ground := Go.Ground.phase }, { on := 14, ground := Go.Ground.phase }, { on := 15, ground := Go.Ground.phase }, { on := 16, ground := Go.Ground.phase }, { on := 17, ground := Go.Ground.phase }, { on := 18, ground := Go.Ground.phase }, { on := 19, ground := Go.Ground.phase }, { on := 20, ground := Go.Ground.phase }, { on := 21, ground := Go.Ground.phase }], guard := none }
set_option maxRecDepth 20000 in
set_option maxHeartbeats 4000000 in
theorem tyA1_any (i : Int) (u : Tm) (v : Tm) (x : Tm) (P : Nat → Prop) (w : World) (su : Value) (sv : Value) (sx : Value) (hfu : u.fine) (hlu : LiesQ w P u.kids su) (hfv : v.fine) (hlv : LiesQ w P v.kids sv) (hfx : x.fine) (hlx : LiesQ w P x.kids sx) (hri : I64 i) (hi0 : 0 ≤ i) (hi1 : i ≤ 1000) (h1 : 1 ≤ i) : Calls Try.prog 33 #[.agg #[.bool true, .int .i64 u.k, .int .i64 u.i, .int .i64 u.j, .int .i64 u.n, su, .int .i64 v.k, .int .i64 v.i, .int .i64 v.j, .int .i64 v.n, sv, .int .i64 x.k, .int .i64 x.i, .int .i64 x.j, .int .i64 x.n, sx, .int .i64 i], .bool true] w fun e w' => e = .returned (.tuple #[.int .i64 (i - 1), .bool (sameB x (.mk 1 (i - 1) 0 0 []))]) ∧ Kept w w' := by
  have Gu := Lib.hid hfu
  clear hfu
  obtain ⟨au, cu, Su, rfl, -⟩ := hlu.out
  have Gv := Lib.hid hfv
  clear hfv
  obtain ⟨av, cv, Sv, rfl, -⟩ := hlv.out
  have Gx := Lib.hid hfx
  clear hfx
  obtain ⟨ax, cx, Sx, rfl, -⟩ := hlx.out
  have Ri := Lib.hid hri
  clear hri
  have ew : IntKind.i64.wrap (i - 1) = i - 1 := IntWalk.i64_in _ (by omega)
  have HR1 := Lib.hid (show I64 (i - 1) by unfold I64; omega)
  have e1 : decide (1 ≤ i) = true := decide_eq_true h1
  clear hi0 hi1 h1
  obtain ⟨dj, dj1, dj2⟩ := under_of 34 (by kernel_rfl)
  obtain ⟨du, hu1, hu2⟩ := under_term
  go_enter Try.func33, Try.ntmps33
  go_upto_region 1 with fail
  refine at_code (fun V0 hV0 => ?_)
  obtain ⟨k2, x1, z3⟩ := alloc1 hV0
  have Kk4 := Lib.hid k2
  clear k2
  have Hx1 := Lib.hid x1
  have Z0 := Lib.hid z3
  clear z3 x1 hV0
  have HLu : Hid (LiesQ V0 (Par w V0.heap.size [] P) u.kids _) := (par_in _ _ hlu).later Kk4.out
  clear hlu
  have HLv : Hid (LiesQ V0 (Par w V0.heap.size [] P) v.kids _) := (par_in _ _ hlv).later Kk4.out
  clear hlv
  have HLx : Hid (LiesQ V0 (Par w V0.heap.size [] P) x.kids _) := (par_in _ _ hlx).later Kk4.out
  clear hlx
  have ld5 := partN_cell (r := V0.heap.size) Hx1.out trivial 0 (.bool true) rfl
  have ld6 := partN_cell (r := V0.heap.size) Hx1.out trivial 16 (.int .i64 i) rfl
  have kvV0 : SeesN V0 V0.heap.size V0 := seesN_kept _ (kept_refl _)
  go_wp2_with fail
  clear kvV0
  obtain ⟨W7, h8⟩ : ∃ x, World.drew V0 = x := ⟨_, rfl⟩
  have k9 : Kept V0 W7 := by rw [← h8]; exact kept_drew (kept_refl _)
  have Kk10 := Lib.hid k9
  clear k9
  refine wp_region_held_drew (S := SeesN W7 V0.heap.size) (by kernel_rfl) ?_ (fun hHeld => ?_)
  · (try dsimp only)
    rw [h8]
    exact seesN_kept _ (kept_refl _)
  rw [h8] at hHeld ⊢
  clear h8
  refine take_at 0 6 tyA1r1_0 (v := ?_) (Or.inl ⟨by rfl, ?_⟩) ?_
  rotate_left 1
  · ((intro w hSw; (try dsimp only at hSw); unfold tyA1r1_0; go_simp) <;> with_reducible rfl)
  (try simp only [Act.put, List.setIfInBounds_toArray, List.set_cons_zero, List.set_cons_succ])
  refine take_at 1 7 tyA1r1_1 (v := ?_) (Or.inl ⟨by rfl, ?_⟩) ?_
  rotate_left 1
  · ((intro w hSw; (try dsimp only at hSw); have qV0 := seesN_of Kk10.out hSw; unfold tyA1r1_1; go_simp) <;> with_reducible rfl)
  (try simp only [Act.put, List.setIfInBounds_toArray, List.set_cons_zero, List.set_cons_succ])
  refine take_at 2 8 tyA1r1_2 (v := ?_) (Or.inl ⟨by rfl, ?_⟩) ?_
  rotate_left 1
  · ((intro w hSw; (try dsimp only at hSw); unfold tyA1r1_2; go_simp) <;> with_reducible rfl)
  (try simp only [Act.put, List.setIfInBounds_toArray, List.set_cons_zero, List.set_cons_succ])
  refine take_at 3 9 tyA1r1_3 (v := ?_) (Or.inl ⟨by rfl, ?_⟩) ?_
  rotate_left 1
  · ((intro w hSw; (try dsimp only at hSw); unfold tyA1r1_3; go_simp) <;> with_reducible rfl)
  (try simp only [Act.put, List.setIfInBounds_toArray, List.set_cons_zero, List.set_cons_succ])
  refine take_at 4 10 tyA1r1_4 (v := ?_) (Or.inl ⟨by rfl, ?_⟩) ?_
  rotate_left 1
  · ((intro w hSw; (try dsimp only at hSw); have qV0 := seesN_of Kk10.out hSw; unfold tyA1r1_4; go_simp) <;> with_reducible rfl)
  (try simp only [Act.put, List.setIfInBounds_toArray, List.set_cons_zero, List.set_cons_succ])
  refine take_at 5 11 tyA1r1_5 (v := ?_) (Or.inl ⟨by rfl, ?_⟩) ?_
  rotate_left 1
  · ((intro w hSw; (try dsimp only at hSw); unfold tyA1r1_5; go_simp) <;> with_reducible rfl)
  (try simp only [Act.put, List.setIfInBounds_toArray, List.set_cons_zero, List.set_cons_succ])
  refine take_at 6 12 tyA1r1_6 (v := ?_) (Or.inl ⟨by rfl, ?_⟩) ?_
  rotate_left 1
  · ((intro w hSw; (try dsimp only at hSw); unfold tyA1r1_6; go_simp) <;> with_reducible rfl)
  (try simp only [Act.put, List.setIfInBounds_toArray, List.set_cons_zero, List.set_cons_succ])
  refine take_at 7 13 tyA1r1_7 (v := ?_) (Or.inl ⟨by rfl, ?_⟩) ?_
  rotate_left 1
  · ((intro w hSw; (try dsimp only at hSw); unfold tyA1r1_7; go_simp) <;> with_reducible rfl)
  (try simp only [Act.put, List.setIfInBounds_toArray, List.set_cons_zero, List.set_cons_succ])
  refine take_at 8 14 tyA1r1_8 (v := ?_) (Or.inl ⟨by rfl, ?_⟩) ?_
  rotate_left 1
  · ((intro w hSw; (try dsimp only at hSw); unfold tyA1r1_8; go_simp) <;> with_reducible rfl)
  (try simp only [Act.put, List.setIfInBounds_toArray, List.set_cons_zero, List.set_cons_succ])
  refine take_at 9 15 tyA1r1_9 (v := ?_) (Or.inl ⟨by rfl, ?_⟩) ?_
  rotate_left 1
  · ((intro w hSw; (try dsimp only at hSw); have qV0 := seesN_of Kk10.out hSw; unfold tyA1r1_9; go_simp) <;> with_reducible rfl)
  (try simp only [Act.put, List.setIfInBounds_toArray, List.set_cons_zero, List.set_cons_succ])
  refine take_at 10 16 tyA1r1_10 (v := ?_) (Or.inl ⟨by rfl, ?_⟩) ?_
  rotate_left 1
  · ((intro w hSw; (try dsimp only at hSw); unfold tyA1r1_10; go_simp) <;> with_reducible rfl)
  (try simp only [Act.put, List.setIfInBounds_toArray, List.set_cons_zero, List.set_cons_succ])
  refine take_at 11 17 tyA1r1_11 (v := ?_) (Or.inl ⟨by rfl, ?_⟩) ?_
  rotate_left 1
  · ((intro w hSw; (try dsimp only at hSw); unfold tyA1r1_11; go_simp) <;> with_reducible rfl)
  (try simp only [Act.put, List.setIfInBounds_toArray, List.set_cons_zero, List.set_cons_succ])
  refine take_at 12 18 tyA1r1_12 (v := ?_) (Or.inl ⟨by rfl, ?_⟩) ?_
  rotate_left 1
  · ((intro w hSw; (try dsimp only at hSw); unfold tyA1r1_12; go_simp) <;> with_reducible rfl)
  (try simp only [Act.put, List.setIfInBounds_toArray, List.set_cons_zero, List.set_cons_succ])
  refine take_at 13 19 tyA1r1_13 (v := ?_) (Or.inl ⟨by rfl, ?_⟩) ?_
  rotate_left 1
  · ((intro w hSw; (try dsimp only at hSw); unfold tyA1r1_13; go_simp) <;> with_reducible rfl)
  (try simp only [Act.put, List.setIfInBounds_toArray, List.set_cons_zero, List.set_cons_succ])
  refine take_at 14 20 tyA1r1_14 (yields_part (w.heap.size) (11) 32 (.tmp 19) #[.int .i64 x.k, .int .i64 x.i, .int .i64 x.j, .int .i64 x.n, (.slice ax x.kids.length cx)] du (fun _ h => seesN_blk Hx1.out trivial (seesN_of Kk10.out h)) (by rfl) rfl (by rfl) (by rfl) hu1 (by cases du <;> first | rfl | exact hu2) size_term) ?_
  (try simp only [Act.put, List.setIfInBounds_toArray, List.set_cons_zero, List.set_cons_succ])
  refine take_at 15 21 tyA1r1_15 (v := ?_) (Or.inl ⟨by rfl, ?_⟩) ?_
  rotate_left 1
  · ((intro w hSw; (try dsimp only at hSw); unfold tyA1r1_15; go_simp) <;> with_reducible rfl)
  (try simp only [Act.put, List.setIfInBounds_toArray, List.set_cons_zero, List.set_cons_succ])
  refine take_at 16 22 tyA1r1_16 (v := ?_) (Or.inl ⟨by rfl, ?_⟩) ?_
  rotate_left 1
  · ((intro w hSw; (try dsimp only at hSw); have qV0 := seesN_of Kk10.out hSw; unfold tyA1r1_16; go_simp) <;> with_reducible rfl)
  (try simp only [Act.put, List.setIfInBounds_toArray, List.set_cons_zero, List.set_cons_succ])
  refine take_at 17 23 tyA1r1_17 (v := ?_) (Or.inl ⟨by rfl, ?_⟩) ?_
  rotate_left 1
  · ((intro w hSw; (try dsimp only at hSw); unfold tyA1r1_17; go_simp) <;> with_reducible rfl)
  (try simp only [Act.put, List.setIfInBounds_toArray, List.set_cons_zero, List.set_cons_succ])
  refine wpAnyH_ready (rs := [18]) (by kernel_rfl) (by simp) ?_
  refine AllReadyH.cons (o := tyA1r1_18) rfl (fun K hK => ?_) ?_
  · unfold tyA1r1_18
    go_simp
    refine (sort11_any (i - 1) (Par w V0.heap.size [] P) _ HR1.out).mono ?_
    obtain ⟨U18, hU18⟩ : ∃ qu, (Tm.mk 1 (i - 1) 0 0 []) = qu := ⟨_, rfl⟩
    rw [hU18]
    have HU18 := Lib.hid hU18
    clear hU18
    rintro e w11 ⟨s13, rfl, hl14, k12⟩
    obtain ⟨a15, c16, S17, rfl, -⟩ := hl14.out
    have Kk19 := Lib.hid k12
    clear k12
    have Hhl14 : Hid (LiesQ w11 (Par w V0.heap.size [] P) U18.kids _) := par_give hl14 (Below.size Kk10.out) (xlt_nil _)
    clear hl14
    clear hHeld
    refine hK.out _ _ (seesN_kept _ Kk19.out) (fun hHeld => ?_)
    clear hK K
    (try simp only [Act.put, List.setIfInBounds_toArray, List.set_cons_zero, List.set_cons_succ])
    refine wpAnyH_ready (rs := [19]) (by kernel_rfl) (by simp) ?_
    refine AllReadyH.cons (o := tyA1r1_19) rfl (fun K hK => ?_) ?_
    · unfold tyA1r1_19
      go_simp
      refine (same11_any x U18 (Par w V0.heap.size [] P) _ ((.slice ax x.kids.length cx)) ((.slice a15 U18.kids.length c16)) Gx.out (HLx.out.later (kept_trans Kk10.out Kk19.out)) (by rw [← HU18.out]; exact (mk_fine (by unfold I64; decide) HR1.out (by unfold I64; decide) (by unfold I64; decide))) Hhl14.out).mono ?_
      obtain ⟨rb23, hb22⟩ : ∃ qb, (sameB x U18) = qb := ⟨_, rfl⟩
      rw [hb22]
      have Hhb22 := Lib.hid hb22
      clear hb22
      rintro e w20 ⟨rfl, k21⟩
      have Kk24 := Lib.hid k21
      clear k21
      cases rb23 with
      | false =>
        clear hHeld
        refine hK.out _ _ (seesN_kept _ (kept_trans Kk19.out Kk24.out)) (fun hHeld => ?_)
        clear hK K
        (try simp only [Act.put, List.setIfInBounds_toArray, List.set_cons_zero, List.set_cons_succ])
        refine take_at 20 26 tyA1r1_20 (v := ?_) (Or.inl ⟨by rfl, ?_⟩) ?_
        rotate_left 1
        · ((intro w hSw; (try dsimp only at hSw); unfold tyA1r1_20; go_simp) <;> with_reducible rfl)
        (try simp only [Act.put, List.setIfInBounds_toArray, List.set_cons_zero, List.set_cons_succ])
        refine take_at 21 4 tyA1r1_21 (v := ?_) (Or.inl ⟨by rfl, ?_⟩) ?_
        rotate_left 1
        · ((intro w hSw; (try dsimp only at hSw); unfold tyA1r1_21; go_simp) <;> with_reducible rfl)
        (try simp only [Act.put, List.setIfInBounds_toArray, List.set_cons_zero, List.set_cons_succ])
        refine take_at 22 5 tyA1r1_22 (v := ?_) (Or.inl ⟨by rfl, ?_⟩) ?_
        rotate_left 1
        · ((intro w hSw; (try dsimp only at hSw); unfold tyA1r1_22; go_simp) <;> with_reducible rfl)
        (try simp only [Act.put, List.setIfInBounds_toArray, List.set_cons_zero, List.set_cons_succ])
        refine wpAnyH_done (by kernel_rfl) ?_ _
        clear hHeld
        have kvV0 : SeesN V0 V0.heap.size w20 := seesN_kept _ (kept_trans Kk10.out (kept_trans Kk19.out Kk24.out))
        go_wp2
        go_ret2
        exact ⟨by first | rfl | (rw [HU18.out, Hhb22.out]; rfl), (kept_trans Kk4.out (kept_trans Kk10.out (kept_trans Kk19.out Kk24.out)))⟩
      | true =>
        clear hHeld
        refine hK.out _ _ (seesN_kept _ (kept_trans Kk19.out Kk24.out)) (fun hHeld => ?_)
        clear hK K
        (try simp only [Act.put, List.setIfInBounds_toArray, List.set_cons_zero, List.set_cons_succ])
        refine take_at 20 26 tyA1r1_20 (v := ?_) (Or.inl ⟨by rfl, ?_⟩) ?_
        rotate_left 1
        · ((intro w hSw; (try dsimp only at hSw); unfold tyA1r1_20; go_simp) <;> with_reducible rfl)
        (try simp only [Act.put, List.setIfInBounds_toArray, List.set_cons_zero, List.set_cons_succ])
        refine take_at 21 4 tyA1r1_21 (v := ?_) (Or.inl ⟨by rfl, ?_⟩) ?_
        rotate_left 1
        · ((intro w hSw; (try dsimp only at hSw); unfold tyA1r1_21; go_simp) <;> with_reducible rfl)
        (try simp only [Act.put, List.setIfInBounds_toArray, List.set_cons_zero, List.set_cons_succ])
        refine take_at 22 5 tyA1r1_22 (v := ?_) (Or.inl ⟨by rfl, ?_⟩) ?_
        rotate_left 1
        · ((intro w hSw; (try dsimp only at hSw); unfold tyA1r1_22; go_simp) <;> with_reducible rfl)
        (try simp only [Act.put, List.setIfInBounds_toArray, List.set_cons_zero, List.set_cons_succ])
        refine wpAnyH_done (by kernel_rfl) ?_ _
        clear hHeld
        have kvV0 : SeesN V0 V0.heap.size w20 := seesN_kept _ (kept_trans Kk10.out (kept_trans Kk19.out Kk24.out))
        go_wp2
        go_ret2
        exact ⟨by first | rfl | (rw [HU18.out, Hhb22.out]; rfl), (kept_trans Kk4.out (kept_trans Kk10.out (kept_trans Kk19.out Kk24.out)))⟩
    exact AllReadyH.nil
  exact AllReadyH.nil

theorem ty1_any (i : Int) (u v x : Tm) (P : Nat → Prop) (w : World) (su sv sx : Value) (hfu : u.fine) (hlu : LiesQ w P u.kids su) (hfv : v.fine) (hlv : LiesQ w P v.kids sv) (hfx : x.fine) (hlx : LiesQ w P x.kids sx) (hri : I64 i) (hi0 : 0 ≤ i) (hi1 : i ≤ 1000) (hp : x.pureB = true) : Calls Try.prog 33 #[jv ⟨true, u, v, x, i⟩ su sv sx, .bool true] w fun e w' => e = .returned (.tuple #[.int .i64 (i - 1), .bool (osB x i)]) ∧ Kept w w' := by
  rw [← ts_os hp]
  by_cases h1 : 1 ≤ i
  · rw [decide_eq_true h1, Bool.true_and]; exact tyA1_any i u v x P w su sv sx hfu hlu hfv hlv hfx hlx hri hi0 hi1 h1
  · rw [decide_eq_false h1, Bool.false_and]; exact tyB1_any i u v x P w su sv sx hfu hlu hfv hlv hfx hlx hri hi0 hi1 h1
end Go.Proofs.Ytjlppnmckobcfaa
