/-
  Facts and contracts that the proof of HetEnds uses.
-/
import Derived.Test.YtkdceahmknhojaaRows
import Derived.WalkKit
import Derived.Lib.Hide
import Derived.KernelRfl
import Derived.Deep.RegionWith
import Derived.Deep.RegionHeld3
import Derived.Deep.AppendLies
import Derived.Laws.Rows
import Derived.Laws.IdiomCopy
import Derived.Deep.Slices
import Derived.Lib.QuietBelow
import Derived.StillTailTactics
import Derived.BigQuiet
import Derived.IntWalk
import Derived.OwnWalk
import Derived.Deep.RegionLaw
import Derived.Deep.QuietTactic
import Derived.Deep.LoopGhost
import Derived.Deep.DeepCutAuto
import Derived.Deep.MidRow
import Derived.OrdersHeld
import Derived.Laws.Tables
import Derived.Laws.CopyOwn
import Derived.Laws.CopyRow
import Derived.Deep.RegionHeld
import Derived.ProofKit
import Derived.OpenShut
import Derived.Carry
import Derived.ChangeSlices
import Derived.JoinedOf
import Derived.Test.YtkdceahmknhojaaHetEndsQ1
namespace Go.Proofs.Ytkdceahmknhojaa
open Go.RowKit

set_option maxRecDepth 20000 in
set_option maxHeartbeats 4000000 in
theorem copies_of (l : List Tm) (ih : ∀ x ∈ l, ∀ (w : World) (s : Value), Lies w x.kids s → Calls Try.prog 92 #[tv x s] w (Makes x w))
    (w : World) (s : Value) (hl : Lies w l s) (hlen : l.length ≤ 1000000) : Calls Try.prog 154 #[s] w (MakesAll l w) := by
  obtain ⟨a, cap, S, rfl, hc, hmx, hf, hn, hk⟩ := hl.out
  unfold maxLen at hmx
  obtain ⟨i0, hi, hz0, hz1, hz2⟩ := info_parts info_term
  have IH := Lib.hid ih
  have HN := Lib.hid hn
  have HK := Lib.hid hk
  have HF := Lib.hid hf
  have HI := Lib.hid (And.intro hi (And.intro hz0 (And.intro hz1 hz2)))
  clear ih hn hk hl hf hi hz0 hz1 hz2
  by_cases h0 : l.length = 0
  · obtain rfl : l = [] := List.eq_nil_of_length_eq_zero h0
    go_enter Try.func154, Try.ntmps154
    go_wp2
    go_ret
    exact ⟨_, rfl, liesP_nil _ _, Below.refl _ _⟩
  have e1 : ((l.length : Int) == 0) = false := by simpa using h0
  have e2 : (l.length == 0) = false := by simpa using h0
  clear h0
  go_enter Try.func154, Try.ntmps154
  go_wp2_with (at_make; refine wpList_make_full _ rfl _ _ 30 rfl w.heap.size 32 i0 _ 5 (by kernel_rfl) HI.out.1 HI.out.2.1 HI.out.2.2.1 _ _ _ _ l.length rfl rfl rfl rfl ?bytes ?max ?base ?next)
  case bytes => rw [HI.out.2.2.2]; omega
  case max => unfold maxLen; omega
  case base => exact Nat.le_refl _
  case next =>
  intro w2 hown hgrow
  have hful := full_made hown
  have hbel : Below w.heap.size w w2 := (Below.refl _ _).grown hgrow (Nat.le_refl _) (by simp)
  obtain ⟨g, hg⟩ : ∃ g, w.heap.size = g := ⟨_, rfl⟩
  have HGE := Lib.hid (show w.heap.size ≤ g by omega)
  (try rw [hg] at hful)
  (try rw [hg])
  have hful' : Full w.heap.size w2 g (List.replicate l.length (Tm.zero, .slice none 0 0)) := by rw [hg]; exact hful
  clear hown hgrow hful e1 e2
  have hbel' : Below w.heap.size w w2 := hbel
  clear hbel
  have HG := Lib.hid hg
  clear hg
  go_wp2_with fail
  go_loopw [14] (fun iv wr => ∃ (k : Nat) (xs : List (Tm × Value)), k ≤ l.length ∧ iv = .int .i64 k ∧ Hid (xs.length = l.length) ∧ Hid ((xs.map (·.1)).take k = l.take k) ∧ Full w.heap.size wr g xs ∧ Below w.heap.size w wr) (fun iv _ => l.length - (intOf iv).toNat)
  case atStart => exact ⟨0, _, Nat.zero_le _, rfl, List.length_replicate, rfl, hful', hbel'⟩
  case round =>
    clear hful' hbel'
    obtain ⟨k, xs, hk, rfl, hxl, hxs, hfu, hb⟩ := hrel
    by_cases hlt : k < l.length
    · obtain ⟨b, o, rfl, hx⟩ := HN.out k hlt
      obtain ⟨x0, x1, x2, x3, x4⟩ := hx.below hb hx.lt
      have hq := (HK.out k hlt).keep hb
      obtain ⟨a', cap', S', hS, -⟩ := hq.out
      rw [hS] at x4 hq
      have HXK := Lib.hid (show k < xs.length by have := hxl.out; omega)
      have HM := Lib.hid (List.getElem_mem hlt)
      have hV : Below wr.heap.size wr (wr.alloc (.cells #[.int .i64 l[k].k, .int .i64 l[k].i, .int .i64 l[k].j, .int .i64 l[k].n, .slice a' l[k].kids.length cap'] 32)) := (Below.refl _ _).alloc (Nat.le_refl _) _
      have hqV := hq.keep hV
      have HFV := Lib.hid (hfu.later hV)
      have HKV := Lib.hid (below_call hb hV hb.size)
      have HW := Lib.hid hb.size
      clear hS hq hV hfu hb
      go_wp2_with fail
      refine (IH.out _ HM.out _ _ hqV).mono ?_
      generalize wr.alloc (.cells #[.int .i64 l[k].k, .int .i64 l[k].i, .int .i64 l[k].j, .int .i64 l[k].n, .slice a' l[k].kids.length cap'] 32) = V at HFV HKV hqV ⊢
      rintro ee wn ⟨s2, rfl, hl2, hbn⟩
      obtain ⟨a2, cap2, rfl, -, -⟩ := hl2.out
      have hfn := HFV.out.later hbn
      have HL2 := Lib.hid (HFV.out.fresh HKV.out.size hl2)
      have HKN := Lib.hid (below_call HKV.out hbn HKV.out.size)
      obtain ⟨z0, z1, z2, z3, z4⟩ := hfn.node k HXK.out
      obtain ⟨cs, hcs⟩ := hfn.open'
      obtain ⟨r0, r1, r2, r3, r4, -⟩ := open_free hcs (k * 5)
      have HFN := Lib.hid hfn
      clear hfn hcs hbn hl2 hqV x0 x1 x2 x3 x4
      go_wp2_with fail
      have hFN := HFN.out.fill (t := l[k]) HXK.out (HF.out _ HM.out) HL2.out
      have hkE := put5_below HKN.out HGE.out (k * 5) l[k] (.slice a2 l[k].kids.length cap2)
      clear z0 z1 z2 z3 z4 r0 r1 r2 r3 r4
      go_roundw
      case rel => exact ⟨k + 1, xs.set k (l[k], .slice a2 l[k].kids.length cap2), by omega, by go_num, by show _ = _; rw [List.length_set]; exact hxl.out, take_set_map _ hxl.out hlt hxs.out rfl, hFN, hkE⟩
      case measure => simp [intOf]; omega
    · obtain rfl : k = l.length := by omega
      have hxs' : xs.map (·.1) = l := by
        have h := hxs.out
        rw [List.take_of_length_le (by simp [hxl.out]), List.take_of_length_le (Nat.le_refl _)] at h
        exact h
      have hres := hfu.lies (cap := l.length) (by rw [hxl.out]; exact Nat.le_refl _) (by unfold maxLen; omega)
      rw [hxs', hxl.out] at hres
      go_wp2_with fail
      go_ret
      exact ⟨_, rfl, hres, hb⟩

end Go.Proofs.Ytkdceahmknhojaa

namespace Go.Proofs.Ytkdceahmknhojaa
open Go.RowKit

set_option maxRecDepth 20000 in
set_option maxHeartbeats 4000000 in
theorem copyR_any (t : Tm) : ∀ (w : World) (s : Value), Lies w t.kids s → t.rightB = true → Calls Try.prog 92 #[tv t s] w (Makes t w) := by
  induction t using Tm.ind with
  | h t ih =>
    intro w s hl hr
    obtain ⟨a, cap, S, rfl, hc, hm, hf, hn, hk⟩ := hl.out
    have CP : ∀ (w' : World) (s' : Value), Lies w' t.kids s' → Calls Try.prog 154 #[s'] w' (MakesAll t.kids w') := fun w' s' h' => copies_of t.kids (fun x hx w2 s2 h2 => ih x hx w2 s2 h2 (t.right_kids hr x hx)) w' s' h' (by have := right_len hr; omega)
    unfold tv
    unfold maxLen at hm
    obtain ⟨du, hu1, hu2⟩ := under_term
    have HL := Lib.hid hl
    replace CP := Lib.hid CP
    have H0 := boxes_start w t (.slice a t.kids.length cap)
    clear ih hn hk hf hl hr
    go_enter Try.func92, Try.ntmps92
    go_wp2_with fail
    refine (CP.out _ _ (boxes_lies H0 HL.out)).mono ?_
    generalize (w.alloc (.cells #[.int .i64 t.k, .int .i64 t.i, .int .i64 t.j, .int .i64 t.n, .slice a t.kids.length cap] 32)).alloc (.cells #[.int .i64 0, .int .i64 0, .int .i64 0, .int .i64 0, .slice none 0 0] 32) = V at H0 ⊢
    rintro ee wn ⟨s2, rfl, hl2, hb2⟩
    obtain ⟨a2, cap2, rfl, -, -⟩ := hl2.out
    have hs := Below.size H0
    have hh := boxes_call H0 hb2
    have hl3 : LiesP wn (Own (w.heap.size + 2) wn) t.kids (.slice a2 t.kids.length cap2) := hl2.from (by simpa using hs)
    have hbx := boxes_block hh
    have hbo : wn.heap[w.heap.size]? = some (boxOf t (.slice a t.kids.length cap)) := by
      rw [Below.block hh _ (by omega), Below.heap_alloc _ _ _ (by simp)]; exact alloc_new _ _
    obtain ⟨x0, x1, x2, x3, x4, z0, z1, z2, z3, z4, f0, f1, f2, f3, f4⟩ := boxes_cells hh
    obtain ⟨q0, q1, q2, q3, q4⟩ := five_free hbo
    have HL3 := Lib.hid hl3
    have HBX : Hid ((wn.setCell ⟨w.heap.size, 4, none⟩ (.slice a2 t.kids.length cap2)).heap[w.heap.size + 1]? = some (.cells #[.int .i64 0, .int .i64 0, .int .i64 0, .int .i64 0, .slice none 0 0] 32 (0, 0))) := (Below.heap_setCell _ _ _ _ (by show w.heap.size + 1 ≠ w.heap.size; omega)).trans hbx
    have HBL := Lib.hid (held_below (boxes_held hh))
    clear hl2 hb2 hl3 hbx hbo hh hs H0
    go_wp2
    refine bodyPost_ret (results_cell_row rfl _ _ (w.heap.size + 1) _ _ _ du rfl (five_set HBX.out) hu1 (by cases du <;> first | rfl | exact hu2) size_term) rfl ?_
    refine ⟨_, rfl, ?_, ?_⟩
    · exact liesP_fives (liesP_set HL3.out (by omega) (Nat.le_refl _) _) (by omega) (by omega) _ _ _ _ _
    · exact below_five (HBL.out.setCell (Nat.le_refl _) _) (by omega) _ _ _ _ _

theorem copiesR_any (l : List Tm) (w : World) (s : Value) (hl : Lies w l s) (hp : ∀ x ∈ l, x.plainB = true) (hlen : l.length ≤ 1000) : Calls Try.prog 154 #[s] w (MakesAll l w) :=
  copies_of l (fun x hx w2 s2 h2 => copyR_any x w2 s2 h2 (plain_right (hp x hx))) w s hl (by omega)
end Go.Proofs.Ytkdceahmknhojaa

namespace Go.Proofs.Ytkdceahmknhojaa
open Go

section
variable {P : Program} {ops : Array Oper} {Q : Exit → Act → World → Prop} {md : Region.Mode} {S : World → Prop} {k0 : Nat}

def wpAnyX (P : Program) (md : Region.Mode) (ops : Array Oper) (Q : Exit → Act → World → Prop) (S : World → Prop) (k0 : Nat) : Nat → Array Bool → Act → World → Prop
  | 0, listed, a, w => Region.ready md ops listed = [] ∧ Q .normal a w
  | fuel + 1, listed, a, w =>
    (Region.ready md ops listed = [] → Q .normal a w) ∧
    ∀ i ∈ Region.ready md ops listed, wpOp P ops Q i (fun a' w' => ((listed.setIfInBounds i true).getD k0 true = false → S w') ∧ wpAnyX P md ops Q S k0 fuel (listed.setIfInBounds i true) a' w') a w

theorem wpAny_of_X : ∀ (fuel : Nat) (listed : Array Bool) (a : Act) (w : World), wpAnyX P md ops Q S k0 fuel listed a w → wpAny P md ops Q fuel listed a w
  | 0, _, _, _, h => h
  | fuel + 1, _, _, _, h => ⟨h.1, fun i hi => wpOp_mono (fun a' w' h' => wpAny_of_X fuel _ a' w' h'.2) (h.2 i hi)⟩

theorem getD_set_ne' {l : Array Bool} {i k : Nat} (h : i ≠ k) : (l.setIfInBounds i true).getD k true = l.getD k true := getD_set_ne true h

theorem wpAnyX_first {i : Nat} {oi : Oper} {v : Value} (hi : ops[i]? = some oi) (hsel : ∀ (j : Nat) (o : Oper) cs b, ops[j]? = some o → o.op ≠ .select cs b)
    (hQ : ∀ c a w, Q (.panic c) (a.put oi.dst v) w → Q (.panic c) a w) (hki : i ≠ k0)
    (hwait : ∃ ok, ops[k0]? = some ok ∧ ∃ e ∈ ok.after, Region.binds md e = true ∧ e.on = i) :
    ∀ (fuel : Nat) (listed : Array Bool) (a : Act) (w : World),
      (∀ j oj, ops[j]? = some oj → j ≠ i → listed.getD j true = false → (∀ e ∈ oj.after, Region.binds md e = true → e.on ≠ i) → oi.apart ops oj = true) →
      i ∈ Region.ready md ops listed → listed.getD k0 true = false → YieldsIf P ops S oi v a → S w →
      wpAnyX P md ops Q S k0 fuel (listed.setIfInBounds i true) (a.put oi.dst v) w → wpAnyX P md ops Q S k0 (fuel + 1) listed a w := by
  intro fuel
  induction fuel with
  | zero =>
    intro listed a w _ hr _ hy hS H
    refine ⟨fun h => (by rw [h] at hr; cases hr), fun j hj => ?_⟩
    by_cases hji : j = i
    · subst hji; exact hy.wpOp hi hS ⟨fun _ => hS, H⟩
    · have := ready_mono hj hji
      rw [H.1] at this
      cases this
  | succ fuel ih =>
    intro listed a w hfree hr hun0 hy hS H
    refine ⟨fun h => (by rw [h] at hr; cases hr), fun j hj => ?_⟩
    by_cases hji : j = i
    · subst hji; exact hy.wpOp hi hS ⟨fun _ => hS, H⟩
    · have h1 := H.2 j (ready_mono hj hji)
      obtain ⟨hjun, oj, hoj, hall⟩ := mem_ready.1 hj
      have hnot : ∀ e ∈ oj.after, Region.binds md e = true → e.on ≠ i := fun e he hb heq => by
        have h1 := hall e he hb
        have h0 := (mem_ready.1 hr).1
        rw [heq] at h1
        rcases Nat.lt_or_ge i listed.size with h' | h'
        · simp [h'] at h0 h1; rw [h0] at h1; cases h1
        · simp [Array.getElem?_eq_none h'] at h1
      have hjk : j ≠ k0 := fun e => by
        obtain ⟨ok, hok, e', he', hb', hon⟩ := hwait
        rw [e, hok] at hoj
        exact hnot e' (by rw [← Option.some.inj hoj]; exact he') hb' hon
      have h2 := wpOp_putIf hoj (hfree j oj hoj hji hjun hnot) (fun cs b => hsel i oi cs b hi) (fun cs b => hsel j oj cs b hoj) hQ hy h1
      have hfree' : ∀ k ok, ops[k]? = some ok → k ≠ i → (listed.setIfInBounds j true).getD k true = false →
          (∀ e ∈ ok.after, Region.binds md e = true → e.on ≠ i) → oi.apart ops ok = true := fun k ok hk hki hun hno => by
        refine hfree k ok hk hki ?_ hno
        by_cases hjk : j = k
        · subst hjk; exact hjun
        · rw [getD_set_ne true hjk] at hun; exact hun
      have hun' : (listed.setIfInBounds j true).getD k0 true = false := by rw [getD_set_ne' hjk]; exact hun0
      have hun2 : ((listed.setIfInBounds i true).setIfInBounds j true).getD k0 true = false := by rw [getD_set_ne' hjk, getD_set_ne' hki]; exact hun0
      refine wpOp_mono (fun a' w' h3 => ⟨fun _ => h3.2.1 hun2, ih (listed.setIfInBounds j true) a' w' hfree' (ready_mono hr (Ne.symm hji)) hun' h3.1 (h3.2.1 hun2) ?_⟩) h2
      rw [Array.setIfInBounds_comm _ _ hji]
      exact h3.2.2

/-- What yields in whatever world may be taken at any time. -/
theorem wpAnyX_any {i : Nat} {oi : Oper} {v : Value} (hi : ops[i]? = some oi) (hsel : ∀ (j : Nat) (o : Oper) cs b, ops[j]? = some o → o.op ≠ .select cs b)
    (hQ : ∀ c a w, Q (.panic c) (a.put oi.dst v) w → Q (.panic c) a w) (hki : i ≠ k0) :
    ∀ (fuel : Nat) (listed : Array Bool) (a : Act) (w : World),
      (∀ j oj, ops[j]? = some oj → j ≠ i → listed.getD j true = false → (∀ e ∈ oj.after, Region.binds md e = true → e.on ≠ i) → oi.apart ops oj = true) →
      i ∈ Region.ready md ops listed → YieldsIf P ops (fun _ => True) oi v a → (listed.getD k0 true = false → S w) →
      wpAnyX P md ops Q S k0 fuel (listed.setIfInBounds i true) (a.put oi.dst v) w → wpAnyX P md ops Q S k0 (fuel + 1) listed a w := by
  intro fuel
  induction fuel with
  | zero =>
    intro listed a w _ hr hy hS H
    refine ⟨fun h => (by rw [h] at hr; cases hr), fun j hj => ?_⟩
    by_cases hji : j = i
    · subst hji; exact hy.wpOp hi trivial ⟨fun h => hS (by rw [getD_set_ne' hki] at h; exact h), H⟩
    · have := ready_mono hj hji
      rw [H.1] at this
      cases this
  | succ fuel ih =>
    intro listed a w hfree hr hy hS H
    refine ⟨fun h => (by rw [h] at hr; cases hr), fun j hj => ?_⟩
    by_cases hji : j = i
    · subst hji; exact hy.wpOp hi trivial ⟨fun h => hS (by rw [getD_set_ne' hki] at h; exact h), H⟩
    · have h1 := H.2 j (ready_mono hj hji)
      obtain ⟨hjun, oj, hoj, hall⟩ := mem_ready.1 hj
      have hnot : ∀ e ∈ oj.after, Region.binds md e = true → e.on ≠ i := fun e he hb heq => by
        have h1 := hall e he hb
        have h0 := (mem_ready.1 hr).1
        rw [heq] at h1
        rcases Nat.lt_or_ge i listed.size with h' | h'
        · simp [h'] at h0 h1; rw [h0] at h1; cases h1
        · simp [Array.getElem?_eq_none h'] at h1
      have h2 := wpOp_putIf hoj (hfree j oj hoj hji hjun hnot) (fun cs b => hsel i oi cs b hi) (fun cs b => hsel j oj cs b hoj) hQ hy h1
      have hfree' : ∀ k ok, ops[k]? = some ok → k ≠ i → (listed.setIfInBounds j true).getD k true = false →
          (∀ e ∈ ok.after, Region.binds md e = true → e.on ≠ i) → oi.apart ops ok = true := fun k ok hk hki hun hno => by
        refine hfree k ok hk hki ?_ hno
        by_cases hjk : j = k
        · subst hjk; exact hjun
        · rw [getD_set_ne true hjk] at hun; exact hun
      have hcomm : (listed.setIfInBounds i true).setIfInBounds j true = (listed.setIfInBounds j true).setIfInBounds i true := Array.setIfInBounds_comm _ _ (Ne.symm hji)
      have hget : ((listed.setIfInBounds i true).setIfInBounds j true).getD k0 true = (listed.setIfInBounds j true).getD k0 true := by rw [hcomm, getD_set_ne' hki]
      refine wpOp_mono (fun a' w' h3 => ⟨fun h => h3.2.1 (by rw [hget]; exact h), ih (listed.setIfInBounds j true) a' w' hfree' (ready_mono hr (Ne.symm hji)) h3.1 (fun h => h3.2.1 (by rw [hget]; exact h)) ?_⟩) h2
      rw [Array.setIfInBounds_comm _ _ hji]
      exact h3.2.2

theorem takeX_at (i d : Nat) (oi : Oper) {v : Value} {fuel : Nat} {listed : Array Bool} {a : Act} {w : World} (hy : YieldsIf P ops S oi v a)
    (h : wpAnyX P md ops Q S k0 fuel (listed.setIfInBounds i true) (a.put (some d) v) w)
    (hi : ops[i]? = some oi := by rfl) (hd : oi.dst = some d := by rfl)
    (hs : Region.noSelect ops = true := by kernel_rfl) (hf : Region.free md ops listed i = true := by kernel_rfl) (hr : (Region.ready md ops listed).contains i = true := by kernel_rfl)
    (hw : (ops[k0]?.map fun o => o.after.any fun e => Region.binds md e && e.on == i) = some true := by kernel_rfl) (hne : (i != k0) = true := by kernel_rfl) (hun : listed.getD k0 true = false := by kernel_rfl)
    (hQ : ∀ c a w, Q (.panic c) (a.put (some d) v) w → Q (.panic c) a w := by exact fun _ _ _ h => h) (hS : S w := by assumption) : wpAnyX P md ops Q S k0 (fuel + 1) listed a w := by
  rw [← hd] at hQ h
  refine wpAnyX_first hi (Region.noSelect_spec hs) hQ (by simpa using hne) ?_ fuel listed a w (Region.free_spec hi hf) (by simpa using hr) hun hy hS h
  obtain ⟨ok, hok, h2⟩ := Option.map_eq_some_iff.1 hw
  obtain ⟨e, he, h3⟩ := Array.any_eq_true'.1 h2
  simp only [Bool.and_eq_true, beq_iff_eq] at h3
  exact ⟨ok, hok, e, he, h3.1, h3.2⟩
theorem takeX_any (i d : Nat) (oi : Oper) {v : Value} {fuel : Nat} {listed : Array Bool} {a : Act} {w : World} (hy : YieldsIf P ops (fun _ => True) oi v a)
    (h : wpAnyX P md ops Q S k0 fuel (listed.setIfInBounds i true) (a.put (some d) v) w) (hS : listed.getD k0 true = false → S w)
    (hi : ops[i]? = some oi := by rfl) (hd : oi.dst = some d := by rfl)
    (hs : Region.noSelect ops = true := by kernel_rfl) (hf : Region.free md ops listed i = true := by kernel_rfl) (hr : (Region.ready md ops listed).contains i = true := by kernel_rfl) (hne : (i != k0) = true := by kernel_rfl)
    (hQ : ∀ c a w, Q (.panic c) (a.put (some d) v) w → Q (.panic c) a w := by exact fun _ _ _ h => h) : wpAnyX P md ops Q S k0 (fuel + 1) listed a w := by
  rw [← hd] at hQ h
  exact wpAnyX_any hi (Region.noSelect_spec hs) hQ (by simpa using hne) fuel listed a w (Region.free_spec hi hf) (by simpa using hr) hy hS h

def AllReadyX (P : Program) (md : Region.Mode) (ops : Array Oper) (Q : Exit → Act → World → Prop) (S : World → Prop) (k0 : Nat) (fuel : Nat) (listed : Array Bool) (a : Act) (w : World) (rs : List Nat) : Prop :=
  ∀ i ∈ rs, wpOp P ops Q i (fun a' w' => ((listed.setIfInBounds i true).getD k0 true = false → S w') ∧ wpAnyX P md ops Q S k0 fuel (listed.setIfInBounds i true) a' w') a w
theorem AllReadyX.nil {fuel : Nat} {listed : Array Bool} {a : Act} {w : World} : AllReadyX P md ops Q S k0 fuel listed a w [] := fun _ h => by cases h
theorem AllReadyX.cons {fuel : Nat} {listed : Array Bool} {a : Act} {w : World} {i : Nat} {o : Oper} {rs : List Nat} (ho : ops[i]? = some o)
    (h : ∀ K' : Act → World → Prop, Shut (∀ a w, ((listed.setIfInBounds i true).getD k0 true = false → S w) → (((listed.setIfInBounds i true).getD k0 true = false → S w) → wpAnyX P md ops Q S k0 fuel (listed.setIfInBounds i true) a w) → K' a w) → if Region.wanted o (yielded ops a.tmps) = true then Oper.wp P o a w K' Q else K' (a.put o.dst undef) w)
    (hs : AllReadyX P md ops Q S k0 fuel listed a w rs) : AllReadyX P md ops Q S k0 fuel listed a w (i :: rs) := fun j hj => by
  rcases List.mem_cons.1 hj with rfl | hj
  · exact wpOp_step ho (fun K' hK => h K' (fun a w hS hW => hK a w ⟨hS, hW hS⟩))
  · exact hs j hj
theorem wpAnyX_ready {rs : List Nat} {fuel : Nat} {listed : Array Bool} {a : Act} {w : World} (hr : Region.ready md ops listed = rs) (hne : rs ≠ [])
    (h : AllReadyX P md ops Q S k0 fuel listed a w rs) : wpAnyX P md ops Q S k0 (fuel + 1) listed a w := ⟨fun h0 => absurd (hr ▸ h0) hne, hr ▸ h⟩
theorem wpAnyX_done {listed : Array Bool} {a : Act} {w : World} (hr : Region.ready md ops listed = []) (h : Q .normal a w) :
    ∀ fuel, wpAnyX P md ops Q S k0 fuel listed a w
  | 0 => ⟨hr, h⟩
  | _ + 1 => ⟨fun _ => h, by rw [hr]; simp⟩
theorem wp_region_X {id : Nat} {a : Act} {w : World} (k0 : Nat) (hm : P.follows .mixedOrders = true) (hS : S w.drew)
    (h : S w.drew → wpAnyX P .any ops Q S k0 ops.size (Array.replicate ops.size false) a w.drew) : (Code.region id ops true).wp P Q a w :=
  wp_region_any hm (wpAny_of_X _ _ _ _ (h hS))
end
end Go.Proofs.Ytkdceahmknhojaa

namespace Go.Proofs.Ytkdceahmknhojaa
open Go.RowKit

set_option maxRecDepth 20000 in
set_option maxHeartbeats 4000000 in
theorem hpoints_any (i : Int) (P : Nat → Prop) (w : World) (hri : I64 i) : Calls Try.prog 106 #[.int .i64 i] w (GivesP P (pointsT i) w) := by
  have Ri := Lib.hid hri
  clear hri
  obtain ⟨du, hu1, hu2⟩ := under_term
  go_enter Try.func106, Try.ntmps106
  go_upto_region 1 with fail
  refine at_code (fun V0 hV0 => ?_)
  obtain ⟨k2, x1, z3⟩ := alloc1 hV0
  have Kk4 := Lib.hid k2
  clear k2
  have Hx1 := Lib.hid x1
  have Z0 := Lib.hid z3
  clear z3 x1 hV0
  have kvV0 : Sees V0 (w.heap.size) V0 := sees_kept _ (kept_refl _)
  go_wp2_with (refine stop_store 32 (.tmp 2) (.tmp 7) rfl ?_)
  intro _
  refine wpList_store_part_n (by rfl) 32 (.tmp 2) (.tmp 7) rfl (w.heap.size) 0 #[.int .i64 16, .int .i64 0, .int .i64 0, .int .i64 0, (.slice (some ⟨V0.heap.size, 0, none⟩) 2 2)] (by rfl) (by rfl) 32 size_term (row_ok rfl) ?_
  intro W6 hW6
  clear kvV0
  obtain ⟨k9, x8, z10⟩ := alloc1 hW6
  have Kk11 := Lib.hid k9
  clear k9
  have Hx8 := Lib.hid x8
  have Hz10 := Lib.hid z10
  clear x8 z10 hW6
  have HR12 : Hid (LiesQ W6 (Par w V0.heap.size [] P) [(.mk 1 i 0 0 []), (.mk 2 0 0 0 [])] (.slice (some ⟨V0.heap.size, 0, none⟩) 2 2)) := q_row [((.mk 1 i 0 0 []), .slice none 0 0), ((.mk 2 0 0 0 []), .slice none 0 0)] _ rfl Hx8.out (par_new (Nat.le_refl _) (xlt_nil _) (Nat.le_refl _)) (fun p hp => by
    simp only [List.mem_cons, List.not_mem_nil, or_false] at hp
    rcases hp with rfl | rfl
    · exact ⟨(mk_fine (show I64 1 from by unfold I64; decide) Ri.out (show I64 0 from by unfold I64; decide) (show I64 0 from by unfold I64; decide)), (liesQ_nil W6 (Par w V0.heap.size [] P))⟩
    · exact ⟨(mk_fine (show I64 2 from by unfold I64; decide) (show I64 0 from by unfold I64; decide) (show I64 0 from by unfold I64; decide) (show I64 0 from by unfold I64; decide)), (liesQ_nil W6 (Par w V0.heap.size [] P))⟩) (Nat.le_of_ble_eq_true rfl)
  refine ⟨_, #[.int .i64 16, .int .i64 0, .int .i64 0, .int .i64 0, (.slice (some ⟨V0.heap.size, 0, none⟩) 2 2)], (blk_at Hx1.out Kk11.out), rfl, Nat.le_of_ble_eq_true rfl, ?_⟩
  intro W7 hW7
  go_wp2_with fail
  refine bodyPost_ret (results_cell_row rfl _ _ (w.heap.size) 32 _ _ du rfl (blk_same (blk_at Hx1.out Kk11.out) hW7) hu1 (by cases du <;> first | rfl | exact hu2) size_term) rfl ?_
  exact ⟨_, rfl, par_end (par_row' HR12.out hW7 (by omega) (by have := Z0.out; omega)) (by have := Z0.out; omega), kept_set (kept_trans Kk4.out Kk11.out) hW7 (by omega)⟩

set_option maxRecDepth 20000 in
set_option maxHeartbeats 4000000 in
theorem huse_any (n : Int) (i : Int) (l : List Tm) (P : Nat → Prop) (w : World) (sl : Value) (hrn : I64 n) (hri : I64 i) (hll : LiesQ w P l sl) (hp : ∀ x ∈ l, x.plainB = true) (hn : l.length ≤ 1000) : Calls Try.prog 108 #[.int .i64 n, .int .i64 i, sl] w (GivesP P (useT n i 0 l) w) := by
  have Rn := Lib.hid hrn
  clear hrn
  have Ri := Lib.hid hri
  clear hri
  obtain ⟨al, cl, Sl, rfl, -⟩ := hll.out
  have Hpl := Lib.hid hp
  have Hln := Lib.hid hn
  clear hp hn
  obtain ⟨du, hu1, hu2⟩ := under_term
  go_enter Try.func108, Try.ntmps108
  go_upto_region 1 with fail
  refine at_code (fun V0 hV0 => ?_)
  obtain ⟨k2, x1, z3⟩ := alloc1 hV0
  have Kk4 := Lib.hid k2
  clear k2
  have Hx1 := Lib.hid x1
  have Z0 := Lib.hid z3
  clear z3 x1 hV0
  have HLl : Hid (LiesQ V0 (Par w V0.heap.size [] P) l _) := (par_in _ _ hll).later Kk4.out
  clear hll
  have kvV0 : Sees V0 (w.heap.size) V0 := sees_kept _ (kept_refl _)
  go_wp2_with fail
  clear kvV0
  refine ((copiesR_any l _ _ HLl.out.lies (Hpl.out) (by first | assumption | (have := Hln.out; omega))).mono (fun _ _ h => h.givesP (P := (Par w V0.heap.size [] P)))).mono ?_
  rintro e w5 ⟨s7, rfl, hl8, k6⟩
  obtain ⟨a9, c10, S11, rfl, -⟩ := hl8.out
  have Kk12 := Lib.hid k6
  clear k6
  have Hhl8 : Hid (LiesQ w5 (Par w V0.heap.size [] P) l _) := par_give hl8 (Nat.le_refl _) (xlt_nil _)
  clear hl8
  have kvV0 : Sees V0 (w.heap.size) w5 := sees_kept _ Kk12.out
  go_wp2_with (refine stop_store 32 (.tmp 6) (.tmp 11) rfl ?_)
  intro _
  refine wpList_store_part_n (by rfl) 32 (.tmp 6) (.tmp 11) rfl (w.heap.size) 0 #[.int .i64 23, .int .i64 i, .int .i64 0, .int .i64 n, (.slice a9 (List.length l) c10)] (by rfl) (by rfl) 32 size_term (row_ok rfl) ?_
  intro W13 hW13
  clear kvV0
  subst hW13
  refine ⟨_, #[.int .i64 23, .int .i64 i, .int .i64 0, .int .i64 n, (.slice a9 (List.length l) c10)], (blk_at Hx1.out Kk12.out), rfl, Nat.le_of_ble_eq_true rfl, ?_⟩
  intro W14 hW14
  go_wp2_with fail
  refine bodyPost_ret (results_cell_row rfl _ _ (w.heap.size) 32 _ _ du rfl (blk_same (blk_at Hx1.out Kk12.out) hW14) hu1 (by cases du <;> first | rfl | exact hu2) size_term) rfl ?_
  exact ⟨_, rfl, par_end (par_row' Hhl8.out hW14 (by omega) (by have := Z0.out; omega)) (by have := Z0.out; omega), kept_set (kept_trans Kk4.out Kk12.out) hW14 (by omega)⟩

set_option maxRecDepth 20000 in
set_option maxHeartbeats 4000000 in
theorem hright_any (i : Int) (l : List Tm) (w : World) (s : Value) (hl : Lies w l s) : Calls Try.prog 99 #[.int .i64 i, s] w fun e w' => e = .returned (.bool (heR2 i l)) ∧ Kept w w' := by
  obtain ⟨a, cap, S, rfl, hc, hmx, -, hn, hk⟩ := hl.out
  unfold maxLen at hmx
  have HN := Lib.hid hn
  have HK := Lib.hid hk
  clear hn hk hl
  by_cases h0 : i < 0
  · have e1 : decide (i < 0) = true := decide_eq_true h0
    have HS : Hid (heR2 i l = false) := by show _ = _; unfold heR2 levN; rw [show decide (0 ≤ i) = false from decide_eq_false (by omega)]; rfl
    go_enter Try.func99, Try.ntmps99
    go_wp2
    go_ret
    exact ⟨ret_bool HS.out.symm, kept_refl _⟩
  have e1 : decide (i < 0) = false := decide_eq_false h0
  by_cases h1 : 998 < i
  · have e2 : decide (998 < i) = true := decide_eq_true h1
    have HS : Hid (heR2 i l = false) := by show _ = _; unfold heR2 levN; rw [show decide (i ≤ 1000 - 2) = false from decide_eq_false (by omega), Bool.and_false]; rfl
    go_enter Try.func99, Try.ntmps99
    go_wp2
    go_ret
    exact ⟨ret_bool HS.out.symm, kept_refl _⟩
  have e2 : decide (998 < i) = false := decide_eq_false h1
  have HS : Hid (heR2 i l = plainL l) := by show _ = _; unfold heR2 levN; rw [show decide (0 ≤ i) = true from decide_eq_true (by omega), show decide (i ≤ 1000 - 2) = true from decide_eq_true (by omega)]; rfl
  clear h0 h1
  go_enter Try.func99, Try.ntmps99
  go_wp2
  go_loopw [15] (fun iv wr => ∃ k : Nat, k ≤ l.length ∧ iv = .int .i64 k ∧ Hid (∀ j (h : j < l.length), j < k → (l[j]).plainB = true) ∧ Kept w wr) (fun iv _ => l.length - (intOf iv).toNat)
  case atStart => exact ⟨0, Nat.zero_le _, rfl, fun j _ h => absurd h (by omega), kept_refl _⟩
  case round =>
    obtain ⟨k, hkl, rfl, hrel, hb⟩ := hrel
    by_cases hlt : k < l.length
    · obtain ⟨b, o, rfl, hx⟩ := HN.out k hlt
      obtain ⟨c0, c1, c2, c3, c4⟩ := hx.below hb hx.lt
      have hq := HK.out k hlt
      obtain ⟨a', cap', S', hS, -⟩ := hq.out
      rw [hS] at c4 hq
      have HQ := Lib.hid (hq.keep hb)
      have HB := Lib.hid hb
      clear hS hq hb
      go_wp2_with fail
      refine at_world (fun W hW => ?_)
      obtain ⟨k1, -, -⟩ := alloc1 hW
      have HB1 := Lib.hid (kept_trans HB.out k1)
      have HQ1 := Lib.hid (HQ.out.keep k1)
      clear c0 c1 c2 c3 c4 k1 hW
      refine (plain_any l[k] _ _ HQ1.out).mono ?_
      cases hp : (l[k]).plainB with
      | false =>
        have HF : Hid (plainL l = false) := by
          show _ = _
          cases hh : plainL l with
          | false => rfl
          | true => rw [plainL_iff.1 hh _ (List.getElem_mem hlt)] at hp; cases hp
        rintro e w' ⟨rfl, hb'⟩
        have HB2 := Lib.hid (kept_trans HB1.out hb')
        clear hb' hp
        go_wp2
        go_ret
        exact ⟨ret_bool (by rw [HS.out, HF.out]), HB2.out⟩
      | true =>
        have HP := Lib.hid hp
        rintro e w' ⟨rfl, hb'⟩
        have HB2 := Lib.hid (kept_trans HB1.out hb')
        clear hb' hp
        go_wp2
        go_roundw
        case rel =>
          refine ⟨k + 1, hlt, by go_num, fun j hj hjk => ?_, HB2.out⟩
          by_cases e : j = k
          · subst e; exact HP.out
          · exact hrel.out j hj (by omega)
        case measure => simp [intOf]; omega
    · obtain rfl : k = l.length := by omega
      have HF : Hid (plainL l = true) := by
        show _ = _
        exact plainL_iff.2 (fun x hx => by obtain ⟨j, hj, rfl⟩ := List.getElem_of_mem hx; exact hrel.out j hj hj)
      have HB := Lib.hid hb
      clear hb
      go_wp2
      go_ret
      exact ⟨ret_bool (by rw [HS.out, HF.out]), HB.out⟩

set_option maxRecDepth 20000 in
set_option maxHeartbeats 4000000 in
theorem hrightHet_any (h : He) (P : Nat → Prop) (w : World) (sha : Value) (shb : Value) (shx : Value) (shy : Value) (shh : Value) (hfh : h.fine) (hlh : HQ w P h sha shb shx shy shh) : Calls Try.prog 107 #[hv h sha shb shx shy shh] w fun e w' => e = .returned (.bool (heR h)) ∧ Kept w w' := by
  have Gh := Lib.hid hfh
  clear hfh
  obtain ⟨hlha, hlhb, hlhx, hlhy, hlhh⟩ := hlh
  obtain ⟨aha, cha, Sha, rfl, -⟩ := hlha.out
  obtain ⟨ahb, chb, Shb, rfl, -⟩ := hlhb.out
  obtain ⟨ahx, chx, Shx, rfl, -⟩ := hlhx.out
  obtain ⟨ahy, chy, Shy, rfl, -⟩ := hlhy.out
  obtain ⟨ahh, chh, Shh, rfl, -⟩ := hlhh.out
  obtain ⟨du, hu1, hu2⟩ := under_term
  obtain ⟨dh, dh1, dh2⟩ := under_of 51 (by kernel_rfl)
  unfold hv
  go_enter Try.func107, Try.ntmps107
  go_upto_region 1 with fail
  refine at_code (fun V0 hV0 => ?_)
  obtain ⟨k2, x1, z3⟩ := alloc1 hV0
  have Kk4 := Lib.hid k2
  clear k2
  have Hx1 := Lib.hid x1
  have Z0 := Lib.hid z3
  clear z3 x1 hV0
  have HLha : Hid (LiesQ V0 (Par w V0.heap.size [] P) h.a.kids _) := (par_in _ _ hlha).later Kk4.out
  clear hlha
  have HLhb : Hid (LiesQ V0 (Par w V0.heap.size [] P) h.b.kids _) := (par_in _ _ hlhb).later Kk4.out
  clear hlhb
  have HLhx : Hid (LiesQ V0 (Par w V0.heap.size [] P) h.x.kids _) := (par_in _ _ hlhx).later Kk4.out
  clear hlhx
  have HLhy : Hid (LiesQ V0 (Par w V0.heap.size [] P) h.y.kids _) := (par_in _ _ hlhy).later Kk4.out
  clear hlhy
  have HLhh : Hid (LiesQ V0 (Par w V0.heap.size [] P) h.h.kids _) := (par_in _ _ hlhh).later Kk4.out
  clear hlhh
  have ld5 := part_cell (r := V0.heap.size) Hx1.out (by have := Z0.out; omega) 0 (.int .i64 h.i) rfl
  have kvV0 : Sees V0 V0.heap.size V0 := sees_kept _ (kept_refl _)
  go_wp2_with (refine stop_load 32 (.tmp 5) rfl ?_)
  intro _
  refine wpList_load_part (w.heap.size) 1 32 (.tmp 5) #[.int .i64 h.a.k, .int .i64 h.a.i, .int .i64 h.a.j, .int .i64 h.a.n, (.slice aha h.a.kids.length cha)] du Hx1.out (by rfl) rfl (by rfl) (by rfl) hu1 (by cases du <;> first | rfl | exact hu2) size_term ?_
  go_wp2_with (refine stop_load 32 (.tmp 7) rfl ?_)
  intro _
  refine wpList_load_part (w.heap.size) 6 32 (.tmp 7) #[.int .i64 h.b.k, .int .i64 h.b.i, .int .i64 h.b.j, .int .i64 h.b.n, (.slice ahb h.b.kids.length chb)] du Hx1.out (by rfl) rfl (by rfl) (by rfl) hu1 (by cases du <;> first | rfl | exact hu2) size_term ?_
  go_wp2_with (refine stop_load 32 (.tmp 9) rfl ?_)
  intro _
  refine wpList_load_part (w.heap.size) 11 32 (.tmp 9) #[.int .i64 h.x.k, .int .i64 h.x.i, .int .i64 h.x.j, .int .i64 h.x.n, (.slice ahx h.x.kids.length chx)] du Hx1.out (by rfl) rfl (by rfl) (by rfl) hu1 (by cases du <;> first | rfl | exact hu2) size_term ?_
  go_wp2_with (refine stop_load 32 (.tmp 11) rfl ?_)
  intro _
  refine wpList_load_part (w.heap.size) 16 32 (.tmp 11) #[.int .i64 h.y.k, .int .i64 h.y.i, .int .i64 h.y.j, .int .i64 h.y.n, (.slice ahy h.y.kids.length chy)] du Hx1.out (by rfl) rfl (by rfl) (by rfl) hu1 (by cases du <;> first | rfl | exact hu2) size_term ?_
  go_wp2_with (refine stop_load 32 (.tmp 13) rfl ?_)
  intro _
  refine wpList_load_part (w.heap.size) 21 32 (.tmp 13) #[.int .i64 h.h.k, .int .i64 h.h.i, .int .i64 h.h.j, .int .i64 h.h.n, (.slice ahh h.h.kids.length chh)] du Hx1.out (by rfl) rfl (by rfl) (by rfl) hu1 (by cases du <;> first | rfl | exact hu2) size_term ?_
  go_wp2_with fail
  refine at_world (fun W7 hW7 => ?_)
  clear kvV0
  obtain ⟨k9, x8, z10⟩ := alloc1 hW7
  have Kk11 := Lib.hid k9
  clear k9
  have Hx8 := Lib.hid x8
  have Hz10 := Lib.hid z10
  clear x8 z10 hW7
  have HR12 : Hid (LiesQ W7 (Par w V0.heap.size [] P) [h.a, h.b, h.x, h.y, h.h] (.slice (some ⟨V0.heap.size, 0, none⟩) 5 5)) := q_row [(h.a, (.slice aha h.a.kids.length cha)), (h.b, (.slice ahb h.b.kids.length chb)), (h.x, (.slice ahx h.x.kids.length chx)), (h.y, (.slice ahy h.y.kids.length chy)), (h.h, (.slice ahh h.h.kids.length chh))] _ rfl Hx8.out (par_new (Nat.le_refl _) (xlt_nil _) (Nat.le_refl _)) (fun p hp => by
    simp only [List.mem_cons, List.not_mem_nil, or_false] at hp
    rcases hp with rfl | rfl | rfl | rfl | rfl
    · exact ⟨Gh.out.2.1, (HLha.out.later Kk11.out)⟩
    · exact ⟨Gh.out.2.2.1, (HLhb.out.later Kk11.out)⟩
    · exact ⟨Gh.out.2.2.2.1, (HLhx.out.later Kk11.out)⟩
    · exact ⟨Gh.out.2.2.2.2.1, (HLhy.out.later Kk11.out)⟩
    · exact ⟨Gh.out.2.2.2.2.2, (HLhh.out.later Kk11.out)⟩) (Nat.le_of_ble_eq_true rfl)
  refine (hright_any h.i [h.a, h.b, h.x, h.y, h.h] _ _ HR12.out.lies).mono ?_
  obtain ⟨rb16, hb15⟩ : ∃ qb, heR2 h.i [h.a, h.b, h.x, h.y, h.h] = qb := ⟨_, rfl⟩
  rw [hb15]
  have Hhb15 := Lib.hid hb15
  clear hb15
  rintro e w13 ⟨rfl, k14⟩
  have Kk17 := Lib.hid k14
  clear k14
  cases rb16 with
  | false =>
    have kvV0 : Sees V0 V0.heap.size w13 := sees_kept _ (kept_trans Kk11.out Kk17.out)
    go_wp2
    go_ret
    exact ⟨ret_bool (Eq.symm (show heR h = false from by unfold heR; rw [Hhb15.out]; (try rfl))), (kept_trans Kk4.out (kept_trans Kk11.out Kk17.out))⟩
  | true =>
    have ew18 : IntKind.i64.wrap (h.i + 1) = h.i + 1 := IntWalk.i64_in _ (by have := levN_true (heR2_lev Hhb15.out); omega)
    have kvV0 : Sees V0 V0.heap.size w13 := sees_kept _ (kept_trans Kk11.out Kk17.out)
    go_wp2
    go_ret
    exact ⟨ret_bool (Eq.symm (show heR h = true from by unfold heR; rw [Hhb15.out]; (try rfl))), (kept_trans Kk4.out (kept_trans Kk11.out Kk17.out))⟩

set_option maxRecDepth 20000 in
set_option maxHeartbeats 4000000 in
theorem htype_any (h : He) (P : Nat → Prop) (w : World) (sha : Value) (shb : Value) (shx : Value) (shy : Value) (shh : Value) (hfh : h.fine) (hlh : HQ w P h sha shb shx shy shh) : Calls Try.prog 32 #[hv h sha shb shx shy shh] w (GivesP P (heType h) w) := by
  have Gh := Lib.hid hfh
  clear hfh
  obtain ⟨hlha, hlhb, hlhx, hlhy, hlhh⟩ := hlh
  obtain ⟨aha, cha, Sha, rfl, -⟩ := hlha.out
  obtain ⟨ahb, chb, Shb, rfl, -⟩ := hlhb.out
  obtain ⟨ahx, chx, Shx, rfl, -⟩ := hlhx.out
  obtain ⟨ahy, chy, Shy, rfl, -⟩ := hlhy.out
  obtain ⟨ahh, chh, Shh, rfl, -⟩ := hlhh.out
  obtain ⟨du, hu1, hu2⟩ := under_term
  obtain ⟨dh, dh1, dh2⟩ := under_of 51 (by kernel_rfl)
  unfold hv
  go_enter Try.func32, Try.ntmps32
  go_upto_region 1 with fail
  refine at_code (fun V0 hV0 => ?_)
  obtain ⟨k3, x1, x2, z4⟩ := alloc2 hV0
  have Kk5 := Lib.hid k3
  clear k3
  have Hx1 := Lib.hid x1
  have Hx2 := Lib.hid x2
  have Z0 := Lib.hid z4
  clear z4 x1 x2 hV0
  have HLha : Hid (LiesQ V0 (Par w V0.heap.size [] P) h.a.kids _) := (par_in _ _ hlha).later Kk5.out
  clear hlha
  have HLhb : Hid (LiesQ V0 (Par w V0.heap.size [] P) h.b.kids _) := (par_in _ _ hlhb).later Kk5.out
  clear hlhb
  have HLhx : Hid (LiesQ V0 (Par w V0.heap.size [] P) h.x.kids _) := (par_in _ _ hlhx).later Kk5.out
  clear hlhx
  have HLhy : Hid (LiesQ V0 (Par w V0.heap.size [] P) h.y.kids _) := (par_in _ _ hlhy).later Kk5.out
  clear hlhy
  have HLhh : Hid (LiesQ V0 (Par w V0.heap.size [] P) h.h.kids _) := (par_in _ _ hlhh).later Kk5.out
  clear hlhh
  have ld6 := part_cell (r := (w.heap.size + 1)) Hx1.out (by have := Z0.out; omega) 0 (.int .i64 h.i) rfl
  have kvV0 : Sees V0 (w.heap.size + 1) V0 := sees_kept _ (kept_refl _)
  go_wp2_with (refine stop_load 51 (.tmp 1) rfl ?_)
  intro _
  refine wpList_load_part (w.heap.size) 0 51 (.tmp 1) #[.int .i64 h.i, .int .i64 h.a.k, .int .i64 h.a.i, .int .i64 h.a.j, .int .i64 h.a.n, (.slice aha h.a.kids.length cha), .int .i64 h.b.k, .int .i64 h.b.i, .int .i64 h.b.j, .int .i64 h.b.n, (.slice ahb h.b.kids.length chb), .int .i64 h.x.k, .int .i64 h.x.i, .int .i64 h.x.j, .int .i64 h.x.n, (.slice ahx h.x.kids.length chx), .int .i64 h.y.k, .int .i64 h.y.i, .int .i64 h.y.j, .int .i64 h.y.n, (.slice ahy h.y.kids.length chy), .int .i64 h.h.k, .int .i64 h.h.i, .int .i64 h.h.j, .int .i64 h.h.n, (.slice ahh h.h.kids.length chh)] dh Hx1.out (by rfl) rfl (by rfl) (by rfl) dh1 (by cases dh <;> first | rfl | exact dh2) (by kernel_rfl) ?_
  go_wp2_with fail
  clear kvV0
  refine (hrightHet_any h (Par w V0.heap.size [] P) _ (.slice aha h.a.kids.length cha) (.slice ahb h.b.kids.length chb) (.slice ahx h.x.kids.length chx) (.slice ahy h.y.kids.length chy) (.slice ahh h.h.kids.length chh) ⟨Gh.out.1, Gh.out.2.1, Gh.out.2.2.1, Gh.out.2.2.2.1, Gh.out.2.2.2.2.1, Gh.out.2.2.2.2.2⟩ ⟨HLha.out, HLhb.out, HLhx.out, HLhy.out, HLhh.out⟩).mono ?_
  obtain ⟨rb10, hb9⟩ : ∃ qb, heR h = qb := ⟨_, rfl⟩
  rw [hb9]
  have Hhb9 := Lib.hid hb9
  clear hb9
  rintro e w7 ⟨rfl, k8⟩
  have Kk11 := Lib.hid k8
  clear k8
  cases rb10 with
  | false =>
    have kvV0 : Sees V0 (w.heap.size + 1) w7 := sees_kept _ Kk11.out
    go_wp2_with (refine stop_store 32 (.tmp 2) (.tmp 6) rfl ?_)
    intro _
    refine wpList_store_part_n (by rfl) 32 (.tmp 2) (.tmp 6) rfl (w.heap.size + 1) 0 #[.int .i64 0, .int .i64 0, .int .i64 0, .int .i64 0, .slice none 0 0] (by rfl) (by rfl) 32 size_term (row_ok rfl) ?_
    intro W12 hW12
    clear kvV0
    subst hW12
    refine ⟨_, #[.int .i64 0, .int .i64 0, .int .i64 0, .int .i64 0, .slice none 0 0], (blk_at Hx2.out Kk11.out), rfl, Nat.le_of_ble_eq_true rfl, ?_⟩
    intro W13 hW13
    go_wp2_with fail
    refine bodyPost_ret (results_cell_row rfl _ _ (w.heap.size + 1) 32 _ _ du rfl (blk_same (blk_at Hx2.out Kk11.out) hW13) hu1 (by cases du <;> first | rfl | exact hu2) size_term) rfl ?_
    rw [show heType h = (Tm.mk 0 0 0 0 []) from by unfold heType; rw [Hhb9.out]; (try rfl)]
    exact ⟨_, rfl, par_end (par_row' (liesQ_nil w7 (Par w V0.heap.size [] P)) hW13 (by omega) (by have := Z0.out; omega)) (by have := Z0.out; omega), kept_set (kept_trans Kk5.out Kk11.out) hW13 (by omega)⟩
  | true =>
    have ew14 : IntKind.i64.wrap (h.i + 1) = h.i + 1 := IntWalk.i64_in _ (by have := levN_true (heR_lev Hhb9.out); omega)
    have kvV0 : Sees V0 (w.heap.size + 1) w7 := sees_kept _ Kk11.out
    go_wp2_with (refine stop_load 32 (.tmp 9) rfl ?_)
    intro _
    refine wpList_load_part (w.heap.size) 1 32 (.tmp 9) #[.int .i64 h.a.k, .int .i64 h.a.i, .int .i64 h.a.j, .int .i64 h.a.n, (.slice aha h.a.kids.length cha)] du (blk_at Hx1.out Kk11.out) (by rfl) rfl (by rfl) (by rfl) hu1 (by cases du <;> first | rfl | exact hu2) size_term ?_
    go_wp2_with (refine stop_load 32 (.tmp 11) rfl ?_)
    intro _
    refine wpList_load_part (w.heap.size) 6 32 (.tmp 11) #[.int .i64 h.b.k, .int .i64 h.b.i, .int .i64 h.b.j, .int .i64 h.b.n, (.slice ahb h.b.kids.length chb)] du (blk_at Hx1.out Kk11.out) (by rfl) rfl (by rfl) (by rfl) hu1 (by cases du <;> first | rfl | exact hu2) size_term ?_
    go_wp2_with (refine stop_load 32 (.tmp 13) rfl ?_)
    intro _
    refine wpList_load_part (w.heap.size) 11 32 (.tmp 13) #[.int .i64 h.x.k, .int .i64 h.x.i, .int .i64 h.x.j, .int .i64 h.x.n, (.slice ahx h.x.kids.length chx)] du (blk_at Hx1.out Kk11.out) (by rfl) rfl (by rfl) (by rfl) hu1 (by cases du <;> first | rfl | exact hu2) size_term ?_
    go_wp2_with (refine stop_load 32 (.tmp 15) rfl ?_)
    intro _
    refine wpList_load_part (w.heap.size) 16 32 (.tmp 15) #[.int .i64 h.y.k, .int .i64 h.y.i, .int .i64 h.y.j, .int .i64 h.y.n, (.slice ahy h.y.kids.length chy)] du (blk_at Hx1.out Kk11.out) (by rfl) rfl (by rfl) (by rfl) hu1 (by cases du <;> first | rfl | exact hu2) size_term ?_
    go_wp2_with fail
    refine at_world (fun W16 hW16 => ?_)
    clear kvV0
    obtain ⟨k18, x17, z19⟩ := alloc1 hW16
    have Kk20 := Lib.hid k18
    clear k18
    have Hx17 := Lib.hid x17
    have Hz19 := Lib.hid z19
    clear x17 z19 hW16
    have HR21 : Hid (LiesQ W16 (Par w V0.heap.size [] P) [h.a, h.b, h.x, h.y] (.slice (some ⟨w7.heap.size, 0, none⟩) 4 4)) := q_row [(h.a, (.slice aha h.a.kids.length cha)), (h.b, (.slice ahb h.b.kids.length chb)), (h.x, (.slice ahx h.x.kids.length chx)), (h.y, (.slice ahy h.y.kids.length chy))] _ rfl Hx17.out (par_new (Below.size Kk11.out) (xlt_nil _) (Nat.le_refl _)) (fun p hp => by
      simp only [List.mem_cons, List.not_mem_nil, or_false] at hp
      rcases hp with rfl | rfl | rfl | rfl
      · exact ⟨Gh.out.2.1, (HLha.out.later (kept_trans Kk11.out Kk20.out))⟩
      · exact ⟨Gh.out.2.2.1, (HLhb.out.later (kept_trans Kk11.out Kk20.out))⟩
      · exact ⟨Gh.out.2.2.2.1, (HLhx.out.later (kept_trans Kk11.out Kk20.out))⟩
      · exact ⟨Gh.out.2.2.2.2.1, (HLhy.out.later (kept_trans Kk11.out Kk20.out))⟩) (Nat.le_of_ble_eq_true rfl)
    refine (huse_any 6 h.i [h.a, h.b, h.x, h.y] (Par w V0.heap.size [] P) _ _ (show I64 6 from by unfold I64; decide) Gh.out.1 HR21.out (fun x hx => by
      simp only [List.mem_cons, List.not_mem_nil, or_false] at hx
      rcases hx with rfl | rfl | rfl | rfl
      · exact (heR_pl Hhb9.out _ (by simp))
      · exact (heR_pl Hhb9.out _ (by simp))
      · exact (heR_pl Hhb9.out _ (by simp))
      · exact (heR_pl Hhb9.out _ (by simp))) (Nat.le_of_ble_eq_true rfl)).mono ?_
    obtain ⟨U29, hU29⟩ : ∃ qu, useT 6 h.i 0 [h.a, h.b, h.x, h.y] = qu := ⟨_, rfl⟩
    rw [hU29]
    have HU29 := Lib.hid hU29
    clear hU29
    rintro e w22 ⟨s24, rfl, hl25, k23⟩
    obtain ⟨a26, c27, S28, rfl, -⟩ := hl25.out
    have Kk30 := Lib.hid k23
    clear k23
    have Hhl25 : Hid (LiesQ w22 (Par w V0.heap.size [] P) U29.kids _) := par_give hl25 (Below.size (kept_trans Kk11.out Kk20.out)) (xlt_nil _)
    clear hl25
    have kvV0 : Sees V0 (w.heap.size + 1) w22 := sees_kept _ (kept_trans Kk11.out (kept_trans Kk20.out Kk30.out))
    go_wp2_with (refine stop_store 32 (.tmp 2) (.tmp 18) rfl ?_)
    intro _
    refine wpList_store_part_n (by rfl) 32 (.tmp 2) (.tmp 18) rfl (w.heap.size + 1) 0 #[.int .i64 U29.k, .int .i64 U29.i, .int .i64 U29.j, .int .i64 U29.n, (.slice a26 U29.kids.length c27)] (by rfl) (by rfl) 32 size_term (row_ok rfl) ?_
    intro W31 hW31
    clear kvV0
    subst hW31
    refine ⟨_, #[.int .i64 U29.k, .int .i64 U29.i, .int .i64 U29.j, .int .i64 U29.n, (.slice a26 U29.kids.length c27)], (blk_at Hx2.out (kept_trans Kk11.out (kept_trans Kk20.out Kk30.out))), rfl, Nat.le_of_ble_eq_true rfl, ?_⟩
    intro W32 hW32
    go_wp2_with fail
    refine bodyPost_ret (results_cell_row rfl _ _ (w.heap.size + 1) 32 _ _ du rfl (blk_same (blk_at Hx2.out (kept_trans Kk11.out (kept_trans Kk20.out Kk30.out))) hW32) hu1 (by cases du <;> first | rfl | exact hu2) size_term) rfl ?_
    rw [show heType h = U29 from by unfold heType; rw [Hhb9.out]; rw [← HU29.out]; (try rfl)]
    exact ⟨_, rfl, par_end (par_row' Hhl25.out hW32 (by omega) (by have := Z0.out; omega)) (by have := Z0.out; omega), kept_set (kept_trans Kk5.out (kept_trans Kk11.out (kept_trans Kk20.out Kk30.out))) hW32 (by omega)⟩

set_option maxRecDepth 20000 in
set_option maxHeartbeats 4000000 in
theorem hPoints_any (i : Int) (P : Nat → Prop) (w : World) (hri : I64 i) : Calls Try.prog 30 #[.int .i64 i] w (GivesP P (pointsB i) w) := by
  have Ri := Lib.hid hri
  clear hri
  obtain ⟨du, hu1, hu2⟩ := under_term
  go_enter Try.func30, Try.ntmps30
  go_upto_region 1 with fail
  refine at_code (fun V0 hV0 => ?_)
  obtain ⟨k2, x1, z3⟩ := alloc1 hV0
  have Kk4 := Lib.hid k2
  clear k2
  have Hx1 := Lib.hid x1
  have Z0 := Lib.hid z3
  clear z3 x1 hV0
  have kvV0 : Sees V0 (w.heap.size) V0 := sees_kept _ (kept_refl _)
  go_wp2_with fail
  clear kvV0
  refine (hright_any i [] _ _ (liesQ_nil V0 (Par w V0.heap.size [] P)).lies).mono ?_
  obtain ⟨rb8, hb7⟩ : ∃ qb, heR2 i [] = qb := ⟨_, rfl⟩
  rw [hb7]
  have Hhb7 := Lib.hid hb7
  clear hb7
  rintro e w5 ⟨rfl, k6⟩
  have Kk9 := Lib.hid k6
  clear k6
  cases rb8 with
  | false =>
    have kvV0 : Sees V0 (w.heap.size) w5 := sees_kept _ Kk9.out
    go_wp2_with (refine stop_store 32 (.tmp 2) (.tmp 6) rfl ?_)
    intro _
    refine wpList_store_part_n (by rfl) 32 (.tmp 2) (.tmp 6) rfl (w.heap.size) 0 #[.int .i64 0, .int .i64 0, .int .i64 0, .int .i64 0, .slice none 0 0] (by rfl) (by rfl) 32 size_term (row_ok rfl) ?_
    intro W10 hW10
    clear kvV0
    subst hW10
    refine ⟨_, #[.int .i64 0, .int .i64 0, .int .i64 0, .int .i64 0, .slice none 0 0], (blk_at Hx1.out Kk9.out), rfl, Nat.le_of_ble_eq_true rfl, ?_⟩
    intro W11 hW11
    go_wp2_with fail
    refine bodyPost_ret (results_cell_row rfl _ _ (w.heap.size) 32 _ _ du rfl (blk_same (blk_at Hx1.out Kk9.out) hW11) hu1 (by cases du <;> first | rfl | exact hu2) size_term) rfl ?_
    rw [show pointsB i = (Tm.mk 0 0 0 0 []) from by unfold pointsB; rw [Hhb7.out]; (try rfl)]
    exact ⟨_, rfl, par_end (par_row' (liesQ_nil w5 (Par w V0.heap.size [] P)) hW11 (by omega) (by have := Z0.out; omega)) (by have := Z0.out; omega), kept_set (kept_trans Kk4.out Kk9.out) hW11 (by omega)⟩
  | true =>
    have ew12 : IntKind.i64.wrap (i + 1) = i + 1 := IntWalk.i64_in _ (by have := levN_true (heR2_lev Hhb7.out); omega)
    have kvV0 : Sees V0 (w.heap.size) w5 := sees_kept _ Kk9.out
    go_wp2_with fail
    clear kvV0
    refine (hpoints_any i (Par w V0.heap.size [] P) _ Ri.out).mono ?_
    obtain ⟨U20, hU20⟩ : ∃ qu, pointsT i = qu := ⟨_, rfl⟩
    rw [hU20]
    have HU20 := Lib.hid hU20
    clear hU20
    rintro e w13 ⟨s15, rfl, hl16, k14⟩
    obtain ⟨a17, c18, S19, rfl, -⟩ := hl16.out
    have Kk21 := Lib.hid k14
    clear k14
    have Hhl16 : Hid (LiesQ w13 (Par w V0.heap.size [] P) U20.kids _) := par_give hl16 (Below.size Kk9.out) (xlt_nil _)
    clear hl16
    have kvV0 : Sees V0 (w.heap.size) w13 := sees_kept _ (kept_trans Kk9.out Kk21.out)
    go_wp2_with (refine stop_store 32 (.tmp 2) (.tmp 8) rfl ?_)
    intro _
    refine wpList_store_part_n (by rfl) 32 (.tmp 2) (.tmp 8) rfl (w.heap.size) 0 #[.int .i64 U20.k, .int .i64 U20.i, .int .i64 U20.j, .int .i64 U20.n, (.slice a17 U20.kids.length c18)] (by rfl) (by rfl) 32 size_term (row_ok rfl) ?_
    intro W22 hW22
    clear kvV0
    subst hW22
    refine ⟨_, #[.int .i64 U20.k, .int .i64 U20.i, .int .i64 U20.j, .int .i64 U20.n, (.slice a17 U20.kids.length c18)], (blk_at Hx1.out (kept_trans Kk9.out Kk21.out)), rfl, Nat.le_of_ble_eq_true rfl, ?_⟩
    intro W23 hW23
    go_wp2_with fail
    refine bodyPost_ret (results_cell_row rfl _ _ (w.heap.size) 32 _ _ du rfl (blk_same (blk_at Hx1.out (kept_trans Kk9.out Kk21.out)) hW23) hu1 (by cases du <;> first | rfl | exact hu2) size_term) rfl ?_
    rw [show pointsB i = U20 from by unfold pointsB; rw [Hhb7.out]; rw [← HU20.out]; (try rfl)]
    exact ⟨_, rfl, par_end (par_row' Hhl16.out hW23 (by omega) (by have := Z0.out; omega)) (by have := Z0.out; omega), kept_set (kept_trans Kk4.out (kept_trans Kk9.out Kk21.out)) hW23 (by omega)⟩

def hpointr1_0 : Oper := { dst := some 7, op := Go.Op.move (Go.Operand.tmp 0), type := 3, pos := "het.go:141", after := #[], guard := none }
def hpointr1_1 : Oper := { dst := some 8, op := Go.Op.build 32 #[(0, Go.Operand.const (Go.Value.int Go.IntKind.i64 1)), (1, Go.Operand.tmp 7)], type := 32, pos := "het.go:141", after := #[{ on := 0, ground := Go.Ground.data }], guard := none }
def hpointr1_2 : Oper := { dst := some 9, op := Go.Op.build 32 #[(0, Go.Operand.const (Go.Value.int Go.IntKind.i64 2))], type := 32, pos := "het.go:141", after := #[], guard := none }
def hpointr1_3 : Oper := { dst := some 10, op := Go.Op.load 32 (Go.Operand.tmp 4), type := 32, pos := "het.go:141", after := #[], guard := none }
def hpointr1_4 : Oper := { dst := some 11, op := Go.Op.call { callee := Go.Callee.value (Go.Operand.func 92), args := #[Go.Operand.tmp 10], argTypes := #[32] }, type := 32, pos := "het.go:141", after := #[{ on := 3, ground := Go.Ground.data }], guard := none }
def hpointr1_5 : Oper := { dst := some 12, op := Go.Op.load 32 (Go.Operand.tmp 5), type := 32, pos := "het.go:141", after := #[], guard := none }
def hpointr1_6 : Oper := { dst := some 13, op := Go.Op.call { callee := Go.Callee.value (Go.Operand.func 92), args := #[Go.Operand.tmp 12], argTypes := #[32] }, type := 32, pos := "het.go:141", after := #[{ on := 5, ground := Go.Ground.data }, { on := 4, ground := Go.Ground.chain }], guard := none }
def hpointr1_7 : Oper := { dst := some 14, op := Go.Op.buildSlice 30 4 #[(0, Go.Operand.tmp 8), (1, Go.Operand.tmp 9), (2, Go.Operand.tmp 11), (3, Go.Operand.tmp 13)], type := 30, pos := "het.go:141", after := #[{ on := 1, ground := Go.Ground.data }, { on := 2, ground := Go.Ground.data }, { on := 4, ground := Go.Ground.data }, { on := 6, ground := Go.Ground.data }], guard := none }
def hpointr1_8 : Oper := { dst := some 15, op := Go.Op.build 32 #[(0, Go.Operand.const (Go.Value.int Go.IntKind.i64 17)), (4, Go.Operand.tmp 14)], type := 32, pos := "het.go:141", after := #[{ on := 7, ground := Go.Ground.data }], guard := none }
def hpointr1_9 : Oper := { dst := none, op := Go.Op.store 32 (Go.Operand.tmp 6) (Go.Operand.tmp 15), type := 0, pos := "het.go:141", after := #[{ on := 8, ground := Go.Ground.data }, { on := 6, ground := Go.Ground.chain }, { on := 0, ground := Go.Ground.phase }, { on := 1, ground := Go.Ground.phase }, { on := 2, ground := Go.Ground.phase }, { on := 3, ground := Go.Ground.phase }, { on := 4, ground := Go.Ground.phase }, { on := 5, ground := Go.Ground.phase }, { on := 6, ground := Go.Ground.phase }, { on := 7, ground := Go.Ground.phase }, { on := 8, ground := Go.Ground.phase }], guard := none }
set_option maxRecDepth 20000 in
set_option maxHeartbeats 4000000 in
theorem hpoint_any (i : Int) (a : Tm) (x : Tm) (P : Nat → Prop) (w : World) (sa : Value) (sx : Value) (hri : I64 i) (hfa : a.fine) (hla : LiesQ w P a.kids sa) (hfx : x.fine) (hlx : LiesQ w P x.kids sx) (hpa : a.plainB = true) (hpx : x.plainB = true) : Calls Try.prog 100 #[.int .i64 i, tv a sa, tv x sx] w (GivesP P (pointT i a x) w) := by
  have Ri := Lib.hid hri
  clear hri
  have Ga := Lib.hid hfa
  clear hfa
  obtain ⟨aa, ca, Sa, rfl, -⟩ := hla.out
  have Gx := Lib.hid hfx
  clear hfx
  obtain ⟨ax, cx, Sx, rfl, -⟩ := hlx.out
  have Qa := Lib.hid hpa
  clear hpa
  have Qx := Lib.hid hpx
  clear hpx
  obtain ⟨du, hu1, hu2⟩ := under_term
  unfold tv
  go_enter Try.func100, Try.ntmps100
  go_upto_region 1 with fail
  refine at_code (fun V0 hV0 => ?_)
  obtain ⟨k4, x1, x2, x3, z5⟩ := alloc3 hV0
  have Kk6 := Lib.hid k4
  clear k4
  have Hx1 := Lib.hid x1
  have Hx2 := Lib.hid x2
  have Hx3 := Lib.hid x3
  have Z0 := Lib.hid z5
  clear z5 x1 x2 x3 hV0
  have HLa : Hid (LiesQ V0 (Par w V0.heap.size [] P) a.kids _) := (par_in _ _ hla).later Kk6.out
  clear hla
  have HLx : Hid (LiesQ V0 (Par w V0.heap.size [] P) x.kids _) := (par_in _ _ hlx).later Kk6.out
  clear hlx
  have kvV0 : Sees V0 (w.heap.size + 2) V0 := sees_kept _ (kept_refl _)
  go_wp2_with fail
  clear kvV0
  obtain ⟨W7, h8⟩ : ∃ x, World.drew V0 = x := ⟨_, rfl⟩
  have k9 : Kept V0 W7 := by rw [← h8]; exact kept_drew (kept_refl _)
  have Kk10 := Lib.hid k9
  clear k9
  refine wp_region_held_drew (S := Sees W7 (w.heap.size + 2)) (by kernel_rfl) ?_ (fun hHeld => ?_)
  · (try dsimp only)
    rw [h8]
    exact sees_kept _ (kept_refl _)
  rw [h8] at hHeld ⊢
  clear h8
  refine take_at 0 7 hpointr1_0 (v := ?_) (Or.inl ⟨by rfl, ?_⟩) ?_
  rotate_left 1
  · ((intro w hSw; (try dsimp only at hSw); unfold hpointr1_0; go_simp) <;> with_reducible rfl)
  (try simp only [Act.put, List.setIfInBounds_toArray, List.set_cons_zero, List.set_cons_succ])
  refine take_at 1 8 hpointr1_1 (v := ?_) (Or.inl ⟨by rfl, ?_⟩) ?_
  rotate_left 1
  · ((intro w hSw; (try dsimp only at hSw); unfold hpointr1_1; go_simp) <;> with_reducible rfl)
  (try simp only [Act.put, List.setIfInBounds_toArray, List.set_cons_zero, List.set_cons_succ])
  refine take_at 2 9 hpointr1_2 (v := ?_) (Or.inl ⟨by rfl, ?_⟩) ?_
  rotate_left 1
  · ((intro w hSw; (try dsimp only at hSw); unfold hpointr1_2; go_simp) <;> with_reducible rfl)
  (try simp only [Act.put, List.setIfInBounds_toArray, List.set_cons_zero, List.set_cons_succ])
  refine take_at 3 10 hpointr1_3 (yields_part (w.heap.size) 0 32 (.tmp 4) #[.int .i64 a.k, .int .i64 a.i, .int .i64 a.j, .int .i64 a.n, (.slice aa a.kids.length ca)] du (fun _ h => sees_blk Hx1.out (by have := Z0.out; omega) (sees_of Kk10.out h)) (by rfl) rfl (by rfl) (by rfl) hu1 (by cases du <;> first | rfl | exact hu2) size_term) ?_
  (try simp only [Act.put, List.setIfInBounds_toArray, List.set_cons_zero, List.set_cons_succ])
  refine take_at 5 12 hpointr1_5 (yields_part (w.heap.size + 1) 0 32 (.tmp 5) #[.int .i64 x.k, .int .i64 x.i, .int .i64 x.j, .int .i64 x.n, (.slice ax x.kids.length cx)] du (fun _ h => sees_blk Hx2.out (by have := Z0.out; omega) (sees_of Kk10.out h)) (by rfl) rfl (by rfl) (by rfl) hu1 (by cases du <;> first | rfl | exact hu2) size_term) ?_
  (try simp only [Act.put, List.setIfInBounds_toArray, List.set_cons_zero, List.set_cons_succ])
  refine wpAnyH_ready (rs := [4]) (by kernel_rfl) (by simp) ?_
  refine AllReadyH.cons (o := hpointr1_4) rfl (fun K hK => ?_) ?_
  · unfold hpointr1_4
    go_simp
    refine ((copyR_any a _ (.slice aa a.kids.length ca) (HLa.out.later Kk10.out).lies (plain_right Qa.out)).mono (fun _ _ h => h.givesP (P := (Par w V0.heap.size [] P)))).mono ?_
    rintro e w11 ⟨s13, rfl, hl14, k12⟩
    obtain ⟨a15, c16, S17, rfl, -⟩ := hl14.out
    have Kk18 := Lib.hid k12
    clear k12
    have Hhl14 : Hid (LiesQ w11 (Par w V0.heap.size [] P) a.kids _) := par_give hl14 (Below.size Kk10.out) (xlt_nil _)
    clear hl14
    clear hHeld
    refine hK.out _ _ ?_ (fun hHeld => ?_)
    · (try dsimp only)
      exact sees_kept _ Kk18.out
    clear hK K
    (try simp only [Act.put, List.setIfInBounds_toArray, List.set_cons_zero, List.set_cons_succ])
    refine wpAnyH_ready (rs := [6]) (by kernel_rfl) (by simp) ?_
    refine AllReadyH.cons (o := hpointr1_6) rfl (fun K hK => ?_) ?_
    · unfold hpointr1_6
      go_simp
      refine ((copyR_any x _ (.slice ax x.kids.length cx) (HLx.out.later (kept_trans Kk10.out Kk18.out)).lies (plain_right Qx.out)).mono (fun _ _ h => h.givesP (P := (Par w V0.heap.size [] P)))).mono ?_
      rintro e w19 ⟨s21, rfl, hl22, k20⟩
      obtain ⟨a23, c24, S25, rfl, -⟩ := hl22.out
      have Kk26 := Lib.hid k20
      clear k20
      have Hhl22 : Hid (LiesQ w19 (Par w V0.heap.size [] P) x.kids _) := par_give hl22 (Below.size (kept_trans Kk10.out Kk18.out)) (xlt_nil _)
      clear hl22
      clear hHeld
      refine hK.out _ _ ?_ (fun hHeld => ?_)
      · (try dsimp only)
        exact sees_kept _ (kept_trans Kk18.out Kk26.out)
      clear hK K
      (try simp only [Act.put, List.setIfInBounds_toArray, List.set_cons_zero, List.set_cons_succ])
      refine wpAnyH_ready (rs := [7]) (by kernel_rfl) (by simp) ?_
      refine AllReadyH.cons (o := hpointr1_7) rfl (fun K hK => ?_) ?_
      · unfold hpointr1_7
        go_simp
        refine at_K (fun W28 hW28 => ?_)
        obtain ⟨k30, x29, z31⟩ := alloc1 hW28
        have Kk32 := Lib.hid k30
        clear k30
        have Hx29 := Lib.hid x29
        have Hz31 := Lib.hid z31
        clear x29 z31 hW28
        have HR33 : Hid (LiesQ W28 (Par w V0.heap.size [] P) [(.mk 1 i 0 0 []), (.mk 2 0 0 0 []), a, x] (.slice (some ⟨w19.heap.size, 0, none⟩) 4 4)) := q_row [((.mk 1 i 0 0 []), .slice none 0 0), ((.mk 2 0 0 0 []), .slice none 0 0), (a, (.slice a15 a.kids.length c16)), (x, (.slice a23 x.kids.length c24))] _ rfl Hx29.out (par_new (Below.size (kept_trans Kk10.out (kept_trans Kk18.out Kk26.out))) (xlt_nil _) (Nat.le_refl _)) (fun p hp => by
          simp only [List.mem_cons, List.not_mem_nil, or_false] at hp
          rcases hp with rfl | rfl | rfl | rfl
          · exact ⟨(mk_fine (show I64 1 from by unfold I64; decide) Ri.out (show I64 0 from by unfold I64; decide) (show I64 0 from by unfold I64; decide)), (liesQ_nil W28 (Par w V0.heap.size [] P))⟩
          · exact ⟨(mk_fine (show I64 2 from by unfold I64; decide) (show I64 0 from by unfold I64; decide) (show I64 0 from by unfold I64; decide) (show I64 0 from by unfold I64; decide)), (liesQ_nil W28 (Par w V0.heap.size [] P))⟩
          · exact ⟨Ga.out, (Hhl14.out.later (kept_trans Kk26.out Kk32.out))⟩
          · exact ⟨Gx.out, (Hhl22.out.later Kk32.out)⟩) (Nat.le_of_ble_eq_true rfl)
        clear hHeld
        refine hK.out _ _ ?_ (fun hHeld => ?_)
        · (try dsimp only)
          exact sees_kept _ (kept_trans Kk18.out (kept_trans Kk26.out Kk32.out))
        clear hK K
        (try simp only [Act.put, List.setIfInBounds_toArray, List.set_cons_zero, List.set_cons_succ])
        refine take_at 8 15 hpointr1_8 (v := ?_) (Or.inl ⟨by rfl, ?_⟩) ?_
        rotate_left 1
        · ((intro w hSw; (try dsimp only at hSw); unfold hpointr1_8; go_simp) <;> with_reducible rfl)
        (try simp only [Act.put, List.setIfInBounds_toArray, List.set_cons_zero, List.set_cons_succ])
        refine wpAnyH_ready (rs := [9]) (by kernel_rfl) (by simp) ?_
        refine AllReadyH.cons (o := hpointr1_9) rfl (fun K hK => ?_) ?_
        · unfold hpointr1_9
          refine step_store_part rfl 32 (.tmp 6) (.tmp 15) rfl (w.heap.size + 2) 0 #[.int .i64 17, .int .i64 0, .int .i64 0, .int .i64 0, (.slice (some ⟨w19.heap.size, 0, none⟩) 4 4)] rfl rfl 32 size_term (row_ok rfl) _ #[.int .i64 17, .int .i64 0, .int .i64 0, .int .i64 0, (.slice (some ⟨w19.heap.size, 0, none⟩) 4 4)] (blk_at Hx3.out (kept_trans Kk10.out (kept_trans Kk18.out (kept_trans Kk26.out Kk32.out)))) rfl (Nat.le_of_ble_eq_true rfl) ?_
          intro W34 hW34
          clear hHeld
          refine hK.out _ _ ?_ (fun hHeld => ?_)
          · (try dsimp only)
            exact sees_set (kept_trans Kk18.out (kept_trans Kk26.out Kk32.out)) hW34
          clear hK K
          (try simp only [Act.put])
          refine wpAnyH_done (by kernel_rfl) ?_ _
          clear hHeld
          go_wp2_with fail
          refine bodyPost_ret (results_cell_row rfl _ _ (w.heap.size + 2) 32 _ _ du rfl (blk_same (blk_at Hx3.out (kept_trans Kk10.out (kept_trans Kk18.out (kept_trans Kk26.out Kk32.out)))) hW34) hu1 (by cases du <;> first | rfl | exact hu2) size_term) rfl ?_
          exact ⟨_, rfl, par_end (par_row' HR33.out hW34 (by omega) (by have := Z0.out; omega)) (by have := Z0.out; omega), kept_set (kept_trans Kk6.out (kept_trans Kk10.out (kept_trans Kk18.out (kept_trans Kk26.out Kk32.out)))) hW34 (by omega)⟩
        exact AllReadyH.nil
      exact AllReadyH.nil
    exact AllReadyH.nil
  exact AllReadyH.nil

def hfreshr1_0 : Oper := { dst := some 3, op := Go.Op.fieldAddr 51 (Go.Operand.tmp 1) 1, type := 0, pos := "het.go:150", after := #[], guard := none }
def hfreshr1_1 : Oper := { dst := some 4, op := Go.Op.load 32 (Go.Operand.tmp 3), type := 32, pos := "het.go:150", after := #[{ on := 0, ground := Go.Ground.data }], guard := none }
def hfreshr1_2 : Oper := { dst := some 5, op := Go.Op.call { callee := Go.Callee.value (Go.Operand.func 92), args := #[Go.Operand.tmp 4], argTypes := #[32] }, type := 32, pos := "het.go:150", after := #[{ on := 1, ground := Go.Ground.data }], guard := none }
def hfreshr1_3 : Oper := { dst := some 6, op := Go.Op.fieldAddr 51 (Go.Operand.tmp 1) 2, type := 0, pos := "het.go:150", after := #[], guard := none }
def hfreshr1_4 : Oper := { dst := some 7, op := Go.Op.load 32 (Go.Operand.tmp 6), type := 32, pos := "het.go:150", after := #[{ on := 3, ground := Go.Ground.data }], guard := none }
def hfreshr1_5 : Oper := { dst := some 8, op := Go.Op.call { callee := Go.Callee.value (Go.Operand.func 92), args := #[Go.Operand.tmp 7], argTypes := #[32] }, type := 32, pos := "het.go:150", after := #[{ on := 4, ground := Go.Ground.data }, { on := 2, ground := Go.Ground.chain }], guard := none }
def hfreshr1_6 : Oper := { dst := some 9, op := Go.Op.fieldAddr 51 (Go.Operand.tmp 1) 3, type := 0, pos := "het.go:150", after := #[], guard := none }
def hfreshr1_7 : Oper := { dst := some 10, op := Go.Op.load 32 (Go.Operand.tmp 9), type := 32, pos := "het.go:150", after := #[{ on := 6, ground := Go.Ground.data }], guard := none }
def hfreshr1_8 : Oper := { dst := some 11, op := Go.Op.call { callee := Go.Callee.value (Go.Operand.func 92), args := #[Go.Operand.tmp 10], argTypes := #[32] }, type := 32, pos := "het.go:150", after := #[{ on := 7, ground := Go.Ground.data }, { on := 5, ground := Go.Ground.chain }], guard := none }
def hfreshr1_9 : Oper := { dst := some 12, op := Go.Op.fieldAddr 51 (Go.Operand.tmp 1) 4, type := 0, pos := "het.go:150", after := #[], guard := none }
def hfreshr1_10 : Oper := { dst := some 13, op := Go.Op.load 32 (Go.Operand.tmp 12), type := 32, pos := "het.go:150", after := #[{ on := 9, ground := Go.Ground.data }], guard := none }
def hfreshr1_11 : Oper := { dst := some 14, op := Go.Op.call { callee := Go.Callee.value (Go.Operand.func 92), args := #[Go.Operand.tmp 13], argTypes := #[32] }, type := 32, pos := "het.go:150", after := #[{ on := 10, ground := Go.Ground.data }, { on := 8, ground := Go.Ground.chain }], guard := none }
def hfreshr1_12 : Oper := { dst := some 15, op := Go.Op.fieldAddr 51 (Go.Operand.tmp 1) 1, type := 0, pos := "het.go:150", after := #[{ on := 0, ground := Go.Ground.phase }, { on := 1, ground := Go.Ground.phase }, { on := 2, ground := Go.Ground.phase }, { on := 3, ground := Go.Ground.phase }, { on := 4, ground := Go.Ground.phase }, { on := 5, ground := Go.Ground.textOnly Go.Departure.lateStoresUnsure }, { on := 6, ground := Go.Ground.phase }, { on := 7, ground := Go.Ground.phase }, { on := 8, ground := Go.Ground.textOnly Go.Departure.lateStoresUnsure }, { on := 9, ground := Go.Ground.phase }, { on := 10, ground := Go.Ground.phase }, { on := 11, ground := Go.Ground.textOnly Go.Departure.lateStoresUnsure }], guard := none }
def hfreshr1_13 : Oper := { dst := none, op := Go.Op.store 32 (Go.Operand.tmp 15) (Go.Operand.tmp 5), type := 0, pos := "het.go:150", after := #[{ on := 12, ground := Go.Ground.data }, { on := 2, ground := Go.Ground.data }, { on := 11, ground := Go.Ground.chain }, { on := 0, ground := Go.Ground.phase }, { on := 1, ground := Go.Ground.phase }, { on := 2, ground := Go.Ground.phase }, { on := 3, ground := Go.Ground.phase }, { on := 4, ground := Go.Ground.phase }, { on := 5, ground := Go.Ground.textOnly Go.Departure.lateStoresUnsure }, { on := 6, ground := Go.Ground.phase }, { on := 7, ground := Go.Ground.phase }, { on := 8, ground := Go.Ground.textOnly Go.Departure.lateStoresUnsure }, { on := 9, ground := Go.Ground.phase }, { on := 10, ground := Go.Ground.phase }, { on := 11, ground := Go.Ground.textOnly Go.Departure.lateStoresUnsure }], guard := none }
def hfreshr1_14 : Oper := { dst := some 16, op := Go.Op.fieldAddr 51 (Go.Operand.tmp 1) 2, type := 0, pos := "het.go:150", after := #[{ on := 0, ground := Go.Ground.phase }, { on := 1, ground := Go.Ground.phase }, { on := 2, ground := Go.Ground.phase }, { on := 3, ground := Go.Ground.phase }, { on := 4, ground := Go.Ground.phase }, { on := 5, ground := Go.Ground.phase }, { on := 6, ground := Go.Ground.phase }, { on := 7, ground := Go.Ground.phase }, { on := 8, ground := Go.Ground.textOnly Go.Departure.lateStoresUnsure }, { on := 9, ground := Go.Ground.phase }, { on := 10, ground := Go.Ground.phase }, { on := 11, ground := Go.Ground.textOnly Go.Departure.lateStoresUnsure }, { on := 12, ground := Go.Ground.phase }, { on := 13, ground := Go.Ground.phase }], guard := none }
def hfreshr1_15 : Oper := { dst := none, op := Go.Op.store 32 (Go.Operand.tmp 16) (Go.Operand.tmp 8), type := 0, pos := "het.go:150", after := #[{ on := 14, ground := Go.Ground.data }, { on := 5, ground := Go.Ground.data }, { on := 13, ground := Go.Ground.chain }, { on := 0, ground := Go.Ground.phase }, { on := 1, ground := Go.Ground.phase }, { on := 2, ground := Go.Ground.phase }, { on := 3, ground := Go.Ground.phase }, { on := 4, ground := Go.Ground.phase }, { on := 5, ground := Go.Ground.phase }, { on := 6, ground := Go.Ground.phase }, { on := 7, ground := Go.Ground.phase }, { on := 8, ground := Go.Ground.textOnly Go.Departure.lateStoresUnsure }, { on := 9, ground := Go.Ground.phase }, { on := 10, ground := Go.Ground.phase }, { on := 11, ground := Go.Ground.textOnly Go.Departure.lateStoresUnsure }, { on := 12, ground := Go.Ground.phase }, { on := 13, ground := Go.Ground.phase }], guard := none }
def hfreshr1_16 : Oper := { dst := some 17, op := Go.Op.fieldAddr 51 (Go.Operand.tmp 1) 3, type := 0, pos := "het.go:150", after := #[{ on := 0, ground := Go.Ground.phase }, { on := 1, ground := Go.Ground.phase }, { on := 2, ground := Go.Ground.phase }, { on := 3, ground := Go.Ground.phase }, { on := 4, ground := Go.Ground.phase }, { on := 5, ground := Go.Ground.phase }, { on := 6, ground := Go.Ground.phase }, { on := 7, ground := Go.Ground.phase }, { on := 8, ground := Go.Ground.phase }, { on := 9, ground := Go.Ground.phase }, { on := 10, ground := Go.Ground.phase }, { on := 11, ground := Go.Ground.textOnly Go.Departure.lateStoresUnsure }, { on := 12, ground := Go.Ground.phase }, { on := 13, ground := Go.Ground.phase }, { on := 14, ground := Go.Ground.phase }, { on := 15, ground := Go.Ground.phase }], guard := none }
def hfreshr1_17 : Oper := { dst := none, op := Go.Op.store 32 (Go.Operand.tmp 17) (Go.Operand.tmp 11), type := 0, pos := "het.go:150", after := #[{ on := 16, ground := Go.Ground.data }, { on := 8, ground := Go.Ground.data }, { on := 15, ground := Go.Ground.chain }, { on := 0, ground := Go.Ground.phase }, { on := 1, ground := Go.Ground.phase }, { on := 2, ground := Go.Ground.phase }, { on := 3, ground := Go.Ground.phase }, { on := 4, ground := Go.Ground.phase }, { on := 5, ground := Go.Ground.phase }, { on := 6, ground := Go.Ground.phase }, { on := 7, ground := Go.Ground.phase }, { on := 8, ground := Go.Ground.phase }, { on := 9, ground := Go.Ground.phase }, { on := 10, ground := Go.Ground.phase }, { on := 11, ground := Go.Ground.textOnly Go.Departure.lateStoresUnsure }, { on := 12, ground := Go.Ground.phase }, { on := 13, ground := Go.Ground.phase }, { on := 14, ground := Go.Ground.phase }, { on := 15, ground := Go.Ground.phase }], guard := none }
def hfreshr1_18 : Oper := { dst := some 18, op := Go.Op.fieldAddr 51 (Go.Operand.tmp 1) 4, type := 0, pos := "het.go:150", after := #[{ on := 0, ground := Go.Ground.phase }, { on := 1, ground := Go.Ground.phase }, { on := 2, ground := Go.Ground.phase }, { on := 3, ground := Go.Ground.phase }, { on := 4, ground := Go.Ground.phase }, { on := 5, ground := Go.Ground.phase }, { on := 6, ground := Go.Ground.phase }, { on := 7, ground := Go.Ground.phase }, { on := 8, ground := Go.Ground.phase }, { on := 9, ground := Go.Ground.phase }, { on := 10, ground := Go.Ground.phase }, { on := 11, ground := Go.Ground.phase }, { on := 12, ground := Go.Ground.phase }, { on := 13, ground := Go.Ground.phase }, { on := 14, ground := Go.Ground.phase }, { on := 15, ground := Go.Ground.phase }, { on := 16, ground := Go.Ground.phase }, { on := 17, ground := Go.Ground.phase }], guard := none }
def hfreshr1_19 : Oper := { dst := none, op := Go.Op.store 32 (Go.Operand.tmp 18) (Go.Operand.tmp 14), type := 0, pos := "het.go:150", after := #[{ on := 18, ground := Go.Ground.data }, { on := 11, ground := Go.Ground.data }, { on := 17, ground := Go.Ground.chain }, { on := 0, ground := Go.Ground.phase }, { on := 1, ground := Go.Ground.phase }, { on := 2, ground := Go.Ground.phase }, { on := 3, ground := Go.Ground.phase }, { on := 4, ground := Go.Ground.phase }, { on := 5, ground := Go.Ground.phase }, { on := 6, ground := Go.Ground.phase }, { on := 7, ground := Go.Ground.phase }, { on := 8, ground := Go.Ground.phase }, { on := 9, ground := Go.Ground.phase }, { on := 10, ground := Go.Ground.phase }, { on := 11, ground := Go.Ground.phase }, { on := 12, ground := Go.Ground.phase }, { on := 13, ground := Go.Ground.phase }, { on := 14, ground := Go.Ground.phase }, { on := 15, ground := Go.Ground.phase }, { on := 16, ground := Go.Ground.phase }, { on := 17, ground := Go.Ground.phase }], guard := none }
set_option maxRecDepth 20000 in
set_option maxHeartbeats 4000000 in
theorem hfresh_any (h : He) (P : Nat → Prop) (w : World) (sha : Value) (shb : Value) (shx : Value) (shy : Value) (shh : Value) (hfh : h.fine) (hlh : HQ w P h sha shb shx shy shh) (hpha : h.a.plainB = true) (hphb : h.b.plainB = true) (hphx : h.x.plainB = true) (hphy : h.y.plainB = true) : Calls Try.prog 111 #[hv h sha shb shx shy shh] w (GivesHP P h w) := by
  have Gh := Lib.hid hfh
  clear hfh
  obtain ⟨hlha, hlhb, hlhx, hlhy, hlhh⟩ := hlh
  obtain ⟨aha, cha, Sha, rfl, -⟩ := hlha.out
  obtain ⟨ahb, chb, Shb, rfl, -⟩ := hlhb.out
  obtain ⟨ahx, chx, Shx, rfl, -⟩ := hlhx.out
  obtain ⟨ahy, chy, Shy, rfl, -⟩ := hlhy.out
  obtain ⟨ahh, chh, Shh, rfl, -⟩ := hlhh.out
  have Qha := Lib.hid hpha
  clear hpha
  have Qhb := Lib.hid hphb
  clear hphb
  have Qhx := Lib.hid hphx
  clear hphx
  have Qhy := Lib.hid hphy
  clear hphy
  obtain ⟨du, hu1, hu2⟩ := under_term
  obtain ⟨dh, dh1, dh2⟩ := under_of 51 (by kernel_rfl)
  unfold hv
  go_enter Try.func111, Try.ntmps111
  go_upto_region 1 with fail
  refine at_code (fun V0 hV0 => ?_)
  obtain ⟨k3, x1, x2, z4⟩ := alloc2 hV0
  have Kk5 := Lib.hid k3
  clear k3
  have Hx1 := Lib.hid x1
  have Hx2 := Lib.hid x2
  have Z0 := Lib.hid z4
  clear z4 x1 x2 hV0
  have HLha : Hid (LiesQ V0 (Par w V0.heap.size [] P) h.a.kids _) := (par_in _ _ hlha).later Kk5.out
  clear hlha
  have HLhb : Hid (LiesQ V0 (Par w V0.heap.size [] P) h.b.kids _) := (par_in _ _ hlhb).later Kk5.out
  clear hlhb
  have HLhx : Hid (LiesQ V0 (Par w V0.heap.size [] P) h.x.kids _) := (par_in _ _ hlhx).later Kk5.out
  clear hlhx
  have HLhy : Hid (LiesQ V0 (Par w V0.heap.size [] P) h.y.kids _) := (par_in _ _ hlhy).later Kk5.out
  clear hlhy
  have HLhh : Hid (LiesQ V0 (Par w V0.heap.size [] P) h.h.kids _) := (par_in _ _ hlhh).later Kk5.out
  clear hlhh
  have kvV0 : Sees V0 (w.heap.size + 1) V0 := sees_kept _ (kept_refl _)
  go_wp2_with fail
  clear kvV0
  obtain ⟨W6, h7⟩ : ∃ x, World.drew V0 = x := ⟨_, rfl⟩
  have k8 : Kept V0 W6 := by rw [← h7]; exact kept_drew (kept_refl _)
  have Kk9 := Lib.hid k8
  clear k8
  refine wp_region_X (S := Sees W6 (w.heap.size + 1)) 13 (by kernel_rfl) ?_ (fun hHeld => ?_)
  · (try dsimp only)
    rw [h7]
    exact sees_kept _ (kept_refl _)
  rw [h7] at hHeld ⊢
  clear h7
  refine takeX_any 0 3 hfreshr1_0 (v := ?_) (Or.inl ⟨by rfl, ?_⟩) ?_ (fun _ => hHeld)
  rotate_left 1
  · ((intro w hSw; (try dsimp only at hSw); unfold hfreshr1_0; go_simp) <;> with_reducible rfl)
  (try simp only [Act.put, List.setIfInBounds_toArray, List.set_cons_zero, List.set_cons_succ])
  refine takeX_at 1 4 hfreshr1_1 (yields_part (w.heap.size) 1 32 (.tmp 3) #[.int .i64 h.a.k, .int .i64 h.a.i, .int .i64 h.a.j, .int .i64 h.a.n, (.slice aha h.a.kids.length cha)] du (fun _ h => sees_blk Hx1.out (by have := Z0.out; omega) (sees_of Kk9.out h)) (by rfl) rfl (by rfl) (by rfl) hu1 (by cases du <;> first | rfl | exact hu2) size_term) ?_
  (try simp only [Act.put, List.setIfInBounds_toArray, List.set_cons_zero, List.set_cons_succ])
  refine takeX_any 3 6 hfreshr1_3 (v := ?_) (Or.inl ⟨by rfl, ?_⟩) ?_ (fun _ => hHeld)
  rotate_left 1
  · ((intro w hSw; (try dsimp only at hSw); unfold hfreshr1_3; go_simp) <;> with_reducible rfl)
  (try simp only [Act.put, List.setIfInBounds_toArray, List.set_cons_zero, List.set_cons_succ])
  refine takeX_at 4 7 hfreshr1_4 (yields_part (w.heap.size) 6 32 (.tmp 6) #[.int .i64 h.b.k, .int .i64 h.b.i, .int .i64 h.b.j, .int .i64 h.b.n, (.slice ahb h.b.kids.length chb)] du (fun _ h => sees_blk Hx1.out (by have := Z0.out; omega) (sees_of Kk9.out h)) (by rfl) rfl (by rfl) (by rfl) hu1 (by cases du <;> first | rfl | exact hu2) size_term) ?_
  (try simp only [Act.put, List.setIfInBounds_toArray, List.set_cons_zero, List.set_cons_succ])
  refine takeX_any 6 9 hfreshr1_6 (v := ?_) (Or.inl ⟨by rfl, ?_⟩) ?_ (fun _ => hHeld)
  rotate_left 1
  · ((intro w hSw; (try dsimp only at hSw); unfold hfreshr1_6; go_simp) <;> with_reducible rfl)
  (try simp only [Act.put, List.setIfInBounds_toArray, List.set_cons_zero, List.set_cons_succ])
  refine takeX_at 7 10 hfreshr1_7 (yields_part (w.heap.size) 11 32 (.tmp 9) #[.int .i64 h.x.k, .int .i64 h.x.i, .int .i64 h.x.j, .int .i64 h.x.n, (.slice ahx h.x.kids.length chx)] du (fun _ h => sees_blk Hx1.out (by have := Z0.out; omega) (sees_of Kk9.out h)) (by rfl) rfl (by rfl) (by rfl) hu1 (by cases du <;> first | rfl | exact hu2) size_term) ?_
  (try simp only [Act.put, List.setIfInBounds_toArray, List.set_cons_zero, List.set_cons_succ])
  refine takeX_any 9 12 hfreshr1_9 (v := ?_) (Or.inl ⟨by rfl, ?_⟩) ?_ (fun _ => hHeld)
  rotate_left 1
  · ((intro w hSw; (try dsimp only at hSw); unfold hfreshr1_9; go_simp) <;> with_reducible rfl)
  (try simp only [Act.put, List.setIfInBounds_toArray, List.set_cons_zero, List.set_cons_succ])
  refine takeX_at 10 13 hfreshr1_10 (yields_part (w.heap.size) 16 32 (.tmp 12) #[.int .i64 h.y.k, .int .i64 h.y.i, .int .i64 h.y.j, .int .i64 h.y.n, (.slice ahy h.y.kids.length chy)] du (fun _ h => sees_blk Hx1.out (by have := Z0.out; omega) (sees_of Kk9.out h)) (by rfl) rfl (by rfl) (by rfl) hu1 (by cases du <;> first | rfl | exact hu2) size_term) ?_
  (try simp only [Act.put, List.setIfInBounds_toArray, List.set_cons_zero, List.set_cons_succ])
  refine wpAnyX_ready (rs := [2]) (by kernel_rfl) (by simp) ?_
  refine AllReadyX.cons (o := hfreshr1_2) rfl (fun K hK => ?_) ?_
  · unfold hfreshr1_2
    go_simp
    refine ((copyR_any h.a _ (.slice aha h.a.kids.length cha) (HLha.out.later Kk9.out).lies (plain_right Qha.out)).mono (fun _ _ h => h.givesP (P := (Par w V0.heap.size [] P)))).mono ?_
    rintro e w10 ⟨s12, rfl, hl13, k11⟩
    obtain ⟨a14, c15, S16, rfl, -⟩ := hl13.out
    have Kk17 := Lib.hid k11
    clear k11
    have Hhl13 : Hid (LiesQ w10 (Par w V0.heap.size [] P) h.a.kids _) := par_give hl13 (Below.size Kk9.out) (xlt_nil _)
    clear hl13
    clear hHeld
    refine hK.out _ _ (fun _ => sees_kept _ Kk17.out) (fun hHeld => ?_)
    replace hHeld := hHeld (by kernel_rfl)
    clear hK K
    (try simp only [Act.put, List.setIfInBounds_toArray, List.set_cons_zero, List.set_cons_succ])
    refine takeX_any 12 15 hfreshr1_12 (v := ?_) (Or.inl ⟨by rfl, ?_⟩) ?_ (fun _ => hHeld)
    rotate_left 1
    · ((intro w hSw; (try dsimp only at hSw); unfold hfreshr1_12; go_simp) <;> with_reducible rfl)
    (try simp only [Act.put, List.setIfInBounds_toArray, List.set_cons_zero, List.set_cons_succ])
    refine wpAnyX_ready (rs := [5]) (by kernel_rfl) (by simp) ?_
    refine AllReadyX.cons (o := hfreshr1_5) rfl (fun K hK => ?_) ?_
    · unfold hfreshr1_5
      go_simp
      refine ((copyR_any h.b _ (.slice ahb h.b.kids.length chb) (HLhb.out.later (kept_trans Kk9.out Kk17.out)).lies (plain_right Qhb.out)).mono (fun _ _ h => h.givesP (P := (Par w V0.heap.size [] P)))).mono ?_
      rintro e w18 ⟨s20, rfl, hl21, k19⟩
      obtain ⟨a22, c23, S24, rfl, -⟩ := hl21.out
      have Kk25 := Lib.hid k19
      clear k19
      have Hhl21 : Hid (LiesQ w18 (Par w V0.heap.size [] P) h.b.kids _) := par_give hl21 (Below.size (kept_trans Kk9.out Kk17.out)) (xlt_nil _)
      clear hl21
      clear hHeld
      refine hK.out _ _ (fun _ => sees_kept _ (kept_trans Kk17.out Kk25.out)) (fun hHeld => ?_)
      replace hHeld := hHeld (by kernel_rfl)
      clear hK K
      (try simp only [Act.put, List.setIfInBounds_toArray, List.set_cons_zero, List.set_cons_succ])
      refine wpAnyX_ready (rs := [8]) (by kernel_rfl) (by simp) ?_
      refine AllReadyX.cons (o := hfreshr1_8) rfl (fun K hK => ?_) ?_
      · unfold hfreshr1_8
        go_simp
        refine ((copyR_any h.x _ (.slice ahx h.x.kids.length chx) (HLhx.out.later (kept_trans Kk9.out (kept_trans Kk17.out Kk25.out))).lies (plain_right Qhx.out)).mono (fun _ _ h => h.givesP (P := (Par w V0.heap.size [] P)))).mono ?_
        rintro e w26 ⟨s28, rfl, hl29, k27⟩
        obtain ⟨a30, c31, S32, rfl, -⟩ := hl29.out
        have Kk33 := Lib.hid k27
        clear k27
        have Hhl29 : Hid (LiesQ w26 (Par w V0.heap.size [] P) h.x.kids _) := par_give hl29 (Below.size (kept_trans Kk9.out (kept_trans Kk17.out Kk25.out))) (xlt_nil _)
        clear hl29
        clear hHeld
        refine hK.out _ _ (fun _ => sees_kept _ (kept_trans Kk17.out (kept_trans Kk25.out Kk33.out))) (fun hHeld => ?_)
        replace hHeld := hHeld (by kernel_rfl)
        clear hK K
        (try simp only [Act.put, List.setIfInBounds_toArray, List.set_cons_zero, List.set_cons_succ])
        refine wpAnyX_ready (rs := [11]) (by kernel_rfl) (by simp) ?_
        refine AllReadyX.cons (o := hfreshr1_11) rfl (fun K hK => ?_) ?_
        · unfold hfreshr1_11
          go_simp
          refine ((copyR_any h.y _ (.slice ahy h.y.kids.length chy) (HLhy.out.later (kept_trans Kk9.out (kept_trans Kk17.out (kept_trans Kk25.out Kk33.out)))).lies (plain_right Qhy.out)).mono (fun _ _ h => h.givesP (P := (Par w V0.heap.size [] P)))).mono ?_
          rintro e w34 ⟨s36, rfl, hl37, k35⟩
          obtain ⟨a38, c39, S40, rfl, -⟩ := hl37.out
          have Kk41 := Lib.hid k35
          clear k35
          have Hhl37 : Hid (LiesQ w34 (Par w V0.heap.size [] P) h.y.kids _) := par_give hl37 (Below.size (kept_trans Kk9.out (kept_trans Kk17.out (kept_trans Kk25.out Kk33.out)))) (xlt_nil _)
          clear hl37
          clear hHeld
          refine hK.out _ _ (fun _ => sees_kept _ (kept_trans Kk17.out (kept_trans Kk25.out (kept_trans Kk33.out Kk41.out)))) (fun hHeld => ?_)
          replace hHeld := hHeld (by kernel_rfl)
          clear hK K
          (try simp only [Act.put, List.setIfInBounds_toArray, List.set_cons_zero, List.set_cons_succ])
          refine wpAnyX_ready (rs := [13]) (by kernel_rfl) (by simp) ?_
          refine AllReadyX.cons (o := hfreshr1_13) rfl (fun K hK => ?_) ?_
          · unfold hfreshr1_13
            refine step_store_part rfl 32 (.tmp 15) (.tmp 5) rfl (w.heap.size) 1 #[.int .i64 h.a.k, .int .i64 h.a.i, .int .i64 h.a.j, .int .i64 h.a.n, (.slice a14 h.a.kids.length c15)] rfl rfl 51 size_term (row_ok rfl) _ #[.int .i64 h.i, .int .i64 h.a.k, .int .i64 h.a.i, .int .i64 h.a.j, .int .i64 h.a.n, (.slice a14 h.a.kids.length c15), .int .i64 h.b.k, .int .i64 h.b.i, .int .i64 h.b.j, .int .i64 h.b.n, (.slice ahb h.b.kids.length chb), .int .i64 h.x.k, .int .i64 h.x.i, .int .i64 h.x.j, .int .i64 h.x.n, (.slice ahx h.x.kids.length chx), .int .i64 h.y.k, .int .i64 h.y.i, .int .i64 h.y.j, .int .i64 h.y.n, (.slice ahy h.y.kids.length chy), .int .i64 h.h.k, .int .i64 h.h.i, .int .i64 h.h.j, .int .i64 h.h.n, (.slice ahh h.h.kids.length chh)] (blk_at Hx1.out (kept_trans Kk9.out (kept_trans Kk17.out (kept_trans Kk25.out (kept_trans Kk33.out Kk41.out))))) rfl (Nat.le_of_ble_eq_true rfl) ?_
            intro W42 hW42
            have KB43 := Lib.hid (kept_set (kept_trans Kk5.out (kept_trans Kk9.out (kept_trans Kk17.out (kept_trans Kk25.out (kept_trans Kk33.out Kk41.out))))) hW42 (by have := Z0.out; omega))
            have HN44 : Hid (V0.heap.size ≤ W42.heap.size) := by show _ ≤ _; rw [← hW42, setRow_size]; exact (Below.size (kept_trans Kk9.out (kept_trans Kk17.out (kept_trans Kk25.out (kept_trans Kk33.out Kk41.out)))))
            have HL45 : Hid (LiesQ W42 (Par w V0.heap.size [] P) h.a.kids _) := par_row' (HLha.out.later (kept_trans Kk9.out (kept_trans Kk17.out (kept_trans Kk25.out (kept_trans Kk33.out Kk41.out))))) hW42 (by have := Z0.out; omega) (by have := Z0.out; omega)
            have HL46 : Hid (LiesQ W42 (Par w V0.heap.size [] P) h.b.kids _) := par_row' (HLhb.out.later (kept_trans Kk9.out (kept_trans Kk17.out (kept_trans Kk25.out (kept_trans Kk33.out Kk41.out))))) hW42 (by have := Z0.out; omega) (by have := Z0.out; omega)
            have HL47 : Hid (LiesQ W42 (Par w V0.heap.size [] P) h.x.kids _) := par_row' (HLhx.out.later (kept_trans Kk9.out (kept_trans Kk17.out (kept_trans Kk25.out (kept_trans Kk33.out Kk41.out))))) hW42 (by have := Z0.out; omega) (by have := Z0.out; omega)
            have HL48 : Hid (LiesQ W42 (Par w V0.heap.size [] P) h.y.kids _) := par_row' (HLhy.out.later (kept_trans Kk9.out (kept_trans Kk17.out (kept_trans Kk25.out (kept_trans Kk33.out Kk41.out))))) hW42 (by have := Z0.out; omega) (by have := Z0.out; omega)
            have HL49 : Hid (LiesQ W42 (Par w V0.heap.size [] P) h.h.kids _) := par_row' (HLhh.out.later (kept_trans Kk9.out (kept_trans Kk17.out (kept_trans Kk25.out (kept_trans Kk33.out Kk41.out))))) hW42 (by have := Z0.out; omega) (by have := Z0.out; omega)
            have HL50 : Hid (LiesQ W42 (Par w V0.heap.size [] P) h.a.kids _) := par_row' (Hhl13.out.later (kept_trans Kk25.out (kept_trans Kk33.out Kk41.out))) hW42 (by have := Z0.out; omega) (by have := Z0.out; omega)
            have HL51 : Hid (LiesQ W42 (Par w V0.heap.size [] P) h.b.kids _) := par_row' (Hhl21.out.later (kept_trans Kk33.out Kk41.out)) hW42 (by have := Z0.out; omega) (by have := Z0.out; omega)
            have HL52 : Hid (LiesQ W42 (Par w V0.heap.size [] P) h.x.kids _) := par_row' (Hhl29.out.later Kk41.out) hW42 (by have := Z0.out; omega) (by have := Z0.out; omega)
            have HL53 : Hid (LiesQ W42 (Par w V0.heap.size [] P) h.y.kids _) := par_row' Hhl37.out hW42 (by have := Z0.out; omega) (by have := Z0.out; omega)
            have XL54 := Lib.hid (xlt_set (xlt_nil _) hW42)
            have HX55 := Lib.hid (blk_same (blk_at Hx1.out (kept_trans Kk9.out (kept_trans Kk17.out (kept_trans Kk25.out (kept_trans Kk33.out Kk41.out))))) hW42)
            have HX56 := Lib.hid (blk_other (blk_at Hx2.out (kept_trans Kk9.out (kept_trans Kk17.out (kept_trans Kk25.out (kept_trans Kk33.out Kk41.out))))) hW42 (by have := Z0.out; omega))
            clear hW42
            clear hHeld
            refine hK.out _ _ (fun h => Bool.noConfusion (show true = false from h)) (fun _ => ?_)
            clear hK K
            (try simp only [Act.put])
            refine takeX_any 14 16 hfreshr1_14 (v := ?_) (Or.inl ⟨by rfl, ?_⟩) ?_ (fun h => Bool.noConfusion (show true = false from h))
            rotate_left 1
            · ((intro w hSw; (try dsimp only at hSw); unfold hfreshr1_14; go_simp) <;> with_reducible rfl)
            (try simp only [Act.put, List.setIfInBounds_toArray, List.set_cons_zero, List.set_cons_succ])
            refine wpAnyX_ready (rs := [15]) (by kernel_rfl) (by simp) ?_
            refine AllReadyX.cons (o := hfreshr1_15) rfl (fun K hK => ?_) ?_
            · unfold hfreshr1_15
              refine step_store_part rfl 32 (.tmp 16) (.tmp 8) rfl (w.heap.size) 6 #[.int .i64 h.b.k, .int .i64 h.b.i, .int .i64 h.b.j, .int .i64 h.b.n, (.slice a22 h.b.kids.length c23)] rfl rfl 51 size_term (row_ok rfl) _ #[.int .i64 h.i, .int .i64 h.a.k, .int .i64 h.a.i, .int .i64 h.a.j, .int .i64 h.a.n, (.slice a14 h.a.kids.length c15), .int .i64 h.b.k, .int .i64 h.b.i, .int .i64 h.b.j, .int .i64 h.b.n, (.slice a22 h.b.kids.length c23), .int .i64 h.x.k, .int .i64 h.x.i, .int .i64 h.x.j, .int .i64 h.x.n, (.slice ahx h.x.kids.length chx), .int .i64 h.y.k, .int .i64 h.y.i, .int .i64 h.y.j, .int .i64 h.y.n, (.slice ahy h.y.kids.length chy), .int .i64 h.h.k, .int .i64 h.h.i, .int .i64 h.h.j, .int .i64 h.h.n, (.slice ahh h.h.kids.length chh)] HX55.out rfl (Nat.le_of_ble_eq_true rfl) ?_
              intro W57 hW57
              have KB58 := Lib.hid (kept_set KB43.out hW57 (by have := Z0.out; omega))
              have HN59 : Hid (V0.heap.size ≤ W57.heap.size) := by show _ ≤ _; rw [← hW57, setRow_size]; exact HN44.out
              have HL60 : Hid (LiesQ W57 (Par w V0.heap.size [] P) h.a.kids _) := par_row' HL45.out hW57 (by have := Z0.out; omega) (by have := Z0.out; omega)
              have HL61 : Hid (LiesQ W57 (Par w V0.heap.size [] P) h.b.kids _) := par_row' HL46.out hW57 (by have := Z0.out; omega) (by have := Z0.out; omega)
              have HL62 : Hid (LiesQ W57 (Par w V0.heap.size [] P) h.x.kids _) := par_row' HL47.out hW57 (by have := Z0.out; omega) (by have := Z0.out; omega)
              have HL63 : Hid (LiesQ W57 (Par w V0.heap.size [] P) h.y.kids _) := par_row' HL48.out hW57 (by have := Z0.out; omega) (by have := Z0.out; omega)
              have HL64 : Hid (LiesQ W57 (Par w V0.heap.size [] P) h.h.kids _) := par_row' HL49.out hW57 (by have := Z0.out; omega) (by have := Z0.out; omega)
              have HL65 : Hid (LiesQ W57 (Par w V0.heap.size [] P) h.a.kids _) := par_row' HL50.out hW57 (by have := Z0.out; omega) (by have := Z0.out; omega)
              have HL66 : Hid (LiesQ W57 (Par w V0.heap.size [] P) h.b.kids _) := par_row' HL51.out hW57 (by have := Z0.out; omega) (by have := Z0.out; omega)
              have HL67 : Hid (LiesQ W57 (Par w V0.heap.size [] P) h.x.kids _) := par_row' HL52.out hW57 (by have := Z0.out; omega) (by have := Z0.out; omega)
              have HL68 : Hid (LiesQ W57 (Par w V0.heap.size [] P) h.y.kids _) := par_row' HL53.out hW57 (by have := Z0.out; omega) (by have := Z0.out; omega)
              have XL69 := Lib.hid (xlt_set XL54.out hW57)
              have HX70 := Lib.hid (blk_same HX55.out hW57)
              have HX71 := Lib.hid (blk_other HX56.out hW57 (by have := Z0.out; omega))
              clear hW57
              refine hK.out _ _ (fun h => Bool.noConfusion (show true = false from h)) (fun _ => ?_)
              clear hK K
              (try simp only [Act.put])
              refine takeX_any 16 17 hfreshr1_16 (v := ?_) (Or.inl ⟨by rfl, ?_⟩) ?_ (fun h => Bool.noConfusion (show true = false from h))
              rotate_left 1
              · ((intro w hSw; (try dsimp only at hSw); unfold hfreshr1_16; go_simp) <;> with_reducible rfl)
              (try simp only [Act.put, List.setIfInBounds_toArray, List.set_cons_zero, List.set_cons_succ])
              refine wpAnyX_ready (rs := [17]) (by kernel_rfl) (by simp) ?_
              refine AllReadyX.cons (o := hfreshr1_17) rfl (fun K hK => ?_) ?_
              · unfold hfreshr1_17
                refine step_store_part rfl 32 (.tmp 17) (.tmp 11) rfl (w.heap.size) 11 #[.int .i64 h.x.k, .int .i64 h.x.i, .int .i64 h.x.j, .int .i64 h.x.n, (.slice a30 h.x.kids.length c31)] rfl rfl 51 size_term (row_ok rfl) _ #[.int .i64 h.i, .int .i64 h.a.k, .int .i64 h.a.i, .int .i64 h.a.j, .int .i64 h.a.n, (.slice a14 h.a.kids.length c15), .int .i64 h.b.k, .int .i64 h.b.i, .int .i64 h.b.j, .int .i64 h.b.n, (.slice a22 h.b.kids.length c23), .int .i64 h.x.k, .int .i64 h.x.i, .int .i64 h.x.j, .int .i64 h.x.n, (.slice a30 h.x.kids.length c31), .int .i64 h.y.k, .int .i64 h.y.i, .int .i64 h.y.j, .int .i64 h.y.n, (.slice ahy h.y.kids.length chy), .int .i64 h.h.k, .int .i64 h.h.i, .int .i64 h.h.j, .int .i64 h.h.n, (.slice ahh h.h.kids.length chh)] HX70.out rfl (Nat.le_of_ble_eq_true rfl) ?_
                intro W72 hW72
                have KB73 := Lib.hid (kept_set KB58.out hW72 (by have := Z0.out; omega))
                have HN74 : Hid (V0.heap.size ≤ W72.heap.size) := by show _ ≤ _; rw [← hW72, setRow_size]; exact HN59.out
                have HL75 : Hid (LiesQ W72 (Par w V0.heap.size [] P) h.a.kids _) := par_row' HL60.out hW72 (by have := Z0.out; omega) (by have := Z0.out; omega)
                have HL76 : Hid (LiesQ W72 (Par w V0.heap.size [] P) h.b.kids _) := par_row' HL61.out hW72 (by have := Z0.out; omega) (by have := Z0.out; omega)
                have HL77 : Hid (LiesQ W72 (Par w V0.heap.size [] P) h.x.kids _) := par_row' HL62.out hW72 (by have := Z0.out; omega) (by have := Z0.out; omega)
                have HL78 : Hid (LiesQ W72 (Par w V0.heap.size [] P) h.y.kids _) := par_row' HL63.out hW72 (by have := Z0.out; omega) (by have := Z0.out; omega)
                have HL79 : Hid (LiesQ W72 (Par w V0.heap.size [] P) h.h.kids _) := par_row' HL64.out hW72 (by have := Z0.out; omega) (by have := Z0.out; omega)
                have HL80 : Hid (LiesQ W72 (Par w V0.heap.size [] P) h.a.kids _) := par_row' HL65.out hW72 (by have := Z0.out; omega) (by have := Z0.out; omega)
                have HL81 : Hid (LiesQ W72 (Par w V0.heap.size [] P) h.b.kids _) := par_row' HL66.out hW72 (by have := Z0.out; omega) (by have := Z0.out; omega)
                have HL82 : Hid (LiesQ W72 (Par w V0.heap.size [] P) h.x.kids _) := par_row' HL67.out hW72 (by have := Z0.out; omega) (by have := Z0.out; omega)
                have HL83 : Hid (LiesQ W72 (Par w V0.heap.size [] P) h.y.kids _) := par_row' HL68.out hW72 (by have := Z0.out; omega) (by have := Z0.out; omega)
                have XL84 := Lib.hid (xlt_set XL69.out hW72)
                have HX85 := Lib.hid (blk_same HX70.out hW72)
                have HX86 := Lib.hid (blk_other HX71.out hW72 (by have := Z0.out; omega))
                clear hW72
                refine hK.out _ _ (fun h => Bool.noConfusion (show true = false from h)) (fun _ => ?_)
                clear hK K
                (try simp only [Act.put])
                refine takeX_any 18 18 hfreshr1_18 (v := ?_) (Or.inl ⟨by rfl, ?_⟩) ?_ (fun h => Bool.noConfusion (show true = false from h))
                rotate_left 1
                · ((intro w hSw; (try dsimp only at hSw); unfold hfreshr1_18; go_simp) <;> with_reducible rfl)
                (try simp only [Act.put, List.setIfInBounds_toArray, List.set_cons_zero, List.set_cons_succ])
                refine wpAnyX_ready (rs := [19]) (by kernel_rfl) (by simp) ?_
                refine AllReadyX.cons (o := hfreshr1_19) rfl (fun K hK => ?_) ?_
                · unfold hfreshr1_19
                  refine step_store_part rfl 32 (.tmp 18) (.tmp 14) rfl (w.heap.size) 16 #[.int .i64 h.y.k, .int .i64 h.y.i, .int .i64 h.y.j, .int .i64 h.y.n, (.slice a38 h.y.kids.length c39)] rfl rfl 51 size_term (row_ok rfl) _ #[.int .i64 h.i, .int .i64 h.a.k, .int .i64 h.a.i, .int .i64 h.a.j, .int .i64 h.a.n, (.slice a14 h.a.kids.length c15), .int .i64 h.b.k, .int .i64 h.b.i, .int .i64 h.b.j, .int .i64 h.b.n, (.slice a22 h.b.kids.length c23), .int .i64 h.x.k, .int .i64 h.x.i, .int .i64 h.x.j, .int .i64 h.x.n, (.slice a30 h.x.kids.length c31), .int .i64 h.y.k, .int .i64 h.y.i, .int .i64 h.y.j, .int .i64 h.y.n, (.slice a38 h.y.kids.length c39), .int .i64 h.h.k, .int .i64 h.h.i, .int .i64 h.h.j, .int .i64 h.h.n, (.slice ahh h.h.kids.length chh)] HX85.out rfl (Nat.le_of_ble_eq_true rfl) ?_
                  intro W87 hW87
                  have KB88 := Lib.hid (kept_set KB73.out hW87 (by have := Z0.out; omega))
                  have HN89 : Hid (V0.heap.size ≤ W87.heap.size) := by show _ ≤ _; rw [← hW87, setRow_size]; exact HN74.out
                  have HL90 : Hid (LiesQ W87 (Par w V0.heap.size [] P) h.a.kids _) := par_row' HL75.out hW87 (by have := Z0.out; omega) (by have := Z0.out; omega)
                  have HL91 : Hid (LiesQ W87 (Par w V0.heap.size [] P) h.b.kids _) := par_row' HL76.out hW87 (by have := Z0.out; omega) (by have := Z0.out; omega)
                  have HL92 : Hid (LiesQ W87 (Par w V0.heap.size [] P) h.x.kids _) := par_row' HL77.out hW87 (by have := Z0.out; omega) (by have := Z0.out; omega)
                  have HL93 : Hid (LiesQ W87 (Par w V0.heap.size [] P) h.y.kids _) := par_row' HL78.out hW87 (by have := Z0.out; omega) (by have := Z0.out; omega)
                  have HL94 : Hid (LiesQ W87 (Par w V0.heap.size [] P) h.h.kids _) := par_row' HL79.out hW87 (by have := Z0.out; omega) (by have := Z0.out; omega)
                  have HL95 : Hid (LiesQ W87 (Par w V0.heap.size [] P) h.a.kids _) := par_row' HL80.out hW87 (by have := Z0.out; omega) (by have := Z0.out; omega)
                  have HL96 : Hid (LiesQ W87 (Par w V0.heap.size [] P) h.b.kids _) := par_row' HL81.out hW87 (by have := Z0.out; omega) (by have := Z0.out; omega)
                  have HL97 : Hid (LiesQ W87 (Par w V0.heap.size [] P) h.x.kids _) := par_row' HL82.out hW87 (by have := Z0.out; omega) (by have := Z0.out; omega)
                  have HL98 : Hid (LiesQ W87 (Par w V0.heap.size [] P) h.y.kids _) := par_row' HL83.out hW87 (by have := Z0.out; omega) (by have := Z0.out; omega)
                  have XL99 := Lib.hid (xlt_set XL84.out hW87)
                  have HX100 := Lib.hid (blk_same HX85.out hW87)
                  have HX101 := Lib.hid (blk_other HX86.out hW87 (by have := Z0.out; omega))
                  clear hW87
                  refine hK.out _ _ (fun h => Bool.noConfusion (show true = false from h)) (fun _ => ?_)
                  clear hK K
                  (try simp only [Act.put])
                  refine wpAnyX_done (by kernel_rfl) ?_ _
                  have kvW87 : Sees W87 (w.heap.size + 1) W87 := sees_kept _ (kept_refl _)
                  go_wp2_with (refine stop_load 51 (.tmp 1) rfl ?_)
                  intro _
                  refine wpList_load_part (w.heap.size) 0 51 (.tmp 1) #[.int .i64 h.i, .int .i64 h.a.k, .int .i64 h.a.i, .int .i64 h.a.j, .int .i64 h.a.n, (.slice a14 h.a.kids.length c15), .int .i64 h.b.k, .int .i64 h.b.i, .int .i64 h.b.j, .int .i64 h.b.n, (.slice a22 h.b.kids.length c23), .int .i64 h.x.k, .int .i64 h.x.i, .int .i64 h.x.j, .int .i64 h.x.n, (.slice a30 h.x.kids.length c31), .int .i64 h.y.k, .int .i64 h.y.i, .int .i64 h.y.j, .int .i64 h.y.n, (.slice a38 h.y.kids.length c39), .int .i64 h.h.k, .int .i64 h.h.i, .int .i64 h.h.j, .int .i64 h.h.n, (.slice ahh h.h.kids.length chh)] dh HX100.out (by rfl) rfl (by rfl) (by rfl) dh1 (by cases dh <;> first | rfl | exact dh2) (by kernel_rfl) ?_
                  go_wp2_with (refine stop_store 51 (.tmp 2) (.tmp 19) rfl ?_)
                  intro _
                  refine wpList_store_part_n (by rfl) 51 (.tmp 2) (.tmp 19) rfl (w.heap.size + 1) 0 #[.int .i64 h.i, .int .i64 h.a.k, .int .i64 h.a.i, .int .i64 h.a.j, .int .i64 h.a.n, (.slice a14 h.a.kids.length c15), .int .i64 h.b.k, .int .i64 h.b.i, .int .i64 h.b.j, .int .i64 h.b.n, (.slice a22 h.b.kids.length c23), .int .i64 h.x.k, .int .i64 h.x.i, .int .i64 h.x.j, .int .i64 h.x.n, (.slice a30 h.x.kids.length c31), .int .i64 h.y.k, .int .i64 h.y.i, .int .i64 h.y.j, .int .i64 h.y.n, (.slice a38 h.y.kids.length c39), .int .i64 h.h.k, .int .i64 h.h.i, .int .i64 h.h.j, .int .i64 h.h.n, (.slice ahh h.h.kids.length chh)] (by rfl) (by rfl) 51 (by kernel_rfl) (row_ok rfl) ?_
                  intro W102 hW102
                  clear kvW87
                  subst hW102
                  refine ⟨_, #[.int .i64 h.i, .int .i64 h.a.k, .int .i64 h.a.i, .int .i64 h.a.j, .int .i64 h.a.n, (.slice a14 h.a.kids.length c15), .int .i64 h.b.k, .int .i64 h.b.i, .int .i64 h.b.j, .int .i64 h.b.n, (.slice a22 h.b.kids.length c23), .int .i64 h.x.k, .int .i64 h.x.i, .int .i64 h.x.j, .int .i64 h.x.n, (.slice a30 h.x.kids.length c31), .int .i64 h.y.k, .int .i64 h.y.i, .int .i64 h.y.j, .int .i64 h.y.n, (.slice a38 h.y.kids.length c39), .int .i64 h.h.k, .int .i64 h.h.i, .int .i64 h.h.j, .int .i64 h.h.n, (.slice ahh h.h.kids.length chh)], HX101.out, rfl, Nat.le_of_ble_eq_true rfl, ?_⟩
                  intro W103 hW103
                  go_wp2_with fail
                  refine bodyPost_ret (results_cell_row rfl _ _ (w.heap.size + 1) 51 _ _ dh rfl (blk_same HX101.out hW103) dh1 (by cases dh <;> first | rfl | exact dh2) (by kernel_rfl)) rfl ?_
                  exact ⟨_, _, _, _, _, rfl, ⟨par_end (par_row' HL95.out hW103 (by omega) (by have := Z0.out; omega)) (by have := Z0.out; omega), par_end (par_row' HL96.out hW103 (by omega) (by have := Z0.out; omega)) (by have := Z0.out; omega), par_end (par_row' HL97.out hW103 (by omega) (by have := Z0.out; omega)) (by have := Z0.out; omega), par_end (par_row' HL98.out hW103 (by omega) (by have := Z0.out; omega)) (by have := Z0.out; omega), par_end (par_row' HL94.out hW103 (by omega) (by have := Z0.out; omega)) (by have := Z0.out; omega)⟩, kept_set KB88.out hW103 (by omega)⟩
                exact AllReadyX.nil
              exact AllReadyX.nil
            exact AllReadyX.nil
          exact AllReadyX.nil
        exact AllReadyX.nil
      exact AllReadyX.nil
    exact AllReadyX.nil
  exact AllReadyX.nil

end Go.Proofs.Ytkdceahmknhojaa

namespace Go.Proofs.Ytkdceahmknhojaa
open Go.RowKit

theorem var_fine {i : Int} (h : I64 i) : (varT i).fine := mk_fine (by unfold I64; decide) h (by unfold I64; decide) (by unfold I64; decide)
set_option maxRecDepth 20000 in
set_option maxHeartbeats 4000000 in
theorem rlevel_any (i : Int) (low : Int) (w : World) (hri : I64 i) (hrlow : I64 low) (h0 : 0 ≤ low) (h1 : low ≤ 1000) : Calls Try.prog 101 #[.int .i64 i, .int .i64 low] w fun e w' => e = .returned (.bool (levN low i)) ∧ Kept w w' := by
  have Ri := Lib.hid hri
  clear hri
  have Rlow := Lib.hid hrlow
  clear hrlow
  have ew : IntKind.i64.wrap (1000 - low) = 1000 - low := IntWalk.i64_in _ (by omega)
  clear h0 h1
  go_enter Try.func101, Try.ntmps101
  have kvw : Sees w w.heap.size w := sees_kept _ (kept_refl _)
  by_cases c1 : 0 ≤ i
  · have ec1 : decide (0 ≤ i) = true := decide_eq_true c1
    have Ec1 := Lib.hid ec1
    have Hc1 := Lib.hid c1
    clear c1
    by_cases c2 : i ≤ (1000 - low)
    · have ec2 : decide (i ≤ (1000 - low)) = true := decide_eq_true c2
      have Ec2 := Lib.hid ec2
      have Hc2 := Lib.hid c2
      clear c2
      go_wp2
      go_ret
      exact ⟨ret_bool (Eq.symm (show levN low i = true from by unfold levN; rw [Ec1.out, Ec2.out]; (try rfl))), (kept_refl _)⟩
    · have ec2 : decide (i ≤ (1000 - low)) = false := decide_eq_false c2
      have Ec2 := Lib.hid ec2
      have Hc2 := Lib.hid c2
      clear c2
      go_wp2
      go_ret
      exact ⟨ret_bool (Eq.symm (show levN low i = false from by unfold levN; rw [Ec1.out, Ec2.out]; (try rfl))), (kept_refl _)⟩
  · have ec1 : decide (0 ≤ i) = false := decide_eq_false c1
    have Ec1 := Lib.hid ec1
    have Hc1 := Lib.hid c1
    clear c1
    go_wp2
    go_ret
    exact ⟨ret_bool (Eq.symm (show levN low i = false from by unfold levN; rw [Ec1.out]; (try rfl))), (kept_refl _)⟩

set_option maxRecDepth 20000 in
set_option maxHeartbeats 4000000 in
theorem rplain_any (l : List Tm) (w : World) (s : Value) (hl : Lies w l s) : Calls Try.prog 102 #[s] w fun e w' => e = .returned (.bool (plainL l)) ∧ Kept w w' := by
  obtain ⟨a, cap, S, rfl, hc, hmx, -, hn, hk⟩ := hl.out
  unfold maxLen at hmx
  have HN := Lib.hid hn
  have HK := Lib.hid hk
  clear hn hk hl
  go_enter Try.func102, Try.ntmps102
  go_wp2
  go_loopw [3] (fun iv wr => ∃ k : Nat, k ≤ l.length ∧ iv = .int .i64 k ∧ Hid (∀ j (h : j < l.length), j < k → (l[j]).plainB = true) ∧ Kept w wr) (fun iv _ => l.length - (intOf iv).toNat)
  case atStart => exact ⟨0, Nat.zero_le _, rfl, fun j _ h => absurd h (by omega), kept_refl _⟩
  case round =>
    obtain ⟨k, hkl, rfl, hrel, hb⟩ := hrel
    by_cases hlt : k < l.length
    · obtain ⟨b, o, rfl, hx⟩ := HN.out k hlt
      obtain ⟨c0, c1, c2, c3, c4⟩ := hx.below hb hx.lt
      have hq := HK.out k hlt
      obtain ⟨a', cap', S', hS, -⟩ := hq.out
      rw [hS] at c4 hq
      have HQ := Lib.hid (hq.keep hb)
      have HB := Lib.hid hb
      clear hS hq hb
      go_wp2_with fail
      refine (refplain_any l[k] _ _ HQ.out).mono ?_
      clear c0 c1 c2 c3 c4
      cases hp : (l[k]).plainB with
      | false =>
        have HF : Hid (plainL l = false) := by
          show _ = _
          cases hh : plainL l with
          | false => rfl
          | true => rw [plainL_iff.1 hh _ (List.getElem_mem hlt)] at hp; cases hp
        rintro e w' ⟨rfl, hb'⟩
        have HB2 := Lib.hid (kept_trans HB.out hb')
        clear hb' hp
        go_wp2
        go_ret
        exact ⟨ret_bool (by rw [HF.out]), HB2.out⟩
      | true =>
        have HP := Lib.hid hp
        rintro e w' ⟨rfl, hb'⟩
        have HB2 := Lib.hid (kept_trans HB.out hb')
        clear hb' hp
        go_wp2
        go_roundw
        case rel =>
          refine ⟨k + 1, hlt, by go_num, fun j hj hjk => ?_, HB2.out⟩
          by_cases e : j = k
          · subst e; exact HP.out
          · exact hrel.out j hj (by omega)
        case measure => simp [intOf]; omega
    · obtain rfl : k = l.length := by omega
      have HF : Hid (plainL l = true) := by
        show _ = _
        exact plainL_iff.2 (fun x hx => by obtain ⟨j, hj, rfl⟩ := List.getElem_of_mem hx; exact hrel.out j hj hj)
      have HB := Lib.hid hb
      clear hb
      go_wp2
      go_ret
      exact ⟨ret_bool (by rw [HF.out]), HB.out⟩

set_option maxRecDepth 20000 in
set_option maxHeartbeats 4000000 in
theorem rRight_any (h : He) (P : Nat → Prop) (w : World) (sha : Value) (shb : Value) (shx : Value) (shy : Value) (shh : Value) (hfh : h.fine) (hlh : HQ w P h sha shb shx shy shh) : Calls Try.prog 51 #[hv h sha shb shx shy shh] w fun e w' => e = .returned (.bool (heR h)) ∧ Kept w w' := by
  have Gh := Lib.hid hfh
  clear hfh
  obtain ⟨hlha, hlhb, hlhx, hlhy, hlhh⟩ := hlh
  obtain ⟨aha, cha, Sha, rfl, -⟩ := hlha.out
  obtain ⟨ahb, chb, Shb, rfl, -⟩ := hlhb.out
  obtain ⟨ahx, chx, Shx, rfl, -⟩ := hlhx.out
  obtain ⟨ahy, chy, Shy, rfl, -⟩ := hlhy.out
  obtain ⟨ahh, chh, Shh, rfl, -⟩ := hlhh.out
  obtain ⟨du, hu1, hu2⟩ := under_term
  obtain ⟨dr, dr1, dr2⟩ := under_of 45 (by kernel_rfl)
  unfold hv
  go_enter Try.func51, Try.ntmps51
  go_upto_region 1 with fail
  refine at_code (fun V0 hV0 => ?_)
  obtain ⟨k2, x1, z3⟩ := alloc1 hV0
  have Kk4 := Lib.hid k2
  clear k2
  have Hx1 := Lib.hid x1
  have Z0 := Lib.hid z3
  clear z3 x1 hV0
  have HLha : Hid (LiesQ V0 (Par w V0.heap.size [] P) h.a.kids _) := (par_in _ _ hlha).later Kk4.out
  clear hlha
  have HLhb : Hid (LiesQ V0 (Par w V0.heap.size [] P) h.b.kids _) := (par_in _ _ hlhb).later Kk4.out
  clear hlhb
  have HLhx : Hid (LiesQ V0 (Par w V0.heap.size [] P) h.x.kids _) := (par_in _ _ hlhx).later Kk4.out
  clear hlhx
  have HLhy : Hid (LiesQ V0 (Par w V0.heap.size [] P) h.y.kids _) := (par_in _ _ hlhy).later Kk4.out
  clear hlhy
  have HLhh : Hid (LiesQ V0 (Par w V0.heap.size [] P) h.h.kids _) := (par_in _ _ hlhh).later Kk4.out
  clear hlhh
  have ld5 := part_cell (r := V0.heap.size) Hx1.out (by have := Z0.out; omega) 0 (.int .i64 h.i) rfl
  have kvV0 : Sees V0 V0.heap.size V0 := sees_kept _ (kept_refl _)
  go_wp2_with fail
  clear kvV0
  refine (rlevel_any h.i 2 _ Gh.out.1 (show I64 2 from by unfold I64; decide) (by decide) (by decide)).mono ?_
  obtain ⟨rb9, hb8⟩ : ∃ qb, levN 2 h.i = qb := ⟨_, rfl⟩
  rw [hb8]
  have Hhb8 := Lib.hid hb8
  clear hb8
  rintro e w6 ⟨rfl, k7⟩
  have Kk10 := Lib.hid k7
  clear k7
  cases rb9 with
  | false =>
    have kvV0 : Sees V0 V0.heap.size w6 := sees_kept _ Kk10.out
    go_wp2
    go_ret
    exact ⟨ret_bool (Eq.symm (show heR h = false from by unfold heR heR2; rw [Hhb8.out]; (try rfl))), (kept_trans Kk4.out Kk10.out)⟩
  | true =>
    have ew11 : IntKind.i64.wrap (h.i + 1) = h.i + 1 := IntWalk.i64_in _ (by have := levN_true ( Hhb8.out); omega)
    have kvV0 : Sees V0 V0.heap.size w6 := sees_kept _ Kk10.out
    go_wp2_with (refine stop_load 32 (.tmp 7) rfl ?_)
    intro _
    refine wpList_load_part (w.heap.size) 1 32 (.tmp 7) #[.int .i64 h.a.k, .int .i64 h.a.i, .int .i64 h.a.j, .int .i64 h.a.n, (.slice aha h.a.kids.length cha)] du (blk_at Hx1.out Kk10.out) (by rfl) rfl (by rfl) (by rfl) hu1 (by cases du <;> first | rfl | exact hu2) size_term ?_
    go_wp2_with (refine stop_load 32 (.tmp 9) rfl ?_)
    intro _
    refine wpList_load_part (w.heap.size) 6 32 (.tmp 9) #[.int .i64 h.b.k, .int .i64 h.b.i, .int .i64 h.b.j, .int .i64 h.b.n, (.slice ahb h.b.kids.length chb)] du (blk_at Hx1.out Kk10.out) (by rfl) rfl (by rfl) (by rfl) hu1 (by cases du <;> first | rfl | exact hu2) size_term ?_
    go_wp2_with (refine stop_load 32 (.tmp 11) rfl ?_)
    intro _
    refine wpList_load_part (w.heap.size) 11 32 (.tmp 11) #[.int .i64 h.x.k, .int .i64 h.x.i, .int .i64 h.x.j, .int .i64 h.x.n, (.slice ahx h.x.kids.length chx)] du (blk_at Hx1.out Kk10.out) (by rfl) rfl (by rfl) (by rfl) hu1 (by cases du <;> first | rfl | exact hu2) size_term ?_
    go_wp2_with (refine stop_load 32 (.tmp 13) rfl ?_)
    intro _
    refine wpList_load_part (w.heap.size) 16 32 (.tmp 13) #[.int .i64 h.y.k, .int .i64 h.y.i, .int .i64 h.y.j, .int .i64 h.y.n, (.slice ahy h.y.kids.length chy)] du (blk_at Hx1.out Kk10.out) (by rfl) rfl (by rfl) (by rfl) hu1 (by cases du <;> first | rfl | exact hu2) size_term ?_
    go_wp2_with (refine stop_load 32 (.tmp 15) rfl ?_)
    intro _
    refine wpList_load_part (w.heap.size) 21 32 (.tmp 15) #[.int .i64 h.h.k, .int .i64 h.h.i, .int .i64 h.h.j, .int .i64 h.h.n, (.slice ahh h.h.kids.length chh)] du (blk_at Hx1.out Kk10.out) (by rfl) rfl (by rfl) (by rfl) hu1 (by cases du <;> first | rfl | exact hu2) size_term ?_
    go_wp2_with fail
    refine at_world (fun W13 hW13 => ?_)
    clear kvV0
    obtain ⟨k15, x14, z16⟩ := alloc1 hW13
    have Kk17 := Lib.hid k15
    clear k15
    have Hx14 := Lib.hid x14
    have Hz16 := Lib.hid z16
    clear x14 z16 hW13
    have HR18 : Hid (LiesQ W13 (Par w V0.heap.size [] P) [h.a, h.b, h.x, h.y, h.h] (.slice (some ⟨w6.heap.size, 0, none⟩) 5 5)) := q_row [(h.a, (.slice aha h.a.kids.length cha)), (h.b, (.slice ahb h.b.kids.length chb)), (h.x, (.slice ahx h.x.kids.length chx)), (h.y, (.slice ahy h.y.kids.length chy)), (h.h, (.slice ahh h.h.kids.length chh))] _ rfl Hx14.out (par_new (Below.size Kk10.out) (xlt_nil _) (Nat.le_refl _)) (fun p hp => by
      simp only [List.mem_cons, List.not_mem_nil, or_false] at hp
      rcases hp with rfl | rfl | rfl | rfl | rfl
      · exact ⟨Gh.out.2.1, (HLha.out.later (kept_trans Kk10.out Kk17.out))⟩
      · exact ⟨Gh.out.2.2.1, (HLhb.out.later (kept_trans Kk10.out Kk17.out))⟩
      · exact ⟨Gh.out.2.2.2.1, (HLhx.out.later (kept_trans Kk10.out Kk17.out))⟩
      · exact ⟨Gh.out.2.2.2.2.1, (HLhy.out.later (kept_trans Kk10.out Kk17.out))⟩
      · exact ⟨Gh.out.2.2.2.2.2, (HLhh.out.later (kept_trans Kk10.out Kk17.out))⟩) (Nat.le_of_ble_eq_true rfl)
    refine (rplain_any [h.a, h.b, h.x, h.y, h.h] _ _ HR18.out.lies).mono ?_
    obtain ⟨rb22, hb21⟩ : ∃ qb, plainL [h.a, h.b, h.x, h.y, h.h] = qb := ⟨_, rfl⟩
    rw [hb21]
    have Hhb21 := Lib.hid hb21
    clear hb21
    rintro e w19 ⟨rfl, k20⟩
    have Kk23 := Lib.hid k20
    clear k20
    cases rb22 with
    | false =>
      have kvV0 : Sees V0 V0.heap.size w19 := sees_kept _ (kept_trans Kk10.out (kept_trans Kk17.out Kk23.out))
      go_wp2
      go_ret
      exact ⟨ret_bool (Eq.symm (show heR h = false from by unfold heR heR2; rw [Hhb8.out, Hhb21.out]; (try rfl))), (kept_trans Kk4.out (kept_trans Kk10.out (kept_trans Kk17.out Kk23.out)))⟩
    | true =>
      have kvV0 : Sees V0 V0.heap.size w19 := sees_kept _ (kept_trans Kk10.out (kept_trans Kk17.out Kk23.out))
      go_wp2
      go_ret
      exact ⟨ret_bool (Eq.symm (show heR h = true from by unfold heR heR2; rw [Hhb8.out, Hhb21.out]; (try rfl))), (kept_trans Kk4.out (kept_trans Kk10.out (kept_trans Kk17.out Kk23.out)))⟩

end Go.Proofs.Ytkdceahmknhojaa

namespace Go.Proofs.Ytkdceahmknhojaa
open Go.RowKit

/-- A test that may be true; what it says if it is not. -/
def GivesG (p : Prop) (w : World) (e : Ending) (w' : World) : Prop := ∃ g : Bool, e = .returned (.bool g) ∧ (g = false → p) ∧ Kept w w'

set_option maxHeartbeats 1000000 in
theorem greatsM_any (l : List Tm) (M : Nat) (hM : M ≤ 10000) (w : World) (ls : Value) (hl : Lies w l ls) :
    Calls Try.prog 53 #[ls, .int .i64 (M : Int)] w (GivesG (l.length ≤ M ∧ ∀ u ∈ l, u.deep ≤ 100000) w) := by
  obtain ⟨a, cap, S, rfl, hc, hm, -, hn, hk⟩ := hl.out
  unfold maxLen at hm
  have HN := Lib.hid hn
  have HK := Lib.hid hk
  clear hl hn hk
  go_enter Try.func53, Try.ntmps53
  by_cases hlen : M < l.length
  · have e1 : decide ((M : Int) < (l.length : Int)) = true := decide_eq_true (by omega)
    have e2 : decide (M < l.length) = true := decide_eq_true hlen
    go_wp2
    go_ret
    exact ⟨true, rfl, (fun h => by cases h), Below.refl _ _⟩
  have e1 : decide ((M : Int) < (l.length : Int)) = false := decide_eq_false (by omega)
  have e2 : decide (M < l.length) = false := decide_eq_false hlen
  go_wp2
  go_loopw [5, 6] (fun nv iv wr => ∃ (k : Nat) (n : Int), k ≤ l.length ∧ iv = .int .i64 k ∧ nv = .int .i64 n ∧ 0 ≤ n ∧ n ≤ (M : Int) + 1 ∧ Hid (n ≤ (M : Int) → ∀ j (h : j < l.length), j < k → (l[j]).deep ≤ 201) ∧ Kept w wr) (fun _ i _ => l.length - (intOf i).toNat)
  case atStart => exact ⟨0, 0, Nat.zero_le _, rfl, rfl, by omega, by omega, fun _ j _ h => by omega, kept_start _⟩
  case round =>
    obtain ⟨k, n, hk, rfl, rfl, hn1, hn2, hrel, hb⟩ := hrel
    by_cases hlt : k < l.length
    · by_cases hnm : n ≤ (M : Int)
      · obtain ⟨b, o, rfl, hx⟩ := HN.out k hlt
        obtain ⟨c0, c1, c2, c3, c4⟩ := hx.below hb hx.lt
        have hq := HK.out k hlt
        obtain ⟨a', cap', S', hS, -⟩ := hq.out
        rw [hS] at c4 hq
        have HQ := Lib.hid (hq.keep hb)
        clear hS hq
        go_wp2_with fail
        refine (weigh_any l[k] _ _ _ _ HQ.out (by omega) (by omega) (by omega) (by omega)).mono ?_
        rintro e w' ⟨r, rfl, hr1, hr2, hr3, hb'⟩
        have HR3 := Lib.hid hr3
        have HB' := kept_call hb hb'
        clear hb' hb hr3 c0 c1 c2 c3 c4
        go_wp2
        go_roundw
        case rel =>
          refine ⟨k + 1, n + r, by omega, by go_num, rfl, by omega, by omega, ?_, HB'⟩
          intro hle j hj hjk
          by_cases e : j = k
          · subst e
            obtain ⟨-, e4⟩ := HR3.out (by omega)
            omega
          · exact hrel.out hnm j hj (by omega)
        case measure => simp [intOf]; omega
      · go_wp2
        go_ret
        exact ⟨_, rfl, fun h => absurd h (by simp <;> omega), hb⟩
    · have : k = l.length := by omega
      subst this
      go_wp2
      all_goals go_ret
      all_goals
        refine ⟨_, rfl, fun h => ⟨by omega, fun u hu => ?_⟩, hb⟩
        have hle : n ≤ (M : Int) := by simpa using h
        obtain ⟨j, hj, rfl⟩ := List.getElem_of_mem hu
        have := hrel.out hle j hj hj
        omega
end Go.Proofs.Ytkdceahmknhojaa

namespace Go.Proofs.Ytkdceahmknhojaa
open Go.RowKit

theorem keepsame_eq2 {t u : Tm} (h : t = u) (w : World) (s r : Value) (hl : Lies w t.kids s) (hm : Lies w u.kids r) : Calls Try.prog 25 #[tv t s, tv u r] w fun e w' => e = .returned (.bool true) ∧ Below w.heap.size w w' := by
  subst h; exact keepsame_eq t w s r hl hm
theorem heZero_fine : He.zero.fine := ⟨by unfold He.zero I64; decide, zero_fine, zero_fine, zero_fine, zero_fine, zero_fine⟩
theorem heTurn_fine {h : He} (hf : h.fine) : (heTurn h).fine := by
  unfold heTurn
  by_cases H : heR h = true
  · rw [if_pos H]
    exact ⟨hf.1, hf.2.2.1, hf.2.1, hf.2.2.2.2.1, hf.2.2.2.1, use_fine (by unfold I64; decide) (lev_succ (heR_lev H) (by decide)) (by unfold I64; decide)⟩
  · rw [if_neg H]; exact heZero_fine

set_option maxRecDepth 20000 in
set_option maxHeartbeats 4000000 in
theorem lv_any (i : Int) (P : Nat → Prop) (w : World) (hri : I64 i) : Calls Try.prog 110 #[.int .i64 i] w (GivesP P (varT i) w) := by
  have Ri := Lib.hid hri
  clear hri
  obtain ⟨du, hu1, hu2⟩ := under_term
  go_enter Try.func110, Try.ntmps110
  go_upto_region 1 with fail
  refine at_code (fun V0 hV0 => ?_)
  obtain ⟨k2, x1, z3⟩ := alloc1 hV0
  have Kk4 := Lib.hid k2
  clear k2
  have Hx1 := Lib.hid x1
  have Z0 := Lib.hid z3
  clear z3 x1 hV0
  have kvV0 : Sees V0 (w.heap.size) V0 := sees_kept _ (kept_refl _)
  go_wp2_with (refine stop_store 32 (.tmp 2) (.tmp 4) rfl ?_)
  intro _
  refine wpList_store_part_n (by rfl) 32 (.tmp 2) (.tmp 4) rfl (w.heap.size) 0 #[.int .i64 2, .int .i64 i, .int .i64 0, .int .i64 0, .slice none 0 0] (by rfl) (by rfl) 32 size_term (row_ok rfl) ?_
  intro W5 hW5
  clear kvV0
  subst hW5
  refine ⟨_, #[.int .i64 2, .int .i64 i, .int .i64 0, .int .i64 0, .slice none 0 0], Hx1.out, rfl, Nat.le_of_ble_eq_true rfl, ?_⟩
  intro W6 hW6
  go_wp2_with fail
  refine bodyPost_ret (results_cell_row rfl _ _ (w.heap.size) 32 _ _ du rfl (blk_same Hx1.out hW6) hu1 (by cases du <;> first | rfl | exact hu2) size_term) rfl ?_
  exact ⟨_, rfl, par_end (par_row' (liesQ_nil V0 (Par w V0.heap.size [] P)) hW6 (by omega) (by have := Z0.out; omega)) (by have := Z0.out; omega), kept_set Kk4.out hW6 (by omega)⟩

set_option maxRecDepth 20000 in
set_option maxHeartbeats 4000000 in
theorem lours_any (h : He) (P : Nat → Prop) (w : World) (sha : Value) (shb : Value) (shx : Value) (shy : Value) (shh : Value) (hfh : h.fine) (hlh : HQ w P h sha shb shx shy shh) : Calls Try.prog 33 #[hv h sha shb shx shy shh] w (GivesHP P h w) := by
  have Gh := Lib.hid hfh
  clear hfh
  obtain ⟨hlha, hlhb, hlhx, hlhy, hlhh⟩ := hlh
  obtain ⟨aha, cha, Sha, rfl, -⟩ := hlha.out
  obtain ⟨ahb, chb, Shb, rfl, -⟩ := hlhb.out
  obtain ⟨ahx, chx, Shx, rfl, -⟩ := hlhx.out
  obtain ⟨ahy, chy, Shy, rfl, -⟩ := hlhy.out
  obtain ⟨ahh, chh, Shh, rfl, -⟩ := hlhh.out
  obtain ⟨du, hu1, hu2⟩ := under_term
  obtain ⟨dh, dh1, dh2⟩ := under_of 51 (by kernel_rfl)
  obtain ⟨dr, dr1, dr2⟩ := under_of 45 (by kernel_rfl)
  unfold hv
  go_enter Try.func33, Try.ntmps33
  go_upto_region 1 with fail
  refine at_code (fun V0 hV0 => ?_)
  obtain ⟨k3, x1, x2, z4⟩ := alloc2 hV0
  have Kk5 := Lib.hid k3
  clear k3
  have Hx1 := Lib.hid x1
  have Hx2 := Lib.hid x2
  have Z0 := Lib.hid z4
  clear z4 x1 x2 hV0
  have HLha : Hid (LiesQ V0 (Par w V0.heap.size [] P) h.a.kids _) := (par_in _ _ hlha).later Kk5.out
  clear hlha
  have HLhb : Hid (LiesQ V0 (Par w V0.heap.size [] P) h.b.kids _) := (par_in _ _ hlhb).later Kk5.out
  clear hlhb
  have HLhx : Hid (LiesQ V0 (Par w V0.heap.size [] P) h.x.kids _) := (par_in _ _ hlhx).later Kk5.out
  clear hlhx
  have HLhy : Hid (LiesQ V0 (Par w V0.heap.size [] P) h.y.kids _) := (par_in _ _ hlhy).later Kk5.out
  clear hlhy
  have HLhh : Hid (LiesQ V0 (Par w V0.heap.size [] P) h.h.kids _) := (par_in _ _ hlhh).later Kk5.out
  clear hlhh
  have ld6 := part_cell (r := (w.heap.size + 1)) Hx1.out (by have := Z0.out; omega) 0 (.int .i64 h.i) rfl
  have kvV0 : Sees V0 (w.heap.size + 1) V0 := sees_kept _ (kept_refl _)
  go_wp2_with (refine stop_load 32 (.tmp 5) rfl ?_)
  intro _
  refine wpList_load_part (w.heap.size) 1 32 (.tmp 5) #[.int .i64 h.a.k, .int .i64 h.a.i, .int .i64 h.a.j, .int .i64 h.a.n, (.slice aha h.a.kids.length cha)] du Hx1.out (by rfl) rfl (by rfl) (by rfl) hu1 (by cases du <;> first | rfl | exact hu2) size_term ?_
  go_wp2_with (refine stop_load 32 (.tmp 7) rfl ?_)
  intro _
  refine wpList_load_part (w.heap.size) 6 32 (.tmp 7) #[.int .i64 h.b.k, .int .i64 h.b.i, .int .i64 h.b.j, .int .i64 h.b.n, (.slice ahb h.b.kids.length chb)] du Hx1.out (by rfl) rfl (by rfl) (by rfl) hu1 (by cases du <;> first | rfl | exact hu2) size_term ?_
  go_wp2_with (refine stop_load 32 (.tmp 9) rfl ?_)
  intro _
  refine wpList_load_part (w.heap.size) 11 32 (.tmp 9) #[.int .i64 h.x.k, .int .i64 h.x.i, .int .i64 h.x.j, .int .i64 h.x.n, (.slice ahx h.x.kids.length chx)] du Hx1.out (by rfl) rfl (by rfl) (by rfl) hu1 (by cases du <;> first | rfl | exact hu2) size_term ?_
  go_wp2_with (refine stop_load 32 (.tmp 11) rfl ?_)
  intro _
  refine wpList_load_part (w.heap.size) 16 32 (.tmp 11) #[.int .i64 h.y.k, .int .i64 h.y.i, .int .i64 h.y.j, .int .i64 h.y.n, (.slice ahy h.y.kids.length chy)] du Hx1.out (by rfl) rfl (by rfl) (by rfl) hu1 (by cases du <;> first | rfl | exact hu2) size_term ?_
  go_wp2_with (refine stop_load 32 (.tmp 13) rfl ?_)
  intro _
  refine wpList_load_part (w.heap.size) 21 32 (.tmp 13) #[.int .i64 h.h.k, .int .i64 h.h.i, .int .i64 h.h.j, .int .i64 h.h.n, (.slice ahh h.h.kids.length chh)] du Hx1.out (by rfl) rfl (by rfl) (by rfl) hu1 (by cases du <;> first | rfl | exact hu2) size_term ?_
  go_wp2_with (refine stop_store 51 (.tmp 2) (.tmp 15) rfl ?_)
  intro _
  refine wpList_store_part_n (by rfl) 51 (.tmp 2) (.tmp 15) rfl (w.heap.size + 1) 0 #[.int .i64 h.i, .int .i64 h.a.k, .int .i64 h.a.i, .int .i64 h.a.j, .int .i64 h.a.n, (.slice aha h.a.kids.length cha), .int .i64 h.b.k, .int .i64 h.b.i, .int .i64 h.b.j, .int .i64 h.b.n, (.slice ahb h.b.kids.length chb), .int .i64 h.x.k, .int .i64 h.x.i, .int .i64 h.x.j, .int .i64 h.x.n, (.slice ahx h.x.kids.length chx), .int .i64 h.y.k, .int .i64 h.y.i, .int .i64 h.y.j, .int .i64 h.y.n, (.slice ahy h.y.kids.length chy), .int .i64 h.h.k, .int .i64 h.h.i, .int .i64 h.h.j, .int .i64 h.h.n, (.slice ahh h.h.kids.length chh)] (by rfl) (by rfl) 51 (by kernel_rfl) (row_ok rfl) ?_
  intro W7 hW7
  clear kvV0
  subst hW7
  refine ⟨_, #[.int .i64 h.i, .int .i64 h.a.k, .int .i64 h.a.i, .int .i64 h.a.j, .int .i64 h.a.n, (.slice aha h.a.kids.length cha), .int .i64 h.b.k, .int .i64 h.b.i, .int .i64 h.b.j, .int .i64 h.b.n, (.slice ahb h.b.kids.length chb), .int .i64 h.x.k, .int .i64 h.x.i, .int .i64 h.x.j, .int .i64 h.x.n, (.slice ahx h.x.kids.length chx), .int .i64 h.y.k, .int .i64 h.y.i, .int .i64 h.y.j, .int .i64 h.y.n, (.slice ahy h.y.kids.length chy), .int .i64 h.h.k, .int .i64 h.h.i, .int .i64 h.h.j, .int .i64 h.h.n, (.slice ahh h.h.kids.length chh)], Hx2.out, rfl, Nat.le_of_ble_eq_true rfl, ?_⟩
  intro W8 hW8
  go_wp2_with fail
  refine bodyPost_ret (results_cell_row rfl _ _ (w.heap.size + 1) 51 _ _ dh rfl (blk_same Hx2.out hW8) dh1 (by cases dh <;> first | rfl | exact dh2) (by kernel_rfl)) rfl ?_
  exact ⟨_, _, _, _, _, rfl, ⟨par_end (par_row' HLha.out hW8 (by omega) (by have := Z0.out; omega)) (by have := Z0.out; omega), par_end (par_row' HLhb.out hW8 (by omega) (by have := Z0.out; omega)) (by have := Z0.out; omega), par_end (par_row' HLhx.out hW8 (by omega) (by have := Z0.out; omega)) (by have := Z0.out; omega), par_end (par_row' HLhy.out hW8 (by omega) (by have := Z0.out; omega)) (by have := Z0.out; omega), par_end (par_row' HLhh.out hW8 (by omega) (by have := Z0.out; omega)) (by have := Z0.out; omega)⟩, kept_set Kk5.out hW8 (by omega)⟩

set_option maxRecDepth 20000 in
set_option maxHeartbeats 4000000 in
theorem lheavy_any (h : He) (P : Nat → Prop) (w : World) (sha : Value) (shb : Value) (shx : Value) (shy : Value) (shh : Value) (hfh : h.fine) (hlh : HQ w P h sha shb shx shy shh) : Calls Try.prog 27 #[hv h sha shb shx shy shh] w (GivesG (∀ t ∈ [h.a, h.b, h.x, h.y, h.h], t.deep ≤ 100000) w) := by
  have Gh := Lib.hid hfh
  clear hfh
  obtain ⟨hlha, hlhb, hlhx, hlhy, hlhh⟩ := hlh
  obtain ⟨aha, cha, Sha, rfl, -⟩ := hlha.out
  obtain ⟨ahb, chb, Shb, rfl, -⟩ := hlhb.out
  obtain ⟨ahx, chx, Shx, rfl, -⟩ := hlhx.out
  obtain ⟨ahy, chy, Shy, rfl, -⟩ := hlhy.out
  obtain ⟨ahh, chh, Shh, rfl, -⟩ := hlhh.out
  obtain ⟨du, hu1, hu2⟩ := under_term
  obtain ⟨dr, dr1, dr2⟩ := under_of 45 (by kernel_rfl)
  unfold hv
  go_enter Try.func27, Try.ntmps27
  go_upto_region 1 with fail
  refine at_code (fun V0 hV0 => ?_)
  obtain ⟨k2, x1, z3⟩ := alloc1 hV0
  have Kk4 := Lib.hid k2
  clear k2
  have Hx1 := Lib.hid x1
  have Z0 := Lib.hid z3
  clear z3 x1 hV0
  have HLha : Hid (LiesQ V0 (Par w V0.heap.size [] P) h.a.kids _) := (par_in _ _ hlha).later Kk4.out
  clear hlha
  have HLhb : Hid (LiesQ V0 (Par w V0.heap.size [] P) h.b.kids _) := (par_in _ _ hlhb).later Kk4.out
  clear hlhb
  have HLhx : Hid (LiesQ V0 (Par w V0.heap.size [] P) h.x.kids _) := (par_in _ _ hlhx).later Kk4.out
  clear hlhx
  have HLhy : Hid (LiesQ V0 (Par w V0.heap.size [] P) h.y.kids _) := (par_in _ _ hlhy).later Kk4.out
  clear hlhy
  have HLhh : Hid (LiesQ V0 (Par w V0.heap.size [] P) h.h.kids _) := (par_in _ _ hlhh).later Kk4.out
  clear hlhh
  have kvV0 : Sees V0 V0.heap.size V0 := sees_kept _ (kept_refl _)
  go_wp2_with (refine stop_load 32 (.tmp 3) rfl ?_)
  intro _
  refine wpList_load_part (w.heap.size) 1 32 (.tmp 3) #[.int .i64 h.a.k, .int .i64 h.a.i, .int .i64 h.a.j, .int .i64 h.a.n, (.slice aha h.a.kids.length cha)] du Hx1.out (by rfl) rfl (by rfl) (by rfl) hu1 (by cases du <;> first | rfl | exact hu2) size_term ?_
  go_wp2_with (refine stop_load 32 (.tmp 5) rfl ?_)
  intro _
  refine wpList_load_part (w.heap.size) 6 32 (.tmp 5) #[.int .i64 h.b.k, .int .i64 h.b.i, .int .i64 h.b.j, .int .i64 h.b.n, (.slice ahb h.b.kids.length chb)] du Hx1.out (by rfl) rfl (by rfl) (by rfl) hu1 (by cases du <;> first | rfl | exact hu2) size_term ?_
  go_wp2_with (refine stop_load 32 (.tmp 7) rfl ?_)
  intro _
  refine wpList_load_part (w.heap.size) 11 32 (.tmp 7) #[.int .i64 h.x.k, .int .i64 h.x.i, .int .i64 h.x.j, .int .i64 h.x.n, (.slice ahx h.x.kids.length chx)] du Hx1.out (by rfl) rfl (by rfl) (by rfl) hu1 (by cases du <;> first | rfl | exact hu2) size_term ?_
  go_wp2_with (refine stop_load 32 (.tmp 9) rfl ?_)
  intro _
  refine wpList_load_part (w.heap.size) 16 32 (.tmp 9) #[.int .i64 h.y.k, .int .i64 h.y.i, .int .i64 h.y.j, .int .i64 h.y.n, (.slice ahy h.y.kids.length chy)] du Hx1.out (by rfl) rfl (by rfl) (by rfl) hu1 (by cases du <;> first | rfl | exact hu2) size_term ?_
  go_wp2_with (refine stop_load 32 (.tmp 11) rfl ?_)
  intro _
  refine wpList_load_part (w.heap.size) 21 32 (.tmp 11) #[.int .i64 h.h.k, .int .i64 h.h.i, .int .i64 h.h.j, .int .i64 h.h.n, (.slice ahh h.h.kids.length chh)] du Hx1.out (by rfl) rfl (by rfl) (by rfl) hu1 (by cases du <;> first | rfl | exact hu2) size_term ?_
  go_wp2_with fail
  refine at_world (fun W6 hW6 => ?_)
  clear kvV0
  obtain ⟨k8, x7, z9⟩ := alloc1 hW6
  have Kk10 := Lib.hid k8
  clear k8
  have Hx7 := Lib.hid x7
  have Hz9 := Lib.hid z9
  clear x7 z9 hW6
  have HR11 : Hid (LiesQ W6 (Par w V0.heap.size [] P) [h.a, h.b, h.x, h.y, h.h] (.slice (some ⟨V0.heap.size, 0, none⟩) 5 5)) := q_row [(h.a, (.slice aha h.a.kids.length cha)), (h.b, (.slice ahb h.b.kids.length chb)), (h.x, (.slice ahx h.x.kids.length chx)), (h.y, (.slice ahy h.y.kids.length chy)), (h.h, (.slice ahh h.h.kids.length chh))] _ rfl Hx7.out (par_new (Nat.le_refl _) (xlt_nil _) (Nat.le_refl _)) (fun p hp => by
    simp only [List.mem_cons, List.not_mem_nil, or_false] at hp
    rcases hp with rfl | rfl | rfl | rfl | rfl
    · exact ⟨Gh.out.2.1, (HLha.out.later Kk10.out)⟩
    · exact ⟨Gh.out.2.2.1, (HLhb.out.later Kk10.out)⟩
    · exact ⟨Gh.out.2.2.2.1, (HLhx.out.later Kk10.out)⟩
    · exact ⟨Gh.out.2.2.2.2.1, (HLhy.out.later Kk10.out)⟩
    · exact ⟨Gh.out.2.2.2.2.2, (HLhh.out.later Kk10.out)⟩) (Nat.le_of_ble_eq_true rfl)
  refine (greatsM_any [h.a, h.b, h.x, h.y, h.h] 120 (by decide) _ _ HR11.out.lies).mono ?_
  rintro e w12 ⟨gb14, rfl, hg15, k13⟩
  have Hhg15 := Lib.hid hg15
  clear hg15
  have Kk16 := Lib.hid k13
  clear k13
  cases gb14 with
  | false =>
    have HIhg15 := Lib.hid (Hhg15.out rfl)
    have kvV0 : Sees V0 V0.heap.size w12 := sees_kept _ (kept_trans Kk10.out Kk16.out)
    go_wp2
    go_ret
    exact ⟨false, rfl, (fun h => HIhg15.out.2), (kept_trans Kk4.out (kept_trans Kk10.out Kk16.out))⟩
  | true =>
    have kvV0 : Sees V0 V0.heap.size w12 := sees_kept _ (kept_trans Kk10.out Kk16.out)
    go_wp2
    go_ret
    exact ⟨true, rfl, (fun h => Bool.noConfusion h), (kept_trans Kk4.out (kept_trans Kk10.out Kk16.out))⟩

end Go.Proofs.Ytkdceahmknhojaa
