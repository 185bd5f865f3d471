/-
  Texts in one: EntR, EntA, EntT.
-/
import Derived.Test.YtjhdcjjoignioaaPcA
import Derived.Test.YtjhdcjjoignioaaRefMore
import Derived.Test.YtjhdcjjoignioaaLift
import Derived.Test.YtjhdcjjoignioaaRefLiftT
import Derived.Test.YtjhdcjjoignioaaTwin
import Derived.Deep.AppendLies
/-! ctx.Right, the page's RightCtx, transhipkeep.GreatCtx. -/
namespace Go.Proofs.Ytjhdcjjoignioaa
open Go.RowKit

def lvB (n : Int) : Bool := decide (0 ≤ n) && decide (n ≤ 1000)
theorem level11_any (n : Int) (w : World) : Calls Try.prog 43 #[.int .i64 n] w fun e w' => e = .returned (.bool (lvB n)) ∧ w = w' := by
  by_cases h0 : 0 ≤ n
  · have e0 : decide (0 ≤ n) = true := decide_eq_true h0
    by_cases h1 : n ≤ 1000
    · have e1 : decide (n ≤ 1000) = true := decide_eq_true h1
      go_enter Try.func43, Try.ntmps43
      go_wp2
      go_ret
      exact ⟨ret_bool (by unfold lvB; rw [e0, e1]; rfl), rfl⟩
    · have e1 : decide (n ≤ 1000) = false := decide_eq_false h1
      go_enter Try.func43, Try.ntmps43
      go_wp2
      go_ret
      exact ⟨ret_bool (by unfold lvB; rw [e0, e1]; rfl), rfl⟩
  · have e0 : decide (0 ≤ n) = false := decide_eq_false h0
    go_enter Try.func43, Try.ntmps43
    go_wp2
    go_ret
    exact ⟨ret_bool (by unfold lvB; rw [e0]; rfl), rfl⟩

set_option maxRecDepth 20000 in
set_option maxHeartbeats 2000000 in
theorem ctxright_any (l : List En) (w : World) (s : Value) (hl : LiesE w l s) : Calls Try.prog 11 #[s] w fun e w' => e = .returned (.bool (rightC l)) ∧ Below w.heap.size w w' := by
  obtain ⟨a, cap, S, rfl, hc, hmx, -, hn, hk⟩ := hl.out
  unfold maxLen at hmx
  have HN := Lib.hid hn
  have HK := Lib.hid hk
  clear hn hk hl
  go_enter Try.func11, Try.ntmps11
  go_wp2
  go_loopw [7] (fun iv wr => ∃ k : Nat, k ≤ l.length ∧ iv = .int .i64 k ∧ Hid (rightC (l.take k) = true) ∧ Below w.heap.size w wr) (fun iv _ => l.length - (intOf iv).toNat)
  case atStart => exact ⟨0, Nat.zero_le _, rfl, by simp [Hid, rightC, rightE], Below.refl _ _⟩
  case round =>
    obtain ⟨k, hk, rfl, hgood, hb⟩ := hrel
    by_cases hlt : k < l.length
    · obtain ⟨b, o, rfl, hx⟩ := HN.out k hlt
      have hx := hx.below hb hx.lt
      have hq := (HK.out k hlt).keep hb
      obtain ⟨a', cap', S', hS, -⟩ := hq.out
      rw [hS] at hx hq
      have HQ := Lib.hid hq
      have HT := Lib.hid (rightC_take hlt)
      have HO := Lib.hid (fun h => rightC_of (l := l) hlt h)
      obtain ⟨x0, x1, x2, x3, x4, x5⟩ := hx
      clear hS hq
      have hX := bnode_new wr l[k] (.slice a' l[k].a.kids.length cap')
      have hbV : Below wr.heap.size wr (wr.alloc (.cells #[.int .i64 l[k].a.k, .int .i64 l[k].a.i, .int .i64 l[k].a.j, .int .i64 l[k].a.n, (.slice a' l[k].a.kids.length cap'), .int .i64 l[k].i] 38)) := (Below.refl _ _).alloc (Nat.le_refl _) _
      have hqV := HQ.out.keep hbV
      have hbw := below_call hb hbV hb.size
      clear HQ hb hbV
      go_upto_region 4 with fail
      clear x0 x1 x2 x3 x4 x5
      obtain ⟨g, hg⟩ : ∃ g, wr.heap.size = g := ⟨_, rfl⟩
      rw [hg] at hX ⊢
      generalize wr.alloc (.cells #[.int .i64 l[k].a.k, .int .i64 l[k].a.i, .int .i64 l[k].a.j, .int .i64 l[k].a.n, (.slice a' l[k].a.kids.length cap'), .int .i64 l[k].i] 38) = V at hX hqV hbw ⊢
      have HX := Lib.hid hX
      have HQ := Lib.hid hqV
      have HBV := Lib.hid hbw
      have hk0 := kept_start V
      clear hqV hbw hg
      obtain ⟨x0, x1, x2, x3, x4, x5⟩ := hX
      by_cases h0 : l[k].i < 0
      · have e0 : decide (l[k].i < 0) = true := decide_eq_true h0
        go_wp2
        go_ret
        exact ⟨ret_bool (HO.out (by unfold goodE; rw [decide_eq_false (show ¬ 0 ≤ l[k].i by omega)]; rfl)).symm, HBV.out⟩
      have e0 : decide (l[k].i < 0) = false := decide_eq_false h0
      by_cases h1 : 1000 < l[k].i
      · have e1 : decide (1000 < l[k].i) = true := decide_eq_true h1
        go_wp2
        go_ret
        exact ⟨ret_bool (HO.out (by unfold goodE; rw [decide_eq_false (show ¬ l[k].i ≤ 1000 by omega), Bool.and_false]; rfl)).symm, HBV.out⟩
      have e1 : decide (1000 < l[k].i) = false := decide_eq_false h1
      have g0 : decide (0 ≤ l[k].i) = true := decide_eq_true (by omega)
      have g1 : decide (l[k].i ≤ 1000) = true := decide_eq_true (by omega)
      have G0 := Lib.hid g0
      have G1 := Lib.hid g1
      clear g0 g1
      go_wp2_with fail
      refine (marked_any l[k].a _ _ HQ.out).mono ?_
      obtain ⟨mb, hmb⟩ : ∃ b, l[k].a.markedB = b := ⟨_, rfl⟩
      rw [hmb]
      have HMB := Lib.hid hmb
      clear hmb
      rintro e w1 ⟨rfl, hb1⟩
      have hk1 := kept_call hk0 hb1
      obtain ⟨x0, x1, x2, x3, x4, x5⟩ := HX.out.keep hk1
      clear hb1 hk0
      cases mb with
      | false =>
        go_wp2
        go_ret
        exact ⟨ret_bool (HO.out (by unfold goodE; rw [HMB.out, Bool.and_false]; rfl)).symm, HBV.out.trans (Below.mono hk1 HBV.out.size)⟩
      | true =>
        go_wp2_with fail
        refine (Free_any l[k].a _ _ (kept_lies hk1 HQ.out)).mono ?_
        obtain ⟨fb, hfb⟩ : ∃ b, l[k].a.freeB = b := ⟨_, rfl⟩
        rw [hfb]
        have HFB := Lib.hid hfb
        clear hfb
        rintro e w2 ⟨rfl, hb2⟩
        have hk2 := kept_call hk1 hb2
        clear hb2
        by_cases h3 : (k : Int) < fb
        · have e3 : decide ((k : Int) < fb) = true := decide_eq_true h3
          go_wp2
          go_ret
          exact ⟨ret_bool (HO.out (by unfold goodE; rw [HFB.out, decide_eq_false (show ¬ fb ≤ (k : Int) by omega), Bool.and_false])).symm, HBV.out.trans (Below.mono hk2 HBV.out.size)⟩
        · have e3 : decide ((k : Int) < fb) = false := decide_eq_false h3
          have HS : Hid (goodE k l[k] = true) := by unfold goodE; rw [G0.out, G1.out, HMB.out, HFB.out, decide_eq_true (show fb ≤ (k : Int) by omega)]; rfl
          go_wp2
          go_roundw
          case rel => exact ⟨k + 1, by omega, by go_num, by show _ = true; rw [HT.out, hgood.out, HS.out]; rfl, HBV.out.trans (Below.mono hk2 HBV.out.size)⟩
          case measure => simp [intOf]; omega
    · have : k = l.length := by omega
      subst this
      go_wp2
      go_ret
      exact ⟨ret_bool (by have hg := hgood.out; rw [List.take_length] at hg; exact hg.symm), hb⟩

set_option maxRecDepth 20000 in
set_option maxHeartbeats 2000000 in
theorem refctxright_any (l : List En) (w : World) (s : Value) (hl : LiesE w l s) : Calls Try.prog 12 #[s] w fun e w' => e = .returned (.bool (rightC l)) ∧ Below w.heap.size w w' := by
  obtain ⟨a, cap, S, rfl, hc, hmx, -, hn, hk⟩ := hl.out
  unfold maxLen at hmx
  have HN := Lib.hid hn
  have HK := Lib.hid hk
  clear hn hk hl
  go_enter Try.func12, Try.ntmps12
  go_wp2
  go_loopw [3] (fun iv wr => ∃ k : Nat, k ≤ l.length ∧ iv = .int .i64 k ∧ Hid (rightC (l.take k) = true) ∧ Below w.heap.size w wr) (fun iv _ => l.length - (intOf iv).toNat)
  case atStart => exact ⟨0, Nat.zero_le _, rfl, by simp [Hid, rightC, rightE], Below.refl _ _⟩
  case round =>
    obtain ⟨k, hk, rfl, hgood, hb⟩ := hrel
    by_cases hlt : k < l.length
    · obtain ⟨b, o, rfl, hx⟩ := HN.out k hlt
      have hx := hx.below hb hx.lt
      have hq := (HK.out k hlt).keep hb
      obtain ⟨a', cap', S', hS, -⟩ := hq.out
      rw [hS] at hx hq
      have HQ := Lib.hid hq
      have HT := Lib.hid (rightC_take hlt)
      have HO := Lib.hid (fun h => rightC_of (l := l) hlt h)
      have HX := Lib.hid hx
      have HBV := Lib.hid hb
      have hk0 := kept_start wr
      obtain ⟨x0, x1, x2, x3, x4, x5⟩ := hx
      clear hS hq hb
      obtain ⟨lv, hlv⟩ : ∃ b, lvB l[k].i = b := ⟨_, rfl⟩
      have HLV := Lib.hid hlv
      clear hlv
      go_wp2_with fail
      refine (level11_any l[k].i _).mono ?_
      rw [HLV.out]
      rintro e w0 ⟨rfl, rfl⟩
      cases lv with
      | false =>
        go_wp2
        go_ret
        exact ⟨ret_bool (HO.out (by unfold goodE; have := HLV.out; unfold lvB at this; rw [this]; rfl)).symm, HBV.out⟩
      | true =>
      have HG : Hid (decide (0 ≤ l[k].i) = true ∧ decide (l[k].i ≤ 1000) = true) := by have := HLV.out; unfold lvB at this; rw [Bool.and_eq_true] at this; exact this
      have G0 := Lib.hid HG.out.1
      have G1 := Lib.hid HG.out.2
      go_wp2_with fail
      refine (refmarked_any l[k].a _ _ HQ.out).mono ?_
      obtain ⟨mb, hmb⟩ : ∃ b, l[k].a.markedB = b := ⟨_, rfl⟩
      rw [hmb]
      have HMB := Lib.hid hmb
      clear hmb
      rintro e w1 ⟨rfl, hb1⟩
      have hk1 := kept_call hk0 hb1
      obtain ⟨x0, x1, x2, x3, x4, x5⟩ := HX.out.below hk1 HX.out.lt
      clear hb1 hk0
      cases mb with
      | false =>
        go_wp2
        go_ret
        exact ⟨ret_bool (HO.out (by unfold goodE; rw [HMB.out, Bool.and_false]; rfl)).symm, HBV.out.trans (Below.mono hk1 HBV.out.size)⟩
      | true =>
        go_wp2_with fail
        refine (refFree_any l[k].a _ _ (kept_lies hk1 HQ.out)).mono ?_
        obtain ⟨fb, hfb⟩ : ∃ b, l[k].a.freeB = b := ⟨_, rfl⟩
        rw [hfb]
        have HFB := Lib.hid hfb
        clear hfb
        rintro e w2 ⟨rfl, hb2⟩
        have hk2 := kept_call hk1 hb2
        clear hb2
        by_cases h3 : (k : Int) < fb
        · have e3 : decide ((k : Int) < fb) = true := decide_eq_true h3
          go_wp2
          go_ret
          exact ⟨ret_bool (HO.out (by unfold goodE; rw [HFB.out, decide_eq_false (show ¬ fb ≤ (k : Int) by omega), Bool.and_false])).symm, HBV.out.trans (Below.mono hk2 HBV.out.size)⟩
        · have e3 : decide ((k : Int) < fb) = false := decide_eq_false h3
          have HS : Hid (goodE k l[k] = true) := by unfold goodE; rw [G0.out, G1.out, HMB.out, HFB.out, decide_eq_true (show fb ≤ (k : Int) by omega)]; rfl
          go_wp2
          go_roundw
          case rel => exact ⟨k + 1, by omega, by go_num, by show _ = true; rw [HT.out, hgood.out, HS.out]; rfl, HBV.out.trans (Below.mono hk2 HBV.out.size)⟩
          case measure => simp [intOf]; omega
    · have : k = l.length := by omega
      subst this
      go_wp2
      go_ret
      exact ⟨ret_bool (by have hg := hgood.out; rw [List.take_length] at hg; exact hg.symm), hb⟩

/-- What GreatCtx tells. -/
def NotGreatC (l : List En) (M : Nat) (w : World) (e : Ending) (w' : World) : Prop :=
  ∃ g : Bool, e = .returned (.bool g) ∧ (g = false → l.length ≤ M ∧ ∀ u ∈ l, (u.a.size : Int) ≤ M ∧ u.a.deep ≤ 201) ∧ Below w.heap.size w w'

set_option maxHeartbeats 1000000 in
theorem greatctx_any (l : List En) (M : Nat) (w : World) (ls : Value) (hl : LiesE w l ls) (hM : M ≤ 10000) :
    Calls Try.prog 8 #[ls, .int .i64 M] w (NotGreatC l M w) := by
  obtain ⟨a, cap, S, rfl, hc, hm, -, hn, hk⟩ := hl.out
  unfold maxLen at hm
  have HN := Lib.hid hn
  have HK := Lib.hid hk
  clear hl hn hk
  go_enter Try.func8, Try.ntmps8
  by_cases hlen : M < l.length
  · have e1 : decide ((M : Int) < (l.length : Int)) = true := decide_eq_true (by omega)
    have e2 : decide (M < l.length) = true := decide_eq_true hlen
    go_wp2
    go_ret
    exact ⟨true, rfl, (fun h => by cases h), Below.refl _ _⟩
  have e1 : decide ((M : Int) < (l.length : Int)) = false := decide_eq_false (by omega)
  have e2 : decide (M < l.length) = false := decide_eq_false hlen
  go_wp2
  go_loopw [5, 6] (fun nv iv wr => ∃ (k : Nat) (n : Int), k ≤ l.length ∧ iv = .int .i64 k ∧ nv = .int .i64 n ∧ 0 ≤ n ∧ n ≤ M + 1 ∧ Hid (n ≤ M → ∀ j (h : j < l.length), j < k → ((l[j]).a.size : Int) ≤ M ∧ (l[j]).a.deep ≤ 201) ∧ Kept w wr) (fun _ i _ => l.length - (intOf i).toNat)
  case atStart => exact ⟨0, 0, Nat.zero_le _, rfl, rfl, by omega, by omega, fun _ j _ h => by omega, kept_start _⟩
  case round =>
    obtain ⟨k, n, hk, rfl, rfl, hn1, hn2, hrel, hb⟩ := hrel
    by_cases hlt : k < l.length
    · by_cases hnm : n ≤ M
      · obtain ⟨b, o, rfl, hx⟩ := HN.out k hlt
        obtain ⟨c0, c1, c2, c3, c4, c5⟩ := hx.below hb hx.lt
        have hq := HK.out k hlt
        obtain ⟨a', cap', S', hS, -⟩ := hq.out
        rw [hS] at c4 hq
        have HQ := Lib.hid (hq.keep hb)
        clear hS hq
        go_wp2_with fail
        refine (weigh_any l[k].a _ _ _ _ HQ.out (by omega) (by omega) (by omega) (by omega)).mono ?_
        rintro e w' ⟨r, rfl, hr1, hr2, hr3, hb'⟩
        have HR3 := Lib.hid hr3
        have HB' := kept_call hb hb'
        clear hb' hb hr3 c0 c1 c2 c3 c4 c5
        go_wp2
        go_roundw
        case rel =>
          refine ⟨k + 1, n + r, by omega, by go_num, rfl, by omega, by omega, ?_, HB'⟩
          intro hle j hj hjk
          by_cases e : j = k
          · subst e
            have e4 := HR3.out (by omega)
            omega
          · exact hrel.out hnm j hj (by omega)
        case measure => simp [intOf]; omega
      · go_wp2
        go_ret
        exact ⟨_, rfl, fun h => absurd h (by simp <;> omega), hb⟩
    · have : k = l.length := by omega
      subst this
      go_wp2
      all_goals go_ret
      all_goals
        refine ⟨_, rfl, fun h => ⟨by omega, fun u hu => ?_⟩, hb⟩
        have hle : n ≤ M := by simpa using h
        obtain ⟨j, hj, rfl⟩ := List.getElem_of_mem hu
        exact hrel.out hle j hj hj
end Go.Proofs.Ytjhdcjjoignioaa

/-! ctx.At, and the page's own: the type of a variable, and its level. -/
namespace Go.Proofs.Ytjhdcjjoignioaa
open Go.RowKit

theorem results_c2 {P : Program} {fn : Func} {p q r : Tmp} {ty : TypeId} (h : fn.results = #[.cell p ty, .tmp q, .tmp r]) (tmps : Array Value) (w : World) (g : Nat) (t : TypeId) (cs : Array Value) (fr : Nat × Nat) (d : TypeDesc)
    (hp : tmps.getD p undef = .pointer (some ⟨g, 0, none⟩)) (hg : w.heap[g]? = some (.cells cs t fr))
    (hu : P.underlying ty = some d) (hd : (match d with | .struct _ | .array _ _ => true | _ => false) = true) (hi : (P.info? ty).map (·.size) = some cs.size) :
    (results fn tmps).run P w = .ok (.tuple #[.agg cs, tmps.getD q undef, tmps.getD r undef]) w := by
  have hp' : tmps[p]?.getD undef = .pointer (some ⟨g, 0, none⟩) := by simpa using hp
  simp [results, h, hp', asAddr, run_loadVar_row w g t ty cs fr d hg hu hd hi]

/-- What At tells: U of the level I, or nothing. -/
def AtIs (l : List En) (k : Int) (U : Tm) (I : Int) (B : Bool) : Prop :=
  (B = true ∧ ∃ (q : Nat) (hq : q < l.length), k = (q : Int) ∧ rightC l = true ∧ U = (l[l.length - 1 - q]).a.liftB ((q : Int) + 1) 0 ∧ I = (l[l.length - 1 - q]).i) ∨
  (B = false ∧ ¬ (0 ≤ k ∧ k < l.length ∧ rightC l = true) ∧ U = .zero ∧ I = 0)
theorem atIs_ex (l : List En) (k : Int) : ∃ U I B, AtIs l k U I B := by
  by_cases h : 0 ≤ k ∧ k < l.length ∧ rightC l = true
  · obtain ⟨h0, h1, h2⟩ := h
    obtain ⟨q, rfl⟩ : ∃ q : Nat, k = (q : Int) := ⟨k.toNat, by omega⟩
    exact ⟨_, _, true, .inl ⟨rfl, q, by omega, rfl, h2, rfl, rfl⟩⟩
  · exact ⟨_, _, false, .inr ⟨rfl, h, rfl, rfl⟩⟩
def GivesC (U : Tm) (I : Int) (B : Bool) (w : World) (e : Ending) (w' : World) : Prop := ∃ s' : Value, e = .returned (.tuple #[tv U s', .int .i64 I, .bool B]) ∧ LiesP w' (Own w.heap.size w') U.kids s' ∧ Below w.heap.size w w'
theorem bn_drew {w w' : World} {g : Nat} {e : En} {s : Value} (h : Kept w w' ∧ BNode w' g e s) : Kept w w'.drew ∧ w'.drew.cell? ⟨g, 0, none⟩ = some (.int .i64 e.a.k) ∧ w'.drew.cell? ⟨g, 1, none⟩ = some (.int .i64 e.a.i) ∧ w'.drew.cell? ⟨g, 2, none⟩ = some (.int .i64 e.a.j) ∧ w'.drew.cell? ⟨g, 3, none⟩ = some (.int .i64 e.a.n) ∧ w'.drew.cell? ⟨g, 4, none⟩ = some (s) ∧ w'.drew.cell? ⟨g, 5, none⟩ = some (.int .i64 e.i) := ⟨kept_drew h.1, h.2⟩
theorem bn_call {w w' wn : World} {g : Nat} {e : En} {s : Value} (h : Kept w w' ∧ w'.cell? ⟨g, 0, none⟩ = some (.int .i64 e.a.k) ∧ w'.cell? ⟨g, 1, none⟩ = some (.int .i64 e.a.i) ∧ w'.cell? ⟨g, 2, none⟩ = some (.int .i64 e.a.j) ∧ w'.cell? ⟨g, 3, none⟩ = some (.int .i64 e.a.n) ∧ w'.cell? ⟨g, 4, none⟩ = some (s) ∧ w'.cell? ⟨g, 5, none⟩ = some (.int .i64 e.i)) (hb : Below w'.heap.size w' wn) : Kept w wn ∧ wn.cell? ⟨g, 0, none⟩ = some (.int .i64 e.a.k) ∧ wn.cell? ⟨g, 1, none⟩ = some (.int .i64 e.a.i) ∧ wn.cell? ⟨g, 2, none⟩ = some (.int .i64 e.a.j) ∧ wn.cell? ⟨g, 3, none⟩ = some (.int .i64 e.a.n) ∧ wn.cell? ⟨g, 4, none⟩ = some (s) ∧ wn.cell? ⟨g, 5, none⟩ = some (.int .i64 e.i) := ⟨kept_call h.1 hb, BNode.keep h.2 hb⟩
theorem bn_five {w w' : World} {g r : Nat} {e : En} {s : Value} (h : Kept w w' ∧ w'.cell? ⟨g, 0, none⟩ = some (.int .i64 e.a.k) ∧ w'.cell? ⟨g, 1, none⟩ = some (.int .i64 e.a.i) ∧ w'.cell? ⟨g, 2, none⟩ = some (.int .i64 e.a.j) ∧ w'.cell? ⟨g, 3, none⟩ = some (.int .i64 e.a.n) ∧ w'.cell? ⟨g, 4, none⟩ = some (s) ∧ w'.cell? ⟨g, 5, none⟩ = some (.int .i64 e.i)) (hr : w.heap.size ≤ r) (hne : g ≠ r) (v0 v1 v2 v3 v4 : Value) : Kept w (five w' r v0 v1 v2 v3 v4) ∧ (five w' r v0 v1 v2 v3 v4).cell? ⟨g, 0, none⟩ = some (.int .i64 e.a.k) ∧ (five w' r v0 v1 v2 v3 v4).cell? ⟨g, 1, none⟩ = some (.int .i64 e.a.i) ∧ (five w' r v0 v1 v2 v3 v4).cell? ⟨g, 2, none⟩ = some (.int .i64 e.a.j) ∧ (five w' r v0 v1 v2 v3 v4).cell? ⟨g, 3, none⟩ = some (.int .i64 e.a.n) ∧ (five w' r v0 v1 v2 v3 v4).cell? ⟨g, 4, none⟩ = some (s) ∧ (five w' r v0 v1 v2 v3 v4).cell? ⟨g, 5, none⟩ = some (.int .i64 e.i) := by
  have hc : ∀ q, (five w' r v0 v1 v2 v3 v4).cell? ⟨g, q, none⟩ = w'.cell? ⟨g, q, none⟩ := fun q => World.cell?_of_block (a := ⟨g, q, none⟩) (five_other _ _ _ _ _ _ _ hne)
  exact ⟨below_five h.1 hr _ _ _ _ _, (hc 0).trans h.2.1, (hc 1).trans h.2.2.1, (hc 2).trans h.2.2.2.1, (hc 3).trans h.2.2.2.2.1, (hc 4).trans h.2.2.2.2.2.1, (hc 5).trans h.2.2.2.2.2.2⟩

def ka0 : Oper := { dst := some 30, op := Go.Op.fieldAddr 38 (Go.Operand.tmp 7) 0, type := 0, pos := "ctx.go:29", after := #[], guard := none }
def ka1 : Oper := { dst := some 31, op := Go.Op.load 26 (Go.Operand.tmp 30), type := 26, pos := "ctx.go:29", after := #[{ on := 0, ground := Go.Ground.data }], guard := none }
def ka2 : Oper := { dst := some 32, op := Go.Op.move (Go.Operand.tmp 1), type := 3, pos := "ctx.go:29", after := #[], guard := none }
def ka3 : Oper := { dst := some 33, op := Go.Op.binOp Go.BinOp.add 3 (Go.Operand.tmp 32) (Go.Operand.const (Go.Value.int Go.IntKind.i64 1)) 3, type := 3, pos := "ctx.go:29", after := #[{ on := 2, ground := Go.Ground.data }], guard := none }
def ka4 : Oper := { dst := some 34, op := Go.Op.call { callee := Go.Callee.value (Go.Operand.func 40), args := #[Go.Operand.tmp 31, Go.Operand.tmp 33, Go.Operand.const (Go.Value.int Go.IntKind.i64 0)], argTypes := #[26, 3, 3] }, type := 26, pos := "ctx.go:29", after := #[{ on := 1, ground := Go.Ground.data }, { on := 3, ground := Go.Ground.data }], guard := none }
def ka5 : Oper := { dst := some 35, op := Go.Op.fieldAddr 38 (Go.Operand.tmp 7) 1, type := 0, pos := "ctx.go:29", after := #[{ on := 7, ground := Go.Ground.gcOnly Go.Departure.lateStores }], guard := none }
def ka6 : Oper := { dst := some 36, op := Go.Op.load 3 (Go.Operand.tmp 35), type := 3, pos := "ctx.go:29", after := #[{ on := 5, ground := Go.Ground.data }, { on := 7, ground := Go.Ground.gcOnly Go.Departure.lateStores }], guard := none }
def ka7 : Oper := { dst := none, op := Go.Op.store 26 (Go.Operand.tmp 4) (Go.Operand.tmp 34), type := 0, pos := "ctx.go:29", after := #[{ on := 4, ground := Go.Ground.data }, { on := 4, ground := Go.Ground.chain }, { on := 0, ground := Go.Ground.phase }, { on := 1, ground := Go.Ground.phase }, { on := 2, ground := Go.Ground.phase }, { on := 3, ground := Go.Ground.phase }, { on := 4, ground := Go.Ground.phase }, { on := 5, ground := Go.Ground.textOnly Go.Departure.lateStores }, { on := 6, ground := Go.Ground.textOnly Go.Departure.lateStores }], guard := none }
def ka8 : Oper := { dst := some 5, op := Go.Op.assign (Go.Operand.tmp 36), type := 3, pos := "ctx.go:29", after := #[{ on := 6, ground := Go.Ground.data }, { on := 7, ground := Go.Ground.chain }, { on := 0, ground := Go.Ground.phase }, { on := 1, ground := Go.Ground.phase }, { on := 2, ground := Go.Ground.phase }, { on := 3, ground := Go.Ground.phase }, { on := 4, ground := Go.Ground.phase }, { on := 5, ground := Go.Ground.phase }, { on := 6, ground := Go.Ground.phase }, { on := 7, ground := Go.Ground.phase }], guard := none }
def ka9 : Oper := { dst := some 6, op := Go.Op.assign (Go.Operand.const (Go.Value.bool true)), type := 4, pos := "ctx.go:29", after := #[{ on := 8, ground := Go.Ground.chain }, { on := 0, ground := Go.Ground.phase }, { on := 1, ground := Go.Ground.phase }, { on := 2, ground := Go.Ground.phase }, { on := 3, ground := Go.Ground.phase }, { on := 4, ground := Go.Ground.phase }, { on := 5, ground := Go.Ground.phase }, { on := 6, ground := Go.Ground.phase }, { on := 7, ground := Go.Ground.phase }, { on := 8, ground := Go.Ground.phase }], guard := none }
set_option maxRecDepth 20000 in
set_option maxHeartbeats 4000000 in
theorem ctxat_any (l : List En) (k : Int) (w : World) (s : Value) (U : Tm) (I : Int) (B : Bool) (hl : LiesE w l s) (hA : AtIs l k U I B) (hlen : l.length ≤ 100000) (hd : ∀ u ∈ l, u.a.deep ≤ 100000) : Calls Try.prog 9 #[s, .int .i64 k] w (GivesC U I B w) := by
  obtain ⟨a, cap, S, rfl, hc, hmx, hf, hn, hk⟩ := hl.out
  unfold maxLen at hmx
  obtain ⟨du, hu1, hu2⟩ := under_term
  have hb0 : Below w.heap.size w (w.alloc (.cells #[.int .i64 0, .int .i64 0, .int .i64 0, .int .i64 0, .slice none 0 0] 26)) := (Below.refl _ _).alloc (Nat.le_refl _) _
  have hz0 := alloc_new w (.cells #[.int .i64 0, .int .i64 0, .int .i64 0, .int .i64 0, .slice none 0 0] 26)
  have HLE := Lib.hid (hl.keep hb0)
  have HN := Lib.hid hn
  have HK := Lib.hid hk
  have HDA := Lib.hid hd
  clear hn hk hl hf hd
  rcases hA with ⟨rfl, q, hq, rfl, hr, hU, rfl⟩ | ⟨rfl, hno, rfl, rfl⟩
  · have e1 : decide ((q : Int) < 0) = false := decide_eq_false (by omega)
    have e2 : decide ((l.length : Int) ≤ (q : Int)) = false := decide_eq_false (by omega)
    have e3 : decide (l.length ≤ q) = false := decide_eq_false (by omega)
    have HR := Lib.hid hr
    have HU := Lib.hid hU.symm
    clear hr hU
    have hj : l.length - 1 - q < l.length := by omega
    obtain ⟨b, o, rfl, hx⟩ := HN.out (l.length - 1 - q) hj
    have hqq := HK.out (l.length - 1 - q) hj
    have HDP := Lib.hid (HDA.out _ (List.getElem_mem hj))
    obtain ⟨e, he⟩ : ∃ e, l[l.length - 1 - q] = e := ⟨_, rfl⟩
    rw [he] at hx hqq HU HDP ⊢
    obtain ⟨a', cap', S', hS, -⟩ := hqq.out
    rw [hS] at hx hqq
    have HX := Lib.hid hx
    have HQ := Lib.hid hqq
    have HIQ := Lib.hid (show I64 ((q : Int) + 1) by unfold I64; omega)
    have HI0 := Lib.hid (show I64 0 by unfold I64; omega)
    clear hx hqq hS he
    go_enter Try.func9, Try.ntmps9
    go_wp2_with fail
    refine (ctxright_any l _ _ HLE.out).mono ?_
    rw [HR.out]
    rintro ee w1 ⟨rfl, hb1⟩
    have hb01 := below_call hb0 hb1 hb0.size
    have hz1 := (hb1.block w.heap.size (block_lt hz0)).trans hz0
    have hsz1 : w.heap.size < w1.heap.size := block_lt hz1
    obtain ⟨x0, x1, x2, x3, x4, x5⟩ := HX.out.below hb01 HX.out.lt
    clear hb1 hb0 hz0
    go_upto_region 4 with fail
    have hX := bnode_new w1 e (.slice a' e.a.kids.length cap')
    have hkV : Kept w (w1.alloc (.cells #[.int .i64 e.a.k, .int .i64 e.a.i, .int .i64 e.a.j, .int .i64 e.a.n, (.slice a' e.a.kids.length cap'), .int .i64 e.i] 38)) := Below.alloc hb01 hb01.size _
    have hzV : (w1.alloc (.cells #[.int .i64 e.a.k, .int .i64 e.a.i, .int .i64 e.a.j, .int .i64 e.a.n, (.slice a' e.a.kids.length cap'), .int .i64 e.i] 38)).heap[w.heap.size]? = some (.cells #[.int .i64 0, .int .i64 0, .int .i64 0, .int .i64 0, .slice none 0 0] 26 (0, 0)) := by rw [Below.heap_alloc _ _ _ (by exact hsz1)]; exact hz1
    obtain ⟨g, hg⟩ : ∃ g, w1.heap.size = g := ⟨_, rfl⟩
    have HNE := Lib.hid (show g ≠ w.heap.size by omega)
    rw [hg] at hX ⊢
    clear x0 x1 x2 x3 x4 x5 hb01 hz1
    generalize w1.alloc (.cells #[.int .i64 e.a.k, .int .i64 e.a.i, .int .i64 e.a.j, .int .i64 e.a.n, (.slice a' e.a.kids.length cap'), .int .i64 e.i] 38) = V at hX hkV hzV ⊢
    have hS0 : Kept w V ∧ BNode V g e (.slice a' e.a.kids.length cap') := ⟨hkV, hX⟩
    have hzx : V.drew.heap[w.heap.size]? = some (.cells #[.int .i64 0, .int .i64 0, .int .i64 0, .int .i64 0, .slice none 0 0] 26 (0, 0)) := hzV
    obtain ⟨x0, x1, x2, x3, x4, x5⟩ := hX
    refine wp_region_held_drew (S := fun w' => Kept w w' ∧ w'.cell? ⟨g, 0, none⟩ = some (.int .i64 e.a.k) ∧ w'.cell? ⟨g, 1, none⟩ = some (.int .i64 e.a.i) ∧ w'.cell? ⟨g, 2, none⟩ = some (.int .i64 e.a.j) ∧ w'.cell? ⟨g, 3, none⟩ = some (.int .i64 e.a.n) ∧ w'.cell? ⟨g, 4, none⟩ = some ((.slice a' e.a.kids.length cap')) ∧ w'.cell? ⟨g, 5, none⟩ = some (.int .i64 e.i)) (by kernel_rfl) ?_ (fun hHeld => ?_)
    · (try dsimp only)
      (first | exact hS7 | exact hS4 | exact bn_drew hS0)
    generalize V.drew = wx at hHeld hzx ⊢
    have eW : IntKind.i64.wrap ((q : Int) + 1) = (q : Int) + 1 := IntWalk.i64_in _ (by omega)
    clear hzV hkV hS0 x0 x1 x2 x3 x4 x5
    refine take_at 0 30 ka0 (v := ?_) (Or.inl ⟨by rfl, ?_⟩) ?_
    rotate_left 1
    · ((intro w hSw; (try dsimp only at hSw); unfold ka0; go_simp) <;> with_reducible rfl)
    (try simp only [Act.put, List.setIfInBounds_toArray, List.set_cons_zero, List.set_cons_succ])
    refine take_at 1 31 ka1 (v := ?_) (Or.inl ⟨by rfl, ?_⟩) ?_
    rotate_left 1
    · ((intro w hSw; (try dsimp only at hSw); unfold ka1; go_simp) <;> with_reducible rfl)
    (try simp only [Act.put, List.setIfInBounds_toArray, List.set_cons_zero, List.set_cons_succ])
    refine take_at 2 32 ka2 (v := ?_) (Or.inl ⟨by rfl, ?_⟩) ?_
    rotate_left 1
    · ((intro w hSw; (try dsimp only at hSw); unfold ka2; go_simp) <;> with_reducible rfl)
    (try simp only [Act.put, List.setIfInBounds_toArray, List.set_cons_zero, List.set_cons_succ])
    refine take_at 3 33 ka3 (v := ?_) (Or.inl ⟨by rfl, ?_⟩) ?_
    rotate_left 1
    · ((intro w hSw; (try dsimp only at hSw); unfold ka3; go_simp) <;> with_reducible rfl)
    (try simp only [Act.put, List.setIfInBounds_toArray, List.set_cons_zero, List.set_cons_succ])
    refine take_at 5 35 ka5 (v := ?_) (Or.inl ⟨by rfl, ?_⟩) ?_
    rotate_left 1
    · ((intro w hSw; (try dsimp only at hSw); unfold ka5; go_simp) <;> with_reducible rfl)
    (try simp only [Act.put, List.setIfInBounds_toArray, List.set_cons_zero, List.set_cons_succ])
    refine take_at 6 36 ka6 (v := ?_) (Or.inl ⟨by rfl, ?_⟩) ?_
    rotate_left 1
    · ((intro w hSw; (try dsimp only at hSw); unfold ka6; go_simp) <;> with_reducible rfl)
    (try simp only [Act.put, List.setIfInBounds_toArray, List.set_cons_zero, List.set_cons_succ])
    refine wpAnyH_ready (rs := [4]) (by kernel_rfl) (by simp) ?_
    refine AllReadyH.cons (o := ka4) rfl (fun K hK => ?_) ?_
    · unfold ka4
      go_simp
      (go_at_call 40; (with_reducible refine Calls.mono (lift_any e.a _ _ _ _ (kept_lies hHeld.1 HQ.out) HIQ.out HI0.out HDP.out) ?_); rw [HU.out]; rintro ee wn ⟨s2, rfl, hl2, hbn⟩; obtain ⟨a2, cap2, rfl, -, -⟩ := hl2.out; have hS4 := bn_call hHeld hbn; have HL2 := Lib.hid hl2; have hz := (hbn.block w.heap.size (block_lt hzx)).trans hzx; have hlt2 := block_lt hzx; clear hbn hl2 hHeld; obtain ⟨z0, z1, z2, z3, z4⟩ := five_cells hz; obtain ⟨r0, r1, r2, r3, r4⟩ := five_free hz)
      refine hK.out _ _ ?_ (fun hHeld => ?_)
      · (try dsimp only)
        (first | exact hS7 | exact hS4 | exact bn_drew hS0)
      clear hK K
      (try simp only [Act.put, List.setIfInBounds_toArray, List.set_cons_zero, List.set_cons_succ])
      refine wpAnyH_ready (rs := [7]) (by kernel_rfl) (by simp) ?_
      refine AllReadyH.cons (o := ka7) rfl (fun K hK => ?_) ?_
      · unfold ka7
        go_simp
        have hS7 := bn_five hHeld (Nat.le_refl _) HNE.out (.int .i64 U.k) (.int .i64 U.i) (.int .i64 U.j) (.int .i64 U.n) (.slice a2 U.kids.length cap2)
        (try clear hHeld)
        refine hK.out _ _ ?_ (fun hHeld => ?_)
        · (try dsimp only)
          (first | exact hS7 | exact hS4 | exact bn_drew hS0)
        clear hK K
        (try simp only [Act.put, List.setIfInBounds_toArray, List.set_cons_zero, List.set_cons_succ])
        refine take_at 8 5 ka8 (v := ?_) (Or.inl ⟨by rfl, ?_⟩) ?_
        rotate_left 1
        · ((intro w hSw; (try dsimp only at hSw); unfold ka8; go_simp) <;> with_reducible rfl)
        (try simp only [Act.put, List.setIfInBounds_toArray, List.set_cons_zero, List.set_cons_succ])
        refine take_at 9 6 ka9 (v := ?_) (Or.inl ⟨by rfl, ?_⟩) ?_
        rotate_left 1
        · ((intro w hSw; (try dsimp only at hSw); unfold ka9; go_simp) <;> with_reducible rfl)
        (try simp only [Act.put, List.setIfInBounds_toArray, List.set_cons_zero, List.set_cons_succ])
        refine wpAnyH_done (by kernel_rfl) ?_ _
        go_wp2_with fail
        refine bodyPost_ret (results_c2 rfl _ _ w.heap.size _ _ _ du rfl (five_set hz) hu1 (by cases du <;> first | rfl | exact hu2) size_term) rfl ?_
        exact ⟨_, rfl, liesP_fives HL2.out hlt2 (by omega) _ _ _ _ _, hHeld.1⟩
      exact AllReadyH.nil
    exact AllReadyH.nil
  · have H3 : Hid (GivesC .zero 0 false w (.returned (.tuple #[tv .zero (.slice none 0 0), .int .i64 0, .bool false])) (w.alloc (.cells #[.int .i64 0, .int .i64 0, .int .i64 0, .int .i64 0, .slice none 0 0] 26))) := ⟨_, rfl, liesP_nil _ _, hb0⟩
    by_cases h1 : k < 0
    · have e1 : decide (k < 0) = true := decide_eq_true h1
      go_enter Try.func9, Try.ntmps9
      go_wp2
      refine bodyPost_ret (results_c2 rfl _ _ w.heap.size _ _ _ du rfl hz0 hu1 (by cases du <;> first | rfl | exact hu2) size_term) rfl ?_
      exact H3
    have e1 : decide (k < 0) = false := decide_eq_false h1
    by_cases h2 : (l.length : Int) ≤ k
    · have e2 : decide ((l.length : Int) ≤ k) = true := decide_eq_true h2
      go_enter Try.func9, Try.ntmps9
      go_wp2
      refine bodyPost_ret (results_c2 rfl _ _ w.heap.size _ _ _ du rfl hz0 hu1 (by cases du <;> first | rfl | exact hu2) size_term) rfl ?_
      exact H3
    have e2 : decide ((l.length : Int) ≤ k) = false := decide_eq_false h2
    have HR : Hid (rightC l = false) := by
      show rightC l = false
      cases hr : rightC l with
      | false => rfl
      | true => exact absurd ⟨by omega, by omega, hr⟩ hno
    clear hno
    go_enter Try.func9, Try.ntmps9
    go_wp2_with fail
    refine (ctxright_any l _ _ HLE.out).mono ?_
    rw [HR.out]
    rintro ee w1 ⟨rfl, hb1⟩
    have hb01 := below_call hb0 hb1 hb0.size
    have hz1 := (hb1.block w.heap.size (block_lt hz0)).trans hz0
    have hsz1 : w.heap.size < w1.heap.size := block_lt hz1
    obtain ⟨z0, z1, z2, z3, z4⟩ := five_cells hz1
    obtain ⟨r0, r1, r2, r3, r4⟩ := five_free hz1
    clear hb1 hb0 hz0
    go_wp2
    refine bodyPost_ret (results_c2 rfl _ _ w.heap.size _ _ _ du rfl (five_set hz1) hu1 (by cases du <;> first | rfl | exact hu2) size_term) rfl ?_
    exact ⟨_, rfl, liesP_nil _ _, below_five hb01 (Nat.le_refl _) _ _ _ _ _⟩

def kb0 : Oper := { dst := some 30, op := Go.Op.fieldAddr 38 (Go.Operand.tmp 7) 0, type := 0, pos := "ctx.go:38", after := #[], guard := none }
def kb1 : Oper := { dst := some 31, op := Go.Op.load 26 (Go.Operand.tmp 30), type := 26, pos := "ctx.go:38", after := #[{ on := 0, ground := Go.Ground.data }], guard := none }
def kb2 : Oper := { dst := some 32, op := Go.Op.move (Go.Operand.tmp 1), type := 3, pos := "ctx.go:38", after := #[], guard := none }
def kb3 : Oper := { dst := some 33, op := Go.Op.binOp Go.BinOp.add 3 (Go.Operand.tmp 32) (Go.Operand.const (Go.Value.int Go.IntKind.i64 1)) 3, type := 3, pos := "ctx.go:38", after := #[{ on := 2, ground := Go.Ground.data }], guard := none }
def kb4 : Oper := { dst := some 34, op := Go.Op.call { callee := Go.Callee.value (Go.Operand.func 26), args := #[Go.Operand.tmp 31, Go.Operand.tmp 33, Go.Operand.const (Go.Value.int Go.IntKind.i64 0)], argTypes := #[26, 3, 3] }, type := 26, pos := "ctx.go:38", after := #[{ on := 1, ground := Go.Ground.data }, { on := 3, ground := Go.Ground.data }], guard := none }
def kb5 : Oper := { dst := some 35, op := Go.Op.fieldAddr 38 (Go.Operand.tmp 7) 1, type := 0, pos := "ctx.go:38", after := #[{ on := 7, ground := Go.Ground.gcOnly Go.Departure.lateStores }], guard := none }
def kb6 : Oper := { dst := some 36, op := Go.Op.load 3 (Go.Operand.tmp 35), type := 3, pos := "ctx.go:38", after := #[{ on := 5, ground := Go.Ground.data }, { on := 7, ground := Go.Ground.gcOnly Go.Departure.lateStores }], guard := none }
def kb7 : Oper := { dst := none, op := Go.Op.store 26 (Go.Operand.tmp 4) (Go.Operand.tmp 34), type := 0, pos := "ctx.go:38", after := #[{ on := 4, ground := Go.Ground.data }, { on := 4, ground := Go.Ground.chain }, { on := 0, ground := Go.Ground.phase }, { on := 1, ground := Go.Ground.phase }, { on := 2, ground := Go.Ground.phase }, { on := 3, ground := Go.Ground.phase }, { on := 4, ground := Go.Ground.phase }, { on := 5, ground := Go.Ground.textOnly Go.Departure.lateStores }, { on := 6, ground := Go.Ground.textOnly Go.Departure.lateStores }], guard := none }
def kb8 : Oper := { dst := some 5, op := Go.Op.assign (Go.Operand.tmp 36), type := 3, pos := "ctx.go:38", after := #[{ on := 6, ground := Go.Ground.data }, { on := 7, ground := Go.Ground.chain }, { on := 0, ground := Go.Ground.phase }, { on := 1, ground := Go.Ground.phase }, { on := 2, ground := Go.Ground.phase }, { on := 3, ground := Go.Ground.phase }, { on := 4, ground := Go.Ground.phase }, { on := 5, ground := Go.Ground.phase }, { on := 6, ground := Go.Ground.phase }, { on := 7, ground := Go.Ground.phase }], guard := none }
def kb9 : Oper := { dst := some 6, op := Go.Op.assign (Go.Operand.const (Go.Value.bool true)), type := 4, pos := "ctx.go:38", after := #[{ on := 8, ground := Go.Ground.chain }, { on := 0, ground := Go.Ground.phase }, { on := 1, ground := Go.Ground.phase }, { on := 2, ground := Go.Ground.phase }, { on := 3, ground := Go.Ground.phase }, { on := 4, ground := Go.Ground.phase }, { on := 5, ground := Go.Ground.phase }, { on := 6, ground := Go.Ground.phase }, { on := 7, ground := Go.Ground.phase }, { on := 8, ground := Go.Ground.phase }], guard := none }
set_option maxRecDepth 20000 in
set_option maxHeartbeats 4000000 in
theorem refctxat_any (l : List En) (k : Int) (w : World) (s : Value) (U : Tm) (I : Int) (B : Bool) (hl : LiesE w l s) (hA : AtIs l k U I B) (hlen : l.length ≤ 100000) (hd : ∀ u ∈ l, u.a.deep ≤ 100000) : Calls Try.prog 10 #[s, .int .i64 k] w (GivesC U I B w) := by
  obtain ⟨a, cap, S, rfl, hc, hmx, hf, hn, hk⟩ := hl.out
  unfold maxLen at hmx
  obtain ⟨du, hu1, hu2⟩ := under_term
  have hb0 : Below w.heap.size w (w.alloc (.cells #[.int .i64 0, .int .i64 0, .int .i64 0, .int .i64 0, .slice none 0 0] 26)) := (Below.refl _ _).alloc (Nat.le_refl _) _
  have hz0 := alloc_new w (.cells #[.int .i64 0, .int .i64 0, .int .i64 0, .int .i64 0, .slice none 0 0] 26)
  have HLE := Lib.hid (hl.keep hb0)
  have HN := Lib.hid hn
  have HK := Lib.hid hk
  have HDA := Lib.hid hd
  clear hn hk hl hf hd
  rcases hA with ⟨rfl, q, hq, rfl, hr, hU, rfl⟩ | ⟨rfl, hno, rfl, rfl⟩
  · have e1 : decide ((q : Int) < 0) = false := decide_eq_false (by omega)
    have e2 : decide ((l.length : Int) ≤ (q : Int)) = false := decide_eq_false (by omega)
    have e3 : decide (l.length ≤ q) = false := decide_eq_false (by omega)
    have HR := Lib.hid hr
    have HU := Lib.hid hU.symm
    clear hr hU
    have hj : l.length - 1 - q < l.length := by omega
    obtain ⟨b, o, rfl, hx⟩ := HN.out (l.length - 1 - q) hj
    have hqq := HK.out (l.length - 1 - q) hj
    have HDP := Lib.hid (HDA.out _ (List.getElem_mem hj))
    obtain ⟨e, he⟩ : ∃ e, l[l.length - 1 - q] = e := ⟨_, rfl⟩
    rw [he] at hx hqq HU HDP ⊢
    obtain ⟨a', cap', S', hS, -⟩ := hqq.out
    rw [hS] at hx hqq
    have HX := Lib.hid hx
    have HQ := Lib.hid hqq
    have HIQ := Lib.hid (show I64 ((q : Int) + 1) by unfold I64; omega)
    have HI0 := Lib.hid (show I64 0 by unfold I64; omega)
    clear hx hqq hS he
    go_enter Try.func10, Try.ntmps10
    go_wp2_with fail
    refine (refctxright_any l _ _ HLE.out).mono ?_
    rw [HR.out]
    rintro ee w1 ⟨rfl, hb1⟩
    have hb01 := below_call hb0 hb1 hb0.size
    have hz1 := (hb1.block w.heap.size (block_lt hz0)).trans hz0
    have hsz1 : w.heap.size < w1.heap.size := block_lt hz1
    obtain ⟨x0, x1, x2, x3, x4, x5⟩ := HX.out.below hb01 HX.out.lt
    clear hb1 hb0 hz0
    go_upto_region 4 with fail
    have hX := bnode_new w1 e (.slice a' e.a.kids.length cap')
    have hkV : Kept w (w1.alloc (.cells #[.int .i64 e.a.k, .int .i64 e.a.i, .int .i64 e.a.j, .int .i64 e.a.n, (.slice a' e.a.kids.length cap'), .int .i64 e.i] 38)) := Below.alloc hb01 hb01.size _
    have hzV : (w1.alloc (.cells #[.int .i64 e.a.k, .int .i64 e.a.i, .int .i64 e.a.j, .int .i64 e.a.n, (.slice a' e.a.kids.length cap'), .int .i64 e.i] 38)).heap[w.heap.size]? = some (.cells #[.int .i64 0, .int .i64 0, .int .i64 0, .int .i64 0, .slice none 0 0] 26 (0, 0)) := by rw [Below.heap_alloc _ _ _ (by exact hsz1)]; exact hz1
    obtain ⟨g, hg⟩ : ∃ g, w1.heap.size = g := ⟨_, rfl⟩
    have HNE := Lib.hid (show g ≠ w.heap.size by omega)
    rw [hg] at hX ⊢
    clear x0 x1 x2 x3 x4 x5 hb01 hz1
    generalize w1.alloc (.cells #[.int .i64 e.a.k, .int .i64 e.a.i, .int .i64 e.a.j, .int .i64 e.a.n, (.slice a' e.a.kids.length cap'), .int .i64 e.i] 38) = V at hX hkV hzV ⊢
    have hS0 : Kept w V ∧ BNode V g e (.slice a' e.a.kids.length cap') := ⟨hkV, hX⟩
    have hzx : V.drew.heap[w.heap.size]? = some (.cells #[.int .i64 0, .int .i64 0, .int .i64 0, .int .i64 0, .slice none 0 0] 26 (0, 0)) := hzV
    obtain ⟨x0, x1, x2, x3, x4, x5⟩ := hX
    refine wp_region_held_drew (S := fun w' => Kept w w' ∧ w'.cell? ⟨g, 0, none⟩ = some (.int .i64 e.a.k) ∧ w'.cell? ⟨g, 1, none⟩ = some (.int .i64 e.a.i) ∧ w'.cell? ⟨g, 2, none⟩ = some (.int .i64 e.a.j) ∧ w'.cell? ⟨g, 3, none⟩ = some (.int .i64 e.a.n) ∧ w'.cell? ⟨g, 4, none⟩ = some ((.slice a' e.a.kids.length cap')) ∧ w'.cell? ⟨g, 5, none⟩ = some (.int .i64 e.i)) (by kernel_rfl) ?_ (fun hHeld => ?_)
    · (try dsimp only)
      (first | exact hS7 | exact hS4 | exact bn_drew hS0)
    generalize V.drew = wx at hHeld hzx ⊢
    have eW : IntKind.i64.wrap ((q : Int) + 1) = (q : Int) + 1 := IntWalk.i64_in _ (by omega)
    clear hzV hkV hS0 x0 x1 x2 x3 x4 x5
    refine take_at 0 30 kb0 (v := ?_) (Or.inl ⟨by rfl, ?_⟩) ?_
    rotate_left 1
    · ((intro w hSw; (try dsimp only at hSw); unfold kb0; go_simp) <;> with_reducible rfl)
    (try simp only [Act.put, List.setIfInBounds_toArray, List.set_cons_zero, List.set_cons_succ])
    refine take_at 1 31 kb1 (v := ?_) (Or.inl ⟨by rfl, ?_⟩) ?_
    rotate_left 1
    · ((intro w hSw; (try dsimp only at hSw); unfold kb1; go_simp) <;> with_reducible rfl)
    (try simp only [Act.put, List.setIfInBounds_toArray, List.set_cons_zero, List.set_cons_succ])
    refine take_at 2 32 kb2 (v := ?_) (Or.inl ⟨by rfl, ?_⟩) ?_
    rotate_left 1
    · ((intro w hSw; (try dsimp only at hSw); unfold kb2; go_simp) <;> with_reducible rfl)
    (try simp only [Act.put, List.setIfInBounds_toArray, List.set_cons_zero, List.set_cons_succ])
    refine take_at 3 33 kb3 (v := ?_) (Or.inl ⟨by rfl, ?_⟩) ?_
    rotate_left 1
    · ((intro w hSw; (try dsimp only at hSw); unfold kb3; go_simp) <;> with_reducible rfl)
    (try simp only [Act.put, List.setIfInBounds_toArray, List.set_cons_zero, List.set_cons_succ])
    refine take_at 5 35 kb5 (v := ?_) (Or.inl ⟨by rfl, ?_⟩) ?_
    rotate_left 1
    · ((intro w hSw; (try dsimp only at hSw); unfold kb5; go_simp) <;> with_reducible rfl)
    (try simp only [Act.put, List.setIfInBounds_toArray, List.set_cons_zero, List.set_cons_succ])
    refine take_at 6 36 kb6 (v := ?_) (Or.inl ⟨by rfl, ?_⟩) ?_
    rotate_left 1
    · ((intro w hSw; (try dsimp only at hSw); unfold kb6; go_simp) <;> with_reducible rfl)
    (try simp only [Act.put, List.setIfInBounds_toArray, List.set_cons_zero, List.set_cons_succ])
    refine wpAnyH_ready (rs := [4]) (by kernel_rfl) (by simp) ?_
    refine AllReadyH.cons (o := kb4) rfl (fun K hK => ?_) ?_
    · unfold kb4
      go_simp
      (go_at_call 26; (with_reducible refine Calls.mono (reflift_any e.a _ _ _ _ (kept_lies hHeld.1 HQ.out) HIQ.out HI0.out HDP.out) ?_); rw [HU.out]; rintro ee wn ⟨s2, rfl, hl2, hbn⟩; obtain ⟨a2, cap2, rfl, -, -⟩ := hl2.out; have hS4 := bn_call hHeld hbn; have HL2 := Lib.hid hl2; have hz := (hbn.block w.heap.size (block_lt hzx)).trans hzx; have hlt2 := block_lt hzx; clear hbn hl2 hHeld; obtain ⟨z0, z1, z2, z3, z4⟩ := five_cells hz; obtain ⟨r0, r1, r2, r3, r4⟩ := five_free hz)
      refine hK.out _ _ ?_ (fun hHeld => ?_)
      · (try dsimp only)
        (first | exact hS7 | exact hS4 | exact bn_drew hS0)
      clear hK K
      (try simp only [Act.put, List.setIfInBounds_toArray, List.set_cons_zero, List.set_cons_succ])
      refine wpAnyH_ready (rs := [7]) (by kernel_rfl) (by simp) ?_
      refine AllReadyH.cons (o := kb7) rfl (fun K hK => ?_) ?_
      · unfold kb7
        go_simp
        have hS7 := bn_five hHeld (Nat.le_refl _) HNE.out (.int .i64 U.k) (.int .i64 U.i) (.int .i64 U.j) (.int .i64 U.n) (.slice a2 U.kids.length cap2)
        (try clear hHeld)
        refine hK.out _ _ ?_ (fun hHeld => ?_)
        · (try dsimp only)
          (first | exact hS7 | exact hS4 | exact bn_drew hS0)
        clear hK K
        (try simp only [Act.put, List.setIfInBounds_toArray, List.set_cons_zero, List.set_cons_succ])
        refine take_at 8 5 kb8 (v := ?_) (Or.inl ⟨by rfl, ?_⟩) ?_
        rotate_left 1
        · ((intro w hSw; (try dsimp only at hSw); unfold kb8; go_simp) <;> with_reducible rfl)
        (try simp only [Act.put, List.setIfInBounds_toArray, List.set_cons_zero, List.set_cons_succ])
        refine take_at 9 6 kb9 (v := ?_) (Or.inl ⟨by rfl, ?_⟩) ?_
        rotate_left 1
        · ((intro w hSw; (try dsimp only at hSw); unfold kb9; go_simp) <;> with_reducible rfl)
        (try simp only [Act.put, List.setIfInBounds_toArray, List.set_cons_zero, List.set_cons_succ])
        refine wpAnyH_done (by kernel_rfl) ?_ _
        go_wp2_with fail
        refine bodyPost_ret (results_c2 rfl _ _ w.heap.size _ _ _ du rfl (five_set hz) hu1 (by cases du <;> first | rfl | exact hu2) size_term) rfl ?_
        exact ⟨_, rfl, liesP_fives HL2.out hlt2 (by omega) _ _ _ _ _, hHeld.1⟩
      exact AllReadyH.nil
    exact AllReadyH.nil
  · have H3 : Hid (GivesC .zero 0 false w (.returned (.tuple #[tv .zero (.slice none 0 0), .int .i64 0, .bool false])) (w.alloc (.cells #[.int .i64 0, .int .i64 0, .int .i64 0, .int .i64 0, .slice none 0 0] 26))) := ⟨_, rfl, liesP_nil _ _, hb0⟩
    by_cases h1 : k < 0
    · have e1 : decide (k < 0) = true := decide_eq_true h1
      go_enter Try.func10, Try.ntmps10
      go_wp2
      refine bodyPost_ret (results_c2 rfl _ _ w.heap.size _ _ _ du rfl hz0 hu1 (by cases du <;> first | rfl | exact hu2) size_term) rfl ?_
      exact H3
    have e1 : decide (k < 0) = false := decide_eq_false h1
    by_cases h2 : (l.length : Int) ≤ k
    · have e2 : decide ((l.length : Int) ≤ k) = true := decide_eq_true h2
      go_enter Try.func10, Try.ntmps10
      go_wp2
      refine bodyPost_ret (results_c2 rfl _ _ w.heap.size _ _ _ du rfl hz0 hu1 (by cases du <;> first | rfl | exact hu2) size_term) rfl ?_
      exact H3
    have e2 : decide ((l.length : Int) ≤ k) = false := decide_eq_false h2
    have HR : Hid (rightC l = false) := by
      show rightC l = false
      cases hr : rightC l with
      | false => rfl
      | true => exact absurd ⟨by omega, by omega, hr⟩ hno
    clear hno
    go_enter Try.func10, Try.ntmps10
    go_wp2_with fail
    refine (refctxright_any l _ _ HLE.out).mono ?_
    rw [HR.out]
    rintro ee w1 ⟨rfl, hb1⟩
    have hb01 := below_call hb0 hb1 hb0.size
    have hz1 := (hb1.block w.heap.size (block_lt hz0)).trans hz0
    have hsz1 : w.heap.size < w1.heap.size := block_lt hz1
    obtain ⟨z0, z1, z2, z3, z4⟩ := five_cells hz1
    obtain ⟨r0, r1, r2, r3, r4⟩ := five_free hz1
    clear hb1 hb0 hz0
    go_wp2
    refine bodyPost_ret (results_c2 rfl _ _ w.heap.size _ _ _ du rfl (five_set hz1) hu1 (by cases du <;> first | rfl | exact hu2) size_term) rfl ?_
    exact ⟨_, rfl, liesP_nil _ _, below_five hb01 (Nat.le_refl _) _ _ _ _ _⟩

end Go.Proofs.Ytjhdcjjoignioaa

/-! transhipkeep.TwinCtx: a copy of a context in new memory. -/
namespace Go.Proofs.Ytjhdcjjoignioaa
open Go.RowKit

theorem oneE (t : En) (s : Value) (h : s.oneCell' = true := by rfl) : ∀ u ∈ cells6 [(t, s)], u.oneCell' = true := by
  intro u hu
  simp only [cells6, List.mem_cons, List.not_mem_nil, or_false] at hu
  rcases hu with rfl | rfl | rfl | rfl | rfl | rfl <;> first | rfl | exact h
def tc0 : Oper := { dst := some 11, op := Go.Op.move (Go.Operand.tmp 3), type := 22, pos := "keep.go:103", after := #[], guard := none }
def tc1 : Oper := { dst := some 12, op := Go.Op.move (Go.Operand.tmp 0), type := 22, pos := "keep.go:103", after := #[], guard := none }
def tc2 : Oper := { dst := some 13, op := Go.Op.move (Go.Operand.tmp 4), type := 3, pos := "keep.go:103", after := #[], guard := none }
def tc3 : Oper := { dst := some 14, op := Go.Op.indexAddr 22 (Go.Operand.tmp 12) (Go.Operand.tmp 13), type := 0, pos := "keep.go:103", after := #[{ on := 1, ground := Go.Ground.data }, { on := 2, ground := Go.Ground.data }], guard := none }
def tc4 : Oper := { dst := some 15, op := Go.Op.fieldAddr 38 (Go.Operand.tmp 14) 0, type := 0, pos := "keep.go:103", after := #[{ on := 3, ground := Go.Ground.data }], guard := none }
def tc5 : Oper := { dst := some 16, op := Go.Op.load 26 (Go.Operand.tmp 15), type := 26, pos := "keep.go:103", after := #[{ on := 4, ground := Go.Ground.data }], guard := none }
def tc6 : Oper := { dst := some 17, op := Go.Op.call { callee := Go.Callee.value (Go.Operand.func 44), args := #[Go.Operand.tmp 16], argTypes := #[26] }, type := 26, pos := "keep.go:103", after := #[{ on := 5, ground := Go.Ground.data }], guard := none }
def tc7 : Oper := { dst := some 18, op := Go.Op.move (Go.Operand.tmp 0), type := 22, pos := "keep.go:103", after := #[], guard := none }
def tc8 : Oper := { dst := some 19, op := Go.Op.move (Go.Operand.tmp 4), type := 3, pos := "keep.go:103", after := #[], guard := none }
def tc9 : Oper := { dst := some 20, op := Go.Op.indexAddr 22 (Go.Operand.tmp 18) (Go.Operand.tmp 19), type := 0, pos := "keep.go:103", after := #[{ on := 7, ground := Go.Ground.data }, { on := 8, ground := Go.Ground.data }], guard := none }
def tc10 : Oper := { dst := some 21, op := Go.Op.fieldAddr 38 (Go.Operand.tmp 20) 1, type := 0, pos := "keep.go:103", after := #[{ on := 9, ground := Go.Ground.data }], guard := none }
def tc11 : Oper := { dst := some 22, op := Go.Op.load 3 (Go.Operand.tmp 21), type := 3, pos := "keep.go:103", after := #[{ on := 10, ground := Go.Ground.data }], guard := none }
def tc12 : Oper := { dst := some 23, op := Go.Op.build 38 #[(0, Go.Operand.tmp 17), (1, Go.Operand.tmp 22)], type := 38, pos := "keep.go:103", after := #[{ on := 6, ground := Go.Ground.data }, { on := 11, ground := Go.Ground.data }], guard := none }
def tc13 : Oper := { dst := some 24, op := Go.Op.buildSlice 22 1 #[(0, Go.Operand.tmp 23)], type := 22, pos := "keep.go:103", after := #[{ on := 12, ground := Go.Ground.data }], guard := none }
def tc14 : Oper := { dst := some 25, op := Go.Op.call { callee := Go.Callee.builtin Go.Builtin.append, args := #[Go.Operand.tmp 11, Go.Operand.tmp 24], argTypes := #[22, 22] }, type := 22, pos := "keep.go:103", after := #[{ on := 0, ground := Go.Ground.data }, { on := 13, ground := Go.Ground.data }, { on := 6, ground := Go.Ground.chain }], guard := none }
def tc15 : Oper := { dst := some 3, op := Go.Op.assign (Go.Operand.tmp 25), type := 22, pos := "keep.go:103", after := #[{ on := 14, ground := Go.Ground.data }, { on := 14, ground := Go.Ground.chain }, { on := 0, ground := Go.Ground.phase }, { on := 1, ground := Go.Ground.phase }, { on := 2, ground := Go.Ground.phase }, { on := 3, ground := Go.Ground.phase }, { on := 4, ground := Go.Ground.phase }, { on := 5, ground := Go.Ground.phase }, { on := 6, ground := Go.Ground.phase }, { on := 7, ground := Go.Ground.phase }, { on := 8, ground := Go.Ground.phase }, { on := 9, ground := Go.Ground.phase }, { on := 10, ground := Go.Ground.phase }, { on := 11, ground := Go.Ground.phase }, { on := 12, ground := Go.Ground.phase }, { on := 13, ground := Go.Ground.phase }, { on := 14, ground := Go.Ground.phase }], guard := none }
set_option maxRecDepth 20000 in
set_option maxHeartbeats 4000000 in
theorem twinctx_any (l : List En) (w : World) (s : Value) (hl : LiesE w l s) (hlen : l.length ≤ 1000000) (hsz : ∀ x ∈ l, x.a.size ≤ 1000000) : Calls Try.prog 15 #[s] w (MakesE l w) := by
  obtain ⟨a, cap, S, rfl, hc, hmx, hf, hn, hk⟩ := hl.out
  unfold maxLen at hmx
  obtain ⟨i0, hi, hz0, hz1, hz2⟩ := info_parts info_entry
  have HN := Lib.hid hn
  have HK := Lib.hid hk
  have HF := Lib.hid hf
  have HSA := Lib.hid hsz
  have HI := Lib.hid (And.intro hi (And.intro hz0 (And.intro hz1 hz2)))
  clear hn hk hl hf hi hz0 hz1 hz2 hsz
  go_enter Try.func15, Try.ntmps15
  go_wp2
  go_loopw [3, 4] (fun v iv wr => ∃ (k : Nat) (ps : List (En × Value)) (vv : Value), vv = v ∧ k ≤ l.length ∧ iv = .int .i64 k ∧ Hid (ps.map (·.1) = l.take k) ∧ MadeE w.heap.size wr v ps ∧ Below w.heap.size w wr) (fun _ iv _ => l.length - (intOf iv).toNat)
  case atStart => exact ⟨0, [], _, rfl, Nat.zero_le _, rfl, by simp [Hid], madeE_nil _ _, Below.refl _ _⟩
  case round =>
    obtain ⟨k, ps, vv, rfl, hk, rfl, hps, hmade, hb⟩ := hrel
    by_cases hlt : k < l.length
    · obtain ⟨b, o, rfl, hx⟩ := HN.out k hlt
      have hq := HK.out k hlt
      obtain ⟨a', cap', S', hS, -⟩ := hq.out
      rw [hS] at hx hq
      have HX := Lib.hid hx
      have HQ := Lib.hid hq
      have HM := Lib.hid (List.getElem_mem hlt)
      have HSZ := Lib.hid (HSA.out _ HM.out)
      have hpl : ps.length = k := by have := congrArg List.length hps.out; simp at this; omega
      have HPL := Lib.hid hpl
      have hmd : MadeE w.heap.size wr.drew vv ps := madeE_later hmade (Below.drew (Below.refl _ _))
      have hkx : Kept w wr.drew := kept_drew hb
      obtain ⟨x0, x1, x2, x3, x4, x5⟩ := hx.below hb hx.lt
      clear hS hq hx hpl hmade
      go_wp2_with fail
      refine wp_region_held_drew (S := fun w' => Kept w w' ∧ w'.cell? ⟨b, o + k * 6, none⟩ = some (.int .i64 l[k].a.k) ∧ w'.cell? ⟨b, o + k * 6 + 1, none⟩ = some (.int .i64 l[k].a.i) ∧ w'.cell? ⟨b, o + k * 6 + 2, none⟩ = some (.int .i64 l[k].a.j) ∧ w'.cell? ⟨b, o + k * 6 + 3, none⟩ = some (.int .i64 l[k].a.n) ∧ w'.cell? ⟨b, o + k * 6 + 4, none⟩ = some ((.slice a' l[k].a.kids.length cap')) ∧ w'.cell? ⟨b, o + k * 6 + 5, none⟩ = some (.int .i64 l[k].i)) (by kernel_rfl) ?_ (fun hHeld => ?_)
      · (try dsimp only)
        (((with_reducible refine en_keep1 ?_ HX.out); repeat (first | with_reducible assumption | with_reducible refine kept_drew ?_ | with_reducible refine kept_alloc ?_ _)))
      generalize wr.drew = wx at hHeld hmd hkx ⊢
      have HMD := Lib.hid hmd
      have HKX := Lib.hid hkx
      clear hmd x0 x1 x2 x3 x4 x5
      refine take_at 0 11 tc0 (v := ?_) (Or.inl ⟨by rfl, ?_⟩) ?_
      rotate_left 1
      · ((intro w hSw; (try dsimp only at hSw); unfold tc0; go_simp) <;> with_reducible rfl)
      (try simp only [Act.put, List.setIfInBounds_toArray, List.set_cons_zero, List.set_cons_succ])
      refine take_at 1 12 tc1 (v := ?_) (Or.inl ⟨by rfl, ?_⟩) ?_
      rotate_left 1
      · ((intro w hSw; (try dsimp only at hSw); unfold tc1; go_simp) <;> with_reducible rfl)
      (try simp only [Act.put, List.setIfInBounds_toArray, List.set_cons_zero, List.set_cons_succ])
      refine take_at 2 13 tc2 (v := ?_) (Or.inl ⟨by rfl, ?_⟩) ?_
      rotate_left 1
      · ((intro w hSw; (try dsimp only at hSw); unfold tc2; go_simp) <;> with_reducible rfl)
      (try simp only [Act.put, List.setIfInBounds_toArray, List.set_cons_zero, List.set_cons_succ])
      refine take_at 3 14 tc3 (v := ?_) (Or.inl ⟨by rfl, ?_⟩) ?_
      rotate_left 1
      · ((intro w hSw; (try dsimp only at hSw); unfold tc3; go_simp) <;> with_reducible rfl)
      (try simp only [Act.put, List.setIfInBounds_toArray, List.set_cons_zero, List.set_cons_succ])
      refine take_at 4 15 tc4 (v := ?_) (Or.inl ⟨by rfl, ?_⟩) ?_
      rotate_left 1
      · ((intro w hSw; (try dsimp only at hSw); unfold tc4; go_simp) <;> with_reducible rfl)
      (try simp only [Act.put, List.setIfInBounds_toArray, List.set_cons_zero, List.set_cons_succ])
      refine take_at 5 16 tc5 (v := ?_) (Or.inl ⟨by rfl, ?_⟩) ?_
      rotate_left 1
      · ((intro w hSw; (try dsimp only at hSw); unfold tc5; go_simp) <;> with_reducible rfl)
      (try simp only [Act.put, List.setIfInBounds_toArray, List.set_cons_zero, List.set_cons_succ])
      refine take_at 7 18 tc7 (v := ?_) (Or.inl ⟨by rfl, ?_⟩) ?_
      rotate_left 1
      · ((intro w hSw; (try dsimp only at hSw); unfold tc7; go_simp) <;> with_reducible rfl)
      (try simp only [Act.put, List.setIfInBounds_toArray, List.set_cons_zero, List.set_cons_succ])
      refine take_at 8 19 tc8 (v := ?_) (Or.inl ⟨by rfl, ?_⟩) ?_
      rotate_left 1
      · ((intro w hSw; (try dsimp only at hSw); unfold tc8; go_simp) <;> with_reducible rfl)
      (try simp only [Act.put, List.setIfInBounds_toArray, List.set_cons_zero, List.set_cons_succ])
      refine take_at 9 20 tc9 (v := ?_) (Or.inl ⟨by rfl, ?_⟩) ?_
      rotate_left 1
      · ((intro w hSw; (try dsimp only at hSw); unfold tc9; go_simp) <;> with_reducible rfl)
      (try simp only [Act.put, List.setIfInBounds_toArray, List.set_cons_zero, List.set_cons_succ])
      refine take_at 10 21 tc10 (v := ?_) (Or.inl ⟨by rfl, ?_⟩) ?_
      rotate_left 1
      · ((intro w hSw; (try dsimp only at hSw); unfold tc10; go_simp) <;> with_reducible rfl)
      (try simp only [Act.put, List.setIfInBounds_toArray, List.set_cons_zero, List.set_cons_succ])
      refine take_at 11 22 tc11 (v := ?_) (Or.inl ⟨by rfl, ?_⟩) ?_
      rotate_left 1
      · ((intro w hSw; (try dsimp only at hSw); unfold tc11; go_simp) <;> with_reducible rfl)
      (try simp only [Act.put, List.setIfInBounds_toArray, List.set_cons_zero, List.set_cons_succ])
      refine wpAnyH_ready (rs := [6]) (by kernel_rfl) (by simp) ?_
      refine AllReadyH.cons (o := tc6) rfl (fun K hK => ?_) ?_
      · unfold tc6
        go_simp
        (go_at_call 44; have hS := hHeld.1; refine (twin_any l[k].a _ _ (kept_lies hS HQ.out) HSZ.out).mono ?_; rintro e w2 ⟨s2, rfl, hl2, hb2⟩; obtain ⟨a2, cap2, rfl, -, -⟩ := hl2.out; have hh := kept_call hS hb2; have HL2 := Lib.hid hl2; have HB2 := Lib.hid hb2; clear hl2 hb2 hS hHeld)
        refine hK.out _ _ ?_ (fun hHeld => ?_)
        · (try dsimp only)
          (((with_reducible refine en_keep1 ?_ HX.out); repeat (first | with_reducible assumption | with_reducible refine kept_drew ?_ | with_reducible refine kept_alloc ?_ _)))
        clear hK K
        (try simp only [Act.put, List.setIfInBounds_toArray, List.set_cons_zero, List.set_cons_succ])
        refine take_at 12 23 tc12 (v := ?_) (Or.inl ⟨by rfl, ?_⟩) ?_
        rotate_left 1
        · ((intro w hSw; (try dsimp only at hSw); unfold tc12; go_simp) <;> with_reducible rfl)
        (try simp only [Act.put, List.setIfInBounds_toArray, List.set_cons_zero, List.set_cons_succ])
        refine wpAnyH_ready (rs := [13]) (by kernel_rfl) (by simp) ?_
        refine AllReadyH.cons (o := tc13) rfl (fun K hK => ?_) ?_
        · unfold tc13
          go_simp
          refine hK.out _ _ ?_ (fun hHeld => ?_)
          · (try dsimp only)
            (((with_reducible refine en_keep1 ?_ HX.out); repeat (first | with_reducible assumption | with_reducible refine kept_drew ?_ | with_reducible refine kept_alloc ?_ _)))
          clear hK K
          (try simp only [Act.put, List.setIfInBounds_toArray, List.set_cons_zero, List.set_cons_succ])
          refine wpAnyH_ready (rs := [14]) (by kernel_rfl) (by simp) ?_
          refine AllReadyH.cons (o := tc14) rfl (fun K hK => ?_) ?_
          · unfold tc14
            refine step_append_lies _ rfl _ _ 22 rfl w.heap.size 38 i0 _ 6 64 (by kernel_rfl) HI.out.1 HI.out.2.1 HI.out.2.2.1 HI.out.2.2.2 rfl (by decide) _ ps.length (cells6 ps) rfl (madeE_later (madeE_later HMD.out HB2.out) ((Below.refl _ _).alloc (Nat.le_refl _) _)).own ⟨w2.heap.size, 0, none⟩ 1 1 (cells6 [(l[k], .slice a2 l[k].a.kids.length cap2)]) rfl rfl (newsE _ _ _ _) (oneE _ _) (by decide) (by have := HPL.out; unfold maxLen; omega) (by have := HPL.out; omega) (by have := hh.size; simp; omega) _ rfl ?_
            intro g cap3 w3 hown hgrow hat hlt3
            have hkE : Kept w w3 := belowE_push HMD.out HKX.out HKX.out.size HB2.out _ hgrow
            clear hHeld
            refine hK.out _ _ ?_ (fun hHeld => ?_)
            · (try dsimp only)
              (((with_reducible refine en_keep1 ?_ HX.out); repeat (first | with_reducible assumption | with_reducible refine kept_drew ?_ | with_reducible refine kept_alloc ?_ _)))
            clear hK K
            (try simp only [Act.put, List.setIfInBounds_toArray, List.set_cons_zero, List.set_cons_succ])
            refine take_at 15 3 tc15 (v := ?_) (Or.inl ⟨by rfl, ?_⟩) ?_
            rotate_left 1
            · ((intro w hSw; (try dsimp only at hSw); unfold tc15; go_simp) <;> with_reducible rfl)
            (try simp only [Act.put, List.setIfInBounds_toArray, List.set_cons_zero, List.set_cons_succ])
            refine wpAnyH_done (by kernel_rfl) ?_ _
            clear hHeld
            have hat' := by simpa using hat
            have hMN := madeE_push HMD.out (HF.out _ HM.out) HKX.out.size HB2.out HL2.out _ hown hgrow hat'
            go_wp2_with fail
            go_roundw
            case rel => exact ⟨k + 1, ps ++ [(l[k], .slice a2 l[k].a.kids.length cap2)], _, rfl, hlt, by go_num, by have := hps.out; simp only [Hid]; rw [List.map_append, this, List.map_cons, List.map_nil, List.take_append_getElem hlt], hMN, hkE⟩
            case measure => simp [intOf]; omega
          exact AllReadyH.nil
        exact AllReadyH.nil
      exact AllReadyH.nil
    · obtain rfl : k = l.length := by omega
      have hps' : ps.map (·.1) = l := by rw [hps.out, List.take_length]
      go_wp2_with fail
      go_ret
      refine ⟨_, rfl, ?_, hb⟩
      rw [← hps']; exact madeE_lies hmade
end Go.Proofs.Ytjhdcjjoignioaa
