/-
  PutTwice holds: for every input the call returns true, and the arguments read as before. No condition.
-/
import Derived.Test.YtmhmengbhdaodaaPut
import Derived.Test.YtmhmengbhdaodaaRefMore
import Derived.Test.YtmhmengbhdaodaaWakes5
import Derived.Test.YtmhmengbhdaodaaLawKit
import Derived.Test.YtmhmengbhdaodaaPutLaws
import Derived.Test.YtmhmengbhdaodaaPyB
import Derived.Deep.RegionHeld3
import Derived.Test.YtmhmengbhdaodaaBox
import Derived.Test.YtmhmengbhdaodaaRows
import Derived.ProofKit
import Derived.OpenShut
import Derived.Carry
import Derived.Deep.Slices
import Derived.JoinedOf
/-! The layer's own sentence, transhiplaw07.wakes, is true; stands. -/
namespace Go.Proofs.Ytmhmengbhdaodaa
open Go.RowKit

theorem v7_any (i : Int) (w : World) : Calls Try.prog 23 #[.int .i64 i] w fun e w' => e = .returned (.agg #[.int .i64 2, .int .i64 i, .int .i64 0, .int .i64 0, .slice none 0 0]) ∧ Below w.heap.size w w' := by
  obtain ⟨du, hu1, hu2⟩ := under_term
  go_enter Try.func23, Try.ntmps23
  go_wp2
  refine bodyPost_ret (results_cell_row rfl _ _ w.heap.size _ _ _ du rfl (alloc_new _ _) hu1 (by cases du <;> first | rfl | exact hu2) size_term) rfl ?_
  exact ⟨rfl, (Below.refl _ _).alloc (Nat.le_refl _) _⟩

def wake7 : Tm := .mk 15 0 0 0 [varT 0, varT 1]
def wake7s : Tm := .mk 1 3 0 0 []
theorem wake7_lies (w : World) : Lies (w.alloc (.cells #[.int .i64 2, .int .i64 0, .int .i64 0, .int .i64 0, .slice none 0 0, .int .i64 2, .int .i64 1, .int .i64 0, .int .i64 0, .slice none 0 0] 24)) wake7.kids (.slice (some ⟨w.heap.size, 0, none⟩) 2 2) := by
  have c0 := fun q => cell_of_row (w.alloc (.cells #[.int .i64 2, .int .i64 0, .int .i64 0, .int .i64 0, .slice none 0 0, .int .i64 2, .int .i64 1, .int .i64 0, .int .i64 0, .slice none 0 0] 24)) w.heap.size q _ _ _ (alloc_new _ _)
  exact Row.lies (ps := [(.mk 2 0 0 0 [], .slice none 0 0), (.mk 2 1 0 0 [], .slice none 0 0)]) ⟨⟨by rw [c0]; rfl, by rw [c0]; rfl, by rw [c0]; rfl, by rw [c0]; rfl, by rw [c0]; rfl⟩, small_fine _ _ _ (small_I64 2 (by decide)) (small_I64 0 (by decide)), lies_nil _, ⟨by rw [c0]; rfl, by rw [c0]; rfl, by rw [c0]; rfl, by rw [c0]; rfl, by rw [c0]; rfl⟩, small_fine _ _ _ (small_I64 2 (by decide)) (small_I64 1 (by decide)), lies_nil _, trivial⟩ (by decide) (by decide)

theorem two_kids {w : World} {P : Nat → Prop} {x y : Tm} {s : Value} (h : LiesP w P [x, y] s) : ∃ (a : Option Addr) (cap b : Nat), s = .slice a 2 cap ∧ a = some ⟨b, 0, none⟩ ∧ w.cell? ⟨b, 0, none⟩ = some (.int .i64 x.k) ∧ w.cell? ⟨b, 1, none⟩ = some (.int .i64 x.i) ∧ w.cell? ⟨b, 5, none⟩ = some (.int .i64 y.k) ∧ w.cell? ⟨b, 6, none⟩ = some (.int .i64 y.i) := by
  cases h with
  | mk l a cap S hc hm hf hn hk =>
    obtain ⟨b, ha, -, n0⟩ := hn 0 (by simp)
    subst ha
    obtain ⟨b', ha', -, n1⟩ := hn 1 (by simp)
    cases ha'
    exact ⟨_, cap, b, rfl, rfl, n0.c0, n0.c1, n1.c0, n1.c1⟩

set_option maxRecDepth 20000 in
set_option maxHeartbeats 2000000 in
theorem wakes7_any (w : World) : Calls Try.prog 17 #[] w fun e w' => e = .returned (.bool true) ∧ Below w.heap.size w w' := by
  go_enter Try.func17, Try.ntmps17
  go_wp2_with fail
  refine (v7_any _ _).mono ?_
  rintro e wa ⟨rfl, hba⟩
  go_wp2_with fail
  refine (v7_any _ _).mono ?_
  rintro e wb ⟨rfl, hbb⟩
  have hB := hba.trans (hbb.mono hba.size)
  have hL := wake7_lies wb
  have hBw : Below wb.heap.size wb (wb.alloc (.cells #[.int .i64 2, .int .i64 0, .int .i64 0, .int .i64 0, .slice none 0 0, .int .i64 2, .int .i64 1, .int .i64 0, .int .i64 0, .slice none 0 0] 24)) := (Below.refl _ _).alloc (Nat.le_refl _) _
  clear hba hbb
  have hc := put_any wake7 wake7s _ _ (.slice none 0 0) hL (lies_nil _) (by decide) (by decide)
  rw [show wake7.putB wake7s = .mk 15 0 0 0 [.mk 1 3 0 0 [], varT 0] from by kernel_rfl] at hc
  go_wp2_with fail
  refine hc.mono ?_
  clear hc
  rintro e w3 ⟨s3, he, hl3, hb3⟩
  obtain ⟨a3, cap3, b3, hs3, ha3, p0, p1, p5, p6⟩ := two_kids hl3
  subst ha3
  subst hs3
  replace he : e = .returned (.agg #[.int .i64 15, .int .i64 0, .int .i64 0, .int .i64 0, .slice (some ⟨b3, 0, none⟩) 2 cap3]) := he
  subst he
  have hb4 : Below w3.heap.size w3 (w3.alloc (.cells #[.int .i64 15, .int .i64 0, .int .i64 0, .int .i64 0, .slice (some ⟨b3, 0, none⟩) 2 cap3] 24)) := (Below.refl _ _).alloc (Nat.le_refl _) _
  have hlt3 : b3 < w3.heap.size := World.block_lt_of_cell? _ _ p0
  have hB4 := hB.trans (((hBw.trans (hb3.mono hBw.size)).trans (hb4.mono (by have := hb3.size; have := hBw.size; omega))).mono hB.size)
  have HB4 := Lib.hid hB4
  clear hl3 hb3 hb4 hB hBw hL hB4
  go_wp2_with fail
  go_ret
  exact ⟨rfl, HB4.out⟩
end Go.Proofs.Ytmhmengbhdaodaa

/-! transhiplaw07.stands. -/
namespace Go.Proofs.Ytmhmengbhdaodaa
open Go.RowKit
/-- The two terms may stand so. -/
def StandsB (t u : Tm) : Prop := t.rightB = true ∧ u.rightB = true ∧ t.deep ≤ 100000 ∧ u.deep ≤ 100000 ∧ t.freeN ≤ 1000 ∧ u.freeN ≤ 1000 ∧ mayB t u = true
def Stands (t u : Tm) (w : World) (e : Ending) (w' : World) : Prop := ∃ b : Bool, e = .returned (.bool b) ∧ Below w.heap.size w w' ∧ (b = true → StandsB t u)

set_option maxRecDepth 20000 in
set_option maxHeartbeats 2000000 in
theorem stands_any (t u : Tm) (w : World) (s r : Value) (hl : Lies w t.kids s) (hm : Lies w u.kids r) : Calls Try.prog 21 #[tv t s, tv u r] w (Stands t u w) := by
  obtain ⟨a, cap, S, rfl, -⟩ := hl.out
  obtain ⟨a2, cap2, S2, rfl, -⟩ := hm.out
  have HL := Lib.hid hl
  have HM := Lib.hid hm
  have H0 := held2_start w t (.slice a t.kids.length cap) u (.slice a2 u.kids.length cap2)
  clear hl hm
  unfold tv
  go_enter Try.func21, Try.ntmps21
  go_wp2_with fail
  refine (great_any t _ _ 120 (held2_lies H0 HL.out) (by omega) (by omega)).mono ?_
  rintro e w1 ⟨g, rfl, hg, hb'⟩
  have H1 := held2_call H0 hb'
  obtain ⟨d0, d1, d2, d3, d4, c0, c1, c2, c3, c4⟩ := held2_cells H1
  have HG := Lib.hid hg
  clear hg hb' H0
  cases g with
  | true =>
    go_wp2
    go_ret
    exact ⟨false, rfl, held2_below H1, fun h => by cases h⟩
  | false =>
  have hz_t := (HG.out rfl).1
  have hd_t := (HG.out rfl).2
  clear HG
  go_wp2_with fail
  refine (great_any u _ _ 120 (held2_lies H1 HM.out) (by omega) (by omega)).mono ?_
  rintro e w2 ⟨g, rfl, hg, hb'⟩
  have H2 := held2_call H1 hb'
  obtain ⟨d0, d1, d2, d3, d4, c0, c1, c2, c3, c4⟩ := held2_cells H2
  have HG := Lib.hid hg
  clear hg hb' H1
  cases g with
  | true =>
    go_wp2
    go_ret
    exact ⟨false, rfl, held2_below H2, fun h => by cases h⟩
  | false =>
  have hz_u := (HG.out rfl).1
  have hd_u := (HG.out rfl).2
  clear HG
  go_wp2_with fail
  refine (refright_any t _ _ (held2_lies H2 HL.out)).mono ?_
  rintro e w3 ⟨rfl, hb'⟩
  have H3 := held2_call H2 hb'
  obtain ⟨d0, d1, d2, d3, d4, c0, c1, c2, c3, c4⟩ := held2_cells H3
  clear hb' H2
  cases hr_rt : t.rightB with
  | false =>
    go_wp2
    go_ret
    exact ⟨false, rfl, held2_below H3, fun h => by cases h⟩
  | true =>
  have HRrt := Lib.hid hr_rt
  clear hr_rt
  go_wp2_with fail
  refine (refright_any u _ _ (held2_lies H3 HM.out)).mono ?_
  rintro e w4 ⟨rfl, hb'⟩
  have H4 := held2_call H3 hb'
  obtain ⟨d0, d1, d2, d3, d4, c0, c1, c2, c3, c4⟩ := held2_cells H4
  clear hb' H3
  cases hr_ru : u.rightB with
  | false =>
    go_wp2
    go_ret
    exact ⟨false, rfl, held2_below H4, fun h => by cases h⟩
  | true =>
  have HRru := Lib.hid hr_ru
  clear hr_ru
  go_wp2_with fail
  refine (refFree_any t _ _ (held2_lies H4 HL.out)).mono ?_
  rintro e w5 ⟨rfl, hb'⟩
  have H5 := held2_call H4 hb'
  obtain ⟨d0, d1, d2, d3, d4, c0, c1, c2, c3, c4⟩ := held2_cells H5
  clear hb' H4
  by_cases hp1 : 1000 < t.freeB
  · have ep1 : decide (1000 < t.freeB) = true := by simpa using hp1
    go_wp2
    go_ret
    exact ⟨false, rfl, held2_below H5, fun h => by cases h⟩
  have ep1 : decide (1000 < t.freeB) = false := by simpa using hp1
  go_wp2_with fail
  refine (refFree_any u _ _ (held2_lies H5 HM.out)).mono ?_
  rintro e w6 ⟨rfl, hb'⟩
  have H6 := held2_call H5 hb'
  obtain ⟨d0, d1, d2, d3, d4, c0, c1, c2, c3, c4⟩ := held2_cells H6
  clear hb' H5
  by_cases hp2 : 1000 < u.freeB
  · have ep2 : decide (1000 < u.freeB) = true := by simpa using hp2
    go_wp2
    go_ret
    exact ⟨false, rfl, held2_below H6, fun h => by cases h⟩
  have ep2 : decide (1000 < u.freeB) = false := by simpa using hp2
  have hrt : t.rightB = true := HRrt.out
  have hru : u.rightB = true := HRru.out
  have hft := free_of hrt
  have hfu := free_of hru
  have HS : Hid (mayB t u = true → StandsB t u) := fun h => ⟨hrt, hru, by omega, by omega, by omega, by omega, h⟩
  have HRU := Lib.hid hru
  clear hz_t hd_t hz_u hd_u hrt hru hft hfu HRrt HRru
  by_cases h1 : t.k = 1
  · have e1 : (t.k == 1) = true := by simpa using h1
    have HY := Lib.hid (show mayB t u = true by unfold mayB; rw [HRU.out, e1]; rfl)
    clear h1
    go_wp2
    go_ret
    exact ⟨true, rfl, held2_below H6, fun _ => HS.out HY.out⟩
  have e1 : (t.k == 1) = false := by simpa using h1
  by_cases h2 : t.k = 2
  · have e2 : (t.k == 2) = true := by simpa using h2
    have HY := Lib.hid (show mayB t u = true by unfold mayB; rw [HRU.out, e1, e2]; rfl)
    clear h1 h2
    go_wp2
    go_ret
    exact ⟨true, rfl, held2_below H6, fun _ => HS.out HY.out⟩
  have e2 : (t.k == 2) = false := by simpa using h2
  clear h1 h2
  go_wp2_with fail
  refine (refplain_any t _ _ (held2_lies H6 HL.out)).mono ?_
  rintro e w9 ⟨rfl, hb9⟩
  have H9 := held2_call H6 hb9
  obtain ⟨d0, d1, d2, d3, d4, c0, c1, c2, c3, c4⟩ := held2_cells H9
  clear hb9
  cases hp : t.plainB with
  | true =>
    have HY := Lib.hid (show mayB t u = true by unfold mayB; rw [HRU.out, e1, e2, hp]; rfl)
    go_wp2
    go_ret
    exact ⟨true, rfl, held2_below H9, fun _ => HS.out HY.out⟩
  | false =>
    have HY := Lib.hid (show mayB t u = u.markedB by unfold mayB; rw [HRU.out, e1, e2, hp]; rfl)
    go_wp2_with fail
    refine (refmarked_any u _ _ (held2_lies H9 HM.out)).mono ?_
    rintro e w10 ⟨rfl, hb10⟩
    have H10 := held2_call H9 hb10
    clear hb10
    go_wp2
    go_ret
    exact ⟨u.markedB, rfl, held2_below H10, fun h => HS.out (HY.out.trans h)⟩
end Go.Proofs.Ytmhmengbhdaodaa

/-! The walk of transhiplaw07.PutAll. -/
namespace Go.Proofs.Ytmhmengbhdaodaa
open Go.RowKit

/-- A list of one term, just written. -/
theorem madeQ_one (w : World) (u : Tm) (s : Value) (hf : u.fine) (hl : Lies w u.kids s) : MadeQ w.heap.size w.heap.size w.heap.size (w.alloc (.cells #[.int .i64 u.k, .int .i64 u.i, .int .i64 u.j, .int .i64 u.n, s] 24)) (.slice (some ⟨w.heap.size, 0, none⟩) 1 1) [(u, s)] := by
  refine ⟨⟨rfl, Or.inr ⟨w.heap.size, 1, _, rfl, Nat.le_refl _, alloc_new _ _, Nat.le_refl _, by decide, rfl, rfl⟩⟩, fun p hp => ?_, fun p hp => ?_⟩
  · rw [List.mem_singleton.1 hp]; exact hf
  · rw [List.mem_singleton.1 hp]
    refine (hl.q.later ((Below.refl _ _).alloc (Nat.le_refl _) _)).wide (fun b hb => ⟨Or.inl hb, ?_⟩)
    simp [Value.ownBlock]
    omega
theorem varT_deep (v : Int) : (varT v).deep = 1 := rfl
theorem varsT_deep {n : Nat} : ∀ x ∈ varsT n, x.deep ≤ 100000 := by
  intro x hx
  obtain ⟨i, -, rfl⟩ := List.mem_map.1 hx
  rw [varT_deep]; omega

set_option maxRecDepth 20000 in
set_option maxHeartbeats 4000000 in
theorem putAll_any (t u : Tm) (w : World) (s r : Value) (hl : Lies w t.kids s) (hm : Lies w u.kids r) : Calls Try.prog 6 #[tv t s, tv u r] w fun e w' => e = .returned (.bool true) ∧ Below w.heap.size w w' := by
  obtain ⟨a, cap, S, rfl, -⟩ := hl.out
  obtain ⟨a2, cap2, S2, rfl, -⟩ := hm.out
  have HL := Lib.hid hl
  have HM := Lib.hid hm
  have H0 := held2_start w t (.slice a t.kids.length cap) u (.slice a2 u.kids.length cap2)
  clear hl hm
  unfold tv
  go_enter Try.func6, Try.ntmps6
  go_wp2_with fail
  refine (stands_any t u _ _ _ (held2_lies H0 HL.out) (held2_lies H0 HM.out)).mono ?_
  rintro e w1 ⟨b, rfl, hb1, hst⟩
  have H1 := held2_call H0 hb1
  have HST := Lib.hid hst
  clear hb1 hst H0
  cases b with
  | false =>
    go_wp2
    go_ret
    exact ⟨rfl, held2_below H1⟩
  | true =>
  obtain ⟨hrt, hru, hdt, hdu, hft, hfu, hmy⟩ := HST.out rfl
  clear HST
  obtain ⟨d0, d1, d2, d3, d4, c0, c1, c2, c3, c4⟩ := held2_cells H1
  go_wp2_with fail
  refine (refFree_any t _ _ (held2_lies H1 HL.out)).mono ?_
  rintro e w2 ⟨rfl, hb2⟩
  have H2 := held2_call H1 hb2
  clear hb2 H1 d0 d1 d2 d3 d4 c0 c1 c2 c3 c4
  obtain ⟨d0, d1, d2, d3, d4, c0, c1, c2, c3, c4⟩ := held2_cells H2
  by_cases hfr : 100 < t.freeB
  · have e1 : decide (100 < t.freeB) = true := decide_eq_true hfr
    clear hmy hrt hru
    go_wp2
    go_ret
    exact ⟨rfl, held2_below H2⟩
  have e1 : decide (100 < t.freeB) = false := decide_eq_false hfr
  have hall := allB_put hrt hmy (by rw [← free_of hrt]; omega) (by omega) hdt hdu
  obtain ⟨X, hX⟩ : ∃ X, t.putB u = X := ⟨_, rfl⟩
  rw [hX] at hall
  have HALL := Lib.hid hall
  have HX := Lib.hid hX
  have hmq := madeQ_one w2 u (.slice a2 u.kids.length cap2) (right_fine hru) (held2_lies H2 HM.out)
  have hbk : Below w2.heap.size w2 (w2.alloc (.cells #[.int .i64 u.k, .int .i64 u.i, .int .i64 u.j, .int .i64 u.n, .slice a2 u.kids.length cap2] 24)) := (Below.refl _ _).alloc (Nat.le_refl _) _
  have H3 := held2_alloc H2 (.cells #[.int .i64 u.k, .int .i64 u.i, .int .i64 u.j, .int .i64 u.n, .slice a2 u.kids.length cap2] 24)
  have hs2 : w.heap.size < w2.heap.size := by have := Below.size (held2_first H2); simp at this; omega
  have hs2' : w.heap.size + 1 < w2.heap.size := by have := Below.size H2; simp at this; omega
  obtain ⟨i0, hi, hz0, hz1, hz2⟩ := info_parts info_term
  have HI := Lib.hid (And.intro hi (And.intro hz0 (And.intro hz1 hz2)))
  have HB2 := Lib.hid (held2_below H2)
  have HL2 := Lib.hid (held2_lies H2 HL.out)
  have HM2 := Lib.hid (held2_lies H2 HM.out)
  have HC2 := Lib.hid (held2_cells H2)
  clear hall hX hi hz0 hz1 hz2 hmy hrt hru hfr H2
  go_upto_region 4 with fail
  generalize w2.alloc (.cells #[.int .i64 u.k, .int .i64 u.i, .int .i64 u.j, .int .i64 u.n, .slice a2 u.kids.length cap2] 24) = w3 at hmq hbk H3 ⊢
  obtain ⟨B, hBe⟩ : ∃ B, w2.heap.size = B := ⟨_, rfl⟩
  have hk3 : Kept w2 w3 := hbk
  rw [hBe] at hmq ⊢
  clear H3 hbk d0 d1 d2 d3 d4 c0 c1 c2 c3 c4
  go_wp2_with fail
  go_loopw [5, 6] (fun v i wr => ∃ (q : Nat) (ps : List (Tm × Value)) (vv : Value), vv = v ∧ q ≤ 100 ∧ i = .int .i64 q ∧ Hid (ps.map (·.1) = u :: varsT q) ∧ MadeQ B B B wr v ps ∧ Kept w2 wr) (fun _ i _ => 100 - (intOf i).toNat)
  case atStart => exact ⟨0, [(u, .slice a2 u.kids.length cap2)], _, rfl, Nat.zero_le _, rfl, rfl, hmq, hk3⟩
  case round =>
    clear hmq hk3
    obtain ⟨q, ps, vv, rfl, hq0, rfl, hps, hmade, hkr⟩ := hrel
    have HPS := Lib.hid hps.out
    have HMD := Lib.hid hmade
    have HKR := Lib.hid hkr
    have hpl : ps.length = q + 1 := by have := congrArg List.length HPS.out; simp [varsT_length] at this; omega
    have HPL := Lib.hid hpl
    have hBr : B ≤ wr.heap.size := by have := Below.size hkr; omega
    clear hps hmade hkr hpl
    by_cases hlt : q < 100
    · go_wp2_with fail
      refine (v7_any q wr).mono ?_
      rintro e wv ⟨rfl, hbv⟩
      have HBV := Lib.hid hbv
      have hsv : wr.heap.size ≤ wv.heap.size := hbv.size
      clear hbv
      go_wp2_with (at_builtin; refine wpList_append_lies _ rfl _ _ 22 rfl B 24 i0 _ 5 56 (by kernel_rfl) HI.out.1 HI.out.2.1 HI.out.2.2.1 HI.out.2.2.2 rfl (by decide) _ ps.length (cells5 ps) rfl (madeQ_later (madeQ_later HMD.out HBV.out) ((Below.refl _ _).alloc (Nat.le_refl _) _)).own ⟨wv.heap.size, 0, none⟩ 1 1 (cells5 [(varT q, .slice none 0 0)]) rfl rfl ?news ?one (by decide) ?max ?bytes ?base _ rfl ?next)
      case news => first | exact news_new _ (varT q) _ _ | exact fun j u h => h
      case one => exact one5 _ _
      case max => have := HPL.out; unfold maxLen; omega
      case bytes => have := HPL.out; omega
      case base => simp; omega
      case next =>
        intro g3 cap3 w4 hown hgrow hat _
        have hmp := madeQ_push HMD.out (Nat.le_refl _) (Nat.le_refl _) hBr (u := varT q) (right_fine (var_right (by omega) (by omega)).2.2) HBV.out (liesQ_nil _ _) _ hown hgrow (by simpa using hat)
        have hk4 : Kept w2 w4 := Below.grown (Below.alloc (HKR.out.trans (Below.mono HBV.out (Below.size HKR.out))) (by have := Below.size HKR.out; omega) _) hgrow (by have := Below.size HKR.out; simp; omega) (by have := madeQ_above HMD.out; intro g hg; have := this g hg; omega)
        clear hown hgrow hat
        go_wp2_with fail
        go_roundw
        case rel => exact ⟨q + 1, ps ++ [(varT q, .slice none 0 0)], _, rfl, hlt, by go_num, by rw [Hid, List.map_append, HPS.out, varsT_succ]; rfl, hmp, hk4⟩
        case measure => simp [intOf]; omega
    · have : q = 100 := by omega
      subst this
      have hlies := (madeQ_lies HMD.out (Nat.le_refl _)).lies
      rw [HPS.out] at hlies
      obtain ⟨la, lcap, LS, rfl, -⟩ := hlies.out
      have hlen : (u :: varsT 100).length = 101 := by simp [varsT_length]
      have CA := all_any t (u :: varsT 100) wr _ _ (HL2.out.keep HKR.out) hlies hdt (by intro x hx; rcases List.mem_cons.1 hx with rfl | hx; exact hdu; exact varsT_deep x hx) (by rw [hlen]; omega)
      rw [HALL.out] at CA
      rw [hlen] at CA ⊢
      have HCA := Lib.hid CA
      obtain ⟨d0, d1, d2, d3, d4, c0, c1, c2, c3, c4⟩ := HC2.out
      have l := fun {p : Addr} {v : Value} (h : w2.cell? p = some v) => cell_lat HKR.out h
      have HCR := Lib.hid (show wr.cell? ⟨w.heap.size, 0, none⟩ = _ ∧ wr.cell? ⟨w.heap.size, 1, none⟩ = _ ∧ wr.cell? ⟨w.heap.size, 2, none⟩ = _ ∧ wr.cell? ⟨w.heap.size, 3, none⟩ = _ ∧ wr.cell? ⟨w.heap.size, 4, none⟩ = _ ∧ wr.cell? ⟨w.heap.size + 1, 0, none⟩ = _ ∧ wr.cell? ⟨w.heap.size + 1, 1, none⟩ = _ ∧ wr.cell? ⟨w.heap.size + 1, 2, none⟩ = _ ∧ wr.cell? ⟨w.heap.size + 1, 3, none⟩ = _ ∧ wr.cell? ⟨w.heap.size + 1, 4, none⟩ = _ from ⟨l d0, l d1, l d2, l d3, l d4, l c0, l c1, l c2, l c3, l c4⟩)
      clear CA hlies hlen d0 d1 d2 d3 d4 c0 c1 c2 c3 c4 l
      obtain ⟨d0, d1, d2, d3, d4, c0, c1, c2, c3, c4⟩ := HCR.out
      go_wp2_with fail
      refine HCA.out.mono ?_
      rintro e w5 ⟨hb5, ⟨x, sx, hxe, rfl, hlx⟩ | ⟨hxe, -⟩⟩
      rotate_left
      · cases hxe
      obtain rfl : X = x := Option.some.inj hxe
      obtain ⟨ax, cx, rfl, -, -⟩ := hlx.out
      have hk5 : Kept w2 w5 := kept_call HKR.out hb5
      have hV : Below w5.heap.size w5 (w5.alloc (.cells #[.int .i64 X.k, .int .i64 X.i, .int .i64 X.j, .int .i64 X.n, .slice ax X.kids.length cx] 24)) := (Below.refl _ _).alloc (Nat.le_refl _) _
      have hqx := alloc_new w5 (.cells #[.int .i64 X.k, .int .i64 X.i, .int .i64 X.j, .int .i64 X.n, .slice ax X.kids.length cx] 24)
      have hlxv := hlx.lies.keep hV
      have hkv : Kept w2 (w5.alloc (.cells #[.int .i64 X.k, .int .i64 X.i, .int .i64 X.j, .int .i64 X.n, .slice ax X.kids.length cx] 24)) := hk5.trans (Below.mono hV (Below.size hk5))
      have hcc := HC2.out
      clear hb5 hlx hV hxe d0 d1 d2 d3 d4 c0 c1 c2 c3 c4
      go_upto_region 9 with fail
      generalize w5.alloc (.cells #[.int .i64 X.k, .int .i64 X.i, .int .i64 X.j, .int .i64 X.n, .slice ax X.kids.length cx] 24) = V at hqx hlxv hkv ⊢
      obtain ⟨gx, hgx⟩ : ∃ g, w5.heap.size = g := ⟨_, rfl⟩
      rw [hgx] at hqx ⊢
      have l := fun {p : Addr} {v : Value} (h : w2.cell? p = some v) => cell_lat hkv h
      obtain ⟨d0, d1, d2, d3, d4, c0, c1, c2, c3, c4⟩ := hcc
      have HC := Lib.hid (And.intro (l d0) (And.intro (l d1) (And.intro (l d2) (And.intro (l d3) (And.intro (l d4) (And.intro (l c0) (And.intro (l c1) (And.intro (l c2) (And.intro (l c3) (And.intro (l c4) (five_cells hqx)))))))))))
      have HLX := Lib.hid hlxv
      have HKV := Lib.hid hkv
      have CPUT : Hid (∀ w', Kept V w' → Calls Try.prog 16 #[tv t (.slice a t.kids.length cap), tv u (.slice a2 u.kids.length cap2)] w' (Makes X w')) := fun w' h => by
        have := put_any t u w' _ _ ((HL2.out.keep hkv).keep h) ((HM2.out.keep hkv).keep h) hdt hdu
        rw [HX.out] at this; exact this
      have hk0 := kept_start V
      clear hqx hlxv hkv hk5 hgx d0 d1 d2 d3 d4 c0 c1 c2 c3 c4 l HCA
      obtain ⟨x00, x01, x02, x03, x04, x10, x11, x12, x13, x14, x20, x21, x22, x23, x24⟩ := HC.out
      go_wp2_with fail
      go_region_held3 (fun w' => Kept V w' ∧ w'.cell? ⟨w.heap.size, 0, none⟩ = some (.int .i64 t.k) ∧ w'.cell? ⟨w.heap.size, 1, none⟩ = some (.int .i64 t.i) ∧ w'.cell? ⟨w.heap.size, 2, none⟩ = some (.int .i64 t.j) ∧ w'.cell? ⟨w.heap.size, 3, none⟩ = some (.int .i64 t.n) ∧ w'.cell? ⟨w.heap.size, 4, none⟩ = some (.slice a t.kids.length cap) ∧ w'.cell? ⟨w.heap.size + 1, 0, none⟩ = some (.int .i64 u.k) ∧ w'.cell? ⟨w.heap.size + 1, 1, none⟩ = some (.int .i64 u.i) ∧ w'.cell? ⟨w.heap.size + 1, 2, none⟩ = some (.int .i64 u.j) ∧ w'.cell? ⟨w.heap.size + 1, 3, none⟩ = some (.int .i64 u.n) ∧ w'.cell? ⟨w.heap.size + 1, 4, none⟩ = some (.slice a2 u.kids.length cap2) ∧ w'.cell? ⟨gx, 0, none⟩ = some (.int .i64 X.k) ∧ w'.cell? ⟨gx, 1, none⟩ = some (.int .i64 X.i) ∧ w'.cell? ⟨gx, 2, none⟩ = some (.int .i64 X.j) ∧ w'.cell? ⟨gx, 3, none⟩ = some (.int .i64 X.n) ∧ w'.cell? ⟨gx, 4, none⟩ = some (.slice ax X.kids.length cx))
        (((with_reducible refine kept_boxes3 ?_ HC.out); repeat (first | with_reducible assumption | with_reducible exact hk0 | with_reducible refine kept_drew ?_ | with_reducible refine kept_alloc ?_ _)))
        (first | (go_at_call 12; have mp := HP.out; have hS := (‹Kept V _ ∧ _›).1; ((with_reducible refine Calls.mono (keepsame_eq X _ _ _ (kept_lies hS HLX.out) mp) ?_); rintro e wn ⟨rfl, hbn⟩; have hh := kept_call hS hbn; clear hbn hS)) | (go_at_call 16; have hS := (‹Kept V _ ∧ _›).1; ((with_reducible refine Calls.mono (CPUT.out _ hS) ?_); rintro e wn ⟨s9, rfl, hl9, hbn⟩; obtain ⟨a9, cap9, rfl, -, -⟩ := hl9.out; have HP := Lib.hid hl9.lies; clear hl9; have hh := kept_call hS hbn; clear hbn hS)) | (go_at_call 17; have hS := (‹Kept V _ ∧ _›).1; ((with_reducible refine Calls.mono (wakes7_any _) ?_); rintro e wn ⟨rfl, hbn⟩; have hh := kept_call hS hbn; clear hbn hS)))
      go_wp2
      go_ret
      exact ⟨rfl, HB2.out.trans ((HKV.out.trans (Below.mono (‹Kept V _ ∧ _›).1 (Below.size HKV.out))).mono HB2.out.size)⟩
end Go.Proofs.Ytmhmengbhdaodaa

/-! The walk of transhiplaw07.PutTwice. -/
namespace Go.Proofs.Ytmhmengbhdaodaa
open Go.RowKit

theorem deeps_most : ∀ (l : List Tm) (B : Nat), (∀ x ∈ l, x.deep ≤ B) → deeps l ≤ B
  | [], B, _ => by simp [deeps]
  | x :: r, B, h => by
    have h1 := h x List.mem_cons_self
    have h2 := deeps_most r B (fun y hy => h y (List.mem_cons_of_mem _ hy))
    simp only [deeps]; omega
theorem each_deepT (f : Int → Int → Option Int) (t : Tm) : ∀ b u, t.each f b = some u → u.deep ≤ t.deep := by
  induction t using Tm.ind with
  | h t ih =>
    intro b u h
    by_cases hk : t.k = 2
    · rw [Tm.each_var f t b hk] at h
      simp only [Option.map_eq_some_iff] at h
      obtain ⟨v, -, rfl⟩ := h
      rw [t.deep_eq, Tm.deep_eq]
      simp [Tm.kids, deeps]
    · rw [Tm.each_node f t b hk] at h
      simp only [Option.map_eq_some_iff] at h
      obtain ⟨m, hm, rfl⟩ := h
      rw [t.deep_eq, Tm.deep_eq]
      have hl := optK_length hm
      have := deeps_most m (deeps t.kids) (fun x hx => by
        obtain ⟨q, hq, rfl⟩ := List.getElem_of_mem hx
        have h1 := optK_get hm q (by omega) hq
        have h2 := ih _ (List.getElem_mem (by omega)) _ _ h1
        have h3 := deeps_get t.kids q (by omega)
        omega)
      show deeps m + 1 ≤ _
      omega
theorem putG_deep (g : Int → Int → Bool → Option Tm) (D : Nat) (hg : ∀ v b pl x, g v b pl = some x → x.deep ≤ D + 1) (t : Tm) : ∀ b pl y, t.putG g b pl = some y → y.deep ≤ t.deep + D := by
  induction t using Tm.ind with
  | h t ih =>
    intro b pl y h
    by_cases hk : t.k = 2
    · rw [t.putG_var _ _ _ hk] at h
      have h1 := hg _ _ _ _ h
      have h2 := t.deep_eq
      omega
    · rw [t.putG_node _ _ _ hk] at h
      simp only [Option.map_eq_some_iff] at h
      obtain ⟨m, hm, rfl⟩ := h
      rw [t.deep_eq, Tm.deep_eq]
      have hl := optK_length hm
      have := deeps_most m (deeps t.kids + D) (fun x hx => by
        obtain ⟨q, hq, rfl⟩ := List.getElem_of_mem hx
        have h1 := optK_get hm q (by omega) hq
        have h2 := ih _ (List.getElem_mem (by omega)) _ _ _ h1
        have h3 := deeps_get t.kids q (by omega)
        omega)
      show deeps m + 1 ≤ _
      omega
theorem putB_deep {u z : Tm} (hru : u.rightB = true) (hmy : mayB u z = true) (hfz : z.freeN ≤ 1048576) (hdu : u.deep ≤ 100000) (hdz : z.deep ≤ 100000) (hz : z.deep ≤ 1000) : (u.putB z).deep ≤ u.deep + 1000 := by
  obtain ⟨x, hx⟩ := put_comes hru (may_right hmy) hfz hdu hdz (decide (12 < u.k))
  rw [putB_good hru hmy hx]
  refine putG_deep (gPut z) 1000 (fun v b pl y hy => ?_) u 0 _ x hx
  unfold gPut at hy
  split at hy
  · cases hy; rw [varT_deep]; omega
  · split at hy
    · have h1 := each_deepT _ _ _ _ hy
      have h2 := bareIf_deep z pl
      omega
    · cases hy; rw [varT_deep]; omega
def StandsE (t u : Tm) : Prop := StandsB t u ∧ t.deep ≤ 1000 ∧ u.deep ≤ 1000
def StandsD (t u : Tm) (w : World) (e : Ending) (w' : World) : Prop := ∃ b : Bool, e = .returned (.bool b) ∧ Below w.heap.size w w' ∧ (b = true → StandsE t u)
set_option maxRecDepth 20000 in
set_option maxHeartbeats 2000000 in
theorem standsE_any (t u : Tm) (w : World) (s r : Value) (hl : Lies w t.kids s) (hm : Lies w u.kids r) : Calls Try.prog 21 #[tv t s, tv u r] w (StandsD t u w) := by
  obtain ⟨a, cap, S, rfl, -⟩ := hl.out
  obtain ⟨a2, cap2, S2, rfl, -⟩ := hm.out
  have HL := Lib.hid hl
  have HM := Lib.hid hm
  have H0 := held2_start w t (.slice a t.kids.length cap) u (.slice a2 u.kids.length cap2)
  clear hl hm
  unfold tv
  go_enter Try.func21, Try.ntmps21
  go_wp2_with fail
  refine (great_any t _ _ 120 (held2_lies H0 HL.out) (by omega) (by omega)).mono ?_
  rintro e w1 ⟨g, rfl, hg, hb'⟩
  have H1 := held2_call H0 hb'
  obtain ⟨d0, d1, d2, d3, d4, c0, c1, c2, c3, c4⟩ := held2_cells H1
  have HG := Lib.hid hg
  clear hg hb' H0
  cases g with
  | true =>
    go_wp2
    go_ret
    exact ⟨false, rfl, held2_below H1, fun h => by cases h⟩
  | false =>
  have hz_t := (HG.out rfl).1
  have hd_t := (HG.out rfl).2
  clear HG
  go_wp2_with fail
  refine (great_any u _ _ 120 (held2_lies H1 HM.out) (by omega) (by omega)).mono ?_
  rintro e w2 ⟨g, rfl, hg, hb'⟩
  have H2 := held2_call H1 hb'
  obtain ⟨d0, d1, d2, d3, d4, c0, c1, c2, c3, c4⟩ := held2_cells H2
  have HG := Lib.hid hg
  clear hg hb' H1
  cases g with
  | true =>
    go_wp2
    go_ret
    exact ⟨false, rfl, held2_below H2, fun h => by cases h⟩
  | false =>
  have hz_u := (HG.out rfl).1
  have hd_u := (HG.out rfl).2
  clear HG
  go_wp2_with fail
  refine (refright_any t _ _ (held2_lies H2 HL.out)).mono ?_
  rintro e w3 ⟨rfl, hb'⟩
  have H3 := held2_call H2 hb'
  obtain ⟨d0, d1, d2, d3, d4, c0, c1, c2, c3, c4⟩ := held2_cells H3
  clear hb' H2
  cases hr_rt : t.rightB with
  | false =>
    go_wp2
    go_ret
    exact ⟨false, rfl, held2_below H3, fun h => by cases h⟩
  | true =>
  have HRrt := Lib.hid hr_rt
  clear hr_rt
  go_wp2_with fail
  refine (refright_any u _ _ (held2_lies H3 HM.out)).mono ?_
  rintro e w4 ⟨rfl, hb'⟩
  have H4 := held2_call H3 hb'
  obtain ⟨d0, d1, d2, d3, d4, c0, c1, c2, c3, c4⟩ := held2_cells H4
  clear hb' H3
  cases hr_ru : u.rightB with
  | false =>
    go_wp2
    go_ret
    exact ⟨false, rfl, held2_below H4, fun h => by cases h⟩
  | true =>
  have HRru := Lib.hid hr_ru
  clear hr_ru
  go_wp2_with fail
  refine (refFree_any t _ _ (held2_lies H4 HL.out)).mono ?_
  rintro e w5 ⟨rfl, hb'⟩
  have H5 := held2_call H4 hb'
  obtain ⟨d0, d1, d2, d3, d4, c0, c1, c2, c3, c4⟩ := held2_cells H5
  clear hb' H4
  by_cases hp1 : 1000 < t.freeB
  · have ep1 : decide (1000 < t.freeB) = true := by simpa using hp1
    go_wp2
    go_ret
    exact ⟨false, rfl, held2_below H5, fun h => by cases h⟩
  have ep1 : decide (1000 < t.freeB) = false := by simpa using hp1
  go_wp2_with fail
  refine (refFree_any u _ _ (held2_lies H5 HM.out)).mono ?_
  rintro e w6 ⟨rfl, hb'⟩
  have H6 := held2_call H5 hb'
  obtain ⟨d0, d1, d2, d3, d4, c0, c1, c2, c3, c4⟩ := held2_cells H6
  clear hb' H5
  by_cases hp2 : 1000 < u.freeB
  · have ep2 : decide (1000 < u.freeB) = true := by simpa using hp2
    go_wp2
    go_ret
    exact ⟨false, rfl, held2_below H6, fun h => by cases h⟩
  have ep2 : decide (1000 < u.freeB) = false := by simpa using hp2
  have hrt : t.rightB = true := HRrt.out
  have hru : u.rightB = true := HRru.out
  have hft := free_of hrt
  have hfu := free_of hru
  have HS : Hid (mayB t u = true → StandsE t u) := fun h => ⟨⟨hrt, hru, by omega, by omega, by omega, by omega, h⟩, by omega, by omega⟩
  have HRU := Lib.hid hru
  clear hz_t hd_t hz_u hd_u hrt hru hft hfu HRrt HRru
  by_cases h1 : t.k = 1
  · have e1 : (t.k == 1) = true := by simpa using h1
    have HY := Lib.hid (show mayB t u = true by unfold mayB; rw [HRU.out, e1]; rfl)
    clear h1
    go_wp2
    go_ret
    exact ⟨true, rfl, held2_below H6, fun _ => HS.out HY.out⟩
  have e1 : (t.k == 1) = false := by simpa using h1
  by_cases h2 : t.k = 2
  · have e2 : (t.k == 2) = true := by simpa using h2
    have HY := Lib.hid (show mayB t u = true by unfold mayB; rw [HRU.out, e1, e2]; rfl)
    clear h1 h2
    go_wp2
    go_ret
    exact ⟨true, rfl, held2_below H6, fun _ => HS.out HY.out⟩
  have e2 : (t.k == 2) = false := by simpa using h2
  clear h1 h2
  go_wp2_with fail
  refine (refplain_any t _ _ (held2_lies H6 HL.out)).mono ?_
  rintro e w9 ⟨rfl, hb9⟩
  have H9 := held2_call H6 hb9
  obtain ⟨d0, d1, d2, d3, d4, c0, c1, c2, c3, c4⟩ := held2_cells H9
  clear hb9
  cases hp : t.plainB with
  | true =>
    have HY := Lib.hid (show mayB t u = true by unfold mayB; rw [HRU.out, e1, e2, hp]; rfl)
    go_wp2
    go_ret
    exact ⟨true, rfl, held2_below H9, fun _ => HS.out HY.out⟩
  | false =>
    have HY := Lib.hid (show mayB t u = u.markedB by unfold mayB; rw [HRU.out, e1, e2, hp]; rfl)
    go_wp2_with fail
    refine (refmarked_any u _ _ (held2_lies H9 HM.out)).mono ?_
    rintro e w10 ⟨rfl, hb10⟩
    have H10 := held2_call H9 hb10
    clear hb10
    go_wp2
    go_ret
    exact ⟨u.markedB, rfl, held2_below H10, fun h => HS.out (HY.out.trans h)⟩
def orB (x z : Tm) : Bool := x.k == 1 || (x.k == 2 || (x.plainB || z.markedB))
def Stands2 (x z : Tm) (w : World) (e : Ending) (w' : World) : Prop := ∃ b : Bool, e = .returned (.bool b) ∧ Below w.heap.size w w' ∧ (b = true → orB x z = true ∧ x.rightB = true ∧ x.deep ≤ 100000)
set_option maxRecDepth 20000 in
set_option maxHeartbeats 2000000 in
theorem stands2_any (x z : Tm) (w : World) (s r : Value) (hl : Lies w x.kids s) (hm : Lies w z.kids r) : Calls Try.prog 24 #[tv x s, tv z r] w (Stands2 x z w) := by
  obtain ⟨a, cap, S, rfl, -⟩ := hl.out
  obtain ⟨a2, cap2, S2, rfl, -⟩ := hm.out
  have HL := Lib.hid hl
  have HM := Lib.hid hm
  have H0 := held2_start w x (.slice a x.kids.length cap) z (.slice a2 z.kids.length cap2)
  clear hl hm
  unfold tv
  go_enter Try.func24, Try.ntmps24
  go_wp2_with fail
  refine (great_any x _ _ 2000 (held2_lies H0 HL.out) (by omega) (by omega)).mono ?_
  rintro e w1 ⟨g, rfl, hg, hb'⟩
  have H1 := held2_call H0 hb'
  obtain ⟨d0, d1, d2, d3, d4, e0, e1, e2, e3, e4⟩ := held2_cells H1
  have HG := Lib.hid hg
  clear hg hb' H0
  cases g with
  | true =>
    go_wp2
    go_ret
    exact ⟨false, rfl, held2_below H1, fun h => by cases h⟩
  | false =>
  have hdx := (HG.out rfl).2
  have HDX := Lib.hid (show x.deep ≤ 100000 by omega)
  clear HG hdx
  by_cases k1 : x.k = 1
  · have f1 : (x.k == 1) = true := by simpa using k1
    have HO := Lib.hid (show orB x z = true by unfold orB; rw [f1]; rfl)
    clear k1
    go_wp2_with fail
    refine (refright_any x _ _ (held2_lies H1 HL.out)).mono ?_
    rintro e w9 ⟨rfl, hb9⟩
    have H9 := held2_call H1 hb9
    go_wp2
    go_ret
    exact ⟨x.rightB, rfl, held2_below H9, fun h => ⟨HO.out, h, HDX.out⟩⟩
  have f1 : (x.k == 1) = false := by simpa using k1
  by_cases k2 : x.k = 2
  · have f2 : (x.k == 2) = true := by simpa using k2
    have HO := Lib.hid (show orB x z = true by unfold orB; rw [f1, f2]; rfl)
    clear k1 k2
    go_wp2_with fail
    refine (refright_any x _ _ (held2_lies H1 HL.out)).mono ?_
    rintro e w9 ⟨rfl, hb9⟩
    have H9 := held2_call H1 hb9
    go_wp2
    go_ret
    exact ⟨x.rightB, rfl, held2_below H9, fun h => ⟨HO.out, h, HDX.out⟩⟩
  have f2 : (x.k == 2) = false := by simpa using k2
  clear k1 k2
  go_wp2_with fail
  refine (refplain_any x _ _ (held2_lies H1 HL.out)).mono ?_
  cases hp : x.plainB with
  | true =>
    rintro e w2 ⟨rfl, hb2⟩
    have H2 := held2_call H1 hb2
    have HO := Lib.hid (show orB x z = true by unfold orB; rw [f1, f2, hp]; rfl)
    clear hb2 H1 d0 d1 d2 d3 d4 e0 e1 e2 e3 e4 hp
    obtain ⟨d0, d1, d2, d3, d4, e0, e1, e2, e3, e4⟩ := held2_cells H2
    go_wp2_with fail
    refine (refright_any x _ _ (held2_lies H2 HL.out)).mono ?_
    rintro e w9 ⟨rfl, hb9⟩
    have H9 := held2_call H2 hb9
    go_wp2
    go_ret
    exact ⟨x.rightB, rfl, held2_below H9, fun h => ⟨HO.out, h, HDX.out⟩⟩
  | false =>
    rintro e w2 ⟨rfl, hb2⟩
    have H2 := held2_call H1 hb2
    clear hb2 H1 d0 d1 d2 d3 d4 e0 e1 e2 e3 e4
    obtain ⟨d0, d1, d2, d3, d4, e0, e1, e2, e3, e4⟩ := held2_cells H2
    go_wp2_with fail
    refine (refmarked_any z _ _ (held2_lies H2 HM.out)).mono ?_
    cases hm : z.markedB with
    | true =>
      rintro e w3 ⟨rfl, hb3⟩
      have H3 := held2_call H2 hb3
      have HO := Lib.hid (show orB x z = true by unfold orB; rw [f1, f2, hp, hm]; rfl)
      clear hb3 H2 d0 d1 d2 d3 d4 e0 e1 e2 e3 e4 hp hm
      obtain ⟨d0, d1, d2, d3, d4, e0, e1, e2, e3, e4⟩ := held2_cells H3
      go_wp2_with fail
      refine (refright_any x _ _ (held2_lies H3 HL.out)).mono ?_
      rintro e w9 ⟨rfl, hb9⟩
      have H9 := held2_call H3 hb9
      go_wp2
      go_ret
      exact ⟨x.rightB, rfl, held2_below H9, fun h => ⟨HO.out, h, HDX.out⟩⟩
    | false =>
      rintro e w3 ⟨rfl, hb3⟩
      have H3 := held2_call H2 hb3
      clear hp hm
      go_wp2
      go_ret
      exact ⟨false, rfl, held2_below H3, fun h => by cases h⟩

/-- A list of two terms, just written. -/
theorem madeQ_two (w : World) (u x : Tm) (s r : Value) (hf : u.fine) (hfx : x.fine) (hl : Lies w u.kids s) (hx : Lies w x.kids r) : MadeQ w.heap.size w.heap.size w.heap.size (w.alloc (.cells #[.int .i64 u.k, .int .i64 u.i, .int .i64 u.j, .int .i64 u.n, s, .int .i64 x.k, .int .i64 x.i, .int .i64 x.j, .int .i64 x.n, r] 24)) (.slice (some ⟨w.heap.size, 0, none⟩) 2 2) [(u, s), (x, r)] := by
  have one : ∀ {m : List Tm} {v : Value}, Lies w m v → LiesQ (w.alloc (.cells #[.int .i64 u.k, .int .i64 u.i, .int .i64 u.j, .int .i64 u.n, s, .int .i64 x.k, .int .i64 x.i, .int .i64 x.j, .int .i64 x.n, r] 24)) (fun b => Far w.heap.size w.heap.size b ∧ (Value.slice (some ⟨w.heap.size, 0, none⟩) 2 2).ownBlock ≠ some b) m v := fun hm =>
    (hm.q.later ((Below.refl _ _).alloc (Nat.le_refl _) _)).wide (fun b hb => ⟨Or.inl hb, by simp [Value.ownBlock]; omega⟩)
  refine ⟨⟨rfl, Or.inr ⟨w.heap.size, 2, _, rfl, Nat.le_refl _, alloc_new _ _, Nat.le_refl _, by decide, rfl, rfl⟩⟩, fun p hp => ?_, fun p hp => ?_⟩
  · simp only [List.mem_cons, List.not_mem_nil, or_false] at hp
    rcases hp with rfl | rfl
    · exact hf
    · exact hfx
  · simp only [List.mem_cons, List.not_mem_nil, or_false] at hp
    rcases hp with rfl | rfl
    · exact one hl
    · exact one hx

set_option maxRecDepth 20000 in
set_option maxHeartbeats 4000000 in
theorem putTwice_any (t u z : Tm) (w : World) (s r q : Value) (hl : Lies w t.kids s) (hm : Lies w u.kids r) (hn : Lies w z.kids q) : Calls Try.prog 7 #[tv t s, tv u r, tv z q] w fun e w' => e = .returned (.bool true) ∧ Below w.heap.size w w' := by
  obtain ⟨a, cap, S, rfl, -⟩ := hl.out
  obtain ⟨a2, cap2, S2, rfl, -⟩ := hm.out
  obtain ⟨a3, cap3, S3, rfl, -⟩ := hn.out
  have hB := below_three w (.cells #[.int .i64 t.k, .int .i64 t.i, .int .i64 t.j, .int .i64 t.n, .slice a t.kids.length cap] 24) (.cells #[.int .i64 u.k, .int .i64 u.i, .int .i64 u.j, .int .i64 u.n, .slice a2 u.kids.length cap2] 24) (.cells #[.int .i64 z.k, .int .i64 z.i, .int .i64 z.j, .int .i64 z.n, .slice a3 z.kids.length cap3] 24)
  obtain ⟨q0, q1, q2, -⟩ := heap_three w (.cells #[.int .i64 t.k, .int .i64 t.i, .int .i64 t.j, .int .i64 t.n, .slice a t.kids.length cap] 24) (.cells #[.int .i64 u.k, .int .i64 u.i, .int .i64 u.j, .int .i64 u.n, .slice a2 u.kids.length cap2] 24) (.cells #[.int .i64 z.k, .int .i64 z.i, .int .i64 z.j, .int .i64 z.n, .slice a3 z.kids.length cap3] 24)
  have hlt := hl.keep hB
  have hlu := hm.keep hB
  have hlz := hn.keep hB
  clear hl hm hn
  unfold tv
  go_enter Try.func7, Try.ntmps7
  go_upto_region 1 with fail
  generalize ((w.alloc (.cells #[.int .i64 t.k, .int .i64 t.i, .int .i64 t.j, .int .i64 t.n, .slice a t.kids.length cap] 24)).alloc (.cells #[.int .i64 u.k, .int .i64 u.i, .int .i64 u.j, .int .i64 u.n, .slice a2 u.kids.length cap2] 24)).alloc (.cells #[.int .i64 z.k, .int .i64 z.i, .int .i64 z.j, .int .i64 z.n, .slice a3 z.kids.length cap3] 24) = V at hB q0 q1 q2 hlt hlu hlz ⊢
  have HC := Lib.hid (and_five (five_cells q0) (and_five (five_cells q1) (five_cells q2)))
  have hsV0 : w.heap.size < V.heap.size := block_lt q0
  have hsV1 : w.heap.size + 1 < V.heap.size := block_lt q1
  have hsV2 : w.heap.size + 1 + 1 < V.heap.size := block_lt q2
  have HB := Lib.hid hB
  have HLT := Lib.hid hlt
  have HLU := Lib.hid hlu
  have HLZ := Lib.hid hlz
  have hk0 := kept_start V
  clear hB q0 q1 q2 hlt hlu hlz
  obtain ⟨x00, x01, x02, x03, x04, x10, x11, x12, x13, x14, x20, x21, x22, x23, x24⟩ := HC.out
  go_wp2_with fail
  refine (standsE_any t u _ _ _ HLT.out HLU.out).mono ?_
  rintro e w1 ⟨b, rfl, hb1, hst⟩
  have hk1 := kept_call hk0 hb1
  have HST1 := Lib.hid hst
  clear hb1 hst x00 x01 x02 x03 x04 x10 x11 x12 x13 x14 x20 x21 x22 x23 x24
  obtain ⟨-, x00, x01, x02, x03, x04, x10, x11, x12, x13, x14, x20, x21, x22, x23, x24⟩ := kept_boxes3 hk1 HC.out
  cases b with
  | false =>
    go_wp2
    go_ret
    exact ⟨rfl, HB.out.trans (hk1.mono HB.out.size)⟩
  | true =>
  go_wp2_with fail
  refine (standsE_any t z _ _ _ (HLT.out.keep hk1) (HLZ.out.keep hk1)).mono ?_
  rintro e w2 ⟨b, rfl, hb2, hst⟩
  have hk2 := kept_call hk1 hb2
  have HST2 := Lib.hid hst
  clear hb2 hst x00 x01 x02 x03 x04 x10 x11 x12 x13 x14 x20 x21 x22 x23 x24
  obtain ⟨-, x00, x01, x02, x03, x04, x10, x11, x12, x13, x14, x20, x21, x22, x23, x24⟩ := kept_boxes3 hk2 HC.out
  cases b with
  | false =>
    go_wp2
    go_ret
    exact ⟨rfl, HB.out.trans (hk2.mono HB.out.size)⟩
  | true =>
  go_wp2_with fail
  refine (standsE_any u z _ _ _ (HLU.out.keep hk2) (HLZ.out.keep hk2)).mono ?_
  rintro e w3 ⟨b, rfl, hb3, hst⟩
  have hk3 := kept_call hk2 hb3
  have HST3 := Lib.hid hst
  clear hb3 hst x00 x01 x02 x03 x04 x10 x11 x12 x13 x14 x20 x21 x22 x23 x24
  obtain ⟨-, x00, x01, x02, x03, x04, x10, x11, x12, x13, x14, x20, x21, x22, x23, x24⟩ := kept_boxes3 hk3 HC.out
  cases b with
  | false =>
    go_wp2
    go_ret
    exact ⟨rfl, HB.out.trans (hk3.mono HB.out.size)⟩
  | true =>
  obtain ⟨hrt, hru, hdt, hdu, hft, hfu, hmtu⟩ := (HST1.out (by first | rfl | trivial)).1
  obtain ⟨-, hrz, -, hdz, -, hfz, hmtz⟩ := (HST2.out (by first | rfl | trivial)).1
  obtain ⟨-, -, -, -, -, -, hmuz⟩ := (HST3.out (by first | rfl | trivial)).1
  have HUD := Lib.hid (HST3.out (by first | rfl | trivial)).2
  clear HST1 HST2 HST3
  go_wp2_with fail
  refine (refFree_any t _ _ (HLT.out.keep hk3)).mono ?_
  rintro e w4 ⟨rfl, hb4⟩
  have hk4 := kept_call hk3 hb4
  clear hb4 x00 x01 x02 x03 x04 x10 x11 x12 x13 x14 x20 x21 x22 x23 x24
  obtain ⟨-, x00, x01, x02, x03, x04, x10, x11, x12, x13, x14, x20, x21, x22, x23, x24⟩ := kept_boxes3 hk4 HC.out
  by_cases hfr : 100 < t.freeB
  · have e1 : decide (100 < t.freeB) = true := decide_eq_true hfr
    clear hmtu hmtz hmuz hrt hru hrz
    go_wp2
    go_ret
    exact ⟨rfl, HB.out.trans (hk4.mono HB.out.size)⟩
  have e1 : decide (100 < t.freeB) = false := decide_eq_false hfr
  have hft' : t.freeN ≤ 100 := by rw [← free_of hrt]; omega
  have HF := Lib.hid (And.intro hrt (And.intro hru (And.intro hrz (And.intro hdt (And.intro hdu (And.intro hdz (And.intro hft' (And.intro (show u.freeN ≤ 1048576 by omega) (And.intro (show z.freeN ≤ 1048576 by omega) (And.intro hmtu (And.intro hmtz hmuz)))))))))))
  obtain ⟨X, hX⟩ : ∃ X, t.putB u = X := ⟨_, rfl⟩
  have HX := Lib.hid hX
  clear hX hmtu hmtz hmuz hrt hru hrz hdt hdu hdz hft hfu hfz hft' hfr
  have CP := put_any t u w4 _ _ (HLT.out.keep hk4) (HLU.out.keep hk4) HF.out.2.2.2.1 HF.out.2.2.2.2.1
  rw [HX.out] at CP
  go_wp2_with fail
  refine CP.mono ?_
  clear CP
  rintro e w5 ⟨sx, rfl, hlx, hb5⟩
  obtain ⟨ax, cx, rfl, -, -⟩ := hlx.out
  have hk5 := kept_call hk4 hb5
  have hkx : Kept V (w5.alloc (.cells #[.int .i64 X.k, .int .i64 X.i, .int .i64 X.j, .int .i64 X.n, .slice ax X.kids.length cx] 24)) := kept_alloc hk5 _
  have hqx := alloc_new w5 (.cells #[.int .i64 X.k, .int .i64 X.i, .int .i64 X.j, .int .i64 X.n, .slice ax X.kids.length cx] 24)
  have hlx6 : Lies (w5.alloc (.cells #[.int .i64 X.k, .int .i64 X.i, .int .i64 X.j, .int .i64 X.n, .slice ax X.kids.length cx] 24)) X.kids (.slice ax X.kids.length cx) := hlx.lies.keep ((Below.refl _ _).alloc (Nat.le_refl _) _)
  clear hb5 hlx hk5 x00 x01 x02 x03 x04 x10 x11 x12 x13 x14 x20 x21 x22 x23 x24
  go_upto_region 4 with fail
  generalize w5.alloc (.cells #[.int .i64 X.k, .int .i64 X.i, .int .i64 X.j, .int .i64 X.n, .slice ax X.kids.length cx] 24) = w6 at hkx hqx hlx6 ⊢
  obtain ⟨gx, hgx⟩ : ∃ g, w5.heap.size = g := ⟨_, rfl⟩
  rw [hgx] at hqx ⊢
  have HK6 := Lib.hid hkx
  have HQX := Lib.hid hqx
  have HLX := Lib.hid hlx6
  obtain ⟨-, x00, x01, x02, x03, x04, x10, x11, x12, x13, x14, x20, x21, x22, x23, x24⟩ := kept_boxes3 hkx HC.out
  obtain ⟨y0, y1, y2, y3, y4⟩ := five_cells hqx
  clear hkx hqx hlx6 hgx hk4 hk3 hk0
  go_wp2_with fail
  refine (stands2_any X z _ _ _ HLX.out (HLZ.out.keep HK6.out)).mono ?_
  rintro e w7 ⟨b, rfl, hb7, hs2⟩
  have hk67 : Kept w6 w7 := hb7
  have HS2 := Lib.hid hs2
  clear hb7 hs2 x00 x01 x02 x03 x04 x10 x11 x12 x13 x14 x20 x21 x22 x23 x24 y0 y1 y2 y3 y4
  cases b with
  | false =>
    go_wp2_with fail
    refine (wakes7_any _).mono ?_
    rintro e w8 ⟨rfl, hb8⟩
    go_wp2
    go_ret
    exact ⟨rfl, HB.out.trans ((HK6.out.trans ((kept_call hk67 hb8).mono (Below.size HK6.out))).mono HB.out.size)⟩
  | true =>
  obtain ⟨hor, hrX, hdX⟩ := HS2.out rfl
  have hmX : mayB X z = true := by
    unfold mayB
    rw [HF.out.2.2.1]
    exact hor
  obtain ⟨hrt, hru, hrz, hdt, hdu, hdz, hft, hfu, hfz, hmtu, hmtz, hmuz⟩ := HF.out
  have hall := put_twice hrt hmtu hmtz hmuz hft hfu hfz hdt hdu hdz HX.out hrX hmX hdX
  obtain ⟨Y, hY⟩ : ∃ Y, u.putB z = Y := ⟨_, rfl⟩
  obtain ⟨R, hR⟩ : ∃ R, X.putB z = R := ⟨_, rfl⟩
  rw [hY, hR] at hall
  have hYf := (putB_keeps hru hmuz hfz hdu hdz)
  rw [hY] at hYf
  have HALL := Lib.hid hall
  have HY := Lib.hid hY
  have HR := Lib.hid hR
  have HYF := Lib.hid (right_fine hYf.1)
  have HZF := Lib.hid (right_fine hrz)
  have hkV7 : Kept V w7 := HK6.out.trans (hk67.mono (Below.size HK6.out))
  have HK7 := Lib.hid hkV7
  have HK67 := Lib.hid hk67
  have HDX := Lib.hid hdX
  clear hall hY hR hYf hor hrX hmX hrt hru hrz hdt hdu hft hfu hfz hmtu hmtz hmuz HS2
  obtain ⟨-, x00, x01, x02, x03, x04, x10, x11, x12, x13, x14, x20, x21, x22, x23, x24⟩ := kept_boxes3 hkV7 HC.out
  have CPU : Hid (∀ w', Kept w7 w' → Calls Try.prog 16 #[tv u (.slice a2 u.kids.length cap2), tv z (.slice a3 z.kids.length cap3)] w' (Makes Y w')) := fun w' h => by
    have := put_any u z w' _ _ ((HLU.out.keep HK7.out).keep h) ((HLZ.out.keep HK7.out).keep h) HF.out.2.2.2.2.1 hdz
    rw [HY.out] at this; exact this
  have HC7 := Lib.hid (kept_boxes3 hkV7 HC.out).2
  have hk0 := kept_start w7
  clear hkV7 hk67
  go_wp2_with fail
  go_region_held3 (fun w' => Kept w7 w' ∧ w'.cell? ⟨w.heap.size, 0, none⟩ = some (.int .i64 t.k) ∧ w'.cell? ⟨w.heap.size, 1, none⟩ = some (.int .i64 t.i) ∧ w'.cell? ⟨w.heap.size, 2, none⟩ = some (.int .i64 t.j) ∧ w'.cell? ⟨w.heap.size, 3, none⟩ = some (.int .i64 t.n) ∧ w'.cell? ⟨w.heap.size, 4, none⟩ = some (.slice a t.kids.length cap) ∧ w'.cell? ⟨w.heap.size + 1, 0, none⟩ = some (.int .i64 u.k) ∧ w'.cell? ⟨w.heap.size + 1, 1, none⟩ = some (.int .i64 u.i) ∧ w'.cell? ⟨w.heap.size + 1, 2, none⟩ = some (.int .i64 u.j) ∧ w'.cell? ⟨w.heap.size + 1, 3, none⟩ = some (.int .i64 u.n) ∧ w'.cell? ⟨w.heap.size + 1, 4, none⟩ = some (.slice a2 u.kids.length cap2) ∧ w'.cell? ⟨w.heap.size + 1 + 1, 0, none⟩ = some (.int .i64 z.k) ∧ w'.cell? ⟨w.heap.size + 1 + 1, 1, none⟩ = some (.int .i64 z.i) ∧ w'.cell? ⟨w.heap.size + 1 + 1, 2, none⟩ = some (.int .i64 z.j) ∧ w'.cell? ⟨w.heap.size + 1 + 1, 3, none⟩ = some (.int .i64 z.n) ∧ w'.cell? ⟨w.heap.size + 1 + 1, 4, none⟩ = some (.slice a3 z.kids.length cap3))
    (((with_reducible refine kept_boxes3 ?_ HC7.out); repeat (first | with_reducible assumption | with_reducible exact hk0 | with_reducible refine kept_drew ?_ | with_reducible refine kept_alloc ?_ _)))
    (first | (go_at_call 16; have hS := (‹Kept w7 _ ∧ _›).1; ((with_reducible refine Calls.mono (CPU.out _ hS) ?_); rintro e wn ⟨sy, rfl, hly, hbn⟩; obtain ⟨ay, cy, rfl, -, -⟩ := hly.out; have HLY := Lib.hid hly.lies; have hhn := kept_call hS hbn; clear hly hbn hS)))
  have hmq := madeQ_two wn Y z (.slice ay Y.kids.length cy) (.slice a3 z.kids.length cap3) HYF.out HZF.out HLY.out ((HLZ.out.keep HK7.out).keep hhn)
  have hkw : Kept w7 (wn.alloc (.cells #[.int .i64 Y.k, .int .i64 Y.i, .int .i64 Y.j, .int .i64 Y.n, .slice ay Y.kids.length cy, .int .i64 z.k, .int .i64 z.i, .int .i64 z.j, .int .i64 z.n, .slice a3 z.kids.length cap3] 24)) := kept_alloc hhn _
  obtain ⟨i0, hi, hz0, hz1, hz2⟩ := info_parts info_term
  have HI := Lib.hid (And.intro hi (And.intro hz0 (And.intro hz1 hz2)))
  have hswn : w7.heap.size ≤ wn.heap.size := Below.size hhn
  clear hi hz0 hz1 hz2 hhn x00 x01 x02 x03 x04 x10 x11 x12 x13 x14 x20 x21 x22 x23 x24
  go_upto_region 7 with fail
  generalize wn.alloc (.cells #[.int .i64 Y.k, .int .i64 Y.i, .int .i64 Y.j, .int .i64 Y.n, .slice ay Y.kids.length cy, .int .i64 z.k, .int .i64 z.i, .int .i64 z.j, .int .i64 z.n, .slice a3 z.kids.length cap3] 24) = w8 at hmq hkw ⊢
  obtain ⟨B, hBe⟩ : ∃ B, wn.heap.size = B := ⟨_, rfl⟩
  rw [hBe] at hmq hswn ⊢
  clear hBe
  go_wp2_with fail
  go_loopw [8, 9] (fun v i wr => ∃ (q : Nat) (ps : List (Tm × Value)) (vv : Value), vv = v ∧ q ≤ 100 ∧ i = .int .i64 q ∧ Hid (ps.map (·.1) = Y :: z :: varsT q) ∧ MadeQ B B B wr v ps ∧ Kept w7 wr ∧ B ≤ wr.heap.size) (fun _ i _ => 100 - (intOf i).toNat)
  case atStart => exact ⟨0, [(Y, .slice ay Y.kids.length cy), (z, .slice a3 z.kids.length cap3)], _, rfl, Nat.zero_le _, rfl, rfl, hmq, hkw, Nat.le_of_lt (madeQ_block hmq rfl).2⟩
  case round =>
    clear hmq hkw
    obtain ⟨q, ps, vv, rfl, hq0, rfl, hps, hmade, hkr, hBr⟩ := hrel
    have HPS := Lib.hid hps.out
    have HMD := Lib.hid hmade
    have HKR := Lib.hid hkr
    have hpl : ps.length = q + 2 := by have := congrArg List.length HPS.out; simp [varsT_length] at this; omega
    have HPL := Lib.hid hpl
    clear hps hmade hkr hpl
    by_cases hlt : q < 100
    · go_wp2_with fail
      refine (v7_any q wr).mono ?_
      rintro e wv ⟨rfl, hbv⟩
      have HBV := Lib.hid hbv
      have hsv : wr.heap.size ≤ wv.heap.size := hbv.size
      clear hbv
      go_wp2_with (at_builtin; refine wpList_append_lies _ rfl _ _ 22 rfl B 24 i0 _ 5 56 (by kernel_rfl) HI.out.1 HI.out.2.1 HI.out.2.2.1 HI.out.2.2.2 rfl (by decide) _ ps.length (cells5 ps) rfl (madeQ_later (madeQ_later HMD.out HBV.out) ((Below.refl _ _).alloc (Nat.le_refl _) _)).own ⟨wv.heap.size, 0, none⟩ 1 1 (cells5 [(varT q, .slice none 0 0)]) rfl rfl ?news ?one (by decide) ?max ?bytes ?base _ rfl ?next)
      case news => first | exact news_new _ (varT q) _ _ | exact fun j u h => h
      case one => exact one5 _ _
      case max => have := HPL.out; unfold maxLen; omega
      case bytes => have := HPL.out; omega
      case base => simp; omega
      case next =>
        intro g3 cap4 w9 hown hgrow hat _
        have hmp := madeQ_push HMD.out (Nat.le_refl _) (Nat.le_refl _) hBr (u := varT q) (right_fine (var_right (by omega) (by omega)).2.2) HBV.out (liesQ_nil _ _) _ hown hgrow (by simpa using hat)
        have hk9 : Kept w7 w9 := Below.grown (Below.alloc (HKR.out.trans (Below.mono HBV.out (Below.size HKR.out))) (by have := Below.size HKR.out; omega) _) hgrow (by have := Below.size HKR.out; simp; omega) (by have := madeQ_above HMD.out; intro g hg; have := this g hg; omega)
        have hB9 : B ≤ w9.heap.size := by have := (madeQ_block hmp rfl).1; have := (madeQ_block hmp rfl).2; omega
        clear hown hgrow hat
        go_wp2_with fail
        go_roundw
        case rel => exact ⟨q + 1, ps ++ [(varT q, .slice none 0 0)], _, rfl, hlt, by go_num, by rw [Hid, List.map_append, HPS.out, varsT_succ]; rfl, hmp, hk9, hB9⟩
        case measure => simp [intOf]; omega
    · have : q = 100 := by omega
      subst this
      have hlies := (madeQ_lies HMD.out (Nat.le_refl _)).lies
      rw [HPS.out] at hlies
      obtain ⟨la, lcap, LS, rfl, -⟩ := hlies.out
      have hlen : (Y :: z :: varsT 100).length = 102 := by simp [varsT_length]
      have hkVr : Kept V wr := HK7.out.trans (HKR.out.mono (Below.size HK7.out))
      have hk6r : Kept w6 wr := HK67.out.trans (HKR.out.mono (Below.size HK67.out))
      have hYd : Y.deep ≤ 100000 := by have := putB_deep (hru := HF.out.2.1) (hmy := HF.out.2.2.2.2.2.2.2.2.2.2.2) (hfz := HF.out.2.2.2.2.2.2.2.2.1) HF.out.2.2.2.2.1 hdz HUD.out.2; rw [HY.out] at this; have := HUD.out.1; omega
      have CA := all_any t (Y :: z :: varsT 100) wr _ _ (HLT.out.keep hkVr) hlies HF.out.2.2.2.1 (by intro x hx; rcases List.mem_cons.1 hx with rfl | hx; exact hYd; rcases List.mem_cons.1 hx with rfl | hx; exact hdz; exact varsT_deep x hx) (by rw [hlen]; omega)
      rw [HALL.out] at CA
      rw [hlen] at CA ⊢
      have HCA := Lib.hid CA
      have HKVR := Lib.hid hkVr
      have HK6R := Lib.hid hk6r
      clear CA hlies hlen
      obtain ⟨-, x00, x01, x02, x03, x04, x10, x11, x12, x13, x14, x20, x21, x22, x23, x24⟩ := kept_boxes3 hkVr HC.out
      go_wp2_with fail
      refine HCA.out.mono ?_
      rintro e w5 ⟨hb5, ⟨W, sw, hxe, rfl, hlw⟩ | ⟨hxe, -⟩⟩
      rotate_left
      · cases hxe
      obtain rfl : R = W := Option.some.inj hxe
      obtain ⟨aw, cw, rfl, -, -⟩ := hlw.out
      have hk5 : Kept w6 w5 := kept_call HK6R.out hb5
      have hkV5 : Kept V w5 := kept_call HKVR.out hb5
      have hV : Below w5.heap.size w5 (w5.alloc (.cells #[.int .i64 R.k, .int .i64 R.i, .int .i64 R.j, .int .i64 R.n, .slice aw R.kids.length cw] 24)) := (Below.refl _ _).alloc (Nat.le_refl _) _
      have hqr := alloc_new w5 (.cells #[.int .i64 R.k, .int .i64 R.i, .int .i64 R.j, .int .i64 R.n, .slice aw R.kids.length cw] 24)
      have hlr := hlw.lies.keep hV
      have hk6v : Kept w6 (w5.alloc (.cells #[.int .i64 R.k, .int .i64 R.i, .int .i64 R.j, .int .i64 R.n, .slice aw R.kids.length cw] 24)) := kept_alloc hk5 _
      have hkVv : Kept V (w5.alloc (.cells #[.int .i64 R.k, .int .i64 R.i, .int .i64 R.j, .int .i64 R.n, .slice aw R.kids.length cw] 24)) := kept_alloc hkV5 _
      clear hb5 hlw hV hxe hk5 hkV5 x00 x01 x02 x03 x04 x10 x11 x12 x13 x14 x20 x21 x22 x23 x24
      go_upto_region 12 with fail
      generalize w5.alloc (.cells #[.int .i64 R.k, .int .i64 R.i, .int .i64 R.j, .int .i64 R.n, .slice aw R.kids.length cw] 24) = U at hqr hlr hk6v hkVv ⊢
      obtain ⟨gr, hgr⟩ : ∃ g, w5.heap.size = g := ⟨_, rfl⟩
      rw [hgr] at hqr ⊢
      have hqx := keep_block hk6v (block_lt HQX.out) HQX.out
      obtain ⟨-, -, -, -, -, -, -, -, -, -, -, e0, e1, e2, e3, e4⟩ := kept_boxes3 hkVv HC.out
      have HCU := Lib.hid (and_five (five_cells hqx) (and_five (And.intro e0 (And.intro e1 (And.intro e2 (And.intro e3 e4)))) (five_cells hqr)))
      have HLR := Lib.hid hlr
      have HKU := Lib.hid hkVv
      have CPR : Hid (∀ w', Kept U w' → Calls Try.prog 16 #[tv X (.slice ax X.kids.length cx), tv z (.slice a3 z.kids.length cap3)] w' (Makes R w')) := fun w' h => by
        have := put_any X z w' _ _ ((HLX.out.keep hk6v).keep h) ((HLZ.out.keep hkVv).keep h) HDX.out hdz
        rw [HR.out] at this; exact this
      have hk0 := kept_start U
      clear hqr hlr hk6v hkVv hgr hqx e0 e1 e2 e3 e4 HCA
      obtain ⟨x00, x01, x02, x03, x04, x10, x11, x12, x13, x14, x20, x21, x22, x23, x24⟩ := HCU.out
      go_wp2_with fail
      go_region_held3 (fun w' => Kept U w' ∧ w'.cell? ⟨gx, 0, none⟩ = some (.int .i64 X.k) ∧ w'.cell? ⟨gx, 1, none⟩ = some (.int .i64 X.i) ∧ w'.cell? ⟨gx, 2, none⟩ = some (.int .i64 X.j) ∧ w'.cell? ⟨gx, 3, none⟩ = some (.int .i64 X.n) ∧ w'.cell? ⟨gx, 4, none⟩ = some (.slice ax X.kids.length cx) ∧ w'.cell? ⟨w.heap.size + 1 + 1, 0, none⟩ = some (.int .i64 z.k) ∧ w'.cell? ⟨w.heap.size + 1 + 1, 1, none⟩ = some (.int .i64 z.i) ∧ w'.cell? ⟨w.heap.size + 1 + 1, 2, none⟩ = some (.int .i64 z.j) ∧ w'.cell? ⟨w.heap.size + 1 + 1, 3, none⟩ = some (.int .i64 z.n) ∧ w'.cell? ⟨w.heap.size + 1 + 1, 4, none⟩ = some (.slice a3 z.kids.length cap3) ∧ w'.cell? ⟨gr, 0, none⟩ = some (.int .i64 R.k) ∧ w'.cell? ⟨gr, 1, none⟩ = some (.int .i64 R.i) ∧ w'.cell? ⟨gr, 2, none⟩ = some (.int .i64 R.j) ∧ w'.cell? ⟨gr, 3, none⟩ = some (.int .i64 R.n) ∧ w'.cell? ⟨gr, 4, none⟩ = some (.slice aw R.kids.length cw))
        (((with_reducible refine kept_boxes3 ?_ HCU.out); repeat (first | with_reducible assumption | with_reducible exact hk0 | with_reducible refine kept_drew ?_ | with_reducible refine kept_alloc ?_ _)))
        (first | (go_at_call 12; have mp := HP.out; have hS := (‹Kept U _ ∧ _›).1; ((with_reducible refine Calls.mono (keepsame_eq R _ _ _ mp (kept_lies hS HLR.out)) ?_); rintro e wm ⟨rfl, hbn⟩; have hh := kept_call hS hbn; clear hbn hS)) | (go_at_call 16; have hS := (‹Kept U _ ∧ _›).1; ((with_reducible refine Calls.mono (CPR.out _ hS) ?_); rintro e wm ⟨s9, rfl, hl9, hbn⟩; obtain ⟨a9, cap9, rfl, -, -⟩ := hl9.out; have HP := Lib.hid hl9.lies; clear hl9; have hh := kept_call hS hbn; clear hbn hS)) | (go_at_call 17; have hS := (‹Kept U _ ∧ _›).1; ((with_reducible refine Calls.mono (wakes7_any _) ?_); rintro e wm ⟨rfl, hbn⟩; have hh := kept_call hS hbn; clear hbn hS)))
      go_wp2
      go_ret
      exact ⟨rfl, HB.out.trans ((HKU.out.trans (Below.mono (‹Kept U _ ∧ _›).1 (Below.size HKU.out))).mono HB.out.size)⟩
end Go.Proofs.Ytmhmengbhdaodaa

/-! A term that is handed in, opened: it is a tree that lies in the world. -/
namespace Go.Proofs.Ytmhmengbhdaodaa
open Go.ChangeShapes Go.WideShapes Go.ChangeAt Go.RowKit

theorem own : ownKnob Try.prog.godebug = none := by kernel_rfl
theorem cells_int : Try.prog.cellsOf 3 = 1 := by kernel_rfl
theorem cells_kids : Try.prog.cellsOf 22 = 1 := by kernel_rfl
theorem cells_term : Try.prog.cellsOf 24 = 5 := by kernel_rfl
theorem laidOut : laidOutB Try.prog = true := by kernel_rfl

instance instOpenTm : Inhabited (Tm × Value) := ⟨(.mk 0 0 0 0 [], .nilIface)⟩

theorem list5 {α : Type} {l : List α} (h : l.length = 5) : ∃ a b c d e, l = [a, b, c, d, e] := by
  match l, h with
  | [a, b, c, d, e], _ => exact ⟨a, b, c, d, e, rfl⟩

theorem wf_I64 {x : Int} (h : (Lit.int .i64 x).wf = true) : I64 x := by
  simp [Lit.wf] at h
  have hm : IntKind.i64.min = -9223372036854775808 := by decide
  rw [hm] at h
  exact h

set_option maxRecDepth 100000 in
theorem open_term {H : Type} {enc : TypeId × Value → H} {w : World} {base : Nat} {sp : Nat → Bool} {hd : Bool} : ∀ (fuel : Nat) (cs : List Value) (x : DataW H × List MemPlace),
    DataW.trod enc Try.prog w base sp hd fuel 24 cs = some x → ∃ (t : Tm) (s : Value), cs = [.int .i64 t.k, .int .i64 t.i, .int .i64 t.j, .int .i64 t.n, s] ∧ t.fine ∧ Lies w t.kids s := by
  intro fuel
  induction fuel using Nat.strongRecOn with
  | _ fuel ih =>
    intro cs x h
    obtain ⟨xs, n, rfl, rfl, hl, hlen, hf⟩ := DataW.trod_struct Try.underlying24 h
    rw [cells_term] at hl
    obtain ⟨v0, v1, v2, v3, v4, rfl⟩ := list5 hl
    obtain ⟨y0, y1, y2, y3, y4, rfl⟩ := list5 hlen
    have g0 := hf 0 _ rfl
    have g1 := hf 1 _ rfl
    have g2 := hf 2 _ rfl
    have g3 := hf 3 _ rfl
    have g4 := hf 4 _ rfl
    simp [cells_int, cells_kids] at g0 g1 g2 g3 g4
    obtain ⟨k, e0, -, w0⟩ := DataW.trod_int Try.underlying3 g0
    obtain ⟨i, e1, -, w1⟩ := DataW.trod_int Try.underlying3 g1
    obtain ⟨j, e2, -, w2⟩ := DataW.trod_int Try.underlying3 g2
    obtain ⟨m, e3, -, w3⟩ := DataW.trod_int Try.underlying3 g3
    simp at e0 e1 e2 e3
    subst e0 e1 e2 e3
    rcases DataW.trod_slice Try.underlying22 g4 with ⟨e4, -⟩ | ⟨a, len, cap, elems, rest, n', rfl, e4, -, hb, hlc, hm, hlen', hel, -, -⟩
    · simp at e4
      subst e4
      exact ⟨.mk k i j m [], _, rfl, ⟨wf_I64 w0, wf_I64 w1, wf_I64 w2, wf_I64 w3⟩, .mk [] none 0 (fun _ => .nilIface) (Nat.le_refl _) (by decide) (fun _ h => by cases h) (fun _ h => by cases h) (fun _ h => by cases h)⟩
    · simp at e4
      subst e4
      have key : ∀ i, i < len → ∃ p : Tm × Value, p.1.fine ∧ Lies w p.1.kids p.2 ∧ ∃ b o, a = ⟨b, o, none⟩ ∧ Node w b (o + i * 5) p.1 p.2 := by
        intro i hi
        have h1 := hel i hi
        rw [cells_term, List.getElem?_eq_getElem (by omega)] at h1
        obtain ⟨cs', h2, h3⟩ := Option.bind_eq_some_iff.1 h1
        obtain ⟨t, s, rfl, hfine, hlies⟩ := ih n' (by omega) _ _ h3
        obtain ⟨-, -, hcell⟩ := World.cells?_some h2
        have hs0 : a.spot = none := by
          have h1 := hel 0 (by omega)
          rw [cells_term, List.getElem?_eq_getElem (by omega)] at h1
          obtain ⟨cs0, h2, -⟩ := Option.bind_eq_some_iff.1 h1
          obtain ⟨-, hl0, hc0⟩ := World.cells?_some h2
          have c0 := hc0 0 (by omega)
          rw [List.getElem?_eq_getElem (by omega)] at c0
          simpa [Addr.add] using World.cell?_spot c0
        obtain ⟨b, o, spot⟩ := a
        simp only at hs0
        subst hs0
        refine ⟨(t, s), hfine, hlies, b, o, rfl, ?_⟩
        have hc : ∀ q, q < 5 → w.cell? ⟨b, o + i * 5 + q, none⟩ = [Value.int .i64 t.k, .int .i64 t.i, .int .i64 t.j, .int .i64 t.n, s][q]? := fun q hq => by
          have := hcell q hq
          rwa [add_plain, add_plain] at this
        exact ⟨hc 0 (by omega), hc 1 (by omega), hc 2 (by omega), hc 3 (by omega), hc 4 (by omega)⟩
      obtain ⟨f, hf'⟩ := Go.Deep.choose_lt (α := Tm × Value) (p := fun i p => p.1.fine ∧ Lies w p.1.kids p.2 ∧ ∃ b o, a = ⟨b, o, none⟩ ∧ Node w b (o + i * 5) p.1 p.2) key
      have hl5 : ((List.range len).map fun i => (f i).1).length = len := by simp
      refine ⟨.mk k i j m ((List.range len).map fun i => (f i).1), _, rfl, ⟨wf_I64 w0, wf_I64 w1, wf_I64 w2, wf_I64 w3⟩, ?_⟩
      have := Lies.mk (w := w) ((List.range len).map fun i => (f i).1) (some a) cap (fun i => (f i).2) (by simpa using hlc) hm
        (fun x hx => by
          obtain ⟨i, hi, rfl⟩ := List.mem_map.1 hx
          exact (hf' i (List.mem_range.1 hi)).1)
        (fun i hi => by
          obtain ⟨b, o, ha, hn⟩ := (hf' i (by simpa using hi)).2.2
          exact ⟨b, o, by rw [ha], by simpa using hn⟩)
        (fun i hi => by simpa using (hf' i (by simpa using hi)).2.1)
      rwa [hl5] at this
set_option maxRecDepth 100000 in
/-- The same for an argument. -/
theorem open_arg {H : Type} {enc : TypeId × Value → H} {W : World} {r : Reach} {b0 base : Nat} {sp : Nat → Bool} {hd : Bool} {v : Value} {d : DataW H} {p : List MemPlace} (hv : Value.okWide Try.prog W r b0 24 v)
    (h : DataW.Trod enc Try.prog W base sp hd 24 v d p) : ∃ (t : Tm) (s : Value), Lies W t.kids s ∧ v = tv t s := by
  obtain ⟨cs, rfl, hsz⟩ := okWide_struct Try.underlying24 hv
  obtain ⟨fuel, hf⟩ := h
  obtain ⟨t, s, hcs, -, hl⟩ := open_term fuel _ _ hf
  refine ⟨t, s, hl, ?_⟩
  have : cs.toList = [.int .i64 t.k, .int .i64 t.i, .int .i64 t.j, .int .i64 t.n, s] := by simpa [Value.cells] using hcs
  rw [show cs = #[.int .i64 t.k, .int .i64 t.i, .int .i64 t.j, .int .i64 t.n, s] from by cases cs; simp_all]

end Go.Proofs.Ytmhmengbhdaodaa

/-! The words of the cut's first line: the facts of a row that ask for them, each made once for all rows of the seat. -/
namespace Go.Proofs.Ytmhmengbhdaodaa
open Go.ChangeShapes Go.WideShapes

def code (l : List Nat) : List Char := l.map Char.ofNat
def joinN : List (List Nat) → List Nat
  | [] => []
  | [a] => a
  | a :: b :: r => a ++ 32 :: joinN (b :: r)

theorem words_one : ∀ a : List Nat, (a.all fun n => Char.ofNat n != Char.ofNat 32) = true → wordsSigns (code a) = [code a]
  | [], _ => rfl
  | n :: a, h => by
    simp only [List.all_cons, Bool.and_eq_true, bne_iff_ne] at h
    have ih := words_one a h.2
    show wordsSigns (Char.ofNat n :: code a) = _
    rw [wordsSigns]
    · rw [ih]; rfl
    · exact h.1
theorem words_more : ∀ (a : List Nat) (r : List Char), (a.all fun n => Char.ofNat n != Char.ofNat 32) = true → wordsSigns (code a ++ Char.ofNat 32 :: r) = code a :: wordsSigns r
  | [], r, _ => by
    show wordsSigns (Char.ofNat 32 :: r) = _
    rw [show Char.ofNat 32 = _ from rfl, wordsSigns]; rfl
  | n :: a, r, h => by
    simp only [List.all_cons, Bool.and_eq_true, bne_iff_ne] at h
    have ih := words_more a r h.2
    show wordsSigns (Char.ofNat n :: (code a ++ Char.ofNat 32 :: r)) = _
    rw [wordsSigns]
    · rw [ih]; rfl
    · exact h.1
theorem words_join : ∀ ws : List (List Nat), ws ≠ [] → (ws.all fun w => w.all fun n => Char.ofNat n != Char.ofNat 32) = true → wordsSigns (code (joinN ws)) = ws.map code
  | [], h, _ => absurd rfl h
  | [a], _, h => by simp only [List.all_cons, List.all_nil, Bool.and_true] at h; exact words_one a h
  | a :: b :: r, _, h => by
    have h' := h
    rw [List.all_cons, Bool.and_eq_true] at h'
    have ih := words_join (b :: r) (by simp) h'.2
    show wordsSigns (code (a ++ 32 :: joinN (b :: r))) = _
    rw [show code (a ++ 32 :: joinN (b :: r)) = code a ++ Char.ofNat 32 :: code (joinN (b :: r)) from by simp [code], words_more a _ h'.1, ih]; rfl

def cutWords : List (List Nat) := [[104, 97, 114, 110, 101, 115, 115],
  [97, 57, 52, 57, 101, 55, 101, 48, 97, 55, 52, 102, 97, 56, 54, 57, 99, 101, 101, 50, 51, 55, 51, 102, 55, 52, 97, 50, 57, 50, 50, 100, 48, 97, 97, 48, 49, 98, 57, 55, 51, 53, 100, 54, 54, 97, 50, 56, 53, 102, 49, 57, 97, 101, 100, 57, 97, 52, 51, 49, 48, 102, 98, 99],
  [99, 117, 116],
  [97, 116],
  [116, 114, 97, 110, 115, 104, 105, 112, 47, 116, 114, 97, 110, 115, 104, 105, 112, 108, 97, 119, 48, 54, 46, 83, 116, 114, 105, 112, 69, 120, 97, 99, 116],
  [116, 114, 97, 110, 115, 104, 105, 112, 47, 116, 114, 97, 110, 115, 104, 105, 112, 108, 97, 119, 48, 55, 46, 80, 117, 116, 69, 120, 97, 99, 116],
  [116, 114, 97, 110, 115, 104, 105, 112, 47, 116, 114, 97, 110, 115, 104, 105, 112, 108, 97, 119, 48, 55, 46, 65, 108, 108, 69, 120, 97, 99, 116],
  [116, 114, 97, 110, 115, 104, 105, 112, 47, 116, 114, 97, 110, 115, 104, 105, 112, 108, 97, 119, 48, 55, 46, 80, 117, 116, 65, 108, 108],
  [116, 114, 97, 110, 115, 104, 105, 112, 47, 116, 114, 97, 110, 115, 104, 105, 112, 108, 97, 119, 48, 55, 46, 80, 117, 116, 84, 119, 105, 99, 101]]

set_option maxRecDepth 100000 in
theorem cut_words : wordsSigns Try.prog.initOrder.toList = cutWords.map code := by
  have h : Try.prog.initOrder.toList = code (joinN cutWords) := by
    show (String.ofList (code (joinN cutWords))).toList = _
    exact String.toList_ofList
  rw [h]
  exact words_join cutWords (by simp [cutWords]) (by decide +kernel)

theorem cut_behind : behindMainWord (cutWords.map code) = code [99, 117, 116] :: cutWords.tail.tail.tail.map code := by kernel_rfl
theorem cut_lifts : stripLifts liftWords (code [99, 117, 116] :: cutWords.tail.tail.tail.map code) = ([], code [99, 117, 116] :: cutWords.tail.tail.tail.map code) := by kernel_rfl
theorem cut1 : (code [99, 117, 116] == "gc".toList) = false := by kernel_rfl
theorem cut2 : (code [99, 117, 116] == "spec".toList) = false := by kernel_rfl
theorem cut3 : (code [99, 117, 116] == "cut".toList) = true := by kernel_rfl
theorem cut_all : behindMainWord (wordsSigns Try.prog.initOrder.toList) = code [99, 117, 116] :: cutWords.tail.tail.tail.map code := by rw [cut_words, cut_behind]
theorem make_of (P : Program) {c : List Char} {rest : List (List Char)} (h : behindMainWord (wordsSigns P.initOrder.toList) = c :: rest) (h1 : (c == "gc".toList) = false) (h2 : (c == "spec".toList) = false) (h3 : (c == "cut".toList) = true) : P.make = some .cut := by
  unfold Program.make; rw [h]
  simp only [h1, h2, h3, Bool.or_self, Bool.false_eq_true, if_false, Bool.true_or, if_true]
theorem mayEnter_of (P : Program) {c : List Char} {rest : List (List Char)} (h : behindMainWord (wordsSigns P.initOrder.toList) = c :: rest) (h3 : ((stripLifts liftWords (c :: rest)).2.head? == some "cut".toList) = true)
    (h4 : (stripLifts liftWords (c :: rest)).1 = []) (h5 : P.laysLater = false) (h6 : P.bearsReflect = false) (h7 : P.doorFits [] = true) : P.mayEnter = true := by
  unfold Program.mayEnter; rw [h]
  refine Bool.or_eq_true_iff.2 (Or.inr ?_)
  rw [h3, h4, h5, h6, h7]; rfl
theorem row_make : Try.prog.make = some .cut := make_of Try.prog cut_all cut1 cut2 cut3
theorem row_mayEnter : Try.prog.mayEnter = true := mayEnter_of Try.prog cut_all (by rw [cut_lifts]; kernel_rfl) (by rw [cut_lifts]) (by kernel_rfl) (by kernel_rfl) (by kernel_rfl)
theorem row_lifts : Try.prog.liftsFinal = false := by unfold Program.liftsFinal Program.headLifts; rw [cut_all, cut_lifts]; kernel_rfl
end Go.Proofs.Ytmhmengbhdaodaa

/-! PutTwice holds: for every input the call returns true, and the arguments read as before. The walk of the Go text is in the texts that this one imports; no condition. -/
namespace Go.Proofs.Ytmhmengbhdaodaa.lawPutTwice
open Go.ChangeShapes Go.WideShapes Go.ChangeAt Go.RowKit

set_option maxRecDepth 100000 in
theorem lifted (os : Os) (started : os.Started) (H : Type) (enc : TypeId × Value → H) :
    ReturnsInHanded {} Try.checked os 7 .any (Rows.putTwiceSpec.pre6 enc Try.prog Try.f7 Rows.putTwiceRow.domain false) (Rows.putTwiceSpec.post enc Try.prog Try.f7 false true false false) := by
  refine returnsInHanded_of_change (C := Try.checked) own started (by kernel_rfl) Try.func7
    (ChangeSpec.witness6 (enc := enc) (C := Try.checked) false ⟨#[], #[.agg #[.int .i64 0, .int .i64 0, .int .i64 0, .int .i64 0, .slice none 0 0], .agg #[.int .i64 0, .int .i64 0, .int .i64 0, .int .i64 0, .slice none 0 0], .agg #[.int .i64 0, .int .i64 0, .int .i64 0, .int .i64 0, .slice none 0 0]], []⟩ 8 (by kernel_rfl) (by kernel_rfl) (by kernel_rfl) (by kernel_rfl)) ?_
  intro W base args ds gs before hval0 hW hcnd _
  have hval : ∀ (j : Nat) t v, Try.f7.params[j]? = some t → args[j]? = some v → Value.okWide Try.prog W .any base t v := hval0
  have hW' := hW
  obtain ⟨p, q, hA0, hV, rfl, hfz, hnd⟩ := hW
  have hA : DataW.TrodAll enc Try.prog W 0 (fun _ => true) true Try.f7.params.toList args.toList ds p := hA0
  rw [Try.params7] at hA hval
  obtain ⟨v0, vs0, d0, ds0, p0, q0, hargs0, rfl, rfl, h0, r0⟩ := trodAll_cons hA
  obtain ⟨v1, vs1, d1, ds1, p1, q1, hargs1, rfl, rfl, h1, r1⟩ := trodAll_cons r0
  obtain ⟨v2, vs2, d2, ds2, p2, q2, hargs2, rfl, rfl, h2, r2⟩ := trodAll_cons r1
  obtain ⟨rfl, rfl, rfl⟩ := trodAll_nil r2
  obtain rfl : args = #[v0, v1, v2] := by cases args; simp_all
  obtain ⟨rfl, rfl⟩ := trodVars_none hV
  have h0k := h0
  have hlt0 : ∀ x ∈ p0, x.block < W.heap.size := fun x hx => by have := hW'.lt x (by simp [hx]); simpa using this
  obtain ⟨t0, s0, hl0, hv0⟩ := open_arg (hval 0 24 v0 rfl rfl) h0
  subst hv0
  have h1k := h1
  have hlt1 : ∀ x ∈ p1, x.block < W.heap.size := fun x hx => by have := hW'.lt x (by simp [hx]); simpa using this
  obtain ⟨t1, s1, hl1, hv1⟩ := open_arg (hval 1 24 v1 rfl rfl) h1
  subst hv1
  have h2k := h2
  have hlt2 : ∀ x ∈ p2, x.block < W.heap.size := fun x hx => by have := hW'.lt x (by simp [hx]); simpa using this
  obtain ⟨t2, s2, hl2, hv2⟩ := open_arg (hval 2 24 v2 rfl rfl) h2
  subst hv2
  clear hA0 hval0
  simp only [List.append_nil] at hW'
  refine (putTwice_any t0 t1 t2 W s0 s1 s2 hl0 hl1 hl2).mono fun e W' ⟨he, hb⟩ => ?_
  subst he
  exact ⟨_, rfl, _, _, _, [], _, [], hW', trodAll_cons_mk (shut_bool Try.underlying4 _) trodAll_mk0, (trodAll_cons_mk (Below.trod laidOut (by kernel_rfl) (of_decide_eq_true (by kernel_rfl)) h0k hb hlt0) (trodAll_cons_mk (Below.trod laidOut (by kernel_rfl) (of_decide_eq_true (by kernel_rfl)) h1k hb hlt1) (trodAll_cons_mk (Below.trod laidOut (by kernel_rfl) (of_decide_eq_true (by kernel_rfl)) h2k hb hlt2) trodAll_mk0))), rfl, hb.frame _, fun h => by cases h⟩

theorem closed : joinedFacts Try.prog 7 Try.f7 Rows.putTwiceSpec Rows.putTwiceRow = true := by
  unfold joinedFacts
  rw [row_mayEnter, row_lifts, row_make]
  kernel_rfl

theorem proved : Rows.PutTwiceSaid :=
  OpenClaim.holds_of_wide 7 Try.f7 rfl rfl rfl rfl rfl rfl rfl ⟨rfl, rfl, rfl, rfl, rfl⟩ rfl rfl rfl rfl rfl (by kernel_rfl) Try.func7 closed
    (of_decide_eq_true (by kernel_rfl)) (by unfold Func.isWrapper; first | (rw [if_pos (by decide +kernel)]; kernel_rfl) | (rw [if_neg (by decide +kernel)]; exact ⟨rfl, rfl⟩))
    (fun os started H enc _ => lifted os started H enc)
#print axioms proved
end Go.Proofs.Ytmhmengbhdaodaa.lawPutTwice
