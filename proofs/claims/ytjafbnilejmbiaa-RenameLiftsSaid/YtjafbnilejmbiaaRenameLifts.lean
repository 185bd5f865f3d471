/-
  The walk of transhiplaw05.RenameLifts.
-/
import Derived.Test.YtjafbnilejmbiaaLawKit
import Derived.Test.YtjafbnilejmbiaaWakes5
import Derived.Test.YtjafbnilejmbiaaLiftFacts
import Derived.Test.YtjafbnilejmbiaaRefMore
namespace Go.Proofs.Ytjafbnilejmbiaa
open Go.RowKit

/-- The ints from k on. -/
def toL (k : Int) (n : Nat) : List Int := (List.range n).map fun (i : Nat) => (i : Int) + k
theorem toL_length (k : Int) (n : Nat) : (toL k n).length = n := by simp [toL]
theorem toL_succ (k : Int) (n : Nat) : toL k (n + 1) = toL k n ++ [(n : Int) + k] := by simp [toL, List.range_succ]
theorem toL_good {k : Int} {n : Nat} (h0 : 0 ≤ k) (h1 : k ≤ 1000) (hn : n ≤ 200) : goodTo (toL k n) = true := by
  unfold goodTo toL
  rw [List.all_eq_true]
  intro x hx
  obtain ⟨i, hi, rfl⟩ := List.mem_map.1 hx
  have := List.mem_range.1 hi
  simp; omega
theorem ren_up {t : Tm} {k : Int} {n : Nat} (hr : t.rightB = true) (h0 : 0 ≤ k) (h1 : k ≤ 1000) (hf : t.freeN ≤ n) (hn : n ≤ 200) (hd : t.deep ≤ 100000) : t.renB (toL k n) = some (t.liftB k 0) := by
  obtain ⟨x, hx⟩ := lift_comes (t := t) (k := k) (c := 0) h0 (by omega) hr (by omega) hd
  unfold Tm.renB
  rw [hr, toL_good h0 h1 hn, liftB_good h0 (Int.le_refl _) hr, hx]
  exact (ren_lift t k n h0 h1 hr hf (by omega) (by omega)).trans hx

/-- Ints that the call has appended so far. -/
def RowI (B : Nat) (w : World) (v : Value) (l : List Int) : Prop := w.ownsRow B 3 1 v l.length (l.map (Value.int .i64))
theorem rowI_nil (B : Nat) (w : World) : RowI B w (.slice none 0 0) [] := ⟨rfl, Or.inl ⟨rfl, rfl⟩⟩
theorem rowI_block {B : Nat} {w : World} {v : Value} {l : List Int} (h : RowI B w v l) {g : Nat} (hg : v.ownBlock = some g) : B ≤ g ∧ g < w.heap.size := by
  rcases h.2 with ⟨rfl, -⟩ | ⟨g', cap, cur, rfl, hg', hh, -⟩
  · simp [Value.ownBlock] at hg
  · have := (Array.getElem?_eq_some_iff.1 hh).1
    simp [Value.ownBlock] at hg
    omega
theorem rowI_same {B : Nat} {w w' : World} {v : Value} {l : List Int} (h : RowI B w v l) (hb : ∀ g, v.ownBlock = some g → w'.heap[g]? = w.heap[g]?) : RowI B w' v l := by
  obtain ⟨h1, h2⟩ := h
  refine ⟨h1, ?_⟩
  rcases h2 with h2 | ⟨g, cap, cur, hv, hg, hh, r⟩
  · exact Or.inl h2
  · exact Or.inr ⟨g, cap, cur, hv, hg, by rw [hb g (by rw [hv]; rfl)]; exact hh, r⟩
theorem rowI_later {B : Nat} {w w' : World} {v : Value} {l : List Int} (h : RowI B w v l) (hb : Below w.heap.size w w') : RowI B w' v l := rowI_same h (fun g hg => hb.block g (rowI_block h hg).2)
theorem rowI_grown {B : Nat} {w w' : World} {v u : Value} {l : List Int} (h : RowI B w v l) (hg : w.grownBy w' u.ownBlock) (ha : ∀ b, u.ownBlock = some b → v.ownBlock ≠ some b) : RowI B w' v l :=
  rowI_same h (fun g e => hg.block g (rowI_block h e).2 (fun e' => ha g e'.symm e))
theorem rowI_lies {B : Nat} {w : World} {v : Value} {l : List Int} (h : RowI B w v l) : LiesI w l v := by
  obtain ⟨h1, ⟨rfl, hn⟩ | ⟨g, cap, cur, rfl, hg, hh, hnc, hcm, hsz, htk⟩⟩ := h
  · obtain rfl : l = [] := List.eq_nil_of_length_eq_zero hn
    exact ⟨none, 0, rfl, Nat.le_refl _, by decide, fun i hi => by simp at hi⟩
  · refine ⟨some ⟨g, 0, none⟩, cap, rfl, hnc, hcm, fun i hi => ⟨g, 0, rfl, ?_⟩⟩
    have : w.ownsRow B 3 1 (.slice (some ⟨g, 0, none⟩) l.length cap) l.length (l.map (Value.int .i64)) := ⟨h1, Or.inr ⟨g, cap, cur, rfl, hg, hh, hnc, hcm, hsz, htk⟩⟩
    rw [Nat.zero_add, this.cellAt i (by simpa using hi)]
    simp [hi]
theorem info_int : (Try.prog.info? 3).map (fun i => (i.zero, i.size, i.bytes)) = some (some (.int .i64 0), 1, 8) := by kernel_rfl

/-- Both lists, and the term's box. -/
structure Two9 (w : World) (t : Tm) (s : Value) (k : Int) (q : Nat) (x1 x2 : Value) (wr : World) : Prop where
  one : RowI (w.heap.size + 1) wr x1 (toL k q)
  two : RowI (w.heap.size + 1) wr x2 (toL 0 q)
  apart : ∀ b, x1.ownBlock = some b → x2.ownBlock ≠ some b
  held : Held w t s wr
theorem two9_size {w wr : World} {t : Tm} {s x1 x2 : Value} {k : Int} {q : Nat} (h : Two9 w t s k q x1 x2 wr) : w.heap.size + 1 ≤ wr.heap.size := by have := Below.size h.held; simpa using this
/-- Behind the first append. -/
theorem two9_one {w wr w3 : World} {t : Tm} {s x1 x2 : Value} {k : Int} {q g cap : Nat} {o : Obj} (h : Two9 w t s k q x1 x2 wr) (hown : w3.ownsRow (w.heap.size + 1) 3 1 (.slice (some ⟨g, 0, none⟩) (q + 1) cap) (q + 1) ((toL k q).map (Value.int .i64) ++ [.int .i64 ((q : Int) + k)]))
    (hgrow : (wr.alloc o).grownBy w3 x1.ownBlock) (hat : x1.ownBlock = some g ∨ g = (wr.alloc o).heap.size) : RowI (w.heap.size + 1) w3 (.slice (some ⟨g, 0, none⟩) (q + 1) cap) (toL k (q + 1)) ∧ RowI (w.heap.size + 1) w3 x2 (toL 0 q) ∧ (∀ b, x2.ownBlock = some b → (Value.slice (some ⟨g, 0, none⟩) (q + 1) cap).ownBlock ≠ some b) ∧ Held w t s w3 := by
  have hs : (wr.alloc o).heap.size = wr.heap.size + 1 := by simp
  have hsz := two9_size h
  have hb0 : Below wr.heap.size wr (wr.alloc o) := (Below.refl _ _).alloc (Nat.le_refl _) _
  have h1 := rowI_later h.one hb0
  have h2 := rowI_later h.two hb0
  refine ⟨?_, rowI_grown h2 hgrow h.apart, fun b hb e => ?_, Below.grown (Below.alloc h.held hsz o) hgrow (by rw [hs]; omega) (fun g' hg' => (rowI_block h1 hg').1)⟩
  · unfold RowI; rw [toL_succ, List.map_append, List.length_append, toL_length]; exact hown
  · have e' : g = b := by simpa [Value.ownBlock] using e
    subst e'
    rcases hat with e | e
    · exact h.apart g e hb
    · have := (rowI_block h.two hb).2; omega
theorem two9_two {w w3 w5 : World} {t : Tm} {s x2 : Value} {k : Int} {q g cap g2 cap2 : Nat} {o : Obj} (h1 : RowI (w.heap.size + 1) w3 (.slice (some ⟨g, 0, none⟩) (q + 1) cap) (toL k (q + 1))) (h2 : RowI (w.heap.size + 1) w3 x2 (toL 0 q)) (ha : ∀ b, x2.ownBlock = some b → (Value.slice (some ⟨g, 0, none⟩) (q + 1) cap).ownBlock ≠ some b) (hh : Held w t s w3)
    (hown : w5.ownsRow (w.heap.size + 1) 3 1 (.slice (some ⟨g2, 0, none⟩) (q + 1) cap2) (q + 1) ((toL 0 q).map (Value.int .i64) ++ [.int .i64 (q : Int)]))
    (hgrow : (w3.alloc o).grownBy w5 x2.ownBlock) (hat : x2.ownBlock = some g2 ∨ g2 = (w3.alloc o).heap.size) : Two9 w t s k (q + 1) (.slice (some ⟨g, 0, none⟩) (q + 1) cap) (.slice (some ⟨g2, 0, none⟩) (q + 1) cap2) w5 := by
  have hs : (w3.alloc o).heap.size = w3.heap.size + 1 := by simp
  have hsz : w.heap.size + 1 ≤ w3.heap.size := by have := Below.size hh; simpa using this
  have hb0 : Below w3.heap.size w3 (w3.alloc o) := (Below.refl _ _).alloc (Nat.le_refl _) _
  have h1' := rowI_later h1 hb0
  have h2' := rowI_later h2 hb0
  refine ⟨rowI_grown h1' hgrow ha, ?_, fun b hb e => ?_, Below.grown (Below.alloc hh hsz o) hgrow (by rw [hs]; omega) (fun g' hg' => (rowI_block h2' hg').1)⟩
  · unfold RowI; rw [toL_succ, List.map_append, List.length_append, toL_length, Int.add_zero]; exact hown
  · have e' : g2 = b := by simpa [Value.ownBlock] using e
    subst e'
    rcases hat with e | e
    · exact ha g2 e hb
    · have := (rowI_block h1 hb).2; omega

set_option maxRecDepth 20000 in
set_option maxHeartbeats 4000000 in
theorem renameLifts_any (t : Tm) (k m : Int) (w : World) (s : Value) (hl : Lies w t.kids s) (hk : I64 k) (_ : I64 m) : Calls Try.prog 13 #[tv t s, .int .i64 k, .int .i64 m] w fun e w' => e = .returned (.bool true) ∧ Below w.heap.size w w' := by
  obtain ⟨a, cap, S, rfl, hcap, hmx, -, -, -⟩ := hl.out
  have H0 := held_start w t (.slice a t.kids.length cap)
  have HL := Lib.hid hl
  unfold tv
  clear hl
  go_enter Try.func13, Try.ntmps13
  go_wp2_with fail
  refine (great_any t _ _ 300 (held_lies H0 HL.out) (by omega) (by omega)).mono ?_
  rintro e w1 ⟨g, rfl, hg, hb'⟩
  have H1 := held_call H0 hb'
  obtain ⟨d0, d1, d2, d3, d4⟩ := held_cells H1
  have HG := Lib.hid hg
  clear hg hb' H0
  cases g with
  | true =>
    go_wp2
    go_ret
    exact ⟨rfl, held_below H1⟩
  | false =>
  have hz_t := (HG.out rfl).1
  have hd_t := (HG.out rfl).2
  clear HG
  go_wp2_with fail
  refine (refright_any t _ _ (held_lies H1 HL.out)).mono ?_
  rintro e w2 ⟨rfl, hb'⟩
  have H2 := held_call H1 hb'
  obtain ⟨d0, d1, d2, d3, d4⟩ := held_cells H2
  clear hb' H1
  cases hr_rt : t.rightB with
  | false =>
    go_wp2
    go_ret
    exact ⟨rfl, held_below H2⟩
  | true =>
  have HRrt := Lib.hid hr_rt
  clear hr_rt
  by_cases hp1 : k < 0
  · have ep1 : decide (k < 0) = true := by simpa using hp1
    go_wp2
    go_ret
    exact ⟨rfl, held_below H2⟩
  have ep1 : decide (k < 0) = false := by simpa using hp1
  by_cases hp2 : 1000 < k
  · have ep2 : decide (1000 < k) = true := by simpa using hp2
    go_wp2
    go_ret
    exact ⟨rfl, held_below H2⟩
  have ep2 : decide (1000 < k) = false := by simpa using hp2
  go_wp2_with fail
  refine (refFree_any t _ _ (held_lies H2 HL.out)).mono ?_
  rintro e w3 ⟨rfl, hb'⟩
  have H3 := held_call H2 hb'
  obtain ⟨d0, d1, d2, d3, d4⟩ := held_cells H3
  clear hb' H2
  by_cases hp3 : m < t.freeB
  · have ep3 : decide (m < t.freeB) = true := by simpa using hp3
    go_wp2
    go_ret
    exact ⟨rfl, held_below H3⟩
  have ep3 : decide (m < t.freeB) = false := by simpa using hp3
  by_cases hp4 : 200 < m
  · have ep4 : decide (200 < m) = true := by simpa using hp4
    go_wp2
    go_ret
    exact ⟨rfl, held_below H3⟩
  have ep4 : decide (200 < m) = false := by simpa using hp4
  have hr : t.rightB = true := HRrt.out
  have hfe := free_of hr
  have hfr := t.free_range hr
  obtain ⟨n, rfl⟩ : ∃ n : Nat, m = n := ⟨m.toNat, by omega⟩
  have h0i : I64 0 := by unfold I64; omega
  have hdt : t.deep ≤ 100000 := by omega
  have HDT := Lib.hid hdt
  obtain ⟨U, hU⟩ : ∃ U, t.liftB k 0 = U := ⟨_, rfl⟩
  have HU := Lib.hid hU
  have hR1 := ren_up (n := n) hr (by omega) (by omega) (by omega) (by omega) hdt
  have hR2 := ren_up (n := n) hr (Int.le_refl 0) (by omega) (by omega) (by omega) hdt
  rw [hU] at hR1
  rw [liftB_zero hr (Int.le_refl 0)] at hR2
  have HR1 := Lib.hid hR1
  have HR2 := Lib.hid hR2
  have hn2 : n ≤ 200 := by omega
  obtain ⟨i0, hi, hz0, hz1, hz2⟩ := info_parts info_int
  have HI := Lib.hid (And.intro hi (And.intro hz0 (And.intro hz1 hz2)))
  have h20 : Two9 w t (.slice a t.kids.length cap) k 0 (.slice none 0 0) (.slice none 0 0) w3 := ⟨rowI_nil _ _, rowI_nil _ _, (fun _ h => by cases h), H3⟩
  clear hi hz0 hz1 hz2 hr hz_t hd_t HRrt hU hfe hfr hR1 hR2 H3 hdt
  go_wp2_with fail
  go_loopw [7, 8, 9] (fun v1 v2 iv wr => ∃ (q : Nat) (x1 x2 : Value), x1 = v1 ∧ x2 = v2 ∧ q ≤ n ∧ iv = .int .i64 q ∧ Two9 w t (.slice a t.kids.length cap) k q x1 x2 wr) (fun _ _ iv _ => n - (intOf iv).toNat)
  case atStart => exact ⟨0, _, _, rfl, rfl, Nat.zero_le _, rfl, h20⟩
  case round =>
    clear h20 d0 d1 d2 d3 d4
    obtain ⟨q, x1, x2, rfl, rfl, hq0, rfl, h2⟩ := hrel
    have hs2 := two9_size h2
    by_cases hlt : q < n
    · have hsum : IntKind.i64.wrap ((q : Int) + k) = (q : Int) + k := IntWalk.i64_in _ (by omega)
      have hb0 : Below wr.heap.size wr (wr.alloc (.cells #[.int .i64 ((q : Int) + k)] 3)) := (Below.refl _ _).alloc (Nat.le_refl _) _
      have hone := rowI_later h2.one hb0
      unfold RowI at hone
      rw [toL_length] at hone
      have HONE := Lib.hid hone
      have H2 := Lib.hid h2
      clear hone h2 hb0
      go_wp2_with (at_builtin; refine wpList_append_lies _ rfl _ _ 37 rfl (w.heap.size + 1) 3 i0 _ 1 8 (by kernel_rfl) HI.out.1 HI.out.2.1 HI.out.2.2.1 HI.out.2.2.2 rfl (by decide) _ q ((toL k q).map (Value.int .i64)) rfl HONE.out ⟨wr.heap.size, 0, none⟩ 1 1 [.int .i64 ((q : Int) + k)] rfl rfl ?news ?one (by decide) ?max ?bytes ?base _ rfl ?next)
      case news => exact World.news_of_block (alloc_new _ _)
      case one => intro v hv; simp at hv; subst hv; rfl
      case max => unfold maxLen; omega
      case bytes => omega
      case base => simp; omega
      case next =>
        intro g cap3 w3 hown hgrow hat _
        obtain ⟨p1, p2, p3, p4⟩ := two9_one H2.out hown hgrow (by simpa using hat)
        have hs3 : w.heap.size + 1 ≤ w3.heap.size := by have := Below.size p4; simpa using this
        have hb3 : Below w3.heap.size w3 (w3.alloc (.cells #[.int .i64 (q : Int)] 3)) := (Below.refl _ _).alloc (Nat.le_refl _) _
        have htwo := rowI_later p2 hb3
        unfold RowI at htwo
        rw [toL_length] at htwo
        have HTWO := Lib.hid htwo
        have HP := Lib.hid (And.intro p1 (And.intro p2 (And.intro p3 p4)))
        clear htwo p1 p2 p3 p4 hb3 hown hgrow hat
        go_wp2_with (at_builtin; refine wpList_append_lies _ rfl _ _ 37 rfl (w.heap.size + 1) 3 i0 _ 1 8 (by kernel_rfl) HI.out.1 HI.out.2.1 HI.out.2.2.1 HI.out.2.2.2 rfl (by decide) _ q ((toL 0 q).map (Value.int .i64)) rfl HTWO.out ⟨w3.heap.size, 0, none⟩ 1 1 [.int .i64 (q : Int)] rfl rfl ?news ?one (by decide) ?max ?bytes ?base _ rfl ?next)
        case news => exact World.news_of_block (alloc_new _ _)
        case one => intro v hv; simp at hv; subst hv; rfl
        case max => unfold maxLen; omega
        case bytes => omega
        case base => simp; omega
        case next =>
          intro g5 cap5 w5 hown hgrow hat _
          have h5 := two9_two HP.out.1 HP.out.2.1 HP.out.2.2.1 HP.out.2.2.2 hown hgrow (by simpa using hat)
          clear hown hgrow hat
          go_wp2_with fail
          go_roundw
          case rel => exact ⟨q + 1, _, _, rfl, rfl, hlt, by go_num, h5⟩
          case measure => simp [intOf]; omega
    · have : q = n := by omega
      subst this
      have hli1 := rowI_lies h2.one
      have hli2 := rowI_lies h2.two
      have HH := h2.held
      obtain ⟨d0, d1, d2, d3, d4⟩ := held_cells HH
      have HI1 := Lib.hid hli1
      have HI2 := Lib.hid hli2
      clear hli1 hli2 h2
      go_wp2_with fail
      refine (rename_any t (toL k q) wr _ _ (held_lies HH HL.out) HI1.out HDT.out).mono ?_
      intro e w6 hg
      rw [HR1.out] at hg
      obtain ⟨⟨s6, rfl, hl6⟩, hb6⟩ := hg.some
      obtain ⟨a6, cap6, rfl, -, -⟩ := hl6.out
      have H6 := held_call HH hb6
      have hI2 := HI2.out.keep hb6
      have HL6 := Lib.hid hl6.lies
      clear hg hb6 hl6 HH d0 d1 d2 d3 d4 HI1 HI2
      have H7 := held_alloc H6 (.cells #[.int .i64 U.k, .int .i64 U.i, .int .i64 U.j, .int .i64 U.n, .slice a6 U.kids.length cap6] 24)
      have q7 := alloc_new w6 (.cells #[.int .i64 U.k, .int .i64 U.i, .int .i64 U.j, .int .i64 U.n, .slice a6 U.kids.length cap6] 24)
      have hI7 := Lib.hid (hI2.keep ((Below.refl _ _).alloc (Nat.le_refl _) (.cells #[.int .i64 U.k, .int .i64 U.i, .int .i64 U.j, .int .i64 U.n, .slice a6 U.kids.length cap6] 24)))
      have HL7 := Lib.hid (HL6.out.keep ((Below.refl _ _).alloc (Nat.le_refl _) (.cells #[.int .i64 U.k, .int .i64 U.i, .int .i64 U.j, .int .i64 U.n, .slice a6 U.kids.length cap6] 24)))
      obtain ⟨d0, d1, d2, d3, d4⟩ := held_cells H6
      have hs6 : w.heap.size < w6.heap.size := by have := held_size H6; omega
      go_wp2_with fail
      refine (rename_any t (toL 0 q) _ _ _ (held_lies H7 HL.out) hI7.out HDT.out).mono ?_
      intro e w8 hg
      rw [HR2.out] at hg
      obtain ⟨⟨s8, rfl, hl8⟩, hb8⟩ := hg.some
      obtain ⟨a8, cap8, rfl, -, -⟩ := hl8.out
      have H8 := held_call H7 hb8
      have q8 := keep_block hb8 (block_lt q7) q7
      have HLU8 := HL7.out.keep hb8
      have HLW8 := hl8.lies
      have hb9 : Below w8.heap.size w8 (w8.alloc (.cells #[.int .i64 t.k, .int .i64 t.i, .int .i64 t.j, .int .i64 t.n, .slice a8 t.kids.length cap8] 24)) := (Below.refl _ _).alloc (Nat.le_refl _) _
      have H9 := held_alloc H8 (.cells #[.int .i64 t.k, .int .i64 t.i, .int .i64 t.j, .int .i64 t.n, .slice a8 t.kids.length cap8] 24)
      have q9 := alloc_new w8 (.cells #[.int .i64 t.k, .int .i64 t.i, .int .i64 t.j, .int .i64 t.n, .slice a8 t.kids.length cap8] 24)
      have p9 := keep_block hb9 (block_lt q8) q8
      have HLU9 := HLU8.keep hb9
      have HLW9 := HLW8.keep hb9
      clear hg hb8 hl8 q7 q8 HLU8 HLW8 H6 H7 hI2 hI7 HL6 HL7 hb9 d0 d1 d2 d3 d4 H8
      go_wp2_with fail
      generalize w8.alloc (.cells #[.int .i64 t.k, .int .i64 t.i, .int .i64 t.j, .int .i64 t.n, .slice a8 t.kids.length cap8] 24) = wf at H9 q9 p9 HLU9 HLW9 ⊢
      have HC := Lib.hid (and_five (held_cells H9) (and_five (five_cells p9) (five_cells q9)))
      obtain ⟨x00, x01, x02, x03, x04, x10, x11, x12, x13, x14, x20, x21, x22, x23, x24⟩ := HC.out
      have HLT := Lib.hid (held_lies H9 HL.out)
      have HLU := Lib.hid HLU9
      have HLW := Lib.hid HLW9
      have hK0 := kept_start wf
      have HH := Lib.hid H9
      clear H9 q9 p9 HLU9 HLW9
      go_region_held3 (fun w' => Kept wf w' ∧ w'.cell? ⟨w.heap.size, 0, none⟩ = some (.int .i64 t.k) ∧ w'.cell? ⟨w.heap.size, 1, none⟩ = some (.int .i64 t.i) ∧ w'.cell? ⟨w.heap.size, 2, none⟩ = some (.int .i64 t.j) ∧ w'.cell? ⟨w.heap.size, 3, none⟩ = some (.int .i64 t.n) ∧ w'.cell? ⟨w.heap.size, 4, none⟩ = some (.slice a t.kids.length cap) ∧ w'.cell? ⟨w6.heap.size, 0, none⟩ = some (.int .i64 U.k) ∧ w'.cell? ⟨w6.heap.size, 1, none⟩ = some (.int .i64 U.i) ∧ w'.cell? ⟨w6.heap.size, 2, none⟩ = some (.int .i64 U.j) ∧ w'.cell? ⟨w6.heap.size, 3, none⟩ = some (.int .i64 U.n) ∧ w'.cell? ⟨w6.heap.size, 4, none⟩ = some (.slice a6 U.kids.length cap6) ∧ w'.cell? ⟨w8.heap.size, 0, none⟩ = some (.int .i64 t.k) ∧ w'.cell? ⟨w8.heap.size, 1, none⟩ = some (.int .i64 t.i) ∧ w'.cell? ⟨w8.heap.size, 2, none⟩ = some (.int .i64 t.j) ∧ w'.cell? ⟨w8.heap.size, 3, none⟩ = some (.int .i64 t.n) ∧ w'.cell? ⟨w8.heap.size, 4, none⟩ = some (.slice a8 t.kids.length cap8))
        (((with_reducible refine kept_boxes3 ?_ HC.out); repeat (first | with_reducible assumption | with_reducible exact hK0 | with_reducible refine kept_drew ?_ | with_reducible refine kept_alloc ?_ _)))
        (first | (go_at_call 56; have hS := (‹Kept wf _ ∧ _›).1; ((refine (wakes5_any _).mono ?_); rintro e wn ⟨rfl, hbn⟩; have hh := kept_call hS hbn; obtain ⟨-, x00, x01, x02, x03, x04, x10, x11, x12, x13, x14, x20, x21, x22, x23, x24⟩ := kept_boxes3 hh HC.out)) | (go_at_call 54; have hS := (‹Kept wf _ ∧ _›).1; have hcall := lift_any t k 0 _ _ (kept_lies hS HLT.out) hk h0i HDT.out; ((with_reducible refine Calls.mono hcall ?_); rintro e wn ⟨s9, rfl, hl9, hbn⟩; clear hcall; have hh := kept_call hS hbn; rw [HU.out] at hl9 ⊢; obtain ⟨a9, cap9, rfl, -, -⟩ := hl9.out; have HM1 := Lib.hid hl9.lies; clear hl9; obtain ⟨-, x00, x01, x02, x03, x04, x10, x11, x12, x13, x14, x20, x21, x22, x23, x24⟩ := kept_boxes3 hh HC.out)) | (go_at_call 51; have mk0 := HM1.out; have hS := (‹Kept wf _ ∧ _›).1; have hcall := keepsame_eq U _ _ _ (kept_lies hS HLU.out) mk0; ((with_reducible refine Calls.mono hcall ?_); rintro e wn ⟨rfl, hbn⟩; clear hcall; have hh := kept_call hS hbn; obtain ⟨-, x00, x01, x02, x03, x04, x10, x11, x12, x13, x14, x20, x21, x22, x23, x24⟩ := kept_boxes3 hh HC.out)) | (go_at_call 51; have hS := (‹Kept wf _ ∧ _›).1; have hcall := keepsame_eq t _ _ _ (kept_lies hS HLW.out) (kept_lies hS HLT.out); ((with_reducible refine Calls.mono hcall ?_); rintro e wn ⟨rfl, hbn⟩; clear hcall; have hh := kept_call hS hbn; obtain ⟨-, x00, x01, x02, x03, x04, x10, x11, x12, x13, x14, x20, x21, x22, x23, x24⟩ := kept_boxes3 hh HC.out)))
      go_wp2
      go_ret
      exact ⟨rfl, (held_below HH.out).trans (hh.mono (by have := held_size HH.out; omega))⟩
end Go.Proofs.Ytjafbnilejmbiaa
