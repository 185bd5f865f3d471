/-
  transhipkeep.Twin and Twins: a copy of a term in new memory.
-/
import Derived.Test.YtjhdcjjoignioaaMade
import Derived.Test.YtjhdcjjoignioaaQuietTail
import Derived.Test.YtjhdcjjoignioaaSize
import Derived.BigQuiet
namespace Go.Proofs.Ytjhdcjjoignioaa
open Go.RowKit

/-- What a call hands back that makes the term u: u by value, its kids in new memory. -/
def Makes (u : Tm) (w : World) (e : Ending) (w' : World) : Prop := ∃ s' : Value, e = .returned (tv u s') ∧ LiesP w' (Own w.heap.size w') u.kids s' ∧ Below w.heap.size w w'
/-- The same for a list. -/
def MakesAll (l : List Tm) (w : World) (e : Ending) (w' : World) : Prop := ∃ s' : Value, e = .returned s' ∧ LiesP w' (Own w.heap.size w') l s' ∧ Below w.heap.size w w'

theorem LiesP.out {w : World} {P : Nat → Prop} {l : List Tm} {s : Value} (h : LiesP w P l s) : ∃ (a : Option Addr) (cap : Nat), s = .slice a l.length cap ∧ l.length ≤ cap ∧ cap ≤ maxLen := by
  cases h with
  | mk l a cap S hc hm hf hn hk => exact ⟨a, cap, rfl, hc, hm⟩

/-- The term in its box, and a result in its own behind it. -/
def Boxes (w : World) (t : Tm) (s : Value) (w' : World) : Prop := Below (w.heap.size + 2) ((w.alloc (boxOf t s)).alloc (.cells #[.int .i64 0, .int .i64 0, .int .i64 0, .int .i64 0, .slice none 0 0] 26)) w'
theorem boxes_start (w : World) (t : Tm) (s : Value) : Boxes w t s ((w.alloc (.cells #[.int .i64 t.k, .int .i64 t.i, .int .i64 t.j, .int .i64 t.n, s] 26)).alloc (.cells #[.int .i64 0, .int .i64 0, .int .i64 0, .int .i64 0, .slice none 0 0] 26)) := Below.refl _ _
theorem boxes_held {w w' : World} {t : Tm} {s : Value} (h : Boxes w t s w') : Held w t s w' :=
  ((Below.refl (w.heap.size + 1) (w.alloc (boxOf t s))).alloc (by simp) _).trans (Below.mono h (by omega))
theorem boxes_cells {w w' : World} {t : Tm} {s : Value} (h : Boxes w t s w') : w'.cell? ⟨w.heap.size, 0, none⟩ = some (.int .i64 t.k) ∧ w'.cell? ⟨w.heap.size, 1, none⟩ = some (.int .i64 t.i) ∧ w'.cell? ⟨w.heap.size, 2, none⟩ = some (.int .i64 t.j) ∧ w'.cell? ⟨w.heap.size, 3, none⟩ = some (.int .i64 t.n) ∧ w'.cell? ⟨w.heap.size, 4, none⟩ = some s ∧
    w'.cell? ⟨w.heap.size + 1, 0, none⟩ = some (.int .i64 0) ∧ w'.cell? ⟨w.heap.size + 1, 1, none⟩ = some (.int .i64 0) ∧ w'.cell? ⟨w.heap.size + 1, 2, none⟩ = some (.int .i64 0) ∧ w'.cell? ⟨w.heap.size + 1, 3, none⟩ = some (.int .i64 0) ∧ w'.cell? ⟨w.heap.size + 1, 4, none⟩ = some (.slice none 0 0) ∧ w'.frozen? ⟨w.heap.size + 1, 0, none⟩ = false ∧ w'.frozen? ⟨w.heap.size + 1, 1, none⟩ = false ∧ w'.frozen? ⟨w.heap.size + 1, 2, none⟩ = false ∧ w'.frozen? ⟨w.heap.size + 1, 3, none⟩ = false ∧ w'.frozen? ⟨w.heap.size + 1, 4, none⟩ = false := by
  obtain ⟨h0, h1, h2, h3, h4⟩ := held_cells (boxes_held h)
  have hs : (w.alloc (boxOf t s)).heap.size = w.heap.size + 1 := by simp
  have := box_cells (w := w.alloc (boxOf t s)) (by rw [hs]; exact h)
  rw [hs] at this
  obtain ⟨y0, y1, y2, y3, y4⟩ := this
  have fr : ∀ q, w'.frozen? ⟨w.heap.size + 1, q, none⟩ = false := fun q => by
    rw [Below.frozen h (p := ⟨w.heap.size + 1, q, none⟩) (by simp)]
    unfold World.frozen?
    rw [show (⟨w.heap.size + 1, q, none⟩ : Addr).block = (w.alloc (boxOf t s)).heap.size by simp, alloc_new]
    rfl
  exact ⟨h0, h1, h2, h3, h4, y0, y1, y2, y3, y4, fr _, fr _, fr _, fr _, fr _⟩
theorem boxes_call {w w1 w2 : World} {t : Tm} {s : Value} (h : Boxes w t s w1) (hb : Below w1.heap.size w1 w2) : Boxes w t s w2 := below_call h hb (by have := Below.size h; simpa using this)
theorem boxes_drew {w w1 : World} {t : Tm} {s : Value} (h : Boxes w t s w1) : Boxes w t s w1.drew := Below.drew h
theorem held_both {w w' : World} {t : Tm} {s : Value} (h : Held w t s w') : Held w t s w' ∧ w'.cell? ⟨w.heap.size, 0, none⟩ = some (.int .i64 t.k) ∧ w'.cell? ⟨w.heap.size, 1, none⟩ = some (.int .i64 t.i) ∧ w'.cell? ⟨w.heap.size, 2, none⟩ = some (.int .i64 t.j) ∧ w'.cell? ⟨w.heap.size, 3, none⟩ = some (.int .i64 t.n) ∧ w'.cell? ⟨w.heap.size, 4, none⟩ = some s := ⟨h, held_cells h⟩
theorem held_set {w w1 : World} {t : Tm} {s : Value} (h : Held w t s w1) {p : Addr} (hp : w.heap.size + 1 ≤ p.block) (u : Value) : Held w t s (w1.setCell p u) := Below.setCell h hp u
theorem boxes_block {w w1 : World} {t : Tm} {s : Value} (h : Boxes w t s w1) : w1.heap[w.heap.size + 1]? = some (.cells #[.int .i64 0, .int .i64 0, .int .i64 0, .int .i64 0, .slice none 0 0] 26 (0, 0)) := by
  rw [Below.block h _ (by omega)]
  exact heap_alloc2_new _ _ _
theorem boxes_lies {w w1 : World} {t : Tm} {s s' : Value} {l : List Tm} (h : Boxes w t s w1) (hl : Lies w l s') : Lies w1 l s' := held_lies (boxes_held h) hl

set_option maxHeartbeats 2000000 in
theorem twins_of (l : List Tm) (ih : ∀ x ∈ l, ∀ (w : World) (s : Value), Lies w x.kids s → Calls Try.prog 44 #[tv x s] w (Makes x w))
    (w : World) (s : Value) (hl : Lies w l s) (hlen : l.length ≤ 1000000) : Calls Try.prog 70 #[s] w (fun e w' => ∃ s' : Value, e = .returned s' ∧ LiesP w' (Own w.heap.size w') l s' ∧ Below w.heap.size w w') := by
  obtain ⟨a, cap, S, rfl, hc, hmx, hf, hn, hk⟩ := hl.out
  unfold maxLen at hmx
  obtain ⟨i0, hi, hz0, hz1, hz2⟩ := info_parts info_term
  have IH := Lib.hid ih
  have HN := Lib.hid hn
  have HK := Lib.hid hk
  have HF := Lib.hid hf
  have HI := Lib.hid (And.intro hi (And.intro hz0 (And.intro hz1 hz2)))
  clear ih hn hk hl hf hi hz0 hz1 hz2
  go_enter Try.func70, Try.ntmps70
  go_wp2
  go_loopw [3, 4] (fun v iv wr => ∃ (k : Nat) (ps : List (Tm × Value)) (vv : Value), vv = v ∧ k ≤ l.length ∧ iv = .int .i64 k ∧ Hid (ps.map (·.1) = l.take k) ∧ Made w.heap.size wr v ps ∧ Below w.heap.size w wr) (fun _ iv _ => l.length - (intOf iv).toNat)
  case atStart => exact ⟨0, [], _, rfl, Nat.zero_le _, rfl, by simp [Hid], made_nil _ _, Below.refl _ _⟩
  case round =>
    obtain ⟨k, ps, vv, rfl, hk, rfl, hps, hmade, hb⟩ := hrel
    by_cases hlt : k < l.length
    · obtain ⟨b, o, rfl, hx⟩ := HN.out k hlt
      obtain ⟨c0, c1, c2, c3, c4⟩ := hx.below hb hx.lt
      have hq := (HK.out k hlt).keep hb
      obtain ⟨a', cap', S', hS, -⟩ := hq.out
      rw [hS] at c4 hq
      have HQ := Lib.hid hq
      have HM := Lib.hid (List.getElem_mem hlt)
      have hpl : ps.length = k := by have := congrArg List.length hps.out; simp at this; omega
      have HPL := Lib.hid hpl
      have HMD := Lib.hid hmade
      clear hS hq hpl hmade
      go_wp2_with fail
      refine (IH.out _ HM.out _ _ HQ.out).mono ?_
      rintro e w2 ⟨s2, rfl, hl2, hb2⟩
      obtain ⟨a2, cap2, hs2, -, -⟩ := hl2.out
      have hb3 : Below w.heap.size w (w2.alloc (.cells #[.int .i64 l[k].k, .int .i64 l[k].i, .int .i64 l[k].j, .int .i64 l[k].n, .slice a2 l[k].kids.length cap2] 26)) := (below_call hb hb2 hb.size).alloc (by have := hb.size; have := hb2.size; omega) _
      have hm3 : Made w.heap.size (w2.alloc (.cells #[.int .i64 l[k].k, .int .i64 l[k].i, .int .i64 l[k].j, .int .i64 l[k].n, .slice a2 l[k].kids.length cap2] 26)) vv ps := made_later (made_later HMD.out hb2) ((Below.refl _ _).alloc (Nat.le_refl _) _)
      rw [hs2] at hl2
      subst hs2
      go_wp2_with (at_builtin; refine wpList_append_lies _ rfl (.tmp 11) (.tmp 17) 24 rfl w.heap.size 26 i0 _ 5 56 (by kernel_rfl) HI.out.1 HI.out.2.1 HI.out.2.2.1 HI.out.2.2.2 rfl (by decide) _ ps.length (cells5 ps) rfl hm3.own ⟨w2.heap.size, 0, none⟩ 1 1 (cells5 [(l[k], .slice a2 l[k].kids.length cap2)]) rfl rfl ?news ?one (by decide) ?max ?bytes ?base _ rfl ?next)
      case news => exact news_new _ _ _ _
      case one => intro u hu; simp [cells5] at hu; rcases hu with rfl | rfl | rfl | rfl | rfl <;> rfl
      case max => have := HPL.out; unfold maxLen; omega
      case bytes => have := HPL.out; omega
      case base => have := hb3.size; omega
      case next =>
        intro g cap3 w3 hown hgrow hat hlt3
        go_wp2_with fail
        go_roundw
        case rel => exact ⟨k + 1, ps ++ [(l[k], .slice a2 l[k].kids.length cap2)], _, rfl, hlt, by simp, by have := hps.out; simp only [Hid]; rw [List.map_append, this, List.map_cons, List.map_nil, List.take_append_getElem hlt], made_push HMD.out (HF.out _ HM.out) hb.size hb2 hl2 _ hown hgrow hat, below_push HMD.out hb hb.size hb2 _ hgrow⟩
        case measure => simp [intOf]; omega
    · obtain rfl : k = l.length := by omega
      have hps' : ps.map (·.1) = l := by rw [hps.out, List.take_length]
      go_wp2_with fail
      go_ret
      refine ⟨_, rfl, ?_, hb⟩
      rw [← hps']; exact made_lies hmade

theorem len_sizes : ∀ l : List Tm, l.length ≤ sizes l
  | [] => by simp
  | t :: r => by have := len_sizes r; have := t.size_eq; simp only [sizes, List.length_cons]; omega

theorem size_mem : ∀ (l : List Tm) (x : Tm), x ∈ l → x.size ≤ sizes l
  | t :: r, x, h => by
    simp only [sizes]
    rcases List.mem_cons.1 h with rfl | h
    · omega
    · have := size_mem r x h; omega

theorem under_term : ∃ d, Try.prog.underlying 26 = some d ∧ (match d with | .struct _ | .array _ _ => true | _ => false) = true := by
  have h : (Try.prog.underlying 26).map (fun d => match d with | .struct _ | .array _ _ => true | _ => false) = some true := by kernel_rfl
  cases e : Try.prog.underlying 26 with
  | none => rw [e] at h; cases h
  | some d => rw [e] at h; exact ⟨d, rfl, Option.some.inj h⟩

theorem size_term : (Try.prog.info? 26).map (·.size) = some 5 := by kernel_rfl

set_option maxHeartbeats 4000000 in
theorem twin_any (t : Tm) : ∀ (w : World) (s : Value), Lies w t.kids s → t.size ≤ 1000000 → Calls Try.prog 44 #[tv t s] w (fun e w' => ∃ s' : Value, e = .returned (tv t s') ∧ LiesP w' (Own w.heap.size w') t.kids s' ∧ Below w.heap.size w w') := by
  induction t using Tm.ind with
  | h t ih =>
    intro w s hl hsz
    obtain ⟨a, cap, S, rfl, hc, hm, hf, hn, hk⟩ := hl.out
    rw [t.size_eq] at hsz
    have TW : ∀ (w' : World) (s' : Value), Lies w' t.kids s' → Calls Try.prog 70 #[s'] w' (MakesAll t.kids w') := fun w' s' h' => twins_of t.kids (fun x hx w2 s2 h2 => ih x hx w2 s2 h2 (by have := size_mem _ x hx; omega)) w' s' h' (by have := len_sizes t.kids; omega)
    unfold tv
    unfold maxLen at hm
    have HL := Lib.hid hl
    replace TW := Lib.hid TW
    clear ih hn hk hf hl
    go_enter Try.func44, Try.ntmps44
    go_wp2
    have HB := boxes_start w t (.slice a t.kids.length cap)
    go_region_held3 (fun w' => Held w t (.slice a t.kids.length cap) w' ∧ w'.cell? ⟨w.heap.size, 0, none⟩ = some (.int .i64 t.k) ∧ w'.cell? ⟨w.heap.size, 1, none⟩ = some (.int .i64 t.i) ∧ w'.cell? ⟨w.heap.size, 2, none⟩ = some (.int .i64 t.j) ∧ w'.cell? ⟨w.heap.size, 3, none⟩ = some (.int .i64 t.n) ∧ w'.cell? ⟨w.heap.size, 4, none⟩ = some (.slice a t.kids.length cap))
      (first | (refine held_both ?_; repeat (first | assumption | exact boxes_held (by assumption) | refine held_drew ?_ | refine held_set ?_ (by simp) _)) | go_keep)
      (first | (go_at_call 70; have hS : Boxes w t (.slice a t.kids.length cap) _ := boxes_drew HB; refine (TW.out _ _ (by exact boxes_lies hS HL.out)).mono ?_; rintro e wn ⟨s', rfl, hl2, hb2⟩; obtain ⟨a2, cap2, rfl, -, -⟩ := hl2.out; have hh := boxes_call hS hb2; have hl3 : LiesP wn (Own (w.heap.size + 2) wn) t.kids (.slice a2 t.kids.length cap2) := hl2.from (by simp); have hbx := boxes_block hh; clear hl2 hb2 hS; obtain ⟨x0, x1, x2, x3, x4, z0, z1, z2, z3, z4, f0, f1, f2, f3, f4⟩ := boxes_cells hh))
    go_wp2
    (try simp only [Exit.inBlock, Exit.then])
    obtain ⟨du, hu1, hu2⟩ := under_term
    refine bodyPost_ret (results_cell_row rfl _ _ (w.heap.size + 1) _ _ _ du rfl (five_set hbx) hu1 (by cases du <;> first | rfl | exact hu2) size_term) rfl ?_
    refine ⟨_, rfl, ?_, ?_⟩
    · refine hl3.keep (fun b hb _ => ?_) (fun b hb _ => ?_)
      · have hne : b ≠ w.heap.size + 1 := by have := hb.1; omega
        repeat rw [Below.heap_setCell _ _ _ _ (by exact hne)]
      · have hne : b ≠ w.heap.size + 1 := by have := hb.1; omega
        refine (hb.from (by omega)).same ?_
        repeat rw [Below.heap_setCell _ _ _ _ (by exact hne)]
    · exact held_below (‹Held w t (.slice a t.kids.length cap) _ ∧ _›).1
end Go.Proofs.Ytjhdcjjoignioaa
