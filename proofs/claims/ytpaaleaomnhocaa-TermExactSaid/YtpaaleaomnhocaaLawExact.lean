/-
  The walk of transhiplaw04.TermExact.
-/
import Derived.Test.YtpaaleaomnhocaaRefMore
import Derived.Test.YtpaaleaomnhocaaWakes4
import Derived.Test.YtpaaleaomnhocaaHeld
namespace Go.Proofs.Ytpaaleaomnhocaa
open Go.RowKit

set_option maxRecDepth 100000 in
set_option maxHeartbeats 4000000 in
theorem termExact_any (t : Tm) (w : World) (s : Value) (hl : Lies w t.kids s) : Calls Try.prog 3 #[tv t s] w fun e w' => e = .returned (.bool true) ∧ Below w.heap.size w w' := by
  obtain ⟨a, cap, S, rfl, -⟩ := hl.out
  unfold tv
  have HL := Lib.hid hl
  clear hl
  go_enter Try.func3, Try.ntmps3
  go_wp2_with fail
  refine (great_any t _ _ _ (held_lies (held_start _ _ _) HL.out) (by omega) (by omega)).mono ?_
  rintro e w1 ⟨g, rfl, hg, hb'⟩
  have H1 := held_call (held_start w t (.slice a t.kids.length cap)) hb'
  have HG := Lib.hid hg
  obtain ⟨d0, d1, d2, d3, d4⟩ := held_cells H1
  clear hg hb'
  cases g with
  | true =>
    go_wp2
    go_ret
    exact ⟨rfl, held_below H1⟩
  | false =>
    have hz := (HG.out rfl).1
    clear HG
    go_wp2_with fail
    go_region_held3 (fun w' => Held w t (.slice a t.kids.length cap) w' ∧ w'.cell? ⟨w.heap.size, 0, none⟩ = some (.int .i64 t.k) ∧ w'.cell? ⟨w.heap.size, 1, none⟩ = some (.int .i64 t.i) ∧ w'.cell? ⟨w.heap.size, 2, none⟩ = some (.int .i64 t.j) ∧ w'.cell? ⟨w.heap.size, 3, none⟩ = some (.int .i64 t.n) ∧ w'.cell? ⟨w.heap.size, 4, none⟩ = some (.slice a t.kids.length cap))
      (first | exact ⟨by assumption, held_cells (by assumption)⟩ | exact ⟨held_drew (by assumption), held_cells (held_drew (by assumption))⟩ | go_keep)
      (first | (go_at_call 31; have hS := (‹Held w t (.slice a t.kids.length cap) _ ∧ _›).1; refine (right_any t _ _ (by exact held_lies hS HL.out)).mono ?_; rintro e wn ⟨rfl, hbn⟩; have hh := held_call hS hbn; obtain ⟨x0, x1, x2, x3, x4⟩ := held_cells hh; clear hbn hS) | (go_at_call 32; have hS := (‹Held w t (.slice a t.kids.length cap) _ ∧ _›).1; refine (refright_any t _ _ (by exact held_lies hS HL.out)).mono ?_; rintro e wn ⟨rfl, hbn⟩; have hh := held_call hS hbn; obtain ⟨x0, x1, x2, x3, x4⟩ := held_cells hh; clear hbn hS) | (go_at_call 33; have hS := (‹Held w t (.slice a t.kids.length cap) _ ∧ _›).1; refine (marked_any t _ _ (by exact held_lies hS HL.out)).mono ?_; rintro e wn ⟨rfl, hbn⟩; have hh := held_call hS hbn; obtain ⟨x0, x1, x2, x3, x4⟩ := held_cells hh; clear hbn hS) | (go_at_call 34; have hS := (‹Held w t (.slice a t.kids.length cap) _ ∧ _›).1; refine (refmarked_any t _ _ (by exact held_lies hS HL.out)).mono ?_; rintro e wn ⟨rfl, hbn⟩; have hh := held_call hS hbn; obtain ⟨x0, x1, x2, x3, x4⟩ := held_cells hh; clear hbn hS) | (go_at_call 35; have hS := (‹Held w t (.slice a t.kids.length cap) _ ∧ _›).1; refine (pure_any t _ _ (by exact held_lies hS HL.out)).mono ?_; rintro e wn ⟨rfl, hbn⟩; have hh := held_call hS hbn; obtain ⟨x0, x1, x2, x3, x4⟩ := held_cells hh; clear hbn hS) | (go_at_call 36; have hS := (‹Held w t (.slice a t.kids.length cap) _ ∧ _›).1; refine (refpure_any t _ _ (by exact held_lies hS HL.out) (by omega)).mono ?_; rintro e wn ⟨rfl, hbn⟩; have hh := held_call hS hbn; obtain ⟨x0, x1, x2, x3, x4⟩ := held_cells hh; clear hbn hS) | (go_at_call 37; have hS := (‹Held w t (.slice a t.kids.length cap) _ ∧ _›).1; refine (plain_any t _ _ (by exact held_lies hS HL.out)).mono ?_; rintro e wn ⟨rfl, hbn⟩; have hh := held_call hS hbn; obtain ⟨x0, x1, x2, x3, x4⟩ := held_cells hh; clear hbn hS) | (go_at_call 38; have hS := (‹Held w t (.slice a t.kids.length cap) _ ∧ _›).1; refine (refplain_any t _ _ (by exact held_lies hS HL.out)).mono ?_; rintro e wn ⟨rfl, hbn⟩; have hh := held_call hS hbn; obtain ⟨x0, x1, x2, x3, x4⟩ := held_cells hh; clear hbn hS) | (go_at_call 39; have hS := (‹Held w t (.slice a t.kids.length cap) _ ∧ _›).1; refine (size_any t _ _ (by exact held_lies hS HL.out) (by omega)).mono ?_; rintro e wn ⟨rfl, hbn⟩; have hh := held_call hS hbn; obtain ⟨x0, x1, x2, x3, x4⟩ := held_cells hh; clear hbn hS) | (go_at_call 40; have hS := (‹Held w t (.slice a t.kids.length cap) _ ∧ _›).1; refine (refsize_any t _ _ (by exact held_lies hS HL.out) (by omega)).mono ?_; rintro e wn ⟨rfl, hbn⟩; have hh := held_call hS hbn; obtain ⟨x0, x1, x2, x3, x4⟩ := held_cells hh; clear hbn hS) | (go_at_call 41; have hS := (‹Held w t (.slice a t.kids.length cap) _ ∧ _›).1; refine (deep_any t _ _ (by exact held_lies hS HL.out) (by omega)).mono ?_; rintro e wn ⟨rfl, hbn⟩; have hh := held_call hS hbn; obtain ⟨x0, x1, x2, x3, x4⟩ := held_cells hh; clear hbn hS) | (go_at_call 42; have hS := (‹Held w t (.slice a t.kids.length cap) _ ∧ _›).1; refine (refdeep_any t _ _ (by exact held_lies hS HL.out) (by omega)).mono ?_; rintro e wn ⟨rfl, hbn⟩; have hh := held_call hS hbn; obtain ⟨x0, x1, x2, x3, x4⟩ := held_cells hh; clear hbn hS) | (go_at_call 43; have hS := (‹Held w t (.slice a t.kids.length cap) _ ∧ _›).1; refine (Free_any t _ _ (by exact held_lies hS HL.out)).mono ?_; rintro e wn ⟨rfl, hbn⟩; have hh := held_call hS hbn; obtain ⟨x0, x1, x2, x3, x4⟩ := held_cells hh; clear hbn hS) | (go_at_call 44; have hS := (‹Held w t (.slice a t.kids.length cap) _ ∧ _›).1; refine (refFree_any t _ _ (by exact held_lies hS HL.out)).mono ?_; rintro e wn ⟨rfl, hbn⟩; have hh := held_call hS hbn; obtain ⟨x0, x1, x2, x3, x4⟩ := held_cells hh; clear hbn hS) | (go_at_call 45; have hS := (‹Held w t (.slice a t.kids.length cap) _ ∧ _›).1; refine (wakes4_any _).mono ?_; rintro e wn ⟨rfl, hbn⟩; have hh := held_call hS hbn; obtain ⟨x0, x1, x2, x3, x4⟩ := held_cells hh; clear hbn hS))
    go_wp2
    go_ret
    exact ⟨rfl, held_below (‹Held w t (.slice a t.kids.length cap) _ ∧ _›).1⟩
end Go.Proofs.Ytpaaleaomnhocaa
