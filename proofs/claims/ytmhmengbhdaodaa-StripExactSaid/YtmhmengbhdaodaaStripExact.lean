/-
  The walk of transhiplaw06.StripExact.
-/
import Derived.Test.YtmhmengbhdaodaaLawKit
import Derived.Test.YtmhmengbhdaodaaL8
import Derived.Test.YtmhmengbhdaodaaRefStripT
import Derived.Test.YtmhmengbhdaodaaWakes6
import Derived.Test.YtmhmengbhdaodaaSpoil
namespace Go.Proofs.Ytmhmengbhdaodaa
open Go.RowKit

set_option maxRecDepth 20000 in
set_option maxHeartbeats 4000000 in
theorem stripExact_any (t : Tm) (w : World) (s : Value) (hl : Lies w t.kids s) : Calls Try.prog 3 #[tv t s] w fun e w' => e = .returned (.bool true) ∧ Below w.heap.size w w' := by
  obtain ⟨a, cap, S, rfl, hcap, hmx, -, -, -⟩ := hl.out
  have H0 := held_start w t (.slice a t.kids.length cap)
  have HL := Lib.hid hl
  unfold tv
  clear hl
  go_enter Try.func3, Try.ntmps3
  go_wp2_with fail
  refine (great_any t _ _ 300 (held_lies H0 HL.out) (by omega) (by omega)).mono ?_
  rintro e w1 ⟨g, rfl, hg, hb1⟩
  have H1 := held_call H0 hb1
  obtain ⟨d0, d1, d2, d3, d4⟩ := held_cells H1
  have HG := Lib.hid hg
  clear hg hb1
  cases g with
  | true =>
    go_wp2
    go_ret
    exact ⟨rfl, held_below H1⟩
  | false =>
    have hz := (HG.out rfl).1
    have hsz : t.size ≤ 1000000000000 := by omega
    have HSZ := Lib.hid hsz
    clear HG hsz
    go_wp2_with fail
    refine (refStripT_any t w1 _ (held_lies H1 HL.out)).mono ?_
    obtain ⟨U, hU⟩ : ∃ U, t.stripB = U := ⟨_, rfl⟩
    have HU := Lib.hid hU
    rw [hU]
    clear hU
    rintro e w3 ⟨s3, rfl, hl3, hb3⟩
    obtain ⟨a3, cap3, S3, rfl, -⟩ := hl3.out
    have H3 := held_call H1 hb3
    obtain ⟨d0, d1, d2, d3, d4⟩ := held_cells H3
    have hs3 : w.heap.size < w3.heap.size := by have := held_size H3; omega
    have HL3 := Lib.hid hl3
    clear hb3 hl3 H1 H0
    go_wp2_with fail
    have H4 := held_alloc H3 (.cells #[.int .i64 U.k, .int .i64 U.i, .int .i64 U.j, .int .i64 U.n, .slice a3 U.kids.length cap3] 24)
    refine (twin_any t _ _ (held_lies H4 HL.out) (by omega)).mono ?_
    rintro e w5 ⟨s5, rfl, hl5, hb5⟩
    obtain ⟨a5, cap5, rfl, -, -⟩ := hl5.out
    have H5 := held_call H4 hb5
    have q5 := keep_block hb5 (block_lt (alloc_new w3 _)) (alloc_new w3 _)
    have hs5 : w3.heap.size < w5.heap.size := block_lt q5
    have HLU5 := Lib.hid ((HL3.out.keep ((Below.refl _ _).alloc (Nat.le_refl _) _)).keep hb5)
    have HL5 := Lib.hid hl5.lies
    clear hb5 hl5 H3 H4 d0 d1 d2 d3 d4 HL3
    go_wp2_with fail
    have hb6 : Below w5.heap.size w5 (w5.alloc (.cells #[.int .i64 t.k, .int .i64 t.i, .int .i64 t.j, .int .i64 t.n, .slice a5 t.kids.length cap5] 24)) := (Below.refl _ _).alloc (Nat.le_refl _) _
    refine (strip_any t _ _ (HL5.out.keep hb6)).mono ?_
    rw [HU.out]
    rintro e w7 ⟨s7, rfl, hl7, hb7⟩
    obtain ⟨a7, cap7, rfl, -, -⟩ := hl7.out
    have hb57 : Below w5.heap.size w5 w7 := hb6.trans (hb7.mono hb6.size)
    have H7 := held_call H5 hb57
    have q7 := keep_block hb57 (block_lt q5) q5
    have r7 := keep_block hb7 (block_lt (alloc_new w5 _)) (alloc_new w5 _)
    have hs7 : w5.heap.size < w7.heap.size := block_lt r7
    have hs37 : w3.heap.size < w7.heap.size := block_lt q7
    obtain ⟨x0, x1, x2, x3, x4⟩ := five_cells q7
    have hb8 : Below w7.heap.size w7 (w7.alloc (.cells #[.int .i64 U.k, .int .i64 U.i, .int .i64 U.j, .int .i64 U.n, .slice a7 U.kids.length cap7] 24)) := (Below.refl _ _).alloc (Nat.le_refl _) _
    have HL7 := Lib.hid hl7
    have HU7 := Lib.hid (HLU5.out.keep hb57)
    have HB57 := Lib.hid hb57
    clear hb57 hb6 hb7 hl7 H5 q5
    go_wp2_with fail
    refine (keepsame_eq U _ _ _ (HL7.out.lies.keep hb8) (HU7.out.keep hb8)).mono ?_
    rintro e w9 ⟨rfl, hb9⟩
    have hb79 : Below w7.heap.size w7 w9 := hb8.trans (hb9.mono hb8.size)
    have r9 := keep_block hb9 (block_lt (alloc_new w7 _)) (alloc_new w7 _)
    obtain ⟨z0, z1, z2, z3, z4⟩ := five_cells r9
    have H9 := held_call H7 hb79
    have p9 := keep_block hb79 (block_lt r7) r7
    -- what is spoilt: the blocks of the erased term
    have hsp := HL7.out.keep (w' := w9) (Q := fun b => b < w7.heap.size ∧ Own (w5.heap.size + 1) w9 b) (fun b _ hlt => hb79.block b hlt) (fun b hb hlt => ⟨hlt, (hb.later hb79).from (by simp)⟩)
    have HSP := Lib.hid (spoil_any (fun b => b < w7.heap.size ∧ Own (w5.heap.size + 1) w9 b) w7.heap.size (fun b hb => hb.1) U.size U w9 _ (Nat.le_refl _) hsp (fun b hb => hb.2.2) hb79.size)
    have hs59 : w5.heap.size + 1 ≤ w9.heap.size := by have := hb79.size; omega
    have HB59 := Lib.hid (HB57.out.trans (hb79.mono (Nat.le_of_lt hs7)))
    clear hb79 hb8 hb9 hsp H7 q7 r7 x0 x1 x2 x3 x4 HL7 HU7
    go_wp2_with fail
    refine HSP.out.mono ?_
    rintro e w10 ⟨rfl, hshr⟩
    have hB10 : Below (w5.heap.size + 1) w9 w10 := hshr.below (fun b hb => hb.2.1) hs59
    have H10 : Held w t (.slice a t.kids.length cap) w10 := Below.trans H9 (hB10.mono (by omega))
    have p10 := keep_block hB10 (by omega) p9
    have HC := Lib.hid (and_five (held_cells H10) (five_cells p10))
    have HLT := Lib.hid (held_lies H10 HL.out)
    have hb510 := HB59.out.trans (hB10.mono (by omega))
    have HLI := Lib.hid (HL5.out.keep hb510)
    have HH10 := Lib.hid H10
    obtain ⟨d0, d1, d2, d3, d4⟩ := held_cells H10
    obtain ⟨v0, v1, v2, v3, v4⟩ := five_cells p10
    clear hb510 hB10 hshr p9 r9 z0 z1 z2 z3 z4 p10 HSP H9 H10 HLU5
    have hK0 : Kept w10 w10 := Below.refl _ _
    go_wp2_with fail
    refine (keepsame_eq t _ _ _ (kept_lies hK0 HLI.out) (kept_lies hK0 HLT.out)).mono ?_
    rintro e wa ⟨rfl, hba⟩
    have hKa := kept_call hK0 hba
    clear hba
    go_wp2_with fail
    refine (wakes6_any _).mono ?_
    rintro e wc ⟨rfl, hbc⟩
    have hh := kept_call hKa hbc
    go_wp2
    go_ret
    exact ⟨rfl, (held_below HH10.out).trans (hh.mono (by have := held_size HH10.out; omega))⟩
end Go.Proofs.Ytmhmengbhdaodaa
