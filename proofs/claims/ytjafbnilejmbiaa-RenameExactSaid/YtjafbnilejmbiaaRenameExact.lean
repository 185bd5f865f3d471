/-
  The walk of transhiplaw05.RenameExact.
-/
import Derived.Test.YtjafbnilejmbiaaLawKit
import Derived.Test.YtjafbnilejmbiaaWakes5
import Derived.Test.YtjafbnilejmbiaaLiftFacts
import Derived.Test.YtjafbnilejmbiaaRefMore
import Derived.Test.YtjafbnilejmbiaaRefRenameT
import Derived.Test.YtjafbnilejmbiaaRow
namespace Go.Proofs.Ytjafbnilejmbiaa
open Go.RowKit

set_option maxRecDepth 20000 in
set_option maxHeartbeats 4000000 in
theorem renameExact_any (t : Tm) (to : List Int) (w : World) (s st : Value) (hl : Lies w t.kids s) (hti : LiesI w to st) : Calls Try.prog 12 #[tv t s, st] w fun e w' => e = .returned (.bool true) ∧ Below w.heap.size w w' := by
  obtain ⟨ta, tcap, rfl, htc, htm, -⟩ := hti.out
  unfold maxLen at htm
  have HTI := Lib.hid hti
  clear hti
  obtain ⟨a, cap, S, rfl, hcap, hmx, -, -, -⟩ := hl.out
  have H0 := held_start w t (.slice a t.kids.length cap)
  have HL := Lib.hid hl
  unfold tv
  clear hl
  go_enter Try.func12, Try.ntmps12
  go_wp2_with fail
  refine (great_any t _ _ 300 (held_lies H0 HL.out) (by omega) (by omega)).mono ?_
  rintro e w1 ⟨g, rfl, hg, hb'⟩
  have H1 := held_call H0 hb'
  obtain ⟨d0, d1, d2, d3, d4⟩ := held_cells H1
  have HG := Lib.hid hg
  clear hg hb' H0
  cases g with
  | true =>
    go_wp2
    go_ret
    exact ⟨rfl, held_below H1⟩
  | false =>
  have hz_t := (HG.out rfl).1
  have hd_t := (HG.out rfl).2
  clear HG
  by_cases hp1 : 200 < (to.length : Int)
  · have ep1 : decide (200 < (to.length : Int)) = true := by simpa using hp1
    go_wp2
    go_ret
    exact ⟨rfl, held_below H1⟩
  have ep1 : decide (200 < (to.length : Int)) = false := by simpa using hp1
  have hdt : t.deep ≤ 100000 := by omega
  have HDT := Lib.hid hdt
  clear hdt hz_t hd_t
  go_wp2_with fail
  refine (rename_any t to _ _ _ (held_lies H1 HL.out) (HTI.out.keep (held_below H1)) HDT.out).mono ?_
  intro e w3 hg
  cases hx : t.renB to with
  | none =>
    rw [hx] at hg
    have HX := Lib.hid hx
    clear hx
    obtain ⟨rfl, hb3⟩ := hg.none
    have HLA := Lib.hid (lies_nil w3)
    have H3 := held_call H1 hb3
    obtain ⟨d0, d1, d2, d3, d4⟩ := held_cells H3
    have hs3 : w.heap.size < w3.heap.size := by have := held_size H3; omega
    have HB3 := Lib.hid hb3
    clear hb3
    go_wp2_with fail
    have hba : Below w3.heap.size w3 (w3.alloc (.cells #[.int .i64 0, .int .i64 0, .int .i64 0, .int .i64 0, .slice none 0 0] 24)) := (Below.refl _ _).alloc (Nat.le_refl _) _
    have HA := held_call H3 hba
    refine (refrename_any t to _ _ _ (held_lies HA HL.out) ((HTI.out.keep (held_below H3)).keep hba) HDT.out).mono ?_
    intro e w5 hg5
    rw [HX.out] at hg5
    obtain ⟨rfl, hb5⟩ := hg5.none
    have HLB := Lib.hid (lies_nil w5)
    have H5 := held_call HA hb5
    have q5 := keep_block hb5 (block_lt (alloc_new w3 _)) (alloc_new w3 _)
    have hs5 : w3.heap.size < w5.heap.size := block_lt q5
    obtain ⟨d0, d1, d2, d3, d4⟩ := held_cells H5
    obtain ⟨y0, y1, y2, y3, y4⟩ := five_cells q5
    have HL3 : Hid (Lies w5 [] (.slice none 0 0)) := Lib.hid ((HLA.out.keep hba).keep hb5)
    have hbc : Below w5.heap.size w5 (w5.alloc (.cells #[.int .i64 0, .int .i64 0, .int .i64 0, .int .i64 0, .slice none 0 0] 24)) := (Below.refl _ _).alloc (Nat.le_refl _) _
    have HC5 := held_call H5 hbc
    clear hb5 hba HA H3 q5 hg5
    go_wp2_with fail
    refine (keepsame_eq Tm.zero _ _ _ (HL3.out.keep hbc) (HLB.out.keep hbc)).mono ?_
    rintro e w6 ⟨rfl, hb6⟩
    have H6 := held_call HC5 hb6
    clear hb6
    go_wp2_with fail
    refine (wakes5_any _).mono ?_
    rintro e w7 ⟨rfl, hb7⟩
    have H7 := held_call H6 hb7
    go_wp2
    go_ret
    exact ⟨rfl, held_below H7⟩
  | some u =>
    rw [hx] at hg
    have HX := Lib.hid hx
    clear hx
    obtain ⟨⟨s3, rfl, hl3⟩, hb3⟩ := hg.some
    obtain ⟨a3, cap3, rfl, -, -⟩ := hl3.out
    have HLA := Lib.hid hl3.lies
    clear hl3
    have H3 := held_call H1 hb3
    obtain ⟨d0, d1, d2, d3, d4⟩ := held_cells H3
    have hs3 : w.heap.size < w3.heap.size := by have := held_size H3; omega
    have HB3 := Lib.hid hb3
    clear hb3
    go_wp2_with fail
    have hba : Below w3.heap.size w3 (w3.alloc (.cells #[.int .i64 u.k, .int .i64 u.i, .int .i64 u.j, .int .i64 u.n, .slice a3 u.kids.length cap3] 24)) := (Below.refl _ _).alloc (Nat.le_refl _) _
    have HA := held_call H3 hba
    refine (refrename_any t to _ _ _ (held_lies HA HL.out) ((HTI.out.keep (held_below H3)).keep hba) HDT.out).mono ?_
    intro e w5 hg5
    rw [HX.out] at hg5
    obtain ⟨⟨s5, rfl, hl5⟩, hb5⟩ := hg5.some
    obtain ⟨a5, cap5, rfl, -, -⟩ := hl5.out
    have HLB := Lib.hid hl5.lies
    clear hl5
    have H5 := held_call HA hb5
    have q5 := keep_block hb5 (block_lt (alloc_new w3 _)) (alloc_new w3 _)
    have hs5 : w3.heap.size < w5.heap.size := block_lt q5
    obtain ⟨d0, d1, d2, d3, d4⟩ := held_cells H5
    obtain ⟨y0, y1, y2, y3, y4⟩ := five_cells q5
    have HL3 : Hid (Lies w5 u.kids (.slice a3 u.kids.length cap3)) := Lib.hid ((HLA.out.keep hba).keep hb5)
    have hbc : Below w5.heap.size w5 (w5.alloc (.cells #[.int .i64 u.k, .int .i64 u.i, .int .i64 u.j, .int .i64 u.n, .slice a5 u.kids.length cap5] 24)) := (Below.refl _ _).alloc (Nat.le_refl _) _
    have HC5 := held_call H5 hbc
    clear hb5 hba HA H3 q5 hg5
    go_wp2_with fail
    refine (keepsame_eq u _ _ _ (HL3.out.keep hbc) (HLB.out.keep hbc)).mono ?_
    rintro e w6 ⟨rfl, hb6⟩
    have H6 := held_call HC5 hb6
    clear hb6
    go_wp2_with fail
    refine (wakes5_any _).mono ?_
    rintro e w7 ⟨rfl, hb7⟩
    have H7 := held_call H6 hb7
    go_wp2
    go_ret
    exact ⟨rfl, held_below H7⟩
end Go.Proofs.Ytjafbnilejmbiaa
