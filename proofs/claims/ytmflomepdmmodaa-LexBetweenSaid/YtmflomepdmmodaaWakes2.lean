/-
  lex: wakes.
-/
import Derived.Test.YtmflomepdmmodaaLexW
namespace Go.Proofs.Ytmflomepdmmodaa
open Go.RowKit

theorem lex_w1 : lexL [40, 112, 105, 32, 48, 59, 120] 0 = ([⟨1, [40], 0⟩, ⟨3, [112, 105], 1⟩, ⟨4, [48], 4⟩], none) := by
  rw [lexL_next (q := 0) (k := 1) (n := 1) (by show 0 + skipL (40 :: _) = 0; rw [skipL_stop (by decide) (by decide)]) (by decide) (by decide)]
  rw [lexL_next (p := 0 + 1) (q := 1) (k := 3) (n := 2) (by show 1 + skipL (112 :: _) = 1; rw [skipL_stop (by decide) (by decide)]) (by decide) (by decide)]
  rw [lexL_next (p := 1 + 2) (q := 4) (k := 4) (n := 1) (by show 3 + skipL (32 :: 48 :: _) = 4; rw [skipL_blank (by decide), skipL_stop (by decide) (by decide)]) (by decide) (by decide)]
  rw [lexL_end (p := 4 + 1) (by show ¬ 5 + skipL (59 :: 120 :: []) < 7; rw [skipL_note (by decide) (by decide)]; rw [show runL lineC [120] = 1 by decide]; omega)]
  rfl
theorem lex_w2 : lexL [32, 48, 49] 0 = ([], some 1) := by
  rw [lexL_fault (q := 1) (by show 0 + skipL (32 :: 48 :: _) = 1; rw [skipL_blank (by decide), skipL_stop (by decide) (by decide)]) (by decide) (by decide)]
theorem name_w1 : nameL [97, 49] = true := by decide
theorem name_w2 : nameL [49, 97] = false := by decide

theorem toks_form {T : TypeId} {B : Nat} {w : World} {v : Value} {t : Tok} {ts : List Tok} (h : Toks T B w v (t :: ts)) : ∃ g cap, v = .slice (some ⟨g, 0, none⟩) (ts.length + 1) cap ∧ ∀ i (hi : i < (t :: ts).length) q, q < 3 → w.cell? ⟨g, i * 3 + q, none⟩ = [Value.int .i64 ((t :: ts)[i]).k, .string ⟨((t :: ts)[i]).s.toArray⟩, .int .i64 ((t :: ts)[i]).at_][q]? := by
  have h' := h
  obtain ⟨-, ⟨-, hn⟩ | ⟨g, cap, cur, rfl, -⟩⟩ := h'
  · simp at hn
  · exact ⟨g, cap, rfl, fun i hi q hq => by rw [World.ownsRow.cellAt h (i * 3 + q) (by omega)]; exact cells3_get _ i hi q hq⟩

set_option maxHeartbeats 1000000 in
theorem wakes_any (w : World) : Calls Try.prog 10 #[] w fun e w' => e = .returned (.bool true) ∧ Below w.heap.size w w' := by
  have HC1 := Lib.hid (lex_any ⟨#[40, 112, 105, 32, 48, 59, 120]⟩ w (by decide))
  have HC2 := Lib.hid fun w => lex_any ⟨#[32, 48, 49]⟩ w (by decide)
  have HN1 := Lib.hid fun w => name_any ⟨#[97, 49]⟩ w (by decide)
  have HN2 := Lib.hid fun w => name_any ⟨#[49, 97]⟩ w (by decide)
  go_enter Try.func10, Try.ntmps10
  go_wp2_with fail
  refine (HC1.out).mono ?_
  intro e w1 h1
  obtain ⟨hb1, h1⟩ := h1
  rw [lex_w1] at h1
  obtain ⟨v, ht, rfl⟩ := h1
  have HB1 := Lib.hid hb1
  have HT := Lib.hid ht
  obtain ⟨g, cap, rfl, -⟩ := toks_form ht
  clear hb1 ht
  go_wp2_with fail
  refine (HC2.out _).mono ?_
  intro e w2 h2
  obtain ⟨hb2, h2⟩ := h2
  rw [lex_w2] at h2
  obtain rfl := h2
  have HB2 := Lib.hid ((HB1.out).trans (hb2.mono HB1.out.size))
  obtain ⟨g', cap', he, hcell⟩ := toks_form (toks_later HT.out hb2)
  cases he
  have c10 := hcell 1 (by decide) 0 (by decide)
  have c11 := hcell 1 (by decide) 1 (by decide)
  have c22 := hcell 2 (by decide) 2 (by decide)
  simp only [List.getElem_cons_zero, List.getElem_cons_succ] at c10 c11 c22
  have c10' : w2.cell? ⟨g, 3, none⟩ = some (.int .i64 3) := c10
  have c11' : w2.cell? ⟨g, 4, none⟩ = some (.string ⟨#[112, 105]⟩) := c11
  have c22' : w2.cell? ⟨g, 8, none⟩ = some (.int .i64 4) := c22
  clear c10 c11 c22 hcell hb2
  go_wp2_with fail
  refine (HN1.out _).mono ?_
  rintro e w3 ⟨rfl, rfl⟩
  rw [show nameL (ByteArray.mk #[97, 49]).data.toList = true from name_w1]
  go_wp2_with fail
  refine (HN2.out _).mono ?_
  rintro e w4 ⟨rfl, rfl⟩
  rw [show nameL (ByteArray.mk #[49, 97]).data.toList = false from name_w2]
  go_wp2
  go_ret
  exact ⟨rfl, HB2.out⟩
end Go.Proofs.Ytmflomepdmmodaa
