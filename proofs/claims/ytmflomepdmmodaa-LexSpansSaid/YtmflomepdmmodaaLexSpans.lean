/-
  The walk of transhiplaw02.LexSpans.
-/
import Derived.Test.YtmflomepdmmodaaLexS
import Derived.Deep.QuietTactic
import Derived.BigQuiet
namespace Go.Proofs.Ytmflomepdmmodaa
open Go.RowKit

theorem toks_any {T : TypeId} {B : Nat} {w : World} {v : Value} {ts : List Tok} (h : Toks T B w v ts) : ∃ a cap, v = .slice a ts.length cap ∧ ∀ i (hi : i < ts.length), ∃ g, a = some ⟨g, 0, none⟩ ∧ w.cell? ⟨g, i * 3, none⟩ = some (.int .i64 ts[i].k) ∧ w.cell? ⟨g, i * 3 + 1, none⟩ = some (.string ⟨ts[i].s.toArray⟩) ∧ w.cell? ⟨g, i * 3 + 2, none⟩ = some (.int .i64 ts[i].at_) := by
  have h' := h
  obtain ⟨-, ⟨rfl, hn⟩ | ⟨g, cap, cur, rfl, -⟩⟩ := h'
  · exact ⟨none, 0, by rw [hn], fun i hi => by omega⟩
  · refine ⟨_, cap, rfl, fun i hi => ⟨g, rfl, ?_, ?_, ?_⟩⟩
    · exact (World.ownsRow.cellAt h (i * 3 + 0) (by omega)).trans (cells3_get _ i hi 0 (by decide))
    · exact (World.ownsRow.cellAt h (i * 3 + 1) (by omega)).trans (cells3_get _ i hi 1 (by decide))
    · exact (World.ownsRow.cellAt h (i * 3 + 2) (by omega)).trans (cells3_get _ i hi 2 (by decide))
theorem slice_two {P : Program} {t : TypeId} (w : World) (s : ByteArray) (p q : Nat) (ht : P.underlying t = some .string) (h : p ≤ q) (h2 : q ≤ s.size) :
    (Instr.slice t (.string s) (some (.int .i64 (p : Int))) (some (.int .i64 (q : Int))) none).run P w = .ok (.string (s.extract p q)) w := by
  rw [run_slice_string w t s .i64 .i64 _ _ ht (by omega) (by omega) (by omega)]
  rfl

theorem below_drewS {B : Nat} {a w : World} (h : Below B a w) (k : Nat) : Below B a (w.drewN k) := ⟨h.os, h.tape, h.output, h.size, h.block⟩

set_option maxRecDepth 20000 in
set_option maxHeartbeats 2000000 in
theorem lexSpans_any (s : ByteArray) (w : World) : Calls Try.prog 5 #[.string s] w fun e w' => e = .returned (.bool true) ∧ Below w.heap.size w w' := by
  by_cases h1 : 2000 < s.size
  · have h1' : 2000 < (s.size : Int) := by omega
    go_enter Try.func5, Try.ntmps5
    go_wp2
    go_ret
    exact ⟨rfl, Below.refl _ _⟩
  have h1' : ¬ 2000 < (s.size : Int) := by omega
  have HLX := Lib.hid fun w => lex_any s w (by omega)
  have HNO := Lib.hid fun t w (h : t.size ≤ 1000000) => nothing_any t w h
  have hsl : s.data.toList.length = s.size := by simp
  have HSL := Lib.hid hsl
  clear hsl
  obtain ⟨R, hR⟩ : ∃ R, lexL s.data.toList 0 = R := ⟨_, rfl⟩
  obtain ⟨ts, o⟩ := R
  cases o with
  | some p =>
    rw [hR] at HLX
    clear hR
    go_enter Try.func5, Try.ntmps5
    go_wp2_with fail
    refine (HLX.out _).mono ?_
    rintro e w2 ⟨hb2, h2⟩
    obtain rfl : e = .returned (.tuple #[.slice none 0 0, .int .i64 2, .int .i64 p]) := h2
    have HB2 := Lib.hid hb2
    clear hb2
    go_wp2_with fail
    refine (wakes_any _).mono ?_
    rintro e w4 ⟨rfl, hb4⟩
    go_wp2
    go_ret
    exact ⟨rfl, HB2.out.trans (hb4.mono HB2.out.size)⟩
  | none =>
    have HRR := Lib.hid hR
    have hfew := lexL_few hR
    rw [HSL.out] at hfew
    rw [hR] at HLX
    clear hR
    go_enter Try.func5, Try.ntmps5
    go_wp2_with fail
    refine (HLX.out _).mono ?_
    rintro e w2 ⟨hb2, h2⟩
    obtain ⟨v, ht, rfl⟩ : ∃ v, Toks 33 w.heap.size w2 v ts ∧ e = .returned (.tuple #[v, .int .i64 0, .int .i64 0]) := h2
    have HB2 := Lib.hid hb2
    have HT2 := Lib.hid ht
    obtain ⟨a, cap, rfl, -⟩ := toks_any ht
    clear hb2 ht
    go_wp2_with fail
    go_loopw [6, 7] (fun x i wr => ∃ (p j : Nat), j ≤ ts.length + 1 ∧ p ≤ s.size ∧ x = .int .i64 p ∧ i = .int .i64 j ∧ Hid (j ≤ ts.length → lexL s.data.toList p = (ts.drop j, none)) ∧ Hid (Toks 33 w.heap.size wr (.slice a ts.length cap) ts) ∧ Hid (Below w.heap.size w wr)) (fun _ i _ => ts.length + 1 - (intOf i).toNat)
    case atStart => exact ⟨0, 0, by omega, Nat.zero_le _, rfl, rfl, fun _ => HRR.out, HT2.out, HB2.out⟩
    case round =>
      obtain ⟨p, j, hj, hp, rfl, rfl, hx, hT, hB⟩ := hrel
      by_cases hj2 : j < ts.length
      · have hx1 := hx.out (by omega)
        rw [List.drop_eq_getElem_cons hj2] at hx1
        obtain ⟨q, k, n, hq, hq2, hn, ht, hr⟩ := lexL_inv hx1
        rw [HSL.out] at hq2
        have hrg := nextL_range hn
        rw [List.length_drop, HSL.out] at hrg
        obtain ⟨hn1, hn2, -, -⟩ := hrg
        obtain ⟨a', cap', he, hcell⟩ := toks_any hT.out
        obtain ⟨g, hg, k0, k1, k2⟩ := hcell j hj2
        cases he
        subst hg
        rw [ht] at k1 k2
        obtain ⟨P, hP⟩ : ∃ P, s.extract q (q + n) = P := ⟨_, rfl⟩
        have hPs : P.size = n := by
          have h3 : P.data.toList.length = P.size := by simp
          rw [← hP, Lib.extract_data, List.length_take, List.length_drop, HSL.out] at h3
          rw [← hP]; omega
        have hk1 : wr.cell? ⟨g, j * 3 + 1, none⟩ = some (.string P) := by
          rw [k1, ← hP, Lib.extract_eq, Nat.add_sub_cancel_left]
        have hk2 : wr.cell? ⟨g, j * 3 + 2, none⟩ = some (.int .i64 q) := k2
        have hsl1 : ∀ w', (Instr.slice 9 (.string s) (some (.int .i64 (q : Int))) (some (.int .i64 ((q : Int) + (n : Int)))) none).run Try.prog w' = .ok (.string P) w' := fun w' => by rw [← hP]; exact slice_at w' s q n rfl (by omega)
        obtain ⟨G, hG⟩ : ∃ G, s.extract p q = G := ⟨_, rfl⟩
        have hsl2 : ∀ w', (Instr.slice 9 (.string s) (some (.int .i64 (p : Int))) (some (.int .i64 (q : Int))) none).run Try.prog w' = .ok (.string G) w' := fun w' => by rw [← hG]; exact slice_two w' s p q rfl (by omega) (by omega)
        have hno : nothL false G.data.toList = true := by
          rw [← hG, Lib.extract_data, show q - p = skipL (s.data.toList.drop p) by omega]
          exact noth_skip _ _ (Nat.le_refl _)
        have hGs : G.size ≤ 1000000 := by
          have h3 : G.data.toList.length = G.size := by simp
          rw [← hG, Lib.extract_data, List.length_take, List.length_drop, HSL.out] at h3
          rw [← hG]; omega
        have HN := Lib.hid fun w => HNO.out G w hGs
        rw [hno] at HN
        have HR := Lib.hid hr
        have hpq : p ≤ q := by omega
        clear hG hP hno hGs hr ht hn hx1 hx k0 k1 k2 hcell hq
        go_wp2_with fail
        refine (HN.out _).mono ?_
        rintro e w5 ⟨rfl, rfl⟩
        go_wp2_with fail
        have d1 : decide ((s.size : Int) < (q : Int) + (n : Int)) = false := decide_eq_false (by omega)
        have d2 : decide (s.size < q + n) = false := decide_eq_false (by omega)
        have d3 : ((n : Int) == 0) = false := beq_eq_false_iff_ne.2 (by omega)
        go_quiet (fail)
        have HT3 := Lib.hid (toks_later hT.out (below_drewS (Below.refl _ _) nq))
        have HB3 := Lib.hid (below_drewS hB.out nq)
        clear hsl1 hsl2 hk1 hk2
        go_wp2_with fail
        have hw : IntKind.i64.wrap ((j : Int) + 1) = (j : Int) + 1 := IntWalk.i64_in _ (by omega)
        go_roundw
        case rel => exact ⟨q + n, j + 1, by omega, by omega, by go_num, by go_num, fun _ => HR.out, HT3, HB3⟩
        case measure => simp [intOf]; omega
      · by_cases hj3 : j = ts.length
        · subst hj3
          have hx1 := hx.out (Nat.le_refl _)
          rw [List.drop_length] at hx1
          have hx2 := lexL_inv_nil hx1
          rw [HSL.out] at hx2
          obtain ⟨G, hG⟩ : ∃ G, s.extract p s.size = G := ⟨_, rfl⟩
          have hsl2 : ∀ w', (Instr.slice 9 (.string s) (some (.int .i64 (p : Int))) (some (.int .i64 (s.size : Int))) none).run Try.prog w' = .ok (.string G) w' := fun w' => by rw [← hG]; exact slice_two w' s p s.size rfl hp (Nat.le_refl _)
          have hle := skipL_le _ (s.data.toList.drop p) (Nat.le_refl _)
          rw [List.length_drop, HSL.out] at hle
          have hno : nothL false G.data.toList = true := by
            rw [← hG, Lib.extract_data, show s.size - p = skipL (s.data.toList.drop p) by omega]
            exact noth_skip _ _ (Nat.le_refl _)
          have hGs : G.size ≤ 1000000 := by
            have h3 : G.data.toList.length = G.size := by simp
            rw [← hG, Lib.extract_data, List.length_take, List.length_drop, HSL.out] at h3
            rw [← hG]; omega
          have HN := Lib.hid fun w => HNO.out G w hGs
          rw [hno] at HN
          clear hG hno hGs hx1 hx hle hx2 hj hj2
          go_wp2_with fail
          refine (HN.out _).mono ?_
          rintro e w5 ⟨rfl, rfl⟩
          go_wp2_with fail
          go_roundw
          case rel => exact ⟨p, ts.length + 1, by omega, hp, by go_num, by go_num, fun h => by omega, hT, hB⟩
          case measure => simp [intOf]
        · have hj4 : ts.length < j := by omega
          clear hx hT
          go_wp2_with fail
          refine (wakes_any _).mono ?_
          rintro e w4 ⟨rfl, hb4⟩
          go_wp2
          go_ret
          exact ⟨rfl, hB.out.trans (hb4.mono hB.out.size)⟩
end Go.Proofs.Ytmflomepdmmodaa
