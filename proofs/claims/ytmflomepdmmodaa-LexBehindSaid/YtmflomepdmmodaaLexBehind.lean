/-
  The walk of transhiplaw02.LexBehind.
-/
import Derived.Test.YtmflomepdmmodaaLexB
import Derived.Deep.QuietTactic
import Derived.BigQuiet
namespace Go.Proofs.Ytmflomepdmmodaa
open Go.RowKit

theorem toks_at {T : TypeId} {B n : Nat} {w : World} {v : Value} {ts : List Tok} (h : Toks T B w v ts) (hn : ts.length = n) : ∃ a cap, v = .slice a n cap ∧ ∀ i t, ts[i]? = some t → ∃ g, a = some ⟨g, 0, none⟩ ∧ w.cell? ⟨g, i * 3, none⟩ = some (.int .i64 t.k) ∧ w.cell? ⟨g, i * 3 + 1, none⟩ = some (.string ⟨t.s.toArray⟩) ∧ w.cell? ⟨g, i * 3 + 2, none⟩ = some (.int .i64 t.at_) ∧ g < w.heap.size := by
  subst hn
  have h' := h
  obtain ⟨-, ⟨rfl, hn⟩ | ⟨g, cap, cur, rfl, -, hg, -⟩⟩ := h'
  · exact ⟨none, 0, by rw [hn], fun i t hi => by have := (List.getElem?_eq_some_iff.1 hi).1; omega⟩
  · refine ⟨_, cap, rfl, fun i t ht => ?_⟩
    obtain ⟨hi, rfl⟩ := List.getElem?_eq_some_iff.1 ht
    refine ⟨g, rfl, ?_, ?_, ?_, (Array.getElem?_eq_some_iff.1 hg).1⟩
    · exact (World.ownsRow.cellAt h (i * 3 + 0) (by omega)).trans (cells3_get _ i hi 0 (by decide))
    · exact (World.ownsRow.cellAt h (i * 3 + 1) (by omega)).trans (cells3_get _ i hi 1 (by decide))
    · exact (World.ownsRow.cellAt h (i * 3 + 2) (by omega)).trans (cells3_get _ i hi 2 (by decide))
theorem lexL_place {l : List UInt8} {q : Nat} : ∀ (ts : List Tok) (p : Nat), lexL l p = (ts, some q) → q < l.length
  | [], p, h => by
    by_cases h1 : p + skipL (l.drop p) < l.length
    · cases hn : nextL (l.drop (p + skipL (l.drop p))) with
      | none => rw [lexL_fault rfl h1 hn] at h; cases h; exact h1
      | some x => obtain ⟨k, n⟩ := x; rw [lexL_next rfl h1 hn] at h; cases h
    · rw [lexL_end h1] at h; cases h
  | t :: r, p, h => by
    obtain ⟨q', k, n, -, -, -, -, hr⟩ := lexL_inv h
    exact lexL_place r _ hr
theorem lexL_at {l : List UInt8} {o : Option Nat} : ∀ (ts : List Tok) (p : Nat), lexL l p = (ts, o) → ∀ t ∈ ts, t.at_ < l.length
  | [], _, _, _, h => by cases h
  | t :: r, p, h, x, hx => by
    obtain ⟨q, k, n, -, hq, -, rfl, hr⟩ := lexL_inv h
    rcases List.mem_cons.1 hx with rfl | hx
    · exact hq
    · exact lexL_at r _ hr x hx
theorem below_drewB {B : Nat} {a w : World} (h : Below B a w) (k : Nat) : Below B a (w.drewN k) := ⟨h.os, h.tape, h.output, h.size, h.block⟩

set_option maxRecDepth 20000 in
set_option maxHeartbeats 4000000 in
theorem lexBehind_any (a b : ByteArray) (w : World) : Calls Try.prog 7 #[.string a, .string b] w fun e w' => e = .returned (.bool true) ∧ Below w.heap.size w w' := by
  by_cases h1 : 2000 < a.size
  · have h1' : 2000 < (a.size : Int) := by omega
    go_enter Try.func7, Try.ntmps7
    go_wp2
    go_ret
    exact ⟨rfl, Below.refl _ _⟩
  have h1' : ¬ 2000 < (a.size : Int) := by omega
  by_cases h2 : 2000 < b.size
  · have h2' : 2000 < (b.size : Int) := by omega
    go_enter Try.func7, Try.ntmps7
    go_wp2
    go_ret
    exact ⟨rfl, Below.refl _ _⟩
  have h2' : ¬ 2000 < (b.size : Int) := by omega
  have HLA := Lib.hid fun w => lex_any a w (by omega)
  have HLB := Lib.hid fun w => lex_any b w (by omega)
  obtain ⟨c, hc⟩ : ∃ c : ByteArray, a ++ ⟨#[10]⟩ ++ b = c := ⟨_, rfl⟩
  have hcd : a.data.toList ++ Ends10 b.data.toList = c.data.toList := by rw [← hc]; simp [Ends10]
  have hcs : c.size ≤ 5000 := by
    have e0 := congrArg List.length hcd
    have e1 : a.data.size = a.size := rfl
    have e2 : b.data.size = b.size := rfl
    have e3 : c.data.size = c.size := rfl
    simp [Ends10] at e0; omega
  have HLC := Lib.hid fun w => lex_any c w (by omega)
  obtain ⟨RA, hRA⟩ : ∃ R, lexL a.data.toList 0 = R := ⟨_, rfl⟩
  obtain ⟨ta, oa⟩ := RA
  have hRC := lex_two a.data.toList b.data.toList ta 0 oa (Nat.zero_le _) hRA
  have hfa := lexL_few hRA
  rw [show a.data.toList.length = a.size from by simp] at hfa hRC
  rw [hcd] at hRC
  rw [hRA] at HLA
  clear hcd hcs hRA
  have HC := Lib.hid hc
  cases oa with
  | some p =>
    have hRC' : lexL c.data.toList 0 = (ta, some p) := hRC
    rw [hRC', ← HC.out] at HLC
    clear hRC hRC' hc HC
    go_enter Try.func7, Try.ntmps7
    go_wp2_with fail
    refine (HLA.out _).mono ?_
    rintro e w2 ⟨hb2, h2⟩
    obtain rfl : e = .returned (.tuple #[.slice none 0 0, .int .i64 2, .int .i64 p]) := h2
    have HB2 := Lib.hid hb2
    clear hb2
    go_wp2_with fail
    refine (HLC.out _).mono ?_
    rintro e w3 ⟨hb3, h3⟩
    obtain rfl : e = .returned (.tuple #[.slice none 0 0, .int .i64 2, .int .i64 p]) := h3
    have HB3 := Lib.hid (HB2.out.trans (hb3.mono HB2.out.size))
    clear hb3
    go_wp2_with fail
    refine (wakes_any _).mono ?_
    rintro e w4 ⟨rfl, hb4⟩
    go_wp2
    go_ret
    exact ⟨rfl, HB3.out.trans (hb4.mono HB3.out.size)⟩
  | none =>
    obtain ⟨RB, hRB⟩ : ∃ R, lexL b.data.toList 0 = R := ⟨_, rfl⟩
    obtain ⟨tb, ob⟩ := RB
    have hfb := lexL_few hRB
    rw [show b.data.toList.length = b.size from by simp] at hfb
    have hRC' : lexL c.data.toList 0 = lexTo ta (shB (a.size + 1) (lexL b.data.toList 0)) := hRC
    rw [hRB] at HLB hRC'
    cases ob with
    | some q =>
      have hq := lexL_place tb 0 hRB
      rw [show b.data.toList.length = b.size from by simp] at hq
      have hRC2 : lexL c.data.toList 0 = (ta ++ (shB (a.size + 1) (tb, some q)).1, some (q + (a.size + 1))) := hRC'
      rw [hRC2, ← HC.out] at HLC
      clear hRC hRC' hRC2 hRB hc HC
      go_enter Try.func7, Try.ntmps7
      go_wp2_with fail
      refine (HLA.out _).mono ?_
      rintro e w2 ⟨hb2, h2⟩
      obtain ⟨vl, -, rfl⟩ : ∃ v, Toks 33 w.heap.size w2 v ta ∧ e = .returned (.tuple #[v, .int .i64 0, .int .i64 0]) := h2
      have HB2 := Lib.hid hb2
      clear hb2
      go_wp2_with fail
      refine (HLC.out _).mono ?_
      rintro e w3 ⟨hb3, h3⟩
      obtain rfl : e = .returned (.tuple #[.slice none 0 0, .int .i64 2, .int .i64 ((a.size : Int) + 1 + (q : Int))]) := (show e = .returned (.tuple #[.slice none 0 0, .int .i64 2, .int .i64 ((q + (a.size + 1) : Nat) : Int)]) from h3).trans (by rw [show ((q + (a.size + 1) : Nat) : Int) = (a.size : Int) + 1 + (q : Int) by omega])
      have HB3 := Lib.hid (HB2.out.trans (hb3.mono HB2.out.size))
      clear hb3
      go_wp2_with fail
      refine (HLB.out _).mono ?_
      rintro e w4 ⟨hb4, h4⟩
      obtain rfl : e = .returned (.tuple #[.slice none 0 0, .int .i64 2, .int .i64 q]) := h4
      have HB4 := Lib.hid (HB3.out.trans (hb4.mono HB3.out.size))
      clear hb4
      go_wp2_with fail
      refine (wakes_any _).mono ?_
      rintro e w5 ⟨rfl, hb5⟩
      go_wp2
      go_ret
      exact ⟨rfl, HB4.out.trans (hb5.mono HB4.out.size)⟩
    | none =>
      obtain ⟨tm, htm⟩ : ∃ tm, ta ++ (shB (a.size + 1) (tb, none)).1 = tm := ⟨_, rfl⟩
      have hlm : tm.length = ta.length + tb.length := by rw [← htm]; simp [shB]
      have HM1 := Lib.hid (show ∀ (i : Nat) t, i < ta.length → ta[i]? = some t → tm[i]? = some t from fun i t h e => by rw [← htm, List.getElem?_append_left h]; exact e)
      have HM2 := Lib.hid (show ∀ (i : Nat) t, tb[i]? = some t → tm[ta.length + i]? = some ⟨t.k, t.s, t.at_ + (a.size + 1)⟩ from fun i t e => by
        rw [← htm, List.getElem?_append_right (by omega), Nat.add_sub_cancel_left]; simp [shB, e])
      have hRC2 : lexL c.data.toList 0 = (tm, none) := by rw [hRC', ← htm]; rfl
      rw [hRC2, ← HC.out] at HLC
      have hat := lexL_at tb 0 hRB
      rw [show b.data.toList.length = b.size from by simp] at hat
      have HAT := Lib.hid (show ∀ i t, tb[i]? = some t → t.at_ < b.size from fun i t e => hat t (List.mem_of_getElem? e))
      clear hRC hRC' hRC2 hRB hc HC htm hat
      obtain ⟨na, hna⟩ : ∃ n, ta.length = n := ⟨_, rfl⟩
      obtain ⟨nb, hnb⟩ : ∃ n, tb.length = n := ⟨_, rfl⟩
      rw [hna] at hlm hfa HM1 HM2
      rw [hnb] at hlm hfb
      have HNA := Lib.hid hna
      have HNB := Lib.hid hnb
      have HNM := Lib.hid hlm
      clear hna hnb hlm
      go_enter Try.func7, Try.ntmps7
      go_wp2_with fail
      refine (HLA.out _).mono ?_
      rintro e w2 ⟨hb2, h2⟩
      obtain ⟨vl, htl, rfl⟩ : ∃ v, Toks 33 w.heap.size w2 v ta ∧ e = .returned (.tuple #[v, .int .i64 0, .int .i64 0]) := h2
      have HB2 := Lib.hid hb2
      have HTL := Lib.hid htl
      obtain ⟨al, cl, rfl, -⟩ := toks_at htl HNA.out
      clear hb2 htl
      go_wp2_with fail
      refine (HLC.out _).mono ?_
      rintro e w3 ⟨hb3, h3⟩
      obtain ⟨vm, htm, rfl⟩ : ∃ v, Toks 33 w2.heap.size w3 v tm ∧ e = .returned (.tuple #[v, .int .i64 0, .int .i64 0]) := h3
      have HB3 := Lib.hid (HB2.out.trans (hb3.mono HB2.out.size))
      have HTL3 := Lib.hid (toks_later HTL.out hb3)
      have HTM := Lib.hid htm
      obtain ⟨am, cm, rfl, -⟩ := toks_at htm HNM.out
      clear hb3 htm
      go_wp2_with fail
      refine (HLB.out _).mono ?_
      rintro e w4 ⟨hb4, h4⟩
      obtain ⟨vn, htn, rfl⟩ : ∃ v, Toks 33 w3.heap.size w4 v tb ∧ e = .returned (.tuple #[v, .int .i64 0, .int .i64 0]) := h4
      have HB4 := Lib.hid (HB3.out.trans (hb4.mono HB3.out.size))
      have HTL4 := Lib.hid (toks_later HTL3.out hb4)
      have HTM4 := Lib.hid (toks_later HTM.out hb4)
      have HTN4 := Lib.hid htn
      obtain ⟨an, cn, rfl, -⟩ := toks_at htn HNB.out
      have hsz : w3.heap.size ≤ w4.heap.size := hb4.size
      clear hb4 htn HTL HTL3 HTM
      have hw0 : IntKind.i64.wrap ((na : Int) + (nb : Int)) = (na : Int) + (nb : Int) := IntWalk.i64_in _ (by omega)
      go_wp2_with fail
      go_loopw [14] (fun i wr => ∃ j : Nat, j ≤ na + nb ∧ i = .int .i64 j ∧ Hid (Toks 33 w.heap.size wr (.slice al na cl) ta) ∧ Hid (Toks 33 w2.heap.size wr (.slice am (na + nb) cm) tm) ∧ Hid (Toks 33 w3.heap.size wr (.slice an nb cn) tb) ∧ Hid (Below w.heap.size w wr)) (fun i _ => na + nb - (intOf i).toNat)
      case atStart => exact ⟨0, Nat.zero_le _, rfl, HTL4.out, HTM4.out, HTN4.out, HB4.out⟩
      case round =>
        clear HTL4 HTM4 HTN4
        obtain ⟨j, hj, rfl, hL, hM, hN, hB⟩ := hrel
        have hB2 := hB.out.size
        have hw1 : IntKind.i64.wrap ((j : Int) + 1) = (j : Int) + 1 := IntWalk.i64_in _ (by omega)
        by_cases hja : j < na
        · obtain ⟨t, ht⟩ : ∃ t, ta[j]? = some t := ⟨ta[j]'(by rw [HNA.out]; exact hja), List.getElem?_eq_getElem _⟩
          obtain ⟨a', cap1, he, hcell⟩ := toks_at hL.out HNA.out
          obtain ⟨g, hg, k0, k1, k2, -⟩ := hcell j t ht
          cases he
          subst hg
          clear hcell
          obtain ⟨a', cap1, he, hcell⟩ := toks_at hM.out HNM.out
          obtain ⟨g', hg, l0, l1, l2, -⟩ := hcell j t (HM1.out j t hja ht)
          cases he
          subst hg
          clear hcell ht
          generalize hk : t.k = tk at k0 l0
          generalize hs : (ByteArray.mk t.s.toArray) = tss at k1 l1
          generalize ha : t.at_ = tat at k2 l2
          clear hk hs ha
          have hlt : j < na + nb := by omega
          go_wp2_with fail
          go_quiet (fail)
          have HL2 := Lib.hid (toks_later hL.out (below_drewB (Below.refl _ _) nq))
          have HM2 := Lib.hid (toks_later hM.out (below_drewB (Below.refl _ _) nq))
          have HN2 := Lib.hid (toks_later hN.out (below_drewB (Below.refl _ _) nq))
          have HB2 := Lib.hid (below_drewB hB.out nq)
          clear hL hM hN hB k0 k1 k2 l0 l1 l2
          go_wp2_with fail
          go_roundw
          case rel => exact ⟨j + 1, by omega, by go_num, HL2, HM2, HN2, HB2⟩
          case measure => simp [intOf]; omega
        · by_cases hjb : j < na + nb
          · obtain ⟨i, hi⟩ : ∃ i, na + i = j := ⟨j - na, by omega⟩
            obtain ⟨t, ht⟩ : ∃ t, tb[i]? = some t := ⟨tb[i]'(by rw [HNB.out]; omega), List.getElem?_eq_getElem _⟩
            have htm := HM2.out i t ht
            rw [hi] at htm
            obtain ⟨a', cap1, he, hcell⟩ := toks_at hN.out HNB.out
            obtain ⟨g, hg, k0, k1, k2, -⟩ := hcell i t ht
            cases he
            subst hg
            clear hcell
            obtain ⟨a', cap1, he, hcell⟩ := toks_at hM.out HNM.out
            obtain ⟨g', hg, l0, l1, l2, hlm⟩ := hcell j _ htm
            cases he
            subst hg
            have htat := HAT.out i t ht
            clear hcell ht htm
            generalize hk : t.k = tk at k0 l0
            generalize hs : (ByteArray.mk t.s.toArray) = tss at k1 l1
            generalize ha : t.at_ = tat at k2 l2 htat
            clear hk hs ha
            have hib : i < nb := by omega
            have hsub : IntKind.i64.wrap ((j : Int) - (na : Int)) = (i : Int) := by rw [show (j : Int) - (na : Int) = i by omega]; exact IntWalk.i64_in _ (by omega)
            clear hi
            go_wp2_with fail
            obtain ⟨W, hW⟩ : ∃ W, wr.alloc (Obj.cells #[Value.int IntKind.i64 tk, Value.string tss, Value.int IntKind.i64 tat] 33) = W := ⟨_, rfl⟩
            have m0 : W.cell? ⟨g', j * 3, none⟩ = some (.int .i64 tk) := by rw [← hW]; exact (World.cell?_of_block (a := ⟨g', j * 3, none⟩) (Below.heap_alloc _ _ _ hlm)).trans l0
            have m1 : W.cell? ⟨g', j * 3 + 1, none⟩ = some (.string tss) := by rw [← hW]; exact (World.cell?_of_block (a := ⟨g', j * 3 + 1, none⟩) (Below.heap_alloc _ _ _ hlm)).trans l1
            have m2 : W.cell? ⟨g', j * 3 + 2, none⟩ = some (.int .i64 ((tat : Int) + (a.size : Int) + 1)) := by rw [← hW]; exact (World.cell?_of_block (a := ⟨g', j * 3 + 2, none⟩) (Below.heap_alloc _ _ _ hlm)).trans (l2.trans (by rw [show ((tat + (a.size + 1) : Nat) : Int) = (tat : Int) + (a.size : Int) + 1 by omega]))
            have n0 : W.cell? ⟨wr.heap.size, 0, none⟩ = some (.int .i64 tk) := by rw [← hW]; exact news_tok wr ⟨tk, tss.data.toList, tat⟩ _ 0 _ rfl
            have n1 : W.cell? ⟨wr.heap.size, 1, none⟩ = some (.string tss) := by rw [← hW]; exact news_tok wr ⟨tk, tss.data.toList, tat⟩ _ 1 _ rfl
            have n2 : W.cell? ⟨wr.heap.size, 2, none⟩ = some (.int .i64 tat) := by rw [← hW]; exact news_tok wr ⟨tk, tss.data.toList, tat⟩ _ 2 _ rfl
            have HL1 := Lib.hid (show Toks 33 w.heap.size W (.slice al na cl) ta by rw [← hW]; exact toks_later hL.out ((Below.refl _ _).alloc (Nat.le_refl _) _))
            have HM1' := Lib.hid (show Toks 33 w2.heap.size W (.slice (some ⟨g', 0, none⟩) (na + nb) cm) tm by rw [← hW]; exact toks_later hM.out ((Below.refl _ _).alloc (Nat.le_refl _) _))
            have HN1 := Lib.hid (show Toks 33 w3.heap.size W (.slice (some ⟨g, 0, none⟩) nb cn) tb by rw [← hW]; exact toks_later hN.out ((Below.refl _ _).alloc (Nat.le_refl _) _))
            have HB1 := Lib.hid (show Below w.heap.size w W by rw [← hW]; exact hB.out.alloc hB2 _)
            have hwA : IntKind.i64.wrap ((tat : Int) + (a.size : Int)) = (tat : Int) + (a.size : Int) := IntWalk.i64_in _ (by omega)
            have hwB : IntKind.i64.wrap ((tat : Int) + (a.size : Int) + 1) = (tat : Int) + (a.size : Int) + 1 := IntWalk.i64_in _ (by omega)
            rw [hW]
            clear hW hL hM hN hB k0 k1 k2 l0 l1 l2 hlm hsub
            go_quiet (fail)
            have HL2 := Lib.hid (toks_later HL1.out (below_drewB (Below.refl _ _) nq))
            have HM2' := Lib.hid (toks_later HM1'.out (below_drewB (Below.refl _ _) nq))
            have HN2 := Lib.hid (toks_later HN1.out (below_drewB (Below.refl _ _) nq))
            have HB2' := Lib.hid (below_drewB HB1.out nq)
            clear m0 m1 m2 n0 n1 n2
            go_wp2_with fail
            go_roundw
            case rel => exact ⟨j + 1, by omega, by go_num, HL2, HM2', HN2, HB2'⟩
            case measure => simp [intOf]; omega
          · clear hL hM hN
            go_wp2_with fail
            refine (wakes_any _).mono ?_
            rintro e w5 ⟨rfl, hb5⟩
            go_wp2
            go_ret
            exact ⟨rfl, hB.out.trans (hb5.mono hB.out.size)⟩
end Go.Proofs.Ytmflomepdmmodaa
