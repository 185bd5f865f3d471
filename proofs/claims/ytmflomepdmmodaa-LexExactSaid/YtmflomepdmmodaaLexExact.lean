/-
  The walk of transhiplaw02.LexExact.
-/
import Derived.Test.YtmflomepdmmodaaRefLex
import Derived.Deep.QuietTactic
import Derived.BigQuiet
namespace Go.Proofs.Ytmflomepdmmodaa
open Go.RowKit

theorem toks_each {T : TypeId} {B : Nat} {w : World} {v : Value} {ts : List Tok} (h : Toks T B w v ts) : ∃ a cap, v = .slice a ts.length cap ∧ ∀ i (hi : i < ts.length), ∃ g, a = some ⟨g, 0, none⟩ ∧ w.cell? ⟨g, i * 3, none⟩ = some (.int .i64 ts[i].k) ∧ w.cell? ⟨g, i * 3 + 1, none⟩ = some (.string ⟨ts[i].s.toArray⟩) ∧ w.cell? ⟨g, i * 3 + 2, none⟩ = some (.int .i64 ts[i].at_) := by
  have h' := h
  obtain ⟨-, ⟨rfl, hn⟩ | ⟨g, cap, cur, rfl, -⟩⟩ := h'
  · exact ⟨none, 0, by rw [hn], fun i hi => by omega⟩
  · refine ⟨_, cap, rfl, fun i hi => ⟨g, rfl, ?_, ?_, ?_⟩⟩
    · exact (World.ownsRow.cellAt h (i * 3 + 0) (by omega)).trans (cells3_get _ i hi 0 (by decide))
    · exact (World.ownsRow.cellAt h (i * 3 + 1) (by omega)).trans (cells3_get _ i hi 1 (by decide))
    · exact (World.ownsRow.cellAt h (i * 3 + 2) (by omega)).trans (cells3_get _ i hi 2 (by decide))
theorem below_drewE {B : Nat} {a w : World} (h : Below B a w) (k : Nat) : Below B a (w.drewN k) := ⟨h.os, h.tape, h.output, h.size, h.block⟩

set_option maxRecDepth 20000 in
set_option maxHeartbeats 2000000 in
theorem same_any {T U : TypeId} {A B : Nat} (v u : Value) (ts : List Tok) (w : World) (hv : Toks T A w v ts) (hu : Toks U B w u ts) (hlen : ts.length ≤ 1000000) : Calls Try.prog 11 #[v, u] w fun e w' => e = .returned (.bool true) ∧ Below w.heap.size w w' := by
  have HV := Lib.hid hv
  have HU := Lib.hid hu
  obtain ⟨a, cap, rfl, -⟩ := toks_each hv
  obtain ⟨b, cap', rfl, -⟩ := toks_each hu
  clear hv hu
  go_enter Try.func11, Try.ntmps11
  go_wp2_with fail
  go_loopw [5] (fun i wr => ∃ j : Nat, j ≤ ts.length ∧ i = .int .i64 j ∧ Hid (Toks T A wr (.slice a ts.length cap) ts) ∧ Hid (Toks U B wr (.slice b ts.length cap') ts) ∧ Hid (Below w.heap.size w wr)) (fun i _ => ts.length - (intOf i).toNat)
  case atStart => exact ⟨0, Nat.zero_le _, rfl, HV.out, HU.out, Below.refl _ _⟩
  case round =>
    clear HV HU
    obtain ⟨j, hj, rfl, hV, hU, hB⟩ := hrel
    by_cases hlt : j < ts.length
    · obtain ⟨a', cap1, he, hcell⟩ := toks_each hV.out
      obtain ⟨g, hg, k0, k1, k2⟩ := hcell j hlt
      cases he
      subst hg
      clear hcell
      obtain ⟨b', cap2, he, hcell⟩ := toks_each hU.out
      obtain ⟨g', hg, l0, l1, l2⟩ := hcell j hlt
      cases he
      subst hg
      clear hcell
      generalize hk : (ts[j]).k = tk at k0 l0
      generalize hs : (ByteArray.mk (ts[j]).s.toArray) = tss at k1 l1
      generalize ha : (ts[j]).at_ = ta at k2 l2
      clear hk hs ha
      go_wp2_with fail
      go_quiet (fail)
      have HV2 := Lib.hid (toks_later hV.out (below_drewE (Below.refl _ _) nq))
      have HU2 := Lib.hid (toks_later hU.out (below_drewE (Below.refl _ _) nq))
      have HB2 := Lib.hid (below_drewE hB.out nq)
      clear hV hU hB k0 k1 k2 l0 l1 l2
      go_wp2_with fail
      have hw : IntKind.i64.wrap ((j : Int) + 1) = (j : Int) + 1 := IntWalk.i64_in _ (by omega)
      go_roundw
      case rel => exact ⟨j + 1, hlt, by go_num, HV2, HU2, HB2⟩
      case measure => simp [intOf]; omega
    · clear hV hU
      go_wp2
      go_ret
      exact ⟨rfl, hB.out⟩

set_option maxHeartbeats 2000000 in
theorem lexExact_any (s : ByteArray) (w : World) : Calls Try.prog 3 #[.string s] w fun e w' => e = .returned (.bool true) ∧ Below w.heap.size w w' := by
  by_cases h1 : 2000 < s.size
  · have h1' : 2000 < (s.size : Int) := by omega
    go_enter Try.func3, Try.ntmps3
    go_wp2
    go_ret
    exact ⟨rfl, Below.refl _ _⟩
  have h1' : ¬ 2000 < (s.size : Int) := by omega
  have HLX := Lib.hid fun w => lex_any s w (by omega)
  have HPX := Lib.hid fun w => plex_any s w (by omega)
  have hsl : s.data.toList.length = s.size := by simp
  obtain ⟨R, hR⟩ : ∃ R, lexL s.data.toList 0 = R := ⟨_, rfl⟩
  obtain ⟨ts, o⟩ := R
  have hfew := lexL_few hR
  rw [hsl] at hfew
  rw [hR] at HLX HPX
  clear hR hsl
  cases o with
  | some p =>
    go_enter Try.func3, Try.ntmps3
    go_wp2_with fail
    refine (HLX.out _).mono ?_
    rintro e w2 ⟨hb2, h2⟩
    obtain rfl : e = .returned (.tuple #[.slice none 0 0, .int .i64 2, .int .i64 p]) := h2
    have HB2 := Lib.hid hb2
    clear hb2
    go_wp2_with fail
    refine (HPX.out _).mono ?_
    rintro e w3 ⟨hb3, h3⟩
    obtain ⟨v, -, rfl⟩ : ∃ v, Toks 42 w2.heap.size w3 v ts ∧ e = .returned (.tuple #[v, .int .i64 (p : Int)]) := h3
    have HB3 := Lib.hid (HB2.out.trans (hb3.mono HB2.out.size))
    clear hb3
    go_wp2_with fail
    refine (wakes_any _).mono ?_
    rintro e w4 ⟨rfl, hb4⟩
    go_wp2
    go_ret
    exact ⟨rfl, HB3.out.trans (hb4.mono HB3.out.size)⟩
  | none =>
    go_enter Try.func3, Try.ntmps3
    go_wp2_with fail
    refine (HLX.out _).mono ?_
    rintro e w2 ⟨hb2, h2⟩
    obtain ⟨v, ht, rfl⟩ : ∃ v, Toks 33 w.heap.size w2 v ts ∧ e = .returned (.tuple #[v, .int .i64 0, .int .i64 0]) := h2
    have HB2 := Lib.hid hb2
    have HT := Lib.hid ht
    clear hb2 ht
    go_wp2_with fail
    refine (HPX.out _).mono ?_
    rintro e w3 ⟨hb3, h3⟩
    obtain ⟨u, hu, rfl⟩ : ∃ v, Toks 42 w2.heap.size w3 v ts ∧ e = .returned (.tuple #[v, .int .i64 (-1)]) := h3
    have HS := Lib.hid (same_any v u ts w3 (toks_later HT.out hb3) hu (by omega))
    have HB3 := Lib.hid (HB2.out.trans (hb3.mono HB2.out.size))
    clear hb3 hu
    go_wp2_with fail
    refine (HS.out).mono ?_
    rintro e w5 ⟨rfl, hb5⟩
    have HB5 := Lib.hid (HB3.out.trans (hb5.mono HB3.out.size))
    clear hb5
    go_wp2_with fail
    refine (wakes_any _).mono ?_
    rintro e w4 ⟨rfl, hb4⟩
    go_wp2
    go_ret
    exact ⟨rfl, HB5.out.trans (hb4.mono HB5.out.size)⟩
end Go.Proofs.Ytmflomepdmmodaa
