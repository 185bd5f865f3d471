/-
  The walk of transhiplaw02.LexBetween.
-/
import Derived.Test.YtmflomepdmmodaaGaps
import Derived.Deep.QuietTactic
import Derived.BigQuiet
namespace Go.Proofs.Ytmflomepdmmodaa
open Go.RowKit

theorem toks_at {T : TypeId} {B n : Nat} {w : World} {v : Value} {ts : List Tok} (h : Toks T B w v ts) (hn : ts.length = n) : ∃ a cap, v = .slice a n cap ∧ ∀ i t, ts[i]? = some t → ∃ g, a = some ⟨g, 0, none⟩ ∧ w.cell? ⟨g, i * 3, none⟩ = some (.int .i64 t.k) ∧ w.cell? ⟨g, i * 3 + 1, none⟩ = some (.string ⟨t.s.toArray⟩) ∧ w.cell? ⟨g, i * 3 + 2, none⟩ = some (.int .i64 t.at_) ∧ g < w.heap.size := by
  subst hn
  have h' := h
  obtain ⟨-, ⟨rfl, hn⟩ | ⟨g, cap, cur, rfl, -, hg, -⟩⟩ := h'
  · exact ⟨none, 0, by rw [hn], fun i t hi => by have := (List.getElem?_eq_some_iff.1 hi).1; omega⟩
  · refine ⟨_, cap, rfl, fun i t ht => ?_⟩
    obtain ⟨hi, rfl⟩ := List.getElem?_eq_some_iff.1 ht
    refine ⟨g, rfl, ?_, ?_, ?_, (Array.getElem?_eq_some_iff.1 hg).1⟩
    · exact (World.ownsRow.cellAt h (i * 3 + 0) (by omega)).trans (cells3_get _ i hi 0 (by decide))
    · exact (World.ownsRow.cellAt h (i * 3 + 1) (by omega)).trans (cells3_get _ i hi 1 (by decide))
    · exact (World.ownsRow.cellAt h (i * 3 + 2) (by omega)).trans (cells3_get _ i hi 2 (by decide))
theorem below_drewB {B : Nat} {a w : World} (h : Below B a w) (k : Nat) : Below B a (w.drewN k) := ⟨h.os, h.tape, h.output, h.size, h.block⟩

theorem rem_five (x : Int) : ∃ m : Nat, m < 5 ∧ wrap64 ((IntKind.u64.wrap x).tmod 5) = (m : Int) := by
  have h0 : 0 ≤ IntKind.u64.wrap x := by
    unfold IntKind.wrap; simp only [IntKind.signed, IntKind.bits]; simp; omega
  have h1 : (IntKind.u64.wrap x).tmod 5 = (IntKind.u64.wrap x) % 5 := Int.tmod_eq_emod_of_nonneg h0
  refine ⟨((IntKind.u64.wrap x) % 5).toNat, by omega, ?_⟩
  rw [h1]
  refine (IntWalk.wrap64_in ((IntKind.u64.wrap x) % 5) (by omega)).trans ?_
  omega
theorem gap_at {m : Nat} (h : m < 5) : ∃ g, gapL[m]? = some g ∧ g.length ≤ 8 := by
  match m, h with
  | 0, _ => exact ⟨_, rfl, by decide⟩
  | 1, _ => exact ⟨_, rfl, by decide⟩
  | 2, _ => exact ⟨_, rfl, by decide⟩
  | 3, _ => exact ⟨_, rfl, by decide⟩
  | 4, _ => exact ⟨_, rfl, by decide⟩
theorem same_parts {ta tm : List Tok} (h : tm.map (fun t => (t.k, t.s)) = ta.map (fun t => (t.k, t.s))) (i : Nat) (t : Tok) (ht : ta[i]? = some t) : ∃ t', tm[i]? = some t' ∧ t'.k = t.k ∧ t'.s = t.s := by
  have h1 : (tm.map (fun t => (t.k, t.s)))[i]? = some (t.k, t.s) := by rw [h, List.getElem?_map, ht]; rfl
  rw [List.getElem?_map] at h1
  cases hm : tm[i]? with
  | none => rw [hm] at h1; cases h1
  | some t' =>
    rw [hm] at h1
    have h2 : (t'.k, t'.s) = (t.k, t.s) := by simpa using h1
    exact ⟨t', rfl, congrArg Prod.fst h2, congrArg Prod.snd h2⟩

set_option maxRecDepth 20000 in
set_option maxHeartbeats 4000000 in
theorem lexBetween_any (s : ByteArray) (l : List Int) (v : Value) (w : World) (hl : LiesI w l v) : Calls Try.prog 6 #[.string s, v] w fun e w' => e = .returned (.bool true) ∧ Below w.heap.size w w' := by
  have HI := Lib.hid hl
  obtain ⟨la, lcap, rfl, hlc, hlm, -⟩ := hl.out
  clear hl
  unfold maxLen at hlm
  by_cases h1 : 2000 < s.size
  · have h1' : 2000 < (s.size : Int) := by omega
    go_enter Try.func6, Try.ntmps6
    go_wp2
    go_ret
    exact ⟨rfl, Below.refl _ _⟩
  have h1' : ¬ 2000 < (s.size : Int) := by omega
  have HLX := Lib.hid fun w => lex_any s w (by omega)
  have HLY := Lib.hid fun t w (h : t.size ≤ 10000000) => lex_any t w h
  obtain ⟨R, hR⟩ : ∃ R, lexL s.data.toList 0 = R := ⟨_, rfl⟩
  obtain ⟨ta, o⟩ := R
  have hfew := lexL_few hR
  have hlen := lexL_tokl ta 0 hR
  have hsol := solid_all ta 0 hR
  rw [show s.data.toList.length = s.size from by simp] at hfew hlen
  rw [hR] at HLX
  have HLEN := Lib.hid hlen
  have HSOL := Lib.hid hsol
  clear hR hlen hsol
  cases o with
  | some p =>
    go_enter Try.func6, Try.ntmps6
    go_wp2_with fail
    refine (HLX.out _).mono ?_
    rintro e w2 ⟨hb2, h2⟩
    obtain rfl : e = .returned (.tuple #[.slice none 0 0, .int .i64 2, .int .i64 p]) := h2
    have HB2 := Lib.hid hb2
    clear hb2
    go_wp2_with fail
    refine (wakes_any _).mono ?_
    rintro e w4 ⟨rfl, hb4⟩
    go_wp2
    go_ret
    exact ⟨rfl, HB2.out.trans (hb4.mono HB2.out.size)⟩
  | none =>
    obtain ⟨n, hn⟩ : ∃ n, ta.length = n := ⟨_, rfl⟩
    rw [hn] at hfew
    have HN := Lib.hid hn
    clear hn
    go_enter Try.func6, Try.ntmps6
    go_wp2_with fail
    refine (HLX.out _).mono ?_
    rintro e w2 ⟨hb2, h2⟩
    obtain ⟨vl, htl, rfl⟩ : ∃ v, Toks 33 w.heap.size w2 v ta ∧ e = .returned (.tuple #[v, .int .i64 0, .int .i64 0]) := h2
    have HB2 := Lib.hid hb2
    have HTL := Lib.hid htl
    have HI2 := Lib.hid (HI.out.keep hb2)
    obtain ⟨al, cl, rfl, -⟩ := toks_at htl HN.out
    have hsz := hb2.size
    clear hb2 htl
    go_wp2_with fail
    go_loopw [9, 10] (fun x i wr => ∃ (j : Nat) (ps : List (List UInt8 × Tok)) (S : ByteArray), j ≤ n ∧ x = .string S ∧ i = .int .i64 j ∧ S.size ≤ 2008 * j ∧ Hid (S.data.toList = layL ps) ∧ Hid (∀ x ∈ ps, Gap x.1) ∧ Hid (ps.map (·.2) = ta.take j) ∧ Hid (Toks 33 w.heap.size wr (.slice al n cl) ta) ∧ Hid (GA wr w2.heap.size) ∧ Hid (LiesI wr l (.slice la l.length lcap)) ∧ Hid (Below w.heap.size w wr)) (fun _ i _ => n - (intOf i).toNat)
    case atStart => exact ⟨0, [], _, Nat.zero_le _, rfl, rfl, by decide, rfl, (fun x h => by cases h), rfl, toks_later HTL.out ((Below.refl _ _).alloc (Nat.le_refl _) _), ga_new _ _, HI2.out.keep ((Below.refl _ _).alloc (Nat.le_refl _) _), HB2.out.alloc hsz _⟩
    case round =>
      obtain ⟨j, ps, S, hj, rfl, rfl, hS, hSL, hG, hM, hT, hGA, hI, hB⟩ := hrel
      by_cases hlt : j < n
      · obtain ⟨t, ht⟩ : ∃ t, ta[j]? = some t := ⟨ta[j]'(by rw [HN.out]; exact hlt), List.getElem?_eq_getElem _⟩
        obtain ⟨a', cap1, he, hcell⟩ := toks_at hT.out HN.out
        obtain ⟨g, hg, -, k1, -, -⟩ := hcell j t ht
        cases he
        subst hg
        clear hcell
        by_cases hjl : j < l.length
        · obtain ⟨a', cap1, he, -, -, hcell⟩ := hI.out.out
          obtain ⟨gb, go, hg, i0⟩ := hcell j hjl
          cases he
          subst hg
          clear hcell
          generalize l[j] = xv at i0
          obtain ⟨m, hm5, hm⟩ := rem_five xv
          have HMM := Lib.hid hm
          clear hm
          go_wp2_with fail
          rw [HMM.out]
          clear i0
          obtain ⟨g5, hg5, hg8⟩ := gap_at hm5
          have c0 := hGA.out m g5 hg5
          obtain ⟨G, hGd⟩ : ∃ G : ByteArray, (⟨g5.toArray⟩ : ByteArray) = G := ⟨_, rfl⟩
          obtain ⟨T, hTd⟩ : ∃ T : ByteArray, (⟨t.s.toArray⟩ : ByteArray) = T := ⟨_, rfl⟩
          have hGs : G.size ≤ 8 := by rw [← hGd]; show g5.toArray.size ≤ 8; simpa using hg8
          have hTs : T.size ≤ 2000 := by
            have h3 := HLEN.out t (List.mem_of_getElem? ht)
            rw [← hTd]; show t.s.toArray.size ≤ 2000
            have h4 : t.s.toArray.size = t.s.length := by simp
            omega
          rw [hGd] at c0
          rw [hTd] at k1
          have HP := Lib.hid (show (S ++ G ++ T).data.toList = layL (ps ++ [(g5, t)]) by
            rw [layL_append, ← hSL.out, ← hGd, ← hTd]
            show (S ++ ⟨g5.toArray⟩ ++ ⟨t.s.toArray⟩ : ByteArray).data.toList = S.data.toList ++ (g5 ++ t.s ++ [])
            simp)
          have HZ := Lib.hid (show (S ++ G ++ T).size ≤ 2008 * (j + 1) by
            have e1 : (S ++ G ++ T).size = S.size + G.size + T.size := by rw [ByteArray.size_append, ByteArray.size_append]
            omega)
          have HG2 := Lib.hid (show ∀ x ∈ ps ++ [(g5, t)], Gap x.1 from fun x hx => by
            rcases List.mem_append.1 hx with hx | hx
            · exact hG.out x hx
            · rw [List.mem_singleton.1 hx]; exact gap_all g5 (List.mem_of_getElem? hg5))
          have HM2 := Lib.hid (show (ps ++ [(g5, t)]).map (·.2) = ta.take (j + 1) by
            rw [List.map_append, hM.out, List.take_add_one, ht]; rfl)
          have hj9 : j ≤ 2000 := by omega
          clear hGd hTd hg5 hg8 ht hSL hG hM
          go_quiet (fail)
          have HT3 := Lib.hid (toks_later hT.out (below_drewB (Below.refl _ _) nq))
          have HA3 := Lib.hid (hGA.out.later (below_drewB (Below.refl _ _) nq))
          have HI3 := Lib.hid (hI.out.keep (below_drewB (Below.refl _ _) nq))
          have HB3 := Lib.hid (below_drewB hB.out nq)
          have hw1 : IntKind.i64.wrap ((j : Int) + 1) = (j : Int) + 1 := IntWalk.i64_in _ (by omega)
          clear hT hGA hI hB c0 k1
          go_wp2_with fail
          go_roundw
          case rel => exact ⟨j + 1, ps ++ [(g5, t)], S ++ G ++ T, hlt, rfl, by go_num, HZ.out, HP, HG2, HM2, HT3, HA3, HI3, HB3⟩
          case measure => simp [intOf]; omega
        · obtain ⟨m, hm5, hm⟩ : ∃ m : Nat, m < 5 ∧ (0 : Int) = (m : Int) := ⟨0, by decide, rfl⟩
          have HMM := Lib.hid (show Value.int .i64 0 = .int .i64 (m : Int) by rw [← hm])
          obtain rfl : m = 0 := by omega
          clear hm HMM
          go_wp2_with fail
          obtain ⟨g5, hg5, hg8⟩ := gap_at hm5
          have c0 := hGA.out 0 g5 hg5
          obtain ⟨G, hGd⟩ : ∃ G : ByteArray, (⟨g5.toArray⟩ : ByteArray) = G := ⟨_, rfl⟩
          obtain ⟨T, hTd⟩ : ∃ T : ByteArray, (⟨t.s.toArray⟩ : ByteArray) = T := ⟨_, rfl⟩
          have hGs : G.size ≤ 8 := by rw [← hGd]; show g5.toArray.size ≤ 8; simpa using hg8
          have hTs : T.size ≤ 2000 := by
            have h3 := HLEN.out t (List.mem_of_getElem? ht)
            rw [← hTd]; show t.s.toArray.size ≤ 2000
            have h4 : t.s.toArray.size = t.s.length := by simp
            omega
          rw [hGd] at c0
          rw [hTd] at k1
          have HP := Lib.hid (show (S ++ G ++ T).data.toList = layL (ps ++ [(g5, t)]) by
            rw [layL_append, ← hSL.out, ← hGd, ← hTd]
            show (S ++ ⟨g5.toArray⟩ ++ ⟨t.s.toArray⟩ : ByteArray).data.toList = S.data.toList ++ (g5 ++ t.s ++ [])
            simp)
          have HZ := Lib.hid (show (S ++ G ++ T).size ≤ 2008 * (j + 1) by
            have e1 : (S ++ G ++ T).size = S.size + G.size + T.size := by rw [ByteArray.size_append, ByteArray.size_append]
            omega)
          have HG2 := Lib.hid (show ∀ x ∈ ps ++ [(g5, t)], Gap x.1 from fun x hx => by
            rcases List.mem_append.1 hx with hx | hx
            · exact hG.out x hx
            · rw [List.mem_singleton.1 hx]; exact gap_all g5 (List.mem_of_getElem? hg5))
          have HM2 := Lib.hid (show (ps ++ [(g5, t)]).map (·.2) = ta.take (j + 1) by
            rw [List.map_append, hM.out, List.take_add_one, ht]; rfl)
          have hj9 : j ≤ 2000 := by omega
          clear hGd hTd hg5 hg8 ht hSL hG hM
          go_quiet (fail)
          have HT3 := Lib.hid (toks_later hT.out (below_drewB (Below.refl _ _) nq))
          have HA3 := Lib.hid (hGA.out.later (below_drewB (Below.refl _ _) nq))
          have HI3 := Lib.hid (hI.out.keep (below_drewB (Below.refl _ _) nq))
          have HB3 := Lib.hid (below_drewB hB.out nq)
          have hw1 : IntKind.i64.wrap ((j : Int) + 1) = (j : Int) + 1 := IntWalk.i64_in _ (by omega)
          clear hT hGA hI hB c0 k1
          go_wp2_with fail
          go_roundw
          case rel => exact ⟨j + 1, ps ++ [(g5, t)], S ++ G ++ T, hlt, rfl, by go_num, HZ.out, HP, HG2, HM2, HT3, HA3, HI3, HB3⟩
          case measure => simp [intOf]; omega
      · obtain rfl : j = n := by omega
        have hps : ps.map (·.2) = ta := by rw [hM.out, ← HN.out, List.take_length]
        obtain ⟨c, hc⟩ : ∃ c : ByteArray, S ++ ⟨#[59, 101, 110, 100]⟩ = c := ⟨_, rfl⟩
        have hcd : c.data.toList = layL ps ++ endL := by rw [← hc, ← hSL.out]; simp [endL]
        have hcs : c.size ≤ 10000000 := by
          have e1 : c.size = S.size + 4 := by rw [← hc, ByteArray.size_append]; rfl
          omega
        obtain ⟨x1, x2⟩ := lay_lex ps hG.out (fun x hx => HSOL.out x.2 (by rw [← hps]; exact List.mem_map_of_mem hx))
        rw [← hcd] at x1 x2
        obtain ⟨RC, hRC⟩ : ∃ R, lexL c.data.toList 0 = R := ⟨_, rfl⟩
        obtain ⟨tm, om⟩ := RC
        rw [hRC] at x1 x2
        obtain rfl : om = none := x1
        have hparts : tm.map (fun t => (t.k, t.s)) = ta.map (fun t => (t.k, t.s)) := by
          refine (show tm.map (fun t => (t.k, t.s)) = ps.map (fun x => (x.2.k, x.2.s)) from x2).trans ?_
          rw [← hps, List.map_map]; rfl
        have HSP := Lib.hid (fun i t h => same_parts hparts i t h)
        have HNM := Lib.hid (show tm.length = j by have := congrArg List.length hparts; rw [List.length_map, List.length_map, HN.out] at this; exact this)
        have HLC := Lib.hid (fun w => HLY.out c w hcs)
        rw [hRC, ← hc] at HLC
        have hS9 : S.size ≤ 5000000 := by omega
        have hsz3 := hB.out.size
        clear hparts x2 hRC hcd hcs hc hps hSL hG hM hI hGA
        go_wp2_with fail
        refine (HLC.out _).mono ?_
        rintro e w3 ⟨hb3, h3⟩
        obtain ⟨vm, htm, rfl⟩ : ∃ v, Toks 33 wr.heap.size w3 v tm ∧ e = .returned (.tuple #[v, .int .i64 0, .int .i64 0]) := h3
        have HTL3 := Lib.hid (toks_later hT.out hb3)
        have HB3 := Lib.hid (hB.out.trans (hb3.mono hsz3))
        have HTM := Lib.hid htm
        obtain ⟨am, cm, rfl, -⟩ := toks_at htm HNM.out
        clear hb3 htm hT hB
        go_wp2_with fail
        go_loopw [15] (fun i w5 => ∃ q : Nat, q ≤ j ∧ i = .int .i64 q ∧ Hid (Toks 33 w.heap.size w5 (.slice al j cl) ta) ∧ Hid (Toks 33 wr.heap.size w5 (.slice am j cm) tm) ∧ Hid (Below w.heap.size w w5)) (fun i _ => j - (intOf i).toNat)
        case atStart => exact ⟨0, Nat.zero_le _, rfl, HTL3.out, HTM.out, HB3.out⟩
        case round =>
          clear HTL3 HTM HB3
          obtain ⟨q, hq, rfl, hL, hM, hB⟩ := hrel
          by_cases hlt2 : q < j
          · obtain ⟨t, ht⟩ : ∃ t, ta[q]? = some t := ⟨ta[q]'(by rw [HN.out]; exact hlt2), List.getElem?_eq_getElem _⟩
            obtain ⟨t', ht', e1, e2⟩ := HSP.out q t ht
            obtain ⟨a', cap1, he, hcell⟩ := toks_at hL.out HN.out
            obtain ⟨g, hg, k0, k1, -, -⟩ := hcell q t ht
            cases he
            subst hg
            clear hcell
            obtain ⟨a', cap1, he, hcell⟩ := toks_at hM.out HNM.out
            obtain ⟨g', hg, l0, l1, -, -⟩ := hcell q t' ht'
            cases he
            subst hg
            clear hcell ht ht'
            rw [e1] at l0
            rw [e2] at l1
            generalize hk : t.k = tk at k0 l0
            generalize hs : (ByteArray.mk t.s.toArray) = tss at k1 l1
            clear hk hs e1 e2
            go_wp2_with fail
            go_quiet (fail)
            have HL2 := Lib.hid (toks_later hL.out (below_drewB (Below.refl _ _) nq))
            have HM2 := Lib.hid (toks_later hM.out (below_drewB (Below.refl _ _) nq))
            have HB2' := Lib.hid (below_drewB hB.out nq)
            have hw1 : IntKind.i64.wrap ((q : Int) + 1) = (q : Int) + 1 := IntWalk.i64_in _ (by omega)
            clear hL hM hB k0 k1 l0 l1
            go_wp2_with fail
            go_roundw
            case rel => exact ⟨q + 1, hlt2, by go_num, HL2, HM2, HB2'⟩
            case measure => simp [intOf]; omega
          · clear hL hM
            go_wp2_with fail
            refine (wakes_any _).mono ?_
            rintro e w6 ⟨rfl, hb6⟩
            go_wp2
            go_ret
            exact ⟨rfl, hB.out.trans (hb6.mono hB.out.size)⟩
end Go.Proofs.Ytmflomepdmmodaa
