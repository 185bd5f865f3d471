/-
  Facts and contracts that the proof of CongEqs uses.
-/
import Derived.Test.YtkdceahmknhojaaRows
import Derived.WalkKit
import Derived.Lib.Hide
import Derived.KernelRfl
import Derived.Deep.RegionWith
import Derived.Deep.RegionHeld3
import Derived.Deep.AppendLies
import Derived.Laws.Rows
import Derived.Laws.IdiomCopy
import Derived.Deep.Slices
import Derived.Lib.QuietBelow
import Derived.StillTailTactics
import Derived.BigQuiet
import Derived.IntWalk
import Derived.OwnWalk
import Derived.Deep.RegionLaw
import Derived.Deep.QuietTactic
import Derived.Deep.LoopGhost
import Derived.Deep.DeepCutAuto
import Derived.Deep.MidRow
import Derived.OrdersHeld
import Derived.Laws.Tables
import Derived.Laws.CopyOwn
import Derived.Laws.CopyRow
import Derived.Deep.Upon
import Derived.ArgAppend
import Derived.Deep.RegionHeld
import Derived.Lib.MinMax
import Derived.ProofKit
import Derived.OpenShut
import Derived.Carry
import Derived.ChangeSlices
import Derived.JoinedOf
import Derived.Test.YtkdceahmknhojaaCongEqsQ1
namespace Go.Proofs.Ytkdceahmknhojaa
open Go.RowKit

theorem sort_fine {i : Int} (h : I64 i) : (sortT i).fine := mk_fine (by unfold I64; decide) h (by unfold I64; decide) (by unfold I64; decide)
theorem var_fine {i : Int} (h : I64 i) : (varT i).fine := mk_fine (by unfold I64; decide) h (by unfold I64; decide) (by unfold I64; decide)
theorem node_fine {k : Int} {l : List Tm} (h : I64 k) : (nodeT k l).fine := mk_fine h (by unfold I64; decide) (by unfold I64; decide) (by unfold I64; decide)
theorem use_fineJ {n i j : Int} {l : List Tm} (hn : I64 n) (hi : I64 i) (hj : I64 j) : (useT n i j l).fine := mk_fine (by unfold I64; decide) hi hj hn
theorem pairs_of (l : List Tm) (S : Nat → Value) : ∃ ps : List (Tm × Value), ps.map (·.1) = l ∧ ps.length = l.length ∧ ∀ i (h : i < l.length) (h' : i < ps.length), ps[i] = (l[i], S i) := by
  refine ⟨(List.range l.length).map fun i => ((l[i]?).getD .zero, S i), ?_, by simp, fun i h h' => by simp [h]⟩
  apply List.ext_getElem
  · simp
  · intro i h1 h2
    simp at h1
    simp [h2]
theorem owns_later {B : Nat} {w w' : World} {T : TypeId} {v : Value} {n : Nat} {xs : List Value} (h : w.ownsRow B T 5 v n xs) (hb : Below w.heap.size w w') : w'.ownsRow B T 5 v n xs := by
  obtain ⟨h1, h2⟩ := h
  refine ⟨h1, ?_⟩
  rcases h2 with h2 | ⟨g, cap, cur, hv, hg, hh, r⟩
  · exact Or.inl h2
  · refine Or.inr ⟨g, cap, cur, hv, hg, ?_, r⟩
    rw [hb.block g (Array.getElem?_eq_some_iff.1 hh).1]; exact hh
theorem owns_above {B : Nat} {w : World} {T : TypeId} {v : Value} {n : Nat} {xs : List Value} (h : w.ownsRow B T 5 v n xs) : ∀ g, v.ownBlock = some g → B ≤ g := fun g hg => by
  rcases h.2 with ⟨rfl, -⟩ | ⟨g', cap, cur, rfl, hg', -⟩
  · simp [Value.ownBlock] at hg
  · simp [Value.ownBlock] at hg; omega
/-- A row of the body's own, as a list: its kids lie where they lay. -/
theorem owns_lies {B : Nat} {w : World} {Q : Nat → Prop} {v : Value} {ps : List (Tm × Value)} (h : w.ownsRow B 32 5 v ps.length (cells5 ps)) (hQ : ∀ g, B ≤ g → g < w.heap.size → Q g) (hp : ∀ p ∈ ps, p.1.fine ∧ LiesQ w Q p.1.kids p.2) : LiesQ w Q (ps.map (·.1)) v := by
  have h0 := h
  obtain ⟨-, ⟨rfl, hn⟩ | ⟨g, cap, cur, rfl, hg, hh, hnc, hcm, hsz, htk⟩⟩ := h
  · obtain rfl : ps = [] := List.eq_nil_of_length_eq_zero hn
    exact liesQ_nil _ _
  · have := LiesQ.mk (w := w) (P := Q) (ps.map (·.1)) (some ⟨g, 0, none⟩) cap (fun i => (ps[i]?.map (·.2)).getD (.slice none 0 0)) (by simpa using hnc) hcm (fun x hx => by obtain ⟨p, hq, rfl⟩ := List.mem_map.1 hx; exact (hp p hq).1)
      (fun i hi => by
        have hi' : i < ps.length := by simpa using hi
        refine ⟨g, 0, rfl, hQ g hg (Array.getElem?_eq_some_iff.1 hh).1, ?_⟩
        simp only [List.getElem_map, List.getElem?_eq_getElem hi', Option.map_some, Option.getD_some, Nat.zero_add]
        have cellq : ∀ q, q < 5 → w.cell? ⟨g, i * 5 + q, none⟩ = [Value.int .i64 (ps[i]).1.k, .int .i64 (ps[i]).1.i, .int .i64 (ps[i]).1.j, .int .i64 (ps[i]).1.n, (ps[i]).2][q]? := fun q hq => by
          rw [h0.cellAt (i * 5 + q) (by omega)]; exact cells5_get ps i hi' q hq
        exact ⟨cellq 0 (by omega), cellq 1 (by omega), cellq 2 (by omega), cellq 3 (by omega), cellq 4 (by omega)⟩)
      (fun i hi => by
        have hi' : i < ps.length := by simpa using hi
        simp only [List.getElem_map, List.getElem?_eq_getElem hi', Option.map_some, Option.getD_some]
        exact (hp _ (List.getElem_mem hi')).2)
    simpa using this

set_option maxRecDepth 20000 in
set_option maxHeartbeats 4000000 in
theorem rlevel_any (i : Int) (low : Int) (w : World) (hri : I64 i) (hrlow : I64 low) (h0 : 0 ≤ low) (h1 : low ≤ 1000) : Calls Try.prog 101 #[.int .i64 i, .int .i64 low] w fun e w' => e = .returned (.bool (levN low i)) ∧ Kept w w' := by
  have Ri := Lib.hid hri
  clear hri
  have Rlow := Lib.hid hrlow
  clear hrlow
  have ew : IntKind.i64.wrap (1000 - low) = 1000 - low := IntWalk.i64_in _ (by omega)
  clear h0 h1
  go_enter Try.func101, Try.ntmps101
  have kvw : Sees w w.heap.size w := sees_kept _ (kept_refl _)
  by_cases c1 : 0 ≤ i
  · have ec1 : decide (0 ≤ i) = true := decide_eq_true c1
    have Ec1 := Lib.hid ec1
    have Hc1 := Lib.hid c1
    clear c1
    by_cases c2 : i ≤ (1000 - low)
    · have ec2 : decide (i ≤ (1000 - low)) = true := decide_eq_true c2
      have Ec2 := Lib.hid ec2
      have Hc2 := Lib.hid c2
      clear c2
      go_wp2
      go_ret
      exact ⟨ret_bool (Eq.symm (show levN low i = true from by unfold levN; rw [Ec1.out, Ec2.out]; (try rfl))), (kept_refl _)⟩
    · have ec2 : decide (i ≤ (1000 - low)) = false := decide_eq_false c2
      have Ec2 := Lib.hid ec2
      have Hc2 := Lib.hid c2
      clear c2
      go_wp2
      go_ret
      exact ⟨ret_bool (Eq.symm (show levN low i = false from by unfold levN; rw [Ec1.out, Ec2.out]; (try rfl))), (kept_refl _)⟩
  · have ec1 : decide (0 ≤ i) = false := decide_eq_false c1
    have Ec1 := Lib.hid ec1
    have Hc1 := Lib.hid c1
    clear c1
    go_wp2
    go_ret
    exact ⟨ret_bool (Eq.symm (show levN low i = false from by unfold levN; rw [Ec1.out]; (try rfl))), (kept_refl _)⟩

set_option maxRecDepth 20000 in
set_option maxHeartbeats 4000000 in
theorem rplain_any (l : List Tm) (w : World) (s : Value) (hl : Lies w l s) : Calls Try.prog 102 #[s] w fun e w' => e = .returned (.bool (plainL l)) ∧ Kept w w' := by
  obtain ⟨a, cap, S, rfl, hc, hmx, -, hn, hk⟩ := hl.out
  unfold maxLen at hmx
  have HN := Lib.hid hn
  have HK := Lib.hid hk
  clear hn hk hl
  go_enter Try.func102, Try.ntmps102
  go_wp2
  go_loopw [3] (fun iv wr => ∃ k : Nat, k ≤ l.length ∧ iv = .int .i64 k ∧ Hid (∀ j (h : j < l.length), j < k → (l[j]).plainB = true) ∧ Kept w wr) (fun iv _ => l.length - (intOf iv).toNat)
  case atStart => exact ⟨0, Nat.zero_le _, rfl, fun j _ h => absurd h (by omega), kept_refl _⟩
  case round =>
    obtain ⟨k, hkl, rfl, hrel, hb⟩ := hrel
    by_cases hlt : k < l.length
    · obtain ⟨b, o, rfl, hx⟩ := HN.out k hlt
      obtain ⟨c0, c1, c2, c3, c4⟩ := hx.below hb hx.lt
      have hq := HK.out k hlt
      obtain ⟨a', cap', S', hS, -⟩ := hq.out
      rw [hS] at c4 hq
      have HQ := Lib.hid (hq.keep hb)
      have HB := Lib.hid hb
      clear hS hq hb
      go_wp2_with fail
      refine (refplain_any l[k] _ _ HQ.out).mono ?_
      clear c0 c1 c2 c3 c4
      cases hp : (l[k]).plainB with
      | false =>
        have HF : Hid (plainL l = false) := by
          show _ = _
          cases hh : plainL l with
          | false => rfl
          | true => rw [plainL_iff.1 hh _ (List.getElem_mem hlt)] at hp; cases hp
        rintro e w' ⟨rfl, hb'⟩
        have HB2 := Lib.hid (kept_trans HB.out hb')
        clear hb' hp
        go_wp2
        go_ret
        exact ⟨ret_bool (by rw [HF.out]), HB2.out⟩
      | true =>
        have HP := Lib.hid hp
        rintro e w' ⟨rfl, hb'⟩
        have HB2 := Lib.hid (kept_trans HB.out hb')
        clear hb' hp
        go_wp2
        go_roundw
        case rel =>
          refine ⟨k + 1, hlt, by go_num, fun j hj hjk => ?_, HB2.out⟩
          by_cases e : j = k
          · subst e; exact HP.out
          · exact hrel.out j hj (by omega)
        case measure => simp [intOf]; omega
    · obtain rfl : k = l.length := by omega
      have HF : Hid (plainL l = true) := by
        show _ = _
        exact plainL_iff.2 (fun x hx => by obtain ⟨j, hj, rfl⟩ := List.getElem_of_mem hx; exact hrel.out j hj hj)
      have HB := Lib.hid hb
      clear hb
      go_wp2
      go_ret
      exact ⟨ret_bool (by rw [HF.out]), HB.out⟩

set_option maxRecDepth 20000 in
set_option maxHeartbeats 4000000 in
theorem rnode_any (kd : Int) (l : List Tm) (P : Nat → Prop) (w : World) (s : Value) (_ : I64 kd) (hl : LiesQ w P l s) (hlen : l.length ≤ 1000) : Calls Try.prog 103 #[.int .i64 kd, s] w (GivesP P (nodeT kd l) w) := by
  obtain ⟨a, cap, S, rfl, hc, hmx, hf, hn, hk⟩ := hl.out
  obtain ⟨ps, hps, hpl, hpg⟩ := pairs_of l S
  unfold maxLen at hmx
  obtain ⟨du, hu1, hu2⟩ := under_term
  obtain ⟨i0, hi, hz0, hz1, hz2⟩ := info_parts info_term
  have HI := Lib.hid (And.intro hi (And.intro hz0 (And.intro hz1 hz2)))
  have HN := Lib.hid hn
  have HK := Lib.hid hk
  have HF := Lib.hid hf
  have HPS := Lib.hid hps
  have HPL := Lib.hid hpl
  have HPG := Lib.hid hpg
  have HLEN := Lib.hid hlen
  clear hn hk hl hf hi hz0 hz1 hz2 hps hpl hpg
  go_enter Try.func103, Try.ntmps103
  go_upto_region 1 with fail
  refine at_code (fun V0 hV0 => ?_)
  obtain ⟨k0, x0, z0⟩ := alloc1 hV0
  have HK0 := Lib.hid k0
  have HX0 := Lib.hid x0
  have HZ0 := Lib.hid z0
  clear k0 x0 z0 hV0
  go_wp2_with fail
  go_loopw [5, 6] (fun v iv wr => ∃ (k : Nat) (vv : Value), vv = v ∧ k ≤ l.length ∧ iv = .int .i64 k ∧ Hid (wr.ownsRow V0.heap.size 32 5 vv k (cells5 (ps.take k))) ∧ Kept V0 wr) (fun _ iv _ => l.length - (intOf iv).toNat)
  case atStart => exact ⟨0, _, rfl, Nat.zero_le _, rfl, ⟨rfl, Or.inl ⟨rfl, rfl⟩⟩, kept_refl _⟩
  case round =>
    obtain ⟨k, vv, rfl, hkl, rfl, hown0, hb⟩ := hrel
    have HO := Lib.hid hown0.out
    clear hown0
    by_cases hlt : k < l.length
    · obtain ⟨b, o, rfl, -, hx⟩ := HN.out k hlt
      obtain ⟨c0, c1, c2, c3, c4⟩ := hx.below (kept_trans HK0.out hb) hx.lt
      have hq := HK.out k hlt
      obtain ⟨a', cap', S', hS, -⟩ := hq.out
      rw [hS] at c4
      have HS := Lib.hid hS
      have HB := Lib.hid hb
      have hon : (wr.alloc (.cells #[.int .i64 l[k].k, .int .i64 l[k].i, .int .i64 l[k].j, .int .i64 l[k].n, .slice a' l[k].kids.length cap'] 32)).ownsRow V0.heap.size 32 5 vv k (cells5 (ps.take k)) := owns_later HO.out (kept_new _ _)
      have HON := Lib.hid hon
      clear hS hq hb hon
      go_wp2_with (at_builtin; refine wpList_append_lies _ rfl (.tmp 13) (.tmp 18) 30 rfl V0.heap.size 32 i0 _ 5 56 (by kernel_rfl) HI.out.1 HI.out.2.1 HI.out.2.2.1 HI.out.2.2.2 rfl (by decide) _ k (cells5 (ps.take k)) rfl HON.out ⟨wr.heap.size, 0, none⟩ 1 1 (cells5 [(l[k], .slice a' l[k].kids.length cap')]) rfl rfl ?news ?one (by decide) ?max ?bytes ?base _ rfl ?next)
      case news => exact news_new _ _ _ _
      case one => intro u hu; simp [cells5] at hu; rcases hu with rfl | rfl | rfl | rfl | rfl <;> rfl
      case max => have := HLEN.out; unfold maxLen; omega
      case bytes => have := HLEN.out; omega
      case base => have := Below.size HB.out; simp; omega
      case next =>
      intro g cap3 w3 hown hgrow hat hlt3
      have hkE : Kept V0 w3 := Below.grown (kept_alloc HB.out _) hgrow (by have := Below.size HB.out; simp; omega) (owns_above HO.out)
      have hO3 : w3.ownsRow V0.heap.size 32 5 (.slice (some ⟨g, 0, none⟩) (k + 1) cap3) (k + 1) (cells5 (ps.take (k + 1))) := by
        have e : ps.take (k + 1) = ps.take k ++ [(l[k], .slice a' l[k].kids.length cap')] := by
          rw [List.take_succ_eq_append_getElem (by rw [HPL.out]; exact hlt), HPG.out k hlt (by rw [HPL.out]; exact hlt), HS.out]
        rw [e, cells5_append]; exact hown
      have HO3 := Lib.hid hO3
      clear hown hgrow hat hlt3 c0 c1 c2 c3 c4 hO3 hx
      go_wp2_with fail
      go_roundw
      case rel => exact ⟨k + 1, _, rfl, hlt, by go_num, HO3.out, hkE⟩
      case measure => simp [intOf]; omega
    · obtain rfl : k = l.length := by omega
      have hl2 : LiesQ wr (fun b => (P b ∧ b < w.heap.size) ∨ V0.heap.size ≤ b) (ps.map (·.1)) vv := by
        have ho := HO.out
        rw [List.take_of_length_le (by rw [HPL.out]; exact Nat.le_refl _), ← HPL.out] at ho
        refine owns_lies ho (fun g hg _ => Or.inr hg) (fun p hp => ?_)
        obtain ⟨j, hj, rfl⟩ := List.getElem_of_mem hp
        have hj' : j < l.length := by rw [← HPL.out]; exact hj
        rw [HPG.out j hj' hj]
        exact ⟨HF.out _ (List.getElem_mem hj'), (HK.out j hj').keep (fun b _ hlt => Below.block (kept_trans HK0.out hb) b hlt) (fun b hp hlt => Or.inl ⟨hp, hlt⟩)⟩
      rw [HPS.out] at hl2
      obtain ⟨a2, cap2, S2, rfl, -⟩ := hl2.out
      have HL2 := Lib.hid hl2
      have HB := Lib.hid hb
      clear hl2 hb HO
      go_wp2_with (refine stop_store 32 (.tmp 4) (.tmp 22) rfl ?_)
      intro _
      refine wpList_store_part_n (by rfl) 32 (.tmp 4) (.tmp 22) rfl (w.heap.size) 0 #[.int .i64 kd, .int .i64 0, .int .i64 0, .int .i64 0, .slice a2 l.length cap2] (by rfl) (by rfl) 32 size_term (row_ok rfl) ?_
      intro W hW
      subst hW
      refine ⟨_, #[.int .i64 kd, .int .i64 0, .int .i64 0, .int .i64 0, .slice a2 l.length cap2], blk_at HX0.out HB.out, rfl, Nat.le_of_ble_eq_true rfl, ?_⟩
      intro W2 hW2
      go_wp2_with fail
      refine bodyPost_ret (results_cell_row rfl _ _ (w.heap.size) 32 _ _ du rfl (blk_same (blk_at HX0.out HB.out) hW2) hu1 (by cases du <;> first | rfl | exact hu2) size_term) rfl ?_
      refine ⟨_, rfl, ?_, kept_set (kept_trans HK0.out HB.out) hW2 (Nat.le_refl _)⟩
      have hz := HZ0.out
      subst hW2
      exact HL2.out.keep (fun b hb _ => setRow_other _ _ _ _ (by rcases hb with ⟨-, hb⟩ | hb <;> omega)) (fun b hb _ => by rcases hb with ⟨hb, -⟩ | hb; exact Or.inl hb; exact Or.inr (by omega))

set_option maxRecDepth 20000 in
set_option maxHeartbeats 4000000 in
theorem ruse_any (n : Int) (i : Int) (j : Int) (l : List Tm) (P : Nat → Prop) (w : World) (s : Value) (_ : I64 n) (_ : I64 i) (_ : I64 j) (hl : LiesQ w P l s) (hlen : l.length ≤ 1000) : Calls Try.prog 109 #[.int .i64 n, .int .i64 i, .int .i64 j, s] w (GivesP P (useT n i j l) w) := by
  obtain ⟨a, cap, S, rfl, hc, hmx, hf, hn, hk⟩ := hl.out
  obtain ⟨ps, hps, hpl, hpg⟩ := pairs_of l S
  unfold maxLen at hmx
  obtain ⟨du, hu1, hu2⟩ := under_term
  obtain ⟨i0, hi, hz0, hz1, hz2⟩ := info_parts info_term
  have HI := Lib.hid (And.intro hi (And.intro hz0 (And.intro hz1 hz2)))
  have HN := Lib.hid hn
  have HK := Lib.hid hk
  have HF := Lib.hid hf
  have HPS := Lib.hid hps
  have HPL := Lib.hid hpl
  have HPG := Lib.hid hpg
  have HLEN := Lib.hid hlen
  clear hn hk hl hf hi hz0 hz1 hz2 hps hpl hpg
  go_enter Try.func109, Try.ntmps109
  go_upto_region 1 with fail
  refine at_code (fun V0 hV0 => ?_)
  obtain ⟨k0, x0, z0⟩ := alloc1 hV0
  have HK0 := Lib.hid k0
  have HX0 := Lib.hid x0
  have HZ0 := Lib.hid z0
  clear k0 x0 z0 hV0
  go_wp2_with fail
  go_loopw [9, 10] (fun v iv wr => ∃ (k : Nat) (vv : Value), vv = v ∧ k ≤ l.length ∧ iv = .int .i64 k ∧ Hid (wr.ownsRow V0.heap.size 32 5 vv k (cells5 (ps.take k))) ∧ Kept V0 wr) (fun _ iv _ => l.length - (intOf iv).toNat)
  case atStart => exact ⟨0, _, rfl, Nat.zero_le _, rfl, ⟨rfl, Or.inl ⟨rfl, rfl⟩⟩, kept_refl _⟩
  case round =>
    obtain ⟨k, vv, rfl, hkl, rfl, hown0, hb⟩ := hrel
    have HO := Lib.hid hown0.out
    clear hown0
    by_cases hlt : k < l.length
    · obtain ⟨b, o, rfl, -, hx⟩ := HN.out k hlt
      obtain ⟨c0, c1, c2, c3, c4⟩ := hx.below (kept_trans HK0.out hb) hx.lt
      have hq := HK.out k hlt
      obtain ⟨a', cap', S', hS, -⟩ := hq.out
      rw [hS] at c4
      have HS := Lib.hid hS
      have HB := Lib.hid hb
      have hon : (wr.alloc (.cells #[.int .i64 l[k].k, .int .i64 l[k].i, .int .i64 l[k].j, .int .i64 l[k].n, .slice a' l[k].kids.length cap'] 32)).ownsRow V0.heap.size 32 5 vv k (cells5 (ps.take k)) := owns_later HO.out (kept_new _ _)
      have HON := Lib.hid hon
      clear hS hq hb hon
      go_wp2_with (at_builtin; refine wpList_append_lies _ rfl (.tmp 17) (.tmp 22) 30 rfl V0.heap.size 32 i0 _ 5 56 (by kernel_rfl) HI.out.1 HI.out.2.1 HI.out.2.2.1 HI.out.2.2.2 rfl (by decide) _ k (cells5 (ps.take k)) rfl HON.out ⟨wr.heap.size, 0, none⟩ 1 1 (cells5 [(l[k], .slice a' l[k].kids.length cap')]) rfl rfl ?news ?one (by decide) ?max ?bytes ?base _ rfl ?next)
      case news => exact news_new _ _ _ _
      case one => intro u hu; simp [cells5] at hu; rcases hu with rfl | rfl | rfl | rfl | rfl <;> rfl
      case max => have := HLEN.out; unfold maxLen; omega
      case bytes => have := HLEN.out; omega
      case base => have := Below.size HB.out; simp; omega
      case next =>
      intro g cap3 w3 hown hgrow hat hlt3
      have hkE : Kept V0 w3 := Below.grown (kept_alloc HB.out _) hgrow (by have := Below.size HB.out; simp; omega) (owns_above HO.out)
      have hO3 : w3.ownsRow V0.heap.size 32 5 (.slice (some ⟨g, 0, none⟩) (k + 1) cap3) (k + 1) (cells5 (ps.take (k + 1))) := by
        have e : ps.take (k + 1) = ps.take k ++ [(l[k], .slice a' l[k].kids.length cap')] := by
          rw [List.take_succ_eq_append_getElem (by rw [HPL.out]; exact hlt), HPG.out k hlt (by rw [HPL.out]; exact hlt), HS.out]
        rw [e, cells5_append]; exact hown
      have HO3 := Lib.hid hO3
      clear hown hgrow hat hlt3 c0 c1 c2 c3 c4 hO3 hx
      go_wp2_with fail
      go_roundw
      case rel => exact ⟨k + 1, _, rfl, hlt, by go_num, HO3.out, hkE⟩
      case measure => simp [intOf]; omega
    · obtain rfl : k = l.length := by omega
      have hl2 : LiesQ wr (fun b => (P b ∧ b < w.heap.size) ∨ V0.heap.size ≤ b) (ps.map (·.1)) vv := by
        have ho := HO.out
        rw [List.take_of_length_le (by rw [HPL.out]; exact Nat.le_refl _), ← HPL.out] at ho
        refine owns_lies ho (fun g hg _ => Or.inr hg) (fun p hp => ?_)
        obtain ⟨j, hj, rfl⟩ := List.getElem_of_mem hp
        have hj' : j < l.length := by rw [← HPL.out]; exact hj
        rw [HPG.out j hj' hj]
        exact ⟨HF.out _ (List.getElem_mem hj'), (HK.out j hj').keep (fun b _ hlt => Below.block (kept_trans HK0.out hb) b hlt) (fun b hp hlt => Or.inl ⟨hp, hlt⟩)⟩
      rw [HPS.out] at hl2
      obtain ⟨a2, cap2, S2, rfl, -⟩ := hl2.out
      have HL2 := Lib.hid hl2
      have HB := Lib.hid hb
      clear hl2 hb HO
      go_wp2_with (refine stop_store 32 (.tmp 8) (.tmp 28) rfl ?_)
      intro _
      refine wpList_store_part_n (by rfl) 32 (.tmp 8) (.tmp 28) rfl (w.heap.size) 0 #[.int .i64 23, .int .i64 i, .int .i64 j, .int .i64 n, .slice a2 l.length cap2] (by rfl) (by rfl) 32 size_term (row_ok rfl) ?_
      intro W hW
      subst hW
      refine ⟨_, #[.int .i64 23, .int .i64 i, .int .i64 j, .int .i64 n, .slice a2 l.length cap2], blk_at HX0.out HB.out, rfl, Nat.le_of_ble_eq_true rfl, ?_⟩
      intro W2 hW2
      go_wp2_with fail
      refine bodyPost_ret (results_cell_row rfl _ _ (w.heap.size) 32 _ _ du rfl (blk_same (blk_at HX0.out HB.out) hW2) hu1 (by cases du <;> first | rfl | exact hu2) size_term) rfl ?_
      refine ⟨_, rfl, ?_, kept_set (kept_trans HK0.out HB.out) hW2 (Nat.le_refl _)⟩
      have hz := HZ0.out
      subst hW2
      exact HL2.out.keep (fun b hb _ => setRow_other _ _ _ _ (by rcases hb with ⟨-, hb⟩ | hb <;> omega)) (fun b hb _ => by rcases hb with ⟨hb, -⟩ | hb; exact Or.inl hb; exact Or.inr (by omega))

end Go.Proofs.Ytkdceahmknhojaa

namespace Go.Proofs.Ytkdceahmknhojaa
open Go.RowKit

/-- An entry in a block of its own. -/
def BNode (w : World) (b : Nat) (e : En) (s : Value) : Prop := w.cell? ⟨b, 0, none⟩ = some (.int .i64 e.a.k) ∧ w.cell? ⟨b, 1, none⟩ = some (.int .i64 e.a.i) ∧ w.cell? ⟨b, 2, none⟩ = some (.int .i64 e.a.j) ∧ w.cell? ⟨b, 3, none⟩ = some (.int .i64 e.a.n) ∧ w.cell? ⟨b, 4, none⟩ = some (s) ∧ w.cell? ⟨b, 5, none⟩ = some (.int .i64 e.i)
theorem BNode.keep {v w' : World} {b : Nat} {e : En} {s : Value} (h : BNode v b e s) (hk : Kept v w') : BNode w' b e s := ⟨cell_lat hk h.1, cell_lat hk h.2.1, cell_lat hk h.2.2.1, cell_lat hk h.2.2.2.1, cell_lat hk h.2.2.2.2.1, cell_lat hk h.2.2.2.2.2⟩
end Go.Proofs.Ytkdceahmknhojaa

namespace Go.Proofs.Ytkdceahmknhojaa
open Go.RowKit

theorem put5_below {B : Nat} {w w1 : World} (h : Below B w w1) {g : Nat} (hg : B ≤ g) (o : Nat) (t : Tm) (s : Value) : Below B w (put5 w1 g o t s) := by
  unfold put5
  exact ((((h.setCell hg _).setCell hg _).setCell hg _).setCell hg _).setCell hg _
theorem open_free {w : World} {g : Nat} {cs : Array Value} {T : TypeId} (h : w.heap[g]? = some (.cells cs T (0, 0))) (o : Nat) :
    w.frozen? ⟨g, o, none⟩ = false ∧ w.frozen? ⟨g, o + 1, none⟩ = false ∧ w.frozen? ⟨g, o + 2, none⟩ = false ∧ w.frozen? ⟨g, o + 3, none⟩ = false ∧ w.frozen? ⟨g, o + 4, none⟩ = false ∧ w.frozen? ⟨g, o + 5, none⟩ = false :=
  ⟨open_unfrozen h _, open_unfrozen h _, open_unfrozen h _, open_unfrozen h _, open_unfrozen h _, open_unfrozen h _⟩
theorem take_set_map {α β : Type} (f : β → α) {xs : List β} {l : List α} {k : Nat} (hl : xs.length = l.length) (hk : k < l.length) (h : (xs.map f).take k = l.take k) {y : β} (hy : f y = l[k]) : ((xs.set k y).map f).take (k + 1) = l.take (k + 1) := by
  have hk1 : k < (xs.set k y).length := by simp; omega
  rw [List.take_succ_eq_append_getElem (by simpa using hk1), List.take_succ_eq_append_getElem hk]
  congr 1
  · rw [← h]; apply List.ext_getElem?; intro i
    by_cases hi : i < k
    · simp [List.getElem?_take_of_lt hi, List.getElem?_set_ne (Nat.ne_of_gt hi)]
    · simp [List.getElem?_take, hi]
  · simp [hy]
end Go.Proofs.Ytkdceahmknhojaa

namespace Go.Proofs.Ytkdceahmknhojaa
open Go.RowKit

set_option maxRecDepth 20000 in
set_option maxHeartbeats 4000000 in
theorem copies_of (l : List Tm) (ih : ∀ x ∈ l, ∀ (w : World) (s : Value), Lies w x.kids s → Calls Try.prog 92 #[tv x s] w (Makes x w))
    (w : World) (s : Value) (hl : Lies w l s) (hlen : l.length ≤ 1000000) : Calls Try.prog 154 #[s] w (MakesAll l w) := by
  obtain ⟨a, cap, S, rfl, hc, hmx, hf, hn, hk⟩ := hl.out
  unfold maxLen at hmx
  obtain ⟨i0, hi, hz0, hz1, hz2⟩ := info_parts info_term
  have IH := Lib.hid ih
  have HN := Lib.hid hn
  have HK := Lib.hid hk
  have HF := Lib.hid hf
  have HI := Lib.hid (And.intro hi (And.intro hz0 (And.intro hz1 hz2)))
  clear ih hn hk hl hf hi hz0 hz1 hz2
  by_cases h0 : l.length = 0
  · obtain rfl : l = [] := List.eq_nil_of_length_eq_zero h0
    go_enter Try.func154, Try.ntmps154
    go_wp2
    go_ret
    exact ⟨_, rfl, liesP_nil _ _, Below.refl _ _⟩
  have e1 : ((l.length : Int) == 0) = false := by simpa using h0
  have e2 : (l.length == 0) = false := by simpa using h0
  clear h0
  go_enter Try.func154, Try.ntmps154
  go_wp2_with (at_make; refine wpList_make_full _ rfl _ _ 30 rfl w.heap.size 32 i0 _ 5 (by kernel_rfl) HI.out.1 HI.out.2.1 HI.out.2.2.1 _ _ _ _ l.length rfl rfl rfl rfl ?bytes ?max ?base ?next)
  case bytes => rw [HI.out.2.2.2]; omega
  case max => unfold maxLen; omega
  case base => exact Nat.le_refl _
  case next =>
  intro w2 hown hgrow
  have hful := full_made hown
  have hbel : Below w.heap.size w w2 := (Below.refl _ _).grown hgrow (Nat.le_refl _) (by simp)
  obtain ⟨g, hg⟩ : ∃ g, w.heap.size = g := ⟨_, rfl⟩
  have HGE := Lib.hid (show w.heap.size ≤ g by omega)
  (try rw [hg] at hful)
  (try rw [hg])
  have hful' : Full w.heap.size w2 g (List.replicate l.length (Tm.zero, .slice none 0 0)) := by rw [hg]; exact hful
  clear hown hgrow hful e1 e2
  have hbel' : Below w.heap.size w w2 := hbel
  clear hbel
  have HG := Lib.hid hg
  clear hg
  go_wp2_with fail
  go_loopw [14] (fun iv wr => ∃ (k : Nat) (xs : List (Tm × Value)), k ≤ l.length ∧ iv = .int .i64 k ∧ Hid (xs.length = l.length) ∧ Hid ((xs.map (·.1)).take k = l.take k) ∧ Full w.heap.size wr g xs ∧ Below w.heap.size w wr) (fun iv _ => l.length - (intOf iv).toNat)
  case atStart => exact ⟨0, _, Nat.zero_le _, rfl, List.length_replicate, rfl, hful', hbel'⟩
  case round =>
    clear hful' hbel'
    obtain ⟨k, xs, hk, rfl, hxl, hxs, hfu, hb⟩ := hrel
    by_cases hlt : k < l.length
    · obtain ⟨b, o, rfl, hx⟩ := HN.out k hlt
      obtain ⟨x0, x1, x2, x3, x4⟩ := hx.below hb hx.lt
      have hq := (HK.out k hlt).keep hb
      obtain ⟨a', cap', S', hS, -⟩ := hq.out
      rw [hS] at x4 hq
      have HXK := Lib.hid (show k < xs.length by have := hxl.out; omega)
      have HM := Lib.hid (List.getElem_mem hlt)
      have hV : Below wr.heap.size wr (wr.alloc (.cells #[.int .i64 l[k].k, .int .i64 l[k].i, .int .i64 l[k].j, .int .i64 l[k].n, .slice a' l[k].kids.length cap'] 32)) := (Below.refl _ _).alloc (Nat.le_refl _) _
      have hqV := hq.keep hV
      have HFV := Lib.hid (hfu.later hV)
      have HKV := Lib.hid (below_call hb hV hb.size)
      have HW := Lib.hid hb.size
      clear hS hq hV hfu hb
      go_wp2_with fail
      refine (IH.out _ HM.out _ _ hqV).mono ?_
      generalize wr.alloc (.cells #[.int .i64 l[k].k, .int .i64 l[k].i, .int .i64 l[k].j, .int .i64 l[k].n, .slice a' l[k].kids.length cap'] 32) = V at HFV HKV hqV ⊢
      rintro ee wn ⟨s2, rfl, hl2, hbn⟩
      obtain ⟨a2, cap2, rfl, -, -⟩ := hl2.out
      have hfn := HFV.out.later hbn
      have HL2 := Lib.hid (HFV.out.fresh HKV.out.size hl2)
      have HKN := Lib.hid (below_call HKV.out hbn HKV.out.size)
      obtain ⟨z0, z1, z2, z3, z4⟩ := hfn.node k HXK.out
      obtain ⟨cs, hcs⟩ := hfn.open'
      obtain ⟨r0, r1, r2, r3, r4, -⟩ := open_free hcs (k * 5)
      have HFN := Lib.hid hfn
      clear hfn hcs hbn hl2 hqV x0 x1 x2 x3 x4
      go_wp2_with fail
      have hFN := HFN.out.fill (t := l[k]) HXK.out (HF.out _ HM.out) HL2.out
      have hkE := put5_below HKN.out HGE.out (k * 5) l[k] (.slice a2 l[k].kids.length cap2)
      clear z0 z1 z2 z3 z4 r0 r1 r2 r3 r4
      go_roundw
      case rel => exact ⟨k + 1, xs.set k (l[k], .slice a2 l[k].kids.length cap2), by omega, by go_num, by show _ = _; rw [List.length_set]; exact hxl.out, take_set_map _ hxl.out hlt hxs.out rfl, hFN, hkE⟩
      case measure => simp [intOf]; omega
    · obtain rfl : k = l.length := by omega
      have hxs' : xs.map (·.1) = l := by
        have h := hxs.out
        rw [List.take_of_length_le (by simp [hxl.out]), List.take_of_length_le (Nat.le_refl _)] at h
        exact h
      have hres := hfu.lies (cap := l.length) (by rw [hxl.out]; exact Nat.le_refl _) (by unfold maxLen; omega)
      rw [hxs', hxl.out] at hres
      go_wp2_with fail
      go_ret
      exact ⟨_, rfl, hres, hb⟩

set_option maxRecDepth 20000 in
set_option maxHeartbeats 4000000 in
theorem copy_any (t : Tm) : ∀ (w : World) (s : Value), Lies w t.kids s → t.size ≤ 1000000 → Calls Try.prog 92 #[tv t s] w (Makes t w) := by
  induction t using Tm.ind with
  | h t ih =>
    intro w s hl hsz
    obtain ⟨a, cap, S, rfl, hc, hm, hf, hn, hk⟩ := hl.out
    rw [t.size_eq] at hsz
    have CP : ∀ (w' : World) (s' : Value), Lies w' t.kids s' → Calls Try.prog 154 #[s'] w' (MakesAll t.kids w') := fun w' s' h' => copies_of t.kids (fun x hx w2 s2 h2 => ih x hx w2 s2 h2 (by have := size_mem _ x hx; omega)) w' s' h' (by have := len_sizes t.kids; omega)
    unfold tv
    unfold maxLen at hm
    obtain ⟨du, hu1, hu2⟩ := under_term
    have HL := Lib.hid hl
    replace CP := Lib.hid CP
    have H0 := boxes_start w t (.slice a t.kids.length cap)
    clear ih hn hk hf hl
    go_enter Try.func92, Try.ntmps92
    go_wp2_with fail
    refine (CP.out _ _ (boxes_lies H0 HL.out)).mono ?_
    generalize (w.alloc (.cells #[.int .i64 t.k, .int .i64 t.i, .int .i64 t.j, .int .i64 t.n, .slice a t.kids.length cap] 32)).alloc (.cells #[.int .i64 0, .int .i64 0, .int .i64 0, .int .i64 0, .slice none 0 0] 32) = V at H0 ⊢
    rintro ee wn ⟨s2, rfl, hl2, hb2⟩
    obtain ⟨a2, cap2, rfl, -, -⟩ := hl2.out
    have hs := Below.size H0
    have hh := boxes_call H0 hb2
    have hl3 : LiesP wn (Own (w.heap.size + 2) wn) t.kids (.slice a2 t.kids.length cap2) := hl2.from (by simpa using hs)
    have hbx := boxes_block hh
    have hbo : wn.heap[w.heap.size]? = some (boxOf t (.slice a t.kids.length cap)) := by
      rw [Below.block hh _ (by omega), Below.heap_alloc _ _ _ (by simp)]; exact alloc_new _ _
    obtain ⟨x0, x1, x2, x3, x4, z0, z1, z2, z3, z4, f0, f1, f2, f3, f4⟩ := boxes_cells hh
    obtain ⟨q0, q1, q2, q3, q4⟩ := five_free hbo
    have HL3 := Lib.hid hl3
    have HBX : Hid ((wn.setCell ⟨w.heap.size, 4, none⟩ (.slice a2 t.kids.length cap2)).heap[w.heap.size + 1]? = some (.cells #[.int .i64 0, .int .i64 0, .int .i64 0, .int .i64 0, .slice none 0 0] 32 (0, 0))) := (Below.heap_setCell _ _ _ _ (by show w.heap.size + 1 ≠ w.heap.size; omega)).trans hbx
    have HBL := Lib.hid (held_below (boxes_held hh))
    clear hl2 hb2 hl3 hbx hbo hh hs H0
    go_wp2
    refine bodyPost_ret (results_cell_row rfl _ _ (w.heap.size + 1) _ _ _ du rfl (five_set HBX.out) hu1 (by cases du <;> first | rfl | exact hu2) size_term) rfl ?_
    refine ⟨_, rfl, ?_, ?_⟩
    · exact liesP_fives (liesP_set HL3.out (by omega) (Nat.le_refl _) _) (by omega) (by omega) _ _ _ _ _
    · exact below_five (HBL.out.setCell (Nat.le_refl _) _) (by omega) _ _ _ _ _
end Go.Proofs.Ytkdceahmknhojaa

namespace Go.Proofs.Ytkdceahmknhojaa
open Go.RowKit

set_option maxRecDepth 20000 in
set_option maxHeartbeats 4000000 in
theorem copyR_any (t : Tm) : ∀ (w : World) (s : Value), Lies w t.kids s → t.rightB = true → Calls Try.prog 92 #[tv t s] w (Makes t w) := by
  induction t using Tm.ind with
  | h t ih =>
    intro w s hl hr
    obtain ⟨a, cap, S, rfl, hc, hm, hf, hn, hk⟩ := hl.out
    have CP : ∀ (w' : World) (s' : Value), Lies w' t.kids s' → Calls Try.prog 154 #[s'] w' (MakesAll t.kids w') := fun w' s' h' => copies_of t.kids (fun x hx w2 s2 h2 => ih x hx w2 s2 h2 (t.right_kids hr x hx)) w' s' h' (by have := right_len hr; omega)
    unfold tv
    unfold maxLen at hm
    obtain ⟨du, hu1, hu2⟩ := under_term
    have HL := Lib.hid hl
    replace CP := Lib.hid CP
    have H0 := boxes_start w t (.slice a t.kids.length cap)
    clear ih hn hk hf hl hr
    go_enter Try.func92, Try.ntmps92
    go_wp2_with fail
    refine (CP.out _ _ (boxes_lies H0 HL.out)).mono ?_
    generalize (w.alloc (.cells #[.int .i64 t.k, .int .i64 t.i, .int .i64 t.j, .int .i64 t.n, .slice a t.kids.length cap] 32)).alloc (.cells #[.int .i64 0, .int .i64 0, .int .i64 0, .int .i64 0, .slice none 0 0] 32) = V at H0 ⊢
    rintro ee wn ⟨s2, rfl, hl2, hb2⟩
    obtain ⟨a2, cap2, rfl, -, -⟩ := hl2.out
    have hs := Below.size H0
    have hh := boxes_call H0 hb2
    have hl3 : LiesP wn (Own (w.heap.size + 2) wn) t.kids (.slice a2 t.kids.length cap2) := hl2.from (by simpa using hs)
    have hbx := boxes_block hh
    have hbo : wn.heap[w.heap.size]? = some (boxOf t (.slice a t.kids.length cap)) := by
      rw [Below.block hh _ (by omega), Below.heap_alloc _ _ _ (by simp)]; exact alloc_new _ _
    obtain ⟨x0, x1, x2, x3, x4, z0, z1, z2, z3, z4, f0, f1, f2, f3, f4⟩ := boxes_cells hh
    obtain ⟨q0, q1, q2, q3, q4⟩ := five_free hbo
    have HL3 := Lib.hid hl3
    have HBX : Hid ((wn.setCell ⟨w.heap.size, 4, none⟩ (.slice a2 t.kids.length cap2)).heap[w.heap.size + 1]? = some (.cells #[.int .i64 0, .int .i64 0, .int .i64 0, .int .i64 0, .slice none 0 0] 32 (0, 0))) := (Below.heap_setCell _ _ _ _ (by show w.heap.size + 1 ≠ w.heap.size; omega)).trans hbx
    have HBL := Lib.hid (held_below (boxes_held hh))
    clear hl2 hb2 hl3 hbx hbo hh hs H0
    go_wp2
    refine bodyPost_ret (results_cell_row rfl _ _ (w.heap.size + 1) _ _ _ du rfl (five_set HBX.out) hu1 (by cases du <;> first | rfl | exact hu2) size_term) rfl ?_
    refine ⟨_, rfl, ?_, ?_⟩
    · exact liesP_fives (liesP_set HL3.out (by omega) (Nat.le_refl _) _) (by omega) (by omega) _ _ _ _ _
    · exact below_five (HBL.out.setCell (Nat.le_refl _) _) (by omega) _ _ _ _ _

theorem copiesR_any (l : List Tm) (w : World) (s : Value) (hl : Lies w l s) (hp : ∀ x ∈ l, x.plainB = true) (hlen : l.length ≤ 1000) : Calls Try.prog 154 #[s] w (MakesAll l w) :=
  copies_of l (fun x hx w2 s2 h2 => copyR_any x w2 s2 h2 (plain_right (hp x hx))) w s hl (by omega)
end Go.Proofs.Ytkdceahmknhojaa

namespace Go.Proofs.Ytkdceahmknhojaa
open Go.RowKit

theorem node_plain {k : Int} {l : List Tm} (hk : (k == 1 || (k == 2 || (decide (13 ≤ k) && decide (k ≤ 23)))) = true) (hl : kidsN k 0 = l.length) (hn : numbersN k 0 0 0 = true) (hp : ∀ x ∈ l, x.plainB = true) : (nodeT k l).plainB = true := by
  have e := plainL_plains hp
  rw [Tm.plainB_eq]
  exact Bool.and_eq_true_iff.2 ⟨hk, Bool.and_eq_true_iff.2 ⟨Bool.and_eq_true_iff.2 ⟨beq_iff_eq.2 hl.symm, hn⟩, e⟩⟩
theorem lev3_eq (i : Int) : levN 3 i = (decide (0 ≤ i) && decide (i ≤ 997)) := rfl
theorem fmR_pl {g : Fm} (H : fmR g = true) : ∀ x ∈ [g.a, g.c, g.b, g.d, g.e, g.f], x.plainB = true := by unfold fmR at H; simp only [Bool.and_eq_true] at H; exact plainL_iff.1 H.2
theorem toldB_pl {h : He} (H : toldB h = true) : ∀ x ∈ [h.x, h.y, h.h], x.plainB = true := plainL_iff.1 H
theorem told2_pl {h g : He} (H : (toldB h && toldB g) = true) : ∀ x ∈ [h.x, h.y, h.h, g.x, g.y, g.h], x.plainB = true := by
  simp only [Bool.and_eq_true] at H
  intro x hx
  rcases List.mem_append.1 (show x ∈ [h.x, h.y, h.h] ++ [g.x, g.y, g.h] from hx) with hx | hx
  · exact toldB_pl H.1 x hx
  · exact toldB_pl H.2 x hx
theorem copyZ_any (w : World) (s : Value) (hl : Lies w Tm.zero.kids s) : Calls Try.prog 92 #[tv .zero s] w (Makes .zero w) := copy_any .zero w s hl (by decide)
theorem copyPZ_any (t : Tm) (w : World) (s : Value) (hl : Lies w t.kids s) (h : t.plainB = true ∨ t = .zero) : Calls Try.prog 92 #[tv t s] w (Makes t w) := by
  rcases h with h | rfl
  · exact copyR_any t w s hl (plain_right h)
  · exact copyZ_any w s hl
theorem plain_app {l1 l2 : List Tm} (h1 : ∀ x ∈ l1, x.plainB = true) (h2 : ∀ x ∈ l2, x.plainB = true) : ∀ x ∈ l1 ++ l2, x.plainB = true := fun x hx => (List.mem_append.1 hx).elim (h1 x) (h2 x)
theorem app_len {l1 l2 : List Tm} (h1 : l1.length ≤ 100) (h2 : l2.length ≤ 900) : (l1 ++ l2).length ≤ 1000 := by rw [List.length_append]; omega
theorem app_len2 {l1 l2 : List Tm} (h1 : l1.length ≤ 100) (h2 : l2.length ≤ 900) : l1.length + l2.length ≤ 1000000 := by omega
theorem six_fine {n : Int} {g : Fm} {l : List Tm} (hn : I64 n) (hg : g.fine) : (sixT n g l).fine := use_fineJ hn hg.1 hg.2.1
end Go.Proofs.Ytkdceahmknhojaa

namespace Go.Proofs.Ytkdceahmknhojaa
open Go.RowKit

def SeesN (V : World) (_ : Nat) (w' : World) : Prop := ∀ k, k < V.heap.size → w'.heap[k]? = V.heap[k]?
theorem seesN_kept {V W : World} (g : Nat) (h : Kept V W) : SeesN V g W := fun k hk => Below.block h k hk
theorem seesN_of {V W w' : World} {g : Nat} (h : Kept V W) (hs : SeesN W g w') : SeesN V g w' := fun k hk => (hs k (Nat.lt_of_lt_of_le hk (Below.size h))).trans (Below.block h k hk)
theorem partN_cell {V : World} {r g : Nat} {C : Array Value} {T : TypeId} {fr : Nat × Nat} (h : V.heap[g]? = some (.cells C T fr)) (_ : True) (o : Nat) (v : Value) (hv : C[o]? = some v) : ∀ w', SeesN V r w' → w'.cell? ⟨g, o, none⟩ = some v := fun w' hk => by
  have hb : w'.heap[g]? = some (.cells C T fr) := (hk g (block_lt h)).trans h
  rw [cell_of_row w' g o C T fr hb]; exact hv
theorem seesN_blk {V w' : World} {r g : Nat} {o : Obj} (h : V.heap[g]? = some o) (_ : True) (hs : SeesN V r w') : w'.heap[g]? = some o := (hs g (block_lt h)).trans h
theorem field_term0 (a b c d e : Value) (w : World) : (Instr.field 32 (.agg #[a, b, c, d, e]) 0).run Try.prog w = .ok a w := by kernel_rfl
theorem field_term3 (a b c d e : Value) (w : World) : (Instr.field 32 (.agg #[a, b, c, d, e]) 3).run Try.prog w = .ok d w := by kernel_rfl
theorem par_grow {w V W : World} {n : Nat} {X X' : List Nat} {P : Nat → Prop} {l : List Tm} {s : Value} (h : LiesQ V (Par w n X P) l s) (hk : Kept V W) (hx : ∀ x, x ∈ X' → x ∈ X ∨ V.heap.size ≤ x) : LiesQ W (Par w n X' P) l s :=
  h.keep (fun b _ hlt => Below.block hk b hlt) (fun b hb hlt => hb.imp id (fun hb => ⟨hb.1, fun hm => (hx b hm).elim hb.2 (fun h => absurd hlt (Nat.not_lt.2 h))⟩))
theorem alloc1v {V0 w V : World} {o0 : Obj} (hk : Kept V0 w) (h : w.alloc o0 = V) : ∃ g, w.heap.size = g ∧ Hid (Kept w V) ∧ Hid (V.heap[g]? = some o0) ∧ Hid (V.heap.size = w.heap.size + 1) ∧ Hid (Kept V0 V) ∧ Hid (V0.heap.size ≤ g) := by
  obtain ⟨a, b, c⟩ := alloc1 h
  exact ⟨_, rfl, a, b, c, kept_trans hk a, Below.size hk⟩
theorem par_newg {w : World} {n : Nat} {X : List Nat} {P : Nat → Prop} {g : Nat} (hn : n ≤ g) (hX : g ∉ X) : Par w n X P g := Or.inr ⟨hn, hX⟩
theorem q_row1 {V : World} {Q : Nat → Prop} {g : Nat} {T : TypeId} {fr : Nat × Nat} {t0 : Tm} {s0 : Value} (h : V.heap[g]? = some (.cells #[.int .i64 t0.k, .int .i64 t0.i, .int .i64 t0.j, .int .i64 t0.n, s0] T fr)) (f0 : t0.fine) (l0 : LiesQ V Q t0.kids s0) (hQ : Q g) : LiesQ V Q [t0] (.slice (some ⟨g, 0, none⟩) 1 1) :=
  q_row [(t0, s0)] _ rfl h hQ (List.forall_mem_cons.2 ⟨⟨f0, l0⟩, (fun _ h => nomatch h)⟩) (Nat.le_of_ble_eq_true rfl)
theorem q_row2 {V : World} {Q : Nat → Prop} {g : Nat} {T : TypeId} {fr : Nat × Nat} {t0 t1 : Tm} {s0 s1 : Value} (h : V.heap[g]? = some (.cells #[.int .i64 t0.k, .int .i64 t0.i, .int .i64 t0.j, .int .i64 t0.n, s0, .int .i64 t1.k, .int .i64 t1.i, .int .i64 t1.j, .int .i64 t1.n, s1] T fr)) (f0 : t0.fine) (l0 : LiesQ V Q t0.kids s0) (f1 : t1.fine) (l1 : LiesQ V Q t1.kids s1) (hQ : Q g) : LiesQ V Q [t0, t1] (.slice (some ⟨g, 0, none⟩) 2 2) :=
  q_row [(t0, s0), (t1, s1)] _ rfl h hQ (List.forall_mem_cons.2 ⟨⟨f0, l0⟩, (List.forall_mem_cons.2 ⟨⟨f1, l1⟩, (fun _ h => nomatch h)⟩)⟩) (Nat.le_of_ble_eq_true rfl)
theorem q_row3 {V : World} {Q : Nat → Prop} {g : Nat} {T : TypeId} {fr : Nat × Nat} {t0 t1 t2 : Tm} {s0 s1 s2 : Value} (h : V.heap[g]? = some (.cells #[.int .i64 t0.k, .int .i64 t0.i, .int .i64 t0.j, .int .i64 t0.n, s0, .int .i64 t1.k, .int .i64 t1.i, .int .i64 t1.j, .int .i64 t1.n, s1, .int .i64 t2.k, .int .i64 t2.i, .int .i64 t2.j, .int .i64 t2.n, s2] T fr)) (f0 : t0.fine) (l0 : LiesQ V Q t0.kids s0) (f1 : t1.fine) (l1 : LiesQ V Q t1.kids s1) (f2 : t2.fine) (l2 : LiesQ V Q t2.kids s2) (hQ : Q g) : LiesQ V Q [t0, t1, t2] (.slice (some ⟨g, 0, none⟩) 3 3) :=
  q_row [(t0, s0), (t1, s1), (t2, s2)] _ rfl h hQ (List.forall_mem_cons.2 ⟨⟨f0, l0⟩, (List.forall_mem_cons.2 ⟨⟨f1, l1⟩, (List.forall_mem_cons.2 ⟨⟨f2, l2⟩, (fun _ h => nomatch h)⟩)⟩)⟩) (Nat.le_of_ble_eq_true rfl)
theorem q_row5 {V : World} {Q : Nat → Prop} {g : Nat} {T : TypeId} {fr : Nat × Nat} {t0 t1 t2 t3 t4 : Tm} {s0 s1 s2 s3 s4 : Value} (h : V.heap[g]? = some (.cells #[.int .i64 t0.k, .int .i64 t0.i, .int .i64 t0.j, .int .i64 t0.n, s0, .int .i64 t1.k, .int .i64 t1.i, .int .i64 t1.j, .int .i64 t1.n, s1, .int .i64 t2.k, .int .i64 t2.i, .int .i64 t2.j, .int .i64 t2.n, s2, .int .i64 t3.k, .int .i64 t3.i, .int .i64 t3.j, .int .i64 t3.n, s3, .int .i64 t4.k, .int .i64 t4.i, .int .i64 t4.j, .int .i64 t4.n, s4] T fr)) (f0 : t0.fine) (l0 : LiesQ V Q t0.kids s0) (f1 : t1.fine) (l1 : LiesQ V Q t1.kids s1) (f2 : t2.fine) (l2 : LiesQ V Q t2.kids s2) (f3 : t3.fine) (l3 : LiesQ V Q t3.kids s3) (f4 : t4.fine) (l4 : LiesQ V Q t4.kids s4) (hQ : Q g) : LiesQ V Q [t0, t1, t2, t3, t4] (.slice (some ⟨g, 0, none⟩) 5 5) :=
  q_row [(t0, s0), (t1, s1), (t2, s2), (t3, s3), (t4, s4)] _ rfl h hQ (List.forall_mem_cons.2 ⟨⟨f0, l0⟩, (List.forall_mem_cons.2 ⟨⟨f1, l1⟩, (List.forall_mem_cons.2 ⟨⟨f2, l2⟩, (List.forall_mem_cons.2 ⟨⟨f3, l3⟩, (List.forall_mem_cons.2 ⟨⟨f4, l4⟩, (fun _ h => nomatch h)⟩)⟩)⟩)⟩)⟩) (Nat.le_of_ble_eq_true rfl)
theorem q_row6 {V : World} {Q : Nat → Prop} {g : Nat} {T : TypeId} {fr : Nat × Nat} {t0 t1 t2 t3 t4 t5 : Tm} {s0 s1 s2 s3 s4 s5 : Value} (h : V.heap[g]? = some (.cells #[.int .i64 t0.k, .int .i64 t0.i, .int .i64 t0.j, .int .i64 t0.n, s0, .int .i64 t1.k, .int .i64 t1.i, .int .i64 t1.j, .int .i64 t1.n, s1, .int .i64 t2.k, .int .i64 t2.i, .int .i64 t2.j, .int .i64 t2.n, s2, .int .i64 t3.k, .int .i64 t3.i, .int .i64 t3.j, .int .i64 t3.n, s3, .int .i64 t4.k, .int .i64 t4.i, .int .i64 t4.j, .int .i64 t4.n, s4, .int .i64 t5.k, .int .i64 t5.i, .int .i64 t5.j, .int .i64 t5.n, s5] T fr)) (f0 : t0.fine) (l0 : LiesQ V Q t0.kids s0) (f1 : t1.fine) (l1 : LiesQ V Q t1.kids s1) (f2 : t2.fine) (l2 : LiesQ V Q t2.kids s2) (f3 : t3.fine) (l3 : LiesQ V Q t3.kids s3) (f4 : t4.fine) (l4 : LiesQ V Q t4.kids s4) (f5 : t5.fine) (l5 : LiesQ V Q t5.kids s5) (hQ : Q g) : LiesQ V Q [t0, t1, t2, t3, t4, t5] (.slice (some ⟨g, 0, none⟩) 6 6) :=
  q_row [(t0, s0), (t1, s1), (t2, s2), (t3, s3), (t4, s4), (t5, s5)] _ rfl h hQ (List.forall_mem_cons.2 ⟨⟨f0, l0⟩, (List.forall_mem_cons.2 ⟨⟨f1, l1⟩, (List.forall_mem_cons.2 ⟨⟨f2, l2⟩, (List.forall_mem_cons.2 ⟨⟨f3, l3⟩, (List.forall_mem_cons.2 ⟨⟨f4, l4⟩, (List.forall_mem_cons.2 ⟨⟨f5, l5⟩, (fun _ h => nomatch h)⟩)⟩)⟩)⟩)⟩)⟩) (Nat.le_of_ble_eq_true rfl)
end Go.Proofs.Ytkdceahmknhojaa

namespace Go.Proofs.Ytkdceahmknhojaa
open Go.RowKit

theorem cells5_from {w : World} {Q : Nat → Prop} {l : List Tm} {S : Nat → Value} {b o : Nat} (ps : List (Tm × Value)) (hpl : ps.length = l.length) (hpg : ∀ i (h : i < l.length) (h' : i < ps.length), ps[i] = (l[i], S i))
    (hn : ∀ i (h : i < l.length), ∃ b' o', some (⟨b, o, none⟩ : Addr) = some ⟨b', o', none⟩ ∧ Q b' ∧ Node w b' (o' + i * 5) l[i] (S i)) : ∀ j u, (cells5 ps)[j]? = some u → w.cell? ((⟨b, o, none⟩ : Addr).add j) = some u := by
  intro j u hu
  have hj : j < (cells5 ps).length := (List.getElem?_eq_some_iff.1 hu).1
  rw [cells5_length] at hj
  have hi : j / 5 < ps.length := by omega
  have hq : j % 5 < 5 := Nat.mod_lt _ (by decide)
  have e := cells5_get ps (j / 5) hi (j % 5) hq
  rw [show j / 5 * 5 + j % 5 = j by omega, hu] at e
  obtain ⟨b', o', h1, -, h2⟩ := hn (j / 5) (by omega)
  cases h1
  rw [hpg (j / 5) (by omega) hi] at e
  have ea : (⟨b, o, none⟩ : Addr).add j = ⟨b, o + j / 5 * 5 + j % 5, none⟩ := by
    rw [Addr.add_lit]
    congr 1
    omega
  rw [ea, e]
  generalize j % 5 = q at hq
  match q, hq with
  | 0, _ => exact h2.c0
  | 1, _ => exact h2.c1
  | 2, _ => exact h2.c2
  | 3, _ => exact h2.c3
  | 4, _ => exact h2.c4

theorem cells5_one : ∀ (ps : List (Tm × Value)), (∀ p ∈ ps, p.2.oneCell' = true) → ∀ u ∈ cells5 ps, u.oneCell' = true
  | [], _, u, hu => by cases hu
  | (t, s) :: r, h, u, hu => by
    simp only [cells5, List.mem_cons] at hu
    rcases hu with rfl | rfl | rfl | rfl | rfl | hu
    · rfl
    · rfl
    · rfl
    · rfl
    · exact h (t, u) (by simp)
    · exact cells5_one r (fun p hp => h p (List.mem_cons_of_mem _ hp)) u hu

theorem run_append_list {w : World} {Q : Nat → Prop} (ty : TypeId) (l1 l2 : List Tm) (s1 s2 : Value) (h1 : LiesQ w Q l1 s1) (h2 : LiesQ w Q l2 s2) (hs : ∃ a, s1 = .slice a l1.length l1.length) (hl1 : 0 < l1.length) (hm : l1.length + l2.length ≤ 1000000) :
    ∃ s' w', (Builtin.append_ #[30, 30] ty #[s1, s2]).run Try.prog w = .ok s' w' ∧ LiesQ w' (fun b => Q b ∨ w.heap.size ≤ b) (l1 ++ l2) s' ∧ Kept w w' := by
  obtain ⟨a1, cap1, S1, rfl, hc1, hx1, hf1, hn1, hk1⟩ := h1.out
  obtain ⟨a, e⟩ := hs
  injection e with e1 e2 e3
  subst e1 e3
  obtain ⟨a2, cap2, S2, rfl, hc2, hx2, hf2, hn2, hk2⟩ := h2.out
  obtain ⟨i0, hi, hz0, hz1, hz2⟩ := info_parts info_term
  have ht : Try.prog.underlying 30 = some (.slice 32) := by kernel_rfl
  by_cases hl : l2 = []
  · subst hl
    have src : Src Try.prog i0.size 30 (.slice a2 ([] : List Tm).length cap2) 0 [] w := by
      cases a2 with
      | none => exact Src.ofNil w ht cap2
      | some ad => exact Src.ofSlice w ht ad 0 cap2 [] (by simp) (by simp) (by simp)
    refine ⟨_, w, run_append_nothing w _ _ ty _ i0 ht hi _ _ _ hc1 _ src, ?_, kept_refl w⟩
    rw [List.append_nil]
    exact h1.wide (fun _ h => Or.inl h)
  · have hpos : 0 < l2.length := List.length_pos_iff.2 hl
    obtain ⟨b2, o2, rfl, -⟩ := hn2 0 hpos
    obtain ⟨b1, o1, rfl, -⟩ := hn1 0 hl1
    obtain ⟨ps1, q1a, q1b, q1c⟩ := pairs_of l1 S1
    obtain ⟨ps2, q2a, q2b, q2c⟩ := pairs_of l2 S2
    have one2 : ∀ u ∈ cells5 ps2, u.oneCell' = true := cells5_one ps2 (fun p hp => by
      obtain ⟨j, hj, rfl⟩ := List.getElem_of_mem hp
      rw [q2c j (by omega) hj]
      obtain ⟨a', c', S', e', -⟩ := (hk2 j (by omega)).out
      show (S2 j).oneCell' = true
      rw [e']; rfl)
    obtain ⟨v', w', hr, hown, hg⟩ := run_append_arg_grows (P := Try.prog) w 30 ty 32 i0 _ 5 56 ht hi hz0 hz1 hz2 rfl (by decide) ⟨b1, o1, none⟩ l1.length l1.length (cells5 ps1) (by rw [cells5_length, q1b]) (cells5_from ps1 q1b q1c hn1) ⟨b2, o2, none⟩ l2.length cap2 (cells5 ps2) (by rw [cells5_length, q2b]) (cells5_from ps2 q2b q2c hn2) (by omega) (by unfold maxLen; omega) (by omega)
    have hk : Kept w w' := Below.grown (kept_refl w) hg (Nat.le_refl _) (fun g h => by cases h)
    refine ⟨v', w', hr, ?_, hk⟩
    rw [← cells5_append, show l1.length + l2.length = (ps1 ++ ps2).length by simp [q1b, q2b]] at hown
    have kid : ∀ p ∈ ps1 ++ ps2, p.1.fine ∧ LiesQ w' (fun b => Q b ∨ w.heap.size ≤ b) p.1.kids p.2 := fun p hp => by
      rcases List.mem_append.1 hp with hp | hp
      · obtain ⟨j, hj, rfl⟩ := List.getElem_of_mem hp
        rw [q1c j (by omega) hj]
        exact ⟨hf1 _ (List.getElem_mem (by omega)), ((hk1 j (by omega)).later hk).wide (fun _ h => Or.inl h)⟩
      · obtain ⟨j, hj, rfl⟩ := List.getElem_of_mem hp
        rw [q2c j (by omega) hj]
        exact ⟨hf2 _ (List.getElem_mem (by omega)), ((hk2 j (by omega)).later hk).wide (fun _ h => Or.inl h)⟩
    have := owns_lies hown (Q := fun b => Q b ∨ w.heap.size ≤ b) (fun g hg _ => Or.inr hg) kid
    rw [List.map_append, q1a, q2a] at this
    exact this

theorem wp_append_list {o : Oper} {a : Act} {w : World} {K : Act → World → Prop} {E : Exit → Act → World → Prop} {Q : Nat → Prop} (s x : Operand)
    (ho : o.op = .call { callee := .builtin .append, args := #[s, x], argTypes := #[30, 30] }) (l1 l2 : List Tm) (s1 s2 : Value) (hs : a.eval s = s1) (hx : a.eval x = s2)
    (h1 : LiesQ w Q l1 s1) (h2 : LiesQ w Q l2 s2) (hc : ∃ a, s1 = .slice a l1.length l1.length) (hl1 : 0 < l1.length) (hm : l1.length + l2.length ≤ 1000000)
    (h : ∀ s' w', LiesQ w' (fun b => Q b ∨ w.heap.size ≤ b) (l1 ++ l2) s' → Kept w w' → K (a.put o.dst s') w') : o.wp Try.prog a w K E := by
  obtain ⟨s', w', hr, h3, h4⟩ := run_append_list o.type l1 l2 s1 s2 h1 h2 hc hl1 hm
  unfold Oper.wp execOp
  simp only [ho, resolve, invoke, builtin, Sem.run_bind, Sem.run_pure, Result.andThen_ok, List.map_toArray, List.map_cons, List.map_nil, hs, hx, hr]
  exact h s' w' h3 h4
theorem step_append_list {ops : Array Oper} {o : Oper} {a : Act} {w : World} {K : Act → World → Prop} {E : Exit → Act → World → Prop} {F : Prop} {Q : Nat → Prop} (hgd : o.guard = none) (s x : Operand)
    (ho : o.op = .call { callee := .builtin .append, args := #[s, x], argTypes := #[30, 30] }) (l1 l2 : List Tm) (s1 s2 : Value) (hs : a.eval s = s1) (hx : a.eval x = s2)
    (h1 : LiesQ w Q l1 s1) (h2 : LiesQ w Q l2 s2) (hc : ∃ a, s1 = .slice a l1.length l1.length) (hl1 : 0 < l1.length) (hm : l1.length + l2.length ≤ 1000000)
    (h : ∀ s' w', LiesQ w' (fun b => Q b ∨ w.heap.size ≤ b) (l1 ++ l2) s' → Kept w w' → K (a.put o.dst s') w') : if Region.wanted o (yielded ops a.tmps) = true then Oper.wp Try.prog o a w K E else F := by
  have hw : Region.wanted o (yielded ops a.tmps) = true := by simp [Region.wanted, hgd]
  rw [if_pos hw]
  exact wp_append_list s x ho l1 l2 s1 s2 hs hx h1 h2 hc hl1 hm h
end Go.Proofs.Ytkdceahmknhojaa

namespace Go.Proofs.Ytkdceahmknhojaa
open Go.RowKit
theorem via_joinCC {J K : World → Nat → Nat → Prop} {A : Prop} (h1 : (∀ x0 x1 x2, K x0 x1 x2 → J x0 x1 x2) → A) (h2 : ∀ x0 x1 x2, K x0 x1 x2 → J x0 x1 x2) : A := h1 h2
theorem via_joinCCC {J K : World → Nat → Nat → Nat → Prop} {A : Prop} (h1 : (∀ x0 x1 x2 x3, K x0 x1 x2 x3 → J x0 x1 x2 x3) → A) (h2 : ∀ x0 x1 x2 x3, K x0 x1 x2 x3 → J x0 x1 x2 x3) : A := h1 h2
theorem via_joinCCCC {J K : World → Nat → Nat → Nat → Nat → Prop} {A : Prop} (h1 : (∀ x0 x1 x2 x3 x4, K x0 x1 x2 x3 x4 → J x0 x1 x2 x3 x4) → A) (h2 : ∀ x0 x1 x2 x3 x4, K x0 x1 x2 x3 x4 → J x0 x1 x2 x3 x4) : A := h1 h2
theorem via_joinCCCCC {J K : World → Nat → Nat → Nat → Nat → Nat → Prop} {A : Prop} (h1 : (∀ x0 x1 x2 x3 x4 x5, K x0 x1 x2 x3 x4 x5 → J x0 x1 x2 x3 x4 x5) → A) (h2 : ∀ x0 x1 x2 x3 x4 x5, K x0 x1 x2 x3 x4 x5 → J x0 x1 x2 x3 x4 x5) : A := h1 h2
theorem via_joinCTACC {J K : World → Nat → Tm → Option Addr → Nat → Nat → Prop} {A : Prop} (h1 : (∀ x0 x1 x2 x3 x4 x5, K x0 x1 x2 x3 x4 x5 → J x0 x1 x2 x3 x4 x5) → A) (h2 : ∀ x0 x1 x2 x3 x4 x5, K x0 x1 x2 x3 x4 x5 → J x0 x1 x2 x3 x4 x5) : A := h1 h2
theorem via_joinCTACCC {J K : World → Nat → Tm → Option Addr → Nat → Nat → Nat → Prop} {A : Prop} (h1 : (∀ x0 x1 x2 x3 x4 x5 x6, K x0 x1 x2 x3 x4 x5 x6 → J x0 x1 x2 x3 x4 x5 x6) → A) (h2 : ∀ x0 x1 x2 x3 x4 x5 x6, K x0 x1 x2 x3 x4 x5 x6 → J x0 x1 x2 x3 x4 x5 x6) : A := h1 h2
theorem via_joinCTACCCC {J K : World → Nat → Tm → Option Addr → Nat → Nat → Nat → Nat → Prop} {A : Prop} (h1 : (∀ x0 x1 x2 x3 x4 x5 x6 x7, K x0 x1 x2 x3 x4 x5 x6 x7 → J x0 x1 x2 x3 x4 x5 x6 x7) → A) (h2 : ∀ x0 x1 x2 x3 x4 x5 x6 x7, K x0 x1 x2 x3 x4 x5 x6 x7 → J x0 x1 x2 x3 x4 x5 x6 x7) : A := h1 h2
theorem via_joinCTACCCCC {J K : World → Nat → Tm → Option Addr → Nat → Nat → Nat → Nat → Nat → Prop} {A : Prop} (h1 : (∀ x0 x1 x2 x3 x4 x5 x6 x7 x8, K x0 x1 x2 x3 x4 x5 x6 x7 x8 → J x0 x1 x2 x3 x4 x5 x6 x7 x8) → A) (h2 : ∀ x0 x1 x2 x3 x4 x5 x6 x7 x8, K x0 x1 x2 x3 x4 x5 x6 x7 x8 → J x0 x1 x2 x3 x4 x5 x6 x7 x8) : A := h1 h2
theorem via_joinCTACCTACC {J K : World → Nat → Tm → Option Addr → Nat → Nat → Tm → Option Addr → Nat → Nat → Prop} {A : Prop} (h1 : (∀ x0 x1 x2 x3 x4 x5 x6 x7 x8 x9, K x0 x1 x2 x3 x4 x5 x6 x7 x8 x9 → J x0 x1 x2 x3 x4 x5 x6 x7 x8 x9) → A) (h2 : ∀ x0 x1 x2 x3 x4 x5 x6 x7 x8 x9, K x0 x1 x2 x3 x4 x5 x6 x7 x8 x9 → J x0 x1 x2 x3 x4 x5 x6 x7 x8 x9) : A := h1 h2
theorem via_joinCTACCTACCC {J K : World → Nat → Tm → Option Addr → Nat → Nat → Tm → Option Addr → Nat → Nat → Nat → Prop} {A : Prop} (h1 : (∀ x0 x1 x2 x3 x4 x5 x6 x7 x8 x9 x10, K x0 x1 x2 x3 x4 x5 x6 x7 x8 x9 x10 → J x0 x1 x2 x3 x4 x5 x6 x7 x8 x9 x10) → A) (h2 : ∀ x0 x1 x2 x3 x4 x5 x6 x7 x8 x9 x10, K x0 x1 x2 x3 x4 x5 x6 x7 x8 x9 x10 → J x0 x1 x2 x3 x4 x5 x6 x7 x8 x9 x10) : A := h1 h2
theorem via_joinCTACCTACCCC {J K : World → Nat → Tm → Option Addr → Nat → Nat → Tm → Option Addr → Nat → Nat → Nat → Nat → Prop} {A : Prop} (h1 : (∀ x0 x1 x2 x3 x4 x5 x6 x7 x8 x9 x10 x11, K x0 x1 x2 x3 x4 x5 x6 x7 x8 x9 x10 x11 → J x0 x1 x2 x3 x4 x5 x6 x7 x8 x9 x10 x11) → A) (h2 : ∀ x0 x1 x2 x3 x4 x5 x6 x7 x8 x9 x10 x11, K x0 x1 x2 x3 x4 x5 x6 x7 x8 x9 x10 x11 → J x0 x1 x2 x3 x4 x5 x6 x7 x8 x9 x10 x11) : A := h1 h2
theorem via_joinCTACCTACCTACC {J K : World → Nat → Tm → Option Addr → Nat → Nat → Tm → Option Addr → Nat → Nat → Tm → Option Addr → Nat → Nat → Prop} {A : Prop} (h1 : (∀ x0 x1 x2 x3 x4 x5 x6 x7 x8 x9 x10 x11 x12 x13, K x0 x1 x2 x3 x4 x5 x6 x7 x8 x9 x10 x11 x12 x13 → J x0 x1 x2 x3 x4 x5 x6 x7 x8 x9 x10 x11 x12 x13) → A) (h2 : ∀ x0 x1 x2 x3 x4 x5 x6 x7 x8 x9 x10 x11 x12 x13, K x0 x1 x2 x3 x4 x5 x6 x7 x8 x9 x10 x11 x12 x13 → J x0 x1 x2 x3 x4 x5 x6 x7 x8 x9 x10 x11 x12 x13) : A := h1 h2
theorem via_joinCTACCTACCTACCC {J K : World → Nat → Tm → Option Addr → Nat → Nat → Tm → Option Addr → Nat → Nat → Tm → Option Addr → Nat → Nat → Nat → Prop} {A : Prop} (h1 : (∀ x0 x1 x2 x3 x4 x5 x6 x7 x8 x9 x10 x11 x12 x13 x14, K x0 x1 x2 x3 x4 x5 x6 x7 x8 x9 x10 x11 x12 x13 x14 → J x0 x1 x2 x3 x4 x5 x6 x7 x8 x9 x10 x11 x12 x13 x14) → A) (h2 : ∀ x0 x1 x2 x3 x4 x5 x6 x7 x8 x9 x10 x11 x12 x13 x14, K x0 x1 x2 x3 x4 x5 x6 x7 x8 x9 x10 x11 x12 x13 x14 → J x0 x1 x2 x3 x4 x5 x6 x7 x8 x9 x10 x11 x12 x13 x14) : A := h1 h2
theorem via_joinCTACCTACCTACCTACC {J K : World → Nat → Tm → Option Addr → Nat → Nat → Tm → Option Addr → Nat → Nat → Tm → Option Addr → Nat → Nat → Tm → Option Addr → Nat → Nat → Prop} {A : Prop} (h1 : (∀ x0 x1 x2 x3 x4 x5 x6 x7 x8 x9 x10 x11 x12 x13 x14 x15 x16 x17, K x0 x1 x2 x3 x4 x5 x6 x7 x8 x9 x10 x11 x12 x13 x14 x15 x16 x17 → J x0 x1 x2 x3 x4 x5 x6 x7 x8 x9 x10 x11 x12 x13 x14 x15 x16 x17) → A) (h2 : ∀ x0 x1 x2 x3 x4 x5 x6 x7 x8 x9 x10 x11 x12 x13 x14 x15 x16 x17, K x0 x1 x2 x3 x4 x5 x6 x7 x8 x9 x10 x11 x12 x13 x14 x15 x16 x17 → J x0 x1 x2 x3 x4 x5 x6 x7 x8 x9 x10 x11 x12 x13 x14 x15 x16 x17) : A := h1 h2
theorem via_joinTACC {J K : World → Tm → Option Addr → Nat → Nat → Prop} {A : Prop} (h1 : (∀ x0 x1 x2 x3 x4, K x0 x1 x2 x3 x4 → J x0 x1 x2 x3 x4) → A) (h2 : ∀ x0 x1 x2 x3 x4, K x0 x1 x2 x3 x4 → J x0 x1 x2 x3 x4) : A := h1 h2
theorem via_joinTACCC {J K : World → Tm → Option Addr → Nat → Nat → Nat → Prop} {A : Prop} (h1 : (∀ x0 x1 x2 x3 x4 x5, K x0 x1 x2 x3 x4 x5 → J x0 x1 x2 x3 x4 x5) → A) (h2 : ∀ x0 x1 x2 x3 x4 x5, K x0 x1 x2 x3 x4 x5 → J x0 x1 x2 x3 x4 x5) : A := h1 h2
theorem via_joinTACTACC {J K : World → Tm → Option Addr → Nat → Tm → Option Addr → Nat → Nat → Prop} {A : Prop} (h1 : (∀ x0 x1 x2 x3 x4 x5 x6 x7, K x0 x1 x2 x3 x4 x5 x6 x7 → J x0 x1 x2 x3 x4 x5 x6 x7) → A) (h2 : ∀ x0 x1 x2 x3 x4 x5 x6 x7, K x0 x1 x2 x3 x4 x5 x6 x7 → J x0 x1 x2 x3 x4 x5 x6 x7) : A := h1 h2
theorem via_joinTACTACCC {J K : World → Tm → Option Addr → Nat → Tm → Option Addr → Nat → Nat → Nat → Prop} {A : Prop} (h1 : (∀ x0 x1 x2 x3 x4 x5 x6 x7 x8, K x0 x1 x2 x3 x4 x5 x6 x7 x8 → J x0 x1 x2 x3 x4 x5 x6 x7 x8) → A) (h2 : ∀ x0 x1 x2 x3 x4 x5 x6 x7 x8, K x0 x1 x2 x3 x4 x5 x6 x7 x8 → J x0 x1 x2 x3 x4 x5 x6 x7 x8) : A := h1 h2
theorem via_joinTACTACCTACC {J K : World → Tm → Option Addr → Nat → Tm → Option Addr → Nat → Nat → Tm → Option Addr → Nat → Nat → Prop} {A : Prop} (h1 : (∀ x0 x1 x2 x3 x4 x5 x6 x7 x8 x9 x10 x11, K x0 x1 x2 x3 x4 x5 x6 x7 x8 x9 x10 x11 → J x0 x1 x2 x3 x4 x5 x6 x7 x8 x9 x10 x11) → A) (h2 : ∀ x0 x1 x2 x3 x4 x5 x6 x7 x8 x9 x10 x11, K x0 x1 x2 x3 x4 x5 x6 x7 x8 x9 x10 x11 → J x0 x1 x2 x3 x4 x5 x6 x7 x8 x9 x10 x11) : A := h1 h2
theorem via_joinTACTACTACC {J K : World → Tm → Option Addr → Nat → Tm → Option Addr → Nat → Tm → Option Addr → Nat → Nat → Prop} {A : Prop} (h1 : (∀ x0 x1 x2 x3 x4 x5 x6 x7 x8 x9 x10, K x0 x1 x2 x3 x4 x5 x6 x7 x8 x9 x10 → J x0 x1 x2 x3 x4 x5 x6 x7 x8 x9 x10) → A) (h2 : ∀ x0 x1 x2 x3 x4 x5 x6 x7 x8 x9 x10, K x0 x1 x2 x3 x4 x5 x6 x7 x8 x9 x10 → J x0 x1 x2 x3 x4 x5 x6 x7 x8 x9 x10) : A := h1 h2
theorem via_joinTACTACTACHACACACACACC {J K : World → Tm → Option Addr → Nat → Tm → Option Addr → Nat → Tm → Option Addr → Nat → He → Option Addr → Nat → Option Addr → Nat → Option Addr → Nat → Option Addr → Nat → Option Addr → Nat → Nat → Prop} {A : Prop} (h1 : (∀ x0 x1 x2 x3 x4 x5 x6 x7 x8 x9 x10 x11 x12 x13 x14 x15 x16 x17 x18 x19 x20 x21, K x0 x1 x2 x3 x4 x5 x6 x7 x8 x9 x10 x11 x12 x13 x14 x15 x16 x17 x18 x19 x20 x21 → J x0 x1 x2 x3 x4 x5 x6 x7 x8 x9 x10 x11 x12 x13 x14 x15 x16 x17 x18 x19 x20 x21) → A) (h2 : ∀ x0 x1 x2 x3 x4 x5 x6 x7 x8 x9 x10 x11 x12 x13 x14 x15 x16 x17 x18 x19 x20 x21, K x0 x1 x2 x3 x4 x5 x6 x7 x8 x9 x10 x11 x12 x13 x14 x15 x16 x17 x18 x19 x20 x21 → J x0 x1 x2 x3 x4 x5 x6 x7 x8 x9 x10 x11 x12 x13 x14 x15 x16 x17 x18 x19 x20 x21) : A := h1 h2
end Go.Proofs.Ytkdceahmknhojaa

namespace Go.Proofs.Ytkdceahmknhojaa
open Go

section
variable {P : Program} {ops : Array Oper} {Q : Exit → Act → World → Prop} {md : Region.Mode} {S : World → Prop} {k0 : Nat}

def wpAnyX (P : Program) (md : Region.Mode) (ops : Array Oper) (Q : Exit → Act → World → Prop) (S : World → Prop) (k0 : Nat) : Nat → Array Bool → Act → World → Prop
  | 0, listed, a, w => Region.ready md ops listed = [] ∧ Q .normal a w
  | fuel + 1, listed, a, w =>
    (Region.ready md ops listed = [] → Q .normal a w) ∧
    ∀ i ∈ Region.ready md ops listed, wpOp P ops Q i (fun a' w' => ((listed.setIfInBounds i true).getD k0 true = false → S w') ∧ wpAnyX P md ops Q S k0 fuel (listed.setIfInBounds i true) a' w') a w

theorem wpAny_of_X : ∀ (fuel : Nat) (listed : Array Bool) (a : Act) (w : World), wpAnyX P md ops Q S k0 fuel listed a w → wpAny P md ops Q fuel listed a w
  | 0, _, _, _, h => h
  | fuel + 1, _, _, _, h => ⟨h.1, fun i hi => wpOp_mono (fun a' w' h' => wpAny_of_X fuel _ a' w' h'.2) (h.2 i hi)⟩

theorem getD_set_ne' {l : Array Bool} {i k : Nat} (h : i ≠ k) : (l.setIfInBounds i true).getD k true = l.getD k true := getD_set_ne true h

theorem wpAnyX_first {i : Nat} {oi : Oper} {v : Value} (hi : ops[i]? = some oi) (hsel : ∀ (j : Nat) (o : Oper) cs b, ops[j]? = some o → o.op ≠ .select cs b)
    (hQ : ∀ c a w, Q (.panic c) (a.put oi.dst v) w → Q (.panic c) a w) (hki : i ≠ k0)
    (hwait : ∃ ok, ops[k0]? = some ok ∧ ∃ e ∈ ok.after, Region.binds md e = true ∧ e.on = i) :
    ∀ (fuel : Nat) (listed : Array Bool) (a : Act) (w : World),
      (∀ j oj, ops[j]? = some oj → j ≠ i → listed.getD j true = false → (∀ e ∈ oj.after, Region.binds md e = true → e.on ≠ i) → oi.apart ops oj = true) →
      i ∈ Region.ready md ops listed → listed.getD k0 true = false → YieldsIf P ops S oi v a → S w →
      wpAnyX P md ops Q S k0 fuel (listed.setIfInBounds i true) (a.put oi.dst v) w → wpAnyX P md ops Q S k0 (fuel + 1) listed a w := by
  intro fuel
  induction fuel with
  | zero =>
    intro listed a w _ hr _ hy hS H
    refine ⟨fun h => (by rw [h] at hr; cases hr), fun j hj => ?_⟩
    by_cases hji : j = i
    · subst hji; exact hy.wpOp hi hS ⟨fun _ => hS, H⟩
    · have := ready_mono hj hji
      rw [H.1] at this
      cases this
  | succ fuel ih =>
    intro listed a w hfree hr hun0 hy hS H
    refine ⟨fun h => (by rw [h] at hr; cases hr), fun j hj => ?_⟩
    by_cases hji : j = i
    · subst hji; exact hy.wpOp hi hS ⟨fun _ => hS, H⟩
    · have h1 := H.2 j (ready_mono hj hji)
      obtain ⟨hjun, oj, hoj, hall⟩ := mem_ready.1 hj
      have hnot : ∀ e ∈ oj.after, Region.binds md e = true → e.on ≠ i := fun e he hb heq => by
        have h1 := hall e he hb
        have h0 := (mem_ready.1 hr).1
        rw [heq] at h1
        rcases Nat.lt_or_ge i listed.size with h' | h'
        · simp [h'] at h0 h1; rw [h0] at h1; cases h1
        · simp [Array.getElem?_eq_none h'] at h1
      have hjk : j ≠ k0 := fun e => by
        obtain ⟨ok, hok, e', he', hb', hon⟩ := hwait
        rw [e, hok] at hoj
        exact hnot e' (by rw [← Option.some.inj hoj]; exact he') hb' hon
      have h2 := wpOp_putIf hoj (hfree j oj hoj hji hjun hnot) (fun cs b => hsel i oi cs b hi) (fun cs b => hsel j oj cs b hoj) hQ hy h1
      have hfree' : ∀ k ok, ops[k]? = some ok → k ≠ i → (listed.setIfInBounds j true).getD k true = false →
          (∀ e ∈ ok.after, Region.binds md e = true → e.on ≠ i) → oi.apart ops ok = true := fun k ok hk hki hun hno => by
        refine hfree k ok hk hki ?_ hno
        by_cases hjk : j = k
        · subst hjk; exact hjun
        · rw [getD_set_ne true hjk] at hun; exact hun
      have hun' : (listed.setIfInBounds j true).getD k0 true = false := by rw [getD_set_ne' hjk]; exact hun0
      have hun2 : ((listed.setIfInBounds i true).setIfInBounds j true).getD k0 true = false := by rw [getD_set_ne' hjk, getD_set_ne' hki]; exact hun0
      refine wpOp_mono (fun a' w' h3 => ⟨fun _ => h3.2.1 hun2, ih (listed.setIfInBounds j true) a' w' hfree' (ready_mono hr (Ne.symm hji)) hun' h3.1 (h3.2.1 hun2) ?_⟩) h2
      rw [Array.setIfInBounds_comm _ _ hji]
      exact h3.2.2

/-- What yields in whatever world may be taken at any time. -/
theorem wpAnyX_any {i : Nat} {oi : Oper} {v : Value} (hi : ops[i]? = some oi) (hsel : ∀ (j : Nat) (o : Oper) cs b, ops[j]? = some o → o.op ≠ .select cs b)
    (hQ : ∀ c a w, Q (.panic c) (a.put oi.dst v) w → Q (.panic c) a w) (hki : i ≠ k0) :
    ∀ (fuel : Nat) (listed : Array Bool) (a : Act) (w : World),
      (∀ j oj, ops[j]? = some oj → j ≠ i → listed.getD j true = false → (∀ e ∈ oj.after, Region.binds md e = true → e.on ≠ i) → oi.apart ops oj = true) →
      i ∈ Region.ready md ops listed → YieldsIf P ops (fun _ => True) oi v a → (listed.getD k0 true = false → S w) →
      wpAnyX P md ops Q S k0 fuel (listed.setIfInBounds i true) (a.put oi.dst v) w → wpAnyX P md ops Q S k0 (fuel + 1) listed a w := by
  intro fuel
  induction fuel with
  | zero =>
    intro listed a w _ hr hy hS H
    refine ⟨fun h => (by rw [h] at hr; cases hr), fun j hj => ?_⟩
    by_cases hji : j = i
    · subst hji; exact hy.wpOp hi trivial ⟨fun h => hS (by rw [getD_set_ne' hki] at h; exact h), H⟩
    · have := ready_mono hj hji
      rw [H.1] at this
      cases this
  | succ fuel ih =>
    intro listed a w hfree hr hy hS H
    refine ⟨fun h => (by rw [h] at hr; cases hr), fun j hj => ?_⟩
    by_cases hji : j = i
    · subst hji; exact hy.wpOp hi trivial ⟨fun h => hS (by rw [getD_set_ne' hki] at h; exact h), H⟩
    · have h1 := H.2 j (ready_mono hj hji)
      obtain ⟨hjun, oj, hoj, hall⟩ := mem_ready.1 hj
      have hnot : ∀ e ∈ oj.after, Region.binds md e = true → e.on ≠ i := fun e he hb heq => by
        have h1 := hall e he hb
        have h0 := (mem_ready.1 hr).1
        rw [heq] at h1
        rcases Nat.lt_or_ge i listed.size with h' | h'
        · simp [h'] at h0 h1; rw [h0] at h1; cases h1
        · simp [Array.getElem?_eq_none h'] at h1
      have h2 := wpOp_putIf hoj (hfree j oj hoj hji hjun hnot) (fun cs b => hsel i oi cs b hi) (fun cs b => hsel j oj cs b hoj) hQ hy h1
      have hfree' : ∀ k ok, ops[k]? = some ok → k ≠ i → (listed.setIfInBounds j true).getD k true = false →
          (∀ e ∈ ok.after, Region.binds md e = true → e.on ≠ i) → oi.apart ops ok = true := fun k ok hk hki hun hno => by
        refine hfree k ok hk hki ?_ hno
        by_cases hjk : j = k
        · subst hjk; exact hjun
        · rw [getD_set_ne true hjk] at hun; exact hun
      have hcomm : (listed.setIfInBounds i true).setIfInBounds j true = (listed.setIfInBounds j true).setIfInBounds i true := Array.setIfInBounds_comm _ _ (Ne.symm hji)
      have hget : ((listed.setIfInBounds i true).setIfInBounds j true).getD k0 true = (listed.setIfInBounds j true).getD k0 true := by rw [hcomm, getD_set_ne' hki]
      refine wpOp_mono (fun a' w' h3 => ⟨fun h => h3.2.1 (by rw [hget]; exact h), ih (listed.setIfInBounds j true) a' w' hfree' (ready_mono hr (Ne.symm hji)) h3.1 (fun h => h3.2.1 (by rw [hget]; exact h)) ?_⟩) h2
      rw [Array.setIfInBounds_comm _ _ hji]
      exact h3.2.2

theorem takeX_at (i d : Nat) (oi : Oper) {v : Value} {fuel : Nat} {listed : Array Bool} {a : Act} {w : World} (hy : YieldsIf P ops S oi v a)
    (h : wpAnyX P md ops Q S k0 fuel (listed.setIfInBounds i true) (a.put (some d) v) w)
    (hi : ops[i]? = some oi := by rfl) (hd : oi.dst = some d := by rfl)
    (hs : Region.noSelect ops = true := by kernel_rfl) (hf : Region.free md ops listed i = true := by kernel_rfl) (hr : (Region.ready md ops listed).contains i = true := by kernel_rfl)
    (hw : (ops[k0]?.map fun o => o.after.any fun e => Region.binds md e && e.on == i) = some true := by kernel_rfl) (hne : (i != k0) = true := by kernel_rfl) (hun : listed.getD k0 true = false := by kernel_rfl)
    (hQ : ∀ c a w, Q (.panic c) (a.put (some d) v) w → Q (.panic c) a w := by exact fun _ _ _ h => h) (hS : S w := by assumption) : wpAnyX P md ops Q S k0 (fuel + 1) listed a w := by
  rw [← hd] at hQ h
  refine wpAnyX_first hi (Region.noSelect_spec hs) hQ (by simpa using hne) ?_ fuel listed a w (Region.free_spec hi hf) (by simpa using hr) hun hy hS h
  obtain ⟨ok, hok, h2⟩ := Option.map_eq_some_iff.1 hw
  obtain ⟨e, he, h3⟩ := Array.any_eq_true'.1 h2
  simp only [Bool.and_eq_true, beq_iff_eq] at h3
  exact ⟨ok, hok, e, he, h3.1, h3.2⟩
theorem takeX_any (i d : Nat) (oi : Oper) {v : Value} {fuel : Nat} {listed : Array Bool} {a : Act} {w : World} (hy : YieldsIf P ops (fun _ => True) oi v a)
    (h : wpAnyX P md ops Q S k0 fuel (listed.setIfInBounds i true) (a.put (some d) v) w) (hS : listed.getD k0 true = false → S w)
    (hi : ops[i]? = some oi := by rfl) (hd : oi.dst = some d := by rfl)
    (hs : Region.noSelect ops = true := by kernel_rfl) (hf : Region.free md ops listed i = true := by kernel_rfl) (hr : (Region.ready md ops listed).contains i = true := by kernel_rfl) (hne : (i != k0) = true := by kernel_rfl)
    (hQ : ∀ c a w, Q (.panic c) (a.put (some d) v) w → Q (.panic c) a w := by exact fun _ _ _ h => h) : wpAnyX P md ops Q S k0 (fuel + 1) listed a w := by
  rw [← hd] at hQ h
  exact wpAnyX_any hi (Region.noSelect_spec hs) hQ (by simpa using hne) fuel listed a w (Region.free_spec hi hf) (by simpa using hr) hy hS h

def AllReadyX (P : Program) (md : Region.Mode) (ops : Array Oper) (Q : Exit → Act → World → Prop) (S : World → Prop) (k0 : Nat) (fuel : Nat) (listed : Array Bool) (a : Act) (w : World) (rs : List Nat) : Prop :=
  ∀ i ∈ rs, wpOp P ops Q i (fun a' w' => ((listed.setIfInBounds i true).getD k0 true = false → S w') ∧ wpAnyX P md ops Q S k0 fuel (listed.setIfInBounds i true) a' w') a w
theorem AllReadyX.nil {fuel : Nat} {listed : Array Bool} {a : Act} {w : World} : AllReadyX P md ops Q S k0 fuel listed a w [] := fun _ h => by cases h
theorem AllReadyX.cons {fuel : Nat} {listed : Array Bool} {a : Act} {w : World} {i : Nat} {o : Oper} {rs : List Nat} (ho : ops[i]? = some o)
    (h : ∀ K' : Act → World → Prop, Shut (∀ a w, ((listed.setIfInBounds i true).getD k0 true = false → S w) → (((listed.setIfInBounds i true).getD k0 true = false → S w) → wpAnyX P md ops Q S k0 fuel (listed.setIfInBounds i true) a w) → K' a w) → if Region.wanted o (yielded ops a.tmps) = true then Oper.wp P o a w K' Q else K' (a.put o.dst undef) w)
    (hs : AllReadyX P md ops Q S k0 fuel listed a w rs) : AllReadyX P md ops Q S k0 fuel listed a w (i :: rs) := fun j hj => by
  rcases List.mem_cons.1 hj with rfl | hj
  · exact wpOp_step ho (fun K' hK => h K' (fun a w hS hW => hK a w ⟨hS, hW hS⟩))
  · exact hs j hj
theorem wpAnyX_ready {rs : List Nat} {fuel : Nat} {listed : Array Bool} {a : Act} {w : World} (hr : Region.ready md ops listed = rs) (hne : rs ≠ [])
    (h : AllReadyX P md ops Q S k0 fuel listed a w rs) : wpAnyX P md ops Q S k0 (fuel + 1) listed a w := ⟨fun h0 => absurd (hr ▸ h0) hne, hr ▸ h⟩
theorem wpAnyX_done {listed : Array Bool} {a : Act} {w : World} (hr : Region.ready md ops listed = []) (h : Q .normal a w) :
    ∀ fuel, wpAnyX P md ops Q S k0 fuel listed a w
  | 0 => ⟨hr, h⟩
  | _ + 1 => ⟨fun _ => h, by rw [hr]; simp⟩
theorem wp_region_X {id : Nat} {a : Act} {w : World} (k0 : Nat) (hm : P.follows .mixedOrders = true) (hS : S w.drew)
    (h : S w.drew → wpAnyX P .any ops Q S k0 ops.size (Array.replicate ops.size false) a w.drew) : (Code.region id ops true).wp P Q a w :=
  wp_region_any hm (wpAny_of_X _ _ _ _ (h hS))
end
end Go.Proofs.Ytkdceahmknhojaa
